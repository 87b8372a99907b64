/-
  The law answers true at every input, and leaves its arguments as they were: a part of the proof. CONDITIONS: the package-level tables start as the program's text lays them (the card ties them).
-/
import Derived.Test.YtahfcciihkkegaaGreatDoorZab
set_option linter.unusedVariables false
set_option linter.unusedSimpArgs false
namespace Go.Proofs.YtahfcciihkkegaaGreatDoor
open Go.RowKit
attribute [local irreducible] lo hs sm s64 c64 d64 b64 mh ml pd pc qd qc val hiB str cmpI srD lz nb isq decB
set_option maxHeartbeats 4000000 in
set_option maxRecDepth 100000 in
theorem ofp_any (m : Nat) (hm : m < 9223372036854775808) (w : World) :
  Calls Tryz.prog 91 #[.int .i64 (m : Int)] w fun e w' => e = .returned (zV false m) ∧ Below w.heap.size w w' := by
 have hL0 : GL w w [] := GL.start w
 have k0 : decide ((m : Int) < 0) = false := decide_eq_false (by omega)
 have hw : IntKind.u64.wrap (m : Int) = (m : Int) := wrapN _ (by omega)
 have HO := Lib.hid (fun w => of_any m (by unfold Bs; omega) w)
 have HF := Lib.hid (fun w => from_pos m w)
 replace hL0 := (hL0.new rfl [.int .u64 0, .string ⟨#[]⟩, .bool false] 32)
 generalize hweq : (w.alloc (.cells #[.int .u64 0, .string ⟨#[]⟩, .bool false] 32)) = x1 at hL0
 clear hm
 go_enter Tryz.func91, Tryz.ntmps91
 have hA := hL0.fc
 simp only [fcG, cellsF, neK, and_true, ne_eq, Nat.zero_add, Nat.reduceAdd] at hA
 go_wp2_with fail
 clear hA
 with_reducible refine Calls.mono (HO.out _) ?_
 rintro e x2 ⟨rfl, hb⟩
 replace hL0 := hL0.call hb
 clear hb hweq
 have hA := hL0.fc
 simp only [fcG, cellsF, neK, and_true, ne_eq, Nat.zero_add, Nat.reduceAdd] at hA
 go_wp2_with fail
 clear hA
 with_reducible refine Calls.mono (HF.out _) ?_
 rintro e x3 ⟨rfl, hb⟩
 replace hL0 := hL0.call hb
 clear hb
 have hA := hL0.fc
 simp only [fcG, cellsF, neK, and_true, ne_eq, Nat.zero_add, Nat.reduceAdd] at hA
 have hP := hL0.put 0 (w.heap.size) _ rfl [.int .u64 ((lo m : Nat) : Int), .string (hs m), .bool false] rfl
 simp only [setAll, List.set_cons_zero, List.set_cons_succ] at hP
 generalize hput1 : (((x3.setCell ⟨w.heap.size, 0, none⟩ (.int .u64 ((lo m : Nat) : Int))).setCell ⟨w.heap.size, 1, none⟩ (.string (hs m))).setCell ⟨w.heap.size, 2, none⟩ (.bool false)) = x4 at hP
 have hB1 := hP.fc
 simp only [fcG, cellsF, neK, and_true, ne_eq, Nat.zero_add, Nat.reduceAdd] at hB1
 replace hL0 := hP
 go_wp2_with fail
 exact bodyPost_ret (v := zV false m) (by simp [results, Tryz.results91, go_sem, hB1]) rfl ⟨rfl, hL0.bl⟩
set_option maxHeartbeats 4000000 in
set_option maxRecDepth 100000 in
theorem ofn_any (z : Int) (m : Nat) (hz : z = -(m : Int)) (h0 : 0 < m) (hm : m ≤ 9223372036854775808) (w : World) :
  Calls Tryz.prog 91 #[.int .i64 z] w fun e w' => e = .returned (zV true m) ∧ Below w.heap.size w w' := by
 have hL0 : GL w w [] := GL.start w
 have k0 : decide (z < 0) = true := decide_eq_true (by omega)
 obtain ⟨q, hq⟩ : ∃ q : Nat, (q : Int) = 18446744073709551616 - m := ⟨(18446744073709551616 - (m : Int)).toNat, by omega⟩
 have hw : IntKind.u64.wrap z = (q : Int) := by rw [IntKind.wrap_u64]; omega
 have hw2 : IntKind.u64.wrap (-(q : Int)) = (m : Int) := by rw [IntKind.wrap_u64]; omega
 have HO := Lib.hid (fun w => of_any m (by unfold Bs; omega) w)
 have HF := Lib.hid (fun w => from_neg m (by omega) w)
 replace hL0 := (hL0.new rfl [.int .u64 0, .string ⟨#[]⟩, .bool false] 32)
 generalize hweq : (w.alloc (.cells #[.int .u64 0, .string ⟨#[]⟩, .bool false] 32)) = x1 at hL0
 clear hm h0 hz hq
 go_enter Tryz.func91, Tryz.ntmps91
 have hA := hL0.fc
 simp only [fcG, cellsF, neK, and_true, ne_eq, Nat.zero_add, Nat.reduceAdd] at hA
 go_wp2_with fail
 clear hA
 with_reducible refine Calls.mono (HO.out _) ?_
 rintro e x2 ⟨rfl, hb⟩
 replace hL0 := hL0.call hb
 clear hb hweq
 have hA := hL0.fc
 simp only [fcG, cellsF, neK, and_true, ne_eq, Nat.zero_add, Nat.reduceAdd] at hA
 go_wp2_with fail
 clear hA
 with_reducible refine Calls.mono (HF.out _) ?_
 rintro e x3 ⟨rfl, hb⟩
 replace hL0 := hL0.call hb
 clear hb
 have hA := hL0.fc
 simp only [fcG, cellsF, neK, and_true, ne_eq, Nat.zero_add, Nat.reduceAdd] at hA
 have hP := hL0.put 0 (w.heap.size) _ rfl [.int .u64 ((lo m : Nat) : Int), .string (hs m), .bool true] rfl
 simp only [setAll, List.set_cons_zero, List.set_cons_succ] at hP
 generalize hput1 : (((x3.setCell ⟨w.heap.size, 0, none⟩ (.int .u64 ((lo m : Nat) : Int))).setCell ⟨w.heap.size, 1, none⟩ (.string (hs m))).setCell ⟨w.heap.size, 2, none⟩ (.bool true)) = x4 at hP
 have hB1 := hP.fc
 simp only [fcG, cellsF, neK, and_true, ne_eq, Nat.zero_add, Nat.reduceAdd] at hB1
 replace hL0 := hP
 go_wp2_with fail
 exact bodyPost_ret (v := zV true m) (by simp [results, Tryz.results91, go_sem, hB1]) rfl ⟨rfl, hL0.bl⟩
set_option maxHeartbeats 4000000 in
set_option maxRecDepth 100000 in
theorem icmp_true_true (m n : Nat) (w : World) :
  Calls Tryz.prog 84 #[zV true m, zV true n] w fun e w' => e = .returned (.int .i64 (cmpI n m)) ∧ Below w.heap.size w w' := by
 have hL0 : GL w w [] := GL.start w
 replace hL0 := ((hL0.new rfl [.int .u64 ((lo m : Nat) : Int), .string (hs m), .bool true] 32).new (K := w.heap.size + 1) (szA _ _) [.int .u64 ((lo n : Nat) : Int), .string (hs n), .bool true] 32)
 generalize hweq : ((w.alloc (.cells #[.int .u64 ((lo m : Nat) : Int), .string (hs m), .bool true] 32)).alloc (.cells #[.int .u64 ((lo n : Nat) : Int), .string (hs n), .bool true] 32)) = x1 at hL0
 have HC := Lib.hid (fun w => cmp_any n m w)
 go_enter Tryz.func84, Tryz.ntmps84
 have hA := hL0.fc
 simp only [fcG, cellsF, neK, and_true, ne_eq, Nat.zero_add, Nat.reduceAdd] at hA
 go_wp2_with fail
 clear hA
 with_reducible refine Calls.mono (HC.out _) ?_
 rintro e x2 ⟨rfl, hb⟩
 replace hL0 := hL0.call hb
 clear hb hweq
 have hA := hL0.fc
 simp only [fcG, cellsF, neK, and_true, ne_eq, Nat.zero_add, Nat.reduceAdd] at hA
 go_wp2_with fail
 exact bodyPost_ret (v := .int .i64 (cmpI n m)) (by simp [results, Tryz.results84, go_sem, hA]) rfl ⟨rfl, hL0.bl⟩
set_option maxHeartbeats 4000000 in
set_option maxRecDepth 100000 in
theorem icmp_true_false (m n : Nat) (w : World) :
  Calls Tryz.prog 84 #[zV true m, zV false n] w fun e w' => e = .returned (.int .i64 (-1)) ∧ Below w.heap.size w w' := by
 have hL0 : GL w w [] := GL.start w
 replace hL0 := ((hL0.new rfl [.int .u64 ((lo m : Nat) : Int), .string (hs m), .bool true] 32).new (K := w.heap.size + 1) (szA _ _) [.int .u64 ((lo n : Nat) : Int), .string (hs n), .bool false] 32)
 generalize hweq : ((w.alloc (.cells #[.int .u64 ((lo m : Nat) : Int), .string (hs m), .bool true] 32)).alloc (.cells #[.int .u64 ((lo n : Nat) : Int), .string (hs n), .bool false] 32)) = x1 at hL0
 go_enter Tryz.func84, Tryz.ntmps84
 have hA := hL0.fc
 simp only [fcG, cellsF, neK, and_true, ne_eq, Nat.zero_add, Nat.reduceAdd] at hA
 go_wp2_with fail
 exact bodyPost_ret (v := .int .i64 (-1)) (by simp [results, Tryz.results84, go_sem, hA]) rfl ⟨rfl, hL0.bl⟩
set_option maxHeartbeats 4000000 in
set_option maxRecDepth 100000 in
theorem icmp_false_true (m n : Nat) (w : World) :
  Calls Tryz.prog 84 #[zV false m, zV true n] w fun e w' => e = .returned (.int .i64 (1)) ∧ Below w.heap.size w w' := by
 have hL0 : GL w w [] := GL.start w
 replace hL0 := ((hL0.new rfl [.int .u64 ((lo m : Nat) : Int), .string (hs m), .bool false] 32).new (K := w.heap.size + 1) (szA _ _) [.int .u64 ((lo n : Nat) : Int), .string (hs n), .bool true] 32)
 generalize hweq : ((w.alloc (.cells #[.int .u64 ((lo m : Nat) : Int), .string (hs m), .bool false] 32)).alloc (.cells #[.int .u64 ((lo n : Nat) : Int), .string (hs n), .bool true] 32)) = x1 at hL0
 go_enter Tryz.func84, Tryz.ntmps84
 have hA := hL0.fc
 simp only [fcG, cellsF, neK, and_true, ne_eq, Nat.zero_add, Nat.reduceAdd] at hA
 go_wp2_with fail
 exact bodyPost_ret (v := .int .i64 (1)) (by simp [results, Tryz.results84, go_sem, hA]) rfl ⟨rfl, hL0.bl⟩
set_option maxHeartbeats 4000000 in
set_option maxRecDepth 100000 in
theorem icmp_false_false (m n : Nat) (w : World) :
  Calls Tryz.prog 84 #[zV false m, zV false n] w fun e w' => e = .returned (.int .i64 (cmpI m n)) ∧ Below w.heap.size w w' := by
 have hL0 : GL w w [] := GL.start w
 replace hL0 := ((hL0.new rfl [.int .u64 ((lo m : Nat) : Int), .string (hs m), .bool false] 32).new (K := w.heap.size + 1) (szA _ _) [.int .u64 ((lo n : Nat) : Int), .string (hs n), .bool false] 32)
 generalize hweq : ((w.alloc (.cells #[.int .u64 ((lo m : Nat) : Int), .string (hs m), .bool false] 32)).alloc (.cells #[.int .u64 ((lo n : Nat) : Int), .string (hs n), .bool false] 32)) = x1 at hL0
 have HC := Lib.hid (fun w => cmp_any m n w)
 go_enter Tryz.func84, Tryz.ntmps84
 have hA := hL0.fc
 simp only [fcG, cellsF, neK, and_true, ne_eq, Nat.zero_add, Nat.reduceAdd] at hA
 go_wp2_with fail
 clear hA
 with_reducible refine Calls.mono (HC.out _) ?_
 rintro e x2 ⟨rfl, hb⟩
 replace hL0 := hL0.call hb
 clear hb hweq
 have hA := hL0.fc
 simp only [fcG, cellsF, neK, and_true, ne_eq, Nat.zero_add, Nat.reduceAdd] at hA
 go_wp2_with fail
 exact bodyPost_ret (v := .int .i64 (cmpI m n)) (by simp [results, Tryz.results84, go_sem, hA]) rfl ⟨rfl, hL0.bl⟩
set_option maxHeartbeats 4000000 in
set_option maxRecDepth 100000 in
theorem imul_true_true (m n : Nat) (hm : (digs m).length ≤ 1000000000) (hn : (digs n).length ≤ 1000000000) (w : World) :
  Calls Tryz.prog 90 #[zV true m, zV true n] w fun e w' => e = .returned (zV false (m * n)) ∧ Below w.heap.size w w' := by
 have hL0 : GL w w [] := GL.start w
 have HM := Lib.hid (fun w => mul_any m n (by omega) (by omega) w)
 generalize m * n = p at *
 have HF := Lib.hid (fun w => from_any false p w)
 simp only [Bool.false_and] at HF
 clear hm hn
 replace hL0 := (((hL0.new rfl [.int .u64 ((lo m : Nat) : Int), .string (hs m), .bool true] 32).new (K := w.heap.size + 1) (szA _ _) [.int .u64 ((lo n : Nat) : Int), .string (hs n), .bool true] 32).new (K := w.heap.size + 1 + 1) (by simp only [World.size_alloc]) [.int .u64 0, .string ⟨#[]⟩, .bool false] 32)
 generalize hweq : (((w.alloc (.cells #[.int .u64 ((lo m : Nat) : Int), .string (hs m), .bool true] 32)).alloc (.cells #[.int .u64 ((lo n : Nat) : Int), .string (hs n), .bool true] 32)).alloc (.cells #[.int .u64 0, .string ⟨#[]⟩, .bool false] 32)) = x1 at hL0
 go_enter Tryz.func90, Tryz.ntmps90
 have hA := hL0.fc
 simp only [fcG, cellsF, neK, and_true, ne_eq, Nat.zero_add, Nat.reduceAdd] at hA
 go_upto_region 1 with fail
 clear hA
 clear hweq
 obtain ⟨α, iα, F, hF1, hF2⟩ := cls x1
 have hq := GL.fcC hF1 hL0
 simp only [fcC, cellsC, and_true, Nat.zero_add, Nat.reduceAdd] at hq
 refine region_qs 11 (C := fun w' => ∃ x, w' = F x) (by kernel_rfl) (by kernel_rfl) (cls_drew hF2) ?_
 simp only [List.take_succ_cons, List.take_zero, List.drop_succ_cons, List.drop_zero, List.take_nil, List.drop_nil]
 repeat (go_big_quiet_step (first | fail | (go_at_call 68; with_reducible exact cls_call hF1 hF2 HM.out _) | (go_at_call 69; with_reducible exact cls_call hF1 hF2 HF.out _)))
 refine wpQuiet_nil ?_
 rintro wq ⟨xq, rfl⟩
 replace hL0 := hL0.call (hF1 xq)
 clear hq hF2
 generalize F xq = x2 at hL0 ⊢
 clear hF1 xq iα F α
 have hA := hL0.fc
 simp only [fcG, cellsF, neK, and_true, ne_eq, Nat.zero_add, Nat.reduceAdd] at hA
 have hP := hL0.put 0 (w.heap.size + 1 + 1) _ rfl [.int .u64 ((lo p : Nat) : Int), .string (hs p), .bool false] rfl
 simp only [setAll, List.set_cons_zero, List.set_cons_succ] at hP
 generalize hput1 : (((x2.setCell ⟨w.heap.size + 1 + 1, 0, none⟩ (.int .u64 ((lo p : Nat) : Int))).setCell ⟨w.heap.size + 1 + 1, 1, none⟩ (.string (hs p))).setCell ⟨w.heap.size + 1 + 1, 2, none⟩ (.bool false)) = x3 at hP
 have hB1 := hP.fc
 simp only [fcG, cellsF, neK, and_true, ne_eq, Nat.zero_add, Nat.reduceAdd] at hB1
 replace hL0 := hP
 go_wp2_with fail
 exact bodyPost_ret (v := zV false p) (by simp [results, Tryz.results90, go_sem, hB1]) rfl ⟨rfl, hL0.bl⟩
set_option maxHeartbeats 4000000 in
set_option maxRecDepth 100000 in
theorem imul_true_false (m n : Nat) (hm : (digs m).length ≤ 1000000000) (hn : (digs n).length ≤ 1000000000) (w : World) :
  Calls Tryz.prog 90 #[zV true m, zV false n] w fun e w' => e = .returned (zV (decide (m * n ≠ 0)) (m * n)) ∧ Below w.heap.size w w' := by
 have hL0 : GL w w [] := GL.start w
 have HM := Lib.hid (fun w => mul_any m n (by omega) (by omega) w)
 generalize m * n = p at *
 have HF := Lib.hid (fun w => from_any true p w)
 simp only [Bool.true_and] at HF
 obtain ⟨d, hd⟩ : ∃ d, d = decide (p ≠ 0) := ⟨_, rfl⟩
 rw [← hd] at HF ⊢
 clear hd
 clear hm hn
 replace hL0 := (((hL0.new rfl [.int .u64 ((lo m : Nat) : Int), .string (hs m), .bool true] 32).new (K := w.heap.size + 1) (szA _ _) [.int .u64 ((lo n : Nat) : Int), .string (hs n), .bool false] 32).new (K := w.heap.size + 1 + 1) (by simp only [World.size_alloc]) [.int .u64 0, .string ⟨#[]⟩, .bool false] 32)
 generalize hweq : (((w.alloc (.cells #[.int .u64 ((lo m : Nat) : Int), .string (hs m), .bool true] 32)).alloc (.cells #[.int .u64 ((lo n : Nat) : Int), .string (hs n), .bool false] 32)).alloc (.cells #[.int .u64 0, .string ⟨#[]⟩, .bool false] 32)) = x1 at hL0
 go_enter Tryz.func90, Tryz.ntmps90
 have hA := hL0.fc
 simp only [fcG, cellsF, neK, and_true, ne_eq, Nat.zero_add, Nat.reduceAdd] at hA
 go_upto_region 1 with fail
 clear hA
 clear hweq
 obtain ⟨α, iα, F, hF1, hF2⟩ := cls x1
 have hq := GL.fcC hF1 hL0
 simp only [fcC, cellsC, and_true, Nat.zero_add, Nat.reduceAdd] at hq
 refine region_qs 11 (C := fun w' => ∃ x, w' = F x) (by kernel_rfl) (by kernel_rfl) (cls_drew hF2) ?_
 simp only [List.take_succ_cons, List.take_zero, List.drop_succ_cons, List.drop_zero, List.take_nil, List.drop_nil]
 repeat (go_big_quiet_step (first | fail | (go_at_call 68; with_reducible exact cls_call hF1 hF2 HM.out _) | (go_at_call 69; with_reducible exact cls_call hF1 hF2 HF.out _)))
 refine wpQuiet_nil ?_
 rintro wq ⟨xq, rfl⟩
 replace hL0 := hL0.call (hF1 xq)
 clear hq hF2
 generalize F xq = x2 at hL0 ⊢
 clear hF1 xq iα F α
 have hA := hL0.fc
 simp only [fcG, cellsF, neK, and_true, ne_eq, Nat.zero_add, Nat.reduceAdd] at hA
 have hP := hL0.put 0 (w.heap.size + 1 + 1) _ rfl [.int .u64 ((lo p : Nat) : Int), .string (hs p), .bool d] rfl
 simp only [setAll, List.set_cons_zero, List.set_cons_succ] at hP
 generalize hput1 : (((x2.setCell ⟨w.heap.size + 1 + 1, 0, none⟩ (.int .u64 ((lo p : Nat) : Int))).setCell ⟨w.heap.size + 1 + 1, 1, none⟩ (.string (hs p))).setCell ⟨w.heap.size + 1 + 1, 2, none⟩ (.bool d)) = x3 at hP
 have hB1 := hP.fc
 simp only [fcG, cellsF, neK, and_true, ne_eq, Nat.zero_add, Nat.reduceAdd] at hB1
 replace hL0 := hP
 go_wp2_with fail
 exact bodyPost_ret (v := zV d p) (by simp [results, Tryz.results90, go_sem, hB1]) rfl ⟨rfl, hL0.bl⟩
set_option maxHeartbeats 4000000 in
set_option maxRecDepth 100000 in
theorem imul_false_true (m n : Nat) (hm : (digs m).length ≤ 1000000000) (hn : (digs n).length ≤ 1000000000) (w : World) :
  Calls Tryz.prog 90 #[zV false m, zV true n] w fun e w' => e = .returned (zV (decide (m * n ≠ 0)) (m * n)) ∧ Below w.heap.size w w' := by
 have hL0 : GL w w [] := GL.start w
 have HM := Lib.hid (fun w => mul_any m n (by omega) (by omega) w)
 generalize m * n = p at *
 have HF := Lib.hid (fun w => from_any true p w)
 simp only [Bool.true_and] at HF
 obtain ⟨d, hd⟩ : ∃ d, d = decide (p ≠ 0) := ⟨_, rfl⟩
 rw [← hd] at HF ⊢
 clear hd
 clear hm hn
 replace hL0 := (((hL0.new rfl [.int .u64 ((lo m : Nat) : Int), .string (hs m), .bool false] 32).new (K := w.heap.size + 1) (szA _ _) [.int .u64 ((lo n : Nat) : Int), .string (hs n), .bool true] 32).new (K := w.heap.size + 1 + 1) (by simp only [World.size_alloc]) [.int .u64 0, .string ⟨#[]⟩, .bool false] 32)
 generalize hweq : (((w.alloc (.cells #[.int .u64 ((lo m : Nat) : Int), .string (hs m), .bool false] 32)).alloc (.cells #[.int .u64 ((lo n : Nat) : Int), .string (hs n), .bool true] 32)).alloc (.cells #[.int .u64 0, .string ⟨#[]⟩, .bool false] 32)) = x1 at hL0
 go_enter Tryz.func90, Tryz.ntmps90
 have hA := hL0.fc
 simp only [fcG, cellsF, neK, and_true, ne_eq, Nat.zero_add, Nat.reduceAdd] at hA
 go_upto_region 1 with fail
 clear hA
 clear hweq
 obtain ⟨α, iα, F, hF1, hF2⟩ := cls x1
 have hq := GL.fcC hF1 hL0
 simp only [fcC, cellsC, and_true, Nat.zero_add, Nat.reduceAdd] at hq
 refine region_qs 11 (C := fun w' => ∃ x, w' = F x) (by kernel_rfl) (by kernel_rfl) (cls_drew hF2) ?_
 simp only [List.take_succ_cons, List.take_zero, List.drop_succ_cons, List.drop_zero, List.take_nil, List.drop_nil]
 repeat (go_big_quiet_step (first | fail | (go_at_call 68; with_reducible exact cls_call hF1 hF2 HM.out _) | (go_at_call 69; with_reducible exact cls_call hF1 hF2 HF.out _)))
 refine wpQuiet_nil ?_
 rintro wq ⟨xq, rfl⟩
 replace hL0 := hL0.call (hF1 xq)
 clear hq hF2
 generalize F xq = x2 at hL0 ⊢
 clear hF1 xq iα F α
 have hA := hL0.fc
 simp only [fcG, cellsF, neK, and_true, ne_eq, Nat.zero_add, Nat.reduceAdd] at hA
 have hP := hL0.put 0 (w.heap.size + 1 + 1) _ rfl [.int .u64 ((lo p : Nat) : Int), .string (hs p), .bool d] rfl
 simp only [setAll, List.set_cons_zero, List.set_cons_succ] at hP
 generalize hput1 : (((x2.setCell ⟨w.heap.size + 1 + 1, 0, none⟩ (.int .u64 ((lo p : Nat) : Int))).setCell ⟨w.heap.size + 1 + 1, 1, none⟩ (.string (hs p))).setCell ⟨w.heap.size + 1 + 1, 2, none⟩ (.bool d)) = x3 at hP
 have hB1 := hP.fc
 simp only [fcG, cellsF, neK, and_true, ne_eq, Nat.zero_add, Nat.reduceAdd] at hB1
 replace hL0 := hP
 go_wp2_with fail
 exact bodyPost_ret (v := zV d p) (by simp [results, Tryz.results90, go_sem, hB1]) rfl ⟨rfl, hL0.bl⟩
set_option maxHeartbeats 4000000 in
set_option maxRecDepth 100000 in
theorem imul_false_false (m n : Nat) (hm : (digs m).length ≤ 1000000000) (hn : (digs n).length ≤ 1000000000) (w : World) :
  Calls Tryz.prog 90 #[zV false m, zV false n] w fun e w' => e = .returned (zV false (m * n)) ∧ Below w.heap.size w w' := by
 have hL0 : GL w w [] := GL.start w
 have HM := Lib.hid (fun w => mul_any m n (by omega) (by omega) w)
 generalize m * n = p at *
 have HF := Lib.hid (fun w => from_any false p w)
 simp only [Bool.false_and] at HF
 clear hm hn
 replace hL0 := (((hL0.new rfl [.int .u64 ((lo m : Nat) : Int), .string (hs m), .bool false] 32).new (K := w.heap.size + 1) (szA _ _) [.int .u64 ((lo n : Nat) : Int), .string (hs n), .bool false] 32).new (K := w.heap.size + 1 + 1) (by simp only [World.size_alloc]) [.int .u64 0, .string ⟨#[]⟩, .bool false] 32)
 generalize hweq : (((w.alloc (.cells #[.int .u64 ((lo m : Nat) : Int), .string (hs m), .bool false] 32)).alloc (.cells #[.int .u64 ((lo n : Nat) : Int), .string (hs n), .bool false] 32)).alloc (.cells #[.int .u64 0, .string ⟨#[]⟩, .bool false] 32)) = x1 at hL0
 go_enter Tryz.func90, Tryz.ntmps90
 have hA := hL0.fc
 simp only [fcG, cellsF, neK, and_true, ne_eq, Nat.zero_add, Nat.reduceAdd] at hA
 go_upto_region 1 with fail
 clear hA
 clear hweq
 obtain ⟨α, iα, F, hF1, hF2⟩ := cls x1
 have hq := GL.fcC hF1 hL0
 simp only [fcC, cellsC, and_true, Nat.zero_add, Nat.reduceAdd] at hq
 refine region_qs 11 (C := fun w' => ∃ x, w' = F x) (by kernel_rfl) (by kernel_rfl) (cls_drew hF2) ?_
 simp only [List.take_succ_cons, List.take_zero, List.drop_succ_cons, List.drop_zero, List.take_nil, List.drop_nil]
 repeat (go_big_quiet_step (first | fail | (go_at_call 68; with_reducible exact cls_call hF1 hF2 HM.out _) | (go_at_call 69; with_reducible exact cls_call hF1 hF2 HF.out _)))
 refine wpQuiet_nil ?_
 rintro wq ⟨xq, rfl⟩
 replace hL0 := hL0.call (hF1 xq)
 clear hq hF2
 generalize F xq = x2 at hL0 ⊢
 clear hF1 xq iα F α
 have hA := hL0.fc
 simp only [fcG, cellsF, neK, and_true, ne_eq, Nat.zero_add, Nat.reduceAdd] at hA
 have hP := hL0.put 0 (w.heap.size + 1 + 1) _ rfl [.int .u64 ((lo p : Nat) : Int), .string (hs p), .bool false] rfl
 simp only [setAll, List.set_cons_zero, List.set_cons_succ] at hP
 generalize hput1 : (((x2.setCell ⟨w.heap.size + 1 + 1, 0, none⟩ (.int .u64 ((lo p : Nat) : Int))).setCell ⟨w.heap.size + 1 + 1, 1, none⟩ (.string (hs p))).setCell ⟨w.heap.size + 1 + 1, 2, none⟩ (.bool false)) = x3 at hP
 have hB1 := hP.fc
 simp only [fcG, cellsF, neK, and_true, ne_eq, Nat.zero_add, Nat.reduceAdd] at hB1
 replace hL0 := hP
 go_wp2_with fail
 exact bodyPost_ret (v := zV false p) (by simp [results, Tryz.results90, go_sem, hB1]) rfl ⟨rfl, hL0.bl⟩
end Go.Proofs.YtahfcciihkkegaaGreatDoor
namespace Go.Proofs.YtahfcciihkkegaaGreatDoor
open Go.RowKit
attribute [local irreducible] lo hs sm s64 c64 d64 b64 mh ml pd pc qd qc val hiB str cmpI srD lz nb isq decB
set_option maxHeartbeats 4000000 in
set_option maxRecDepth 100000 in
theorem out_true (m n : Nat) (hm : (digs m).length ≤ 1000000000) (hn : (digs n).length ≤ 1000000000) (w : World) :
  Calls Tryz.prog 145 #[zV true m, natV n] w fun e w' => e = .returned (zV (decide (m + n ≠ 0)) (m + n)) ∧ Below w.heap.size w w' := by
 have hL0 : GL w w [] := GL.start w
 have HA := Lib.hid (fun w => add_any m n (by omega) (by omega) w)
 generalize m + n = p at *
 have HF := Lib.hid (fun w => from_any true p w)
 simp only [Bool.true_and] at HF
 obtain ⟨d, hd⟩ : ∃ d, d = decide (p ≠ 0) := ⟨_, rfl⟩
 rw [← hd] at HF ⊢
 clear hd
 clear hm hn
 replace hL0 := (((hL0.new rfl [.int .u64 ((lo m : Nat) : Int), .string (hs m), .bool true] 32).new (K := w.heap.size + 1) (szA _ _) [.int .u64 ((lo n : Nat) : Int), .string (hs n)] 30).new (K := w.heap.size + 1 + 1) (by simp only [World.size_alloc]) [.int .u64 0, .string ⟨#[]⟩, .bool false] 32)
 generalize hweq : (((w.alloc (.cells #[.int .u64 ((lo m : Nat) : Int), .string (hs m), .bool true] 32)).alloc (.cells #[.int .u64 ((lo n : Nat) : Int), .string (hs n)] 30)).alloc (.cells #[.int .u64 0, .string ⟨#[]⟩, .bool false] 32)) = x1 at hL0
 go_enter Tryz.func145, Tryz.ntmps145
 have hA := hL0.fc
 simp only [fcG, cellsF, neK, and_true, ne_eq, Nat.zero_add, Nat.reduceAdd] at hA
 go_upto_region 1 with fail
 clear hA
 clear hweq
 obtain ⟨α, iα, F, hF1, hF2⟩ := cls x1
 have hq := GL.fcC hF1 hL0
 simp only [fcC, cellsC, and_true, Nat.zero_add, Nat.reduceAdd] at hq
 refine region_qs 7 (C := fun w' => ∃ x, w' = F x) (by kernel_rfl) (by kernel_rfl) (cls_drew hF2) ?_
 simp only [List.take_succ_cons, List.take_zero, List.drop_succ_cons, List.drop_zero, List.take_nil, List.drop_nil]
 repeat (go_big_quiet_step (first | fail | (go_at_call 49; with_reducible exact cls_call hF1 hF2 HA.out _) | (go_at_call 69; with_reducible exact cls_call hF1 hF2 HF.out _)))
 refine wpQuiet_nil ?_
 rintro wq ⟨xq, rfl⟩
 replace hL0 := hL0.call (hF1 xq)
 clear hq hF2
 generalize F xq = x2 at hL0 ⊢
 clear hF1 xq iα F α
 have hA := hL0.fc
 simp only [fcG, cellsF, neK, and_true, ne_eq, Nat.zero_add, Nat.reduceAdd] at hA
 have hP := hL0.put 0 (w.heap.size + 1 + 1) _ rfl [.int .u64 ((lo p : Nat) : Int), .string (hs p), .bool d] rfl
 simp only [setAll, List.set_cons_zero, List.set_cons_succ] at hP
 generalize hput1 : (((x2.setCell ⟨w.heap.size + 1 + 1, 0, none⟩ (.int .u64 ((lo p : Nat) : Int))).setCell ⟨w.heap.size + 1 + 1, 1, none⟩ (.string (hs p))).setCell ⟨w.heap.size + 1 + 1, 2, none⟩ (.bool d)) = x3 at hP
 have hB1 := hP.fc
 simp only [fcG, cellsF, neK, and_true, ne_eq, Nat.zero_add, Nat.reduceAdd] at hB1
 replace hL0 := hP
 go_wp2_with fail
 exact bodyPost_ret (v := zV d p) (by simp [results, Tryz.results145, go_sem, hB1]) rfl ⟨rfl, hL0.bl⟩
set_option maxHeartbeats 4000000 in
set_option maxRecDepth 100000 in
theorem out_false (m n : Nat) (hm : (digs m).length ≤ 1000000000) (hn : (digs n).length ≤ 1000000000) (w : World) :
  Calls Tryz.prog 145 #[zV false m, natV n] w fun e w' => e = .returned (zV false (m + n)) ∧ Below w.heap.size w w' := by
 have hL0 : GL w w [] := GL.start w
 have HA := Lib.hid (fun w => add_any m n (by omega) (by omega) w)
 generalize m + n = p at *
 have HF := Lib.hid (fun w => from_any false p w)
 simp only [Bool.false_and] at HF
 clear hm hn
 replace hL0 := (((hL0.new rfl [.int .u64 ((lo m : Nat) : Int), .string (hs m), .bool false] 32).new (K := w.heap.size + 1) (szA _ _) [.int .u64 ((lo n : Nat) : Int), .string (hs n)] 30).new (K := w.heap.size + 1 + 1) (by simp only [World.size_alloc]) [.int .u64 0, .string ⟨#[]⟩, .bool false] 32)
 generalize hweq : (((w.alloc (.cells #[.int .u64 ((lo m : Nat) : Int), .string (hs m), .bool false] 32)).alloc (.cells #[.int .u64 ((lo n : Nat) : Int), .string (hs n)] 30)).alloc (.cells #[.int .u64 0, .string ⟨#[]⟩, .bool false] 32)) = x1 at hL0
 go_enter Tryz.func145, Tryz.ntmps145
 have hA := hL0.fc
 simp only [fcG, cellsF, neK, and_true, ne_eq, Nat.zero_add, Nat.reduceAdd] at hA
 go_upto_region 1 with fail
 clear hA
 clear hweq
 obtain ⟨α, iα, F, hF1, hF2⟩ := cls x1
 have hq := GL.fcC hF1 hL0
 simp only [fcC, cellsC, and_true, Nat.zero_add, Nat.reduceAdd] at hq
 refine region_qs 7 (C := fun w' => ∃ x, w' = F x) (by kernel_rfl) (by kernel_rfl) (cls_drew hF2) ?_
 simp only [List.take_succ_cons, List.take_zero, List.drop_succ_cons, List.drop_zero, List.take_nil, List.drop_nil]
 repeat (go_big_quiet_step (first | fail | (go_at_call 49; with_reducible exact cls_call hF1 hF2 HA.out _) | (go_at_call 69; with_reducible exact cls_call hF1 hF2 HF.out _)))
 refine wpQuiet_nil ?_
 rintro wq ⟨xq, rfl⟩
 replace hL0 := hL0.call (hF1 xq)
 clear hq hF2
 generalize F xq = x2 at hL0 ⊢
 clear hF1 xq iα F α
 have hA := hL0.fc
 simp only [fcG, cellsF, neK, and_true, ne_eq, Nat.zero_add, Nat.reduceAdd] at hA
 have hP := hL0.put 0 (w.heap.size + 1 + 1) _ rfl [.int .u64 ((lo p : Nat) : Int), .string (hs p), .bool false] rfl
 simp only [setAll, List.set_cons_zero, List.set_cons_succ] at hP
 generalize hput1 : (((x2.setCell ⟨w.heap.size + 1 + 1, 0, none⟩ (.int .u64 ((lo p : Nat) : Int))).setCell ⟨w.heap.size + 1 + 1, 1, none⟩ (.string (hs p))).setCell ⟨w.heap.size + 1 + 1, 2, none⟩ (.bool false)) = x3 at hP
 have hB1 := hP.fc
 simp only [fcG, cellsF, neK, and_true, ne_eq, Nat.zero_add, Nat.reduceAdd] at hB1
 replace hL0 := hP
 go_wp2_with fail
 exact bodyPost_ret (v := zV false p) (by simp [results, Tryz.results145, go_sem, hB1]) rfl ⟨rfl, hL0.bl⟩
set_option maxHeartbeats 4000000 in
set_option maxRecDepth 100000 in
theorem in_true_ge (m n : Nat) (h : n ≤ m) (hm : (digs m).length ≤ 1000000000) (hn : (digs n).length ≤ 1000000000) (w : World) :
  Calls Tryz.prog 144 #[zV true m, natV n] w fun e w' => e = .returned (zV (decide (m - n ≠ 0)) (m - n)) ∧ Below w.heap.size w w' := by
 have hL0 : GL w w [] := GL.start w
 have HS := Lib.hid (fun w => sub_ge m n h (by omega) w)
 generalize m - n = p at *
 have HF := Lib.hid (fun w => from_any true p w)
 simp only [Bool.true_and] at HF
 obtain ⟨d, hd⟩ : ∃ d, d = decide (p ≠ 0) := ⟨_, rfl⟩
 rw [← hd] at HF ⊢
 clear hd
 clear hm hn h
 replace hL0 := (((hL0.new rfl [.int .u64 ((lo m : Nat) : Int), .string (hs m), .bool true] 32).new (K := w.heap.size + 1) (szA _ _) [.int .u64 ((lo n : Nat) : Int), .string (hs n)] 30).new (K := w.heap.size + 1 + 1) (by simp only [World.size_alloc]) [.int .u64 0, .string ⟨#[]⟩, .bool false] 32)
 generalize hweq : (((w.alloc (.cells #[.int .u64 ((lo m : Nat) : Int), .string (hs m), .bool true] 32)).alloc (.cells #[.int .u64 ((lo n : Nat) : Int), .string (hs n)] 30)).alloc (.cells #[.int .u64 0, .string ⟨#[]⟩, .bool false] 32)) = x1 at hL0
 go_enter Tryz.func144, Tryz.ntmps144
 have hA := hL0.fc
 simp only [fcG, cellsF, neK, and_true, ne_eq, Nat.zero_add, Nat.reduceAdd] at hA
 go_wp2_with fail
 clear hA
 with_reducible refine Calls.mono (HS.out _) ?_
 rintro e x2 ⟨rfl, hb⟩
 replace hL0 := hL0.call hb
 clear hb hweq
 replace hL0 := (hL0.new rfl [.int .u64 ((lo p : Nat) : Int), .string (hs p)] 30)
 generalize hweq : (x2.alloc (.cells #[.int .u64 ((lo p : Nat) : Int), .string (hs p)] 30)) = x3 at hL0
 have hA := hL0.fc
 simp only [fcG, cellsF, neK, and_true, ne_eq, Nat.zero_add, Nat.reduceAdd] at hA
 go_wp2_with fail
 clear hA
 with_reducible refine Calls.mono (HF.out _) ?_
 rintro e x4 ⟨rfl, hb⟩
 replace hL0 := hL0.call hb
 clear hb hweq
 have hA := hL0.fc
 simp only [fcG, cellsF, neK, and_true, ne_eq, Nat.zero_add, Nat.reduceAdd] at hA
 have hP := hL0.put 1 (w.heap.size + 1 + 1) _ rfl [.int .u64 ((lo p : Nat) : Int), .string (hs p), .bool d] rfl
 simp only [setAll, List.set_cons_zero, List.set_cons_succ] at hP
 generalize hput1 : (((x4.setCell ⟨w.heap.size + 1 + 1, 0, none⟩ (.int .u64 ((lo p : Nat) : Int))).setCell ⟨w.heap.size + 1 + 1, 1, none⟩ (.string (hs p))).setCell ⟨w.heap.size + 1 + 1, 2, none⟩ (.bool d)) = x5 at hP
 have hB1 := hP.fc
 simp only [fcG, cellsF, neK, and_true, ne_eq, Nat.zero_add, Nat.reduceAdd] at hB1
 replace hL0 := hP
 go_wp2_with fail
 exact bodyPost_ret (v := zV d p) (by simp [results, Tryz.results144, go_sem, hB1]) rfl ⟨rfl, hL0.bl⟩
set_option maxHeartbeats 4000000 in
set_option maxRecDepth 100000 in
theorem in_true_lt (m n : Nat) (h : m < n) (hm : (digs m).length ≤ 1000000000) (hn : (digs n).length ≤ 1000000000) (w : World) :
  Calls Tryz.prog 144 #[zV true m, natV n] w fun e w' => e = .returned (zV false (n - m)) ∧ Below w.heap.size w w' := by
 have hL0 : GL w w [] := GL.start w
 have HS := Lib.hid (fun w => sub_lt m n h w)
 have HT := Lib.hid (fun w => sub_ge n m (by omega) (by omega) w)
 generalize n - m = p at *
 have HF := Lib.hid (fun w => from_any false p w)
 simp only [Bool.false_and] at HF
 clear hm hn h
 replace hL0 := (((hL0.new rfl [.int .u64 ((lo m : Nat) : Int), .string (hs m), .bool true] 32).new (K := w.heap.size + 1) (szA _ _) [.int .u64 ((lo n : Nat) : Int), .string (hs n)] 30).new (K := w.heap.size + 1 + 1) (by simp only [World.size_alloc]) [.int .u64 0, .string ⟨#[]⟩, .bool false] 32)
 generalize hweq : (((w.alloc (.cells #[.int .u64 ((lo m : Nat) : Int), .string (hs m), .bool true] 32)).alloc (.cells #[.int .u64 ((lo n : Nat) : Int), .string (hs n)] 30)).alloc (.cells #[.int .u64 0, .string ⟨#[]⟩, .bool false] 32)) = x1 at hL0
 go_enter Tryz.func144, Tryz.ntmps144
 have hA := hL0.fc
 simp only [fcG, cellsF, neK, and_true, ne_eq, Nat.zero_add, Nat.reduceAdd] at hA
 go_wp2_with fail
 clear hA
 with_reducible refine Calls.mono (HS.out _) ?_
 rintro e x2 ⟨rfl, hb⟩
 replace hL0 := hL0.call hb
 clear hb hweq
 replace hL0 := (hL0.new rfl [.int .u64 ((lo 0 : Nat) : Int), .string (hs 0)] 30)
 generalize hweq : (x2.alloc (.cells #[.int .u64 ((lo 0 : Nat) : Int), .string (hs 0)] 30)) = x3 at hL0
 have hA := hL0.fc
 simp only [fcG, cellsF, neK, and_true, ne_eq, Nat.zero_add, Nat.reduceAdd] at hA
 go_wp2_with fail
 clear hA
 with_reducible refine Calls.mono (HT.out _) ?_
 rintro e x4 ⟨rfl, hb⟩
 replace hL0 := hL0.call hb
 clear hb hweq
 replace hL0 := (hL0.new rfl [.int .u64 ((lo p : Nat) : Int), .string (hs p)] 30)
 generalize hweq : (x4.alloc (.cells #[.int .u64 ((lo p : Nat) : Int), .string (hs p)] 30)) = x5 at hL0
 have hA := hL0.fc
 simp only [fcG, cellsF, neK, and_true, ne_eq, Nat.zero_add, Nat.reduceAdd] at hA
 go_wp2_with fail
 clear hA
 with_reducible refine Calls.mono (HF.out _) ?_
 rintro e x6 ⟨rfl, hb⟩
 replace hL0 := hL0.call hb
 clear hb hweq
 have hA := hL0.fc
 simp only [fcG, cellsF, neK, and_true, ne_eq, Nat.zero_add, Nat.reduceAdd] at hA
 have hP := hL0.put 2 (w.heap.size + 1 + 1) _ rfl [.int .u64 ((lo p : Nat) : Int), .string (hs p), .bool false] rfl
 simp only [setAll, List.set_cons_zero, List.set_cons_succ] at hP
 generalize hput1 : (((x6.setCell ⟨w.heap.size + 1 + 1, 0, none⟩ (.int .u64 ((lo p : Nat) : Int))).setCell ⟨w.heap.size + 1 + 1, 1, none⟩ (.string (hs p))).setCell ⟨w.heap.size + 1 + 1, 2, none⟩ (.bool false)) = x7 at hP
 have hB1 := hP.fc
 simp only [fcG, cellsF, neK, and_true, ne_eq, Nat.zero_add, Nat.reduceAdd] at hB1
 replace hL0 := hP
 go_wp2_with fail
 exact bodyPost_ret (v := zV false p) (by simp [results, Tryz.results144, go_sem, hB1]) rfl ⟨rfl, hL0.bl⟩
set_option maxHeartbeats 4000000 in
set_option maxRecDepth 100000 in
theorem in_false_ge (m n : Nat) (h : n ≤ m) (hm : (digs m).length ≤ 1000000000) (hn : (digs n).length ≤ 1000000000) (w : World) :
  Calls Tryz.prog 144 #[zV false m, natV n] w fun e w' => e = .returned (zV false (m - n)) ∧ Below w.heap.size w w' := by
 have hL0 : GL w w [] := GL.start w
 have HS := Lib.hid (fun w => sub_ge m n h (by omega) w)
 generalize m - n = p at *
 have HF := Lib.hid (fun w => from_any false p w)
 simp only [Bool.false_and] at HF
 clear hm hn h
 replace hL0 := (((hL0.new rfl [.int .u64 ((lo m : Nat) : Int), .string (hs m), .bool false] 32).new (K := w.heap.size + 1) (szA _ _) [.int .u64 ((lo n : Nat) : Int), .string (hs n)] 30).new (K := w.heap.size + 1 + 1) (by simp only [World.size_alloc]) [.int .u64 0, .string ⟨#[]⟩, .bool false] 32)
 generalize hweq : (((w.alloc (.cells #[.int .u64 ((lo m : Nat) : Int), .string (hs m), .bool false] 32)).alloc (.cells #[.int .u64 ((lo n : Nat) : Int), .string (hs n)] 30)).alloc (.cells #[.int .u64 0, .string ⟨#[]⟩, .bool false] 32)) = x1 at hL0
 go_enter Tryz.func144, Tryz.ntmps144
 have hA := hL0.fc
 simp only [fcG, cellsF, neK, and_true, ne_eq, Nat.zero_add, Nat.reduceAdd] at hA
 go_wp2_with fail
 clear hA
 with_reducible refine Calls.mono (HS.out _) ?_
 rintro e x2 ⟨rfl, hb⟩
 replace hL0 := hL0.call hb
 clear hb hweq
 replace hL0 := (hL0.new rfl [.int .u64 ((lo p : Nat) : Int), .string (hs p)] 30)
 generalize hweq : (x2.alloc (.cells #[.int .u64 ((lo p : Nat) : Int), .string (hs p)] 30)) = x3 at hL0
 have hA := hL0.fc
 simp only [fcG, cellsF, neK, and_true, ne_eq, Nat.zero_add, Nat.reduceAdd] at hA
 go_wp2_with fail
 clear hA
 with_reducible refine Calls.mono (HF.out _) ?_
 rintro e x4 ⟨rfl, hb⟩
 replace hL0 := hL0.call hb
 clear hb hweq
 have hA := hL0.fc
 simp only [fcG, cellsF, neK, and_true, ne_eq, Nat.zero_add, Nat.reduceAdd] at hA
 have hP := hL0.put 1 (w.heap.size + 1 + 1) _ rfl [.int .u64 ((lo p : Nat) : Int), .string (hs p), .bool false] rfl
 simp only [setAll, List.set_cons_zero, List.set_cons_succ] at hP
 generalize hput1 : (((x4.setCell ⟨w.heap.size + 1 + 1, 0, none⟩ (.int .u64 ((lo p : Nat) : Int))).setCell ⟨w.heap.size + 1 + 1, 1, none⟩ (.string (hs p))).setCell ⟨w.heap.size + 1 + 1, 2, none⟩ (.bool false)) = x5 at hP
 have hB1 := hP.fc
 simp only [fcG, cellsF, neK, and_true, ne_eq, Nat.zero_add, Nat.reduceAdd] at hB1
 replace hL0 := hP
 go_wp2_with fail
 exact bodyPost_ret (v := zV false p) (by simp [results, Tryz.results144, go_sem, hB1]) rfl ⟨rfl, hL0.bl⟩
set_option maxHeartbeats 4000000 in
set_option maxRecDepth 100000 in
theorem in_false_lt (m n : Nat) (h : m < n) (hm : (digs m).length ≤ 1000000000) (hn : (digs n).length ≤ 1000000000) (w : World) :
  Calls Tryz.prog 144 #[zV false m, natV n] w fun e w' => e = .returned (zV (decide (n - m ≠ 0)) (n - m)) ∧ Below w.heap.size w w' := by
 have hL0 : GL w w [] := GL.start w
 have HS := Lib.hid (fun w => sub_lt m n h w)
 have HT := Lib.hid (fun w => sub_ge n m (by omega) (by omega) w)
 generalize n - m = p at *
 have HF := Lib.hid (fun w => from_any true p w)
 simp only [Bool.true_and] at HF
 obtain ⟨d, hd⟩ : ∃ d, d = decide (p ≠ 0) := ⟨_, rfl⟩
 rw [← hd] at HF ⊢
 clear hd
 clear hm hn h
 replace hL0 := (((hL0.new rfl [.int .u64 ((lo m : Nat) : Int), .string (hs m), .bool false] 32).new (K := w.heap.size + 1) (szA _ _) [.int .u64 ((lo n : Nat) : Int), .string (hs n)] 30).new (K := w.heap.size + 1 + 1) (by simp only [World.size_alloc]) [.int .u64 0, .string ⟨#[]⟩, .bool false] 32)
 generalize hweq : (((w.alloc (.cells #[.int .u64 ((lo m : Nat) : Int), .string (hs m), .bool false] 32)).alloc (.cells #[.int .u64 ((lo n : Nat) : Int), .string (hs n)] 30)).alloc (.cells #[.int .u64 0, .string ⟨#[]⟩, .bool false] 32)) = x1 at hL0
 go_enter Tryz.func144, Tryz.ntmps144
 have hA := hL0.fc
 simp only [fcG, cellsF, neK, and_true, ne_eq, Nat.zero_add, Nat.reduceAdd] at hA
 go_wp2_with fail
 clear hA
 with_reducible refine Calls.mono (HS.out _) ?_
 rintro e x2 ⟨rfl, hb⟩
 replace hL0 := hL0.call hb
 clear hb hweq
 replace hL0 := (hL0.new rfl [.int .u64 ((lo 0 : Nat) : Int), .string (hs 0)] 30)
 generalize hweq : (x2.alloc (.cells #[.int .u64 ((lo 0 : Nat) : Int), .string (hs 0)] 30)) = x3 at hL0
 have hA := hL0.fc
 simp only [fcG, cellsF, neK, and_true, ne_eq, Nat.zero_add, Nat.reduceAdd] at hA
 go_wp2_with fail
 clear hA
 with_reducible refine Calls.mono (HT.out _) ?_
 rintro e x4 ⟨rfl, hb⟩
 replace hL0 := hL0.call hb
 clear hb hweq
 replace hL0 := (hL0.new rfl [.int .u64 ((lo p : Nat) : Int), .string (hs p)] 30)
 generalize hweq : (x4.alloc (.cells #[.int .u64 ((lo p : Nat) : Int), .string (hs p)] 30)) = x5 at hL0
 have hA := hL0.fc
 simp only [fcG, cellsF, neK, and_true, ne_eq, Nat.zero_add, Nat.reduceAdd] at hA
 go_wp2_with fail
 clear hA
 with_reducible refine Calls.mono (HF.out _) ?_
 rintro e x6 ⟨rfl, hb⟩
 replace hL0 := hL0.call hb
 clear hb hweq
 have hA := hL0.fc
 simp only [fcG, cellsF, neK, and_true, ne_eq, Nat.zero_add, Nat.reduceAdd] at hA
 have hP := hL0.put 2 (w.heap.size + 1 + 1) _ rfl [.int .u64 ((lo p : Nat) : Int), .string (hs p), .bool d] rfl
 simp only [setAll, List.set_cons_zero, List.set_cons_succ] at hP
 generalize hput1 : (((x6.setCell ⟨w.heap.size + 1 + 1, 0, none⟩ (.int .u64 ((lo p : Nat) : Int))).setCell ⟨w.heap.size + 1 + 1, 1, none⟩ (.string (hs p))).setCell ⟨w.heap.size + 1 + 1, 2, none⟩ (.bool d)) = x7 at hP
 have hB1 := hP.fc
 simp only [fcG, cellsF, neK, and_true, ne_eq, Nat.zero_add, Nat.reduceAdd] at hB1
 replace hL0 := hP
 go_wp2_with fail
 exact bodyPost_ret (v := zV d p) (by simp [results, Tryz.results144, go_sem, hB1]) rfl ⟨rfl, hL0.bl⟩
set_option maxHeartbeats 4000000 in
set_option maxRecDepth 100000 in
theorem bysub_true_true (m n k : Nat) (u : Bool) (H : ∀ w, Calls Tryz.prog 144 #[zV true m, natV n] w fun e w' => e = .returned (zV u k) ∧ Below w.heap.size w w') (w : World) :
  Calls Tryz.prog 143 #[zV true m, zV true n, .func (.func 144) #[] #[], .func (.func 145) #[] #[]] w fun e w' => e = .returned (zV u k) ∧ Below w.heap.size w w' := by
 have hL0 : GL w w [] := GL.start w
 replace H := Lib.hid H
 replace hL0 := (((hL0.new rfl [.int .u64 ((lo m : Nat) : Int), .string (hs m), .bool true] 32).new (K := w.heap.size + 1) (szA _ _) [.int .u64 ((lo n : Nat) : Int), .string (hs n), .bool true] 32).new (K := w.heap.size + 1 + 1) (by simp only [World.size_alloc]) [.int .u64 0, .string ⟨#[]⟩, .bool false] 32)
 generalize hweq : (((w.alloc (.cells #[.int .u64 ((lo m : Nat) : Int), .string (hs m), .bool true] 32)).alloc (.cells #[.int .u64 ((lo n : Nat) : Int), .string (hs n), .bool true] 32)).alloc (.cells #[.int .u64 0, .string ⟨#[]⟩, .bool false] 32)) = x1 at hL0
 go_enter Tryz.func143, Tryz.ntmps143
 have hA := hL0.fc
 simp only [fcG, cellsF, neK, and_true, ne_eq, Nat.zero_add, Nat.reduceAdd] at hA
 go_wp2_with fail
 clear hA
 with_reducible refine Calls.mono (H.out _) ?_
 rintro e x2 ⟨rfl, hb⟩
 replace hL0 := hL0.call hb
 clear hb hweq
 have hA := hL0.fc
 simp only [fcG, cellsF, neK, and_true, ne_eq, Nat.zero_add, Nat.reduceAdd] at hA
 have hP := hL0.put 0 (w.heap.size + 1 + 1) _ rfl [.int .u64 ((lo k : Nat) : Int), .string (hs k), .bool u] rfl
 simp only [setAll, List.set_cons_zero, List.set_cons_succ] at hP
 generalize hput1 : (((x2.setCell ⟨w.heap.size + 1 + 1, 0, none⟩ (.int .u64 ((lo k : Nat) : Int))).setCell ⟨w.heap.size + 1 + 1, 1, none⟩ (.string (hs k))).setCell ⟨w.heap.size + 1 + 1, 2, none⟩ (.bool u)) = x3 at hP
 have hB1 := hP.fc
 simp only [fcG, cellsF, neK, and_true, ne_eq, Nat.zero_add, Nat.reduceAdd] at hB1
 replace hL0 := hP
 go_wp2_with fail
 exact bodyPost_ret (v := zV u k) (by simp [results, Tryz.results143, go_sem, hB1]) rfl ⟨rfl, hL0.bl⟩
set_option maxHeartbeats 4000000 in
set_option maxRecDepth 100000 in
theorem bysub_true_false (m n k : Nat) (u : Bool) (H : ∀ w, Calls Tryz.prog 145 #[zV true m, natV n] w fun e w' => e = .returned (zV u k) ∧ Below w.heap.size w w') (w : World) :
  Calls Tryz.prog 143 #[zV true m, zV false n, .func (.func 144) #[] #[], .func (.func 145) #[] #[]] w fun e w' => e = .returned (zV u k) ∧ Below w.heap.size w w' := by
 have hL0 : GL w w [] := GL.start w
 replace H := Lib.hid H
 replace hL0 := (((hL0.new rfl [.int .u64 ((lo m : Nat) : Int), .string (hs m), .bool true] 32).new (K := w.heap.size + 1) (szA _ _) [.int .u64 ((lo n : Nat) : Int), .string (hs n), .bool false] 32).new (K := w.heap.size + 1 + 1) (by simp only [World.size_alloc]) [.int .u64 0, .string ⟨#[]⟩, .bool false] 32)
 generalize hweq : (((w.alloc (.cells #[.int .u64 ((lo m : Nat) : Int), .string (hs m), .bool true] 32)).alloc (.cells #[.int .u64 ((lo n : Nat) : Int), .string (hs n), .bool false] 32)).alloc (.cells #[.int .u64 0, .string ⟨#[]⟩, .bool false] 32)) = x1 at hL0
 go_enter Tryz.func143, Tryz.ntmps143
 have hA := hL0.fc
 simp only [fcG, cellsF, neK, and_true, ne_eq, Nat.zero_add, Nat.reduceAdd] at hA
 go_wp2_with fail
 clear hA
 with_reducible refine Calls.mono (H.out _) ?_
 rintro e x2 ⟨rfl, hb⟩
 replace hL0 := hL0.call hb
 clear hb hweq
 have hA := hL0.fc
 simp only [fcG, cellsF, neK, and_true, ne_eq, Nat.zero_add, Nat.reduceAdd] at hA
 have hP := hL0.put 0 (w.heap.size + 1 + 1) _ rfl [.int .u64 ((lo k : Nat) : Int), .string (hs k), .bool u] rfl
 simp only [setAll, List.set_cons_zero, List.set_cons_succ] at hP
 generalize hput1 : (((x2.setCell ⟨w.heap.size + 1 + 1, 0, none⟩ (.int .u64 ((lo k : Nat) : Int))).setCell ⟨w.heap.size + 1 + 1, 1, none⟩ (.string (hs k))).setCell ⟨w.heap.size + 1 + 1, 2, none⟩ (.bool u)) = x3 at hP
 have hB1 := hP.fc
 simp only [fcG, cellsF, neK, and_true, ne_eq, Nat.zero_add, Nat.reduceAdd] at hB1
 replace hL0 := hP
 go_wp2_with fail
 exact bodyPost_ret (v := zV u k) (by simp [results, Tryz.results143, go_sem, hB1]) rfl ⟨rfl, hL0.bl⟩
set_option maxHeartbeats 4000000 in
set_option maxRecDepth 100000 in
theorem bysub_false_true (m n k : Nat) (u : Bool) (H : ∀ w, Calls Tryz.prog 145 #[zV false m, natV n] w fun e w' => e = .returned (zV u k) ∧ Below w.heap.size w w') (w : World) :
  Calls Tryz.prog 143 #[zV false m, zV true n, .func (.func 144) #[] #[], .func (.func 145) #[] #[]] w fun e w' => e = .returned (zV u k) ∧ Below w.heap.size w w' := by
 have hL0 : GL w w [] := GL.start w
 replace H := Lib.hid H
 replace hL0 := (((hL0.new rfl [.int .u64 ((lo m : Nat) : Int), .string (hs m), .bool false] 32).new (K := w.heap.size + 1) (szA _ _) [.int .u64 ((lo n : Nat) : Int), .string (hs n), .bool true] 32).new (K := w.heap.size + 1 + 1) (by simp only [World.size_alloc]) [.int .u64 0, .string ⟨#[]⟩, .bool false] 32)
 generalize hweq : (((w.alloc (.cells #[.int .u64 ((lo m : Nat) : Int), .string (hs m), .bool false] 32)).alloc (.cells #[.int .u64 ((lo n : Nat) : Int), .string (hs n), .bool true] 32)).alloc (.cells #[.int .u64 0, .string ⟨#[]⟩, .bool false] 32)) = x1 at hL0
 go_enter Tryz.func143, Tryz.ntmps143
 have hA := hL0.fc
 simp only [fcG, cellsF, neK, and_true, ne_eq, Nat.zero_add, Nat.reduceAdd] at hA
 go_wp2_with fail
 clear hA
 with_reducible refine Calls.mono (H.out _) ?_
 rintro e x2 ⟨rfl, hb⟩
 replace hL0 := hL0.call hb
 clear hb hweq
 have hA := hL0.fc
 simp only [fcG, cellsF, neK, and_true, ne_eq, Nat.zero_add, Nat.reduceAdd] at hA
 have hP := hL0.put 0 (w.heap.size + 1 + 1) _ rfl [.int .u64 ((lo k : Nat) : Int), .string (hs k), .bool u] rfl
 simp only [setAll, List.set_cons_zero, List.set_cons_succ] at hP
 generalize hput1 : (((x2.setCell ⟨w.heap.size + 1 + 1, 0, none⟩ (.int .u64 ((lo k : Nat) : Int))).setCell ⟨w.heap.size + 1 + 1, 1, none⟩ (.string (hs k))).setCell ⟨w.heap.size + 1 + 1, 2, none⟩ (.bool u)) = x3 at hP
 have hB1 := hP.fc
 simp only [fcG, cellsF, neK, and_true, ne_eq, Nat.zero_add, Nat.reduceAdd] at hB1
 replace hL0 := hP
 go_wp2_with fail
 exact bodyPost_ret (v := zV u k) (by simp [results, Tryz.results143, go_sem, hB1]) rfl ⟨rfl, hL0.bl⟩
set_option maxHeartbeats 4000000 in
set_option maxRecDepth 100000 in
theorem bysub_false_false (m n k : Nat) (u : Bool) (H : ∀ w, Calls Tryz.prog 144 #[zV false m, natV n] w fun e w' => e = .returned (zV u k) ∧ Below w.heap.size w w') (w : World) :
  Calls Tryz.prog 143 #[zV false m, zV false n, .func (.func 144) #[] #[], .func (.func 145) #[] #[]] w fun e w' => e = .returned (zV u k) ∧ Below w.heap.size w w' := by
 have hL0 : GL w w [] := GL.start w
 replace H := Lib.hid H
 replace hL0 := (((hL0.new rfl [.int .u64 ((lo m : Nat) : Int), .string (hs m), .bool false] 32).new (K := w.heap.size + 1) (szA _ _) [.int .u64 ((lo n : Nat) : Int), .string (hs n), .bool false] 32).new (K := w.heap.size + 1 + 1) (by simp only [World.size_alloc]) [.int .u64 0, .string ⟨#[]⟩, .bool false] 32)
 generalize hweq : (((w.alloc (.cells #[.int .u64 ((lo m : Nat) : Int), .string (hs m), .bool false] 32)).alloc (.cells #[.int .u64 ((lo n : Nat) : Int), .string (hs n), .bool false] 32)).alloc (.cells #[.int .u64 0, .string ⟨#[]⟩, .bool false] 32)) = x1 at hL0
 go_enter Tryz.func143, Tryz.ntmps143
 have hA := hL0.fc
 simp only [fcG, cellsF, neK, and_true, ne_eq, Nat.zero_add, Nat.reduceAdd] at hA
 go_wp2_with fail
 clear hA
 with_reducible refine Calls.mono (H.out _) ?_
 rintro e x2 ⟨rfl, hb⟩
 replace hL0 := hL0.call hb
 clear hb hweq
 have hA := hL0.fc
 simp only [fcG, cellsF, neK, and_true, ne_eq, Nat.zero_add, Nat.reduceAdd] at hA
 have hP := hL0.put 0 (w.heap.size + 1 + 1) _ rfl [.int .u64 ((lo k : Nat) : Int), .string (hs k), .bool u] rfl
 simp only [setAll, List.set_cons_zero, List.set_cons_succ] at hP
 generalize hput1 : (((x2.setCell ⟨w.heap.size + 1 + 1, 0, none⟩ (.int .u64 ((lo k : Nat) : Int))).setCell ⟨w.heap.size + 1 + 1, 1, none⟩ (.string (hs k))).setCell ⟨w.heap.size + 1 + 1, 2, none⟩ (.bool u)) = x3 at hP
 have hB1 := hP.fc
 simp only [fcG, cellsF, neK, and_true, ne_eq, Nat.zero_add, Nat.reduceAdd] at hB1
 replace hL0 := hP
 go_wp2_with fail
 exact bodyPost_ret (v := zV u k) (by simp [results, Tryz.results143, go_sem, hB1]) rfl ⟨rfl, hL0.bl⟩
set_option maxHeartbeats 4000000 in
set_option maxRecDepth 100000 in
theorem isub (s t u : Bool) (m n k : Nat) (H : ∀ w, Calls Tryz.prog 143 #[zV s m, zV t n, .func (.func 144) #[] #[], .func (.func 145) #[] #[]] w fun e w' => e = .returned (zV u k) ∧ Below w.heap.size w w') (w : World) :
  Calls Tryz.prog 87 #[zV s m, zV t n] w fun e w' => e = .returned (zV u k) ∧ Below w.heap.size w w' := by
 have hL0 : GL w w [] := GL.start w
 replace H := Lib.hid H
 replace hL0 := (((hL0.new rfl [.int .u64 ((lo m : Nat) : Int), .string (hs m), .bool s] 32).new (K := w.heap.size + 1) (szA _ _) [.int .u64 ((lo n : Nat) : Int), .string (hs n), .bool t] 32).new (K := w.heap.size + 1 + 1) (by simp only [World.size_alloc]) [.int .u64 0, .string ⟨#[]⟩, .bool false] 32)
 generalize hweq : (((w.alloc (.cells #[.int .u64 ((lo m : Nat) : Int), .string (hs m), .bool s] 32)).alloc (.cells #[.int .u64 ((lo n : Nat) : Int), .string (hs n), .bool t] 32)).alloc (.cells #[.int .u64 0, .string ⟨#[]⟩, .bool false] 32)) = x1 at hL0
 go_enter Tryz.func87, Tryz.ntmps87
 have hA := hL0.fc
 simp only [fcG, cellsF, neK, and_true, ne_eq, Nat.zero_add, Nat.reduceAdd] at hA
 go_wp2_with fail
 clear hA
 with_reducible refine Calls.mono (H.out _) ?_
 rintro e x2 ⟨rfl, hb⟩
 replace hL0 := hL0.call hb
 clear hb hweq
 have hA := hL0.fc
 simp only [fcG, cellsF, neK, and_true, ne_eq, Nat.zero_add, Nat.reduceAdd] at hA
 have hP := hL0.put 0 (w.heap.size + 1 + 1) _ rfl [.int .u64 ((lo k : Nat) : Int), .string (hs k), .bool u] rfl
 simp only [setAll, List.set_cons_zero, List.set_cons_succ] at hP
 generalize hput1 : (((x2.setCell ⟨w.heap.size + 1 + 1, 0, none⟩ (.int .u64 ((lo k : Nat) : Int))).setCell ⟨w.heap.size + 1 + 1, 1, none⟩ (.string (hs k))).setCell ⟨w.heap.size + 1 + 1, 2, none⟩ (.bool u)) = x3 at hP
 have hB1 := hP.fc
 simp only [fcG, cellsF, neK, and_true, ne_eq, Nat.zero_add, Nat.reduceAdd] at hB1
 replace hL0 := hP
 go_wp2_with fail
 exact bodyPost_ret (v := zV u k) (by simp [results, Tryz.results87, go_sem, hB1]) rfl ⟨rfl, hL0.bl⟩
end Go.Proofs.YtahfcciihkkegaaGreatDoor
namespace Go.Proofs.YtahfcciihkkegaaGreatDoor
open Go.RowKit
attribute [local irreducible] lo hs sm s64 c64 d64 b64 mh ml pd pc qd qc val hiB str cmpI srD lz nb isq decB
set_option maxHeartbeats 4000000 in
set_option maxRecDepth 100000 in
theorem idiv_true_true_1 (m n : Nat) (h0 : n ≠ 0) (hr : m % n = 0) (hm : (digs m).length ≤ 1000000000) (hn : (digs n).length ≤ 1000000000) (w : World) :
  Calls Tryz.prog 176 #[zV true m, zV true n] w fun e w' => e = .returned (.tuple #[zV false (m / n), zV false (0), .bool true]) ∧ Below w.heap.size w w' := by
 have hL0 : GL w w [] := GL.start w
 have HD := Lib.hid (fun w => div_pos m n (by omega) (by omega) w)
 have hlq : (digs (m / n)).length ≤ 1000000000 := Nat.le_trans (digs_mono (Nat.div_le_self m n)) hm
 have hrn : m % n < n := Nat.mod_lt _ (by omega)
 generalize m / n = q at *
 rw [hr] at HD
 clear hr hrn
 have e0 : (((lo 0 : Nat) : Int) == 0) = true := by rw [lo_small Bs_pos]; rfl
 have e1 : ((hs 0).toList == []) = true := by rw [hs_small Bs_pos, ByteArray.toList_eq]; rfl
 have HF := Lib.hid (fun w => from_any false q w)
 simp only [Bool.false_and] at HF
 have HG := Lib.hid (fun w => from_pos 0 w)
 clear hm hn h0 hlq
 replace hL0 := ((((hL0.new rfl [.int .u64 ((lo m : Nat) : Int), .string (hs m), .bool true] 32).new (K := w.heap.size + 1) (szA _ _) [.int .u64 ((lo n : Nat) : Int), .string (hs n), .bool true] 32).new (K := w.heap.size + 1 + 1) (by simp only [World.size_alloc]) [.int .u64 0, .string ⟨#[]⟩, .bool false] 32).new (K := w.heap.size + 1 + 1 + 1) (by simp only [World.size_alloc]) [.int .u64 0, .string ⟨#[]⟩, .bool false] 32)
 generalize hweq : ((((w.alloc (.cells #[.int .u64 ((lo m : Nat) : Int), .string (hs m), .bool true] 32)).alloc (.cells #[.int .u64 ((lo n : Nat) : Int), .string (hs n), .bool true] 32)).alloc (.cells #[.int .u64 0, .string ⟨#[]⟩, .bool false] 32)).alloc (.cells #[.int .u64 0, .string ⟨#[]⟩, .bool false] 32)) = x1 at hL0
 go_enter Tryz.func176, Tryz.ntmps176
 have hA := hL0.fc
 simp only [fcG, cellsF, neK, and_true, ne_eq, Nat.zero_add, Nat.reduceAdd] at hA
 go_wp2_with fail
 clear hA
 with_reducible refine Calls.mono (HD.out _) ?_
 rintro e x2 ⟨rfl, hb⟩
 replace hL0 := hL0.call hb
 clear hb hweq
 replace hL0 := ((hL0.new rfl [.int .u64 ((lo q : Nat) : Int), .string (hs q)] 30).new (K := x2.heap.size + 1) (szA _ _) [.int .u64 ((lo 0 : Nat) : Int), .string (hs 0)] 30)
 generalize hweq : ((x2.alloc (.cells #[.int .u64 ((lo q : Nat) : Int), .string (hs q)] 30)).alloc (.cells #[.int .u64 ((lo 0 : Nat) : Int), .string (hs 0)] 30)) = x3 at hL0
 have hA := hL0.fc
 simp only [fcG, cellsF, neK, and_true, ne_eq, Nat.zero_add, Nat.reduceAdd] at hA
 go_upto_region 7 with fail
 clear hA
 clear hweq
 obtain ⟨α, iα, F, hF1, hF2⟩ := cls x3
 have hq := GL.fcC hF1 hL0
 simp only [fcC, cellsC, and_true, Nat.zero_add, Nat.reduceAdd] at hq
 refine region_qs 9 (C := fun w' => ∃ x, w' = F x) (by kernel_rfl) (by kernel_rfl) (cls_drew hF2) ?_
 simp only [List.take_succ_cons, List.take_zero, List.drop_succ_cons, List.drop_zero, List.take_nil, List.drop_nil]
 repeat (go_big_quiet_step (first | fail | (go_at_call 69; with_reducible exact cls_call hF1 hF2 HF.out _) | (go_at_call 69; with_reducible exact cls_call hF1 hF2 HG.out _)))
 refine wpQuiet_nil ?_
 rintro wq ⟨xq, rfl⟩
 replace hL0 := hL0.call (hF1 xq)
 clear hq hF2
 generalize F xq = x4 at hL0 ⊢
 clear hF1 xq iα F α
 have hA := hL0.fc
 simp only [fcG, cellsF, neK, and_true, ne_eq, Nat.zero_add, Nat.reduceAdd] at hA
 have hP := hL0.put 3 (w.heap.size + 1 + 1) _ rfl [.int .u64 ((lo q : Nat) : Int), .string (hs q), .bool false] rfl
 simp only [setAll, List.set_cons_zero, List.set_cons_succ] at hP
 generalize hput1 : (((x4.setCell ⟨w.heap.size + 1 + 1, 0, none⟩ (.int .u64 ((lo q : Nat) : Int))).setCell ⟨w.heap.size + 1 + 1, 1, none⟩ (.string (hs q))).setCell ⟨w.heap.size + 1 + 1, 2, none⟩ (.bool false)) = x5 at hP
 have hB1 := hP.fc
 simp only [fcG, cellsF, neK, and_true, ne_eq, Nat.zero_add, Nat.reduceAdd] at hB1
 replace hL0 := hP
 have hP := hL0.put 2 (w.heap.size + 1 + 1 + 1) _ rfl [.int .u64 ((lo 0 : Nat) : Int), .string (hs 0), .bool false] rfl
 simp only [setAll, List.set_cons_zero, List.set_cons_succ] at hP
 generalize hput2 : (((x5.setCell ⟨w.heap.size + 1 + 1 + 1, 0, none⟩ (.int .u64 ((lo 0 : Nat) : Int))).setCell ⟨w.heap.size + 1 + 1 + 1, 1, none⟩ (.string (hs 0))).setCell ⟨w.heap.size + 1 + 1 + 1, 2, none⟩ (.bool false)) = x6 at hP
 have hB2 := hP.fc
 simp only [fcG, cellsF, neK, and_true, ne_eq, Nat.zero_add, Nat.reduceAdd] at hB2
 replace hL0 := hP
 go_wp2_with fail
 exact bodyPost_ret (v := .tuple #[zV false q, zV false 0, .bool true]) (by simp [results, Tryz.results176, go_sem, hB2]) rfl ⟨rfl, hL0.bl⟩
set_option maxHeartbeats 4000000 in
set_option maxRecDepth 100000 in
theorem idiv_true_true_2 (m n : Nat) (h0 : n ≠ 0) (hr : m % n ≠ 0) (hm : (digs m).length ≤ 1000000000) (hn : (digs n).length ≤ 1000000000) (w : World) :
  Calls Tryz.prog 176 #[zV true m, zV true n] w fun e w' => e = .returned (.tuple #[zV false (m / n + 1), zV false (n - m % n), .bool true]) ∧ Below w.heap.size w w' := by
 have hL0 : GL w w [] := GL.start w
 have HD := Lib.hid (fun w => div_pos m n (by omega) (by omega) w)
 have hlq : (digs (m / n)).length ≤ 1000000000 := Nat.le_trans (digs_mono (Nat.div_le_self m n)) hm
 have hrn : m % n < n := Nat.mod_lt _ (by omega)
 generalize m / n = q at *
 generalize m % n = r at *
 have HO := Lib.hid (fun w => of_val 1 1 rfl (by unfold Bs; omega) w)
 have HA := Lib.hid (fun w => add_any q 1 (by omega) (Nat.le_trans (digs_length_iff (k := 1).2 (by unfold Bs; decide)) (by omega)) w)
 have HS := Lib.hid (fun w => sub_ge n r (by omega) (by omega) w)
 generalize q + 1 = q1 at *
 generalize n - r = r1 at *
 have HF := Lib.hid (fun w => from_any false q1 w)
 simp only [Bool.false_and] at HF
 have HG := Lib.hid (fun w => from_pos r1 w)
 rcases ne0 hr with e0 | ⟨e0, e1⟩
 all_goals clear hm hn h0 hlq hrn hr
 all_goals (
  replace hL0 := ((((hL0.new rfl [.int .u64 ((lo m : Nat) : Int), .string (hs m), .bool true] 32).new (K := w.heap.size + 1) (szA _ _) [.int .u64 ((lo n : Nat) : Int), .string (hs n), .bool true] 32).new (K := w.heap.size + 1 + 1) (by simp only [World.size_alloc]) [.int .u64 0, .string ⟨#[]⟩, .bool false] 32).new (K := w.heap.size + 1 + 1 + 1) (by simp only [World.size_alloc]) [.int .u64 0, .string ⟨#[]⟩, .bool false] 32)
  generalize hweq : ((((w.alloc (.cells #[.int .u64 ((lo m : Nat) : Int), .string (hs m), .bool true] 32)).alloc (.cells #[.int .u64 ((lo n : Nat) : Int), .string (hs n), .bool true] 32)).alloc (.cells #[.int .u64 0, .string ⟨#[]⟩, .bool false] 32)).alloc (.cells #[.int .u64 0, .string ⟨#[]⟩, .bool false] 32)) = x1 at hL0
  go_enter Tryz.func176, Tryz.ntmps176
  have hA := hL0.fc
  simp only [fcG, cellsF, neK, and_true, ne_eq, Nat.zero_add, Nat.reduceAdd] at hA
  go_wp2_with fail
  clear hA
  with_reducible refine Calls.mono (HD.out _) ?_
  rintro e x2 ⟨rfl, hb⟩
  replace hL0 := hL0.call hb
  clear hb hweq
  replace hL0 := ((hL0.new rfl [.int .u64 ((lo q : Nat) : Int), .string (hs q)] 30).new (K := x2.heap.size + 1) (szA _ _) [.int .u64 ((lo r : Nat) : Int), .string (hs r)] 30)
  generalize hweq : ((x2.alloc (.cells #[.int .u64 ((lo q : Nat) : Int), .string (hs q)] 30)).alloc (.cells #[.int .u64 ((lo r : Nat) : Int), .string (hs r)] 30)) = x3 at hL0
  have hA := hL0.fc
  simp only [fcG, cellsF, neK, and_true, ne_eq, Nat.zero_add, Nat.reduceAdd] at hA
  go_upto_region 5 with fail
  clear hA
  clear hweq
  obtain ⟨α, iα, F, hF1, hF2⟩ := cls x3
  have hq := GL.fcC hF1 hL0
  simp only [fcC, cellsC, and_true, Nat.zero_add, Nat.reduceAdd] at hq
  refine region_qs 3 (C := fun w' => ∃ x, w' = F x) (by kernel_rfl) (by kernel_rfl) (cls_drew hF2) ?_
  simp only [List.take_succ_cons, List.take_zero, List.drop_succ_cons, List.drop_zero, List.take_nil, List.drop_nil]
  repeat (go_big_quiet_step (first | fail | (go_at_call 52; with_reducible exact cls_call hF1 hF2 HO.out _) | (go_at_call 49; with_reducible exact cls_call hF1 hF2 HA.out _)))
  refine wpQuiet_nil ?_
  rintro wq ⟨xq, rfl⟩
  replace hL0 := hL0.call (hF1 xq)
  clear hq hF2
  generalize F xq = x4 at hL0 ⊢
  clear hF1 xq iα F α
  have hA := hL0.fc
  simp only [fcG, cellsF, neK, and_true, ne_eq, Nat.zero_add, Nat.reduceAdd] at hA
  have hP := hL0.put 1 (x2.heap.size) _ rfl [.int .u64 ((lo q1 : Nat) : Int), .string (hs q1)] rfl
  simp only [setAll, List.set_cons_zero, List.set_cons_succ] at hP
  generalize hput1 : ((x4.setCell ⟨x2.heap.size, 0, none⟩ (.int .u64 ((lo q1 : Nat) : Int))).setCell ⟨x2.heap.size, 1, none⟩ (.string (hs q1))) = x5 at hP
  have hB1 := hP.fc
  simp only [fcG, cellsF, neK, and_true, ne_eq, Nat.zero_add, Nat.reduceAdd] at hB1
  replace hL0 := hP
  go_wp2_with fail
  clear hA
  with_reducible refine Calls.mono (HS.out _) ?_
  rintro e x6 ⟨rfl, hb⟩
  replace hL0 := hL0.call hb
  clear hb hput1 hB1
  have hA := hL0.fc
  simp only [fcG, cellsF, neK, and_true, ne_eq, Nat.zero_add, Nat.reduceAdd] at hA
  have hP := hL0.put 0 (x2.heap.size + 1) _ rfl [.int .u64 ((lo r1 : Nat) : Int), .string (hs r1)] rfl
  simp only [setAll, List.set_cons_zero, List.set_cons_succ] at hP
  generalize hput2 : ((x6.setCell ⟨x2.heap.size + 1, 0, none⟩ (.int .u64 ((lo r1 : Nat) : Int))).setCell ⟨x2.heap.size + 1, 1, none⟩ (.string (hs r1))) = x7 at hP
  have hB2 := hP.fc
  simp only [fcG, cellsF, neK, and_true, ne_eq, Nat.zero_add, Nat.reduceAdd] at hB2
  replace hL0 := hP
  go_upto_region 7 with fail
  clear hA
  clear hput2 hB2
  obtain ⟨α, iα, F, hF1, hF2⟩ := cls x7
  have hq := GL.fcC hF1 hL0
  simp only [fcC, cellsC, and_true, Nat.zero_add, Nat.reduceAdd] at hq
  refine region_qs 9 (C := fun w' => ∃ x, w' = F x) (by kernel_rfl) (by kernel_rfl) (cls_drew hF2) ?_
  simp only [List.take_succ_cons, List.take_zero, List.drop_succ_cons, List.drop_zero, List.take_nil, List.drop_nil]
  repeat (go_big_quiet_step (first | fail | (go_at_call 69; with_reducible exact cls_call hF1 hF2 HF.out _) | (go_at_call 69; with_reducible exact cls_call hF1 hF2 HG.out _)))
  refine wpQuiet_nil ?_
  rintro wq ⟨xq, rfl⟩
  replace hL0 := hL0.call (hF1 xq)
  clear hq hF2
  generalize F xq = x8 at hL0 ⊢
  clear hF1 xq iα F α
  have hA := hL0.fc
  simp only [fcG, cellsF, neK, and_true, ne_eq, Nat.zero_add, Nat.reduceAdd] at hA
  have hP := hL0.put 3 (w.heap.size + 1 + 1) _ rfl [.int .u64 ((lo q1 : Nat) : Int), .string (hs q1), .bool false] rfl
  simp only [setAll, List.set_cons_zero, List.set_cons_succ] at hP
  generalize hput3 : (((x8.setCell ⟨w.heap.size + 1 + 1, 0, none⟩ (.int .u64 ((lo q1 : Nat) : Int))).setCell ⟨w.heap.size + 1 + 1, 1, none⟩ (.string (hs q1))).setCell ⟨w.heap.size + 1 + 1, 2, none⟩ (.bool false)) = x9 at hP
  have hB3 := hP.fc
  simp only [fcG, cellsF, neK, and_true, ne_eq, Nat.zero_add, Nat.reduceAdd] at hB3
  replace hL0 := hP
  have hP := hL0.put 2 (w.heap.size + 1 + 1 + 1) _ rfl [.int .u64 ((lo r1 : Nat) : Int), .string (hs r1), .bool false] rfl
  simp only [setAll, List.set_cons_zero, List.set_cons_succ] at hP
  generalize hput4 : (((x9.setCell ⟨w.heap.size + 1 + 1 + 1, 0, none⟩ (.int .u64 ((lo r1 : Nat) : Int))).setCell ⟨w.heap.size + 1 + 1 + 1, 1, none⟩ (.string (hs r1))).setCell ⟨w.heap.size + 1 + 1 + 1, 2, none⟩ (.bool false)) = x10 at hP
  have hB4 := hP.fc
  simp only [fcG, cellsF, neK, and_true, ne_eq, Nat.zero_add, Nat.reduceAdd] at hB4
  replace hL0 := hP
  go_wp2_with fail
  exact bodyPost_ret (v := .tuple #[zV false q1, zV false r1, .bool true]) (by simp [results, Tryz.results176, go_sem, hB4]) rfl ⟨rfl, hL0.bl⟩)
set_option maxHeartbeats 4000000 in
set_option maxRecDepth 100000 in
theorem idiv_true_false_1 (m n : Nat) (h0 : n ≠ 0) (hr : m % n = 0) (hm : (digs m).length ≤ 1000000000) (hn : (digs n).length ≤ 1000000000) (w : World) :
  Calls Tryz.prog 176 #[zV true m, zV false n] w fun e w' => e = .returned (.tuple #[zV (decide (m / n ≠ 0)) (m / n), zV false (0), .bool true]) ∧ Below w.heap.size w w' := by
 have hL0 : GL w w [] := GL.start w
 have HD := Lib.hid (fun w => div_pos m n (by omega) (by omega) w)
 have hlq : (digs (m / n)).length ≤ 1000000000 := Nat.le_trans (digs_mono (Nat.div_le_self m n)) hm
 have hrn : m % n < n := Nat.mod_lt _ (by omega)
 generalize m / n = q at *
 rw [hr] at HD
 clear hr hrn
 have e0 : (((lo 0 : Nat) : Int) == 0) = true := by rw [lo_small Bs_pos]; rfl
 have e1 : ((hs 0).toList == []) = true := by rw [hs_small Bs_pos, ByteArray.toList_eq]; rfl
 have HF := Lib.hid (fun w => from_any true q w)
 simp only [Bool.true_and] at HF
 obtain ⟨d, hd⟩ : ∃ d, d = decide (q ≠ 0) := ⟨_, rfl⟩
 rw [← hd] at HF ⊢
 clear hd
 have HG := Lib.hid (fun w => from_pos 0 w)
 clear hm hn h0 hlq
 replace hL0 := ((((hL0.new rfl [.int .u64 ((lo m : Nat) : Int), .string (hs m), .bool true] 32).new (K := w.heap.size + 1) (szA _ _) [.int .u64 ((lo n : Nat) : Int), .string (hs n), .bool false] 32).new (K := w.heap.size + 1 + 1) (by simp only [World.size_alloc]) [.int .u64 0, .string ⟨#[]⟩, .bool false] 32).new (K := w.heap.size + 1 + 1 + 1) (by simp only [World.size_alloc]) [.int .u64 0, .string ⟨#[]⟩, .bool false] 32)
 generalize hweq : ((((w.alloc (.cells #[.int .u64 ((lo m : Nat) : Int), .string (hs m), .bool true] 32)).alloc (.cells #[.int .u64 ((lo n : Nat) : Int), .string (hs n), .bool false] 32)).alloc (.cells #[.int .u64 0, .string ⟨#[]⟩, .bool false] 32)).alloc (.cells #[.int .u64 0, .string ⟨#[]⟩, .bool false] 32)) = x1 at hL0
 go_enter Tryz.func176, Tryz.ntmps176
 have hA := hL0.fc
 simp only [fcG, cellsF, neK, and_true, ne_eq, Nat.zero_add, Nat.reduceAdd] at hA
 go_wp2_with fail
 clear hA
 with_reducible refine Calls.mono (HD.out _) ?_
 rintro e x2 ⟨rfl, hb⟩
 replace hL0 := hL0.call hb
 clear hb hweq
 replace hL0 := ((hL0.new rfl [.int .u64 ((lo q : Nat) : Int), .string (hs q)] 30).new (K := x2.heap.size + 1) (szA _ _) [.int .u64 ((lo 0 : Nat) : Int), .string (hs 0)] 30)
 generalize hweq : ((x2.alloc (.cells #[.int .u64 ((lo q : Nat) : Int), .string (hs q)] 30)).alloc (.cells #[.int .u64 ((lo 0 : Nat) : Int), .string (hs 0)] 30)) = x3 at hL0
 have hA := hL0.fc
 simp only [fcG, cellsF, neK, and_true, ne_eq, Nat.zero_add, Nat.reduceAdd] at hA
 go_upto_region 7 with fail
 clear hA
 clear hweq
 obtain ⟨α, iα, F, hF1, hF2⟩ := cls x3
 have hq := GL.fcC hF1 hL0
 simp only [fcC, cellsC, and_true, Nat.zero_add, Nat.reduceAdd] at hq
 refine region_qs 9 (C := fun w' => ∃ x, w' = F x) (by kernel_rfl) (by kernel_rfl) (cls_drew hF2) ?_
 simp only [List.take_succ_cons, List.take_zero, List.drop_succ_cons, List.drop_zero, List.take_nil, List.drop_nil]
 repeat (go_big_quiet_step (first | fail | (go_at_call 69; with_reducible exact cls_call hF1 hF2 HF.out _) | (go_at_call 69; with_reducible exact cls_call hF1 hF2 HG.out _)))
 refine wpQuiet_nil ?_
 rintro wq ⟨xq, rfl⟩
 replace hL0 := hL0.call (hF1 xq)
 clear hq hF2
 generalize F xq = x4 at hL0 ⊢
 clear hF1 xq iα F α
 have hA := hL0.fc
 simp only [fcG, cellsF, neK, and_true, ne_eq, Nat.zero_add, Nat.reduceAdd] at hA
 have hP := hL0.put 3 (w.heap.size + 1 + 1) _ rfl [.int .u64 ((lo q : Nat) : Int), .string (hs q), .bool d] rfl
 simp only [setAll, List.set_cons_zero, List.set_cons_succ] at hP
 generalize hput1 : (((x4.setCell ⟨w.heap.size + 1 + 1, 0, none⟩ (.int .u64 ((lo q : Nat) : Int))).setCell ⟨w.heap.size + 1 + 1, 1, none⟩ (.string (hs q))).setCell ⟨w.heap.size + 1 + 1, 2, none⟩ (.bool d)) = x5 at hP
 have hB1 := hP.fc
 simp only [fcG, cellsF, neK, and_true, ne_eq, Nat.zero_add, Nat.reduceAdd] at hB1
 replace hL0 := hP
 have hP := hL0.put 2 (w.heap.size + 1 + 1 + 1) _ rfl [.int .u64 ((lo 0 : Nat) : Int), .string (hs 0), .bool false] rfl
 simp only [setAll, List.set_cons_zero, List.set_cons_succ] at hP
 generalize hput2 : (((x5.setCell ⟨w.heap.size + 1 + 1 + 1, 0, none⟩ (.int .u64 ((lo 0 : Nat) : Int))).setCell ⟨w.heap.size + 1 + 1 + 1, 1, none⟩ (.string (hs 0))).setCell ⟨w.heap.size + 1 + 1 + 1, 2, none⟩ (.bool false)) = x6 at hP
 have hB2 := hP.fc
 simp only [fcG, cellsF, neK, and_true, ne_eq, Nat.zero_add, Nat.reduceAdd] at hB2
 replace hL0 := hP
 go_wp2_with fail
 exact bodyPost_ret (v := .tuple #[zV d q, zV false 0, .bool true]) (by simp [results, Tryz.results176, go_sem, hB2]) rfl ⟨rfl, hL0.bl⟩
set_option maxHeartbeats 4000000 in
set_option maxRecDepth 100000 in
theorem idiv_true_false_2 (m n : Nat) (h0 : n ≠ 0) (hr : m % n ≠ 0) (hm : (digs m).length ≤ 1000000000) (hn : (digs n).length ≤ 1000000000) (w : World) :
  Calls Tryz.prog 176 #[zV true m, zV false n] w fun e w' => e = .returned (.tuple #[zV (decide (m / n + 1 ≠ 0)) (m / n + 1), zV false (n - m % n), .bool true]) ∧ Below w.heap.size w w' := by
 have hL0 : GL w w [] := GL.start w
 have HD := Lib.hid (fun w => div_pos m n (by omega) (by omega) w)
 have hlq : (digs (m / n)).length ≤ 1000000000 := Nat.le_trans (digs_mono (Nat.div_le_self m n)) hm
 have hrn : m % n < n := Nat.mod_lt _ (by omega)
 generalize m / n = q at *
 generalize m % n = r at *
 have HO := Lib.hid (fun w => of_val 1 1 rfl (by unfold Bs; omega) w)
 have HA := Lib.hid (fun w => add_any q 1 (by omega) (Nat.le_trans (digs_length_iff (k := 1).2 (by unfold Bs; decide)) (by omega)) w)
 have HS := Lib.hid (fun w => sub_ge n r (by omega) (by omega) w)
 generalize q + 1 = q1 at *
 generalize n - r = r1 at *
 have HF := Lib.hid (fun w => from_any true q1 w)
 simp only [Bool.true_and] at HF
 obtain ⟨d, hd⟩ : ∃ d, d = decide (q1 ≠ 0) := ⟨_, rfl⟩
 rw [← hd] at HF ⊢
 clear hd
 have HG := Lib.hid (fun w => from_pos r1 w)
 rcases ne0 hr with e0 | ⟨e0, e1⟩
 all_goals clear hm hn h0 hlq hrn hr
 all_goals (
  replace hL0 := ((((hL0.new rfl [.int .u64 ((lo m : Nat) : Int), .string (hs m), .bool true] 32).new (K := w.heap.size + 1) (szA _ _) [.int .u64 ((lo n : Nat) : Int), .string (hs n), .bool false] 32).new (K := w.heap.size + 1 + 1) (by simp only [World.size_alloc]) [.int .u64 0, .string ⟨#[]⟩, .bool false] 32).new (K := w.heap.size + 1 + 1 + 1) (by simp only [World.size_alloc]) [.int .u64 0, .string ⟨#[]⟩, .bool false] 32)
  generalize hweq : ((((w.alloc (.cells #[.int .u64 ((lo m : Nat) : Int), .string (hs m), .bool true] 32)).alloc (.cells #[.int .u64 ((lo n : Nat) : Int), .string (hs n), .bool false] 32)).alloc (.cells #[.int .u64 0, .string ⟨#[]⟩, .bool false] 32)).alloc (.cells #[.int .u64 0, .string ⟨#[]⟩, .bool false] 32)) = x1 at hL0
  go_enter Tryz.func176, Tryz.ntmps176
  have hA := hL0.fc
  simp only [fcG, cellsF, neK, and_true, ne_eq, Nat.zero_add, Nat.reduceAdd] at hA
  go_wp2_with fail
  clear hA
  with_reducible refine Calls.mono (HD.out _) ?_
  rintro e x2 ⟨rfl, hb⟩
  replace hL0 := hL0.call hb
  clear hb hweq
  replace hL0 := ((hL0.new rfl [.int .u64 ((lo q : Nat) : Int), .string (hs q)] 30).new (K := x2.heap.size + 1) (szA _ _) [.int .u64 ((lo r : Nat) : Int), .string (hs r)] 30)
  generalize hweq : ((x2.alloc (.cells #[.int .u64 ((lo q : Nat) : Int), .string (hs q)] 30)).alloc (.cells #[.int .u64 ((lo r : Nat) : Int), .string (hs r)] 30)) = x3 at hL0
  have hA := hL0.fc
  simp only [fcG, cellsF, neK, and_true, ne_eq, Nat.zero_add, Nat.reduceAdd] at hA
  go_upto_region 5 with fail
  clear hA
  clear hweq
  obtain ⟨α, iα, F, hF1, hF2⟩ := cls x3
  have hq := GL.fcC hF1 hL0
  simp only [fcC, cellsC, and_true, Nat.zero_add, Nat.reduceAdd] at hq
  refine region_qs 3 (C := fun w' => ∃ x, w' = F x) (by kernel_rfl) (by kernel_rfl) (cls_drew hF2) ?_
  simp only [List.take_succ_cons, List.take_zero, List.drop_succ_cons, List.drop_zero, List.take_nil, List.drop_nil]
  repeat (go_big_quiet_step (first | fail | (go_at_call 52; with_reducible exact cls_call hF1 hF2 HO.out _) | (go_at_call 49; with_reducible exact cls_call hF1 hF2 HA.out _)))
  refine wpQuiet_nil ?_
  rintro wq ⟨xq, rfl⟩
  replace hL0 := hL0.call (hF1 xq)
  clear hq hF2
  generalize F xq = x4 at hL0 ⊢
  clear hF1 xq iα F α
  have hA := hL0.fc
  simp only [fcG, cellsF, neK, and_true, ne_eq, Nat.zero_add, Nat.reduceAdd] at hA
  have hP := hL0.put 1 (x2.heap.size) _ rfl [.int .u64 ((lo q1 : Nat) : Int), .string (hs q1)] rfl
  simp only [setAll, List.set_cons_zero, List.set_cons_succ] at hP
  generalize hput1 : ((x4.setCell ⟨x2.heap.size, 0, none⟩ (.int .u64 ((lo q1 : Nat) : Int))).setCell ⟨x2.heap.size, 1, none⟩ (.string (hs q1))) = x5 at hP
  have hB1 := hP.fc
  simp only [fcG, cellsF, neK, and_true, ne_eq, Nat.zero_add, Nat.reduceAdd] at hB1
  replace hL0 := hP
  go_wp2_with fail
  clear hA
  with_reducible refine Calls.mono (HS.out _) ?_
  rintro e x6 ⟨rfl, hb⟩
  replace hL0 := hL0.call hb
  clear hb hput1 hB1
  have hA := hL0.fc
  simp only [fcG, cellsF, neK, and_true, ne_eq, Nat.zero_add, Nat.reduceAdd] at hA
  have hP := hL0.put 0 (x2.heap.size + 1) _ rfl [.int .u64 ((lo r1 : Nat) : Int), .string (hs r1)] rfl
  simp only [setAll, List.set_cons_zero, List.set_cons_succ] at hP
  generalize hput2 : ((x6.setCell ⟨x2.heap.size + 1, 0, none⟩ (.int .u64 ((lo r1 : Nat) : Int))).setCell ⟨x2.heap.size + 1, 1, none⟩ (.string (hs r1))) = x7 at hP
  have hB2 := hP.fc
  simp only [fcG, cellsF, neK, and_true, ne_eq, Nat.zero_add, Nat.reduceAdd] at hB2
  replace hL0 := hP
  go_upto_region 7 with fail
  clear hA
  clear hput2 hB2
  obtain ⟨α, iα, F, hF1, hF2⟩ := cls x7
  have hq := GL.fcC hF1 hL0
  simp only [fcC, cellsC, and_true, Nat.zero_add, Nat.reduceAdd] at hq
  refine region_qs 9 (C := fun w' => ∃ x, w' = F x) (by kernel_rfl) (by kernel_rfl) (cls_drew hF2) ?_
  simp only [List.take_succ_cons, List.take_zero, List.drop_succ_cons, List.drop_zero, List.take_nil, List.drop_nil]
  repeat (go_big_quiet_step (first | fail | (go_at_call 69; with_reducible exact cls_call hF1 hF2 HF.out _) | (go_at_call 69; with_reducible exact cls_call hF1 hF2 HG.out _)))
  refine wpQuiet_nil ?_
  rintro wq ⟨xq, rfl⟩
  replace hL0 := hL0.call (hF1 xq)
  clear hq hF2
  generalize F xq = x8 at hL0 ⊢
  clear hF1 xq iα F α
  have hA := hL0.fc
  simp only [fcG, cellsF, neK, and_true, ne_eq, Nat.zero_add, Nat.reduceAdd] at hA
  have hP := hL0.put 3 (w.heap.size + 1 + 1) _ rfl [.int .u64 ((lo q1 : Nat) : Int), .string (hs q1), .bool d] rfl
  simp only [setAll, List.set_cons_zero, List.set_cons_succ] at hP
  generalize hput3 : (((x8.setCell ⟨w.heap.size + 1 + 1, 0, none⟩ (.int .u64 ((lo q1 : Nat) : Int))).setCell ⟨w.heap.size + 1 + 1, 1, none⟩ (.string (hs q1))).setCell ⟨w.heap.size + 1 + 1, 2, none⟩ (.bool d)) = x9 at hP
  have hB3 := hP.fc
  simp only [fcG, cellsF, neK, and_true, ne_eq, Nat.zero_add, Nat.reduceAdd] at hB3
  replace hL0 := hP
  have hP := hL0.put 2 (w.heap.size + 1 + 1 + 1) _ rfl [.int .u64 ((lo r1 : Nat) : Int), .string (hs r1), .bool false] rfl
  simp only [setAll, List.set_cons_zero, List.set_cons_succ] at hP
  generalize hput4 : (((x9.setCell ⟨w.heap.size + 1 + 1 + 1, 0, none⟩ (.int .u64 ((lo r1 : Nat) : Int))).setCell ⟨w.heap.size + 1 + 1 + 1, 1, none⟩ (.string (hs r1))).setCell ⟨w.heap.size + 1 + 1 + 1, 2, none⟩ (.bool false)) = x10 at hP
  have hB4 := hP.fc
  simp only [fcG, cellsF, neK, and_true, ne_eq, Nat.zero_add, Nat.reduceAdd] at hB4
  replace hL0 := hP
  go_wp2_with fail
  exact bodyPost_ret (v := .tuple #[zV d q1, zV false r1, .bool true]) (by simp [results, Tryz.results176, go_sem, hB4]) rfl ⟨rfl, hL0.bl⟩)
set_option maxHeartbeats 4000000 in
set_option maxRecDepth 100000 in
theorem idiv_false_true (m n : Nat) (h0 : n ≠ 0) (hm : (digs m).length ≤ 1000000000) (hn : (digs n).length ≤ 1000000000) (w : World) :
  Calls Tryz.prog 176 #[zV false m, zV true n] w fun e w' => e = .returned (.tuple #[zV (decide (m / n ≠ 0)) (m / n), zV false (m % n), .bool true]) ∧ Below w.heap.size w w' := by
 have hL0 : GL w w [] := GL.start w
 have HD := Lib.hid (fun w => div_pos m n (by omega) (by omega) w)
 have hlq : (digs (m / n)).length ≤ 1000000000 := Nat.le_trans (digs_mono (Nat.div_le_self m n)) hm
 have hrn : m % n < n := Nat.mod_lt _ (by omega)
 generalize m / n = q at *
 generalize m % n = r at *
 have HF := Lib.hid (fun w => from_any true q w)
 simp only [Bool.true_and] at HF
 obtain ⟨d, hd⟩ : ∃ d, d = decide (q ≠ 0) := ⟨_, rfl⟩
 rw [← hd] at HF ⊢
 clear hd
 have HG := Lib.hid (fun w => from_pos r w)
 clear hm hn h0 hlq hrn
 replace hL0 := ((((hL0.new rfl [.int .u64 ((lo m : Nat) : Int), .string (hs m), .bool false] 32).new (K := w.heap.size + 1) (szA _ _) [.int .u64 ((lo n : Nat) : Int), .string (hs n), .bool true] 32).new (K := w.heap.size + 1 + 1) (by simp only [World.size_alloc]) [.int .u64 0, .string ⟨#[]⟩, .bool false] 32).new (K := w.heap.size + 1 + 1 + 1) (by simp only [World.size_alloc]) [.int .u64 0, .string ⟨#[]⟩, .bool false] 32)
 generalize hweq : ((((w.alloc (.cells #[.int .u64 ((lo m : Nat) : Int), .string (hs m), .bool false] 32)).alloc (.cells #[.int .u64 ((lo n : Nat) : Int), .string (hs n), .bool true] 32)).alloc (.cells #[.int .u64 0, .string ⟨#[]⟩, .bool false] 32)).alloc (.cells #[.int .u64 0, .string ⟨#[]⟩, .bool false] 32)) = x1 at hL0
 go_enter Tryz.func176, Tryz.ntmps176
 have hA := hL0.fc
 simp only [fcG, cellsF, neK, and_true, ne_eq, Nat.zero_add, Nat.reduceAdd] at hA
 go_wp2_with fail
 clear hA
 with_reducible refine Calls.mono (HD.out _) ?_
 rintro e x2 ⟨rfl, hb⟩
 replace hL0 := hL0.call hb
 clear hb hweq
 replace hL0 := ((hL0.new rfl [.int .u64 ((lo q : Nat) : Int), .string (hs q)] 30).new (K := x2.heap.size + 1) (szA _ _) [.int .u64 ((lo r : Nat) : Int), .string (hs r)] 30)
 generalize hweq : ((x2.alloc (.cells #[.int .u64 ((lo q : Nat) : Int), .string (hs q)] 30)).alloc (.cells #[.int .u64 ((lo r : Nat) : Int), .string (hs r)] 30)) = x3 at hL0
 have hA := hL0.fc
 simp only [fcG, cellsF, neK, and_true, ne_eq, Nat.zero_add, Nat.reduceAdd] at hA
 go_upto_region 7 with fail
 clear hA
 clear hweq
 obtain ⟨α, iα, F, hF1, hF2⟩ := cls x3
 have hq := GL.fcC hF1 hL0
 simp only [fcC, cellsC, and_true, Nat.zero_add, Nat.reduceAdd] at hq
 refine region_qs 9 (C := fun w' => ∃ x, w' = F x) (by kernel_rfl) (by kernel_rfl) (cls_drew hF2) ?_
 simp only [List.take_succ_cons, List.take_zero, List.drop_succ_cons, List.drop_zero, List.take_nil, List.drop_nil]
 repeat (go_big_quiet_step (first | fail | (go_at_call 69; with_reducible exact cls_call hF1 hF2 HF.out _) | (go_at_call 69; with_reducible exact cls_call hF1 hF2 HG.out _)))
 refine wpQuiet_nil ?_
 rintro wq ⟨xq, rfl⟩
 replace hL0 := hL0.call (hF1 xq)
 clear hq hF2
 generalize F xq = x4 at hL0 ⊢
 clear hF1 xq iα F α
 have hA := hL0.fc
 simp only [fcG, cellsF, neK, and_true, ne_eq, Nat.zero_add, Nat.reduceAdd] at hA
 have hP := hL0.put 3 (w.heap.size + 1 + 1) _ rfl [.int .u64 ((lo q : Nat) : Int), .string (hs q), .bool d] rfl
 simp only [setAll, List.set_cons_zero, List.set_cons_succ] at hP
 generalize hput1 : (((x4.setCell ⟨w.heap.size + 1 + 1, 0, none⟩ (.int .u64 ((lo q : Nat) : Int))).setCell ⟨w.heap.size + 1 + 1, 1, none⟩ (.string (hs q))).setCell ⟨w.heap.size + 1 + 1, 2, none⟩ (.bool d)) = x5 at hP
 have hB1 := hP.fc
 simp only [fcG, cellsF, neK, and_true, ne_eq, Nat.zero_add, Nat.reduceAdd] at hB1
 replace hL0 := hP
 have hP := hL0.put 2 (w.heap.size + 1 + 1 + 1) _ rfl [.int .u64 ((lo r : Nat) : Int), .string (hs r), .bool false] rfl
 simp only [setAll, List.set_cons_zero, List.set_cons_succ] at hP
 generalize hput2 : (((x5.setCell ⟨w.heap.size + 1 + 1 + 1, 0, none⟩ (.int .u64 ((lo r : Nat) : Int))).setCell ⟨w.heap.size + 1 + 1 + 1, 1, none⟩ (.string (hs r))).setCell ⟨w.heap.size + 1 + 1 + 1, 2, none⟩ (.bool false)) = x6 at hP
 have hB2 := hP.fc
 simp only [fcG, cellsF, neK, and_true, ne_eq, Nat.zero_add, Nat.reduceAdd] at hB2
 replace hL0 := hP
 go_wp2_with fail
 exact bodyPost_ret (v := .tuple #[zV d q, zV false r, .bool true]) (by simp [results, Tryz.results176, go_sem, hB2]) rfl ⟨rfl, hL0.bl⟩
set_option maxHeartbeats 4000000 in
set_option maxRecDepth 100000 in
theorem idiv_false_false (m n : Nat) (h0 : n ≠ 0) (hm : (digs m).length ≤ 1000000000) (hn : (digs n).length ≤ 1000000000) (w : World) :
  Calls Tryz.prog 176 #[zV false m, zV false n] w fun e w' => e = .returned (.tuple #[zV false (m / n), zV false (m % n), .bool true]) ∧ Below w.heap.size w w' := by
 have hL0 : GL w w [] := GL.start w
 have HD := Lib.hid (fun w => div_pos m n (by omega) (by omega) w)
 have hlq : (digs (m / n)).length ≤ 1000000000 := Nat.le_trans (digs_mono (Nat.div_le_self m n)) hm
 have hrn : m % n < n := Nat.mod_lt _ (by omega)
 generalize m / n = q at *
 generalize m % n = r at *
 have HF := Lib.hid (fun w => from_any false q w)
 simp only [Bool.false_and] at HF
 have HG := Lib.hid (fun w => from_pos r w)
 clear hm hn h0 hlq hrn
 replace hL0 := ((((hL0.new rfl [.int .u64 ((lo m : Nat) : Int), .string (hs m), .bool false] 32).new (K := w.heap.size + 1) (szA _ _) [.int .u64 ((lo n : Nat) : Int), .string (hs n), .bool false] 32).new (K := w.heap.size + 1 + 1) (by simp only [World.size_alloc]) [.int .u64 0, .string ⟨#[]⟩, .bool false] 32).new (K := w.heap.size + 1 + 1 + 1) (by simp only [World.size_alloc]) [.int .u64 0, .string ⟨#[]⟩, .bool false] 32)
 generalize hweq : ((((w.alloc (.cells #[.int .u64 ((lo m : Nat) : Int), .string (hs m), .bool false] 32)).alloc (.cells #[.int .u64 ((lo n : Nat) : Int), .string (hs n), .bool false] 32)).alloc (.cells #[.int .u64 0, .string ⟨#[]⟩, .bool false] 32)).alloc (.cells #[.int .u64 0, .string ⟨#[]⟩, .bool false] 32)) = x1 at hL0
 go_enter Tryz.func176, Tryz.ntmps176
 have hA := hL0.fc
 simp only [fcG, cellsF, neK, and_true, ne_eq, Nat.zero_add, Nat.reduceAdd] at hA
 go_wp2_with fail
 clear hA
 with_reducible refine Calls.mono (HD.out _) ?_
 rintro e x2 ⟨rfl, hb⟩
 replace hL0 := hL0.call hb
 clear hb hweq
 replace hL0 := ((hL0.new rfl [.int .u64 ((lo q : Nat) : Int), .string (hs q)] 30).new (K := x2.heap.size + 1) (szA _ _) [.int .u64 ((lo r : Nat) : Int), .string (hs r)] 30)
 generalize hweq : ((x2.alloc (.cells #[.int .u64 ((lo q : Nat) : Int), .string (hs q)] 30)).alloc (.cells #[.int .u64 ((lo r : Nat) : Int), .string (hs r)] 30)) = x3 at hL0
 have hA := hL0.fc
 simp only [fcG, cellsF, neK, and_true, ne_eq, Nat.zero_add, Nat.reduceAdd] at hA
 go_upto_region 7 with fail
 clear hA
 clear hweq
 obtain ⟨α, iα, F, hF1, hF2⟩ := cls x3
 have hq := GL.fcC hF1 hL0
 simp only [fcC, cellsC, and_true, Nat.zero_add, Nat.reduceAdd] at hq
 refine region_qs 9 (C := fun w' => ∃ x, w' = F x) (by kernel_rfl) (by kernel_rfl) (cls_drew hF2) ?_
 simp only [List.take_succ_cons, List.take_zero, List.drop_succ_cons, List.drop_zero, List.take_nil, List.drop_nil]
 repeat (go_big_quiet_step (first | fail | (go_at_call 69; with_reducible exact cls_call hF1 hF2 HF.out _) | (go_at_call 69; with_reducible exact cls_call hF1 hF2 HG.out _)))
 refine wpQuiet_nil ?_
 rintro wq ⟨xq, rfl⟩
 replace hL0 := hL0.call (hF1 xq)
 clear hq hF2
 generalize F xq = x4 at hL0 ⊢
 clear hF1 xq iα F α
 have hA := hL0.fc
 simp only [fcG, cellsF, neK, and_true, ne_eq, Nat.zero_add, Nat.reduceAdd] at hA
 have hP := hL0.put 3 (w.heap.size + 1 + 1) _ rfl [.int .u64 ((lo q : Nat) : Int), .string (hs q), .bool false] rfl
 simp only [setAll, List.set_cons_zero, List.set_cons_succ] at hP
 generalize hput1 : (((x4.setCell ⟨w.heap.size + 1 + 1, 0, none⟩ (.int .u64 ((lo q : Nat) : Int))).setCell ⟨w.heap.size + 1 + 1, 1, none⟩ (.string (hs q))).setCell ⟨w.heap.size + 1 + 1, 2, none⟩ (.bool false)) = x5 at hP
 have hB1 := hP.fc
 simp only [fcG, cellsF, neK, and_true, ne_eq, Nat.zero_add, Nat.reduceAdd] at hB1
 replace hL0 := hP
 have hP := hL0.put 2 (w.heap.size + 1 + 1 + 1) _ rfl [.int .u64 ((lo r : Nat) : Int), .string (hs r), .bool false] rfl
 simp only [setAll, List.set_cons_zero, List.set_cons_succ] at hP
 generalize hput2 : (((x5.setCell ⟨w.heap.size + 1 + 1 + 1, 0, none⟩ (.int .u64 ((lo r : Nat) : Int))).setCell ⟨w.heap.size + 1 + 1 + 1, 1, none⟩ (.string (hs r))).setCell ⟨w.heap.size + 1 + 1 + 1, 2, none⟩ (.bool false)) = x6 at hP
 have hB2 := hP.fc
 simp only [fcG, cellsF, neK, and_true, ne_eq, Nat.zero_add, Nat.reduceAdd] at hB2
 replace hL0 := hP
 go_wp2_with fail
 exact bodyPost_ret (v := .tuple #[zV false q, zV false r, .bool true]) (by simp [results, Tryz.results176, go_sem, hB2]) rfl ⟨rfl, hL0.bl⟩
end Go.Proofs.YtahfcciihkkegaaGreatDoor
namespace Go.Proofs.YtahfcciihkkegaaGreatDoor
open Go.RowKit
attribute [local irreducible] lo hs sm s64 c64 d64 b64 mh ml pd pc qd qc val hiB str cmpI srD lz nb isq decB
theorem dec_size {n k : Nat} (hk : 0 < k) (h : (digs n).length ≤ k) : (Lib.decDigits n).length ≤ 20 * k := by
 refine (dec_length_lt (by omega)).2 (Nat.lt_of_lt_of_le (digs_length_iff.1 h) ?_)
 rw [Nat.pow_mul]
 exact Nat.pow_le_pow_left (by unfold Bs; decide) k
theorem txt_small {n k : Nat} (hk : 0 < k) (h : (digs n).length ≤ k) : (txt n).size ≤ 20 * k := dec_size hk h
set_option maxHeartbeats 4000000 in
set_option maxRecDepth 100000 in
theorem itext_false (m : Nat) (hm : (digs m).length ≤ 1000000) (w : World) (htab : Tab w) :
  Calls Tryz.prog 93 #[zV false m] w fun e w' => e = .returned (.string (txt m)) ∧ Below w.heap.size w w' := by
 have hL0 : GL w w [] := GL.start w
 have HT := Lib.hid (fun w h => text_any m (by omega) w h)
 clear hm
 replace hL0 := (hL0.new rfl [.int .u64 ((lo m : Nat) : Int), .string (hs m), .bool false] 32)
 generalize hweq : (w.alloc (.cells #[.int .u64 ((lo m : Nat) : Int), .string (hs m), .bool false] 32)) = x1 at hL0
 go_enter Tryz.func93, Tryz.ntmps93
 have hA := hL0.fc
 simp only [fcG, cellsF, neK, and_true, ne_eq, Nat.zero_add, Nat.reduceAdd] at hA
 go_wp2_with fail
 clear hA
 with_reducible refine Calls.mono (HT.out _ (htab.below hL0.bl)) ?_
 rintro e x2 ⟨rfl, hb⟩
 replace hL0 := hL0.call hb
 clear hb hweq
 have hA := hL0.fc
 simp only [fcG, cellsF, neK, and_true, ne_eq, Nat.zero_add, Nat.reduceAdd] at hA
 go_wp2_with fail
 exact bodyPost_ret (v := .string (txt m)) (by simp [results, Tryz.results93, go_sem, hA]) rfl ⟨rfl, hL0.bl⟩
set_option maxHeartbeats 4000000 in
set_option maxRecDepth 100000 in
theorem itext_true (m : Nat) (hm : (digs m).length ≤ 1000000) (w : World) (htab : Tab w) :
  Calls Tryz.prog 93 #[zV true m] w fun e w' => e = .returned (.string (ByteArray.mk #[45] ++ txt m)) ∧ Below w.heap.size w w' := by
 have hL0 : GL w w [] := GL.start w
 have HT := Lib.hid (fun w h => text_any m (by omega) w h)
 have hts := txt_small (k := 1000000) (by omega) hm
 clear hm
 generalize txt m = t at *
 have hts2 : ((t.size : Nat) : Int) ≤ 20000000 := by omega
 replace hL0 := (hL0.new rfl [.int .u64 ((lo m : Nat) : Int), .string (hs m), .bool true] 32)
 generalize hweq : (w.alloc (.cells #[.int .u64 ((lo m : Nat) : Int), .string (hs m), .bool true] 32)) = x1 at hL0
 go_enter Tryz.func93, Tryz.ntmps93
 have hA := hL0.fc
 simp only [fcG, cellsF, neK, and_true, ne_eq, Nat.zero_add, Nat.reduceAdd] at hA
 go_wp2_with fail
 clear hA
 with_reducible refine Calls.mono (HT.out _ (htab.below hL0.bl)) ?_
 rintro e x2 ⟨rfl, hb⟩
 replace hL0 := hL0.call hb
 clear hb hweq
 have hA := hL0.fc
 simp only [fcG, cellsF, neK, and_true, ne_eq, Nat.zero_add, Nat.reduceAdd] at hA
 go_wp2_with fail
 exact bodyPost_ret (v := .string (ByteArray.mk #[45] ++ t)) (by simp [results, Tryz.results93, go_sem, hA]) rfl ⟨rfl, hL0.bl⟩
end Go.Proofs.YtahfcciihkkegaaGreatDoor
namespace Go.Proofs.YtahfcciihkkegaaGreatDoor
open Go.RowKit
attribute [local irreducible] lo hs
def zl (z : Int) : Nat := lo z.natAbs
def zh (z : Int) : ByteArray := hs z.natAbs
def zs (z : Int) : Bool := decide (z < 0)
/-- An integer. -/
abbrev intV (z : Int) : Value := .agg #[.int .u64 ((zl z : Nat) : Int), .string (zh z), .bool (zs z)]
theorem intV_zV (z : Int) : intV z = zV (decide (z < 0)) z.natAbs := rfl
theorem res_f {z : Int} {k : Nat} (h : z = (k : Int)) : intV z = zV false k := by subst h; rw [intV_zV, decide_eq_false (by omega), Int.natAbs_natCast]
theorem res_m {z : Int} {k : Nat} (h : z = -(k : Int)) : intV z = zV (decide (k ≠ 0)) k := by
 subst h
 rw [intV_zV, Int.natAbs_neg, Int.natAbs_natCast]
 congr 1
 by_cases h0 : k = 0
 ·subst h0; rfl
 ·rw [decide_eq_true (by omega), decide_eq_true h0]
theorem res_t {z : Int} {k : Nat} (h : z = -(k : Int)) (h0 : k ≠ 0) : intV z = zV true k := by rw [res_m h, decide_eq_true h0]
theorem int_cases (z : Int) : (∃ m : Nat, z = (m : Int) ∧ intV z = zV false m) ∨ (∃ m : Nat, m ≠ 0 ∧ z = -(m : Int) ∧ intV z = zV true m) := by
 rcases Decidable.em (z < 0) with h | h
 ·exact .inr ⟨z.natAbs, by omega, by omega, res_t (by omega) (by omega)⟩
 ·exact .inl ⟨z.natAbs, by omega, res_f (by omega)⟩
/-- The words that an integer's absolute value takes. -/
abbrev dI (z : Int) : Nat := (digs z.natAbs).length
theorem dI_nat (n : Nat) : dI (n : Int) = (digs n).length := by unfold dI; rw [Int.natAbs_natCast]
theorem dI_neg (z : Int) : dI (-z) = dI z := by unfold dI; rw [Int.natAbs_neg]
theorem dI_add {x y : Int} {k : Nat} (hx : dI x ≤ k) (hy : dI y ≤ k) : dI (x + y) ≤ k + 1 :=
 Nat.le_trans (digs_mono (Int.natAbs_add_le x y)) (digs_add_le hx hy)
theorem dI_sub {x y : Int} {k : Nat} (hx : dI x ≤ k) (hy : dI y ≤ k) : dI (x - y) ≤ k + 1 := by
 rw [Int.sub_eq_add_neg]; exact dI_add hx (by rw [dI_neg]; exact hy)
theorem dI_mul {x y : Int} {k m : Nat} (hx : dI x ≤ k) (hy : dI y ≤ m) : dI (x * y) ≤ k + m := by
 unfold dI; rw [Int.natAbs_mul]; exact digs_mul_le hx hy
theorem dI_mono {x y : Int} (h : x.natAbs ≤ y.natAbs) : dI x ≤ dI y := digs_mono h
theorem fromI (s : Bool) (n : Nat) (z : Int) (hz : z = if s then -(n : Int) else (n : Int)) (w : World) : Calls Tryz.prog 69 #[.bool s, natV n] w fun e w' => e = .returned (intV z) ∧ Below w.heap.size w w' := by
 cases s with
 | false => rw [res_f (z := z) (by simpa using hz)]; exact from_pos n w
 | true =>
  rw [res_m (z := z) (by simpa using hz)]
  have := from_any true n w
  rwa [Bool.true_and] at this
theorem ofI (z : Int) (h1 : -9223372036854775808 ≤ z) (h2 : z < 9223372036854775808) (w : World) : Calls Tryz.prog 91 #[.int .i64 z] w fun e w' => e = .returned (intV z) ∧ Below w.heap.size w w' := by
 rcases Decidable.em (z < 0) with h | h
 ·obtain ⟨m, hm⟩ : ∃ m : Nat, z = -(m : Int) := ⟨z.natAbs, by omega⟩
  rw [res_t hm (by omega)]; exact ofn_any z m hm (by omega) (by omega) w
 ·obtain ⟨m, rfl⟩ : ∃ m : Nat, z = (m : Int) := ⟨z.natAbs, by omega⟩
  rw [res_f rfl]; exact ofp_any m (by omega) w
theorem absI (z : Int) (w : World) : Calls Tryz.prog 50 #[intV z] w fun e w' => e = .returned (natV z.natAbs) ∧ Below w.heap.size w w' := abs_any _ _ w
def sgn (z : Int) : Int := if z < 0 then -1 else if z = 0 then 0 else 1
theorem signI (z : Int) (w : World) : Calls Tryz.prog 92 #[intV z] w fun e w' => e = .returned (.int .i64 (sgn z)) ∧ Below w.heap.size w w' := by
 rcases int_cases z with ⟨m, rfl, h⟩ | ⟨m, h0, rfl, h⟩ <;> rw [h]
 ·by_cases h0 : m = 0
  ·subst h0; exact sign_zero w
  ·rw [show sgn (m : Int) = 1 by unfold sgn; rw [if_neg (by omega), if_neg (by omega)]]; exact sign_pos m h0 w
 ·rw [show sgn (-(m : Int)) = -1 by unfold sgn; rw [if_pos (by omega)]]; exact sign_neg m w
theorem negI (z : Int) (w : World) : Calls Tryz.prog 95 #[intV z] w fun e w' => e = .returned (intV (-z)) ∧ Below w.heap.size w w' := by
 rcases int_cases z with ⟨m, rfl, h⟩ | ⟨m, h0, rfl, h⟩ <;> rw [h]
 ·rw [res_m (z := -(m : Int)) rfl]; exact neg_false m w
 ·rw [res_f (z := -(-(m : Int))) (k := m) (by omega)]; exact neg_true m w
def cmpZ (x y : Int) : Int := if x < y then -1 else if x = y then 0 else 1
theorem cmpII (x y : Int) (w : World) : Calls Tryz.prog 84 #[intV x, intV y] w fun e w' => e = .returned (.int .i64 (cmpZ x y)) ∧ Below w.heap.size w w' := by
 rcases int_cases x with ⟨m, rfl, hx⟩ | ⟨m, hm, rfl, hx⟩ <;> rcases int_cases y with ⟨n, rfl, hy⟩ | ⟨n, hn, rfl, hy⟩ <;> rw [hx, hy]
 ·rw [show cmpZ (m : Int) (n : Int) = cmpI m n by unfold cmpZ cmpI; split <;> split <;> (try split) <;> (try split) <;> omega]; exact icmp_false_false m n w
 ·rw [show cmpZ (m : Int) (-(n : Int)) = 1 by unfold cmpZ; rw [if_neg (by omega), if_neg (by omega)]]; exact icmp_false_true m n w
 ·rw [show cmpZ (-(m : Int)) (n : Int) = -1 by unfold cmpZ; rw [if_pos (by omega)]]; exact icmp_true_false m n w
 ·rw [show cmpZ (-(m : Int)) (-(n : Int)) = cmpI n m by unfold cmpZ cmpI; split <;> split <;> (try split) <;> (try split) <;> omega]; exact icmp_true_true m n w
theorem mulI (x y : Int) (hx : dI x ≤ 1000000000) (hy : dI y ≤ 1000000000) (w : World) : Calls Tryz.prog 90 #[intV x, intV y] w fun e w' => e = .returned (intV (x * y)) ∧ Below w.heap.size w w' := by
 rcases int_cases x with ⟨m, rfl, ex⟩ | ⟨m, hm, rfl, ex⟩ <;> rcases int_cases y with ⟨n, rfl, ey⟩ | ⟨n, hn, rfl, ey⟩ <;> rw [ex, ey] <;> simp only [dI_neg, dI_nat] at hx hy
 ·rw [res_f (k := m * n) (by simp)]; exact imul_false_false m n hx hy w
 ·rw [res_m (k := m * n) (by simp [Int.mul_neg])]; exact imul_false_true m n hx hy w
 ·rw [res_m (k := m * n) (by simp [Int.neg_mul])]; exact imul_true_false m n hx hy w
 ·rw [res_f (k := m * n) (by simp [Int.neg_mul, Int.mul_neg])]; exact imul_true_true m n hx hy w
theorem subI (x y : Int) (hx : dI x ≤ 1000000000) (hy : dI y ≤ 1000000000) (w : World) : Calls Tryz.prog 87 #[intV x, intV y] w fun e w' => e = .returned (intV (x - y)) ∧ Below w.heap.size w w' := by
 rcases int_cases x with ⟨m, rfl, ex⟩ | ⟨m, hm, rfl, ex⟩ <;> rcases int_cases y with ⟨n, rfl, ey⟩ | ⟨n, hn, rfl, ey⟩ <;> rw [ex, ey] <;> simp only [dI_neg, dI_nat] at hx hy
 ·rcases Nat.lt_or_ge m n with h | h
  ·rw [res_m (k := n - m) (by omega)]; exact isub _ _ _ m n _ (bysub_false_false m n _ _ (in_false_lt m n h hx hy)) w
  ·rw [res_f (k := m - n) (by omega)]; exact isub _ _ _ m n _ (bysub_false_false m n _ _ (in_false_ge m n h hx hy)) w
 ·rw [res_f (k := m + n) (by omega)]; exact isub _ _ _ m n _ (bysub_false_true m n _ _ (out_false m n hx hy)) w
 ·rw [res_m (k := m + n) (by omega)]; exact isub _ _ _ m n _ (bysub_true_false m n _ _ (out_true m n hx hy)) w
 ·rcases Nat.lt_or_ge m n with h | h
  ·rw [res_f (k := n - m) (by omega)]; exact isub _ _ _ m n _ (bysub_true_true m n _ _ (in_true_lt m n h hx hy)) w
  ·rw [res_m (k := m - n) (by omega)]; exact isub _ _ _ m n _ (bysub_true_true m n _ _ (in_true_ge m n h hx hy)) w
theorem intV_zero : intV 0 = zV false 0 := res_f rfl
theorem ediv_neg_pos {m n : Nat} (h0 : n ≠ 0) (hr : m % n ≠ 0) : -(m : Int) / (n : Int) = -((m / n + 1 : Nat) : Int) ∧ -(m : Int) % (n : Int) = ((n - m % n : Nat) : Int) := by
 have h1 := Nat.div_add_mod m n
 have h2 := Nat.mod_lt m (Nat.pos_of_ne_zero h0)
 refine (Int.ediv_emod_unique (by omega)).2 ⟨?_, by omega, by omega⟩
 have h3 : (m : Int) = (n : Int) * ((m / n : Nat) : Int) + ((m % n : Nat) : Int) := by
  have := congrArg (fun x : Nat => (x : Int)) h1
  simpa using this.symm
 have h4 : (n : Int) * -((m / n + 1 : Nat) : Int) = -((n : Int) * ((m / n : Nat) : Int)) - (n : Int) := by
  rw [Int.mul_neg, Int.natCast_add, Int.mul_add]; omega
 rw [h4]
 generalize (n : Int) * ((m / n : Nat) : Int) = X at *
 omega
theorem ediv_neg_zero {m n : Nat} (h0 : n ≠ 0) (hr : m % n = 0) : -(m : Int) / (n : Int) = -((m / n : Nat) : Int) ∧ -(m : Int) % (n : Int) = 0 := by
 have h1 := Nat.div_add_mod m n
 refine (Int.ediv_emod_unique (by omega)).2 ⟨?_, by omega, by omega⟩
 rw [hr, Nat.add_zero] at h1
 have h3 : (m : Int) = (n : Int) * ((m / n : Nat) : Int) := by
  have := congrArg (fun x : Nat => (x : Int)) h1
  simpa using this.symm
 rw [Int.mul_neg]
 omega
theorem divI (x y : Int) (h0 : y ≠ 0) (hx : dI x ≤ 1000000000) (hy : dI y ≤ 1000000000) (w : World) : Calls Tryz.prog 176 #[intV x, intV y] w fun e w' => e = .returned (.tuple #[intV (x / y), intV (x % y), .bool true]) ∧ Below w.heap.size w w' := by
 rcases int_cases x with ⟨m, rfl, ex⟩ | ⟨m, hm, rfl, ex⟩ <;> rcases int_cases y with ⟨n, rfl, ey⟩ | ⟨n, hn, rfl, ey⟩ <;> rw [ex, ey] <;> simp only [dI_neg, dI_nat] at hx hy
 ·rw [← Int.natCast_ediv, ← Int.natCast_emod, res_f (k := m / n) rfl, res_f (k := m % n) rfl]; exact idiv_false_false m n (by omega) hx hy w
 ·rw [Int.ediv_neg, Int.emod_neg, ← Int.natCast_ediv, ← Int.natCast_emod, res_m (k := m / n) rfl, res_f (k := m % n) rfl]; exact idiv_false_true m n hn hx hy w
 ·by_cases hr : m % n = 0
  ·obtain ⟨e1, e2⟩ := ediv_neg_zero (m := m) (n := n) (by omega) hr
   rw [e1, e2, res_m (k := m / n) rfl, intV_zero]; exact idiv_true_false_1 m n (by omega) hr hx hy w
  ·obtain ⟨e1, e2⟩ := ediv_neg_pos (m := m) (n := n) (by omega) hr
   rw [e1, e2, res_m (k := m / n + 1) rfl, res_f (k := n - m % n) rfl]; exact idiv_true_false_2 m n (by omega) hr hx hy w
 ·rw [Int.ediv_neg, Int.emod_neg]
  by_cases hr : m % n = 0
  ·obtain ⟨e1, e2⟩ := ediv_neg_zero (m := m) (n := n) hn hr
   rw [e1, e2, res_f (k := m / n) (Int.neg_neg _), intV_zero]; exact idiv_true_true_1 m n hn hr hx hy w
  ·obtain ⟨e1, e2⟩ := ediv_neg_pos (m := m) (n := n) hn hr
   rw [e1, e2, res_f (k := m / n + 1) (Int.neg_neg _), res_f (k := n - m % n) rfl]; exact idiv_true_true_2 m n hn hr hx hy w
/-- The decimal form. -/
def ztxt (z : Int) : ByteArray := if z < 0 then ByteArray.mk #[45] ++ txt z.natAbs else txt z.natAbs
theorem textI (z : Int) (hz : dI z ≤ 1000000) (w : World) (htab : Tab w) : Calls Tryz.prog 93 #[intV z] w fun e w' => e = .returned (.string (ztxt z)) ∧ Below w.heap.size w w' := by
 rcases int_cases z with ⟨m, rfl, h⟩ | ⟨m, h0, rfl, h⟩ <;> rw [h] <;> simp only [dI_neg, dI_nat] at hz <;> unfold ztxt
 ·rw [if_neg (by omega), Int.natAbs_natCast]; exact itext_false m hz w htab
 ·rw [if_pos (by omega), Int.natAbs_neg, Int.natAbs_natCast]; exact itext_true m hz w htab
end Go.Proofs.YtahfcciihkkegaaGreatDoor
namespace Go.Proofs.YtahfcciihkkegaaGreatDoor
open Go.RowKit
attribute [local irreducible] lo hs
/-- The document's recursion. -/
def xgcd (a b : Int) : Int × Int × Int :=
 if h : b = 0 then ((a.natAbs : Int), sgn a, 0)
 else let r := xgcd b (a % b); (r.1, r.2.2, r.2.1 - a / b * r.2.2)
termination_by b.natAbs
decreasing_by
 have h1 := Int.emod_lt a h
 have h2 := Int.emod_nonneg a h
 omega
theorem xgcd_zero (a : Int) : xgcd a 0 = ((a.natAbs : Int), sgn a, 0) := by rw [xgcd]; simp
theorem xgcd_step {a b : Int} (h : b ≠ 0) : xgcd a b = ((xgcd b (a % b)).1, (xgcd b (a % b)).2.2, (xgcd b (a % b)).2.1 - a / b * (xgcd b (a % b)).2.2) := by rw [xgcd, dif_neg h]
theorem sgn_mul (a : Int) : sgn a * a = (a.natAbs : Int) := by unfold sgn; split <;> (try split) <;> simp <;> omega
/-- What the rounds keep. -/
structure GI (a b G X N Y : Int) : Prop where
 g : (xgcd a b).1 = (xgcd G N).1
 x : (xgcd a b).2.1 = (xgcd G N).2.1 * X + (xgcd G N).2.2 * Y
 s : (G = a ∧ X = 1 ∧ N = b ∧ Y = 0) ∨ (G = b ∧ X = 0 ∧ Y = 1 ∧ 0 ≤ N ∧ N < b.natAbs) ∨
  (0 < G ∧ 0 ≤ N ∧ N < G ∧ X.natAbs ≤ 3 * b.natAbs ∧ X.natAbs * N.natAbs + Y.natAbs * G.natAbs ≤ 3 * b.natAbs ∧ G ≤ b.natAbs)
theorem GI.start (a b : Int) : GI a b a 1 b 0 := ⟨rfl, by omega, .inl ⟨rfl, rfl, rfl, rfl⟩⟩
theorem GI.next {a b G X N Y : Int} (h : GI a b G X N Y) (hN : N ≠ 0) : GI a b N Y (G % N) (X - G / N * Y) := by
 have e := xgcd_step (a := G) hN
 have n1 := Int.emod_lt G hN
 have n2 := Int.emod_nonneg G hN
 have n3 := Int.mul_ediv_add_emod G N
 refine ⟨by rw [h.g, e], ?_, ?_⟩
 ·rw [h.x, e]
  show (xgcd N (G % N)).2.2 * X + ((xgcd N (G % N)).2.1 - G / N * (xgcd N (G % N)).2.2) * Y = _
  generalize (xgcd N (G % N)).2.1 = p
  generalize (xgcd N (G % N)).2.2 = q
  generalize G / N = c
  grind
 ·rcases h.s with ⟨rfl, rfl, rfl, rfl⟩ | ⟨rfl, rfl, rfl, h1, h2⟩ | ⟨h1, h2, h3, h4, h5, h6⟩
  ·exact .inr (.inl ⟨rfl, rfl, by omega, n2, n1⟩)
  ·refine .inr (.inr ⟨by omega, n2, by omega, by omega, ?_, by omega⟩)
   generalize hr : G % N = r at *
   generalize hq : G / N = q at *
   have e1 : (0 - q * 1).natAbs * N.natAbs = (N * q).natAbs := by rw [Int.natAbs_mul, Nat.mul_comm]; congr 1; omega
   have e2 : N * q = G - r := by omega
   rw [e1, e2]
   rw [show (1 : Int).natAbs = 1 from rfl, Nat.one_mul]
   omega
  ·have y1 : Y.natAbs ≤ 3 * b.natAbs := by
    have : Y.natAbs * 1 ≤ Y.natAbs * G.natAbs := Nat.mul_le_mul_left _ (by omega)
    omega
   refine .inr (.inr ⟨by omega, n2, by omega, y1, ?_, by omega⟩)
   have q0 : 0 ≤ G / N := Int.ediv_nonneg (by omega) (by omega)
   generalize hr : G % N = r at *
   generalize hq : G / N = q at *
   refine Nat.le_trans ?_ h5
   have t1 : (X - q * Y).natAbs ≤ X.natAbs + q.natAbs * Y.natAbs := by
    have := Int.natAbs_sub_le X (q * Y)
    rwa [Int.natAbs_mul] at this
   have t2 := Nat.mul_le_mul_right N.natAbs t1
   have t3 : G.natAbs = N.natAbs * q.natAbs + r.natAbs := by
    have : (N * q).natAbs = N.natAbs * q.natAbs := Int.natAbs_mul _ _
    have h0 : 0 ≤ N * q := Int.mul_nonneg (by omega) q0
    omega
   rw [t3, Nat.mul_add]
   rw [Nat.add_mul] at t2
   have t4 : Y.natAbs * (N.natAbs * q.natAbs) = q.natAbs * Y.natAbs * N.natAbs := by
    rw [Nat.mul_comm q.natAbs, Nat.mul_assoc, Nat.mul_comm q.natAbs]
   omega
theorem GI.bounds {a b G X N Y : Int} (h : GI a b G X N Y) {k : Nat} (ha : dI a ≤ k) (hb : dI b ≤ k) : dI G ≤ k ∧ dI N ≤ k ∧ dI X ≤ k + 1 ∧ (N ≠ 0 → dI Y ≤ k + 1) := by
 have h3 : ∀ z : Int, z.natAbs ≤ 3 * b.natAbs + 1 → dI z ≤ k + 1 := fun z hz => by
  have := digs_length_iff.1 hb
  refine digs_length_iff.2 ?_
  rw [Nat.pow_succ]
  have hB : 16 ≤ Bs := by unfold Bs; omega
  have hp : 0 < Bs ^ k := Nat.pow_pos (by omega)
  have h5 : Bs ^ k * 16 ≤ Bs ^ k * Bs := Nat.mul_le_mul_left _ hB
  generalize Bs ^ k = P at *
  generalize P * Bs = R at *
  omega
 rcases h.s with ⟨rfl, rfl, rfl, rfl⟩ | ⟨rfl, rfl, rfl, h1, h2⟩ | ⟨h1, h2, h3', h4, h5, h6⟩
 ·exact ⟨ha, hb, h3 1 (by omega), fun _ => h3 0 (by omega)⟩
 ·exact ⟨hb, Nat.le_trans (dI_mono (by omega)) hb, h3 0 (by omega), fun _ => h3 1 (by omega)⟩
 ·refine ⟨Nat.le_trans (dI_mono (by omega)) hb, Nat.le_trans (dI_mono (by omega)) hb, h3 X (by omega), fun _ => h3 Y ?_⟩
  have : Y.natAbs * 1 ≤ Y.natAbs * G.natAbs := Nat.mul_le_mul_left _ (by omega)
  omega
theorem GI.last {a b G X Y : Int} (h : GI a b G X 0 Y) : (xgcd a b).1 = sgn G * G ∧ (xgcd a b).2.1 = sgn G * X := by
 refine ⟨by rw [h.g, xgcd_zero, sgn_mul], ?_⟩
 rw [h.x, xgcd_zero]
 show sgn G * X + 0 * Y = _
 omega
end Go.Proofs.YtahfcciihkkegaaGreatDoor
namespace Go.Proofs.YtahfcciihkkegaaGreatDoor
open Go.RowKit
attribute [local irreducible] lo hs sm s64 c64 d64 b64 mh ml pd pc qd qc val hiB str cmpI srD lz nb isq decB zl zh zs
theorem new_int (w : World) : (Instr.alloc 32 true (.tuple #[])).run Tryz.prog w = .ok (.pointer (some ⟨w.heap.size, 0, none⟩)) (w.alloc (.cells #[.int .u64 0, .string ⟨#[]⟩, .bool false] 32)) := by
 simp [go_sem, Instr.alloc]
theorem hd_put3 {w : World} {k : Nat} {x0 x1 x2 : Value} (h : Hd w k [x0, x1, x2]) (v0 v1 v2 : Value) : Hd (((w.setCell ⟨k, 0, none⟩ v0).setCell ⟨k, 1, none⟩ v1).setCell ⟨k, 2, none⟩ v2) k [v0, v1, v2] :=
 setAll_hd [v0, v1, v2] 0 w k [] [x0, x1, x2] rfl rfl h
theorem put_int (i0 i : Int) (s0 s : ByteArray) (b0 b : Bool) (w : World) (k : Nat) (h : Hd w k [.int .u64 i0, .string s0, .bool b0]) :
  ∃ w', (Instr.storeAt 32 (.pointer (some ⟨k, 0, none⟩)) (.agg #[.int .u64 i, .string s, .bool b])).run Tryz.prog w = .ok () w' ∧ Hd w' k [.int .u64 i, .string s, .bool b] ∧ Upd k w w' := by
 have h0 : w.cell? ⟨k, 0, none⟩ = some (.int .u64 i0) := h.cell 0 (by simp)
 have h1 : w.cell? ⟨k, 1, none⟩ = some (.string s0) := h.cell 1 (by simp)
 have h2 : w.cell? ⟨k, 2, none⟩ = some (.bool b0) := h.cell 2 (by simp)
 have hf := h.frz
 refine ⟨_, ?_, hd_put3 h (.int .u64 i) (.string s) (.bool b), (((Upd.refl k w).setCell 0 _).setCell 1 _).setCell 2 _⟩
 simp [go_sem, Instr.storeAt, Instr.sureAddr, h0, h1, h2, hf]
theorem z0 : zl 0 = 0 ∧ zh 0 = ⟨#[]⟩ ∧ zs 0 = false := ⟨by unfold zl; rw [show (0 : Int).natAbs = 0 from rfl, lo_small Bs_pos], by unfold zh; rw [show (0 : Int).natAbs = 0 from rfl, hs_small Bs_pos], by unfold zs; rfl⟩
end Go.Proofs.YtahfcciihkkegaaGreatDoor
namespace Go.Proofs.YtahfcciihkkegaaGreatDoor
open Go.RowKit
theorem canc {z : Int} {d : Nat} (hd : d ≠ 0) : (mkRat z d).num = z.tdiv (Nat.gcd z.natAbs d : Nat) ∧ (mkRat z d).den = d / Nat.gcd z.natAbs d := by
 have hg : ((Nat.gcd z.natAbs d : Nat) : Int) ∣ z := by rw [← Int.dvd_natAbs, Int.ofNat_dvd]; exact Nat.gcd_dvd_left _ _
 rw [Rat.num_mkRat, Rat.den_mkRat, if_neg hd, if_neg hd, Nat.gcd_comm d]
 exact ⟨(Int.tdiv_eq_ediv_of_dvd hg).symm, rfl⟩
theorem rmul_parts (a b : Rat) : (a * b).num = a.num.tdiv (Nat.gcd a.num.natAbs b.den : Nat) * b.num.tdiv (Nat.gcd b.num.natAbs a.den : Nat) ∧
  (a * b).den = b.den / Nat.gcd a.num.natAbs b.den * (a.den / Nat.gcd b.num.natAbs a.den) := by
 have h : a * b = Rat.mul a b := rfl
 rw [h]; unfold Rat.mul
 simp only [Int.divExact_eq_tdiv]
 exact ⟨trivial, Nat.mul_comm _ _⟩
theorem radd_parts (a b : Rat) :
  (a + b).num = (a.num * ((b.den / Nat.gcd a.den b.den : Nat) : Int) + b.num * ((a.den / Nat.gcd a.den b.den : Nat) : Int)).tdiv (Nat.gcd (a.num * ((b.den / Nat.gcd a.den b.den : Nat) : Int) + b.num * ((a.den / Nat.gcd a.den b.den : Nat) : Int)).natAbs (Nat.gcd a.den b.den) : Nat) ∧
  (a + b).den = a.den / Nat.gcd a.den b.den * (b.den / Nat.gcd a.den b.den) * (Nat.gcd a.den b.den / Nat.gcd (a.num * ((b.den / Nat.gcd a.den b.den : Nat) : Int) + b.num * ((a.den / Nat.gcd a.den b.den : Nat) : Int)).natAbs (Nat.gcd a.den b.den)) := by
 have h : a + b = Rat.add a b := rfl
 rw [h]; unfold Rat.add
 by_cases hg : a.den.gcd b.den = 1
 ·simp only [hg, dif_pos]
  simp
 ·simp only [hg, dif_neg, not_false_eq_true, Rat.maybeNormalize_eq]
  refine ⟨Int.divExact_eq_tdiv .., ?_⟩
  generalize hx : a.num * ((b.den / Nat.gcd a.den b.den : Nat) : Int) + b.num * ((a.den / Nat.gcd a.den b.den : Nat) : Int) = x
  have e1 : b.den = b.den / Nat.gcd a.den b.den * Nat.gcd a.den b.den := (Nat.div_mul_cancel (Nat.gcd_dvd_right _ _)).symm
  generalize hg' : Nat.gcd a.den b.den = g at *
  generalize hq : b.den / g = q at *
  rw [e1, ← Nat.mul_assoc, Nat.mul_div_assoc _ (Nat.gcd_dvd_right _ _)]
def cmpQ (a b : Rat) : Int := if a < b then -1 else if a = b then 0 else 1
theorem cmpQ_parts (a b : Rat) : cmpQ a b = if a.num * b.den < b.num * a.den then -1 else if a.num * b.den = b.num * a.den then 0 else 1 := by
 unfold cmpQ
 have h1 := Rat.lt_iff a b
 have h2 := @Rat.eq_iff_mul_eq_mul a b
 by_cases h : a < b
 ·rw [if_pos h, if_pos (h1.1 h)]
 ·rw [if_neg h, if_neg (fun e => h (h1.2 e))]
  by_cases h' : a = b
  ·rw [if_pos h', if_pos (h2.1 h')]
  ·rw [if_neg h', if_neg (fun e => h' (h2.2 e))]
theorem rfloor (a : Rat) : a.floor = a.num / (a.den : Int) := Rat.floor_def a
def rceil (a : Rat) : Int := -(-a).floor
theorem num_le_add (a b : Rat) : (a + b).num.natAbs ≤ (a.num * b.den + b.num * a.den).natAbs := by
 rw [Rat.num_add]; exact Int.natAbs_ediv_le_natAbs _ _
theorem den_le_add (a b : Rat) : (a + b).den ≤ a.den * b.den := by
 rw [Rat.den_add]; exact Nat.div_le_self _ _
theorem num_le_mul (a b : Rat) : (a * b).num.natAbs ≤ (a.num * b.num).natAbs := by
 rw [Rat.num_mul]; exact Int.natAbs_ediv_le_natAbs _ _
theorem den_le_mul (a b : Rat) : (a * b).den ≤ a.den * b.den := by
 rw [Rat.den_mul]; exact Nat.div_le_self _ _
/-- The denominator as it is kept: 0 stands for 1. -/
def fe (q : Rat) : Nat := if q.den = 1 then 0 else q.den
theorem fe_one {q : Rat} (h : q.den = 1) : fe q = 0 := if_pos h
theorem fe_ne {q : Rat} (h : q.den ≠ 1) : fe q = q.den := if_neg h
/-- A fraction: its numerator, and its denominator as it is kept. -/
abbrev frV (n : Int) (e : Nat) : Value := .agg #[.int .u64 ((zl n : Nat) : Int), .string (zh n), .bool (zs n), .int .u64 ((lo e : Nat) : Int), .string (hs e)]
abbrev fracV (q : Rat) : Value := frV q.num (fe q)
/-- What == sees of two naturals that differ. -/
theorem ne_nat {a b : Nat} (h : a ≠ b) : (((lo a : Nat) : Int) == ((lo b : Nat) : Int)) = false ∨ ((((lo a : Nat) : Int) == ((lo b : Nat) : Int)) = true ∧ ((hs a).toList == (hs b).toList) = false) := by
 by_cases h1 : lo a = lo b
 ·right
  refine ⟨by rw [h1]; exact beq_self_eq_true _, beq_eq_false_iff_ne.2 fun h3 => h ?_⟩
  rw [hs_toList, hs_toList] at h3
  have h4 := hiB_inj h3
  have h5 := divmod a
  have h6 := divmod b
  rw [h4, h1, ← h6] at h5
  exact h5
 ·left
  exact beq_eq_false_iff_ne.2 fun h2 => h1 (by omega)
/-- At most k words in the numerator and in the denominator. -/
def Sz (q : Rat) (k : Nat) : Prop := dI q.num ≤ k ∧ (digs q.den).length ≤ k
theorem Sz.n {q : Rat} {k : Nat} (h : Sz q k) : dI q.num ≤ k := h.1
theorem Sz.d {q : Rat} {k : Nat} (h : Sz q k) : (digs q.den).length ≤ k := h.2
theorem Sz.mono {q : Rat} {k m : Nat} (h : Sz q k) (hm : k ≤ m) : Sz q m := ⟨Nat.le_trans h.1 hm, Nat.le_trans h.2 hm⟩
theorem Sz.neg {q : Rat} {k : Nat} (h : Sz q k) : Sz (-q) k := ⟨by rw [Rat.neg_num, dI_neg]; exact h.1, h.2⟩
theorem Sz.add {p q : Rat} {k m : Nat} (hp : Sz p k) (hq : Sz q m) : Sz (p + q) (k + m + 1) := by
 constructor
 ·refine Nat.le_trans (dI_mono (num_le_add p q)) (dI_add (k := k + m) (dI_mul hp.1 (by rw [dI_nat]; exact hq.2)) ?_)
  rw [Nat.add_comm k m]
  exact dI_mul hq.1 (by rw [dI_nat]; exact hp.2)
 ·exact Nat.le_trans (digs_mono (den_le_add p q)) (Nat.le_trans (digs_mul_le hp.2 hq.2) (by omega))
theorem Sz.sub {p q : Rat} {k m : Nat} (hp : Sz p k) (hq : Sz q m) : Sz (p - q) (k + m + 1) := by
 rw [Rat.sub_eq_add_neg]; exact hp.add hq.neg
theorem Sz.mul {p q : Rat} {k m : Nat} (hp : Sz p k) (hq : Sz q m) : Sz (p * q) (k + m) :=
 ⟨Nat.le_trans (dI_mono (num_le_mul p q)) (dI_mul hp.1 hq.1), Nat.le_trans (digs_mono (den_le_mul p q)) (digs_mul_le hp.2 hq.2)⟩
theorem Sz.int {z : Int} {k : Nat} (h : dI z ≤ k) (hk : 0 < k) : Sz (z : Rat) k :=
 ⟨h, Nat.le_trans (digs_length_iff (k := 1).2 (by show (z : Rat).den < _; rw [Rat.den_intCast, Nat.pow_one]; exact Bs_gt)) hk⟩
theorem Sz.mk {z : Int} {d k : Nat} (hz : dI z ≤ k) (hd : (digs d).length ≤ k) (h0 : d ≠ 0) : Sz (mkRat z d) k := by
 obtain ⟨h1, h2⟩ := canc (z := z) h0
 refine ⟨?_, ?_⟩
 ·rw [h1]
  refine Nat.le_trans (dI_mono ?_) hz
  rw [Int.natAbs_tdiv]
  exact Nat.div_le_self _ _
 ·rw [h2]; exact Nat.le_trans (digs_mono (Nat.div_le_self _ _)) hd
theorem new_natc (w : World) : (Instr.alloc 30 true (.tuple #[])).run Tryz.prog w = .ok (.pointer (some ⟨w.heap.size, 0, none⟩)) (w.alloc (.cells #[.int .u64 0, .string ⟨#[]⟩] 30)) := by
 simp [go_sem, Instr.alloc]
theorem put_natc (i0 i : Int) (s0 s : ByteArray) (w : World) (k : Nat) (h : Hd w k [.int .u64 i0, .string s0]) :
  ∃ w', (Instr.storeAt 30 (.pointer (some ⟨k, 0, none⟩)) (.agg #[.int .u64 i, .string s])).run Tryz.prog w = .ok () w' ∧ Hd w' k [.int .u64 i, .string s] ∧ Upd k w w' := by
 have h0 : w.cell? ⟨k, 0, none⟩ = some (.int .u64 i0) := h.cell 0 (by simp)
 have h1 : w.cell? ⟨k, 1, none⟩ = some (.string s0) := h.cell 1 (by simp)
 have hf := h.frz
 refine ⟨_, ?_, setAll_hd [.int .u64 i, .string s] 0 w k [] [.int .u64 i0, .string s0] rfl rfl h, (((Upd.refl k w).setCell 0 _).setCell 1 _)⟩
 simp [go_sem, Instr.storeAt, Instr.sureAddr, h0, h1, hf, setAll]
theorem new_frac (w : World) : (Instr.alloc 34 true (.tuple #[])).run Tryz.prog w = .ok (.pointer (some ⟨w.heap.size, 0, none⟩)) (w.alloc (.cells #[.int .u64 0, .string ⟨#[]⟩, .bool false, .int .u64 0, .string ⟨#[]⟩] 34)) := by
 simp [go_sem, Instr.alloc]
theorem put_frac (i0 i : Int) (s0 s : ByteArray) (b0 b : Bool) (j0 j : Int) (t0 t : ByteArray) (w : World) (k : Nat) (h : Hd w k [.int .u64 i0, .string s0, .bool b0, .int .u64 j0, .string t0]) :
  ∃ w', (Instr.storeAt 34 (.pointer (some ⟨k, 0, none⟩)) (.agg #[.int .u64 i, .string s, .bool b, .int .u64 j, .string t])).run Tryz.prog w = .ok () w' ∧ Hd w' k [.int .u64 i, .string s, .bool b, .int .u64 j, .string t] ∧ Upd k w w' := by
 have h0 : w.cell? ⟨k, 0, none⟩ = some (.int .u64 i0) := h.cell 0 (by simp)
 have h1 : w.cell? ⟨k, 1, none⟩ = some (.string s0) := h.cell 1 (by simp)
 have h2 : w.cell? ⟨k, 2, none⟩ = some (.bool b0) := h.cell 2 (by simp)
 have h3 : w.cell? ⟨k, 3, none⟩ = some (.int .u64 j0) := h.cell 3 (by simp)
 have h4 : w.cell? ⟨k, 4, none⟩ = some (.string t0) := h.cell 4 (by simp)
 have hf := h.frz
 refine ⟨_, ?_, setAll_hd [.int .u64 i, .string s, .bool b, .int .u64 j, .string t] 0 w k [] [.int .u64 i0, .string s0, .bool b0, .int .u64 j0, .string t0] rfl rfl h, ((((((Upd.refl k w).setCell 0 _).setCell 1 _).setCell 2 _).setCell 3 _).setCell 4 _)⟩
 simp [go_sem, Instr.storeAt, Instr.sureAddr, h0, h1, h2, h3, h4, hf, setAll]
/-- A property of worlds that stays while memory is only made. -/
def Keeps (K : World → Prop) : Prop := ∀ w w', Below w.heap.size w w' → K w → K w'
theorem Keeps.at {K : World → Prop} (h : Keeps K) {w w' : World} (hb : Below w.heap.size w w') (hk : K w) : K w' := h _ _ hb hk
theorem Keeps.tab : Keeps Tab := fun _ _ hb h => h.below hb
theorem Keeps.and {K L : World → Prop} (h : Keeps K) (g : Keeps L) : Keeps (fun w => K w ∧ L w) := fun _ _ hb ⟨a, b⟩ => ⟨h _ _ hb a, g _ _ hb b⟩
end Go.Proofs.YtahfcciihkkegaaGreatDoor
namespace Go.Proofs.YtahfcciihkkegaaGreatDoor
open Go.RowKit
attribute [local irreducible] lo hs sm s64 c64 d64 b64 mh ml pd pc qd qc val hiB str cmpI srD lz nb isq decB zl zh zs
theorem cls_box {α : Type} {F : α → World} {z : World} (h1 : ∀ x, Below z.heap.size z (F x)) {w : World} {L : List (Nat × List Value)} (hL : GL w z L) (k : Nat) (c : List Value) (hm : (k, c) ∈ L) : cellsC F k 0 c :=
 cellsC_of c 0 fun x => cells_of c 0 [] rfl ((hL.get k c hm).below (h1 x))
end Go.Proofs.YtahfcciihkkegaaGreatDoor
namespace Go.Proofs.YtahfcciihkkegaaGreatDoor
open Go.RowKit
attribute [local irreducible] lo hs sm s64 c64 d64 b64 mh ml pd pc qd qc val hiB str cmpI srD lz nb isq decB zl zh zs dval
end Go.Proofs.YtahfcciihkkegaaGreatDoor
namespace Go.Proofs.YtahfcciihkkegaaGreatDoor
open Go.RowKit
attribute [local irreducible] lo hs zl zh zs
theorem Ws.len {w : World} {a : Option Addr} {n c : Nat} {l : List Nat} (h : Ws w (.slice a n c) l) : l.length = n := by
 rcases h with ⟨ao, c1, h1, h2⟩ | ⟨a1, c1, h1, h2⟩
 ·simp only [Value.slice.injEq] at h1; rw [h2, h1.2.1]; rfl
 ·simp only [Value.slice.injEq] at h1; rw [h1.2.1]
end Go.Proofs.YtahfcciihkkegaaGreatDoor
namespace Go.Proofs.YtahfcciihkkegaaGreatDoor
open Go.RowKit
attribute [local irreducible] lo hs sm s64 c64 d64 b64 mh ml pd pc qd qc val hiB str cmpI srD lz nb isq decB zl zh zs
set_option maxHeartbeats 4000000 in
set_option maxRecDepth 100000 in
theorem whole_yes (n : Int) (w : World) :
  Calls Tryz.prog 28 #[frV n 0] w fun xe w' => xe = .returned (.bool true) ∧ Below w.heap.size w w' := by
 have hL0 : GL w w [] := GL.start w
 have e0 : (((lo 0 : Nat) : Int) == 0) = true := by rw [lo_small Bs_pos]; rfl
 have e1 : ((hs 0).toList == []) = true := by rw [hs_small Bs_pos, ByteArray.toList_eq]; rfl
 replace hL0 := (hL0.new rfl [.int .u64 ((zl n : Nat) : Int), .string (zh n), .bool (zs n), .int .u64 ((lo 0 : Nat) : Int), .string (hs 0)] 34)
 generalize hweq : (w.alloc (.cells #[.int .u64 ((zl n : Nat) : Int), .string (zh n), .bool (zs n), .int .u64 ((lo 0 : Nat) : Int), .string (hs 0)] 34)) = x1 at hL0
 go_enter Tryz.func28, Tryz.ntmps28
 have hN0 := cells_of _ 0 [] rfl (hL0.get _ _ List.mem_cons_self)
 simp only [cellsF, and_true, Nat.zero_add, Nat.reduceAdd] at hN0
 go_wp2_with fail
 exact bodyPost_ret (v := .bool true) (by simp [results, Tryz.results28, go_sem, hN0]) rfl ⟨rfl, hL0.bl⟩
set_option maxHeartbeats 4000000 in
set_option maxRecDepth 100000 in
theorem whole_no (n : Int) (e : Nat) (he : e ≠ 0) (w : World) :
  Calls Tryz.prog 28 #[frV n e] w fun xe w' => xe = .returned (.bool false) ∧ Below w.heap.size w w' := by
 have hL0 : GL w w [] := GL.start w
 have hz := ne0 he
 clear he
 rcases hz with e0 | ⟨e0, e1⟩
 all_goals (
  replace hL0 := (hL0.new rfl [.int .u64 ((zl n : Nat) : Int), .string (zh n), .bool (zs n), .int .u64 ((lo e : Nat) : Int), .string (hs e)] 34)
  generalize hweq : (w.alloc (.cells #[.int .u64 ((zl n : Nat) : Int), .string (zh n), .bool (zs n), .int .u64 ((lo e : Nat) : Int), .string (hs e)] 34)) = x1 at hL0
  go_enter Tryz.func28, Tryz.ntmps28
  have hN0 := cells_of _ 0 [] rfl (hL0.get _ _ List.mem_cons_self)
  simp only [cellsF, and_true, Nat.zero_add, Nat.reduceAdd] at hN0
  go_wp2_with fail
  exact bodyPost_ret (v := .bool false) (by simp [results, Tryz.results28, go_sem, hN0]) rfl ⟨rfl, hL0.bl⟩)
set_option maxHeartbeats 4000000 in
set_option maxRecDepth 100000 in
theorem den_one_w (n : Int) (HW : RT 28 #[frV n 0] (.bool true)) (HO : RT 52 #[.int .u64 1] (natV 1)) (w : World) :
  Calls Tryz.prog 75 #[frV n 0] w fun xe w' => xe = .returned (natV 1) ∧ Below w.heap.size w w' := by
 have hL0 : GL w w [] := GL.start w
 replace HW := Lib.hid HW
 replace HO := Lib.hid HO
 replace hL0 := ((hL0.new rfl [.int .u64 ((zl n : Nat) : Int), .string (zh n), .bool (zs n), .int .u64 ((lo 0 : Nat) : Int), .string (hs 0)] 34).new (K := w.heap.size + 1) (szA _ _) [.int .u64 0, .string ⟨#[]⟩] 30)
 generalize hweq : ((w.alloc (.cells #[.int .u64 ((zl n : Nat) : Int), .string (zh n), .bool (zs n), .int .u64 ((lo 0 : Nat) : Int), .string (hs 0)] 34)).alloc (.cells #[.int .u64 0, .string ⟨#[]⟩] 30)) = x1 at hL0
 go_enter Tryz.func75, Tryz.ntmps75
 have hN0 := cells_of _ 0 [] rfl (hL0.get _ _ (List.mem_cons_of_mem _ List.mem_cons_self))
 simp only [cellsF, and_true, Nat.zero_add, Nat.reduceAdd] at hN0
 go_wp2_with fail
 clear hN0
 with_reducible refine Calls.mono (HW.out _) ?_
 rintro e x2 ⟨rfl, hb⟩
 replace hL0 := hL0.call hb
 clear hb hweq
 go_wp2_with fail
 with_reducible refine Calls.mono (HO.out _) ?_
 rintro e x3 ⟨rfl, hb⟩
 replace hL0 := hL0.call hb
 clear hb
 have hA := hL0.fc
 simp only [fcG, cellsF, neK, and_true, ne_eq, Nat.zero_add, Nat.reduceAdd] at hA
 have hP := hL0.put 0 (w.heap.size + 1) _ rfl [.int .u64 ((lo 1 : Nat) : Int), .string (hs 1)] rfl
 simp only [setAll, List.set_cons_zero, List.set_cons_succ] at hP
 generalize hput1 : ((x3.setCell ⟨w.heap.size + 1, 0, none⟩ (.int .u64 ((lo 1 : Nat) : Int))).setCell ⟨w.heap.size + 1, 1, none⟩ (.string (hs 1))) = x4 at hP
 have hB1 := hP.fc
 simp only [fcG, cellsF, neK, and_true, ne_eq, Nat.zero_add, Nat.reduceAdd] at hB1
 replace hL0 := hP
 go_wp2_with fail
 exact bodyPost_ret (v := natV 1) (by simp [results, Tryz.results75, go_sem, hB1]) rfl ⟨rfl, hL0.bl⟩
set_option maxHeartbeats 4000000 in
set_option maxRecDepth 100000 in
theorem den_part_w (n : Int) (e : Nat) (HW : RT 28 #[frV n e] (.bool false)) (w : World) :
  Calls Tryz.prog 75 #[frV n e] w fun xe w' => xe = .returned (natV e) ∧ Below w.heap.size w w' := by
 have hL0 : GL w w [] := GL.start w
 replace HW := Lib.hid HW
 replace hL0 := ((hL0.new rfl [.int .u64 ((zl n : Nat) : Int), .string (zh n), .bool (zs n), .int .u64 ((lo e : Nat) : Int), .string (hs e)] 34).new (K := w.heap.size + 1) (szA _ _) [.int .u64 0, .string ⟨#[]⟩] 30)
 generalize hweq : ((w.alloc (.cells #[.int .u64 ((zl n : Nat) : Int), .string (zh n), .bool (zs n), .int .u64 ((lo e : Nat) : Int), .string (hs e)] 34)).alloc (.cells #[.int .u64 0, .string ⟨#[]⟩] 30)) = x1 at hL0
 go_enter Tryz.func75, Tryz.ntmps75
 have hN0 := cells_of _ 0 [] rfl (hL0.get _ _ (List.mem_cons_of_mem _ List.mem_cons_self))
 simp only [cellsF, and_true, Nat.zero_add, Nat.reduceAdd] at hN0
 go_wp2_with fail
 clear hN0
 with_reducible refine Calls.mono (HW.out _) ?_
 rintro e x2 ⟨rfl, hb⟩
 replace hL0 := hL0.call hb
 clear hb hweq
 have hA := hL0.fc
 simp only [fcG, cellsF, neK, and_true, ne_eq, Nat.zero_add, Nat.reduceAdd] at hA
 have hP := hL0.put 0 (w.heap.size + 1) _ rfl [.int .u64 ((lo e : Nat) : Int), .string (hs e)] rfl
 simp only [setAll, List.set_cons_zero, List.set_cons_succ] at hP
 generalize hput1 : ((x2.setCell ⟨w.heap.size + 1, 0, none⟩ (.int .u64 ((lo e : Nat) : Int))).setCell ⟨w.heap.size + 1, 1, none⟩ (.string (hs e))) = x3 at hP
 have hB1 := hP.fc
 simp only [fcG, cellsF, neK, and_true, ne_eq, Nat.zero_add, Nat.reduceAdd] at hB1
 replace hL0 := hP
 go_wp2_with fail
 exact bodyPost_ret (v := natV e) (by simp [results, Tryz.results75, go_sem, hB1]) rfl ⟨rfl, hL0.bl⟩
set_option maxHeartbeats 4000000 in
set_option maxRecDepth 100000 in
theorem lowest_one (n : Int) (HO : RT 52 #[.int .u64 1] (natV 1)) (w : World) :
  Calls Tryz.prog 89 #[intV n, natV 1] w fun xe w' => xe = .returned (.agg #[.int .u64 ((zl n : Nat) : Int), .string (zh n), .bool (zs n), .int .u64 0, .string ⟨#[]⟩]) ∧ Below w.heap.size w w' := by
 have hL0 : GL w w [] := GL.start w
 replace HO := Lib.hid HO
 replace hL0 := (((hL0.new rfl [.int .u64 ((zl n : Nat) : Int), .string (zh n), .bool (zs n)] 32).new (K := w.heap.size + 1) (szA _ _) [.int .u64 ((lo 1 : Nat) : Int), .string (hs 1)] 30).new (K := w.heap.size + 1 + 1) (by simp only [World.size_alloc]) [.int .u64 0, .string ⟨#[]⟩, .bool false, .int .u64 0, .string ⟨#[]⟩] 34)
 generalize hweq : (((w.alloc (.cells #[.int .u64 ((zl n : Nat) : Int), .string (zh n), .bool (zs n)] 32)).alloc (.cells #[.int .u64 ((lo 1 : Nat) : Int), .string (hs 1)] 30)).alloc (.cells #[.int .u64 0, .string ⟨#[]⟩, .bool false, .int .u64 0, .string ⟨#[]⟩] 34)) = x1 at hL0
 go_enter Tryz.func89, Tryz.ntmps89
 go_upto_region 1 with fail
 clear hweq
 obtain ⟨α, iα, F, hF1, hF2⟩ := cls x1
 have hq0 := cls_box hF1 hL0 _ _ (List.mem_cons_of_mem _ List.mem_cons_self)
 simp only [cellsC, and_true, Nat.zero_add, Nat.reduceAdd] at hq0
 refine region_qs 3 (C := fun w' => ∃ x, w' = F x) (by kernel_rfl) (by kernel_rfl) (cls_drew hF2) ?_
 simp only [List.take_succ_cons, List.take_zero, List.drop_succ_cons, List.drop_zero, List.take_nil, List.drop_nil]
 repeat (go_big_quiet_step (first | fail | (go_at_call 52; with_reducible exact cls_call hF1 hF2 HO.out _)))
 refine wpQuiet_nil ?_
 rintro wq ⟨xq, rfl⟩
 replace hL0 := hL0.call (hF1 xq)
 clear  hq0 hF2
 generalize F xq = x2 at hL0 ⊢
 clear hF1 xq iα F α
 have hA := hL0.fc
 simp only [fcG, cellsF, neK, and_true, ne_eq, Nat.zero_add, Nat.reduceAdd] at hA
 have hP := hL0.put 0 (w.heap.size + 1 + 1) _ rfl [.int .u64 ((zl n : Nat) : Int), .string (zh n), .bool (zs n), .int .u64 0, .string ⟨#[]⟩] rfl
 simp only [setAll, List.set_cons_zero, List.set_cons_succ] at hP
 generalize hput1 : (((((x2.setCell ⟨w.heap.size + 1 + 1, 0, none⟩ (.int .u64 ((zl n : Nat) : Int))).setCell ⟨w.heap.size + 1 + 1, 1, none⟩ (.string (zh n))).setCell ⟨w.heap.size + 1 + 1, 2, none⟩ (.bool (zs n))).setCell ⟨w.heap.size + 1 + 1, 3, none⟩ (.int .u64 0)).setCell ⟨w.heap.size + 1 + 1, 4, none⟩ (.string ⟨#[]⟩)) = x3 at hP
 have hB1 := hP.fc
 simp only [fcG, cellsF, neK, and_true, ne_eq, Nat.zero_add, Nat.reduceAdd] at hB1
 replace hL0 := hP
 go_wp2_with fail
 exact bodyPost_ret (v := .agg #[.int .u64 ((zl n : Nat) : Int), .string (zh n), .bool (zs n), .int .u64 0, .string ⟨#[]⟩]) (by simp [results, Tryz.results89, go_sem, hB1]) rfl ⟨rfl, hL0.bl⟩
set_option maxHeartbeats 4000000 in
set_option maxRecDepth 100000 in
theorem lowest_part (n : Int) (d : Nat) (HO : RT 52 #[.int .u64 1] (natV 1)) (hd : d ≠ 1) (w : World) :
  Calls Tryz.prog 89 #[intV n, natV d] w fun xe w' => xe = .returned (frV n d) ∧ Below w.heap.size w w' := by
 have hL0 : GL w w [] := GL.start w
 replace HO := Lib.hid HO
 have hz := ne_nat hd
 clear hd
 rcases hz with e0 | ⟨e0, e1⟩
 all_goals (
  replace hL0 := (((hL0.new rfl [.int .u64 ((zl n : Nat) : Int), .string (zh n), .bool (zs n)] 32).new (K := w.heap.size + 1) (szA _ _) [.int .u64 ((lo d : Nat) : Int), .string (hs d)] 30).new (K := w.heap.size + 1 + 1) (by simp only [World.size_alloc]) [.int .u64 0, .string ⟨#[]⟩, .bool false, .int .u64 0, .string ⟨#[]⟩] 34)
  generalize hweq : (((w.alloc (.cells #[.int .u64 ((zl n : Nat) : Int), .string (zh n), .bool (zs n)] 32)).alloc (.cells #[.int .u64 ((lo d : Nat) : Int), .string (hs d)] 30)).alloc (.cells #[.int .u64 0, .string ⟨#[]⟩, .bool false, .int .u64 0, .string ⟨#[]⟩] 34)) = x1 at hL0
  go_enter Tryz.func89, Tryz.ntmps89
  go_upto_region 1 with fail
  clear hweq
  obtain ⟨α, iα, F, hF1, hF2⟩ := cls x1
  have hq0 := cls_box hF1 hL0 _ _ (List.mem_cons_of_mem _ List.mem_cons_self)
  simp only [cellsC, and_true, Nat.zero_add, Nat.reduceAdd] at hq0
  refine region_qs 3 (C := fun w' => ∃ x, w' = F x) (by kernel_rfl) (by kernel_rfl) (cls_drew hF2) ?_
  simp only [List.take_succ_cons, List.take_zero, List.drop_succ_cons, List.drop_zero, List.take_nil, List.drop_nil]
  repeat (go_big_quiet_step (first | fail | (go_at_call 52; with_reducible exact cls_call hF1 hF2 HO.out _)))
  refine wpQuiet_nil ?_
  rintro wq ⟨xq, rfl⟩
  replace hL0 := hL0.call (hF1 xq)
  clear  hq0 hF2
  generalize F xq = x2 at hL0 ⊢
  clear hF1 xq iα F α
  have hA := hL0.fc
  simp only [fcG, cellsF, neK, and_true, ne_eq, Nat.zero_add, Nat.reduceAdd] at hA
  have hP := hL0.put 0 (w.heap.size + 1 + 1) _ rfl [.int .u64 ((zl n : Nat) : Int), .string (zh n), .bool (zs n), .int .u64 ((lo d : Nat) : Int), .string (hs d)] rfl
  simp only [setAll, List.set_cons_zero, List.set_cons_succ] at hP
  generalize hput1 : (((((x2.setCell ⟨w.heap.size + 1 + 1, 0, none⟩ (.int .u64 ((zl n : Nat) : Int))).setCell ⟨w.heap.size + 1 + 1, 1, none⟩ (.string (zh n))).setCell ⟨w.heap.size + 1 + 1, 2, none⟩ (.bool (zs n))).setCell ⟨w.heap.size + 1 + 1, 3, none⟩ (.int .u64 ((lo d : Nat) : Int))).setCell ⟨w.heap.size + 1 + 1, 4, none⟩ (.string (hs d))) = x3 at hP
  have hB1 := hP.fc
  simp only [fcG, cellsF, neK, and_true, ne_eq, Nat.zero_add, Nat.reduceAdd] at hB1
  replace hL0 := hP
  go_wp2_with fail
  exact bodyPost_ret (v := frV n d) (by simp [results, Tryz.results89, go_sem, hB1]) rfl ⟨rfl, hL0.bl⟩)
set_option maxHeartbeats 4000000 in
set_option maxRecDepth 100000 in
theorem pon_one (n : Nat) (HO : RT 52 #[.int .u64 1] (natV 1)) (w : World) :
  Calls Tryz.prog 142 #[natV n, natV 1] w fun xe w' => xe = .returned (natV n) ∧ Below w.heap.size w w' := by
 have hL0 : GL w w [] := GL.start w
 replace HO := Lib.hid HO
 replace hL0 := (((hL0.new rfl [.int .u64 ((lo n : Nat) : Int), .string (hs n)] 30).new (K := w.heap.size + 1) (szA _ _) [.int .u64 ((lo 1 : Nat) : Int), .string (hs 1)] 30).new (K := w.heap.size + 1 + 1) (by simp only [World.size_alloc]) [.int .u64 0, .string ⟨#[]⟩] 30)
 generalize hweq : (((w.alloc (.cells #[.int .u64 ((lo n : Nat) : Int), .string (hs n)] 30)).alloc (.cells #[.int .u64 ((lo 1 : Nat) : Int), .string (hs 1)] 30)).alloc (.cells #[.int .u64 0, .string ⟨#[]⟩] 30)) = x1 at hL0
 go_enter Tryz.func142, Tryz.ntmps142
 go_upto_region 1 with fail
 clear hweq
 obtain ⟨α, iα, F, hF1, hF2⟩ := cls x1
 have hq0 := cls_box hF1 hL0 _ _ (List.mem_cons_of_mem _ List.mem_cons_self)
 simp only [cellsC, and_true, Nat.zero_add, Nat.reduceAdd] at hq0
 refine region_qs 3 (C := fun w' => ∃ x, w' = F x) (by kernel_rfl) (by kernel_rfl) (cls_drew hF2) ?_
 simp only [List.take_succ_cons, List.take_zero, List.drop_succ_cons, List.drop_zero, List.take_nil, List.drop_nil]
 repeat (go_big_quiet_step (first | fail | (go_at_call 52; with_reducible exact cls_call hF1 hF2 HO.out _)))
 refine wpQuiet_nil ?_
 rintro wq ⟨xq, rfl⟩
 replace hL0 := hL0.call (hF1 xq)
 clear  hq0 hF2
 generalize F xq = x2 at hL0 ⊢
 clear hF1 xq iα F α
 have hA := hL0.fc
 simp only [fcG, cellsF, neK, and_true, ne_eq, Nat.zero_add, Nat.reduceAdd] at hA
 have hP := hL0.put 0 (w.heap.size + 1 + 1) _ rfl [.int .u64 ((lo n : Nat) : Int), .string (hs n)] rfl
 simp only [setAll, List.set_cons_zero, List.set_cons_succ] at hP
 generalize hput1 : ((x2.setCell ⟨w.heap.size + 1 + 1, 0, none⟩ (.int .u64 ((lo n : Nat) : Int))).setCell ⟨w.heap.size + 1 + 1, 1, none⟩ (.string (hs n))) = x3 at hP
 have hB1 := hP.fc
 simp only [fcG, cellsF, neK, and_true, ne_eq, Nat.zero_add, Nat.reduceAdd] at hB1
 replace hL0 := hP
 go_wp2_with fail
 exact bodyPost_ret (v := natV n) (by simp [results, Tryz.results142, go_sem, hB1]) rfl ⟨rfl, hL0.bl⟩
set_option maxHeartbeats 4000000 in
set_option maxRecDepth 100000 in
theorem pon_div (n d q r : Nat) (HO : RT 52 #[.int .u64 1] (natV 1)) (HD : RT 110 #[natV n, natV d] (.tuple #[natV q, natV r, .bool true])) (hd : d ≠ 1) (w : World) :
  Calls Tryz.prog 142 #[natV n, natV d] w fun xe w' => xe = .returned (natV q) ∧ Below w.heap.size w w' := by
 have hL0 : GL w w [] := GL.start w
 replace HO := Lib.hid HO
 replace HD := Lib.hid HD
 have hz := ne_nat hd
 clear hd
 rcases hz with e0 | ⟨e0, e1⟩
 all_goals (
  replace hL0 := (((hL0.new rfl [.int .u64 ((lo n : Nat) : Int), .string (hs n)] 30).new (K := w.heap.size + 1) (szA _ _) [.int .u64 ((lo d : Nat) : Int), .string (hs d)] 30).new (K := w.heap.size + 1 + 1) (by simp only [World.size_alloc]) [.int .u64 0, .string ⟨#[]⟩] 30)
  generalize hweq : (((w.alloc (.cells #[.int .u64 ((lo n : Nat) : Int), .string (hs n)] 30)).alloc (.cells #[.int .u64 ((lo d : Nat) : Int), .string (hs d)] 30)).alloc (.cells #[.int .u64 0, .string ⟨#[]⟩] 30)) = x1 at hL0
  go_enter Tryz.func142, Tryz.ntmps142
  go_upto_region 1 with fail
  clear hweq
  obtain ⟨α, iα, F, hF1, hF2⟩ := cls x1
  have hq0 := cls_box hF1 hL0 _ _ (List.mem_cons_of_mem _ List.mem_cons_self)
  simp only [cellsC, and_true, Nat.zero_add, Nat.reduceAdd] at hq0
  refine region_qs 3 (C := fun w' => ∃ x, w' = F x) (by kernel_rfl) (by kernel_rfl) (cls_drew hF2) ?_
  simp only [List.take_succ_cons, List.take_zero, List.drop_succ_cons, List.drop_zero, List.take_nil, List.drop_nil]
  repeat (go_big_quiet_step (first | fail | (go_at_call 52; with_reducible exact cls_call hF1 hF2 HO.out _)))
  refine wpQuiet_nil ?_
  rintro wq ⟨xq, rfl⟩
  replace hL0 := hL0.call (hF1 xq)
  clear  hq0 hF2
  generalize F xq = x2 at hL0 ⊢
  clear hF1 xq iα F α
  have hN0 := cells_of _ 0 [] rfl (hL0.get _ _ (List.mem_cons_of_mem _ List.mem_cons_self))
  simp only [cellsF, and_true, Nat.zero_add, Nat.reduceAdd] at hN0
  have hN1 := cells_of _ 0 [] rfl (hL0.get _ _ (List.mem_cons_of_mem _ (List.mem_cons_of_mem _ List.mem_cons_self)))
  simp only [cellsF, and_true, Nat.zero_add, Nat.reduceAdd] at hN1
  go_wp2_with fail
  clear hN0 hN1
  with_reducible refine Calls.mono (HD.out _) ?_
  rintro e x3 ⟨rfl, hb⟩
  replace hL0 := hL0.call hb
  clear hb
  replace hL0 := ((hL0.new rfl [.int .u64 ((lo q : Nat) : Int), .string (hs q)] 30).new (K := x3.heap.size + 1) (szA _ _) [.int .u64 ((lo r : Nat) : Int), .string (hs r)] 30)
  generalize hweq : ((x3.alloc (.cells #[.int .u64 ((lo q : Nat) : Int), .string (hs q)] 30)).alloc (.cells #[.int .u64 ((lo r : Nat) : Int), .string (hs r)] 30)) = x4 at hL0
  have hA := hL0.fc
  simp only [fcG, cellsF, neK, and_true, ne_eq, Nat.zero_add, Nat.reduceAdd] at hA
  have hP := hL0.put 2 (w.heap.size + 1 + 1) _ rfl [.int .u64 ((lo q : Nat) : Int), .string (hs q)] rfl
  simp only [setAll, List.set_cons_zero, List.set_cons_succ] at hP
  generalize hput1 : ((x4.setCell ⟨w.heap.size + 1 + 1, 0, none⟩ (.int .u64 ((lo q : Nat) : Int))).setCell ⟨w.heap.size + 1 + 1, 1, none⟩ (.string (hs q))) = x5 at hP
  have hB1 := hP.fc
  simp only [fcG, cellsF, neK, and_true, ne_eq, Nat.zero_add, Nat.reduceAdd] at hB1
  replace hL0 := hP
  go_wp2_with fail
  exact bodyPost_ret (v := natV q) (by simp [results, Tryz.results142, go_sem, hB1]) rfl ⟨rfl, hL0.bl⟩)
set_option maxHeartbeats 4000000 in
set_option maxRecDepth 100000 in
theorem part_true (z s u : Int) (a g q : Nat) (HS : RT 92 #[intV z] (.int .i64 s)) (HA : RT 50 #[intV z] (natV a)) (HP : RT 142 #[natV a, natV g] (natV q)) (HF : RT 69 #[.bool true, natV q] (intV u)) (hsg : decide (s < 0) = true) (w : World) :
  Calls Tryz.prog 146 #[intV z, natV g] w fun xe w' => xe = .returned (intV u) ∧ Below w.heap.size w w' := by
 have hL0 : GL w w [] := GL.start w
 replace HS := Lib.hid HS
 replace HA := Lib.hid HA
 replace HP := Lib.hid HP
 replace HF := Lib.hid HF
 replace hL0 := (((hL0.new rfl [.int .u64 ((zl z : Nat) : Int), .string (zh z), .bool (zs z)] 32).new (K := w.heap.size + 1) (szA _ _) [.int .u64 ((lo g : Nat) : Int), .string (hs g)] 30).new (K := w.heap.size + 1 + 1) (by simp only [World.size_alloc]) [.int .u64 0, .string ⟨#[]⟩, .bool false] 32)
 generalize hweq : (((w.alloc (.cells #[.int .u64 ((zl z : Nat) : Int), .string (zh z), .bool (zs z)] 32)).alloc (.cells #[.int .u64 ((lo g : Nat) : Int), .string (hs g)] 30)).alloc (.cells #[.int .u64 0, .string ⟨#[]⟩, .bool false] 32)) = x1 at hL0
 go_enter Tryz.func146, Tryz.ntmps146
 go_upto_region 1 with fail
 clear hweq
 obtain ⟨α, iα, F, hF1, hF2⟩ := cls x1
 have hq0 := cls_box hF1 hL0 _ _ (List.mem_cons_of_mem _ List.mem_cons_self)
 simp only [cellsC, and_true, Nat.zero_add, Nat.reduceAdd] at hq0
 have hq1 := cls_box hF1 hL0 _ _ (List.mem_cons_of_mem _ (List.mem_cons_of_mem _ List.mem_cons_self))
 simp only [cellsC, and_true, Nat.zero_add, Nat.reduceAdd] at hq1
 refine region_qs 8 (C := fun w' => ∃ x, w' = F x) (by kernel_rfl) (by kernel_rfl) (cls_drew hF2) ?_
 simp only [List.take_succ_cons, List.take_zero, List.drop_succ_cons, List.drop_zero, List.take_nil, List.drop_nil]
 repeat (go_big_quiet_step (first | fail | (go_at_call 92; with_reducible exact cls_call hF1 hF2 HS.out _) | (go_at_call 50; with_reducible exact cls_call hF1 hF2 HA.out _) | (go_at_call 142; with_reducible exact cls_call hF1 hF2 HP.out _) | (go_at_call 69; with_reducible exact cls_call hF1 hF2 HF.out _)))
 refine wpQuiet_nil ?_
 rintro wq ⟨xq, rfl⟩
 replace hL0 := hL0.call (hF1 xq)
 clear  hq0 hq1 hF2
 generalize F xq = x2 at hL0 ⊢
 clear hF1 xq iα F α
 have hA := hL0.fc
 simp only [fcG, cellsF, neK, and_true, ne_eq, Nat.zero_add, Nat.reduceAdd] at hA
 have hP := hL0.put 0 (w.heap.size + 1 + 1) _ rfl [.int .u64 ((zl u : Nat) : Int), .string (zh u), .bool (zs u)] rfl
 simp only [setAll, List.set_cons_zero, List.set_cons_succ] at hP
 generalize hput1 : (((x2.setCell ⟨w.heap.size + 1 + 1, 0, none⟩ (.int .u64 ((zl u : Nat) : Int))).setCell ⟨w.heap.size + 1 + 1, 1, none⟩ (.string (zh u))).setCell ⟨w.heap.size + 1 + 1, 2, none⟩ (.bool (zs u))) = x3 at hP
 have hB1 := hP.fc
 simp only [fcG, cellsF, neK, and_true, ne_eq, Nat.zero_add, Nat.reduceAdd] at hB1
 replace hL0 := hP
 go_wp2_with fail
 exact bodyPost_ret (v := intV u) (by simp [results, Tryz.results146, go_sem, hB1]) rfl ⟨rfl, hL0.bl⟩
set_option maxHeartbeats 4000000 in
set_option maxRecDepth 100000 in
theorem part_false (z s u : Int) (a g q : Nat) (HS : RT 92 #[intV z] (.int .i64 s)) (HA : RT 50 #[intV z] (natV a)) (HP : RT 142 #[natV a, natV g] (natV q)) (HF : RT 69 #[.bool false, natV q] (intV u)) (hsg : decide (s < 0) = false) (w : World) :
  Calls Tryz.prog 146 #[intV z, natV g] w fun xe w' => xe = .returned (intV u) ∧ Below w.heap.size w w' := by
 have hL0 : GL w w [] := GL.start w
 replace HS := Lib.hid HS
 replace HA := Lib.hid HA
 replace HP := Lib.hid HP
 replace HF := Lib.hid HF
 replace hL0 := (((hL0.new rfl [.int .u64 ((zl z : Nat) : Int), .string (zh z), .bool (zs z)] 32).new (K := w.heap.size + 1) (szA _ _) [.int .u64 ((lo g : Nat) : Int), .string (hs g)] 30).new (K := w.heap.size + 1 + 1) (by simp only [World.size_alloc]) [.int .u64 0, .string ⟨#[]⟩, .bool false] 32)
 generalize hweq : (((w.alloc (.cells #[.int .u64 ((zl z : Nat) : Int), .string (zh z), .bool (zs z)] 32)).alloc (.cells #[.int .u64 ((lo g : Nat) : Int), .string (hs g)] 30)).alloc (.cells #[.int .u64 0, .string ⟨#[]⟩, .bool false] 32)) = x1 at hL0
 go_enter Tryz.func146, Tryz.ntmps146
 go_upto_region 1 with fail
 clear hweq
 obtain ⟨α, iα, F, hF1, hF2⟩ := cls x1
 have hq0 := cls_box hF1 hL0 _ _ (List.mem_cons_of_mem _ List.mem_cons_self)
 simp only [cellsC, and_true, Nat.zero_add, Nat.reduceAdd] at hq0
 have hq1 := cls_box hF1 hL0 _ _ (List.mem_cons_of_mem _ (List.mem_cons_of_mem _ List.mem_cons_self))
 simp only [cellsC, and_true, Nat.zero_add, Nat.reduceAdd] at hq1
 refine region_qs 8 (C := fun w' => ∃ x, w' = F x) (by kernel_rfl) (by kernel_rfl) (cls_drew hF2) ?_
 simp only [List.take_succ_cons, List.take_zero, List.drop_succ_cons, List.drop_zero, List.take_nil, List.drop_nil]
 repeat (go_big_quiet_step (first | fail | (go_at_call 92; with_reducible exact cls_call hF1 hF2 HS.out _) | (go_at_call 50; with_reducible exact cls_call hF1 hF2 HA.out _) | (go_at_call 142; with_reducible exact cls_call hF1 hF2 HP.out _) | (go_at_call 69; with_reducible exact cls_call hF1 hF2 HF.out _)))
 refine wpQuiet_nil ?_
 rintro wq ⟨xq, rfl⟩
 replace hL0 := hL0.call (hF1 xq)
 clear  hq0 hq1 hF2
 generalize F xq = x2 at hL0 ⊢
 clear hF1 xq iα F α
 have hA := hL0.fc
 simp only [fcG, cellsF, neK, and_true, ne_eq, Nat.zero_add, Nat.reduceAdd] at hA
 have hP := hL0.put 0 (w.heap.size + 1 + 1) _ rfl [.int .u64 ((zl u : Nat) : Int), .string (zh u), .bool (zs u)] rfl
 simp only [setAll, List.set_cons_zero, List.set_cons_succ] at hP
 generalize hput1 : (((x2.setCell ⟨w.heap.size + 1 + 1, 0, none⟩ (.int .u64 ((zl u : Nat) : Int))).setCell ⟨w.heap.size + 1 + 1, 1, none⟩ (.string (zh u))).setCell ⟨w.heap.size + 1 + 1, 2, none⟩ (.bool (zs u))) = x3 at hP
 have hB1 := hP.fc
 simp only [fcG, cellsF, neK, and_true, ne_eq, Nat.zero_add, Nat.reduceAdd] at hB1
 replace hL0 := hP
 go_wp2_with fail
 exact bodyPost_ret (v := intV u) (by simp [results, Tryz.results146, go_sem, hB1]) rfl ⟨rfl, hL0.bl⟩
set_option maxHeartbeats 4000000 in
set_option maxRecDepth 100000 in
theorem cancel_w (z u : Int) (a d g v : Nat) (HA : RT 50 #[intV z] (natV a)) (HG : RT 136 #[natV a, natV d] (natV g)) (HP : RT 146 #[intV z, natV g] (intV u)) (HQ : RT 142 #[natV d, natV g] (natV v)) (w : World) :
  Calls Tryz.prog 88 #[intV z, natV d] w fun xe w' => xe = .returned (.tuple #[intV u, natV v]) ∧ Below w.heap.size w w' := by
 have hL0 : GL w w [] := GL.start w
 replace HA := Lib.hid HA
 replace HG := Lib.hid HG
 replace HP := Lib.hid HP
 replace HQ := Lib.hid HQ
 replace hL0 := ((((hL0.new rfl [.int .u64 ((zl z : Nat) : Int), .string (zh z), .bool (zs z)] 32).new (K := w.heap.size + 1) (szA _ _) [.int .u64 ((lo d : Nat) : Int), .string (hs d)] 30).new (K := w.heap.size + 1 + 1) (by simp only [World.size_alloc]) [.int .u64 0, .string ⟨#[]⟩, .bool false] 32).new (K := w.heap.size + 1 + 1 + 1) (by simp only [World.size_alloc]) [.int .u64 0, .string ⟨#[]⟩] 30)
 generalize hweq : ((((w.alloc (.cells #[.int .u64 ((zl z : Nat) : Int), .string (zh z), .bool (zs z)] 32)).alloc (.cells #[.int .u64 ((lo d : Nat) : Int), .string (hs d)] 30)).alloc (.cells #[.int .u64 0, .string ⟨#[]⟩, .bool false] 32)).alloc (.cells #[.int .u64 0, .string ⟨#[]⟩] 30)) = x1 at hL0
 go_enter Tryz.func88, Tryz.ntmps88
 go_upto_region 1 with fail
 clear hweq
 refine region_gh (by kernel_rfl) (by kernel_rfl) ?_
 refine lex_seg (gl := []) 4 (by kernel_rfl) ?_
 intro α iα F hF1 hF2
 have hq := GL.seg hF1 hL0
 simp only [fcC, cellsC, and_true, Nat.zero_add, Nat.reduceAdd] at hq
 simp only [List.take_succ_cons, List.take_zero, List.drop_succ_cons, List.drop_zero, List.take_nil, List.drop_nil]
 repeat (go_big_quiet_step (first | fail | (go_at_call 50; with_reducible exact seg_call hF2 HA.out _) | (go_at_call 136; with_reducible exact seg_call hF2 HG.out _)))
 refine wpQuiet_nil ?_
 clear hq hF1 hF2 iα F α
 refine lex_new [.int .u64 0, .string ⟨#[]⟩] 6 30 30 rfl rfl (of_decide_eq_true (by kernel_rfl)) (by kernel_rfl) rfl new_natc ?_
 simp only [Act.put, List.setIfInBounds_toArray, List.set_cons_succ, List.set_cons_zero]
 refine lex_put [.int .u64 ((lo g : Nat) : Int), .string (hs g)] [.int .u64 0, .string ⟨#[]⟩] 6 30 (.tmp 10) rfl (by kernel_rfl) (by simp [toG, upd]) rfl (fun w k h => put_natc _ _ _ _ w k h) ?_
 simp only [Act.put]
 refine lexG_nil ?_
 intro κ x2 hS
 replace hL0 := hL0.ghs hS [(6, [.int .u64 ((lo g : Nat) : Int), .string (hs g)])] (by simp) (by intro p hp; simp only [List.mem_cons, List.not_mem_nil, or_false] at hp; rcases hp with rfl <;> exact ⟨_, by simp only [toG, upd]; rfl⟩)
 simp only [List.map_cons, List.map_nil, List.cons_append, List.nil_append] at hL0
 simp only [over_toG, over_nil, Act.put, List.setIfInBounds_toArray, List.set_cons_succ, List.set_cons_zero]
 clear hS
 generalize κ 6 = k2_6 at *
 go_upto_region 2 with fail
 obtain ⟨α, iα, F, hF1, hF2⟩ := cls x2
 have hq0 := cls_box hF1 hL0 _ _ List.mem_cons_self
 simp only [cellsC, and_true, Nat.zero_add, Nat.reduceAdd] at hq0
 have hq1 := cls_box hF1 hL0 _ _ (List.mem_cons_of_mem _ (List.mem_cons_of_mem _ (List.mem_cons_of_mem _ List.mem_cons_self)))
 simp only [cellsC, and_true, Nat.zero_add, Nat.reduceAdd] at hq1
 have hq2 := cls_box hF1 hL0 _ _ (List.mem_cons_of_mem _ (List.mem_cons_of_mem _ (List.mem_cons_of_mem _ (List.mem_cons_of_mem _ List.mem_cons_self))))
 simp only [cellsC, and_true, Nat.zero_add, Nat.reduceAdd] at hq2
 refine region_qs 6 (C := fun w' => ∃ x, w' = F x) (by kernel_rfl) (by kernel_rfl) (cls_drew hF2) ?_
 simp only [List.take_succ_cons, List.take_zero, List.drop_succ_cons, List.drop_zero, List.take_nil, List.drop_nil]
 repeat (go_big_quiet_step (first | fail | (go_at_call 146; with_reducible exact cls_call hF1 hF2 HP.out _) | (go_at_call 142; with_reducible exact cls_call hF1 hF2 HQ.out _)))
 refine wpQuiet_nil ?_
 rintro wq ⟨xq, rfl⟩
 replace hL0 := hL0.call (hF1 xq)
 clear  hq0 hq1 hq2 hF2
 generalize F xq = x3 at hL0 ⊢
 clear hF1 xq iα F α
 have hA := hL0.fc
 simp only [fcG, cellsF, neK, and_true, ne_eq, Nat.zero_add, Nat.reduceAdd] at hA
 have hP := hL0.put 2 (w.heap.size + 1 + 1) _ rfl [.int .u64 ((zl u : Nat) : Int), .string (zh u), .bool (zs u)] rfl
 simp only [setAll, List.set_cons_zero, List.set_cons_succ] at hP
 generalize hput1 : (((x3.setCell ⟨w.heap.size + 1 + 1, 0, none⟩ (.int .u64 ((zl u : Nat) : Int))).setCell ⟨w.heap.size + 1 + 1, 1, none⟩ (.string (zh u))).setCell ⟨w.heap.size + 1 + 1, 2, none⟩ (.bool (zs u))) = x4 at hP
 have hB1 := hP.fc
 simp only [fcG, cellsF, neK, and_true, ne_eq, Nat.zero_add, Nat.reduceAdd] at hB1
 replace hL0 := hP
 have hP := hL0.put 1 (w.heap.size + 1 + 1 + 1) _ rfl [.int .u64 ((lo v : Nat) : Int), .string (hs v)] rfl
 simp only [setAll, List.set_cons_zero, List.set_cons_succ] at hP
 generalize hput2 : ((x4.setCell ⟨w.heap.size + 1 + 1 + 1, 0, none⟩ (.int .u64 ((lo v : Nat) : Int))).setCell ⟨w.heap.size + 1 + 1 + 1, 1, none⟩ (.string (hs v))) = x5 at hP
 have hB2 := hP.fc
 simp only [fcG, cellsF, neK, and_true, ne_eq, Nat.zero_add, Nat.reduceAdd] at hB2
 replace hL0 := hP
 go_wp2_with fail
 exact bodyPost_ret (v := .tuple #[intV u, natV v]) (by simp [results, Tryz.results88, go_sem, hB2]) rfl ⟨rfl, hL0.bl⟩
set_option maxHeartbeats 4000000 in
set_option maxRecDepth 100000 in
theorem times_one (z : Int) (HO : RT 52 #[.int .u64 1] (natV 1)) (w : World) :
  Calls Tryz.prog 85 #[intV z, natV 1] w fun xe w' => xe = .returned (intV z) ∧ Below w.heap.size w w' := by
 have hL0 : GL w w [] := GL.start w
 replace HO := Lib.hid HO
 replace hL0 := (((hL0.new rfl [.int .u64 ((zl z : Nat) : Int), .string (zh z), .bool (zs z)] 32).new (K := w.heap.size + 1) (szA _ _) [.int .u64 ((lo 1 : Nat) : Int), .string (hs 1)] 30).new (K := w.heap.size + 1 + 1) (by simp only [World.size_alloc]) [.int .u64 0, .string ⟨#[]⟩, .bool false] 32)
 generalize hweq : (((w.alloc (.cells #[.int .u64 ((zl z : Nat) : Int), .string (zh z), .bool (zs z)] 32)).alloc (.cells #[.int .u64 ((lo 1 : Nat) : Int), .string (hs 1)] 30)).alloc (.cells #[.int .u64 0, .string ⟨#[]⟩, .bool false] 32)) = x1 at hL0
 go_enter Tryz.func85, Tryz.ntmps85
 go_upto_region 1 with fail
 clear hweq
 obtain ⟨α, iα, F, hF1, hF2⟩ := cls x1
 have hq0 := cls_box hF1 hL0 _ _ (List.mem_cons_of_mem _ List.mem_cons_self)
 simp only [cellsC, and_true, Nat.zero_add, Nat.reduceAdd] at hq0
 refine region_qs 3 (C := fun w' => ∃ x, w' = F x) (by kernel_rfl) (by kernel_rfl) (cls_drew hF2) ?_
 simp only [List.take_succ_cons, List.take_zero, List.drop_succ_cons, List.drop_zero, List.take_nil, List.drop_nil]
 repeat (go_big_quiet_step (first | fail | (go_at_call 52; with_reducible exact cls_call hF1 hF2 HO.out _)))
 refine wpQuiet_nil ?_
 rintro wq ⟨xq, rfl⟩
 replace hL0 := hL0.call (hF1 xq)
 clear  hq0 hF2
 generalize F xq = x2 at hL0 ⊢
 clear hF1 xq iα F α
 have hA := hL0.fc
 simp only [fcG, cellsF, neK, and_true, ne_eq, Nat.zero_add, Nat.reduceAdd] at hA
 have hP := hL0.put 0 (w.heap.size + 1 + 1) _ rfl [.int .u64 ((zl z : Nat) : Int), .string (zh z), .bool (zs z)] rfl
 simp only [setAll, List.set_cons_zero, List.set_cons_succ] at hP
 generalize hput1 : (((x2.setCell ⟨w.heap.size + 1 + 1, 0, none⟩ (.int .u64 ((zl z : Nat) : Int))).setCell ⟨w.heap.size + 1 + 1, 1, none⟩ (.string (zh z))).setCell ⟨w.heap.size + 1 + 1, 2, none⟩ (.bool (zs z))) = x3 at hP
 have hB1 := hP.fc
 simp only [fcG, cellsF, neK, and_true, ne_eq, Nat.zero_add, Nat.reduceAdd] at hB1
 replace hL0 := hP
 go_wp2_with fail
 exact bodyPost_ret (v := intV z) (by simp [results, Tryz.results85, go_sem, hB1]) rfl ⟨rfl, hL0.bl⟩
set_option maxHeartbeats 4000000 in
set_option maxRecDepth 100000 in
theorem times_mul (z f p : Int) (d : Nat) (HO : RT 52 #[.int .u64 1] (natV 1)) (HF : RT 69 #[.bool false, natV d] (intV f)) (HM : RT 90 #[intV z, intV f] (intV p)) (hd : d ≠ 1) (w : World) :
  Calls Tryz.prog 85 #[intV z, natV d] w fun xe w' => xe = .returned (intV p) ∧ Below w.heap.size w w' := by
 have hL0 : GL w w [] := GL.start w
 replace HO := Lib.hid HO
 replace HF := Lib.hid HF
 replace HM := Lib.hid HM
 have hz := ne_nat hd
 clear hd
 rcases hz with e0 | ⟨e0, e1⟩
 all_goals (
  replace hL0 := (((hL0.new rfl [.int .u64 ((zl z : Nat) : Int), .string (zh z), .bool (zs z)] 32).new (K := w.heap.size + 1) (szA _ _) [.int .u64 ((lo d : Nat) : Int), .string (hs d)] 30).new (K := w.heap.size + 1 + 1) (by simp only [World.size_alloc]) [.int .u64 0, .string ⟨#[]⟩, .bool false] 32)
  generalize hweq : (((w.alloc (.cells #[.int .u64 ((zl z : Nat) : Int), .string (zh z), .bool (zs z)] 32)).alloc (.cells #[.int .u64 ((lo d : Nat) : Int), .string (hs d)] 30)).alloc (.cells #[.int .u64 0, .string ⟨#[]⟩, .bool false] 32)) = x1 at hL0
  go_enter Tryz.func85, Tryz.ntmps85
  go_upto_region 1 with fail
  clear hweq
  obtain ⟨α, iα, F, hF1, hF2⟩ := cls x1
  have hq0 := cls_box hF1 hL0 _ _ (List.mem_cons_of_mem _ List.mem_cons_self)
  simp only [cellsC, and_true, Nat.zero_add, Nat.reduceAdd] at hq0
  refine region_qs 3 (C := fun w' => ∃ x, w' = F x) (by kernel_rfl) (by kernel_rfl) (cls_drew hF2) ?_
  simp only [List.take_succ_cons, List.take_zero, List.drop_succ_cons, List.drop_zero, List.take_nil, List.drop_nil]
  repeat (go_big_quiet_step (first | fail | (go_at_call 52; with_reducible exact cls_call hF1 hF2 HO.out _)))
  refine wpQuiet_nil ?_
  rintro wq ⟨xq, rfl⟩
  replace hL0 := hL0.call (hF1 xq)
  clear  hq0 hF2
  generalize F xq = x2 at hL0 ⊢
  clear hF1 xq iα F α
  go_upto_region 3 with fail
  obtain ⟨α, iα, F, hF1, hF2⟩ := cls x2
  have hq0 := cls_box hF1 hL0 _ _ (List.mem_cons_of_mem _ List.mem_cons_self)
  simp only [cellsC, and_true, Nat.zero_add, Nat.reduceAdd] at hq0
  have hq1 := cls_box hF1 hL0 _ _ (List.mem_cons_of_mem _ (List.mem_cons_of_mem _ List.mem_cons_self))
  simp only [cellsC, and_true, Nat.zero_add, Nat.reduceAdd] at hq1
  refine region_qs 4 (C := fun w' => ∃ x, w' = F x) (by kernel_rfl) (by kernel_rfl) (cls_drew hF2) ?_
  simp only [List.take_succ_cons, List.take_zero, List.drop_succ_cons, List.drop_zero, List.take_nil, List.drop_nil]
  repeat (go_big_quiet_step (first | fail | (go_at_call 69; with_reducible exact cls_call hF1 hF2 HF.out _) | (go_at_call 90; with_reducible exact cls_call hF1 hF2 HM.out _)))
  refine wpQuiet_nil ?_
  rintro wq ⟨xq, rfl⟩
  replace hL0 := hL0.call (hF1 xq)
  clear  hq0 hq1 hF2
  generalize F xq = x3 at hL0 ⊢
  clear hF1 xq iα F α
  have hA := hL0.fc
  simp only [fcG, cellsF, neK, and_true, ne_eq, Nat.zero_add, Nat.reduceAdd] at hA
  have hP := hL0.put 0 (w.heap.size + 1 + 1) _ rfl [.int .u64 ((zl p : Nat) : Int), .string (zh p), .bool (zs p)] rfl
  simp only [setAll, List.set_cons_zero, List.set_cons_succ] at hP
  generalize hput1 : (((x3.setCell ⟨w.heap.size + 1 + 1, 0, none⟩ (.int .u64 ((zl p : Nat) : Int))).setCell ⟨w.heap.size + 1 + 1, 1, none⟩ (.string (zh p))).setCell ⟨w.heap.size + 1 + 1, 2, none⟩ (.bool (zs p))) = x4 at hP
  have hB1 := hP.fc
  simp only [fcG, cellsF, neK, and_true, ne_eq, Nat.zero_add, Nat.reduceAdd] at hB1
  replace hL0 := hP
  go_wp2_with fail
  exact bodyPost_ret (v := intV p) (by simp [results, Tryz.results85, go_sem, hB1]) rfl ⟨rfl, hL0.bl⟩)
set_option maxHeartbeats 4000000 in
set_option maxRecDepth 100000 in
theorem int_w (k z : Int) (HO : RT 91 #[.int .i64 k] (intV z)) (w : World) :
  Calls Tryz.prog 32 #[.int .i64 k] w fun xe w' => xe = .returned (.agg #[.int .u64 ((zl z : Nat) : Int), .string (zh z), .bool (zs z), .int .u64 0, .string ⟨#[]⟩]) ∧ Below w.heap.size w w' := by
 have hL0 : GL w w [] := GL.start w
 replace HO := Lib.hid HO
 replace hL0 := (hL0.new rfl [.int .u64 0, .string ⟨#[]⟩, .bool false, .int .u64 0, .string ⟨#[]⟩] 34)
 generalize hweq : (w.alloc (.cells #[.int .u64 0, .string ⟨#[]⟩, .bool false, .int .u64 0, .string ⟨#[]⟩] 34)) = x1 at hL0
 go_enter Tryz.func32, Tryz.ntmps32
 go_wp2_with fail
 with_reducible refine Calls.mono (HO.out _) ?_
 rintro e x2 ⟨rfl, hb⟩
 replace hL0 := hL0.call hb
 clear hb hweq
 have hA := hL0.fc
 simp only [fcG, cellsF, neK, and_true, ne_eq, Nat.zero_add, Nat.reduceAdd] at hA
 have hP := hL0.put 0 (w.heap.size) _ rfl [.int .u64 ((zl z : Nat) : Int), .string (zh z), .bool (zs z), .int .u64 0, .string ⟨#[]⟩] rfl
 simp only [setAll, List.set_cons_zero, List.set_cons_succ] at hP
 generalize hput1 : (((((x2.setCell ⟨w.heap.size, 0, none⟩ (.int .u64 ((zl z : Nat) : Int))).setCell ⟨w.heap.size, 1, none⟩ (.string (zh z))).setCell ⟨w.heap.size, 2, none⟩ (.bool (zs z))).setCell ⟨w.heap.size, 3, none⟩ (.int .u64 0)).setCell ⟨w.heap.size, 4, none⟩ (.string ⟨#[]⟩)) = x3 at hP
 have hB1 := hP.fc
 simp only [fcG, cellsF, neK, and_true, ne_eq, Nat.zero_add, Nat.reduceAdd] at hB1
 replace hL0 := hP
 go_wp2_with fail
 exact bodyPost_ret (v := .agg #[.int .u64 ((zl z : Nat) : Int), .string (zh z), .bool (zs z), .int .u64 0, .string ⟨#[]⟩]) (by simp [results, Tryz.results32, go_sem, hB1]) rfl ⟨rfl, hL0.bl⟩
set_option maxHeartbeats 4000000 in
set_option maxRecDepth 100000 in
theorem fof_true (x y s z p : Int) (a b : Int) (d e : Nat) (c : Int) (HO : RT 91 #[.int .i64 a] (intV x)) (HQ : RT 91 #[.int .i64 b] (intV y)) (HS : RT 92 #[intV y] (.int .i64 s)) (HN : RT 95 #[intV x] (intV z)) (HA : RT 50 #[intV y] (natV d)) (HF : RT 46 #[intV z, natV d] (.tuple #[frV p e, .int .i64 c])) (hsg : decide (s < 0) = true) (w : World) :
  Calls Tryz.prog 37 #[.int .i64 a, .int .i64 b] w fun xe w' => xe = .returned (.tuple #[frV p e, .int .i64 c]) ∧ Below w.heap.size w w' := by
 have hL0 : GL w w [] := GL.start w
 replace HO := Lib.hid HO
 replace HQ := Lib.hid HQ
 replace HS := Lib.hid HS
 replace HN := Lib.hid HN
 replace HA := Lib.hid HA
 replace HF := Lib.hid HF
 replace hL0 := (hL0.new rfl [.int .u64 0, .string ⟨#[]⟩, .bool false, .int .u64 0, .string ⟨#[]⟩] 34)
 generalize hweq : (w.alloc (.cells #[.int .u64 0, .string ⟨#[]⟩, .bool false, .int .u64 0, .string ⟨#[]⟩] 34)) = x1 at hL0
 go_enter Tryz.func37, Tryz.ntmps37
 go_wp2_with fail
 with_reducible refine Calls.mono (HO.out _) ?_
 rintro e x2 ⟨rfl, hb⟩
 replace hL0 := hL0.call hb
 clear hb hweq
 go_wp2_with fail
 with_reducible refine Calls.mono (HQ.out _) ?_
 rintro e x3 ⟨rfl, hb⟩
 replace hL0 := hL0.call hb
 clear hb
 replace hL0 := ((hL0.new rfl [.int .u64 ((zl x : Nat) : Int), .string (zh x), .bool (zs x)] 32).new (K := x3.heap.size + 1) (szA _ _) [.int .u64 ((zl y : Nat) : Int), .string (zh y), .bool (zs y)] 32)
 generalize hweq : ((x3.alloc (.cells #[.int .u64 ((zl x : Nat) : Int), .string (zh x), .bool (zs x)] 32)).alloc (.cells #[.int .u64 ((zl y : Nat) : Int), .string (zh y), .bool (zs y)] 32)) = x4 at hL0
 have hN0 := cells_of _ 0 [] rfl (hL0.get _ _ List.mem_cons_self)
 simp only [cellsF, and_true, Nat.zero_add, Nat.reduceAdd] at hN0
 go_wp2_with fail
 clear hN0
 with_reducible refine Calls.mono (HS.out _) ?_
 rintro e x5 ⟨rfl, hb⟩
 replace hL0 := hL0.call hb
 clear hb hweq
 have hN0 := cells_of _ 0 [] rfl (hL0.get _ _ (List.mem_cons_of_mem _ List.mem_cons_self))
 simp only [cellsF, and_true, Nat.zero_add, Nat.reduceAdd] at hN0
 go_wp2_with fail
 clear hN0
 with_reducible refine Calls.mono (HN.out _) ?_
 rintro e x6 ⟨rfl, hb⟩
 replace hL0 := hL0.call hb
 clear hb
 have hA := hL0.fc
 simp only [fcG, cellsF, neK, and_true, ne_eq, Nat.zero_add, Nat.reduceAdd] at hA
 have hP := hL0.put 1 (x3.heap.size) _ rfl [.int .u64 ((zl z : Nat) : Int), .string (zh z), .bool (zs z)] rfl
 simp only [setAll, List.set_cons_zero, List.set_cons_succ] at hP
 generalize hput1 : (((x6.setCell ⟨x3.heap.size, 0, none⟩ (.int .u64 ((zl z : Nat) : Int))).setCell ⟨x3.heap.size, 1, none⟩ (.string (zh z))).setCell ⟨x3.heap.size, 2, none⟩ (.bool (zs z))) = x7 at hP
 have hB1 := hP.fc
 simp only [fcG, cellsF, neK, and_true, ne_eq, Nat.zero_add, Nat.reduceAdd] at hB1
 replace hL0 := hP
 go_upto_region 4 with fail
 clear hA
 clear hput1 hB1
 obtain ⟨α, iα, F, hF1, hF2⟩ := cls x7
 have hq0 := cls_box hF1 hL0 _ _ List.mem_cons_self
 simp only [cellsC, and_true, Nat.zero_add, Nat.reduceAdd] at hq0
 have hq1 := cls_box hF1 hL0 _ _ (List.mem_cons_of_mem _ List.mem_cons_self)
 simp only [cellsC, and_true, Nat.zero_add, Nat.reduceAdd] at hq1
 refine region_qs 6 (C := fun w' => ∃ x, w' = F x) (by kernel_rfl) (by kernel_rfl) (cls_drew hF2) ?_
 simp only [List.take_succ_cons, List.take_zero, List.drop_succ_cons, List.drop_zero, List.take_nil, List.drop_nil]
 repeat (go_big_quiet_step (first | fail | (go_at_call 50; with_reducible exact cls_call hF1 hF2 HA.out _) | (go_at_call 46; with_reducible exact cls_call hF1 hF2 HF.out _)))
 refine wpQuiet_nil ?_
 rintro wq ⟨xq, rfl⟩
 replace hL0 := hL0.call (hF1 xq)
 clear  hq0 hq1 hF2
 generalize F xq = x8 at hL0 ⊢
 clear hF1 xq iα F α
 have hA := hL0.fc
 simp only [fcG, cellsF, neK, and_true, ne_eq, Nat.zero_add, Nat.reduceAdd] at hA
 have hP := hL0.put 2 (w.heap.size) _ rfl [.int .u64 ((zl p : Nat) : Int), .string (zh p), .bool (zs p), .int .u64 ((lo e : Nat) : Int), .string (hs e)] rfl
 simp only [setAll, List.set_cons_zero, List.set_cons_succ] at hP
 generalize hput2 : (((((x8.setCell ⟨w.heap.size, 0, none⟩ (.int .u64 ((zl p : Nat) : Int))).setCell ⟨w.heap.size, 1, none⟩ (.string (zh p))).setCell ⟨w.heap.size, 2, none⟩ (.bool (zs p))).setCell ⟨w.heap.size, 3, none⟩ (.int .u64 ((lo e : Nat) : Int))).setCell ⟨w.heap.size, 4, none⟩ (.string (hs e))) = x9 at hP
 have hB2 := hP.fc
 simp only [fcG, cellsF, neK, and_true, ne_eq, Nat.zero_add, Nat.reduceAdd] at hB2
 replace hL0 := hP
 go_wp2_with fail
 exact bodyPost_ret (v := .tuple #[frV p e, .int .i64 c]) (by simp [results, Tryz.results37, go_sem, hB2]) rfl ⟨rfl, hL0.bl⟩
set_option maxHeartbeats 4000000 in
set_option maxRecDepth 100000 in
theorem fof_false (x y s z p : Int) (a b : Int) (d e : Nat) (c : Int) (HO : RT 91 #[.int .i64 a] (intV x)) (HQ : RT 91 #[.int .i64 b] (intV y)) (HS : RT 92 #[intV y] (.int .i64 s)) (HA : RT 50 #[intV y] (natV d)) (HF : RT 46 #[intV x, natV d] (.tuple #[frV p e, .int .i64 c])) (hsg : decide (s < 0) = false) (w : World) :
  Calls Tryz.prog 37 #[.int .i64 a, .int .i64 b] w fun xe w' => xe = .returned (.tuple #[frV p e, .int .i64 c]) ∧ Below w.heap.size w w' := by
 have hL0 : GL w w [] := GL.start w
 replace HO := Lib.hid HO
 replace HQ := Lib.hid HQ
 replace HS := Lib.hid HS
 replace HA := Lib.hid HA
 replace HF := Lib.hid HF
 replace hL0 := (hL0.new rfl [.int .u64 0, .string ⟨#[]⟩, .bool false, .int .u64 0, .string ⟨#[]⟩] 34)
 generalize hweq : (w.alloc (.cells #[.int .u64 0, .string ⟨#[]⟩, .bool false, .int .u64 0, .string ⟨#[]⟩] 34)) = x1 at hL0
 go_enter Tryz.func37, Tryz.ntmps37
 go_wp2_with fail
 with_reducible refine Calls.mono (HO.out _) ?_
 rintro e x2 ⟨rfl, hb⟩
 replace hL0 := hL0.call hb
 clear hb hweq
 go_wp2_with fail
 with_reducible refine Calls.mono (HQ.out _) ?_
 rintro e x3 ⟨rfl, hb⟩
 replace hL0 := hL0.call hb
 clear hb
 replace hL0 := ((hL0.new rfl [.int .u64 ((zl x : Nat) : Int), .string (zh x), .bool (zs x)] 32).new (K := x3.heap.size + 1) (szA _ _) [.int .u64 ((zl y : Nat) : Int), .string (zh y), .bool (zs y)] 32)
 generalize hweq : ((x3.alloc (.cells #[.int .u64 ((zl x : Nat) : Int), .string (zh x), .bool (zs x)] 32)).alloc (.cells #[.int .u64 ((zl y : Nat) : Int), .string (zh y), .bool (zs y)] 32)) = x4 at hL0
 have hN0 := cells_of _ 0 [] rfl (hL0.get _ _ List.mem_cons_self)
 simp only [cellsF, and_true, Nat.zero_add, Nat.reduceAdd] at hN0
 go_wp2_with fail
 clear hN0
 with_reducible refine Calls.mono (HS.out _) ?_
 rintro e x5 ⟨rfl, hb⟩
 replace hL0 := hL0.call hb
 clear hb hweq
 go_upto_region 4 with fail
 obtain ⟨α, iα, F, hF1, hF2⟩ := cls x5
 have hq0 := cls_box hF1 hL0 _ _ List.mem_cons_self
 simp only [cellsC, and_true, Nat.zero_add, Nat.reduceAdd] at hq0
 have hq1 := cls_box hF1 hL0 _ _ (List.mem_cons_of_mem _ List.mem_cons_self)
 simp only [cellsC, and_true, Nat.zero_add, Nat.reduceAdd] at hq1
 refine region_qs 6 (C := fun w' => ∃ x, w' = F x) (by kernel_rfl) (by kernel_rfl) (cls_drew hF2) ?_
 simp only [List.take_succ_cons, List.take_zero, List.drop_succ_cons, List.drop_zero, List.take_nil, List.drop_nil]
 repeat (go_big_quiet_step (first | fail | (go_at_call 50; with_reducible exact cls_call hF1 hF2 HA.out _) | (go_at_call 46; with_reducible exact cls_call hF1 hF2 HF.out _)))
 refine wpQuiet_nil ?_
 rintro wq ⟨xq, rfl⟩
 replace hL0 := hL0.call (hF1 xq)
 clear  hq0 hq1 hF2
 generalize F xq = x6 at hL0 ⊢
 clear hF1 xq iα F α
 have hA := hL0.fc
 simp only [fcG, cellsF, neK, and_true, ne_eq, Nat.zero_add, Nat.reduceAdd] at hA
 have hP := hL0.put 2 (w.heap.size) _ rfl [.int .u64 ((zl p : Nat) : Int), .string (zh p), .bool (zs p), .int .u64 ((lo e : Nat) : Int), .string (hs e)] rfl
 simp only [setAll, List.set_cons_zero, List.set_cons_succ] at hP
 generalize hput1 : (((((x6.setCell ⟨w.heap.size, 0, none⟩ (.int .u64 ((zl p : Nat) : Int))).setCell ⟨w.heap.size, 1, none⟩ (.string (zh p))).setCell ⟨w.heap.size, 2, none⟩ (.bool (zs p))).setCell ⟨w.heap.size, 3, none⟩ (.int .u64 ((lo e : Nat) : Int))).setCell ⟨w.heap.size, 4, none⟩ (.string (hs e))) = x7 at hP
 have hB1 := hP.fc
 simp only [fcG, cellsF, neK, and_true, ne_eq, Nat.zero_add, Nat.reduceAdd] at hB1
 replace hL0 := hP
 go_wp2_with fail
 exact bodyPost_ret (v := .tuple #[frV p e, .int .i64 c]) (by simp [results, Tryz.results37, go_sem, hB1]) rfl ⟨rfl, hL0.bl⟩
set_option maxHeartbeats 4000000 in
set_option maxRecDepth 100000 in
theorem floor_w (n y q r : Int) (e d : Nat) (HD : RT 75 #[frV n e] (natV d)) (HF : RT 69 #[.bool false, natV d] (intV y)) (HV : RT 176 #[intV n, intV y] (.tuple #[intV q, intV r, .bool true])) (w : World) :
  Calls Tryz.prog 152 #[frV n e] w fun xe w' => xe = .returned (intV q) ∧ Below w.heap.size w w' := by
 have hL0 : GL w w [] := GL.start w
 replace HD := Lib.hid HD
 replace HF := Lib.hid HF
 replace HV := Lib.hid HV
 replace hL0 := ((hL0.new rfl [.int .u64 ((zl n : Nat) : Int), .string (zh n), .bool (zs n), .int .u64 ((lo e : Nat) : Int), .string (hs e)] 34).new (K := w.heap.size + 1) (szA _ _) [.int .u64 0, .string ⟨#[]⟩, .bool false] 32)
 generalize hweq : ((w.alloc (.cells #[.int .u64 ((zl n : Nat) : Int), .string (zh n), .bool (zs n), .int .u64 ((lo e : Nat) : Int), .string (hs e)] 34)).alloc (.cells #[.int .u64 0, .string ⟨#[]⟩, .bool false] 32)) = x1 at hL0
 go_enter Tryz.func152, Tryz.ntmps152
 go_upto_region 1 with fail
 clear hweq
 refine region_gh (by kernel_rfl) (by kernel_rfl) ?_
 refine lex_seg (gl := []) 10 (by kernel_rfl) ?_
 intro α iα F hF1 hF2
 have hq := GL.seg hF1 hL0
 simp only [fcC, cellsC, and_true, Nat.zero_add, Nat.reduceAdd] at hq
 simp only [List.take_succ_cons, List.take_zero, List.drop_succ_cons, List.drop_zero, List.take_nil, List.drop_nil]
 repeat (go_big_quiet_step (first | fail | (go_at_call 75; with_reducible exact seg_call hF2 HD.out _) | (go_at_call 69; with_reducible exact seg_call hF2 HF.out _) | (go_at_call 176; with_reducible exact seg_call hF2 HV.out _)))
 refine wpQuiet_nil ?_
 clear hq hF1 hF2 iα F α
 refine lex_new [.int .u64 0, .string ⟨#[]⟩, .bool false] 3 32 32 rfl rfl (of_decide_eq_true (by kernel_rfl)) (by kernel_rfl) rfl new_int ?_
 simp only [Act.put, List.setIfInBounds_toArray, List.set_cons_succ, List.set_cons_zero]
 refine lex_new [.int .u64 0, .string ⟨#[]⟩, .bool false] 4 32 32 rfl rfl (of_decide_eq_true (by kernel_rfl)) (by kernel_rfl) rfl new_int ?_
 simp only [Act.put, List.setIfInBounds_toArray, List.set_cons_succ, List.set_cons_zero]
 refine lex_put [.int .u64 ((zl q : Nat) : Int), .string (zh q), .bool (zs q)] [.int .u64 0, .string ⟨#[]⟩, .bool false] 3 32 (.tmp 13) rfl (by kernel_rfl) (by simp [toG, upd]) rfl (fun w k h => put_int _ _ _ _ _ _ w k h) ?_
 simp only [Act.put]
 refine lex_put [.int .u64 ((zl r : Nat) : Int), .string (zh r), .bool (zs r)] [.int .u64 0, .string ⟨#[]⟩, .bool false] 4 32 (.tmp 14) rfl (by kernel_rfl) (by simp [toG, upd]) rfl (fun w k h => put_int _ _ _ _ _ _ w k h) ?_
 simp only [Act.put]
 refine lex_seg (gl := [(4, [.int .u64 ((zl r : Nat) : Int), .string (zh r), .bool (zs r)], true), (3, [.int .u64 ((zl q : Nat) : Int), .string (zh q), .bool (zs q)], true), (4, [.int .u64 0, .string ⟨#[]⟩, .bool false], false), (3, [.int .u64 0, .string ⟨#[]⟩, .bool false], false)]) 1 (by kernel_rfl) ?_
 intro α iα F hF1 hF2
 have hq := GL.seg hF1 hL0
 simp only [fcC, cellsC, and_true, Nat.zero_add, Nat.reduceAdd] at hq
 simp only [List.take_succ_cons, List.take_zero, List.drop_succ_cons, List.drop_zero, List.take_nil, List.drop_nil]
 repeat (go_big_quiet_step (first | fail | (go_at_call 75; with_reducible exact seg_call hF2 HD.out _) | (go_at_call 69; with_reducible exact seg_call hF2 HF.out _) | (go_at_call 176; with_reducible exact seg_call hF2 HV.out _)))
 refine wpQuiet_nil ?_
 clear hq hF1 hF2 iα F α
 refine lexG_nil ?_
 intro κ x2 hS
 replace hL0 := hL0.ghs hS [(4, [.int .u64 ((zl r : Nat) : Int), .string (zh r), .bool (zs r)]), (3, [.int .u64 ((zl q : Nat) : Int), .string (zh q), .bool (zs q)])] (by simp) (by intro p hp; simp only [List.mem_cons, List.not_mem_nil, or_false] at hp; rcases hp with rfl | rfl <;> exact ⟨_, by simp only [toG, upd]; rfl⟩)
 simp only [List.map_cons, List.map_nil, List.cons_append, List.nil_append] at hL0
 simp only [over_toG, over_nil, Act.put, List.setIfInBounds_toArray, List.set_cons_succ, List.set_cons_zero]
 clear hS
 generalize κ 4 = k2_4 at *
 generalize κ 3 = k2_3 at *
 have hA := hL0.fc
 simp only [fcG, cellsF, neK, and_true, ne_eq, Nat.zero_add, Nat.reduceAdd] at hA
 have hP := hL0.put 2 (w.heap.size + 1) _ rfl [.int .u64 ((zl q : Nat) : Int), .string (zh q), .bool (zs q)] rfl
 simp only [setAll, List.set_cons_zero, List.set_cons_succ] at hP
 generalize hput1 : (((x2.setCell ⟨w.heap.size + 1, 0, none⟩ (.int .u64 ((zl q : Nat) : Int))).setCell ⟨w.heap.size + 1, 1, none⟩ (.string (zh q))).setCell ⟨w.heap.size + 1, 2, none⟩ (.bool (zs q))) = x3 at hP
 have hB1 := hP.fc
 simp only [fcG, cellsF, neK, and_true, ne_eq, Nat.zero_add, Nat.reduceAdd] at hB1
 replace hL0 := hP
 go_wp2_with fail
 exact bodyPost_ret (v := intV q) (by simp [results, Tryz.results152, go_sem, hB1]) rfl ⟨rfl, hL0.bl⟩
set_option maxHeartbeats 4000000 in
set_option maxRecDepth 100000 in
theorem ceil_w (n m q p : Int) (e : Nat) (HN : RT 36 #[frV n e] (frV m e)) (HF : RT 152 #[frV m e] (intV q)) (HG : RT 95 #[intV q] (intV p)) (w : World) :
  Calls Tryz.prog 153 #[frV n e] w fun xe w' => xe = .returned (intV p) ∧ Below w.heap.size w w' := by
 have hL0 : GL w w [] := GL.start w
 replace HN := Lib.hid HN
 replace HF := Lib.hid HF
 replace HG := Lib.hid HG
 replace hL0 := ((hL0.new rfl [.int .u64 ((zl n : Nat) : Int), .string (zh n), .bool (zs n), .int .u64 ((lo e : Nat) : Int), .string (hs e)] 34).new (K := w.heap.size + 1) (szA _ _) [.int .u64 0, .string ⟨#[]⟩, .bool false] 32)
 generalize hweq : ((w.alloc (.cells #[.int .u64 ((zl n : Nat) : Int), .string (zh n), .bool (zs n), .int .u64 ((lo e : Nat) : Int), .string (hs e)] 34)).alloc (.cells #[.int .u64 0, .string ⟨#[]⟩, .bool false] 32)) = x1 at hL0
 go_enter Tryz.func153, Tryz.ntmps153
 have hN0 := cells_of _ 0 [] rfl (hL0.get _ _ (List.mem_cons_of_mem _ List.mem_cons_self))
 simp only [cellsF, and_true, Nat.zero_add, Nat.reduceAdd] at hN0
 go_wp2_with fail
 clear hN0
 with_reducible refine Calls.mono (HN.out _) ?_
 rintro e x2 ⟨rfl, hb⟩
 replace hL0 := hL0.call hb
 clear hb hweq
 go_wp2_with fail
 with_reducible refine Calls.mono (HF.out _) ?_
 rintro e x3 ⟨rfl, hb⟩
 replace hL0 := hL0.call hb
 clear hb
 go_wp2_with fail
 with_reducible refine Calls.mono (HG.out _) ?_
 rintro e x4 ⟨rfl, hb⟩
 replace hL0 := hL0.call hb
 clear hb
 have hA := hL0.fc
 simp only [fcG, cellsF, neK, and_true, ne_eq, Nat.zero_add, Nat.reduceAdd] at hA
 have hP := hL0.put 0 (w.heap.size + 1) _ rfl [.int .u64 ((zl p : Nat) : Int), .string (zh p), .bool (zs p)] rfl
 simp only [setAll, List.set_cons_zero, List.set_cons_succ] at hP
 generalize hput1 : (((x4.setCell ⟨w.heap.size + 1, 0, none⟩ (.int .u64 ((zl p : Nat) : Int))).setCell ⟨w.heap.size + 1, 1, none⟩ (.string (zh p))).setCell ⟨w.heap.size + 1, 2, none⟩ (.bool (zs p))) = x5 at hP
 have hB1 := hP.fc
 simp only [fcG, cellsF, neK, and_true, ne_eq, Nat.zero_add, Nat.reduceAdd] at hB1
 replace hL0 := hP
 go_wp2_with fail
 exact bodyPost_ret (v := intV p) (by simp [results, Tryz.results153, go_sem, hB1]) rfl ⟨rfl, hL0.bl⟩
set_option maxHeartbeats 4000000 in
set_option maxRecDepth 100000 in
theorem fneg_w (n m : Int) (e : Nat) (HN : RT 95 #[intV n] (intV m)) (w : World) :
  Calls Tryz.prog 36 #[frV n e] w fun xe w' => xe = .returned (frV m e) ∧ Below w.heap.size w w' := by
 have hL0 : GL w w [] := GL.start w
 replace HN := Lib.hid HN
 replace hL0 := ((hL0.new rfl [.int .u64 ((zl n : Nat) : Int), .string (zh n), .bool (zs n), .int .u64 ((lo e : Nat) : Int), .string (hs e)] 34).new (K := w.heap.size + 1) (szA _ _) [.int .u64 0, .string ⟨#[]⟩, .bool false, .int .u64 0, .string ⟨#[]⟩] 34)
 generalize hweq : ((w.alloc (.cells #[.int .u64 ((zl n : Nat) : Int), .string (zh n), .bool (zs n), .int .u64 ((lo e : Nat) : Int), .string (hs e)] 34)).alloc (.cells #[.int .u64 0, .string ⟨#[]⟩, .bool false, .int .u64 0, .string ⟨#[]⟩] 34)) = x1 at hL0
 go_enter Tryz.func36, Tryz.ntmps36
 go_upto_region 1 with fail
 clear hweq
 obtain ⟨α, iα, F, hF1, hF2⟩ := cls x1
 have hq0 := cls_box hF1 hL0 _ _ (List.mem_cons_of_mem _ List.mem_cons_self)
 simp only [cellsC, and_true, Nat.zero_add, Nat.reduceAdd] at hq0
 refine region_qs 6 (C := fun w' => ∃ x, w' = F x) (by kernel_rfl) (by kernel_rfl) (cls_drew hF2) ?_
 simp only [List.take_succ_cons, List.take_zero, List.drop_succ_cons, List.drop_zero, List.take_nil, List.drop_nil]
 repeat (go_big_quiet_step (first | fail | (go_at_call 95; with_reducible exact cls_call hF1 hF2 HN.out _)))
 refine wpQuiet_nil ?_
 rintro wq ⟨xq, rfl⟩
 replace hL0 := hL0.call (hF1 xq)
 clear  hq0 hF2
 generalize F xq = x2 at hL0 ⊢
 clear hF1 xq iα F α
 have hA := hL0.fc
 simp only [fcG, cellsF, neK, and_true, ne_eq, Nat.zero_add, Nat.reduceAdd] at hA
 have hP := hL0.put 0 (w.heap.size + 1) _ rfl [.int .u64 ((zl m : Nat) : Int), .string (zh m), .bool (zs m), .int .u64 ((lo e : Nat) : Int), .string (hs e)] rfl
 simp only [setAll, List.set_cons_zero, List.set_cons_succ] at hP
 generalize hput1 : (((((x2.setCell ⟨w.heap.size + 1, 0, none⟩ (.int .u64 ((zl m : Nat) : Int))).setCell ⟨w.heap.size + 1, 1, none⟩ (.string (zh m))).setCell ⟨w.heap.size + 1, 2, none⟩ (.bool (zs m))).setCell ⟨w.heap.size + 1, 3, none⟩ (.int .u64 ((lo e : Nat) : Int))).setCell ⟨w.heap.size + 1, 4, none⟩ (.string (hs e))) = x3 at hP
 have hB1 := hP.fc
 simp only [fcG, cellsF, neK, and_true, ne_eq, Nat.zero_add, Nat.reduceAdd] at hB1
 replace hL0 := hP
 go_wp2_with fail
 exact bodyPost_ret (v := frV m e) (by simp [results, Tryz.results36, go_sem, hB1]) rfl ⟨rfl, hL0.bl⟩
end Go.Proofs.YtahfcciihkkegaaGreatDoor
namespace Go.Proofs.YtahfcciihkkegaaGreatDoor
open Go.RowKit
attribute [local irreducible] lo hs sm s64 c64 d64 b64 mh ml pd pc qd qc val hiB str cmpI srD lz nb isq decB zl zh zs
set_option maxHeartbeats 4000000 in
set_option maxRecDepth 100000 in
theorem fcmp_w (m n x y c : Int) (d e p q : Nat) (HD : RT 75 #[frV m d] (natV p)) (HE : RT 75 #[frV n e] (natV q)) (HS : RT 85 #[intV m, natV q] (intV x)) (HT : RT 85 #[intV n, natV p] (intV y)) (HC : RT 84 #[intV x, intV y] (.int .i64 c)) (w : World) :
  Calls Tryz.prog 29 #[frV m d, frV n e] w fun xe w' => xe = .returned (.int .i64 c) ∧ Below w.heap.size w w' := by
 have hL0 : GL w w [] := GL.start w
 replace HD := Lib.hid HD
 replace HE := Lib.hid HE
 replace HS := Lib.hid HS
 replace HT := Lib.hid HT
 replace HC := Lib.hid HC
 replace hL0 := ((hL0.new rfl [.int .u64 ((zl m : Nat) : Int), .string (zh m), .bool (zs m), .int .u64 ((lo d : Nat) : Int), .string (hs d)] 34).new (K := w.heap.size + 1) (szA _ _) [.int .u64 ((zl n : Nat) : Int), .string (zh n), .bool (zs n), .int .u64 ((lo e : Nat) : Int), .string (hs e)] 34)
 generalize hweq : ((w.alloc (.cells #[.int .u64 ((zl m : Nat) : Int), .string (zh m), .bool (zs m), .int .u64 ((lo d : Nat) : Int), .string (hs d)] 34)).alloc (.cells #[.int .u64 ((zl n : Nat) : Int), .string (zh n), .bool (zs n), .int .u64 ((lo e : Nat) : Int), .string (hs e)] 34)) = x1 at hL0
 go_enter Tryz.func29, Tryz.ntmps29
 go_upto_region 1 with fail
 clear hweq
 obtain ⟨α, iα, F, hF1, hF2⟩ := cls x1
 have hq0 := cls_box hF1 hL0 _ _ List.mem_cons_self
 simp only [cellsC, and_true, Nat.zero_add, Nat.reduceAdd] at hq0
 have hq1 := cls_box hF1 hL0 _ _ (List.mem_cons_of_mem _ List.mem_cons_self)
 simp only [cellsC, and_true, Nat.zero_add, Nat.reduceAdd] at hq1
 refine region_qs 12 (C := fun w' => ∃ x, w' = F x) (by kernel_rfl) (by kernel_rfl) (cls_drew hF2) ?_
 simp only [List.take_succ_cons, List.take_zero, List.drop_succ_cons, List.drop_zero, List.take_nil, List.drop_nil]
 repeat (go_big_quiet_step (first | fail | (go_at_call 75; with_reducible exact cls_call hF1 hF2 HE.out _) | (go_at_call 85; with_reducible exact cls_call hF1 hF2 HS.out _) | (go_at_call 75; with_reducible exact cls_call hF1 hF2 HD.out _) | (go_at_call 85; with_reducible exact cls_call hF1 hF2 HT.out _) | (go_at_call 84; with_reducible exact cls_call hF1 hF2 HC.out _)))
 refine wpQuiet_nil ?_
 rintro wq ⟨xq, rfl⟩
 replace hL0 := hL0.call (hF1 xq)
 clear  hq0 hq1 hF2
 generalize F xq = x2 at hL0 ⊢
 clear hF1 xq iα F α
 go_wp2_with fail
 exact bodyPost_ret (v := .int .i64 c) (by simp [results, Tryz.results29, go_sem]) rfl ⟨rfl, hL0.bl⟩
set_option maxHeartbeats 4000000 in
set_option maxRecDepth 100000 in
theorem fmul_w (m n u v x y : Int) (d e p q g h k f : Nat) (HD : RT 75 #[frV m d] (natV p)) (HE : RT 75 #[frV n e] (natV q)) (HX : RT 88 #[intV m, natV q] (.tuple #[intV u, natV g])) (HY : RT 88 #[intV n, natV p] (.tuple #[intV v, natV h])) (HM : RT 90 #[intV u, intV v] (intV x)) (HP : RT 68 #[natV h, natV g] (natV k)) (HL : RT 89 #[intV x, natV k] (frV y f)) (w : World) :
  Calls Tryz.prog 31 #[frV m d, frV n e] w fun xe w' => xe = .returned (frV y f) ∧ Below w.heap.size w w' := by
 have hL0 : GL w w [] := GL.start w
 replace HD := Lib.hid HD
 replace HE := Lib.hid HE
 replace HX := Lib.hid HX
 replace HY := Lib.hid HY
 replace HM := Lib.hid HM
 replace HP := Lib.hid HP
 replace HL := Lib.hid HL
 replace hL0 := (((hL0.new rfl [.int .u64 ((zl m : Nat) : Int), .string (zh m), .bool (zs m), .int .u64 ((lo d : Nat) : Int), .string (hs d)] 34).new (K := w.heap.size + 1) (szA _ _) [.int .u64 ((zl n : Nat) : Int), .string (zh n), .bool (zs n), .int .u64 ((lo e : Nat) : Int), .string (hs e)] 34).new (K := w.heap.size + 1 + 1) (by simp only [World.size_alloc]) [.int .u64 0, .string ⟨#[]⟩, .bool false, .int .u64 0, .string ⟨#[]⟩] 34)
 generalize hweq : (((w.alloc (.cells #[.int .u64 ((zl m : Nat) : Int), .string (zh m), .bool (zs m), .int .u64 ((lo d : Nat) : Int), .string (hs d)] 34)).alloc (.cells #[.int .u64 ((zl n : Nat) : Int), .string (zh n), .bool (zs n), .int .u64 ((lo e : Nat) : Int), .string (hs e)] 34)).alloc (.cells #[.int .u64 0, .string ⟨#[]⟩, .bool false, .int .u64 0, .string ⟨#[]⟩] 34)) = x1 at hL0
 go_enter Tryz.func31, Tryz.ntmps31
 go_upto_region 1 with fail
 clear hweq
 refine region_gh (by kernel_rfl) (by kernel_rfl) ?_
 refine lex_seg (gl := []) 8 (by kernel_rfl) ?_
 intro α iα F hF1 hF2
 have hq := GL.seg hF1 hL0
 simp only [fcC, cellsC, and_true, Nat.zero_add, Nat.reduceAdd] at hq
 simp only [List.take_succ_cons, List.take_zero, List.drop_succ_cons, List.drop_zero, List.take_nil, List.drop_nil]
 repeat (go_big_quiet_step (first | fail | (go_at_call 75; with_reducible exact seg_call hF2 HE.out _) | (go_at_call 88; with_reducible exact seg_call hF2 HX.out _)))
 refine wpQuiet_nil ?_
 clear hq hF1 hF2 iα F α
 refine lex_new [.int .u64 0, .string ⟨#[]⟩, .bool false] 5 32 32 rfl rfl (of_decide_eq_true (by kernel_rfl)) (by kernel_rfl) rfl new_int ?_
 simp only [Act.put, List.setIfInBounds_toArray, List.set_cons_succ, List.set_cons_zero]
 refine lex_new [.int .u64 0, .string ⟨#[]⟩] 6 30 30 rfl rfl (of_decide_eq_true (by kernel_rfl)) (by kernel_rfl) rfl new_natc ?_
 simp only [Act.put, List.setIfInBounds_toArray, List.set_cons_succ, List.set_cons_zero]
 refine lex_put [.int .u64 ((zl u : Nat) : Int), .string (zh u), .bool (zs u)] [.int .u64 0, .string ⟨#[]⟩, .bool false] 5 32 (.tmp 15) rfl (by kernel_rfl) (by simp [toG, upd]) rfl (fun w k h => put_int _ _ _ _ _ _ w k h) ?_
 simp only [Act.put]
 refine lex_put [.int .u64 ((lo g : Nat) : Int), .string (hs g)] [.int .u64 0, .string ⟨#[]⟩] 6 30 (.tmp 16) rfl (by kernel_rfl) (by simp [toG, upd]) rfl (fun w k h => put_natc _ _ _ _ w k h) ?_
 simp only [Act.put]
 refine lexG_nil ?_
 intro κ x2 hS
 replace hL0 := hL0.ghs hS [(6, [.int .u64 ((lo g : Nat) : Int), .string (hs g)]), (5, [.int .u64 ((zl u : Nat) : Int), .string (zh u), .bool (zs u)])] (by simp) (by intro p hp; simp only [List.mem_cons, List.not_mem_nil, or_false] at hp; rcases hp with rfl | rfl <;> exact ⟨_, by simp only [toG, upd]; rfl⟩)
 simp only [List.map_cons, List.map_nil, List.cons_append, List.nil_append] at hL0
 simp only [over_toG, over_nil, Act.put, List.setIfInBounds_toArray, List.set_cons_succ, List.set_cons_zero]
 clear hS
 generalize κ 6 = k2_6 at *
 generalize κ 5 = k2_5 at *
 go_upto_region 2 with fail
 refine region_gh (by kernel_rfl) (by kernel_rfl) ?_
 refine lex_seg (gl := []) 8 (by kernel_rfl) ?_
 intro α iα F hF1 hF2
 have hq := GL.seg hF1 hL0
 simp only [fcC, cellsC, and_true, Nat.zero_add, Nat.reduceAdd] at hq
 simp only [List.take_succ_cons, List.take_zero, List.drop_succ_cons, List.drop_zero, List.take_nil, List.drop_nil]
 repeat (go_big_quiet_step (first | fail | (go_at_call 75; with_reducible exact seg_call hF2 HD.out _) | (go_at_call 88; with_reducible exact seg_call hF2 HY.out _)))
 refine wpQuiet_nil ?_
 clear hq hF1 hF2 iα F α
 refine lex_new [.int .u64 0, .string ⟨#[]⟩, .bool false] 7 32 32 rfl rfl (of_decide_eq_true (by kernel_rfl)) (by kernel_rfl) rfl new_int ?_
 simp only [Act.put, List.setIfInBounds_toArray, List.set_cons_succ, List.set_cons_zero]
 refine lex_new [.int .u64 0, .string ⟨#[]⟩] 8 30 30 rfl rfl (of_decide_eq_true (by kernel_rfl)) (by kernel_rfl) rfl new_natc ?_
 simp only [Act.put, List.setIfInBounds_toArray, List.set_cons_succ, List.set_cons_zero]
 refine lex_put [.int .u64 ((zl v : Nat) : Int), .string (zh v), .bool (zs v)] [.int .u64 0, .string ⟨#[]⟩, .bool false] 7 32 (.tmp 23) rfl (by kernel_rfl) (by simp [toG, upd]) rfl (fun w k h => put_int _ _ _ _ _ _ w k h) ?_
 simp only [Act.put]
 refine lex_put [.int .u64 ((lo h : Nat) : Int), .string (hs h)] [.int .u64 0, .string ⟨#[]⟩] 8 30 (.tmp 24) rfl (by kernel_rfl) (by simp [toG, upd]) rfl (fun w k h => put_natc _ _ _ _ w k h) ?_
 simp only [Act.put]
 refine lexG_nil ?_
 intro κ x3 hS
 replace hL0 := hL0.ghs hS [(8, [.int .u64 ((lo h : Nat) : Int), .string (hs h)]), (7, [.int .u64 ((zl v : Nat) : Int), .string (zh v), .bool (zs v)])] (by simp) (by intro p hp; simp only [List.mem_cons, List.not_mem_nil, or_false] at hp; rcases hp with rfl | rfl <;> exact ⟨_, by simp only [toG, upd]; rfl⟩)
 simp only [List.map_cons, List.map_nil, List.cons_append, List.nil_append] at hL0
 simp only [over_toG, over_nil, Act.put, List.setIfInBounds_toArray, List.set_cons_succ, List.set_cons_zero]
 clear hS
 generalize κ 8 = k3_8 at *
 generalize κ 7 = k3_7 at *
 go_upto_region 3 with fail
 obtain ⟨α, iα, F, hF1, hF2⟩ := cls x3
 have hq0 := cls_box hF1 hL0 _ _ List.mem_cons_self
 simp only [cellsC, and_true, Nat.zero_add, Nat.reduceAdd] at hq0
 have hq1 := cls_box hF1 hL0 _ _ (List.mem_cons_of_mem _ List.mem_cons_self)
 simp only [cellsC, and_true, Nat.zero_add, Nat.reduceAdd] at hq1
 have hq2 := cls_box hF1 hL0 _ _ (List.mem_cons_of_mem _ (List.mem_cons_of_mem _ List.mem_cons_self))
 simp only [cellsC, and_true, Nat.zero_add, Nat.reduceAdd] at hq2
 have hq3 := cls_box hF1 hL0 _ _ (List.mem_cons_of_mem _ (List.mem_cons_of_mem _ (List.mem_cons_of_mem _ List.mem_cons_self)))
 simp only [cellsC, and_true, Nat.zero_add, Nat.reduceAdd] at hq3
 refine region_qs 7 (C := fun w' => ∃ x, w' = F x) (by kernel_rfl) (by kernel_rfl) (cls_drew hF2) ?_
 simp only [List.take_succ_cons, List.take_zero, List.drop_succ_cons, List.drop_zero, List.take_nil, List.drop_nil]
 repeat (go_big_quiet_step (first | fail | (go_at_call 90; with_reducible exact cls_call hF1 hF2 HM.out _) | (go_at_call 68; with_reducible exact cls_call hF1 hF2 HP.out _) | (go_at_call 89; with_reducible exact cls_call hF1 hF2 HL.out _)))
 refine wpQuiet_nil ?_
 rintro wq ⟨xq, rfl⟩
 replace hL0 := hL0.call (hF1 xq)
 clear  hq0 hq1 hq2 hq3 hF2
 generalize F xq = x4 at hL0 ⊢
 clear hF1 xq iα F α
 have hA := hL0.fc
 simp only [fcG, cellsF, neK, and_true, ne_eq, Nat.zero_add, Nat.reduceAdd] at hA
 have hP := hL0.put 4 (w.heap.size + 1 + 1) _ rfl [.int .u64 ((zl y : Nat) : Int), .string (zh y), .bool (zs y), .int .u64 ((lo f : Nat) : Int), .string (hs f)] rfl
 simp only [setAll, List.set_cons_zero, List.set_cons_succ] at hP
 generalize hput1 : (((((x4.setCell ⟨w.heap.size + 1 + 1, 0, none⟩ (.int .u64 ((zl y : Nat) : Int))).setCell ⟨w.heap.size + 1 + 1, 1, none⟩ (.string (zh y))).setCell ⟨w.heap.size + 1 + 1, 2, none⟩ (.bool (zs y))).setCell ⟨w.heap.size + 1 + 1, 3, none⟩ (.int .u64 ((lo f : Nat) : Int))).setCell ⟨w.heap.size + 1 + 1, 4, none⟩ (.string (hs f))) = x5 at hP
 have hB1 := hP.fc
 simp only [fcG, cellsF, neK, and_true, ne_eq, Nat.zero_add, Nat.reduceAdd] at hB1
 replace hL0 := hP
 go_wp2_with fail
 exact bodyPost_ret (v := frV y f) (by simp [results, Tryz.results31, go_sem, hB1]) rfl ⟨rfl, hL0.bl⟩
set_option maxHeartbeats 4000000 in
set_option maxRecDepth 100000 in
theorem fcombine_sub (m n x y s u z : Int) (d e p0 q0 g p q r t v f : Nat) (HD : RT 75 #[frV m d] (natV p0)) (HE : RT 75 #[frV n e] (natV q0)) (HG : RT 136 #[natV p0, natV q0] (natV g)) (HP : RT 142 #[natV p0, natV g] (natV p)) (HQ : RT 142 #[natV q0, natV g] (natV q)) (HS : RT 85 #[intV m, natV q] (intV x)) (HT : RT 85 #[intV n, natV p] (intV y)) (HB : RT 87 #[intV x, intV y] (intV s)) (HC : RT 88 #[intV s, natV g] (.tuple #[intV u, natV r])) (HU : RT 68 #[natV p, natV q] (natV t)) (HV : RT 68 #[natV t, natV r] (natV v)) (HL : RT 89 #[intV u, natV v] (frV z f)) (w : World) :
  Calls Tryz.prog 86 #[frV m d, frV n e, .func (.func 87) #[] #[]] w fun xe w' => xe = .returned (frV z f) ∧ Below w.heap.size w w' := by
 have hL0 : GL w w [] := GL.start w
 replace HD := Lib.hid HD
 replace HE := Lib.hid HE
 replace HG := Lib.hid HG
 replace HP := Lib.hid HP
 replace HQ := Lib.hid HQ
 replace HS := Lib.hid HS
 replace HT := Lib.hid HT
 replace HB := Lib.hid HB
 replace HC := Lib.hid HC
 replace HU := Lib.hid HU
 replace HV := Lib.hid HV
 replace HL := Lib.hid HL
 replace hL0 := (((hL0.new rfl [.int .u64 ((zl m : Nat) : Int), .string (zh m), .bool (zs m), .int .u64 ((lo d : Nat) : Int), .string (hs d)] 34).new (K := w.heap.size + 1) (szA _ _) [.int .u64 ((zl n : Nat) : Int), .string (zh n), .bool (zs n), .int .u64 ((lo e : Nat) : Int), .string (hs e)] 34).new (K := w.heap.size + 1 + 1) (by simp only [World.size_alloc]) [.int .u64 0, .string ⟨#[]⟩, .bool false, .int .u64 0, .string ⟨#[]⟩] 34)
 generalize hweq : (((w.alloc (.cells #[.int .u64 ((zl m : Nat) : Int), .string (zh m), .bool (zs m), .int .u64 ((lo d : Nat) : Int), .string (hs d)] 34)).alloc (.cells #[.int .u64 ((zl n : Nat) : Int), .string (zh n), .bool (zs n), .int .u64 ((lo e : Nat) : Int), .string (hs e)] 34)).alloc (.cells #[.int .u64 0, .string ⟨#[]⟩, .bool false, .int .u64 0, .string ⟨#[]⟩] 34)) = x1 at hL0
 go_enter Tryz.func86, Tryz.ntmps86
 go_upto_region 1 with fail
 clear hweq
 refine region_gh (by kernel_rfl) (by kernel_rfl) ?_
 refine lex_seg (gl := []) 5 (by kernel_rfl) ?_
 intro α iα F hF1 hF2
 have hq := GL.seg hF1 hL0
 simp only [fcC, cellsC, and_true, Nat.zero_add, Nat.reduceAdd] at hq
 simp only [List.take_succ_cons, List.take_zero, List.drop_succ_cons, List.drop_zero, List.take_nil, List.drop_nil]
 repeat (go_big_quiet_step (first | fail | (go_at_call 75; with_reducible exact seg_call hF2 HD.out _) | (go_at_call 75; with_reducible exact seg_call hF2 HE.out _) | (go_at_call 136; with_reducible exact seg_call hF2 HG.out _)))
 refine wpQuiet_nil ?_
 clear hq hF1 hF2 iα F α
 refine lex_new [.int .u64 0, .string ⟨#[]⟩] 7 30 30 rfl rfl (of_decide_eq_true (by kernel_rfl)) (by kernel_rfl) rfl new_natc ?_
 simp only [Act.put, List.setIfInBounds_toArray, List.set_cons_succ, List.set_cons_zero]
 refine lex_put [.int .u64 ((lo g : Nat) : Int), .string (hs g)] [.int .u64 0, .string ⟨#[]⟩] 7 30 (.tmp 16) rfl (by kernel_rfl) (by simp [toG, upd]) rfl (fun w k h => put_natc _ _ _ _ w k h) ?_
 simp only [Act.put]
 refine lexG_nil ?_
 intro κ x2 hS
 replace hL0 := hL0.ghs hS [(7, [.int .u64 ((lo g : Nat) : Int), .string (hs g)])] (by simp) (by intro p hp; simp only [List.mem_cons, List.not_mem_nil, or_false] at hp; rcases hp with rfl <;> exact ⟨_, by simp only [toG, upd]; rfl⟩)
 simp only [List.map_cons, List.map_nil, List.cons_append, List.nil_append] at hL0
 simp only [over_toG, over_nil, Act.put, List.setIfInBounds_toArray, List.set_cons_succ, List.set_cons_zero]
 clear hS
 generalize κ 7 = k2_7 at *
 go_upto_region 2 with fail
 refine region_gh (by kernel_rfl) (by kernel_rfl) ?_
 refine lex_seg (gl := []) 8 (by kernel_rfl) ?_
 intro α iα F hF1 hF2
 have hq := GL.seg hF1 hL0
 simp only [fcC, cellsC, and_true, Nat.zero_add, Nat.reduceAdd] at hq
 simp only [List.take_succ_cons, List.take_zero, List.drop_succ_cons, List.drop_zero, List.take_nil, List.drop_nil]
 repeat (go_big_quiet_step (first | fail | (go_at_call 75; with_reducible exact seg_call hF2 HD.out _) | (go_at_call 142; with_reducible exact seg_call hF2 HP.out _) | (go_at_call 75; with_reducible exact seg_call hF2 HE.out _) | (go_at_call 142; with_reducible exact seg_call hF2 HQ.out _)))
 refine wpQuiet_nil ?_
 clear hq hF1 hF2 iα F α
 refine lex_new [.int .u64 0, .string ⟨#[]⟩] 8 30 30 rfl rfl (of_decide_eq_true (by kernel_rfl)) (by kernel_rfl) rfl new_natc ?_
 simp only [Act.put, List.setIfInBounds_toArray, List.set_cons_succ, List.set_cons_zero]
 refine lex_new [.int .u64 0, .string ⟨#[]⟩] 9 30 30 rfl rfl (of_decide_eq_true (by kernel_rfl)) (by kernel_rfl) rfl new_natc ?_
 simp only [Act.put, List.setIfInBounds_toArray, List.set_cons_succ, List.set_cons_zero]
 refine lex_put [.int .u64 ((lo p : Nat) : Int), .string (hs p)] [.int .u64 0, .string ⟨#[]⟩] 8 30 (.tmp 20) rfl (by kernel_rfl) (by simp [toG, upd]) rfl (fun w k h => put_natc _ _ _ _ w k h) ?_
 simp only [Act.put]
 refine lex_put [.int .u64 ((lo q : Nat) : Int), .string (hs q)] [.int .u64 0, .string ⟨#[]⟩] 9 30 (.tmp 24) rfl (by kernel_rfl) (by simp [toG, upd]) rfl (fun w k h => put_natc _ _ _ _ w k h) ?_
 simp only [Act.put]
 refine lexG_nil ?_
 intro κ x3 hS
 replace hL0 := hL0.ghs hS [(9, [.int .u64 ((lo q : Nat) : Int), .string (hs q)]), (8, [.int .u64 ((lo p : Nat) : Int), .string (hs p)])] (by simp) (by intro p hp; simp only [List.mem_cons, List.not_mem_nil, or_false] at hp; rcases hp with rfl | rfl <;> exact ⟨_, by simp only [toG, upd]; rfl⟩)
 simp only [List.map_cons, List.map_nil, List.cons_append, List.nil_append] at hL0
 simp only [over_toG, over_nil, Act.put, List.setIfInBounds_toArray, List.set_cons_succ, List.set_cons_zero]
 clear hS
 generalize κ 9 = k3_9 at *
 generalize κ 8 = k3_8 at *
 go_upto_region 3 with fail
 refine region_gh (by kernel_rfl) (by kernel_rfl) ?_
 refine lex_seg (gl := []) 15 (by kernel_rfl) ?_
 intro α iα F hF1 hF2
 have hq := GL.seg hF1 hL0
 simp only [fcC, cellsC, and_true, Nat.zero_add, Nat.reduceAdd] at hq
 simp only [List.take_succ_cons, List.take_zero, List.drop_succ_cons, List.drop_zero, List.take_nil, List.drop_nil]
 repeat (go_big_quiet_step (first | fail | (go_at_call 85; with_reducible exact seg_call hF2 HS.out _) | (go_at_call 85; with_reducible exact seg_call hF2 HT.out _) | (go_at_call 87; with_reducible exact seg_call hF2 HB.out _) | (go_at_call 88; with_reducible exact seg_call hF2 HC.out _)))
 refine wpQuiet_nil ?_
 clear hq hF1 hF2 iα F α
 refine lex_new [.int .u64 0, .string ⟨#[]⟩, .bool false] 10 32 32 rfl rfl (of_decide_eq_true (by kernel_rfl)) (by kernel_rfl) rfl new_int ?_
 simp only [Act.put, List.setIfInBounds_toArray, List.set_cons_succ, List.set_cons_zero]
 refine lex_new [.int .u64 0, .string ⟨#[]⟩] 11 30 30 rfl rfl (of_decide_eq_true (by kernel_rfl)) (by kernel_rfl) rfl new_natc ?_
 simp only [Act.put, List.setIfInBounds_toArray, List.set_cons_succ, List.set_cons_zero]
 refine lex_put [.int .u64 ((zl u : Nat) : Int), .string (zh u), .bool (zs u)] [.int .u64 0, .string ⟨#[]⟩, .bool false] 10 32 (.tmp 38) rfl (by kernel_rfl) (by simp [toG, upd]) rfl (fun w k h => put_int _ _ _ _ _ _ w k h) ?_
 simp only [Act.put]
 refine lex_put [.int .u64 ((lo r : Nat) : Int), .string (hs r)] [.int .u64 0, .string ⟨#[]⟩] 11 30 (.tmp 39) rfl (by kernel_rfl) (by simp [toG, upd]) rfl (fun w k h => put_natc _ _ _ _ w k h) ?_
 simp only [Act.put]
 refine lexG_nil ?_
 intro κ x4 hS
 replace hL0 := hL0.ghs hS [(11, [.int .u64 ((lo r : Nat) : Int), .string (hs r)]), (10, [.int .u64 ((zl u : Nat) : Int), .string (zh u), .bool (zs u)])] (by simp) (by intro p hp; simp only [List.mem_cons, List.not_mem_nil, or_false] at hp; rcases hp with rfl | rfl <;> exact ⟨_, by simp only [toG, upd]; rfl⟩)
 simp only [List.map_cons, List.map_nil, List.cons_append, List.nil_append] at hL0
 simp only [over_toG, over_nil, Act.put, List.setIfInBounds_toArray, List.set_cons_succ, List.set_cons_zero]
 clear hS
 generalize κ 11 = k4_11 at *
 generalize κ 10 = k4_10 at *
 go_upto_region 4 with fail
 obtain ⟨α, iα, F, hF1, hF2⟩ := cls x4
 have hq0 := cls_box hF1 hL0 _ _ List.mem_cons_self
 simp only [cellsC, and_true, Nat.zero_add, Nat.reduceAdd] at hq0
 have hq1 := cls_box hF1 hL0 _ _ (List.mem_cons_of_mem _ List.mem_cons_self)
 simp only [cellsC, and_true, Nat.zero_add, Nat.reduceAdd] at hq1
 have hq2 := cls_box hF1 hL0 _ _ (List.mem_cons_of_mem _ (List.mem_cons_of_mem _ List.mem_cons_self))
 simp only [cellsC, and_true, Nat.zero_add, Nat.reduceAdd] at hq2
 have hq3 := cls_box hF1 hL0 _ _ (List.mem_cons_of_mem _ (List.mem_cons_of_mem _ (List.mem_cons_of_mem _ List.mem_cons_self)))
 simp only [cellsC, and_true, Nat.zero_add, Nat.reduceAdd] at hq3
 refine region_qs 7 (C := fun w' => ∃ x, w' = F x) (by kernel_rfl) (by kernel_rfl) (cls_drew hF2) ?_
 simp only [List.take_succ_cons, List.take_zero, List.drop_succ_cons, List.drop_zero, List.take_nil, List.drop_nil]
 repeat (go_big_quiet_step (first | fail | (go_at_call 68; with_reducible exact cls_call hF1 hF2 HU.out _) | (go_at_call 68; with_reducible exact cls_call hF1 hF2 HV.out _) | (go_at_call 89; with_reducible exact cls_call hF1 hF2 HL.out _)))
 refine wpQuiet_nil ?_
 rintro wq ⟨xq, rfl⟩
 replace hL0 := hL0.call (hF1 xq)
 clear  hq0 hq1 hq2 hq3 hF2
 generalize F xq = x5 at hL0 ⊢
 clear hF1 xq iα F α
 have hA := hL0.fc
 simp only [fcG, cellsF, neK, and_true, ne_eq, Nat.zero_add, Nat.reduceAdd] at hA
 have hP := hL0.put 5 (w.heap.size + 1 + 1) _ rfl [.int .u64 ((zl z : Nat) : Int), .string (zh z), .bool (zs z), .int .u64 ((lo f : Nat) : Int), .string (hs f)] rfl
 simp only [setAll, List.set_cons_zero, List.set_cons_succ] at hP
 generalize hput1 : (((((x5.setCell ⟨w.heap.size + 1 + 1, 0, none⟩ (.int .u64 ((zl z : Nat) : Int))).setCell ⟨w.heap.size + 1 + 1, 1, none⟩ (.string (zh z))).setCell ⟨w.heap.size + 1 + 1, 2, none⟩ (.bool (zs z))).setCell ⟨w.heap.size + 1 + 1, 3, none⟩ (.int .u64 ((lo f : Nat) : Int))).setCell ⟨w.heap.size + 1 + 1, 4, none⟩ (.string (hs f))) = x6 at hP
 have hB1 := hP.fc
 simp only [fcG, cellsF, neK, and_true, ne_eq, Nat.zero_add, Nat.reduceAdd] at hB1
 replace hL0 := hP
 go_wp2_with fail
 exact bodyPost_ret (v := frV z f) (by simp [results, Tryz.results86, go_sem, hB1]) rfl ⟨rfl, hL0.bl⟩
set_option maxHeartbeats 4000000 in
set_option maxRecDepth 100000 in
theorem fsub_w (m n z : Int) (d e f : Nat) (HC : RT 86 #[frV m d, frV n e, .func (.func 87) #[] #[]] (frV z f)) (w : World) :
  Calls Tryz.prog 30 #[frV m d, frV n e] w fun xe w' => xe = .returned (frV z f) ∧ Below w.heap.size w w' := by
 have hL0 : GL w w [] := GL.start w
 replace HC := Lib.hid HC
 replace hL0 := (((hL0.new rfl [.int .u64 ((zl m : Nat) : Int), .string (zh m), .bool (zs m), .int .u64 ((lo d : Nat) : Int), .string (hs d)] 34).new (K := w.heap.size + 1) (szA _ _) [.int .u64 ((zl n : Nat) : Int), .string (zh n), .bool (zs n), .int .u64 ((lo e : Nat) : Int), .string (hs e)] 34).new (K := w.heap.size + 1 + 1) (by simp only [World.size_alloc]) [.int .u64 0, .string ⟨#[]⟩, .bool false, .int .u64 0, .string ⟨#[]⟩] 34)
 generalize hweq : (((w.alloc (.cells #[.int .u64 ((zl m : Nat) : Int), .string (zh m), .bool (zs m), .int .u64 ((lo d : Nat) : Int), .string (hs d)] 34)).alloc (.cells #[.int .u64 ((zl n : Nat) : Int), .string (zh n), .bool (zs n), .int .u64 ((lo e : Nat) : Int), .string (hs e)] 34)).alloc (.cells #[.int .u64 0, .string ⟨#[]⟩, .bool false, .int .u64 0, .string ⟨#[]⟩] 34)) = x1 at hL0
 go_enter Tryz.func30, Tryz.ntmps30
 have hN0 := cells_of _ 0 [] rfl (hL0.get _ _ (List.mem_cons_of_mem _ List.mem_cons_self))
 simp only [cellsF, and_true, Nat.zero_add, Nat.reduceAdd] at hN0
 have hN1 := cells_of _ 0 [] rfl (hL0.get _ _ (List.mem_cons_of_mem _ (List.mem_cons_of_mem _ List.mem_cons_self)))
 simp only [cellsF, and_true, Nat.zero_add, Nat.reduceAdd] at hN1
 go_wp2_with fail
 clear hN0 hN1
 with_reducible refine Calls.mono (HC.out _) ?_
 rintro e x2 ⟨rfl, hb⟩
 replace hL0 := hL0.call hb
 clear hb hweq
 have hA := hL0.fc
 simp only [fcG, cellsF, neK, and_true, ne_eq, Nat.zero_add, Nat.reduceAdd] at hA
 have hP := hL0.put 0 (w.heap.size + 1 + 1) _ rfl [.int .u64 ((zl z : Nat) : Int), .string (zh z), .bool (zs z), .int .u64 ((lo f : Nat) : Int), .string (hs f)] rfl
 simp only [setAll, List.set_cons_zero, List.set_cons_succ] at hP
 generalize hput1 : (((((x2.setCell ⟨w.heap.size + 1 + 1, 0, none⟩ (.int .u64 ((zl z : Nat) : Int))).setCell ⟨w.heap.size + 1 + 1, 1, none⟩ (.string (zh z))).setCell ⟨w.heap.size + 1 + 1, 2, none⟩ (.bool (zs z))).setCell ⟨w.heap.size + 1 + 1, 3, none⟩ (.int .u64 ((lo f : Nat) : Int))).setCell ⟨w.heap.size + 1 + 1, 4, none⟩ (.string (hs f))) = x3 at hP
 have hB1 := hP.fc
 simp only [fcG, cellsF, neK, and_true, ne_eq, Nat.zero_add, Nat.reduceAdd] at hB1
 replace hL0 := hP
 go_wp2_with fail
 exact bodyPost_ret (v := frV z f) (by simp [results, Tryz.results30, go_sem, hB1]) rfl ⟨rfl, hL0.bl⟩
end Go.Proofs.YtahfcciihkkegaaGreatDoor
namespace Go.Proofs.YtahfcciihkkegaaGreatDoor
open Go.RowKit
attribute [local irreducible] lo hs sm s64 c64 d64 b64 mh ml pd pc qd qc val hiB str cmpI srD lz nb isq decB zl zh zs
set_option maxHeartbeats 4000000 in
set_option maxRecDepth 100000 in
theorem ffrom_w (n u z : Int) (d v f : Nat) (HO : RT 52 #[.int .u64 0] (natV 0)) (HC : RT 88 #[intV n, natV d] (.tuple #[intV u, natV v])) (HL : RT 89 #[intV u, natV v] (frV z f)) (hd : d ≠ 0) (w : World) :
  Calls Tryz.prog 46 #[intV n, natV d] w fun xe w' => xe = .returned (.tuple #[frV z f, .int .i64 0]) ∧ Below w.heap.size w w' := by
 have hL0 : GL w w [] := GL.start w
 replace HO := Lib.hid HO
 replace HC := Lib.hid HC
 replace HL := Lib.hid HL
 have hz := ne_nat hd
 clear hd
 rcases hz with e0 | ⟨e0, e1⟩
 all_goals (
  replace hL0 := (((hL0.new rfl [.int .u64 ((zl n : Nat) : Int), .string (zh n), .bool (zs n)] 32).new (K := w.heap.size + 1) (szA _ _) [.int .u64 ((lo d : Nat) : Int), .string (hs d)] 30).new (K := w.heap.size + 1 + 1) (by simp only [World.size_alloc]) [.int .u64 0, .string ⟨#[]⟩, .bool false, .int .u64 0, .string ⟨#[]⟩] 34)
  generalize hweq : (((w.alloc (.cells #[.int .u64 ((zl n : Nat) : Int), .string (zh n), .bool (zs n)] 32)).alloc (.cells #[.int .u64 ((lo d : Nat) : Int), .string (hs d)] 30)).alloc (.cells #[.int .u64 0, .string ⟨#[]⟩, .bool false, .int .u64 0, .string ⟨#[]⟩] 34)) = x1 at hL0
  go_enter Tryz.func46, Tryz.ntmps46
  go_upto_region 1 with fail
  clear hweq
  obtain ⟨α, iα, F, hF1, hF2⟩ := cls x1
  have hq0 := cls_box hF1 hL0 _ _ (List.mem_cons_of_mem _ List.mem_cons_self)
  simp only [cellsC, and_true, Nat.zero_add, Nat.reduceAdd] at hq0
  refine region_qs 3 (C := fun w' => ∃ x, w' = F x) (by kernel_rfl) (by kernel_rfl) (cls_drew hF2) ?_
  simp only [List.take_succ_cons, List.take_zero, List.drop_succ_cons, List.drop_zero, List.take_nil, List.drop_nil]
  repeat (go_big_quiet_step (first | fail | (go_at_call 52; with_reducible exact cls_call hF1 hF2 HO.out _)))
  refine wpQuiet_nil ?_
  rintro wq ⟨xq, rfl⟩
  replace hL0 := hL0.call (hF1 xq)
  clear  hq0 hF2
  generalize F xq = x2 at hL0 ⊢
  clear hF1 xq iα F α
  have hN0 := cells_of _ 0 [] rfl (hL0.get _ _ (List.mem_cons_of_mem _ List.mem_cons_self))
  simp only [cellsF, and_true, Nat.zero_add, Nat.reduceAdd] at hN0
  have hN1 := cells_of _ 0 [] rfl (hL0.get _ _ (List.mem_cons_of_mem _ (List.mem_cons_of_mem _ List.mem_cons_self)))
  simp only [cellsF, and_true, Nat.zero_add, Nat.reduceAdd] at hN1
  go_wp2_with fail
  clear hN0 hN1
  with_reducible refine Calls.mono (HC.out _) ?_
  rintro e x3 ⟨rfl, hb⟩
  replace hL0 := hL0.call hb
  clear hb
  go_wp2_with fail
  with_reducible refine Calls.mono (HL.out _) ?_
  rintro e x4 ⟨rfl, hb⟩
  replace hL0 := hL0.call hb
  clear hb
  have hA := hL0.fc
  simp only [fcG, cellsF, neK, and_true, ne_eq, Nat.zero_add, Nat.reduceAdd] at hA
  have hP := hL0.put 0 (w.heap.size + 1 + 1) _ rfl [.int .u64 ((zl z : Nat) : Int), .string (zh z), .bool (zs z), .int .u64 ((lo f : Nat) : Int), .string (hs f)] rfl
  simp only [setAll, List.set_cons_zero, List.set_cons_succ] at hP
  generalize hput1 : (((((x4.setCell ⟨w.heap.size + 1 + 1, 0, none⟩ (.int .u64 ((zl z : Nat) : Int))).setCell ⟨w.heap.size + 1 + 1, 1, none⟩ (.string (zh z))).setCell ⟨w.heap.size + 1 + 1, 2, none⟩ (.bool (zs z))).setCell ⟨w.heap.size + 1 + 1, 3, none⟩ (.int .u64 ((lo f : Nat) : Int))).setCell ⟨w.heap.size + 1 + 1, 4, none⟩ (.string (hs f))) = x5 at hP
  have hB1 := hP.fc
  simp only [fcG, cellsF, neK, and_true, ne_eq, Nat.zero_add, Nat.reduceAdd] at hB1
  replace hL0 := hP
  go_wp2_with fail
  exact bodyPost_ret (v := .tuple #[frV z f, .int .i64 0]) (by simp [results, Tryz.results46, go_sem, hB1]) rfl ⟨rfl, hL0.bl⟩)
set_option maxHeartbeats 4000000 in
set_option maxRecDepth 100000 in
theorem ftext_whole (n : Int) (s : ByteArray) (HW : RT 28 #[frV n 0] (.bool true)) (HT : RK Tab 93 #[intV n] (.string s)) (w : World) (htab : Tab w) :
  Calls Tryz.prog 35 #[frV n 0] w fun xe w' => xe = .returned (.string s) ∧ Below w.heap.size w w' := by
 have hL0 : GL w w [] := GL.start w
 replace HW := Lib.hid HW
 replace HT := Lib.hid HT
 replace hL0 := (hL0.new rfl [.int .u64 ((zl n : Nat) : Int), .string (zh n), .bool (zs n), .int .u64 ((lo 0 : Nat) : Int), .string (hs 0)] 34)
 generalize hweq : (w.alloc (.cells #[.int .u64 ((zl n : Nat) : Int), .string (zh n), .bool (zs n), .int .u64 ((lo 0 : Nat) : Int), .string (hs 0)] 34)) = x1 at hL0
 go_enter Tryz.func35, Tryz.ntmps35
 have hN0 := cells_of _ 0 [] rfl (hL0.get _ _ List.mem_cons_self)
 simp only [cellsF, and_true, Nat.zero_add, Nat.reduceAdd] at hN0
 go_wp2_with fail
 clear hN0
 with_reducible refine Calls.mono (HW.out _) ?_
 rintro e x2 ⟨rfl, hb⟩
 replace hL0 := hL0.call hb
 clear hb hweq
 have hN0 := cells_of _ 0 [] rfl (hL0.get _ _ List.mem_cons_self)
 simp only [cellsF, and_true, Nat.zero_add, Nat.reduceAdd] at hN0
 go_wp2_with fail
 clear hN0
 with_reducible refine Calls.mono (HT.out _ (htab.below hL0.bl)) ?_
 rintro e x3 ⟨rfl, hb⟩
 replace hL0 := hL0.call hb
 clear hb
 go_wp2_with fail
 exact bodyPost_ret (v := .string s) (by simp [results, Tryz.results35, go_sem]) rfl ⟨rfl, hL0.bl⟩
set_option maxHeartbeats 4000000 in
set_option maxRecDepth 100000 in
theorem ftext_part (n : Int) (e : Nat) (s t : ByteArray) (HW : RT 28 #[frV n e] (.bool false)) (HT : RK Tab 93 #[intV n] (.string s)) (HU : RK Tab 94 #[natV e] (.string t)) (h1 : ((s.size : Nat) : Int) ≤ 20000000) (h2 : ((t.size : Nat) : Int) ≤ 20000000) (w : World) (htab : Tab w) :
  Calls Tryz.prog 35 #[frV n e] w fun xe w' => xe = .returned (.string ((s ++ ByteArray.mk #[47]) ++ t)) ∧ Below w.heap.size w w' := by
 have hL0 : GL w w [] := GL.start w
 replace HW := Lib.hid HW
 replace HT := Lib.hid HT
 replace HU := Lib.hid HU
 replace hL0 := (hL0.new rfl [.int .u64 ((zl n : Nat) : Int), .string (zh n), .bool (zs n), .int .u64 ((lo e : Nat) : Int), .string (hs e)] 34)
 generalize hweq : (w.alloc (.cells #[.int .u64 ((zl n : Nat) : Int), .string (zh n), .bool (zs n), .int .u64 ((lo e : Nat) : Int), .string (hs e)] 34)) = x1 at hL0
 go_enter Tryz.func35, Tryz.ntmps35
 have hN0 := cells_of _ 0 [] rfl (hL0.get _ _ List.mem_cons_self)
 simp only [cellsF, and_true, Nat.zero_add, Nat.reduceAdd] at hN0
 go_wp2_with fail
 clear hN0
 with_reducible refine Calls.mono (HW.out _) ?_
 rintro e x2 ⟨rfl, hb⟩
 replace hL0 := hL0.call hb
 clear hb hweq
 go_upto_region 3 with fail
 have ht := htab.below hL0.bl
 obtain ⟨α, iα, F, hF1, hF2⟩ := cls x2
 have hq0 := cls_box hF1 hL0 _ _ List.mem_cons_self
 simp only [cellsC, and_true, Nat.zero_add, Nat.reduceAdd] at hq0
 refine region_qs 9 (C := fun w' => ∃ x, w' = F x) (by kernel_rfl) (by kernel_rfl) (cls_drew hF2) ?_
 simp only [List.take_succ_cons, List.take_zero, List.drop_succ_cons, List.drop_zero, List.take_nil, List.drop_nil]
 repeat (go_big_quiet_step (first | fail | (go_at_call 93; with_reducible exact cls_callT hF1 hF2 ht HT.out _) | (go_at_call 94; with_reducible exact cls_callT hF1 hF2 ht HU.out _)))
 refine wpQuiet_nil ?_
 rintro wq ⟨xq, rfl⟩
 replace hL0 := hL0.call (hF1 xq)
 clear  hq0 hF2
 generalize F xq = x3 at hL0 ⊢
 clear hF1 xq iα F α
 clear ht
 go_wp2_with fail
 exact bodyPost_ret (v := .string ((s ++ ByteArray.mk #[47]) ++ t)) (by simp [results, Tryz.results35, go_sem]) rfl ⟨rfl, hL0.bl⟩
end Go.Proofs.YtahfcciihkkegaaGreatDoor
namespace Go.Proofs.YtahfcciihkkegaaGreatDoor
open Go.RowKit
attribute [local irreducible] lo hs sm s64 c64 d64 b64 mh ml pd pc qd qc val hiB str cmpI srD lz nb isq decB zl zh zs
theorem fe_den (q : Rat) : q.den = if fe q = 0 then 1 else fe q := by
 unfold fe
 have := q.den_nz
 split <;> simp_all
theorem frV_z (n : Int) : frV n 0 = .agg #[.int .u64 ((zl n : Nat) : Int), .string (zh n), .bool (zs n), .int .u64 0, .string ⟨#[]⟩] := by unfold frV; rw [lo_small Bs_pos, hs_small Bs_pos]; rfl
theorem fracV_int (z : Int) : fracV (z : Rat) = frV z 0 := rfl
theorem fracV_of {q : Rat} {n : Int} {d : Nat} (hn : q.num = n) (hd : q.den = d) : fracV q = frV n (if d = 1 then 0 else d) := by subst hn hd; rfl
theorem one_o (w : World) : Calls Tryz.prog 52 #[.int .u64 1] w fun e w' => e = .returned (natV 1) ∧ Below w.heap.size w w' := of_val 1 1 rfl (by unfold Bs; omega) w
theorem zero_o (w : World) : Calls Tryz.prog 52 #[.int .u64 0] w fun e w' => e = .returned (natV 0) ∧ Below w.heap.size w w' := of_val 0 0 rfl (by unfold Bs; omega) w
theorem dec_sgn (z : Int) : decide (sgn z < 0) = decide (z < 0) := by
 have : sgn z < 0 ↔ z < 0 := by unfold sgn; split <;> (try split) <;> omega
 simp only [this]
theorem whole_raw (n : Int) (e : Nat) (w : World) : Calls Tryz.prog 28 #[frV n e] w fun x w' => x = .returned (.bool (decide (e = 0))) ∧ Below w.heap.size w w' := by
 by_cases h : e = 0
 ·subst h; rw [decide_eq_true rfl]; exact whole_yes n w
 ·rw [decide_eq_false h]; exact whole_no n e h w
theorem den_raw (n : Int) (e : Nat) (w : World) : Calls Tryz.prog 75 #[frV n e] w fun x w' => x = .returned (natV (if e = 0 then 1 else e)) ∧ Below w.heap.size w w' := by
 by_cases h : e = 0
 ·subst h; rw [if_pos rfl]; exact den_one_w n (whole_yes n) one_o w
 ·rw [if_neg h]; exact den_part_w n e (whole_no n e h) w
theorem denF (q : Rat) (w : World) : Calls Tryz.prog 75 #[fracV q] w fun x w' => x = .returned (natV q.den) ∧ Below w.heap.size w w' := by
 have h := den_raw q.num (fe q) w
 rw [← fe_den] at h
 exact h
theorem lowest_raw (n : Int) (d : Nat) (w : World) : Calls Tryz.prog 89 #[intV n, natV d] w fun x w' => x = .returned (frV n (if d = 1 then 0 else d)) ∧ Below w.heap.size w w' := by
 by_cases h : d = 1
 ·subst h; rw [if_pos rfl, frV_z]; exact lowest_one n one_o w
 ·rw [if_neg h]; exact lowest_part n d one_o h w
theorem lowestF {q : Rat} {n : Int} {d : Nat} (hn : q.num = n) (hd : q.den = d) (w : World) : Calls Tryz.prog 89 #[intV n, natV d] w fun x w' => x = .returned (fracV q) ∧ Below w.heap.size w w' := by
 rw [fracV_of hn hd]; exact lowest_raw n d w
theorem pon_raw (n g : Nat) (hg : g ≠ 0) (hn : (digs n).length ≤ 100000000) (w : World) : Calls Tryz.prog 142 #[natV n, natV g] w fun x w' => x = .returned (natV (n / g)) ∧ Below w.heap.size w w' := by
 by_cases h : g = 1
 ·subst h; rw [Nat.div_one]; exact pon_one n one_o w
 ·exact pon_div n g (n / g) (n % g) one_o (fun w => div_pos n g (by omega) (by omega) w) h w
theorem tdiv_sgn (z : Int) (g : Nat) : z.tdiv (g : Int) = if decide (z < 0) then -((z.natAbs / g : Nat) : Int) else ((z.natAbs / g : Nat) : Int) := by
 by_cases h : z < 0
 ·obtain ⟨n, rfl⟩ : ∃ n : Nat, z = -(n : Int) := ⟨z.natAbs, by omega⟩
  rw [decide_eq_true h, if_pos rfl, Int.natAbs_neg, Int.natAbs_natCast, Int.neg_tdiv, ← Int.ofNat_tdiv]
 ·obtain ⟨n, rfl⟩ : ∃ n : Nat, z = (n : Int) := ⟨z.natAbs, by omega⟩
  rw [decide_eq_false h, Int.natAbs_natCast, ← Int.ofNat_tdiv]; rfl
theorem part_raw (z : Int) (g : Nat) (hg : g ≠ 0) (hz : dI z ≤ 100000000) (w : World) : Calls Tryz.prog 146 #[intV z, natV g] w fun x w' => x = .returned (intV (z.tdiv g)) ∧ Below w.heap.size w w' := by
 have hF := fun w => fromI (decide (z < 0)) (z.natAbs / g) (z.tdiv g) (tdiv_sgn z g) w
 have hs := dec_sgn z
 by_cases h : z < 0
 ·rw [decide_eq_true h] at hF hs
  exact part_true z (sgn z) _ _ g _ (signI z) (absI z) (pon_raw _ g hg hz) hF hs w
 ·rw [decide_eq_false h] at hF hs
  exact part_false z (sgn z) _ _ g _ (signI z) (absI z) (pon_raw _ g hg hz) hF hs w
theorem cancel_raw (z : Int) (d : Nat) (hd : d ≠ 0) (hz : dI z ≤ 100000000) (hl : (digs d).length ≤ 100000000) (w : World) :
  Calls Tryz.prog 88 #[intV z, natV d] w fun x w' => x = .returned (.tuple #[intV (z.tdiv (Nat.gcd z.natAbs d : Nat)), natV (d / Nat.gcd z.natAbs d)]) ∧ Below w.heap.size w w' := by
 have hg : Nat.gcd z.natAbs d ≠ 0 := fun e => hd (Nat.gcd_eq_zero_iff.1 e).2
 exact cancel_w z _ _ d _ _ (absI z) (fun w => gcd_any z.natAbs d (Nat.le_trans hz (by omega)) (by omega) w) (part_raw z _ hg hz) (pon_raw d _ hg hl) w
theorem times_raw (z : Int) (d : Nat) (hz : dI z ≤ 100000000) (hd : (digs d).length ≤ 100000000) (w : World) : Calls Tryz.prog 85 #[intV z, natV d] w fun x w' => x = .returned (intV (z * (d : Int))) ∧ Below w.heap.size w w' := by
 by_cases h : d = 1
 ·subst h; rw [show z * ((1 : Nat) : Int) = z by omega]; exact times_one z one_o w
 ·exact times_mul z (d : Int) _ d one_o (fun w => fromI false d (d : Int) rfl w) (fun w => mulI z (d : Int) (by omega) (by rw [dI_nat]; omega) w) h w
theorem intF (k : Int) (h1 : -9223372036854775808 ≤ k) (h2 : k < 9223372036854775808) (w : World) : Calls Tryz.prog 32 #[.int .i64 k] w fun x w' => x = .returned (fracV (k : Rat)) ∧ Below w.heap.size w w' := by
 rw [fracV_int, frV_z]; exact int_w k k (fun w => ofI k h1 h2 w) w
theorem fromF (z : Int) (d : Nat) (hd : d ≠ 0) (hz : dI z ≤ 100000000) (hl : (digs d).length ≤ 100000000) (w : World) : Calls Tryz.prog 46 #[intV z, natV d] w fun x w' => x = .returned (.tuple #[fracV (mkRat z d), .int .i64 0]) ∧ Below w.heap.size w w' := by
 obtain ⟨h1, h2⟩ := canc (z := z) hd
 exact ffrom_w z _ _ d _ _ zero_o (cancel_raw z d hd hz hl) (fun w => lowestF h1 h2 w) hd w
end Go.Proofs.YtahfcciihkkegaaGreatDoor
namespace Go.Proofs.YtahfcciihkkegaaGreatDoor
open Go.RowKit
attribute [local irreducible] lo hs sm s64 c64 d64 b64 mh ml pd pc qd qc val hiB str cmpI srD lz nb isq decB zl zh zs
theorem negF (q : Rat) (w : World) : Calls Tryz.prog 36 #[fracV q] w fun x w' => x = .returned (fracV (-q)) ∧ Below w.heap.size w w' := fneg_w q.num (-q.num) (fe q) (fun w => negI q.num w) w
theorem floorF (q : Rat) (k : Nat) (hq : Sz q k) (hk : k ≤ 100000000) (w : World) : Calls Tryz.prog 152 #[fracV q] w fun x w' => x = .returned (intV q.floor) ∧ Below w.heap.size w w' := by
 rw [rfloor]
 exact floor_w q.num (q.den : Int) _ (q.num % (q.den : Int)) (fe q) q.den (denF q) (fun w => fromI false q.den _ rfl w) (fun w => divI q.num (q.den : Int) (by have := q.den_nz; omega) (Nat.le_trans hq.1 (by omega)) (by rw [dI_nat]; exact Nat.le_trans hq.2 (by omega)) w) w
theorem ceilF (q : Rat) (k : Nat) (hq : Sz q k) (hk : k ≤ 100000000) (w : World) : Calls Tryz.prog 153 #[fracV q] w fun x w' => x = .returned (intV (rceil q)) ∧ Below w.heap.size w w' :=
 ceil_w q.num (-q.num) (-q).floor _ (fe q) (negF q) (floorF (-q) k hq.neg hk) (fun w => negI _ w) w
theorem cmpF (p q : Rat) (k : Nat) (hp : Sz p k) (hq : Sz q k) (hk : k ≤ 100000000) (w : World) : Calls Tryz.prog 29 #[fracV p, fracV q] w fun x w' => x = .returned (.int .i64 (cmpQ p q)) ∧ Below w.heap.size w w' := by
 rw [cmpQ_parts]
 exact fcmp_w p.num q.num _ _ _ (fe p) (fe q) p.den q.den (denF p) (denF q) (times_raw p.num q.den (Nat.le_trans hp.1 hk) (Nat.le_trans hq.2 hk)) (times_raw q.num p.den (Nat.le_trans hq.1 hk) (Nat.le_trans hp.2 hk)) (fun w => cmpII _ _ w) w
theorem tdiv_dI {z : Int} {g k : Nat} (h : dI z ≤ k) : dI (z.tdiv (g : Int)) ≤ k := by
 refine Nat.le_trans (dI_mono ?_) h
 rw [Int.natAbs_tdiv]; exact Nat.div_le_self _ _
theorem ndiv_digs {n g k : Nat} (h : (digs n).length ≤ k) : (digs (n / g)).length ≤ k := Nat.le_trans (digs_mono (Nat.div_le_self _ _)) h
theorem mulF (p q : Rat) (k : Nat) (hp : Sz p k) (hq : Sz q k) (hk : k ≤ 100000000) (w : World) : Calls Tryz.prog 31 #[fracV p, fracV q] w fun x w' => x = .returned (fracV (p * q)) ∧ Below w.heap.size w w' := by
 obtain ⟨h1, h2⟩ := rmul_parts p q
 rw [Nat.mul_comm] at h2
 exact fmul_w p.num q.num _ _ _ _ (fe p) (fe q) p.den q.den _ _ _ _ (denF p) (denF q) (cancel_raw p.num q.den q.den_nz (Nat.le_trans hp.1 hk) (Nat.le_trans hq.2 hk)) (cancel_raw q.num p.den p.den_nz (Nat.le_trans hq.1 hk) (Nat.le_trans hp.2 hk))
  (fun w => mulI _ _ (Nat.le_trans (tdiv_dI hp.1) (by omega)) (Nat.le_trans (tdiv_dI hq.1) (by omega)) w) (fun w => mul_any _ _ (Nat.le_trans (ndiv_digs hp.2) (by omega)) (Nat.le_trans (ndiv_digs hq.2) (by omega)) w) (fun w => lowestF h1 h2 w) w
theorem frV_00 : frV 0 0 = .agg #[.int .u64 0, .string ⟨#[]⟩, .bool false, .int .u64 0, .string ⟨#[]⟩] := by
 rw [frV_z, (z0).1, (z0).2.1, (z0).2.2]; rfl
theorem subF (p q : Rat) (k : Nat) (hp : Sz p k) (hq : Sz q k) (hk : k ≤ 10000000) (w : World) : Calls Tryz.prog 30 #[fracV p, fracV q] w fun x w' => x = .returned (fracV (p - q)) ∧ Below w.heap.size w w' := by
 have hp' := radd_parts p (-q)
 rw [← Rat.sub_eq_add_neg, Rat.neg_num, Rat.neg_den, Int.neg_mul, ← Int.sub_eq_add_neg] at hp'
 obtain ⟨h1, h2⟩ := hp'
 have hg : Nat.gcd p.den q.den ≠ 0 := fun e => p.den_nz (Nat.gcd_eq_zero_iff.1 e).1
 have l1 : (digs (p.den / Nat.gcd p.den q.den)).length ≤ k := ndiv_digs hp.2
 have l2 : (digs (q.den / Nat.gcd p.den q.den)).length ≤ k := ndiv_digs hq.2
 have l3 : (digs (Nat.gcd p.den q.den)).length ≤ k := Nat.le_trans (digs_mono (Nat.gcd_le_left _ p.den_pos)) hp.2
 have lx : dI (p.num * ((q.den / Nat.gcd p.den q.den : Nat) : Int)) ≤ k + k := dI_mul hp.1 (by rw [dI_nat]; exact l2)
 have ly : dI (q.num * ((p.den / Nat.gcd p.den q.den : Nat) : Int)) ≤ k + k := dI_mul hq.1 (by rw [dI_nat]; exact l1)
 have ls := dI_sub lx ly
 refine fsub_w p.num q.num _ (fe p) (fe q) _ ?_ w
 exact fcombine_sub p.num q.num _ _ _ _ _ (fe p) (fe q) p.den q.den _ _ _ _ _ _ _ (denF p) (denF q) (fun w => gcd_any _ _ (Nat.le_trans hp.2 (by omega)) (Nat.le_trans hq.2 (by omega)) w)
  (pon_raw _ _ hg (Nat.le_trans hp.2 (by omega))) (pon_raw _ _ hg (Nat.le_trans hq.2 (by omega))) (times_raw _ _ (Nat.le_trans hp.1 (by omega)) (by omega)) (times_raw _ _ (Nat.le_trans hq.1 (by omega)) (by omega))
  (fun w => subI _ _ (by omega) (by omega) w) (cancel_raw _ _ hg (by omega) (by omega)) (fun w => mul_any _ _ (by omega) (by omega) w)
  (fun w => mul_any _ _ (Nat.le_trans (digs_mul_le l1 l2) (by omega)) (Nat.le_trans (ndiv_digs l3) (by omega)) w) (fun w => lowestF h1 h2 w)
theorem of_val_q (n d : Int) (h0 : d ≠ 0) : mkRat (if d < 0 then -n else n) d.natAbs = (n : Rat) / (d : Rat) := by
 rw [Rat.mkRat_eq_div]
 by_cases h : d < 0
 ·rw [if_pos h]
  have e : ((d.natAbs : Nat) : Rat) = -(d : Rat) := by
   rw [show ((d.natAbs : Nat) : Rat) = (((d.natAbs : Nat) : Int) : Rat) from (Rat.intCast_natCast _).symm, show ((d.natAbs : Nat) : Int) = -d by omega, Rat.intCast_neg]
  rw [e, Rat.intCast_neg]
  have hd : (d : Rat) ≠ 0 := by simpa using h0
  grind
 ·rw [if_neg h, show ((d.natAbs : Nat) : Rat) = (((d.natAbs : Nat) : Int) : Rat) from (Rat.intCast_natCast _).symm, show ((d.natAbs : Nat) : Int) = d by omega]
theorem i64_dI {z : Int} (h1 : -9223372036854775808 ≤ z) (h2 : z < 9223372036854775808) : dI z ≤ 1 := digs_length_iff.2 (by unfold Bs; omega)
theorem ofF (n d : Int) (a1 : -9223372036854775808 ≤ n) (a2 : n < 9223372036854775808) (b1 : -9223372036854775808 ≤ d) (b2 : d < 9223372036854775808) (h0 : d ≠ 0) (w : World) :
  Calls Tryz.prog 37 #[.int .i64 n, .int .i64 d] w fun x w' => x = .returned (.tuple #[fracV ((n : Rat) / (d : Rat)), .int .i64 0]) ∧ Below w.heap.size w w' := by
 rw [← of_val_q n d h0]
 have hs := dec_sgn d
 have ln := i64_dI a1 a2
 have ld : (digs d.natAbs).length ≤ 1 := i64_dI b1 b2
 by_cases h : d < 0
 ·rw [decide_eq_true h] at hs
  rw [if_pos h]
  exact fof_true n d (sgn d) (-n) _ n d _ _ 0 (fun w => ofI n a1 a2 w) (fun w => ofI d b1 b2 w) (signI d) (fun w => negI n w) (absI d) (fromF (-n) d.natAbs (by omega) (by rw [dI_neg]; omega) (by omega)) hs w
 ·rw [decide_eq_false h] at hs
  rw [if_neg h]
  exact fof_false n d (sgn d) n _ n d _ _ 0 (fun w => ofI n a1 a2 w) (fun w => ofI d b1 b2 w) (signI d) (absI d) (fromF n d.natAbs (by omega) (by omega) (by omega)) hs w
end Go.Proofs.YtahfcciihkkegaaGreatDoor
namespace Go.Proofs.YtahfcciihkkegaaGreatDoor
open Go.RowKit
attribute [local irreducible] lo hs sm s64 c64 d64 b64 mh ml pd pc qd qc val hiB str cmpI srD lz nb isq decB zl zh zs fe
set_option maxHeartbeats 4000000 in
set_option maxRecDepth 100000 in
theorem dwhole_w (z c : Int) (q : Rat) (HO : ∀ w, Calls Tryz.prog 52 #[.int .u64 1] w fun xe w' => xe = .returned (natV 1) ∧ Below w.heap.size w w') (HF : ∀ w, Calls Tryz.prog 46 #[intV z, natV 1] w fun xe w' => xe = .returned (.tuple #[fracV q, .int .i64 c]) ∧ Below w.heap.size w w') (w : World) :
  Calls Tryz.prog 98 #[intV z] w fun xe w' => xe = .returned (fracV q) ∧ Below w.heap.size w w' := by
 have hL0 : GL w w [] := GL.start w
 replace HO := Lib.hid HO
 replace HF := Lib.hid HF
 replace hL0 := ((hL0.new rfl [.int .u64 ((zl z : Nat) : Int), .string (zh z), .bool (zs z)] 32).new (K := w.heap.size + 1) (szA _ _) [.int .u64 0, .string ⟨#[]⟩, .bool false, .int .u64 0, .string ⟨#[]⟩] 34)
 generalize hweq : ((w.alloc (.cells #[.int .u64 ((zl z : Nat) : Int), .string (zh z), .bool (zs z)] 32)).alloc (.cells #[.int .u64 0, .string ⟨#[]⟩, .bool false, .int .u64 0, .string ⟨#[]⟩] 34)) = x1 at hL0
 go_enter Tryz.func98, Tryz.ntmps98
 go_upto_region 1 with fail
 clear hweq
 refine region_gh (by kernel_rfl) (by kernel_rfl) ?_
 refine lex_seg (gl := []) 6 (by kernel_rfl) ?_
 intro α iα F hF1 hF2
 have hq := GL.seg hF1 hL0
 simp only [fcC, cellsC, and_true, Nat.zero_add, Nat.reduceAdd] at hq
 simp only [List.take_succ_cons, List.take_zero, List.drop_succ_cons, List.drop_zero, List.take_nil, List.drop_nil]
 repeat (go_big_quiet_step (first | fail | (go_at_call 52; with_reducible exact seg_call hF2 HO.out _) | (go_at_call 46; with_reducible exact seg_call hF2 HF.out _)))
 refine wpQuiet_nil ?_
 clear hq hF1 hF2 iα F α
 refine lex_new [.int .u64 0, .string ⟨#[]⟩, .bool false, .int .u64 0, .string ⟨#[]⟩] 3 34 34 rfl rfl (of_decide_eq_true (by kernel_rfl)) (by kernel_rfl) rfl new_frac ?_
 simp only [Act.put, List.setIfInBounds_toArray, List.set_cons_succ, List.set_cons_zero]
 refine lex_put [.int .u64 ((zl q.num : Nat) : Int), .string (zh q.num), .bool (zs q.num), .int .u64 ((lo (fe q) : Nat) : Int), .string (hs (fe q))] [.int .u64 0, .string ⟨#[]⟩, .bool false, .int .u64 0, .string ⟨#[]⟩] 3 34 (.tmp 9) rfl (by kernel_rfl) (by simp [toG, upd]) rfl (fun w k h => put_frac _ _ _ _ _ _ _ _ _ _ w k h) ?_
 simp only [Act.put]
 refine lex_seg (gl := [(3, [.int .u64 ((zl q.num : Nat) : Int), .string (zh q.num), .bool (zs q.num), .int .u64 ((lo (fe q) : Nat) : Int), .string (hs (fe q))], true), (3, [.int .u64 0, .string ⟨#[]⟩, .bool false, .int .u64 0, .string ⟨#[]⟩], false)]) 1 (by kernel_rfl) ?_
 intro α iα F hF1 hF2
 have hq := GL.seg hF1 hL0
 simp only [fcC, cellsC, and_true, Nat.zero_add, Nat.reduceAdd] at hq
 simp only [List.take_succ_cons, List.take_zero, List.drop_succ_cons, List.drop_zero, List.take_nil, List.drop_nil]
 repeat (go_big_quiet_step (first | fail | (go_at_call 52; with_reducible exact seg_call hF2 HO.out _) | (go_at_call 46; with_reducible exact seg_call hF2 HF.out _)))
 refine wpQuiet_nil ?_
 clear hq hF1 hF2 iα F α
 refine lexG_nil ?_
 intro κ x2 hS
 replace hL0 := hL0.ghs hS [(3, [.int .u64 ((zl q.num : Nat) : Int), .string (zh q.num), .bool (zs q.num), .int .u64 ((lo (fe q) : Nat) : Int), .string (hs (fe q))])] (by simp) (by intro p hp; simp only [List.mem_cons, List.not_mem_nil, or_false] at hp; rcases hp with rfl <;> exact ⟨_, by simp only [toG, upd]; rfl⟩)
 simp only [List.map_cons, List.map_nil, List.cons_append, List.nil_append] at hL0
 simp only [over_toG, over_nil, Act.put, List.setIfInBounds_toArray, List.set_cons_succ, List.set_cons_zero]
 clear hS
 generalize κ 3 = k2_3 at *
 have hA := hL0.fc
 simp only [fcG, cellsF, neK, and_true, ne_eq, Nat.zero_add, Nat.reduceAdd] at hA
 have hP := hL0.put 1 (w.heap.size + 1) _ rfl [.int .u64 ((zl q.num : Nat) : Int), .string (zh q.num), .bool (zs q.num), .int .u64 ((lo (fe q) : Nat) : Int), .string (hs (fe q))] rfl
 simp only [setAll, List.set_cons_zero, List.set_cons_succ] at hP
 generalize hput1 : (((((x2.setCell ⟨w.heap.size + 1, 0, none⟩ (.int .u64 ((zl q.num : Nat) : Int))).setCell ⟨w.heap.size + 1, 1, none⟩ (.string (zh q.num))).setCell ⟨w.heap.size + 1, 2, none⟩ (.bool (zs q.num))).setCell ⟨w.heap.size + 1, 3, none⟩ (.int .u64 ((lo (fe q) : Nat) : Int))).setCell ⟨w.heap.size + 1, 4, none⟩ (.string (hs (fe q)))) = x3 at hP
 have hB1 := hP.fc
 simp only [fcG, cellsF, neK, and_true, ne_eq, Nat.zero_add, Nat.reduceAdd] at hB1
 replace hL0 := hP
 go_wp2_with fail
 exact bodyPost_ret (v := .agg #[.int .u64 ((zl q.num : Nat) : Int), .string (zh q.num), .bool (zs q.num), .int .u64 ((lo (fe q) : Nat) : Int), .string (hs (fe q))]) (by simp [results, Tryz.results98, go_sem, hB1]) rfl ⟨rfl, hL0.bl⟩
set_option maxHeartbeats 4000000 in
set_option maxRecDepth 100000 in
theorem dtens_w (n c : Int) (u : Nat) (HO : ∀ w, Calls Tryz.prog 52 #[.int .u64 10] w fun xe w' => xe = .returned (natV 10) ∧ Below w.heap.size w w') (HP : ∀ w, Calls Tryz.prog 99 #[natV 10, .int .i64 n] w fun xe w' => xe = .returned (.tuple #[natV u, .int .i64 c]) ∧ Below w.heap.size w w') (w : World) :
  Calls Tryz.prog 47 #[.int .i64 n] w fun xe w' => xe = .returned (natV u) ∧ Below w.heap.size w w' := by
 have hL0 : GL w w [] := GL.start w
 replace HO := Lib.hid HO
 replace HP := Lib.hid HP
 replace hL0 := (hL0.new rfl [.int .u64 0, .string ⟨#[]⟩] 30)
 generalize hweq : (w.alloc (.cells #[.int .u64 0, .string ⟨#[]⟩] 30)) = x1 at hL0
 go_enter Tryz.func47, Tryz.ntmps47
 go_wp2_with fail
 with_reducible refine Calls.mono (HO.out _) ?_
 rintro e x2 ⟨rfl, hb⟩
 replace hL0 := hL0.call hb
 clear hb hweq
 go_wp2_with fail
 with_reducible refine Calls.mono (HP.out _) ?_
 rintro e x3 ⟨rfl, hb⟩
 replace hL0 := hL0.call hb
 clear hb
 replace hL0 := (hL0.new rfl [.int .u64 ((lo u : Nat) : Int), .string (hs u)] 30)
 generalize hweq : (x3.alloc (.cells #[.int .u64 ((lo u : Nat) : Int), .string (hs u)] 30)) = x4 at hL0
 have hA := hL0.fc
 simp only [fcG, cellsF, neK, and_true, ne_eq, Nat.zero_add, Nat.reduceAdd] at hA
 have hP := hL0.put 1 (w.heap.size) _ rfl [.int .u64 ((lo u : Nat) : Int), .string (hs u)] rfl
 simp only [setAll, List.set_cons_zero, List.set_cons_succ] at hP
 generalize hput1 : ((x4.setCell ⟨w.heap.size, 0, none⟩ (.int .u64 ((lo u : Nat) : Int))).setCell ⟨w.heap.size, 1, none⟩ (.string (hs u))) = x5 at hP
 have hB1 := hP.fc
 simp only [fcG, cellsF, neK, and_true, ne_eq, Nat.zero_add, Nat.reduceAdd] at hB1
 replace hL0 := hP
 go_wp2_with fail
 exact bodyPost_ret (v := .agg #[.int .u64 ((lo u : Nat) : Int), .string (hs u)]) (by simp [results, Tryz.results47, go_sem, hB1]) rfl ⟨rfl, hL0.bl⟩
set_option maxHeartbeats 4000000 in
set_option maxRecDepth 100000 in
theorem dnear_lt (a h p r : Rat) (z c : Int) (HF : ∀ w, Calls Tryz.prog 152 #[fracV a] w fun xe w' => xe = .returned (intV z) ∧ Below w.heap.size w w') (HH : ∀ w, Calls Tryz.prog 37 #[.int .i64 1, .int .i64 2] w fun xe w' => xe = .returned (.tuple #[fracV h, .int .i64 c]) ∧ Below w.heap.size w w') (HW : ∀ w, Calls Tryz.prog 98 #[intV z] w fun xe w' => xe = .returned (fracV p) ∧ Below w.heap.size w w') (HB : ∀ w, Calls Tryz.prog 30 #[fracV a, fracV p] w fun xe w' => xe = .returned (fracV r) ∧ Below w.heap.size w w') (HC : ∀ w, Calls Tryz.prog 29 #[fracV r, fracV h] w fun xe w' => xe = .returned (.int .i64 (-1)) ∧ Below w.heap.size w w') (w : World) :
  Calls Tryz.prog 151 #[fracV a] w fun xe w' => xe = .returned (.bool false) ∧ Below w.heap.size w w' := by
 have hL0 : GL w w [] := GL.start w
 replace HF := Lib.hid HF
 replace HH := Lib.hid HH
 replace HW := Lib.hid HW
 replace HB := Lib.hid HB
 replace HC := Lib.hid HC
 replace hL0 := (hL0.new rfl [.int .u64 ((zl a.num : Nat) : Int), .string (zh a.num), .bool (zs a.num), .int .u64 ((lo (fe a) : Nat) : Int), .string (hs (fe a))] 34)
 generalize hweq : (w.alloc (.cells #[.int .u64 ((zl a.num : Nat) : Int), .string (zh a.num), .bool (zs a.num), .int .u64 ((lo (fe a) : Nat) : Int), .string (hs (fe a))] 34)) = x1 at hL0
 go_enter Tryz.func151, Tryz.ntmps151
 have hN0 := cells_of _ 0 [] rfl (hL0.get _ _ List.mem_cons_self)
 simp only [cellsF, and_true, Nat.zero_add, Nat.reduceAdd] at hN0
 go_wp2_with fail
 clear hN0
 with_reducible refine Calls.mono (HF.out _) ?_
 rintro e x2 ⟨rfl, hb⟩
 replace hL0 := hL0.call hb
 clear hb hweq
 replace hL0 := (hL0.new rfl [.int .u64 ((zl z : Nat) : Int), .string (zh z), .bool (zs z)] 32)
 generalize hweq : (x2.alloc (.cells #[.int .u64 ((zl z : Nat) : Int), .string (zh z), .bool (zs z)] 32)) = x3 at hL0
 go_wp2_with fail
 with_reducible refine Calls.mono (HH.out _) ?_
 rintro e x4 ⟨rfl, hb⟩
 replace hL0 := hL0.call hb
 clear hb hweq
 replace hL0 := (hL0.new rfl [.int .u64 ((zl h.num : Nat) : Int), .string (zh h.num), .bool (zs h.num), .int .u64 ((lo (fe h) : Nat) : Int), .string (hs (fe h))] 34)
 generalize hweq : (x4.alloc (.cells #[.int .u64 ((zl h.num : Nat) : Int), .string (zh h.num), .bool (zs h.num), .int .u64 ((lo (fe h) : Nat) : Int), .string (hs (fe h))] 34)) = x5 at hL0
 go_upto_region 3 with fail
 clear hweq
 obtain ⟨α, iα, F, hF1, hF2⟩ := cls x5
 have hq0 := cls_box hF1 hL0 _ _ List.mem_cons_self
 simp only [cellsC, and_true, Nat.zero_add, Nat.reduceAdd] at hq0
 have hq1 := cls_box hF1 hL0 _ _ (List.mem_cons_of_mem _ List.mem_cons_self)
 simp only [cellsC, and_true, Nat.zero_add, Nat.reduceAdd] at hq1
 have hq2 := cls_box hF1 hL0 _ _ (List.mem_cons_of_mem _ (List.mem_cons_of_mem _ List.mem_cons_self))
 simp only [cellsC, and_true, Nat.zero_add, Nat.reduceAdd] at hq2
 refine region_qs 6 (C := fun w' => ∃ x, w' = F x) (by kernel_rfl) (by kernel_rfl) (cls_drew hF2) ?_
 simp only [List.take_succ_cons, List.take_zero, List.drop_succ_cons, List.drop_zero, List.take_nil, List.drop_nil]
 repeat (go_big_quiet_step (first | fail | (go_at_call 98; with_reducible exact cls_call hF1 hF2 HW.out _) | (go_at_call 30; with_reducible exact cls_call hF1 hF2 HB.out _) | (go_at_call 29; with_reducible exact cls_call hF1 hF2 HC.out _)))
 refine wpQuiet_nil ?_
 rintro wq ⟨xq, rfl⟩
 replace hL0 := hL0.call (hF1 xq)
 clear  hq0 hq1 hq2 hF2
 generalize F xq = x6 at hL0 ⊢
 clear hF1 xq iα F α
 go_wp2_with fail
 exact bodyPost_ret (v := .bool false) (by simp [results, Tryz.results151, go_sem]) rfl ⟨rfl, hL0.bl⟩
set_option maxHeartbeats 4000000 in
set_option maxRecDepth 100000 in
theorem dnear_gt (a h p r : Rat) (z c : Int) (HF : ∀ w, Calls Tryz.prog 152 #[fracV a] w fun xe w' => xe = .returned (intV z) ∧ Below w.heap.size w w') (HH : ∀ w, Calls Tryz.prog 37 #[.int .i64 1, .int .i64 2] w fun xe w' => xe = .returned (.tuple #[fracV h, .int .i64 c]) ∧ Below w.heap.size w w') (HW : ∀ w, Calls Tryz.prog 98 #[intV z] w fun xe w' => xe = .returned (fracV p) ∧ Below w.heap.size w w') (HB : ∀ w, Calls Tryz.prog 30 #[fracV a, fracV p] w fun xe w' => xe = .returned (fracV r) ∧ Below w.heap.size w w') (HC : ∀ w, Calls Tryz.prog 29 #[fracV r, fracV h] w fun xe w' => xe = .returned (.int .i64 1) ∧ Below w.heap.size w w') (w : World) :
  Calls Tryz.prog 151 #[fracV a] w fun xe w' => xe = .returned (.bool true) ∧ Below w.heap.size w w' := by
 have hL0 : GL w w [] := GL.start w
 replace HF := Lib.hid HF
 replace HH := Lib.hid HH
 replace HW := Lib.hid HW
 replace HB := Lib.hid HB
 replace HC := Lib.hid HC
 replace hL0 := (hL0.new rfl [.int .u64 ((zl a.num : Nat) : Int), .string (zh a.num), .bool (zs a.num), .int .u64 ((lo (fe a) : Nat) : Int), .string (hs (fe a))] 34)
 generalize hweq : (w.alloc (.cells #[.int .u64 ((zl a.num : Nat) : Int), .string (zh a.num), .bool (zs a.num), .int .u64 ((lo (fe a) : Nat) : Int), .string (hs (fe a))] 34)) = x1 at hL0
 go_enter Tryz.func151, Tryz.ntmps151
 have hN0 := cells_of _ 0 [] rfl (hL0.get _ _ List.mem_cons_self)
 simp only [cellsF, and_true, Nat.zero_add, Nat.reduceAdd] at hN0
 go_wp2_with fail
 clear hN0
 with_reducible refine Calls.mono (HF.out _) ?_
 rintro e x2 ⟨rfl, hb⟩
 replace hL0 := hL0.call hb
 clear hb hweq
 replace hL0 := (hL0.new rfl [.int .u64 ((zl z : Nat) : Int), .string (zh z), .bool (zs z)] 32)
 generalize hweq : (x2.alloc (.cells #[.int .u64 ((zl z : Nat) : Int), .string (zh z), .bool (zs z)] 32)) = x3 at hL0
 go_wp2_with fail
 with_reducible refine Calls.mono (HH.out _) ?_
 rintro e x4 ⟨rfl, hb⟩
 replace hL0 := hL0.call hb
 clear hb hweq
 replace hL0 := (hL0.new rfl [.int .u64 ((zl h.num : Nat) : Int), .string (zh h.num), .bool (zs h.num), .int .u64 ((lo (fe h) : Nat) : Int), .string (hs (fe h))] 34)
 generalize hweq : (x4.alloc (.cells #[.int .u64 ((zl h.num : Nat) : Int), .string (zh h.num), .bool (zs h.num), .int .u64 ((lo (fe h) : Nat) : Int), .string (hs (fe h))] 34)) = x5 at hL0
 go_upto_region 3 with fail
 clear hweq
 obtain ⟨α, iα, F, hF1, hF2⟩ := cls x5
 have hq0 := cls_box hF1 hL0 _ _ List.mem_cons_self
 simp only [cellsC, and_true, Nat.zero_add, Nat.reduceAdd] at hq0
 have hq1 := cls_box hF1 hL0 _ _ (List.mem_cons_of_mem _ List.mem_cons_self)
 simp only [cellsC, and_true, Nat.zero_add, Nat.reduceAdd] at hq1
 have hq2 := cls_box hF1 hL0 _ _ (List.mem_cons_of_mem _ (List.mem_cons_of_mem _ List.mem_cons_self))
 simp only [cellsC, and_true, Nat.zero_add, Nat.reduceAdd] at hq2
 refine region_qs 6 (C := fun w' => ∃ x, w' = F x) (by kernel_rfl) (by kernel_rfl) (cls_drew hF2) ?_
 simp only [List.take_succ_cons, List.take_zero, List.drop_succ_cons, List.drop_zero, List.take_nil, List.drop_nil]
 repeat (go_big_quiet_step (first | fail | (go_at_call 98; with_reducible exact cls_call hF1 hF2 HW.out _) | (go_at_call 30; with_reducible exact cls_call hF1 hF2 HB.out _) | (go_at_call 29; with_reducible exact cls_call hF1 hF2 HC.out _)))
 refine wpQuiet_nil ?_
 rintro wq ⟨xq, rfl⟩
 replace hL0 := hL0.call (hF1 xq)
 clear  hq0 hq1 hq2 hF2
 generalize F xq = x6 at hL0 ⊢
 clear hF1 xq iα F α
 go_wp2_with fail
 exact bodyPost_ret (v := .bool true) (by simp [results, Tryz.results151, go_sem]) rfl ⟨rfl, hL0.bl⟩
set_option maxHeartbeats 4000000 in
set_option maxRecDepth 100000 in
theorem dnear_eq (a h p r : Rat) (z c : Int) (b : Bool) (HF : ∀ w, Calls Tryz.prog 152 #[fracV a] w fun xe w' => xe = .returned (intV z) ∧ Below w.heap.size w w') (HH : ∀ w, Calls Tryz.prog 37 #[.int .i64 1, .int .i64 2] w fun xe w' => xe = .returned (.tuple #[fracV h, .int .i64 c]) ∧ Below w.heap.size w w') (HW : ∀ w, Calls Tryz.prog 98 #[intV z] w fun xe w' => xe = .returned (fracV p) ∧ Below w.heap.size w w') (HB : ∀ w, Calls Tryz.prog 30 #[fracV a, fracV p] w fun xe w' => xe = .returned (fracV r) ∧ Below w.heap.size w w') (HC : ∀ w, Calls Tryz.prog 29 #[fracV r, fracV h] w fun xe w' => xe = .returned (.int .i64 0) ∧ Below w.heap.size w w') (HO : ∀ w, Calls Tryz.prog 175 #[intV z] w fun xe w' => xe = .returned (.bool b) ∧ Below w.heap.size w w') (w : World) :
  Calls Tryz.prog 151 #[fracV a] w fun xe w' => xe = .returned (.bool b) ∧ Below w.heap.size w w' := by
 have hL0 : GL w w [] := GL.start w
 replace HF := Lib.hid HF
 replace HH := Lib.hid HH
 replace HW := Lib.hid HW
 replace HB := Lib.hid HB
 replace HC := Lib.hid HC
 replace HO := Lib.hid HO
 replace hL0 := (hL0.new rfl [.int .u64 ((zl a.num : Nat) : Int), .string (zh a.num), .bool (zs a.num), .int .u64 ((lo (fe a) : Nat) : Int), .string (hs (fe a))] 34)
 generalize hweq : (w.alloc (.cells #[.int .u64 ((zl a.num : Nat) : Int), .string (zh a.num), .bool (zs a.num), .int .u64 ((lo (fe a) : Nat) : Int), .string (hs (fe a))] 34)) = x1 at hL0
 go_enter Tryz.func151, Tryz.ntmps151
 have hN0 := cells_of _ 0 [] rfl (hL0.get _ _ List.mem_cons_self)
 simp only [cellsF, and_true, Nat.zero_add, Nat.reduceAdd] at hN0
 go_wp2_with fail
 clear hN0
 with_reducible refine Calls.mono (HF.out _) ?_
 rintro e x2 ⟨rfl, hb⟩
 replace hL0 := hL0.call hb
 clear hb hweq
 replace hL0 := (hL0.new rfl [.int .u64 ((zl z : Nat) : Int), .string (zh z), .bool (zs z)] 32)
 generalize hweq : (x2.alloc (.cells #[.int .u64 ((zl z : Nat) : Int), .string (zh z), .bool (zs z)] 32)) = x3 at hL0
 go_wp2_with fail
 with_reducible refine Calls.mono (HH.out _) ?_
 rintro e x4 ⟨rfl, hb⟩
 replace hL0 := hL0.call hb
 clear hb hweq
 replace hL0 := (hL0.new rfl [.int .u64 ((zl h.num : Nat) : Int), .string (zh h.num), .bool (zs h.num), .int .u64 ((lo (fe h) : Nat) : Int), .string (hs (fe h))] 34)
 generalize hweq : (x4.alloc (.cells #[.int .u64 ((zl h.num : Nat) : Int), .string (zh h.num), .bool (zs h.num), .int .u64 ((lo (fe h) : Nat) : Int), .string (hs (fe h))] 34)) = x5 at hL0
 go_upto_region 3 with fail
 clear hweq
 obtain ⟨α, iα, F, hF1, hF2⟩ := cls x5
 have hq0 := cls_box hF1 hL0 _ _ List.mem_cons_self
 simp only [cellsC, and_true, Nat.zero_add, Nat.reduceAdd] at hq0
 have hq1 := cls_box hF1 hL0 _ _ (List.mem_cons_of_mem _ List.mem_cons_self)
 simp only [cellsC, and_true, Nat.zero_add, Nat.reduceAdd] at hq1
 have hq2 := cls_box hF1 hL0 _ _ (List.mem_cons_of_mem _ (List.mem_cons_of_mem _ List.mem_cons_self))
 simp only [cellsC, and_true, Nat.zero_add, Nat.reduceAdd] at hq2
 refine region_qs 6 (C := fun w' => ∃ x, w' = F x) (by kernel_rfl) (by kernel_rfl) (cls_drew hF2) ?_
 simp only [List.take_succ_cons, List.take_zero, List.drop_succ_cons, List.drop_zero, List.take_nil, List.drop_nil]
 repeat (go_big_quiet_step (first | fail | (go_at_call 98; with_reducible exact cls_call hF1 hF2 HW.out _) | (go_at_call 30; with_reducible exact cls_call hF1 hF2 HB.out _) | (go_at_call 29; with_reducible exact cls_call hF1 hF2 HC.out _)))
 refine wpQuiet_nil ?_
 rintro wq ⟨xq, rfl⟩
 replace hL0 := hL0.call (hF1 xq)
 clear  hq0 hq1 hq2 hF2
 generalize F xq = x6 at hL0 ⊢
 clear hF1 xq iα F α
 have hN0 := cells_of _ 0 [] rfl (hL0.get _ _ (List.mem_cons_of_mem _ List.mem_cons_self))
 simp only [cellsF, and_true, Nat.zero_add, Nat.reduceAdd] at hN0
 go_wp2_with fail
 clear hN0
 with_reducible refine Calls.mono (HO.out _) ?_
 rintro e x7 ⟨rfl, hb⟩
 replace hL0 := hL0.call hb
 clear hb
 go_wp2_with fail
 exact bodyPost_ret (v := .bool b) (by simp [results, Tryz.results151, go_sem]) rfl ⟨rfl, hL0.bl⟩
set_option maxHeartbeats 4000000 in
set_option maxRecDepth 100000 in
theorem dtoi_down (a : Rat) (z : Int) (HF : ∀ w, Calls Tryz.prog 152 #[fracV a] w fun xe w' => xe = .returned (intV z) ∧ Below w.heap.size w w') (w : World) :
  Calls Tryz.prog 97 #[fracV a, .int .i64 1] w fun xe w' => xe = .returned (intV z) ∧ Below w.heap.size w w' := by
 have hL0 : GL w w [] := GL.start w
 replace HF := Lib.hid HF
 replace hL0 := ((hL0.new rfl [.int .u64 ((zl a.num : Nat) : Int), .string (zh a.num), .bool (zs a.num), .int .u64 ((lo (fe a) : Nat) : Int), .string (hs (fe a))] 34).new (K := w.heap.size + 1) (szA _ _) [.int .u64 0, .string ⟨#[]⟩, .bool false] 32)
 generalize hweq : ((w.alloc (.cells #[.int .u64 ((zl a.num : Nat) : Int), .string (zh a.num), .bool (zs a.num), .int .u64 ((lo (fe a) : Nat) : Int), .string (hs (fe a))] 34)).alloc (.cells #[.int .u64 0, .string ⟨#[]⟩, .bool false] 32)) = x1 at hL0
 go_enter Tryz.func97, Tryz.ntmps97
 have hN0 := cells_of _ 0 [] rfl (hL0.get _ _ (List.mem_cons_of_mem _ List.mem_cons_self))
 simp only [cellsF, and_true, Nat.zero_add, Nat.reduceAdd] at hN0
 go_wp2_with fail
 clear hN0
 with_reducible refine Calls.mono (HF.out _) ?_
 rintro e x2 ⟨rfl, hb⟩
 replace hL0 := hL0.call hb
 clear hb hweq
 have hA := hL0.fc
 simp only [fcG, cellsF, neK, and_true, ne_eq, Nat.zero_add, Nat.reduceAdd] at hA
 have hP := hL0.put 0 (w.heap.size + 1) _ rfl [.int .u64 ((zl z : Nat) : Int), .string (zh z), .bool (zs z)] rfl
 simp only [setAll, List.set_cons_zero, List.set_cons_succ] at hP
 generalize hput1 : (((x2.setCell ⟨w.heap.size + 1, 0, none⟩ (.int .u64 ((zl z : Nat) : Int))).setCell ⟨w.heap.size + 1, 1, none⟩ (.string (zh z))).setCell ⟨w.heap.size + 1, 2, none⟩ (.bool (zs z))) = x3 at hP
 have hB1 := hP.fc
 simp only [fcG, cellsF, neK, and_true, ne_eq, Nat.zero_add, Nat.reduceAdd] at hB1
 replace hL0 := hP
 go_wp2_with fail
 exact bodyPost_ret (v := .agg #[.int .u64 ((zl z : Nat) : Int), .string (zh z), .bool (zs z)]) (by simp [results, Tryz.results97, go_sem, hB1]) rfl ⟨rfl, hL0.bl⟩
set_option maxHeartbeats 4000000 in
set_option maxRecDepth 100000 in
theorem dtoi_up (a : Rat) (z : Int) (HC : ∀ w, Calls Tryz.prog 153 #[fracV a] w fun xe w' => xe = .returned (intV z) ∧ Below w.heap.size w w') (w : World) :
  Calls Tryz.prog 97 #[fracV a, .int .i64 2] w fun xe w' => xe = .returned (intV z) ∧ Below w.heap.size w w' := by
 have hL0 : GL w w [] := GL.start w
 replace HC := Lib.hid HC
 replace hL0 := ((hL0.new rfl [.int .u64 ((zl a.num : Nat) : Int), .string (zh a.num), .bool (zs a.num), .int .u64 ((lo (fe a) : Nat) : Int), .string (hs (fe a))] 34).new (K := w.heap.size + 1) (szA _ _) [.int .u64 0, .string ⟨#[]⟩, .bool false] 32)
 generalize hweq : ((w.alloc (.cells #[.int .u64 ((zl a.num : Nat) : Int), .string (zh a.num), .bool (zs a.num), .int .u64 ((lo (fe a) : Nat) : Int), .string (hs (fe a))] 34)).alloc (.cells #[.int .u64 0, .string ⟨#[]⟩, .bool false] 32)) = x1 at hL0
 go_enter Tryz.func97, Tryz.ntmps97
 have hN0 := cells_of _ 0 [] rfl (hL0.get _ _ (List.mem_cons_of_mem _ List.mem_cons_self))
 simp only [cellsF, and_true, Nat.zero_add, Nat.reduceAdd] at hN0
 go_wp2_with fail
 clear hN0
 with_reducible refine Calls.mono (HC.out _) ?_
 rintro e x2 ⟨rfl, hb⟩
 replace hL0 := hL0.call hb
 clear hb hweq
 have hA := hL0.fc
 simp only [fcG, cellsF, neK, and_true, ne_eq, Nat.zero_add, Nat.reduceAdd] at hA
 have hP := hL0.put 0 (w.heap.size + 1) _ rfl [.int .u64 ((zl z : Nat) : Int), .string (zh z), .bool (zs z)] rfl
 simp only [setAll, List.set_cons_zero, List.set_cons_succ] at hP
 generalize hput1 : (((x2.setCell ⟨w.heap.size + 1, 0, none⟩ (.int .u64 ((zl z : Nat) : Int))).setCell ⟨w.heap.size + 1, 1, none⟩ (.string (zh z))).setCell ⟨w.heap.size + 1, 2, none⟩ (.bool (zs z))) = x3 at hP
 have hB1 := hP.fc
 simp only [fcG, cellsF, neK, and_true, ne_eq, Nat.zero_add, Nat.reduceAdd] at hB1
 replace hL0 := hP
 go_wp2_with fail
 exact bodyPost_ret (v := .agg #[.int .u64 ((zl z : Nat) : Int), .string (zh z), .bool (zs z)]) (by simp [results, Tryz.results97, go_sem, hB1]) rfl ⟨rfl, hL0.bl⟩
set_option maxHeartbeats 4000000 in
set_option maxRecDepth 100000 in
theorem dtoi_low (a : Rat) (z : Int) (HN : ∀ w, Calls Tryz.prog 151 #[fracV a] w fun xe w' => xe = .returned (.bool false) ∧ Below w.heap.size w w') (HF : ∀ w, Calls Tryz.prog 152 #[fracV a] w fun xe w' => xe = .returned (intV z) ∧ Below w.heap.size w w') (w : World) :
  Calls Tryz.prog 97 #[fracV a, .int .i64 3] w fun xe w' => xe = .returned (intV z) ∧ Below w.heap.size w w' := by
 have hL0 : GL w w [] := GL.start w
 replace HN := Lib.hid HN
 replace HF := Lib.hid HF
 replace hL0 := ((hL0.new rfl [.int .u64 ((zl a.num : Nat) : Int), .string (zh a.num), .bool (zs a.num), .int .u64 ((lo (fe a) : Nat) : Int), .string (hs (fe a))] 34).new (K := w.heap.size + 1) (szA _ _) [.int .u64 0, .string ⟨#[]⟩, .bool false] 32)
 generalize hweq : ((w.alloc (.cells #[.int .u64 ((zl a.num : Nat) : Int), .string (zh a.num), .bool (zs a.num), .int .u64 ((lo (fe a) : Nat) : Int), .string (hs (fe a))] 34)).alloc (.cells #[.int .u64 0, .string ⟨#[]⟩, .bool false] 32)) = x1 at hL0
 go_enter Tryz.func97, Tryz.ntmps97
 have hN0 := cells_of _ 0 [] rfl (hL0.get _ _ (List.mem_cons_of_mem _ List.mem_cons_self))
 simp only [cellsF, and_true, Nat.zero_add, Nat.reduceAdd] at hN0
 go_wp2_with fail
 clear hN0
 with_reducible refine Calls.mono (HN.out _) ?_
 rintro e x2 ⟨rfl, hb⟩
 replace hL0 := hL0.call hb
 clear hb hweq
 have hN0 := cells_of _ 0 [] rfl (hL0.get _ _ (List.mem_cons_of_mem _ List.mem_cons_self))
 simp only [cellsF, and_true, Nat.zero_add, Nat.reduceAdd] at hN0
 go_wp2_with fail
 clear hN0
 with_reducible refine Calls.mono (HF.out _) ?_
 rintro e x3 ⟨rfl, hb⟩
 replace hL0 := hL0.call hb
 clear hb
 have hA := hL0.fc
 simp only [fcG, cellsF, neK, and_true, ne_eq, Nat.zero_add, Nat.reduceAdd] at hA
 have hP := hL0.put 0 (w.heap.size + 1) _ rfl [.int .u64 ((zl z : Nat) : Int), .string (zh z), .bool (zs z)] rfl
 simp only [setAll, List.set_cons_zero, List.set_cons_succ] at hP
 generalize hput1 : (((x3.setCell ⟨w.heap.size + 1, 0, none⟩ (.int .u64 ((zl z : Nat) : Int))).setCell ⟨w.heap.size + 1, 1, none⟩ (.string (zh z))).setCell ⟨w.heap.size + 1, 2, none⟩ (.bool (zs z))) = x4 at hP
 have hB1 := hP.fc
 simp only [fcG, cellsF, neK, and_true, ne_eq, Nat.zero_add, Nat.reduceAdd] at hB1
 replace hL0 := hP
 go_wp2_with fail
 exact bodyPost_ret (v := .agg #[.int .u64 ((zl z : Nat) : Int), .string (zh z), .bool (zs z)]) (by simp [results, Tryz.results97, go_sem, hB1]) rfl ⟨rfl, hL0.bl⟩
set_option maxHeartbeats 4000000 in
set_option maxRecDepth 100000 in
theorem dtoi_high (a : Rat) (z : Int) (HN : ∀ w, Calls Tryz.prog 151 #[fracV a] w fun xe w' => xe = .returned (.bool true) ∧ Below w.heap.size w w') (HC : ∀ w, Calls Tryz.prog 153 #[fracV a] w fun xe w' => xe = .returned (intV z) ∧ Below w.heap.size w w') (w : World) :
  Calls Tryz.prog 97 #[fracV a, .int .i64 3] w fun xe w' => xe = .returned (intV z) ∧ Below w.heap.size w w' := by
 have hL0 : GL w w [] := GL.start w
 replace HN := Lib.hid HN
 replace HC := Lib.hid HC
 replace hL0 := ((hL0.new rfl [.int .u64 ((zl a.num : Nat) : Int), .string (zh a.num), .bool (zs a.num), .int .u64 ((lo (fe a) : Nat) : Int), .string (hs (fe a))] 34).new (K := w.heap.size + 1) (szA _ _) [.int .u64 0, .string ⟨#[]⟩, .bool false] 32)
 generalize hweq : ((w.alloc (.cells #[.int .u64 ((zl a.num : Nat) : Int), .string (zh a.num), .bool (zs a.num), .int .u64 ((lo (fe a) : Nat) : Int), .string (hs (fe a))] 34)).alloc (.cells #[.int .u64 0, .string ⟨#[]⟩, .bool false] 32)) = x1 at hL0
 go_enter Tryz.func97, Tryz.ntmps97
 have hN0 := cells_of _ 0 [] rfl (hL0.get _ _ (List.mem_cons_of_mem _ List.mem_cons_self))
 simp only [cellsF, and_true, Nat.zero_add, Nat.reduceAdd] at hN0
 go_wp2_with fail
 clear hN0
 with_reducible refine Calls.mono (HN.out _) ?_
 rintro e x2 ⟨rfl, hb⟩
 replace hL0 := hL0.call hb
 clear hb hweq
 have hN0 := cells_of _ 0 [] rfl (hL0.get _ _ (List.mem_cons_of_mem _ List.mem_cons_self))
 simp only [cellsF, and_true, Nat.zero_add, Nat.reduceAdd] at hN0
 go_wp2_with fail
 clear hN0
 with_reducible refine Calls.mono (HC.out _) ?_
 rintro e x3 ⟨rfl, hb⟩
 replace hL0 := hL0.call hb
 clear hb
 have hA := hL0.fc
 simp only [fcG, cellsF, neK, and_true, ne_eq, Nat.zero_add, Nat.reduceAdd] at hA
 have hP := hL0.put 0 (w.heap.size + 1) _ rfl [.int .u64 ((zl z : Nat) : Int), .string (zh z), .bool (zs z)] rfl
 simp only [setAll, List.set_cons_zero, List.set_cons_succ] at hP
 generalize hput1 : (((x3.setCell ⟨w.heap.size + 1, 0, none⟩ (.int .u64 ((zl z : Nat) : Int))).setCell ⟨w.heap.size + 1, 1, none⟩ (.string (zh z))).setCell ⟨w.heap.size + 1, 2, none⟩ (.bool (zs z))) = x4 at hP
 have hB1 := hP.fc
 simp only [fcG, cellsF, neK, and_true, ne_eq, Nat.zero_add, Nat.reduceAdd] at hB1
 replace hL0 := hP
 go_wp2_with fail
 exact bodyPost_ret (v := .agg #[.int .u64 ((zl z : Nat) : Int), .string (zh z), .bool (zs z)]) (by simp [results, Tryz.results97, go_sem, hB1]) rfl ⟨rfl, hL0.bl⟩
set_option maxHeartbeats 4000000 in
set_option maxRecDepth 100000 in
theorem drnd_neg (a : Rat) (n v : Int) (h1 : decide (n < 0) = true) (w : World) :
  Calls Tryz.prog 45 #[fracV a, .int .i64 n, .int .i64 v] w fun xe w' => xe = .returned (.tuple #[.agg #[.int .u64 0, .string ⟨#[]⟩, .bool false], .int .i64 1]) ∧ Below w.heap.size w w' := by
 have hL0 : GL w w [] := GL.start w
 replace hL0 := ((hL0.new rfl [.int .u64 ((zl a.num : Nat) : Int), .string (zh a.num), .bool (zs a.num), .int .u64 ((lo (fe a) : Nat) : Int), .string (hs (fe a))] 34).new (K := w.heap.size + 1) (szA _ _) [.int .u64 0, .string ⟨#[]⟩, .bool false] 32)
 generalize hweq : ((w.alloc (.cells #[.int .u64 ((zl a.num : Nat) : Int), .string (zh a.num), .bool (zs a.num), .int .u64 ((lo (fe a) : Nat) : Int), .string (hs (fe a))] 34)).alloc (.cells #[.int .u64 0, .string ⟨#[]⟩, .bool false] 32)) = x1 at hL0
 go_enter Tryz.func45, Tryz.ntmps45
 have hA := hL0.fc
 simp only [fcG, cellsF, neK, and_true, ne_eq, Nat.zero_add, Nat.reduceAdd] at hA
 have hP := hL0.put 0 (w.heap.size + 1) _ rfl [.int .u64 0, .string ⟨#[]⟩, .bool false] rfl
 simp only [setAll, List.set_cons_zero, List.set_cons_succ] at hP
 generalize hput1 : (((x1.setCell ⟨w.heap.size + 1, 0, none⟩ (.int .u64 0)).setCell ⟨w.heap.size + 1, 1, none⟩ (.string ⟨#[]⟩)).setCell ⟨w.heap.size + 1, 2, none⟩ (.bool false)) = x2 at hP
 have hB1 := hP.fc
 simp only [fcG, cellsF, neK, and_true, ne_eq, Nat.zero_add, Nat.reduceAdd] at hB1
 replace hL0 := hP
 go_wp2_with fail
 exact bodyPost_ret (v := .tuple #[.agg #[.int .u64 0, .string ⟨#[]⟩, .bool false], .int .i64 1]) (by simp [results, Tryz.results45, go_sem, hB1]) rfl ⟨rfl, hL0.bl⟩
set_option maxHeartbeats 4000000 in
set_option maxRecDepth 100000 in
theorem drnd_big (a : Rat) (n v : Int) (h1 : decide (n < 0) = false) (h2 : decide (100 < n) = true) (w : World) :
  Calls Tryz.prog 45 #[fracV a, .int .i64 n, .int .i64 v] w fun xe w' => xe = .returned (.tuple #[.agg #[.int .u64 0, .string ⟨#[]⟩, .bool false], .int .i64 3]) ∧ Below w.heap.size w w' := by
 have hL0 : GL w w [] := GL.start w
 replace hL0 := ((hL0.new rfl [.int .u64 ((zl a.num : Nat) : Int), .string (zh a.num), .bool (zs a.num), .int .u64 ((lo (fe a) : Nat) : Int), .string (hs (fe a))] 34).new (K := w.heap.size + 1) (szA _ _) [.int .u64 0, .string ⟨#[]⟩, .bool false] 32)
 generalize hweq : ((w.alloc (.cells #[.int .u64 ((zl a.num : Nat) : Int), .string (zh a.num), .bool (zs a.num), .int .u64 ((lo (fe a) : Nat) : Int), .string (hs (fe a))] 34)).alloc (.cells #[.int .u64 0, .string ⟨#[]⟩, .bool false] 32)) = x1 at hL0
 go_enter Tryz.func45, Tryz.ntmps45
 have hA := hL0.fc
 simp only [fcG, cellsF, neK, and_true, ne_eq, Nat.zero_add, Nat.reduceAdd] at hA
 have hP := hL0.put 0 (w.heap.size + 1) _ rfl [.int .u64 0, .string ⟨#[]⟩, .bool false] rfl
 simp only [setAll, List.set_cons_zero, List.set_cons_succ] at hP
 generalize hput1 : (((x1.setCell ⟨w.heap.size + 1, 0, none⟩ (.int .u64 0)).setCell ⟨w.heap.size + 1, 1, none⟩ (.string ⟨#[]⟩)).setCell ⟨w.heap.size + 1, 2, none⟩ (.bool false)) = x2 at hP
 have hB1 := hP.fc
 simp only [fcG, cellsF, neK, and_true, ne_eq, Nat.zero_add, Nat.reduceAdd] at hB1
 replace hL0 := hP
 go_wp2_with fail
 exact bodyPost_ret (v := .tuple #[.agg #[.int .u64 0, .string ⟨#[]⟩, .bool false], .int .i64 3]) (by simp [results, Tryz.results45, go_sem, hB1]) rfl ⟨rfl, hL0.bl⟩
set_option maxHeartbeats 4000000 in
set_option maxRecDepth 100000 in
theorem drnd_way0 (a : Rat) (n v : Int) (h1 : decide (n < 0) = false) (h2 : decide (100 < n) = false) (h3 : decide (v < 1) = true) (w : World) :
  Calls Tryz.prog 45 #[fracV a, .int .i64 n, .int .i64 v] w fun xe w' => xe = .returned (.tuple #[.agg #[.int .u64 0, .string ⟨#[]⟩, .bool false], .int .i64 1]) ∧ Below w.heap.size w w' := by
 have hL0 : GL w w [] := GL.start w
 replace hL0 := ((hL0.new rfl [.int .u64 ((zl a.num : Nat) : Int), .string (zh a.num), .bool (zs a.num), .int .u64 ((lo (fe a) : Nat) : Int), .string (hs (fe a))] 34).new (K := w.heap.size + 1) (szA _ _) [.int .u64 0, .string ⟨#[]⟩, .bool false] 32)
 generalize hweq : ((w.alloc (.cells #[.int .u64 ((zl a.num : Nat) : Int), .string (zh a.num), .bool (zs a.num), .int .u64 ((lo (fe a) : Nat) : Int), .string (hs (fe a))] 34)).alloc (.cells #[.int .u64 0, .string ⟨#[]⟩, .bool false] 32)) = x1 at hL0
 go_enter Tryz.func45, Tryz.ntmps45
 have hA := hL0.fc
 simp only [fcG, cellsF, neK, and_true, ne_eq, Nat.zero_add, Nat.reduceAdd] at hA
 have hP := hL0.put 0 (w.heap.size + 1) _ rfl [.int .u64 0, .string ⟨#[]⟩, .bool false] rfl
 simp only [setAll, List.set_cons_zero, List.set_cons_succ] at hP
 generalize hput1 : (((x1.setCell ⟨w.heap.size + 1, 0, none⟩ (.int .u64 0)).setCell ⟨w.heap.size + 1, 1, none⟩ (.string ⟨#[]⟩)).setCell ⟨w.heap.size + 1, 2, none⟩ (.bool false)) = x2 at hP
 have hB1 := hP.fc
 simp only [fcG, cellsF, neK, and_true, ne_eq, Nat.zero_add, Nat.reduceAdd] at hB1
 replace hL0 := hP
 go_wp2_with fail
 exact bodyPost_ret (v := .tuple #[.agg #[.int .u64 0, .string ⟨#[]⟩, .bool false], .int .i64 1]) (by simp [results, Tryz.results45, go_sem, hB1]) rfl ⟨rfl, hL0.bl⟩
set_option maxHeartbeats 4000000 in
set_option maxRecDepth 100000 in
theorem drnd_way4 (a : Rat) (n v : Int) (h1 : decide (n < 0) = false) (h2 : decide (100 < n) = false) (h3 : decide (v < 1) = false) (h4 : decide (3 < v) = true) (w : World) :
  Calls Tryz.prog 45 #[fracV a, .int .i64 n, .int .i64 v] w fun xe w' => xe = .returned (.tuple #[.agg #[.int .u64 0, .string ⟨#[]⟩, .bool false], .int .i64 1]) ∧ Below w.heap.size w w' := by
 have hL0 : GL w w [] := GL.start w
 replace hL0 := ((hL0.new rfl [.int .u64 ((zl a.num : Nat) : Int), .string (zh a.num), .bool (zs a.num), .int .u64 ((lo (fe a) : Nat) : Int), .string (hs (fe a))] 34).new (K := w.heap.size + 1) (szA _ _) [.int .u64 0, .string ⟨#[]⟩, .bool false] 32)
 generalize hweq : ((w.alloc (.cells #[.int .u64 ((zl a.num : Nat) : Int), .string (zh a.num), .bool (zs a.num), .int .u64 ((lo (fe a) : Nat) : Int), .string (hs (fe a))] 34)).alloc (.cells #[.int .u64 0, .string ⟨#[]⟩, .bool false] 32)) = x1 at hL0
 go_enter Tryz.func45, Tryz.ntmps45
 have hA := hL0.fc
 simp only [fcG, cellsF, neK, and_true, ne_eq, Nat.zero_add, Nat.reduceAdd] at hA
 have hP := hL0.put 0 (w.heap.size + 1) _ rfl [.int .u64 0, .string ⟨#[]⟩, .bool false] rfl
 simp only [setAll, List.set_cons_zero, List.set_cons_succ] at hP
 generalize hput1 : (((x1.setCell ⟨w.heap.size + 1, 0, none⟩ (.int .u64 0)).setCell ⟨w.heap.size + 1, 1, none⟩ (.string ⟨#[]⟩)).setCell ⟨w.heap.size + 1, 2, none⟩ (.bool false)) = x2 at hP
 have hB1 := hP.fc
 simp only [fcG, cellsF, neK, and_true, ne_eq, Nat.zero_add, Nat.reduceAdd] at hB1
 replace hL0 := hP
 go_wp2_with fail
 exact bodyPost_ret (v := .tuple #[.agg #[.int .u64 0, .string ⟨#[]⟩, .bool false], .int .i64 1]) (by simp [results, Tryz.results45, go_sem, hB1]) rfl ⟨rfl, hL0.bl⟩
set_option maxHeartbeats 4000000 in
set_option maxRecDepth 100000 in
theorem drnd_ok (a p r : Rat) (n v t z : Int) (u : Nat) (HT : ∀ w, Calls Tryz.prog 47 #[.int .i64 n] w fun xe w' => xe = .returned (natV u) ∧ Below w.heap.size w w') (HF : ∀ w, Calls Tryz.prog 69 #[.bool false, natV u] w fun xe w' => xe = .returned (intV t) ∧ Below w.heap.size w w') (HW : ∀ w, Calls Tryz.prog 98 #[intV t] w fun xe w' => xe = .returned (fracV p) ∧ Below w.heap.size w w') (HM : ∀ w, Calls Tryz.prog 31 #[fracV a, fracV p] w fun xe w' => xe = .returned (fracV r) ∧ Below w.heap.size w w') (HI : ∀ w, Calls Tryz.prog 97 #[fracV r, .int .i64 v] w fun xe w' => xe = .returned (intV z) ∧ Below w.heap.size w w') (h1 : decide (n < 0) = false) (h2 : decide (100 < n) = false) (h3 : decide (v < 1) = false) (h4 : decide (3 < v) = false) (w : World) :
  Calls Tryz.prog 45 #[fracV a, .int .i64 n, .int .i64 v] w fun xe w' => xe = .returned (.tuple #[intV z, .int .i64 0]) ∧ Below w.heap.size w w' := by
 have hL0 : GL w w [] := GL.start w
 replace HT := Lib.hid HT
 replace HF := Lib.hid HF
 replace HW := Lib.hid HW
 replace HM := Lib.hid HM
 replace HI := Lib.hid HI
 replace hL0 := ((hL0.new rfl [.int .u64 ((zl a.num : Nat) : Int), .string (zh a.num), .bool (zs a.num), .int .u64 ((lo (fe a) : Nat) : Int), .string (hs (fe a))] 34).new (K := w.heap.size + 1) (szA _ _) [.int .u64 0, .string ⟨#[]⟩, .bool false] 32)
 generalize hweq : ((w.alloc (.cells #[.int .u64 ((zl a.num : Nat) : Int), .string (zh a.num), .bool (zs a.num), .int .u64 ((lo (fe a) : Nat) : Int), .string (hs (fe a))] 34)).alloc (.cells #[.int .u64 0, .string ⟨#[]⟩, .bool false] 32)) = x1 at hL0
 go_enter Tryz.func45, Tryz.ntmps45
 go_upto_region 8 with fail
 clear hweq
 obtain ⟨α, iα, F, hF1, hF2⟩ := cls x1
 have hq0 := cls_box hF1 hL0 _ _ (List.mem_cons_of_mem _ List.mem_cons_self)
 simp only [cellsC, and_true, Nat.zero_add, Nat.reduceAdd] at hq0
 refine region_qs 8 (C := fun w' => ∃ x, w' = F x) (by kernel_rfl) (by kernel_rfl) (cls_drew hF2) ?_
 simp only [List.take_succ_cons, List.take_zero, List.drop_succ_cons, List.drop_zero, List.take_nil, List.drop_nil]
 repeat (go_big_quiet_step (first | fail | (go_at_call 47; with_reducible exact cls_call hF1 hF2 HT.out _) | (go_at_call 69; with_reducible exact cls_call hF1 hF2 HF.out _) | (go_at_call 98; with_reducible exact cls_call hF1 hF2 HW.out _) | (go_at_call 31; with_reducible exact cls_call hF1 hF2 HM.out _) | (go_at_call 97; with_reducible exact cls_call hF1 hF2 HI.out _)))
 refine wpQuiet_nil ?_
 rintro wq ⟨xq, rfl⟩
 replace hL0 := hL0.call (hF1 xq)
 clear  hq0 hF2
 generalize F xq = x2 at hL0 ⊢
 clear hF1 xq iα F α
 have hA := hL0.fc
 simp only [fcG, cellsF, neK, and_true, ne_eq, Nat.zero_add, Nat.reduceAdd] at hA
 have hP := hL0.put 0 (w.heap.size + 1) _ rfl [.int .u64 ((zl z : Nat) : Int), .string (zh z), .bool (zs z)] rfl
 simp only [setAll, List.set_cons_zero, List.set_cons_succ] at hP
 generalize hput1 : (((x2.setCell ⟨w.heap.size + 1, 0, none⟩ (.int .u64 ((zl z : Nat) : Int))).setCell ⟨w.heap.size + 1, 1, none⟩ (.string (zh z))).setCell ⟨w.heap.size + 1, 2, none⟩ (.bool (zs z))) = x3 at hP
 have hB1 := hP.fc
 simp only [fcG, cellsF, neK, and_true, ne_eq, Nat.zero_add, Nat.reduceAdd] at hB1
 replace hL0 := hP
 go_wp2_with fail
 exact bodyPost_ret (v := .tuple #[.agg #[.int .u64 ((zl z : Nat) : Int), .string (zh z), .bool (zs z)], .int .i64 0]) (by simp [results, Tryz.results45, go_sem, hB1]) rfl ⟨rfl, hL0.bl⟩
set_option maxHeartbeats 4000000 in
set_option maxRecDepth 100000 in
theorem dround_ok (a q : Rat) (n v z c : Int) (u : Nat) (HR : ∀ w, Calls Tryz.prog 45 #[fracV a, .int .i64 n, .int .i64 v] w fun xe w' => xe = .returned (.tuple #[intV z, .int .i64 0]) ∧ Below w.heap.size w w') (HT : ∀ w, Calls Tryz.prog 47 #[.int .i64 n] w fun xe w' => xe = .returned (natV u) ∧ Below w.heap.size w w') (HF : ∀ w, Calls Tryz.prog 46 #[intV z, natV u] w fun xe w' => xe = .returned (.tuple #[fracV q, .int .i64 c]) ∧ Below w.heap.size w w') (w : World) :
  Calls Tryz.prog 12 #[fracV a, .int .i64 n, .int .i64 v] w fun xe w' => xe = .returned (.tuple #[fracV q, .int .i64 c]) ∧ Below w.heap.size w w' := by
 have hL0 : GL w w [] := GL.start w
 replace HR := Lib.hid HR
 replace HT := Lib.hid HT
 replace HF := Lib.hid HF
 replace hL0 := ((hL0.new rfl [.int .u64 ((zl a.num : Nat) : Int), .string (zh a.num), .bool (zs a.num), .int .u64 ((lo (fe a) : Nat) : Int), .string (hs (fe a))] 34).new (K := w.heap.size + 1) (szA _ _) [.int .u64 0, .string ⟨#[]⟩, .bool false, .int .u64 0, .string ⟨#[]⟩] 34)
 generalize hweq : ((w.alloc (.cells #[.int .u64 ((zl a.num : Nat) : Int), .string (zh a.num), .bool (zs a.num), .int .u64 ((lo (fe a) : Nat) : Int), .string (hs (fe a))] 34)).alloc (.cells #[.int .u64 0, .string ⟨#[]⟩, .bool false, .int .u64 0, .string ⟨#[]⟩] 34)) = x1 at hL0
 go_enter Tryz.func12, Tryz.ntmps12
 have hN0 := cells_of _ 0 [] rfl (hL0.get _ _ (List.mem_cons_of_mem _ List.mem_cons_self))
 simp only [cellsF, and_true, Nat.zero_add, Nat.reduceAdd] at hN0
 go_wp2_with fail
 clear hN0
 with_reducible refine Calls.mono (HR.out _) ?_
 rintro e x2 ⟨rfl, hb⟩
 replace hL0 := hL0.call hb
 clear hb hweq
 replace hL0 := (hL0.new rfl [.int .u64 ((zl z : Nat) : Int), .string (zh z), .bool (zs z)] 32)
 generalize hweq : (x2.alloc (.cells #[.int .u64 ((zl z : Nat) : Int), .string (zh z), .bool (zs z)] 32)) = x3 at hL0
 go_upto_region 4 with fail
 clear hweq
 obtain ⟨α, iα, F, hF1, hF2⟩ := cls x3
 have hq0 := cls_box hF1 hL0 _ _ List.mem_cons_self
 simp only [cellsC, and_true, Nat.zero_add, Nat.reduceAdd] at hq0
 refine region_qs 6 (C := fun w' => ∃ x, w' = F x) (by kernel_rfl) (by kernel_rfl) (cls_drew hF2) ?_
 simp only [List.take_succ_cons, List.take_zero, List.drop_succ_cons, List.drop_zero, List.take_nil, List.drop_nil]
 repeat (go_big_quiet_step (first | fail | (go_at_call 47; with_reducible exact cls_call hF1 hF2 HT.out _) | (go_at_call 46; with_reducible exact cls_call hF1 hF2 HF.out _)))
 refine wpQuiet_nil ?_
 rintro wq ⟨xq, rfl⟩
 replace hL0 := hL0.call (hF1 xq)
 clear  hq0 hF2
 generalize F xq = x4 at hL0 ⊢
 clear hF1 xq iα F α
 have hA := hL0.fc
 simp only [fcG, cellsF, neK, and_true, ne_eq, Nat.zero_add, Nat.reduceAdd] at hA
 have hP := hL0.put 1 (w.heap.size + 1) _ rfl [.int .u64 ((zl q.num : Nat) : Int), .string (zh q.num), .bool (zs q.num), .int .u64 ((lo (fe q) : Nat) : Int), .string (hs (fe q))] rfl
 simp only [setAll, List.set_cons_zero, List.set_cons_succ] at hP
 generalize hput1 : (((((x4.setCell ⟨w.heap.size + 1, 0, none⟩ (.int .u64 ((zl q.num : Nat) : Int))).setCell ⟨w.heap.size + 1, 1, none⟩ (.string (zh q.num))).setCell ⟨w.heap.size + 1, 2, none⟩ (.bool (zs q.num))).setCell ⟨w.heap.size + 1, 3, none⟩ (.int .u64 ((lo (fe q) : Nat) : Int))).setCell ⟨w.heap.size + 1, 4, none⟩ (.string (hs (fe q)))) = x5 at hP
 have hB1 := hP.fc
 simp only [fcG, cellsF, neK, and_true, ne_eq, Nat.zero_add, Nat.reduceAdd] at hB1
 replace hL0 := hP
 go_wp2_with fail
 exact bodyPost_ret (v := .tuple #[.agg #[.int .u64 ((zl q.num : Nat) : Int), .string (zh q.num), .bool (zs q.num), .int .u64 ((lo (fe q) : Nat) : Int), .string (hs (fe q))], .int .i64 c]) (by simp [results, Tryz.results12, go_sem, hB1]) rfl ⟨rfl, hL0.bl⟩
set_option maxHeartbeats 4000000 in
set_option maxRecDepth 100000 in
theorem dbetween_ok (a p q : Rat) (n c : Int) (H1 : ∀ w, Calls Tryz.prog 12 #[fracV a, .int .i64 n, .int .i64 1] w fun xe w' => xe = .returned (.tuple #[fracV p, .int .i64 0]) ∧ Below w.heap.size w w') (H2 : ∀ w, Calls Tryz.prog 12 #[fracV a, .int .i64 n, .int .i64 2] w fun xe w' => xe = .returned (.tuple #[fracV q, .int .i64 c]) ∧ Below w.heap.size w w') (w : World) :
  Calls Tryz.prog 26 #[fracV a, .int .i64 n] w fun xe w' => xe = .returned (.tuple #[fracV p, fracV q, .int .i64 c]) ∧ Below w.heap.size w w' := by
 have hL0 : GL w w [] := GL.start w
 replace H1 := Lib.hid H1
 replace H2 := Lib.hid H2
 replace hL0 := (((hL0.new rfl [.int .u64 ((zl a.num : Nat) : Int), .string (zh a.num), .bool (zs a.num), .int .u64 ((lo (fe a) : Nat) : Int), .string (hs (fe a))] 34).new (K := w.heap.size + 1) (szA _ _) [.int .u64 0, .string ⟨#[]⟩, .bool false, .int .u64 0, .string ⟨#[]⟩] 34).new (K := w.heap.size + 1 + 1) (by simp only [World.size_alloc]) [.int .u64 0, .string ⟨#[]⟩, .bool false, .int .u64 0, .string ⟨#[]⟩] 34)
 generalize hweq : (((w.alloc (.cells #[.int .u64 ((zl a.num : Nat) : Int), .string (zh a.num), .bool (zs a.num), .int .u64 ((lo (fe a) : Nat) : Int), .string (hs (fe a))] 34)).alloc (.cells #[.int .u64 0, .string ⟨#[]⟩, .bool false, .int .u64 0, .string ⟨#[]⟩] 34)).alloc (.cells #[.int .u64 0, .string ⟨#[]⟩, .bool false, .int .u64 0, .string ⟨#[]⟩] 34)) = x1 at hL0
 go_enter Tryz.func26, Tryz.ntmps26
 have hN0 := cells_of _ 0 [] rfl (hL0.get _ _ (List.mem_cons_of_mem _ (List.mem_cons_of_mem _ List.mem_cons_self)))
 simp only [cellsF, and_true, Nat.zero_add, Nat.reduceAdd] at hN0
 go_wp2_with fail
 clear hN0
 with_reducible refine Calls.mono (H1.out _) ?_
 rintro e x2 ⟨rfl, hb⟩
 replace hL0 := hL0.call hb
 clear hb hweq
 have hA := hL0.fc
 simp only [fcG, cellsF, neK, and_true, ne_eq, Nat.zero_add, Nat.reduceAdd] at hA
 have hP := hL0.put 1 (w.heap.size + 1) _ rfl [.int .u64 ((zl p.num : Nat) : Int), .string (zh p.num), .bool (zs p.num), .int .u64 ((lo (fe p) : Nat) : Int), .string (hs (fe p))] rfl
 simp only [setAll, List.set_cons_zero, List.set_cons_succ] at hP
 generalize hput1 : (((((x2.setCell ⟨w.heap.size + 1, 0, none⟩ (.int .u64 ((zl p.num : Nat) : Int))).setCell ⟨w.heap.size + 1, 1, none⟩ (.string (zh p.num))).setCell ⟨w.heap.size + 1, 2, none⟩ (.bool (zs p.num))).setCell ⟨w.heap.size + 1, 3, none⟩ (.int .u64 ((lo (fe p) : Nat) : Int))).setCell ⟨w.heap.size + 1, 4, none⟩ (.string (hs (fe p)))) = x3 at hP
 have hB1 := hP.fc
 simp only [fcG, cellsF, neK, and_true, ne_eq, Nat.zero_add, Nat.reduceAdd] at hB1
 replace hL0 := hP
 go_wp2_with fail
 clear hA
 with_reducible refine Calls.mono (H2.out _) ?_
 rintro e x4 ⟨rfl, hb⟩
 replace hL0 := hL0.call hb
 clear hb hput1 hB1
 have hA := hL0.fc
 simp only [fcG, cellsF, neK, and_true, ne_eq, Nat.zero_add, Nat.reduceAdd] at hA
 have hP := hL0.put 0 (w.heap.size + 1 + 1) _ rfl [.int .u64 ((zl q.num : Nat) : Int), .string (zh q.num), .bool (zs q.num), .int .u64 ((lo (fe q) : Nat) : Int), .string (hs (fe q))] rfl
 simp only [setAll, List.set_cons_zero, List.set_cons_succ] at hP
 generalize hput2 : (((((x4.setCell ⟨w.heap.size + 1 + 1, 0, none⟩ (.int .u64 ((zl q.num : Nat) : Int))).setCell ⟨w.heap.size + 1 + 1, 1, none⟩ (.string (zh q.num))).setCell ⟨w.heap.size + 1 + 1, 2, none⟩ (.bool (zs q.num))).setCell ⟨w.heap.size + 1 + 1, 3, none⟩ (.int .u64 ((lo (fe q) : Nat) : Int))).setCell ⟨w.heap.size + 1 + 1, 4, none⟩ (.string (hs (fe q)))) = x5 at hP
 have hB2 := hP.fc
 simp only [fcG, cellsF, neK, and_true, ne_eq, Nat.zero_add, Nat.reduceAdd] at hB2
 replace hL0 := hP
 go_upto_region 5 with fail
 clear hA
 clear hput2 hB2
 have hA := hL0.fc
 simp only [fcG, cellsF, neK, and_true, ne_eq, Nat.zero_add, Nat.reduceAdd] at hA
 obtain ⟨⟨c0, c1, c2, c3, c4⟩, cf0, cn0, ⟨c5, c6, c7, c8, c9⟩, cf1, cn1, ⟨c10, c11, c12, c13, c14⟩, cf2⟩ := id hA
 clear hA
 go_region
 have hP := ((hL0.put 1 (w.heap.size + 1) _ rfl [.int .u64 ((zl p.num : Nat) : Int), .string (zh p.num), .bool (zs p.num), .int .u64 ((lo (fe p) : Nat) : Int), .string (hs (fe p))] rfl).put 0 (w.heap.size + 1 + 1) _ rfl [.int .u64 ((zl q.num : Nat) : Int), .string (zh q.num), .bool (zs q.num), .int .u64 ((lo (fe q) : Nat) : Int), .string (hs (fe q))] rfl).drew
 simp only [setAll, List.set_cons_zero, List.set_cons_succ] at hP
 generalize ((((((((((x5.setCell ⟨w.heap.size + 1, 0, none⟩ (.int .u64 ((zl p.num : Nat) : Int))).setCell ⟨w.heap.size + 1, 1, none⟩ (.string (zh p.num))).setCell ⟨w.heap.size + 1, 2, none⟩ (.bool (zs p.num))).setCell ⟨w.heap.size + 1, 3, none⟩ (.int .u64 ((lo (fe p) : Nat) : Int))).setCell ⟨w.heap.size + 1, 4, none⟩ (.string (hs (fe p)))).setCell ⟨w.heap.size + 1 + 1, 0, none⟩ (.int .u64 ((zl q.num : Nat) : Int))).setCell ⟨w.heap.size + 1 + 1, 1, none⟩ (.string (zh q.num))).setCell ⟨w.heap.size + 1 + 1, 2, none⟩ (.bool (zs q.num))).setCell ⟨w.heap.size + 1 + 1, 3, none⟩ (.int .u64 ((lo (fe q) : Nat) : Int))).setCell ⟨w.heap.size + 1 + 1, 4, none⟩ (.string (hs (fe q)))).drew = x6 at hP ⊢
 clear hL0
 have hL0 := hP
 clear hP
 clear c0 c1 c2 c3 c4 cf0 cn0 c5 c6 c7 c8 c9 cf1 cn1 c10 c11 c12 c13 c14 cf2
 have hN0 := cells_of _ 0 [] rfl (hL0.get _ _ List.mem_cons_self)
 simp only [cellsF, and_true, Nat.zero_add, Nat.reduceAdd] at hN0
 have hN1 := cells_of _ 0 [] rfl (hL0.get _ _ (List.mem_cons_of_mem _ List.mem_cons_self))
 simp only [cellsF, and_true, Nat.zero_add, Nat.reduceAdd] at hN1
 go_wp2_with fail
 exact bodyPost_ret (v := .tuple #[.agg #[.int .u64 ((zl p.num : Nat) : Int), .string (zh p.num), .bool (zs p.num), .int .u64 ((lo (fe p) : Nat) : Int), .string (hs (fe p))], .agg #[.int .u64 ((zl q.num : Nat) : Int), .string (zh q.num), .bool (zs q.num), .int .u64 ((lo (fe q) : Nat) : Int), .string (hs (fe q))], .int .i64 c]) (by simp [results, Tryz.results26, go_sem, hN0 ,hN1]) rfl ⟨rfl, hL0.bl⟩
set_option maxHeartbeats 4000000 in
set_option maxRecDepth 100000 in
theorem dodd_yes (z q : Int) (HO : ∀ w, Calls Tryz.prog 91 #[.int .i64 2] w fun xe w' => xe = .returned (intV 2) ∧ Below w.heap.size w w') (HD : ∀ w, Calls Tryz.prog 176 #[intV z, intV 2] w fun xe w' => xe = .returned (.tuple #[intV q, intV 1, .bool true]) ∧ Below w.heap.size w w') (H1 : ∀ w, Calls Tryz.prog 91 #[.int .i64 1] w fun xe w' => xe = .returned (intV 1) ∧ Below w.heap.size w w') (w : World) :
  Calls Tryz.prog 175 #[intV z] w fun xe w' => xe = .returned (.bool true) ∧ Below w.heap.size w w' := by
 have hL0 : GL w w [] := GL.start w
 replace HO := Lib.hid HO
 replace HD := Lib.hid HD
 replace H1 := Lib.hid H1
 replace hL0 := (hL0.new rfl [.int .u64 ((zl z : Nat) : Int), .string (zh z), .bool (zs z)] 32)
 generalize hweq : (w.alloc (.cells #[.int .u64 ((zl z : Nat) : Int), .string (zh z), .bool (zs z)] 32)) = x1 at hL0
 go_enter Tryz.func175, Tryz.ntmps175
 go_upto_region 1 with fail
 clear hweq
 refine region_gh (by kernel_rfl) (by kernel_rfl) ?_
 refine lex_seg (gl := []) 7 (by kernel_rfl) ?_
 intro α iα F hF1 hF2
 have hq := GL.seg hF1 hL0
 simp only [fcC, cellsC, and_true, Nat.zero_add, Nat.reduceAdd] at hq
 simp only [List.take_succ_cons, List.take_zero, List.drop_succ_cons, List.drop_zero, List.take_nil, List.drop_nil]
 repeat (go_big_quiet_step (first | fail | (go_at_call 91; with_reducible exact seg_call hF2 HO.out _) | (go_at_call 176; with_reducible exact seg_call hF2 HD.out _)))
 refine wpQuiet_nil ?_
 clear hq hF1 hF2 iα F α
 refine lex_new [.int .u64 0, .string ⟨#[]⟩, .bool false] 3 32 32 rfl rfl (of_decide_eq_true (by kernel_rfl)) (by kernel_rfl) rfl new_int ?_
 simp only [Act.put, List.setIfInBounds_toArray, List.set_cons_succ, List.set_cons_zero]
 refine lex_new [.int .u64 0, .string ⟨#[]⟩, .bool false] 4 32 32 rfl rfl (of_decide_eq_true (by kernel_rfl)) (by kernel_rfl) rfl new_int ?_
 simp only [Act.put, List.setIfInBounds_toArray, List.set_cons_succ, List.set_cons_zero]
 refine lex_put [.int .u64 ((zl q : Nat) : Int), .string (zh q), .bool (zs q)] [.int .u64 0, .string ⟨#[]⟩, .bool false] 3 32 (.tmp 10) rfl (by kernel_rfl) (by simp [toG, upd]) rfl (fun w k h => put_int _ _ _ _ _ _ w k h) ?_
 simp only [Act.put]
 refine lex_put [.int .u64 ((zl 1 : Nat) : Int), .string (zh 1), .bool (zs 1)] [.int .u64 0, .string ⟨#[]⟩, .bool false] 4 32 (.tmp 11) rfl (by kernel_rfl) (by simp [toG, upd]) rfl (fun w k h => put_int _ _ _ _ _ _ w k h) ?_
 simp only [Act.put]
 refine lex_seg (gl := [(4, [.int .u64 ((zl 1 : Nat) : Int), .string (zh 1), .bool (zs 1)], true), (3, [.int .u64 ((zl q : Nat) : Int), .string (zh q), .bool (zs q)], true), (4, [.int .u64 0, .string ⟨#[]⟩, .bool false], false), (3, [.int .u64 0, .string ⟨#[]⟩, .bool false], false)]) 1 (by kernel_rfl) ?_
 intro α iα F hF1 hF2
 have hq := GL.seg hF1 hL0
 simp only [fcC, cellsC, and_true, Nat.zero_add, Nat.reduceAdd] at hq
 simp only [List.take_succ_cons, List.take_zero, List.drop_succ_cons, List.drop_zero, List.take_nil, List.drop_nil]
 repeat (go_big_quiet_step (first | fail | (go_at_call 91; with_reducible exact seg_call hF2 HO.out _) | (go_at_call 176; with_reducible exact seg_call hF2 HD.out _)))
 refine wpQuiet_nil ?_
 clear hq hF1 hF2 iα F α
 refine lexG_nil ?_
 intro κ x2 hS
 replace hL0 := hL0.ghs hS [(4, [.int .u64 ((zl 1 : Nat) : Int), .string (zh 1), .bool (zs 1)]), (3, [.int .u64 ((zl q : Nat) : Int), .string (zh q), .bool (zs q)])] (by simp) (by intro p hp; simp only [List.mem_cons, List.not_mem_nil, or_false] at hp; rcases hp with rfl | rfl <;> exact ⟨_, by simp only [toG, upd]; rfl⟩)
 simp only [List.map_cons, List.map_nil, List.cons_append, List.nil_append] at hL0
 simp only [over_toG, over_nil, Act.put, List.setIfInBounds_toArray, List.set_cons_succ, List.set_cons_zero]
 clear hS
 generalize κ 4 = k2_4 at *
 generalize κ 3 = k2_3 at *
 go_upto_region 2 with fail
 obtain ⟨α, iα, F, hF1, hF2⟩ := cls x2
 have hq0 := cls_box hF1 hL0 _ _ List.mem_cons_self
 simp only [cellsC, and_true, Nat.zero_add, Nat.reduceAdd] at hq0
 refine region_qs 4 (C := fun w' => ∃ x, w' = F x) (by kernel_rfl) (by kernel_rfl) (cls_drew hF2) ?_
 simp only [List.take_succ_cons, List.take_zero, List.drop_succ_cons, List.drop_zero, List.take_nil, List.drop_nil]
 repeat (go_big_quiet_step (first | fail | (go_at_call 91; with_reducible exact cls_call hF1 hF2 H1.out _)))
 refine wpQuiet_nil ?_
 rintro wq ⟨xq, rfl⟩
 replace hL0 := hL0.call (hF1 xq)
 clear  hq0 hF2
 generalize F xq = x3 at hL0 ⊢
 clear hF1 xq iα F α
 go_wp2_with fail
 exact bodyPost_ret (v := .bool true) (by simp [results, Tryz.results175, go_sem]) rfl ⟨rfl, hL0.bl⟩
set_option maxHeartbeats 4000000 in
set_option maxRecDepth 100000 in
theorem dodd_no (z q r : Int) (HO : ∀ w, Calls Tryz.prog 91 #[.int .i64 2] w fun xe w' => xe = .returned (intV 2) ∧ Below w.heap.size w w') (HD : ∀ w, Calls Tryz.prog 176 #[intV z, intV 2] w fun xe w' => xe = .returned (.tuple #[intV q, intV r, .bool true]) ∧ Below w.heap.size w w') (H1 : ∀ w, Calls Tryz.prog 91 #[.int .i64 1] w fun xe w' => xe = .returned (intV 1) ∧ Below w.heap.size w w') (h1 : (((zl r : Nat) : Int) == ((zl 1 : Nat) : Int)) = false) (h2 : (zl r == zl 1) = false) (h3 : ¬ zl r = zl 1) (w : World) :
  Calls Tryz.prog 175 #[intV z] w fun xe w' => xe = .returned (.bool false) ∧ Below w.heap.size w w' := by
 have hL0 : GL w w [] := GL.start w
 replace HO := Lib.hid HO
 replace HD := Lib.hid HD
 replace H1 := Lib.hid H1
 replace hL0 := (hL0.new rfl [.int .u64 ((zl z : Nat) : Int), .string (zh z), .bool (zs z)] 32)
 generalize hweq : (w.alloc (.cells #[.int .u64 ((zl z : Nat) : Int), .string (zh z), .bool (zs z)] 32)) = x1 at hL0
 go_enter Tryz.func175, Tryz.ntmps175
 go_upto_region 1 with fail
 clear hweq
 refine region_gh (by kernel_rfl) (by kernel_rfl) ?_
 refine lex_seg (gl := []) 7 (by kernel_rfl) ?_
 intro α iα F hF1 hF2
 have hq := GL.seg hF1 hL0
 simp only [fcC, cellsC, and_true, Nat.zero_add, Nat.reduceAdd] at hq
 simp only [List.take_succ_cons, List.take_zero, List.drop_succ_cons, List.drop_zero, List.take_nil, List.drop_nil]
 repeat (go_big_quiet_step (first | fail | (go_at_call 91; with_reducible exact seg_call hF2 HO.out _) | (go_at_call 176; with_reducible exact seg_call hF2 HD.out _)))
 refine wpQuiet_nil ?_
 clear hq hF1 hF2 iα F α
 refine lex_new [.int .u64 0, .string ⟨#[]⟩, .bool false] 3 32 32 rfl rfl (of_decide_eq_true (by kernel_rfl)) (by kernel_rfl) rfl new_int ?_
 simp only [Act.put, List.setIfInBounds_toArray, List.set_cons_succ, List.set_cons_zero]
 refine lex_new [.int .u64 0, .string ⟨#[]⟩, .bool false] 4 32 32 rfl rfl (of_decide_eq_true (by kernel_rfl)) (by kernel_rfl) rfl new_int ?_
 simp only [Act.put, List.setIfInBounds_toArray, List.set_cons_succ, List.set_cons_zero]
 refine lex_put [.int .u64 ((zl q : Nat) : Int), .string (zh q), .bool (zs q)] [.int .u64 0, .string ⟨#[]⟩, .bool false] 3 32 (.tmp 10) rfl (by kernel_rfl) (by simp [toG, upd]) rfl (fun w k h => put_int _ _ _ _ _ _ w k h) ?_
 simp only [Act.put]
 refine lex_put [.int .u64 ((zl r : Nat) : Int), .string (zh r), .bool (zs r)] [.int .u64 0, .string ⟨#[]⟩, .bool false] 4 32 (.tmp 11) rfl (by kernel_rfl) (by simp [toG, upd]) rfl (fun w k h => put_int _ _ _ _ _ _ w k h) ?_
 simp only [Act.put]
 refine lex_seg (gl := [(4, [.int .u64 ((zl r : Nat) : Int), .string (zh r), .bool (zs r)], true), (3, [.int .u64 ((zl q : Nat) : Int), .string (zh q), .bool (zs q)], true), (4, [.int .u64 0, .string ⟨#[]⟩, .bool false], false), (3, [.int .u64 0, .string ⟨#[]⟩, .bool false], false)]) 1 (by kernel_rfl) ?_
 intro α iα F hF1 hF2
 have hq := GL.seg hF1 hL0
 simp only [fcC, cellsC, and_true, Nat.zero_add, Nat.reduceAdd] at hq
 simp only [List.take_succ_cons, List.take_zero, List.drop_succ_cons, List.drop_zero, List.take_nil, List.drop_nil]
 repeat (go_big_quiet_step (first | fail | (go_at_call 91; with_reducible exact seg_call hF2 HO.out _) | (go_at_call 176; with_reducible exact seg_call hF2 HD.out _)))
 refine wpQuiet_nil ?_
 clear hq hF1 hF2 iα F α
 refine lexG_nil ?_
 intro κ x2 hS
 replace hL0 := hL0.ghs hS [(4, [.int .u64 ((zl r : Nat) : Int), .string (zh r), .bool (zs r)]), (3, [.int .u64 ((zl q : Nat) : Int), .string (zh q), .bool (zs q)])] (by simp) (by intro p hp; simp only [List.mem_cons, List.not_mem_nil, or_false] at hp; rcases hp with rfl | rfl <;> exact ⟨_, by simp only [toG, upd]; rfl⟩)
 simp only [List.map_cons, List.map_nil, List.cons_append, List.nil_append] at hL0
 simp only [over_toG, over_nil, Act.put, List.setIfInBounds_toArray, List.set_cons_succ, List.set_cons_zero]
 clear hS
 generalize κ 4 = k2_4 at *
 generalize κ 3 = k2_3 at *
 go_upto_region 2 with fail
 obtain ⟨α, iα, F, hF1, hF2⟩ := cls x2
 have hq0 := cls_box hF1 hL0 _ _ List.mem_cons_self
 simp only [cellsC, and_true, Nat.zero_add, Nat.reduceAdd] at hq0
 refine region_qs 4 (C := fun w' => ∃ x, w' = F x) (by kernel_rfl) (by kernel_rfl) (cls_drew hF2) ?_
 simp only [List.take_succ_cons, List.take_zero, List.drop_succ_cons, List.drop_zero, List.take_nil, List.drop_nil]
 repeat (go_big_quiet_step (first | fail | (go_at_call 91; with_reducible exact cls_call hF1 hF2 H1.out _)))
 refine wpQuiet_nil ?_
 rintro wq ⟨xq, rfl⟩
 replace hL0 := hL0.call (hF1 xq)
 clear  hq0 hF2
 generalize F xq = x3 at hL0 ⊢
 clear hF1 xq iα F α
 go_wp2_with fail
 exact bodyPost_ret (v := .bool false) (by simp [results, Tryz.results175, go_sem]) rfl ⟨rfl, hL0.bl⟩
end Go.Proofs.YtahfcciihkkegaaGreatDoor
namespace Go.Proofs.YtahfcciihkkegaaGreatDoor
open Go.RowKit
attribute [local irreducible] lo hs sm s64 c64 d64 b64 mh ml pd pc qd qc val hiB str cmpI srD lz nb isq decB zl zh zs fe
/-- A slice's fractions. -/
structure FS (w : World) (g : Nat) (qs : List Rat) : Prop where
 cell : ∀ i (h : i < qs.length), w.cell? ⟨g, i * 5, none⟩ = some (.int .u64 ((zl qs[i].num : Nat) : Int)) ∧ w.cell? ⟨g, i * 5 + 1, none⟩ = some (.string (zh qs[i].num)) ∧ w.cell? ⟨g, i * 5 + 2, none⟩ = some (.bool (zs qs[i].num)) ∧
  w.cell? ⟨g, i * 5 + 3, none⟩ = some (.int .u64 ((lo (fe qs[i]) : Nat) : Int)) ∧ w.cell? ⟨g, i * 5 + 4, none⟩ = some (.string (hs (fe qs[i])))
 lt : g < w.heap.size
theorem FS.below {w w' : World} {g : Nat} {qs : List Rat} (h : FS w g qs) (hb : Below w.heap.size w w') : FS w' g qs := by
 have hs := hb.size
 have hl := h.lt
 refine ⟨fun i hi => ?_, by omega⟩
 obtain ⟨h0, h1, h2, h3, h4⟩ := h.cell i hi
 exact ⟨(hb.cell (p := ⟨g, i * 5, none⟩) hl).trans h0, (hb.cell (p := ⟨g, i * 5 + 1, none⟩) hl).trans h1, (hb.cell (p := ⟨g, i * 5 + 2, none⟩) hl).trans h2, (hb.cell (p := ⟨g, i * 5 + 3, none⟩) hl).trans h3, (hb.cell (p := ⟨g, i * 5 + 4, none⟩) hl).trans h4⟩
def SlQ (w : World) (v : Value) (qs : List Rat) : Prop := (∃ ao c, v = .slice ao 0 c ∧ qs = []) ∨ ∃ g c, v = .slice (some ⟨g, 0, none⟩) qs.length c ∧ FS w g qs
theorem SlQ.below {w w' : World} {v : Value} {qs : List Rat} (h : SlQ w v qs) (hb : Below w.heap.size w w') : SlQ w' v qs := by
 rcases h with h | ⟨g, c, h1, h2⟩
 ·exact .inl h
 ·exact .inr ⟨g, c, h1, h2.below hb⟩
theorem SlQ.keeps (v : Value) (qs : List Rat) : Keeps (fun w => SlQ w v qs) := fun _ _ hb h => h.below hb
end Go.Proofs.YtahfcciihkkegaaGreatDoor
namespace Go.Proofs.YtahfcciihkkegaaGreatDoor
open Go.RowKit
attribute [local irreducible] lo hs sm s64 c64 d64 b64 mh ml pd pc qd qc val hiB str cmpI srD lz nb isq decB zl zh zs
/-- A fraction's text. -/
def qtxt (q : Rat) : ByteArray := if q.den = 1 then ztxt q.num else ztxt q.num ++ (ByteArray.mk #[47]) ++ txt q.den
theorem ztxt_small {z : Int} {k : Nat} (hk : 0 < k) (h : dI z ≤ k) : (ztxt z).size ≤ 20 * k + 1 := by
 have h1 := txt_small (n := z.natAbs) hk h
 unfold ztxt
 split
 ·rw [ByteArray.size_append]
  have : (ByteArray.mk #[45]).size = 1 := rfl
  omega
 ·omega
theorem textF (q : Rat) (k : Nat) (hq : Sz q k) (hk : k ≤ 100000) (w : World) (htab : Tab w) : Calls Tryz.prog 35 #[fracV q] w fun x w' => x = .returned (.string (qtxt q)) ∧ Below w.heap.size w w' := by
 have hT := fun w h => textI q.num (Nat.le_trans hq.1 (by omega)) w h
 unfold qtxt
 by_cases h : q.den = 1
 ·rw [if_pos h, show fracV q = frV q.num 0 by unfold fracV; rw [fe_one h]]
  exact ftext_whole q.num _ (fun w => by have := whole_raw q.num 0 w; rwa [decide_eq_true rfl] at this) hT w htab
 ·rw [if_neg h, show fracV q = frV q.num q.den by unfold fracV; rw [fe_ne h]]
  have s1 := ztxt_small (k := 100000) (by omega) (Nat.le_trans hq.1 hk)
  have s2 := txt_small (n := q.den) (k := 100000) (by omega) (Nat.le_trans hq.2 hk)
  exact ftext_part q.num q.den _ _ (fun w => by have := whole_raw q.num q.den w; rwa [decide_eq_false q.den_nz] at this) hT (fun w h => text_any q.den (Nat.le_trans hq.2 (by omega)) w h) (by omega) (by omega) w htab
end Go.Proofs.YtahfcciihkkegaaGreatDoor
namespace Go.Proofs.YtahfcciihkkegaaGreatDoor
open Go.RowKit
/-- Whether the integer nearest to x, of two the even one, lies above x. -/
def nearUp (x : Rat) : Bool := if x - (x.floor : Rat) < mkRat 1 2 then false else if x - (x.floor : Rat) = mkRat 1 2 then decide (x.floor % 2 = 1) else true
/-- x rounded to an integer: down (1), up (2), to the nearest (3). -/
def toI (way : Int) (x : Rat) : Int := if way = 3 then (if nearUp x then rceil x else x.floor) else if way = 2 then rceil x else x.floor
/-- 10^p as a fraction. -/
def tenQ (p : Nat) : Rat := ((10 ^ p : Nat) : Rat)
theorem tenN_pos (p : Nat) : 0 < 10 ^ p := Nat.pow_pos (by decide)
/-- q rounded to a multiple of 10^-p. -/
def rnd (way : Int) (p : Nat) (q : Rat) : Rat := (toI way (q * tenQ p) : Rat) / tenQ p
end Go.Proofs.YtahfcciihkkegaaGreatDoor
