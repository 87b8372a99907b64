/-
  The law answers true at every input, and leaves its arguments as they were: a part of the proof. CONDITIONS: the package-level tables start as the program's text lays them (the card ties them).
-/
import Derived.Test.YtaimebjkidegiaaGreatDoorZsb
set_option linter.unusedVariables false
set_option linter.unusedSimpArgs false
namespace Go.Proofs.YtaimebjkidegiaaGreatDoor
open Go.RowKit
attribute [local irreducible] lo hs sm s64 c64 d64 b64 mh ml pd pc qd qc val hiB str cmpI srD lz nb isq
set_option maxHeartbeats 4000000 in
set_option maxRecDepth 100000 in
theorem out_true (m n : Nat) (hm : (digs m).length ≤ 1000000000) (hn : (digs n).length ≤ 1000000000) (w : World) :
  Calls Tryz.prog 68 #[zV true m, natV n] w fun e w' => e = .returned (zV (decide (m + n ≠ 0)) (m + n)) ∧ Below w.heap.size w w' := by
 have hL0 : GL w w [] := GL.start w
 have HA := Lib.hid (fun w => add_any m n (by omega) (by omega) w)
 generalize m + n = p at *
 have HF := Lib.hid (fun w => from_any true p w)
 simp only [Bool.true_and] at HF
 obtain ⟨d, hd⟩ : ∃ d, d = decide (p ≠ 0) := ⟨_, rfl⟩
 rw [← hd] at HF ⊢
 clear hd
 clear hm hn
 replace hL0 := (((hL0.new rfl [.int .u64 ((lo m : Nat) : Int), .string (hs m), .bool true] 32).new (K := w.heap.size + 1) (szA _ _) [.int .u64 ((lo n : Nat) : Int), .string (hs n)] 30).new (K := w.heap.size + 1 + 1) (by simp only [World.size_alloc]) [.int .u64 0, .string ⟨#[]⟩, .bool false] 32)
 generalize hweq : (((w.alloc (.cells #[.int .u64 ((lo m : Nat) : Int), .string (hs m), .bool true] 32)).alloc (.cells #[.int .u64 ((lo n : Nat) : Int), .string (hs n)] 30)).alloc (.cells #[.int .u64 0, .string ⟨#[]⟩, .bool false] 32)) = x1 at hL0
 go_enter Tryz.func68, Tryz.ntmps68
 have hA := hL0.fc
 simp only [fcG, cellsF, neK, and_true, ne_eq, Nat.zero_add, Nat.reduceAdd] at hA
 go_upto_region 1 with fail
 clear hA
 clear hweq
 obtain ⟨α, iα, F, hF1, hF2⟩ := cls x1
 have hq := GL.fcC hF1 hL0
 simp only [fcC, cellsC, and_true, Nat.zero_add, Nat.reduceAdd] at hq
 refine region_qs 7 (C := fun w' => ∃ x, w' = F x) (by kernel_rfl) (by kernel_rfl) (cls_drew hF2) ?_
 simp only [List.take_succ_cons, List.take_zero, List.drop_succ_cons, List.drop_zero, List.take_nil, List.drop_nil]
 repeat (go_big_quiet_step (first | fail | (go_at_call 71; with_reducible exact cls_call hF1 hF2 HA.out _) | (go_at_call 19; with_reducible exact cls_call hF1 hF2 HF.out _)))
 refine wpQuiet_nil ?_
 rintro wq ⟨xq, rfl⟩
 replace hL0 := hL0.call (hF1 xq)
 clear hq hF2
 generalize F xq = x2 at hL0 ⊢
 clear hF1 xq iα F α
 have hA := hL0.fc
 simp only [fcG, cellsF, neK, and_true, ne_eq, Nat.zero_add, Nat.reduceAdd] at hA
 have hP := hL0.put 0 (w.heap.size + 1 + 1) _ rfl [.int .u64 ((lo p : Nat) : Int), .string (hs p), .bool d] rfl
 simp only [setAll, List.set_cons_zero, List.set_cons_succ] at hP
 generalize hput1 : (((x2.setCell ⟨w.heap.size + 1 + 1, 0, none⟩ (.int .u64 ((lo p : Nat) : Int))).setCell ⟨w.heap.size + 1 + 1, 1, none⟩ (.string (hs p))).setCell ⟨w.heap.size + 1 + 1, 2, none⟩ (.bool d)) = x3 at hP
 have hB1 := hP.fc
 simp only [fcG, cellsF, neK, and_true, ne_eq, Nat.zero_add, Nat.reduceAdd] at hB1
 replace hL0 := hP
 go_wp2_with fail
 exact bodyPost_ret (v := zV d p) (by simp [results, Tryz.results68, go_sem, hB1]) rfl ⟨rfl, hL0.bl⟩
set_option maxHeartbeats 4000000 in
set_option maxRecDepth 100000 in
theorem out_false (m n : Nat) (hm : (digs m).length ≤ 1000000000) (hn : (digs n).length ≤ 1000000000) (w : World) :
  Calls Tryz.prog 68 #[zV false m, natV n] w fun e w' => e = .returned (zV false (m + n)) ∧ Below w.heap.size w w' := by
 have hL0 : GL w w [] := GL.start w
 have HA := Lib.hid (fun w => add_any m n (by omega) (by omega) w)
 generalize m + n = p at *
 have HF := Lib.hid (fun w => from_any false p w)
 simp only [Bool.false_and] at HF
 clear hm hn
 replace hL0 := (((hL0.new rfl [.int .u64 ((lo m : Nat) : Int), .string (hs m), .bool false] 32).new (K := w.heap.size + 1) (szA _ _) [.int .u64 ((lo n : Nat) : Int), .string (hs n)] 30).new (K := w.heap.size + 1 + 1) (by simp only [World.size_alloc]) [.int .u64 0, .string ⟨#[]⟩, .bool false] 32)
 generalize hweq : (((w.alloc (.cells #[.int .u64 ((lo m : Nat) : Int), .string (hs m), .bool false] 32)).alloc (.cells #[.int .u64 ((lo n : Nat) : Int), .string (hs n)] 30)).alloc (.cells #[.int .u64 0, .string ⟨#[]⟩, .bool false] 32)) = x1 at hL0
 go_enter Tryz.func68, Tryz.ntmps68
 have hA := hL0.fc
 simp only [fcG, cellsF, neK, and_true, ne_eq, Nat.zero_add, Nat.reduceAdd] at hA
 go_upto_region 1 with fail
 clear hA
 clear hweq
 obtain ⟨α, iα, F, hF1, hF2⟩ := cls x1
 have hq := GL.fcC hF1 hL0
 simp only [fcC, cellsC, and_true, Nat.zero_add, Nat.reduceAdd] at hq
 refine region_qs 7 (C := fun w' => ∃ x, w' = F x) (by kernel_rfl) (by kernel_rfl) (cls_drew hF2) ?_
 simp only [List.take_succ_cons, List.take_zero, List.drop_succ_cons, List.drop_zero, List.take_nil, List.drop_nil]
 repeat (go_big_quiet_step (first | fail | (go_at_call 71; with_reducible exact cls_call hF1 hF2 HA.out _) | (go_at_call 19; with_reducible exact cls_call hF1 hF2 HF.out _)))
 refine wpQuiet_nil ?_
 rintro wq ⟨xq, rfl⟩
 replace hL0 := hL0.call (hF1 xq)
 clear hq hF2
 generalize F xq = x2 at hL0 ⊢
 clear hF1 xq iα F α
 have hA := hL0.fc
 simp only [fcG, cellsF, neK, and_true, ne_eq, Nat.zero_add, Nat.reduceAdd] at hA
 have hP := hL0.put 0 (w.heap.size + 1 + 1) _ rfl [.int .u64 ((lo p : Nat) : Int), .string (hs p), .bool false] rfl
 simp only [setAll, List.set_cons_zero, List.set_cons_succ] at hP
 generalize hput1 : (((x2.setCell ⟨w.heap.size + 1 + 1, 0, none⟩ (.int .u64 ((lo p : Nat) : Int))).setCell ⟨w.heap.size + 1 + 1, 1, none⟩ (.string (hs p))).setCell ⟨w.heap.size + 1 + 1, 2, none⟩ (.bool false)) = x3 at hP
 have hB1 := hP.fc
 simp only [fcG, cellsF, neK, and_true, ne_eq, Nat.zero_add, Nat.reduceAdd] at hB1
 replace hL0 := hP
 go_wp2_with fail
 exact bodyPost_ret (v := zV false p) (by simp [results, Tryz.results68, go_sem, hB1]) rfl ⟨rfl, hL0.bl⟩
set_option maxHeartbeats 4000000 in
set_option maxRecDepth 100000 in
theorem in_true_ge (m n : Nat) (h : n ≤ m) (hm : (digs m).length ≤ 1000000000) (hn : (digs n).length ≤ 1000000000) (w : World) :
  Calls Tryz.prog 69 #[zV true m, natV n] w fun e w' => e = .returned (zV (decide (m - n ≠ 0)) (m - n)) ∧ Below w.heap.size w w' := by
 have hL0 : GL w w [] := GL.start w
 have HS := Lib.hid (fun w => sub_ge m n h (by omega) w)
 generalize m - n = p at *
 have HF := Lib.hid (fun w => from_any true p w)
 simp only [Bool.true_and] at HF
 obtain ⟨d, hd⟩ : ∃ d, d = decide (p ≠ 0) := ⟨_, rfl⟩
 rw [← hd] at HF ⊢
 clear hd
 clear hm hn h
 replace hL0 := (((hL0.new rfl [.int .u64 ((lo m : Nat) : Int), .string (hs m), .bool true] 32).new (K := w.heap.size + 1) (szA _ _) [.int .u64 ((lo n : Nat) : Int), .string (hs n)] 30).new (K := w.heap.size + 1 + 1) (by simp only [World.size_alloc]) [.int .u64 0, .string ⟨#[]⟩, .bool false] 32)
 generalize hweq : (((w.alloc (.cells #[.int .u64 ((lo m : Nat) : Int), .string (hs m), .bool true] 32)).alloc (.cells #[.int .u64 ((lo n : Nat) : Int), .string (hs n)] 30)).alloc (.cells #[.int .u64 0, .string ⟨#[]⟩, .bool false] 32)) = x1 at hL0
 go_enter Tryz.func69, Tryz.ntmps69
 have hA := hL0.fc
 simp only [fcG, cellsF, neK, and_true, ne_eq, Nat.zero_add, Nat.reduceAdd] at hA
 go_wp2_with fail
 clear hA
 with_reducible refine Calls.mono (HS.out _) ?_
 rintro e x2 ⟨rfl, hb⟩
 replace hL0 := hL0.call hb
 clear hb hweq
 replace hL0 := (hL0.new rfl [.int .u64 ((lo p : Nat) : Int), .string (hs p)] 30)
 generalize hweq : (x2.alloc (.cells #[.int .u64 ((lo p : Nat) : Int), .string (hs p)] 30)) = x3 at hL0
 have hA := hL0.fc
 simp only [fcG, cellsF, neK, and_true, ne_eq, Nat.zero_add, Nat.reduceAdd] at hA
 go_wp2_with fail
 clear hA
 with_reducible refine Calls.mono (HF.out _) ?_
 rintro e x4 ⟨rfl, hb⟩
 replace hL0 := hL0.call hb
 clear hb hweq
 have hA := hL0.fc
 simp only [fcG, cellsF, neK, and_true, ne_eq, Nat.zero_add, Nat.reduceAdd] at hA
 have hP := hL0.put 1 (w.heap.size + 1 + 1) _ rfl [.int .u64 ((lo p : Nat) : Int), .string (hs p), .bool d] rfl
 simp only [setAll, List.set_cons_zero, List.set_cons_succ] at hP
 generalize hput1 : (((x4.setCell ⟨w.heap.size + 1 + 1, 0, none⟩ (.int .u64 ((lo p : Nat) : Int))).setCell ⟨w.heap.size + 1 + 1, 1, none⟩ (.string (hs p))).setCell ⟨w.heap.size + 1 + 1, 2, none⟩ (.bool d)) = x5 at hP
 have hB1 := hP.fc
 simp only [fcG, cellsF, neK, and_true, ne_eq, Nat.zero_add, Nat.reduceAdd] at hB1
 replace hL0 := hP
 go_wp2_with fail
 exact bodyPost_ret (v := zV d p) (by simp [results, Tryz.results69, go_sem, hB1]) rfl ⟨rfl, hL0.bl⟩
set_option maxHeartbeats 4000000 in
set_option maxRecDepth 100000 in
theorem in_true_lt (m n : Nat) (h : m < n) (hm : (digs m).length ≤ 1000000000) (hn : (digs n).length ≤ 1000000000) (w : World) :
  Calls Tryz.prog 69 #[zV true m, natV n] w fun e w' => e = .returned (zV false (n - m)) ∧ Below w.heap.size w w' := by
 have hL0 : GL w w [] := GL.start w
 have HS := Lib.hid (fun w => sub_lt m n h w)
 have HT := Lib.hid (fun w => sub_ge n m (by omega) (by omega) w)
 generalize n - m = p at *
 have HF := Lib.hid (fun w => from_any false p w)
 simp only [Bool.false_and] at HF
 clear hm hn h
 replace hL0 := (((hL0.new rfl [.int .u64 ((lo m : Nat) : Int), .string (hs m), .bool true] 32).new (K := w.heap.size + 1) (szA _ _) [.int .u64 ((lo n : Nat) : Int), .string (hs n)] 30).new (K := w.heap.size + 1 + 1) (by simp only [World.size_alloc]) [.int .u64 0, .string ⟨#[]⟩, .bool false] 32)
 generalize hweq : (((w.alloc (.cells #[.int .u64 ((lo m : Nat) : Int), .string (hs m), .bool true] 32)).alloc (.cells #[.int .u64 ((lo n : Nat) : Int), .string (hs n)] 30)).alloc (.cells #[.int .u64 0, .string ⟨#[]⟩, .bool false] 32)) = x1 at hL0
 go_enter Tryz.func69, Tryz.ntmps69
 have hA := hL0.fc
 simp only [fcG, cellsF, neK, and_true, ne_eq, Nat.zero_add, Nat.reduceAdd] at hA
 go_wp2_with fail
 clear hA
 with_reducible refine Calls.mono (HS.out _) ?_
 rintro e x2 ⟨rfl, hb⟩
 replace hL0 := hL0.call hb
 clear hb hweq
 replace hL0 := (hL0.new rfl [.int .u64 ((lo 0 : Nat) : Int), .string (hs 0)] 30)
 generalize hweq : (x2.alloc (.cells #[.int .u64 ((lo 0 : Nat) : Int), .string (hs 0)] 30)) = x3 at hL0
 have hA := hL0.fc
 simp only [fcG, cellsF, neK, and_true, ne_eq, Nat.zero_add, Nat.reduceAdd] at hA
 go_wp2_with fail
 clear hA
 with_reducible refine Calls.mono (HT.out _) ?_
 rintro e x4 ⟨rfl, hb⟩
 replace hL0 := hL0.call hb
 clear hb hweq
 replace hL0 := (hL0.new rfl [.int .u64 ((lo p : Nat) : Int), .string (hs p)] 30)
 generalize hweq : (x4.alloc (.cells #[.int .u64 ((lo p : Nat) : Int), .string (hs p)] 30)) = x5 at hL0
 have hA := hL0.fc
 simp only [fcG, cellsF, neK, and_true, ne_eq, Nat.zero_add, Nat.reduceAdd] at hA
 go_wp2_with fail
 clear hA
 with_reducible refine Calls.mono (HF.out _) ?_
 rintro e x6 ⟨rfl, hb⟩
 replace hL0 := hL0.call hb
 clear hb hweq
 have hA := hL0.fc
 simp only [fcG, cellsF, neK, and_true, ne_eq, Nat.zero_add, Nat.reduceAdd] at hA
 have hP := hL0.put 2 (w.heap.size + 1 + 1) _ rfl [.int .u64 ((lo p : Nat) : Int), .string (hs p), .bool false] rfl
 simp only [setAll, List.set_cons_zero, List.set_cons_succ] at hP
 generalize hput1 : (((x6.setCell ⟨w.heap.size + 1 + 1, 0, none⟩ (.int .u64 ((lo p : Nat) : Int))).setCell ⟨w.heap.size + 1 + 1, 1, none⟩ (.string (hs p))).setCell ⟨w.heap.size + 1 + 1, 2, none⟩ (.bool false)) = x7 at hP
 have hB1 := hP.fc
 simp only [fcG, cellsF, neK, and_true, ne_eq, Nat.zero_add, Nat.reduceAdd] at hB1
 replace hL0 := hP
 go_wp2_with fail
 exact bodyPost_ret (v := zV false p) (by simp [results, Tryz.results69, go_sem, hB1]) rfl ⟨rfl, hL0.bl⟩
set_option maxHeartbeats 4000000 in
set_option maxRecDepth 100000 in
theorem in_false_ge (m n : Nat) (h : n ≤ m) (hm : (digs m).length ≤ 1000000000) (hn : (digs n).length ≤ 1000000000) (w : World) :
  Calls Tryz.prog 69 #[zV false m, natV n] w fun e w' => e = .returned (zV false (m - n)) ∧ Below w.heap.size w w' := by
 have hL0 : GL w w [] := GL.start w
 have HS := Lib.hid (fun w => sub_ge m n h (by omega) w)
 generalize m - n = p at *
 have HF := Lib.hid (fun w => from_any false p w)
 simp only [Bool.false_and] at HF
 clear hm hn h
 replace hL0 := (((hL0.new rfl [.int .u64 ((lo m : Nat) : Int), .string (hs m), .bool false] 32).new (K := w.heap.size + 1) (szA _ _) [.int .u64 ((lo n : Nat) : Int), .string (hs n)] 30).new (K := w.heap.size + 1 + 1) (by simp only [World.size_alloc]) [.int .u64 0, .string ⟨#[]⟩, .bool false] 32)
 generalize hweq : (((w.alloc (.cells #[.int .u64 ((lo m : Nat) : Int), .string (hs m), .bool false] 32)).alloc (.cells #[.int .u64 ((lo n : Nat) : Int), .string (hs n)] 30)).alloc (.cells #[.int .u64 0, .string ⟨#[]⟩, .bool false] 32)) = x1 at hL0
 go_enter Tryz.func69, Tryz.ntmps69
 have hA := hL0.fc
 simp only [fcG, cellsF, neK, and_true, ne_eq, Nat.zero_add, Nat.reduceAdd] at hA
 go_wp2_with fail
 clear hA
 with_reducible refine Calls.mono (HS.out _) ?_
 rintro e x2 ⟨rfl, hb⟩
 replace hL0 := hL0.call hb
 clear hb hweq
 replace hL0 := (hL0.new rfl [.int .u64 ((lo p : Nat) : Int), .string (hs p)] 30)
 generalize hweq : (x2.alloc (.cells #[.int .u64 ((lo p : Nat) : Int), .string (hs p)] 30)) = x3 at hL0
 have hA := hL0.fc
 simp only [fcG, cellsF, neK, and_true, ne_eq, Nat.zero_add, Nat.reduceAdd] at hA
 go_wp2_with fail
 clear hA
 with_reducible refine Calls.mono (HF.out _) ?_
 rintro e x4 ⟨rfl, hb⟩
 replace hL0 := hL0.call hb
 clear hb hweq
 have hA := hL0.fc
 simp only [fcG, cellsF, neK, and_true, ne_eq, Nat.zero_add, Nat.reduceAdd] at hA
 have hP := hL0.put 1 (w.heap.size + 1 + 1) _ rfl [.int .u64 ((lo p : Nat) : Int), .string (hs p), .bool false] rfl
 simp only [setAll, List.set_cons_zero, List.set_cons_succ] at hP
 generalize hput1 : (((x4.setCell ⟨w.heap.size + 1 + 1, 0, none⟩ (.int .u64 ((lo p : Nat) : Int))).setCell ⟨w.heap.size + 1 + 1, 1, none⟩ (.string (hs p))).setCell ⟨w.heap.size + 1 + 1, 2, none⟩ (.bool false)) = x5 at hP
 have hB1 := hP.fc
 simp only [fcG, cellsF, neK, and_true, ne_eq, Nat.zero_add, Nat.reduceAdd] at hB1
 replace hL0 := hP
 go_wp2_with fail
 exact bodyPost_ret (v := zV false p) (by simp [results, Tryz.results69, go_sem, hB1]) rfl ⟨rfl, hL0.bl⟩
set_option maxHeartbeats 4000000 in
set_option maxRecDepth 100000 in
theorem in_false_lt (m n : Nat) (h : m < n) (hm : (digs m).length ≤ 1000000000) (hn : (digs n).length ≤ 1000000000) (w : World) :
  Calls Tryz.prog 69 #[zV false m, natV n] w fun e w' => e = .returned (zV (decide (n - m ≠ 0)) (n - m)) ∧ Below w.heap.size w w' := by
 have hL0 : GL w w [] := GL.start w
 have HS := Lib.hid (fun w => sub_lt m n h w)
 have HT := Lib.hid (fun w => sub_ge n m (by omega) (by omega) w)
 generalize n - m = p at *
 have HF := Lib.hid (fun w => from_any true p w)
 simp only [Bool.true_and] at HF
 obtain ⟨d, hd⟩ : ∃ d, d = decide (p ≠ 0) := ⟨_, rfl⟩
 rw [← hd] at HF ⊢
 clear hd
 clear hm hn h
 replace hL0 := (((hL0.new rfl [.int .u64 ((lo m : Nat) : Int), .string (hs m), .bool false] 32).new (K := w.heap.size + 1) (szA _ _) [.int .u64 ((lo n : Nat) : Int), .string (hs n)] 30).new (K := w.heap.size + 1 + 1) (by simp only [World.size_alloc]) [.int .u64 0, .string ⟨#[]⟩, .bool false] 32)
 generalize hweq : (((w.alloc (.cells #[.int .u64 ((lo m : Nat) : Int), .string (hs m), .bool false] 32)).alloc (.cells #[.int .u64 ((lo n : Nat) : Int), .string (hs n)] 30)).alloc (.cells #[.int .u64 0, .string ⟨#[]⟩, .bool false] 32)) = x1 at hL0
 go_enter Tryz.func69, Tryz.ntmps69
 have hA := hL0.fc
 simp only [fcG, cellsF, neK, and_true, ne_eq, Nat.zero_add, Nat.reduceAdd] at hA
 go_wp2_with fail
 clear hA
 with_reducible refine Calls.mono (HS.out _) ?_
 rintro e x2 ⟨rfl, hb⟩
 replace hL0 := hL0.call hb
 clear hb hweq
 replace hL0 := (hL0.new rfl [.int .u64 ((lo 0 : Nat) : Int), .string (hs 0)] 30)
 generalize hweq : (x2.alloc (.cells #[.int .u64 ((lo 0 : Nat) : Int), .string (hs 0)] 30)) = x3 at hL0
 have hA := hL0.fc
 simp only [fcG, cellsF, neK, and_true, ne_eq, Nat.zero_add, Nat.reduceAdd] at hA
 go_wp2_with fail
 clear hA
 with_reducible refine Calls.mono (HT.out _) ?_
 rintro e x4 ⟨rfl, hb⟩
 replace hL0 := hL0.call hb
 clear hb hweq
 replace hL0 := (hL0.new rfl [.int .u64 ((lo p : Nat) : Int), .string (hs p)] 30)
 generalize hweq : (x4.alloc (.cells #[.int .u64 ((lo p : Nat) : Int), .string (hs p)] 30)) = x5 at hL0
 have hA := hL0.fc
 simp only [fcG, cellsF, neK, and_true, ne_eq, Nat.zero_add, Nat.reduceAdd] at hA
 go_wp2_with fail
 clear hA
 with_reducible refine Calls.mono (HF.out _) ?_
 rintro e x6 ⟨rfl, hb⟩
 replace hL0 := hL0.call hb
 clear hb hweq
 have hA := hL0.fc
 simp only [fcG, cellsF, neK, and_true, ne_eq, Nat.zero_add, Nat.reduceAdd] at hA
 have hP := hL0.put 2 (w.heap.size + 1 + 1) _ rfl [.int .u64 ((lo p : Nat) : Int), .string (hs p), .bool d] rfl
 simp only [setAll, List.set_cons_zero, List.set_cons_succ] at hP
 generalize hput1 : (((x6.setCell ⟨w.heap.size + 1 + 1, 0, none⟩ (.int .u64 ((lo p : Nat) : Int))).setCell ⟨w.heap.size + 1 + 1, 1, none⟩ (.string (hs p))).setCell ⟨w.heap.size + 1 + 1, 2, none⟩ (.bool d)) = x7 at hP
 have hB1 := hP.fc
 simp only [fcG, cellsF, neK, and_true, ne_eq, Nat.zero_add, Nat.reduceAdd] at hB1
 replace hL0 := hP
 go_wp2_with fail
 exact bodyPost_ret (v := zV d p) (by simp [results, Tryz.results69, go_sem, hB1]) rfl ⟨rfl, hL0.bl⟩
set_option maxHeartbeats 4000000 in
set_option maxRecDepth 100000 in
theorem byadd_true_true (m n k : Nat) (u : Bool) (H : ∀ w, Calls Tryz.prog 68 #[zV true m, natV n] w fun e w' => e = .returned (zV u k) ∧ Below w.heap.size w w') (w : World) :
  Calls Tryz.prog 67 #[zV true m, zV true n, .func (.func 68) #[] #[], .func (.func 69) #[] #[]] w fun e w' => e = .returned (zV u k) ∧ Below w.heap.size w w' := by
 have hL0 : GL w w [] := GL.start w
 replace H := Lib.hid H
 replace hL0 := (((hL0.new rfl [.int .u64 ((lo m : Nat) : Int), .string (hs m), .bool true] 32).new (K := w.heap.size + 1) (szA _ _) [.int .u64 ((lo n : Nat) : Int), .string (hs n), .bool true] 32).new (K := w.heap.size + 1 + 1) (by simp only [World.size_alloc]) [.int .u64 0, .string ⟨#[]⟩, .bool false] 32)
 generalize hweq : (((w.alloc (.cells #[.int .u64 ((lo m : Nat) : Int), .string (hs m), .bool true] 32)).alloc (.cells #[.int .u64 ((lo n : Nat) : Int), .string (hs n), .bool true] 32)).alloc (.cells #[.int .u64 0, .string ⟨#[]⟩, .bool false] 32)) = x1 at hL0
 go_enter Tryz.func67, Tryz.ntmps67
 have hA := hL0.fc
 simp only [fcG, cellsF, neK, and_true, ne_eq, Nat.zero_add, Nat.reduceAdd] at hA
 go_wp2_with fail
 clear hA
 with_reducible refine Calls.mono (H.out _) ?_
 rintro e x2 ⟨rfl, hb⟩
 replace hL0 := hL0.call hb
 clear hb hweq
 have hA := hL0.fc
 simp only [fcG, cellsF, neK, and_true, ne_eq, Nat.zero_add, Nat.reduceAdd] at hA
 have hP := hL0.put 0 (w.heap.size + 1 + 1) _ rfl [.int .u64 ((lo k : Nat) : Int), .string (hs k), .bool u] rfl
 simp only [setAll, List.set_cons_zero, List.set_cons_succ] at hP
 generalize hput1 : (((x2.setCell ⟨w.heap.size + 1 + 1, 0, none⟩ (.int .u64 ((lo k : Nat) : Int))).setCell ⟨w.heap.size + 1 + 1, 1, none⟩ (.string (hs k))).setCell ⟨w.heap.size + 1 + 1, 2, none⟩ (.bool u)) = x3 at hP
 have hB1 := hP.fc
 simp only [fcG, cellsF, neK, and_true, ne_eq, Nat.zero_add, Nat.reduceAdd] at hB1
 replace hL0 := hP
 go_wp2_with fail
 exact bodyPost_ret (v := zV u k) (by simp [results, Tryz.results67, go_sem, hB1]) rfl ⟨rfl, hL0.bl⟩
set_option maxHeartbeats 4000000 in
set_option maxRecDepth 100000 in
theorem byadd_true_false (m n k : Nat) (u : Bool) (H : ∀ w, Calls Tryz.prog 69 #[zV true m, natV n] w fun e w' => e = .returned (zV u k) ∧ Below w.heap.size w w') (w : World) :
  Calls Tryz.prog 67 #[zV true m, zV false n, .func (.func 68) #[] #[], .func (.func 69) #[] #[]] w fun e w' => e = .returned (zV u k) ∧ Below w.heap.size w w' := by
 have hL0 : GL w w [] := GL.start w
 replace H := Lib.hid H
 replace hL0 := (((hL0.new rfl [.int .u64 ((lo m : Nat) : Int), .string (hs m), .bool true] 32).new (K := w.heap.size + 1) (szA _ _) [.int .u64 ((lo n : Nat) : Int), .string (hs n), .bool false] 32).new (K := w.heap.size + 1 + 1) (by simp only [World.size_alloc]) [.int .u64 0, .string ⟨#[]⟩, .bool false] 32)
 generalize hweq : (((w.alloc (.cells #[.int .u64 ((lo m : Nat) : Int), .string (hs m), .bool true] 32)).alloc (.cells #[.int .u64 ((lo n : Nat) : Int), .string (hs n), .bool false] 32)).alloc (.cells #[.int .u64 0, .string ⟨#[]⟩, .bool false] 32)) = x1 at hL0
 go_enter Tryz.func67, Tryz.ntmps67
 have hA := hL0.fc
 simp only [fcG, cellsF, neK, and_true, ne_eq, Nat.zero_add, Nat.reduceAdd] at hA
 go_wp2_with fail
 clear hA
 with_reducible refine Calls.mono (H.out _) ?_
 rintro e x2 ⟨rfl, hb⟩
 replace hL0 := hL0.call hb
 clear hb hweq
 have hA := hL0.fc
 simp only [fcG, cellsF, neK, and_true, ne_eq, Nat.zero_add, Nat.reduceAdd] at hA
 have hP := hL0.put 0 (w.heap.size + 1 + 1) _ rfl [.int .u64 ((lo k : Nat) : Int), .string (hs k), .bool u] rfl
 simp only [setAll, List.set_cons_zero, List.set_cons_succ] at hP
 generalize hput1 : (((x2.setCell ⟨w.heap.size + 1 + 1, 0, none⟩ (.int .u64 ((lo k : Nat) : Int))).setCell ⟨w.heap.size + 1 + 1, 1, none⟩ (.string (hs k))).setCell ⟨w.heap.size + 1 + 1, 2, none⟩ (.bool u)) = x3 at hP
 have hB1 := hP.fc
 simp only [fcG, cellsF, neK, and_true, ne_eq, Nat.zero_add, Nat.reduceAdd] at hB1
 replace hL0 := hP
 go_wp2_with fail
 exact bodyPost_ret (v := zV u k) (by simp [results, Tryz.results67, go_sem, hB1]) rfl ⟨rfl, hL0.bl⟩
set_option maxHeartbeats 4000000 in
set_option maxRecDepth 100000 in
theorem byadd_false_true (m n k : Nat) (u : Bool) (H : ∀ w, Calls Tryz.prog 69 #[zV false m, natV n] w fun e w' => e = .returned (zV u k) ∧ Below w.heap.size w w') (w : World) :
  Calls Tryz.prog 67 #[zV false m, zV true n, .func (.func 68) #[] #[], .func (.func 69) #[] #[]] w fun e w' => e = .returned (zV u k) ∧ Below w.heap.size w w' := by
 have hL0 : GL w w [] := GL.start w
 replace H := Lib.hid H
 replace hL0 := (((hL0.new rfl [.int .u64 ((lo m : Nat) : Int), .string (hs m), .bool false] 32).new (K := w.heap.size + 1) (szA _ _) [.int .u64 ((lo n : Nat) : Int), .string (hs n), .bool true] 32).new (K := w.heap.size + 1 + 1) (by simp only [World.size_alloc]) [.int .u64 0, .string ⟨#[]⟩, .bool false] 32)
 generalize hweq : (((w.alloc (.cells #[.int .u64 ((lo m : Nat) : Int), .string (hs m), .bool false] 32)).alloc (.cells #[.int .u64 ((lo n : Nat) : Int), .string (hs n), .bool true] 32)).alloc (.cells #[.int .u64 0, .string ⟨#[]⟩, .bool false] 32)) = x1 at hL0
 go_enter Tryz.func67, Tryz.ntmps67
 have hA := hL0.fc
 simp only [fcG, cellsF, neK, and_true, ne_eq, Nat.zero_add, Nat.reduceAdd] at hA
 go_wp2_with fail
 clear hA
 with_reducible refine Calls.mono (H.out _) ?_
 rintro e x2 ⟨rfl, hb⟩
 replace hL0 := hL0.call hb
 clear hb hweq
 have hA := hL0.fc
 simp only [fcG, cellsF, neK, and_true, ne_eq, Nat.zero_add, Nat.reduceAdd] at hA
 have hP := hL0.put 0 (w.heap.size + 1 + 1) _ rfl [.int .u64 ((lo k : Nat) : Int), .string (hs k), .bool u] rfl
 simp only [setAll, List.set_cons_zero, List.set_cons_succ] at hP
 generalize hput1 : (((x2.setCell ⟨w.heap.size + 1 + 1, 0, none⟩ (.int .u64 ((lo k : Nat) : Int))).setCell ⟨w.heap.size + 1 + 1, 1, none⟩ (.string (hs k))).setCell ⟨w.heap.size + 1 + 1, 2, none⟩ (.bool u)) = x3 at hP
 have hB1 := hP.fc
 simp only [fcG, cellsF, neK, and_true, ne_eq, Nat.zero_add, Nat.reduceAdd] at hB1
 replace hL0 := hP
 go_wp2_with fail
 exact bodyPost_ret (v := zV u k) (by simp [results, Tryz.results67, go_sem, hB1]) rfl ⟨rfl, hL0.bl⟩
set_option maxHeartbeats 4000000 in
set_option maxRecDepth 100000 in
theorem byadd_false_false (m n k : Nat) (u : Bool) (H : ∀ w, Calls Tryz.prog 68 #[zV false m, natV n] w fun e w' => e = .returned (zV u k) ∧ Below w.heap.size w w') (w : World) :
  Calls Tryz.prog 67 #[zV false m, zV false n, .func (.func 68) #[] #[], .func (.func 69) #[] #[]] w fun e w' => e = .returned (zV u k) ∧ Below w.heap.size w w' := by
 have hL0 : GL w w [] := GL.start w
 replace H := Lib.hid H
 replace hL0 := (((hL0.new rfl [.int .u64 ((lo m : Nat) : Int), .string (hs m), .bool false] 32).new (K := w.heap.size + 1) (szA _ _) [.int .u64 ((lo n : Nat) : Int), .string (hs n), .bool false] 32).new (K := w.heap.size + 1 + 1) (by simp only [World.size_alloc]) [.int .u64 0, .string ⟨#[]⟩, .bool false] 32)
 generalize hweq : (((w.alloc (.cells #[.int .u64 ((lo m : Nat) : Int), .string (hs m), .bool false] 32)).alloc (.cells #[.int .u64 ((lo n : Nat) : Int), .string (hs n), .bool false] 32)).alloc (.cells #[.int .u64 0, .string ⟨#[]⟩, .bool false] 32)) = x1 at hL0
 go_enter Tryz.func67, Tryz.ntmps67
 have hA := hL0.fc
 simp only [fcG, cellsF, neK, and_true, ne_eq, Nat.zero_add, Nat.reduceAdd] at hA
 go_wp2_with fail
 clear hA
 with_reducible refine Calls.mono (H.out _) ?_
 rintro e x2 ⟨rfl, hb⟩
 replace hL0 := hL0.call hb
 clear hb hweq
 have hA := hL0.fc
 simp only [fcG, cellsF, neK, and_true, ne_eq, Nat.zero_add, Nat.reduceAdd] at hA
 have hP := hL0.put 0 (w.heap.size + 1 + 1) _ rfl [.int .u64 ((lo k : Nat) : Int), .string (hs k), .bool u] rfl
 simp only [setAll, List.set_cons_zero, List.set_cons_succ] at hP
 generalize hput1 : (((x2.setCell ⟨w.heap.size + 1 + 1, 0, none⟩ (.int .u64 ((lo k : Nat) : Int))).setCell ⟨w.heap.size + 1 + 1, 1, none⟩ (.string (hs k))).setCell ⟨w.heap.size + 1 + 1, 2, none⟩ (.bool u)) = x3 at hP
 have hB1 := hP.fc
 simp only [fcG, cellsF, neK, and_true, ne_eq, Nat.zero_add, Nat.reduceAdd] at hB1
 replace hL0 := hP
 go_wp2_with fail
 exact bodyPost_ret (v := zV u k) (by simp [results, Tryz.results67, go_sem, hB1]) rfl ⟨rfl, hL0.bl⟩
set_option maxHeartbeats 4000000 in
set_option maxRecDepth 100000 in
theorem bysub_true_true (m n k : Nat) (u : Bool) (H : ∀ w, Calls Tryz.prog 69 #[zV true m, natV n] w fun e w' => e = .returned (zV u k) ∧ Below w.heap.size w w') (w : World) :
  Calls Tryz.prog 67 #[zV true m, zV true n, .func (.func 69) #[] #[], .func (.func 68) #[] #[]] w fun e w' => e = .returned (zV u k) ∧ Below w.heap.size w w' := by
 have hL0 : GL w w [] := GL.start w
 replace H := Lib.hid H
 replace hL0 := (((hL0.new rfl [.int .u64 ((lo m : Nat) : Int), .string (hs m), .bool true] 32).new (K := w.heap.size + 1) (szA _ _) [.int .u64 ((lo n : Nat) : Int), .string (hs n), .bool true] 32).new (K := w.heap.size + 1 + 1) (by simp only [World.size_alloc]) [.int .u64 0, .string ⟨#[]⟩, .bool false] 32)
 generalize hweq : (((w.alloc (.cells #[.int .u64 ((lo m : Nat) : Int), .string (hs m), .bool true] 32)).alloc (.cells #[.int .u64 ((lo n : Nat) : Int), .string (hs n), .bool true] 32)).alloc (.cells #[.int .u64 0, .string ⟨#[]⟩, .bool false] 32)) = x1 at hL0
 go_enter Tryz.func67, Tryz.ntmps67
 have hA := hL0.fc
 simp only [fcG, cellsF, neK, and_true, ne_eq, Nat.zero_add, Nat.reduceAdd] at hA
 go_wp2_with fail
 clear hA
 with_reducible refine Calls.mono (H.out _) ?_
 rintro e x2 ⟨rfl, hb⟩
 replace hL0 := hL0.call hb
 clear hb hweq
 have hA := hL0.fc
 simp only [fcG, cellsF, neK, and_true, ne_eq, Nat.zero_add, Nat.reduceAdd] at hA
 have hP := hL0.put 0 (w.heap.size + 1 + 1) _ rfl [.int .u64 ((lo k : Nat) : Int), .string (hs k), .bool u] rfl
 simp only [setAll, List.set_cons_zero, List.set_cons_succ] at hP
 generalize hput1 : (((x2.setCell ⟨w.heap.size + 1 + 1, 0, none⟩ (.int .u64 ((lo k : Nat) : Int))).setCell ⟨w.heap.size + 1 + 1, 1, none⟩ (.string (hs k))).setCell ⟨w.heap.size + 1 + 1, 2, none⟩ (.bool u)) = x3 at hP
 have hB1 := hP.fc
 simp only [fcG, cellsF, neK, and_true, ne_eq, Nat.zero_add, Nat.reduceAdd] at hB1
 replace hL0 := hP
 go_wp2_with fail
 exact bodyPost_ret (v := zV u k) (by simp [results, Tryz.results67, go_sem, hB1]) rfl ⟨rfl, hL0.bl⟩
set_option maxHeartbeats 4000000 in
set_option maxRecDepth 100000 in
theorem bysub_true_false (m n k : Nat) (u : Bool) (H : ∀ w, Calls Tryz.prog 68 #[zV true m, natV n] w fun e w' => e = .returned (zV u k) ∧ Below w.heap.size w w') (w : World) :
  Calls Tryz.prog 67 #[zV true m, zV false n, .func (.func 69) #[] #[], .func (.func 68) #[] #[]] w fun e w' => e = .returned (zV u k) ∧ Below w.heap.size w w' := by
 have hL0 : GL w w [] := GL.start w
 replace H := Lib.hid H
 replace hL0 := (((hL0.new rfl [.int .u64 ((lo m : Nat) : Int), .string (hs m), .bool true] 32).new (K := w.heap.size + 1) (szA _ _) [.int .u64 ((lo n : Nat) : Int), .string (hs n), .bool false] 32).new (K := w.heap.size + 1 + 1) (by simp only [World.size_alloc]) [.int .u64 0, .string ⟨#[]⟩, .bool false] 32)
 generalize hweq : (((w.alloc (.cells #[.int .u64 ((lo m : Nat) : Int), .string (hs m), .bool true] 32)).alloc (.cells #[.int .u64 ((lo n : Nat) : Int), .string (hs n), .bool false] 32)).alloc (.cells #[.int .u64 0, .string ⟨#[]⟩, .bool false] 32)) = x1 at hL0
 go_enter Tryz.func67, Tryz.ntmps67
 have hA := hL0.fc
 simp only [fcG, cellsF, neK, and_true, ne_eq, Nat.zero_add, Nat.reduceAdd] at hA
 go_wp2_with fail
 clear hA
 with_reducible refine Calls.mono (H.out _) ?_
 rintro e x2 ⟨rfl, hb⟩
 replace hL0 := hL0.call hb
 clear hb hweq
 have hA := hL0.fc
 simp only [fcG, cellsF, neK, and_true, ne_eq, Nat.zero_add, Nat.reduceAdd] at hA
 have hP := hL0.put 0 (w.heap.size + 1 + 1) _ rfl [.int .u64 ((lo k : Nat) : Int), .string (hs k), .bool u] rfl
 simp only [setAll, List.set_cons_zero, List.set_cons_succ] at hP
 generalize hput1 : (((x2.setCell ⟨w.heap.size + 1 + 1, 0, none⟩ (.int .u64 ((lo k : Nat) : Int))).setCell ⟨w.heap.size + 1 + 1, 1, none⟩ (.string (hs k))).setCell ⟨w.heap.size + 1 + 1, 2, none⟩ (.bool u)) = x3 at hP
 have hB1 := hP.fc
 simp only [fcG, cellsF, neK, and_true, ne_eq, Nat.zero_add, Nat.reduceAdd] at hB1
 replace hL0 := hP
 go_wp2_with fail
 exact bodyPost_ret (v := zV u k) (by simp [results, Tryz.results67, go_sem, hB1]) rfl ⟨rfl, hL0.bl⟩
set_option maxHeartbeats 4000000 in
set_option maxRecDepth 100000 in
theorem bysub_false_true (m n k : Nat) (u : Bool) (H : ∀ w, Calls Tryz.prog 68 #[zV false m, natV n] w fun e w' => e = .returned (zV u k) ∧ Below w.heap.size w w') (w : World) :
  Calls Tryz.prog 67 #[zV false m, zV true n, .func (.func 69) #[] #[], .func (.func 68) #[] #[]] w fun e w' => e = .returned (zV u k) ∧ Below w.heap.size w w' := by
 have hL0 : GL w w [] := GL.start w
 replace H := Lib.hid H
 replace hL0 := (((hL0.new rfl [.int .u64 ((lo m : Nat) : Int), .string (hs m), .bool false] 32).new (K := w.heap.size + 1) (szA _ _) [.int .u64 ((lo n : Nat) : Int), .string (hs n), .bool true] 32).new (K := w.heap.size + 1 + 1) (by simp only [World.size_alloc]) [.int .u64 0, .string ⟨#[]⟩, .bool false] 32)
 generalize hweq : (((w.alloc (.cells #[.int .u64 ((lo m : Nat) : Int), .string (hs m), .bool false] 32)).alloc (.cells #[.int .u64 ((lo n : Nat) : Int), .string (hs n), .bool true] 32)).alloc (.cells #[.int .u64 0, .string ⟨#[]⟩, .bool false] 32)) = x1 at hL0
 go_enter Tryz.func67, Tryz.ntmps67
 have hA := hL0.fc
 simp only [fcG, cellsF, neK, and_true, ne_eq, Nat.zero_add, Nat.reduceAdd] at hA
 go_wp2_with fail
 clear hA
 with_reducible refine Calls.mono (H.out _) ?_
 rintro e x2 ⟨rfl, hb⟩
 replace hL0 := hL0.call hb
 clear hb hweq
 have hA := hL0.fc
 simp only [fcG, cellsF, neK, and_true, ne_eq, Nat.zero_add, Nat.reduceAdd] at hA
 have hP := hL0.put 0 (w.heap.size + 1 + 1) _ rfl [.int .u64 ((lo k : Nat) : Int), .string (hs k), .bool u] rfl
 simp only [setAll, List.set_cons_zero, List.set_cons_succ] at hP
 generalize hput1 : (((x2.setCell ⟨w.heap.size + 1 + 1, 0, none⟩ (.int .u64 ((lo k : Nat) : Int))).setCell ⟨w.heap.size + 1 + 1, 1, none⟩ (.string (hs k))).setCell ⟨w.heap.size + 1 + 1, 2, none⟩ (.bool u)) = x3 at hP
 have hB1 := hP.fc
 simp only [fcG, cellsF, neK, and_true, ne_eq, Nat.zero_add, Nat.reduceAdd] at hB1
 replace hL0 := hP
 go_wp2_with fail
 exact bodyPost_ret (v := zV u k) (by simp [results, Tryz.results67, go_sem, hB1]) rfl ⟨rfl, hL0.bl⟩
set_option maxHeartbeats 4000000 in
set_option maxRecDepth 100000 in
theorem bysub_false_false (m n k : Nat) (u : Bool) (H : ∀ w, Calls Tryz.prog 69 #[zV false m, natV n] w fun e w' => e = .returned (zV u k) ∧ Below w.heap.size w w') (w : World) :
  Calls Tryz.prog 67 #[zV false m, zV false n, .func (.func 69) #[] #[], .func (.func 68) #[] #[]] w fun e w' => e = .returned (zV u k) ∧ Below w.heap.size w w' := by
 have hL0 : GL w w [] := GL.start w
 replace H := Lib.hid H
 replace hL0 := (((hL0.new rfl [.int .u64 ((lo m : Nat) : Int), .string (hs m), .bool false] 32).new (K := w.heap.size + 1) (szA _ _) [.int .u64 ((lo n : Nat) : Int), .string (hs n), .bool false] 32).new (K := w.heap.size + 1 + 1) (by simp only [World.size_alloc]) [.int .u64 0, .string ⟨#[]⟩, .bool false] 32)
 generalize hweq : (((w.alloc (.cells #[.int .u64 ((lo m : Nat) : Int), .string (hs m), .bool false] 32)).alloc (.cells #[.int .u64 ((lo n : Nat) : Int), .string (hs n), .bool false] 32)).alloc (.cells #[.int .u64 0, .string ⟨#[]⟩, .bool false] 32)) = x1 at hL0
 go_enter Tryz.func67, Tryz.ntmps67
 have hA := hL0.fc
 simp only [fcG, cellsF, neK, and_true, ne_eq, Nat.zero_add, Nat.reduceAdd] at hA
 go_wp2_with fail
 clear hA
 with_reducible refine Calls.mono (H.out _) ?_
 rintro e x2 ⟨rfl, hb⟩
 replace hL0 := hL0.call hb
 clear hb hweq
 have hA := hL0.fc
 simp only [fcG, cellsF, neK, and_true, ne_eq, Nat.zero_add, Nat.reduceAdd] at hA
 have hP := hL0.put 0 (w.heap.size + 1 + 1) _ rfl [.int .u64 ((lo k : Nat) : Int), .string (hs k), .bool u] rfl
 simp only [setAll, List.set_cons_zero, List.set_cons_succ] at hP
 generalize hput1 : (((x2.setCell ⟨w.heap.size + 1 + 1, 0, none⟩ (.int .u64 ((lo k : Nat) : Int))).setCell ⟨w.heap.size + 1 + 1, 1, none⟩ (.string (hs k))).setCell ⟨w.heap.size + 1 + 1, 2, none⟩ (.bool u)) = x3 at hP
 have hB1 := hP.fc
 simp only [fcG, cellsF, neK, and_true, ne_eq, Nat.zero_add, Nat.reduceAdd] at hB1
 replace hL0 := hP
 go_wp2_with fail
 exact bodyPost_ret (v := zV u k) (by simp [results, Tryz.results67, go_sem, hB1]) rfl ⟨rfl, hL0.bl⟩
set_option maxHeartbeats 4000000 in
set_option maxRecDepth 100000 in
theorem iadd (s t u : Bool) (m n k : Nat) (H : ∀ w, Calls Tryz.prog 67 #[zV s m, zV t n, .func (.func 68) #[] #[], .func (.func 69) #[] #[]] w fun e w' => e = .returned (zV u k) ∧ Below w.heap.size w w') (w : World) :
  Calls Tryz.prog 18 #[zV s m, zV t n] w fun e w' => e = .returned (zV u k) ∧ Below w.heap.size w w' := by
 have hL0 : GL w w [] := GL.start w
 replace H := Lib.hid H
 replace hL0 := (((hL0.new rfl [.int .u64 ((lo m : Nat) : Int), .string (hs m), .bool s] 32).new (K := w.heap.size + 1) (szA _ _) [.int .u64 ((lo n : Nat) : Int), .string (hs n), .bool t] 32).new (K := w.heap.size + 1 + 1) (by simp only [World.size_alloc]) [.int .u64 0, .string ⟨#[]⟩, .bool false] 32)
 generalize hweq : (((w.alloc (.cells #[.int .u64 ((lo m : Nat) : Int), .string (hs m), .bool s] 32)).alloc (.cells #[.int .u64 ((lo n : Nat) : Int), .string (hs n), .bool t] 32)).alloc (.cells #[.int .u64 0, .string ⟨#[]⟩, .bool false] 32)) = x1 at hL0
 go_enter Tryz.func18, Tryz.ntmps18
 have hA := hL0.fc
 simp only [fcG, cellsF, neK, and_true, ne_eq, Nat.zero_add, Nat.reduceAdd] at hA
 go_wp2_with fail
 clear hA
 with_reducible refine Calls.mono (H.out _) ?_
 rintro e x2 ⟨rfl, hb⟩
 replace hL0 := hL0.call hb
 clear hb hweq
 have hA := hL0.fc
 simp only [fcG, cellsF, neK, and_true, ne_eq, Nat.zero_add, Nat.reduceAdd] at hA
 have hP := hL0.put 0 (w.heap.size + 1 + 1) _ rfl [.int .u64 ((lo k : Nat) : Int), .string (hs k), .bool u] rfl
 simp only [setAll, List.set_cons_zero, List.set_cons_succ] at hP
 generalize hput1 : (((x2.setCell ⟨w.heap.size + 1 + 1, 0, none⟩ (.int .u64 ((lo k : Nat) : Int))).setCell ⟨w.heap.size + 1 + 1, 1, none⟩ (.string (hs k))).setCell ⟨w.heap.size + 1 + 1, 2, none⟩ (.bool u)) = x3 at hP
 have hB1 := hP.fc
 simp only [fcG, cellsF, neK, and_true, ne_eq, Nat.zero_add, Nat.reduceAdd] at hB1
 replace hL0 := hP
 go_wp2_with fail
 exact bodyPost_ret (v := zV u k) (by simp [results, Tryz.results18, go_sem, hB1]) rfl ⟨rfl, hL0.bl⟩
set_option maxHeartbeats 4000000 in
set_option maxRecDepth 100000 in
theorem isub (s t u : Bool) (m n k : Nat) (H : ∀ w, Calls Tryz.prog 67 #[zV s m, zV t n, .func (.func 69) #[] #[], .func (.func 68) #[] #[]] w fun e w' => e = .returned (zV u k) ∧ Below w.heap.size w w') (w : World) :
  Calls Tryz.prog 146 #[zV s m, zV t n] w fun e w' => e = .returned (zV u k) ∧ Below w.heap.size w w' := by
 have hL0 : GL w w [] := GL.start w
 replace H := Lib.hid H
 replace hL0 := (((hL0.new rfl [.int .u64 ((lo m : Nat) : Int), .string (hs m), .bool s] 32).new (K := w.heap.size + 1) (szA _ _) [.int .u64 ((lo n : Nat) : Int), .string (hs n), .bool t] 32).new (K := w.heap.size + 1 + 1) (by simp only [World.size_alloc]) [.int .u64 0, .string ⟨#[]⟩, .bool false] 32)
 generalize hweq : (((w.alloc (.cells #[.int .u64 ((lo m : Nat) : Int), .string (hs m), .bool s] 32)).alloc (.cells #[.int .u64 ((lo n : Nat) : Int), .string (hs n), .bool t] 32)).alloc (.cells #[.int .u64 0, .string ⟨#[]⟩, .bool false] 32)) = x1 at hL0
 go_enter Tryz.func146, Tryz.ntmps146
 have hA := hL0.fc
 simp only [fcG, cellsF, neK, and_true, ne_eq, Nat.zero_add, Nat.reduceAdd] at hA
 go_wp2_with fail
 clear hA
 with_reducible refine Calls.mono (H.out _) ?_
 rintro e x2 ⟨rfl, hb⟩
 replace hL0 := hL0.call hb
 clear hb hweq
 have hA := hL0.fc
 simp only [fcG, cellsF, neK, and_true, ne_eq, Nat.zero_add, Nat.reduceAdd] at hA
 have hP := hL0.put 0 (w.heap.size + 1 + 1) _ rfl [.int .u64 ((lo k : Nat) : Int), .string (hs k), .bool u] rfl
 simp only [setAll, List.set_cons_zero, List.set_cons_succ] at hP
 generalize hput1 : (((x2.setCell ⟨w.heap.size + 1 + 1, 0, none⟩ (.int .u64 ((lo k : Nat) : Int))).setCell ⟨w.heap.size + 1 + 1, 1, none⟩ (.string (hs k))).setCell ⟨w.heap.size + 1 + 1, 2, none⟩ (.bool u)) = x3 at hP
 have hB1 := hP.fc
 simp only [fcG, cellsF, neK, and_true, ne_eq, Nat.zero_add, Nat.reduceAdd] at hB1
 replace hL0 := hP
 go_wp2_with fail
 exact bodyPost_ret (v := zV u k) (by simp [results, Tryz.results146, go_sem, hB1]) rfl ⟨rfl, hL0.bl⟩
end Go.Proofs.YtaimebjkidegiaaGreatDoor
namespace Go.Proofs.YtaimebjkidegiaaGreatDoor
open Go.RowKit
attribute [local irreducible] lo hs sm s64 c64 d64 b64 mh ml pd pc qd qc val hiB str cmpI srD lz nb isq
set_option maxHeartbeats 4000000 in
set_option maxRecDepth 100000 in
theorem idiv0_true (m : Nat) (w : World) :
  Calls Tryz.prog 21 #[zV true m, zV false 0] w fun e w' => e = .returned (.tuple #[zV false 0, zV false 0, .bool false]) ∧ Below w.heap.size w w' := by
 have hL0 : GL w w [] := GL.start w
 have HD := Lib.hid (fun w => div_zero m w)
 rw [show zV false 0 = .agg #[.int .u64 ((lo 0 : Nat) : Int), .string (hs 0), .bool false] from rfl]
 replace hL0 := ((((hL0.new rfl [.int .u64 ((lo m : Nat) : Int), .string (hs m), .bool true] 32).new (K := w.heap.size + 1) (szA _ _) [.int .u64 ((lo 0 : Nat) : Int), .string (hs 0), .bool false] 32).new (K := w.heap.size + 1 + 1) (by simp only [World.size_alloc]) [.int .u64 0, .string ⟨#[]⟩, .bool false] 32).new (K := w.heap.size + 1 + 1 + 1) (by simp only [World.size_alloc]) [.int .u64 0, .string ⟨#[]⟩, .bool false] 32)
 generalize hweq : ((((w.alloc (.cells #[.int .u64 ((lo m : Nat) : Int), .string (hs m), .bool true] 32)).alloc (.cells #[.int .u64 ((lo 0 : Nat) : Int), .string (hs 0), .bool false] 32)).alloc (.cells #[.int .u64 0, .string ⟨#[]⟩, .bool false] 32)).alloc (.cells #[.int .u64 0, .string ⟨#[]⟩, .bool false] 32)) = x1 at hL0
 go_enter Tryz.func21, Tryz.ntmps21
 have hA := hL0.fc
 simp only [fcG, cellsF, neK, and_true, ne_eq, Nat.zero_add, Nat.reduceAdd] at hA
 go_wp2_with fail
 clear hA
 with_reducible refine Calls.mono (HD.out _) ?_
 rintro e x2 ⟨rfl, hb⟩
 replace hL0 := hL0.call hb
 clear hb hweq
 replace hL0 := ((hL0.new rfl [.int .u64 ((lo 0 : Nat) : Int), .string (hs 0)] 30).new (K := x2.heap.size + 1) (szA _ _) [.int .u64 ((lo 0 : Nat) : Int), .string (hs 0)] 30)
 generalize hweq : ((x2.alloc (.cells #[.int .u64 ((lo 0 : Nat) : Int), .string (hs 0)] 30)).alloc (.cells #[.int .u64 ((lo 0 : Nat) : Int), .string (hs 0)] 30)) = x3 at hL0
 have hA := hL0.fc
 simp only [fcG, cellsF, neK, and_true, ne_eq, Nat.zero_add, Nat.reduceAdd] at hA
 have hP := hL0.put 3 (w.heap.size + 1 + 1) _ rfl [.int .u64 0, .string ⟨#[]⟩, .bool false] rfl
 simp only [setAll, List.set_cons_zero, List.set_cons_succ] at hP
 generalize hput1 : (((x3.setCell ⟨w.heap.size + 1 + 1, 0, none⟩ (.int .u64 0)).setCell ⟨w.heap.size + 1 + 1, 1, none⟩ (.string ⟨#[]⟩)).setCell ⟨w.heap.size + 1 + 1, 2, none⟩ (.bool false)) = x4 at hP
 have hB1 := hP.fc
 simp only [fcG, cellsF, neK, and_true, ne_eq, Nat.zero_add, Nat.reduceAdd] at hB1
 replace hL0 := hP
 have hP := hL0.put 2 (w.heap.size + 1 + 1 + 1) _ rfl [.int .u64 0, .string ⟨#[]⟩, .bool false] rfl
 simp only [setAll, List.set_cons_zero, List.set_cons_succ] at hP
 generalize hput2 : (((x4.setCell ⟨w.heap.size + 1 + 1 + 1, 0, none⟩ (.int .u64 0)).setCell ⟨w.heap.size + 1 + 1 + 1, 1, none⟩ (.string ⟨#[]⟩)).setCell ⟨w.heap.size + 1 + 1 + 1, 2, none⟩ (.bool false)) = x5 at hP
 have hB2 := hP.fc
 simp only [fcG, cellsF, neK, and_true, ne_eq, Nat.zero_add, Nat.reduceAdd] at hB2
 replace hL0 := hP
 go_wp2_with fail
 exact bodyPost_ret (v := .tuple #[zV false 0, zV false 0, .bool false]) (by rw [zV_zero]; simp [results, Tryz.results21, go_sem, hB2]) rfl ⟨rfl, hL0.bl⟩
set_option maxHeartbeats 4000000 in
set_option maxRecDepth 100000 in
theorem idiv0_false (m : Nat) (w : World) :
  Calls Tryz.prog 21 #[zV false m, zV false 0] w fun e w' => e = .returned (.tuple #[zV false 0, zV false 0, .bool false]) ∧ Below w.heap.size w w' := by
 have hL0 : GL w w [] := GL.start w
 have HD := Lib.hid (fun w => div_zero m w)
 rw [show zV false 0 = .agg #[.int .u64 ((lo 0 : Nat) : Int), .string (hs 0), .bool false] from rfl]
 replace hL0 := ((((hL0.new rfl [.int .u64 ((lo m : Nat) : Int), .string (hs m), .bool false] 32).new (K := w.heap.size + 1) (szA _ _) [.int .u64 ((lo 0 : Nat) : Int), .string (hs 0), .bool false] 32).new (K := w.heap.size + 1 + 1) (by simp only [World.size_alloc]) [.int .u64 0, .string ⟨#[]⟩, .bool false] 32).new (K := w.heap.size + 1 + 1 + 1) (by simp only [World.size_alloc]) [.int .u64 0, .string ⟨#[]⟩, .bool false] 32)
 generalize hweq : ((((w.alloc (.cells #[.int .u64 ((lo m : Nat) : Int), .string (hs m), .bool false] 32)).alloc (.cells #[.int .u64 ((lo 0 : Nat) : Int), .string (hs 0), .bool false] 32)).alloc (.cells #[.int .u64 0, .string ⟨#[]⟩, .bool false] 32)).alloc (.cells #[.int .u64 0, .string ⟨#[]⟩, .bool false] 32)) = x1 at hL0
 go_enter Tryz.func21, Tryz.ntmps21
 have hA := hL0.fc
 simp only [fcG, cellsF, neK, and_true, ne_eq, Nat.zero_add, Nat.reduceAdd] at hA
 go_wp2_with fail
 clear hA
 with_reducible refine Calls.mono (HD.out _) ?_
 rintro e x2 ⟨rfl, hb⟩
 replace hL0 := hL0.call hb
 clear hb hweq
 replace hL0 := ((hL0.new rfl [.int .u64 ((lo 0 : Nat) : Int), .string (hs 0)] 30).new (K := x2.heap.size + 1) (szA _ _) [.int .u64 ((lo 0 : Nat) : Int), .string (hs 0)] 30)
 generalize hweq : ((x2.alloc (.cells #[.int .u64 ((lo 0 : Nat) : Int), .string (hs 0)] 30)).alloc (.cells #[.int .u64 ((lo 0 : Nat) : Int), .string (hs 0)] 30)) = x3 at hL0
 have hA := hL0.fc
 simp only [fcG, cellsF, neK, and_true, ne_eq, Nat.zero_add, Nat.reduceAdd] at hA
 have hP := hL0.put 3 (w.heap.size + 1 + 1) _ rfl [.int .u64 0, .string ⟨#[]⟩, .bool false] rfl
 simp only [setAll, List.set_cons_zero, List.set_cons_succ] at hP
 generalize hput1 : (((x3.setCell ⟨w.heap.size + 1 + 1, 0, none⟩ (.int .u64 0)).setCell ⟨w.heap.size + 1 + 1, 1, none⟩ (.string ⟨#[]⟩)).setCell ⟨w.heap.size + 1 + 1, 2, none⟩ (.bool false)) = x4 at hP
 have hB1 := hP.fc
 simp only [fcG, cellsF, neK, and_true, ne_eq, Nat.zero_add, Nat.reduceAdd] at hB1
 replace hL0 := hP
 have hP := hL0.put 2 (w.heap.size + 1 + 1 + 1) _ rfl [.int .u64 0, .string ⟨#[]⟩, .bool false] rfl
 simp only [setAll, List.set_cons_zero, List.set_cons_succ] at hP
 generalize hput2 : (((x4.setCell ⟨w.heap.size + 1 + 1 + 1, 0, none⟩ (.int .u64 0)).setCell ⟨w.heap.size + 1 + 1 + 1, 1, none⟩ (.string ⟨#[]⟩)).setCell ⟨w.heap.size + 1 + 1 + 1, 2, none⟩ (.bool false)) = x5 at hP
 have hB2 := hP.fc
 simp only [fcG, cellsF, neK, and_true, ne_eq, Nat.zero_add, Nat.reduceAdd] at hB2
 replace hL0 := hP
 go_wp2_with fail
 exact bodyPost_ret (v := .tuple #[zV false 0, zV false 0, .bool false]) (by rw [zV_zero]; simp [results, Tryz.results21, go_sem, hB2]) rfl ⟨rfl, hL0.bl⟩
set_option maxHeartbeats 4000000 in
set_option maxRecDepth 100000 in
theorem idiv_true_true_1 (m n : Nat) (h0 : n ≠ 0) (hr : m % n = 0) (hm : (digs m).length ≤ 1000000000) (hn : (digs n).length ≤ 1000000000) (w : World) :
  Calls Tryz.prog 21 #[zV true m, zV true n] w fun e w' => e = .returned (.tuple #[zV false (m / n), zV false (0), .bool true]) ∧ Below w.heap.size w w' := by
 have hL0 : GL w w [] := GL.start w
 have HD := Lib.hid (fun w => div_pos m n (by omega) (by omega) w)
 have hlq : (digs (m / n)).length ≤ 1000000000 := Nat.le_trans (digs_mono (Nat.div_le_self m n)) hm
 have hrn : m % n < n := Nat.mod_lt _ (by omega)
 generalize m / n = q at *
 rw [hr] at HD
 clear hr hrn
 have e0 : (((lo 0 : Nat) : Int) == 0) = true := by rw [lo_small Bs_pos]; rfl
 have e1 : ((hs 0).toList == []) = true := by rw [hs_small Bs_pos, ByteArray.toList_eq]; rfl
 have HF := Lib.hid (fun w => from_any false q w)
 simp only [Bool.false_and] at HF
 have HG := Lib.hid (fun w => from_pos 0 w)
 clear hm hn h0 hlq
 replace hL0 := ((((hL0.new rfl [.int .u64 ((lo m : Nat) : Int), .string (hs m), .bool true] 32).new (K := w.heap.size + 1) (szA _ _) [.int .u64 ((lo n : Nat) : Int), .string (hs n), .bool true] 32).new (K := w.heap.size + 1 + 1) (by simp only [World.size_alloc]) [.int .u64 0, .string ⟨#[]⟩, .bool false] 32).new (K := w.heap.size + 1 + 1 + 1) (by simp only [World.size_alloc]) [.int .u64 0, .string ⟨#[]⟩, .bool false] 32)
 generalize hweq : ((((w.alloc (.cells #[.int .u64 ((lo m : Nat) : Int), .string (hs m), .bool true] 32)).alloc (.cells #[.int .u64 ((lo n : Nat) : Int), .string (hs n), .bool true] 32)).alloc (.cells #[.int .u64 0, .string ⟨#[]⟩, .bool false] 32)).alloc (.cells #[.int .u64 0, .string ⟨#[]⟩, .bool false] 32)) = x1 at hL0
 go_enter Tryz.func21, Tryz.ntmps21
 have hA := hL0.fc
 simp only [fcG, cellsF, neK, and_true, ne_eq, Nat.zero_add, Nat.reduceAdd] at hA
 go_wp2_with fail
 clear hA
 with_reducible refine Calls.mono (HD.out _) ?_
 rintro e x2 ⟨rfl, hb⟩
 replace hL0 := hL0.call hb
 clear hb hweq
 replace hL0 := ((hL0.new rfl [.int .u64 ((lo q : Nat) : Int), .string (hs q)] 30).new (K := x2.heap.size + 1) (szA _ _) [.int .u64 ((lo 0 : Nat) : Int), .string (hs 0)] 30)
 generalize hweq : ((x2.alloc (.cells #[.int .u64 ((lo q : Nat) : Int), .string (hs q)] 30)).alloc (.cells #[.int .u64 ((lo 0 : Nat) : Int), .string (hs 0)] 30)) = x3 at hL0
 have hA := hL0.fc
 simp only [fcG, cellsF, neK, and_true, ne_eq, Nat.zero_add, Nat.reduceAdd] at hA
 go_upto_region 7 with fail
 clear hA
 clear hweq
 obtain ⟨α, iα, F, hF1, hF2⟩ := cls x3
 have hq := GL.fcC hF1 hL0
 simp only [fcC, cellsC, and_true, Nat.zero_add, Nat.reduceAdd] at hq
 refine region_qs 9 (C := fun w' => ∃ x, w' = F x) (by kernel_rfl) (by kernel_rfl) (cls_drew hF2) ?_
 simp only [List.take_succ_cons, List.take_zero, List.drop_succ_cons, List.drop_zero, List.take_nil, List.drop_nil]
 repeat (go_big_quiet_step (first | fail | (go_at_call 19; with_reducible exact cls_call hF1 hF2 HF.out _) | (go_at_call 19; with_reducible exact cls_call hF1 hF2 HG.out _)))
 refine wpQuiet_nil ?_
 rintro wq ⟨xq, rfl⟩
 replace hL0 := hL0.call (hF1 xq)
 clear hq hF2
 generalize F xq = x4 at hL0 ⊢
 clear hF1 xq iα F α
 have hA := hL0.fc
 simp only [fcG, cellsF, neK, and_true, ne_eq, Nat.zero_add, Nat.reduceAdd] at hA
 have hP := hL0.put 3 (w.heap.size + 1 + 1) _ rfl [.int .u64 ((lo q : Nat) : Int), .string (hs q), .bool false] rfl
 simp only [setAll, List.set_cons_zero, List.set_cons_succ] at hP
 generalize hput1 : (((x4.setCell ⟨w.heap.size + 1 + 1, 0, none⟩ (.int .u64 ((lo q : Nat) : Int))).setCell ⟨w.heap.size + 1 + 1, 1, none⟩ (.string (hs q))).setCell ⟨w.heap.size + 1 + 1, 2, none⟩ (.bool false)) = x5 at hP
 have hB1 := hP.fc
 simp only [fcG, cellsF, neK, and_true, ne_eq, Nat.zero_add, Nat.reduceAdd] at hB1
 replace hL0 := hP
 have hP := hL0.put 2 (w.heap.size + 1 + 1 + 1) _ rfl [.int .u64 ((lo 0 : Nat) : Int), .string (hs 0), .bool false] rfl
 simp only [setAll, List.set_cons_zero, List.set_cons_succ] at hP
 generalize hput2 : (((x5.setCell ⟨w.heap.size + 1 + 1 + 1, 0, none⟩ (.int .u64 ((lo 0 : Nat) : Int))).setCell ⟨w.heap.size + 1 + 1 + 1, 1, none⟩ (.string (hs 0))).setCell ⟨w.heap.size + 1 + 1 + 1, 2, none⟩ (.bool false)) = x6 at hP
 have hB2 := hP.fc
 simp only [fcG, cellsF, neK, and_true, ne_eq, Nat.zero_add, Nat.reduceAdd] at hB2
 replace hL0 := hP
 go_wp2_with fail
 exact bodyPost_ret (v := .tuple #[zV false q, zV false 0, .bool true]) (by simp [results, Tryz.results21, go_sem, hB2]) rfl ⟨rfl, hL0.bl⟩
set_option maxHeartbeats 4000000 in
set_option maxRecDepth 100000 in
theorem idiv_true_true_2 (m n : Nat) (h0 : n ≠ 0) (hr : m % n ≠ 0) (hm : (digs m).length ≤ 1000000000) (hn : (digs n).length ≤ 1000000000) (w : World) :
  Calls Tryz.prog 21 #[zV true m, zV true n] w fun e w' => e = .returned (.tuple #[zV false (m / n + 1), zV false (n - m % n), .bool true]) ∧ Below w.heap.size w w' := by
 have hL0 : GL w w [] := GL.start w
 have HD := Lib.hid (fun w => div_pos m n (by omega) (by omega) w)
 have hlq : (digs (m / n)).length ≤ 1000000000 := Nat.le_trans (digs_mono (Nat.div_le_self m n)) hm
 have hrn : m % n < n := Nat.mod_lt _ (by omega)
 generalize m / n = q at *
 generalize m % n = r at *
 have HO := Lib.hid (fun w => of_val 1 1 rfl (by unfold Bs; omega) w)
 have HA := Lib.hid (fun w => add_any q 1 (by omega) (Nat.le_trans (digs_length_iff (k := 1).2 (by unfold Bs; decide)) (by omega)) w)
 have HS := Lib.hid (fun w => sub_ge n r (by omega) (by omega) w)
 generalize q + 1 = q1 at *
 generalize n - r = r1 at *
 have HF := Lib.hid (fun w => from_any false q1 w)
 simp only [Bool.false_and] at HF
 have HG := Lib.hid (fun w => from_pos r1 w)
 rcases ne0 hr with e0 | ⟨e0, e1⟩
 all_goals clear hm hn h0 hlq hrn hr
 all_goals (
  replace hL0 := ((((hL0.new rfl [.int .u64 ((lo m : Nat) : Int), .string (hs m), .bool true] 32).new (K := w.heap.size + 1) (szA _ _) [.int .u64 ((lo n : Nat) : Int), .string (hs n), .bool true] 32).new (K := w.heap.size + 1 + 1) (by simp only [World.size_alloc]) [.int .u64 0, .string ⟨#[]⟩, .bool false] 32).new (K := w.heap.size + 1 + 1 + 1) (by simp only [World.size_alloc]) [.int .u64 0, .string ⟨#[]⟩, .bool false] 32)
  generalize hweq : ((((w.alloc (.cells #[.int .u64 ((lo m : Nat) : Int), .string (hs m), .bool true] 32)).alloc (.cells #[.int .u64 ((lo n : Nat) : Int), .string (hs n), .bool true] 32)).alloc (.cells #[.int .u64 0, .string ⟨#[]⟩, .bool false] 32)).alloc (.cells #[.int .u64 0, .string ⟨#[]⟩, .bool false] 32)) = x1 at hL0
  go_enter Tryz.func21, Tryz.ntmps21
  have hA := hL0.fc
  simp only [fcG, cellsF, neK, and_true, ne_eq, Nat.zero_add, Nat.reduceAdd] at hA
  go_wp2_with fail
  clear hA
  with_reducible refine Calls.mono (HD.out _) ?_
  rintro e x2 ⟨rfl, hb⟩
  replace hL0 := hL0.call hb
  clear hb hweq
  replace hL0 := ((hL0.new rfl [.int .u64 ((lo q : Nat) : Int), .string (hs q)] 30).new (K := x2.heap.size + 1) (szA _ _) [.int .u64 ((lo r : Nat) : Int), .string (hs r)] 30)
  generalize hweq : ((x2.alloc (.cells #[.int .u64 ((lo q : Nat) : Int), .string (hs q)] 30)).alloc (.cells #[.int .u64 ((lo r : Nat) : Int), .string (hs r)] 30)) = x3 at hL0
  have hA := hL0.fc
  simp only [fcG, cellsF, neK, and_true, ne_eq, Nat.zero_add, Nat.reduceAdd] at hA
  go_upto_region 5 with fail
  clear hA
  clear hweq
  obtain ⟨α, iα, F, hF1, hF2⟩ := cls x3
  have hq := GL.fcC hF1 hL0
  simp only [fcC, cellsC, and_true, Nat.zero_add, Nat.reduceAdd] at hq
  refine region_qs 3 (C := fun w' => ∃ x, w' = F x) (by kernel_rfl) (by kernel_rfl) (cls_drew hF2) ?_
  simp only [List.take_succ_cons, List.take_zero, List.drop_succ_cons, List.drop_zero, List.take_nil, List.drop_nil]
  repeat (go_big_quiet_step (first | fail | (go_at_call 17; with_reducible exact cls_call hF1 hF2 HO.out _) | (go_at_call 71; with_reducible exact cls_call hF1 hF2 HA.out _)))
  refine wpQuiet_nil ?_
  rintro wq ⟨xq, rfl⟩
  replace hL0 := hL0.call (hF1 xq)
  clear hq hF2
  generalize F xq = x4 at hL0 ⊢
  clear hF1 xq iα F α
  have hA := hL0.fc
  simp only [fcG, cellsF, neK, and_true, ne_eq, Nat.zero_add, Nat.reduceAdd] at hA
  have hP := hL0.put 1 (x2.heap.size) _ rfl [.int .u64 ((lo q1 : Nat) : Int), .string (hs q1)] rfl
  simp only [setAll, List.set_cons_zero, List.set_cons_succ] at hP
  generalize hput1 : ((x4.setCell ⟨x2.heap.size, 0, none⟩ (.int .u64 ((lo q1 : Nat) : Int))).setCell ⟨x2.heap.size, 1, none⟩ (.string (hs q1))) = x5 at hP
  have hB1 := hP.fc
  simp only [fcG, cellsF, neK, and_true, ne_eq, Nat.zero_add, Nat.reduceAdd] at hB1
  replace hL0 := hP
  go_wp2_with fail
  clear hA
  with_reducible refine Calls.mono (HS.out _) ?_
  rintro e x6 ⟨rfl, hb⟩
  replace hL0 := hL0.call hb
  clear hb hput1 hB1
  have hA := hL0.fc
  simp only [fcG, cellsF, neK, and_true, ne_eq, Nat.zero_add, Nat.reduceAdd] at hA
  have hP := hL0.put 0 (x2.heap.size + 1) _ rfl [.int .u64 ((lo r1 : Nat) : Int), .string (hs r1)] rfl
  simp only [setAll, List.set_cons_zero, List.set_cons_succ] at hP
  generalize hput2 : ((x6.setCell ⟨x2.heap.size + 1, 0, none⟩ (.int .u64 ((lo r1 : Nat) : Int))).setCell ⟨x2.heap.size + 1, 1, none⟩ (.string (hs r1))) = x7 at hP
  have hB2 := hP.fc
  simp only [fcG, cellsF, neK, and_true, ne_eq, Nat.zero_add, Nat.reduceAdd] at hB2
  replace hL0 := hP
  go_upto_region 7 with fail
  clear hA
  clear hput2 hB2
  obtain ⟨α, iα, F, hF1, hF2⟩ := cls x7
  have hq := GL.fcC hF1 hL0
  simp only [fcC, cellsC, and_true, Nat.zero_add, Nat.reduceAdd] at hq
  refine region_qs 9 (C := fun w' => ∃ x, w' = F x) (by kernel_rfl) (by kernel_rfl) (cls_drew hF2) ?_
  simp only [List.take_succ_cons, List.take_zero, List.drop_succ_cons, List.drop_zero, List.take_nil, List.drop_nil]
  repeat (go_big_quiet_step (first | fail | (go_at_call 19; with_reducible exact cls_call hF1 hF2 HF.out _) | (go_at_call 19; with_reducible exact cls_call hF1 hF2 HG.out _)))
  refine wpQuiet_nil ?_
  rintro wq ⟨xq, rfl⟩
  replace hL0 := hL0.call (hF1 xq)
  clear hq hF2
  generalize F xq = x8 at hL0 ⊢
  clear hF1 xq iα F α
  have hA := hL0.fc
  simp only [fcG, cellsF, neK, and_true, ne_eq, Nat.zero_add, Nat.reduceAdd] at hA
  have hP := hL0.put 3 (w.heap.size + 1 + 1) _ rfl [.int .u64 ((lo q1 : Nat) : Int), .string (hs q1), .bool false] rfl
  simp only [setAll, List.set_cons_zero, List.set_cons_succ] at hP
  generalize hput3 : (((x8.setCell ⟨w.heap.size + 1 + 1, 0, none⟩ (.int .u64 ((lo q1 : Nat) : Int))).setCell ⟨w.heap.size + 1 + 1, 1, none⟩ (.string (hs q1))).setCell ⟨w.heap.size + 1 + 1, 2, none⟩ (.bool false)) = x9 at hP
  have hB3 := hP.fc
  simp only [fcG, cellsF, neK, and_true, ne_eq, Nat.zero_add, Nat.reduceAdd] at hB3
  replace hL0 := hP
  have hP := hL0.put 2 (w.heap.size + 1 + 1 + 1) _ rfl [.int .u64 ((lo r1 : Nat) : Int), .string (hs r1), .bool false] rfl
  simp only [setAll, List.set_cons_zero, List.set_cons_succ] at hP
  generalize hput4 : (((x9.setCell ⟨w.heap.size + 1 + 1 + 1, 0, none⟩ (.int .u64 ((lo r1 : Nat) : Int))).setCell ⟨w.heap.size + 1 + 1 + 1, 1, none⟩ (.string (hs r1))).setCell ⟨w.heap.size + 1 + 1 + 1, 2, none⟩ (.bool false)) = x10 at hP
  have hB4 := hP.fc
  simp only [fcG, cellsF, neK, and_true, ne_eq, Nat.zero_add, Nat.reduceAdd] at hB4
  replace hL0 := hP
  go_wp2_with fail
  exact bodyPost_ret (v := .tuple #[zV false q1, zV false r1, .bool true]) (by simp [results, Tryz.results21, go_sem, hB4]) rfl ⟨rfl, hL0.bl⟩)
set_option maxHeartbeats 4000000 in
set_option maxRecDepth 100000 in
theorem idiv_true_false_1 (m n : Nat) (h0 : n ≠ 0) (hr : m % n = 0) (hm : (digs m).length ≤ 1000000000) (hn : (digs n).length ≤ 1000000000) (w : World) :
  Calls Tryz.prog 21 #[zV true m, zV false n] w fun e w' => e = .returned (.tuple #[zV (decide (m / n ≠ 0)) (m / n), zV false (0), .bool true]) ∧ Below w.heap.size w w' := by
 have hL0 : GL w w [] := GL.start w
 have HD := Lib.hid (fun w => div_pos m n (by omega) (by omega) w)
 have hlq : (digs (m / n)).length ≤ 1000000000 := Nat.le_trans (digs_mono (Nat.div_le_self m n)) hm
 have hrn : m % n < n := Nat.mod_lt _ (by omega)
 generalize m / n = q at *
 rw [hr] at HD
 clear hr hrn
 have e0 : (((lo 0 : Nat) : Int) == 0) = true := by rw [lo_small Bs_pos]; rfl
 have e1 : ((hs 0).toList == []) = true := by rw [hs_small Bs_pos, ByteArray.toList_eq]; rfl
 have HF := Lib.hid (fun w => from_any true q w)
 simp only [Bool.true_and] at HF
 obtain ⟨d, hd⟩ : ∃ d, d = decide (q ≠ 0) := ⟨_, rfl⟩
 rw [← hd] at HF ⊢
 clear hd
 have HG := Lib.hid (fun w => from_pos 0 w)
 clear hm hn h0 hlq
 replace hL0 := ((((hL0.new rfl [.int .u64 ((lo m : Nat) : Int), .string (hs m), .bool true] 32).new (K := w.heap.size + 1) (szA _ _) [.int .u64 ((lo n : Nat) : Int), .string (hs n), .bool false] 32).new (K := w.heap.size + 1 + 1) (by simp only [World.size_alloc]) [.int .u64 0, .string ⟨#[]⟩, .bool false] 32).new (K := w.heap.size + 1 + 1 + 1) (by simp only [World.size_alloc]) [.int .u64 0, .string ⟨#[]⟩, .bool false] 32)
 generalize hweq : ((((w.alloc (.cells #[.int .u64 ((lo m : Nat) : Int), .string (hs m), .bool true] 32)).alloc (.cells #[.int .u64 ((lo n : Nat) : Int), .string (hs n), .bool false] 32)).alloc (.cells #[.int .u64 0, .string ⟨#[]⟩, .bool false] 32)).alloc (.cells #[.int .u64 0, .string ⟨#[]⟩, .bool false] 32)) = x1 at hL0
 go_enter Tryz.func21, Tryz.ntmps21
 have hA := hL0.fc
 simp only [fcG, cellsF, neK, and_true, ne_eq, Nat.zero_add, Nat.reduceAdd] at hA
 go_wp2_with fail
 clear hA
 with_reducible refine Calls.mono (HD.out _) ?_
 rintro e x2 ⟨rfl, hb⟩
 replace hL0 := hL0.call hb
 clear hb hweq
 replace hL0 := ((hL0.new rfl [.int .u64 ((lo q : Nat) : Int), .string (hs q)] 30).new (K := x2.heap.size + 1) (szA _ _) [.int .u64 ((lo 0 : Nat) : Int), .string (hs 0)] 30)
 generalize hweq : ((x2.alloc (.cells #[.int .u64 ((lo q : Nat) : Int), .string (hs q)] 30)).alloc (.cells #[.int .u64 ((lo 0 : Nat) : Int), .string (hs 0)] 30)) = x3 at hL0
 have hA := hL0.fc
 simp only [fcG, cellsF, neK, and_true, ne_eq, Nat.zero_add, Nat.reduceAdd] at hA
 go_upto_region 7 with fail
 clear hA
 clear hweq
 obtain ⟨α, iα, F, hF1, hF2⟩ := cls x3
 have hq := GL.fcC hF1 hL0
 simp only [fcC, cellsC, and_true, Nat.zero_add, Nat.reduceAdd] at hq
 refine region_qs 9 (C := fun w' => ∃ x, w' = F x) (by kernel_rfl) (by kernel_rfl) (cls_drew hF2) ?_
 simp only [List.take_succ_cons, List.take_zero, List.drop_succ_cons, List.drop_zero, List.take_nil, List.drop_nil]
 repeat (go_big_quiet_step (first | fail | (go_at_call 19; with_reducible exact cls_call hF1 hF2 HF.out _) | (go_at_call 19; with_reducible exact cls_call hF1 hF2 HG.out _)))
 refine wpQuiet_nil ?_
 rintro wq ⟨xq, rfl⟩
 replace hL0 := hL0.call (hF1 xq)
 clear hq hF2
 generalize F xq = x4 at hL0 ⊢
 clear hF1 xq iα F α
 have hA := hL0.fc
 simp only [fcG, cellsF, neK, and_true, ne_eq, Nat.zero_add, Nat.reduceAdd] at hA
 have hP := hL0.put 3 (w.heap.size + 1 + 1) _ rfl [.int .u64 ((lo q : Nat) : Int), .string (hs q), .bool d] rfl
 simp only [setAll, List.set_cons_zero, List.set_cons_succ] at hP
 generalize hput1 : (((x4.setCell ⟨w.heap.size + 1 + 1, 0, none⟩ (.int .u64 ((lo q : Nat) : Int))).setCell ⟨w.heap.size + 1 + 1, 1, none⟩ (.string (hs q))).setCell ⟨w.heap.size + 1 + 1, 2, none⟩ (.bool d)) = x5 at hP
 have hB1 := hP.fc
 simp only [fcG, cellsF, neK, and_true, ne_eq, Nat.zero_add, Nat.reduceAdd] at hB1
 replace hL0 := hP
 have hP := hL0.put 2 (w.heap.size + 1 + 1 + 1) _ rfl [.int .u64 ((lo 0 : Nat) : Int), .string (hs 0), .bool false] rfl
 simp only [setAll, List.set_cons_zero, List.set_cons_succ] at hP
 generalize hput2 : (((x5.setCell ⟨w.heap.size + 1 + 1 + 1, 0, none⟩ (.int .u64 ((lo 0 : Nat) : Int))).setCell ⟨w.heap.size + 1 + 1 + 1, 1, none⟩ (.string (hs 0))).setCell ⟨w.heap.size + 1 + 1 + 1, 2, none⟩ (.bool false)) = x6 at hP
 have hB2 := hP.fc
 simp only [fcG, cellsF, neK, and_true, ne_eq, Nat.zero_add, Nat.reduceAdd] at hB2
 replace hL0 := hP
 go_wp2_with fail
 exact bodyPost_ret (v := .tuple #[zV d q, zV false 0, .bool true]) (by simp [results, Tryz.results21, go_sem, hB2]) rfl ⟨rfl, hL0.bl⟩
set_option maxHeartbeats 4000000 in
set_option maxRecDepth 100000 in
theorem idiv_true_false_2 (m n : Nat) (h0 : n ≠ 0) (hr : m % n ≠ 0) (hm : (digs m).length ≤ 1000000000) (hn : (digs n).length ≤ 1000000000) (w : World) :
  Calls Tryz.prog 21 #[zV true m, zV false n] w fun e w' => e = .returned (.tuple #[zV (decide (m / n + 1 ≠ 0)) (m / n + 1), zV false (n - m % n), .bool true]) ∧ Below w.heap.size w w' := by
 have hL0 : GL w w [] := GL.start w
 have HD := Lib.hid (fun w => div_pos m n (by omega) (by omega) w)
 have hlq : (digs (m / n)).length ≤ 1000000000 := Nat.le_trans (digs_mono (Nat.div_le_self m n)) hm
 have hrn : m % n < n := Nat.mod_lt _ (by omega)
 generalize m / n = q at *
 generalize m % n = r at *
 have HO := Lib.hid (fun w => of_val 1 1 rfl (by unfold Bs; omega) w)
 have HA := Lib.hid (fun w => add_any q 1 (by omega) (Nat.le_trans (digs_length_iff (k := 1).2 (by unfold Bs; decide)) (by omega)) w)
 have HS := Lib.hid (fun w => sub_ge n r (by omega) (by omega) w)
 generalize q + 1 = q1 at *
 generalize n - r = r1 at *
 have HF := Lib.hid (fun w => from_any true q1 w)
 simp only [Bool.true_and] at HF
 obtain ⟨d, hd⟩ : ∃ d, d = decide (q1 ≠ 0) := ⟨_, rfl⟩
 rw [← hd] at HF ⊢
 clear hd
 have HG := Lib.hid (fun w => from_pos r1 w)
 rcases ne0 hr with e0 | ⟨e0, e1⟩
 all_goals clear hm hn h0 hlq hrn hr
 all_goals (
  replace hL0 := ((((hL0.new rfl [.int .u64 ((lo m : Nat) : Int), .string (hs m), .bool true] 32).new (K := w.heap.size + 1) (szA _ _) [.int .u64 ((lo n : Nat) : Int), .string (hs n), .bool false] 32).new (K := w.heap.size + 1 + 1) (by simp only [World.size_alloc]) [.int .u64 0, .string ⟨#[]⟩, .bool false] 32).new (K := w.heap.size + 1 + 1 + 1) (by simp only [World.size_alloc]) [.int .u64 0, .string ⟨#[]⟩, .bool false] 32)
  generalize hweq : ((((w.alloc (.cells #[.int .u64 ((lo m : Nat) : Int), .string (hs m), .bool true] 32)).alloc (.cells #[.int .u64 ((lo n : Nat) : Int), .string (hs n), .bool false] 32)).alloc (.cells #[.int .u64 0, .string ⟨#[]⟩, .bool false] 32)).alloc (.cells #[.int .u64 0, .string ⟨#[]⟩, .bool false] 32)) = x1 at hL0
  go_enter Tryz.func21, Tryz.ntmps21
  have hA := hL0.fc
  simp only [fcG, cellsF, neK, and_true, ne_eq, Nat.zero_add, Nat.reduceAdd] at hA
  go_wp2_with fail
  clear hA
  with_reducible refine Calls.mono (HD.out _) ?_
  rintro e x2 ⟨rfl, hb⟩
  replace hL0 := hL0.call hb
  clear hb hweq
  replace hL0 := ((hL0.new rfl [.int .u64 ((lo q : Nat) : Int), .string (hs q)] 30).new (K := x2.heap.size + 1) (szA _ _) [.int .u64 ((lo r : Nat) : Int), .string (hs r)] 30)
  generalize hweq : ((x2.alloc (.cells #[.int .u64 ((lo q : Nat) : Int), .string (hs q)] 30)).alloc (.cells #[.int .u64 ((lo r : Nat) : Int), .string (hs r)] 30)) = x3 at hL0
  have hA := hL0.fc
  simp only [fcG, cellsF, neK, and_true, ne_eq, Nat.zero_add, Nat.reduceAdd] at hA
  go_upto_region 5 with fail
  clear hA
  clear hweq
  obtain ⟨α, iα, F, hF1, hF2⟩ := cls x3
  have hq := GL.fcC hF1 hL0
  simp only [fcC, cellsC, and_true, Nat.zero_add, Nat.reduceAdd] at hq
  refine region_qs 3 (C := fun w' => ∃ x, w' = F x) (by kernel_rfl) (by kernel_rfl) (cls_drew hF2) ?_
  simp only [List.take_succ_cons, List.take_zero, List.drop_succ_cons, List.drop_zero, List.take_nil, List.drop_nil]
  repeat (go_big_quiet_step (first | fail | (go_at_call 17; with_reducible exact cls_call hF1 hF2 HO.out _) | (go_at_call 71; with_reducible exact cls_call hF1 hF2 HA.out _)))
  refine wpQuiet_nil ?_
  rintro wq ⟨xq, rfl⟩
  replace hL0 := hL0.call (hF1 xq)
  clear hq hF2
  generalize F xq = x4 at hL0 ⊢
  clear hF1 xq iα F α
  have hA := hL0.fc
  simp only [fcG, cellsF, neK, and_true, ne_eq, Nat.zero_add, Nat.reduceAdd] at hA
  have hP := hL0.put 1 (x2.heap.size) _ rfl [.int .u64 ((lo q1 : Nat) : Int), .string (hs q1)] rfl
  simp only [setAll, List.set_cons_zero, List.set_cons_succ] at hP
  generalize hput1 : ((x4.setCell ⟨x2.heap.size, 0, none⟩ (.int .u64 ((lo q1 : Nat) : Int))).setCell ⟨x2.heap.size, 1, none⟩ (.string (hs q1))) = x5 at hP
  have hB1 := hP.fc
  simp only [fcG, cellsF, neK, and_true, ne_eq, Nat.zero_add, Nat.reduceAdd] at hB1
  replace hL0 := hP
  go_wp2_with fail
  clear hA
  with_reducible refine Calls.mono (HS.out _) ?_
  rintro e x6 ⟨rfl, hb⟩
  replace hL0 := hL0.call hb
  clear hb hput1 hB1
  have hA := hL0.fc
  simp only [fcG, cellsF, neK, and_true, ne_eq, Nat.zero_add, Nat.reduceAdd] at hA
  have hP := hL0.put 0 (x2.heap.size + 1) _ rfl [.int .u64 ((lo r1 : Nat) : Int), .string (hs r1)] rfl
  simp only [setAll, List.set_cons_zero, List.set_cons_succ] at hP
  generalize hput2 : ((x6.setCell ⟨x2.heap.size + 1, 0, none⟩ (.int .u64 ((lo r1 : Nat) : Int))).setCell ⟨x2.heap.size + 1, 1, none⟩ (.string (hs r1))) = x7 at hP
  have hB2 := hP.fc
  simp only [fcG, cellsF, neK, and_true, ne_eq, Nat.zero_add, Nat.reduceAdd] at hB2
  replace hL0 := hP
  go_upto_region 7 with fail
  clear hA
  clear hput2 hB2
  obtain ⟨α, iα, F, hF1, hF2⟩ := cls x7
  have hq := GL.fcC hF1 hL0
  simp only [fcC, cellsC, and_true, Nat.zero_add, Nat.reduceAdd] at hq
  refine region_qs 9 (C := fun w' => ∃ x, w' = F x) (by kernel_rfl) (by kernel_rfl) (cls_drew hF2) ?_
  simp only [List.take_succ_cons, List.take_zero, List.drop_succ_cons, List.drop_zero, List.take_nil, List.drop_nil]
  repeat (go_big_quiet_step (first | fail | (go_at_call 19; with_reducible exact cls_call hF1 hF2 HF.out _) | (go_at_call 19; with_reducible exact cls_call hF1 hF2 HG.out _)))
  refine wpQuiet_nil ?_
  rintro wq ⟨xq, rfl⟩
  replace hL0 := hL0.call (hF1 xq)
  clear hq hF2
  generalize F xq = x8 at hL0 ⊢
  clear hF1 xq iα F α
  have hA := hL0.fc
  simp only [fcG, cellsF, neK, and_true, ne_eq, Nat.zero_add, Nat.reduceAdd] at hA
  have hP := hL0.put 3 (w.heap.size + 1 + 1) _ rfl [.int .u64 ((lo q1 : Nat) : Int), .string (hs q1), .bool d] rfl
  simp only [setAll, List.set_cons_zero, List.set_cons_succ] at hP
  generalize hput3 : (((x8.setCell ⟨w.heap.size + 1 + 1, 0, none⟩ (.int .u64 ((lo q1 : Nat) : Int))).setCell ⟨w.heap.size + 1 + 1, 1, none⟩ (.string (hs q1))).setCell ⟨w.heap.size + 1 + 1, 2, none⟩ (.bool d)) = x9 at hP
  have hB3 := hP.fc
  simp only [fcG, cellsF, neK, and_true, ne_eq, Nat.zero_add, Nat.reduceAdd] at hB3
  replace hL0 := hP
  have hP := hL0.put 2 (w.heap.size + 1 + 1 + 1) _ rfl [.int .u64 ((lo r1 : Nat) : Int), .string (hs r1), .bool false] rfl
  simp only [setAll, List.set_cons_zero, List.set_cons_succ] at hP
  generalize hput4 : (((x9.setCell ⟨w.heap.size + 1 + 1 + 1, 0, none⟩ (.int .u64 ((lo r1 : Nat) : Int))).setCell ⟨w.heap.size + 1 + 1 + 1, 1, none⟩ (.string (hs r1))).setCell ⟨w.heap.size + 1 + 1 + 1, 2, none⟩ (.bool false)) = x10 at hP
  have hB4 := hP.fc
  simp only [fcG, cellsF, neK, and_true, ne_eq, Nat.zero_add, Nat.reduceAdd] at hB4
  replace hL0 := hP
  go_wp2_with fail
  exact bodyPost_ret (v := .tuple #[zV d q1, zV false r1, .bool true]) (by simp [results, Tryz.results21, go_sem, hB4]) rfl ⟨rfl, hL0.bl⟩)
set_option maxHeartbeats 4000000 in
set_option maxRecDepth 100000 in
theorem idiv_false_true (m n : Nat) (h0 : n ≠ 0) (hm : (digs m).length ≤ 1000000000) (hn : (digs n).length ≤ 1000000000) (w : World) :
  Calls Tryz.prog 21 #[zV false m, zV true n] w fun e w' => e = .returned (.tuple #[zV (decide (m / n ≠ 0)) (m / n), zV false (m % n), .bool true]) ∧ Below w.heap.size w w' := by
 have hL0 : GL w w [] := GL.start w
 have HD := Lib.hid (fun w => div_pos m n (by omega) (by omega) w)
 have hlq : (digs (m / n)).length ≤ 1000000000 := Nat.le_trans (digs_mono (Nat.div_le_self m n)) hm
 have hrn : m % n < n := Nat.mod_lt _ (by omega)
 generalize m / n = q at *
 generalize m % n = r at *
 have HF := Lib.hid (fun w => from_any true q w)
 simp only [Bool.true_and] at HF
 obtain ⟨d, hd⟩ : ∃ d, d = decide (q ≠ 0) := ⟨_, rfl⟩
 rw [← hd] at HF ⊢
 clear hd
 have HG := Lib.hid (fun w => from_pos r w)
 clear hm hn h0 hlq hrn
 replace hL0 := ((((hL0.new rfl [.int .u64 ((lo m : Nat) : Int), .string (hs m), .bool false] 32).new (K := w.heap.size + 1) (szA _ _) [.int .u64 ((lo n : Nat) : Int), .string (hs n), .bool true] 32).new (K := w.heap.size + 1 + 1) (by simp only [World.size_alloc]) [.int .u64 0, .string ⟨#[]⟩, .bool false] 32).new (K := w.heap.size + 1 + 1 + 1) (by simp only [World.size_alloc]) [.int .u64 0, .string ⟨#[]⟩, .bool false] 32)
 generalize hweq : ((((w.alloc (.cells #[.int .u64 ((lo m : Nat) : Int), .string (hs m), .bool false] 32)).alloc (.cells #[.int .u64 ((lo n : Nat) : Int), .string (hs n), .bool true] 32)).alloc (.cells #[.int .u64 0, .string ⟨#[]⟩, .bool false] 32)).alloc (.cells #[.int .u64 0, .string ⟨#[]⟩, .bool false] 32)) = x1 at hL0
 go_enter Tryz.func21, Tryz.ntmps21
 have hA := hL0.fc
 simp only [fcG, cellsF, neK, and_true, ne_eq, Nat.zero_add, Nat.reduceAdd] at hA
 go_wp2_with fail
 clear hA
 with_reducible refine Calls.mono (HD.out _) ?_
 rintro e x2 ⟨rfl, hb⟩
 replace hL0 := hL0.call hb
 clear hb hweq
 replace hL0 := ((hL0.new rfl [.int .u64 ((lo q : Nat) : Int), .string (hs q)] 30).new (K := x2.heap.size + 1) (szA _ _) [.int .u64 ((lo r : Nat) : Int), .string (hs r)] 30)
 generalize hweq : ((x2.alloc (.cells #[.int .u64 ((lo q : Nat) : Int), .string (hs q)] 30)).alloc (.cells #[.int .u64 ((lo r : Nat) : Int), .string (hs r)] 30)) = x3 at hL0
 have hA := hL0.fc
 simp only [fcG, cellsF, neK, and_true, ne_eq, Nat.zero_add, Nat.reduceAdd] at hA
 go_upto_region 7 with fail
 clear hA
 clear hweq
 obtain ⟨α, iα, F, hF1, hF2⟩ := cls x3
 have hq := GL.fcC hF1 hL0
 simp only [fcC, cellsC, and_true, Nat.zero_add, Nat.reduceAdd] at hq
 refine region_qs 9 (C := fun w' => ∃ x, w' = F x) (by kernel_rfl) (by kernel_rfl) (cls_drew hF2) ?_
 simp only [List.take_succ_cons, List.take_zero, List.drop_succ_cons, List.drop_zero, List.take_nil, List.drop_nil]
 repeat (go_big_quiet_step (first | fail | (go_at_call 19; with_reducible exact cls_call hF1 hF2 HF.out _) | (go_at_call 19; with_reducible exact cls_call hF1 hF2 HG.out _)))
 refine wpQuiet_nil ?_
 rintro wq ⟨xq, rfl⟩
 replace hL0 := hL0.call (hF1 xq)
 clear hq hF2
 generalize F xq = x4 at hL0 ⊢
 clear hF1 xq iα F α
 have hA := hL0.fc
 simp only [fcG, cellsF, neK, and_true, ne_eq, Nat.zero_add, Nat.reduceAdd] at hA
 have hP := hL0.put 3 (w.heap.size + 1 + 1) _ rfl [.int .u64 ((lo q : Nat) : Int), .string (hs q), .bool d] rfl
 simp only [setAll, List.set_cons_zero, List.set_cons_succ] at hP
 generalize hput1 : (((x4.setCell ⟨w.heap.size + 1 + 1, 0, none⟩ (.int .u64 ((lo q : Nat) : Int))).setCell ⟨w.heap.size + 1 + 1, 1, none⟩ (.string (hs q))).setCell ⟨w.heap.size + 1 + 1, 2, none⟩ (.bool d)) = x5 at hP
 have hB1 := hP.fc
 simp only [fcG, cellsF, neK, and_true, ne_eq, Nat.zero_add, Nat.reduceAdd] at hB1
 replace hL0 := hP
 have hP := hL0.put 2 (w.heap.size + 1 + 1 + 1) _ rfl [.int .u64 ((lo r : Nat) : Int), .string (hs r), .bool false] rfl
 simp only [setAll, List.set_cons_zero, List.set_cons_succ] at hP
 generalize hput2 : (((x5.setCell ⟨w.heap.size + 1 + 1 + 1, 0, none⟩ (.int .u64 ((lo r : Nat) : Int))).setCell ⟨w.heap.size + 1 + 1 + 1, 1, none⟩ (.string (hs r))).setCell ⟨w.heap.size + 1 + 1 + 1, 2, none⟩ (.bool false)) = x6 at hP
 have hB2 := hP.fc
 simp only [fcG, cellsF, neK, and_true, ne_eq, Nat.zero_add, Nat.reduceAdd] at hB2
 replace hL0 := hP
 go_wp2_with fail
 exact bodyPost_ret (v := .tuple #[zV d q, zV false r, .bool true]) (by simp [results, Tryz.results21, go_sem, hB2]) rfl ⟨rfl, hL0.bl⟩
set_option maxHeartbeats 4000000 in
set_option maxRecDepth 100000 in
theorem idiv_false_false (m n : Nat) (h0 : n ≠ 0) (hm : (digs m).length ≤ 1000000000) (hn : (digs n).length ≤ 1000000000) (w : World) :
  Calls Tryz.prog 21 #[zV false m, zV false n] w fun e w' => e = .returned (.tuple #[zV false (m / n), zV false (m % n), .bool true]) ∧ Below w.heap.size w w' := by
 have hL0 : GL w w [] := GL.start w
 have HD := Lib.hid (fun w => div_pos m n (by omega) (by omega) w)
 have hlq : (digs (m / n)).length ≤ 1000000000 := Nat.le_trans (digs_mono (Nat.div_le_self m n)) hm
 have hrn : m % n < n := Nat.mod_lt _ (by omega)
 generalize m / n = q at *
 generalize m % n = r at *
 have HF := Lib.hid (fun w => from_any false q w)
 simp only [Bool.false_and] at HF
 have HG := Lib.hid (fun w => from_pos r w)
 clear hm hn h0 hlq hrn
 replace hL0 := ((((hL0.new rfl [.int .u64 ((lo m : Nat) : Int), .string (hs m), .bool false] 32).new (K := w.heap.size + 1) (szA _ _) [.int .u64 ((lo n : Nat) : Int), .string (hs n), .bool false] 32).new (K := w.heap.size + 1 + 1) (by simp only [World.size_alloc]) [.int .u64 0, .string ⟨#[]⟩, .bool false] 32).new (K := w.heap.size + 1 + 1 + 1) (by simp only [World.size_alloc]) [.int .u64 0, .string ⟨#[]⟩, .bool false] 32)
 generalize hweq : ((((w.alloc (.cells #[.int .u64 ((lo m : Nat) : Int), .string (hs m), .bool false] 32)).alloc (.cells #[.int .u64 ((lo n : Nat) : Int), .string (hs n), .bool false] 32)).alloc (.cells #[.int .u64 0, .string ⟨#[]⟩, .bool false] 32)).alloc (.cells #[.int .u64 0, .string ⟨#[]⟩, .bool false] 32)) = x1 at hL0
 go_enter Tryz.func21, Tryz.ntmps21
 have hA := hL0.fc
 simp only [fcG, cellsF, neK, and_true, ne_eq, Nat.zero_add, Nat.reduceAdd] at hA
 go_wp2_with fail
 clear hA
 with_reducible refine Calls.mono (HD.out _) ?_
 rintro e x2 ⟨rfl, hb⟩
 replace hL0 := hL0.call hb
 clear hb hweq
 replace hL0 := ((hL0.new rfl [.int .u64 ((lo q : Nat) : Int), .string (hs q)] 30).new (K := x2.heap.size + 1) (szA _ _) [.int .u64 ((lo r : Nat) : Int), .string (hs r)] 30)
 generalize hweq : ((x2.alloc (.cells #[.int .u64 ((lo q : Nat) : Int), .string (hs q)] 30)).alloc (.cells #[.int .u64 ((lo r : Nat) : Int), .string (hs r)] 30)) = x3 at hL0
 have hA := hL0.fc
 simp only [fcG, cellsF, neK, and_true, ne_eq, Nat.zero_add, Nat.reduceAdd] at hA
 go_upto_region 7 with fail
 clear hA
 clear hweq
 obtain ⟨α, iα, F, hF1, hF2⟩ := cls x3
 have hq := GL.fcC hF1 hL0
 simp only [fcC, cellsC, and_true, Nat.zero_add, Nat.reduceAdd] at hq
 refine region_qs 9 (C := fun w' => ∃ x, w' = F x) (by kernel_rfl) (by kernel_rfl) (cls_drew hF2) ?_
 simp only [List.take_succ_cons, List.take_zero, List.drop_succ_cons, List.drop_zero, List.take_nil, List.drop_nil]
 repeat (go_big_quiet_step (first | fail | (go_at_call 19; with_reducible exact cls_call hF1 hF2 HF.out _) | (go_at_call 19; with_reducible exact cls_call hF1 hF2 HG.out _)))
 refine wpQuiet_nil ?_
 rintro wq ⟨xq, rfl⟩
 replace hL0 := hL0.call (hF1 xq)
 clear hq hF2
 generalize F xq = x4 at hL0 ⊢
 clear hF1 xq iα F α
 have hA := hL0.fc
 simp only [fcG, cellsF, neK, and_true, ne_eq, Nat.zero_add, Nat.reduceAdd] at hA
 have hP := hL0.put 3 (w.heap.size + 1 + 1) _ rfl [.int .u64 ((lo q : Nat) : Int), .string (hs q), .bool false] rfl
 simp only [setAll, List.set_cons_zero, List.set_cons_succ] at hP
 generalize hput1 : (((x4.setCell ⟨w.heap.size + 1 + 1, 0, none⟩ (.int .u64 ((lo q : Nat) : Int))).setCell ⟨w.heap.size + 1 + 1, 1, none⟩ (.string (hs q))).setCell ⟨w.heap.size + 1 + 1, 2, none⟩ (.bool false)) = x5 at hP
 have hB1 := hP.fc
 simp only [fcG, cellsF, neK, and_true, ne_eq, Nat.zero_add, Nat.reduceAdd] at hB1
 replace hL0 := hP
 have hP := hL0.put 2 (w.heap.size + 1 + 1 + 1) _ rfl [.int .u64 ((lo r : Nat) : Int), .string (hs r), .bool false] rfl
 simp only [setAll, List.set_cons_zero, List.set_cons_succ] at hP
 generalize hput2 : (((x5.setCell ⟨w.heap.size + 1 + 1 + 1, 0, none⟩ (.int .u64 ((lo r : Nat) : Int))).setCell ⟨w.heap.size + 1 + 1 + 1, 1, none⟩ (.string (hs r))).setCell ⟨w.heap.size + 1 + 1 + 1, 2, none⟩ (.bool false)) = x6 at hP
 have hB2 := hP.fc
 simp only [fcG, cellsF, neK, and_true, ne_eq, Nat.zero_add, Nat.reduceAdd] at hB2
 replace hL0 := hP
 go_wp2_with fail
 exact bodyPost_ret (v := .tuple #[zV false q, zV false r, .bool true]) (by simp [results, Tryz.results21, go_sem, hB2]) rfl ⟨rfl, hL0.bl⟩
end Go.Proofs.YtaimebjkidegiaaGreatDoor
namespace Go.Proofs.YtaimebjkidegiaaGreatDoor
open Go.RowKit
attribute [local irreducible] lo hs sm s64 c64 d64 b64 mh ml pd pc qd qc val hiB str cmpI srD lz nb isq
theorem dec_size {n k : Nat} (hk : 0 < k) (h : (digs n).length ≤ k) : (Lib.decDigits n).length ≤ 20 * k := by
 refine (dec_length_lt (by omega)).2 (Nat.lt_of_lt_of_le (digs_length_iff.1 h) ?_)
 rw [Nat.pow_mul]
 exact Nat.pow_le_pow_left (by unfold Bs; decide) k
theorem txt_small {n k : Nat} (hk : 0 < k) (h : (digs n).length ≤ k) : (txt n).size ≤ 20 * k := dec_size hk h
set_option maxHeartbeats 4000000 in
set_option maxRecDepth 100000 in
theorem itext_false (m : Nat) (hm : (digs m).length ≤ 1000000) (w : World) (htab : Tab w) :
  Calls Tryz.prog 143 #[zV false m] w fun e w' => e = .returned (.string (txt m)) ∧ Below w.heap.size w w' := by
 have hL0 : GL w w [] := GL.start w
 have HT := Lib.hid (fun w h => text_any m (by omega) w h)
 clear hm
 replace hL0 := (hL0.new rfl [.int .u64 ((lo m : Nat) : Int), .string (hs m), .bool false] 32)
 generalize hweq : (w.alloc (.cells #[.int .u64 ((lo m : Nat) : Int), .string (hs m), .bool false] 32)) = x1 at hL0
 go_enter Tryz.func143, Tryz.ntmps143
 have hA := hL0.fc
 simp only [fcG, cellsF, neK, and_true, ne_eq, Nat.zero_add, Nat.reduceAdd] at hA
 go_wp2_with fail
 clear hA
 with_reducible refine Calls.mono (HT.out _ (htab.below hL0.bl)) ?_
 rintro e x2 ⟨rfl, hb⟩
 replace hL0 := hL0.call hb
 clear hb hweq
 have hA := hL0.fc
 simp only [fcG, cellsF, neK, and_true, ne_eq, Nat.zero_add, Nat.reduceAdd] at hA
 go_wp2_with fail
 exact bodyPost_ret (v := .string (txt m)) (by simp [results, Tryz.results143, go_sem, hA]) rfl ⟨rfl, hL0.bl⟩
set_option maxHeartbeats 4000000 in
set_option maxRecDepth 100000 in
theorem itext_true (m : Nat) (hm : (digs m).length ≤ 1000000) (w : World) (htab : Tab w) :
  Calls Tryz.prog 143 #[zV true m] w fun e w' => e = .returned (.string (ByteArray.mk #[45] ++ txt m)) ∧ Below w.heap.size w w' := by
 have hL0 : GL w w [] := GL.start w
 have HT := Lib.hid (fun w h => text_any m (by omega) w h)
 have hts := txt_small (k := 1000000) (by omega) hm
 clear hm
 generalize txt m = t at *
 have hts2 : ((t.size : Nat) : Int) ≤ 20000000 := by omega
 replace hL0 := (hL0.new rfl [.int .u64 ((lo m : Nat) : Int), .string (hs m), .bool true] 32)
 generalize hweq : (w.alloc (.cells #[.int .u64 ((lo m : Nat) : Int), .string (hs m), .bool true] 32)) = x1 at hL0
 go_enter Tryz.func143, Tryz.ntmps143
 have hA := hL0.fc
 simp only [fcG, cellsF, neK, and_true, ne_eq, Nat.zero_add, Nat.reduceAdd] at hA
 go_wp2_with fail
 clear hA
 with_reducible refine Calls.mono (HT.out _ (htab.below hL0.bl)) ?_
 rintro e x2 ⟨rfl, hb⟩
 replace hL0 := hL0.call hb
 clear hb hweq
 have hA := hL0.fc
 simp only [fcG, cellsF, neK, and_true, ne_eq, Nat.zero_add, Nat.reduceAdd] at hA
 go_wp2_with fail
 exact bodyPost_ret (v := .string (ByteArray.mk #[45] ++ t)) (by simp [results, Tryz.results143, go_sem, hA]) rfl ⟨rfl, hL0.bl⟩
end Go.Proofs.YtaimebjkidegiaaGreatDoor
namespace Go.Proofs.YtaimebjkidegiaaGreatDoor
open Go.RowKit
attribute [local irreducible] lo hs
def zl (z : Int) : Nat := lo z.natAbs
def zh (z : Int) : ByteArray := hs z.natAbs
def zs (z : Int) : Bool := decide (z < 0)
/-- An integer. -/
abbrev intV (z : Int) : Value := .agg #[.int .u64 ((zl z : Nat) : Int), .string (zh z), .bool (zs z)]
theorem intV_zV (z : Int) : intV z = zV (decide (z < 0)) z.natAbs := rfl
theorem res_f {z : Int} {k : Nat} (h : z = (k : Int)) : intV z = zV false k := by subst h; rw [intV_zV, decide_eq_false (by omega), Int.natAbs_natCast]
theorem res_m {z : Int} {k : Nat} (h : z = -(k : Int)) : intV z = zV (decide (k ≠ 0)) k := by
 subst h
 rw [intV_zV, Int.natAbs_neg, Int.natAbs_natCast]
 congr 1
 by_cases h0 : k = 0
 ·subst h0; rfl
 ·rw [decide_eq_true (by omega), decide_eq_true h0]
theorem res_t {z : Int} {k : Nat} (h : z = -(k : Int)) (h0 : k ≠ 0) : intV z = zV true k := by rw [res_m h, decide_eq_true h0]
theorem int_cases (z : Int) : (∃ m : Nat, z = (m : Int) ∧ intV z = zV false m) ∨ (∃ m : Nat, m ≠ 0 ∧ z = -(m : Int) ∧ intV z = zV true m) := by
 rcases Decidable.em (z < 0) with h | h
 ·exact .inr ⟨z.natAbs, by omega, by omega, res_t (by omega) (by omega)⟩
 ·exact .inl ⟨z.natAbs, by omega, res_f (by omega)⟩
theorem intV_inj {x y : Int} (h : intV x = intV y) : x = y := by
 rw [intV_zV, intV_zV] at h
 simp only [zV, Value.agg.injEq, Array.mk.injEq, List.cons.injEq, Value.int.injEq, Value.string.injEq, Value.bool.injEq, and_true, true_and] at h
 obtain ⟨h1, h2, h3⟩ := h
 have h4 : x.natAbs = y.natAbs := natV_inj (by unfold natV; rw [h1, h2])
 by_cases hx : x < 0
 ·rw [decide_eq_true hx] at h3
  have : y < 0 := by simpa using h3.symm
  omega
 ·rw [decide_eq_false hx] at h3
  have : ¬ y < 0 := by simpa using h3.symm
  omega
/-- What == sees of two integers that differ. -/
theorem ne_int {x y : Int} (h : x ≠ y) : (((zl x : Nat) : Int) == ((zl y : Nat) : Int)) = false ∨ ((((zl x : Nat) : Int) == ((zl y : Nat) : Int)) = true ∧ ((zh x).toList == (zh y).toList) = false) ∨
  ((((zl x : Nat) : Int) == ((zl y : Nat) : Int)) = true ∧ ((zh x).toList == (zh y).toList) = true ∧ (zs x == zs y) = false) := by
 by_cases h1 : zl x = zl y
 ·right
  have e1 : (((zl x : Nat) : Int) == ((zl y : Nat) : Int)) = true := by rw [h1]; exact beq_self_eq_true _
  by_cases h2 : zh x = zh y
  ·right
   refine ⟨e1, by rw [h2]; exact beq_self_eq_true _, ?_⟩
   rw [beq_eq_false_iff_ne]
   intro h3
   exact h (intV_inj (by unfold intV; rw [h1, h2, h3]))
  ·left
   refine ⟨e1, beq_eq_false_iff_ne.2 fun h3 => h2 ?_⟩
   unfold zh at h3 ⊢
   rw [hs_toList, hs_toList] at h3
   have h4 := hiB_inj h3
   have h5 := divmod x.natAbs
   have h6 := divmod y.natAbs
   have h7 : lo x.natAbs = lo y.natAbs := h1
   rw [h4, h7, ← h6] at h5
   rw [h5]
 ·left
  exact beq_eq_false_iff_ne.2 fun h2 => h1 (by omega)
/-- The words that an integer's absolute value takes. -/
abbrev dI (z : Int) : Nat := (digs z.natAbs).length
theorem dI_nat (n : Nat) : dI (n : Int) = (digs n).length := by unfold dI; rw [Int.natAbs_natCast]
theorem dI_neg (z : Int) : dI (-z) = dI z := by unfold dI; rw [Int.natAbs_neg]
theorem dI_add {x y : Int} {k : Nat} (hx : dI x ≤ k) (hy : dI y ≤ k) : dI (x + y) ≤ k + 1 :=
 Nat.le_trans (digs_mono (Int.natAbs_add_le x y)) (digs_add_le hx hy)
theorem dI_sub {x y : Int} {k : Nat} (hx : dI x ≤ k) (hy : dI y ≤ k) : dI (x - y) ≤ k + 1 := by
 rw [Int.sub_eq_add_neg]; exact dI_add hx (by rw [dI_neg]; exact hy)
theorem dI_mul {x y : Int} {k m : Nat} (hx : dI x ≤ k) (hy : dI y ≤ m) : dI (x * y) ≤ k + m := by
 unfold dI; rw [Int.natAbs_mul]; exact digs_mul_le hx hy
theorem dI_mono {x y : Int} (h : x.natAbs ≤ y.natAbs) : dI x ≤ dI y := digs_mono h
theorem fromI (s : Bool) (n : Nat) (z : Int) (hz : z = if s then -(n : Int) else (n : Int)) (w : World) : Calls Tryz.prog 19 #[.bool s, natV n] w fun e w' => e = .returned (intV z) ∧ Below w.heap.size w w' := by
 cases s with
 | false => rw [res_f (z := z) (by simpa using hz)]; exact from_pos n w
 | true =>
  rw [res_m (z := z) (by simpa using hz)]
  have := from_any true n w
  rwa [Bool.true_and] at this
theorem ofI (z : Int) (h1 : -9223372036854775808 ≤ z) (h2 : z < 9223372036854775808) (w : World) : Calls Tryz.prog 23 #[.int .i64 z] w fun e w' => e = .returned (intV z) ∧ Below w.heap.size w w' := by
 rcases Decidable.em (z < 0) with h | h
 ·obtain ⟨m, hm⟩ : ∃ m : Nat, z = -(m : Int) := ⟨z.natAbs, by omega⟩
  rw [res_t hm (by omega)]; exact ofn_any z m hm (by omega) (by omega) w
 ·obtain ⟨m, rfl⟩ : ∃ m : Nat, z = (m : Int) := ⟨z.natAbs, by omega⟩
  rw [res_f rfl]; exact ofp_any m (by omega) w
theorem absI (z : Int) (w : World) : Calls Tryz.prog 123 #[intV z] w fun e w' => e = .returned (natV z.natAbs) ∧ Below w.heap.size w w' := abs_any _ _ w
def sgn (z : Int) : Int := if z < 0 then -1 else if z = 0 then 0 else 1
theorem signI (z : Int) (w : World) : Calls Tryz.prog 117 #[intV z] w fun e w' => e = .returned (.int .i64 (sgn z)) ∧ Below w.heap.size w w' := by
 rcases int_cases z with ⟨m, rfl, h⟩ | ⟨m, h0, rfl, h⟩ <;> rw [h]
 ·by_cases h0 : m = 0
  ·subst h0; exact sign_zero w
  ·rw [show sgn (m : Int) = 1 by unfold sgn; rw [if_neg (by omega), if_neg (by omega)]]; exact sign_pos m h0 w
 ·rw [show sgn (-(m : Int)) = -1 by unfold sgn; rw [if_pos (by omega)]]; exact sign_neg m w
theorem negI (z : Int) (w : World) : Calls Tryz.prog 121 #[intV z] w fun e w' => e = .returned (intV (-z)) ∧ Below w.heap.size w w' := by
 rcases int_cases z with ⟨m, rfl, h⟩ | ⟨m, h0, rfl, h⟩ <;> rw [h]
 ·rw [res_m (z := -(m : Int)) rfl]; exact neg_false m w
 ·rw [res_f (z := -(-(m : Int))) (k := m) (by omega)]; exact neg_true m w
theorem mulI (x y : Int) (hx : dI x ≤ 1000000000) (hy : dI y ≤ 1000000000) (w : World) : Calls Tryz.prog 141 #[intV x, intV y] w fun e w' => e = .returned (intV (x * y)) ∧ Below w.heap.size w w' := by
 rcases int_cases x with ⟨m, rfl, ex⟩ | ⟨m, hm, rfl, ex⟩ <;> rcases int_cases y with ⟨n, rfl, ey⟩ | ⟨n, hn, rfl, ey⟩ <;> rw [ex, ey] <;> simp only [dI_neg, dI_nat] at hx hy
 ·rw [res_f (k := m * n) (by simp)]; exact imul_false_false m n hx hy w
 ·rw [res_m (k := m * n) (by simp [Int.mul_neg])]; exact imul_false_true m n hx hy w
 ·rw [res_m (k := m * n) (by simp [Int.neg_mul])]; exact imul_true_false m n hx hy w
 ·rw [res_f (k := m * n) (by simp [Int.neg_mul, Int.mul_neg])]; exact imul_true_true m n hx hy w
theorem addI (x y : Int) (hx : dI x ≤ 1000000000) (hy : dI y ≤ 1000000000) (w : World) : Calls Tryz.prog 18 #[intV x, intV y] w fun e w' => e = .returned (intV (x + y)) ∧ Below w.heap.size w w' := by
 rcases int_cases x with ⟨m, rfl, ex⟩ | ⟨m, hm, rfl, ex⟩ <;> rcases int_cases y with ⟨n, rfl, ey⟩ | ⟨n, hn, rfl, ey⟩ <;> rw [ex, ey] <;> simp only [dI_neg, dI_nat] at hx hy
 ·rw [res_f (k := m + n) (by omega)]; exact iadd _ _ _ m n _ (byadd_false_false m n _ _ (out_false m n hx hy)) w
 ·rcases Nat.lt_or_ge m n with h | h
  ·rw [res_m (k := n - m) (by omega)]; exact iadd _ _ _ m n _ (byadd_false_true m n _ _ (in_false_lt m n h hx hy)) w
  ·rw [res_f (k := m - n) (by omega)]; exact iadd _ _ _ m n _ (byadd_false_true m n _ _ (in_false_ge m n h hx hy)) w
 ·rcases Nat.lt_or_ge m n with h | h
  ·rw [res_f (k := n - m) (by omega)]; exact iadd _ _ _ m n _ (byadd_true_false m n _ _ (in_true_lt m n h hx hy)) w
  ·rw [res_m (k := m - n) (by omega)]; exact iadd _ _ _ m n _ (byadd_true_false m n _ _ (in_true_ge m n h hx hy)) w
 ·rw [res_m (k := m + n) (by omega)]; exact iadd _ _ _ m n _ (byadd_true_true m n _ _ (out_true m n hx hy)) w
theorem subI (x y : Int) (hx : dI x ≤ 1000000000) (hy : dI y ≤ 1000000000) (w : World) : Calls Tryz.prog 146 #[intV x, intV y] w fun e w' => e = .returned (intV (x - y)) ∧ Below w.heap.size w w' := by
 rcases int_cases x with ⟨m, rfl, ex⟩ | ⟨m, hm, rfl, ex⟩ <;> rcases int_cases y with ⟨n, rfl, ey⟩ | ⟨n, hn, rfl, ey⟩ <;> rw [ex, ey] <;> simp only [dI_neg, dI_nat] at hx hy
 ·rcases Nat.lt_or_ge m n with h | h
  ·rw [res_m (k := n - m) (by omega)]; exact isub _ _ _ m n _ (bysub_false_false m n _ _ (in_false_lt m n h hx hy)) w
  ·rw [res_f (k := m - n) (by omega)]; exact isub _ _ _ m n _ (bysub_false_false m n _ _ (in_false_ge m n h hx hy)) w
 ·rw [res_f (k := m + n) (by omega)]; exact isub _ _ _ m n _ (bysub_false_true m n _ _ (out_false m n hx hy)) w
 ·rw [res_m (k := m + n) (by omega)]; exact isub _ _ _ m n _ (bysub_true_false m n _ _ (out_true m n hx hy)) w
 ·rcases Nat.lt_or_ge m n with h | h
  ·rw [res_f (k := n - m) (by omega)]; exact isub _ _ _ m n _ (bysub_true_true m n _ _ (in_true_lt m n h hx hy)) w
  ·rw [res_m (k := m - n) (by omega)]; exact isub _ _ _ m n _ (bysub_true_true m n _ _ (in_true_ge m n h hx hy)) w
theorem intV_zero : intV 0 = zV false 0 := res_f rfl
theorem div0I (x : Int) (w : World) : Calls Tryz.prog 21 #[intV x, intV 0] w fun e w' => e = .returned (.tuple #[intV 0, intV 0, .bool false]) ∧ Below w.heap.size w w' := by
 rcases int_cases x with ⟨m, rfl, ex⟩ | ⟨m, hm, rfl, ex⟩ <;> rw [ex, intV_zero]
 ·exact idiv0_false m w
 ·exact idiv0_true m w
theorem ediv_neg_pos {m n : Nat} (h0 : n ≠ 0) (hr : m % n ≠ 0) : -(m : Int) / (n : Int) = -((m / n + 1 : Nat) : Int) ∧ -(m : Int) % (n : Int) = ((n - m % n : Nat) : Int) := by
 have h1 := Nat.div_add_mod m n
 have h2 := Nat.mod_lt m (Nat.pos_of_ne_zero h0)
 refine (Int.ediv_emod_unique (by omega)).2 ⟨?_, by omega, by omega⟩
 have h3 : (m : Int) = (n : Int) * ((m / n : Nat) : Int) + ((m % n : Nat) : Int) := by
  have := congrArg (fun x : Nat => (x : Int)) h1
  simpa using this.symm
 have h4 : (n : Int) * -((m / n + 1 : Nat) : Int) = -((n : Int) * ((m / n : Nat) : Int)) - (n : Int) := by
  rw [Int.mul_neg, Int.natCast_add, Int.mul_add]; omega
 rw [h4]
 generalize (n : Int) * ((m / n : Nat) : Int) = X at *
 omega
theorem ediv_neg_zero {m n : Nat} (h0 : n ≠ 0) (hr : m % n = 0) : -(m : Int) / (n : Int) = -((m / n : Nat) : Int) ∧ -(m : Int) % (n : Int) = 0 := by
 have h1 := Nat.div_add_mod m n
 refine (Int.ediv_emod_unique (by omega)).2 ⟨?_, by omega, by omega⟩
 rw [hr, Nat.add_zero] at h1
 have h3 : (m : Int) = (n : Int) * ((m / n : Nat) : Int) := by
  have := congrArg (fun x : Nat => (x : Int)) h1
  simpa using this.symm
 rw [Int.mul_neg]
 omega
theorem divI (x y : Int) (h0 : y ≠ 0) (hx : dI x ≤ 1000000000) (hy : dI y ≤ 1000000000) (w : World) : Calls Tryz.prog 21 #[intV x, intV y] w fun e w' => e = .returned (.tuple #[intV (x / y), intV (x % y), .bool true]) ∧ Below w.heap.size w w' := by
 rcases int_cases x with ⟨m, rfl, ex⟩ | ⟨m, hm, rfl, ex⟩ <;> rcases int_cases y with ⟨n, rfl, ey⟩ | ⟨n, hn, rfl, ey⟩ <;> rw [ex, ey] <;> simp only [dI_neg, dI_nat] at hx hy
 ·rw [← Int.natCast_ediv, ← Int.natCast_emod, res_f (k := m / n) rfl, res_f (k := m % n) rfl]; exact idiv_false_false m n (by omega) hx hy w
 ·rw [Int.ediv_neg, Int.emod_neg, ← Int.natCast_ediv, ← Int.natCast_emod, res_m (k := m / n) rfl, res_f (k := m % n) rfl]; exact idiv_false_true m n hn hx hy w
 ·by_cases hr : m % n = 0
  ·obtain ⟨e1, e2⟩ := ediv_neg_zero (m := m) (n := n) (by omega) hr
   rw [e1, e2, res_m (k := m / n) rfl, intV_zero]; exact idiv_true_false_1 m n (by omega) hr hx hy w
  ·obtain ⟨e1, e2⟩ := ediv_neg_pos (m := m) (n := n) (by omega) hr
   rw [e1, e2, res_m (k := m / n + 1) rfl, res_f (k := n - m % n) rfl]; exact idiv_true_false_2 m n (by omega) hr hx hy w
 ·rw [Int.ediv_neg, Int.emod_neg]
  by_cases hr : m % n = 0
  ·obtain ⟨e1, e2⟩ := ediv_neg_zero (m := m) (n := n) hn hr
   rw [e1, e2, res_f (k := m / n) (Int.neg_neg _), intV_zero]; exact idiv_true_true_1 m n hn hr hx hy w
  ·obtain ⟨e1, e2⟩ := ediv_neg_pos (m := m) (n := n) hn hr
   rw [e1, e2, res_f (k := m / n + 1) (Int.neg_neg _), res_f (k := n - m % n) rfl]; exact idiv_true_true_2 m n hn hr hx hy w
/-- The decimal form. -/
def ztxt (z : Int) : ByteArray := if z < 0 then ByteArray.mk #[45] ++ txt z.natAbs else txt z.natAbs
theorem textI (z : Int) (hz : dI z ≤ 1000000) (w : World) (htab : Tab w) : Calls Tryz.prog 143 #[intV z] w fun e w' => e = .returned (.string (ztxt z)) ∧ Below w.heap.size w w' := by
 rcases int_cases z with ⟨m, rfl, h⟩ | ⟨m, h0, rfl, h⟩ <;> rw [h] <;> simp only [dI_neg, dI_nat] at hz <;> unfold ztxt
 ·rw [if_neg (by omega), Int.natAbs_natCast]; exact itext_false m hz w htab
 ·rw [if_pos (by omega), Int.natAbs_neg, Int.natAbs_natCast]; exact itext_true m hz w htab
end Go.Proofs.YtaimebjkidegiaaGreatDoor
namespace Go.Proofs.YtaimebjkidegiaaGreatDoor
open Go.RowKit
attribute [local irreducible] lo hs
/-- The document's recursion. -/
def xgcd (a b : Int) : Int × Int × Int :=
 if h : b = 0 then ((a.natAbs : Int), sgn a, 0)
 else let r := xgcd b (a % b); (r.1, r.2.2, r.2.1 - a / b * r.2.2)
termination_by b.natAbs
decreasing_by
 have h1 := Int.emod_lt a h
 have h2 := Int.emod_nonneg a h
 omega
theorem xgcd_zero (a : Int) : xgcd a 0 = ((a.natAbs : Int), sgn a, 0) := by rw [xgcd]; simp
theorem xgcd_step {a b : Int} (h : b ≠ 0) : xgcd a b = ((xgcd b (a % b)).1, (xgcd b (a % b)).2.2, (xgcd b (a % b)).2.1 - a / b * (xgcd b (a % b)).2.2) := by rw [xgcd, dif_neg h]
theorem sgn_mul (a : Int) : sgn a * a = (a.natAbs : Int) := by unfold sgn; split <;> (try split) <;> simp <;> omega
theorem xgcd_bez : ∀ (n : Nat) (a b : Int), b.natAbs ≤ n → a * (xgcd a b).2.1 + b * (xgcd a b).2.2 = (xgcd a b).1 ∧ (xgcd a b).1 = (Nat.gcd a.natAbs b.natAbs : Nat) := by
 intro n
 induction n with
 | zero =>
  intro a b h
  obtain rfl : b = 0 := by omega
  rw [xgcd_zero]
  refine ⟨?_, by simp⟩
  have := sgn_mul a
  show a * sgn a + 0 * 0 = (a.natAbs : Int)
  rw [Int.mul_comm]; omega
 | succ n ih =>
  intro a b h
  by_cases hb : b = 0
  ·subst hb
   rw [xgcd_zero]
   refine ⟨?_, by simp⟩
   have := sgn_mul a
   show a * sgn a + 0 * 0 = (a.natAbs : Int)
   rw [Int.mul_comm]; omega
  ·have h1 := Int.emod_lt a hb
   have h2 := Int.emod_nonneg a hb
   obtain ⟨i1, i2⟩ := ih b (a % b) (by omega)
   rw [xgcd_step hb]
   refine ⟨?_, ?_⟩
   ·show a * (xgcd b (a % b)).2.2 + b * ((xgcd b (a % b)).2.1 - a / b * (xgcd b (a % b)).2.2) = (xgcd b (a % b)).1
    rw [← i1]
    have h3 := Int.mul_ediv_add_emod a b
    generalize (xgcd b (a % b)).2.1 = p
    generalize (xgcd b (a % b)).2.2 = q
    generalize a % b = r at *
    generalize a / b = c at *
    grind
   ·show (xgcd b (a % b)).1 = _
    rw [i2]
    show ((Int.gcd b (a % b) : Nat) : Int) = ((Int.gcd a b : Nat) : Int)
    congr 1
    rw [Int.emod_def, Int.gcd_sub_mul_left_right, Int.gcd_comm]
/-- What the rounds keep. -/
structure GI (a b G X N Y : Int) : Prop where
 g : (xgcd a b).1 = (xgcd G N).1
 x : (xgcd a b).2.1 = (xgcd G N).2.1 * X + (xgcd G N).2.2 * Y
 s : (G = a ∧ X = 1 ∧ N = b ∧ Y = 0) ∨ (G = b ∧ X = 0 ∧ Y = 1 ∧ 0 ≤ N ∧ N < b.natAbs) ∨
  (0 < G ∧ 0 ≤ N ∧ N < G ∧ X.natAbs ≤ 3 * b.natAbs ∧ X.natAbs * N.natAbs + Y.natAbs * G.natAbs ≤ 3 * b.natAbs ∧ G ≤ b.natAbs)
theorem GI.start (a b : Int) : GI a b a 1 b 0 := ⟨rfl, by omega, .inl ⟨rfl, rfl, rfl, rfl⟩⟩
theorem GI.next {a b G X N Y : Int} (h : GI a b G X N Y) (hN : N ≠ 0) : GI a b N Y (G % N) (X - G / N * Y) := by
 have e := xgcd_step (a := G) hN
 have n1 := Int.emod_lt G hN
 have n2 := Int.emod_nonneg G hN
 have n3 := Int.mul_ediv_add_emod G N
 refine ⟨by rw [h.g, e], ?_, ?_⟩
 ·rw [h.x, e]
  show (xgcd N (G % N)).2.2 * X + ((xgcd N (G % N)).2.1 - G / N * (xgcd N (G % N)).2.2) * Y = _
  generalize (xgcd N (G % N)).2.1 = p
  generalize (xgcd N (G % N)).2.2 = q
  generalize G / N = c
  grind
 ·rcases h.s with ⟨rfl, rfl, rfl, rfl⟩ | ⟨rfl, rfl, rfl, h1, h2⟩ | ⟨h1, h2, h3, h4, h5, h6⟩
  ·exact .inr (.inl ⟨rfl, rfl, by omega, n2, n1⟩)
  ·refine .inr (.inr ⟨by omega, n2, by omega, by omega, ?_, by omega⟩)
   generalize hr : G % N = r at *
   generalize hq : G / N = q at *
   have e1 : (0 - q * 1).natAbs * N.natAbs = (N * q).natAbs := by rw [Int.natAbs_mul, Nat.mul_comm]; congr 1; omega
   have e2 : N * q = G - r := by omega
   rw [e1, e2]
   rw [show (1 : Int).natAbs = 1 from rfl, Nat.one_mul]
   omega
  ·have y1 : Y.natAbs ≤ 3 * b.natAbs := by
    have : Y.natAbs * 1 ≤ Y.natAbs * G.natAbs := Nat.mul_le_mul_left _ (by omega)
    omega
   refine .inr (.inr ⟨by omega, n2, by omega, y1, ?_, by omega⟩)
   have q0 : 0 ≤ G / N := Int.ediv_nonneg (by omega) (by omega)
   generalize hr : G % N = r at *
   generalize hq : G / N = q at *
   refine Nat.le_trans ?_ h5
   have t1 : (X - q * Y).natAbs ≤ X.natAbs + q.natAbs * Y.natAbs := by
    have := Int.natAbs_sub_le X (q * Y)
    rwa [Int.natAbs_mul] at this
   have t2 := Nat.mul_le_mul_right N.natAbs t1
   have t3 : G.natAbs = N.natAbs * q.natAbs + r.natAbs := by
    have : (N * q).natAbs = N.natAbs * q.natAbs := Int.natAbs_mul _ _
    have h0 : 0 ≤ N * q := Int.mul_nonneg (by omega) q0
    omega
   rw [t3, Nat.mul_add]
   rw [Nat.add_mul] at t2
   have t4 : Y.natAbs * (N.natAbs * q.natAbs) = q.natAbs * Y.natAbs * N.natAbs := by
    rw [Nat.mul_comm q.natAbs, Nat.mul_assoc, Nat.mul_comm q.natAbs]
   omega
theorem GI.bounds {a b G X N Y : Int} (h : GI a b G X N Y) {k : Nat} (ha : dI a ≤ k) (hb : dI b ≤ k) : dI G ≤ k ∧ dI N ≤ k ∧ dI X ≤ k + 1 ∧ (N ≠ 0 → dI Y ≤ k + 1) := by
 have h3 : ∀ z : Int, z.natAbs ≤ 3 * b.natAbs + 1 → dI z ≤ k + 1 := fun z hz => by
  have := digs_length_iff.1 hb
  refine digs_length_iff.2 ?_
  rw [Nat.pow_succ]
  have hB : 16 ≤ Bs := by unfold Bs; omega
  have hp : 0 < Bs ^ k := Nat.pow_pos (by omega)
  have h5 : Bs ^ k * 16 ≤ Bs ^ k * Bs := Nat.mul_le_mul_left _ hB
  generalize Bs ^ k = P at *
  generalize P * Bs = R at *
  omega
 rcases h.s with ⟨rfl, rfl, rfl, rfl⟩ | ⟨rfl, rfl, rfl, h1, h2⟩ | ⟨h1, h2, h3', h4, h5, h6⟩
 ·exact ⟨ha, hb, h3 1 (by omega), fun _ => h3 0 (by omega)⟩
 ·exact ⟨hb, Nat.le_trans (dI_mono (by omega)) hb, h3 0 (by omega), fun _ => h3 1 (by omega)⟩
 ·refine ⟨Nat.le_trans (dI_mono (by omega)) hb, Nat.le_trans (dI_mono (by omega)) hb, h3 X (by omega), fun _ => h3 Y ?_⟩
  have : Y.natAbs * 1 ≤ Y.natAbs * G.natAbs := Nat.mul_le_mul_left _ (by omega)
  omega
theorem xgcd_y {a b : Int} (hb : b ≠ 0) : ((xgcd a b).1 - a * (xgcd a b).2.1) / b = (xgcd a b).2.2 := by
 have h := (xgcd_bez _ a b (Nat.le_refl _)).1
 rw [show (xgcd a b).1 - a * (xgcd a b).2.1 = b * (xgcd a b).2.2 by omega]
 exact Int.mul_ediv_cancel_left _ hb
theorem GI.last {a b G X Y : Int} (h : GI a b G X 0 Y) : (xgcd a b).1 = sgn G * G ∧ (xgcd a b).2.1 = sgn G * X := by
 refine ⟨by rw [h.g, xgcd_zero, sgn_mul], ?_⟩
 rw [h.x, xgcd_zero]
 show sgn G * X + 0 * Y = _
 omega
end Go.Proofs.YtaimebjkidegiaaGreatDoor
namespace Go.Proofs.YtaimebjkidegiaaGreatDoor
open Go.RowKit
attribute [local irreducible] lo hs sm s64 c64 d64 b64 mh ml pd pc qd qc val hiB str cmpI srD lz nb isq zl zh zs
theorem new_int (w : World) : (Instr.alloc 32 true (.tuple #[])).run Tryz.prog w = .ok (.pointer (some ⟨w.heap.size, 0, none⟩)) (w.alloc (.cells #[.int .u64 0, .string ⟨#[]⟩, .bool false] 32)) := by
 simp [go_sem, Instr.alloc]
theorem hd_put3 {w : World} {k : Nat} {x0 x1 x2 : Value} (h : Hd w k [x0, x1, x2]) (v0 v1 v2 : Value) : Hd (((w.setCell ⟨k, 0, none⟩ v0).setCell ⟨k, 1, none⟩ v1).setCell ⟨k, 2, none⟩ v2) k [v0, v1, v2] :=
 setAll_hd [v0, v1, v2] 0 w k [] [x0, x1, x2] rfl rfl h
theorem put_int (i0 i : Int) (s0 s : ByteArray) (b0 b : Bool) (w : World) (k : Nat) (h : Hd w k [.int .u64 i0, .string s0, .bool b0]) :
  ∃ w', (Instr.storeAt 32 (.pointer (some ⟨k, 0, none⟩)) (.agg #[.int .u64 i, .string s, .bool b])).run Tryz.prog w = .ok () w' ∧ Hd w' k [.int .u64 i, .string s, .bool b] ∧ Upd k w w' := by
 have h0 : w.cell? ⟨k, 0, none⟩ = some (.int .u64 i0) := h.cell 0 (by simp)
 have h1 : w.cell? ⟨k, 1, none⟩ = some (.string s0) := h.cell 1 (by simp)
 have h2 : w.cell? ⟨k, 2, none⟩ = some (.bool b0) := h.cell 2 (by simp)
 have hf := h.frz
 refine ⟨_, ?_, hd_put3 h (.int .u64 i) (.string s) (.bool b), (((Upd.refl k w).setCell 0 _).setCell 1 _).setCell 2 _⟩
 simp [go_sem, Instr.storeAt, Instr.sureAddr, h0, h1, h2, hf]
theorem z0 : zl 0 = 0 ∧ zh 0 = ⟨#[]⟩ ∧ zs 0 = false := ⟨by unfold zl; rw [show (0 : Int).natAbs = 0 from rfl, lo_small Bs_pos], by unfold zh; rw [show (0 : Int).natAbs = 0 from rfl, hs_small Bs_pos], by unfold zs; rfl⟩
theorem eqz : (((zl 0 : Nat) : Int) == 0) = true ∧ ((zh 0).toList == []) = true ∧ (zs 0 == false) = true := by
 obtain ⟨h1, h2, h3⟩ := z0
 rw [h1, h2, h3, ByteArray.toList_eq]; exact ⟨rfl, rfl, rfl⟩
theorem nez {z : Int} (h : z ≠ 0) : (((zl z : Nat) : Int) == 0) = false ∨ ((((zl z : Nat) : Int) == 0) = true ∧ ((zh z).toList == []) = false) ∨ ((((zl z : Nat) : Int) == 0) = true ∧ ((zh z).toList == []) = true ∧ (zs z == false) = false) := by
 have e := ne_int h
 obtain ⟨h1, h2, h3⟩ := z0
 rw [h1, h2, h3, ByteArray.toList_eq ⟨#[]⟩] at e
 exact e
/-- The integer's size that a struct in memory holds. -/
theorem rdz {w : World} {k : Nat} {z : Int} (h : Hd w k [.int .u64 ((zl z : Nat) : Int), .string (zh z), .bool (zs z)]) : rdn w k = z.natAbs :=
 rdn_eq (r := z.natAbs) ⟨(h.cell 0 (by simp)).trans (by unfold zl; rfl), (h.cell 1 (by simp)).trans (by unfold zh; rfl), h.frz⟩
set_option maxHeartbeats 4000000 in
set_option maxRecDepth 100000 in
theorem gcdI (a b : Int) (ha : dI a ≤ 1000) (hb : dI b ≤ 1000) (w : World) :
  Calls Tryz.prog 145 #[intV a, intV b] w fun e w' => e = .returned (.tuple #[intV (xgcd a b).1, intV (xgcd a b).2.1, intV (xgcd a b).2.2]) ∧ Below w.heap.size w w' := by
 have hL0 : GL w w [] := GL.start w
 have HO1 := Lib.hid (fun w => ofI 1 (by omega) (by omega) w)
 have HO0 := Lib.hid (fun w => ofI 0 (by omega) (by omega) w)
 replace hL0 := (((((hL0.new rfl [.int .u64 ((zl a : Nat) : Int), .string (zh a), .bool (zs a)] 32).new (K := w.heap.size + 1) (szA _ _) [.int .u64 ((zl b : Nat) : Int), .string (zh b), .bool (zs b)] 32).new (K := w.heap.size + 1 + 1) (by simp only [World.size_alloc]) [.int .u64 0, .string ⟨#[]⟩, .bool false] 32).new (K := w.heap.size + 1 + 1 + 1) (by simp only [World.size_alloc]) [.int .u64 0, .string ⟨#[]⟩, .bool false] 32).new (K := w.heap.size + 1 + 1 + 1 + 1) (by simp only [World.size_alloc]) [.int .u64 0, .string ⟨#[]⟩, .bool false] 32)
 generalize hweq : (((((w.alloc (.cells #[.int .u64 ((zl a : Nat) : Int), .string (zh a), .bool (zs a)] 32)).alloc (.cells #[.int .u64 ((zl b : Nat) : Int), .string (zh b), .bool (zs b)] 32)).alloc (.cells #[.int .u64 0, .string ⟨#[]⟩, .bool false] 32)).alloc (.cells #[.int .u64 0, .string ⟨#[]⟩, .bool false] 32)).alloc (.cells #[.int .u64 0, .string ⟨#[]⟩, .bool false] 32)) = x1 at hL0
 go_enter Tryz.func145, Tryz.ntmps145
 have hA := hL0.fc
 simp only [fcG, cellsF, neK, and_true, ne_eq, Nat.zero_add, Nat.reduceAdd] at hA
 go_upto_region 1 with fail
 clear hA
 clear hweq
 obtain ⟨α, iα, F, hF1, hF2⟩ := cls x1
 have hq := GL.fcC hF1 hL0
 simp only [fcC, cellsC, and_true, Nat.zero_add, Nat.reduceAdd] at hq
 refine region_qs 2 (C := fun w' => ∃ x, w' = F x) (by kernel_rfl) (by kernel_rfl) (cls_drew hF2) ?_
 simp only [List.take_succ_cons, List.take_zero, List.drop_succ_cons, List.drop_zero, List.take_nil, List.drop_nil]
 repeat (go_big_quiet_step (first | fail | (go_at_call 23; with_reducible exact cls_call hF1 hF2 HO1.out _)))
 refine wpQuiet_nil ?_
 rintro wq ⟨xq, rfl⟩
 replace hL0 := hL0.call (hF1 xq)
 clear hq hF2
 generalize F xq = x2 at hL0 ⊢
 clear hF1 xq iα F α
 have hA := hL0.fc
 simp only [fcG, cellsF, neK, and_true, ne_eq, Nat.zero_add, Nat.reduceAdd] at hA
 have hP := hL0.put 2 (w.heap.size + 1 + 1) _ rfl [.int .u64 ((zl a : Nat) : Int), .string (zh a), .bool (zs a)] rfl
 simp only [setAll, List.set_cons_zero, List.set_cons_succ] at hP
 generalize hput1 : (((x2.setCell ⟨w.heap.size + 1 + 1, 0, none⟩ (.int .u64 ((zl a : Nat) : Int))).setCell ⟨w.heap.size + 1 + 1, 1, none⟩ (.string (zh a))).setCell ⟨w.heap.size + 1 + 1, 2, none⟩ (.bool (zs a))) = x3 at hP
 have hB1 := hP.fc
 simp only [fcG, cellsF, neK, and_true, ne_eq, Nat.zero_add, Nat.reduceAdd] at hB1
 replace hL0 := hP
 have hP := hL0.put 1 (w.heap.size + 1 + 1 + 1) _ rfl [.int .u64 ((zl 1 : Nat) : Int), .string (zh 1), .bool (zs 1)] rfl
 simp only [setAll, List.set_cons_zero, List.set_cons_succ] at hP
 generalize hput2 : (((x3.setCell ⟨w.heap.size + 1 + 1 + 1, 0, none⟩ (.int .u64 ((zl 1 : Nat) : Int))).setCell ⟨w.heap.size + 1 + 1 + 1, 1, none⟩ (.string (zh 1))).setCell ⟨w.heap.size + 1 + 1 + 1, 2, none⟩ (.bool (zs 1))) = x4 at hP
 have hB2 := hP.fc
 simp only [fcG, cellsF, neK, and_true, ne_eq, Nat.zero_add, Nat.reduceAdd] at hB2
 replace hL0 := hP
 go_upto_region 2 with fail
 clear hA
 clear hput1 hB1 hput2 hB2
 refine region_gh (by kernel_rfl) (by kernel_rfl) ?_
 refine lex_seg (gl := []) 2 (by kernel_rfl) ?_
 intro α iα F hF1 hF2
 have hq := GL.seg hF1 hL0
 simp only [fcC, cellsC, and_true, Nat.zero_add, Nat.reduceAdd] at hq
 simp only [List.take_succ_cons, List.take_zero, List.drop_succ_cons, List.drop_zero, List.take_nil, List.drop_nil]
 repeat (go_big_quiet_step (first | fail | (go_at_call 23; with_reducible exact seg_call hF2 HO0.out _)))
 refine wpQuiet_nil ?_
 clear hq hF1 hF2 iα F α
 refine lex_new [.int .u64 0, .string ⟨#[]⟩, .bool false] 7 32 32 rfl rfl (of_decide_eq_true (by kernel_rfl)) (by kernel_rfl) rfl new_int ?_
 simp only [Act.put, List.setIfInBounds_toArray, List.set_cons_succ, List.set_cons_zero]
 refine lex_new [.int .u64 0, .string ⟨#[]⟩, .bool false] 8 32 32 rfl rfl (of_decide_eq_true (by kernel_rfl)) (by kernel_rfl) rfl new_int ?_
 simp only [Act.put, List.setIfInBounds_toArray, List.set_cons_succ, List.set_cons_zero]
 refine lex_put [.int .u64 ((zl b : Nat) : Int), .string (zh b), .bool (zs b)] [.int .u64 0, .string ⟨#[]⟩, .bool false] 7 32 (.tmp 15) rfl (by kernel_rfl) (by simp [toG, upd]) rfl (fun w k h => put_int _ _ _ _ _ _ w k h) ?_
 simp only [Act.put]
 refine lex_put [.int .u64 ((zl 0 : Nat) : Int), .string (zh 0), .bool (zs 0)] [.int .u64 0, .string ⟨#[]⟩, .bool false] 8 32 (.tmp 16) rfl (by kernel_rfl) (by simp [toG, upd]) rfl (fun w k h => put_int _ _ _ _ _ _ w k h) ?_
 simp only [Act.put]
 refine lexG_nil ?_
 intro κ x5 hS
 replace hL0 := hL0.ghs hS [(8, [.int .u64 ((zl 0 : Nat) : Int), .string (zh 0), .bool (zs 0)]), (7, [.int .u64 ((zl b : Nat) : Int), .string (zh b), .bool (zs b)])] (by simp) (by intro p hp; simp only [List.mem_cons, List.not_mem_nil, or_false] at hp; rcases hp with rfl | rfl <;> exact ⟨_, by simp only [toG, upd]; rfl⟩)
 simp only [List.map_cons, List.map_nil, List.cons_append, List.nil_append] at hL0
 simp only [over_toG, over_nil, Act.put, List.setIfInBounds_toArray, List.set_cons_succ, List.set_cons_zero]
 clear hS
 generalize κ 8 = k5_8 at *
 generalize κ 7 = k5_7 at *
 clear HO1 HO0
 have hA := hL0.fc
 simp only [fcG, cellsF, neK, and_true, ne_eq, Nat.zero_add, Nat.reduceAdd] at hA
 go_wp2_with fail
 clear hA
 go_loopw [11] (fun _ wr => ∃ G X N Y : Int, GI a b G X N Y ∧ GL w wr [(k5_8, [.int .u64 ((zl Y : Nat) : Int), .string (zh Y), .bool (zs Y)]), (k5_7, [.int .u64 ((zl N : Nat) : Int), .string (zh N), .bool (zs N)]), (w.heap.size + 1 + 1 + 1 + 1, [.int .u64 0, .string ⟨#[]⟩, .bool false]), (w.heap.size + 1 + 1 + 1, [.int .u64 ((zl X : Nat) : Int), .string (zh X), .bool (zs X)]), (w.heap.size + 1 + 1, [.int .u64 ((zl G : Nat) : Int), .string (zh G), .bool (zs G)]), (w.heap.size + 1, [.int .u64 ((zl b : Nat) : Int), .string (zh b), .bool (zs b)]), (w.heap.size, [.int .u64 ((zl a : Nat) : Int), .string (zh a), .bool (zs a)])]) (fun _ wr => rdn wr k5_7)
 case atStart => exact ⟨a, 1, b, 0, GI.start a b, hL0⟩
 case round =>
  clear hL0
  obtain ⟨G, X, N, Y, hG, hL0⟩ := hrel
  obtain ⟨b1, b2, b3, b4⟩ := hG.bounds ha hb
  by_cases hN : N = 0
  ·subst hN
   obtain ⟨e0, e1, e2⟩ := eqz
   obtain ⟨l1, l2⟩ := hG.last
   have hs1 : dI (sgn G) ≤ 1 := digs_length_iff.2 (by have : (sgn G).natAbs ≤ 1 := (by unfold sgn; split <;> (try split) <;> omega); unfold Bs; omega)
   have hs2 : -1 ≤ sgn G ∧ sgn G ≤ 1 := by unfold sgn; split <;> (try split) <;> omega
   have HSg := Lib.hid (fun w => signI G w)
   have HOs := Lib.hid (fun w => ofI (sgn G) (by omega) (by omega) w)
   have HM1 := fun w => mulI (sgn G) G (by omega) (by omega) w
   have HM2 := fun w => mulI (sgn G) X (by omega) (by omega) w
   have q1 : dI (sgn G * G) ≤ 1 + 1000 := dI_mul hs1 b1
   have q2 : dI (sgn G * X) ≤ 1 + 1001 := dI_mul hs1 b3
   rw [← l1] at HM1 q1
   rw [← l2] at HM2 q2
   have HM3 := Lib.hid (fun w => mulI a (xgcd a b).2.1 (by omega) (by omega) w)
   have q3 : dI (a * (xgcd a b).2.1) ≤ 1000 + 1002 := dI_mul ha q2
   have HS := Lib.hid (fun w => subI (xgcd a b).1 (a * (xgcd a b).2.1) (by omega) (by omega) w)
   have q4 : dI ((xgcd a b).1 - a * (xgcd a b).2.1) ≤ 2002 + 1 := dI_sub (by omega) (by omega)
   obtain ⟨R, o, HD⟩ : ∃ (R : Int) (o : Bool), ∀ w, Calls Tryz.prog 21 #[intV ((xgcd a b).1 - a * (xgcd a b).2.1), intV b] w fun e w' => e = .returned (.tuple #[intV (xgcd a b).2.2, intV R, .bool o]) ∧ Below w.heap.size w w' := by
    by_cases h : b = 0
    ·subst h; refine ⟨0, false, fun w => ?_⟩; rw [show (xgcd a 0).2.2 = 0 by rw [xgcd_zero]]; exact div0I _ w
    ·refine ⟨((xgcd a b).1 - a * (xgcd a b).2.1) % b, true, fun w => ?_⟩; have := divI _ b h (Nat.le_trans q4 (by omega)) (by omega) w; rw [xgcd_y h] at this; exact this
   clear hG l1 l2 b1 b2 b3 b4 hs1 hs2 q1 q2 q3 q4 ha hb
   replace HM1 := Lib.hid HM1
   replace HM2 := Lib.hid HM2
   replace HD := Lib.hid HD
   generalize (xgcd a b).1 - a * (xgcd a b).2.1 = d at *
   generalize a * (xgcd a b).2.1 = p at *
   generalize hg : (xgcd a b).1 = g at *
   generalize hx : (xgcd a b).2.1 = x at *
   generalize hy : (xgcd a b).2.2 = y at *
   replace hg := Lib.hid hg
   replace hx := Lib.hid hx
   replace hy := Lib.hid hy
   generalize sgn G = s at *
   have hA := hL0.fc
   simp only [fcG, cellsF, neK, and_true, ne_eq, Nat.zero_add, Nat.reduceAdd] at hA
   go_wp2_with fail
   clear hA
   with_reducible refine Calls.mono (HSg.out _) ?_
   rintro e x6 ⟨rfl, hb⟩
   replace hL0 := hL0.call hb
   clear hb
   have hA := hL0.fc
   simp only [fcG, cellsF, neK, and_true, ne_eq, Nat.zero_add, Nat.reduceAdd] at hA
   go_wp2_with fail
   clear hA
   with_reducible refine Calls.mono (HOs.out _) ?_
   rintro e x7 ⟨rfl, hb⟩
   replace hL0 := hL0.call hb
   clear hb
   replace hL0 := (hL0.new rfl [.int .u64 ((zl s : Nat) : Int), .string (zh s), .bool (zs s)] 32)
   generalize hweq : (x7.alloc (.cells #[.int .u64 ((zl s : Nat) : Int), .string (zh s), .bool (zs s)] 32)) = x8 at hL0
   have hA := hL0.fc
   simp only [fcG, cellsF, neK, and_true, ne_eq, Nat.zero_add, Nat.reduceAdd] at hA
   go_upto_region 8 with fail
   clear hA
   clear hweq
   obtain ⟨α, iα, F, hF1, hF2⟩ := cls x8
   have hq := GL.fcC hF1 hL0
   simp only [fcC, cellsC, and_true, Nat.zero_add, Nat.reduceAdd] at hq
   refine region_qs 6 (C := fun w' => ∃ x, w' = F x) (by kernel_rfl) (by kernel_rfl) (cls_drew hF2) ?_
   simp only [List.take_succ_cons, List.take_zero, List.drop_succ_cons, List.drop_zero, List.take_nil, List.drop_nil]
   repeat (go_big_quiet_step (first | fail | (go_at_call 141; with_reducible exact cls_call hF1 hF2 HM1.out _) | (go_at_call 141; with_reducible exact cls_call hF1 hF2 HM2.out _)))
   refine wpQuiet_nil ?_
   rintro wq ⟨xq, rfl⟩
   replace hL0 := hL0.call (hF1 xq)
   clear hq hF2
   generalize F xq = x9 at hL0 ⊢
   clear hF1 xq iα F α
   have hA := hL0.fc
   simp only [fcG, cellsF, neK, and_true, ne_eq, Nat.zero_add, Nat.reduceAdd] at hA
   have hP := hL0.put 5 (w.heap.size + 1 + 1) _ rfl [.int .u64 ((zl g : Nat) : Int), .string (zh g), .bool (zs g)] rfl
   simp only [setAll, List.set_cons_zero, List.set_cons_succ] at hP
   generalize hput3 : (((x9.setCell ⟨w.heap.size + 1 + 1, 0, none⟩ (.int .u64 ((zl g : Nat) : Int))).setCell ⟨w.heap.size + 1 + 1, 1, none⟩ (.string (zh g))).setCell ⟨w.heap.size + 1 + 1, 2, none⟩ (.bool (zs g))) = x10 at hP
   have hB3 := hP.fc
   simp only [fcG, cellsF, neK, and_true, ne_eq, Nat.zero_add, Nat.reduceAdd] at hB3
   replace hL0 := hP
   have hP := hL0.put 4 (w.heap.size + 1 + 1 + 1) _ rfl [.int .u64 ((zl x : Nat) : Int), .string (zh x), .bool (zs x)] rfl
   simp only [setAll, List.set_cons_zero, List.set_cons_succ] at hP
   generalize hput4 : (((x10.setCell ⟨w.heap.size + 1 + 1 + 1, 0, none⟩ (.int .u64 ((zl x : Nat) : Int))).setCell ⟨w.heap.size + 1 + 1 + 1, 1, none⟩ (.string (zh x))).setCell ⟨w.heap.size + 1 + 1 + 1, 2, none⟩ (.bool (zs x))) = x11 at hP
   have hB4 := hP.fc
   simp only [fcG, cellsF, neK, and_true, ne_eq, Nat.zero_add, Nat.reduceAdd] at hB4
   replace hL0 := hP
   go_upto_region 9 with fail
   clear hA
   clear hput3 hB3 hput4 hB4
   obtain ⟨α, iα, F, hF1, hF2⟩ := cls x11
   have hq := GL.fcC hF1 hL0
   simp only [fcC, cellsC, and_true, Nat.zero_add, Nat.reduceAdd] at hq
   refine region_qa 8 (C := fun w' => ∃ x, w' = F x) (by kernel_rfl) (by kernel_rfl) (cls_drew hF2) ?_
   simp only [List.take_succ_cons, List.take_zero, List.drop_succ_cons, List.drop_zero, List.take_nil, List.drop_nil]
   repeat (go_big_quiet_step (first | fail | (go_at_call 141; with_reducible exact cls_call hF1 hF2 HM3.out _) | (go_at_call 146; with_reducible exact cls_call hF1 hF2 HS.out _) | (go_at_call 21; with_reducible exact cls_call hF1 hF2 HD.out _)))
   refine wpQuiet_nil ?_
   rintro wq ⟨xq, rfl⟩
   replace hL0 := hL0.call (hF1 xq)
   clear hq hF2
   generalize F xq = x12 at hL0 ⊢
   clear hF1 xq iα F α
   refine any_pure (i := 8) (m := 3) _ (intV y) rfl rfl (by kernel_rfl) (fun _ _ _ h => h) (fun w => by simp [execOp, go_sem]) ?_
   refine any_pure (i := 9) (m := 2) _ (intV R) rfl rfl (by kernel_rfl) (fun _ _ _ h => h) (fun w => by simp [execOp, go_sem]) ?_
   refine any_pure (i := 10) (m := 1) _ (.bool o) rfl rfl (by kernel_rfl) (fun _ _ _ h => h) (fun w => by simp [execOp, go_sem]) ?_
   refine any_seq 11 rfl (by kernel_rfl) ?_
   simp only [List.take_succ_cons, List.take_zero, List.drop_succ_cons, List.drop_zero, List.take_nil, List.drop_nil]
   have hA := hL0.fc
   simp only [fcG, cellsF, neK, and_true, ne_eq, Nat.zero_add, Nat.reduceAdd] at hA
   have hP := hL0.put 3 (w.heap.size + 1 + 1 + 1 + 1) _ rfl [.int .u64 ((zl y : Nat) : Int), .string (zh y), .bool (zs y)] rfl
   simp only [setAll, List.set_cons_zero, List.set_cons_succ] at hP
   generalize hput5 : (((x12.setCell ⟨w.heap.size + 1 + 1 + 1 + 1, 0, none⟩ (.int .u64 ((zl y : Nat) : Int))).setCell ⟨w.heap.size + 1 + 1 + 1 + 1, 1, none⟩ (.string (zh y))).setCell ⟨w.heap.size + 1 + 1 + 1 + 1, 2, none⟩ (.bool (zs y))) = x13 at hP
   have hB5 := hP.fc
   simp only [fcG, cellsF, neK, and_true, ne_eq, Nat.zero_add, Nat.reduceAdd] at hB5
   replace hL0 := hP
   go_upto_region 10 with fail
   clear hput5 hB5
   clear hA
   have hA := hL0.fc
   simp only [fcG, cellsF, neK, and_true, ne_eq, Nat.zero_add, Nat.reduceAdd] at hA
   obtain ⟨⟨c0, c1, c2⟩, cf0, cn0, ⟨c3, c4, c5⟩, cf1, cn1, ⟨c6, c7, c8⟩, cf2, cn2, ⟨c9, c10, c11⟩, cf3, cn3, ⟨c12, c13, c14⟩, cf4, cn4, ⟨c15, c16, c17⟩, cf5, cn5, ⟨c18, c19, c20⟩, cf6, cn6, ⟨c21, c22, c23⟩, cf7⟩ := id hA
   clear hA
   go_region
   have hP := (((hL0.put 5 (w.heap.size + 1 + 1) _ rfl [.int .u64 ((zl g : Nat) : Int), .string (zh g), .bool (zs g)] rfl).put 4 (w.heap.size + 1 + 1 + 1) _ rfl [.int .u64 ((zl x : Nat) : Int), .string (zh x), .bool (zs x)] rfl).put 3 (w.heap.size + 1 + 1 + 1 + 1) _ rfl [.int .u64 ((zl y : Nat) : Int), .string (zh y), .bool (zs y)] rfl).drew
   simp only [setAll, List.set_cons_zero, List.set_cons_succ] at hP
   generalize (((((((((x13.setCell ⟨w.heap.size + 1 + 1, 0, none⟩ (.int .u64 ((zl g : Nat) : Int))).setCell ⟨w.heap.size + 1 + 1, 1, none⟩ (.string (zh g))).setCell ⟨w.heap.size + 1 + 1, 2, none⟩ (.bool (zs g))).setCell ⟨w.heap.size + 1 + 1 + 1, 0, none⟩ (.int .u64 ((zl x : Nat) : Int))).setCell ⟨w.heap.size + 1 + 1 + 1, 1, none⟩ (.string (zh x))).setCell ⟨w.heap.size + 1 + 1 + 1, 2, none⟩ (.bool (zs x))).setCell ⟨w.heap.size + 1 + 1 + 1 + 1, 0, none⟩ (.int .u64 ((zl y : Nat) : Int))).setCell ⟨w.heap.size + 1 + 1 + 1 + 1, 1, none⟩ (.string (zh y))).setCell ⟨w.heap.size + 1 + 1 + 1 + 1, 2, none⟩ (.bool (zs y))).drew = x14 at hP ⊢
   clear hL0
   have hL0 := hP
   clear hP
   clear c0 c1 c2 cf0 cn0 c3 c4 c5 cf1 cn1 c6 c7 c8 cf2 cn2 c9 c10 c11 cf3 cn3 c12 c13 c14 cf4 cn4 c15 c16 c17 cf5 cn5 c18 c19 c20 cf6 cn6 c21 c22 c23 cf7
   have hA := hL0.fc
   simp only [fcG, cellsF, neK, and_true, ne_eq, Nat.zero_add, Nat.reduceAdd] at hA
   go_wp2_with fail
   exact bodyPost_ret (v := .tuple #[intV g, intV x, intV y]) (by simp [results, Tryz.results145, go_sem, hA]) rfl ⟨by rw [hg.out, hx.out, hy.out], hL0.bl⟩
  ·have HD := Lib.hid (fun w => divI G N hN (by omega) (by omega) w)
   have q1 : dI (G / N) ≤ 1000 := Nat.le_trans (dI_mono (Int.natAbs_ediv_le_natAbs _ _)) b1
   have HM := Lib.hid (fun w => mulI (G / N) Y (by omega) (by have := b4 hN; omega) w)
   have q2 : dI (G / N * Y) ≤ 1000 + 1001 := dI_mul q1 (b4 hN)
   have HS := Lib.hid (fun w => subI X (G / N * Y) (by omega) (by omega) w)
   have hG1 := Lib.hid (hG.next hN)
   have hlt := Lib.hid (Int.emod_lt G hN)
   have hge := Lib.hid (Int.emod_nonneg G hN)
   have hw0 := Lib.hid (rdz (hL0.get _ _ (List.mem_cons_of_mem _ List.mem_cons_self)))
   generalize X - G / N * Y = Y' at *
   generalize G / N * Y = p at *
   generalize G / N = q at *
   generalize G % N = r at *
   have e := nez hN
   clear hG b1 b2 b3 b4 q1 q2 ha hb hN
   rcases e with e0 | ⟨e0, e1⟩ | ⟨e0, e1, e2⟩
   all_goals (
    have hA := hL0.fc
    simp only [fcG, cellsF, neK, and_true, ne_eq, Nat.zero_add, Nat.reduceAdd] at hA
    go_wp2_with fail
    clear hA
    with_reducible refine Calls.mono (HD.out _) ?_
    rintro e x15 ⟨rfl, hb⟩
    replace hL0 := hL0.call hb
    clear hb
    replace hL0 := ((hL0.new rfl [.int .u64 ((zl q : Nat) : Int), .string (zh q), .bool (zs q)] 32).new (K := x15.heap.size + 1) (szA _ _) [.int .u64 ((zl r : Nat) : Int), .string (zh r), .bool (zs r)] 32)
    generalize hweq : ((x15.alloc (.cells #[.int .u64 ((zl q : Nat) : Int), .string (zh q), .bool (zs q)] 32)).alloc (.cells #[.int .u64 ((zl r : Nat) : Int), .string (zh r), .bool (zs r)] 32)) = x16 at hL0
    have hA := hL0.fc
    simp only [fcG, cellsF, neK, and_true, ne_eq, Nat.zero_add, Nat.reduceAdd] at hA
    go_upto_region 5 with fail
    clear hweq
    obtain ⟨⟨c0, c1, c2⟩, cf0, cn0, ⟨c3, c4, c5⟩, cf1, cn1, ⟨c6, c7, c8⟩, cf2, cn2, ⟨c9, c10, c11⟩, cf3, cn3, ⟨c12, c13, c14⟩, cf4, cn4, ⟨c15, c16, c17⟩, cf5, cn5, ⟨c18, c19, c20⟩, cf6, cn6, ⟨c21, c22, c23⟩, cf7, cn7, ⟨c24, c25, c26⟩, cf8⟩ := id hA
    clear hA
    go_region
    have hP := ((hL0.put 6 (w.heap.size + 1 + 1) _ rfl [.int .u64 ((zl N : Nat) : Int), .string (zh N), .bool (zs N)] rfl).put 3 (k5_7) _ rfl [.int .u64 ((zl r : Nat) : Int), .string (zh r), .bool (zs r)] rfl).drew
    simp only [setAll, List.set_cons_zero, List.set_cons_succ] at hP
    generalize ((((((x16.setCell ⟨w.heap.size + 1 + 1, 0, none⟩ (.int .u64 ((zl N : Nat) : Int))).setCell ⟨w.heap.size + 1 + 1, 1, none⟩ (.string (zh N))).setCell ⟨w.heap.size + 1 + 1, 2, none⟩ (.bool (zs N))).setCell ⟨k5_7, 0, none⟩ (.int .u64 ((zl r : Nat) : Int))).setCell ⟨k5_7, 1, none⟩ (.string (zh r))).setCell ⟨k5_7, 2, none⟩ (.bool (zs r))).drew = x17 at hP ⊢
    clear hL0
    have hL0 := hP
    clear hP
    clear c0 c1 c2 cf0 cn0 c3 c4 c5 cf1 cn1 c6 c7 c8 cf2 cn2 c9 c10 c11 cf3 cn3 c12 c13 c14 cf4 cn4 c15 c16 c17 cf5 cn5 c18 c19 c20 cf6 cn6 c21 c22 c23 cf7 cn7 c24 c25 c26 cf8
    have hA := hL0.fc
    simp only [fcG, cellsF, neK, and_true, ne_eq, Nat.zero_add, Nat.reduceAdd] at hA
    go_upto_region 6 with fail
    clear hA
    obtain ⟨α, iα, F, hF1, hF2⟩ := cls x17
    have hq := GL.fcC hF1 hL0
    simp only [fcC, cellsC, and_true, Nat.zero_add, Nat.reduceAdd] at hq
    refine region_qs 6 (C := fun w' => ∃ x, w' = F x) (by kernel_rfl) (by kernel_rfl) (cls_drew hF2) ?_
    simp only [List.take_succ_cons, List.take_zero, List.drop_succ_cons, List.drop_zero, List.take_nil, List.drop_nil]
    repeat (go_big_quiet_step (first | fail | (go_at_call 141; with_reducible exact cls_call hF1 hF2 HM.out _) | (go_at_call 146; with_reducible exact cls_call hF1 hF2 HS.out _)))
    refine wpQuiet_nil ?_
    rintro wq ⟨xq, rfl⟩
    replace hL0 := hL0.call (hF1 xq)
    clear hq hF2
    generalize F xq = x18 at hL0 ⊢
    clear hF1 xq iα F α
    have hA := hL0.fc
    simp only [fcG, cellsF, neK, and_true, ne_eq, Nat.zero_add, Nat.reduceAdd] at hA
    have hP := hL0.put 5 (w.heap.size + 1 + 1 + 1) _ rfl [.int .u64 ((zl Y : Nat) : Int), .string (zh Y), .bool (zs Y)] rfl
    simp only [setAll, List.set_cons_zero, List.set_cons_succ] at hP
    generalize hput6 : (((x18.setCell ⟨w.heap.size + 1 + 1 + 1, 0, none⟩ (.int .u64 ((zl Y : Nat) : Int))).setCell ⟨w.heap.size + 1 + 1 + 1, 1, none⟩ (.string (zh Y))).setCell ⟨w.heap.size + 1 + 1 + 1, 2, none⟩ (.bool (zs Y))) = x19 at hP
    have hB6 := hP.fc
    simp only [fcG, cellsF, neK, and_true, ne_eq, Nat.zero_add, Nat.reduceAdd] at hB6
    replace hL0 := hP
    have hP := hL0.put 2 (k5_8) _ rfl [.int .u64 ((zl Y' : Nat) : Int), .string (zh Y'), .bool (zs Y')] rfl
    simp only [setAll, List.set_cons_zero, List.set_cons_succ] at hP
    generalize hput7 : (((x19.setCell ⟨k5_8, 0, none⟩ (.int .u64 ((zl Y' : Nat) : Int))).setCell ⟨k5_8, 1, none⟩ (.string (zh Y'))).setCell ⟨k5_8, 2, none⟩ (.bool (zs Y'))) = x20 at hP
    have hB7 := hP.fc
    simp only [fcG, cellsF, neK, and_true, ne_eq, Nat.zero_add, Nat.reduceAdd] at hB7
    replace hL0 := hP
    go_wp2_with fail
    go_roundw
    case rel => exact ⟨N, Y, r, Y', hG1.out, hL0.weak (((List.Sublist.refl _).cons _).cons _)⟩
    case measure => (rw [hw0.out, rdz (hL0.get k5_7 [.int .u64 ((zl r : Nat) : Int), .string (zh r), .bool (zs r)] (by simp))]; have := hlt.out; have := hge.out; omega))
end Go.Proofs.YtaimebjkidegiaaGreatDoor
namespace Go.Proofs.YtaimebjkidegiaaGreatDoor
open Go.RowKit
theorem canc {z : Int} {d : Nat} (hd : d ≠ 0) : (mkRat z d).num = z.tdiv (Nat.gcd z.natAbs d : Nat) ∧ (mkRat z d).den = d / Nat.gcd z.natAbs d := by
 have hg : ((Nat.gcd z.natAbs d : Nat) : Int) ∣ z := by rw [← Int.dvd_natAbs, Int.ofNat_dvd]; exact Nat.gcd_dvd_left _ _
 rw [Rat.num_mkRat, Rat.den_mkRat, if_neg hd, if_neg hd, Nat.gcd_comm d]
 exact ⟨(Int.tdiv_eq_ediv_of_dvd hg).symm, rfl⟩
theorem num_le_add (a b : Rat) : (a + b).num.natAbs ≤ (a.num * b.den + b.num * a.den).natAbs := by
 rw [Rat.num_add]; exact Int.natAbs_ediv_le_natAbs _ _
theorem den_le_add (a b : Rat) : (a + b).den ≤ a.den * b.den := by
 rw [Rat.den_add]; exact Nat.div_le_self _ _
/-- The denominator as it is kept: 0 stands for 1. -/
def fe (q : Rat) : Nat := if q.den = 1 then 0 else q.den
theorem fe_one {q : Rat} (h : q.den = 1) : fe q = 0 := if_pos h
theorem fe_ne {q : Rat} (h : q.den ≠ 1) : fe q = q.den := if_neg h
/-- A fraction: its numerator, and its denominator as it is kept. -/
abbrev frV (n : Int) (e : Nat) : Value := .agg #[.int .u64 ((zl n : Nat) : Int), .string (zh n), .bool (zs n), .int .u64 ((lo e : Nat) : Int), .string (hs e)]
abbrev fracV (q : Rat) : Value := frV q.num (fe q)
/-- What == sees of two naturals that differ. -/
theorem ne_nat {a b : Nat} (h : a ≠ b) : (((lo a : Nat) : Int) == ((lo b : Nat) : Int)) = false ∨ ((((lo a : Nat) : Int) == ((lo b : Nat) : Int)) = true ∧ ((hs a).toList == (hs b).toList) = false) := by
 by_cases h1 : lo a = lo b
 ·right
  refine ⟨by rw [h1]; exact beq_self_eq_true _, beq_eq_false_iff_ne.2 fun h3 => h ?_⟩
  rw [hs_toList, hs_toList] at h3
  have h4 := hiB_inj h3
  have h5 := divmod a
  have h6 := divmod b
  rw [h4, h1, ← h6] at h5
  exact h5
 ·left
  exact beq_eq_false_iff_ne.2 fun h2 => h1 (by omega)
/-- At most k words in the numerator and in the denominator. -/
def Sz (q : Rat) (k : Nat) : Prop := dI q.num ≤ k ∧ (digs q.den).length ≤ k
theorem Sz.n {q : Rat} {k : Nat} (h : Sz q k) : dI q.num ≤ k := h.1
theorem Sz.d {q : Rat} {k : Nat} (h : Sz q k) : (digs q.den).length ≤ k := h.2
theorem Sz.mono {q : Rat} {k m : Nat} (h : Sz q k) (hm : k ≤ m) : Sz q m := ⟨Nat.le_trans h.1 hm, Nat.le_trans h.2 hm⟩
theorem Sz.neg {q : Rat} {k : Nat} (h : Sz q k) : Sz (-q) k := ⟨by rw [Rat.neg_num, dI_neg]; exact h.1, h.2⟩
theorem Sz.add {p q : Rat} {k m : Nat} (hp : Sz p k) (hq : Sz q m) : Sz (p + q) (k + m + 1) := by
 constructor
 ·refine Nat.le_trans (dI_mono (num_le_add p q)) (dI_add (k := k + m) (dI_mul hp.1 (by rw [dI_nat]; exact hq.2)) ?_)
  rw [Nat.add_comm k m]
  exact dI_mul hq.1 (by rw [dI_nat]; exact hp.2)
 ·exact Nat.le_trans (digs_mono (den_le_add p q)) (Nat.le_trans (digs_mul_le hp.2 hq.2) (by omega))
theorem Sz.sub {p q : Rat} {k m : Nat} (hp : Sz p k) (hq : Sz q m) : Sz (p - q) (k + m + 1) := by
 rw [Rat.sub_eq_add_neg]; exact hp.add hq.neg
theorem Sz.int {z : Int} {k : Nat} (h : dI z ≤ k) (hk : 0 < k) : Sz (z : Rat) k :=
 ⟨h, Nat.le_trans (digs_length_iff (k := 1).2 (by show (z : Rat).den < _; rw [Rat.den_intCast, Nat.pow_one]; exact Bs_gt)) hk⟩
theorem Sz.mk {z : Int} {d k : Nat} (hz : dI z ≤ k) (hd : (digs d).length ≤ k) (h0 : d ≠ 0) : Sz (mkRat z d) k := by
 obtain ⟨h1, h2⟩ := canc (z := z) h0
 refine ⟨?_, ?_⟩
 ·rw [h1]
  refine Nat.le_trans (dI_mono ?_) hz
  rw [Int.natAbs_tdiv]
  exact Nat.div_le_self _ _
 ·rw [h2]; exact Nat.le_trans (digs_mono (Nat.div_le_self _ _)) hd
theorem new_natc (w : World) : (Instr.alloc 30 true (.tuple #[])).run Tryz.prog w = .ok (.pointer (some ⟨w.heap.size, 0, none⟩)) (w.alloc (.cells #[.int .u64 0, .string ⟨#[]⟩] 30)) := by
 simp [go_sem, Instr.alloc]
theorem put_natc (i0 i : Int) (s0 s : ByteArray) (w : World) (k : Nat) (h : Hd w k [.int .u64 i0, .string s0]) :
  ∃ w', (Instr.storeAt 30 (.pointer (some ⟨k, 0, none⟩)) (.agg #[.int .u64 i, .string s])).run Tryz.prog w = .ok () w' ∧ Hd w' k [.int .u64 i, .string s] ∧ Upd k w w' := by
 have h0 : w.cell? ⟨k, 0, none⟩ = some (.int .u64 i0) := h.cell 0 (by simp)
 have h1 : w.cell? ⟨k, 1, none⟩ = some (.string s0) := h.cell 1 (by simp)
 have hf := h.frz
 refine ⟨_, ?_, setAll_hd [.int .u64 i, .string s] 0 w k [] [.int .u64 i0, .string s0] rfl rfl h, (((Upd.refl k w).setCell 0 _).setCell 1 _)⟩
 simp [go_sem, Instr.storeAt, Instr.sureAddr, h0, h1, hf, setAll]
theorem new_frac (w : World) : (Instr.alloc 34 true (.tuple #[])).run Tryz.prog w = .ok (.pointer (some ⟨w.heap.size, 0, none⟩)) (w.alloc (.cells #[.int .u64 0, .string ⟨#[]⟩, .bool false, .int .u64 0, .string ⟨#[]⟩] 34)) := by
 simp [go_sem, Instr.alloc]
theorem put_frac (i0 i : Int) (s0 s : ByteArray) (b0 b : Bool) (j0 j : Int) (t0 t : ByteArray) (w : World) (k : Nat) (h : Hd w k [.int .u64 i0, .string s0, .bool b0, .int .u64 j0, .string t0]) :
  ∃ w', (Instr.storeAt 34 (.pointer (some ⟨k, 0, none⟩)) (.agg #[.int .u64 i, .string s, .bool b, .int .u64 j, .string t])).run Tryz.prog w = .ok () w' ∧ Hd w' k [.int .u64 i, .string s, .bool b, .int .u64 j, .string t] ∧ Upd k w w' := by
 have h0 : w.cell? ⟨k, 0, none⟩ = some (.int .u64 i0) := h.cell 0 (by simp)
 have h1 : w.cell? ⟨k, 1, none⟩ = some (.string s0) := h.cell 1 (by simp)
 have h2 : w.cell? ⟨k, 2, none⟩ = some (.bool b0) := h.cell 2 (by simp)
 have h3 : w.cell? ⟨k, 3, none⟩ = some (.int .u64 j0) := h.cell 3 (by simp)
 have h4 : w.cell? ⟨k, 4, none⟩ = some (.string t0) := h.cell 4 (by simp)
 have hf := h.frz
 refine ⟨_, ?_, setAll_hd [.int .u64 i, .string s, .bool b, .int .u64 j, .string t] 0 w k [] [.int .u64 i0, .string s0, .bool b0, .int .u64 j0, .string t0] rfl rfl h, ((((((Upd.refl k w).setCell 0 _).setCell 1 _).setCell 2 _).setCell 3 _).setCell 4 _)⟩
 simp [go_sem, Instr.storeAt, Instr.sureAddr, h0, h1, h2, h3, h4, hf, setAll]
/-- A property of worlds that stays while memory is only made. -/
def Keeps (K : World → Prop) : Prop := ∀ w w', Below w.heap.size w w' → K w → K w'
theorem Keeps.at {K : World → Prop} (h : Keeps K) {w w' : World} (hb : Below w.heap.size w w') (hk : K w) : K w' := h _ _ hb hk
theorem Keeps.tab : Keeps Tab := fun _ _ hb h => h.below hb
theorem Keeps.and {K L : World → Prop} (h : Keeps K) (g : Keeps L) : Keeps (fun w => K w ∧ L w) := fun _ _ hb ⟨a, b⟩ => ⟨h _ _ hb a, g _ _ hb b⟩
end Go.Proofs.YtaimebjkidegiaaGreatDoor
namespace Go.Proofs.YtaimebjkidegiaaGreatDoor
open Go.RowKit
attribute [local irreducible] lo hs sm s64 c64 d64 b64 mh ml pd pc qd qc val hiB str cmpI srD lz nb isq zl zh zs
theorem cls_box {α : Type} {F : α → World} {z : World} (h1 : ∀ x, Below z.heap.size z (F x)) {w : World} {L : List (Nat × List Value)} (hL : GL w z L) (k : Nat) (c : List Value) (hm : (k, c) ∈ L) : cellsC F k 0 c :=
 cellsC_of c 0 fun x => cells_of c 0 [] rfl ((hL.get k c hm).below (h1 x))
theorem cls_callW {α : Type} {F : α → World} {w0 : World} (h1 : ∀ x, Below w0.heap.size w0 (F x)) (h2 : ∀ W, Below w0.heap.size w0 W → ∃ x, W = F x) {v0 : Value} {l : List Nat} (hw : Ws w0 v0 l) {P : Program} {f : FuncId} {args : Array Value} {v : Value}
  (h : ∀ w, Ws w v0 l → Calls P f args w fun e w' => e = .returned v ∧ Below w.heap.size w w') (x : α) : Calls P f args (F x) fun e w'' => e = .returned v ∧ ∃ y, w'' = F y :=
 (h (F x) (hw.below (h1 x))).mono fun _ _ ⟨he, hb⟩ => ⟨he, h2 _ ((h1 x).trans (hb.mono (h1 x).size))⟩
/-- An integer as plain data. -/
def zmade (s : Bool) (l : List Nat) : Int := if s then -(made l : Int) else (made l : Int)
theorem zmade_dI {s : Bool} {l : List Nat} (h : ∀ x ∈ l, x < 4294967296) : dI (zmade s l) ≤ l.length := by
 unfold zmade
 cases s
 ·simp only [Bool.false_eq_true, if_false, dI_nat]; exact made_digs h
 ·simp only [if_true, dI_neg, dI_nat]; exact made_digs h
set_option maxHeartbeats 4000000 in
set_option maxRecDepth 100000 in
theorem zof_any (s : Bool) (a : Option Addr) (n c : Nat) (l : List Nat) (hl : l.length ≤ 1000) (w : World) (hw : Ws w (.slice a n c) l) :
  Calls Tryz.prog 16 #[.agg #[.bool s, .slice a n c]] w fun e w' => e = .returned (intV (zmade s l)) ∧ Below w.heap.size w w' := by
 have hL0 : GL w w [] := GL.start w
 have HM := Lib.hid (fun w h => made_any (.slice a n c) l hl w h)
 have HF := Lib.hid (fun w => fromI s (made l) (zmade s l) rfl w)
 generalize hz : zmade s l = z at *
 replace hz := Lib.hid hz
 generalize made l = m at *
 clear hl
 replace hL0 := ((hL0.new rfl [.bool s, .slice a n c] 48).new (K := w.heap.size + 1) (szA _ _) [.int .u64 0, .string ⟨#[]⟩, .bool false] 32)
 generalize hweq : ((w.alloc (.cells #[.bool s, .slice a n c] 48)).alloc (.cells #[.int .u64 0, .string ⟨#[]⟩, .bool false] 32)) = x1 at hL0
 have hW := Lib.hid (hw.below hL0.bl)
 clear hw
 go_enter Tryz.func16, Tryz.ntmps16
 have hA := hL0.fc
 simp only [fcG, cellsF, neK, and_true, ne_eq, Nat.zero_add, Nat.reduceAdd] at hA
 go_upto_region 1 with fail
 clear hA
 clear hweq
 obtain ⟨α, iα, F, hF1, hF2⟩ := cls x1
 have hq := GL.fcC hF1 hL0
 simp only [fcC, cellsC, and_true, Nat.zero_add, Nat.reduceAdd] at hq
 refine region_qs 6 (C := fun w' => ∃ x, w' = F x) (by kernel_rfl) (by kernel_rfl) (cls_drew hF2) ?_
 simp only [List.take_succ_cons, List.take_zero, List.drop_succ_cons, List.drop_zero, List.take_nil, List.drop_nil]
 repeat (go_big_quiet_step (first | fail | (go_at_call 66; with_reducible exact cls_callW hF1 hF2 hW.out HM.out _) | (go_at_call 19; with_reducible exact cls_call hF1 hF2 HF.out _)))
 refine wpQuiet_nil ?_
 rintro wq ⟨xq, rfl⟩
 replace hL0 := hL0.call (hF1 xq)
 clear hq hF2
 generalize F xq = x2 at hL0 ⊢
 clear hF1 xq iα F α
 have hA := hL0.fc
 simp only [fcG, cellsF, neK, and_true, ne_eq, Nat.zero_add, Nat.reduceAdd] at hA
 have hP := hL0.put 0 (w.heap.size + 1) _ rfl [.int .u64 ((zl z : Nat) : Int), .string (zh z), .bool (zs z)] rfl
 simp only [setAll, List.set_cons_zero, List.set_cons_succ] at hP
 generalize hput1 : (((x2.setCell ⟨w.heap.size + 1, 0, none⟩ (.int .u64 ((zl z : Nat) : Int))).setCell ⟨w.heap.size + 1, 1, none⟩ (.string (zh z))).setCell ⟨w.heap.size + 1, 2, none⟩ (.bool (zs z))) = x3 at hP
 have hB1 := hP.fc
 simp only [fcG, cellsF, neK, and_true, ne_eq, Nat.zero_add, Nat.reduceAdd] at hB1
 replace hL0 := hP
 go_wp2_with fail
 exact bodyPost_ret (v := intV z) (by simp [results, Tryz.results16, go_sem, hB1]) rfl ⟨rfl, hL0.bl⟩
end Go.Proofs.YtaimebjkidegiaaGreatDoor
namespace Go.Proofs.YtaimebjkidegiaaGreatDoor
open Go.RowKit
attribute [local irreducible] lo hs sm s64 c64 d64 b64 mh ml pd pc qd qc val hiB str cmpI srD lz nb isq zl zh zs dval
theorem dI_small {z : Int} (h : z.natAbs < Bs) : dI z ≤ 1 := digs_length_iff.2 (by rw [Nat.pow_one]; exact h)
theorem dI_lit {z : Int} (h : z.natAbs < 18446744073709551616) : dI z ≤ 1 := dI_small (by unfold Bs; exact h)
end Go.Proofs.YtaimebjkidegiaaGreatDoor
namespace Go.Proofs.YtaimebjkidegiaaGreatDoor
open Go.RowKit
attribute [local irreducible] lo hs zl zh zs
theorem Ws.len {w : World} {a : Option Addr} {n c : Nat} {l : List Nat} (h : Ws w (.slice a n c) l) : l.length = n := by
 rcases h with ⟨ao, c1, h1, h2⟩ | ⟨a1, c1, h1, h2⟩
 ·simp only [Value.slice.injEq] at h1; rw [h2, h1.2.1]; rfl
 ·simp only [Value.slice.injEq] at h1; rw [h1.2.1]
end Go.Proofs.YtaimebjkidegiaaGreatDoor
namespace Go.Proofs.YtaimebjkidegiaaGreatDoor
open Go.RowKit
attribute [local irreducible] lo hs sm s64 c64 d64 b64 mh ml pd pc qd qc val hiB str cmpI srD lz nb isq zl zh zs
set_option maxHeartbeats 4000000 in
set_option maxRecDepth 100000 in
theorem whole_yes (n : Int) (w : World) :
  Calls Tryz.prog 119 #[frV n 0] w fun xe w' => xe = .returned (.bool true) ∧ Below w.heap.size w w' := by
 have hL0 : GL w w [] := GL.start w
 have e0 : (((lo 0 : Nat) : Int) == 0) = true := by rw [lo_small Bs_pos]; rfl
 have e1 : ((hs 0).toList == []) = true := by rw [hs_small Bs_pos, ByteArray.toList_eq]; rfl
 replace hL0 := (hL0.new rfl [.int .u64 ((zl n : Nat) : Int), .string (zh n), .bool (zs n), .int .u64 ((lo 0 : Nat) : Int), .string (hs 0)] 34)
 generalize hweq : (w.alloc (.cells #[.int .u64 ((zl n : Nat) : Int), .string (zh n), .bool (zs n), .int .u64 ((lo 0 : Nat) : Int), .string (hs 0)] 34)) = x1 at hL0
 go_enter Tryz.func119, Tryz.ntmps119
 have hN0 := cells_of _ 0 [] rfl (hL0.get _ _ List.mem_cons_self)
 simp only [cellsF, and_true, Nat.zero_add, Nat.reduceAdd] at hN0
 go_wp2_with fail
 exact bodyPost_ret (v := .bool true) (by simp [results, Tryz.results119, go_sem, hN0]) rfl ⟨rfl, hL0.bl⟩
set_option maxHeartbeats 4000000 in
set_option maxRecDepth 100000 in
theorem whole_no (n : Int) (e : Nat) (he : e ≠ 0) (w : World) :
  Calls Tryz.prog 119 #[frV n e] w fun xe w' => xe = .returned (.bool false) ∧ Below w.heap.size w w' := by
 have hL0 : GL w w [] := GL.start w
 have hz := ne0 he
 clear he
 rcases hz with e0 | ⟨e0, e1⟩
 all_goals (
  replace hL0 := (hL0.new rfl [.int .u64 ((zl n : Nat) : Int), .string (zh n), .bool (zs n), .int .u64 ((lo e : Nat) : Int), .string (hs e)] 34)
  generalize hweq : (w.alloc (.cells #[.int .u64 ((zl n : Nat) : Int), .string (zh n), .bool (zs n), .int .u64 ((lo e : Nat) : Int), .string (hs e)] 34)) = x1 at hL0
  go_enter Tryz.func119, Tryz.ntmps119
  have hN0 := cells_of _ 0 [] rfl (hL0.get _ _ List.mem_cons_self)
  simp only [cellsF, and_true, Nat.zero_add, Nat.reduceAdd] at hN0
  go_wp2_with fail
  exact bodyPost_ret (v := .bool false) (by simp [results, Tryz.results119, go_sem, hN0]) rfl ⟨rfl, hL0.bl⟩)
set_option maxHeartbeats 4000000 in
set_option maxRecDepth 100000 in
theorem den_one_w (n : Int) (HW : RT 119 #[frV n 0] (.bool true)) (HO : RT 17 #[.int .u64 1] (natV 1)) (w : World) :
  Calls Tryz.prog 45 #[frV n 0] w fun xe w' => xe = .returned (natV 1) ∧ Below w.heap.size w w' := by
 have hL0 : GL w w [] := GL.start w
 replace HW := Lib.hid HW
 replace HO := Lib.hid HO
 replace hL0 := ((hL0.new rfl [.int .u64 ((zl n : Nat) : Int), .string (zh n), .bool (zs n), .int .u64 ((lo 0 : Nat) : Int), .string (hs 0)] 34).new (K := w.heap.size + 1) (szA _ _) [.int .u64 0, .string ⟨#[]⟩] 30)
 generalize hweq : ((w.alloc (.cells #[.int .u64 ((zl n : Nat) : Int), .string (zh n), .bool (zs n), .int .u64 ((lo 0 : Nat) : Int), .string (hs 0)] 34)).alloc (.cells #[.int .u64 0, .string ⟨#[]⟩] 30)) = x1 at hL0
 go_enter Tryz.func45, Tryz.ntmps45
 have hN0 := cells_of _ 0 [] rfl (hL0.get _ _ (List.mem_cons_of_mem _ List.mem_cons_self))
 simp only [cellsF, and_true, Nat.zero_add, Nat.reduceAdd] at hN0
 go_wp2_with fail
 clear hN0
 with_reducible refine Calls.mono (HW.out _) ?_
 rintro e x2 ⟨rfl, hb⟩
 replace hL0 := hL0.call hb
 clear hb hweq
 go_wp2_with fail
 with_reducible refine Calls.mono (HO.out _) ?_
 rintro e x3 ⟨rfl, hb⟩
 replace hL0 := hL0.call hb
 clear hb
 have hA := hL0.fc
 simp only [fcG, cellsF, neK, and_true, ne_eq, Nat.zero_add, Nat.reduceAdd] at hA
 have hP := hL0.put 0 (w.heap.size + 1) _ rfl [.int .u64 ((lo 1 : Nat) : Int), .string (hs 1)] rfl
 simp only [setAll, List.set_cons_zero, List.set_cons_succ] at hP
 generalize hput1 : ((x3.setCell ⟨w.heap.size + 1, 0, none⟩ (.int .u64 ((lo 1 : Nat) : Int))).setCell ⟨w.heap.size + 1, 1, none⟩ (.string (hs 1))) = x4 at hP
 have hB1 := hP.fc
 simp only [fcG, cellsF, neK, and_true, ne_eq, Nat.zero_add, Nat.reduceAdd] at hB1
 replace hL0 := hP
 go_wp2_with fail
 exact bodyPost_ret (v := natV 1) (by simp [results, Tryz.results45, go_sem, hB1]) rfl ⟨rfl, hL0.bl⟩
set_option maxHeartbeats 4000000 in
set_option maxRecDepth 100000 in
theorem den_part_w (n : Int) (e : Nat) (HW : RT 119 #[frV n e] (.bool false)) (w : World) :
  Calls Tryz.prog 45 #[frV n e] w fun xe w' => xe = .returned (natV e) ∧ Below w.heap.size w w' := by
 have hL0 : GL w w [] := GL.start w
 replace HW := Lib.hid HW
 replace hL0 := ((hL0.new rfl [.int .u64 ((zl n : Nat) : Int), .string (zh n), .bool (zs n), .int .u64 ((lo e : Nat) : Int), .string (hs e)] 34).new (K := w.heap.size + 1) (szA _ _) [.int .u64 0, .string ⟨#[]⟩] 30)
 generalize hweq : ((w.alloc (.cells #[.int .u64 ((zl n : Nat) : Int), .string (zh n), .bool (zs n), .int .u64 ((lo e : Nat) : Int), .string (hs e)] 34)).alloc (.cells #[.int .u64 0, .string ⟨#[]⟩] 30)) = x1 at hL0
 go_enter Tryz.func45, Tryz.ntmps45
 have hN0 := cells_of _ 0 [] rfl (hL0.get _ _ (List.mem_cons_of_mem _ List.mem_cons_self))
 simp only [cellsF, and_true, Nat.zero_add, Nat.reduceAdd] at hN0
 go_wp2_with fail
 clear hN0
 with_reducible refine Calls.mono (HW.out _) ?_
 rintro e x2 ⟨rfl, hb⟩
 replace hL0 := hL0.call hb
 clear hb hweq
 have hA := hL0.fc
 simp only [fcG, cellsF, neK, and_true, ne_eq, Nat.zero_add, Nat.reduceAdd] at hA
 have hP := hL0.put 0 (w.heap.size + 1) _ rfl [.int .u64 ((lo e : Nat) : Int), .string (hs e)] rfl
 simp only [setAll, List.set_cons_zero, List.set_cons_succ] at hP
 generalize hput1 : ((x2.setCell ⟨w.heap.size + 1, 0, none⟩ (.int .u64 ((lo e : Nat) : Int))).setCell ⟨w.heap.size + 1, 1, none⟩ (.string (hs e))) = x3 at hP
 have hB1 := hP.fc
 simp only [fcG, cellsF, neK, and_true, ne_eq, Nat.zero_add, Nat.reduceAdd] at hB1
 replace hL0 := hP
 go_wp2_with fail
 exact bodyPost_ret (v := natV e) (by simp [results, Tryz.results45, go_sem, hB1]) rfl ⟨rfl, hL0.bl⟩
set_option maxHeartbeats 4000000 in
set_option maxRecDepth 100000 in
theorem lowest_one (n : Int) (HO : RT 17 #[.int .u64 1] (natV 1)) (w : World) :
  Calls Tryz.prog 172 #[intV n, natV 1] w fun xe w' => xe = .returned (.agg #[.int .u64 ((zl n : Nat) : Int), .string (zh n), .bool (zs n), .int .u64 0, .string ⟨#[]⟩]) ∧ Below w.heap.size w w' := by
 have hL0 : GL w w [] := GL.start w
 replace HO := Lib.hid HO
 replace hL0 := (((hL0.new rfl [.int .u64 ((zl n : Nat) : Int), .string (zh n), .bool (zs n)] 32).new (K := w.heap.size + 1) (szA _ _) [.int .u64 ((lo 1 : Nat) : Int), .string (hs 1)] 30).new (K := w.heap.size + 1 + 1) (by simp only [World.size_alloc]) [.int .u64 0, .string ⟨#[]⟩, .bool false, .int .u64 0, .string ⟨#[]⟩] 34)
 generalize hweq : (((w.alloc (.cells #[.int .u64 ((zl n : Nat) : Int), .string (zh n), .bool (zs n)] 32)).alloc (.cells #[.int .u64 ((lo 1 : Nat) : Int), .string (hs 1)] 30)).alloc (.cells #[.int .u64 0, .string ⟨#[]⟩, .bool false, .int .u64 0, .string ⟨#[]⟩] 34)) = x1 at hL0
 go_enter Tryz.func172, Tryz.ntmps172
 go_upto_region 1 with fail
 clear hweq
 obtain ⟨α, iα, F, hF1, hF2⟩ := cls x1
 have hq0 := cls_box hF1 hL0 _ _ (List.mem_cons_of_mem _ List.mem_cons_self)
 simp only [cellsC, and_true, Nat.zero_add, Nat.reduceAdd] at hq0
 refine region_qs 3 (C := fun w' => ∃ x, w' = F x) (by kernel_rfl) (by kernel_rfl) (cls_drew hF2) ?_
 simp only [List.take_succ_cons, List.take_zero, List.drop_succ_cons, List.drop_zero, List.take_nil, List.drop_nil]
 repeat (go_big_quiet_step (first | fail | (go_at_call 17; with_reducible exact cls_call hF1 hF2 HO.out _)))
 refine wpQuiet_nil ?_
 rintro wq ⟨xq, rfl⟩
 replace hL0 := hL0.call (hF1 xq)
 clear  hq0 hF2
 generalize F xq = x2 at hL0 ⊢
 clear hF1 xq iα F α
 have hA := hL0.fc
 simp only [fcG, cellsF, neK, and_true, ne_eq, Nat.zero_add, Nat.reduceAdd] at hA
 have hP := hL0.put 0 (w.heap.size + 1 + 1) _ rfl [.int .u64 ((zl n : Nat) : Int), .string (zh n), .bool (zs n), .int .u64 0, .string ⟨#[]⟩] rfl
 simp only [setAll, List.set_cons_zero, List.set_cons_succ] at hP
 generalize hput1 : (((((x2.setCell ⟨w.heap.size + 1 + 1, 0, none⟩ (.int .u64 ((zl n : Nat) : Int))).setCell ⟨w.heap.size + 1 + 1, 1, none⟩ (.string (zh n))).setCell ⟨w.heap.size + 1 + 1, 2, none⟩ (.bool (zs n))).setCell ⟨w.heap.size + 1 + 1, 3, none⟩ (.int .u64 0)).setCell ⟨w.heap.size + 1 + 1, 4, none⟩ (.string ⟨#[]⟩)) = x3 at hP
 have hB1 := hP.fc
 simp only [fcG, cellsF, neK, and_true, ne_eq, Nat.zero_add, Nat.reduceAdd] at hB1
 replace hL0 := hP
 go_wp2_with fail
 exact bodyPost_ret (v := .agg #[.int .u64 ((zl n : Nat) : Int), .string (zh n), .bool (zs n), .int .u64 0, .string ⟨#[]⟩]) (by simp [results, Tryz.results172, go_sem, hB1]) rfl ⟨rfl, hL0.bl⟩
set_option maxHeartbeats 4000000 in
set_option maxRecDepth 100000 in
theorem lowest_part (n : Int) (d : Nat) (HO : RT 17 #[.int .u64 1] (natV 1)) (hd : d ≠ 1) (w : World) :
  Calls Tryz.prog 172 #[intV n, natV d] w fun xe w' => xe = .returned (frV n d) ∧ Below w.heap.size w w' := by
 have hL0 : GL w w [] := GL.start w
 replace HO := Lib.hid HO
 have hz := ne_nat hd
 clear hd
 rcases hz with e0 | ⟨e0, e1⟩
 all_goals (
  replace hL0 := (((hL0.new rfl [.int .u64 ((zl n : Nat) : Int), .string (zh n), .bool (zs n)] 32).new (K := w.heap.size + 1) (szA _ _) [.int .u64 ((lo d : Nat) : Int), .string (hs d)] 30).new (K := w.heap.size + 1 + 1) (by simp only [World.size_alloc]) [.int .u64 0, .string ⟨#[]⟩, .bool false, .int .u64 0, .string ⟨#[]⟩] 34)
  generalize hweq : (((w.alloc (.cells #[.int .u64 ((zl n : Nat) : Int), .string (zh n), .bool (zs n)] 32)).alloc (.cells #[.int .u64 ((lo d : Nat) : Int), .string (hs d)] 30)).alloc (.cells #[.int .u64 0, .string ⟨#[]⟩, .bool false, .int .u64 0, .string ⟨#[]⟩] 34)) = x1 at hL0
  go_enter Tryz.func172, Tryz.ntmps172
  go_upto_region 1 with fail
  clear hweq
  obtain ⟨α, iα, F, hF1, hF2⟩ := cls x1
  have hq0 := cls_box hF1 hL0 _ _ (List.mem_cons_of_mem _ List.mem_cons_self)
  simp only [cellsC, and_true, Nat.zero_add, Nat.reduceAdd] at hq0
  refine region_qs 3 (C := fun w' => ∃ x, w' = F x) (by kernel_rfl) (by kernel_rfl) (cls_drew hF2) ?_
  simp only [List.take_succ_cons, List.take_zero, List.drop_succ_cons, List.drop_zero, List.take_nil, List.drop_nil]
  repeat (go_big_quiet_step (first | fail | (go_at_call 17; with_reducible exact cls_call hF1 hF2 HO.out _)))
  refine wpQuiet_nil ?_
  rintro wq ⟨xq, rfl⟩
  replace hL0 := hL0.call (hF1 xq)
  clear  hq0 hF2
  generalize F xq = x2 at hL0 ⊢
  clear hF1 xq iα F α
  have hA := hL0.fc
  simp only [fcG, cellsF, neK, and_true, ne_eq, Nat.zero_add, Nat.reduceAdd] at hA
  have hP := hL0.put 0 (w.heap.size + 1 + 1) _ rfl [.int .u64 ((zl n : Nat) : Int), .string (zh n), .bool (zs n), .int .u64 ((lo d : Nat) : Int), .string (hs d)] rfl
  simp only [setAll, List.set_cons_zero, List.set_cons_succ] at hP
  generalize hput1 : (((((x2.setCell ⟨w.heap.size + 1 + 1, 0, none⟩ (.int .u64 ((zl n : Nat) : Int))).setCell ⟨w.heap.size + 1 + 1, 1, none⟩ (.string (zh n))).setCell ⟨w.heap.size + 1 + 1, 2, none⟩ (.bool (zs n))).setCell ⟨w.heap.size + 1 + 1, 3, none⟩ (.int .u64 ((lo d : Nat) : Int))).setCell ⟨w.heap.size + 1 + 1, 4, none⟩ (.string (hs d))) = x3 at hP
  have hB1 := hP.fc
  simp only [fcG, cellsF, neK, and_true, ne_eq, Nat.zero_add, Nat.reduceAdd] at hB1
  replace hL0 := hP
  go_wp2_with fail
  exact bodyPost_ret (v := frV n d) (by simp [results, Tryz.results172, go_sem, hB1]) rfl ⟨rfl, hL0.bl⟩)
set_option maxHeartbeats 4000000 in
set_option maxRecDepth 100000 in
theorem pon_one (n : Nat) (HO : RT 17 #[.int .u64 1] (natV 1)) (w : World) :
  Calls Tryz.prog 184 #[natV n, natV 1] w fun xe w' => xe = .returned (natV n) ∧ Below w.heap.size w w' := by
 have hL0 : GL w w [] := GL.start w
 replace HO := Lib.hid HO
 replace hL0 := (((hL0.new rfl [.int .u64 ((lo n : Nat) : Int), .string (hs n)] 30).new (K := w.heap.size + 1) (szA _ _) [.int .u64 ((lo 1 : Nat) : Int), .string (hs 1)] 30).new (K := w.heap.size + 1 + 1) (by simp only [World.size_alloc]) [.int .u64 0, .string ⟨#[]⟩] 30)
 generalize hweq : (((w.alloc (.cells #[.int .u64 ((lo n : Nat) : Int), .string (hs n)] 30)).alloc (.cells #[.int .u64 ((lo 1 : Nat) : Int), .string (hs 1)] 30)).alloc (.cells #[.int .u64 0, .string ⟨#[]⟩] 30)) = x1 at hL0
 go_enter Tryz.func184, Tryz.ntmps184
 go_upto_region 1 with fail
 clear hweq
 obtain ⟨α, iα, F, hF1, hF2⟩ := cls x1
 have hq0 := cls_box hF1 hL0 _ _ (List.mem_cons_of_mem _ List.mem_cons_self)
 simp only [cellsC, and_true, Nat.zero_add, Nat.reduceAdd] at hq0
 refine region_qs 3 (C := fun w' => ∃ x, w' = F x) (by kernel_rfl) (by kernel_rfl) (cls_drew hF2) ?_
 simp only [List.take_succ_cons, List.take_zero, List.drop_succ_cons, List.drop_zero, List.take_nil, List.drop_nil]
 repeat (go_big_quiet_step (first | fail | (go_at_call 17; with_reducible exact cls_call hF1 hF2 HO.out _)))
 refine wpQuiet_nil ?_
 rintro wq ⟨xq, rfl⟩
 replace hL0 := hL0.call (hF1 xq)
 clear  hq0 hF2
 generalize F xq = x2 at hL0 ⊢
 clear hF1 xq iα F α
 have hA := hL0.fc
 simp only [fcG, cellsF, neK, and_true, ne_eq, Nat.zero_add, Nat.reduceAdd] at hA
 have hP := hL0.put 0 (w.heap.size + 1 + 1) _ rfl [.int .u64 ((lo n : Nat) : Int), .string (hs n)] rfl
 simp only [setAll, List.set_cons_zero, List.set_cons_succ] at hP
 generalize hput1 : ((x2.setCell ⟨w.heap.size + 1 + 1, 0, none⟩ (.int .u64 ((lo n : Nat) : Int))).setCell ⟨w.heap.size + 1 + 1, 1, none⟩ (.string (hs n))) = x3 at hP
 have hB1 := hP.fc
 simp only [fcG, cellsF, neK, and_true, ne_eq, Nat.zero_add, Nat.reduceAdd] at hB1
 replace hL0 := hP
 go_wp2_with fail
 exact bodyPost_ret (v := natV n) (by simp [results, Tryz.results184, go_sem, hB1]) rfl ⟨rfl, hL0.bl⟩
set_option maxHeartbeats 4000000 in
set_option maxRecDepth 100000 in
theorem pon_div (n d q r : Nat) (HO : RT 17 #[.int .u64 1] (natV 1)) (HD : RT 22 #[natV n, natV d] (.tuple #[natV q, natV r, .bool true])) (hd : d ≠ 1) (w : World) :
  Calls Tryz.prog 184 #[natV n, natV d] w fun xe w' => xe = .returned (natV q) ∧ Below w.heap.size w w' := by
 have hL0 : GL w w [] := GL.start w
 replace HO := Lib.hid HO
 replace HD := Lib.hid HD
 have hz := ne_nat hd
 clear hd
 rcases hz with e0 | ⟨e0, e1⟩
 all_goals (
  replace hL0 := (((hL0.new rfl [.int .u64 ((lo n : Nat) : Int), .string (hs n)] 30).new (K := w.heap.size + 1) (szA _ _) [.int .u64 ((lo d : Nat) : Int), .string (hs d)] 30).new (K := w.heap.size + 1 + 1) (by simp only [World.size_alloc]) [.int .u64 0, .string ⟨#[]⟩] 30)
  generalize hweq : (((w.alloc (.cells #[.int .u64 ((lo n : Nat) : Int), .string (hs n)] 30)).alloc (.cells #[.int .u64 ((lo d : Nat) : Int), .string (hs d)] 30)).alloc (.cells #[.int .u64 0, .string ⟨#[]⟩] 30)) = x1 at hL0
  go_enter Tryz.func184, Tryz.ntmps184
  go_upto_region 1 with fail
  clear hweq
  obtain ⟨α, iα, F, hF1, hF2⟩ := cls x1
  have hq0 := cls_box hF1 hL0 _ _ (List.mem_cons_of_mem _ List.mem_cons_self)
  simp only [cellsC, and_true, Nat.zero_add, Nat.reduceAdd] at hq0
  refine region_qs 3 (C := fun w' => ∃ x, w' = F x) (by kernel_rfl) (by kernel_rfl) (cls_drew hF2) ?_
  simp only [List.take_succ_cons, List.take_zero, List.drop_succ_cons, List.drop_zero, List.take_nil, List.drop_nil]
  repeat (go_big_quiet_step (first | fail | (go_at_call 17; with_reducible exact cls_call hF1 hF2 HO.out _)))
  refine wpQuiet_nil ?_
  rintro wq ⟨xq, rfl⟩
  replace hL0 := hL0.call (hF1 xq)
  clear  hq0 hF2
  generalize F xq = x2 at hL0 ⊢
  clear hF1 xq iα F α
  have hN0 := cells_of _ 0 [] rfl (hL0.get _ _ (List.mem_cons_of_mem _ List.mem_cons_self))
  simp only [cellsF, and_true, Nat.zero_add, Nat.reduceAdd] at hN0
  have hN1 := cells_of _ 0 [] rfl (hL0.get _ _ (List.mem_cons_of_mem _ (List.mem_cons_of_mem _ List.mem_cons_self)))
  simp only [cellsF, and_true, Nat.zero_add, Nat.reduceAdd] at hN1
  go_wp2_with fail
  clear hN0 hN1
  with_reducible refine Calls.mono (HD.out _) ?_
  rintro e x3 ⟨rfl, hb⟩
  replace hL0 := hL0.call hb
  clear hb
  replace hL0 := ((hL0.new rfl [.int .u64 ((lo q : Nat) : Int), .string (hs q)] 30).new (K := x3.heap.size + 1) (szA _ _) [.int .u64 ((lo r : Nat) : Int), .string (hs r)] 30)
  generalize hweq : ((x3.alloc (.cells #[.int .u64 ((lo q : Nat) : Int), .string (hs q)] 30)).alloc (.cells #[.int .u64 ((lo r : Nat) : Int), .string (hs r)] 30)) = x4 at hL0
  have hA := hL0.fc
  simp only [fcG, cellsF, neK, and_true, ne_eq, Nat.zero_add, Nat.reduceAdd] at hA
  have hP := hL0.put 2 (w.heap.size + 1 + 1) _ rfl [.int .u64 ((lo q : Nat) : Int), .string (hs q)] rfl
  simp only [setAll, List.set_cons_zero, List.set_cons_succ] at hP
  generalize hput1 : ((x4.setCell ⟨w.heap.size + 1 + 1, 0, none⟩ (.int .u64 ((lo q : Nat) : Int))).setCell ⟨w.heap.size + 1 + 1, 1, none⟩ (.string (hs q))) = x5 at hP
  have hB1 := hP.fc
  simp only [fcG, cellsF, neK, and_true, ne_eq, Nat.zero_add, Nat.reduceAdd] at hB1
  replace hL0 := hP
  go_wp2_with fail
  exact bodyPost_ret (v := natV q) (by simp [results, Tryz.results184, go_sem, hB1]) rfl ⟨rfl, hL0.bl⟩)
set_option maxHeartbeats 4000000 in
set_option maxRecDepth 100000 in
theorem part_true (z s u : Int) (a g q : Nat) (HS : RT 117 #[intV z] (.int .i64 s)) (HA : RT 123 #[intV z] (natV a)) (HP : RT 184 #[natV a, natV g] (natV q)) (HF : RT 19 #[.bool true, natV q] (intV u)) (hsg : decide (s < 0) = true) (w : World) :
  Calls Tryz.prog 216 #[intV z, natV g] w fun xe w' => xe = .returned (intV u) ∧ Below w.heap.size w w' := by
 have hL0 : GL w w [] := GL.start w
 replace HS := Lib.hid HS
 replace HA := Lib.hid HA
 replace HP := Lib.hid HP
 replace HF := Lib.hid HF
 replace hL0 := (((hL0.new rfl [.int .u64 ((zl z : Nat) : Int), .string (zh z), .bool (zs z)] 32).new (K := w.heap.size + 1) (szA _ _) [.int .u64 ((lo g : Nat) : Int), .string (hs g)] 30).new (K := w.heap.size + 1 + 1) (by simp only [World.size_alloc]) [.int .u64 0, .string ⟨#[]⟩, .bool false] 32)
 generalize hweq : (((w.alloc (.cells #[.int .u64 ((zl z : Nat) : Int), .string (zh z), .bool (zs z)] 32)).alloc (.cells #[.int .u64 ((lo g : Nat) : Int), .string (hs g)] 30)).alloc (.cells #[.int .u64 0, .string ⟨#[]⟩, .bool false] 32)) = x1 at hL0
 go_enter Tryz.func216, Tryz.ntmps216
 go_upto_region 1 with fail
 clear hweq
 obtain ⟨α, iα, F, hF1, hF2⟩ := cls x1
 have hq0 := cls_box hF1 hL0 _ _ (List.mem_cons_of_mem _ List.mem_cons_self)
 simp only [cellsC, and_true, Nat.zero_add, Nat.reduceAdd] at hq0
 have hq1 := cls_box hF1 hL0 _ _ (List.mem_cons_of_mem _ (List.mem_cons_of_mem _ List.mem_cons_self))
 simp only [cellsC, and_true, Nat.zero_add, Nat.reduceAdd] at hq1
 refine region_qs 8 (C := fun w' => ∃ x, w' = F x) (by kernel_rfl) (by kernel_rfl) (cls_drew hF2) ?_
 simp only [List.take_succ_cons, List.take_zero, List.drop_succ_cons, List.drop_zero, List.take_nil, List.drop_nil]
 repeat (go_big_quiet_step (first | fail | (go_at_call 117; with_reducible exact cls_call hF1 hF2 HS.out _) | (go_at_call 123; with_reducible exact cls_call hF1 hF2 HA.out _) | (go_at_call 184; with_reducible exact cls_call hF1 hF2 HP.out _) | (go_at_call 19; with_reducible exact cls_call hF1 hF2 HF.out _)))
 refine wpQuiet_nil ?_
 rintro wq ⟨xq, rfl⟩
 replace hL0 := hL0.call (hF1 xq)
 clear  hq0 hq1 hF2
 generalize F xq = x2 at hL0 ⊢
 clear hF1 xq iα F α
 have hA := hL0.fc
 simp only [fcG, cellsF, neK, and_true, ne_eq, Nat.zero_add, Nat.reduceAdd] at hA
 have hP := hL0.put 0 (w.heap.size + 1 + 1) _ rfl [.int .u64 ((zl u : Nat) : Int), .string (zh u), .bool (zs u)] rfl
 simp only [setAll, List.set_cons_zero, List.set_cons_succ] at hP
 generalize hput1 : (((x2.setCell ⟨w.heap.size + 1 + 1, 0, none⟩ (.int .u64 ((zl u : Nat) : Int))).setCell ⟨w.heap.size + 1 + 1, 1, none⟩ (.string (zh u))).setCell ⟨w.heap.size + 1 + 1, 2, none⟩ (.bool (zs u))) = x3 at hP
 have hB1 := hP.fc
 simp only [fcG, cellsF, neK, and_true, ne_eq, Nat.zero_add, Nat.reduceAdd] at hB1
 replace hL0 := hP
 go_wp2_with fail
 exact bodyPost_ret (v := intV u) (by simp [results, Tryz.results216, go_sem, hB1]) rfl ⟨rfl, hL0.bl⟩
set_option maxHeartbeats 4000000 in
set_option maxRecDepth 100000 in
theorem part_false (z s u : Int) (a g q : Nat) (HS : RT 117 #[intV z] (.int .i64 s)) (HA : RT 123 #[intV z] (natV a)) (HP : RT 184 #[natV a, natV g] (natV q)) (HF : RT 19 #[.bool false, natV q] (intV u)) (hsg : decide (s < 0) = false) (w : World) :
  Calls Tryz.prog 216 #[intV z, natV g] w fun xe w' => xe = .returned (intV u) ∧ Below w.heap.size w w' := by
 have hL0 : GL w w [] := GL.start w
 replace HS := Lib.hid HS
 replace HA := Lib.hid HA
 replace HP := Lib.hid HP
 replace HF := Lib.hid HF
 replace hL0 := (((hL0.new rfl [.int .u64 ((zl z : Nat) : Int), .string (zh z), .bool (zs z)] 32).new (K := w.heap.size + 1) (szA _ _) [.int .u64 ((lo g : Nat) : Int), .string (hs g)] 30).new (K := w.heap.size + 1 + 1) (by simp only [World.size_alloc]) [.int .u64 0, .string ⟨#[]⟩, .bool false] 32)
 generalize hweq : (((w.alloc (.cells #[.int .u64 ((zl z : Nat) : Int), .string (zh z), .bool (zs z)] 32)).alloc (.cells #[.int .u64 ((lo g : Nat) : Int), .string (hs g)] 30)).alloc (.cells #[.int .u64 0, .string ⟨#[]⟩, .bool false] 32)) = x1 at hL0
 go_enter Tryz.func216, Tryz.ntmps216
 go_upto_region 1 with fail
 clear hweq
 obtain ⟨α, iα, F, hF1, hF2⟩ := cls x1
 have hq0 := cls_box hF1 hL0 _ _ (List.mem_cons_of_mem _ List.mem_cons_self)
 simp only [cellsC, and_true, Nat.zero_add, Nat.reduceAdd] at hq0
 have hq1 := cls_box hF1 hL0 _ _ (List.mem_cons_of_mem _ (List.mem_cons_of_mem _ List.mem_cons_self))
 simp only [cellsC, and_true, Nat.zero_add, Nat.reduceAdd] at hq1
 refine region_qs 8 (C := fun w' => ∃ x, w' = F x) (by kernel_rfl) (by kernel_rfl) (cls_drew hF2) ?_
 simp only [List.take_succ_cons, List.take_zero, List.drop_succ_cons, List.drop_zero, List.take_nil, List.drop_nil]
 repeat (go_big_quiet_step (first | fail | (go_at_call 117; with_reducible exact cls_call hF1 hF2 HS.out _) | (go_at_call 123; with_reducible exact cls_call hF1 hF2 HA.out _) | (go_at_call 184; with_reducible exact cls_call hF1 hF2 HP.out _) | (go_at_call 19; with_reducible exact cls_call hF1 hF2 HF.out _)))
 refine wpQuiet_nil ?_
 rintro wq ⟨xq, rfl⟩
 replace hL0 := hL0.call (hF1 xq)
 clear  hq0 hq1 hF2
 generalize F xq = x2 at hL0 ⊢
 clear hF1 xq iα F α
 have hA := hL0.fc
 simp only [fcG, cellsF, neK, and_true, ne_eq, Nat.zero_add, Nat.reduceAdd] at hA
 have hP := hL0.put 0 (w.heap.size + 1 + 1) _ rfl [.int .u64 ((zl u : Nat) : Int), .string (zh u), .bool (zs u)] rfl
 simp only [setAll, List.set_cons_zero, List.set_cons_succ] at hP
 generalize hput1 : (((x2.setCell ⟨w.heap.size + 1 + 1, 0, none⟩ (.int .u64 ((zl u : Nat) : Int))).setCell ⟨w.heap.size + 1 + 1, 1, none⟩ (.string (zh u))).setCell ⟨w.heap.size + 1 + 1, 2, none⟩ (.bool (zs u))) = x3 at hP
 have hB1 := hP.fc
 simp only [fcG, cellsF, neK, and_true, ne_eq, Nat.zero_add, Nat.reduceAdd] at hB1
 replace hL0 := hP
 go_wp2_with fail
 exact bodyPost_ret (v := intV u) (by simp [results, Tryz.results216, go_sem, hB1]) rfl ⟨rfl, hL0.bl⟩
set_option maxHeartbeats 4000000 in
set_option maxRecDepth 100000 in
theorem cancel_w (z u : Int) (a d g v : Nat) (HA : RT 123 #[intV z] (natV a)) (HG : RT 118 #[natV a, natV d] (natV g)) (HP : RT 216 #[intV z, natV g] (intV u)) (HQ : RT 184 #[natV d, natV g] (natV v)) (w : World) :
  Calls Tryz.prog 171 #[intV z, natV d] w fun xe w' => xe = .returned (.tuple #[intV u, natV v]) ∧ Below w.heap.size w w' := by
 have hL0 : GL w w [] := GL.start w
 replace HA := Lib.hid HA
 replace HG := Lib.hid HG
 replace HP := Lib.hid HP
 replace HQ := Lib.hid HQ
 replace hL0 := ((((hL0.new rfl [.int .u64 ((zl z : Nat) : Int), .string (zh z), .bool (zs z)] 32).new (K := w.heap.size + 1) (szA _ _) [.int .u64 ((lo d : Nat) : Int), .string (hs d)] 30).new (K := w.heap.size + 1 + 1) (by simp only [World.size_alloc]) [.int .u64 0, .string ⟨#[]⟩, .bool false] 32).new (K := w.heap.size + 1 + 1 + 1) (by simp only [World.size_alloc]) [.int .u64 0, .string ⟨#[]⟩] 30)
 generalize hweq : ((((w.alloc (.cells #[.int .u64 ((zl z : Nat) : Int), .string (zh z), .bool (zs z)] 32)).alloc (.cells #[.int .u64 ((lo d : Nat) : Int), .string (hs d)] 30)).alloc (.cells #[.int .u64 0, .string ⟨#[]⟩, .bool false] 32)).alloc (.cells #[.int .u64 0, .string ⟨#[]⟩] 30)) = x1 at hL0
 go_enter Tryz.func171, Tryz.ntmps171
 go_upto_region 1 with fail
 clear hweq
 refine region_gh (by kernel_rfl) (by kernel_rfl) ?_
 refine lex_seg (gl := []) 4 (by kernel_rfl) ?_
 intro α iα F hF1 hF2
 have hq := GL.seg hF1 hL0
 simp only [fcC, cellsC, and_true, Nat.zero_add, Nat.reduceAdd] at hq
 simp only [List.take_succ_cons, List.take_zero, List.drop_succ_cons, List.drop_zero, List.take_nil, List.drop_nil]
 repeat (go_big_quiet_step (first | fail | (go_at_call 123; with_reducible exact seg_call hF2 HA.out _) | (go_at_call 118; with_reducible exact seg_call hF2 HG.out _)))
 refine wpQuiet_nil ?_
 clear hq hF1 hF2 iα F α
 refine lex_new [.int .u64 0, .string ⟨#[]⟩] 6 30 30 rfl rfl (of_decide_eq_true (by kernel_rfl)) (by kernel_rfl) rfl new_natc ?_
 simp only [Act.put, List.setIfInBounds_toArray, List.set_cons_succ, List.set_cons_zero]
 refine lex_put [.int .u64 ((lo g : Nat) : Int), .string (hs g)] [.int .u64 0, .string ⟨#[]⟩] 6 30 (.tmp 10) rfl (by kernel_rfl) (by simp [toG, upd]) rfl (fun w k h => put_natc _ _ _ _ w k h) ?_
 simp only [Act.put]
 refine lexG_nil ?_
 intro κ x2 hS
 replace hL0 := hL0.ghs hS [(6, [.int .u64 ((lo g : Nat) : Int), .string (hs g)])] (by simp) (by intro p hp; simp only [List.mem_cons, List.not_mem_nil, or_false] at hp; rcases hp with rfl <;> exact ⟨_, by simp only [toG, upd]; rfl⟩)
 simp only [List.map_cons, List.map_nil, List.cons_append, List.nil_append] at hL0
 simp only [over_toG, over_nil, Act.put, List.setIfInBounds_toArray, List.set_cons_succ, List.set_cons_zero]
 clear hS
 generalize κ 6 = k2_6 at *
 go_upto_region 2 with fail
 obtain ⟨α, iα, F, hF1, hF2⟩ := cls x2
 have hq0 := cls_box hF1 hL0 _ _ List.mem_cons_self
 simp only [cellsC, and_true, Nat.zero_add, Nat.reduceAdd] at hq0
 have hq1 := cls_box hF1 hL0 _ _ (List.mem_cons_of_mem _ (List.mem_cons_of_mem _ (List.mem_cons_of_mem _ List.mem_cons_self)))
 simp only [cellsC, and_true, Nat.zero_add, Nat.reduceAdd] at hq1
 have hq2 := cls_box hF1 hL0 _ _ (List.mem_cons_of_mem _ (List.mem_cons_of_mem _ (List.mem_cons_of_mem _ (List.mem_cons_of_mem _ List.mem_cons_self))))
 simp only [cellsC, and_true, Nat.zero_add, Nat.reduceAdd] at hq2
 refine region_qs 6 (C := fun w' => ∃ x, w' = F x) (by kernel_rfl) (by kernel_rfl) (cls_drew hF2) ?_
 simp only [List.take_succ_cons, List.take_zero, List.drop_succ_cons, List.drop_zero, List.take_nil, List.drop_nil]
 repeat (go_big_quiet_step (first | fail | (go_at_call 216; with_reducible exact cls_call hF1 hF2 HP.out _) | (go_at_call 184; with_reducible exact cls_call hF1 hF2 HQ.out _)))
 refine wpQuiet_nil ?_
 rintro wq ⟨xq, rfl⟩
 replace hL0 := hL0.call (hF1 xq)
 clear  hq0 hq1 hq2 hF2
 generalize F xq = x3 at hL0 ⊢
 clear hF1 xq iα F α
 have hA := hL0.fc
 simp only [fcG, cellsF, neK, and_true, ne_eq, Nat.zero_add, Nat.reduceAdd] at hA
 have hP := hL0.put 2 (w.heap.size + 1 + 1) _ rfl [.int .u64 ((zl u : Nat) : Int), .string (zh u), .bool (zs u)] rfl
 simp only [setAll, List.set_cons_zero, List.set_cons_succ] at hP
 generalize hput1 : (((x3.setCell ⟨w.heap.size + 1 + 1, 0, none⟩ (.int .u64 ((zl u : Nat) : Int))).setCell ⟨w.heap.size + 1 + 1, 1, none⟩ (.string (zh u))).setCell ⟨w.heap.size + 1 + 1, 2, none⟩ (.bool (zs u))) = x4 at hP
 have hB1 := hP.fc
 simp only [fcG, cellsF, neK, and_true, ne_eq, Nat.zero_add, Nat.reduceAdd] at hB1
 replace hL0 := hP
 have hP := hL0.put 1 (w.heap.size + 1 + 1 + 1) _ rfl [.int .u64 ((lo v : Nat) : Int), .string (hs v)] rfl
 simp only [setAll, List.set_cons_zero, List.set_cons_succ] at hP
 generalize hput2 : ((x4.setCell ⟨w.heap.size + 1 + 1 + 1, 0, none⟩ (.int .u64 ((lo v : Nat) : Int))).setCell ⟨w.heap.size + 1 + 1 + 1, 1, none⟩ (.string (hs v))) = x5 at hP
 have hB2 := hP.fc
 simp only [fcG, cellsF, neK, and_true, ne_eq, Nat.zero_add, Nat.reduceAdd] at hB2
 replace hL0 := hP
 go_wp2_with fail
 exact bodyPost_ret (v := .tuple #[intV u, natV v]) (by simp [results, Tryz.results171, go_sem, hB2]) rfl ⟨rfl, hL0.bl⟩
set_option maxHeartbeats 4000000 in
set_option maxRecDepth 100000 in
theorem num_w (n : Int) (e : Nat) (w : World) :
  Calls Tryz.prog 140 #[frV n e] w fun xe w' => xe = .returned (intV n) ∧ Below w.heap.size w w' := by
 have hL0 : GL w w [] := GL.start w
 replace hL0 := ((hL0.new rfl [.int .u64 ((zl n : Nat) : Int), .string (zh n), .bool (zs n), .int .u64 ((lo e : Nat) : Int), .string (hs e)] 34).new (K := w.heap.size + 1) (szA _ _) [.int .u64 ((zl n : Nat) : Int), .string (zh n), .bool (zs n)] 32)
 generalize hweq : ((w.alloc (.cells #[.int .u64 ((zl n : Nat) : Int), .string (zh n), .bool (zs n), .int .u64 ((lo e : Nat) : Int), .string (hs e)] 34)).alloc (.cells #[.int .u64 ((zl n : Nat) : Int), .string (zh n), .bool (zs n)] 32)) = x1 at hL0
 go_enter Tryz.func140, Tryz.ntmps140
 have hN0 := cells_of _ 0 [] rfl (hL0.get _ _ List.mem_cons_self)
 simp only [cellsF, and_true, Nat.zero_add, Nat.reduceAdd] at hN0
 have hN1 := cells_of _ 0 [] rfl (hL0.get _ _ (List.mem_cons_of_mem _ List.mem_cons_self))
 simp only [cellsF, and_true, Nat.zero_add, Nat.reduceAdd] at hN1
 go_wp2_with fail
 exact bodyPost_ret (v := intV n) (by simp [results, Tryz.results140, go_sem, hN0 ,hN1]) rfl ⟨rfl, hL0.bl⟩
set_option maxHeartbeats 4000000 in
set_option maxRecDepth 100000 in
theorem fof_true (x y s z p : Int) (a b : Int) (d e : Nat) (c : Int) (HO : RT 23 #[.int .i64 a] (intV x)) (HQ : RT 23 #[.int .i64 b] (intV y)) (HS : RT 117 #[intV y] (.int .i64 s)) (HN : RT 121 #[intV x] (intV z)) (HA : RT 123 #[intV y] (natV d)) (HF : RT 122 #[intV z, natV d] (.tuple #[frV p e, .int .i64 c])) (hsg : decide (s < 0) = true) (w : World) :
  Calls Tryz.prog 47 #[.int .i64 a, .int .i64 b] w fun xe w' => xe = .returned (.tuple #[frV p e, .int .i64 c]) ∧ Below w.heap.size w w' := by
 have hL0 : GL w w [] := GL.start w
 replace HO := Lib.hid HO
 replace HQ := Lib.hid HQ
 replace HS := Lib.hid HS
 replace HN := Lib.hid HN
 replace HA := Lib.hid HA
 replace HF := Lib.hid HF
 replace hL0 := (hL0.new rfl [.int .u64 0, .string ⟨#[]⟩, .bool false, .int .u64 0, .string ⟨#[]⟩] 34)
 generalize hweq : (w.alloc (.cells #[.int .u64 0, .string ⟨#[]⟩, .bool false, .int .u64 0, .string ⟨#[]⟩] 34)) = x1 at hL0
 go_enter Tryz.func47, Tryz.ntmps47
 go_wp2_with fail
 with_reducible refine Calls.mono (HO.out _) ?_
 rintro e x2 ⟨rfl, hb⟩
 replace hL0 := hL0.call hb
 clear hb hweq
 go_wp2_with fail
 with_reducible refine Calls.mono (HQ.out _) ?_
 rintro e x3 ⟨rfl, hb⟩
 replace hL0 := hL0.call hb
 clear hb
 replace hL0 := ((hL0.new rfl [.int .u64 ((zl x : Nat) : Int), .string (zh x), .bool (zs x)] 32).new (K := x3.heap.size + 1) (szA _ _) [.int .u64 ((zl y : Nat) : Int), .string (zh y), .bool (zs y)] 32)
 generalize hweq : ((x3.alloc (.cells #[.int .u64 ((zl x : Nat) : Int), .string (zh x), .bool (zs x)] 32)).alloc (.cells #[.int .u64 ((zl y : Nat) : Int), .string (zh y), .bool (zs y)] 32)) = x4 at hL0
 have hN0 := cells_of _ 0 [] rfl (hL0.get _ _ List.mem_cons_self)
 simp only [cellsF, and_true, Nat.zero_add, Nat.reduceAdd] at hN0
 go_wp2_with fail
 clear hN0
 with_reducible refine Calls.mono (HS.out _) ?_
 rintro e x5 ⟨rfl, hb⟩
 replace hL0 := hL0.call hb
 clear hb hweq
 have hN0 := cells_of _ 0 [] rfl (hL0.get _ _ (List.mem_cons_of_mem _ List.mem_cons_self))
 simp only [cellsF, and_true, Nat.zero_add, Nat.reduceAdd] at hN0
 go_wp2_with fail
 clear hN0
 with_reducible refine Calls.mono (HN.out _) ?_
 rintro e x6 ⟨rfl, hb⟩
 replace hL0 := hL0.call hb
 clear hb
 have hA := hL0.fc
 simp only [fcG, cellsF, neK, and_true, ne_eq, Nat.zero_add, Nat.reduceAdd] at hA
 have hP := hL0.put 1 (x3.heap.size) _ rfl [.int .u64 ((zl z : Nat) : Int), .string (zh z), .bool (zs z)] rfl
 simp only [setAll, List.set_cons_zero, List.set_cons_succ] at hP
 generalize hput1 : (((x6.setCell ⟨x3.heap.size, 0, none⟩ (.int .u64 ((zl z : Nat) : Int))).setCell ⟨x3.heap.size, 1, none⟩ (.string (zh z))).setCell ⟨x3.heap.size, 2, none⟩ (.bool (zs z))) = x7 at hP
 have hB1 := hP.fc
 simp only [fcG, cellsF, neK, and_true, ne_eq, Nat.zero_add, Nat.reduceAdd] at hB1
 replace hL0 := hP
 go_upto_region 4 with fail
 clear hA
 clear hput1 hB1
 obtain ⟨α, iα, F, hF1, hF2⟩ := cls x7
 have hq0 := cls_box hF1 hL0 _ _ List.mem_cons_self
 simp only [cellsC, and_true, Nat.zero_add, Nat.reduceAdd] at hq0
 have hq1 := cls_box hF1 hL0 _ _ (List.mem_cons_of_mem _ List.mem_cons_self)
 simp only [cellsC, and_true, Nat.zero_add, Nat.reduceAdd] at hq1
 refine region_qs 6 (C := fun w' => ∃ x, w' = F x) (by kernel_rfl) (by kernel_rfl) (cls_drew hF2) ?_
 simp only [List.take_succ_cons, List.take_zero, List.drop_succ_cons, List.drop_zero, List.take_nil, List.drop_nil]
 repeat (go_big_quiet_step (first | fail | (go_at_call 123; with_reducible exact cls_call hF1 hF2 HA.out _) | (go_at_call 122; with_reducible exact cls_call hF1 hF2 HF.out _)))
 refine wpQuiet_nil ?_
 rintro wq ⟨xq, rfl⟩
 replace hL0 := hL0.call (hF1 xq)
 clear  hq0 hq1 hF2
 generalize F xq = x8 at hL0 ⊢
 clear hF1 xq iα F α
 have hA := hL0.fc
 simp only [fcG, cellsF, neK, and_true, ne_eq, Nat.zero_add, Nat.reduceAdd] at hA
 have hP := hL0.put 2 (w.heap.size) _ rfl [.int .u64 ((zl p : Nat) : Int), .string (zh p), .bool (zs p), .int .u64 ((lo e : Nat) : Int), .string (hs e)] rfl
 simp only [setAll, List.set_cons_zero, List.set_cons_succ] at hP
 generalize hput2 : (((((x8.setCell ⟨w.heap.size, 0, none⟩ (.int .u64 ((zl p : Nat) : Int))).setCell ⟨w.heap.size, 1, none⟩ (.string (zh p))).setCell ⟨w.heap.size, 2, none⟩ (.bool (zs p))).setCell ⟨w.heap.size, 3, none⟩ (.int .u64 ((lo e : Nat) : Int))).setCell ⟨w.heap.size, 4, none⟩ (.string (hs e))) = x9 at hP
 have hB2 := hP.fc
 simp only [fcG, cellsF, neK, and_true, ne_eq, Nat.zero_add, Nat.reduceAdd] at hB2
 replace hL0 := hP
 go_wp2_with fail
 exact bodyPost_ret (v := .tuple #[frV p e, .int .i64 c]) (by simp [results, Tryz.results47, go_sem, hB2]) rfl ⟨rfl, hL0.bl⟩
set_option maxHeartbeats 4000000 in
set_option maxRecDepth 100000 in
theorem fof_false (x y s z p : Int) (a b : Int) (d e : Nat) (c : Int) (HO : RT 23 #[.int .i64 a] (intV x)) (HQ : RT 23 #[.int .i64 b] (intV y)) (HS : RT 117 #[intV y] (.int .i64 s)) (HA : RT 123 #[intV y] (natV d)) (HF : RT 122 #[intV x, natV d] (.tuple #[frV p e, .int .i64 c])) (hsg : decide (s < 0) = false) (w : World) :
  Calls Tryz.prog 47 #[.int .i64 a, .int .i64 b] w fun xe w' => xe = .returned (.tuple #[frV p e, .int .i64 c]) ∧ Below w.heap.size w w' := by
 have hL0 : GL w w [] := GL.start w
 replace HO := Lib.hid HO
 replace HQ := Lib.hid HQ
 replace HS := Lib.hid HS
 replace HA := Lib.hid HA
 replace HF := Lib.hid HF
 replace hL0 := (hL0.new rfl [.int .u64 0, .string ⟨#[]⟩, .bool false, .int .u64 0, .string ⟨#[]⟩] 34)
 generalize hweq : (w.alloc (.cells #[.int .u64 0, .string ⟨#[]⟩, .bool false, .int .u64 0, .string ⟨#[]⟩] 34)) = x1 at hL0
 go_enter Tryz.func47, Tryz.ntmps47
 go_wp2_with fail
 with_reducible refine Calls.mono (HO.out _) ?_
 rintro e x2 ⟨rfl, hb⟩
 replace hL0 := hL0.call hb
 clear hb hweq
 go_wp2_with fail
 with_reducible refine Calls.mono (HQ.out _) ?_
 rintro e x3 ⟨rfl, hb⟩
 replace hL0 := hL0.call hb
 clear hb
 replace hL0 := ((hL0.new rfl [.int .u64 ((zl x : Nat) : Int), .string (zh x), .bool (zs x)] 32).new (K := x3.heap.size + 1) (szA _ _) [.int .u64 ((zl y : Nat) : Int), .string (zh y), .bool (zs y)] 32)
 generalize hweq : ((x3.alloc (.cells #[.int .u64 ((zl x : Nat) : Int), .string (zh x), .bool (zs x)] 32)).alloc (.cells #[.int .u64 ((zl y : Nat) : Int), .string (zh y), .bool (zs y)] 32)) = x4 at hL0
 have hN0 := cells_of _ 0 [] rfl (hL0.get _ _ List.mem_cons_self)
 simp only [cellsF, and_true, Nat.zero_add, Nat.reduceAdd] at hN0
 go_wp2_with fail
 clear hN0
 with_reducible refine Calls.mono (HS.out _) ?_
 rintro e x5 ⟨rfl, hb⟩
 replace hL0 := hL0.call hb
 clear hb hweq
 go_upto_region 4 with fail
 obtain ⟨α, iα, F, hF1, hF2⟩ := cls x5
 have hq0 := cls_box hF1 hL0 _ _ List.mem_cons_self
 simp only [cellsC, and_true, Nat.zero_add, Nat.reduceAdd] at hq0
 have hq1 := cls_box hF1 hL0 _ _ (List.mem_cons_of_mem _ List.mem_cons_self)
 simp only [cellsC, and_true, Nat.zero_add, Nat.reduceAdd] at hq1
 refine region_qs 6 (C := fun w' => ∃ x, w' = F x) (by kernel_rfl) (by kernel_rfl) (cls_drew hF2) ?_
 simp only [List.take_succ_cons, List.take_zero, List.drop_succ_cons, List.drop_zero, List.take_nil, List.drop_nil]
 repeat (go_big_quiet_step (first | fail | (go_at_call 123; with_reducible exact cls_call hF1 hF2 HA.out _) | (go_at_call 122; with_reducible exact cls_call hF1 hF2 HF.out _)))
 refine wpQuiet_nil ?_
 rintro wq ⟨xq, rfl⟩
 replace hL0 := hL0.call (hF1 xq)
 clear  hq0 hq1 hF2
 generalize F xq = x6 at hL0 ⊢
 clear hF1 xq iα F α
 have hA := hL0.fc
 simp only [fcG, cellsF, neK, and_true, ne_eq, Nat.zero_add, Nat.reduceAdd] at hA
 have hP := hL0.put 2 (w.heap.size) _ rfl [.int .u64 ((zl p : Nat) : Int), .string (zh p), .bool (zs p), .int .u64 ((lo e : Nat) : Int), .string (hs e)] rfl
 simp only [setAll, List.set_cons_zero, List.set_cons_succ] at hP
 generalize hput1 : (((((x6.setCell ⟨w.heap.size, 0, none⟩ (.int .u64 ((zl p : Nat) : Int))).setCell ⟨w.heap.size, 1, none⟩ (.string (zh p))).setCell ⟨w.heap.size, 2, none⟩ (.bool (zs p))).setCell ⟨w.heap.size, 3, none⟩ (.int .u64 ((lo e : Nat) : Int))).setCell ⟨w.heap.size, 4, none⟩ (.string (hs e))) = x7 at hP
 have hB1 := hP.fc
 simp only [fcG, cellsF, neK, and_true, ne_eq, Nat.zero_add, Nat.reduceAdd] at hB1
 replace hL0 := hP
 go_wp2_with fail
 exact bodyPost_ret (v := .tuple #[frV p e, .int .i64 c]) (by simp [results, Tryz.results47, go_sem, hB1]) rfl ⟨rfl, hL0.bl⟩
end Go.Proofs.YtaimebjkidegiaaGreatDoor
namespace Go.Proofs.YtaimebjkidegiaaGreatDoor
open Go.RowKit
attribute [local irreducible] lo hs sm s64 c64 d64 b64 mh ml pd pc qd qc val hiB str cmpI srD lz nb isq zl zh zs
set_option maxHeartbeats 4000000 in
set_option maxRecDepth 100000 in
theorem ffrom_w (n u z : Int) (d v f : Nat) (HO : RT 17 #[.int .u64 0] (natV 0)) (HC : RT 171 #[intV n, natV d] (.tuple #[intV u, natV v])) (HL : RT 172 #[intV u, natV v] (frV z f)) (hd : d ≠ 0) (w : World) :
  Calls Tryz.prog 122 #[intV n, natV d] w fun xe w' => xe = .returned (.tuple #[frV z f, .int .i64 0]) ∧ Below w.heap.size w w' := by
 have hL0 : GL w w [] := GL.start w
 replace HO := Lib.hid HO
 replace HC := Lib.hid HC
 replace HL := Lib.hid HL
 have hz := ne_nat hd
 clear hd
 rcases hz with e0 | ⟨e0, e1⟩
 all_goals (
  replace hL0 := (((hL0.new rfl [.int .u64 ((zl n : Nat) : Int), .string (zh n), .bool (zs n)] 32).new (K := w.heap.size + 1) (szA _ _) [.int .u64 ((lo d : Nat) : Int), .string (hs d)] 30).new (K := w.heap.size + 1 + 1) (by simp only [World.size_alloc]) [.int .u64 0, .string ⟨#[]⟩, .bool false, .int .u64 0, .string ⟨#[]⟩] 34)
  generalize hweq : (((w.alloc (.cells #[.int .u64 ((zl n : Nat) : Int), .string (zh n), .bool (zs n)] 32)).alloc (.cells #[.int .u64 ((lo d : Nat) : Int), .string (hs d)] 30)).alloc (.cells #[.int .u64 0, .string ⟨#[]⟩, .bool false, .int .u64 0, .string ⟨#[]⟩] 34)) = x1 at hL0
  go_enter Tryz.func122, Tryz.ntmps122
  go_upto_region 1 with fail
  clear hweq
  obtain ⟨α, iα, F, hF1, hF2⟩ := cls x1
  have hq0 := cls_box hF1 hL0 _ _ (List.mem_cons_of_mem _ List.mem_cons_self)
  simp only [cellsC, and_true, Nat.zero_add, Nat.reduceAdd] at hq0
  refine region_qs 3 (C := fun w' => ∃ x, w' = F x) (by kernel_rfl) (by kernel_rfl) (cls_drew hF2) ?_
  simp only [List.take_succ_cons, List.take_zero, List.drop_succ_cons, List.drop_zero, List.take_nil, List.drop_nil]
  repeat (go_big_quiet_step (first | fail | (go_at_call 17; with_reducible exact cls_call hF1 hF2 HO.out _)))
  refine wpQuiet_nil ?_
  rintro wq ⟨xq, rfl⟩
  replace hL0 := hL0.call (hF1 xq)
  clear  hq0 hF2
  generalize F xq = x2 at hL0 ⊢
  clear hF1 xq iα F α
  have hN0 := cells_of _ 0 [] rfl (hL0.get _ _ (List.mem_cons_of_mem _ List.mem_cons_self))
  simp only [cellsF, and_true, Nat.zero_add, Nat.reduceAdd] at hN0
  have hN1 := cells_of _ 0 [] rfl (hL0.get _ _ (List.mem_cons_of_mem _ (List.mem_cons_of_mem _ List.mem_cons_self)))
  simp only [cellsF, and_true, Nat.zero_add, Nat.reduceAdd] at hN1
  go_wp2_with fail
  clear hN0 hN1
  with_reducible refine Calls.mono (HC.out _) ?_
  rintro e x3 ⟨rfl, hb⟩
  replace hL0 := hL0.call hb
  clear hb
  go_wp2_with fail
  with_reducible refine Calls.mono (HL.out _) ?_
  rintro e x4 ⟨rfl, hb⟩
  replace hL0 := hL0.call hb
  clear hb
  have hA := hL0.fc
  simp only [fcG, cellsF, neK, and_true, ne_eq, Nat.zero_add, Nat.reduceAdd] at hA
  have hP := hL0.put 0 (w.heap.size + 1 + 1) _ rfl [.int .u64 ((zl z : Nat) : Int), .string (zh z), .bool (zs z), .int .u64 ((lo f : Nat) : Int), .string (hs f)] rfl
  simp only [setAll, List.set_cons_zero, List.set_cons_succ] at hP
  generalize hput1 : (((((x4.setCell ⟨w.heap.size + 1 + 1, 0, none⟩ (.int .u64 ((zl z : Nat) : Int))).setCell ⟨w.heap.size + 1 + 1, 1, none⟩ (.string (zh z))).setCell ⟨w.heap.size + 1 + 1, 2, none⟩ (.bool (zs z))).setCell ⟨w.heap.size + 1 + 1, 3, none⟩ (.int .u64 ((lo f : Nat) : Int))).setCell ⟨w.heap.size + 1 + 1, 4, none⟩ (.string (hs f))) = x5 at hP
  have hB1 := hP.fc
  simp only [fcG, cellsF, neK, and_true, ne_eq, Nat.zero_add, Nat.reduceAdd] at hB1
  replace hL0 := hP
  go_wp2_with fail
  exact bodyPost_ret (v := .tuple #[frV z f, .int .i64 0]) (by simp [results, Tryz.results122, go_sem, hB1]) rfl ⟨rfl, hL0.bl⟩)
set_option maxHeartbeats 4000000 in
set_option maxRecDepth 100000 in
theorem ftext_whole (n : Int) (s : ByteArray) (HW : RT 119 #[frV n 0] (.bool true)) (HT : RK Tab 143 #[intV n] (.string s)) (w : World) (htab : Tab w) :
  Calls Tryz.prog 137 #[frV n 0] w fun xe w' => xe = .returned (.string s) ∧ Below w.heap.size w w' := by
 have hL0 : GL w w [] := GL.start w
 replace HW := Lib.hid HW
 replace HT := Lib.hid HT
 replace hL0 := (hL0.new rfl [.int .u64 ((zl n : Nat) : Int), .string (zh n), .bool (zs n), .int .u64 ((lo 0 : Nat) : Int), .string (hs 0)] 34)
 generalize hweq : (w.alloc (.cells #[.int .u64 ((zl n : Nat) : Int), .string (zh n), .bool (zs n), .int .u64 ((lo 0 : Nat) : Int), .string (hs 0)] 34)) = x1 at hL0
 go_enter Tryz.func137, Tryz.ntmps137
 have hN0 := cells_of _ 0 [] rfl (hL0.get _ _ List.mem_cons_self)
 simp only [cellsF, and_true, Nat.zero_add, Nat.reduceAdd] at hN0
 go_wp2_with fail
 clear hN0
 with_reducible refine Calls.mono (HW.out _) ?_
 rintro e x2 ⟨rfl, hb⟩
 replace hL0 := hL0.call hb
 clear hb hweq
 have hN0 := cells_of _ 0 [] rfl (hL0.get _ _ List.mem_cons_self)
 simp only [cellsF, and_true, Nat.zero_add, Nat.reduceAdd] at hN0
 go_wp2_with fail
 clear hN0
 with_reducible refine Calls.mono (HT.out _ (htab.below hL0.bl)) ?_
 rintro e x3 ⟨rfl, hb⟩
 replace hL0 := hL0.call hb
 clear hb
 go_wp2_with fail
 exact bodyPost_ret (v := .string s) (by simp [results, Tryz.results137, go_sem]) rfl ⟨rfl, hL0.bl⟩
set_option maxHeartbeats 4000000 in
set_option maxRecDepth 100000 in
theorem ftext_part (n : Int) (e : Nat) (s t : ByteArray) (HW : RT 119 #[frV n e] (.bool false)) (HT : RK Tab 143 #[intV n] (.string s)) (HU : RK Tab 144 #[natV e] (.string t)) (h1 : ((s.size : Nat) : Int) ≤ 20000000) (h2 : ((t.size : Nat) : Int) ≤ 20000000) (w : World) (htab : Tab w) :
  Calls Tryz.prog 137 #[frV n e] w fun xe w' => xe = .returned (.string ((s ++ ByteArray.mk #[47]) ++ t)) ∧ Below w.heap.size w w' := by
 have hL0 : GL w w [] := GL.start w
 replace HW := Lib.hid HW
 replace HT := Lib.hid HT
 replace HU := Lib.hid HU
 replace hL0 := (hL0.new rfl [.int .u64 ((zl n : Nat) : Int), .string (zh n), .bool (zs n), .int .u64 ((lo e : Nat) : Int), .string (hs e)] 34)
 generalize hweq : (w.alloc (.cells #[.int .u64 ((zl n : Nat) : Int), .string (zh n), .bool (zs n), .int .u64 ((lo e : Nat) : Int), .string (hs e)] 34)) = x1 at hL0
 go_enter Tryz.func137, Tryz.ntmps137
 have hN0 := cells_of _ 0 [] rfl (hL0.get _ _ List.mem_cons_self)
 simp only [cellsF, and_true, Nat.zero_add, Nat.reduceAdd] at hN0
 go_wp2_with fail
 clear hN0
 with_reducible refine Calls.mono (HW.out _) ?_
 rintro e x2 ⟨rfl, hb⟩
 replace hL0 := hL0.call hb
 clear hb hweq
 go_upto_region 3 with fail
 have ht := htab.below hL0.bl
 obtain ⟨α, iα, F, hF1, hF2⟩ := cls x2
 have hq0 := cls_box hF1 hL0 _ _ List.mem_cons_self
 simp only [cellsC, and_true, Nat.zero_add, Nat.reduceAdd] at hq0
 refine region_qs 9 (C := fun w' => ∃ x, w' = F x) (by kernel_rfl) (by kernel_rfl) (cls_drew hF2) ?_
 simp only [List.take_succ_cons, List.take_zero, List.drop_succ_cons, List.drop_zero, List.take_nil, List.drop_nil]
 repeat (go_big_quiet_step (first | fail | (go_at_call 143; with_reducible exact cls_callT hF1 hF2 ht HT.out _) | (go_at_call 144; with_reducible exact cls_callT hF1 hF2 ht HU.out _)))
 refine wpQuiet_nil ?_
 rintro wq ⟨xq, rfl⟩
 replace hL0 := hL0.call (hF1 xq)
 clear  hq0 hF2
 generalize F xq = x3 at hL0 ⊢
 clear hF1 xq iα F α
 clear ht
 go_wp2_with fail
 exact bodyPost_ret (v := .string ((s ++ ByteArray.mk #[47]) ++ t)) (by simp [results, Tryz.results137, go_sem]) rfl ⟨rfl, hL0.bl⟩
end Go.Proofs.YtaimebjkidegiaaGreatDoor
namespace Go.Proofs.YtaimebjkidegiaaGreatDoor
open Go.RowKit
attribute [local irreducible] lo hs sm s64 c64 d64 b64 mh ml pd pc qd qc val hiB str cmpI srD lz nb isq zl zh zs
theorem fe_den (q : Rat) : q.den = if fe q = 0 then 1 else fe q := by
 unfold fe
 have := q.den_nz
 split <;> simp_all
theorem frV_z (n : Int) : frV n 0 = .agg #[.int .u64 ((zl n : Nat) : Int), .string (zh n), .bool (zs n), .int .u64 0, .string ⟨#[]⟩] := by unfold frV; rw [lo_small Bs_pos, hs_small Bs_pos]; rfl
theorem fracV_of {q : Rat} {n : Int} {d : Nat} (hn : q.num = n) (hd : q.den = d) : fracV q = frV n (if d = 1 then 0 else d) := by subst hn hd; rfl
theorem one_o (w : World) : Calls Tryz.prog 17 #[.int .u64 1] w fun e w' => e = .returned (natV 1) ∧ Below w.heap.size w w' := of_val 1 1 rfl (by unfold Bs; omega) w
theorem zero_o (w : World) : Calls Tryz.prog 17 #[.int .u64 0] w fun e w' => e = .returned (natV 0) ∧ Below w.heap.size w w' := of_val 0 0 rfl (by unfold Bs; omega) w
theorem dec_sgn (z : Int) : decide (sgn z < 0) = decide (z < 0) := by
 have : sgn z < 0 ↔ z < 0 := by unfold sgn; split <;> (try split) <;> omega
 simp only [this]
theorem whole_raw (n : Int) (e : Nat) (w : World) : Calls Tryz.prog 119 #[frV n e] w fun x w' => x = .returned (.bool (decide (e = 0))) ∧ Below w.heap.size w w' := by
 by_cases h : e = 0
 ·subst h; rw [decide_eq_true rfl]; exact whole_yes n w
 ·rw [decide_eq_false h]; exact whole_no n e h w
theorem den_raw (n : Int) (e : Nat) (w : World) : Calls Tryz.prog 45 #[frV n e] w fun x w' => x = .returned (natV (if e = 0 then 1 else e)) ∧ Below w.heap.size w w' := by
 by_cases h : e = 0
 ·subst h; rw [if_pos rfl]; exact den_one_w n (whole_yes n) one_o w
 ·rw [if_neg h]; exact den_part_w n e (whole_no n e h) w
theorem denF (q : Rat) (w : World) : Calls Tryz.prog 45 #[fracV q] w fun x w' => x = .returned (natV q.den) ∧ Below w.heap.size w w' := by
 have h := den_raw q.num (fe q) w
 rw [← fe_den] at h
 exact h
theorem numF (q : Rat) (w : World) : Calls Tryz.prog 140 #[fracV q] w fun x w' => x = .returned (intV q.num) ∧ Below w.heap.size w w' := num_w q.num (fe q) w
theorem lowest_raw (n : Int) (d : Nat) (w : World) : Calls Tryz.prog 172 #[intV n, natV d] w fun x w' => x = .returned (frV n (if d = 1 then 0 else d)) ∧ Below w.heap.size w w' := by
 by_cases h : d = 1
 ·subst h; rw [if_pos rfl, frV_z]; exact lowest_one n one_o w
 ·rw [if_neg h]; exact lowest_part n d one_o h w
theorem lowestF {q : Rat} {n : Int} {d : Nat} (hn : q.num = n) (hd : q.den = d) (w : World) : Calls Tryz.prog 172 #[intV n, natV d] w fun x w' => x = .returned (fracV q) ∧ Below w.heap.size w w' := by
 rw [fracV_of hn hd]; exact lowest_raw n d w
theorem pon_raw (n g : Nat) (hg : g ≠ 0) (hn : (digs n).length ≤ 100000000) (w : World) : Calls Tryz.prog 184 #[natV n, natV g] w fun x w' => x = .returned (natV (n / g)) ∧ Below w.heap.size w w' := by
 by_cases h : g = 1
 ·subst h; rw [Nat.div_one]; exact pon_one n one_o w
 ·exact pon_div n g (n / g) (n % g) one_o (fun w => div_pos n g (by omega) (by omega) w) h w
theorem tdiv_sgn (z : Int) (g : Nat) : z.tdiv (g : Int) = if decide (z < 0) then -((z.natAbs / g : Nat) : Int) else ((z.natAbs / g : Nat) : Int) := by
 by_cases h : z < 0
 ·obtain ⟨n, rfl⟩ : ∃ n : Nat, z = -(n : Int) := ⟨z.natAbs, by omega⟩
  rw [decide_eq_true h, if_pos rfl, Int.natAbs_neg, Int.natAbs_natCast, Int.neg_tdiv, ← Int.ofNat_tdiv]
 ·obtain ⟨n, rfl⟩ : ∃ n : Nat, z = (n : Int) := ⟨z.natAbs, by omega⟩
  rw [decide_eq_false h, Int.natAbs_natCast, ← Int.ofNat_tdiv]; rfl
theorem part_raw (z : Int) (g : Nat) (hg : g ≠ 0) (hz : dI z ≤ 100000000) (w : World) : Calls Tryz.prog 216 #[intV z, natV g] w fun x w' => x = .returned (intV (z.tdiv g)) ∧ Below w.heap.size w w' := by
 have hF := fun w => fromI (decide (z < 0)) (z.natAbs / g) (z.tdiv g) (tdiv_sgn z g) w
 have hs := dec_sgn z
 by_cases h : z < 0
 ·rw [decide_eq_true h] at hF hs
  exact part_true z (sgn z) _ _ g _ (signI z) (absI z) (pon_raw _ g hg hz) hF hs w
 ·rw [decide_eq_false h] at hF hs
  exact part_false z (sgn z) _ _ g _ (signI z) (absI z) (pon_raw _ g hg hz) hF hs w
theorem cancel_raw (z : Int) (d : Nat) (hd : d ≠ 0) (hz : dI z ≤ 100000000) (hl : (digs d).length ≤ 100000000) (w : World) :
  Calls Tryz.prog 171 #[intV z, natV d] w fun x w' => x = .returned (.tuple #[intV (z.tdiv (Nat.gcd z.natAbs d : Nat)), natV (d / Nat.gcd z.natAbs d)]) ∧ Below w.heap.size w w' := by
 have hg : Nat.gcd z.natAbs d ≠ 0 := fun e => hd (Nat.gcd_eq_zero_iff.1 e).2
 exact cancel_w z _ _ d _ _ (absI z) (fun w => gcd_any z.natAbs d (Nat.le_trans hz (by omega)) (by omega) w) (part_raw z _ hg hz) (pon_raw d _ hg hl) w
theorem fromF (z : Int) (d : Nat) (hd : d ≠ 0) (hz : dI z ≤ 100000000) (hl : (digs d).length ≤ 100000000) (w : World) : Calls Tryz.prog 122 #[intV z, natV d] w fun x w' => x = .returned (.tuple #[fracV (mkRat z d), .int .i64 0]) ∧ Below w.heap.size w w' := by
 obtain ⟨h1, h2⟩ := canc (z := z) hd
 exact ffrom_w z _ _ d _ _ zero_o (cancel_raw z d hd hz hl) (fun w => lowestF h1 h2 w) hd w
end Go.Proofs.YtaimebjkidegiaaGreatDoor
namespace Go.Proofs.YtaimebjkidegiaaGreatDoor
open Go.RowKit
attribute [local irreducible] lo hs sm s64 c64 d64 b64 mh ml pd pc qd qc val hiB str cmpI srD lz nb isq zl zh zs
theorem frV_00 : frV 0 0 = .agg #[.int .u64 0, .string ⟨#[]⟩, .bool false, .int .u64 0, .string ⟨#[]⟩] := by
 rw [frV_z, (z0).1, (z0).2.1, (z0).2.2]; rfl
theorem of_val_q (n d : Int) (h0 : d ≠ 0) : mkRat (if d < 0 then -n else n) d.natAbs = (n : Rat) / (d : Rat) := by
 rw [Rat.mkRat_eq_div]
 by_cases h : d < 0
 ·rw [if_pos h]
  have e : ((d.natAbs : Nat) : Rat) = -(d : Rat) := by
   rw [show ((d.natAbs : Nat) : Rat) = (((d.natAbs : Nat) : Int) : Rat) from (Rat.intCast_natCast _).symm, show ((d.natAbs : Nat) : Int) = -d by omega, Rat.intCast_neg]
  rw [e, Rat.intCast_neg]
  have hd : (d : Rat) ≠ 0 := by simpa using h0
  grind
 ·rw [if_neg h, show ((d.natAbs : Nat) : Rat) = (((d.natAbs : Nat) : Int) : Rat) from (Rat.intCast_natCast _).symm, show ((d.natAbs : Nat) : Int) = d by omega]
theorem i64_dI {z : Int} (h1 : -9223372036854775808 ≤ z) (h2 : z < 9223372036854775808) : dI z ≤ 1 := digs_length_iff.2 (by unfold Bs; omega)
theorem ofF (n d : Int) (a1 : -9223372036854775808 ≤ n) (a2 : n < 9223372036854775808) (b1 : -9223372036854775808 ≤ d) (b2 : d < 9223372036854775808) (h0 : d ≠ 0) (w : World) :
  Calls Tryz.prog 47 #[.int .i64 n, .int .i64 d] w fun x w' => x = .returned (.tuple #[fracV ((n : Rat) / (d : Rat)), .int .i64 0]) ∧ Below w.heap.size w w' := by
 rw [← of_val_q n d h0]
 have hs := dec_sgn d
 have ln := i64_dI a1 a2
 have ld : (digs d.natAbs).length ≤ 1 := i64_dI b1 b2
 by_cases h : d < 0
 ·rw [decide_eq_true h] at hs
  rw [if_pos h]
  exact fof_true n d (sgn d) (-n) _ n d _ _ 0 (fun w => ofI n a1 a2 w) (fun w => ofI d b1 b2 w) (signI d) (fun w => negI n w) (absI d) (fromF (-n) d.natAbs (by omega) (by rw [dI_neg]; omega) (by omega)) hs w
 ·rw [decide_eq_false h] at hs
  rw [if_neg h]
  exact fof_false n d (sgn d) n _ n d _ _ 0 (fun w => ofI n a1 a2 w) (fun w => ofI d b1 b2 w) (signI d) (absI d) (fromF n d.natAbs (by omega) (by omega) (by omega)) hs w
end Go.Proofs.YtaimebjkidegiaaGreatDoor
namespace Go.Proofs.YtaimebjkidegiaaGreatDoor
theorem amgm (x y : Nat) : 2 * (x * y) ≤ x * x + y * y := by
 rcases Nat.le_total x y with h | h
 ·obtain ⟨k, rfl⟩ := Nat.le.dest h
  have e : (x + k) * (x + k) = x * x + x * k + (x * k + k * k) := by rw [Nat.add_mul, Nat.mul_add, Nat.mul_add, Nat.mul_comm k x]
  rw [e, Nat.mul_add]; omega
 ·obtain ⟨k, rfl⟩ := Nat.le.dest h
  have e : (y + k) * (y + k) = y * y + y * k + (y * k + k * k) := by rw [Nat.add_mul, Nat.mul_add, Nat.mul_add, Nat.mul_comm k y]
  rw [e, Nat.add_mul, Nat.mul_comm k y]; omega
/-- Both squares, twice, are less than m. -/
structure Small (n d m : Nat) : Prop where
 n : 2 * (n * n) < m
 d : 2 * (d * d) < m
theorem small_mul {x y m : Nat} (hx : 2 * (x * x) < m) (hy : 2 * (y * y) < m) : 2 * (x * y) < m := by
 have := amgm x y
 omega
theorem dvd_small {m : Nat} {z : Int} (h : (m : Int) ∣ z) (hz : z.natAbs < m) : z = 0 := by
 obtain ⟨c, rfl⟩ := h
 rw [Int.natAbs_mul, Int.natAbs_natCast] at hz
 by_cases e : c = 0
 ·rw [e, Int.mul_zero]
 ·have : 1 ≤ c.natAbs := by omega
  have := Nat.le_mul_of_pos_right m this
  omega
/-- A step of Euclid's algorithm: the remainders r0 > r1 and their factors s T0 and s T1 modulo m (with opposite signs). -/
structure Euc (m : Nat) (a : Int) (r0 r1 T0 T1 : Nat) (s : Int) : Prop where
 sgn : s = 1 ∨ s = -1
 lt : r1 < r0
 c0 : (m : Int) ∣ (r0 : Int) - a * (-s * (T0 : Int))
 c1 : (m : Int) ∣ (r1 : Int) - a * (s * (T1 : Int))
 sum : r0 * T1 + r1 * T0 = m
 pos : 0 < T1
theorem Euc.start {m : Nat} (hm : 0 < m) (a : Int) : Euc m a m (a % (m : Int)).toNat 0 1 1 where
 sgn := .inl rfl
 lt := by have := Int.emod_lt_of_pos a (show (0 : Int) < m by omega); have := Int.emod_nonneg a (show (m : Int) ≠ 0 by omega); omega
 c0 := ⟨1, by simp⟩
 c1 := by
  have := Int.emod_nonneg a (show (m : Int) ≠ 0 by omega)
  rw [Int.toNat_of_nonneg this, show a * (1 * ((1 : Nat) : Int)) = a by simp]
  have e := Int.emod_add_mul_ediv a m
  exact ⟨-(a / m), by rw [Int.mul_neg]; omega⟩
 sum := by simp
 pos := Nat.one_pos
theorem Euc.step {m r0 r1 T0 T1 : Nat} {a s : Int} (h : Euc m a r0 r1 T0 T1 s) (h0 : 0 < r1) : Euc m a r1 (r0 % r1) T1 (T0 + r0 / r1 * T1) (-s) where
 sgn := by rcases h.sgn with e | e <;> simp [e]
 lt := Nat.mod_lt _ h0
 c0 := by rw [Int.neg_neg]; exact h.c1
 c1 := by
  have e := Nat.mod_add_div r0 r1
  have e2 : ((r0 % r1 : Nat) : Int) - a * (-s * ((T0 + r0 / r1 * T1 : Nat) : Int)) = ((r0 : Int) - a * (-s * (T0 : Int))) - ((r0 / r1 : Nat) : Int) * ((r1 : Int) - a * (s * (T1 : Int))) := by
   generalize r0 / r1 = q at *
   generalize r0 % r1 = r at *
   rw [← e, Int.natCast_add, Int.natCast_mul, Int.natCast_add, Int.natCast_mul]
   grind
  rw [e2]
  exact Int.dvd_sub h.c0 (Int.dvd_mul_of_dvd_right h.c1)
 sum := by
  have e := Nat.mod_add_div r0 r1
  have e2 := h.sum
  generalize r0 / r1 = q at *
  generalize r0 % r1 = r at *
  rw [← e2, ← e, Nat.mul_add, Nat.add_mul, Nat.mul_comm r1 (q * T1), Nat.mul_comm r1 q, Nat.mul_assoc q r1, Nat.mul_assoc q T1, Nat.mul_comm r1 T1]
  omega
 pos := by
  have h1 : 1 ≤ r0 / r1 := (Nat.one_le_div_iff h0).2 (Nat.le_of_lt h.lt)
  have := Nat.mul_le_mul h1 h.pos
  have e : 1 * 1 = 1 := rfl
  omega
/-- At the first remainder that is small, a small fraction in lowest terms is the remainder over its factor. -/
theorem Euc.found {m r0 r1 T0 T1 : Nat} {a s n : Int} {d : Nat} (h : Euc m a r0 r1 T0 T1 s) (hm : 0 < m) (h0 : m ≤ 2 * (r0 * r0)) (h1 : 2 * (r1 * r1) < m)
  (hd : 0 < d) (hs : Small n.natAbs d m) (hc : (m : Int) ∣ n - a * (d : Int)) (hg : Nat.gcd n.natAbs d = 1) : n = s * (r1 : Int) ∧ d = T1 := by
 obtain ⟨p0, g0⟩ := h.c0
 obtain ⟨p1, g1⟩ := h.c1
 obtain ⟨c, gc⟩ := hc
 have hss : s * s = 1 := by rcases h.sgn with e | e <;> rw [e] <;> rfl
 have hsum : (r0 : Int) * T1 + (r1 : Int) * T0 = m := by have := congrArg (Nat.cast : Nat → Int) h.sum; simpa using this
 have hm' : (m : Int) ≠ 0 := by omega
 -- the two coordinates
 obtain ⟨u, hu⟩ : ∃ u, u = c * (s * T1) - p1 * d := ⟨_, rfl⟩
 obtain ⟨v, hv⟩ : ∃ v, v = c * (-s * T0) - p0 * d := ⟨_, rfl⟩
 have eu : n * (s * T1) - d * r1 = m * u := by rw [hu]; grind
 have ev : n * (-s * T0) - d * r0 = m * v := by rw [hv]; grind
 have en : n * s = u * r0 - v * r1 := by
  refine Int.eq_of_mul_eq_mul_left hm' ?_
  have : (m : Int) * (n * s) = (n * (s * T1) - d * r1) * r0 - (n * (-s * T0) - d * r0) * r1 := by rw [← hsum]; grind
  rw [this, eu, ev]; grind
 have ed : (d : Int) = -(u * T0 + v * T1) := by
  refine Int.eq_of_mul_eq_mul_left hm' ?_
  have : (m : Int) * (d : Int) = -((n * (s * T1) - d * r1) * T0 + (n * (-s * T0) - d * r0) * T1) := by rw [← hsum]; grind
  rw [this, eu, ev]; grind
 have hna : (n * s).natAbs = n.natAbs := by rcases h.sgn with e | e <;> rw [e] <;> simp
 -- the first one is 0
 have hu0 : u = 0 := by
  refine Decidable.byContradiction fun e => ?_
  by_cases hopp : u * v ≤ 0
  ·-- the numerator would be too great
   have hge : r0 ≤ n.natAbs := by
    rw [← hna, en]
    have k1 : (r0 : Int) ≤ (u.natAbs : Int) * r0 := by
     have : (1 : Int) ≤ u.natAbs := by omega
     have := Int.mul_le_mul_of_nonneg_right this (show (0 : Int) ≤ r0 by omega)
     omega
    rcases Int.lt_or_le u 0 with hu1 | hu1
    ·have hv1 : 0 ≤ v := by
      rcases Int.lt_or_le v 0 with k | k
      ·exact absurd (Int.mul_pos_of_neg_of_neg hu1 k) (by omega)
      ·exact k
     have k2 : 0 ≤ v * (r1 : Int) := Int.mul_nonneg hv1 (by omega)
     have k3 : (u.natAbs : Int) * r0 = -(u * r0) := by rw [show (u.natAbs : Int) = -u by omega, Int.neg_mul]
     omega
    ·have hu2 : 0 < u := by omega
     have hv1 : v ≤ 0 := by
      rcases Int.lt_or_le 0 v with k | k
      ·exact absurd (Int.mul_pos hu2 k) (by omega)
      ·exact k
     have k2 : v * (r1 : Int) ≤ 0 := Int.mul_nonpos_of_nonpos_of_nonneg hv1 (by omega)
     have k3 : (u.natAbs : Int) * r0 = u * r0 := by rw [show (u.natAbs : Int) = u by omega]
     omega
   have := Nat.mul_le_mul hge hge
   have := hs.n
   omega
  ·-- the denominator would be at least the factor
   have hv0 : v ≠ 0 := fun e => by rw [e, Int.mul_zero] at hopp; omega
   have hT : T1 ≤ d := by
    have k1 : (T1 : Int) ≤ (v.natAbs : Int) * T1 := by
     have : (1 : Int) ≤ v.natAbs := by omega
     have := Int.mul_le_mul_of_nonneg_right this (show (0 : Int) ≤ T1 by omega)
     omega
    rcases Int.lt_or_le v 0 with hv1 | hv1
    ·have hu1 : u ≤ 0 := by
      rcases Int.lt_or_le 0 u with k | k
      ·exact absurd (Int.mul_neg_of_pos_of_neg k hv1) (by omega)
      ·exact k
     have k2 : u * (T0 : Int) ≤ 0 := Int.mul_nonpos_of_nonpos_of_nonneg hu1 (by omega)
     have k3 : (v.natAbs : Int) * T1 = -(v * T1) := by rw [show (v.natAbs : Int) = -v by omega, Int.neg_mul]
     omega
    ·have hu1 : 0 ≤ u := by
      rcases Int.lt_or_le u 0 with k | k
      ·exact absurd (Int.mul_neg_of_neg_of_pos k (show 0 < v by omega)) (by omega)
      ·exact k
     have k2 : 0 ≤ u * (T0 : Int) := Int.mul_nonneg hu1 (by omega)
     have k3 : (v.natAbs : Int) * T1 = v * T1 := by rw [show (v.natAbs : Int) = v by omega]
     omega
   have a1 := small_mul hs.n hs.d
   have a2 := small_mul hs.d h1
   have a3 : n.natAbs * T1 ≤ n.natAbs * d := Nat.mul_le_mul_left _ hT
   have b1 : (n * (s * T1)).natAbs = n.natAbs * T1 := by
    rw [Int.natAbs_mul, Int.natAbs_mul, Int.natAbs_natCast]
    rcases h.sgn with e | e <;> rw [e] <;> simp
   have b2 : ((d : Int) * r1).natAbs = d * r1 := by rw [Int.natAbs_mul, Int.natAbs_natCast, Int.natAbs_natCast]
   have hz := dvd_small (m := m) (z := n * (s * T1) - d * r1) ⟨u, eu⟩ (by omega)
   rw [hz] at eu
   rcases Int.mul_eq_zero.1 eu.symm with k | k
   ·exact hm' k
   ·exact e k
 -- so the second one is -1
 rw [hu0, Int.zero_mul, Int.zero_add] at ed
 rw [hu0, Int.zero_mul, Int.zero_sub] at en
 have hvd : v.natAbs ∣ d := ⟨T1, by
  have := congrArg Int.natAbs ed
  rwa [Int.natAbs_natCast, Int.natAbs_neg, Int.natAbs_mul, Int.natAbs_natCast] at this⟩
 have hvn : v.natAbs ∣ n.natAbs := ⟨r1, by
  have := congrArg Int.natAbs en
  rwa [hna, Int.natAbs_neg, Int.natAbs_mul, Int.natAbs_natCast] at this⟩
 have hv1 : v.natAbs = 1 := by
  have := Nat.dvd_gcd hvn hvd
  rw [hg] at this
  exact Nat.dvd_one.1 this
 have hvneg : v = -1 := by
  rcases (by omega : v = 1 ∨ v = -1) with k | k
  ·exfalso; rw [k, Int.one_mul] at ed; omega
  ·exact k
 rw [hvneg] at ed en
 refine ⟨?_, by omega⟩
 have : n * s * s = (r1 : Int) * s := by rw [en]; simp
 rw [Int.mul_assoc, hss, Int.mul_one] at this
 rw [this, Int.mul_comm]
end Go.Proofs.YtaimebjkidegiaaGreatDoor
namespace Go.Proofs.YtaimebjkidegiaaGreatDoor
/-- Euclid's algorithm, ended at the first small remainder or at the first great factor. -/
def eucGo (K : Nat) : Nat → Nat → Nat → Nat → Nat → Int → Option (Int × Nat)
 | 0, _, _, _, _, _ => none
 | g + 1, r0, r1, T0, T1, s => if K < T1 then none else if r1 ≤ K then some (s * (r1 : Int), T1) else eucGo K g r1 (r0 % r1) T1 (T0 + r0 / r1 * T1) (-s)
/-- The greatest number whose square, twice, is less than m. -/
def recK (m : Nat) : Nat := isq ((m - 1) / 2)
theorem recK_iff {m : Nat} (h : 0 < m) (x : Nat) : x ≤ recK m ↔ 2 * (x * x) < m := by
 unfold recK
 obtain ⟨g1, g2⟩ := isq_spec ((m - 1) / 2)
 constructor
 ·intro hx
  have := Nat.mul_le_mul hx hx
  omega
 ·intro hx
  rcases Nat.lt_or_ge (isq ((m - 1) / 2)) x with h1 | h1
  ·have := Nat.mul_le_mul (show isq ((m - 1) / 2) + 1 ≤ x from h1) (show isq ((m - 1) / 2) + 1 ≤ x from h1)
   omega
  ·exact h1
theorem recK_lt {m : Nat} (h : 0 < m) : recK m < m := by
 rcases Nat.lt_or_ge (recK m) m with h1 | h1
 ·exact h1
 ·have h2 := (recK_iff h m).1 h1
  have := Nat.le_mul_of_pos_right m h
  omega
theorem recK_zero : recK 0 = 0 := rfl
theorem eucGo_sound {m : Nat} (hm : 0 < m) {a : Int} : ∀ (g r0 r1 T0 T1 : Nat) (s : Int) (n : Int) (d : Nat), Euc m a r0 r1 T0 T1 s → eucGo (recK m) g r0 r1 T0 T1 s = some (n, d) → (m : Int) ∣ n - a * (d : Int) ∧ n.natAbs ≤ recK m ∧ d ≤ recK m ∧ 0 < d
 | 0, _, _, _, _, _, _, _, _, e => by simp [eucGo] at e
 | g + 1, r0, r1, T0, T1, s, n, d, h, e => by
  rw [eucGo] at e
  by_cases h1 : recK m < T1
  ·rw [if_pos h1] at e; cases e
  rw [if_neg h1] at e
  by_cases h2 : r1 ≤ recK m
  ·rw [if_pos h2] at e
   have e' := Option.some.inj e
   obtain ⟨rfl, rfl⟩ := Prod.mk.inj e'
   have hss : s * s = 1 := by rcases h.sgn with e | e <;> rw [e] <;> rfl
   refine ⟨?_, ?_, by omega, h.pos⟩
   ·have e : s * (r1 : Int) - a * (T1 : Int) = s * ((r1 : Int) - a * (s * (T1 : Int))) := by
     have : s * ((r1 : Int) - a * (s * (T1 : Int))) = s * r1 - a * ((s * s) * T1) := by grind
     rw [this, hss, Int.one_mul]
    rw [e]
    exact Int.dvd_mul_of_dvd_right h.c1
   ·rw [Int.natAbs_mul, Int.natAbs_natCast]
    rcases h.sgn with e | e <;> rw [e] <;> simpa using h2
  ·rw [if_neg h2] at e
   exact eucGo_sound hm g _ _ _ _ _ n d (h.step (by omega)) e
theorem eucGo_find {m : Nat} (hm : 0 < m) {a n : Int} {d : Nat} (hd : 0 < d) (hs : Small n.natAbs d m) (hc : (m : Int) ∣ n - a * (d : Int)) (hg : Nat.gcd n.natAbs d = 1) :
  ∀ (g r0 r1 T0 T1 : Nat) (s : Int), Euc m a r0 r1 T0 T1 s → recK m < r0 → r1 < g → T1 ≤ d ∧ eucGo (recK m) g r0 r1 T0 T1 s = some (n, d)
 | 0, _, _, _, _, _, _, _, h => by omega
 | g + 1, r0, r1, T0, T1, s, h, h0, hr => by
  have hdK : d ≤ recK m := (recK_iff hm d).2 hs.d
  rw [eucGo]
  by_cases h2 : r1 ≤ recK m
  ·have hm0 : m ≤ 2 * (r0 * r0) := by
    rcases Nat.lt_or_ge (2 * (r0 * r0)) m with g1 | g1
    ·have := (recK_iff hm r0).2 g1; omega
    ·exact g1
   obtain ⟨e1, e2⟩ := h.found hm hm0 ((recK_iff hm r1).1 h2) hd hs hc hg
   subst e2
   exact ⟨Nat.le_refl _, by rw [if_neg (by omega), if_pos h2, e1]⟩
  ·have hp : 0 < r1 := by omega
   obtain ⟨k1, k2⟩ := eucGo_find hm hd hs hc hg g r1 (r0 % r1) T1 (T0 + r0 / r1 * T1) (-s) (h.step hp) (by omega) (by have := Nat.mod_lt r0 hp; omega)
   have h1 : 1 ≤ r0 / r1 := (Nat.one_le_div_iff hp).2 (Nat.le_of_lt h.lt)
   have h3 : T1 ≤ r0 / r1 * T1 := Nat.le_mul_of_pos_left T1 h1
   exact ⟨by omega, by rw [if_neg (by omega), if_neg h2]; exact k2⟩
def candO (a : Int) (m : Nat) : Option (Int × Nat) := eucGo (recK m) (m + 1) m (a % (m : Int)).toNat 0 1 1
theorem candO_zero (a : Int) : candO a 0 = none := by unfold candO eucGo; rw [recK_zero, if_pos (by decide)]
/-- q is congruent to a modulo m, if m isn't 0. -/
def fitsB (q : Rat) (a : Int) (m : Nat) : Bool := decide (m ≠ 0 ∧ q.num % (m : Int) = a * (q.den : Int) % (m : Int))
def farB (q : Rat) (m : Nat) : Bool := decide (2 * (q.num.natAbs * q.num.natAbs) < m ∧ 2 * (q.den * q.den) < m)
theorem fitsB_iff {q : Rat} {a : Int} {m : Nat} : fitsB q a m = true ↔ 0 < m ∧ (m : Int) ∣ q.num - a * (q.den : Int) := by
 unfold fitsB
 rw [decide_eq_true_iff]
 refine and_congr (by omega) ?_
 exact Int.emod_emod_of_dvd |> fun _ => Int.emod_eq_emod_iff_emod_sub_eq_zero.trans Int.dvd_iff_emod_eq_zero.symm
theorem farB_iff {q : Rat} {m : Nat} : farB q m = true ↔ Small q.num.natAbs q.den m := by
 unfold farB
 rw [decide_eq_true_iff]
 exact ⟨fun h => ⟨h.1, h.2⟩, fun h => ⟨h.n, h.d⟩⟩
def backO (a : Int) (m : Nat) : Option Rat := match candO a m with
 | none => none
 | some (n, d) => if fitsB (mkRat n d) a m = true then some (mkRat n d) else none
theorem mk_num_le {n : Int} {d : Nat} (hd : d ≠ 0) : (mkRat n d).num.natAbs ≤ n.natAbs := by
 rw [(canc hd).1, Int.natAbs_tdiv]
 exact Nat.div_le_self _ _
theorem mk_den_le {n : Int} {d : Nat} (hd : d ≠ 0) : (mkRat n d).den ≤ d := by
 rw [(canc hd).2]
 exact Nat.div_le_self _ _
theorem backO_iff {a : Int} {m : Nat} {q : Rat} : backO a m = some q ↔ fitsB q a m = true ∧ farB q m = true := by
 rcases Nat.eq_zero_or_pos m with rfl | hm
 ·unfold backO
  rw [candO_zero, fitsB_iff]
  simp
 have he := Euc.start hm a
 have hlt : (a % (m : Int)).toNat < m := he.lt
 constructor
 ·intro h
  unfold backO at h
  cases hc : candO a m with
  | none => rw [hc] at h; cases h
  | some p =>
   obtain ⟨n, d⟩ := p
   rw [hc] at h
   obtain ⟨k1, k2, k3, k4⟩ := eucGo_sound hm _ _ _ _ _ _ n d he hc
   by_cases hf : fitsB (mkRat n d) a m = true
   ·have h' : (if fitsB (mkRat n d) a m = true then some (mkRat n d) else none) = some q := h
    rw [if_pos hf] at h'
    obtain rfl := Option.some.inj h'
    refine ⟨hf, farB_iff.2 ⟨?_, ?_⟩⟩
    ·have := mk_num_le (n := n) (d := d) (by omega)
     exact (recK_iff hm _).1 (by omega)
    ·have := mk_den_le (n := n) (d := d) (by omega)
     exact (recK_iff hm _).1 (by omega)
   ·have h' : (if fitsB (mkRat n d) a m = true then some (mkRat n d) else none) = some q := h
    rw [if_neg hf] at h'; cases h'
 ·rintro ⟨h1, h2⟩
  have h3 := fitsB_iff.1 h1
  have h4 := farB_iff.1 h2
  have h5 := (eucGo_find hm q.den_pos h4 h3.2 q.reduced (m + 1) m (a % (m : Int)).toNat 0 1 1 he (recK_lt hm) (by omega)).2
  unfold backO
  rw [show candO a m = some (q.num, q.den) from h5]
  show (if fitsB (mkRat q.num q.den) a m = true then some (mkRat q.num q.den) else none) = some q
  rw [Rat.mkRat_self, if_pos h1]
def backB (a : Int) (m : Nat) : Bool := (backO a m).isSome
def backQ (a : Int) (m : Nat) : Rat := (backO a m).getD 0
theorem backB_true {a : Int} {m : Nat} (h : backB a m = true) : fitsB (backQ a m) a m = true ∧ farB (backQ a m) m = true := by
 unfold backB at h
 unfold backQ
 cases e : backO a m with
 | none => rw [e] at h; cases h
 | some q => exact backO_iff.1 e
theorem backB_false {a : Int} {m : Nat} (h : backB a m = false) : backQ a m = 0 := by
 unfold backB at h
 unfold backQ
 cases e : backO a m with
 | none => rfl
 | some q => rw [e] at h; cases h
end Go.Proofs.YtaimebjkidegiaaGreatDoor
namespace Go.Proofs.YtaimebjkidegiaaGreatDoor
theorem dI_div {x y : Int} {k : Nat} (h : dI x ≤ k) : dI (x / y) ≤ k := Nat.le_trans (dI_mono (Int.natAbs_ediv_le_natAbs x y)) h
theorem dI_le {z : Int} {m k : Nat} (h : z.natAbs ≤ m) (hm : (digs m).length ≤ k) : dI z ≤ k := Nat.le_trans (digs_mono h) hm
/-- What the program keeps: two remainders and their factors, with their signs. -/
structure CP (a : Int) (m g : Nat) (b n v d : Int) (r0 r1 T0 T1 : Nat) (s : Int) : Prop where
 e : Euc m a r0 r1 T0 T1 s
 hb : b = (r0 : Int)
 hn : n = (r1 : Int)
 hv : v = -s * (T0 : Int)
 hd : d = s * (T1 : Int)
 l0 : r0 ≤ m
 l1 : T0 ≤ m
 hg : r1 < g
 go : eucGo (recK m) g r0 r1 T0 T1 s = candO a m
def CEu (a : Int) (m g : Nat) (b n v d : Int) : Prop := (m = 0 ∧ b = 0 ∧ n = 0 ∧ v = 0 ∧ d = 1) ∨ (0 < m ∧ ∃ (r0 r1 T0 T1 : Nat) (s : Int), CP a m g b n v d r0 r1 T0 T1 s)
theorem sg_abs {s : Int} (h : s = 1 ∨ s = -1) (T : Nat) : (s * (T : Int)).natAbs = T ∧ (-s * (T : Int)).natAbs = T := by
 rcases h with rfl | rfl <;> simp
theorem CEu.start (a : Int) (m : Nat) : CEu a m (m + 1) (m : Int) (if m = 0 then 0 else a % (m : Int)) 0 1 := by
 rcases Nat.eq_zero_or_pos m with rfl | hm
 ·exact .inl ⟨rfl, rfl, rfl, rfl, rfl⟩
 ·have h0 := Int.emod_nonneg a (show (m : Int) ≠ 0 by omega)
  have h1 := Int.emod_lt_of_pos a (show (0 : Int) < m by omega)
  refine .inr ⟨hm, m, (a % (m : Int)).toNat, 0, 1, 1, Euc.start hm a, rfl, ?_, by simp, by simp, Nat.le_refl _, Nat.zero_le _, by omega, rfl⟩
  rw [if_neg (by omega)]; omega
theorem Euc.T1_le {m r0 r1 T0 T1 : Nat} {a s : Int} (h : Euc m a r0 r1 T0 T1 s) : T1 ≤ m := by
 have h1 := h.sum
 have h2 := h.lt
 have := Nat.le_mul_of_pos_left T1 (show 0 < r0 by omega)
 omega
theorem CEu.small {a : Int} {m g : Nat} {b n v d : Int} (h : CEu a m g b n v d) (hm : (digs m).length ≤ 10000) : dI b ≤ 10001 ∧ dI n ≤ 10001 ∧ dI v ≤ 10001 ∧ dI d ≤ 10001 := by
 rcases h with ⟨rfl, rfl, rfl, rfl, rfl⟩ | ⟨hp, r0, r1, T0, T1, s, c⟩
 ·have h0 : dI 0 ≤ 10001 := by unfold dI; exact Nat.le_trans (digs_mono (show (0 : Int).natAbs ≤ 0 by omega)) (by omega)
  have h1 : dI 1 ≤ 10001 := Nat.le_trans (digs_length_iff.2 (by rw [Nat.pow_one]; unfold Bs; decide)) (show 1 ≤ 10001 by omega)
  exact ⟨h0, h0, h0, h1⟩
 ·obtain ⟨s1, s2⟩ := sg_abs c.e.sgn T1
  obtain ⟨t1, t2⟩ := sg_abs c.e.sgn T0
  have hlt := c.e.lt
  have h4 := c.e.T1_le
  have l0 := c.l0
  have l1 := c.l1
  rw [c.hb, c.hn, c.hv, c.hd]
  exact ⟨Nat.le_trans (dI_le (m := m) (by omega) hm) (by omega), Nat.le_trans (dI_le (m := m) (by omega) hm) (by omega), Nat.le_trans (dI_le (m := m) (by omega) hm) (by omega), Nat.le_trans (dI_le (m := m) (by omega) hm) (by omega)⟩
theorem CEu.none {a : Int} {m g : Nat} {b n v d : Int} (h : CEu a m g b n v d) (hd : recK m < d.natAbs) : candO a m = none := by
 rcases h with ⟨rfl, rfl, rfl, rfl, rfl⟩ | ⟨hp, r0, r1, T0, T1, s, c⟩
 ·exact candO_zero a
 ·rw [c.hd, (sg_abs c.e.sgn T1).1] at hd
  have hg := c.hg
  have := c.go
  obtain ⟨g, rfl⟩ : ∃ k, g = k + 1 := ⟨g - 1, by omega⟩
  rw [eucGo, if_pos hd] at this
  exact this.symm
theorem CEu.some {a : Int} {m g : Nat} {b n v d : Int} (h : CEu a m g b n v d) (hd : d.natAbs ≤ recK m) (hn : n.natAbs ≤ recK m) : candO a m = some (if d < 0 then -n else n, d.natAbs) := by
 rcases h with ⟨rfl, rfl, rfl, rfl, rfl⟩ | ⟨hp, r0, r1, T0, T1, s, c⟩
 ·rw [recK_zero] at hd; omega
 ·have hpos := c.e.pos
  have hg := c.hg
  have hgo := c.go
  have hsg := c.e.sgn
  rw [c.hd, (sg_abs hsg T1).1] at hd
  rw [c.hn, Int.natAbs_natCast] at hn
  obtain ⟨g, rfl⟩ : ∃ k, g = k + 1 := ⟨g - 1, by omega⟩
  rw [eucGo, if_neg (by omega), if_pos hn] at hgo
  rw [← hgo, c.hd, (sg_abs hsg T1).1, c.hn]
  rcases hsg with rfl | rfl
  ·rw [if_neg (by omega), Int.one_mul]
  ·rw [if_pos (by omega)]; simp
theorem CEu.pos {a : Int} {m g : Nat} {b n v d : Int} (h : CEu a m g b n v d) (hd : d.natAbs ≤ recK m) : d.natAbs ≠ 0 := by
 rcases h with ⟨rfl, rfl, rfl, rfl, rfl⟩ | ⟨hp, r0, r1, T0, T1, s, c⟩
 ·decide
 ·have := c.e.pos
  rw [c.hd, (sg_abs c.e.sgn T1).1]; omega
theorem CEu.step {a : Int} {m g : Nat} {b n v d : Int} (h : CEu a m g b n v d) (hd : d.natAbs ≤ recK m) (hn : recK m < n.natAbs) : n ≠ 0 ∧ ∃ g', g' < g ∧ CEu a m g' n (b % n) d (v - b / n * d) := by
 rcases h with ⟨rfl, rfl, rfl, rfl, rfl⟩ | ⟨hp, r0, r1, T0, T1, s, c⟩
 ·rw [recK_zero] at hd; omega
 ·have hg := c.hg
  have hgo := c.go
  have hsg := c.e.sgn
  have hlt := c.e.lt
  have h4 := c.e.T1_le
  have l0 := c.l0
  rw [c.hd, (sg_abs hsg T1).1] at hd
  rw [c.hn, Int.natAbs_natCast] at hn
  refine ⟨by rw [c.hn]; omega, g - 1, by omega, .inr ⟨hp, r1, r0 % r1, T1, T0 + r0 / r1 * T1, -s, c.e.step (by omega), c.hn, by rw [c.hb, c.hn]; rfl, by rw [c.hd, Int.neg_neg], ?_, by omega, h4, ?_, ?_⟩⟩
  ·rw [c.hv, c.hd, c.hb, c.hn]
   have e : ((r0 : Int) / (r1 : Int)) = ((r0 / r1 : Nat) : Int) := rfl
   rw [e, Int.natCast_add, Int.natCast_mul]
   grind
  ·have := Nat.mod_lt r0 (show 0 < r1 by omega)
   omega
  ·obtain ⟨k, rfl⟩ : ∃ k, g = k + 1 := ⟨g - 1, by omega⟩
   rw [eucGo, if_neg (by omega), if_neg (by omega)] at hgo
   exact hgo
end Go.Proofs.YtaimebjkidegiaaGreatDoor
namespace Go.Proofs.YtaimebjkidegiaaGreatDoor
open Go.RowKit
attribute [local irreducible] lo hs sm s64 c64 d64 b64 mh ml pd pc qd qc val hiB str cmpI srD lz nb isq zl zh zs fe
set_option maxHeartbeats 4000000 in
set_option maxRecDepth 100000 in
theorem pnormal_w (z y q r : Int) (m : Nat) (b : Bool) (HF : ∀ w, Calls Tryz.prog 19 #[.bool false, natV m] w fun xe w' => xe = .returned (intV y) ∧ Below w.heap.size w w') (HD : ∀ w, Calls Tryz.prog 21 #[intV z, intV y] w fun xe w' => xe = .returned (.tuple #[intV q, intV r, .bool b]) ∧ Below w.heap.size w w') (w : World) :
  Calls Tryz.prog 147 #[frV z m] w fun xe w' => xe = .returned (frV r m) ∧ Below w.heap.size w w' := by
 have hL0 : GL w w [] := GL.start w
 replace HF := Lib.hid HF
 replace HD := Lib.hid HD
 replace hL0 := ((hL0.new rfl [.int .u64 ((zl z : Nat) : Int), .string (zh z), .bool (zs z), .int .u64 ((lo m : Nat) : Int), .string (hs m)] 55).new (K := w.heap.size + 1) (szA _ _) [.int .u64 0, .string ⟨#[]⟩, .bool false, .int .u64 0, .string ⟨#[]⟩] 55)
 generalize hweq : ((w.alloc (.cells #[.int .u64 ((zl z : Nat) : Int), .string (zh z), .bool (zs z), .int .u64 ((lo m : Nat) : Int), .string (hs m)] 55)).alloc (.cells #[.int .u64 0, .string ⟨#[]⟩, .bool false, .int .u64 0, .string ⟨#[]⟩] 55)) = x1 at hL0
 go_enter Tryz.func147, Tryz.ntmps147
 go_upto_region 1 with fail
 clear hweq
 refine region_gh (by kernel_rfl) (by kernel_rfl) ?_
 refine lex_seg (gl := []) 10 (by kernel_rfl) ?_
 intro α iα F hF1 hF2
 have hq := GL.seg hF1 hL0
 simp only [fcC, cellsC, and_true, Nat.zero_add, Nat.reduceAdd] at hq
 simp only [List.take_succ_cons, List.take_zero, List.drop_succ_cons, List.drop_zero, List.take_nil, List.drop_nil]
 repeat (go_big_quiet_step (first | fail | (go_at_call 19; with_reducible exact seg_call hF2 HF.out _) | (go_at_call 21; with_reducible exact seg_call hF2 HD.out _)))
 refine wpQuiet_nil ?_
 clear hq hF1 hF2 iα F α
 refine lex_new [.int .u64 0, .string ⟨#[]⟩, .bool false] 3 32 32 rfl rfl (of_decide_eq_true (by kernel_rfl)) (by kernel_rfl) rfl new_int ?_
 simp only [Act.put, List.setIfInBounds_toArray, List.set_cons_succ, List.set_cons_zero]
 refine lex_new [.int .u64 0, .string ⟨#[]⟩, .bool false] 4 32 32 rfl rfl (of_decide_eq_true (by kernel_rfl)) (by kernel_rfl) rfl new_int ?_
 simp only [Act.put, List.setIfInBounds_toArray, List.set_cons_succ, List.set_cons_zero]
 refine lex_put [.int .u64 ((zl q : Nat) : Int), .string (zh q), .bool (zs q)] [.int .u64 0, .string ⟨#[]⟩, .bool false] 3 32 (.tmp 13) rfl (by kernel_rfl) (by simp [toG, upd]) rfl (fun w k h => put_int _ _ _ _ _ _ w k h) ?_
 simp only [Act.put]
 refine lex_put [.int .u64 ((zl r : Nat) : Int), .string (zh r), .bool (zs r)] [.int .u64 0, .string ⟨#[]⟩, .bool false] 4 32 (.tmp 14) rfl (by kernel_rfl) (by simp [toG, upd]) rfl (fun w k h => put_int _ _ _ _ _ _ w k h) ?_
 simp only [Act.put]
 refine lex_seg (gl := [(4, [.int .u64 ((zl r : Nat) : Int), .string (zh r), .bool (zs r)], true), (3, [.int .u64 ((zl q : Nat) : Int), .string (zh q), .bool (zs q)], true), (4, [.int .u64 0, .string ⟨#[]⟩, .bool false], false), (3, [.int .u64 0, .string ⟨#[]⟩, .bool false], false)]) 1 (by kernel_rfl) ?_
 intro α iα F hF1 hF2
 have hq := GL.seg hF1 hL0
 simp only [fcC, cellsC, and_true, Nat.zero_add, Nat.reduceAdd] at hq
 simp only [List.take_succ_cons, List.take_zero, List.drop_succ_cons, List.drop_zero, List.take_nil, List.drop_nil]
 repeat (go_big_quiet_step (first | fail | (go_at_call 19; with_reducible exact seg_call hF2 HF.out _) | (go_at_call 21; with_reducible exact seg_call hF2 HD.out _)))
 refine wpQuiet_nil ?_
 clear hq hF1 hF2 iα F α
 refine lexG_nil ?_
 intro κ x2 hS
 replace hL0 := hL0.ghs hS [(4, [.int .u64 ((zl r : Nat) : Int), .string (zh r), .bool (zs r)]), (3, [.int .u64 ((zl q : Nat) : Int), .string (zh q), .bool (zs q)])] (by simp) (by intro p hp; simp only [List.mem_cons, List.not_mem_nil, or_false] at hp; rcases hp with rfl | rfl <;> exact ⟨_, by simp only [toG, upd]; rfl⟩)
 simp only [List.map_cons, List.map_nil, List.cons_append, List.nil_append] at hL0
 simp only [over_toG, over_nil, Act.put, List.setIfInBounds_toArray, List.set_cons_succ, List.set_cons_zero]
 clear hS
 generalize κ 4 = k2_4 at *
 generalize κ 3 = k2_3 at *
 have hA := hL0.fc
 simp only [fcG, cellsF, neK, and_true, ne_eq, Nat.zero_add, Nat.reduceAdd] at hA
 have hP := hL0.put 2 (w.heap.size + 1) _ rfl [.int .u64 ((zl r : Nat) : Int), .string (zh r), .bool (zs r), .int .u64 ((lo m : Nat) : Int), .string (hs m)] rfl
 simp only [setAll, List.set_cons_zero, List.set_cons_succ] at hP
 generalize hput1 : (((((x2.setCell ⟨w.heap.size + 1, 0, none⟩ (.int .u64 ((zl r : Nat) : Int))).setCell ⟨w.heap.size + 1, 1, none⟩ (.string (zh r))).setCell ⟨w.heap.size + 1, 2, none⟩ (.bool (zs r))).setCell ⟨w.heap.size + 1, 3, none⟩ (.int .u64 ((lo m : Nat) : Int))).setCell ⟨w.heap.size + 1, 4, none⟩ (.string (hs m))) = x3 at hP
 have hB1 := hP.fc
 simp only [fcG, cellsF, neK, and_true, ne_eq, Nat.zero_add, Nat.reduceAdd] at hB1
 replace hL0 := hP
 go_wp2_with fail
 exact bodyPost_ret (v := .agg #[.int .u64 ((zl r : Nat) : Int), .string (zh r), .bool (zs r), .int .u64 ((lo m : Nat) : Int), .string (hs m)]) (by simp [results, Tryz.results147, go_sem, hB1]) rfl ⟨rfl, hL0.bl⟩
set_option maxHeartbeats 4000000 in
set_option maxRecDepth 100000 in
theorem pcong_yes (y z r : Int) (m : Nat) (H1 : ∀ w, Calls Tryz.prog 147 #[frV y m] w fun xe w' => xe = .returned (frV r m) ∧ Below w.heap.size w w') (H2 : ∀ w, Calls Tryz.prog 147 #[frV z m] w fun xe w' => xe = .returned (frV r m) ∧ Below w.heap.size w w') (w : World) :
  Calls Tryz.prog 139 #[intV y, intV z, natV m] w fun xe w' => xe = .returned (.bool true) ∧ Below w.heap.size w w' := by
 have hL0 : GL w w [] := GL.start w
 replace H1 := Lib.hid H1
 replace H2 := Lib.hid H2
 replace hL0 := (((hL0.new rfl [.int .u64 ((zl y : Nat) : Int), .string (zh y), .bool (zs y)] 32).new (K := w.heap.size + 1) (szA _ _) [.int .u64 ((zl z : Nat) : Int), .string (zh z), .bool (zs z)] 32).new (K := w.heap.size + 1 + 1) (by simp only [World.size_alloc]) [.int .u64 ((lo m : Nat) : Int), .string (hs m)] 30)
 generalize hweq : (((w.alloc (.cells #[.int .u64 ((zl y : Nat) : Int), .string (zh y), .bool (zs y)] 32)).alloc (.cells #[.int .u64 ((zl z : Nat) : Int), .string (zh z), .bool (zs z)] 32)).alloc (.cells #[.int .u64 ((lo m : Nat) : Int), .string (hs m)] 30)) = x1 at hL0
 go_enter Tryz.func139, Tryz.ntmps139
 go_upto_region 1 with fail
 clear hweq
 obtain ⟨α, iα, F, hF1, hF2⟩ := cls x1
 have hq0 := cls_box hF1 hL0 _ _ List.mem_cons_self
 simp only [cellsC, and_true, Nat.zero_add, Nat.reduceAdd] at hq0
 have hq1 := cls_box hF1 hL0 _ _ (List.mem_cons_of_mem _ List.mem_cons_self)
 simp only [cellsC, and_true, Nat.zero_add, Nat.reduceAdd] at hq1
 have hq2 := cls_box hF1 hL0 _ _ (List.mem_cons_of_mem _ (List.mem_cons_of_mem _ List.mem_cons_self))
 simp only [cellsC, and_true, Nat.zero_add, Nat.reduceAdd] at hq2
 refine region_qs 10 (C := fun w' => ∃ x, w' = F x) (by kernel_rfl) (by kernel_rfl) (cls_drew hF2) ?_
 simp only [List.take_succ_cons, List.take_zero, List.drop_succ_cons, List.drop_zero, List.take_nil, List.drop_nil]
 repeat (go_big_quiet_step (first | fail | (go_at_call 147; with_reducible exact cls_call hF1 hF2 H1.out _) | (go_at_call 147; with_reducible exact cls_call hF1 hF2 H2.out _)))
 refine wpQuiet_nil ?_
 rintro wq ⟨xq, rfl⟩
 replace hL0 := hL0.call (hF1 xq)
 clear  hq0 hq1 hq2 hF2
 generalize F xq = x2 at hL0 ⊢
 clear hF1 xq iα F α
 go_wp2_with fail
 exact bodyPost_ret (v := .bool true) (by simp [results, Tryz.results139, go_sem]) rfl ⟨rfl, hL0.bl⟩
set_option maxHeartbeats 4000000 in
set_option maxRecDepth 100000 in
theorem pcong_no (y z r s : Int) (m : Nat) (H1 : ∀ w, Calls Tryz.prog 147 #[frV y m] w fun xe w' => xe = .returned (frV r m) ∧ Below w.heap.size w w') (H2 : ∀ w, Calls Tryz.prog 147 #[frV z m] w fun xe w' => xe = .returned (frV s m) ∧ Below w.heap.size w w') (hn : r ≠ s) (w : World) :
  Calls Tryz.prog 139 #[intV y, intV z, natV m] w fun xe w' => xe = .returned (.bool false) ∧ Below w.heap.size w w' := by
 have hL0 : GL w w [] := GL.start w
 replace H1 := Lib.hid H1
 replace H2 := Lib.hid H2
 have hz := ne_int hn
 clear hn
 rcases hz with e0 | ⟨e0, e1⟩ | ⟨e0, e1, e2⟩
 all_goals (
  replace hL0 := (((hL0.new rfl [.int .u64 ((zl y : Nat) : Int), .string (zh y), .bool (zs y)] 32).new (K := w.heap.size + 1) (szA _ _) [.int .u64 ((zl z : Nat) : Int), .string (zh z), .bool (zs z)] 32).new (K := w.heap.size + 1 + 1) (by simp only [World.size_alloc]) [.int .u64 ((lo m : Nat) : Int), .string (hs m)] 30)
  generalize hweq : (((w.alloc (.cells #[.int .u64 ((zl y : Nat) : Int), .string (zh y), .bool (zs y)] 32)).alloc (.cells #[.int .u64 ((zl z : Nat) : Int), .string (zh z), .bool (zs z)] 32)).alloc (.cells #[.int .u64 ((lo m : Nat) : Int), .string (hs m)] 30)) = x1 at hL0
  go_enter Tryz.func139, Tryz.ntmps139
  go_upto_region 1 with fail
  clear hweq
  obtain ⟨α, iα, F, hF1, hF2⟩ := cls x1
  have hq0 := cls_box hF1 hL0 _ _ List.mem_cons_self
  simp only [cellsC, and_true, Nat.zero_add, Nat.reduceAdd] at hq0
  have hq1 := cls_box hF1 hL0 _ _ (List.mem_cons_of_mem _ List.mem_cons_self)
  simp only [cellsC, and_true, Nat.zero_add, Nat.reduceAdd] at hq1
  have hq2 := cls_box hF1 hL0 _ _ (List.mem_cons_of_mem _ (List.mem_cons_of_mem _ List.mem_cons_self))
  simp only [cellsC, and_true, Nat.zero_add, Nat.reduceAdd] at hq2
  refine region_qs 10 (C := fun w' => ∃ x, w' = F x) (by kernel_rfl) (by kernel_rfl) (cls_drew hF2) ?_
  simp only [List.take_succ_cons, List.take_zero, List.drop_succ_cons, List.drop_zero, List.take_nil, List.drop_nil]
  repeat (go_big_quiet_step (first | fail | (go_at_call 147; with_reducible exact cls_call hF1 hF2 H1.out _) | (go_at_call 147; with_reducible exact cls_call hF1 hF2 H2.out _)))
  refine wpQuiet_nil ?_
  rintro wq ⟨xq, rfl⟩
  replace hL0 := hL0.call (hF1 xq)
  clear  hq0 hq1 hq2 hF2
  generalize F xq = x2 at hL0 ⊢
  clear hF1 xq iα F α
  go_wp2_with fail
  exact bodyPost_ret (v := .bool false) (by simp [results, Tryz.results139, go_sem]) rfl ⟨rfl, hL0.bl⟩)
set_option maxHeartbeats 4000000 in
set_option maxRecDepth 100000 in
theorem pfits_zero (n a : Int) (e : Nat) (HO0 : ∀ w, Calls Tryz.prog 17 #[.int .u64 0] w fun xe w' => xe = .returned (natV 0) ∧ Below w.heap.size w w') (w : World) :
  Calls Tryz.prog 62 #[frV n e, intV a, natV 0] w fun xe w' => xe = .returned (.bool false) ∧ Below w.heap.size w w' := by
 have hL0 : GL w w [] := GL.start w
 replace HO0 := Lib.hid HO0
 replace hL0 := (((hL0.new rfl [.int .u64 ((zl n : Nat) : Int), .string (zh n), .bool (zs n), .int .u64 ((lo e : Nat) : Int), .string (hs e)] 34).new (K := w.heap.size + 1) (szA _ _) [.int .u64 ((zl a : Nat) : Int), .string (zh a), .bool (zs a)] 32).new (K := w.heap.size + 1 + 1) (by simp only [World.size_alloc]) [.int .u64 ((lo 0 : Nat) : Int), .string (hs 0)] 30)
 generalize hweq : (((w.alloc (.cells #[.int .u64 ((zl n : Nat) : Int), .string (zh n), .bool (zs n), .int .u64 ((lo e : Nat) : Int), .string (hs e)] 34)).alloc (.cells #[.int .u64 ((zl a : Nat) : Int), .string (zh a), .bool (zs a)] 32)).alloc (.cells #[.int .u64 ((lo 0 : Nat) : Int), .string (hs 0)] 30)) = x1 at hL0
 go_enter Tryz.func62, Tryz.ntmps62
 go_upto_region 1 with fail
 clear hweq
 obtain ⟨α, iα, F, hF1, hF2⟩ := cls x1
 have hq0 := cls_box hF1 hL0 _ _ List.mem_cons_self
 simp only [cellsC, and_true, Nat.zero_add, Nat.reduceAdd] at hq0
 refine region_qs 3 (C := fun w' => ∃ x, w' = F x) (by kernel_rfl) (by kernel_rfl) (cls_drew hF2) ?_
 simp only [List.take_succ_cons, List.take_zero, List.drop_succ_cons, List.drop_zero, List.take_nil, List.drop_nil]
 repeat (go_big_quiet_step (first | fail | (go_at_call 17; with_reducible exact cls_call hF1 hF2 HO0.out _)))
 refine wpQuiet_nil ?_
 rintro wq ⟨xq, rfl⟩
 replace hL0 := hL0.call (hF1 xq)
 clear  hq0 hF2
 generalize F xq = x2 at hL0 ⊢
 clear hF1 xq iα F α
 go_wp2_with fail
 exact bodyPost_ret (v := .bool false) (by simp [results, Tryz.results62, go_sem]) rfl ⟨rfl, hL0.bl⟩
set_option maxHeartbeats 4000000 in
set_option maxRecDepth 100000 in
theorem pfits_pos (n a y z : Int) (e m d : Nat) (b : Bool) (HO0 : ∀ w, Calls Tryz.prog 17 #[.int .u64 0] w fun xe w' => xe = .returned (natV 0) ∧ Below w.heap.size w w') (HN : ∀ w, Calls Tryz.prog 140 #[frV n e] w fun xe w' => xe = .returned (intV n) ∧ Below w.heap.size w w') (HD : ∀ w, Calls Tryz.prog 45 #[frV n e] w fun xe w' => xe = .returned (natV d) ∧ Below w.heap.size w w') (HF : ∀ w, Calls Tryz.prog 19 #[.bool false, natV d] w fun xe w' => xe = .returned (intV y) ∧ Below w.heap.size w w') (HM : ∀ w, Calls Tryz.prog 141 #[intV a, intV y] w fun xe w' => xe = .returned (intV z) ∧ Below w.heap.size w w') (HC : ∀ w, Calls Tryz.prog 139 #[intV n, intV z, natV m] w fun xe w' => xe = .returned (.bool b) ∧ Below w.heap.size w w') (hm : 0 < m) (w : World) :
  Calls Tryz.prog 62 #[frV n e, intV a, natV m] w fun xe w' => xe = .returned (.bool b) ∧ Below w.heap.size w w' := by
 have hL0 : GL w w [] := GL.start w
 replace HO0 := Lib.hid HO0
 replace HN := Lib.hid HN
 replace HD := Lib.hid HD
 replace HF := Lib.hid HF
 replace HM := Lib.hid HM
 replace HC := Lib.hid HC
 have hz := eq_zero hm
 clear hm
 rcases hz with e0 | ⟨e0, e1⟩
 all_goals (
  replace hL0 := (((hL0.new rfl [.int .u64 ((zl n : Nat) : Int), .string (zh n), .bool (zs n), .int .u64 ((lo e : Nat) : Int), .string (hs e)] 34).new (K := w.heap.size + 1) (szA _ _) [.int .u64 ((zl a : Nat) : Int), .string (zh a), .bool (zs a)] 32).new (K := w.heap.size + 1 + 1) (by simp only [World.size_alloc]) [.int .u64 ((lo m : Nat) : Int), .string (hs m)] 30)
  generalize hweq : (((w.alloc (.cells #[.int .u64 ((zl n : Nat) : Int), .string (zh n), .bool (zs n), .int .u64 ((lo e : Nat) : Int), .string (hs e)] 34)).alloc (.cells #[.int .u64 ((zl a : Nat) : Int), .string (zh a), .bool (zs a)] 32)).alloc (.cells #[.int .u64 ((lo m : Nat) : Int), .string (hs m)] 30)) = x1 at hL0
  go_enter Tryz.func62, Tryz.ntmps62
  go_upto_region 1 with fail
  clear hweq
  obtain ⟨α, iα, F, hF1, hF2⟩ := cls x1
  have hq0 := cls_box hF1 hL0 _ _ List.mem_cons_self
  simp only [cellsC, and_true, Nat.zero_add, Nat.reduceAdd] at hq0
  refine region_qs 3 (C := fun w' => ∃ x, w' = F x) (by kernel_rfl) (by kernel_rfl) (cls_drew hF2) ?_
  simp only [List.take_succ_cons, List.take_zero, List.drop_succ_cons, List.drop_zero, List.take_nil, List.drop_nil]
  repeat (go_big_quiet_step (first | fail | (go_at_call 17; with_reducible exact cls_call hF1 hF2 HO0.out _)))
  refine wpQuiet_nil ?_
  rintro wq ⟨xq, rfl⟩
  replace hL0 := hL0.call (hF1 xq)
  clear  hq0 hF2
  generalize F xq = x2 at hL0 ⊢
  clear hF1 xq iα F α
  go_upto_region 3 with fail
  obtain ⟨α, iα, F, hF1, hF2⟩ := cls x2
  have hq0 := cls_box hF1 hL0 _ _ List.mem_cons_self
  simp only [cellsC, and_true, Nat.zero_add, Nat.reduceAdd] at hq0
  have hq1 := cls_box hF1 hL0 _ _ (List.mem_cons_of_mem _ List.mem_cons_self)
  simp only [cellsC, and_true, Nat.zero_add, Nat.reduceAdd] at hq1
  have hq2 := cls_box hF1 hL0 _ _ (List.mem_cons_of_mem _ (List.mem_cons_of_mem _ List.mem_cons_self))
  simp only [cellsC, and_true, Nat.zero_add, Nat.reduceAdd] at hq2
  refine region_qs 10 (C := fun w' => ∃ x, w' = F x) (by kernel_rfl) (by kernel_rfl) (cls_drew hF2) ?_
  simp only [List.take_succ_cons, List.take_zero, List.drop_succ_cons, List.drop_zero, List.take_nil, List.drop_nil]
  repeat (go_big_quiet_step (first | fail | (go_at_call 140; with_reducible exact cls_call hF1 hF2 HN.out _) | (go_at_call 45; with_reducible exact cls_call hF1 hF2 HD.out _) | (go_at_call 19; with_reducible exact cls_call hF1 hF2 HF.out _) | (go_at_call 141; with_reducible exact cls_call hF1 hF2 HM.out _) | (go_at_call 139; with_reducible exact cls_call hF1 hF2 HC.out _)))
  refine wpQuiet_nil ?_
  rintro wq ⟨xq, rfl⟩
  replace hL0 := hL0.call (hF1 xq)
  clear  hq0 hq1 hq2 hF2
  generalize F xq = x3 at hL0 ⊢
  clear hF1 xq iα F α
  go_wp2_with fail
  exact bodyPost_ret (v := .bool b) (by simp [results, Tryz.results62, go_sem]) rfl ⟨rfl, hL0.bl⟩)
set_option maxHeartbeats 4000000 in
set_option maxRecDepth 100000 in
theorem pfar_num (n c u : Int) (e d k s t m : Nat) (b : Bool) (HD : ∀ w, Calls Tryz.prog 45 #[frV n e] w fun xe w' => xe = .returned (natV d) ∧ Below w.heap.size w w') (HN : ∀ w, Calls Tryz.prog 140 #[frV n e] w fun xe w' => xe = .returned (intV n) ∧ Below w.heap.size w w') (HA : ∀ w, Calls Tryz.prog 123 #[intV n] w fun xe w' => xe = .returned (natV k) ∧ Below w.heap.size w w') (HC : ∀ w, Calls Tryz.prog 73 #[natV k, natV d] w fun xe w' => xe = .returned (.int .i64 c) ∧ Below w.heap.size w w') (HM : ∀ w, Calls Tryz.prog 120 #[natV k, natV k] w fun xe w' => xe = .returned (natV s) ∧ Below w.heap.size w w') (HP : ∀ w, Calls Tryz.prog 71 #[natV s, natV s] w fun xe w' => xe = .returned (natV t) ∧ Below w.heap.size w w') (HQ : ∀ w, Calls Tryz.prog 73 #[natV t, natV m] w fun xe w' => xe = .returned (.int .i64 u) ∧ Below w.heap.size w w') (hc : decide (0 < c) = true) (hu : decide (u < 0) = b) (w : World) :
  Calls Tryz.prog 64 #[frV n e, natV m] w fun xe w' => xe = .returned (.bool b) ∧ Below w.heap.size w w' := by
 have hL0 : GL w w [] := GL.start w
 replace HD := Lib.hid HD
 replace HN := Lib.hid HN
 replace HA := Lib.hid HA
 replace HC := Lib.hid HC
 replace HM := Lib.hid HM
 replace HP := Lib.hid HP
 replace HQ := Lib.hid HQ
 replace hL0 := ((hL0.new rfl [.int .u64 ((zl n : Nat) : Int), .string (zh n), .bool (zs n), .int .u64 ((lo e : Nat) : Int), .string (hs e)] 34).new (K := w.heap.size + 1) (szA _ _) [.int .u64 ((lo m : Nat) : Int), .string (hs m)] 30)
 generalize hweq : ((w.alloc (.cells #[.int .u64 ((zl n : Nat) : Int), .string (zh n), .bool (zs n), .int .u64 ((lo e : Nat) : Int), .string (hs e)] 34)).alloc (.cells #[.int .u64 ((lo m : Nat) : Int), .string (hs m)] 30)) = x1 at hL0
 go_enter Tryz.func64, Tryz.ntmps64
 have hN0 := cells_of _ 0 [] rfl (hL0.get _ _ (List.mem_cons_of_mem _ List.mem_cons_self))
 simp only [cellsF, and_true, Nat.zero_add, Nat.reduceAdd] at hN0
 go_wp2_with fail
 clear hN0
 with_reducible refine Calls.mono (HD.out _) ?_
 rintro e x2 ⟨rfl, hb⟩
 replace hL0 := hL0.call hb
 clear hb hweq
 replace hL0 := (hL0.new rfl [.int .u64 ((lo d : Nat) : Int), .string (hs d)] 30)
 generalize hweq : (x2.alloc (.cells #[.int .u64 ((lo d : Nat) : Int), .string (hs d)] 30)) = x3 at hL0
 have hN0 := cells_of _ 0 [] rfl (hL0.get _ _ (List.mem_cons_of_mem _ (List.mem_cons_of_mem _ List.mem_cons_self)))
 simp only [cellsF, and_true, Nat.zero_add, Nat.reduceAdd] at hN0
 go_wp2_with fail
 clear hN0
 with_reducible refine Calls.mono (HN.out _) ?_
 rintro e x4 ⟨rfl, hb⟩
 replace hL0 := hL0.call hb
 clear hb hweq
 go_wp2_with fail
 with_reducible refine Calls.mono (HA.out _) ?_
 rintro e x5 ⟨rfl, hb⟩
 replace hL0 := hL0.call hb
 clear hb
 replace hL0 := (hL0.new rfl [.int .u64 ((lo k : Nat) : Int), .string (hs k)] 30)
 generalize hweq : (x5.alloc (.cells #[.int .u64 ((lo k : Nat) : Int), .string (hs k)] 30)) = x6 at hL0
 have hN0 := cells_of _ 0 [] rfl (hL0.get _ _ List.mem_cons_self)
 simp only [cellsF, and_true, Nat.zero_add, Nat.reduceAdd] at hN0
 have hN1 := cells_of _ 0 [] rfl (hL0.get _ _ (List.mem_cons_of_mem _ List.mem_cons_self))
 simp only [cellsF, and_true, Nat.zero_add, Nat.reduceAdd] at hN1
 go_wp2_with fail
 clear hN0 hN1
 with_reducible refine Calls.mono (HC.out _) ?_
 rintro e x7 ⟨rfl, hb⟩
 replace hL0 := hL0.call hb
 clear hb hweq
 have hA := hL0.fc
 simp only [fcG, cellsF, neK, and_true, ne_eq, Nat.zero_add, Nat.reduceAdd] at hA
 have hP := hL0.put 1 (x2.heap.size) _ rfl [.int .u64 ((lo k : Nat) : Int), .string (hs k)] rfl
 simp only [setAll, List.set_cons_zero, List.set_cons_succ] at hP
 generalize hput1 : ((x7.setCell ⟨x2.heap.size, 0, none⟩ (.int .u64 ((lo k : Nat) : Int))).setCell ⟨x2.heap.size, 1, none⟩ (.string (hs k))) = x8 at hP
 have hB1 := hP.fc
 simp only [fcG, cellsF, neK, and_true, ne_eq, Nat.zero_add, Nat.reduceAdd] at hB1
 replace hL0 := hP
 go_wp2_with fail
 clear hA
 with_reducible refine Calls.mono (HM.out _) ?_
 rintro e x9 ⟨rfl, hb⟩
 replace hL0 := hL0.call hb
 clear hb hput1 hB1
 replace hL0 := (hL0.new rfl [.int .u64 ((lo s : Nat) : Int), .string (hs s)] 30)
 generalize hweq : (x9.alloc (.cells #[.int .u64 ((lo s : Nat) : Int), .string (hs s)] 30)) = x10 at hL0
 go_upto_region 6 with fail
 clear hweq
 obtain ⟨α, iα, F, hF1, hF2⟩ := cls x10
 have hq0 := cls_box hF1 hL0 _ _ List.mem_cons_self
 simp only [cellsC, and_true, Nat.zero_add, Nat.reduceAdd] at hq0
 have hq1 := cls_box hF1 hL0 _ _ (List.mem_cons_of_mem _ (List.mem_cons_of_mem _ (List.mem_cons_of_mem _ List.mem_cons_self)))
 simp only [cellsC, and_true, Nat.zero_add, Nat.reduceAdd] at hq1
 refine region_qs 7 (C := fun w' => ∃ x, w' = F x) (by kernel_rfl) (by kernel_rfl) (cls_drew hF2) ?_
 simp only [List.take_succ_cons, List.take_zero, List.drop_succ_cons, List.drop_zero, List.take_nil, List.drop_nil]
 repeat (go_big_quiet_step (first | fail | (go_at_call 71; with_reducible exact cls_call hF1 hF2 HP.out _) | (go_at_call 73; with_reducible exact cls_call hF1 hF2 HQ.out _)))
 refine wpQuiet_nil ?_
 rintro wq ⟨xq, rfl⟩
 replace hL0 := hL0.call (hF1 xq)
 clear  hq0 hq1 hF2
 generalize F xq = x11 at hL0 ⊢
 clear hF1 xq iα F α
 go_wp2_with fail
 exact bodyPost_ret (v := .bool b) (by simp [results, Tryz.results64, go_sem]) rfl ⟨rfl, hL0.bl⟩
set_option maxHeartbeats 4000000 in
set_option maxRecDepth 100000 in
theorem pfar_den (n c u : Int) (e d k s t m : Nat) (b : Bool) (HD : ∀ w, Calls Tryz.prog 45 #[frV n e] w fun xe w' => xe = .returned (natV d) ∧ Below w.heap.size w w') (HN : ∀ w, Calls Tryz.prog 140 #[frV n e] w fun xe w' => xe = .returned (intV n) ∧ Below w.heap.size w w') (HA : ∀ w, Calls Tryz.prog 123 #[intV n] w fun xe w' => xe = .returned (natV k) ∧ Below w.heap.size w w') (HC : ∀ w, Calls Tryz.prog 73 #[natV k, natV d] w fun xe w' => xe = .returned (.int .i64 c) ∧ Below w.heap.size w w') (HM : ∀ w, Calls Tryz.prog 120 #[natV d, natV d] w fun xe w' => xe = .returned (natV s) ∧ Below w.heap.size w w') (HP : ∀ w, Calls Tryz.prog 71 #[natV s, natV s] w fun xe w' => xe = .returned (natV t) ∧ Below w.heap.size w w') (HQ : ∀ w, Calls Tryz.prog 73 #[natV t, natV m] w fun xe w' => xe = .returned (.int .i64 u) ∧ Below w.heap.size w w') (hc : decide (0 < c) = false) (hu : decide (u < 0) = b) (w : World) :
  Calls Tryz.prog 64 #[frV n e, natV m] w fun xe w' => xe = .returned (.bool b) ∧ Below w.heap.size w w' := by
 have hL0 : GL w w [] := GL.start w
 replace HD := Lib.hid HD
 replace HN := Lib.hid HN
 replace HA := Lib.hid HA
 replace HC := Lib.hid HC
 replace HM := Lib.hid HM
 replace HP := Lib.hid HP
 replace HQ := Lib.hid HQ
 replace hL0 := ((hL0.new rfl [.int .u64 ((zl n : Nat) : Int), .string (zh n), .bool (zs n), .int .u64 ((lo e : Nat) : Int), .string (hs e)] 34).new (K := w.heap.size + 1) (szA _ _) [.int .u64 ((lo m : Nat) : Int), .string (hs m)] 30)
 generalize hweq : ((w.alloc (.cells #[.int .u64 ((zl n : Nat) : Int), .string (zh n), .bool (zs n), .int .u64 ((lo e : Nat) : Int), .string (hs e)] 34)).alloc (.cells #[.int .u64 ((lo m : Nat) : Int), .string (hs m)] 30)) = x1 at hL0
 go_enter Tryz.func64, Tryz.ntmps64
 have hN0 := cells_of _ 0 [] rfl (hL0.get _ _ (List.mem_cons_of_mem _ List.mem_cons_self))
 simp only [cellsF, and_true, Nat.zero_add, Nat.reduceAdd] at hN0
 go_wp2_with fail
 clear hN0
 with_reducible refine Calls.mono (HD.out _) ?_
 rintro e x2 ⟨rfl, hb⟩
 replace hL0 := hL0.call hb
 clear hb hweq
 replace hL0 := (hL0.new rfl [.int .u64 ((lo d : Nat) : Int), .string (hs d)] 30)
 generalize hweq : (x2.alloc (.cells #[.int .u64 ((lo d : Nat) : Int), .string (hs d)] 30)) = x3 at hL0
 have hN0 := cells_of _ 0 [] rfl (hL0.get _ _ (List.mem_cons_of_mem _ (List.mem_cons_of_mem _ List.mem_cons_self)))
 simp only [cellsF, and_true, Nat.zero_add, Nat.reduceAdd] at hN0
 go_wp2_with fail
 clear hN0
 with_reducible refine Calls.mono (HN.out _) ?_
 rintro e x4 ⟨rfl, hb⟩
 replace hL0 := hL0.call hb
 clear hb hweq
 go_wp2_with fail
 with_reducible refine Calls.mono (HA.out _) ?_
 rintro e x5 ⟨rfl, hb⟩
 replace hL0 := hL0.call hb
 clear hb
 replace hL0 := (hL0.new rfl [.int .u64 ((lo k : Nat) : Int), .string (hs k)] 30)
 generalize hweq : (x5.alloc (.cells #[.int .u64 ((lo k : Nat) : Int), .string (hs k)] 30)) = x6 at hL0
 have hN0 := cells_of _ 0 [] rfl (hL0.get _ _ List.mem_cons_self)
 simp only [cellsF, and_true, Nat.zero_add, Nat.reduceAdd] at hN0
 have hN1 := cells_of _ 0 [] rfl (hL0.get _ _ (List.mem_cons_of_mem _ List.mem_cons_self))
 simp only [cellsF, and_true, Nat.zero_add, Nat.reduceAdd] at hN1
 go_wp2_with fail
 clear hN0 hN1
 with_reducible refine Calls.mono (HC.out _) ?_
 rintro e x7 ⟨rfl, hb⟩
 replace hL0 := hL0.call hb
 clear hb hweq
 have hN0 := cells_of _ 0 [] rfl (hL0.get _ _ (List.mem_cons_of_mem _ List.mem_cons_self))
 simp only [cellsF, and_true, Nat.zero_add, Nat.reduceAdd] at hN0
 go_wp2_with fail
 clear hN0
 with_reducible refine Calls.mono (HM.out _) ?_
 rintro e x8 ⟨rfl, hb⟩
 replace hL0 := hL0.call hb
 clear hb
 replace hL0 := (hL0.new rfl [.int .u64 ((lo s : Nat) : Int), .string (hs s)] 30)
 generalize hweq : (x8.alloc (.cells #[.int .u64 ((lo s : Nat) : Int), .string (hs s)] 30)) = x9 at hL0
 go_upto_region 6 with fail
 clear hweq
 obtain ⟨α, iα, F, hF1, hF2⟩ := cls x9
 have hq0 := cls_box hF1 hL0 _ _ List.mem_cons_self
 simp only [cellsC, and_true, Nat.zero_add, Nat.reduceAdd] at hq0
 have hq1 := cls_box hF1 hL0 _ _ (List.mem_cons_of_mem _ (List.mem_cons_of_mem _ (List.mem_cons_of_mem _ List.mem_cons_self)))
 simp only [cellsC, and_true, Nat.zero_add, Nat.reduceAdd] at hq1
 refine region_qs 7 (C := fun w' => ∃ x, w' = F x) (by kernel_rfl) (by kernel_rfl) (cls_drew hF2) ?_
 simp only [List.take_succ_cons, List.take_zero, List.drop_succ_cons, List.drop_zero, List.take_nil, List.drop_nil]
 repeat (go_big_quiet_step (first | fail | (go_at_call 71; with_reducible exact cls_call hF1 hF2 HP.out _) | (go_at_call 73; with_reducible exact cls_call hF1 hF2 HQ.out _)))
 refine wpQuiet_nil ?_
 rintro wq ⟨xq, rfl⟩
 replace hL0 := hL0.call (hF1 xq)
 clear  hq0 hq1 hF2
 generalize F xq = x10 at hL0 ⊢
 clear hF1 xq iα F α
 go_wp2_with fail
 exact bodyPost_ret (v := .bool b) (by simp [results, Tryz.results64, go_sem]) rfl ⟨rfl, hL0.bl⟩
set_option maxHeartbeats 4000000 in
set_option maxRecDepth 100000 in
theorem pgreat_w (m x h y s : Nat) (b c : Bool) (HO1 : ∀ w, Calls Tryz.prog 17 #[.int .u64 1] w fun xe w' => xe = .returned (natV 1) ∧ Below w.heap.size w w') (HS : ∀ w, Calls Tryz.prog 72 #[natV m, natV 1] w fun xe w' => xe = .returned (.tuple #[natV x, .bool b]) ∧ Below w.heap.size w w') (HO2 : ∀ w, Calls Tryz.prog 17 #[.int .u64 2] w fun xe w' => xe = .returned (natV 2) ∧ Below w.heap.size w w') (HD : ∀ w, Calls Tryz.prog 22 #[natV x, natV 2] w fun xe w' => xe = .returned (.tuple #[natV h, natV y, .bool c]) ∧ Below w.heap.size w w') (HQ : ∀ w, Calls Tryz.prog 261 #[natV h] w fun xe w' => xe = .returned (natV s) ∧ Below w.heap.size w w') (w : World) :
  Calls Tryz.prog 237 #[natV m] w fun xe w' => xe = .returned (natV s) ∧ Below w.heap.size w w' := by
 have hL0 : GL w w [] := GL.start w
 replace HO1 := Lib.hid HO1
 replace HS := Lib.hid HS
 replace HO2 := Lib.hid HO2
 replace HD := Lib.hid HD
 replace HQ := Lib.hid HQ
 replace hL0 := ((hL0.new rfl [.int .u64 ((lo m : Nat) : Int), .string (hs m)] 30).new (K := w.heap.size + 1) (szA _ _) [.int .u64 0, .string ⟨#[]⟩] 30)
 generalize hweq : ((w.alloc (.cells #[.int .u64 ((lo m : Nat) : Int), .string (hs m)] 30)).alloc (.cells #[.int .u64 0, .string ⟨#[]⟩] 30)) = x1 at hL0
 go_enter Tryz.func237, Tryz.ntmps237
 go_upto_region 1 with fail
 clear hweq
 refine region_gh (by kernel_rfl) (by kernel_rfl) ?_
 refine lex_seg (gl := []) 6 (by kernel_rfl) ?_
 intro α iα F hF1 hF2
 have hq := GL.seg hF1 hL0
 simp only [fcC, cellsC, and_true, Nat.zero_add, Nat.reduceAdd] at hq
 simp only [List.take_succ_cons, List.take_zero, List.drop_succ_cons, List.drop_zero, List.take_nil, List.drop_nil]
 repeat (go_big_quiet_step (first | fail | (go_at_call 17; with_reducible exact seg_call hF2 HO1.out _) | (go_at_call 72; with_reducible exact seg_call hF2 HS.out _)))
 refine wpQuiet_nil ?_
 clear hq hF1 hF2 iα F α
 refine lex_new [.int .u64 0, .string ⟨#[]⟩] 3 30 30 rfl rfl (of_decide_eq_true (by kernel_rfl)) (by kernel_rfl) rfl new_natc ?_
 simp only [Act.put, List.setIfInBounds_toArray, List.set_cons_succ, List.set_cons_zero]
 refine lex_put [.int .u64 ((lo x : Nat) : Int), .string (hs x)] [.int .u64 0, .string ⟨#[]⟩] 3 30 (.tmp 12) rfl (by kernel_rfl) (by simp [toG, upd]) rfl (fun w k h => put_natc _ _ _ _ w k h) ?_
 simp only [Act.put]
 refine lex_seg (gl := [(3, [.int .u64 ((lo x : Nat) : Int), .string (hs x)], true), (3, [.int .u64 0, .string ⟨#[]⟩], false)]) 1 (by kernel_rfl) ?_
 intro α iα F hF1 hF2
 have hq := GL.seg hF1 hL0
 simp only [fcC, cellsC, and_true, Nat.zero_add, Nat.reduceAdd] at hq
 simp only [List.take_succ_cons, List.take_zero, List.drop_succ_cons, List.drop_zero, List.take_nil, List.drop_nil]
 repeat (go_big_quiet_step (first | fail | (go_at_call 17; with_reducible exact seg_call hF2 HO1.out _) | (go_at_call 72; with_reducible exact seg_call hF2 HS.out _)))
 refine wpQuiet_nil ?_
 clear hq hF1 hF2 iα F α
 refine lexG_nil ?_
 intro κ x2 hS
 replace hL0 := hL0.ghs hS [(3, [.int .u64 ((lo x : Nat) : Int), .string (hs x)])] (by simp) (by intro p hp; simp only [List.mem_cons, List.not_mem_nil, or_false] at hp; rcases hp with rfl <;> exact ⟨_, by simp only [toG, upd]; rfl⟩)
 simp only [List.map_cons, List.map_nil, List.cons_append, List.nil_append] at hL0
 simp only [over_toG, over_nil, Act.put, List.setIfInBounds_toArray, List.set_cons_succ, List.set_cons_zero]
 clear hS
 generalize κ 3 = k2_3 at *
 go_upto_region 2 with fail
 refine region_gh (by kernel_rfl) (by kernel_rfl) ?_
 refine lex_seg (gl := []) 7 (by kernel_rfl) ?_
 intro α iα F hF1 hF2
 have hq := GL.seg hF1 hL0
 simp only [fcC, cellsC, and_true, Nat.zero_add, Nat.reduceAdd] at hq
 simp only [List.take_succ_cons, List.take_zero, List.drop_succ_cons, List.drop_zero, List.take_nil, List.drop_nil]
 repeat (go_big_quiet_step (first | fail | (go_at_call 17; with_reducible exact seg_call hF2 HO2.out _) | (go_at_call 22; with_reducible exact seg_call hF2 HD.out _)))
 refine wpQuiet_nil ?_
 clear hq hF1 hF2 iα F α
 refine lex_new [.int .u64 0, .string ⟨#[]⟩] 5 30 30 rfl rfl (of_decide_eq_true (by kernel_rfl)) (by kernel_rfl) rfl new_natc ?_
 simp only [Act.put, List.setIfInBounds_toArray, List.set_cons_succ, List.set_cons_zero]
 refine lex_new [.int .u64 0, .string ⟨#[]⟩] 6 30 30 rfl rfl (of_decide_eq_true (by kernel_rfl)) (by kernel_rfl) rfl new_natc ?_
 simp only [Act.put, List.setIfInBounds_toArray, List.set_cons_succ, List.set_cons_zero]
 refine lex_put [.int .u64 ((lo h : Nat) : Int), .string (hs h)] [.int .u64 0, .string ⟨#[]⟩] 5 30 (.tmp 18) rfl (by kernel_rfl) (by simp [toG, upd]) rfl (fun w k h => put_natc _ _ _ _ w k h) ?_
 simp only [Act.put]
 refine lex_put [.int .u64 ((lo y : Nat) : Int), .string (hs y)] [.int .u64 0, .string ⟨#[]⟩] 6 30 (.tmp 19) rfl (by kernel_rfl) (by simp [toG, upd]) rfl (fun w k h => put_natc _ _ _ _ w k h) ?_
 simp only [Act.put]
 refine lex_seg (gl := [(6, [.int .u64 ((lo y : Nat) : Int), .string (hs y)], true), (5, [.int .u64 ((lo h : Nat) : Int), .string (hs h)], true), (6, [.int .u64 0, .string ⟨#[]⟩], false), (5, [.int .u64 0, .string ⟨#[]⟩], false)]) 1 (by kernel_rfl) ?_
 intro α iα F hF1 hF2
 have hq := GL.seg hF1 hL0
 simp only [fcC, cellsC, and_true, Nat.zero_add, Nat.reduceAdd] at hq
 simp only [List.take_succ_cons, List.take_zero, List.drop_succ_cons, List.drop_zero, List.take_nil, List.drop_nil]
 repeat (go_big_quiet_step (first | fail | (go_at_call 17; with_reducible exact seg_call hF2 HO2.out _) | (go_at_call 22; with_reducible exact seg_call hF2 HD.out _)))
 refine wpQuiet_nil ?_
 clear hq hF1 hF2 iα F α
 refine lexG_nil ?_
 intro κ x3 hS
 replace hL0 := hL0.ghs hS [(6, [.int .u64 ((lo y : Nat) : Int), .string (hs y)]), (5, [.int .u64 ((lo h : Nat) : Int), .string (hs h)])] (by simp) (by intro p hp; simp only [List.mem_cons, List.not_mem_nil, or_false] at hp; rcases hp with rfl | rfl <;> exact ⟨_, by simp only [toG, upd]; rfl⟩)
 simp only [List.map_cons, List.map_nil, List.cons_append, List.nil_append] at hL0
 simp only [over_toG, over_nil, Act.put, List.setIfInBounds_toArray, List.set_cons_succ, List.set_cons_zero]
 clear hS
 generalize κ 6 = k3_6 at *
 generalize κ 5 = k3_5 at *
 have hN0 := cells_of _ 0 [] rfl (hL0.get _ _ (List.mem_cons_of_mem _ List.mem_cons_self))
 simp only [cellsF, and_true, Nat.zero_add, Nat.reduceAdd] at hN0
 go_wp2_with fail
 clear hN0
 with_reducible refine Calls.mono (HQ.out _) ?_
 rintro e x4 ⟨rfl, hb⟩
 replace hL0 := hL0.call hb
 clear hb
 have hA := hL0.fc
 simp only [fcG, cellsF, neK, and_true, ne_eq, Nat.zero_add, Nat.reduceAdd] at hA
 have hP := hL0.put 3 (w.heap.size + 1) _ rfl [.int .u64 ((lo s : Nat) : Int), .string (hs s)] rfl
 simp only [setAll, List.set_cons_zero, List.set_cons_succ] at hP
 generalize hput1 : ((x4.setCell ⟨w.heap.size + 1, 0, none⟩ (.int .u64 ((lo s : Nat) : Int))).setCell ⟨w.heap.size + 1, 1, none⟩ (.string (hs s))) = x5 at hP
 have hB1 := hP.fc
 simp only [fcG, cellsF, neK, and_true, ne_eq, Nat.zero_add, Nat.reduceAdd] at hB1
 replace hL0 := hP
 go_wp2_with fail
 exact bodyPost_ret (v := .agg #[.int .u64 ((lo s : Nat) : Int), .string (hs s)]) (by simp [results, Tryz.results237, go_sem, hB1]) rfl ⟨rfl, hL0.bl⟩
set_option maxHeartbeats 4000000 in
set_option maxRecDepth 100000 in
theorem pback_none (a : Int) (m : Nat) (HC : ∀ w, Calls Tryz.prog 206 #[intV a, natV m] w fun xe w' => xe = .returned (.tuple #[.agg #[.int .u64 0, .string ⟨#[]⟩, .bool false, .int .u64 0, .string ⟨#[]⟩], .bool false]) ∧ Below w.heap.size w w') (w : World) :
  Calls Tryz.prog 138 #[intV a, natV m] w fun xe w' => xe = .returned (.tuple #[.agg #[.int .u64 0, .string ⟨#[]⟩, .bool false, .int .u64 0, .string ⟨#[]⟩], .bool false]) ∧ Below w.heap.size w w' := by
 have hL0 : GL w w [] := GL.start w
 replace HC := Lib.hid HC
 replace hL0 := (((hL0.new rfl [.int .u64 ((zl a : Nat) : Int), .string (zh a), .bool (zs a)] 32).new (K := w.heap.size + 1) (szA _ _) [.int .u64 ((lo m : Nat) : Int), .string (hs m)] 30).new (K := w.heap.size + 1 + 1) (by simp only [World.size_alloc]) [.int .u64 0, .string ⟨#[]⟩, .bool false, .int .u64 0, .string ⟨#[]⟩] 34)
 generalize hweq : (((w.alloc (.cells #[.int .u64 ((zl a : Nat) : Int), .string (zh a), .bool (zs a)] 32)).alloc (.cells #[.int .u64 ((lo m : Nat) : Int), .string (hs m)] 30)).alloc (.cells #[.int .u64 0, .string ⟨#[]⟩, .bool false, .int .u64 0, .string ⟨#[]⟩] 34)) = x1 at hL0
 go_enter Tryz.func138, Tryz.ntmps138
 have hN0 := cells_of _ 0 [] rfl (hL0.get _ _ (List.mem_cons_of_mem _ List.mem_cons_self))
 simp only [cellsF, and_true, Nat.zero_add, Nat.reduceAdd] at hN0
 have hN1 := cells_of _ 0 [] rfl (hL0.get _ _ (List.mem_cons_of_mem _ (List.mem_cons_of_mem _ List.mem_cons_self)))
 simp only [cellsF, and_true, Nat.zero_add, Nat.reduceAdd] at hN1
 go_wp2_with fail
 clear hN0 hN1
 with_reducible refine Calls.mono (HC.out _) ?_
 rintro e x2 ⟨rfl, hb⟩
 replace hL0 := hL0.call hb
 clear hb hweq
 replace hL0 := (hL0.new rfl [.int .u64 0, .string ⟨#[]⟩, .bool false, .int .u64 0, .string ⟨#[]⟩] 34)
 generalize hweq : (x2.alloc (.cells #[.int .u64 0, .string ⟨#[]⟩, .bool false, .int .u64 0, .string ⟨#[]⟩] 34)) = x3 at hL0
 have hA := hL0.fc
 simp only [fcG, cellsF, neK, and_true, ne_eq, Nat.zero_add, Nat.reduceAdd] at hA
 have hP := hL0.put 0 (x2.heap.size) _ rfl [.int .u64 0, .string ⟨#[]⟩, .bool false, .int .u64 0, .string ⟨#[]⟩] rfl
 simp only [setAll, List.set_cons_zero, List.set_cons_succ] at hP
 generalize hput1 : (((((x3.setCell ⟨x2.heap.size, 0, none⟩ (.int .u64 0)).setCell ⟨x2.heap.size, 1, none⟩ (.string ⟨#[]⟩)).setCell ⟨x2.heap.size, 2, none⟩ (.bool false)).setCell ⟨x2.heap.size, 3, none⟩ (.int .u64 0)).setCell ⟨x2.heap.size, 4, none⟩ (.string ⟨#[]⟩)) = x4 at hP
 have hB1 := hP.fc
 simp only [fcG, cellsF, neK, and_true, ne_eq, Nat.zero_add, Nat.reduceAdd] at hB1
 replace hL0 := hP
 have hP := hL0.put 1 (w.heap.size + 1 + 1) _ rfl [.int .u64 0, .string ⟨#[]⟩, .bool false, .int .u64 0, .string ⟨#[]⟩] rfl
 simp only [setAll, List.set_cons_zero, List.set_cons_succ] at hP
 generalize hput2 : (((((x4.setCell ⟨w.heap.size + 1 + 1, 0, none⟩ (.int .u64 0)).setCell ⟨w.heap.size + 1 + 1, 1, none⟩ (.string ⟨#[]⟩)).setCell ⟨w.heap.size + 1 + 1, 2, none⟩ (.bool false)).setCell ⟨w.heap.size + 1 + 1, 3, none⟩ (.int .u64 0)).setCell ⟨w.heap.size + 1 + 1, 4, none⟩ (.string ⟨#[]⟩)) = x5 at hP
 have hB2 := hP.fc
 simp only [fcG, cellsF, neK, and_true, ne_eq, Nat.zero_add, Nat.reduceAdd] at hB2
 replace hL0 := hP
 go_wp2_with fail
 exact bodyPost_ret (v := .tuple #[.agg #[.int .u64 0, .string ⟨#[]⟩, .bool false, .int .u64 0, .string ⟨#[]⟩], .bool false]) (by simp [results, Tryz.results138, go_sem, hB2]) rfl ⟨rfl, hL0.bl⟩
set_option maxHeartbeats 4000000 in
set_option maxRecDepth 100000 in
theorem pback_no (a n : Int) (m e : Nat) (HC : ∀ w, Calls Tryz.prog 206 #[intV a, natV m] w fun xe w' => xe = .returned (.tuple #[frV n e, .bool true]) ∧ Below w.heap.size w w') (HF : ∀ w, Calls Tryz.prog 62 #[frV n e, intV a, natV m] w fun xe w' => xe = .returned (.bool false) ∧ Below w.heap.size w w') (w : World) :
  Calls Tryz.prog 138 #[intV a, natV m] w fun xe w' => xe = .returned (.tuple #[.agg #[.int .u64 0, .string ⟨#[]⟩, .bool false, .int .u64 0, .string ⟨#[]⟩], .bool false]) ∧ Below w.heap.size w w' := by
 have hL0 : GL w w [] := GL.start w
 replace HC := Lib.hid HC
 replace HF := Lib.hid HF
 replace hL0 := (((hL0.new rfl [.int .u64 ((zl a : Nat) : Int), .string (zh a), .bool (zs a)] 32).new (K := w.heap.size + 1) (szA _ _) [.int .u64 ((lo m : Nat) : Int), .string (hs m)] 30).new (K := w.heap.size + 1 + 1) (by simp only [World.size_alloc]) [.int .u64 0, .string ⟨#[]⟩, .bool false, .int .u64 0, .string ⟨#[]⟩] 34)
 generalize hweq : (((w.alloc (.cells #[.int .u64 ((zl a : Nat) : Int), .string (zh a), .bool (zs a)] 32)).alloc (.cells #[.int .u64 ((lo m : Nat) : Int), .string (hs m)] 30)).alloc (.cells #[.int .u64 0, .string ⟨#[]⟩, .bool false, .int .u64 0, .string ⟨#[]⟩] 34)) = x1 at hL0
 go_enter Tryz.func138, Tryz.ntmps138
 have hN0 := cells_of _ 0 [] rfl (hL0.get _ _ (List.mem_cons_of_mem _ List.mem_cons_self))
 simp only [cellsF, and_true, Nat.zero_add, Nat.reduceAdd] at hN0
 have hN1 := cells_of _ 0 [] rfl (hL0.get _ _ (List.mem_cons_of_mem _ (List.mem_cons_of_mem _ List.mem_cons_self)))
 simp only [cellsF, and_true, Nat.zero_add, Nat.reduceAdd] at hN1
 go_wp2_with fail
 clear hN0 hN1
 with_reducible refine Calls.mono (HC.out _) ?_
 rintro e x2 ⟨rfl, hb⟩
 replace hL0 := hL0.call hb
 clear hb hweq
 replace hL0 := (hL0.new rfl [.int .u64 ((zl n : Nat) : Int), .string (zh n), .bool (zs n), .int .u64 ((lo e : Nat) : Int), .string (hs e)] 34)
 generalize hweq : (x2.alloc (.cells #[.int .u64 ((zl n : Nat) : Int), .string (zh n), .bool (zs n), .int .u64 ((lo e : Nat) : Int), .string (hs e)] 34)) = x3 at hL0
 have hN0 := cells_of _ 0 [] rfl (hL0.get _ _ List.mem_cons_self)
 simp only [cellsF, and_true, Nat.zero_add, Nat.reduceAdd] at hN0
 have hN1 := cells_of _ 0 [] rfl (hL0.get _ _ (List.mem_cons_of_mem _ (List.mem_cons_of_mem _ List.mem_cons_self)))
 simp only [cellsF, and_true, Nat.zero_add, Nat.reduceAdd] at hN1
 have hN2 := cells_of _ 0 [] rfl (hL0.get _ _ (List.mem_cons_of_mem _ (List.mem_cons_of_mem _ (List.mem_cons_of_mem _ List.mem_cons_self))))
 simp only [cellsF, and_true, Nat.zero_add, Nat.reduceAdd] at hN2
 go_wp2_with fail
 clear hN0 hN1 hN2
 with_reducible refine Calls.mono (HF.out _) ?_
 rintro e x4 ⟨rfl, hb⟩
 replace hL0 := hL0.call hb
 clear hb hweq
 have hA := hL0.fc
 simp only [fcG, cellsF, neK, and_true, ne_eq, Nat.zero_add, Nat.reduceAdd] at hA
 have hP := hL0.put 1 (w.heap.size + 1 + 1) _ rfl [.int .u64 0, .string ⟨#[]⟩, .bool false, .int .u64 0, .string ⟨#[]⟩] rfl
 simp only [setAll, List.set_cons_zero, List.set_cons_succ] at hP
 generalize hput1 : (((((x4.setCell ⟨w.heap.size + 1 + 1, 0, none⟩ (.int .u64 0)).setCell ⟨w.heap.size + 1 + 1, 1, none⟩ (.string ⟨#[]⟩)).setCell ⟨w.heap.size + 1 + 1, 2, none⟩ (.bool false)).setCell ⟨w.heap.size + 1 + 1, 3, none⟩ (.int .u64 0)).setCell ⟨w.heap.size + 1 + 1, 4, none⟩ (.string ⟨#[]⟩)) = x5 at hP
 have hB1 := hP.fc
 simp only [fcG, cellsF, neK, and_true, ne_eq, Nat.zero_add, Nat.reduceAdd] at hB1
 replace hL0 := hP
 go_wp2_with fail
 exact bodyPost_ret (v := .tuple #[.agg #[.int .u64 0, .string ⟨#[]⟩, .bool false, .int .u64 0, .string ⟨#[]⟩], .bool false]) (by simp [results, Tryz.results138, go_sem, hB1]) rfl ⟨rfl, hL0.bl⟩
set_option maxHeartbeats 4000000 in
set_option maxRecDepth 100000 in
theorem pback_yes (a n : Int) (m e : Nat) (HC : ∀ w, Calls Tryz.prog 206 #[intV a, natV m] w fun xe w' => xe = .returned (.tuple #[frV n e, .bool true]) ∧ Below w.heap.size w w') (HF : ∀ w, Calls Tryz.prog 62 #[frV n e, intV a, natV m] w fun xe w' => xe = .returned (.bool true) ∧ Below w.heap.size w w') (w : World) :
  Calls Tryz.prog 138 #[intV a, natV m] w fun xe w' => xe = .returned (.tuple #[frV n e, .bool true]) ∧ Below w.heap.size w w' := by
 have hL0 : GL w w [] := GL.start w
 replace HC := Lib.hid HC
 replace HF := Lib.hid HF
 replace hL0 := (((hL0.new rfl [.int .u64 ((zl a : Nat) : Int), .string (zh a), .bool (zs a)] 32).new (K := w.heap.size + 1) (szA _ _) [.int .u64 ((lo m : Nat) : Int), .string (hs m)] 30).new (K := w.heap.size + 1 + 1) (by simp only [World.size_alloc]) [.int .u64 0, .string ⟨#[]⟩, .bool false, .int .u64 0, .string ⟨#[]⟩] 34)
 generalize hweq : (((w.alloc (.cells #[.int .u64 ((zl a : Nat) : Int), .string (zh a), .bool (zs a)] 32)).alloc (.cells #[.int .u64 ((lo m : Nat) : Int), .string (hs m)] 30)).alloc (.cells #[.int .u64 0, .string ⟨#[]⟩, .bool false, .int .u64 0, .string ⟨#[]⟩] 34)) = x1 at hL0
 go_enter Tryz.func138, Tryz.ntmps138
 have hN0 := cells_of _ 0 [] rfl (hL0.get _ _ (List.mem_cons_of_mem _ List.mem_cons_self))
 simp only [cellsF, and_true, Nat.zero_add, Nat.reduceAdd] at hN0
 have hN1 := cells_of _ 0 [] rfl (hL0.get _ _ (List.mem_cons_of_mem _ (List.mem_cons_of_mem _ List.mem_cons_self)))
 simp only [cellsF, and_true, Nat.zero_add, Nat.reduceAdd] at hN1
 go_wp2_with fail
 clear hN0 hN1
 with_reducible refine Calls.mono (HC.out _) ?_
 rintro e x2 ⟨rfl, hb⟩
 replace hL0 := hL0.call hb
 clear hb hweq
 replace hL0 := (hL0.new rfl [.int .u64 ((zl n : Nat) : Int), .string (zh n), .bool (zs n), .int .u64 ((lo e : Nat) : Int), .string (hs e)] 34)
 generalize hweq : (x2.alloc (.cells #[.int .u64 ((zl n : Nat) : Int), .string (zh n), .bool (zs n), .int .u64 ((lo e : Nat) : Int), .string (hs e)] 34)) = x3 at hL0
 have hN0 := cells_of _ 0 [] rfl (hL0.get _ _ List.mem_cons_self)
 simp only [cellsF, and_true, Nat.zero_add, Nat.reduceAdd] at hN0
 have hN1 := cells_of _ 0 [] rfl (hL0.get _ _ (List.mem_cons_of_mem _ (List.mem_cons_of_mem _ List.mem_cons_self)))
 simp only [cellsF, and_true, Nat.zero_add, Nat.reduceAdd] at hN1
 have hN2 := cells_of _ 0 [] rfl (hL0.get _ _ (List.mem_cons_of_mem _ (List.mem_cons_of_mem _ (List.mem_cons_of_mem _ List.mem_cons_self))))
 simp only [cellsF, and_true, Nat.zero_add, Nat.reduceAdd] at hN2
 go_wp2_with fail
 clear hN0 hN1 hN2
 with_reducible refine Calls.mono (HF.out _) ?_
 rintro e x4 ⟨rfl, hb⟩
 replace hL0 := hL0.call hb
 clear hb hweq
 have hA := hL0.fc
 simp only [fcG, cellsF, neK, and_true, ne_eq, Nat.zero_add, Nat.reduceAdd] at hA
 have hP := hL0.put 1 (w.heap.size + 1 + 1) _ rfl [.int .u64 ((zl n : Nat) : Int), .string (zh n), .bool (zs n), .int .u64 ((lo e : Nat) : Int), .string (hs e)] rfl
 simp only [setAll, List.set_cons_zero, List.set_cons_succ] at hP
 generalize hput1 : (((((x4.setCell ⟨w.heap.size + 1 + 1, 0, none⟩ (.int .u64 ((zl n : Nat) : Int))).setCell ⟨w.heap.size + 1 + 1, 1, none⟩ (.string (zh n))).setCell ⟨w.heap.size + 1 + 1, 2, none⟩ (.bool (zs n))).setCell ⟨w.heap.size + 1 + 1, 3, none⟩ (.int .u64 ((lo e : Nat) : Int))).setCell ⟨w.heap.size + 1 + 1, 4, none⟩ (.string (hs e))) = x5 at hP
 have hB1 := hP.fc
 simp only [fcG, cellsF, neK, and_true, ne_eq, Nat.zero_add, Nat.reduceAdd] at hB1
 replace hL0 := hP
 go_wp2_with fail
 exact bodyPost_ret (v := .tuple #[.agg #[.int .u64 ((zl n : Nat) : Int), .string (zh n), .bool (zs n), .int .u64 ((lo e : Nat) : Int), .string (hs e)], .bool true]) (by simp [results, Tryz.results138, go_sem, hB1]) rfl ⟨rfl, hL0.bl⟩
end Go.Proofs.YtaimebjkidegiaaGreatDoor
