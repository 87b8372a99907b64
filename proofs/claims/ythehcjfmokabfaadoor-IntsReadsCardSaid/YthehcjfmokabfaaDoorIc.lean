/-
  Layer 2, walks C: Add, Sub.
-/
import Derived.Test.YthehcjfmokabfaaDoorIb
set_option linter.unusedVariables false
set_option linter.unusedSimpArgs false
namespace Go.Proofs.YthehcjfmokabfaaDoor
open Go.RowKit
attribute [local irreducible] lo hs sm s64 c64 d64 b64 mh ml pd pc qd qc val hiB str cmpI srD lz nb isq decB

set_option maxHeartbeats 4000000 in
set_option maxRecDepth 100000 in
theorem out_true (m n : Nat) (hm : (digs m).length ≤ 1000000000) (hn : (digs n).length ≤ 1000000000) (w : World) :
    Calls Tryd.prog 37 #[zV true m, natV n] w fun e w' => e = .returned (zV (decide (m + n ≠ 0)) (m + n)) ∧ Below w.heap.size w w' := by
  have hL0 : GL w w [] := GL.start w
  have HA := Lib.hid (fun w => add_any m n (by omega) (by omega) w)
  generalize m + n = p at *
  have HF := Lib.hid (fun w => from_any true p w)
  simp only [Bool.true_and] at HF
  obtain ⟨d, hd⟩ : ∃ d, d = decide (p ≠ 0) := ⟨_, rfl⟩
  rw [← hd] at HF ⊢
  clear hd
  clear hm hn
  replace hL0 := (((hL0.new rfl [.int .u64 ((lo m : Nat) : Int), .string (hs m), .bool true] 27).new (K := w.heap.size + 1) (szA _ _) [.int .u64 ((lo n : Nat) : Int), .string (hs n)] 25).new (K := w.heap.size + 1 + 1) (by simp only [World.size_alloc]) [.int .u64 0, .string ⟨#[]⟩, .bool false] 27)
  generalize hweq : (((w.alloc (.cells #[.int .u64 ((lo m : Nat) : Int), .string (hs m), .bool true] 27)).alloc (.cells #[.int .u64 ((lo n : Nat) : Int), .string (hs n)] 25)).alloc (.cells #[.int .u64 0, .string ⟨#[]⟩, .bool false] 27)) = x1 at hL0
  go_enter Tryd.func37, Tryd.ntmps37
  have hA := hL0.fc
  simp only [fcG, cellsF, neK, and_true, ne_eq, Nat.zero_add, Nat.reduceAdd] at hA
  go_upto_region 1 with fail
  clear hA
  clear hweq
  obtain ⟨α, iα, F, hF1, hF2⟩ := cls x1
  have hq := GL.fcC hF1 hL0
  simp only [fcC, cellsC, and_true, Nat.zero_add, Nat.reduceAdd] at hq
  refine region_qs 7 (C := fun w' => ∃ x, w' = F x) (by kernel_rfl) (by kernel_rfl) (cls_drew hF2) ?_
  simp only [List.take_succ_cons, List.take_zero, List.drop_succ_cons, List.drop_zero, List.take_nil, List.drop_nil]
  repeat (go_big_quiet_step (first | fail | (go_at_call 49; with_reducible exact cls_call hF1 hF2 HA.out _) | (go_at_call 22; with_reducible exact cls_call hF1 hF2 HF.out _)))
  refine wpQuiet_nil ?_
  rintro wq ⟨xq, rfl⟩
  replace hL0 := hL0.call (hF1 xq)
  clear hq hF2
  generalize F xq = x2 at hL0 ⊢
  clear hF1 xq iα F α
  have hA := hL0.fc
  simp only [fcG, cellsF, neK, and_true, ne_eq, Nat.zero_add, Nat.reduceAdd] at hA
  have hP := hL0.put 0 (w.heap.size + 1 + 1) _ rfl [.int .u64 ((lo p : Nat) : Int), .string (hs p), .bool d] rfl
  simp only [setAll, List.set_cons_zero, List.set_cons_succ] at hP
  generalize hput1 : (((x2.setCell ⟨w.heap.size + 1 + 1, 0, none⟩ (.int .u64 ((lo p : Nat) : Int))).setCell ⟨w.heap.size + 1 + 1, 1, none⟩ (.string (hs p))).setCell ⟨w.heap.size + 1 + 1, 2, none⟩ (.bool d)) = x3 at hP
  have hB1 := hP.fc
  simp only [fcG, cellsF, neK, and_true, ne_eq, Nat.zero_add, Nat.reduceAdd] at hB1
  replace hL0 := hP
  go_wp2_with fail
  exact bodyPost_ret (v := zV d p) (by simp [results, Tryd.results37, go_sem, hB1]) rfl ⟨rfl, hL0.bl⟩

set_option maxHeartbeats 4000000 in
set_option maxRecDepth 100000 in
theorem out_false (m n : Nat) (hm : (digs m).length ≤ 1000000000) (hn : (digs n).length ≤ 1000000000) (w : World) :
    Calls Tryd.prog 37 #[zV false m, natV n] w fun e w' => e = .returned (zV false (m + n)) ∧ Below w.heap.size w w' := by
  have hL0 : GL w w [] := GL.start w
  have HA := Lib.hid (fun w => add_any m n (by omega) (by omega) w)
  generalize m + n = p at *
  have HF := Lib.hid (fun w => from_any false p w)
  simp only [Bool.false_and] at HF
  clear hm hn
  replace hL0 := (((hL0.new rfl [.int .u64 ((lo m : Nat) : Int), .string (hs m), .bool false] 27).new (K := w.heap.size + 1) (szA _ _) [.int .u64 ((lo n : Nat) : Int), .string (hs n)] 25).new (K := w.heap.size + 1 + 1) (by simp only [World.size_alloc]) [.int .u64 0, .string ⟨#[]⟩, .bool false] 27)
  generalize hweq : (((w.alloc (.cells #[.int .u64 ((lo m : Nat) : Int), .string (hs m), .bool false] 27)).alloc (.cells #[.int .u64 ((lo n : Nat) : Int), .string (hs n)] 25)).alloc (.cells #[.int .u64 0, .string ⟨#[]⟩, .bool false] 27)) = x1 at hL0
  go_enter Tryd.func37, Tryd.ntmps37
  have hA := hL0.fc
  simp only [fcG, cellsF, neK, and_true, ne_eq, Nat.zero_add, Nat.reduceAdd] at hA
  go_upto_region 1 with fail
  clear hA
  clear hweq
  obtain ⟨α, iα, F, hF1, hF2⟩ := cls x1
  have hq := GL.fcC hF1 hL0
  simp only [fcC, cellsC, and_true, Nat.zero_add, Nat.reduceAdd] at hq
  refine region_qs 7 (C := fun w' => ∃ x, w' = F x) (by kernel_rfl) (by kernel_rfl) (cls_drew hF2) ?_
  simp only [List.take_succ_cons, List.take_zero, List.drop_succ_cons, List.drop_zero, List.take_nil, List.drop_nil]
  repeat (go_big_quiet_step (first | fail | (go_at_call 49; with_reducible exact cls_call hF1 hF2 HA.out _) | (go_at_call 22; with_reducible exact cls_call hF1 hF2 HF.out _)))
  refine wpQuiet_nil ?_
  rintro wq ⟨xq, rfl⟩
  replace hL0 := hL0.call (hF1 xq)
  clear hq hF2
  generalize F xq = x2 at hL0 ⊢
  clear hF1 xq iα F α
  have hA := hL0.fc
  simp only [fcG, cellsF, neK, and_true, ne_eq, Nat.zero_add, Nat.reduceAdd] at hA
  have hP := hL0.put 0 (w.heap.size + 1 + 1) _ rfl [.int .u64 ((lo p : Nat) : Int), .string (hs p), .bool false] rfl
  simp only [setAll, List.set_cons_zero, List.set_cons_succ] at hP
  generalize hput1 : (((x2.setCell ⟨w.heap.size + 1 + 1, 0, none⟩ (.int .u64 ((lo p : Nat) : Int))).setCell ⟨w.heap.size + 1 + 1, 1, none⟩ (.string (hs p))).setCell ⟨w.heap.size + 1 + 1, 2, none⟩ (.bool false)) = x3 at hP
  have hB1 := hP.fc
  simp only [fcG, cellsF, neK, and_true, ne_eq, Nat.zero_add, Nat.reduceAdd] at hB1
  replace hL0 := hP
  go_wp2_with fail
  exact bodyPost_ret (v := zV false p) (by simp [results, Tryd.results37, go_sem, hB1]) rfl ⟨rfl, hL0.bl⟩

set_option maxHeartbeats 4000000 in
set_option maxRecDepth 100000 in
theorem in_true_ge (m n : Nat) (h : n ≤ m) (hm : (digs m).length ≤ 1000000000) (hn : (digs n).length ≤ 1000000000) (w : World) :
    Calls Tryd.prog 38 #[zV true m, natV n] w fun e w' => e = .returned (zV (decide (m - n ≠ 0)) (m - n)) ∧ Below w.heap.size w w' := by
  have hL0 : GL w w [] := GL.start w
  have HS := Lib.hid (fun w => sub_ge m n h (by omega) w)
  generalize m - n = p at *
  have HF := Lib.hid (fun w => from_any true p w)
  simp only [Bool.true_and] at HF
  obtain ⟨d, hd⟩ : ∃ d, d = decide (p ≠ 0) := ⟨_, rfl⟩
  rw [← hd] at HF ⊢
  clear hd
  clear hm hn h
  replace hL0 := (((hL0.new rfl [.int .u64 ((lo m : Nat) : Int), .string (hs m), .bool true] 27).new (K := w.heap.size + 1) (szA _ _) [.int .u64 ((lo n : Nat) : Int), .string (hs n)] 25).new (K := w.heap.size + 1 + 1) (by simp only [World.size_alloc]) [.int .u64 0, .string ⟨#[]⟩, .bool false] 27)
  generalize hweq : (((w.alloc (.cells #[.int .u64 ((lo m : Nat) : Int), .string (hs m), .bool true] 27)).alloc (.cells #[.int .u64 ((lo n : Nat) : Int), .string (hs n)] 25)).alloc (.cells #[.int .u64 0, .string ⟨#[]⟩, .bool false] 27)) = x1 at hL0
  go_enter Tryd.func38, Tryd.ntmps38
  have hA := hL0.fc
  simp only [fcG, cellsF, neK, and_true, ne_eq, Nat.zero_add, Nat.reduceAdd] at hA
  go_wp2_with fail
  clear hA
  with_reducible refine Calls.mono (HS.out _) ?_
  rintro e x2 ⟨rfl, hb⟩
  replace hL0 := hL0.call hb
  clear hb hweq
  replace hL0 := (hL0.new rfl [.int .u64 ((lo p : Nat) : Int), .string (hs p)] 25)
  generalize hweq : (x2.alloc (.cells #[.int .u64 ((lo p : Nat) : Int), .string (hs p)] 25)) = x3 at hL0
  have hA := hL0.fc
  simp only [fcG, cellsF, neK, and_true, ne_eq, Nat.zero_add, Nat.reduceAdd] at hA
  go_wp2_with fail
  clear hA
  with_reducible refine Calls.mono (HF.out _) ?_
  rintro e x4 ⟨rfl, hb⟩
  replace hL0 := hL0.call hb
  clear hb hweq
  have hA := hL0.fc
  simp only [fcG, cellsF, neK, and_true, ne_eq, Nat.zero_add, Nat.reduceAdd] at hA
  have hP := hL0.put 1 (w.heap.size + 1 + 1) _ rfl [.int .u64 ((lo p : Nat) : Int), .string (hs p), .bool d] rfl
  simp only [setAll, List.set_cons_zero, List.set_cons_succ] at hP
  generalize hput1 : (((x4.setCell ⟨w.heap.size + 1 + 1, 0, none⟩ (.int .u64 ((lo p : Nat) : Int))).setCell ⟨w.heap.size + 1 + 1, 1, none⟩ (.string (hs p))).setCell ⟨w.heap.size + 1 + 1, 2, none⟩ (.bool d)) = x5 at hP
  have hB1 := hP.fc
  simp only [fcG, cellsF, neK, and_true, ne_eq, Nat.zero_add, Nat.reduceAdd] at hB1
  replace hL0 := hP
  go_wp2_with fail
  exact bodyPost_ret (v := zV d p) (by simp [results, Tryd.results38, go_sem, hB1]) rfl ⟨rfl, hL0.bl⟩

set_option maxHeartbeats 4000000 in
set_option maxRecDepth 100000 in
theorem in_true_lt (m n : Nat) (h : m < n) (hm : (digs m).length ≤ 1000000000) (hn : (digs n).length ≤ 1000000000) (w : World) :
    Calls Tryd.prog 38 #[zV true m, natV n] w fun e w' => e = .returned (zV false (n - m)) ∧ Below w.heap.size w w' := by
  have hL0 : GL w w [] := GL.start w
  have HS := Lib.hid (fun w => sub_lt m n h w)
  have HT := Lib.hid (fun w => sub_ge n m (by omega) (by omega) w)
  generalize n - m = p at *
  have HF := Lib.hid (fun w => from_any false p w)
  simp only [Bool.false_and] at HF
  clear hm hn h
  replace hL0 := (((hL0.new rfl [.int .u64 ((lo m : Nat) : Int), .string (hs m), .bool true] 27).new (K := w.heap.size + 1) (szA _ _) [.int .u64 ((lo n : Nat) : Int), .string (hs n)] 25).new (K := w.heap.size + 1 + 1) (by simp only [World.size_alloc]) [.int .u64 0, .string ⟨#[]⟩, .bool false] 27)
  generalize hweq : (((w.alloc (.cells #[.int .u64 ((lo m : Nat) : Int), .string (hs m), .bool true] 27)).alloc (.cells #[.int .u64 ((lo n : Nat) : Int), .string (hs n)] 25)).alloc (.cells #[.int .u64 0, .string ⟨#[]⟩, .bool false] 27)) = x1 at hL0
  go_enter Tryd.func38, Tryd.ntmps38
  have hA := hL0.fc
  simp only [fcG, cellsF, neK, and_true, ne_eq, Nat.zero_add, Nat.reduceAdd] at hA
  go_wp2_with fail
  clear hA
  with_reducible refine Calls.mono (HS.out _) ?_
  rintro e x2 ⟨rfl, hb⟩
  replace hL0 := hL0.call hb
  clear hb hweq
  replace hL0 := (hL0.new rfl [.int .u64 ((lo 0 : Nat) : Int), .string (hs 0)] 25)
  generalize hweq : (x2.alloc (.cells #[.int .u64 ((lo 0 : Nat) : Int), .string (hs 0)] 25)) = x3 at hL0
  have hA := hL0.fc
  simp only [fcG, cellsF, neK, and_true, ne_eq, Nat.zero_add, Nat.reduceAdd] at hA
  go_wp2_with fail
  clear hA
  with_reducible refine Calls.mono (HT.out _) ?_
  rintro e x4 ⟨rfl, hb⟩
  replace hL0 := hL0.call hb
  clear hb hweq
  replace hL0 := (hL0.new rfl [.int .u64 ((lo p : Nat) : Int), .string (hs p)] 25)
  generalize hweq : (x4.alloc (.cells #[.int .u64 ((lo p : Nat) : Int), .string (hs p)] 25)) = x5 at hL0
  have hA := hL0.fc
  simp only [fcG, cellsF, neK, and_true, ne_eq, Nat.zero_add, Nat.reduceAdd] at hA
  go_wp2_with fail
  clear hA
  with_reducible refine Calls.mono (HF.out _) ?_
  rintro e x6 ⟨rfl, hb⟩
  replace hL0 := hL0.call hb
  clear hb hweq
  have hA := hL0.fc
  simp only [fcG, cellsF, neK, and_true, ne_eq, Nat.zero_add, Nat.reduceAdd] at hA
  have hP := hL0.put 2 (w.heap.size + 1 + 1) _ rfl [.int .u64 ((lo p : Nat) : Int), .string (hs p), .bool false] rfl
  simp only [setAll, List.set_cons_zero, List.set_cons_succ] at hP
  generalize hput1 : (((x6.setCell ⟨w.heap.size + 1 + 1, 0, none⟩ (.int .u64 ((lo p : Nat) : Int))).setCell ⟨w.heap.size + 1 + 1, 1, none⟩ (.string (hs p))).setCell ⟨w.heap.size + 1 + 1, 2, none⟩ (.bool false)) = x7 at hP
  have hB1 := hP.fc
  simp only [fcG, cellsF, neK, and_true, ne_eq, Nat.zero_add, Nat.reduceAdd] at hB1
  replace hL0 := hP
  go_wp2_with fail
  exact bodyPost_ret (v := zV false p) (by simp [results, Tryd.results38, go_sem, hB1]) rfl ⟨rfl, hL0.bl⟩

set_option maxHeartbeats 4000000 in
set_option maxRecDepth 100000 in
theorem in_false_ge (m n : Nat) (h : n ≤ m) (hm : (digs m).length ≤ 1000000000) (hn : (digs n).length ≤ 1000000000) (w : World) :
    Calls Tryd.prog 38 #[zV false m, natV n] w fun e w' => e = .returned (zV false (m - n)) ∧ Below w.heap.size w w' := by
  have hL0 : GL w w [] := GL.start w
  have HS := Lib.hid (fun w => sub_ge m n h (by omega) w)
  generalize m - n = p at *
  have HF := Lib.hid (fun w => from_any false p w)
  simp only [Bool.false_and] at HF
  clear hm hn h
  replace hL0 := (((hL0.new rfl [.int .u64 ((lo m : Nat) : Int), .string (hs m), .bool false] 27).new (K := w.heap.size + 1) (szA _ _) [.int .u64 ((lo n : Nat) : Int), .string (hs n)] 25).new (K := w.heap.size + 1 + 1) (by simp only [World.size_alloc]) [.int .u64 0, .string ⟨#[]⟩, .bool false] 27)
  generalize hweq : (((w.alloc (.cells #[.int .u64 ((lo m : Nat) : Int), .string (hs m), .bool false] 27)).alloc (.cells #[.int .u64 ((lo n : Nat) : Int), .string (hs n)] 25)).alloc (.cells #[.int .u64 0, .string ⟨#[]⟩, .bool false] 27)) = x1 at hL0
  go_enter Tryd.func38, Tryd.ntmps38
  have hA := hL0.fc
  simp only [fcG, cellsF, neK, and_true, ne_eq, Nat.zero_add, Nat.reduceAdd] at hA
  go_wp2_with fail
  clear hA
  with_reducible refine Calls.mono (HS.out _) ?_
  rintro e x2 ⟨rfl, hb⟩
  replace hL0 := hL0.call hb
  clear hb hweq
  replace hL0 := (hL0.new rfl [.int .u64 ((lo p : Nat) : Int), .string (hs p)] 25)
  generalize hweq : (x2.alloc (.cells #[.int .u64 ((lo p : Nat) : Int), .string (hs p)] 25)) = x3 at hL0
  have hA := hL0.fc
  simp only [fcG, cellsF, neK, and_true, ne_eq, Nat.zero_add, Nat.reduceAdd] at hA
  go_wp2_with fail
  clear hA
  with_reducible refine Calls.mono (HF.out _) ?_
  rintro e x4 ⟨rfl, hb⟩
  replace hL0 := hL0.call hb
  clear hb hweq
  have hA := hL0.fc
  simp only [fcG, cellsF, neK, and_true, ne_eq, Nat.zero_add, Nat.reduceAdd] at hA
  have hP := hL0.put 1 (w.heap.size + 1 + 1) _ rfl [.int .u64 ((lo p : Nat) : Int), .string (hs p), .bool false] rfl
  simp only [setAll, List.set_cons_zero, List.set_cons_succ] at hP
  generalize hput1 : (((x4.setCell ⟨w.heap.size + 1 + 1, 0, none⟩ (.int .u64 ((lo p : Nat) : Int))).setCell ⟨w.heap.size + 1 + 1, 1, none⟩ (.string (hs p))).setCell ⟨w.heap.size + 1 + 1, 2, none⟩ (.bool false)) = x5 at hP
  have hB1 := hP.fc
  simp only [fcG, cellsF, neK, and_true, ne_eq, Nat.zero_add, Nat.reduceAdd] at hB1
  replace hL0 := hP
  go_wp2_with fail
  exact bodyPost_ret (v := zV false p) (by simp [results, Tryd.results38, go_sem, hB1]) rfl ⟨rfl, hL0.bl⟩

set_option maxHeartbeats 4000000 in
set_option maxRecDepth 100000 in
theorem in_false_lt (m n : Nat) (h : m < n) (hm : (digs m).length ≤ 1000000000) (hn : (digs n).length ≤ 1000000000) (w : World) :
    Calls Tryd.prog 38 #[zV false m, natV n] w fun e w' => e = .returned (zV (decide (n - m ≠ 0)) (n - m)) ∧ Below w.heap.size w w' := by
  have hL0 : GL w w [] := GL.start w
  have HS := Lib.hid (fun w => sub_lt m n h w)
  have HT := Lib.hid (fun w => sub_ge n m (by omega) (by omega) w)
  generalize n - m = p at *
  have HF := Lib.hid (fun w => from_any true p w)
  simp only [Bool.true_and] at HF
  obtain ⟨d, hd⟩ : ∃ d, d = decide (p ≠ 0) := ⟨_, rfl⟩
  rw [← hd] at HF ⊢
  clear hd
  clear hm hn h
  replace hL0 := (((hL0.new rfl [.int .u64 ((lo m : Nat) : Int), .string (hs m), .bool false] 27).new (K := w.heap.size + 1) (szA _ _) [.int .u64 ((lo n : Nat) : Int), .string (hs n)] 25).new (K := w.heap.size + 1 + 1) (by simp only [World.size_alloc]) [.int .u64 0, .string ⟨#[]⟩, .bool false] 27)
  generalize hweq : (((w.alloc (.cells #[.int .u64 ((lo m : Nat) : Int), .string (hs m), .bool false] 27)).alloc (.cells #[.int .u64 ((lo n : Nat) : Int), .string (hs n)] 25)).alloc (.cells #[.int .u64 0, .string ⟨#[]⟩, .bool false] 27)) = x1 at hL0
  go_enter Tryd.func38, Tryd.ntmps38
  have hA := hL0.fc
  simp only [fcG, cellsF, neK, and_true, ne_eq, Nat.zero_add, Nat.reduceAdd] at hA
  go_wp2_with fail
  clear hA
  with_reducible refine Calls.mono (HS.out _) ?_
  rintro e x2 ⟨rfl, hb⟩
  replace hL0 := hL0.call hb
  clear hb hweq
  replace hL0 := (hL0.new rfl [.int .u64 ((lo 0 : Nat) : Int), .string (hs 0)] 25)
  generalize hweq : (x2.alloc (.cells #[.int .u64 ((lo 0 : Nat) : Int), .string (hs 0)] 25)) = x3 at hL0
  have hA := hL0.fc
  simp only [fcG, cellsF, neK, and_true, ne_eq, Nat.zero_add, Nat.reduceAdd] at hA
  go_wp2_with fail
  clear hA
  with_reducible refine Calls.mono (HT.out _) ?_
  rintro e x4 ⟨rfl, hb⟩
  replace hL0 := hL0.call hb
  clear hb hweq
  replace hL0 := (hL0.new rfl [.int .u64 ((lo p : Nat) : Int), .string (hs p)] 25)
  generalize hweq : (x4.alloc (.cells #[.int .u64 ((lo p : Nat) : Int), .string (hs p)] 25)) = x5 at hL0
  have hA := hL0.fc
  simp only [fcG, cellsF, neK, and_true, ne_eq, Nat.zero_add, Nat.reduceAdd] at hA
  go_wp2_with fail
  clear hA
  with_reducible refine Calls.mono (HF.out _) ?_
  rintro e x6 ⟨rfl, hb⟩
  replace hL0 := hL0.call hb
  clear hb hweq
  have hA := hL0.fc
  simp only [fcG, cellsF, neK, and_true, ne_eq, Nat.zero_add, Nat.reduceAdd] at hA
  have hP := hL0.put 2 (w.heap.size + 1 + 1) _ rfl [.int .u64 ((lo p : Nat) : Int), .string (hs p), .bool d] rfl
  simp only [setAll, List.set_cons_zero, List.set_cons_succ] at hP
  generalize hput1 : (((x6.setCell ⟨w.heap.size + 1 + 1, 0, none⟩ (.int .u64 ((lo p : Nat) : Int))).setCell ⟨w.heap.size + 1 + 1, 1, none⟩ (.string (hs p))).setCell ⟨w.heap.size + 1 + 1, 2, none⟩ (.bool d)) = x7 at hP
  have hB1 := hP.fc
  simp only [fcG, cellsF, neK, and_true, ne_eq, Nat.zero_add, Nat.reduceAdd] at hB1
  replace hL0 := hP
  go_wp2_with fail
  exact bodyPost_ret (v := zV d p) (by simp [results, Tryd.results38, go_sem, hB1]) rfl ⟨rfl, hL0.bl⟩

set_option maxHeartbeats 4000000 in
set_option maxRecDepth 100000 in
theorem byadd_true_true (m n k : Nat) (u : Bool) (H : ∀ w, Calls Tryd.prog 37 #[zV true m, natV n] w fun e w' => e = .returned (zV u k) ∧ Below w.heap.size w w') (w : World) :
    Calls Tryd.prog 36 #[zV true m, zV true n, .func (.func 37) #[] #[], .func (.func 38) #[] #[]] w fun e w' => e = .returned (zV u k) ∧ Below w.heap.size w w' := by
  have hL0 : GL w w [] := GL.start w
  replace H := Lib.hid H
  replace hL0 := (((hL0.new rfl [.int .u64 ((lo m : Nat) : Int), .string (hs m), .bool true] 27).new (K := w.heap.size + 1) (szA _ _) [.int .u64 ((lo n : Nat) : Int), .string (hs n), .bool true] 27).new (K := w.heap.size + 1 + 1) (by simp only [World.size_alloc]) [.int .u64 0, .string ⟨#[]⟩, .bool false] 27)
  generalize hweq : (((w.alloc (.cells #[.int .u64 ((lo m : Nat) : Int), .string (hs m), .bool true] 27)).alloc (.cells #[.int .u64 ((lo n : Nat) : Int), .string (hs n), .bool true] 27)).alloc (.cells #[.int .u64 0, .string ⟨#[]⟩, .bool false] 27)) = x1 at hL0
  go_enter Tryd.func36, Tryd.ntmps36
  have hA := hL0.fc
  simp only [fcG, cellsF, neK, and_true, ne_eq, Nat.zero_add, Nat.reduceAdd] at hA
  go_wp2_with fail
  clear hA
  with_reducible refine Calls.mono (H.out _) ?_
  rintro e x2 ⟨rfl, hb⟩
  replace hL0 := hL0.call hb
  clear hb hweq
  have hA := hL0.fc
  simp only [fcG, cellsF, neK, and_true, ne_eq, Nat.zero_add, Nat.reduceAdd] at hA
  have hP := hL0.put 0 (w.heap.size + 1 + 1) _ rfl [.int .u64 ((lo k : Nat) : Int), .string (hs k), .bool u] rfl
  simp only [setAll, List.set_cons_zero, List.set_cons_succ] at hP
  generalize hput1 : (((x2.setCell ⟨w.heap.size + 1 + 1, 0, none⟩ (.int .u64 ((lo k : Nat) : Int))).setCell ⟨w.heap.size + 1 + 1, 1, none⟩ (.string (hs k))).setCell ⟨w.heap.size + 1 + 1, 2, none⟩ (.bool u)) = x3 at hP
  have hB1 := hP.fc
  simp only [fcG, cellsF, neK, and_true, ne_eq, Nat.zero_add, Nat.reduceAdd] at hB1
  replace hL0 := hP
  go_wp2_with fail
  exact bodyPost_ret (v := zV u k) (by simp [results, Tryd.results36, go_sem, hB1]) rfl ⟨rfl, hL0.bl⟩

set_option maxHeartbeats 4000000 in
set_option maxRecDepth 100000 in
theorem byadd_true_false (m n k : Nat) (u : Bool) (H : ∀ w, Calls Tryd.prog 38 #[zV true m, natV n] w fun e w' => e = .returned (zV u k) ∧ Below w.heap.size w w') (w : World) :
    Calls Tryd.prog 36 #[zV true m, zV false n, .func (.func 37) #[] #[], .func (.func 38) #[] #[]] w fun e w' => e = .returned (zV u k) ∧ Below w.heap.size w w' := by
  have hL0 : GL w w [] := GL.start w
  replace H := Lib.hid H
  replace hL0 := (((hL0.new rfl [.int .u64 ((lo m : Nat) : Int), .string (hs m), .bool true] 27).new (K := w.heap.size + 1) (szA _ _) [.int .u64 ((lo n : Nat) : Int), .string (hs n), .bool false] 27).new (K := w.heap.size + 1 + 1) (by simp only [World.size_alloc]) [.int .u64 0, .string ⟨#[]⟩, .bool false] 27)
  generalize hweq : (((w.alloc (.cells #[.int .u64 ((lo m : Nat) : Int), .string (hs m), .bool true] 27)).alloc (.cells #[.int .u64 ((lo n : Nat) : Int), .string (hs n), .bool false] 27)).alloc (.cells #[.int .u64 0, .string ⟨#[]⟩, .bool false] 27)) = x1 at hL0
  go_enter Tryd.func36, Tryd.ntmps36
  have hA := hL0.fc
  simp only [fcG, cellsF, neK, and_true, ne_eq, Nat.zero_add, Nat.reduceAdd] at hA
  go_wp2_with fail
  clear hA
  with_reducible refine Calls.mono (H.out _) ?_
  rintro e x2 ⟨rfl, hb⟩
  replace hL0 := hL0.call hb
  clear hb hweq
  have hA := hL0.fc
  simp only [fcG, cellsF, neK, and_true, ne_eq, Nat.zero_add, Nat.reduceAdd] at hA
  have hP := hL0.put 0 (w.heap.size + 1 + 1) _ rfl [.int .u64 ((lo k : Nat) : Int), .string (hs k), .bool u] rfl
  simp only [setAll, List.set_cons_zero, List.set_cons_succ] at hP
  generalize hput1 : (((x2.setCell ⟨w.heap.size + 1 + 1, 0, none⟩ (.int .u64 ((lo k : Nat) : Int))).setCell ⟨w.heap.size + 1 + 1, 1, none⟩ (.string (hs k))).setCell ⟨w.heap.size + 1 + 1, 2, none⟩ (.bool u)) = x3 at hP
  have hB1 := hP.fc
  simp only [fcG, cellsF, neK, and_true, ne_eq, Nat.zero_add, Nat.reduceAdd] at hB1
  replace hL0 := hP
  go_wp2_with fail
  exact bodyPost_ret (v := zV u k) (by simp [results, Tryd.results36, go_sem, hB1]) rfl ⟨rfl, hL0.bl⟩

set_option maxHeartbeats 4000000 in
set_option maxRecDepth 100000 in
theorem byadd_false_true (m n k : Nat) (u : Bool) (H : ∀ w, Calls Tryd.prog 38 #[zV false m, natV n] w fun e w' => e = .returned (zV u k) ∧ Below w.heap.size w w') (w : World) :
    Calls Tryd.prog 36 #[zV false m, zV true n, .func (.func 37) #[] #[], .func (.func 38) #[] #[]] w fun e w' => e = .returned (zV u k) ∧ Below w.heap.size w w' := by
  have hL0 : GL w w [] := GL.start w
  replace H := Lib.hid H
  replace hL0 := (((hL0.new rfl [.int .u64 ((lo m : Nat) : Int), .string (hs m), .bool false] 27).new (K := w.heap.size + 1) (szA _ _) [.int .u64 ((lo n : Nat) : Int), .string (hs n), .bool true] 27).new (K := w.heap.size + 1 + 1) (by simp only [World.size_alloc]) [.int .u64 0, .string ⟨#[]⟩, .bool false] 27)
  generalize hweq : (((w.alloc (.cells #[.int .u64 ((lo m : Nat) : Int), .string (hs m), .bool false] 27)).alloc (.cells #[.int .u64 ((lo n : Nat) : Int), .string (hs n), .bool true] 27)).alloc (.cells #[.int .u64 0, .string ⟨#[]⟩, .bool false] 27)) = x1 at hL0
  go_enter Tryd.func36, Tryd.ntmps36
  have hA := hL0.fc
  simp only [fcG, cellsF, neK, and_true, ne_eq, Nat.zero_add, Nat.reduceAdd] at hA
  go_wp2_with fail
  clear hA
  with_reducible refine Calls.mono (H.out _) ?_
  rintro e x2 ⟨rfl, hb⟩
  replace hL0 := hL0.call hb
  clear hb hweq
  have hA := hL0.fc
  simp only [fcG, cellsF, neK, and_true, ne_eq, Nat.zero_add, Nat.reduceAdd] at hA
  have hP := hL0.put 0 (w.heap.size + 1 + 1) _ rfl [.int .u64 ((lo k : Nat) : Int), .string (hs k), .bool u] rfl
  simp only [setAll, List.set_cons_zero, List.set_cons_succ] at hP
  generalize hput1 : (((x2.setCell ⟨w.heap.size + 1 + 1, 0, none⟩ (.int .u64 ((lo k : Nat) : Int))).setCell ⟨w.heap.size + 1 + 1, 1, none⟩ (.string (hs k))).setCell ⟨w.heap.size + 1 + 1, 2, none⟩ (.bool u)) = x3 at hP
  have hB1 := hP.fc
  simp only [fcG, cellsF, neK, and_true, ne_eq, Nat.zero_add, Nat.reduceAdd] at hB1
  replace hL0 := hP
  go_wp2_with fail
  exact bodyPost_ret (v := zV u k) (by simp [results, Tryd.results36, go_sem, hB1]) rfl ⟨rfl, hL0.bl⟩

set_option maxHeartbeats 4000000 in
set_option maxRecDepth 100000 in
theorem byadd_false_false (m n k : Nat) (u : Bool) (H : ∀ w, Calls Tryd.prog 37 #[zV false m, natV n] w fun e w' => e = .returned (zV u k) ∧ Below w.heap.size w w') (w : World) :
    Calls Tryd.prog 36 #[zV false m, zV false n, .func (.func 37) #[] #[], .func (.func 38) #[] #[]] w fun e w' => e = .returned (zV u k) ∧ Below w.heap.size w w' := by
  have hL0 : GL w w [] := GL.start w
  replace H := Lib.hid H
  replace hL0 := (((hL0.new rfl [.int .u64 ((lo m : Nat) : Int), .string (hs m), .bool false] 27).new (K := w.heap.size + 1) (szA _ _) [.int .u64 ((lo n : Nat) : Int), .string (hs n), .bool false] 27).new (K := w.heap.size + 1 + 1) (by simp only [World.size_alloc]) [.int .u64 0, .string ⟨#[]⟩, .bool false] 27)
  generalize hweq : (((w.alloc (.cells #[.int .u64 ((lo m : Nat) : Int), .string (hs m), .bool false] 27)).alloc (.cells #[.int .u64 ((lo n : Nat) : Int), .string (hs n), .bool false] 27)).alloc (.cells #[.int .u64 0, .string ⟨#[]⟩, .bool false] 27)) = x1 at hL0
  go_enter Tryd.func36, Tryd.ntmps36
  have hA := hL0.fc
  simp only [fcG, cellsF, neK, and_true, ne_eq, Nat.zero_add, Nat.reduceAdd] at hA
  go_wp2_with fail
  clear hA
  with_reducible refine Calls.mono (H.out _) ?_
  rintro e x2 ⟨rfl, hb⟩
  replace hL0 := hL0.call hb
  clear hb hweq
  have hA := hL0.fc
  simp only [fcG, cellsF, neK, and_true, ne_eq, Nat.zero_add, Nat.reduceAdd] at hA
  have hP := hL0.put 0 (w.heap.size + 1 + 1) _ rfl [.int .u64 ((lo k : Nat) : Int), .string (hs k), .bool u] rfl
  simp only [setAll, List.set_cons_zero, List.set_cons_succ] at hP
  generalize hput1 : (((x2.setCell ⟨w.heap.size + 1 + 1, 0, none⟩ (.int .u64 ((lo k : Nat) : Int))).setCell ⟨w.heap.size + 1 + 1, 1, none⟩ (.string (hs k))).setCell ⟨w.heap.size + 1 + 1, 2, none⟩ (.bool u)) = x3 at hP
  have hB1 := hP.fc
  simp only [fcG, cellsF, neK, and_true, ne_eq, Nat.zero_add, Nat.reduceAdd] at hB1
  replace hL0 := hP
  go_wp2_with fail
  exact bodyPost_ret (v := zV u k) (by simp [results, Tryd.results36, go_sem, hB1]) rfl ⟨rfl, hL0.bl⟩

set_option maxHeartbeats 4000000 in
set_option maxRecDepth 100000 in
theorem bysub_true_true (m n k : Nat) (u : Bool) (H : ∀ w, Calls Tryd.prog 38 #[zV true m, natV n] w fun e w' => e = .returned (zV u k) ∧ Below w.heap.size w w') (w : World) :
    Calls Tryd.prog 36 #[zV true m, zV true n, .func (.func 38) #[] #[], .func (.func 37) #[] #[]] w fun e w' => e = .returned (zV u k) ∧ Below w.heap.size w w' := by
  have hL0 : GL w w [] := GL.start w
  replace H := Lib.hid H
  replace hL0 := (((hL0.new rfl [.int .u64 ((lo m : Nat) : Int), .string (hs m), .bool true] 27).new (K := w.heap.size + 1) (szA _ _) [.int .u64 ((lo n : Nat) : Int), .string (hs n), .bool true] 27).new (K := w.heap.size + 1 + 1) (by simp only [World.size_alloc]) [.int .u64 0, .string ⟨#[]⟩, .bool false] 27)
  generalize hweq : (((w.alloc (.cells #[.int .u64 ((lo m : Nat) : Int), .string (hs m), .bool true] 27)).alloc (.cells #[.int .u64 ((lo n : Nat) : Int), .string (hs n), .bool true] 27)).alloc (.cells #[.int .u64 0, .string ⟨#[]⟩, .bool false] 27)) = x1 at hL0
  go_enter Tryd.func36, Tryd.ntmps36
  have hA := hL0.fc
  simp only [fcG, cellsF, neK, and_true, ne_eq, Nat.zero_add, Nat.reduceAdd] at hA
  go_wp2_with fail
  clear hA
  with_reducible refine Calls.mono (H.out _) ?_
  rintro e x2 ⟨rfl, hb⟩
  replace hL0 := hL0.call hb
  clear hb hweq
  have hA := hL0.fc
  simp only [fcG, cellsF, neK, and_true, ne_eq, Nat.zero_add, Nat.reduceAdd] at hA
  have hP := hL0.put 0 (w.heap.size + 1 + 1) _ rfl [.int .u64 ((lo k : Nat) : Int), .string (hs k), .bool u] rfl
  simp only [setAll, List.set_cons_zero, List.set_cons_succ] at hP
  generalize hput1 : (((x2.setCell ⟨w.heap.size + 1 + 1, 0, none⟩ (.int .u64 ((lo k : Nat) : Int))).setCell ⟨w.heap.size + 1 + 1, 1, none⟩ (.string (hs k))).setCell ⟨w.heap.size + 1 + 1, 2, none⟩ (.bool u)) = x3 at hP
  have hB1 := hP.fc
  simp only [fcG, cellsF, neK, and_true, ne_eq, Nat.zero_add, Nat.reduceAdd] at hB1
  replace hL0 := hP
  go_wp2_with fail
  exact bodyPost_ret (v := zV u k) (by simp [results, Tryd.results36, go_sem, hB1]) rfl ⟨rfl, hL0.bl⟩

set_option maxHeartbeats 4000000 in
set_option maxRecDepth 100000 in
theorem bysub_true_false (m n k : Nat) (u : Bool) (H : ∀ w, Calls Tryd.prog 37 #[zV true m, natV n] w fun e w' => e = .returned (zV u k) ∧ Below w.heap.size w w') (w : World) :
    Calls Tryd.prog 36 #[zV true m, zV false n, .func (.func 38) #[] #[], .func (.func 37) #[] #[]] w fun e w' => e = .returned (zV u k) ∧ Below w.heap.size w w' := by
  have hL0 : GL w w [] := GL.start w
  replace H := Lib.hid H
  replace hL0 := (((hL0.new rfl [.int .u64 ((lo m : Nat) : Int), .string (hs m), .bool true] 27).new (K := w.heap.size + 1) (szA _ _) [.int .u64 ((lo n : Nat) : Int), .string (hs n), .bool false] 27).new (K := w.heap.size + 1 + 1) (by simp only [World.size_alloc]) [.int .u64 0, .string ⟨#[]⟩, .bool false] 27)
  generalize hweq : (((w.alloc (.cells #[.int .u64 ((lo m : Nat) : Int), .string (hs m), .bool true] 27)).alloc (.cells #[.int .u64 ((lo n : Nat) : Int), .string (hs n), .bool false] 27)).alloc (.cells #[.int .u64 0, .string ⟨#[]⟩, .bool false] 27)) = x1 at hL0
  go_enter Tryd.func36, Tryd.ntmps36
  have hA := hL0.fc
  simp only [fcG, cellsF, neK, and_true, ne_eq, Nat.zero_add, Nat.reduceAdd] at hA
  go_wp2_with fail
  clear hA
  with_reducible refine Calls.mono (H.out _) ?_
  rintro e x2 ⟨rfl, hb⟩
  replace hL0 := hL0.call hb
  clear hb hweq
  have hA := hL0.fc
  simp only [fcG, cellsF, neK, and_true, ne_eq, Nat.zero_add, Nat.reduceAdd] at hA
  have hP := hL0.put 0 (w.heap.size + 1 + 1) _ rfl [.int .u64 ((lo k : Nat) : Int), .string (hs k), .bool u] rfl
  simp only [setAll, List.set_cons_zero, List.set_cons_succ] at hP
  generalize hput1 : (((x2.setCell ⟨w.heap.size + 1 + 1, 0, none⟩ (.int .u64 ((lo k : Nat) : Int))).setCell ⟨w.heap.size + 1 + 1, 1, none⟩ (.string (hs k))).setCell ⟨w.heap.size + 1 + 1, 2, none⟩ (.bool u)) = x3 at hP
  have hB1 := hP.fc
  simp only [fcG, cellsF, neK, and_true, ne_eq, Nat.zero_add, Nat.reduceAdd] at hB1
  replace hL0 := hP
  go_wp2_with fail
  exact bodyPost_ret (v := zV u k) (by simp [results, Tryd.results36, go_sem, hB1]) rfl ⟨rfl, hL0.bl⟩

set_option maxHeartbeats 4000000 in
set_option maxRecDepth 100000 in
theorem bysub_false_true (m n k : Nat) (u : Bool) (H : ∀ w, Calls Tryd.prog 37 #[zV false m, natV n] w fun e w' => e = .returned (zV u k) ∧ Below w.heap.size w w') (w : World) :
    Calls Tryd.prog 36 #[zV false m, zV true n, .func (.func 38) #[] #[], .func (.func 37) #[] #[]] w fun e w' => e = .returned (zV u k) ∧ Below w.heap.size w w' := by
  have hL0 : GL w w [] := GL.start w
  replace H := Lib.hid H
  replace hL0 := (((hL0.new rfl [.int .u64 ((lo m : Nat) : Int), .string (hs m), .bool false] 27).new (K := w.heap.size + 1) (szA _ _) [.int .u64 ((lo n : Nat) : Int), .string (hs n), .bool true] 27).new (K := w.heap.size + 1 + 1) (by simp only [World.size_alloc]) [.int .u64 0, .string ⟨#[]⟩, .bool false] 27)
  generalize hweq : (((w.alloc (.cells #[.int .u64 ((lo m : Nat) : Int), .string (hs m), .bool false] 27)).alloc (.cells #[.int .u64 ((lo n : Nat) : Int), .string (hs n), .bool true] 27)).alloc (.cells #[.int .u64 0, .string ⟨#[]⟩, .bool false] 27)) = x1 at hL0
  go_enter Tryd.func36, Tryd.ntmps36
  have hA := hL0.fc
  simp only [fcG, cellsF, neK, and_true, ne_eq, Nat.zero_add, Nat.reduceAdd] at hA
  go_wp2_with fail
  clear hA
  with_reducible refine Calls.mono (H.out _) ?_
  rintro e x2 ⟨rfl, hb⟩
  replace hL0 := hL0.call hb
  clear hb hweq
  have hA := hL0.fc
  simp only [fcG, cellsF, neK, and_true, ne_eq, Nat.zero_add, Nat.reduceAdd] at hA
  have hP := hL0.put 0 (w.heap.size + 1 + 1) _ rfl [.int .u64 ((lo k : Nat) : Int), .string (hs k), .bool u] rfl
  simp only [setAll, List.set_cons_zero, List.set_cons_succ] at hP
  generalize hput1 : (((x2.setCell ⟨w.heap.size + 1 + 1, 0, none⟩ (.int .u64 ((lo k : Nat) : Int))).setCell ⟨w.heap.size + 1 + 1, 1, none⟩ (.string (hs k))).setCell ⟨w.heap.size + 1 + 1, 2, none⟩ (.bool u)) = x3 at hP
  have hB1 := hP.fc
  simp only [fcG, cellsF, neK, and_true, ne_eq, Nat.zero_add, Nat.reduceAdd] at hB1
  replace hL0 := hP
  go_wp2_with fail
  exact bodyPost_ret (v := zV u k) (by simp [results, Tryd.results36, go_sem, hB1]) rfl ⟨rfl, hL0.bl⟩

set_option maxHeartbeats 4000000 in
set_option maxRecDepth 100000 in
theorem bysub_false_false (m n k : Nat) (u : Bool) (H : ∀ w, Calls Tryd.prog 38 #[zV false m, natV n] w fun e w' => e = .returned (zV u k) ∧ Below w.heap.size w w') (w : World) :
    Calls Tryd.prog 36 #[zV false m, zV false n, .func (.func 38) #[] #[], .func (.func 37) #[] #[]] w fun e w' => e = .returned (zV u k) ∧ Below w.heap.size w w' := by
  have hL0 : GL w w [] := GL.start w
  replace H := Lib.hid H
  replace hL0 := (((hL0.new rfl [.int .u64 ((lo m : Nat) : Int), .string (hs m), .bool false] 27).new (K := w.heap.size + 1) (szA _ _) [.int .u64 ((lo n : Nat) : Int), .string (hs n), .bool false] 27).new (K := w.heap.size + 1 + 1) (by simp only [World.size_alloc]) [.int .u64 0, .string ⟨#[]⟩, .bool false] 27)
  generalize hweq : (((w.alloc (.cells #[.int .u64 ((lo m : Nat) : Int), .string (hs m), .bool false] 27)).alloc (.cells #[.int .u64 ((lo n : Nat) : Int), .string (hs n), .bool false] 27)).alloc (.cells #[.int .u64 0, .string ⟨#[]⟩, .bool false] 27)) = x1 at hL0
  go_enter Tryd.func36, Tryd.ntmps36
  have hA := hL0.fc
  simp only [fcG, cellsF, neK, and_true, ne_eq, Nat.zero_add, Nat.reduceAdd] at hA
  go_wp2_with fail
  clear hA
  with_reducible refine Calls.mono (H.out _) ?_
  rintro e x2 ⟨rfl, hb⟩
  replace hL0 := hL0.call hb
  clear hb hweq
  have hA := hL0.fc
  simp only [fcG, cellsF, neK, and_true, ne_eq, Nat.zero_add, Nat.reduceAdd] at hA
  have hP := hL0.put 0 (w.heap.size + 1 + 1) _ rfl [.int .u64 ((lo k : Nat) : Int), .string (hs k), .bool u] rfl
  simp only [setAll, List.set_cons_zero, List.set_cons_succ] at hP
  generalize hput1 : (((x2.setCell ⟨w.heap.size + 1 + 1, 0, none⟩ (.int .u64 ((lo k : Nat) : Int))).setCell ⟨w.heap.size + 1 + 1, 1, none⟩ (.string (hs k))).setCell ⟨w.heap.size + 1 + 1, 2, none⟩ (.bool u)) = x3 at hP
  have hB1 := hP.fc
  simp only [fcG, cellsF, neK, and_true, ne_eq, Nat.zero_add, Nat.reduceAdd] at hB1
  replace hL0 := hP
  go_wp2_with fail
  exact bodyPost_ret (v := zV u k) (by simp [results, Tryd.results36, go_sem, hB1]) rfl ⟨rfl, hL0.bl⟩

set_option maxHeartbeats 4000000 in
set_option maxRecDepth 100000 in
theorem iadd (s t u : Bool) (m n k : Nat) (H : ∀ w, Calls Tryd.prog 36 #[zV s m, zV t n, .func (.func 37) #[] #[], .func (.func 38) #[] #[]] w fun e w' => e = .returned (zV u k) ∧ Below w.heap.size w w') (w : World) :
    Calls Tryd.prog 17 #[zV s m, zV t n] w fun e w' => e = .returned (zV u k) ∧ Below w.heap.size w w' := by
  have hL0 : GL w w [] := GL.start w
  replace H := Lib.hid H
  replace hL0 := (((hL0.new rfl [.int .u64 ((lo m : Nat) : Int), .string (hs m), .bool s] 27).new (K := w.heap.size + 1) (szA _ _) [.int .u64 ((lo n : Nat) : Int), .string (hs n), .bool t] 27).new (K := w.heap.size + 1 + 1) (by simp only [World.size_alloc]) [.int .u64 0, .string ⟨#[]⟩, .bool false] 27)
  generalize hweq : (((w.alloc (.cells #[.int .u64 ((lo m : Nat) : Int), .string (hs m), .bool s] 27)).alloc (.cells #[.int .u64 ((lo n : Nat) : Int), .string (hs n), .bool t] 27)).alloc (.cells #[.int .u64 0, .string ⟨#[]⟩, .bool false] 27)) = x1 at hL0
  go_enter Tryd.func17, Tryd.ntmps17
  have hA := hL0.fc
  simp only [fcG, cellsF, neK, and_true, ne_eq, Nat.zero_add, Nat.reduceAdd] at hA
  go_wp2_with fail
  clear hA
  with_reducible refine Calls.mono (H.out _) ?_
  rintro e x2 ⟨rfl, hb⟩
  replace hL0 := hL0.call hb
  clear hb hweq
  have hA := hL0.fc
  simp only [fcG, cellsF, neK, and_true, ne_eq, Nat.zero_add, Nat.reduceAdd] at hA
  have hP := hL0.put 0 (w.heap.size + 1 + 1) _ rfl [.int .u64 ((lo k : Nat) : Int), .string (hs k), .bool u] rfl
  simp only [setAll, List.set_cons_zero, List.set_cons_succ] at hP
  generalize hput1 : (((x2.setCell ⟨w.heap.size + 1 + 1, 0, none⟩ (.int .u64 ((lo k : Nat) : Int))).setCell ⟨w.heap.size + 1 + 1, 1, none⟩ (.string (hs k))).setCell ⟨w.heap.size + 1 + 1, 2, none⟩ (.bool u)) = x3 at hP
  have hB1 := hP.fc
  simp only [fcG, cellsF, neK, and_true, ne_eq, Nat.zero_add, Nat.reduceAdd] at hB1
  replace hL0 := hP
  go_wp2_with fail
  exact bodyPost_ret (v := zV u k) (by simp [results, Tryd.results17, go_sem, hB1]) rfl ⟨rfl, hL0.bl⟩

set_option maxHeartbeats 4000000 in
set_option maxRecDepth 100000 in
theorem isub (s t u : Bool) (m n k : Nat) (H : ∀ w, Calls Tryd.prog 36 #[zV s m, zV t n, .func (.func 38) #[] #[], .func (.func 37) #[] #[]] w fun e w' => e = .returned (zV u k) ∧ Below w.heap.size w w') (w : World) :
    Calls Tryd.prog 25 #[zV s m, zV t n] w fun e w' => e = .returned (zV u k) ∧ Below w.heap.size w w' := by
  have hL0 : GL w w [] := GL.start w
  replace H := Lib.hid H
  replace hL0 := (((hL0.new rfl [.int .u64 ((lo m : Nat) : Int), .string (hs m), .bool s] 27).new (K := w.heap.size + 1) (szA _ _) [.int .u64 ((lo n : Nat) : Int), .string (hs n), .bool t] 27).new (K := w.heap.size + 1 + 1) (by simp only [World.size_alloc]) [.int .u64 0, .string ⟨#[]⟩, .bool false] 27)
  generalize hweq : (((w.alloc (.cells #[.int .u64 ((lo m : Nat) : Int), .string (hs m), .bool s] 27)).alloc (.cells #[.int .u64 ((lo n : Nat) : Int), .string (hs n), .bool t] 27)).alloc (.cells #[.int .u64 0, .string ⟨#[]⟩, .bool false] 27)) = x1 at hL0
  go_enter Tryd.func25, Tryd.ntmps25
  have hA := hL0.fc
  simp only [fcG, cellsF, neK, and_true, ne_eq, Nat.zero_add, Nat.reduceAdd] at hA
  go_wp2_with fail
  clear hA
  with_reducible refine Calls.mono (H.out _) ?_
  rintro e x2 ⟨rfl, hb⟩
  replace hL0 := hL0.call hb
  clear hb hweq
  have hA := hL0.fc
  simp only [fcG, cellsF, neK, and_true, ne_eq, Nat.zero_add, Nat.reduceAdd] at hA
  have hP := hL0.put 0 (w.heap.size + 1 + 1) _ rfl [.int .u64 ((lo k : Nat) : Int), .string (hs k), .bool u] rfl
  simp only [setAll, List.set_cons_zero, List.set_cons_succ] at hP
  generalize hput1 : (((x2.setCell ⟨w.heap.size + 1 + 1, 0, none⟩ (.int .u64 ((lo k : Nat) : Int))).setCell ⟨w.heap.size + 1 + 1, 1, none⟩ (.string (hs k))).setCell ⟨w.heap.size + 1 + 1, 2, none⟩ (.bool u)) = x3 at hP
  have hB1 := hP.fc
  simp only [fcG, cellsF, neK, and_true, ne_eq, Nat.zero_add, Nat.reduceAdd] at hB1
  replace hL0 := hP
  go_wp2_with fail
  exact bodyPost_ret (v := zV u k) (by simp [results, Tryd.results25, go_sem, hB1]) rfl ⟨rfl, hL0.bl⟩

end Go.Proofs.YthehcjfmokabfaaDoor
