/-
  Layer 2, walks A: From, Of, Abs, Sign, Neg.
-/
import Derived.Test.YthehcjfmokabfaaDoorGl
set_option linter.unusedVariables false
set_option linter.unusedSimpArgs false
namespace Go.Proofs.YthehcjfmokabfaaDoor
open Go.RowKit
attribute [local irreducible] lo hs sm s64 c64 d64 b64 mh ml pd pc qd qc val hiB str cmpI srD lz nb isq decB

/-- An integer, by its sign and its absolute value. -/
abbrev zV (s : Bool) (m : Nat) : Value := .agg #[.int .u64 ((lo m : Nat) : Int), .string (hs m), .bool s]
theorem ne0 {d : Nat} (h : d ≠ 0) : (((lo d : Nat) : Int) == 0) = false ∨ ((((lo d : Nat) : Int) == 0) = true ∧ ((hs d).toList == []) = false) := by
  have e := eq_zero (Nat.pos_of_ne_zero h)
  rwa [show ((lo 0 : Nat) : Int) = 0 by rw [lo_small Bs_pos]; rfl, show (hs 0).toList = [] by rw [hs_small Bs_pos, ByteArray.toList_eq]] at e
theorem zV_zero : zV false 0 = .agg #[.int .u64 0, .string ⟨#[]⟩, .bool false] := by unfold zV; rw [lo_small Bs_pos, hs_small Bs_pos]; rfl

set_option maxHeartbeats 4000000 in
set_option maxRecDepth 100000 in
theorem from_pos (n : Nat)  (w : World) :
    Calls Tryd.prog 22 #[.bool false, natV n] w fun e w' => e = .returned (zV false n) ∧ Below w.heap.size w w' := by
  have hL0 : GL w w [] := GL.start w
  replace hL0 := ((hL0.new rfl [.int .u64 ((lo n : Nat) : Int), .string (hs n)] 25).new (K := w.heap.size + 1) (szA _ _) [.int .u64 0, .string ⟨#[]⟩, .bool false] 27)
  generalize hweq : ((w.alloc (.cells #[.int .u64 ((lo n : Nat) : Int), .string (hs n)] 25)).alloc (.cells #[.int .u64 0, .string ⟨#[]⟩, .bool false] 27)) = x1 at hL0
  go_enter Tryd.func22, Tryd.ntmps22
  have hA := hL0.fc
  simp only [fcG, cellsF, neK, and_true, ne_eq, Nat.zero_add, Nat.reduceAdd] at hA
  go_upto_region 1 with fail
  clear hA
  clear hweq
  obtain ⟨α, iα, F, hF1, hF2⟩ := cls x1
  have hq := GL.fcC hF1 hL0
  simp only [fcC, cellsC, and_true, Nat.zero_add, Nat.reduceAdd] at hq
  refine region_qs 8 (C := fun w' => ∃ x, w' = F x) (by kernel_rfl) (by kernel_rfl) (cls_drew hF2) ?_
  simp only [List.take_succ_cons, List.take_zero, List.drop_succ_cons, List.drop_zero, List.take_nil, List.drop_nil]
  repeat (go_big_quiet_step (first | fail))
  refine wpQuiet_nil ?_
  rintro wq ⟨xq, rfl⟩
  replace hL0 := hL0.call (hF1 xq)
  clear hq hF2
  generalize F xq = x2 at hL0 ⊢
  clear hF1 xq iα F α
  have hA := hL0.fc
  simp only [fcG, cellsF, neK, and_true, ne_eq, Nat.zero_add, Nat.reduceAdd] at hA
  have hP := hL0.put 0 (w.heap.size + 1) _ rfl [.int .u64 ((lo n : Nat) : Int), .string (hs n), .bool false] rfl
  simp only [setAll, List.set_cons_zero, List.set_cons_succ] at hP
  generalize hput1 : (((x2.setCell ⟨w.heap.size + 1, 0, none⟩ (.int .u64 ((lo n : Nat) : Int))).setCell ⟨w.heap.size + 1, 1, none⟩ (.string (hs n))).setCell ⟨w.heap.size + 1, 2, none⟩ (.bool false)) = x3 at hP
  have hB1 := hP.fc
  simp only [fcG, cellsF, neK, and_true, ne_eq, Nat.zero_add, Nat.reduceAdd] at hB1
  replace hL0 := hP
  go_wp2_with fail
  exact bodyPost_ret (v := zV false n) (by simp [results, Tryd.results22, go_sem, hB1]) rfl ⟨rfl, hL0.bl⟩

set_option maxHeartbeats 4000000 in
set_option maxRecDepth 100000 in
theorem from_zero  (w : World) :
    Calls Tryd.prog 22 #[.bool true, natV 0] w fun e w' => e = .returned (zV false 0) ∧ Below w.heap.size w w' := by
  have hL0 : GL w w [] := GL.start w
  rw [natV_zero]
  replace hL0 := ((hL0.new rfl [.int .u64 0, .string ⟨#[]⟩] 25).new (K := w.heap.size + 1) (szA _ _) [.int .u64 0, .string ⟨#[]⟩, .bool false] 27)
  generalize hweq : ((w.alloc (.cells #[.int .u64 0, .string ⟨#[]⟩] 25)).alloc (.cells #[.int .u64 0, .string ⟨#[]⟩, .bool false] 27)) = x1 at hL0
  go_enter Tryd.func22, Tryd.ntmps22
  have hA := hL0.fc
  simp only [fcG, cellsF, neK, and_true, ne_eq, Nat.zero_add, Nat.reduceAdd] at hA
  go_upto_region 1 with fail
  clear hA
  clear hweq
  obtain ⟨α, iα, F, hF1, hF2⟩ := cls x1
  have hq := GL.fcC hF1 hL0
  simp only [fcC, cellsC, and_true, Nat.zero_add, Nat.reduceAdd] at hq
  refine region_qs 8 (C := fun w' => ∃ x, w' = F x) (by kernel_rfl) (by kernel_rfl) (cls_drew hF2) ?_
  simp only [List.take_succ_cons, List.take_zero, List.drop_succ_cons, List.drop_zero, List.take_nil, List.drop_nil]
  repeat (go_big_quiet_step (first | fail))
  refine wpQuiet_nil ?_
  rintro wq ⟨xq, rfl⟩
  replace hL0 := hL0.call (hF1 xq)
  clear hq hF2
  generalize F xq = x2 at hL0 ⊢
  clear hF1 xq iα F α
  have hA := hL0.fc
  simp only [fcG, cellsF, neK, and_true, ne_eq, Nat.zero_add, Nat.reduceAdd] at hA
  have hP := hL0.put 0 (w.heap.size + 1) _ rfl [.int .u64 0, .string ⟨#[]⟩, .bool false] rfl
  simp only [setAll, List.set_cons_zero, List.set_cons_succ] at hP
  generalize hput1 : (((x2.setCell ⟨w.heap.size + 1, 0, none⟩ (.int .u64 0)).setCell ⟨w.heap.size + 1, 1, none⟩ (.string ⟨#[]⟩)).setCell ⟨w.heap.size + 1, 2, none⟩ (.bool false)) = x3 at hP
  have hB1 := hP.fc
  simp only [fcG, cellsF, neK, and_true, ne_eq, Nat.zero_add, Nat.reduceAdd] at hB1
  replace hL0 := hP
  go_wp2_with fail
  exact bodyPost_ret (v := zV false 0) (by rw [zV_zero]; simp [results, Tryd.results22, go_sem, hB1]) rfl ⟨rfl, hL0.bl⟩

set_option maxHeartbeats 4000000 in
set_option maxRecDepth 100000 in
theorem from_neg (n : Nat) (hn : n ≠ 0) (w : World) :
    Calls Tryd.prog 22 #[.bool true, natV n] w fun e w' => e = .returned (zV true n) ∧ Below w.heap.size w w' := by
  have hL0 : GL w w [] := GL.start w
  replace hL0 := ((hL0.new rfl [.int .u64 ((lo n : Nat) : Int), .string (hs n)] 25).new (K := w.heap.size + 1) (szA _ _) [.int .u64 0, .string ⟨#[]⟩, .bool false] 27)
  generalize hweq : ((w.alloc (.cells #[.int .u64 ((lo n : Nat) : Int), .string (hs n)] 25)).alloc (.cells #[.int .u64 0, .string ⟨#[]⟩, .bool false] 27)) = x1 at hL0
  rcases ne0 hn with e0 | ⟨e0, e1⟩
  all_goals (
    go_enter Tryd.func22, Tryd.ntmps22
    have hA := hL0.fc
    simp only [fcG, cellsF, neK, and_true, ne_eq, Nat.zero_add, Nat.reduceAdd] at hA
    go_upto_region 1 with fail
    clear hA
    clear hweq
    obtain ⟨α, iα, F, hF1, hF2⟩ := cls x1
    have hq := GL.fcC hF1 hL0
    simp only [fcC, cellsC, and_true, Nat.zero_add, Nat.reduceAdd] at hq
    refine region_qs 8 (C := fun w' => ∃ x, w' = F x) (by kernel_rfl) (by kernel_rfl) (cls_drew hF2) ?_
    simp only [List.take_succ_cons, List.take_zero, List.drop_succ_cons, List.drop_zero, List.take_nil, List.drop_nil]
    repeat (go_big_quiet_step (first | fail))
    refine wpQuiet_nil ?_
    rintro wq ⟨xq, rfl⟩
    replace hL0 := hL0.call (hF1 xq)
    clear hq hF2
    generalize F xq = x2 at hL0 ⊢
    clear hF1 xq iα F α
    have hA := hL0.fc
    simp only [fcG, cellsF, neK, and_true, ne_eq, Nat.zero_add, Nat.reduceAdd] at hA
    have hP := hL0.put 0 (w.heap.size + 1) _ rfl [.int .u64 ((lo n : Nat) : Int), .string (hs n), .bool true] rfl
    simp only [setAll, List.set_cons_zero, List.set_cons_succ] at hP
    generalize hput1 : (((x2.setCell ⟨w.heap.size + 1, 0, none⟩ (.int .u64 ((lo n : Nat) : Int))).setCell ⟨w.heap.size + 1, 1, none⟩ (.string (hs n))).setCell ⟨w.heap.size + 1, 2, none⟩ (.bool true)) = x3 at hP
    have hB1 := hP.fc
    simp only [fcG, cellsF, neK, and_true, ne_eq, Nat.zero_add, Nat.reduceAdd] at hB1
    replace hL0 := hP
    go_wp2_with fail
    exact bodyPost_ret (v := zV true n) (by simp [results, Tryd.results22, go_sem, hB1]) rfl ⟨rfl, hL0.bl⟩)

theorem from_any (s : Bool) (n : Nat) (w : World) : Calls Tryd.prog 22 #[.bool s, natV n] w fun e w' => e = .returned (zV (s && decide (n ≠ 0)) n) ∧ Below w.heap.size w w' := by
  cases s with
  | false => exact from_pos n w
  | true =>
    by_cases h : n = 0
    · subst h; exact from_zero w
    · rw [Bool.true_and, decide_eq_true h]; exact from_neg n h w

set_option maxHeartbeats 4000000 in
set_option maxRecDepth 100000 in
theorem abs_any (s : Bool) (m : Nat) (w : World) :
    Calls Tryd.prog 20 #[zV s m] w fun e w' => e = .returned (natV m) ∧ Below w.heap.size w w' := by
  have hL0 : GL w w [] := GL.start w
  replace hL0 := ((hL0.new rfl [.int .u64 ((lo m : Nat) : Int), .string (hs m), .bool s] 27).new (K := w.heap.size + 1) (szA _ _) [.int .u64 0, .string ⟨#[]⟩] 25)
  generalize hweq : ((w.alloc (.cells #[.int .u64 ((lo m : Nat) : Int), .string (hs m), .bool s] 27)).alloc (.cells #[.int .u64 0, .string ⟨#[]⟩] 25)) = x1 at hL0
  go_enter Tryd.func20, Tryd.ntmps20
  have hA := hL0.fc
  simp only [fcG, cellsF, neK, and_true, ne_eq, Nat.zero_add, Nat.reduceAdd] at hA
  have hP := hL0.put 0 (w.heap.size + 1) _ rfl [.int .u64 ((lo m : Nat) : Int), .string (hs m)] rfl
  simp only [setAll, List.set_cons_zero, List.set_cons_succ] at hP
  generalize hput1 : ((x1.setCell ⟨w.heap.size + 1, 0, none⟩ (.int .u64 ((lo m : Nat) : Int))).setCell ⟨w.heap.size + 1, 1, none⟩ (.string (hs m))) = x2 at hP
  have hB1 := hP.fc
  simp only [fcG, cellsF, neK, and_true, ne_eq, Nat.zero_add, Nat.reduceAdd] at hB1
  replace hL0 := hP
  go_wp2_with fail
  exact bodyPost_ret (v := natV m) (by simp [results, Tryd.results20, go_sem, hB1]) rfl ⟨rfl, hL0.bl⟩

set_option maxHeartbeats 4000000 in
set_option maxRecDepth 100000 in
theorem sign_neg (m : Nat) (w : World) :
    Calls Tryd.prog 19 #[zV true m] w fun e w' => e = .returned (.int .i64 (-1)) ∧ Below w.heap.size w w' := by
  have hL0 : GL w w [] := GL.start w
  replace hL0 := (hL0.new rfl [.int .u64 ((lo m : Nat) : Int), .string (hs m), .bool true] 27)
  generalize hweq : (w.alloc (.cells #[.int .u64 ((lo m : Nat) : Int), .string (hs m), .bool true] 27)) = x1 at hL0
  go_enter Tryd.func19, Tryd.ntmps19
  have hA := hL0.fc
  simp only [fcG, cellsF, neK, and_true, ne_eq, Nat.zero_add, Nat.reduceAdd] at hA
  go_wp2_with fail
  exact bodyPost_ret (v := .int .i64 (-1)) (by simp [results, Tryd.results19, go_sem, hA]) rfl ⟨rfl, hL0.bl⟩

set_option maxHeartbeats 4000000 in
set_option maxRecDepth 100000 in
theorem sign_zero  (w : World) :
    Calls Tryd.prog 19 #[zV false 0] w fun e w' => e = .returned (.int .i64 0) ∧ Below w.heap.size w w' := by
  have hL0 : GL w w [] := GL.start w
  rw [zV_zero]
  replace hL0 := (hL0.new rfl [.int .u64 0, .string ⟨#[]⟩, .bool false] 27)
  generalize hweq : (w.alloc (.cells #[.int .u64 0, .string ⟨#[]⟩, .bool false] 27)) = x1 at hL0
  go_enter Tryd.func19, Tryd.ntmps19
  have hA := hL0.fc
  simp only [fcG, cellsF, neK, and_true, ne_eq, Nat.zero_add, Nat.reduceAdd] at hA
  go_wp2_with fail
  exact bodyPost_ret (v := .int .i64 0) (by simp [results, Tryd.results19, go_sem, hA]) rfl ⟨rfl, hL0.bl⟩

set_option maxHeartbeats 4000000 in
set_option maxRecDepth 100000 in
theorem sign_pos (m : Nat) (hm : m ≠ 0) (w : World) :
    Calls Tryd.prog 19 #[zV false m] w fun e w' => e = .returned (.int .i64 1) ∧ Below w.heap.size w w' := by
  have hL0 : GL w w [] := GL.start w
  replace hL0 := (hL0.new rfl [.int .u64 ((lo m : Nat) : Int), .string (hs m), .bool false] 27)
  generalize hweq : (w.alloc (.cells #[.int .u64 ((lo m : Nat) : Int), .string (hs m), .bool false] 27)) = x1 at hL0
  rcases ne0 hm with e0 | ⟨e0, e1⟩
  all_goals (
    go_enter Tryd.func19, Tryd.ntmps19
    have hA := hL0.fc
    simp only [fcG, cellsF, neK, and_true, ne_eq, Nat.zero_add, Nat.reduceAdd] at hA
    go_wp2_with fail
    exact bodyPost_ret (v := .int .i64 1) (by simp [results, Tryd.results19, go_sem, hA]) rfl ⟨rfl, hL0.bl⟩)

set_option maxHeartbeats 4000000 in
set_option maxRecDepth 100000 in
theorem neg_true (m : Nat) (w : World) :
    Calls Tryd.prog 26 #[zV true m] w fun e w' => e = .returned (zV false m) ∧ Below w.heap.size w w' := by
  have hL0 : GL w w [] := GL.start w
  have HF := Lib.hid (fun w => from_any false m w)
  simp only [Bool.false_and] at HF
  replace hL0 := ((hL0.new rfl [.int .u64 ((lo m : Nat) : Int), .string (hs m), .bool true] 27).new (K := w.heap.size + 1) (szA _ _) [.int .u64 0, .string ⟨#[]⟩, .bool false] 27)
  generalize hweq : ((w.alloc (.cells #[.int .u64 ((lo m : Nat) : Int), .string (hs m), .bool true] 27)).alloc (.cells #[.int .u64 0, .string ⟨#[]⟩, .bool false] 27)) = x1 at hL0
  go_enter Tryd.func26, Tryd.ntmps26
  have hA := hL0.fc
  simp only [fcG, cellsF, neK, and_true, ne_eq, Nat.zero_add, Nat.reduceAdd] at hA
  go_wp2_with fail
  clear hA
  with_reducible refine Calls.mono (HF.out _) ?_
  rintro e x2 ⟨rfl, hb⟩
  replace hL0 := hL0.call hb
  clear hb hweq
  have hA := hL0.fc
  simp only [fcG, cellsF, neK, and_true, ne_eq, Nat.zero_add, Nat.reduceAdd] at hA
  have hP := hL0.put 0 (w.heap.size + 1) _ rfl [.int .u64 ((lo m : Nat) : Int), .string (hs m), .bool false] rfl
  simp only [setAll, List.set_cons_zero, List.set_cons_succ] at hP
  generalize hput1 : (((x2.setCell ⟨w.heap.size + 1, 0, none⟩ (.int .u64 ((lo m : Nat) : Int))).setCell ⟨w.heap.size + 1, 1, none⟩ (.string (hs m))).setCell ⟨w.heap.size + 1, 2, none⟩ (.bool false)) = x3 at hP
  have hB1 := hP.fc
  simp only [fcG, cellsF, neK, and_true, ne_eq, Nat.zero_add, Nat.reduceAdd] at hB1
  replace hL0 := hP
  go_wp2_with fail
  exact bodyPost_ret (v := zV false m) (by simp [results, Tryd.results26, go_sem, hB1]) rfl ⟨rfl, hL0.bl⟩

set_option maxHeartbeats 4000000 in
set_option maxRecDepth 100000 in
theorem neg_false (m : Nat) (w : World) :
    Calls Tryd.prog 26 #[zV false m] w fun e w' => e = .returned (zV (decide (m ≠ 0)) m) ∧ Below w.heap.size w w' := by
  have hL0 : GL w w [] := GL.start w
  have HF := Lib.hid (fun w => from_any true m w)
  simp only [Bool.true_and] at HF
  obtain ⟨d, hd⟩ : ∃ d, d = decide (m ≠ 0) := ⟨_, rfl⟩
  rw [← hd] at HF ⊢
  clear hd
  replace hL0 := ((hL0.new rfl [.int .u64 ((lo m : Nat) : Int), .string (hs m), .bool false] 27).new (K := w.heap.size + 1) (szA _ _) [.int .u64 0, .string ⟨#[]⟩, .bool false] 27)
  generalize hweq : ((w.alloc (.cells #[.int .u64 ((lo m : Nat) : Int), .string (hs m), .bool false] 27)).alloc (.cells #[.int .u64 0, .string ⟨#[]⟩, .bool false] 27)) = x1 at hL0
  go_enter Tryd.func26, Tryd.ntmps26
  have hA := hL0.fc
  simp only [fcG, cellsF, neK, and_true, ne_eq, Nat.zero_add, Nat.reduceAdd] at hA
  go_wp2_with fail
  clear hA
  with_reducible refine Calls.mono (HF.out _) ?_
  rintro e x2 ⟨rfl, hb⟩
  replace hL0 := hL0.call hb
  clear hb hweq
  have hA := hL0.fc
  simp only [fcG, cellsF, neK, and_true, ne_eq, Nat.zero_add, Nat.reduceAdd] at hA
  have hP := hL0.put 0 (w.heap.size + 1) _ rfl [.int .u64 ((lo m : Nat) : Int), .string (hs m), .bool d] rfl
  simp only [setAll, List.set_cons_zero, List.set_cons_succ] at hP
  generalize hput1 : (((x2.setCell ⟨w.heap.size + 1, 0, none⟩ (.int .u64 ((lo m : Nat) : Int))).setCell ⟨w.heap.size + 1, 1, none⟩ (.string (hs m))).setCell ⟨w.heap.size + 1, 2, none⟩ (.bool d)) = x3 at hP
  have hB1 := hP.fc
  simp only [fcG, cellsF, neK, and_true, ne_eq, Nat.zero_add, Nat.reduceAdd] at hB1
  replace hL0 := hP
  go_wp2_with fail
  exact bodyPost_ret (v := zV d m) (by simp [results, Tryd.results26, go_sem, hB1]) rfl ⟨rfl, hL0.bl⟩

end Go.Proofs.YthehcjfmokabfaaDoor
