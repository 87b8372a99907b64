/-
  Layer 2, walks E: Div.
-/
import Derived.Test.YthehcjfmokabfaaDoorIa
import Derived.Test.YthehcjfmokabfaaDoorWp
import Derived.Test.YthehcjfmokabfaaDoorWy
set_option linter.unusedVariables false
set_option linter.unusedSimpArgs false
namespace Go.Proofs.YthehcjfmokabfaaDoor
open Go.RowKit
attribute [local irreducible] lo hs sm s64 c64 d64 b64 mh ml pd pc qd qc val hiB str cmpI srD lz nb isq decB

set_option maxHeartbeats 4000000 in
set_option maxRecDepth 100000 in
theorem idiv0_true (m : Nat) (w : World) :
    Calls Tryd.prog 23 #[zV true m, zV false 0] w fun e w' => e = .returned (.tuple #[zV false 0, zV false 0, .bool false]) ∧ Below w.heap.size w w' := by
  have hL0 : GL w w [] := GL.start w
  have HD := Lib.hid (fun w => div_zero m w)
  rw [show zV false 0 = .agg #[.int .u64 ((lo 0 : Nat) : Int), .string (hs 0), .bool false] from rfl]
  replace hL0 := ((((hL0.new rfl [.int .u64 ((lo m : Nat) : Int), .string (hs m), .bool true] 27).new (K := w.heap.size + 1) (szA _ _) [.int .u64 ((lo 0 : Nat) : Int), .string (hs 0), .bool false] 27).new (K := w.heap.size + 1 + 1) (by simp only [World.size_alloc]) [.int .u64 0, .string ⟨#[]⟩, .bool false] 27).new (K := w.heap.size + 1 + 1 + 1) (by simp only [World.size_alloc]) [.int .u64 0, .string ⟨#[]⟩, .bool false] 27)
  generalize hweq : ((((w.alloc (.cells #[.int .u64 ((lo m : Nat) : Int), .string (hs m), .bool true] 27)).alloc (.cells #[.int .u64 ((lo 0 : Nat) : Int), .string (hs 0), .bool false] 27)).alloc (.cells #[.int .u64 0, .string ⟨#[]⟩, .bool false] 27)).alloc (.cells #[.int .u64 0, .string ⟨#[]⟩, .bool false] 27)) = x1 at hL0
  go_enter Tryd.func23, Tryd.ntmps23
  have hA := hL0.fc
  simp only [fcG, cellsF, neK, and_true, ne_eq, Nat.zero_add, Nat.reduceAdd] at hA
  go_wp2_with fail
  clear hA
  with_reducible refine Calls.mono (HD.out _) ?_
  rintro e x2 ⟨rfl, hb⟩
  replace hL0 := hL0.call hb
  clear hb hweq
  replace hL0 := ((hL0.new rfl [.int .u64 ((lo 0 : Nat) : Int), .string (hs 0)] 25).new (K := x2.heap.size + 1) (szA _ _) [.int .u64 ((lo 0 : Nat) : Int), .string (hs 0)] 25)
  generalize hweq : ((x2.alloc (.cells #[.int .u64 ((lo 0 : Nat) : Int), .string (hs 0)] 25)).alloc (.cells #[.int .u64 ((lo 0 : Nat) : Int), .string (hs 0)] 25)) = x3 at hL0
  have hA := hL0.fc
  simp only [fcG, cellsF, neK, and_true, ne_eq, Nat.zero_add, Nat.reduceAdd] at hA
  have hP := hL0.put 3 (w.heap.size + 1 + 1) _ rfl [.int .u64 0, .string ⟨#[]⟩, .bool false] rfl
  simp only [setAll, List.set_cons_zero, List.set_cons_succ] at hP
  generalize hput1 : (((x3.setCell ⟨w.heap.size + 1 + 1, 0, none⟩ (.int .u64 0)).setCell ⟨w.heap.size + 1 + 1, 1, none⟩ (.string ⟨#[]⟩)).setCell ⟨w.heap.size + 1 + 1, 2, none⟩ (.bool false)) = x4 at hP
  have hB1 := hP.fc
  simp only [fcG, cellsF, neK, and_true, ne_eq, Nat.zero_add, Nat.reduceAdd] at hB1
  replace hL0 := hP
  have hP := hL0.put 2 (w.heap.size + 1 + 1 + 1) _ rfl [.int .u64 0, .string ⟨#[]⟩, .bool false] rfl
  simp only [setAll, List.set_cons_zero, List.set_cons_succ] at hP
  generalize hput2 : (((x4.setCell ⟨w.heap.size + 1 + 1 + 1, 0, none⟩ (.int .u64 0)).setCell ⟨w.heap.size + 1 + 1 + 1, 1, none⟩ (.string ⟨#[]⟩)).setCell ⟨w.heap.size + 1 + 1 + 1, 2, none⟩ (.bool false)) = x5 at hP
  have hB2 := hP.fc
  simp only [fcG, cellsF, neK, and_true, ne_eq, Nat.zero_add, Nat.reduceAdd] at hB2
  replace hL0 := hP
  go_wp2_with fail
  exact bodyPost_ret (v := .tuple #[zV false 0, zV false 0, .bool false]) (by rw [zV_zero]; simp [results, Tryd.results23, go_sem, hB2]) rfl ⟨rfl, hL0.bl⟩

set_option maxHeartbeats 4000000 in
set_option maxRecDepth 100000 in
theorem idiv0_false (m : Nat) (w : World) :
    Calls Tryd.prog 23 #[zV false m, zV false 0] w fun e w' => e = .returned (.tuple #[zV false 0, zV false 0, .bool false]) ∧ Below w.heap.size w w' := by
  have hL0 : GL w w [] := GL.start w
  have HD := Lib.hid (fun w => div_zero m w)
  rw [show zV false 0 = .agg #[.int .u64 ((lo 0 : Nat) : Int), .string (hs 0), .bool false] from rfl]
  replace hL0 := ((((hL0.new rfl [.int .u64 ((lo m : Nat) : Int), .string (hs m), .bool false] 27).new (K := w.heap.size + 1) (szA _ _) [.int .u64 ((lo 0 : Nat) : Int), .string (hs 0), .bool false] 27).new (K := w.heap.size + 1 + 1) (by simp only [World.size_alloc]) [.int .u64 0, .string ⟨#[]⟩, .bool false] 27).new (K := w.heap.size + 1 + 1 + 1) (by simp only [World.size_alloc]) [.int .u64 0, .string ⟨#[]⟩, .bool false] 27)
  generalize hweq : ((((w.alloc (.cells #[.int .u64 ((lo m : Nat) : Int), .string (hs m), .bool false] 27)).alloc (.cells #[.int .u64 ((lo 0 : Nat) : Int), .string (hs 0), .bool false] 27)).alloc (.cells #[.int .u64 0, .string ⟨#[]⟩, .bool false] 27)).alloc (.cells #[.int .u64 0, .string ⟨#[]⟩, .bool false] 27)) = x1 at hL0
  go_enter Tryd.func23, Tryd.ntmps23
  have hA := hL0.fc
  simp only [fcG, cellsF, neK, and_true, ne_eq, Nat.zero_add, Nat.reduceAdd] at hA
  go_wp2_with fail
  clear hA
  with_reducible refine Calls.mono (HD.out _) ?_
  rintro e x2 ⟨rfl, hb⟩
  replace hL0 := hL0.call hb
  clear hb hweq
  replace hL0 := ((hL0.new rfl [.int .u64 ((lo 0 : Nat) : Int), .string (hs 0)] 25).new (K := x2.heap.size + 1) (szA _ _) [.int .u64 ((lo 0 : Nat) : Int), .string (hs 0)] 25)
  generalize hweq : ((x2.alloc (.cells #[.int .u64 ((lo 0 : Nat) : Int), .string (hs 0)] 25)).alloc (.cells #[.int .u64 ((lo 0 : Nat) : Int), .string (hs 0)] 25)) = x3 at hL0
  have hA := hL0.fc
  simp only [fcG, cellsF, neK, and_true, ne_eq, Nat.zero_add, Nat.reduceAdd] at hA
  have hP := hL0.put 3 (w.heap.size + 1 + 1) _ rfl [.int .u64 0, .string ⟨#[]⟩, .bool false] rfl
  simp only [setAll, List.set_cons_zero, List.set_cons_succ] at hP
  generalize hput1 : (((x3.setCell ⟨w.heap.size + 1 + 1, 0, none⟩ (.int .u64 0)).setCell ⟨w.heap.size + 1 + 1, 1, none⟩ (.string ⟨#[]⟩)).setCell ⟨w.heap.size + 1 + 1, 2, none⟩ (.bool false)) = x4 at hP
  have hB1 := hP.fc
  simp only [fcG, cellsF, neK, and_true, ne_eq, Nat.zero_add, Nat.reduceAdd] at hB1
  replace hL0 := hP
  have hP := hL0.put 2 (w.heap.size + 1 + 1 + 1) _ rfl [.int .u64 0, .string ⟨#[]⟩, .bool false] rfl
  simp only [setAll, List.set_cons_zero, List.set_cons_succ] at hP
  generalize hput2 : (((x4.setCell ⟨w.heap.size + 1 + 1 + 1, 0, none⟩ (.int .u64 0)).setCell ⟨w.heap.size + 1 + 1 + 1, 1, none⟩ (.string ⟨#[]⟩)).setCell ⟨w.heap.size + 1 + 1 + 1, 2, none⟩ (.bool false)) = x5 at hP
  have hB2 := hP.fc
  simp only [fcG, cellsF, neK, and_true, ne_eq, Nat.zero_add, Nat.reduceAdd] at hB2
  replace hL0 := hP
  go_wp2_with fail
  exact bodyPost_ret (v := .tuple #[zV false 0, zV false 0, .bool false]) (by rw [zV_zero]; simp [results, Tryd.results23, go_sem, hB2]) rfl ⟨rfl, hL0.bl⟩

set_option maxHeartbeats 4000000 in
set_option maxRecDepth 100000 in
theorem idiv_true_true_1 (m n : Nat) (h0 : n ≠ 0) (hr : m % n = 0) (hm : (digs m).length ≤ 1000000000) (hn : (digs n).length ≤ 1000000000) (w : World) :
    Calls Tryd.prog 23 #[zV true m, zV true n] w fun e w' => e = .returned (.tuple #[zV false (m / n), zV false (0), .bool true]) ∧ Below w.heap.size w w' := by
  have hL0 : GL w w [] := GL.start w
  have HD := Lib.hid (fun w => div_pos m n (by omega) (by omega) w)
  have hlq : (digs (m / n)).length ≤ 1000000000 := Nat.le_trans (digs_mono (Nat.div_le_self m n)) hm
  have hrn : m % n < n := Nat.mod_lt _ (by omega)
  generalize m / n = q at *
  rw [hr] at HD
  clear hr hrn
  have e0 : (((lo 0 : Nat) : Int) == 0) = true := by rw [lo_small Bs_pos]; rfl
  have e1 : ((hs 0).toList == []) = true := by rw [hs_small Bs_pos, ByteArray.toList_eq]; rfl
  have HF := Lib.hid (fun w => from_any false q w)
  simp only [Bool.false_and] at HF
  have HG := Lib.hid (fun w => from_pos 0 w)
  clear hm hn h0 hlq
  replace hL0 := ((((hL0.new rfl [.int .u64 ((lo m : Nat) : Int), .string (hs m), .bool true] 27).new (K := w.heap.size + 1) (szA _ _) [.int .u64 ((lo n : Nat) : Int), .string (hs n), .bool true] 27).new (K := w.heap.size + 1 + 1) (by simp only [World.size_alloc]) [.int .u64 0, .string ⟨#[]⟩, .bool false] 27).new (K := w.heap.size + 1 + 1 + 1) (by simp only [World.size_alloc]) [.int .u64 0, .string ⟨#[]⟩, .bool false] 27)
  generalize hweq : ((((w.alloc (.cells #[.int .u64 ((lo m : Nat) : Int), .string (hs m), .bool true] 27)).alloc (.cells #[.int .u64 ((lo n : Nat) : Int), .string (hs n), .bool true] 27)).alloc (.cells #[.int .u64 0, .string ⟨#[]⟩, .bool false] 27)).alloc (.cells #[.int .u64 0, .string ⟨#[]⟩, .bool false] 27)) = x1 at hL0
  go_enter Tryd.func23, Tryd.ntmps23
  have hA := hL0.fc
  simp only [fcG, cellsF, neK, and_true, ne_eq, Nat.zero_add, Nat.reduceAdd] at hA
  go_wp2_with fail
  clear hA
  with_reducible refine Calls.mono (HD.out _) ?_
  rintro e x2 ⟨rfl, hb⟩
  replace hL0 := hL0.call hb
  clear hb hweq
  replace hL0 := ((hL0.new rfl [.int .u64 ((lo q : Nat) : Int), .string (hs q)] 25).new (K := x2.heap.size + 1) (szA _ _) [.int .u64 ((lo 0 : Nat) : Int), .string (hs 0)] 25)
  generalize hweq : ((x2.alloc (.cells #[.int .u64 ((lo q : Nat) : Int), .string (hs q)] 25)).alloc (.cells #[.int .u64 ((lo 0 : Nat) : Int), .string (hs 0)] 25)) = x3 at hL0
  have hA := hL0.fc
  simp only [fcG, cellsF, neK, and_true, ne_eq, Nat.zero_add, Nat.reduceAdd] at hA
  go_upto_region 7 with fail
  clear hA
  clear hweq
  obtain ⟨α, iα, F, hF1, hF2⟩ := cls x3
  have hq := GL.fcC hF1 hL0
  simp only [fcC, cellsC, and_true, Nat.zero_add, Nat.reduceAdd] at hq
  refine region_qs 9 (C := fun w' => ∃ x, w' = F x) (by kernel_rfl) (by kernel_rfl) (cls_drew hF2) ?_
  simp only [List.take_succ_cons, List.take_zero, List.drop_succ_cons, List.drop_zero, List.take_nil, List.drop_nil]
  repeat (go_big_quiet_step (first | fail | (go_at_call 22; with_reducible exact cls_call hF1 hF2 HF.out _) | (go_at_call 22; with_reducible exact cls_call hF1 hF2 HG.out _)))
  refine wpQuiet_nil ?_
  rintro wq ⟨xq, rfl⟩
  replace hL0 := hL0.call (hF1 xq)
  clear hq hF2
  generalize F xq = x4 at hL0 ⊢
  clear hF1 xq iα F α
  have hA := hL0.fc
  simp only [fcG, cellsF, neK, and_true, ne_eq, Nat.zero_add, Nat.reduceAdd] at hA
  have hP := hL0.put 3 (w.heap.size + 1 + 1) _ rfl [.int .u64 ((lo q : Nat) : Int), .string (hs q), .bool false] rfl
  simp only [setAll, List.set_cons_zero, List.set_cons_succ] at hP
  generalize hput1 : (((x4.setCell ⟨w.heap.size + 1 + 1, 0, none⟩ (.int .u64 ((lo q : Nat) : Int))).setCell ⟨w.heap.size + 1 + 1, 1, none⟩ (.string (hs q))).setCell ⟨w.heap.size + 1 + 1, 2, none⟩ (.bool false)) = x5 at hP
  have hB1 := hP.fc
  simp only [fcG, cellsF, neK, and_true, ne_eq, Nat.zero_add, Nat.reduceAdd] at hB1
  replace hL0 := hP
  have hP := hL0.put 2 (w.heap.size + 1 + 1 + 1) _ rfl [.int .u64 ((lo 0 : Nat) : Int), .string (hs 0), .bool false] rfl
  simp only [setAll, List.set_cons_zero, List.set_cons_succ] at hP
  generalize hput2 : (((x5.setCell ⟨w.heap.size + 1 + 1 + 1, 0, none⟩ (.int .u64 ((lo 0 : Nat) : Int))).setCell ⟨w.heap.size + 1 + 1 + 1, 1, none⟩ (.string (hs 0))).setCell ⟨w.heap.size + 1 + 1 + 1, 2, none⟩ (.bool false)) = x6 at hP
  have hB2 := hP.fc
  simp only [fcG, cellsF, neK, and_true, ne_eq, Nat.zero_add, Nat.reduceAdd] at hB2
  replace hL0 := hP
  go_wp2_with fail
  exact bodyPost_ret (v := .tuple #[zV false q, zV false 0, .bool true]) (by simp [results, Tryd.results23, go_sem, hB2]) rfl ⟨rfl, hL0.bl⟩

set_option maxHeartbeats 4000000 in
set_option maxRecDepth 100000 in
theorem idiv_true_true_2 (m n : Nat) (h0 : n ≠ 0) (hr : m % n ≠ 0) (hm : (digs m).length ≤ 1000000000) (hn : (digs n).length ≤ 1000000000) (w : World) :
    Calls Tryd.prog 23 #[zV true m, zV true n] w fun e w' => e = .returned (.tuple #[zV false (m / n + 1), zV false (n - m % n), .bool true]) ∧ Below w.heap.size w w' := by
  have hL0 : GL w w [] := GL.start w
  have HD := Lib.hid (fun w => div_pos m n (by omega) (by omega) w)
  have hlq : (digs (m / n)).length ≤ 1000000000 := Nat.le_trans (digs_mono (Nat.div_le_self m n)) hm
  have hrn : m % n < n := Nat.mod_lt _ (by omega)
  generalize m / n = q at *
  generalize m % n = r at *
  have HO := Lib.hid (fun w => of_val 1 1 rfl (by unfold Bs; omega) w)
  have HA := Lib.hid (fun w => add_any q 1 (by omega) (Nat.le_trans (digs_length_iff (k := 1).2 (by unfold Bs; decide)) (by omega)) w)
  have HS := Lib.hid (fun w => sub_ge n r (by omega) (by omega) w)
  generalize q + 1 = q1 at *
  generalize n - r = r1 at *
  have HF := Lib.hid (fun w => from_any false q1 w)
  simp only [Bool.false_and] at HF
  have HG := Lib.hid (fun w => from_pos r1 w)
  rcases ne0 hr with e0 | ⟨e0, e1⟩
  all_goals clear hm hn h0 hlq hrn hr
  all_goals (
    replace hL0 := ((((hL0.new rfl [.int .u64 ((lo m : Nat) : Int), .string (hs m), .bool true] 27).new (K := w.heap.size + 1) (szA _ _) [.int .u64 ((lo n : Nat) : Int), .string (hs n), .bool true] 27).new (K := w.heap.size + 1 + 1) (by simp only [World.size_alloc]) [.int .u64 0, .string ⟨#[]⟩, .bool false] 27).new (K := w.heap.size + 1 + 1 + 1) (by simp only [World.size_alloc]) [.int .u64 0, .string ⟨#[]⟩, .bool false] 27)
    generalize hweq : ((((w.alloc (.cells #[.int .u64 ((lo m : Nat) : Int), .string (hs m), .bool true] 27)).alloc (.cells #[.int .u64 ((lo n : Nat) : Int), .string (hs n), .bool true] 27)).alloc (.cells #[.int .u64 0, .string ⟨#[]⟩, .bool false] 27)).alloc (.cells #[.int .u64 0, .string ⟨#[]⟩, .bool false] 27)) = x1 at hL0
    go_enter Tryd.func23, Tryd.ntmps23
    have hA := hL0.fc
    simp only [fcG, cellsF, neK, and_true, ne_eq, Nat.zero_add, Nat.reduceAdd] at hA
    go_wp2_with fail
    clear hA
    with_reducible refine Calls.mono (HD.out _) ?_
    rintro e x2 ⟨rfl, hb⟩
    replace hL0 := hL0.call hb
    clear hb hweq
    replace hL0 := ((hL0.new rfl [.int .u64 ((lo q : Nat) : Int), .string (hs q)] 25).new (K := x2.heap.size + 1) (szA _ _) [.int .u64 ((lo r : Nat) : Int), .string (hs r)] 25)
    generalize hweq : ((x2.alloc (.cells #[.int .u64 ((lo q : Nat) : Int), .string (hs q)] 25)).alloc (.cells #[.int .u64 ((lo r : Nat) : Int), .string (hs r)] 25)) = x3 at hL0
    have hA := hL0.fc
    simp only [fcG, cellsF, neK, and_true, ne_eq, Nat.zero_add, Nat.reduceAdd] at hA
    go_upto_region 5 with fail
    clear hA
    clear hweq
    obtain ⟨α, iα, F, hF1, hF2⟩ := cls x3
    have hq := GL.fcC hF1 hL0
    simp only [fcC, cellsC, and_true, Nat.zero_add, Nat.reduceAdd] at hq
    refine region_qs 3 (C := fun w' => ∃ x, w' = F x) (by kernel_rfl) (by kernel_rfl) (cls_drew hF2) ?_
    simp only [List.take_succ_cons, List.take_zero, List.drop_succ_cons, List.drop_zero, List.take_nil, List.drop_nil]
    repeat (go_big_quiet_step (first | fail | (go_at_call 42; with_reducible exact cls_call hF1 hF2 HO.out _) | (go_at_call 49; with_reducible exact cls_call hF1 hF2 HA.out _)))
    refine wpQuiet_nil ?_
    rintro wq ⟨xq, rfl⟩
    replace hL0 := hL0.call (hF1 xq)
    clear hq hF2
    generalize F xq = x4 at hL0 ⊢
    clear hF1 xq iα F α
    have hA := hL0.fc
    simp only [fcG, cellsF, neK, and_true, ne_eq, Nat.zero_add, Nat.reduceAdd] at hA
    have hP := hL0.put 1 (x2.heap.size) _ rfl [.int .u64 ((lo q1 : Nat) : Int), .string (hs q1)] rfl
    simp only [setAll, List.set_cons_zero, List.set_cons_succ] at hP
    generalize hput1 : ((x4.setCell ⟨x2.heap.size, 0, none⟩ (.int .u64 ((lo q1 : Nat) : Int))).setCell ⟨x2.heap.size, 1, none⟩ (.string (hs q1))) = x5 at hP
    have hB1 := hP.fc
    simp only [fcG, cellsF, neK, and_true, ne_eq, Nat.zero_add, Nat.reduceAdd] at hB1
    replace hL0 := hP
    go_wp2_with fail
    clear hA
    with_reducible refine Calls.mono (HS.out _) ?_
    rintro e x6 ⟨rfl, hb⟩
    replace hL0 := hL0.call hb
    clear hb hput1 hB1
    have hA := hL0.fc
    simp only [fcG, cellsF, neK, and_true, ne_eq, Nat.zero_add, Nat.reduceAdd] at hA
    have hP := hL0.put 0 (x2.heap.size + 1) _ rfl [.int .u64 ((lo r1 : Nat) : Int), .string (hs r1)] rfl
    simp only [setAll, List.set_cons_zero, List.set_cons_succ] at hP
    generalize hput2 : ((x6.setCell ⟨x2.heap.size + 1, 0, none⟩ (.int .u64 ((lo r1 : Nat) : Int))).setCell ⟨x2.heap.size + 1, 1, none⟩ (.string (hs r1))) = x7 at hP
    have hB2 := hP.fc
    simp only [fcG, cellsF, neK, and_true, ne_eq, Nat.zero_add, Nat.reduceAdd] at hB2
    replace hL0 := hP
    go_upto_region 7 with fail
    clear hA
    clear hput2 hB2
    obtain ⟨α, iα, F, hF1, hF2⟩ := cls x7
    have hq := GL.fcC hF1 hL0
    simp only [fcC, cellsC, and_true, Nat.zero_add, Nat.reduceAdd] at hq
    refine region_qs 9 (C := fun w' => ∃ x, w' = F x) (by kernel_rfl) (by kernel_rfl) (cls_drew hF2) ?_
    simp only [List.take_succ_cons, List.take_zero, List.drop_succ_cons, List.drop_zero, List.take_nil, List.drop_nil]
    repeat (go_big_quiet_step (first | fail | (go_at_call 22; with_reducible exact cls_call hF1 hF2 HF.out _) | (go_at_call 22; with_reducible exact cls_call hF1 hF2 HG.out _)))
    refine wpQuiet_nil ?_
    rintro wq ⟨xq, rfl⟩
    replace hL0 := hL0.call (hF1 xq)
    clear hq hF2
    generalize F xq = x8 at hL0 ⊢
    clear hF1 xq iα F α
    have hA := hL0.fc
    simp only [fcG, cellsF, neK, and_true, ne_eq, Nat.zero_add, Nat.reduceAdd] at hA
    have hP := hL0.put 3 (w.heap.size + 1 + 1) _ rfl [.int .u64 ((lo q1 : Nat) : Int), .string (hs q1), .bool false] rfl
    simp only [setAll, List.set_cons_zero, List.set_cons_succ] at hP
    generalize hput3 : (((x8.setCell ⟨w.heap.size + 1 + 1, 0, none⟩ (.int .u64 ((lo q1 : Nat) : Int))).setCell ⟨w.heap.size + 1 + 1, 1, none⟩ (.string (hs q1))).setCell ⟨w.heap.size + 1 + 1, 2, none⟩ (.bool false)) = x9 at hP
    have hB3 := hP.fc
    simp only [fcG, cellsF, neK, and_true, ne_eq, Nat.zero_add, Nat.reduceAdd] at hB3
    replace hL0 := hP
    have hP := hL0.put 2 (w.heap.size + 1 + 1 + 1) _ rfl [.int .u64 ((lo r1 : Nat) : Int), .string (hs r1), .bool false] rfl
    simp only [setAll, List.set_cons_zero, List.set_cons_succ] at hP
    generalize hput4 : (((x9.setCell ⟨w.heap.size + 1 + 1 + 1, 0, none⟩ (.int .u64 ((lo r1 : Nat) : Int))).setCell ⟨w.heap.size + 1 + 1 + 1, 1, none⟩ (.string (hs r1))).setCell ⟨w.heap.size + 1 + 1 + 1, 2, none⟩ (.bool false)) = x10 at hP
    have hB4 := hP.fc
    simp only [fcG, cellsF, neK, and_true, ne_eq, Nat.zero_add, Nat.reduceAdd] at hB4
    replace hL0 := hP
    go_wp2_with fail
    exact bodyPost_ret (v := .tuple #[zV false q1, zV false r1, .bool true]) (by simp [results, Tryd.results23, go_sem, hB4]) rfl ⟨rfl, hL0.bl⟩)

set_option maxHeartbeats 4000000 in
set_option maxRecDepth 100000 in
theorem idiv_true_false_1 (m n : Nat) (h0 : n ≠ 0) (hr : m % n = 0) (hm : (digs m).length ≤ 1000000000) (hn : (digs n).length ≤ 1000000000) (w : World) :
    Calls Tryd.prog 23 #[zV true m, zV false n] w fun e w' => e = .returned (.tuple #[zV (decide (m / n ≠ 0)) (m / n), zV false (0), .bool true]) ∧ Below w.heap.size w w' := by
  have hL0 : GL w w [] := GL.start w
  have HD := Lib.hid (fun w => div_pos m n (by omega) (by omega) w)
  have hlq : (digs (m / n)).length ≤ 1000000000 := Nat.le_trans (digs_mono (Nat.div_le_self m n)) hm
  have hrn : m % n < n := Nat.mod_lt _ (by omega)
  generalize m / n = q at *
  rw [hr] at HD
  clear hr hrn
  have e0 : (((lo 0 : Nat) : Int) == 0) = true := by rw [lo_small Bs_pos]; rfl
  have e1 : ((hs 0).toList == []) = true := by rw [hs_small Bs_pos, ByteArray.toList_eq]; rfl
  have HF := Lib.hid (fun w => from_any true q w)
  simp only [Bool.true_and] at HF
  obtain ⟨d, hd⟩ : ∃ d, d = decide (q ≠ 0) := ⟨_, rfl⟩
  rw [← hd] at HF ⊢
  clear hd
  have HG := Lib.hid (fun w => from_pos 0 w)
  clear hm hn h0 hlq
  replace hL0 := ((((hL0.new rfl [.int .u64 ((lo m : Nat) : Int), .string (hs m), .bool true] 27).new (K := w.heap.size + 1) (szA _ _) [.int .u64 ((lo n : Nat) : Int), .string (hs n), .bool false] 27).new (K := w.heap.size + 1 + 1) (by simp only [World.size_alloc]) [.int .u64 0, .string ⟨#[]⟩, .bool false] 27).new (K := w.heap.size + 1 + 1 + 1) (by simp only [World.size_alloc]) [.int .u64 0, .string ⟨#[]⟩, .bool false] 27)
  generalize hweq : ((((w.alloc (.cells #[.int .u64 ((lo m : Nat) : Int), .string (hs m), .bool true] 27)).alloc (.cells #[.int .u64 ((lo n : Nat) : Int), .string (hs n), .bool false] 27)).alloc (.cells #[.int .u64 0, .string ⟨#[]⟩, .bool false] 27)).alloc (.cells #[.int .u64 0, .string ⟨#[]⟩, .bool false] 27)) = x1 at hL0
  go_enter Tryd.func23, Tryd.ntmps23
  have hA := hL0.fc
  simp only [fcG, cellsF, neK, and_true, ne_eq, Nat.zero_add, Nat.reduceAdd] at hA
  go_wp2_with fail
  clear hA
  with_reducible refine Calls.mono (HD.out _) ?_
  rintro e x2 ⟨rfl, hb⟩
  replace hL0 := hL0.call hb
  clear hb hweq
  replace hL0 := ((hL0.new rfl [.int .u64 ((lo q : Nat) : Int), .string (hs q)] 25).new (K := x2.heap.size + 1) (szA _ _) [.int .u64 ((lo 0 : Nat) : Int), .string (hs 0)] 25)
  generalize hweq : ((x2.alloc (.cells #[.int .u64 ((lo q : Nat) : Int), .string (hs q)] 25)).alloc (.cells #[.int .u64 ((lo 0 : Nat) : Int), .string (hs 0)] 25)) = x3 at hL0
  have hA := hL0.fc
  simp only [fcG, cellsF, neK, and_true, ne_eq, Nat.zero_add, Nat.reduceAdd] at hA
  go_upto_region 7 with fail
  clear hA
  clear hweq
  obtain ⟨α, iα, F, hF1, hF2⟩ := cls x3
  have hq := GL.fcC hF1 hL0
  simp only [fcC, cellsC, and_true, Nat.zero_add, Nat.reduceAdd] at hq
  refine region_qs 9 (C := fun w' => ∃ x, w' = F x) (by kernel_rfl) (by kernel_rfl) (cls_drew hF2) ?_
  simp only [List.take_succ_cons, List.take_zero, List.drop_succ_cons, List.drop_zero, List.take_nil, List.drop_nil]
  repeat (go_big_quiet_step (first | fail | (go_at_call 22; with_reducible exact cls_call hF1 hF2 HF.out _) | (go_at_call 22; with_reducible exact cls_call hF1 hF2 HG.out _)))
  refine wpQuiet_nil ?_
  rintro wq ⟨xq, rfl⟩
  replace hL0 := hL0.call (hF1 xq)
  clear hq hF2
  generalize F xq = x4 at hL0 ⊢
  clear hF1 xq iα F α
  have hA := hL0.fc
  simp only [fcG, cellsF, neK, and_true, ne_eq, Nat.zero_add, Nat.reduceAdd] at hA
  have hP := hL0.put 3 (w.heap.size + 1 + 1) _ rfl [.int .u64 ((lo q : Nat) : Int), .string (hs q), .bool d] rfl
  simp only [setAll, List.set_cons_zero, List.set_cons_succ] at hP
  generalize hput1 : (((x4.setCell ⟨w.heap.size + 1 + 1, 0, none⟩ (.int .u64 ((lo q : Nat) : Int))).setCell ⟨w.heap.size + 1 + 1, 1, none⟩ (.string (hs q))).setCell ⟨w.heap.size + 1 + 1, 2, none⟩ (.bool d)) = x5 at hP
  have hB1 := hP.fc
  simp only [fcG, cellsF, neK, and_true, ne_eq, Nat.zero_add, Nat.reduceAdd] at hB1
  replace hL0 := hP
  have hP := hL0.put 2 (w.heap.size + 1 + 1 + 1) _ rfl [.int .u64 ((lo 0 : Nat) : Int), .string (hs 0), .bool false] rfl
  simp only [setAll, List.set_cons_zero, List.set_cons_succ] at hP
  generalize hput2 : (((x5.setCell ⟨w.heap.size + 1 + 1 + 1, 0, none⟩ (.int .u64 ((lo 0 : Nat) : Int))).setCell ⟨w.heap.size + 1 + 1 + 1, 1, none⟩ (.string (hs 0))).setCell ⟨w.heap.size + 1 + 1 + 1, 2, none⟩ (.bool false)) = x6 at hP
  have hB2 := hP.fc
  simp only [fcG, cellsF, neK, and_true, ne_eq, Nat.zero_add, Nat.reduceAdd] at hB2
  replace hL0 := hP
  go_wp2_with fail
  exact bodyPost_ret (v := .tuple #[zV d q, zV false 0, .bool true]) (by simp [results, Tryd.results23, go_sem, hB2]) rfl ⟨rfl, hL0.bl⟩

set_option maxHeartbeats 4000000 in
set_option maxRecDepth 100000 in
theorem idiv_true_false_2 (m n : Nat) (h0 : n ≠ 0) (hr : m % n ≠ 0) (hm : (digs m).length ≤ 1000000000) (hn : (digs n).length ≤ 1000000000) (w : World) :
    Calls Tryd.prog 23 #[zV true m, zV false n] w fun e w' => e = .returned (.tuple #[zV (decide (m / n + 1 ≠ 0)) (m / n + 1), zV false (n - m % n), .bool true]) ∧ Below w.heap.size w w' := by
  have hL0 : GL w w [] := GL.start w
  have HD := Lib.hid (fun w => div_pos m n (by omega) (by omega) w)
  have hlq : (digs (m / n)).length ≤ 1000000000 := Nat.le_trans (digs_mono (Nat.div_le_self m n)) hm
  have hrn : m % n < n := Nat.mod_lt _ (by omega)
  generalize m / n = q at *
  generalize m % n = r at *
  have HO := Lib.hid (fun w => of_val 1 1 rfl (by unfold Bs; omega) w)
  have HA := Lib.hid (fun w => add_any q 1 (by omega) (Nat.le_trans (digs_length_iff (k := 1).2 (by unfold Bs; decide)) (by omega)) w)
  have HS := Lib.hid (fun w => sub_ge n r (by omega) (by omega) w)
  generalize q + 1 = q1 at *
  generalize n - r = r1 at *
  have HF := Lib.hid (fun w => from_any true q1 w)
  simp only [Bool.true_and] at HF
  obtain ⟨d, hd⟩ : ∃ d, d = decide (q1 ≠ 0) := ⟨_, rfl⟩
  rw [← hd] at HF ⊢
  clear hd
  have HG := Lib.hid (fun w => from_pos r1 w)
  rcases ne0 hr with e0 | ⟨e0, e1⟩
  all_goals clear hm hn h0 hlq hrn hr
  all_goals (
    replace hL0 := ((((hL0.new rfl [.int .u64 ((lo m : Nat) : Int), .string (hs m), .bool true] 27).new (K := w.heap.size + 1) (szA _ _) [.int .u64 ((lo n : Nat) : Int), .string (hs n), .bool false] 27).new (K := w.heap.size + 1 + 1) (by simp only [World.size_alloc]) [.int .u64 0, .string ⟨#[]⟩, .bool false] 27).new (K := w.heap.size + 1 + 1 + 1) (by simp only [World.size_alloc]) [.int .u64 0, .string ⟨#[]⟩, .bool false] 27)
    generalize hweq : ((((w.alloc (.cells #[.int .u64 ((lo m : Nat) : Int), .string (hs m), .bool true] 27)).alloc (.cells #[.int .u64 ((lo n : Nat) : Int), .string (hs n), .bool false] 27)).alloc (.cells #[.int .u64 0, .string ⟨#[]⟩, .bool false] 27)).alloc (.cells #[.int .u64 0, .string ⟨#[]⟩, .bool false] 27)) = x1 at hL0
    go_enter Tryd.func23, Tryd.ntmps23
    have hA := hL0.fc
    simp only [fcG, cellsF, neK, and_true, ne_eq, Nat.zero_add, Nat.reduceAdd] at hA
    go_wp2_with fail
    clear hA
    with_reducible refine Calls.mono (HD.out _) ?_
    rintro e x2 ⟨rfl, hb⟩
    replace hL0 := hL0.call hb
    clear hb hweq
    replace hL0 := ((hL0.new rfl [.int .u64 ((lo q : Nat) : Int), .string (hs q)] 25).new (K := x2.heap.size + 1) (szA _ _) [.int .u64 ((lo r : Nat) : Int), .string (hs r)] 25)
    generalize hweq : ((x2.alloc (.cells #[.int .u64 ((lo q : Nat) : Int), .string (hs q)] 25)).alloc (.cells #[.int .u64 ((lo r : Nat) : Int), .string (hs r)] 25)) = x3 at hL0
    have hA := hL0.fc
    simp only [fcG, cellsF, neK, and_true, ne_eq, Nat.zero_add, Nat.reduceAdd] at hA
    go_upto_region 5 with fail
    clear hA
    clear hweq
    obtain ⟨α, iα, F, hF1, hF2⟩ := cls x3
    have hq := GL.fcC hF1 hL0
    simp only [fcC, cellsC, and_true, Nat.zero_add, Nat.reduceAdd] at hq
    refine region_qs 3 (C := fun w' => ∃ x, w' = F x) (by kernel_rfl) (by kernel_rfl) (cls_drew hF2) ?_
    simp only [List.take_succ_cons, List.take_zero, List.drop_succ_cons, List.drop_zero, List.take_nil, List.drop_nil]
    repeat (go_big_quiet_step (first | fail | (go_at_call 42; with_reducible exact cls_call hF1 hF2 HO.out _) | (go_at_call 49; with_reducible exact cls_call hF1 hF2 HA.out _)))
    refine wpQuiet_nil ?_
    rintro wq ⟨xq, rfl⟩
    replace hL0 := hL0.call (hF1 xq)
    clear hq hF2
    generalize F xq = x4 at hL0 ⊢
    clear hF1 xq iα F α
    have hA := hL0.fc
    simp only [fcG, cellsF, neK, and_true, ne_eq, Nat.zero_add, Nat.reduceAdd] at hA
    have hP := hL0.put 1 (x2.heap.size) _ rfl [.int .u64 ((lo q1 : Nat) : Int), .string (hs q1)] rfl
    simp only [setAll, List.set_cons_zero, List.set_cons_succ] at hP
    generalize hput1 : ((x4.setCell ⟨x2.heap.size, 0, none⟩ (.int .u64 ((lo q1 : Nat) : Int))).setCell ⟨x2.heap.size, 1, none⟩ (.string (hs q1))) = x5 at hP
    have hB1 := hP.fc
    simp only [fcG, cellsF, neK, and_true, ne_eq, Nat.zero_add, Nat.reduceAdd] at hB1
    replace hL0 := hP
    go_wp2_with fail
    clear hA
    with_reducible refine Calls.mono (HS.out _) ?_
    rintro e x6 ⟨rfl, hb⟩
    replace hL0 := hL0.call hb
    clear hb hput1 hB1
    have hA := hL0.fc
    simp only [fcG, cellsF, neK, and_true, ne_eq, Nat.zero_add, Nat.reduceAdd] at hA
    have hP := hL0.put 0 (x2.heap.size + 1) _ rfl [.int .u64 ((lo r1 : Nat) : Int), .string (hs r1)] rfl
    simp only [setAll, List.set_cons_zero, List.set_cons_succ] at hP
    generalize hput2 : ((x6.setCell ⟨x2.heap.size + 1, 0, none⟩ (.int .u64 ((lo r1 : Nat) : Int))).setCell ⟨x2.heap.size + 1, 1, none⟩ (.string (hs r1))) = x7 at hP
    have hB2 := hP.fc
    simp only [fcG, cellsF, neK, and_true, ne_eq, Nat.zero_add, Nat.reduceAdd] at hB2
    replace hL0 := hP
    go_upto_region 7 with fail
    clear hA
    clear hput2 hB2
    obtain ⟨α, iα, F, hF1, hF2⟩ := cls x7
    have hq := GL.fcC hF1 hL0
    simp only [fcC, cellsC, and_true, Nat.zero_add, Nat.reduceAdd] at hq
    refine region_qs 9 (C := fun w' => ∃ x, w' = F x) (by kernel_rfl) (by kernel_rfl) (cls_drew hF2) ?_
    simp only [List.take_succ_cons, List.take_zero, List.drop_succ_cons, List.drop_zero, List.take_nil, List.drop_nil]
    repeat (go_big_quiet_step (first | fail | (go_at_call 22; with_reducible exact cls_call hF1 hF2 HF.out _) | (go_at_call 22; with_reducible exact cls_call hF1 hF2 HG.out _)))
    refine wpQuiet_nil ?_
    rintro wq ⟨xq, rfl⟩
    replace hL0 := hL0.call (hF1 xq)
    clear hq hF2
    generalize F xq = x8 at hL0 ⊢
    clear hF1 xq iα F α
    have hA := hL0.fc
    simp only [fcG, cellsF, neK, and_true, ne_eq, Nat.zero_add, Nat.reduceAdd] at hA
    have hP := hL0.put 3 (w.heap.size + 1 + 1) _ rfl [.int .u64 ((lo q1 : Nat) : Int), .string (hs q1), .bool d] rfl
    simp only [setAll, List.set_cons_zero, List.set_cons_succ] at hP
    generalize hput3 : (((x8.setCell ⟨w.heap.size + 1 + 1, 0, none⟩ (.int .u64 ((lo q1 : Nat) : Int))).setCell ⟨w.heap.size + 1 + 1, 1, none⟩ (.string (hs q1))).setCell ⟨w.heap.size + 1 + 1, 2, none⟩ (.bool d)) = x9 at hP
    have hB3 := hP.fc
    simp only [fcG, cellsF, neK, and_true, ne_eq, Nat.zero_add, Nat.reduceAdd] at hB3
    replace hL0 := hP
    have hP := hL0.put 2 (w.heap.size + 1 + 1 + 1) _ rfl [.int .u64 ((lo r1 : Nat) : Int), .string (hs r1), .bool false] rfl
    simp only [setAll, List.set_cons_zero, List.set_cons_succ] at hP
    generalize hput4 : (((x9.setCell ⟨w.heap.size + 1 + 1 + 1, 0, none⟩ (.int .u64 ((lo r1 : Nat) : Int))).setCell ⟨w.heap.size + 1 + 1 + 1, 1, none⟩ (.string (hs r1))).setCell ⟨w.heap.size + 1 + 1 + 1, 2, none⟩ (.bool false)) = x10 at hP
    have hB4 := hP.fc
    simp only [fcG, cellsF, neK, and_true, ne_eq, Nat.zero_add, Nat.reduceAdd] at hB4
    replace hL0 := hP
    go_wp2_with fail
    exact bodyPost_ret (v := .tuple #[zV d q1, zV false r1, .bool true]) (by simp [results, Tryd.results23, go_sem, hB4]) rfl ⟨rfl, hL0.bl⟩)

set_option maxHeartbeats 4000000 in
set_option maxRecDepth 100000 in
theorem idiv_false_true (m n : Nat) (h0 : n ≠ 0) (hm : (digs m).length ≤ 1000000000) (hn : (digs n).length ≤ 1000000000) (w : World) :
    Calls Tryd.prog 23 #[zV false m, zV true n] w fun e w' => e = .returned (.tuple #[zV (decide (m / n ≠ 0)) (m / n), zV false (m % n), .bool true]) ∧ Below w.heap.size w w' := by
  have hL0 : GL w w [] := GL.start w
  have HD := Lib.hid (fun w => div_pos m n (by omega) (by omega) w)
  have hlq : (digs (m / n)).length ≤ 1000000000 := Nat.le_trans (digs_mono (Nat.div_le_self m n)) hm
  have hrn : m % n < n := Nat.mod_lt _ (by omega)
  generalize m / n = q at *
  generalize m % n = r at *
  have HF := Lib.hid (fun w => from_any true q w)
  simp only [Bool.true_and] at HF
  obtain ⟨d, hd⟩ : ∃ d, d = decide (q ≠ 0) := ⟨_, rfl⟩
  rw [← hd] at HF ⊢
  clear hd
  have HG := Lib.hid (fun w => from_pos r w)
  clear hm hn h0 hlq hrn
  replace hL0 := ((((hL0.new rfl [.int .u64 ((lo m : Nat) : Int), .string (hs m), .bool false] 27).new (K := w.heap.size + 1) (szA _ _) [.int .u64 ((lo n : Nat) : Int), .string (hs n), .bool true] 27).new (K := w.heap.size + 1 + 1) (by simp only [World.size_alloc]) [.int .u64 0, .string ⟨#[]⟩, .bool false] 27).new (K := w.heap.size + 1 + 1 + 1) (by simp only [World.size_alloc]) [.int .u64 0, .string ⟨#[]⟩, .bool false] 27)
  generalize hweq : ((((w.alloc (.cells #[.int .u64 ((lo m : Nat) : Int), .string (hs m), .bool false] 27)).alloc (.cells #[.int .u64 ((lo n : Nat) : Int), .string (hs n), .bool true] 27)).alloc (.cells #[.int .u64 0, .string ⟨#[]⟩, .bool false] 27)).alloc (.cells #[.int .u64 0, .string ⟨#[]⟩, .bool false] 27)) = x1 at hL0
  go_enter Tryd.func23, Tryd.ntmps23
  have hA := hL0.fc
  simp only [fcG, cellsF, neK, and_true, ne_eq, Nat.zero_add, Nat.reduceAdd] at hA
  go_wp2_with fail
  clear hA
  with_reducible refine Calls.mono (HD.out _) ?_
  rintro e x2 ⟨rfl, hb⟩
  replace hL0 := hL0.call hb
  clear hb hweq
  replace hL0 := ((hL0.new rfl [.int .u64 ((lo q : Nat) : Int), .string (hs q)] 25).new (K := x2.heap.size + 1) (szA _ _) [.int .u64 ((lo r : Nat) : Int), .string (hs r)] 25)
  generalize hweq : ((x2.alloc (.cells #[.int .u64 ((lo q : Nat) : Int), .string (hs q)] 25)).alloc (.cells #[.int .u64 ((lo r : Nat) : Int), .string (hs r)] 25)) = x3 at hL0
  have hA := hL0.fc
  simp only [fcG, cellsF, neK, and_true, ne_eq, Nat.zero_add, Nat.reduceAdd] at hA
  go_upto_region 7 with fail
  clear hA
  clear hweq
  obtain ⟨α, iα, F, hF1, hF2⟩ := cls x3
  have hq := GL.fcC hF1 hL0
  simp only [fcC, cellsC, and_true, Nat.zero_add, Nat.reduceAdd] at hq
  refine region_qs 9 (C := fun w' => ∃ x, w' = F x) (by kernel_rfl) (by kernel_rfl) (cls_drew hF2) ?_
  simp only [List.take_succ_cons, List.take_zero, List.drop_succ_cons, List.drop_zero, List.take_nil, List.drop_nil]
  repeat (go_big_quiet_step (first | fail | (go_at_call 22; with_reducible exact cls_call hF1 hF2 HF.out _) | (go_at_call 22; with_reducible exact cls_call hF1 hF2 HG.out _)))
  refine wpQuiet_nil ?_
  rintro wq ⟨xq, rfl⟩
  replace hL0 := hL0.call (hF1 xq)
  clear hq hF2
  generalize F xq = x4 at hL0 ⊢
  clear hF1 xq iα F α
  have hA := hL0.fc
  simp only [fcG, cellsF, neK, and_true, ne_eq, Nat.zero_add, Nat.reduceAdd] at hA
  have hP := hL0.put 3 (w.heap.size + 1 + 1) _ rfl [.int .u64 ((lo q : Nat) : Int), .string (hs q), .bool d] rfl
  simp only [setAll, List.set_cons_zero, List.set_cons_succ] at hP
  generalize hput1 : (((x4.setCell ⟨w.heap.size + 1 + 1, 0, none⟩ (.int .u64 ((lo q : Nat) : Int))).setCell ⟨w.heap.size + 1 + 1, 1, none⟩ (.string (hs q))).setCell ⟨w.heap.size + 1 + 1, 2, none⟩ (.bool d)) = x5 at hP
  have hB1 := hP.fc
  simp only [fcG, cellsF, neK, and_true, ne_eq, Nat.zero_add, Nat.reduceAdd] at hB1
  replace hL0 := hP
  have hP := hL0.put 2 (w.heap.size + 1 + 1 + 1) _ rfl [.int .u64 ((lo r : Nat) : Int), .string (hs r), .bool false] rfl
  simp only [setAll, List.set_cons_zero, List.set_cons_succ] at hP
  generalize hput2 : (((x5.setCell ⟨w.heap.size + 1 + 1 + 1, 0, none⟩ (.int .u64 ((lo r : Nat) : Int))).setCell ⟨w.heap.size + 1 + 1 + 1, 1, none⟩ (.string (hs r))).setCell ⟨w.heap.size + 1 + 1 + 1, 2, none⟩ (.bool false)) = x6 at hP
  have hB2 := hP.fc
  simp only [fcG, cellsF, neK, and_true, ne_eq, Nat.zero_add, Nat.reduceAdd] at hB2
  replace hL0 := hP
  go_wp2_with fail
  exact bodyPost_ret (v := .tuple #[zV d q, zV false r, .bool true]) (by simp [results, Tryd.results23, go_sem, hB2]) rfl ⟨rfl, hL0.bl⟩

set_option maxHeartbeats 4000000 in
set_option maxRecDepth 100000 in
theorem idiv_false_false (m n : Nat) (h0 : n ≠ 0) (hm : (digs m).length ≤ 1000000000) (hn : (digs n).length ≤ 1000000000) (w : World) :
    Calls Tryd.prog 23 #[zV false m, zV false n] w fun e w' => e = .returned (.tuple #[zV false (m / n), zV false (m % n), .bool true]) ∧ Below w.heap.size w w' := by
  have hL0 : GL w w [] := GL.start w
  have HD := Lib.hid (fun w => div_pos m n (by omega) (by omega) w)
  have hlq : (digs (m / n)).length ≤ 1000000000 := Nat.le_trans (digs_mono (Nat.div_le_self m n)) hm
  have hrn : m % n < n := Nat.mod_lt _ (by omega)
  generalize m / n = q at *
  generalize m % n = r at *
  have HF := Lib.hid (fun w => from_any false q w)
  simp only [Bool.false_and] at HF
  have HG := Lib.hid (fun w => from_pos r w)
  clear hm hn h0 hlq hrn
  replace hL0 := ((((hL0.new rfl [.int .u64 ((lo m : Nat) : Int), .string (hs m), .bool false] 27).new (K := w.heap.size + 1) (szA _ _) [.int .u64 ((lo n : Nat) : Int), .string (hs n), .bool false] 27).new (K := w.heap.size + 1 + 1) (by simp only [World.size_alloc]) [.int .u64 0, .string ⟨#[]⟩, .bool false] 27).new (K := w.heap.size + 1 + 1 + 1) (by simp only [World.size_alloc]) [.int .u64 0, .string ⟨#[]⟩, .bool false] 27)
  generalize hweq : ((((w.alloc (.cells #[.int .u64 ((lo m : Nat) : Int), .string (hs m), .bool false] 27)).alloc (.cells #[.int .u64 ((lo n : Nat) : Int), .string (hs n), .bool false] 27)).alloc (.cells #[.int .u64 0, .string ⟨#[]⟩, .bool false] 27)).alloc (.cells #[.int .u64 0, .string ⟨#[]⟩, .bool false] 27)) = x1 at hL0
  go_enter Tryd.func23, Tryd.ntmps23
  have hA := hL0.fc
  simp only [fcG, cellsF, neK, and_true, ne_eq, Nat.zero_add, Nat.reduceAdd] at hA
  go_wp2_with fail
  clear hA
  with_reducible refine Calls.mono (HD.out _) ?_
  rintro e x2 ⟨rfl, hb⟩
  replace hL0 := hL0.call hb
  clear hb hweq
  replace hL0 := ((hL0.new rfl [.int .u64 ((lo q : Nat) : Int), .string (hs q)] 25).new (K := x2.heap.size + 1) (szA _ _) [.int .u64 ((lo r : Nat) : Int), .string (hs r)] 25)
  generalize hweq : ((x2.alloc (.cells #[.int .u64 ((lo q : Nat) : Int), .string (hs q)] 25)).alloc (.cells #[.int .u64 ((lo r : Nat) : Int), .string (hs r)] 25)) = x3 at hL0
  have hA := hL0.fc
  simp only [fcG, cellsF, neK, and_true, ne_eq, Nat.zero_add, Nat.reduceAdd] at hA
  go_upto_region 7 with fail
  clear hA
  clear hweq
  obtain ⟨α, iα, F, hF1, hF2⟩ := cls x3
  have hq := GL.fcC hF1 hL0
  simp only [fcC, cellsC, and_true, Nat.zero_add, Nat.reduceAdd] at hq
  refine region_qs 9 (C := fun w' => ∃ x, w' = F x) (by kernel_rfl) (by kernel_rfl) (cls_drew hF2) ?_
  simp only [List.take_succ_cons, List.take_zero, List.drop_succ_cons, List.drop_zero, List.take_nil, List.drop_nil]
  repeat (go_big_quiet_step (first | fail | (go_at_call 22; with_reducible exact cls_call hF1 hF2 HF.out _) | (go_at_call 22; with_reducible exact cls_call hF1 hF2 HG.out _)))
  refine wpQuiet_nil ?_
  rintro wq ⟨xq, rfl⟩
  replace hL0 := hL0.call (hF1 xq)
  clear hq hF2
  generalize F xq = x4 at hL0 ⊢
  clear hF1 xq iα F α
  have hA := hL0.fc
  simp only [fcG, cellsF, neK, and_true, ne_eq, Nat.zero_add, Nat.reduceAdd] at hA
  have hP := hL0.put 3 (w.heap.size + 1 + 1) _ rfl [.int .u64 ((lo q : Nat) : Int), .string (hs q), .bool false] rfl
  simp only [setAll, List.set_cons_zero, List.set_cons_succ] at hP
  generalize hput1 : (((x4.setCell ⟨w.heap.size + 1 + 1, 0, none⟩ (.int .u64 ((lo q : Nat) : Int))).setCell ⟨w.heap.size + 1 + 1, 1, none⟩ (.string (hs q))).setCell ⟨w.heap.size + 1 + 1, 2, none⟩ (.bool false)) = x5 at hP
  have hB1 := hP.fc
  simp only [fcG, cellsF, neK, and_true, ne_eq, Nat.zero_add, Nat.reduceAdd] at hB1
  replace hL0 := hP
  have hP := hL0.put 2 (w.heap.size + 1 + 1 + 1) _ rfl [.int .u64 ((lo r : Nat) : Int), .string (hs r), .bool false] rfl
  simp only [setAll, List.set_cons_zero, List.set_cons_succ] at hP
  generalize hput2 : (((x5.setCell ⟨w.heap.size + 1 + 1 + 1, 0, none⟩ (.int .u64 ((lo r : Nat) : Int))).setCell ⟨w.heap.size + 1 + 1 + 1, 1, none⟩ (.string (hs r))).setCell ⟨w.heap.size + 1 + 1 + 1, 2, none⟩ (.bool false)) = x6 at hP
  have hB2 := hP.fc
  simp only [fcG, cellsF, neK, and_true, ne_eq, Nat.zero_add, Nat.reduceAdd] at hB2
  replace hL0 := hP
  go_wp2_with fail
  exact bodyPost_ret (v := .tuple #[zV false q, zV false r, .bool true]) (by simp [results, Tryd.results23, go_sem, hB2]) rfl ⟨rfl, hL0.bl⟩

end Go.Proofs.YthehcjfmokabfaaDoor
