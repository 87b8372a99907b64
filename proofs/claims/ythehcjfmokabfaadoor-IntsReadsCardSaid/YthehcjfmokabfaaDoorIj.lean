/-
  Layer 2, walks J: Parse.
-/
import Derived.Test.YthehcjfmokabfaaDoorIg
import Derived.Test.YthehcjfmokabfaaDoorWzb
set_option linter.unusedVariables false
set_option linter.unusedSimpArgs false
namespace Go.Proofs.YthehcjfmokabfaaDoor
open Go.RowKit
attribute [local irreducible] lo hs sm s64 c64 d64 b64 mh ml pd pc qd qc val hiB str cmpI srD lz nb isq decB zl zh zs dval

theorem cut_yes (r : List UInt8) (w : World) : Calls Tryd.prog 30 #[.string (st (45 :: r)), .string ⟨#[45]⟩] w fun e w' => e = .returned (.tuple #[.string (st r), .bool true]) ∧ w' = w := by
  have h := Tryd.strings_CutPrefix (st (45 :: r)) ⟨#[45]⟩ w
  have e1 : Lib.hasPrefix (st (45 :: r)).data.toList (⟨#[45]⟩ : ByteArray).data.toList = true := by simp [Lib.hasPrefix, st]
  have e2 : Lib.trimPrefix (st (45 :: r)).data.toList (⟨#[45]⟩ : ByteArray).data.toList = r := by simp [Lib.trimPrefix, Lib.hasPrefix, st]
  rw [e1, e2] at h
  exact h
theorem cut_no (l : List UInt8) (h : l.head? ≠ some 45) (w : World) : Calls Tryd.prog 30 #[.string (st l), .string ⟨#[45]⟩] w fun e w' => e = .returned (.tuple #[.string (st l), .bool false]) ∧ w' = w := by
  have h1 := Tryd.strings_CutPrefix (st l) ⟨#[45]⟩ w
  have e1 : Lib.hasPrefix (st l).data.toList (⟨#[45]⟩ : ByteArray).data.toList = false := by
    cases l with
    | nil => simp [Lib.hasPrefix, st]
    | cons c r =>
      have hc : c ≠ 45 := fun e => h (by simp [e])
      show (45 == c && List.isPrefixOf [] r) = false
      rw [show (45 == c) = false from beq_eq_false_iff_ne.2 (fun e => hc e.symm)]; rfl
  have e2 : Lib.trimPrefix (st l).data.toList (⟨#[45]⟩ : ByteArray).data.toList = l := by
    unfold Lib.trimPrefix; rw [e1]; simp [st]
  rw [e1, e2] at h1
  exact h1

set_option maxHeartbeats 4000000 in
set_option maxRecDepth 100000 in
theorem iparse_n_long (r : List UInt8) (h : 4096 < r.length) (hl : r.length ≤ 1000000) (w : World) :
    Calls Tryd.prog 9 #[.string (st (45 :: r))] w fun e w' => e = .returned (.tuple #[intV 0, .int .i64 3]) ∧ Below w.heap.size w w' := by
  have hL0 : GL w w [] := GL.start w
  have HC := Lib.hid (fun w => cut_yes r w)
  have HP := Lib.hid (fun w => parse_long r h hl w)
  clear h hl
  generalize st (45 :: r) = s0 at *
  generalize st r = s at *
  replace hL0 := (hL0.new rfl [.int .u64 0, .string ⟨#[]⟩, .bool false] 27)
  generalize hweq : (w.alloc (.cells #[.int .u64 0, .string ⟨#[]⟩, .bool false] 27)) = x1 at hL0
  go_enter Tryd.func9, Tryd.ntmps9
  have hA := hL0.fc
  simp only [fcG, cellsF, neK, and_true, ne_eq, Nat.zero_add, Nat.reduceAdd] at hA
  go_wp2_with fail
  with_reducible refine Calls.mono (HC.out _) ?_
  rintro e x2 ⟨rfl, rfl⟩
  clear hweq
  go_wp2_with fail
  clear hA
  with_reducible refine Calls.mono (HP.out _) ?_
  rintro e x3 ⟨rfl, hb⟩
  replace hL0 := hL0.call hb
  clear hb
  replace hL0 := (hL0.new rfl [.int .u64 ((lo 0 : Nat) : Int), .string (hs 0)] 25)
  generalize hweq : (x3.alloc (.cells #[.int .u64 ((lo 0 : Nat) : Int), .string (hs 0)] 25)) = x4 at hL0
  have hA := hL0.fc
  simp only [fcG, cellsF, neK, and_true, ne_eq, Nat.zero_add, Nat.reduceAdd] at hA
  have hP := hL0.put 1 (w.heap.size) _ rfl [.int .u64 0, .string ⟨#[]⟩, .bool false] rfl
  simp only [setAll, List.set_cons_zero, List.set_cons_succ] at hP
  generalize hput1 : (((x4.setCell ⟨w.heap.size, 0, none⟩ (.int .u64 0)).setCell ⟨w.heap.size, 1, none⟩ (.string ⟨#[]⟩)).setCell ⟨w.heap.size, 2, none⟩ (.bool false)) = x5 at hP
  have hB1 := hP.fc
  simp only [fcG, cellsF, neK, and_true, ne_eq, Nat.zero_add, Nat.reduceAdd] at hB1
  replace hL0 := hP
  go_wp2_with fail
  exact bodyPost_ret (v := .tuple #[intV 0, .int .i64 3]) (by rw [intV_zero, zV_zero]; simp [results, Tryd.results9, go_sem, hB1]) rfl ⟨rfl, hL0.bl⟩

set_option maxHeartbeats 4000000 in
set_option maxRecDepth 100000 in
theorem iparse_n_form (r : List UInt8) (h : r.length ≤ 4096) (hd : ¬ isDec r) (w : World) :
    Calls Tryd.prog 9 #[.string (st (45 :: r))] w fun e w' => e = .returned (.tuple #[intV 0, .int .i64 4]) ∧ Below w.heap.size w w' := by
  have hL0 : GL w w [] := GL.start w
  have HC := Lib.hid (fun w => cut_yes r w)
  have HP := Lib.hid (fun w => parse_form r h hd w)
  clear h hd
  generalize st (45 :: r) = s0 at *
  generalize st r = s at *
  replace hL0 := (hL0.new rfl [.int .u64 0, .string ⟨#[]⟩, .bool false] 27)
  generalize hweq : (w.alloc (.cells #[.int .u64 0, .string ⟨#[]⟩, .bool false] 27)) = x1 at hL0
  go_enter Tryd.func9, Tryd.ntmps9
  have hA := hL0.fc
  simp only [fcG, cellsF, neK, and_true, ne_eq, Nat.zero_add, Nat.reduceAdd] at hA
  go_wp2_with fail
  with_reducible refine Calls.mono (HC.out _) ?_
  rintro e x2 ⟨rfl, rfl⟩
  clear hweq
  go_wp2_with fail
  clear hA
  with_reducible refine Calls.mono (HP.out _) ?_
  rintro e x3 ⟨rfl, hb⟩
  replace hL0 := hL0.call hb
  clear hb
  replace hL0 := (hL0.new rfl [.int .u64 ((lo 0 : Nat) : Int), .string (hs 0)] 25)
  generalize hweq : (x3.alloc (.cells #[.int .u64 ((lo 0 : Nat) : Int), .string (hs 0)] 25)) = x4 at hL0
  have hA := hL0.fc
  simp only [fcG, cellsF, neK, and_true, ne_eq, Nat.zero_add, Nat.reduceAdd] at hA
  have hP := hL0.put 1 (w.heap.size) _ rfl [.int .u64 0, .string ⟨#[]⟩, .bool false] rfl
  simp only [setAll, List.set_cons_zero, List.set_cons_succ] at hP
  generalize hput1 : (((x4.setCell ⟨w.heap.size, 0, none⟩ (.int .u64 0)).setCell ⟨w.heap.size, 1, none⟩ (.string ⟨#[]⟩)).setCell ⟨w.heap.size, 2, none⟩ (.bool false)) = x5 at hP
  have hB1 := hP.fc
  simp only [fcG, cellsF, neK, and_true, ne_eq, Nat.zero_add, Nat.reduceAdd] at hB1
  replace hL0 := hP
  go_wp2_with fail
  exact bodyPost_ret (v := .tuple #[intV 0, .int .i64 4]) (by rw [intV_zero, zV_zero]; simp [results, Tryd.results9, go_sem, hB1]) rfl ⟨rfl, hL0.bl⟩

set_option maxHeartbeats 4000000 in
set_option maxRecDepth 100000 in
theorem iparse_n_zero (r : List UInt8) (h : r.length ≤ 4096) (hd : isDec r) (hz : dval r = 0) (w : World) :
    Calls Tryd.prog 9 #[.string (st (45 :: r))] w fun e w' => e = .returned (.tuple #[intV 0, .int .i64 4]) ∧ Below w.heap.size w w' := by
  have hL0 : GL w w [] := GL.start w
  have HC := Lib.hid (fun w => cut_yes r w)
  have HP := Lib.hid (fun w => parse_ok r h hd w)
  rw [hz] at HP
  have e0 : (((lo 0 : Nat) : Int) == 0) = true := by rw [lo_small Bs_pos]; rfl
  have e1 : ((hs 0).toList == []) = true := by rw [hs_small Bs_pos, ByteArray.toList_eq]; rfl
  clear h hd hz
  generalize st (45 :: r) = s0 at *
  generalize st r = s at *
  replace hL0 := (hL0.new rfl [.int .u64 0, .string ⟨#[]⟩, .bool false] 27)
  generalize hweq : (w.alloc (.cells #[.int .u64 0, .string ⟨#[]⟩, .bool false] 27)) = x1 at hL0
  go_enter Tryd.func9, Tryd.ntmps9
  have hA := hL0.fc
  simp only [fcG, cellsF, neK, and_true, ne_eq, Nat.zero_add, Nat.reduceAdd] at hA
  go_wp2_with fail
  with_reducible refine Calls.mono (HC.out _) ?_
  rintro e x2 ⟨rfl, rfl⟩
  clear hweq
  go_wp2_with fail
  clear hA
  with_reducible refine Calls.mono (HP.out _) ?_
  rintro e x3 ⟨rfl, hb⟩
  replace hL0 := hL0.call hb
  clear hb
  replace hL0 := (hL0.new rfl [.int .u64 ((lo 0 : Nat) : Int), .string (hs 0)] 25)
  generalize hweq : (x3.alloc (.cells #[.int .u64 ((lo 0 : Nat) : Int), .string (hs 0)] 25)) = x4 at hL0
  have hA := hL0.fc
  simp only [fcG, cellsF, neK, and_true, ne_eq, Nat.zero_add, Nat.reduceAdd] at hA
  have hP := hL0.put 1 (w.heap.size) _ rfl [.int .u64 0, .string ⟨#[]⟩, .bool false] rfl
  simp only [setAll, List.set_cons_zero, List.set_cons_succ] at hP
  generalize hput1 : (((x4.setCell ⟨w.heap.size, 0, none⟩ (.int .u64 0)).setCell ⟨w.heap.size, 1, none⟩ (.string ⟨#[]⟩)).setCell ⟨w.heap.size, 2, none⟩ (.bool false)) = x5 at hP
  have hB1 := hP.fc
  simp only [fcG, cellsF, neK, and_true, ne_eq, Nat.zero_add, Nat.reduceAdd] at hB1
  replace hL0 := hP
  go_wp2_with fail
  exact bodyPost_ret (v := .tuple #[intV 0, .int .i64 4]) (by rw [intV_zero, zV_zero]; simp [results, Tryd.results9, go_sem, hB1]) rfl ⟨rfl, hL0.bl⟩

set_option maxHeartbeats 4000000 in
set_option maxRecDepth 100000 in
theorem iparse_n_ok (r : List UInt8) (h : r.length ≤ 4096) (hd : isDec r) (hz : dval r ≠ 0) (w : World) :
    Calls Tryd.prog 9 #[.string (st (45 :: r))] w fun e w' => e = .returned (.tuple #[intV (-((dval r : Nat) : Int)), .int .i64 0]) ∧ Below w.heap.size w w' := by
  have hL0 : GL w w [] := GL.start w
  have HC := Lib.hid (fun w => cut_yes r w)
  have HP := Lib.hid (fun w => parse_ok r h hd w)
  have HF := Lib.hid (fun w => fromI true (dval r) (-((dval r : Nat) : Int)) rfl w)
  have hne := ne0 hz
  generalize hzz : -((dval r : Nat) : Int) = z at *
  replace hzz := Lib.hid hzz
  generalize dval r = n at *
  clear h hd hz
  rcases hne with e0 | ⟨e0, e1⟩
  all_goals (
    generalize st (45 :: r) = s0 at *
    generalize st r = s at *
    replace hL0 := (hL0.new rfl [.int .u64 0, .string ⟨#[]⟩, .bool false] 27)
    generalize hweq : (w.alloc (.cells #[.int .u64 0, .string ⟨#[]⟩, .bool false] 27)) = x1 at hL0
    go_enter Tryd.func9, Tryd.ntmps9
    have hA := hL0.fc
    simp only [fcG, cellsF, neK, and_true, ne_eq, Nat.zero_add, Nat.reduceAdd] at hA
    go_wp2_with fail
    with_reducible refine Calls.mono (HC.out _) ?_
    rintro e x2 ⟨rfl, rfl⟩
    clear hweq
    go_wp2_with fail
    clear hA
    with_reducible refine Calls.mono (HP.out _) ?_
    rintro e x3 ⟨rfl, hb⟩
    replace hL0 := hL0.call hb
    clear hb
    replace hL0 := (hL0.new rfl [.int .u64 ((lo n : Nat) : Int), .string (hs n)] 25)
    generalize hweq : (x3.alloc (.cells #[.int .u64 ((lo n : Nat) : Int), .string (hs n)] 25)) = x4 at hL0
    have hA := hL0.fc
    simp only [fcG, cellsF, neK, and_true, ne_eq, Nat.zero_add, Nat.reduceAdd] at hA
    go_wp2_with fail
    clear hA
    with_reducible refine Calls.mono (HF.out _) ?_
    rintro e x5 ⟨rfl, hb⟩
    replace hL0 := hL0.call hb
    clear hb hweq
    have hA := hL0.fc
    simp only [fcG, cellsF, neK, and_true, ne_eq, Nat.zero_add, Nat.reduceAdd] at hA
    have hP := hL0.put 1 (w.heap.size) _ rfl [.int .u64 ((zl z : Nat) : Int), .string (zh z), .bool (zs z)] rfl
    simp only [setAll, List.set_cons_zero, List.set_cons_succ] at hP
    generalize hput1 : (((x5.setCell ⟨w.heap.size, 0, none⟩ (.int .u64 ((zl z : Nat) : Int))).setCell ⟨w.heap.size, 1, none⟩ (.string (zh z))).setCell ⟨w.heap.size, 2, none⟩ (.bool (zs z))) = x6 at hP
    have hB1 := hP.fc
    simp only [fcG, cellsF, neK, and_true, ne_eq, Nat.zero_add, Nat.reduceAdd] at hB1
    replace hL0 := hP
    go_wp2_with fail
    exact bodyPost_ret (v := .tuple #[intV z, .int .i64 0]) (by simp [results, Tryd.results9, go_sem, hB1]) rfl ⟨rfl, hL0.bl⟩)

set_option maxHeartbeats 4000000 in
set_option maxRecDepth 100000 in
theorem iparse_p_long (l : List UInt8) (h : 4096 < l.length) (hl : l.length ≤ 1000000) (hh : l.head? ≠ some 45) (w : World) :
    Calls Tryd.prog 9 #[.string (st l)] w fun e w' => e = .returned (.tuple #[intV 0, .int .i64 3]) ∧ Below w.heap.size w w' := by
  have hL0 : GL w w [] := GL.start w
  have HC := Lib.hid (fun w => cut_no l hh w)
  have HP := Lib.hid (fun w => parse_long l h hl w)
  clear h hl hh
  generalize st l = s at *
  replace hL0 := (hL0.new rfl [.int .u64 0, .string ⟨#[]⟩, .bool false] 27)
  generalize hweq : (w.alloc (.cells #[.int .u64 0, .string ⟨#[]⟩, .bool false] 27)) = x1 at hL0
  go_enter Tryd.func9, Tryd.ntmps9
  have hA := hL0.fc
  simp only [fcG, cellsF, neK, and_true, ne_eq, Nat.zero_add, Nat.reduceAdd] at hA
  go_wp2_with fail
  with_reducible refine Calls.mono (HC.out _) ?_
  rintro e x2 ⟨rfl, rfl⟩
  clear hweq
  go_wp2_with fail
  clear hA
  with_reducible refine Calls.mono (HP.out _) ?_
  rintro e x3 ⟨rfl, hb⟩
  replace hL0 := hL0.call hb
  clear hb
  replace hL0 := (hL0.new rfl [.int .u64 ((lo 0 : Nat) : Int), .string (hs 0)] 25)
  generalize hweq : (x3.alloc (.cells #[.int .u64 ((lo 0 : Nat) : Int), .string (hs 0)] 25)) = x4 at hL0
  have hA := hL0.fc
  simp only [fcG, cellsF, neK, and_true, ne_eq, Nat.zero_add, Nat.reduceAdd] at hA
  have hP := hL0.put 1 (w.heap.size) _ rfl [.int .u64 0, .string ⟨#[]⟩, .bool false] rfl
  simp only [setAll, List.set_cons_zero, List.set_cons_succ] at hP
  generalize hput1 : (((x4.setCell ⟨w.heap.size, 0, none⟩ (.int .u64 0)).setCell ⟨w.heap.size, 1, none⟩ (.string ⟨#[]⟩)).setCell ⟨w.heap.size, 2, none⟩ (.bool false)) = x5 at hP
  have hB1 := hP.fc
  simp only [fcG, cellsF, neK, and_true, ne_eq, Nat.zero_add, Nat.reduceAdd] at hB1
  replace hL0 := hP
  go_wp2_with fail
  exact bodyPost_ret (v := .tuple #[intV 0, .int .i64 3]) (by rw [intV_zero, zV_zero]; simp [results, Tryd.results9, go_sem, hB1]) rfl ⟨rfl, hL0.bl⟩

set_option maxHeartbeats 4000000 in
set_option maxRecDepth 100000 in
theorem iparse_p_form (l : List UInt8) (h : l.length ≤ 4096) (hd : ¬ isDec l) (hh : l.head? ≠ some 45) (w : World) :
    Calls Tryd.prog 9 #[.string (st l)] w fun e w' => e = .returned (.tuple #[intV 0, .int .i64 4]) ∧ Below w.heap.size w w' := by
  have hL0 : GL w w [] := GL.start w
  have HC := Lib.hid (fun w => cut_no l hh w)
  have HP := Lib.hid (fun w => parse_form l h hd w)
  clear h hd hh
  generalize st l = s at *
  replace hL0 := (hL0.new rfl [.int .u64 0, .string ⟨#[]⟩, .bool false] 27)
  generalize hweq : (w.alloc (.cells #[.int .u64 0, .string ⟨#[]⟩, .bool false] 27)) = x1 at hL0
  go_enter Tryd.func9, Tryd.ntmps9
  have hA := hL0.fc
  simp only [fcG, cellsF, neK, and_true, ne_eq, Nat.zero_add, Nat.reduceAdd] at hA
  go_wp2_with fail
  with_reducible refine Calls.mono (HC.out _) ?_
  rintro e x2 ⟨rfl, rfl⟩
  clear hweq
  go_wp2_with fail
  clear hA
  with_reducible refine Calls.mono (HP.out _) ?_
  rintro e x3 ⟨rfl, hb⟩
  replace hL0 := hL0.call hb
  clear hb
  replace hL0 := (hL0.new rfl [.int .u64 ((lo 0 : Nat) : Int), .string (hs 0)] 25)
  generalize hweq : (x3.alloc (.cells #[.int .u64 ((lo 0 : Nat) : Int), .string (hs 0)] 25)) = x4 at hL0
  have hA := hL0.fc
  simp only [fcG, cellsF, neK, and_true, ne_eq, Nat.zero_add, Nat.reduceAdd] at hA
  have hP := hL0.put 1 (w.heap.size) _ rfl [.int .u64 0, .string ⟨#[]⟩, .bool false] rfl
  simp only [setAll, List.set_cons_zero, List.set_cons_succ] at hP
  generalize hput1 : (((x4.setCell ⟨w.heap.size, 0, none⟩ (.int .u64 0)).setCell ⟨w.heap.size, 1, none⟩ (.string ⟨#[]⟩)).setCell ⟨w.heap.size, 2, none⟩ (.bool false)) = x5 at hP
  have hB1 := hP.fc
  simp only [fcG, cellsF, neK, and_true, ne_eq, Nat.zero_add, Nat.reduceAdd] at hB1
  replace hL0 := hP
  go_wp2_with fail
  exact bodyPost_ret (v := .tuple #[intV 0, .int .i64 4]) (by rw [intV_zero, zV_zero]; simp [results, Tryd.results9, go_sem, hB1]) rfl ⟨rfl, hL0.bl⟩

set_option maxHeartbeats 4000000 in
set_option maxRecDepth 100000 in
theorem iparse_p_ok (l : List UInt8) (h : l.length ≤ 4096) (hd : isDec l) (hh : l.head? ≠ some 45) (w : World) :
    Calls Tryd.prog 9 #[.string (st l)] w fun e w' => e = .returned (.tuple #[intV (((dval l : Nat) : Int)), .int .i64 0]) ∧ Below w.heap.size w w' := by
  have hL0 : GL w w [] := GL.start w
  have HC := Lib.hid (fun w => cut_no l hh w)
  have HP := Lib.hid (fun w => parse_ok l h hd w)
  have HF := Lib.hid (fun w => fromI false (dval l) ((dval l : Nat) : Int) rfl w)
  generalize hzz : ((dval l : Nat) : Int) = z at *
  replace hzz := Lib.hid hzz
  generalize dval l = n at *
  clear h hd hh
  generalize st l = s at *
  replace hL0 := (hL0.new rfl [.int .u64 0, .string ⟨#[]⟩, .bool false] 27)
  generalize hweq : (w.alloc (.cells #[.int .u64 0, .string ⟨#[]⟩, .bool false] 27)) = x1 at hL0
  go_enter Tryd.func9, Tryd.ntmps9
  have hA := hL0.fc
  simp only [fcG, cellsF, neK, and_true, ne_eq, Nat.zero_add, Nat.reduceAdd] at hA
  go_wp2_with fail
  with_reducible refine Calls.mono (HC.out _) ?_
  rintro e x2 ⟨rfl, rfl⟩
  clear hweq
  go_wp2_with fail
  clear hA
  with_reducible refine Calls.mono (HP.out _) ?_
  rintro e x3 ⟨rfl, hb⟩
  replace hL0 := hL0.call hb
  clear hb
  replace hL0 := (hL0.new rfl [.int .u64 ((lo n : Nat) : Int), .string (hs n)] 25)
  generalize hweq : (x3.alloc (.cells #[.int .u64 ((lo n : Nat) : Int), .string (hs n)] 25)) = x4 at hL0
  have hA := hL0.fc
  simp only [fcG, cellsF, neK, and_true, ne_eq, Nat.zero_add, Nat.reduceAdd] at hA
  go_wp2_with fail
  clear hA
  with_reducible refine Calls.mono (HF.out _) ?_
  rintro e x5 ⟨rfl, hb⟩
  replace hL0 := hL0.call hb
  clear hb hweq
  have hA := hL0.fc
  simp only [fcG, cellsF, neK, and_true, ne_eq, Nat.zero_add, Nat.reduceAdd] at hA
  have hP := hL0.put 1 (w.heap.size) _ rfl [.int .u64 ((zl z : Nat) : Int), .string (zh z), .bool (zs z)] rfl
  simp only [setAll, List.set_cons_zero, List.set_cons_succ] at hP
  generalize hput1 : (((x5.setCell ⟨w.heap.size, 0, none⟩ (.int .u64 ((zl z : Nat) : Int))).setCell ⟨w.heap.size, 1, none⟩ (.string (zh z))).setCell ⟨w.heap.size, 2, none⟩ (.bool (zs z))) = x6 at hP
  have hB1 := hP.fc
  simp only [fcG, cellsF, neK, and_true, ne_eq, Nat.zero_add, Nat.reduceAdd] at hB1
  replace hL0 := hP
  go_wp2_with fail
  exact bodyPost_ret (v := .tuple #[intV z, .int .i64 0]) (by simp [results, Tryd.results9, go_sem, hB1]) rfl ⟨rfl, hL0.bl⟩

end Go.Proofs.YthehcjfmokabfaaDoor
