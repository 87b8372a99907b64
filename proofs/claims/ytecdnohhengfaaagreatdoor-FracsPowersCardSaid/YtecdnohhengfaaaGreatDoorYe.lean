/-
  Layer 3, walks: powers, texts.
-/
import Derived.Test.YtecdnohhengfaaaGreatDoorYd
import Derived.Still
import Derived.Test.YtecdnohhengfaaaGreatDoorYc
import Derived.Test.YtecdnohhengfaaaGreatDoorCards
import Derived.Test.YtecdnohhengfaaaGreatDoorTie
import Derived.ProofKit
import Derived.OpenShut
import Derived.ChangeSlices
import Derived.Carry
import Derived.Lay
import Derived.MakeChecks
import Derived.LaidSub
import Derived.Lib.LaidTab
import Derived.Deep.DeepHandedRow
import Derived.Lib.SmallJoins
set_option linter.unusedVariables false
set_option linter.unusedSimpArgs false
namespace Go.Proofs.YtecdnohhengfaaaGreatDoor
open Go.RowKit
attribute [local irreducible] lo hs sm s64 c64 d64 b64 mh ml pd pc qd qc val hiB str cmpI srD lz nb isq decB zl zh zs

set_option maxHeartbeats 4000000 in
set_option maxRecDepth 100000 in
theorem ffrom_zero (n : Int) (HO : ∀ w, Calls Tryz.prog 88 #[.int .u64 0] w fun xe w' => xe = .returned (.agg #[.int .u64 ((lo 0 : Nat) : Int), .string (hs 0)]) ∧ Below w.heap.size w w') (w : World) :
    Calls Tryz.prog 86 #[.agg #[.int .u64 ((zl n : Nat) : Int), .string (zh n), .bool (zs n)], .agg #[.int .u64 ((lo 0 : Nat) : Int), .string (hs 0)]] w fun xe w' => xe = .returned (.tuple #[.agg #[.int .u64 0, .string ⟨#[]⟩, .bool false, .int .u64 0, .string ⟨#[]⟩], .int .i64 5]) ∧ Below w.heap.size w w' := by
  have hL0 : GL w w [] := GL.start w
  replace HO := Lib.hid HO
  replace hL0 := (((hL0.new rfl [.int .u64 ((zl n : Nat) : Int), .string (zh n), .bool (zs n)] 39).new (K := w.heap.size + 1) (szA _ _) [.int .u64 ((lo 0 : Nat) : Int), .string (hs 0)] 32).new (K := w.heap.size + 1 + 1) (by simp only [World.size_alloc]) [.int .u64 0, .string ⟨#[]⟩, .bool false, .int .u64 0, .string ⟨#[]⟩] 79)
  generalize hweq : (((w.alloc (.cells #[.int .u64 ((zl n : Nat) : Int), .string (zh n), .bool (zs n)] 39)).alloc (.cells #[.int .u64 ((lo 0 : Nat) : Int), .string (hs 0)] 32)).alloc (.cells #[.int .u64 0, .string ⟨#[]⟩, .bool false, .int .u64 0, .string ⟨#[]⟩] 79)) = x1 at hL0
  go_enter Tryz.func86, Tryz.ntmps86
  go_upto_region 1 with fail
  clear hweq
  obtain ⟨α, iα, F, hF1, hF2⟩ := cls x1
  have hq0 := cls_box hF1 hL0 _ _ (List.mem_cons_of_mem _ List.mem_cons_self)
  simp only [cellsC, and_true, Nat.zero_add, Nat.reduceAdd] at hq0
  refine region_qs 3 (C := fun w' => ∃ x, w' = F x) (by kernel_rfl) (by kernel_rfl) (cls_drew hF2) ?_
  simp only [List.take_succ_cons, List.take_zero, List.drop_succ_cons, List.drop_zero, List.take_nil, List.drop_nil]
  repeat (go_big_quiet_step (first | fail | (go_at_call 88; with_reducible exact cls_call hF1 hF2 HO.out _)))
  refine wpQuiet_nil ?_
  rintro wq ⟨xq, rfl⟩
  replace hL0 := hL0.call (hF1 xq)
  clear  hq0 hF2
  generalize F xq = x2 at hL0 ⊢
  clear hF1 xq iα F α
  have hA := hL0.fc
  simp only [fcG, cellsF, neK, and_true, ne_eq, Nat.zero_add, Nat.reduceAdd] at hA
  have hP := hL0.put 0 (w.heap.size + 1 + 1) _ rfl [.int .u64 0, .string ⟨#[]⟩, .bool false, .int .u64 0, .string ⟨#[]⟩] rfl
  simp only [setAll, List.set_cons_zero, List.set_cons_succ] at hP
  generalize hput1 : (((((x2.setCell ⟨w.heap.size + 1 + 1, 0, none⟩ (.int .u64 0)).setCell ⟨w.heap.size + 1 + 1, 1, none⟩ (.string ⟨#[]⟩)).setCell ⟨w.heap.size + 1 + 1, 2, none⟩ (.bool false)).setCell ⟨w.heap.size + 1 + 1, 3, none⟩ (.int .u64 0)).setCell ⟨w.heap.size + 1 + 1, 4, none⟩ (.string ⟨#[]⟩)) = x3 at hP
  have hB1 := hP.fc
  simp only [fcG, cellsF, neK, and_true, ne_eq, Nat.zero_add, Nat.reduceAdd] at hB1
  replace hL0 := hP
  go_wp2_with fail
  exact bodyPost_ret (v := .tuple #[.agg #[.int .u64 0, .string ⟨#[]⟩, .bool false, .int .u64 0, .string ⟨#[]⟩], .int .i64 5]) (by simp [results, Tryz.results86, go_sem, hB1]) rfl ⟨rfl, hL0.bl⟩

set_option maxHeartbeats 4000000 in
set_option maxRecDepth 100000 in
theorem ffrom_w (n u z : Int) (d v f : Nat) (HO : ∀ w, Calls Tryz.prog 88 #[.int .u64 0] w fun xe w' => xe = .returned (.agg #[.int .u64 ((lo 0 : Nat) : Int), .string (hs 0)]) ∧ Below w.heap.size w w') (HC : ∀ w, Calls Tryz.prog 148 #[.agg #[.int .u64 ((zl n : Nat) : Int), .string (zh n), .bool (zs n)], .agg #[.int .u64 ((lo d : Nat) : Int), .string (hs d)]] w fun xe w' => xe = .returned (.tuple #[.agg #[.int .u64 ((zl u : Nat) : Int), .string (zh u), .bool (zs u)], .agg #[.int .u64 ((lo v : Nat) : Int), .string (hs v)]]) ∧ Below w.heap.size w w') (HL : ∀ w, Calls Tryz.prog 149 #[.agg #[.int .u64 ((zl u : Nat) : Int), .string (zh u), .bool (zs u)], .agg #[.int .u64 ((lo v : Nat) : Int), .string (hs v)]] w fun xe w' => xe = .returned (.agg #[.int .u64 ((zl z : Nat) : Int), .string (zh z), .bool (zs z), .int .u64 ((lo f : Nat) : Int), .string (hs f)]) ∧ Below w.heap.size w w') (hd : d ≠ 0) (w : World) :
    Calls Tryz.prog 86 #[.agg #[.int .u64 ((zl n : Nat) : Int), .string (zh n), .bool (zs n)], .agg #[.int .u64 ((lo d : Nat) : Int), .string (hs d)]] w fun xe w' => xe = .returned (.tuple #[.agg #[.int .u64 ((zl z : Nat) : Int), .string (zh z), .bool (zs z), .int .u64 ((lo f : Nat) : Int), .string (hs f)], .int .i64 0]) ∧ Below w.heap.size w w' := by
  have hL0 : GL w w [] := GL.start w
  replace HO := Lib.hid HO
  replace HC := Lib.hid HC
  replace HL := Lib.hid HL
  have hz := ne_nat hd
  clear hd
  rcases hz with e0 | ⟨e0, e1⟩
  all_goals (
    replace hL0 := (((hL0.new rfl [.int .u64 ((zl n : Nat) : Int), .string (zh n), .bool (zs n)] 39).new (K := w.heap.size + 1) (szA _ _) [.int .u64 ((lo d : Nat) : Int), .string (hs d)] 32).new (K := w.heap.size + 1 + 1) (by simp only [World.size_alloc]) [.int .u64 0, .string ⟨#[]⟩, .bool false, .int .u64 0, .string ⟨#[]⟩] 79)
    generalize hweq : (((w.alloc (.cells #[.int .u64 ((zl n : Nat) : Int), .string (zh n), .bool (zs n)] 39)).alloc (.cells #[.int .u64 ((lo d : Nat) : Int), .string (hs d)] 32)).alloc (.cells #[.int .u64 0, .string ⟨#[]⟩, .bool false, .int .u64 0, .string ⟨#[]⟩] 79)) = x1 at hL0
    go_enter Tryz.func86, Tryz.ntmps86
    go_upto_region 1 with fail
    clear hweq
    obtain ⟨α, iα, F, hF1, hF2⟩ := cls x1
    have hq0 := cls_box hF1 hL0 _ _ (List.mem_cons_of_mem _ List.mem_cons_self)
    simp only [cellsC, and_true, Nat.zero_add, Nat.reduceAdd] at hq0
    refine region_qs 3 (C := fun w' => ∃ x, w' = F x) (by kernel_rfl) (by kernel_rfl) (cls_drew hF2) ?_
    simp only [List.take_succ_cons, List.take_zero, List.drop_succ_cons, List.drop_zero, List.take_nil, List.drop_nil]
    repeat (go_big_quiet_step (first | fail | (go_at_call 88; with_reducible exact cls_call hF1 hF2 HO.out _)))
    refine wpQuiet_nil ?_
    rintro wq ⟨xq, rfl⟩
    replace hL0 := hL0.call (hF1 xq)
    clear  hq0 hF2
    generalize F xq = x2 at hL0 ⊢
    clear hF1 xq iα F α
    have hN0 := cells_of _ 0 [] rfl (hL0.get _ _ (List.mem_cons_of_mem _ List.mem_cons_self))
    simp only [cellsF, and_true, Nat.zero_add, Nat.reduceAdd] at hN0
    have hN1 := cells_of _ 0 [] rfl (hL0.get _ _ (List.mem_cons_of_mem _ (List.mem_cons_of_mem _ List.mem_cons_self)))
    simp only [cellsF, and_true, Nat.zero_add, Nat.reduceAdd] at hN1
    go_wp2_with fail
    clear hN0 hN1
    with_reducible refine Calls.mono (HC.out _) ?_
    rintro e x3 ⟨rfl, hb⟩
    replace hL0 := hL0.call hb
    clear hb
    go_wp2_with fail
    with_reducible refine Calls.mono (HL.out _) ?_
    rintro e x4 ⟨rfl, hb⟩
    replace hL0 := hL0.call hb
    clear hb
    have hA := hL0.fc
    simp only [fcG, cellsF, neK, and_true, ne_eq, Nat.zero_add, Nat.reduceAdd] at hA
    have hP := hL0.put 0 (w.heap.size + 1 + 1) _ rfl [.int .u64 ((zl z : Nat) : Int), .string (zh z), .bool (zs z), .int .u64 ((lo f : Nat) : Int), .string (hs f)] rfl
    simp only [setAll, List.set_cons_zero, List.set_cons_succ] at hP
    generalize hput1 : (((((x4.setCell ⟨w.heap.size + 1 + 1, 0, none⟩ (.int .u64 ((zl z : Nat) : Int))).setCell ⟨w.heap.size + 1 + 1, 1, none⟩ (.string (zh z))).setCell ⟨w.heap.size + 1 + 1, 2, none⟩ (.bool (zs z))).setCell ⟨w.heap.size + 1 + 1, 3, none⟩ (.int .u64 ((lo f : Nat) : Int))).setCell ⟨w.heap.size + 1 + 1, 4, none⟩ (.string (hs f))) = x5 at hP
    have hB1 := hP.fc
    simp only [fcG, cellsF, neK, and_true, ne_eq, Nat.zero_add, Nat.reduceAdd] at hB1
    replace hL0 := hP
    go_wp2_with fail
    exact bodyPost_ret (v := .tuple #[.agg #[.int .u64 ((zl z : Nat) : Int), .string (zh z), .bool (zs z), .int .u64 ((lo f : Nat) : Int), .string (hs f)], .int .i64 0]) (by simp [results, Tryz.results86, go_sem, hB1]) rfl ⟨rfl, hL0.bl⟩)

set_option maxHeartbeats 4000000 in
set_option maxRecDepth 100000 in
theorem fpower_pos (n s z u : Int) (e a d x y f : Nat) (k : Int) (HA : ∀ w, Calls Tryz.prog 43 #[.agg #[.int .u64 ((zl n : Nat) : Int), .string (zh n), .bool (zs n)]] w fun xe w' => xe = .returned (.agg #[.int .u64 ((lo a : Nat) : Int), .string (hs a)]) ∧ Below w.heap.size w w') (HP : ∀ w, Calls Tryz.prog 119 #[.agg #[.int .u64 ((lo a : Nat) : Int), .string (hs a)], .int .i64 k] w fun xe w' => xe = .returned (.tuple #[.agg #[.int .u64 ((lo x : Nat) : Int), .string (hs x)], .int .i64 0]) ∧ Below w.heap.size w w') (HD : ∀ w, Calls Tryz.prog 85 #[.agg #[.int .u64 ((zl n : Nat) : Int), .string (zh n), .bool (zs n), .int .u64 ((lo e : Nat) : Int), .string (hs e)]] w fun xe w' => xe = .returned (.agg #[.int .u64 ((lo d : Nat) : Int), .string (hs d)]) ∧ Below w.heap.size w w') (HQ : ∀ w, Calls Tryz.prog 119 #[.agg #[.int .u64 ((lo d : Nat) : Int), .string (hs d)], .int .i64 k] w fun xe w' => xe = .returned (.tuple #[.agg #[.int .u64 ((lo y : Nat) : Int), .string (hs y)], .int .i64 0]) ∧ Below w.heap.size w w') (HS : ∀ w, Calls Tryz.prog 75 #[.agg #[.int .u64 ((zl n : Nat) : Int), .string (zh n), .bool (zs n), .int .u64 ((lo e : Nat) : Int), .string (hs e)]] w fun xe w' => xe = .returned (.int .i64 s) ∧ Below w.heap.size w w') (HF : ∀ w, Calls Tryz.prog 91 #[.bool false, .agg #[.int .u64 ((lo x : Nat) : Int), .string (hs x)]] w fun xe w' => xe = .returned (.agg #[.int .u64 ((zl z : Nat) : Int), .string (zh z), .bool (zs z)]) ∧ Below w.heap.size w w') (HL : ∀ w, Calls Tryz.prog 149 #[.agg #[.int .u64 ((zl z : Nat) : Int), .string (zh z), .bool (zs z)], .agg #[.int .u64 ((lo y : Nat) : Int), .string (hs y)]] w fun xe w' => xe = .returned (.agg #[.int .u64 ((zl u : Nat) : Int), .string (zh u), .bool (zs u), .int .u64 ((lo f : Nat) : Int), .string (hs f)]) ∧ Below w.heap.size w w') (hsg : decide (s < 0) = false) (w : World) :
    Calls Tryz.prog 160 #[.agg #[.int .u64 ((zl n : Nat) : Int), .string (zh n), .bool (zs n), .int .u64 ((lo e : Nat) : Int), .string (hs e)], .int .i64 k] w fun xe w' => xe = .returned (.tuple #[.agg #[.int .u64 ((zl u : Nat) : Int), .string (zh u), .bool (zs u), .int .u64 ((lo f : Nat) : Int), .string (hs f)], .int .i64 0]) ∧ Below w.heap.size w w' := by
  have hL0 : GL w w [] := GL.start w
  replace HA := Lib.hid HA
  replace HP := Lib.hid HP
  replace HD := Lib.hid HD
  replace HQ := Lib.hid HQ
  replace HS := Lib.hid HS
  replace HF := Lib.hid HF
  replace HL := Lib.hid HL
  replace hL0 := ((hL0.new rfl [.int .u64 ((zl n : Nat) : Int), .string (zh n), .bool (zs n), .int .u64 ((lo e : Nat) : Int), .string (hs e)] 79).new (K := w.heap.size + 1) (szA _ _) [.int .u64 0, .string ⟨#[]⟩, .bool false, .int .u64 0, .string ⟨#[]⟩] 79)
  generalize hweq : ((w.alloc (.cells #[.int .u64 ((zl n : Nat) : Int), .string (zh n), .bool (zs n), .int .u64 ((lo e : Nat) : Int), .string (hs e)] 79)).alloc (.cells #[.int .u64 0, .string ⟨#[]⟩, .bool false, .int .u64 0, .string ⟨#[]⟩] 79)) = x1 at hL0
  go_enter Tryz.func160, Tryz.ntmps160
  have hN0 := cells_of _ 0 [] rfl (hL0.get _ _ (List.mem_cons_of_mem _ List.mem_cons_self))
  simp only [cellsF, and_true, Nat.zero_add, Nat.reduceAdd] at hN0
  go_wp2_with fail
  clear hN0
  with_reducible refine Calls.mono (HA.out _) ?_
  rintro e x2 ⟨rfl, hb⟩
  replace hL0 := hL0.call hb
  clear hb hweq
  go_wp2_with fail
  with_reducible refine Calls.mono (HP.out _) ?_
  rintro e x3 ⟨rfl, hb⟩
  replace hL0 := hL0.call hb
  clear hb
  replace hL0 := (hL0.new rfl [.int .u64 ((lo x : Nat) : Int), .string (hs x)] 32)
  generalize hweq : (x3.alloc (.cells #[.int .u64 ((lo x : Nat) : Int), .string (hs x)] 32)) = x4 at hL0
  have hN0 := cells_of _ 0 [] rfl (hL0.get _ _ (List.mem_cons_of_mem _ (List.mem_cons_of_mem _ List.mem_cons_self)))
  simp only [cellsF, and_true, Nat.zero_add, Nat.reduceAdd] at hN0
  go_wp2_with fail
  clear hN0
  with_reducible refine Calls.mono (HD.out _) ?_
  rintro e x5 ⟨rfl, hb⟩
  replace hL0 := hL0.call hb
  clear hb hweq
  go_wp2_with fail
  with_reducible refine Calls.mono (HQ.out _) ?_
  rintro e x6 ⟨rfl, hb⟩
  replace hL0 := hL0.call hb
  clear hb
  replace hL0 := (hL0.new rfl [.int .u64 ((lo y : Nat) : Int), .string (hs y)] 32)
  generalize hweq : (x6.alloc (.cells #[.int .u64 ((lo y : Nat) : Int), .string (hs y)] 32)) = x7 at hL0
  go_upto_region 7 with fail
  clear hweq
  obtain ⟨α, iα, F, hF1, hF2⟩ := cls x7
  have hq0 := cls_box hF1 hL0 _ _ List.mem_cons_self
  simp only [cellsC, and_true, Nat.zero_add, Nat.reduceAdd] at hq0
  have hq1 := cls_box hF1 hL0 _ _ (List.mem_cons_of_mem _ List.mem_cons_self)
  simp only [cellsC, and_true, Nat.zero_add, Nat.reduceAdd] at hq1
  have hq2 := cls_box hF1 hL0 _ _ (List.mem_cons_of_mem _ (List.mem_cons_of_mem _ (List.mem_cons_of_mem _ List.mem_cons_self)))
  simp only [cellsC, and_true, Nat.zero_add, Nat.reduceAdd] at hq2
  refine region_qs 12 (C := fun w' => ∃ x, w' = F x) (by kernel_rfl) (by kernel_rfl) (cls_drew hF2) ?_
  simp only [List.take_succ_cons, List.take_zero, List.drop_succ_cons, List.drop_zero, List.take_nil, List.drop_nil]
  repeat (go_big_quiet_step (first | fail | (go_at_call 75; with_reducible exact cls_call hF1 hF2 HS.out _) | (go_at_call 91; with_reducible exact cls_call hF1 hF2 HF.out _) | (go_at_call 149; with_reducible exact cls_call hF1 hF2 HL.out _)))
  refine wpQuiet_nil ?_
  rintro wq ⟨xq, rfl⟩
  replace hL0 := hL0.call (hF1 xq)
  clear  hq0 hq1 hq2 hF2
  generalize F xq = x8 at hL0 ⊢
  clear hF1 xq iα F α
  have hA := hL0.fc
  simp only [fcG, cellsF, neK, and_true, ne_eq, Nat.zero_add, Nat.reduceAdd] at hA
  have hP := hL0.put 2 (w.heap.size + 1) _ rfl [.int .u64 ((zl u : Nat) : Int), .string (zh u), .bool (zs u), .int .u64 ((lo f : Nat) : Int), .string (hs f)] rfl
  simp only [setAll, List.set_cons_zero, List.set_cons_succ] at hP
  generalize hput1 : (((((x8.setCell ⟨w.heap.size + 1, 0, none⟩ (.int .u64 ((zl u : Nat) : Int))).setCell ⟨w.heap.size + 1, 1, none⟩ (.string (zh u))).setCell ⟨w.heap.size + 1, 2, none⟩ (.bool (zs u))).setCell ⟨w.heap.size + 1, 3, none⟩ (.int .u64 ((lo f : Nat) : Int))).setCell ⟨w.heap.size + 1, 4, none⟩ (.string (hs f))) = x9 at hP
  have hB1 := hP.fc
  simp only [fcG, cellsF, neK, and_true, ne_eq, Nat.zero_add, Nat.reduceAdd] at hB1
  replace hL0 := hP
  go_wp2_with fail
  exact bodyPost_ret (v := .tuple #[.agg #[.int .u64 ((zl u : Nat) : Int), .string (zh u), .bool (zs u), .int .u64 ((lo f : Nat) : Int), .string (hs f)], .int .i64 0]) (by simp [results, Tryz.results160, go_sem, hB1]) rfl ⟨rfl, hL0.bl⟩

set_option maxHeartbeats 4000000 in
set_option maxRecDepth 100000 in
theorem fpower_odd (n s z u : Int) (e a d x y f : Nat) (k : Int) (HA : ∀ w, Calls Tryz.prog 43 #[.agg #[.int .u64 ((zl n : Nat) : Int), .string (zh n), .bool (zs n)]] w fun xe w' => xe = .returned (.agg #[.int .u64 ((lo a : Nat) : Int), .string (hs a)]) ∧ Below w.heap.size w w') (HP : ∀ w, Calls Tryz.prog 119 #[.agg #[.int .u64 ((lo a : Nat) : Int), .string (hs a)], .int .i64 k] w fun xe w' => xe = .returned (.tuple #[.agg #[.int .u64 ((lo x : Nat) : Int), .string (hs x)], .int .i64 0]) ∧ Below w.heap.size w w') (HD : ∀ w, Calls Tryz.prog 85 #[.agg #[.int .u64 ((zl n : Nat) : Int), .string (zh n), .bool (zs n), .int .u64 ((lo e : Nat) : Int), .string (hs e)]] w fun xe w' => xe = .returned (.agg #[.int .u64 ((lo d : Nat) : Int), .string (hs d)]) ∧ Below w.heap.size w w') (HQ : ∀ w, Calls Tryz.prog 119 #[.agg #[.int .u64 ((lo d : Nat) : Int), .string (hs d)], .int .i64 k] w fun xe w' => xe = .returned (.tuple #[.agg #[.int .u64 ((lo y : Nat) : Int), .string (hs y)], .int .i64 0]) ∧ Below w.heap.size w w') (HS : ∀ w, Calls Tryz.prog 75 #[.agg #[.int .u64 ((zl n : Nat) : Int), .string (zh n), .bool (zs n), .int .u64 ((lo e : Nat) : Int), .string (hs e)]] w fun xe w' => xe = .returned (.int .i64 s) ∧ Below w.heap.size w w') (HF : ∀ w, Calls Tryz.prog 91 #[.bool true, .agg #[.int .u64 ((lo x : Nat) : Int), .string (hs x)]] w fun xe w' => xe = .returned (.agg #[.int .u64 ((zl z : Nat) : Int), .string (zh z), .bool (zs z)]) ∧ Below w.heap.size w w') (HL : ∀ w, Calls Tryz.prog 149 #[.agg #[.int .u64 ((zl z : Nat) : Int), .string (zh z), .bool (zs z)], .agg #[.int .u64 ((lo y : Nat) : Int), .string (hs y)]] w fun xe w' => xe = .returned (.agg #[.int .u64 ((zl u : Nat) : Int), .string (zh u), .bool (zs u), .int .u64 ((lo f : Nat) : Int), .string (hs f)]) ∧ Below w.heap.size w w') (hsg : decide (s < 0) = true) (hk : (k.tmod 2 == 1) = true) (w : World) :
    Calls Tryz.prog 160 #[.agg #[.int .u64 ((zl n : Nat) : Int), .string (zh n), .bool (zs n), .int .u64 ((lo e : Nat) : Int), .string (hs e)], .int .i64 k] w fun xe w' => xe = .returned (.tuple #[.agg #[.int .u64 ((zl u : Nat) : Int), .string (zh u), .bool (zs u), .int .u64 ((lo f : Nat) : Int), .string (hs f)], .int .i64 0]) ∧ Below w.heap.size w w' := by
  have hL0 : GL w w [] := GL.start w
  replace HA := Lib.hid HA
  replace HP := Lib.hid HP
  replace HD := Lib.hid HD
  replace HQ := Lib.hid HQ
  replace HS := Lib.hid HS
  replace HF := Lib.hid HF
  replace HL := Lib.hid HL
  replace hL0 := ((hL0.new rfl [.int .u64 ((zl n : Nat) : Int), .string (zh n), .bool (zs n), .int .u64 ((lo e : Nat) : Int), .string (hs e)] 79).new (K := w.heap.size + 1) (szA _ _) [.int .u64 0, .string ⟨#[]⟩, .bool false, .int .u64 0, .string ⟨#[]⟩] 79)
  generalize hweq : ((w.alloc (.cells #[.int .u64 ((zl n : Nat) : Int), .string (zh n), .bool (zs n), .int .u64 ((lo e : Nat) : Int), .string (hs e)] 79)).alloc (.cells #[.int .u64 0, .string ⟨#[]⟩, .bool false, .int .u64 0, .string ⟨#[]⟩] 79)) = x1 at hL0
  go_enter Tryz.func160, Tryz.ntmps160
  have hN0 := cells_of _ 0 [] rfl (hL0.get _ _ (List.mem_cons_of_mem _ List.mem_cons_self))
  simp only [cellsF, and_true, Nat.zero_add, Nat.reduceAdd] at hN0
  go_wp2_with fail
  clear hN0
  with_reducible refine Calls.mono (HA.out _) ?_
  rintro e x2 ⟨rfl, hb⟩
  replace hL0 := hL0.call hb
  clear hb hweq
  go_wp2_with fail
  with_reducible refine Calls.mono (HP.out _) ?_
  rintro e x3 ⟨rfl, hb⟩
  replace hL0 := hL0.call hb
  clear hb
  replace hL0 := (hL0.new rfl [.int .u64 ((lo x : Nat) : Int), .string (hs x)] 32)
  generalize hweq : (x3.alloc (.cells #[.int .u64 ((lo x : Nat) : Int), .string (hs x)] 32)) = x4 at hL0
  have hN0 := cells_of _ 0 [] rfl (hL0.get _ _ (List.mem_cons_of_mem _ (List.mem_cons_of_mem _ List.mem_cons_self)))
  simp only [cellsF, and_true, Nat.zero_add, Nat.reduceAdd] at hN0
  go_wp2_with fail
  clear hN0
  with_reducible refine Calls.mono (HD.out _) ?_
  rintro e x5 ⟨rfl, hb⟩
  replace hL0 := hL0.call hb
  clear hb hweq
  go_wp2_with fail
  with_reducible refine Calls.mono (HQ.out _) ?_
  rintro e x6 ⟨rfl, hb⟩
  replace hL0 := hL0.call hb
  clear hb
  replace hL0 := (hL0.new rfl [.int .u64 ((lo y : Nat) : Int), .string (hs y)] 32)
  generalize hweq : (x6.alloc (.cells #[.int .u64 ((lo y : Nat) : Int), .string (hs y)] 32)) = x7 at hL0
  go_upto_region 7 with fail
  clear hweq
  obtain ⟨α, iα, F, hF1, hF2⟩ := cls x7
  have hq0 := cls_box hF1 hL0 _ _ List.mem_cons_self
  simp only [cellsC, and_true, Nat.zero_add, Nat.reduceAdd] at hq0
  have hq1 := cls_box hF1 hL0 _ _ (List.mem_cons_of_mem _ List.mem_cons_self)
  simp only [cellsC, and_true, Nat.zero_add, Nat.reduceAdd] at hq1
  have hq2 := cls_box hF1 hL0 _ _ (List.mem_cons_of_mem _ (List.mem_cons_of_mem _ (List.mem_cons_of_mem _ List.mem_cons_self)))
  simp only [cellsC, and_true, Nat.zero_add, Nat.reduceAdd] at hq2
  refine region_qs 12 (C := fun w' => ∃ x, w' = F x) (by kernel_rfl) (by kernel_rfl) (cls_drew hF2) ?_
  simp only [List.take_succ_cons, List.take_zero, List.drop_succ_cons, List.drop_zero, List.take_nil, List.drop_nil]
  repeat (go_big_quiet_step (first | fail | (go_at_call 75; with_reducible exact cls_call hF1 hF2 HS.out _) | (go_at_call 91; with_reducible exact cls_call hF1 hF2 HF.out _) | (go_at_call 149; with_reducible exact cls_call hF1 hF2 HL.out _)))
  refine wpQuiet_nil ?_
  rintro wq ⟨xq, rfl⟩
  replace hL0 := hL0.call (hF1 xq)
  clear  hq0 hq1 hq2 hF2
  generalize F xq = x8 at hL0 ⊢
  clear hF1 xq iα F α
  have hA := hL0.fc
  simp only [fcG, cellsF, neK, and_true, ne_eq, Nat.zero_add, Nat.reduceAdd] at hA
  have hP := hL0.put 2 (w.heap.size + 1) _ rfl [.int .u64 ((zl u : Nat) : Int), .string (zh u), .bool (zs u), .int .u64 ((lo f : Nat) : Int), .string (hs f)] rfl
  simp only [setAll, List.set_cons_zero, List.set_cons_succ] at hP
  generalize hput1 : (((((x8.setCell ⟨w.heap.size + 1, 0, none⟩ (.int .u64 ((zl u : Nat) : Int))).setCell ⟨w.heap.size + 1, 1, none⟩ (.string (zh u))).setCell ⟨w.heap.size + 1, 2, none⟩ (.bool (zs u))).setCell ⟨w.heap.size + 1, 3, none⟩ (.int .u64 ((lo f : Nat) : Int))).setCell ⟨w.heap.size + 1, 4, none⟩ (.string (hs f))) = x9 at hP
  have hB1 := hP.fc
  simp only [fcG, cellsF, neK, and_true, ne_eq, Nat.zero_add, Nat.reduceAdd] at hB1
  replace hL0 := hP
  go_wp2_with fail
  exact bodyPost_ret (v := .tuple #[.agg #[.int .u64 ((zl u : Nat) : Int), .string (zh u), .bool (zs u), .int .u64 ((lo f : Nat) : Int), .string (hs f)], .int .i64 0]) (by simp [results, Tryz.results160, go_sem, hB1]) rfl ⟨rfl, hL0.bl⟩

set_option maxHeartbeats 4000000 in
set_option maxRecDepth 100000 in
theorem fpower_even (n s z u : Int) (e a d x y f : Nat) (k : Int) (HA : ∀ w, Calls Tryz.prog 43 #[.agg #[.int .u64 ((zl n : Nat) : Int), .string (zh n), .bool (zs n)]] w fun xe w' => xe = .returned (.agg #[.int .u64 ((lo a : Nat) : Int), .string (hs a)]) ∧ Below w.heap.size w w') (HP : ∀ w, Calls Tryz.prog 119 #[.agg #[.int .u64 ((lo a : Nat) : Int), .string (hs a)], .int .i64 k] w fun xe w' => xe = .returned (.tuple #[.agg #[.int .u64 ((lo x : Nat) : Int), .string (hs x)], .int .i64 0]) ∧ Below w.heap.size w w') (HD : ∀ w, Calls Tryz.prog 85 #[.agg #[.int .u64 ((zl n : Nat) : Int), .string (zh n), .bool (zs n), .int .u64 ((lo e : Nat) : Int), .string (hs e)]] w fun xe w' => xe = .returned (.agg #[.int .u64 ((lo d : Nat) : Int), .string (hs d)]) ∧ Below w.heap.size w w') (HQ : ∀ w, Calls Tryz.prog 119 #[.agg #[.int .u64 ((lo d : Nat) : Int), .string (hs d)], .int .i64 k] w fun xe w' => xe = .returned (.tuple #[.agg #[.int .u64 ((lo y : Nat) : Int), .string (hs y)], .int .i64 0]) ∧ Below w.heap.size w w') (HS : ∀ w, Calls Tryz.prog 75 #[.agg #[.int .u64 ((zl n : Nat) : Int), .string (zh n), .bool (zs n), .int .u64 ((lo e : Nat) : Int), .string (hs e)]] w fun xe w' => xe = .returned (.int .i64 s) ∧ Below w.heap.size w w') (HF : ∀ w, Calls Tryz.prog 91 #[.bool false, .agg #[.int .u64 ((lo x : Nat) : Int), .string (hs x)]] w fun xe w' => xe = .returned (.agg #[.int .u64 ((zl z : Nat) : Int), .string (zh z), .bool (zs z)]) ∧ Below w.heap.size w w') (HL : ∀ w, Calls Tryz.prog 149 #[.agg #[.int .u64 ((zl z : Nat) : Int), .string (zh z), .bool (zs z)], .agg #[.int .u64 ((lo y : Nat) : Int), .string (hs y)]] w fun xe w' => xe = .returned (.agg #[.int .u64 ((zl u : Nat) : Int), .string (zh u), .bool (zs u), .int .u64 ((lo f : Nat) : Int), .string (hs f)]) ∧ Below w.heap.size w w') (hsg : decide (s < 0) = true) (hk : (k.tmod 2 == 1) = false) (w : World) :
    Calls Tryz.prog 160 #[.agg #[.int .u64 ((zl n : Nat) : Int), .string (zh n), .bool (zs n), .int .u64 ((lo e : Nat) : Int), .string (hs e)], .int .i64 k] w fun xe w' => xe = .returned (.tuple #[.agg #[.int .u64 ((zl u : Nat) : Int), .string (zh u), .bool (zs u), .int .u64 ((lo f : Nat) : Int), .string (hs f)], .int .i64 0]) ∧ Below w.heap.size w w' := by
  have hL0 : GL w w [] := GL.start w
  replace HA := Lib.hid HA
  replace HP := Lib.hid HP
  replace HD := Lib.hid HD
  replace HQ := Lib.hid HQ
  replace HS := Lib.hid HS
  replace HF := Lib.hid HF
  replace HL := Lib.hid HL
  replace hL0 := ((hL0.new rfl [.int .u64 ((zl n : Nat) : Int), .string (zh n), .bool (zs n), .int .u64 ((lo e : Nat) : Int), .string (hs e)] 79).new (K := w.heap.size + 1) (szA _ _) [.int .u64 0, .string ⟨#[]⟩, .bool false, .int .u64 0, .string ⟨#[]⟩] 79)
  generalize hweq : ((w.alloc (.cells #[.int .u64 ((zl n : Nat) : Int), .string (zh n), .bool (zs n), .int .u64 ((lo e : Nat) : Int), .string (hs e)] 79)).alloc (.cells #[.int .u64 0, .string ⟨#[]⟩, .bool false, .int .u64 0, .string ⟨#[]⟩] 79)) = x1 at hL0
  go_enter Tryz.func160, Tryz.ntmps160
  have hN0 := cells_of _ 0 [] rfl (hL0.get _ _ (List.mem_cons_of_mem _ List.mem_cons_self))
  simp only [cellsF, and_true, Nat.zero_add, Nat.reduceAdd] at hN0
  go_wp2_with fail
  clear hN0
  with_reducible refine Calls.mono (HA.out _) ?_
  rintro e x2 ⟨rfl, hb⟩
  replace hL0 := hL0.call hb
  clear hb hweq
  go_wp2_with fail
  with_reducible refine Calls.mono (HP.out _) ?_
  rintro e x3 ⟨rfl, hb⟩
  replace hL0 := hL0.call hb
  clear hb
  replace hL0 := (hL0.new rfl [.int .u64 ((lo x : Nat) : Int), .string (hs x)] 32)
  generalize hweq : (x3.alloc (.cells #[.int .u64 ((lo x : Nat) : Int), .string (hs x)] 32)) = x4 at hL0
  have hN0 := cells_of _ 0 [] rfl (hL0.get _ _ (List.mem_cons_of_mem _ (List.mem_cons_of_mem _ List.mem_cons_self)))
  simp only [cellsF, and_true, Nat.zero_add, Nat.reduceAdd] at hN0
  go_wp2_with fail
  clear hN0
  with_reducible refine Calls.mono (HD.out _) ?_
  rintro e x5 ⟨rfl, hb⟩
  replace hL0 := hL0.call hb
  clear hb hweq
  go_wp2_with fail
  with_reducible refine Calls.mono (HQ.out _) ?_
  rintro e x6 ⟨rfl, hb⟩
  replace hL0 := hL0.call hb
  clear hb
  replace hL0 := (hL0.new rfl [.int .u64 ((lo y : Nat) : Int), .string (hs y)] 32)
  generalize hweq : (x6.alloc (.cells #[.int .u64 ((lo y : Nat) : Int), .string (hs y)] 32)) = x7 at hL0
  go_upto_region 7 with fail
  clear hweq
  obtain ⟨α, iα, F, hF1, hF2⟩ := cls x7
  have hq0 := cls_box hF1 hL0 _ _ List.mem_cons_self
  simp only [cellsC, and_true, Nat.zero_add, Nat.reduceAdd] at hq0
  have hq1 := cls_box hF1 hL0 _ _ (List.mem_cons_of_mem _ List.mem_cons_self)
  simp only [cellsC, and_true, Nat.zero_add, Nat.reduceAdd] at hq1
  have hq2 := cls_box hF1 hL0 _ _ (List.mem_cons_of_mem _ (List.mem_cons_of_mem _ (List.mem_cons_of_mem _ List.mem_cons_self)))
  simp only [cellsC, and_true, Nat.zero_add, Nat.reduceAdd] at hq2
  refine region_qs 12 (C := fun w' => ∃ x, w' = F x) (by kernel_rfl) (by kernel_rfl) (cls_drew hF2) ?_
  simp only [List.take_succ_cons, List.take_zero, List.drop_succ_cons, List.drop_zero, List.take_nil, List.drop_nil]
  repeat (go_big_quiet_step (first | fail | (go_at_call 75; with_reducible exact cls_call hF1 hF2 HS.out _) | (go_at_call 91; with_reducible exact cls_call hF1 hF2 HF.out _) | (go_at_call 149; with_reducible exact cls_call hF1 hF2 HL.out _)))
  refine wpQuiet_nil ?_
  rintro wq ⟨xq, rfl⟩
  replace hL0 := hL0.call (hF1 xq)
  clear  hq0 hq1 hq2 hF2
  generalize F xq = x8 at hL0 ⊢
  clear hF1 xq iα F α
  have hA := hL0.fc
  simp only [fcG, cellsF, neK, and_true, ne_eq, Nat.zero_add, Nat.reduceAdd] at hA
  have hP := hL0.put 2 (w.heap.size + 1) _ rfl [.int .u64 ((zl u : Nat) : Int), .string (zh u), .bool (zs u), .int .u64 ((lo f : Nat) : Int), .string (hs f)] rfl
  simp only [setAll, List.set_cons_zero, List.set_cons_succ] at hP
  generalize hput1 : (((((x8.setCell ⟨w.heap.size + 1, 0, none⟩ (.int .u64 ((zl u : Nat) : Int))).setCell ⟨w.heap.size + 1, 1, none⟩ (.string (zh u))).setCell ⟨w.heap.size + 1, 2, none⟩ (.bool (zs u))).setCell ⟨w.heap.size + 1, 3, none⟩ (.int .u64 ((lo f : Nat) : Int))).setCell ⟨w.heap.size + 1, 4, none⟩ (.string (hs f))) = x9 at hP
  have hB1 := hP.fc
  simp only [fcG, cellsF, neK, and_true, ne_eq, Nat.zero_add, Nat.reduceAdd] at hB1
  replace hL0 := hP
  go_wp2_with fail
  exact bodyPost_ret (v := .tuple #[.agg #[.int .u64 ((zl u : Nat) : Int), .string (zh u), .bool (zs u), .int .u64 ((lo f : Nat) : Int), .string (hs f)], .int .i64 0]) (by simp [results, Tryz.results160, go_sem, hB1]) rfl ⟨rfl, hL0.bl⟩

set_option maxHeartbeats 4000000 in
set_option maxRecDepth 100000 in
theorem fpow_low (n : Int) (e : Nat) (k : Int) (hk : decide (k < -4096) = true) (w : World) :
    Calls Tryz.prog 98 #[.agg #[.int .u64 ((zl n : Nat) : Int), .string (zh n), .bool (zs n), .int .u64 ((lo e : Nat) : Int), .string (hs e)], .int .i64 k] w fun xe w' => xe = .returned (.tuple #[.agg #[.int .u64 0, .string ⟨#[]⟩, .bool false, .int .u64 0, .string ⟨#[]⟩], .int .i64 1]) ∧ Below w.heap.size w w' := by
  have hL0 : GL w w [] := GL.start w
  replace hL0 := ((hL0.new rfl [.int .u64 ((zl n : Nat) : Int), .string (zh n), .bool (zs n), .int .u64 ((lo e : Nat) : Int), .string (hs e)] 79).new (K := w.heap.size + 1) (szA _ _) [.int .u64 0, .string ⟨#[]⟩, .bool false, .int .u64 0, .string ⟨#[]⟩] 79)
  generalize hweq : ((w.alloc (.cells #[.int .u64 ((zl n : Nat) : Int), .string (zh n), .bool (zs n), .int .u64 ((lo e : Nat) : Int), .string (hs e)] 79)).alloc (.cells #[.int .u64 0, .string ⟨#[]⟩, .bool false, .int .u64 0, .string ⟨#[]⟩] 79)) = x1 at hL0
  go_enter Tryz.func98, Tryz.ntmps98
  have hA := hL0.fc
  simp only [fcG, cellsF, neK, and_true, ne_eq, Nat.zero_add, Nat.reduceAdd] at hA
  have hP := hL0.put 0 (w.heap.size + 1) _ rfl [.int .u64 0, .string ⟨#[]⟩, .bool false, .int .u64 0, .string ⟨#[]⟩] rfl
  simp only [setAll, List.set_cons_zero, List.set_cons_succ] at hP
  generalize hput1 : (((((x1.setCell ⟨w.heap.size + 1, 0, none⟩ (.int .u64 0)).setCell ⟨w.heap.size + 1, 1, none⟩ (.string ⟨#[]⟩)).setCell ⟨w.heap.size + 1, 2, none⟩ (.bool false)).setCell ⟨w.heap.size + 1, 3, none⟩ (.int .u64 0)).setCell ⟨w.heap.size + 1, 4, none⟩ (.string ⟨#[]⟩)) = x2 at hP
  have hB1 := hP.fc
  simp only [fcG, cellsF, neK, and_true, ne_eq, Nat.zero_add, Nat.reduceAdd] at hB1
  replace hL0 := hP
  go_wp2_with fail
  exact bodyPost_ret (v := .tuple #[.agg #[.int .u64 0, .string ⟨#[]⟩, .bool false, .int .u64 0, .string ⟨#[]⟩], .int .i64 1]) (by simp [results, Tryz.results98, go_sem, hB1]) rfl ⟨rfl, hL0.bl⟩

set_option maxHeartbeats 4000000 in
set_option maxRecDepth 100000 in
theorem fpow_high (n : Int) (e : Nat) (k : Int) (hk : decide (k < -4096) = false) (hl : decide (4096 < k) = true) (w : World) :
    Calls Tryz.prog 98 #[.agg #[.int .u64 ((zl n : Nat) : Int), .string (zh n), .bool (zs n), .int .u64 ((lo e : Nat) : Int), .string (hs e)], .int .i64 k] w fun xe w' => xe = .returned (.tuple #[.agg #[.int .u64 0, .string ⟨#[]⟩, .bool false, .int .u64 0, .string ⟨#[]⟩], .int .i64 1]) ∧ Below w.heap.size w w' := by
  have hL0 : GL w w [] := GL.start w
  replace hL0 := ((hL0.new rfl [.int .u64 ((zl n : Nat) : Int), .string (zh n), .bool (zs n), .int .u64 ((lo e : Nat) : Int), .string (hs e)] 79).new (K := w.heap.size + 1) (szA _ _) [.int .u64 0, .string ⟨#[]⟩, .bool false, .int .u64 0, .string ⟨#[]⟩] 79)
  generalize hweq : ((w.alloc (.cells #[.int .u64 ((zl n : Nat) : Int), .string (zh n), .bool (zs n), .int .u64 ((lo e : Nat) : Int), .string (hs e)] 79)).alloc (.cells #[.int .u64 0, .string ⟨#[]⟩, .bool false, .int .u64 0, .string ⟨#[]⟩] 79)) = x1 at hL0
  go_enter Tryz.func98, Tryz.ntmps98
  have hA := hL0.fc
  simp only [fcG, cellsF, neK, and_true, ne_eq, Nat.zero_add, Nat.reduceAdd] at hA
  have hP := hL0.put 0 (w.heap.size + 1) _ rfl [.int .u64 0, .string ⟨#[]⟩, .bool false, .int .u64 0, .string ⟨#[]⟩] rfl
  simp only [setAll, List.set_cons_zero, List.set_cons_succ] at hP
  generalize hput1 : (((((x1.setCell ⟨w.heap.size + 1, 0, none⟩ (.int .u64 0)).setCell ⟨w.heap.size + 1, 1, none⟩ (.string ⟨#[]⟩)).setCell ⟨w.heap.size + 1, 2, none⟩ (.bool false)).setCell ⟨w.heap.size + 1, 3, none⟩ (.int .u64 0)).setCell ⟨w.heap.size + 1, 4, none⟩ (.string ⟨#[]⟩)) = x2 at hP
  have hB1 := hP.fc
  simp only [fcG, cellsF, neK, and_true, ne_eq, Nat.zero_add, Nat.reduceAdd] at hB1
  replace hL0 := hP
  go_wp2_with fail
  exact bodyPost_ret (v := .tuple #[.agg #[.int .u64 0, .string ⟨#[]⟩, .bool false, .int .u64 0, .string ⟨#[]⟩], .int .i64 1]) (by simp [results, Tryz.results98, go_sem, hB1]) rfl ⟨rfl, hL0.bl⟩

set_option maxHeartbeats 4000000 in
set_option maxRecDepth 100000 in
theorem fpow_pos (n m c : Int) (e f : Nat) (k : Int) (HP : ∀ w, Calls Tryz.prog 160 #[.agg #[.int .u64 ((zl n : Nat) : Int), .string (zh n), .bool (zs n), .int .u64 ((lo e : Nat) : Int), .string (hs e)], .int .i64 k] w fun xe w' => xe = .returned (.tuple #[.agg #[.int .u64 ((zl m : Nat) : Int), .string (zh m), .bool (zs m), .int .u64 ((lo f : Nat) : Int), .string (hs f)], .int .i64 c]) ∧ Below w.heap.size w w') (hk : decide (k < -4096) = false) (hl : decide (4096 < k) = false) (h0 : decide (0 ≤ k) = true) (w : World) :
    Calls Tryz.prog 98 #[.agg #[.int .u64 ((zl n : Nat) : Int), .string (zh n), .bool (zs n), .int .u64 ((lo e : Nat) : Int), .string (hs e)], .int .i64 k] w fun xe w' => xe = .returned (.tuple #[.agg #[.int .u64 ((zl m : Nat) : Int), .string (zh m), .bool (zs m), .int .u64 ((lo f : Nat) : Int), .string (hs f)], .int .i64 c]) ∧ Below w.heap.size w w' := by
  have hL0 : GL w w [] := GL.start w
  replace HP := Lib.hid HP
  replace hL0 := ((hL0.new rfl [.int .u64 ((zl n : Nat) : Int), .string (zh n), .bool (zs n), .int .u64 ((lo e : Nat) : Int), .string (hs e)] 79).new (K := w.heap.size + 1) (szA _ _) [.int .u64 0, .string ⟨#[]⟩, .bool false, .int .u64 0, .string ⟨#[]⟩] 79)
  generalize hweq : ((w.alloc (.cells #[.int .u64 ((zl n : Nat) : Int), .string (zh n), .bool (zs n), .int .u64 ((lo e : Nat) : Int), .string (hs e)] 79)).alloc (.cells #[.int .u64 0, .string ⟨#[]⟩, .bool false, .int .u64 0, .string ⟨#[]⟩] 79)) = x1 at hL0
  go_enter Tryz.func98, Tryz.ntmps98
  have hN0 := cells_of _ 0 [] rfl (hL0.get _ _ (List.mem_cons_of_mem _ List.mem_cons_self))
  simp only [cellsF, and_true, Nat.zero_add, Nat.reduceAdd] at hN0
  go_wp2_with fail
  clear hN0
  with_reducible refine Calls.mono (HP.out _) ?_
  rintro e x2 ⟨rfl, hb⟩
  replace hL0 := hL0.call hb
  clear hb hweq
  have hA := hL0.fc
  simp only [fcG, cellsF, neK, and_true, ne_eq, Nat.zero_add, Nat.reduceAdd] at hA
  have hP := hL0.put 0 (w.heap.size + 1) _ rfl [.int .u64 ((zl m : Nat) : Int), .string (zh m), .bool (zs m), .int .u64 ((lo f : Nat) : Int), .string (hs f)] rfl
  simp only [setAll, List.set_cons_zero, List.set_cons_succ] at hP
  generalize hput1 : (((((x2.setCell ⟨w.heap.size + 1, 0, none⟩ (.int .u64 ((zl m : Nat) : Int))).setCell ⟨w.heap.size + 1, 1, none⟩ (.string (zh m))).setCell ⟨w.heap.size + 1, 2, none⟩ (.bool (zs m))).setCell ⟨w.heap.size + 1, 3, none⟩ (.int .u64 ((lo f : Nat) : Int))).setCell ⟨w.heap.size + 1, 4, none⟩ (.string (hs f))) = x3 at hP
  have hB1 := hP.fc
  simp only [fcG, cellsF, neK, and_true, ne_eq, Nat.zero_add, Nat.reduceAdd] at hB1
  replace hL0 := hP
  go_wp2_with fail
  exact bodyPost_ret (v := .tuple #[.agg #[.int .u64 ((zl m : Nat) : Int), .string (zh m), .bool (zs m), .int .u64 ((lo f : Nat) : Int), .string (hs f)], .int .i64 c]) (by simp [results, Tryz.results98, go_sem, hB1]) rfl ⟨rfl, hL0.bl⟩

set_option maxHeartbeats 4000000 in
set_option maxRecDepth 100000 in
theorem fpow_zero (k : Int) (HI : ∀ w, Calls Tryz.prog 94 #[.int .i64 0] w fun xe w' => xe = .returned (.agg #[.int .u64 ((zl 0 : Nat) : Int), .string (zh 0), .bool (zs 0), .int .u64 ((lo 0 : Nat) : Int), .string (hs 0)]) ∧ Below w.heap.size w w') (hk : decide (k < -4096) = false) (hl : decide (4096 < k) = false) (h0 : decide (0 ≤ k) = false) (w : World) :
    Calls Tryz.prog 98 #[.agg #[.int .u64 ((zl 0 : Nat) : Int), .string (zh 0), .bool (zs 0), .int .u64 ((lo 0 : Nat) : Int), .string (hs 0)], .int .i64 k] w fun xe w' => xe = .returned (.tuple #[.agg #[.int .u64 0, .string ⟨#[]⟩, .bool false, .int .u64 0, .string ⟨#[]⟩], .int .i64 5]) ∧ Below w.heap.size w w' := by
  have hL0 : GL w w [] := GL.start w
  replace HI := Lib.hid HI
  replace hL0 := ((hL0.new rfl [.int .u64 ((zl 0 : Nat) : Int), .string (zh 0), .bool (zs 0), .int .u64 ((lo 0 : Nat) : Int), .string (hs 0)] 79).new (K := w.heap.size + 1) (szA _ _) [.int .u64 0, .string ⟨#[]⟩, .bool false, .int .u64 0, .string ⟨#[]⟩] 79)
  generalize hweq : ((w.alloc (.cells #[.int .u64 ((zl 0 : Nat) : Int), .string (zh 0), .bool (zs 0), .int .u64 ((lo 0 : Nat) : Int), .string (hs 0)] 79)).alloc (.cells #[.int .u64 0, .string ⟨#[]⟩, .bool false, .int .u64 0, .string ⟨#[]⟩] 79)) = x1 at hL0
  go_enter Tryz.func98, Tryz.ntmps98
  go_upto_region 5 with fail
  clear hweq
  obtain ⟨α, iα, F, hF1, hF2⟩ := cls x1
  have hq0 := cls_box hF1 hL0 _ _ (List.mem_cons_of_mem _ List.mem_cons_self)
  simp only [cellsC, and_true, Nat.zero_add, Nat.reduceAdd] at hq0
  refine region_qs 3 (C := fun w' => ∃ x, w' = F x) (by kernel_rfl) (by kernel_rfl) (cls_drew hF2) ?_
  simp only [List.take_succ_cons, List.take_zero, List.drop_succ_cons, List.drop_zero, List.take_nil, List.drop_nil]
  repeat (go_big_quiet_step (first | fail | (go_at_call 94; with_reducible exact cls_call hF1 hF2 HI.out _)))
  refine wpQuiet_nil ?_
  rintro wq ⟨xq, rfl⟩
  replace hL0 := hL0.call (hF1 xq)
  clear  hq0 hF2
  generalize F xq = x2 at hL0 ⊢
  clear hF1 xq iα F α
  have hA := hL0.fc
  simp only [fcG, cellsF, neK, and_true, ne_eq, Nat.zero_add, Nat.reduceAdd] at hA
  have hP := hL0.put 0 (w.heap.size + 1) _ rfl [.int .u64 0, .string ⟨#[]⟩, .bool false, .int .u64 0, .string ⟨#[]⟩] rfl
  simp only [setAll, List.set_cons_zero, List.set_cons_succ] at hP
  generalize hput1 : (((((x2.setCell ⟨w.heap.size + 1, 0, none⟩ (.int .u64 0)).setCell ⟨w.heap.size + 1, 1, none⟩ (.string ⟨#[]⟩)).setCell ⟨w.heap.size + 1, 2, none⟩ (.bool false)).setCell ⟨w.heap.size + 1, 3, none⟩ (.int .u64 0)).setCell ⟨w.heap.size + 1, 4, none⟩ (.string ⟨#[]⟩)) = x3 at hP
  have hB1 := hP.fc
  simp only [fcG, cellsF, neK, and_true, ne_eq, Nat.zero_add, Nat.reduceAdd] at hB1
  replace hL0 := hP
  go_wp2_with fail
  exact bodyPost_ret (v := .tuple #[.agg #[.int .u64 0, .string ⟨#[]⟩, .bool false, .int .u64 0, .string ⟨#[]⟩], .int .i64 5]) (by simp [results, Tryz.results98, go_sem, hB1]) rfl ⟨rfl, hL0.bl⟩

set_option maxHeartbeats 4000000 in
set_option maxRecDepth 100000 in
theorem fpow_neg (n x m c : Int) (e g f : Nat) (k l : Int) (HI : ∀ w, Calls Tryz.prog 94 #[.int .i64 0] w fun xe w' => xe = .returned (.agg #[.int .u64 ((zl 0 : Nat) : Int), .string (zh 0), .bool (zs 0), .int .u64 ((lo 0 : Nat) : Int), .string (hs 0)]) ∧ Below w.heap.size w w') (HV : ∀ w, Calls Tryz.prog 143 #[.agg #[.int .u64 ((zl n : Nat) : Int), .string (zh n), .bool (zs n), .int .u64 ((lo e : Nat) : Int), .string (hs e)]] w fun xe w' => xe = .returned (.agg #[.int .u64 ((zl x : Nat) : Int), .string (zh x), .bool (zs x), .int .u64 ((lo g : Nat) : Int), .string (hs g)]) ∧ Below w.heap.size w w') (HP : ∀ w, Calls Tryz.prog 160 #[.agg #[.int .u64 ((zl x : Nat) : Int), .string (zh x), .bool (zs x), .int .u64 ((lo g : Nat) : Int), .string (hs g)], .int .i64 l] w fun xe w' => xe = .returned (.tuple #[.agg #[.int .u64 ((zl m : Nat) : Int), .string (zh m), .bool (zs m), .int .u64 ((lo f : Nat) : Int), .string (hs f)], .int .i64 c]) ∧ Below w.heap.size w w') (hk : decide (k < -4096) = false) (hl : decide (4096 < k) = false) (h0 : decide (0 ≤ k) = false) (hw : IntKind.i64.wrap (-k) = l) (hn : n ≠ 0) (w : World) :
    Calls Tryz.prog 98 #[.agg #[.int .u64 ((zl n : Nat) : Int), .string (zh n), .bool (zs n), .int .u64 ((lo e : Nat) : Int), .string (hs e)], .int .i64 k] w fun xe w' => xe = .returned (.tuple #[.agg #[.int .u64 ((zl m : Nat) : Int), .string (zh m), .bool (zs m), .int .u64 ((lo f : Nat) : Int), .string (hs f)], .int .i64 c]) ∧ Below w.heap.size w w' := by
  have hL0 : GL w w [] := GL.start w
  replace HI := Lib.hid HI
  replace HV := Lib.hid HV
  replace HP := Lib.hid HP
  have hz := ne_int hn
  clear hn
  rcases hz with e0 | ⟨e0, e1⟩ | ⟨e0, e1, e2⟩
  all_goals (
    replace hL0 := ((hL0.new rfl [.int .u64 ((zl n : Nat) : Int), .string (zh n), .bool (zs n), .int .u64 ((lo e : Nat) : Int), .string (hs e)] 79).new (K := w.heap.size + 1) (szA _ _) [.int .u64 0, .string ⟨#[]⟩, .bool false, .int .u64 0, .string ⟨#[]⟩] 79)
    generalize hweq : ((w.alloc (.cells #[.int .u64 ((zl n : Nat) : Int), .string (zh n), .bool (zs n), .int .u64 ((lo e : Nat) : Int), .string (hs e)] 79)).alloc (.cells #[.int .u64 0, .string ⟨#[]⟩, .bool false, .int .u64 0, .string ⟨#[]⟩] 79)) = x1 at hL0
    go_enter Tryz.func98, Tryz.ntmps98
    go_upto_region 5 with fail
    clear hweq
    obtain ⟨α, iα, F, hF1, hF2⟩ := cls x1
    have hq0 := cls_box hF1 hL0 _ _ (List.mem_cons_of_mem _ List.mem_cons_self)
    simp only [cellsC, and_true, Nat.zero_add, Nat.reduceAdd] at hq0
    refine region_qs 3 (C := fun w' => ∃ x, w' = F x) (by kernel_rfl) (by kernel_rfl) (cls_drew hF2) ?_
    simp only [List.take_succ_cons, List.take_zero, List.drop_succ_cons, List.drop_zero, List.take_nil, List.drop_nil]
    repeat (go_big_quiet_step (first | fail | (go_at_call 94; with_reducible exact cls_call hF1 hF2 HI.out _)))
    refine wpQuiet_nil ?_
    rintro wq ⟨xq, rfl⟩
    replace hL0 := hL0.call (hF1 xq)
    clear  hq0 hF2
    generalize F xq = x2 at hL0 ⊢
    clear hF1 xq iα F α
    have hN0 := cells_of _ 0 [] rfl (hL0.get _ _ (List.mem_cons_of_mem _ List.mem_cons_self))
    simp only [cellsF, and_true, Nat.zero_add, Nat.reduceAdd] at hN0
    go_wp2_with fail
    clear hN0
    with_reducible refine Calls.mono (HV.out _) ?_
    rintro e x3 ⟨rfl, hb⟩
    replace hL0 := hL0.call hb
    clear hb
    go_wp2_with fail
    with_reducible refine Calls.mono (HP.out _) ?_
    rintro e x4 ⟨rfl, hb⟩
    replace hL0 := hL0.call hb
    clear hb
    have hA := hL0.fc
    simp only [fcG, cellsF, neK, and_true, ne_eq, Nat.zero_add, Nat.reduceAdd] at hA
    have hP := hL0.put 0 (w.heap.size + 1) _ rfl [.int .u64 ((zl m : Nat) : Int), .string (zh m), .bool (zs m), .int .u64 ((lo f : Nat) : Int), .string (hs f)] rfl
    simp only [setAll, List.set_cons_zero, List.set_cons_succ] at hP
    generalize hput1 : (((((x4.setCell ⟨w.heap.size + 1, 0, none⟩ (.int .u64 ((zl m : Nat) : Int))).setCell ⟨w.heap.size + 1, 1, none⟩ (.string (zh m))).setCell ⟨w.heap.size + 1, 2, none⟩ (.bool (zs m))).setCell ⟨w.heap.size + 1, 3, none⟩ (.int .u64 ((lo f : Nat) : Int))).setCell ⟨w.heap.size + 1, 4, none⟩ (.string (hs f))) = x5 at hP
    have hB1 := hP.fc
    simp only [fcG, cellsF, neK, and_true, ne_eq, Nat.zero_add, Nat.reduceAdd] at hB1
    replace hL0 := hP
    go_wp2_with fail
    exact bodyPost_ret (v := .tuple #[.agg #[.int .u64 ((zl m : Nat) : Int), .string (zh m), .bool (zs m), .int .u64 ((lo f : Nat) : Int), .string (hs f)], .int .i64 c]) (by simp [results, Tryz.results98, go_sem, hB1]) rfl ⟨rfl, hL0.bl⟩)

set_option maxHeartbeats 4000000 in
set_option maxRecDepth 100000 in
theorem ftext_whole (n : Int) (s : ByteArray) (HW : ∀ w, Calls Tryz.prog 89 #[.agg #[.int .u64 ((zl n : Nat) : Int), .string (zh n), .bool (zs n), .int .u64 ((lo 0 : Nat) : Int), .string (hs 0)]] w fun xe w' => xe = .returned (.bool true) ∧ Below w.heap.size w w') (HT : ∀ w, Tab w → Calls Tryz.prog 77 #[.agg #[.int .u64 ((zl n : Nat) : Int), .string (zh n), .bool (zs n)]] w fun xe w' => xe = .returned (.string s) ∧ Below w.heap.size w w') (w : World) (htab : Tab w) :
    Calls Tryz.prog 144 #[.agg #[.int .u64 ((zl n : Nat) : Int), .string (zh n), .bool (zs n), .int .u64 ((lo 0 : Nat) : Int), .string (hs 0)]] w fun xe w' => xe = .returned (.string s) ∧ Below w.heap.size w w' := by
  have hL0 : GL w w [] := GL.start w
  replace HW := Lib.hid HW
  replace HT := Lib.hid HT
  replace hL0 := (hL0.new rfl [.int .u64 ((zl n : Nat) : Int), .string (zh n), .bool (zs n), .int .u64 ((lo 0 : Nat) : Int), .string (hs 0)] 79)
  generalize hweq : (w.alloc (.cells #[.int .u64 ((zl n : Nat) : Int), .string (zh n), .bool (zs n), .int .u64 ((lo 0 : Nat) : Int), .string (hs 0)] 79)) = x1 at hL0
  go_enter Tryz.func144, Tryz.ntmps144
  have hN0 := cells_of _ 0 [] rfl (hL0.get _ _ List.mem_cons_self)
  simp only [cellsF, and_true, Nat.zero_add, Nat.reduceAdd] at hN0
  go_wp2_with fail
  clear hN0
  with_reducible refine Calls.mono (HW.out _) ?_
  rintro e x2 ⟨rfl, hb⟩
  replace hL0 := hL0.call hb
  clear hb hweq
  have hN0 := cells_of _ 0 [] rfl (hL0.get _ _ List.mem_cons_self)
  simp only [cellsF, and_true, Nat.zero_add, Nat.reduceAdd] at hN0
  go_wp2_with fail
  clear hN0
  with_reducible refine Calls.mono (HT.out _ (htab.below hL0.bl)) ?_
  rintro e x3 ⟨rfl, hb⟩
  replace hL0 := hL0.call hb
  clear hb
  go_wp2_with fail
  exact bodyPost_ret (v := .string s) (by simp [results, Tryz.results144, go_sem]) rfl ⟨rfl, hL0.bl⟩

set_option maxHeartbeats 4000000 in
set_option maxRecDepth 100000 in
theorem ftext_part (n : Int) (e : Nat) (s t : ByteArray) (HW : ∀ w, Calls Tryz.prog 89 #[.agg #[.int .u64 ((zl n : Nat) : Int), .string (zh n), .bool (zs n), .int .u64 ((lo e : Nat) : Int), .string (hs e)]] w fun xe w' => xe = .returned (.bool false) ∧ Below w.heap.size w w') (HT : ∀ w, Tab w → Calls Tryz.prog 77 #[.agg #[.int .u64 ((zl n : Nat) : Int), .string (zh n), .bool (zs n)]] w fun xe w' => xe = .returned (.string s) ∧ Below w.heap.size w w') (HU : ∀ w, Tab w → Calls Tryz.prog 42 #[.agg #[.int .u64 ((lo e : Nat) : Int), .string (hs e)]] w fun xe w' => xe = .returned (.string t) ∧ Below w.heap.size w w') (h1 : ((s.size : Nat) : Int) ≤ 20000000) (h2 : ((t.size : Nat) : Int) ≤ 20000000) (w : World) (htab : Tab w) :
    Calls Tryz.prog 144 #[.agg #[.int .u64 ((zl n : Nat) : Int), .string (zh n), .bool (zs n), .int .u64 ((lo e : Nat) : Int), .string (hs e)]] w fun xe w' => xe = .returned (.string ((s ++ ByteArray.mk #[47]) ++ t)) ∧ Below w.heap.size w w' := by
  have hL0 : GL w w [] := GL.start w
  replace HW := Lib.hid HW
  replace HT := Lib.hid HT
  replace HU := Lib.hid HU
  replace hL0 := (hL0.new rfl [.int .u64 ((zl n : Nat) : Int), .string (zh n), .bool (zs n), .int .u64 ((lo e : Nat) : Int), .string (hs e)] 79)
  generalize hweq : (w.alloc (.cells #[.int .u64 ((zl n : Nat) : Int), .string (zh n), .bool (zs n), .int .u64 ((lo e : Nat) : Int), .string (hs e)] 79)) = x1 at hL0
  go_enter Tryz.func144, Tryz.ntmps144
  have hN0 := cells_of _ 0 [] rfl (hL0.get _ _ List.mem_cons_self)
  simp only [cellsF, and_true, Nat.zero_add, Nat.reduceAdd] at hN0
  go_wp2_with fail
  clear hN0
  with_reducible refine Calls.mono (HW.out _) ?_
  rintro e x2 ⟨rfl, hb⟩
  replace hL0 := hL0.call hb
  clear hb hweq
  go_upto_region 3 with fail
  have ht := htab.below hL0.bl
  obtain ⟨α, iα, F, hF1, hF2⟩ := cls x2
  have hq0 := cls_box hF1 hL0 _ _ List.mem_cons_self
  simp only [cellsC, and_true, Nat.zero_add, Nat.reduceAdd] at hq0
  refine region_qs 9 (C := fun w' => ∃ x, w' = F x) (by kernel_rfl) (by kernel_rfl) (cls_drew hF2) ?_
  simp only [List.take_succ_cons, List.take_zero, List.drop_succ_cons, List.drop_zero, List.take_nil, List.drop_nil]
  repeat (go_big_quiet_step (first | fail | (go_at_call 77; with_reducible exact cls_callT hF1 hF2 ht HT.out _) | (go_at_call 42; with_reducible exact cls_callT hF1 hF2 ht HU.out _)))
  refine wpQuiet_nil ?_
  rintro wq ⟨xq, rfl⟩
  replace hL0 := hL0.call (hF1 xq)
  clear  hq0 hF2
  generalize F xq = x3 at hL0 ⊢
  clear hF1 xq iα F α
  clear ht
  go_wp2_with fail
  exact bodyPost_ret (v := .string ((s ++ ByteArray.mk #[47]) ++ t)) (by simp [results, Tryz.results144, go_sem]) rfl ⟨rfl, hL0.bl⟩

end Go.Proofs.YtecdnohhengfaaaGreatDoor

/-
  Layer 3: the contracts of the parts, in Lean's Rat.
-/
namespace Go.Proofs.YtecdnohhengfaaaGreatDoor
open Go.RowKit
attribute [local irreducible] lo hs sm s64 c64 d64 b64 mh ml pd pc qd qc val hiB str cmpI srD lz nb isq decB zl zh zs

theorem fe_den (q : Rat) : q.den = if fe q = 0 then 1 else fe q := by
  unfold fe
  have := q.den_nz
  split <;> simp_all
theorem frV_z (n : Int) : frV n 0 = .agg #[.int .u64 ((zl n : Nat) : Int), .string (zh n), .bool (zs n), .int .u64 0, .string ⟨#[]⟩] := by unfold frV; rw [lo_small Bs_pos, hs_small Bs_pos]; rfl
theorem fracV_int (z : Int) : fracV (z : Rat) = frV z 0 := rfl
theorem fracV_of {q : Rat} {n : Int} {d : Nat} (hn : q.num = n) (hd : q.den = d) : fracV q = frV n (if d = 1 then 0 else d) := by subst hn hd; rfl
theorem one_o (w : World) : Calls Tryz.prog 88 #[.int .u64 1] w fun e w' => e = .returned (natV 1) ∧ Below w.heap.size w w' := of_val 1 1 rfl (by unfold Bs; omega) w
theorem zero_o (w : World) : Calls Tryz.prog 88 #[.int .u64 0] w fun e w' => e = .returned (natV 0) ∧ Below w.heap.size w w' := of_val 0 0 rfl (by unfold Bs; omega) w
theorem dec_sgn (z : Int) : decide (sgn z < 0) = decide (z < 0) := by
  have : sgn z < 0 ↔ z < 0 := by unfold sgn; split <;> (try split) <;> omega
  simp only [this]

theorem whole_raw (n : Int) (e : Nat) (w : World) : Calls Tryz.prog 89 #[frV n e] w fun x w' => x = .returned (.bool (decide (e = 0))) ∧ Below w.heap.size w w' := by
  by_cases h : e = 0
  · subst h; rw [decide_eq_true rfl]; exact whole_yes n w
  · rw [decide_eq_false h]; exact whole_no n e h w
theorem den_raw (n : Int) (e : Nat) (w : World) : Calls Tryz.prog 85 #[frV n e] w fun x w' => x = .returned (natV (if e = 0 then 1 else e)) ∧ Below w.heap.size w w' := by
  by_cases h : e = 0
  · subst h; rw [if_pos rfl]; exact den_one_w n (whole_yes n) one_o w
  · rw [if_neg h]; exact den_part_w n e (whole_no n e h) w
theorem denF (q : Rat) (w : World) : Calls Tryz.prog 85 #[fracV q] w fun x w' => x = .returned (natV q.den) ∧ Below w.heap.size w w' := by
  have h := den_raw q.num (fe q) w
  rw [← fe_den] at h
  exact h
theorem lowest_raw (n : Int) (d : Nat) (w : World) : Calls Tryz.prog 149 #[intV n, natV d] w fun x w' => x = .returned (frV n (if d = 1 then 0 else d)) ∧ Below w.heap.size w w' := by
  by_cases h : d = 1
  · subst h; rw [if_pos rfl, frV_z]; exact lowest_one n one_o w
  · rw [if_neg h]; exact lowest_part n d one_o h w
theorem lowestF {q : Rat} {n : Int} {d : Nat} (hn : q.num = n) (hd : q.den = d) (w : World) : Calls Tryz.prog 149 #[intV n, natV d] w fun x w' => x = .returned (fracV q) ∧ Below w.heap.size w w' := by
  rw [fracV_of hn hd]; exact lowest_raw n d w
theorem pon_raw (n g : Nat) (hg : g ≠ 0) (hn : (digs n).length ≤ 100000000) (w : World) : Calls Tryz.prog 192 #[natV n, natV g] w fun x w' => x = .returned (natV (n / g)) ∧ Below w.heap.size w w' := by
  by_cases h : g = 1
  · subst h; rw [Nat.div_one]; exact pon_one n one_o w
  · exact pon_div n g (n / g) (n % g) one_o (fun w => div_pos n g (by omega) (by omega) w) h w
theorem tdiv_sgn (z : Int) (g : Nat) : z.tdiv (g : Int) = if decide (z < 0) then -((z.natAbs / g : Nat) : Int) else ((z.natAbs / g : Nat) : Int) := by
  by_cases h : z < 0
  · obtain ⟨n, rfl⟩ : ∃ n : Nat, z = -(n : Int) := ⟨z.natAbs, by omega⟩
    rw [decide_eq_true h, if_pos rfl, Int.natAbs_neg, Int.natAbs_natCast, Int.neg_tdiv, ← Int.ofNat_tdiv]
  · obtain ⟨n, rfl⟩ : ∃ n : Nat, z = (n : Int) := ⟨z.natAbs, by omega⟩
    rw [decide_eq_false h, Int.natAbs_natCast, ← Int.ofNat_tdiv]; rfl
theorem part_raw (z : Int) (g : Nat) (hg : g ≠ 0) (hz : dI z ≤ 100000000) (w : World) : Calls Tryz.prog 193 #[intV z, natV g] w fun x w' => x = .returned (intV (z.tdiv g)) ∧ Below w.heap.size w w' := by
  have hF := fun w => fromI (decide (z < 0)) (z.natAbs / g) (z.tdiv g) (tdiv_sgn z g) w
  have hs := dec_sgn z
  by_cases h : z < 0
  · rw [decide_eq_true h] at hF hs
    exact part_true z (sgn z) _ _ g _ (signI z) (absI z) (pon_raw _ g hg hz) hF hs w
  · rw [decide_eq_false h] at hF hs
    exact part_false z (sgn z) _ _ g _ (signI z) (absI z) (pon_raw _ g hg hz) hF hs w
theorem cancel_raw (z : Int) (d : Nat) (hd : d ≠ 0) (hz : dI z ≤ 100000000) (hl : (digs d).length ≤ 100000000) (w : World) :
    Calls Tryz.prog 148 #[intV z, natV d] w fun x w' => x = .returned (.tuple #[intV (z.tdiv (Nat.gcd z.natAbs d : Nat)), natV (d / Nat.gcd z.natAbs d)]) ∧ Below w.heap.size w w' := by
  have hg : Nat.gcd z.natAbs d ≠ 0 := fun e => hd (Nat.gcd_eq_zero_iff.1 e).2
  exact cancel_w z _ _ d _ _ (absI z) (fun w => gcd_any z.natAbs d (Nat.le_trans hz (by omega)) (by omega) w) (part_raw z _ hg hz) (pon_raw d _ hg hl) w
theorem times_raw (z : Int) (d : Nat) (hz : dI z ≤ 100000000) (hd : (digs d).length ≤ 100000000) (w : World) : Calls Tryz.prog 150 #[intV z, natV d] w fun x w' => x = .returned (intV (z * (d : Int))) ∧ Below w.heap.size w w' := by
  by_cases h : d = 1
  · subst h; rw [show z * ((1 : Nat) : Int) = z by omega]; exact times_one z one_o w
  · exact times_mul z (d : Int) _ d one_o (fun w => fromI false d (d : Int) rfl w) (fun w => mulI z (d : Int) (by omega) (by rw [dI_nat]; omega) w) h w
theorem intF (k : Int) (h1 : -9223372036854775808 ≤ k) (h2 : k < 9223372036854775808) (w : World) : Calls Tryz.prog 94 #[.int .i64 k] w fun x w' => x = .returned (fracV (k : Rat)) ∧ Below w.heap.size w w' := by
  rw [fracV_int, frV_z]; exact int_w k k (fun w => ofI k h1 h2 w) w
theorem from0F (n : Int) (w : World) : Calls Tryz.prog 86 #[intV n, natV 0] w fun x w' => x = .returned (.tuple #[fracV 0, .int .i64 5]) ∧ Below w.heap.size w w' := by
  rw [show fracV 0 = frV 0 0 from rfl, frV_z, (z0).1, (z0).2.1, (z0).2.2]; exact ffrom_zero n zero_o w
theorem fromF (z : Int) (d : Nat) (hd : d ≠ 0) (hz : dI z ≤ 100000000) (hl : (digs d).length ≤ 100000000) (w : World) : Calls Tryz.prog 86 #[intV z, natV d] w fun x w' => x = .returned (.tuple #[fracV (mkRat z d), .int .i64 0]) ∧ Below w.heap.size w w' := by
  obtain ⟨h1, h2⟩ := canc (z := z) hd
  exact ffrom_w z _ _ d _ _ zero_o (cancel_raw z d hd hz hl) (fun w => lowestF h1 h2 w) hd w
end Go.Proofs.YtecdnohhengfaaaGreatDoor

/-
  Layer 3: the contracts of the operations, in Lean's Rat.
-/
namespace Go.Proofs.YtecdnohhengfaaaGreatDoor
open Go.RowKit
attribute [local irreducible] lo hs sm s64 c64 d64 b64 mh ml pd pc qd qc val hiB str cmpI srD lz nb isq decB zl zh zs

theorem negF (q : Rat) (w : World) : Calls Tryz.prog 71 #[fracV q] w fun x w' => x = .returned (fracV (-q)) ∧ Below w.heap.size w w' := fneg_w q.num (-q.num) (fe q) (fun w => negI q.num w) w
theorem signF (q : Rat) (w : World) : Calls Tryz.prog 75 #[fracV q] w fun x w' => x = .returned (.int .i64 (sgnQ q)) ∧ Below w.heap.size w w' := by
  rw [sgnQ_num]; exact fsign_w q.num (sgn q.num) (fe q) (fun w => signI q.num w) w
theorem floorF (q : Rat) (k : Nat) (hq : Sz q k) (hk : k ≤ 100000000) (w : World) : Calls Tryz.prog 78 #[fracV q] w fun x w' => x = .returned (intV q.floor) ∧ Below w.heap.size w w' := by
  rw [rfloor]
  exact floor_w q.num (q.den : Int) _ (q.num % (q.den : Int)) (fe q) q.den (denF q) (fun w => fromI false q.den _ rfl w) (fun w => divI q.num (q.den : Int) (by have := q.den_nz; omega) (Nat.le_trans hq.1 (by omega)) (by rw [dI_nat]; exact Nat.le_trans hq.2 (by omega)) w) w
theorem ceilF (q : Rat) (k : Nat) (hq : Sz q k) (hk : k ≤ 100000000) (w : World) : Calls Tryz.prog 95 #[fracV q] w fun x w' => x = .returned (intV (rceil q)) ∧ Below w.heap.size w w' :=
  ceil_w q.num (-q.num) (-q).floor _ (fe q) (negF q) (floorF (-q) k hq.neg hk) (fun w => negI _ w) w
theorem cmpF (p q : Rat) (k : Nat) (hp : Sz p k) (hq : Sz q k) (hk : k ≤ 100000000) (w : World) : Calls Tryz.prog 76 #[fracV p, fracV q] w fun x w' => x = .returned (.int .i64 (cmpQ p q)) ∧ Below w.heap.size w w' := by
  rw [cmpQ_parts]
  exact fcmp_w p.num q.num _ _ _ (fe p) (fe q) p.den q.den (denF p) (denF q) (times_raw p.num q.den (Nat.le_trans hp.1 hk) (Nat.le_trans hq.2 hk)) (times_raw q.num p.den (Nat.le_trans hq.1 hk) (Nat.le_trans hp.2 hk)) (fun w => cmpII _ _ w) w
theorem invF (q : Rat) (h0 : q ≠ 0) (w : World) : Calls Tryz.prog 143 #[fracV q] w fun x w' => x = .returned (fracV q⁻¹) ∧ Below w.heap.size w w' := by
  obtain ⟨h1, h2⟩ := rinv_parts h0
  have hs : decide (sgnQ q < 0) = decide (q.num < 0) := by
    have : sgnQ q < 0 ↔ q.num < 0 := by rw [sgnQ_num]; split <;> (try split) <;> omega
    simp only [this]
  have hF := fun w => fromI (decide (q.num < 0)) q.den (if q.num < 0 then -(q.den : Int) else (q.den : Int)) (by by_cases h : q.num < 0 <;> simp [h]) w
  by_cases h : q.num < 0
  · rw [decide_eq_true h] at hs hF
    exact finv_true q.num _ _ _ (fe q) q.den _ _ (signF q) (denF q) hF (fun w => absI q.num w) (fun w => lowestF h1 h2 w) hs w
  · rw [decide_eq_false h] at hs hF
    exact finv_false q.num _ _ _ (fe q) q.den _ _ (signF q) (denF q) hF (fun w => absI q.num w) (fun w => lowestF h1 h2 w) hs w
theorem tdiv_dI {z : Int} {g k : Nat} (h : dI z ≤ k) : dI (z.tdiv (g : Int)) ≤ k := by
  refine Nat.le_trans (dI_mono ?_) h
  rw [Int.natAbs_tdiv]; exact Nat.div_le_self _ _
theorem ndiv_digs {n g k : Nat} (h : (digs n).length ≤ k) : (digs (n / g)).length ≤ k := Nat.le_trans (digs_mono (Nat.div_le_self _ _)) h
theorem mulF (p q : Rat) (k : Nat) (hp : Sz p k) (hq : Sz q k) (hk : k ≤ 100000000) (w : World) : Calls Tryz.prog 68 #[fracV p, fracV q] w fun x w' => x = .returned (fracV (p * q)) ∧ Below w.heap.size w w' := by
  obtain ⟨h1, h2⟩ := rmul_parts p q
  rw [Nat.mul_comm] at h2
  exact fmul_w p.num q.num _ _ _ _ (fe p) (fe q) p.den q.den _ _ _ _ (denF p) (denF q) (cancel_raw p.num q.den q.den_nz (Nat.le_trans hp.1 hk) (Nat.le_trans hq.2 hk)) (cancel_raw q.num p.den p.den_nz (Nat.le_trans hq.1 hk) (Nat.le_trans hp.2 hk))
    (fun w => mulI _ _ (Nat.le_trans (tdiv_dI hp.1) (by omega)) (Nat.le_trans (tdiv_dI hq.1) (by omega)) w) (fun w => mul_any _ _ (Nat.le_trans (ndiv_digs hp.2) (by omega)) (Nat.le_trans (ndiv_digs hq.2) (by omega)) w) (fun w => lowestF h1 h2 w) w
theorem zero_i (w : World) : Calls Tryz.prog 94 #[.int .i64 0] w fun x w' => x = .returned (frV 0 0) ∧ Below w.heap.size w w' := intF 0 (by decide) (by decide) w
theorem frV_00 : frV 0 0 = .agg #[.int .u64 0, .string ⟨#[]⟩, .bool false, .int .u64 0, .string ⟨#[]⟩] := by
  rw [frV_z, (z0).1, (z0).2.1, (z0).2.2]; rfl
theorem num_ne {q : Rat} (h : q ≠ 0) : q.num ≠ 0 := fun e => h (Rat.num_eq_zero.1 e)
theorem div0F (p : Rat) (w : World) : Calls Tryz.prog 61 #[fracV p, fracV 0] w fun x w' => x = .returned (.tuple #[fracV 0, .int .i64 5]) ∧ Below w.heap.size w w' := by
  have h := fdiv_zero p.num (fe p) zero_i w
  rw [← frV_00] at h
  exact h
theorem divF (p q : Rat) (k : Nat) (hp : Sz p k) (hq : Sz q k) (hk : k ≤ 100000000) (h0 : q ≠ 0) (w : World) : Calls Tryz.prog 61 #[fracV p, fracV q] w fun x w' => x = .returned (.tuple #[fracV (p / q), .int .i64 0]) ∧ Below w.heap.size w w' := by
  rw [Rat.div_def]
  exact fdiv_w p.num q.num _ _ (fe p) (fe q) _ _ zero_i (invF q h0) (mulF p q⁻¹ k hp (hq.inv h0) hk) (num_ne h0) w
theorem addF (p q : Rat) (k : Nat) (hp : Sz p k) (hq : Sz q k) (hk : k ≤ 10000000) (w : World) : Calls Tryz.prog 64 #[fracV p, fracV q] w fun x w' => x = .returned (fracV (p + q)) ∧ Below w.heap.size w w' := by
  obtain ⟨h1, h2⟩ := radd_parts p q
  have hg : Nat.gcd p.den q.den ≠ 0 := fun e => p.den_nz (Nat.gcd_eq_zero_iff.1 e).1
  have l1 : (digs (p.den / Nat.gcd p.den q.den)).length ≤ k := ndiv_digs hp.2
  have l2 : (digs (q.den / Nat.gcd p.den q.den)).length ≤ k := ndiv_digs hq.2
  have l3 : (digs (Nat.gcd p.den q.den)).length ≤ k := Nat.le_trans (digs_mono (Nat.gcd_le_left _ p.den_pos)) hp.2
  have lx : dI (p.num * ((q.den / Nat.gcd p.den q.den : Nat) : Int)) ≤ k + k := dI_mul hp.1 (by rw [dI_nat]; exact l2)
  have ly : dI (q.num * ((p.den / Nat.gcd p.den q.den : Nat) : Int)) ≤ k + k := dI_mul hq.1 (by rw [dI_nat]; exact l1)
  have ls := dI_add lx ly
  refine fadd_w p.num q.num _ (fe p) (fe q) _ ?_ w
  exact fcombine_add p.num q.num _ _ _ _ _ (fe p) (fe q) p.den q.den _ _ _ _ _ _ _ (denF p) (denF q) (fun w => gcd_any _ _ (Nat.le_trans hp.2 (by omega)) (Nat.le_trans hq.2 (by omega)) w)
    (pon_raw _ _ hg (Nat.le_trans hp.2 (by omega))) (pon_raw _ _ hg (Nat.le_trans hq.2 (by omega))) (times_raw _ _ (Nat.le_trans hp.1 (by omega)) (by omega)) (times_raw _ _ (Nat.le_trans hq.1 (by omega)) (by omega))
    (fun w => addI _ _ (by omega) (by omega) w) (cancel_raw _ _ hg (by omega) (by omega)) (fun w => mul_any _ _ (by omega) (by omega) w)
    (fun w => mul_any _ _ (Nat.le_trans (digs_mul_le l1 l2) (by omega)) (Nat.le_trans (ndiv_digs l3) (by omega)) w) (fun w => lowestF h1 h2 w)
theorem subF (p q : Rat) (k : Nat) (hp : Sz p k) (hq : Sz q k) (hk : k ≤ 10000000) (w : World) : Calls Tryz.prog 66 #[fracV p, fracV q] w fun x w' => x = .returned (fracV (p - q)) ∧ Below w.heap.size w w' := by
  have hp' := radd_parts p (-q)
  rw [← Rat.sub_eq_add_neg, Rat.neg_num, Rat.neg_den, Int.neg_mul, ← Int.sub_eq_add_neg] at hp'
  obtain ⟨h1, h2⟩ := hp'
  have hg : Nat.gcd p.den q.den ≠ 0 := fun e => p.den_nz (Nat.gcd_eq_zero_iff.1 e).1
  have l1 : (digs (p.den / Nat.gcd p.den q.den)).length ≤ k := ndiv_digs hp.2
  have l2 : (digs (q.den / Nat.gcd p.den q.den)).length ≤ k := ndiv_digs hq.2
  have l3 : (digs (Nat.gcd p.den q.den)).length ≤ k := Nat.le_trans (digs_mono (Nat.gcd_le_left _ p.den_pos)) hp.2
  have lx : dI (p.num * ((q.den / Nat.gcd p.den q.den : Nat) : Int)) ≤ k + k := dI_mul hp.1 (by rw [dI_nat]; exact l2)
  have ly : dI (q.num * ((p.den / Nat.gcd p.den q.den : Nat) : Int)) ≤ k + k := dI_mul hq.1 (by rw [dI_nat]; exact l1)
  have ls := dI_sub lx ly
  refine fsub_w p.num q.num _ (fe p) (fe q) _ ?_ w
  exact fcombine_sub p.num q.num _ _ _ _ _ (fe p) (fe q) p.den q.den _ _ _ _ _ _ _ (denF p) (denF q) (fun w => gcd_any _ _ (Nat.le_trans hp.2 (by omega)) (Nat.le_trans hq.2 (by omega)) w)
    (pon_raw _ _ hg (Nat.le_trans hp.2 (by omega))) (pon_raw _ _ hg (Nat.le_trans hq.2 (by omega))) (times_raw _ _ (Nat.le_trans hp.1 (by omega)) (by omega)) (times_raw _ _ (Nat.le_trans hq.1 (by omega)) (by omega))
    (fun w => subI _ _ (by omega) (by omega) w) (cancel_raw _ _ hg (by omega) (by omega)) (fun w => mul_any _ _ (by omega) (by omega) w)
    (fun w => mul_any _ _ (Nat.le_trans (digs_mul_le l1 l2) (by omega)) (Nat.le_trans (ndiv_digs l3) (by omega)) w) (fun w => lowestF h1 h2 w)
theorem of_val_q (n d : Int) (h0 : d ≠ 0) : mkRat (if d < 0 then -n else n) d.natAbs = (n : Rat) / (d : Rat) := by
  rw [Rat.mkRat_eq_div]
  by_cases h : d < 0
  · rw [if_pos h]
    have e : ((d.natAbs : Nat) : Rat) = -(d : Rat) := by
      rw [show ((d.natAbs : Nat) : Rat) = (((d.natAbs : Nat) : Int) : Rat) from (Rat.intCast_natCast _).symm, show ((d.natAbs : Nat) : Int) = -d by omega, Rat.intCast_neg]
    rw [e, Rat.intCast_neg]
    have hd : (d : Rat) ≠ 0 := by simpa using h0
    grind
  · rw [if_neg h, show ((d.natAbs : Nat) : Rat) = (((d.natAbs : Nat) : Int) : Rat) from (Rat.intCast_natCast _).symm, show ((d.natAbs : Nat) : Int) = d by omega]
theorem i64_dI {z : Int} (h1 : -9223372036854775808 ≤ z) (h2 : z < 9223372036854775808) : dI z ≤ 1 := digs_length_iff.2 (by unfold Bs; omega)
theorem ofF (n d : Int) (a1 : -9223372036854775808 ≤ n) (a2 : n < 9223372036854775808) (b1 : -9223372036854775808 ≤ d) (b2 : d < 9223372036854775808) (h0 : d ≠ 0) (w : World) :
    Calls Tryz.prog 93 #[.int .i64 n, .int .i64 d] w fun x w' => x = .returned (.tuple #[fracV ((n : Rat) / (d : Rat)), .int .i64 0]) ∧ Below w.heap.size w w' := by
  rw [← of_val_q n d h0]
  have hs := dec_sgn d
  have ln := i64_dI a1 a2
  have ld : (digs d.natAbs).length ≤ 1 := i64_dI b1 b2
  by_cases h : d < 0
  · rw [decide_eq_true h] at hs
    rw [if_pos h]
    exact fof_true n d (sgn d) (-n) _ n d _ _ 0 (fun w => ofI n a1 a2 w) (fun w => ofI d b1 b2 w) (signI d) (fun w => negI n w) (absI d) (fromF (-n) d.natAbs (by omega) (by rw [dI_neg]; omega) (by omega)) hs w
  · rw [decide_eq_false h] at hs
    rw [if_neg h]
    exact fof_false n d (sgn d) n _ n d _ _ 0 (fun w => ofI n a1 a2 w) (fun w => ofI d b1 b2 w) (signI d) (absI d) (fromF n d.natAbs (by omega) (by omega) (by omega)) hs w
theorem of0F (n : Int) (a1 : -9223372036854775808 ≤ n) (a2 : n < 9223372036854775808) (w : World) :
    Calls Tryz.prog 93 #[.int .i64 n, .int .i64 0] w fun x w' => x = .returned (.tuple #[fracV 0, .int .i64 5]) ∧ Below w.heap.size w w' :=
  fof_false n 0 (sgn 0) n 0 n 0 0 0 5 (fun w => ofI n a1 a2 w) (fun w => ofI 0 (by decide) (by decide) w) (signI 0) (absI 0) (from0F n) (by decide) w
end Go.Proofs.YtecdnohhengfaaaGreatDoor

/-
  Layer 3, walks: Parse; the law package's own functions.
-/
namespace Go.Proofs.YtecdnohhengfaaaGreatDoor
open Go.RowKit
attribute [local irreducible] lo hs sm s64 c64 d64 b64 mh ml pd pc qd qc val hiB str cmpI srD lz nb isq decB zl zh zs

set_option maxHeartbeats 4000000 in
set_option maxRecDepth 100000 in
theorem fparse_int (s p q : ByteArray) (z : Int) (f : Bool) (c : Int) (KT : World → Prop) (hKT : Keeps KT) (HC : ∀ w, KT w → Calls Tryz.prog 151 #[.string s, .string (ByteArray.mk #[47])] w fun xe w' => xe = .returned (.tuple #[.string p, .string q, .bool f]) ∧ Below w.heap.size w w') (HI : ∀ w, Calls Tryz.prog 124 #[.string p] w fun xe w' => xe = .returned (.tuple #[.agg #[.int .u64 ((zl z : Nat) : Int), .string (zh z), .bool (zs z)], .int .i64 c]) ∧ Below w.heap.size w w') (hc : (c == 0) = false) (w : World) (kKT : KT w) :
    Calls Tryz.prog 81 #[.string s] w fun xe w' => xe = .returned (.tuple #[.agg #[.int .u64 0, .string ⟨#[]⟩, .bool false, .int .u64 0, .string ⟨#[]⟩], .int .i64 c]) ∧ Below w.heap.size w w' := by
  have hL0 : GL w w [] := GL.start w
  replace hKT := Lib.hid hKT
  replace HC := Lib.hid HC
  replace HI := Lib.hid HI
  have hc2 : (c != 0) = true := by rw [bne, hc]; rfl
  replace hL0 := (hL0.new rfl [.int .u64 0, .string ⟨#[]⟩, .bool false, .int .u64 0, .string ⟨#[]⟩] 79)
  generalize hweq : (w.alloc (.cells #[.int .u64 0, .string ⟨#[]⟩, .bool false, .int .u64 0, .string ⟨#[]⟩] 79)) = x1 at hL0
  go_enter Tryz.func81, Tryz.ntmps81
  go_wp2_with fail
  with_reducible refine Calls.mono (HC.out _ (hKT.out.at hL0.bl kKT)) ?_
  rintro e x2 ⟨rfl, hb⟩
  replace hL0 := hL0.call hb
  clear hb hweq
  go_wp2_with fail
  with_reducible refine Calls.mono (HI.out _) ?_
  rintro e x3 ⟨rfl, hb⟩
  replace hL0 := hL0.call hb
  clear hb
  replace hL0 := (hL0.new rfl [.int .u64 ((zl z : Nat) : Int), .string (zh z), .bool (zs z)] 39)
  generalize hweq : (x3.alloc (.cells #[.int .u64 ((zl z : Nat) : Int), .string (zh z), .bool (zs z)] 39)) = x4 at hL0
  have hA := hL0.fc
  simp only [fcG, cellsF, neK, and_true, ne_eq, Nat.zero_add, Nat.reduceAdd] at hA
  have hP := hL0.put 1 (w.heap.size) _ rfl [.int .u64 0, .string ⟨#[]⟩, .bool false, .int .u64 0, .string ⟨#[]⟩] rfl
  simp only [setAll, List.set_cons_zero, List.set_cons_succ] at hP
  generalize hput1 : (((((x4.setCell ⟨w.heap.size, 0, none⟩ (.int .u64 0)).setCell ⟨w.heap.size, 1, none⟩ (.string ⟨#[]⟩)).setCell ⟨w.heap.size, 2, none⟩ (.bool false)).setCell ⟨w.heap.size, 3, none⟩ (.int .u64 0)).setCell ⟨w.heap.size, 4, none⟩ (.string ⟨#[]⟩)) = x5 at hP
  have hB1 := hP.fc
  simp only [fcG, cellsF, neK, and_true, ne_eq, Nat.zero_add, Nat.reduceAdd] at hB1
  replace hL0 := hP
  go_wp2_with fail
  exact bodyPost_ret (v := .tuple #[.agg #[.int .u64 0, .string ⟨#[]⟩, .bool false, .int .u64 0, .string ⟨#[]⟩], .int .i64 c]) (by simp [results, Tryz.results81, go_sem, hB1]) rfl ⟨rfl, hL0.bl⟩

set_option maxHeartbeats 4000000 in
set_option maxRecDepth 100000 in
theorem fparse_nat (s p q : ByteArray) (z : Int) (d : Nat) (c : Int) (KT : World → Prop) (hKT : Keeps KT) (HC : ∀ w, KT w → Calls Tryz.prog 151 #[.string s, .string (ByteArray.mk #[47])] w fun xe w' => xe = .returned (.tuple #[.string p, .string q, .bool true]) ∧ Below w.heap.size w w') (HI : ∀ w, Calls Tryz.prog 124 #[.string p] w fun xe w' => xe = .returned (.tuple #[.agg #[.int .u64 ((zl z : Nat) : Int), .string (zh z), .bool (zs z)], .int .i64 0]) ∧ Below w.heap.size w w') (HN : ∀ w, Calls Tryz.prog 116 #[.string q] w fun xe w' => xe = .returned (.tuple #[.agg #[.int .u64 ((lo d : Nat) : Int), .string (hs d)], .int .i64 c]) ∧ Below w.heap.size w w') (hc : (c == 0) = false) (w : World) (kKT : KT w) :
    Calls Tryz.prog 81 #[.string s] w fun xe w' => xe = .returned (.tuple #[.agg #[.int .u64 0, .string ⟨#[]⟩, .bool false, .int .u64 0, .string ⟨#[]⟩], .int .i64 c]) ∧ Below w.heap.size w w' := by
  have hL0 : GL w w [] := GL.start w
  replace hKT := Lib.hid hKT
  replace HC := Lib.hid HC
  replace HI := Lib.hid HI
  replace HN := Lib.hid HN
  have hc2 : (c != 0) = true := by rw [bne, hc]; rfl
  replace hL0 := (hL0.new rfl [.int .u64 0, .string ⟨#[]⟩, .bool false, .int .u64 0, .string ⟨#[]⟩] 79)
  generalize hweq : (w.alloc (.cells #[.int .u64 0, .string ⟨#[]⟩, .bool false, .int .u64 0, .string ⟨#[]⟩] 79)) = x1 at hL0
  go_enter Tryz.func81, Tryz.ntmps81
  go_wp2_with fail
  with_reducible refine Calls.mono (HC.out _ (hKT.out.at hL0.bl kKT)) ?_
  rintro e x2 ⟨rfl, hb⟩
  replace hL0 := hL0.call hb
  clear hb hweq
  go_wp2_with fail
  with_reducible refine Calls.mono (HI.out _) ?_
  rintro e x3 ⟨rfl, hb⟩
  replace hL0 := hL0.call hb
  clear hb
  replace hL0 := (hL0.new rfl [.int .u64 ((zl z : Nat) : Int), .string (zh z), .bool (zs z)] 39)
  generalize hweq : (x3.alloc (.cells #[.int .u64 ((zl z : Nat) : Int), .string (zh z), .bool (zs z)] 39)) = x4 at hL0
  go_wp2_with fail
  with_reducible refine Calls.mono (HN.out _) ?_
  rintro e x5 ⟨rfl, hb⟩
  replace hL0 := hL0.call hb
  clear hb hweq
  replace hL0 := (hL0.new rfl [.int .u64 ((lo d : Nat) : Int), .string (hs d)] 32)
  generalize hweq : (x5.alloc (.cells #[.int .u64 ((lo d : Nat) : Int), .string (hs d)] 32)) = x6 at hL0
  have hA := hL0.fc
  simp only [fcG, cellsF, neK, and_true, ne_eq, Nat.zero_add, Nat.reduceAdd] at hA
  have hP := hL0.put 2 (w.heap.size) _ rfl [.int .u64 0, .string ⟨#[]⟩, .bool false, .int .u64 0, .string ⟨#[]⟩] rfl
  simp only [setAll, List.set_cons_zero, List.set_cons_succ] at hP
  generalize hput1 : (((((x6.setCell ⟨w.heap.size, 0, none⟩ (.int .u64 0)).setCell ⟨w.heap.size, 1, none⟩ (.string ⟨#[]⟩)).setCell ⟨w.heap.size, 2, none⟩ (.bool false)).setCell ⟨w.heap.size, 3, none⟩ (.int .u64 0)).setCell ⟨w.heap.size, 4, none⟩ (.string ⟨#[]⟩)) = x7 at hP
  have hB1 := hP.fc
  simp only [fcG, cellsF, neK, and_true, ne_eq, Nat.zero_add, Nat.reduceAdd] at hB1
  replace hL0 := hP
  go_wp2_with fail
  exact bodyPost_ret (v := .tuple #[.agg #[.int .u64 0, .string ⟨#[]⟩, .bool false, .int .u64 0, .string ⟨#[]⟩], .int .i64 c]) (by simp [results, Tryz.results81, go_sem, hB1]) rfl ⟨rfl, hL0.bl⟩

set_option maxHeartbeats 4000000 in
set_option maxRecDepth 100000 in
theorem fparse_part (s p q : ByteArray) (z n : Int) (d e : Nat) (c : Int) (KT : World → Prop) (hKT : Keeps KT) (HC : ∀ w, KT w → Calls Tryz.prog 151 #[.string s, .string (ByteArray.mk #[47])] w fun xe w' => xe = .returned (.tuple #[.string p, .string q, .bool true]) ∧ Below w.heap.size w w') (HI : ∀ w, Calls Tryz.prog 124 #[.string p] w fun xe w' => xe = .returned (.tuple #[.agg #[.int .u64 ((zl z : Nat) : Int), .string (zh z), .bool (zs z)], .int .i64 0]) ∧ Below w.heap.size w w') (HN : ∀ w, Calls Tryz.prog 116 #[.string q] w fun xe w' => xe = .returned (.tuple #[.agg #[.int .u64 ((lo d : Nat) : Int), .string (hs d)], .int .i64 0]) ∧ Below w.heap.size w w') (HF : ∀ w, Calls Tryz.prog 86 #[.agg #[.int .u64 ((zl z : Nat) : Int), .string (zh z), .bool (zs z)], .agg #[.int .u64 ((lo d : Nat) : Int), .string (hs d)]] w fun xe w' => xe = .returned (.tuple #[.agg #[.int .u64 ((zl n : Nat) : Int), .string (zh n), .bool (zs n), .int .u64 ((lo e : Nat) : Int), .string (hs e)], .int .i64 c]) ∧ Below w.heap.size w w') (w : World) (kKT : KT w) :
    Calls Tryz.prog 81 #[.string s] w fun xe w' => xe = .returned (.tuple #[.agg #[.int .u64 ((zl n : Nat) : Int), .string (zh n), .bool (zs n), .int .u64 ((lo e : Nat) : Int), .string (hs e)], .int .i64 c]) ∧ Below w.heap.size w w' := by
  have hL0 : GL w w [] := GL.start w
  replace hKT := Lib.hid hKT
  replace HC := Lib.hid HC
  replace HI := Lib.hid HI
  replace HN := Lib.hid HN
  replace HF := Lib.hid HF
  replace hL0 := (hL0.new rfl [.int .u64 0, .string ⟨#[]⟩, .bool false, .int .u64 0, .string ⟨#[]⟩] 79)
  generalize hweq : (w.alloc (.cells #[.int .u64 0, .string ⟨#[]⟩, .bool false, .int .u64 0, .string ⟨#[]⟩] 79)) = x1 at hL0
  go_enter Tryz.func81, Tryz.ntmps81
  go_wp2_with fail
  with_reducible refine Calls.mono (HC.out _ (hKT.out.at hL0.bl kKT)) ?_
  rintro e x2 ⟨rfl, hb⟩
  replace hL0 := hL0.call hb
  clear hb hweq
  go_wp2_with fail
  with_reducible refine Calls.mono (HI.out _) ?_
  rintro e x3 ⟨rfl, hb⟩
  replace hL0 := hL0.call hb
  clear hb
  replace hL0 := (hL0.new rfl [.int .u64 ((zl z : Nat) : Int), .string (zh z), .bool (zs z)] 39)
  generalize hweq : (x3.alloc (.cells #[.int .u64 ((zl z : Nat) : Int), .string (zh z), .bool (zs z)] 39)) = x4 at hL0
  go_wp2_with fail
  with_reducible refine Calls.mono (HN.out _) ?_
  rintro e x5 ⟨rfl, hb⟩
  replace hL0 := hL0.call hb
  clear hb hweq
  replace hL0 := (hL0.new rfl [.int .u64 ((lo d : Nat) : Int), .string (hs d)] 32)
  generalize hweq : (x5.alloc (.cells #[.int .u64 ((lo d : Nat) : Int), .string (hs d)] 32)) = x6 at hL0
  have hN0 := cells_of _ 0 [] rfl (hL0.get _ _ List.mem_cons_self)
  simp only [cellsF, and_true, Nat.zero_add, Nat.reduceAdd] at hN0
  have hN1 := cells_of _ 0 [] rfl (hL0.get _ _ (List.mem_cons_of_mem _ List.mem_cons_self))
  simp only [cellsF, and_true, Nat.zero_add, Nat.reduceAdd] at hN1
  go_wp2_with fail
  clear hN0 hN1
  with_reducible refine Calls.mono (HF.out _) ?_
  rintro e x7 ⟨rfl, hb⟩
  replace hL0 := hL0.call hb
  clear hb hweq
  have hA := hL0.fc
  simp only [fcG, cellsF, neK, and_true, ne_eq, Nat.zero_add, Nat.reduceAdd] at hA
  have hP := hL0.put 2 (w.heap.size) _ rfl [.int .u64 ((zl n : Nat) : Int), .string (zh n), .bool (zs n), .int .u64 ((lo e : Nat) : Int), .string (hs e)] rfl
  simp only [setAll, List.set_cons_zero, List.set_cons_succ] at hP
  generalize hput1 : (((((x7.setCell ⟨w.heap.size, 0, none⟩ (.int .u64 ((zl n : Nat) : Int))).setCell ⟨w.heap.size, 1, none⟩ (.string (zh n))).setCell ⟨w.heap.size, 2, none⟩ (.bool (zs n))).setCell ⟨w.heap.size, 3, none⟩ (.int .u64 ((lo e : Nat) : Int))).setCell ⟨w.heap.size, 4, none⟩ (.string (hs e))) = x8 at hP
  have hB1 := hP.fc
  simp only [fcG, cellsF, neK, and_true, ne_eq, Nat.zero_add, Nat.reduceAdd] at hB1
  replace hL0 := hP
  go_wp2_with fail
  exact bodyPost_ret (v := .tuple #[.agg #[.int .u64 ((zl n : Nat) : Int), .string (zh n), .bool (zs n), .int .u64 ((lo e : Nat) : Int), .string (hs e)], .int .i64 c]) (by simp [results, Tryz.results81, go_sem, hB1]) rfl ⟨rfl, hL0.bl⟩

set_option maxHeartbeats 4000000 in
set_option maxRecDepth 100000 in
theorem lof_w (i j c x : Int) (e : Nat) (HF : ∀ w, Calls Tryz.prog 93 #[.int .i64 i, .int .i64 j] w fun xe w' => xe = .returned (.tuple #[.agg #[.int .u64 ((zl x : Nat) : Int), .string (zh x), .bool (zs x), .int .u64 ((lo e : Nat) : Int), .string (hs e)], .int .i64 c]) ∧ Below w.heap.size w w') (w : World) :
    Calls Tryz.prog 139 #[.int .i64 i, .int .i64 j] w fun xe w' => xe = .returned (.agg #[.int .u64 ((zl x : Nat) : Int), .string (zh x), .bool (zs x), .int .u64 ((lo e : Nat) : Int), .string (hs e)]) ∧ Below w.heap.size w w' := by
  have hL0 : GL w w [] := GL.start w
  replace HF := Lib.hid HF
  replace hL0 := (hL0.new rfl [.int .u64 0, .string ⟨#[]⟩, .bool false, .int .u64 0, .string ⟨#[]⟩] 79)
  generalize hweq : (w.alloc (.cells #[.int .u64 0, .string ⟨#[]⟩, .bool false, .int .u64 0, .string ⟨#[]⟩] 79)) = x1 at hL0
  go_enter Tryz.func139, Tryz.ntmps139
  go_wp2_with fail
  with_reducible refine Calls.mono (HF.out _) ?_
  rintro e x2 ⟨rfl, hb⟩
  replace hL0 := hL0.call hb
  clear hb hweq
  replace hL0 := (hL0.new rfl [.int .u64 ((zl x : Nat) : Int), .string (zh x), .bool (zs x), .int .u64 ((lo e : Nat) : Int), .string (hs e)] 79)
  generalize hweq : (x2.alloc (.cells #[.int .u64 ((zl x : Nat) : Int), .string (zh x), .bool (zs x), .int .u64 ((lo e : Nat) : Int), .string (hs e)] 79)) = x3 at hL0
  have hA := hL0.fc
  simp only [fcG, cellsF, neK, and_true, ne_eq, Nat.zero_add, Nat.reduceAdd] at hA
  have hP := hL0.put 1 (w.heap.size) _ rfl [.int .u64 ((zl x : Nat) : Int), .string (zh x), .bool (zs x), .int .u64 ((lo e : Nat) : Int), .string (hs e)] rfl
  simp only [setAll, List.set_cons_zero, List.set_cons_succ] at hP
  generalize hput1 : (((((x3.setCell ⟨w.heap.size, 0, none⟩ (.int .u64 ((zl x : Nat) : Int))).setCell ⟨w.heap.size, 1, none⟩ (.string (zh x))).setCell ⟨w.heap.size, 2, none⟩ (.bool (zs x))).setCell ⟨w.heap.size, 3, none⟩ (.int .u64 ((lo e : Nat) : Int))).setCell ⟨w.heap.size, 4, none⟩ (.string (hs e))) = x4 at hP
  have hB1 := hP.fc
  simp only [fcG, cellsF, neK, and_true, ne_eq, Nat.zero_add, Nat.reduceAdd] at hB1
  replace hL0 := hP
  go_wp2_with fail
  exact bodyPost_ret (v := .agg #[.int .u64 ((zl x : Nat) : Int), .string (zh x), .bool (zs x), .int .u64 ((lo e : Nat) : Int), .string (hs e)]) (by simp [results, Tryz.results139, go_sem, hB1]) rfl ⟨rfl, hL0.bl⟩

set_option maxHeartbeats 4000000 in
set_option maxRecDepth 100000 in
theorem ltext_true (x : Int) (e : Nat) (s : ByteArray) (HT : ∀ w, Tab w → Calls Tryz.prog 144 #[.agg #[.int .u64 ((zl x : Nat) : Int), .string (zh x), .bool (zs x), .int .u64 ((lo e : Nat) : Int), .string (hs e)]] w fun xe w' => xe = .returned (.string s) ∧ Below w.heap.size w w') (w : World) (htab : Tab w) :
    Calls Tryz.prog 140 #[.agg #[.int .u64 ((zl x : Nat) : Int), .string (zh x), .bool (zs x), .int .u64 ((lo e : Nat) : Int), .string (hs e)], .string s] w fun xe w' => xe = .returned (.bool true) ∧ Below w.heap.size w w' := by
  have hL0 : GL w w [] := GL.start w
  replace HT := Lib.hid HT
  replace hL0 := (hL0.new rfl [.int .u64 ((zl x : Nat) : Int), .string (zh x), .bool (zs x), .int .u64 ((lo e : Nat) : Int), .string (hs e)] 79)
  generalize hweq : (w.alloc (.cells #[.int .u64 ((zl x : Nat) : Int), .string (zh x), .bool (zs x), .int .u64 ((lo e : Nat) : Int), .string (hs e)] 79)) = x1 at hL0
  go_enter Tryz.func140, Tryz.ntmps140
  have hN0 := cells_of _ 0 [] rfl (hL0.get _ _ List.mem_cons_self)
  simp only [cellsF, and_true, Nat.zero_add, Nat.reduceAdd] at hN0
  go_wp2_with fail
  clear hN0
  with_reducible refine Calls.mono (HT.out _ (htab.below hL0.bl)) ?_
  rintro e x2 ⟨rfl, hb⟩
  replace hL0 := hL0.call hb
  clear hb hweq
  go_wp2_with fail
  exact bodyPost_ret (v := .bool true) (by simp [results, Tryz.results140, go_sem]) rfl ⟨rfl, hL0.bl⟩

end Go.Proofs.YtecdnohhengfaaaGreatDoor

/-
  Layer 3, walks: the choice among fractions.
-/
namespace Go.Proofs.YtecdnohhengfaaaGreatDoor
open Go.RowKit
attribute [local irreducible] lo hs sm s64 c64 d64 b64 mh ml pd pc qd qc val hiB str cmpI srD lz nb isq decB zl zh zs fe

/-- A slice's fractions. -/
structure FS (w : World) (g : Nat) (qs : List Rat) : Prop where
  cell : ∀ i (h : i < qs.length), w.cell? ⟨g, i * 5, none⟩ = some (.int .u64 ((zl qs[i].num : Nat) : Int)) ∧ w.cell? ⟨g, i * 5 + 1, none⟩ = some (.string (zh qs[i].num)) ∧ w.cell? ⟨g, i * 5 + 2, none⟩ = some (.bool (zs qs[i].num)) ∧
    w.cell? ⟨g, i * 5 + 3, none⟩ = some (.int .u64 ((lo (fe qs[i]) : Nat) : Int)) ∧ w.cell? ⟨g, i * 5 + 4, none⟩ = some (.string (hs (fe qs[i])))
  lt : g < w.heap.size
theorem FS.below {w w' : World} {g : Nat} {qs : List Rat} (h : FS w g qs) (hb : Below w.heap.size w w') : FS w' g qs := by
  have hs := hb.size
  have hl := h.lt
  refine ⟨fun i hi => ?_, by omega⟩
  obtain ⟨h0, h1, h2, h3, h4⟩ := h.cell i hi
  exact ⟨(hb.cell (p := ⟨g, i * 5, none⟩) hl).trans h0, (hb.cell (p := ⟨g, i * 5 + 1, none⟩) hl).trans h1, (hb.cell (p := ⟨g, i * 5 + 2, none⟩) hl).trans h2, (hb.cell (p := ⟨g, i * 5 + 3, none⟩) hl).trans h3, (hb.cell (p := ⟨g, i * 5 + 4, none⟩) hl).trans h4⟩
def SlQ (w : World) (v : Value) (qs : List Rat) : Prop := (∃ ao c, v = .slice ao 0 c ∧ qs = []) ∨ ∃ g c, v = .slice (some ⟨g, 0, none⟩) qs.length c ∧ FS w g qs
theorem SlQ.below {w w' : World} {v : Value} {qs : List Rat} (h : SlQ w v qs) (hb : Below w.heap.size w w') : SlQ w' v qs := by
  rcases h with h | ⟨g, c, h1, h2⟩
  · exact .inl h
  · exact .inr ⟨g, c, h1, h2.below hb⟩
theorem SlQ.keeps (v : Value) (qs : List Rat) : Keeps (fun w => SlQ w v qs) := fun _ _ hb h => h.below hb
/-- The choice of the first that no other is better than. -/
def amg (r : Rat → Rat → Bool) : List Rat → Rat
  | [] => 0
  | q :: l => l.foldl (fun b a => if r a b then a else b) q
theorem amg_snoc (r : Rat → Rat → Bool) (l : List Rat) (a : Rat) (h : l ≠ []) : amg r (l ++ [a]) = if r a (amg r l) then a else amg r l := by
  cases l with
  | nil => exact absurd rfl h
  | cons q l => simp only [amg, List.cons_append, List.foldl_append, List.foldl_cons, List.foldl_nil]; rfl
theorem amg_mem (r : Rat → Rat → Bool) : ∀ (l : List Rat), l ≠ [] → amg r l ∈ l := by
  intro l
  refine snoc_ind (p := fun l => l ≠ [] → amg r l ∈ l) l (fun h => absurd rfl h) fun m a ih _ => ?_
  by_cases hm : m = []
  · subst hm; simp [amg]
  · rw [amg_snoc r m a hm]
    split
    · simp
    · exact List.mem_append_left _ (ih hm)
theorem fe_zero : fe 0 = 0 := fe_one rfl
def gtQ (p q : Rat) : Bool := decide (q < p)
theorem cmpQ_gt (p q : Rat) : decide (0 < cmpQ p q) = gtQ p q := by
  unfold cmpQ gtQ
  by_cases h : p < q
  · rw [if_pos h, decide_eq_false (p := q < p) (by grind)]; rfl
  · rw [if_neg h]
    by_cases h' : p = q
    · rw [if_pos h', decide_eq_false (p := q < p) (by grind)]; rfl
    · rw [if_neg h', decide_eq_true (p := q < p) (by grind)]; rfl
set_option maxHeartbeats 4000000 in
set_option maxRecDepth 100000 in
theorem gtr_true (m n c : Int) (d e : Nat) (HC : ∀ w, Calls Tryz.prog 76 #[.agg #[.int .u64 ((zl m : Nat) : Int), .string (zh m), .bool (zs m), .int .u64 ((lo d : Nat) : Int), .string (hs d)], .agg #[.int .u64 ((zl n : Nat) : Int), .string (zh n), .bool (zs n), .int .u64 ((lo e : Nat) : Int), .string (hs e)]] w fun xe w' => xe = .returned (.int .i64 c) ∧ Below w.heap.size w w') (hc : decide (0 < c) = true) (w : World) :
    Calls Tryz.prog 161 #[.agg #[.int .u64 ((zl m : Nat) : Int), .string (zh m), .bool (zs m), .int .u64 ((lo d : Nat) : Int), .string (hs d)], .agg #[.int .u64 ((zl n : Nat) : Int), .string (zh n), .bool (zs n), .int .u64 ((lo e : Nat) : Int), .string (hs e)]] w fun xe w' => xe = .returned (.bool true) ∧ Below w.heap.size w w' := by
  have hL0 : GL w w [] := GL.start w
  replace HC := Lib.hid HC
  replace hL0 := ((hL0.new rfl [.int .u64 ((zl m : Nat) : Int), .string (zh m), .bool (zs m), .int .u64 ((lo d : Nat) : Int), .string (hs d)] 79).new (K := w.heap.size + 1) (szA _ _) [.int .u64 ((zl n : Nat) : Int), .string (zh n), .bool (zs n), .int .u64 ((lo e : Nat) : Int), .string (hs e)] 79)
  generalize hweq : ((w.alloc (.cells #[.int .u64 ((zl m : Nat) : Int), .string (zh m), .bool (zs m), .int .u64 ((lo d : Nat) : Int), .string (hs d)] 79)).alloc (.cells #[.int .u64 ((zl n : Nat) : Int), .string (zh n), .bool (zs n), .int .u64 ((lo e : Nat) : Int), .string (hs e)] 79)) = x1 at hL0
  go_enter Tryz.func161, Tryz.ntmps161
  have hN0 := cells_of _ 0 [] rfl (hL0.get _ _ List.mem_cons_self)
  simp only [cellsF, and_true, Nat.zero_add, Nat.reduceAdd] at hN0
  have hN1 := cells_of _ 0 [] rfl (hL0.get _ _ (List.mem_cons_of_mem _ List.mem_cons_self))
  simp only [cellsF, and_true, Nat.zero_add, Nat.reduceAdd] at hN1
  go_wp2_with fail
  clear hN0 hN1
  with_reducible refine Calls.mono (HC.out _) ?_
  rintro e x2 ⟨rfl, hb⟩
  replace hL0 := hL0.call hb
  clear hb hweq
  go_wp2_with fail
  exact bodyPost_ret (v := .bool true) (by simp [results, Tryz.results161, go_sem]) rfl ⟨rfl, hL0.bl⟩

set_option maxHeartbeats 4000000 in
set_option maxRecDepth 100000 in
theorem gtr_false (m n c : Int) (d e : Nat) (HC : ∀ w, Calls Tryz.prog 76 #[.agg #[.int .u64 ((zl m : Nat) : Int), .string (zh m), .bool (zs m), .int .u64 ((lo d : Nat) : Int), .string (hs d)], .agg #[.int .u64 ((zl n : Nat) : Int), .string (zh n), .bool (zs n), .int .u64 ((lo e : Nat) : Int), .string (hs e)]] w fun xe w' => xe = .returned (.int .i64 c) ∧ Below w.heap.size w w') (hc : decide (0 < c) = false) (w : World) :
    Calls Tryz.prog 161 #[.agg #[.int .u64 ((zl m : Nat) : Int), .string (zh m), .bool (zs m), .int .u64 ((lo d : Nat) : Int), .string (hs d)], .agg #[.int .u64 ((zl n : Nat) : Int), .string (zh n), .bool (zs n), .int .u64 ((lo e : Nat) : Int), .string (hs e)]] w fun xe w' => xe = .returned (.bool false) ∧ Below w.heap.size w w' := by
  have hL0 : GL w w [] := GL.start w
  replace HC := Lib.hid HC
  replace hL0 := ((hL0.new rfl [.int .u64 ((zl m : Nat) : Int), .string (zh m), .bool (zs m), .int .u64 ((lo d : Nat) : Int), .string (hs d)] 79).new (K := w.heap.size + 1) (szA _ _) [.int .u64 ((zl n : Nat) : Int), .string (zh n), .bool (zs n), .int .u64 ((lo e : Nat) : Int), .string (hs e)] 79)
  generalize hweq : ((w.alloc (.cells #[.int .u64 ((zl m : Nat) : Int), .string (zh m), .bool (zs m), .int .u64 ((lo d : Nat) : Int), .string (hs d)] 79)).alloc (.cells #[.int .u64 ((zl n : Nat) : Int), .string (zh n), .bool (zs n), .int .u64 ((lo e : Nat) : Int), .string (hs e)] 79)) = x1 at hL0
  go_enter Tryz.func161, Tryz.ntmps161
  have hN0 := cells_of _ 0 [] rfl (hL0.get _ _ List.mem_cons_self)
  simp only [cellsF, and_true, Nat.zero_add, Nat.reduceAdd] at hN0
  have hN1 := cells_of _ 0 [] rfl (hL0.get _ _ (List.mem_cons_of_mem _ List.mem_cons_self))
  simp only [cellsF, and_true, Nat.zero_add, Nat.reduceAdd] at hN1
  go_wp2_with fail
  clear hN0 hN1
  with_reducible refine Calls.mono (HC.out _) ?_
  rintro e x2 ⟨rfl, hb⟩
  replace hL0 := hL0.call hb
  clear hb hweq
  go_wp2_with fail
  exact bodyPost_ret (v := .bool false) (by simp [results, Tryz.results161, go_sem]) rfl ⟨rfl, hL0.bl⟩

set_option maxHeartbeats 4000000 in
set_option maxRecDepth 100000 in
theorem among_max (ao : Option Addr) (n c : Nat) (qs : List Rat) (HB : ∀ p q, p ∈ qs → q ∈ qs → ∀ w, Calls Tryz.prog 161 #[fracV p, fracV q] w fun xe w' => xe = .returned (.bool (gtQ p q)) ∧ Below w.heap.size w w') (w : World) (hq : SlQ w (.slice ao n c) qs) (hn : (0 < n → ∃ g, ao = some ⟨g, 0, none⟩ ∧ FS w g qs) ∧ qs.length = n ∧ n ≤ 1000000) :
    Calls Tryz.prog 162 #[.agg #[.func (.func 161) #[] #[]], .slice ao n c] w fun xe w' => xe = .returned (fracV (amg gtQ qs)) ∧ Below w.heap.size w w' := by
  have hL0 : GL w w [] := GL.start w
  have HB := Lib.hid HB
  have hle := hn.2
  have hcell := Lib.hid hn.1
  clear hn
  replace hL0 := (((hL0.new rfl [.func (.func 161) #[] #[]] 201).new (K := w.heap.size + 1) (szA _ _) [.int .u64 0, .string ⟨#[]⟩, .bool false, .int .u64 0, .string ⟨#[]⟩] 79).new (K := w.heap.size + 1 + 1) (by simp only [World.size_alloc]) [.int .u64 0, .string ⟨#[]⟩, .bool false, .int .u64 0, .string ⟨#[]⟩] 79)
  generalize hweq : (((w.alloc (.cells #[.func (.func 161) #[] #[]] 201)).alloc (.cells #[.int .u64 0, .string ⟨#[]⟩, .bool false, .int .u64 0, .string ⟨#[]⟩] 79)).alloc (.cells #[.int .u64 0, .string ⟨#[]⟩, .bool false, .int .u64 0, .string ⟨#[]⟩] 79)) = x1 at hL0
  have hsl := Lib.hid (SlQ.below hq hL0.bl)
  clear hq
  go_enter Tryz.func162, Tryz.ntmps162
  have hA := hL0.fc
  simp only [fcG, cellsF, neK, and_true, ne_eq, Nat.zero_add, Nat.reduceAdd] at hA
  go_wp2_with fail
  clear hA
  go_loopw [10] (fun z wr => ∃ i : Nat, i ≤ n ∧ z = .int .i64 (i : Int) ∧ ∃ q : Rat, q = amg gtQ (qs.take i) ∧ GL w wr [(w.heap.size + 1 + 1, [.int .u64 ((zl q.num : Nat) : Int), .string (zh q.num), .bool (zs q.num), .int .u64 ((lo (fe q) : Nat) : Int), .string (hs (fe q))]), (w.heap.size + 1, [.int .u64 0, .string ⟨#[]⟩, .bool false, .int .u64 0, .string ⟨#[]⟩]), (w.heap.size, [.func (.func 161) #[] #[]])]) (fun z _ => n - (intOf z).toNat)
  case atStart => exact ⟨0, Nat.zero_le _, rfl, 0, rfl, by rw [fe_zero, (show (0 : Rat).num = 0 from rfl), (z0).1, (z0).2.1, (z0).2.2, lo_small Bs_pos, hs_small Bs_pos]; exact hL0⟩
  case round =>
    clear hL0 hweq
    obtain ⟨i, hi, rfl, q, hq, hL0⟩ := hrel
    rcases Nat.lt_or_ge i n with hin | hin
    · obtain ⟨g, rfl, hfs⟩ := hcell.out (by omega)
      have hf := (hfs.below hL0.bl).cell i (by omega)
      have k2 : decide ((i : Int) < (n : Int)) = true := decide_eq_true (by omega)
      have k1 : (i : Int) < (n : Int) := by omega
      have hlen : qs.length = n := by omega
      obtain ⟨a, ha⟩ : ∃ a, a = qs[i]'(by omega) := ⟨_, rfl⟩
      rw [← ha] at hf
      have hmem : a ∈ qs := by rw [ha]; exact List.getElem_mem _
      have htk : qs.take (i + 1) = qs.take i ++ [a] := by rw [List.take_succ_eq_append_getElem (by omega), ha]
      clear ha
      obtain ⟨f0, f1, f2, f3, f4⟩ := hf
      by_cases hi0 : i = 0
      · subst hi0
        have ek : (((0 : Nat) : Int) == 0) = true := rfl
        have kn : 0 < n := by omega
        have kd : decide (0 < n) = true := decide_eq_true kn
        simp only [Nat.zero_mul, Nat.zero_add] at f0 f1 f2 f3 f4
        replace htk := Lib.hid htk
        replace hq := Lib.hid hq
        replace hlen := Lib.hid hlen
        clear k1 hin hi
        replace hL0 := (hL0.new rfl [.int .u64 ((zl a.num : Nat) : Int), .string (zh a.num), .bool (zs a.num), .int .u64 ((lo (fe a) : Nat) : Int), .string (hs (fe a))] 79)
        generalize hweq : (wr.alloc (.cells #[.int .u64 ((zl a.num : Nat) : Int), .string (zh a.num), .bool (zs a.num), .int .u64 ((lo (fe a) : Nat) : Int), .string (hs (fe a))] 79)) = x2 at hL0
        have hA := hL0.fc
        simp only [fcG, cellsF, neK, and_true, ne_eq, Nat.zero_add, Nat.reduceAdd] at hA
        have hP := hL0.put 1 (w.heap.size + 1 + 1) _ rfl [.int .u64 ((zl a.num : Nat) : Int), .string (zh a.num), .bool (zs a.num), .int .u64 ((lo (fe a) : Nat) : Int), .string (hs (fe a))] rfl
        simp only [setAll, List.set_cons_zero, List.set_cons_succ] at hP
        generalize hput1 : (((((x2.setCell ⟨w.heap.size + 1 + 1, 0, none⟩ (.int .u64 ((zl a.num : Nat) : Int))).setCell ⟨w.heap.size + 1 + 1, 1, none⟩ (.string (zh a.num))).setCell ⟨w.heap.size + 1 + 1, 2, none⟩ (.bool (zs a.num))).setCell ⟨w.heap.size + 1 + 1, 3, none⟩ (.int .u64 ((lo (fe a) : Nat) : Int))).setCell ⟨w.heap.size + 1 + 1, 4, none⟩ (.string (hs (fe a)))) = x3 at hP
        have hB1 := hP.fc
        simp only [fcG, cellsF, neK, and_true, ne_eq, Nat.zero_add, Nat.reduceAdd] at hB1
        replace hL0 := hP
        go_wp2_with fail
        go_roundw
        case rel => exact ⟨0 + 1, by omega, by first | rfl | go_num, a, by rw [htk.out]; rfl, hL0.weak (List.Sublist.cons _ (List.Sublist.refl _))⟩
        case measure => simp [intOf]; omega
      · have ek : ((i : Int) == 0) = false := beq_eq_false_iff_ne.2 (by omega)
        have hne : qs.take i ≠ [] := fun e => by have := congrArg List.length e; rw [List.length_take, List.length_nil] at this; omega
        have hsn := Lib.hid (amg_snoc gtQ (qs.take i) a hne)
        clear hne
        have hqm : q = 0 ∨ q ∈ qs := .inr (by rw [hq]; exact List.mem_of_mem_take (amg_mem gtQ (qs.take i) (fun e => by have := congrArg List.length e; rw [List.length_take, List.length_nil] at this; omega)))
        have hqm2 : q ∈ qs := by rw [hq]; exact List.mem_of_mem_take (amg_mem gtQ (qs.take i) (fun e => by have := congrArg List.length e; rw [List.length_take, List.length_nil] at this; omega))
        clear hqm
        have HB1 := Lib.hid (HB.out a q hmem hqm2)
        clear hmem hqm2
        replace htk := Lib.hid htk
        replace hq := Lib.hid hq
        replace hlen := Lib.hid hlen
        obtain ⟨d, hd⟩ : ∃ d, d = gtQ a q := ⟨_, rfl⟩
        rw [← hd] at HB1
        replace hd := Lib.hid hd
        have k3 := Lib.hid hi
        have k4 := Lib.hid hin
        replace hL0 := (hL0.new rfl [.int .u64 ((zl a.num : Nat) : Int), .string (zh a.num), .bool (zs a.num), .int .u64 ((lo (fe a) : Nat) : Int), .string (hs (fe a))] 79)
        generalize hweq : (wr.alloc (.cells #[.int .u64 ((zl a.num : Nat) : Int), .string (zh a.num), .bool (zs a.num), .int .u64 ((lo (fe a) : Nat) : Int), .string (hs (fe a))] 79)) = x4 at hL0
        have hA := hL0.fc
        simp only [fcG, cellsF, neK, and_true, ne_eq, Nat.zero_add, Nat.reduceAdd] at hA
        go_wp2_with fail
        clear hA
        with_reducible refine Calls.mono (HB1.out _) ?_
        rintro e x5 ⟨rfl, hb⟩
        replace hL0 := hL0.call hb
        clear hb hweq
        cases d with
        | true =>
          have hA := hL0.fc
          simp only [fcG, cellsF, neK, and_true, ne_eq, Nat.zero_add, Nat.reduceAdd] at hA
          have hP := hL0.put 1 (w.heap.size + 1 + 1) _ rfl [.int .u64 ((zl a.num : Nat) : Int), .string (zh a.num), .bool (zs a.num), .int .u64 ((lo (fe a) : Nat) : Int), .string (hs (fe a))] rfl
          simp only [setAll, List.set_cons_zero, List.set_cons_succ] at hP
          generalize hput2 : (((((x5.setCell ⟨w.heap.size + 1 + 1, 0, none⟩ (.int .u64 ((zl a.num : Nat) : Int))).setCell ⟨w.heap.size + 1 + 1, 1, none⟩ (.string (zh a.num))).setCell ⟨w.heap.size + 1 + 1, 2, none⟩ (.bool (zs a.num))).setCell ⟨w.heap.size + 1 + 1, 3, none⟩ (.int .u64 ((lo (fe a) : Nat) : Int))).setCell ⟨w.heap.size + 1 + 1, 4, none⟩ (.string (hs (fe a)))) = x6 at hP
          have hB2 := hP.fc
          simp only [fcG, cellsF, neK, and_true, ne_eq, Nat.zero_add, Nat.reduceAdd] at hB2
          replace hL0 := hP
          go_wp2_with fail
          go_roundw
          case rel => exact ⟨i + 1, by omega, by first | rfl | go_num, a, by rw [htk.out, hsn.out, ← hq.out, if_pos hd.out.symm], hL0.weak (List.Sublist.cons _ (List.Sublist.refl _))⟩
          case measure => simp [intOf]; omega
        | false =>
          have hA := hL0.fc
          simp only [fcG, cellsF, neK, and_true, ne_eq, Nat.zero_add, Nat.reduceAdd] at hA
          go_wp2_with fail
          go_roundw
          case rel => exact ⟨i + 1, by omega, by first | rfl | go_num, q, by rw [htk.out, hsn.out, ← hq.out, if_neg (by rw [← hd.out]; exact Bool.false_ne_true)], hL0.weak (List.Sublist.cons _ (List.Sublist.refl _))⟩
          case measure => simp [intOf]; omega
    · obtain rfl : i = n := by omega
      have k2 : decide ((i : Int) < (i : Int)) = false := decide_eq_false (by omega)
      have hqq : q = amg gtQ qs := by rw [hq, List.take_of_length_le (by omega)]
      clear hq
      replace hqq := Lib.hid hqq
      replace hle := Lib.hid hle
      have hA := hL0.fc
      simp only [fcG, cellsF, neK, and_true, ne_eq, Nat.zero_add, Nat.reduceAdd] at hA
      have hP := hL0.put 1 (w.heap.size + 1) _ rfl [.int .u64 ((zl q.num : Nat) : Int), .string (zh q.num), .bool (zs q.num), .int .u64 ((lo (fe q) : Nat) : Int), .string (hs (fe q))] rfl
      simp only [setAll, List.set_cons_zero, List.set_cons_succ] at hP
      generalize hput3 : (((((wr.setCell ⟨w.heap.size + 1, 0, none⟩ (.int .u64 ((zl q.num : Nat) : Int))).setCell ⟨w.heap.size + 1, 1, none⟩ (.string (zh q.num))).setCell ⟨w.heap.size + 1, 2, none⟩ (.bool (zs q.num))).setCell ⟨w.heap.size + 1, 3, none⟩ (.int .u64 ((lo (fe q) : Nat) : Int))).setCell ⟨w.heap.size + 1, 4, none⟩ (.string (hs (fe q)))) = x6 at hP
      have hB3 := hP.fc
      simp only [fcG, cellsF, neK, and_true, ne_eq, Nat.zero_add, Nat.reduceAdd] at hB3
      replace hL0 := hP
      go_wp2_with fail
      exact bodyPost_ret (v := fracV q) (by simp [results, Tryz.results162, go_sem, hB3]) rfl ⟨by rw [hqq.out], hL0.bl⟩

end Go.Proofs.YtecdnohhengfaaaGreatDoor

/-
  Layer 3: the contracts of powers, texts, Parse, Max, Min, the law package's own functions, in Lean's Rat.
-/
namespace Go.Proofs.YtecdnohhengfaaaGreatDoor
open Go.RowKit
attribute [local irreducible] lo hs sm s64 c64 d64 b64 mh ml pd pc qd qc val hiB str cmpI srD lz nb isq decB zl zh zs

theorem int_pow_sgn (z : Int) : ∀ k : Nat, z ^ k = if (decide (z < 0) && decide (k % 2 = 1)) = true then -((z.natAbs ^ k : Nat) : Int) else ((z.natAbs ^ k : Nat) : Int)
  | 0 => by simp
  | k + 1 => by
    rw [Int.pow_succ, int_pow_sgn z k, Nat.pow_succ]
    by_cases h : z < 0
    · rw [decide_eq_true h, Bool.true_and, Bool.true_and]
      have e : z = -(z.natAbs : Int) := by omega
      rcases Nat.mod_two_eq_zero_or_one k with hk | hk
      · rw [decide_eq_false (p := k % 2 = 1) (by omega), decide_eq_true (p := (k + 1) % 2 = 1) (by omega), if_neg Bool.false_ne_true, if_pos rfl]
        conv => lhs; rw [e]
        rw [Int.mul_neg, Int.natAbs_neg, Int.natAbs_natCast, Int.natCast_mul]
      · rw [decide_eq_true hk, decide_eq_false (p := (k + 1) % 2 = 1) (by omega), if_neg Bool.false_ne_true, if_pos rfl]
        conv => lhs; rw [e]
        rw [Int.neg_mul_neg, Int.natAbs_neg, Int.natAbs_natCast, Int.natCast_mul]
    · rw [decide_eq_false h, Bool.false_and, Bool.false_and, if_neg Bool.false_ne_true, if_neg Bool.false_ne_true]
      have e : z = (z.natAbs : Int) := by omega
      conv => lhs; rw [e]
      rw [Int.natAbs_natCast, Int.natCast_mul]
theorem odd_tmod (k : Nat) : (((k : Int).tmod 2) == 1) = decide (k % 2 = 1) := by
  rw [show (2 : Int) = ((2 : Nat) : Int) from rfl, ← Int.ofNat_tmod]
  by_cases h : k % 2 = 1
  · rw [h, decide_eq_true rfl]; rfl
  · rw [show k % 2 = 0 by omega]; rfl
theorem dec_sgnQ (q : Rat) : decide (sgnQ q < 0) = decide (q.num < 0) := by
  have : sgnQ q < 0 ↔ q.num < 0 := by rw [sgnQ_num]; split <;> (try split) <;> omega
  simp only [this]
theorem powerF (q : Rat) (k : Nat) (hk : k ≤ 4096) (hn : k = 0 ∨ nb q.num.natAbs ≤ 262144 / k) (hd : k = 0 ∨ nb q.den ≤ 262144 / k) (m : Nat) (hq : Sz q m) (hm : m ≤ 100000000) (w : World) :
    Calls Tryz.prog 160 #[fracV q, .int .i64 (k : Int)] w fun x w' => x = .returned (.tuple #[fracV (q ^ k), .int .i64 0]) ∧ Below w.heap.size w w' := by
  have hs := dec_sgnQ q
  have hP := fun w => pow_ok q.num.natAbs k hk hn (Nat.le_trans hq.1 (by omega)) w
  have hQ := fun w => pow_ok q.den k hk hd (Nat.le_trans hq.2 (by omega)) w
  have hF := fun w => fromI (decide (q.num < 0) && decide (k % 2 = 1)) (q.num.natAbs ^ k) (q.num ^ k) (int_pow_sgn q.num k) w
  have hL := fun w => lowestF (Rat.num_pow q k) (Rat.den_pow q k) w
  by_cases h : q.num < 0
  · rw [decide_eq_true h] at hs hF
    rw [Bool.true_and] at hF
    by_cases ho : k % 2 = 1
    · rw [decide_eq_true ho] at hF
      exact fpower_odd q.num _ _ _ (fe q) _ q.den _ _ _ _ (fun w => absI q.num w) hP (denF q) hQ (signF q) hF hL hs (by rw [odd_tmod, decide_eq_true ho]) w
    · rw [decide_eq_false ho] at hF
      exact fpower_even q.num _ _ _ (fe q) _ q.den _ _ _ _ (fun w => absI q.num w) hP (denF q) hQ (signF q) hF hL hs (by rw [odd_tmod, decide_eq_false ho]) w
  · rw [decide_eq_false h] at hs hF
    rw [Bool.false_and] at hF
    exact fpower_pos q.num _ _ _ (fe q) _ q.den _ _ _ _ (fun w => absI q.num w) hP (denF q) hQ (signF q) hF hL hs w
theorem powF_arg (q : Rat) (k : Int) (h : k < -4096 ∨ 4096 < k) (w : World) :
    Calls Tryz.prog 98 #[fracV q, .int .i64 k] w fun x w' => x = .returned (.tuple #[fracV 0, .int .i64 1]) ∧ Below w.heap.size w w' := by
  rw [show fracV 0 = frV 0 0 from rfl, frV_00]
  by_cases h1 : k < -4096
  · exact fpow_low q.num (fe q) k (decide_eq_true h1) w
  · exact fpow_high q.num (fe q) k (decide_eq_false h1) (decide_eq_true (by omega)) w
theorem powF_pos (q : Rat) (k : Nat) (hk : k ≤ 4096) (p : Rat) (c : Int) (HP : ∀ w, Calls Tryz.prog 160 #[fracV q, .int .i64 (k : Int)] w fun x w' => x = .returned (.tuple #[fracV p, .int .i64 c]) ∧ Below w.heap.size w w') (w : World) :
    Calls Tryz.prog 98 #[fracV q, .int .i64 (k : Int)] w fun x w' => x = .returned (.tuple #[fracV p, .int .i64 c]) ∧ Below w.heap.size w w' :=
  fpow_pos q.num p.num c (fe q) (fe p) k HP (decide_eq_false (by omega)) (decide_eq_false (by omega)) (decide_eq_true (by omega)) w
theorem powF_zero (k : Int) (h1 : -4096 ≤ k) (h2 : k < 0) (w : World) :
    Calls Tryz.prog 98 #[fracV 0, .int .i64 k] w fun x w' => x = .returned (.tuple #[fracV 0, .int .i64 5]) ∧ Below w.heap.size w w' := by
  have h := fpow_zero k zero_i (decide_eq_false (by omega)) (decide_eq_false (by omega)) (decide_eq_false (by omega)) w
  rw [← frV_00] at h
  exact h
theorem powF_neg (q : Rat) (h0 : q ≠ 0) (k : Int) (l : Nat) (hl : k = -(l : Int)) (hp : 0 < l) (hk : l ≤ 4096) (p : Rat) (c : Int) (HP : ∀ w, Calls Tryz.prog 160 #[fracV q⁻¹, .int .i64 (l : Int)] w fun x w' => x = .returned (.tuple #[fracV p, .int .i64 c]) ∧ Below w.heap.size w w') (w : World) :
    Calls Tryz.prog 98 #[fracV q, .int .i64 k] w fun x w' => x = .returned (.tuple #[fracV p, .int .i64 c]) ∧ Below w.heap.size w w' :=
  fpow_neg q.num _ p.num c (fe q) _ (fe p) k l zero_i (invF q h0) HP (decide_eq_false (by omega)) (decide_eq_false (by omega)) (decide_eq_false (by omega)) (by rw [hl, Int.neg_neg]; exact IntWalk.i64_in _ (by omega)) (num_ne h0) w

/-- A fraction's text. -/
def qtxt (q : Rat) : ByteArray := if q.den = 1 then ztxt q.num else ztxt q.num ++ (ByteArray.mk #[47]) ++ txt q.den
theorem ztxt_small {z : Int} {k : Nat} (hk : 0 < k) (h : dI z ≤ k) : (ztxt z).size ≤ 20 * k + 1 := by
  have h1 := txt_small (n := z.natAbs) hk h
  unfold ztxt
  split
  · rw [ByteArray.size_append]
    have : (ByteArray.mk #[45]).size = 1 := rfl
    omega
  · omega
theorem textF (q : Rat) (k : Nat) (hq : Sz q k) (hk : k ≤ 100000) (w : World) (htab : Tab w) : Calls Tryz.prog 144 #[fracV q] w fun x w' => x = .returned (.string (qtxt q)) ∧ Below w.heap.size w w' := by
  have hT := fun w h => textI q.num (Nat.le_trans hq.1 (by omega)) w h
  unfold qtxt
  by_cases h : q.den = 1
  · rw [if_pos h, show fracV q = frV q.num 0 by unfold fracV; rw [fe_one h]]
    exact ftext_whole q.num _ (fun w => by have := whole_raw q.num 0 w; rwa [decide_eq_true rfl] at this) hT w htab
  · rw [if_neg h, show fracV q = frV q.num q.den by unfold fracV; rw [fe_ne h]]
    have s1 := ztxt_small (k := 100000) (by omega) (Nat.le_trans hq.1 hk)
    have s2 := txt_small (n := q.den) (k := 100000) (by omega) (Nat.le_trans hq.2 hk)
    exact ftext_part q.num q.den _ _ (fun w => by have := whole_raw q.num q.den w; rwa [decide_eq_false q.den_nz] at this) hT (fun w h => text_any q.den (Nat.le_trans hq.2 (by omega)) w h) (by omega) (by omega) w htab

theorem greaterF (p q : Rat) (k : Nat) (hp : Sz p k) (hq : Sz q k) (hk : k ≤ 100000000) (w : World) : Calls Tryz.prog 161 #[fracV p, fracV q] w fun x w' => x = .returned (.bool (gtQ p q)) ∧ Below w.heap.size w w' := by
  have h := cmpQ_gt p q
  cases hb : gtQ p q with
  | true => rw [hb] at h; exact gtr_true p.num q.num _ (fe p) (fe q) (cmpF p q k hp hq hk) h w
  | false => rw [hb] at h; exact gtr_false p.num q.num _ (fe p) (fe q) (cmpF p q k hp hq hk) h w
end Go.Proofs.YtecdnohhengfaaaGreatDoor

/-
  Layer 3, the law package: constants, Max, Min.
-/
namespace Go.Proofs.YtecdnohhengfaaaGreatDoor
open Go.RowKit
attribute [local irreducible] lo hs sm s64 c64 d64 b64 mh ml pd pc qd qc val hiB str cmpI srD lz nb isq decB zl zh zs

theorem szc (q : Rat) (h1 : q.num.natAbs < 18446744073709551616) (h2 : q.den < 18446744073709551616) : Sz q 1 :=
  ⟨digs_length_iff.2 (by rw [Nat.pow_one]; exact h1), digs_length_iff.2 (by rw [Nat.pow_one]; exact h2)⟩
theorem frV_q0 : fracV 0 = .agg #[.int .u64 0, .string ⟨#[]⟩, .bool false, .int .u64 0, .string ⟨#[]⟩] := frV_00
theorem lof_0 (i j c : Int) (HF : ∀ w, Calls Tryz.prog 93 #[.int .i64 i, .int .i64 j] w fun xe w' => xe = .returned (.tuple #[.agg #[.int .u64 0, .string ⟨#[]⟩, .bool false, .int .u64 0, .string ⟨#[]⟩], .int .i64 c]) ∧ Below w.heap.size w w') (w : World) :
    Calls Tryz.prog 139 #[.int .i64 i, .int .i64 j] w fun xe w' => xe = .returned (.agg #[.int .u64 0, .string ⟨#[]⟩, .bool false, .int .u64 0, .string ⟨#[]⟩]) ∧ Below w.heap.size w w' := by
  simp only [← frV_q0] at HF ⊢
  exact lof_w i j c (0 : Rat).num (fe 0) HF w
theorem ltext_0 (s : ByteArray) (HT : ∀ w, Tab w → Calls Tryz.prog 144 #[.agg #[.int .u64 0, .string ⟨#[]⟩, .bool false, .int .u64 0, .string ⟨#[]⟩]] w fun xe w' => xe = .returned (.string s) ∧ Below w.heap.size w w') (w : World) (htab : Tab w) :
    Calls Tryz.prog 140 #[.agg #[.int .u64 0, .string ⟨#[]⟩, .bool false, .int .u64 0, .string ⟨#[]⟩], .string s] w fun xe w' => xe = .returned (.bool true) ∧ Below w.heap.size w w' := by
  simp only [← frV_q0] at HT ⊢
  exact ltext_true (0 : Rat).num (fe 0) s HT w htab
theorem txt1 (d : Nat) (h : d < 10) : txt d = ⟨#[dch d]⟩ := by unfold txt; rw [dec_small h]
theorem zt_pos (d : Nat) (h : d < 10) : ztxt (d : Int) = ⟨#[dch d]⟩ := by unfold ztxt; rw [if_neg (by omega), Int.natAbs_natCast, txt1 d h]
theorem zt_neg (d : Nat) (h : d < 10) (h0 : 0 < d) : ztxt (-(d : Int)) = ⟨#[45, dch d]⟩ := by
  unfold ztxt; rw [if_pos (by omega), Int.natAbs_neg, Int.natAbs_natCast, txt1 d h]; rfl
theorem qt_int {q : Rat} {z : Int} (h1 : q.den = 1) (h2 : q.num = z) : qtxt q = ztxt z := by unfold qtxt; rw [if_pos h1, h2]
theorem qt_part {q : Rat} {z : Int} {d : Nat} (h1 : q.den = d) (hd : d ≠ 1) (h2 : q.num = z) : qtxt q = ztxt z ++ ByteArray.mk #[47] ++ txt d := by unfold qtxt; rw [if_neg (by rw [h1]; exact hd), h1, h2]
theorem zt_n2 : ztxt (-2 : Int) = (ByteArray.mk #[45, 50]) := zt_neg 2 (by decide) (by decide)
theorem zt_n1 : ztxt (-1 : Int) = (ByteArray.mk #[45, 49]) := zt_neg 1 (by decide) (by decide)
theorem qt_n3_2 : qtxt (mkRat (-3) 2) = (ByteArray.mk #[45, 51, 47, 50]) := by
  rw [qt_part (d := 2) (z := -3) (by decide +kernel) (by decide) (by decide +kernel), txt1 2 (by decide), show ztxt (-3 : Int) = _ from zt_neg 3 (by decide) (by decide)]; rfl
theorem qt_1 : qtxt ((1 : Int) : Rat) = (ByteArray.mk #[49]) := (qt_int (by decide +kernel) (by decide +kernel)).trans (zt_pos 1 (by decide))
theorem qt_5_6 : qtxt (mkRat (5) 6) = (ByteArray.mk #[53, 47, 54]) := by
  rw [qt_part (d := 6) (z := 5) (by decide +kernel) (by decide) (by decide +kernel), txt1 6 (by decide), show ztxt (5 : Int) = _ from zt_pos 5 (by decide)]; rfl
theorem qt_0 : qtxt (0 : Rat) = (ByteArray.mk #[48]) := (qt_int (by decide +kernel) (by decide +kernel)).trans (zt_pos 0 (by decide))
theorem qt_n2 : qtxt ((-2 : Int) : Rat) = (ByteArray.mk #[45, 50]) := (qt_int (by decide +kernel) (by decide +kernel)).trans (zt_neg 2 (by decide) (by decide))
theorem qt_9_4 : qtxt (mkRat (9) 4) = (ByteArray.mk #[57, 47, 52]) := by
  rw [qt_part (d := 4) (z := 9) (by decide +kernel) (by decide) (by decide +kernel), txt1 4 (by decide), show ztxt (9 : Int) = _ from zt_pos 9 (by decide)]; rfl
theorem qt_n1_2 : qtxt (mkRat (-1) 2) = (ByteArray.mk #[45, 49, 47, 50]) := by
  rw [qt_part (d := 2) (z := -1) (by decide +kernel) (by decide) (by decide +kernel), txt1 2 (by decide), show ztxt (-1 : Int) = _ from zt_neg 1 (by decide) (by decide)]; rfl
set_option maxHeartbeats 4000000 in
set_option maxRecDepth 100000 in
theorem fmax_w (ao : Option Addr) (n c : Nat) (x : Int) (e : Nat) (K : World → Prop) (hK : Keeps K) (HA : ∀ w, K w → Calls Tryz.prog 162 #[.agg #[.func (.func 161) #[] #[]], .slice ao n c] w fun xe w' => xe = .returned (.agg #[.int .u64 ((zl x : Nat) : Int), .string (zh x), .bool (zs x), .int .u64 ((lo e : Nat) : Int), .string (hs e)]) ∧ Below w.heap.size w w') (w : World) (kK : K w) :
    Calls Tryz.prog 100 #[.slice ao n c] w fun xe w' => xe = .returned (.agg #[.int .u64 ((zl x : Nat) : Int), .string (zh x), .bool (zs x), .int .u64 ((lo e : Nat) : Int), .string (hs e)]) ∧ Below w.heap.size w w' := by
  have hL0 : GL w w [] := GL.start w
  replace hK := Lib.hid hK
  replace HA := Lib.hid HA
  replace hL0 := (hL0.new rfl [.int .u64 0, .string ⟨#[]⟩, .bool false, .int .u64 0, .string ⟨#[]⟩] 79)
  generalize hweq : (w.alloc (.cells #[.int .u64 0, .string ⟨#[]⟩, .bool false, .int .u64 0, .string ⟨#[]⟩] 79)) = x1 at hL0
  go_enter Tryz.func100, Tryz.ntmps100
  go_wp2_with fail
  with_reducible refine Calls.mono (HA.out _ (hK.out.at hL0.bl kK)) ?_
  rintro e x2 ⟨rfl, hb⟩
  replace hL0 := hL0.call hb
  clear hb hweq
  have hA := hL0.fc
  simp only [fcG, cellsF, neK, and_true, ne_eq, Nat.zero_add, Nat.reduceAdd] at hA
  have hP := hL0.put 0 (w.heap.size) _ rfl [.int .u64 ((zl x : Nat) : Int), .string (zh x), .bool (zs x), .int .u64 ((lo e : Nat) : Int), .string (hs e)] rfl
  simp only [setAll, List.set_cons_zero, List.set_cons_succ] at hP
  generalize hput1 : (((((x2.setCell ⟨w.heap.size, 0, none⟩ (.int .u64 ((zl x : Nat) : Int))).setCell ⟨w.heap.size, 1, none⟩ (.string (zh x))).setCell ⟨w.heap.size, 2, none⟩ (.bool (zs x))).setCell ⟨w.heap.size, 3, none⟩ (.int .u64 ((lo e : Nat) : Int))).setCell ⟨w.heap.size, 4, none⟩ (.string (hs e))) = x3 at hP
  have hB1 := hP.fc
  simp only [fcG, cellsF, neK, and_true, ne_eq, Nat.zero_add, Nat.reduceAdd] at hB1
  replace hL0 := hP
  go_wp2_with fail
  exact bodyPost_ret (v := .agg #[.int .u64 ((zl x : Nat) : Int), .string (zh x), .bool (zs x), .int .u64 ((lo e : Nat) : Int), .string (hs e)]) (by simp [results, Tryz.results100, go_sem, hB1]) rfl ⟨rfl, hL0.bl⟩

theorem slq_nil (w : World) : SlQ w (.slice none 0 0) [] := .inl ⟨none, 0, rfl, rfl⟩
theorem slq_parts {w : World} {ao : Option Addr} {n c : Nat} {qs : List Rat} (h : SlQ w (.slice ao n c) qs) (hl : qs.length ≤ 1000000) : (0 < n → ∃ g, ao = some ⟨g, 0, none⟩ ∧ FS w g qs) ∧ qs.length = n ∧ n ≤ 1000000 := by
  rcases h with ⟨a, c', h1, h2⟩ | ⟨g, c', h1, h2⟩
  · simp only [Value.slice.injEq] at h1
    obtain ⟨-, rfl, -⟩ := h1
    subst h2
    exact ⟨fun h => absurd h (Nat.lt_irrefl 0), rfl, by omega⟩
  · simp only [Value.slice.injEq] at h1
    obtain ⟨rfl, rfl, -⟩ := h1
    exact ⟨fun _ => ⟨g, rfl, h2⟩, rfl, hl⟩
theorem maxF (ao : Option Addr) (n c : Nat) (qs : List Rat) (k : Nat) (hk : k ≤ 100000000) (hl : qs.length ≤ 1000000) (hs : ∀ q ∈ qs, Sz q k) (w : World) (h : SlQ w (.slice ao n c) qs) :
    Calls Tryz.prog 100 #[.slice ao n c] w fun xe w' => xe = .returned (fracV (amg gtQ qs)) ∧ Below w.heap.size w w' :=
  fmax_w ao n c (amg gtQ qs).num (fe (amg gtQ qs)) _ (SlQ.keeps (.slice ao n c) qs) (fun w h => among_max ao n c qs (fun p q hp hq w => greaterF p q k (hs p hp) (hs q hq) hk w) w h (slq_parts h hl)) w h
theorem max_nil (w : World) : Calls Tryz.prog 100 #[.slice none 0 0] w fun xe w' => xe = .returned (.agg #[.int .u64 0, .string ⟨#[]⟩, .bool false, .int .u64 0, .string ⟨#[]⟩]) ∧ Below w.heap.size w w' := by
  have h := maxF none 0 0 [] 1 (by decide) (by decide) (fun q hq => by cases hq) w (slq_nil w)
  rw [show amg gtQ [] = (0 : Rat) from rfl, frV_q0] at h
  exact h
theorem slq_two {w : World} {g : Nat} {p q : Rat} (h : Hd w g [.int .u64 ((zl p.num : Nat) : Int), .string (zh p.num), .bool (zs p.num), .int .u64 ((lo (fe p) : Nat) : Int), .string (hs (fe p)), .int .u64 ((zl q.num : Nat) : Int), .string (zh q.num), .bool (zs q.num), .int .u64 ((lo (fe q) : Nat) : Int), .string (hs (fe q))]) : SlQ w (.slice (some ⟨g, 0, none⟩) 2 2) [p, q] :=
  .inr ⟨g, 2, rfl, ⟨fun i hi => by
    rcases (show i = 0 ∨ i = 1 by simp at hi; omega) with rfl | rfl
    · exact ⟨h.cell 0 (by simp), h.cell 1 (by simp), h.cell 2 (by simp), h.cell 3 (by simp), h.cell 4 (by simp)⟩
    · exact ⟨h.cell 5 (by simp), h.cell 6 (by simp), h.cell 7 (by simp), h.cell 8 (by simp), h.cell 9 (by simp)⟩, h.lt⟩⟩
theorem max_two (p q r : Rat) (hp : Sz p 1) (hq : Sz q 1) (hr : amg gtQ [p, q] = r) (g : Nat) (w : World) (h : Hd w g [.int .u64 ((zl p.num : Nat) : Int), .string (zh p.num), .bool (zs p.num), .int .u64 ((lo (fe p) : Nat) : Int), .string (hs (fe p)), .int .u64 ((zl q.num : Nat) : Int), .string (zh q.num), .bool (zs q.num), .int .u64 ((lo (fe q) : Nat) : Int), .string (hs (fe q))]) :
    Calls Tryz.prog 100 #[.slice (some ⟨g, 0, none⟩) 2 2] w fun xe w' => xe = .returned (fracV r) ∧ Below w.heap.size w w' := by
  rw [← hr]
  exact maxF _ 2 2 [p, q] 1 (by decide) (by simp) (fun x hx => by simp only [List.mem_cons, List.not_mem_nil, or_false] at hx; rcases hx with rfl | rfl <;> assumption) w (slq_two h)

/-- The variable of package bytealg that strings.Cut looks at. -/
def MaxL (w : World) : Prop := ∃ m, w.cell? ⟨3, 0, none⟩ = some (.int .i64 m)
theorem MaxL.keeps : Keeps MaxL := fun w w' hb ⟨m, h⟩ => ⟨m, by
  have hl := World.block_lt_of_cell? w _ h
  exact (hb.cell (p := ⟨3, 0, none⟩) hl).trans h⟩
theorem maxL_of {w : World} (h : w.ShapedOpen Tryz.prog) : MaxL w := Tryz.laysM145.s1_3 w h
theorem cutF (s : ByteArray) (hs : s.size < 4294967281) (p q : ByteArray) (f : Bool) (hp : Lib.cut s.data.toList [47] = (p.data.toList, q.data.toList, f)) (w : World) (hm : MaxL w) :
    Calls Tryz.prog 151 #[.string s, .string (ByteArray.mk #[47])] w fun xe w' => xe = .returned (.tuple #[.string p, .string q, .bool f]) ∧ Below w.heap.size w w' := by
  obtain ⟨m, hm⟩ := hm
  have h := Tryz.strings_Cut s (ByteArray.mk #[47]) m w hs hm
  rw [show (ByteArray.mk #[47]).data.toList = [47] from rfl, hp] at h
  exact h.mono fun xe w' ⟨h1, n, h2⟩ => ⟨h1, by rw [h2]; exact ⟨rfl, rfl, rfl, Nat.le_refl _, fun _ _ => rfl⟩⟩
end Go.Proofs.YtecdnohhengfaaaGreatDoor

/-
  Layer 3, the law package: works.
-/
namespace Go.Proofs.YtecdnohhengfaaaGreatDoor
open Go.RowKit
attribute [local irreducible] lo hs sm s64 c64 d64 b64 mh ml pd pc qd qc val hiB str cmpI srD lz nb isq decB zl zh zs

theorem ip_dig (d : Nat) (hd : d < 10) (w : World) : Calls Tryz.prog 124 #[.string ⟨#[dch d]⟩] w fun xe w' => xe = .returned (.tuple #[intV (d : Int), .int .i64 0]) ∧ Below w.heap.size w w' := by
  have h := parse_ztxt (d : Int) (Nat.le_trans (dI_lit (by omega)) (by omega)) w
  rw [zt_pos d hd] at h
  exact h
theorem ip_neg (d : Nat) (hd : d < 10) (h0 : 0 < d) (w : World) : Calls Tryz.prog 124 #[.string ⟨#[45, dch d]⟩] w fun xe w' => xe = .returned (.tuple #[intV (-(d : Int)), .int .i64 0]) ∧ Below w.heap.size w w' := by
  have h := parse_ztxt (-(d : Int)) (Nat.le_trans (dI_lit (by omega)) (by omega)) w
  rw [zt_neg d hd h0] at h
  exact h
theorem np_dig (d : Nat) (hd : d < 10) (w : World) : Calls Tryz.prog 116 #[.string ⟨#[dch d]⟩] w fun xe w' => xe = .returned (.tuple #[natV d, .int .i64 0]) ∧ Below w.heap.size w w' := by
  have h := parse_ok (Lib.decDigits d) (by rw [dec_small hd]; exact (by decide : 1 ≤ 4096)) (dec_isDec d) w
  rw [dval_dec, dec_small hd] at h
  exact h
theorem np_bad (l : List UInt8) (hl : l.length ≤ 4096) (hd : ¬ isDec l) (w : World) : Calls Tryz.prog 116 #[.string (st l)] w fun xe w' => xe = .returned (.tuple #[natV 0, .int .i64 4]) ∧ Below w.heap.size w w' := parse_form l hl hd w
theorem ip_nil (w : World) : Calls Tryz.prog 124 #[.string ⟨#[]⟩] w fun xe w' => xe = .returned (.tuple #[intV 0, .int .i64 4]) ∧ Below w.heap.size w w' := by
  have h := iparse_p_form [] (by decide) (fun h => by rcases h.2 with h | h; exact absurd h (by decide); exact h.1 rfl) (by decide) w
  exact h
theorem parse_w0 (w : World) (hm : MaxL w) : Calls Tryz.prog 81 #[.string (ByteArray.mk #[45, 54, 47, 52])] w fun xe w' => xe = .returned (.tuple #[fracV (mkRat (-3) 2), .int .i64 0]) ∧ Below w.heap.size w w' := by
  have HC := cutF (ByteArray.mk #[45, 54, 47, 52]) (by decide) (ByteArray.mk #[45, 54]) (ByteArray.mk #[52]) true (by kernel_rfl)
  have HF := fun w => fromF (-6) 4 (by decide) (Nat.le_trans (dI_lit (by decide)) (by omega)) (Nat.le_trans (dI_lit (z := 4) (by decide)) (by omega)) w
  rw [show mkRat (-6) 4 = (mkRat (-3) 2) from by decide +kernel] at HF
  exact fparse_part _ _ _ (-6) _ 4 _ 0 MaxL MaxL.keeps HC (ip_neg 6 (by decide) (by decide)) (np_dig 4 (by decide)) HF w hm
theorem parse_w1 (w : World) (hm : MaxL w) : Calls Tryz.prog 81 #[.string (ByteArray.mk #[49, 47, 48])] w fun xe w' => xe = .returned (.tuple #[.agg #[.int .u64 0, .string ⟨#[]⟩, .bool false, .int .u64 0, .string ⟨#[]⟩], .int .i64 5]) ∧ Below w.heap.size w w' := by
  have HC := cutF (ByteArray.mk #[49, 47, 48]) (by decide) (ByteArray.mk #[49]) (ByteArray.mk #[48]) true (by kernel_rfl)
  rw [← frV_q0]
  exact fparse_part _ _ _ 1 _ 0 _ 5 MaxL MaxL.keeps HC (ip_dig 1 (by decide)) (np_dig 0 (by decide)) (fun w => from0F 1 w) w hm
theorem parse_w2 (w : World) (hm : MaxL w) : Calls Tryz.prog 81 #[.string (ByteArray.mk #[49, 47, 45, 50])] w fun xe w' => xe = .returned (.tuple #[.agg #[.int .u64 0, .string ⟨#[]⟩, .bool false, .int .u64 0, .string ⟨#[]⟩], .int .i64 4]) ∧ Below w.heap.size w w' := by
  have HC := cutF (ByteArray.mk #[49, 47, 45, 50]) (by decide) (ByteArray.mk #[49]) (ByteArray.mk #[45, 50]) true (by kernel_rfl)
  exact fparse_nat _ _ _ 1 0 4 MaxL MaxL.keeps HC (ip_dig 1 (by decide)) (fun w => np_bad [45, 50] (by decide) (by exact isDec_no (by decide)) w) (by decide) w hm
theorem parse_w3 (w : World) (hm : MaxL w) : Calls Tryz.prog 81 #[.string (ByteArray.mk #[49, 47, 50, 47, 51])] w fun xe w' => xe = .returned (.tuple #[.agg #[.int .u64 0, .string ⟨#[]⟩, .bool false, .int .u64 0, .string ⟨#[]⟩], .int .i64 4]) ∧ Below w.heap.size w w' := by
  have HC := cutF (ByteArray.mk #[49, 47, 50, 47, 51]) (by decide) (ByteArray.mk #[49]) (ByteArray.mk #[50, 47, 51]) true (by kernel_rfl)
  exact fparse_nat _ _ _ 1 0 4 MaxL MaxL.keeps HC (ip_dig 1 (by decide)) (fun w => np_bad [50, 47, 51] (by decide) (by exact isDec_no (by decide)) w) (by decide) w hm
theorem parse_w4 (w : World) (hm : MaxL w) : Calls Tryz.prog 81 #[.string (ByteArray.mk #[48, 47, 55])] w fun xe w' => xe = .returned (.tuple #[.agg #[.int .u64 0, .string ⟨#[]⟩, .bool false, .int .u64 0, .string ⟨#[]⟩], .int .i64 0]) ∧ Below w.heap.size w w' := by
  have HC := cutF (ByteArray.mk #[48, 47, 55]) (by decide) (ByteArray.mk #[48]) (ByteArray.mk #[55]) true (by kernel_rfl)
  rw [← frV_q0]
  have HF := fun w => fromF (0) 7 (by decide) (Nat.le_trans (dI_lit (by decide)) (by omega)) (Nat.le_trans (dI_lit (z := 7) (by decide)) (by omega)) w
  rw [show mkRat (0) 7 = (0 : Rat) from by decide +kernel] at HF
  exact fparse_part _ _ _ (0) _ 7 _ 0 MaxL MaxL.keeps HC (ip_dig 0 (by decide)) (np_dig 7 (by decide)) HF w hm
theorem parse_w5 (w : World) (hm : MaxL w) : Calls Tryz.prog 81 #[.string ⟨#[]⟩] w fun xe w' => xe = .returned (.tuple #[.agg #[.int .u64 0, .string ⟨#[]⟩, .bool false, .int .u64 0, .string ⟨#[]⟩], .int .i64 4]) ∧ Below w.heap.size w w' := by
  have HC := cutF (ByteArray.mk #[]) (by decide) (ByteArray.mk #[]) (ByteArray.mk #[]) false (by kernel_rfl)
  exact fparse_int _ _ _ 0 false 4 MaxL MaxL.keeps HC ip_nil (by decide) w hm
theorem parse_w6 (w : World) (hm : MaxL w) : Calls Tryz.prog 81 #[.string (ByteArray.mk #[49, 47])] w fun xe w' => xe = .returned (.tuple #[.agg #[.int .u64 0, .string ⟨#[]⟩, .bool false, .int .u64 0, .string ⟨#[]⟩], .int .i64 4]) ∧ Below w.heap.size w w' := by
  have HC := cutF (ByteArray.mk #[49, 47]) (by decide) (ByteArray.mk #[49]) (ByteArray.mk #[]) true (by kernel_rfl)
  exact fparse_nat _ _ _ 1 0 4 MaxL MaxL.keeps HC (ip_dig 1 (by decide)) (fun w => np_bad [] (by decide) (by exact isDec_no (by decide)) w) (by decide) w hm
set_option maxHeartbeats 16000000 in
set_option maxRecDepth 100000 in
theorem fworks_w  (r1 : Rat) (r2 : Rat) (r3 : Rat) (r4 : Rat) (r5 : Rat) (r6 : Rat) (r7 : Rat) (r8 : Rat) (r9 : Rat) (r10 : Rat) (z1 : Int) (z2 : Int) (r11 : Rat) (r12 : Rat) (KM : World → Prop) (hKM : Keeps KM) (P0 : ∀ w, KM w → Calls Tryz.prog 81 #[.string (ByteArray.mk #[45, 54, 47, 52])] w fun xe w' => xe = .returned (.tuple #[.agg #[.int .u64 ((zl r1.num : Nat) : Int), .string (zh r1.num), .bool (zs r1.num), .int .u64 ((lo (fe r1) : Nat) : Int), .string (hs (fe r1))], .int .i64 0]) ∧ Below w.heap.size w w') (P1 : ∀ w, KM w → Calls Tryz.prog 81 #[.string (ByteArray.mk #[49, 47, 48])] w fun xe w' => xe = .returned (.tuple #[.agg #[.int .u64 0, .string ⟨#[]⟩, .bool false, .int .u64 0, .string ⟨#[]⟩], .int .i64 5]) ∧ Below w.heap.size w w') (P2 : ∀ w, KM w → Calls Tryz.prog 81 #[.string (ByteArray.mk #[49, 47, 45, 50])] w fun xe w' => xe = .returned (.tuple #[.agg #[.int .u64 0, .string ⟨#[]⟩, .bool false, .int .u64 0, .string ⟨#[]⟩], .int .i64 4]) ∧ Below w.heap.size w w') (P3 : ∀ w, KM w → Calls Tryz.prog 81 #[.string (ByteArray.mk #[49, 47, 50, 47, 51])] w fun xe w' => xe = .returned (.tuple #[.agg #[.int .u64 0, .string ⟨#[]⟩, .bool false, .int .u64 0, .string ⟨#[]⟩], .int .i64 4]) ∧ Below w.heap.size w w') (P4 : ∀ w, KM w → Calls Tryz.prog 81 #[.string (ByteArray.mk #[48, 47, 55])] w fun xe w' => xe = .returned (.tuple #[.agg #[.int .u64 0, .string ⟨#[]⟩, .bool false, .int .u64 0, .string ⟨#[]⟩], .int .i64 0]) ∧ Below w.heap.size w w') (P5 : ∀ w, KM w → Calls Tryz.prog 81 #[.string ⟨#[]⟩] w fun xe w' => xe = .returned (.tuple #[.agg #[.int .u64 0, .string ⟨#[]⟩, .bool false, .int .u64 0, .string ⟨#[]⟩], .int .i64 4]) ∧ Below w.heap.size w w') (P6 : ∀ w, KM w → Calls Tryz.prog 81 #[.string (ByteArray.mk #[49, 47])] w fun xe w' => xe = .returned (.tuple #[.agg #[.int .u64 0, .string ⟨#[]⟩, .bool false, .int .u64 0, .string ⟨#[]⟩], .int .i64 4]) ∧ Below w.heap.size w w') (H1 : ∀ w, Calls Tryz.prog 139 #[.int .i64 6, .int .i64 (-4)] w fun xe w' => xe = .returned (.agg #[.int .u64 ((zl r1.num : Nat) : Int), .string (zh r1.num), .bool (zs r1.num), .int .u64 ((lo (fe r1) : Nat) : Int), .string (hs (fe r1))]) ∧ Below w.heap.size w w') (H2 : ∀ w, Calls Tryz.prog 139 #[.int .i64 0, .int .i64 (-5)] w fun xe w' => xe = .returned (.agg #[.int .u64 0, .string ⟨#[]⟩, .bool false, .int .u64 0, .string ⟨#[]⟩]) ∧ Below w.heap.size w w') (H3 : ∀ w, Calls Tryz.prog 93 #[.int .i64 1, .int .i64 0] w fun xe w' => xe = .returned (.tuple #[.agg #[.int .u64 0, .string ⟨#[]⟩, .bool false, .int .u64 0, .string ⟨#[]⟩], .int .i64 5]) ∧ Below w.heap.size w w') (H4 : ∀ w, Calls Tryz.prog 139 #[.int .i64 (-9223372036854775808), .int .i64 (-9223372036854775808)] w fun xe w' => xe = .returned (.agg #[.int .u64 ((zl r2.num : Nat) : Int), .string (zh r2.num), .bool (zs r2.num), .int .u64 ((lo (fe r2) : Nat) : Int), .string (hs (fe r2))]) ∧ Below w.heap.size w w') (H5 : ∀ w, Calls Tryz.prog 139 #[.int .i64 1, .int .i64 2] w fun xe w' => xe = .returned (.agg #[.int .u64 ((zl r3.num : Nat) : Int), .string (zh r3.num), .bool (zs r3.num), .int .u64 ((lo (fe r3) : Nat) : Int), .string (hs (fe r3))]) ∧ Below w.heap.size w w') (H6 : ∀ w, Calls Tryz.prog 139 #[.int .i64 (-1), .int .i64 4] w fun xe w' => xe = .returned (.agg #[.int .u64 ((zl r4.num : Nat) : Int), .string (zh r4.num), .bool (zs r4.num), .int .u64 ((lo (fe r4) : Nat) : Int), .string (hs (fe r4))]) ∧ Below w.heap.size w w') (H7 : ∀ w, Calls Tryz.prog 61 #[.agg #[.int .u64 ((zl r3.num : Nat) : Int), .string (zh r3.num), .bool (zs r3.num), .int .u64 ((lo (fe r3) : Nat) : Int), .string (hs (fe r3))], .agg #[.int .u64 ((zl r4.num : Nat) : Int), .string (zh r4.num), .bool (zs r4.num), .int .u64 ((lo (fe r4) : Nat) : Int), .string (hs (fe r4))]] w fun xe w' => xe = .returned (.tuple #[.agg #[.int .u64 ((zl r5.num : Nat) : Int), .string (zh r5.num), .bool (zs r5.num), .int .u64 ((lo (fe r5) : Nat) : Int), .string (hs (fe r5))], .int .i64 0]) ∧ Below w.heap.size w w') (H8 : ∀ w, Calls Tryz.prog 94 #[.int .i64 1] w fun xe w' => xe = .returned (.agg #[.int .u64 ((zl r2.num : Nat) : Int), .string (zh r2.num), .bool (zs r2.num), .int .u64 ((lo (fe r2) : Nat) : Int), .string (hs (fe r2))]) ∧ Below w.heap.size w w') (H9 : ∀ w, Calls Tryz.prog 61 #[.agg #[.int .u64 ((zl r2.num : Nat) : Int), .string (zh r2.num), .bool (zs r2.num), .int .u64 ((lo (fe r2) : Nat) : Int), .string (hs (fe r2))], .agg #[.int .u64 0, .string ⟨#[]⟩, .bool false, .int .u64 0, .string ⟨#[]⟩]] w fun xe w' => xe = .returned (.tuple #[.agg #[.int .u64 0, .string ⟨#[]⟩, .bool false, .int .u64 0, .string ⟨#[]⟩], .int .i64 5]) ∧ Below w.heap.size w w') (H10 : ∀ w, Tab w → Calls Tryz.prog 140 #[.agg #[.int .u64 ((zl r1.num : Nat) : Int), .string (zh r1.num), .bool (zs r1.num), .int .u64 ((lo (fe r1) : Nat) : Int), .string (hs (fe r1))], .string (ByteArray.mk #[45, 51, 47, 50])] w fun xe w' => xe = .returned (.bool true) ∧ Below w.heap.size w w') (H11 : ∀ w, Tab w → Calls Tryz.prog 140 #[.agg #[.int .u64 ((zl r2.num : Nat) : Int), .string (zh r2.num), .bool (zs r2.num), .int .u64 ((lo (fe r2) : Nat) : Int), .string (hs (fe r2))], .string (ByteArray.mk #[49])] w fun xe w' => xe = .returned (.bool true) ∧ Below w.heap.size w w') (H12 : ∀ w, Calls Tryz.prog 139 #[.int .i64 1, .int .i64 3] w fun xe w' => xe = .returned (.agg #[.int .u64 ((zl r6.num : Nat) : Int), .string (zh r6.num), .bool (zs r6.num), .int .u64 ((lo (fe r6) : Nat) : Int), .string (hs (fe r6))]) ∧ Below w.heap.size w w') (H13 : ∀ w, Calls Tryz.prog 64 #[.agg #[.int .u64 ((zl r3.num : Nat) : Int), .string (zh r3.num), .bool (zs r3.num), .int .u64 ((lo (fe r3) : Nat) : Int), .string (hs (fe r3))], .agg #[.int .u64 ((zl r6.num : Nat) : Int), .string (zh r6.num), .bool (zs r6.num), .int .u64 ((lo (fe r6) : Nat) : Int), .string (hs (fe r6))]] w fun xe w' => xe = .returned (.agg #[.int .u64 ((zl r7.num : Nat) : Int), .string (zh r7.num), .bool (zs r7.num), .int .u64 ((lo (fe r7) : Nat) : Int), .string (hs (fe r7))]) ∧ Below w.heap.size w w') (H14 : ∀ w, Tab w → Calls Tryz.prog 140 #[.agg #[.int .u64 ((zl r7.num : Nat) : Int), .string (zh r7.num), .bool (zs r7.num), .int .u64 ((lo (fe r7) : Nat) : Int), .string (hs (fe r7))], .string (ByteArray.mk #[53, 47, 54])] w fun xe w' => xe = .returned (.bool true) ∧ Below w.heap.size w w') (H15 : ∀ w, Calls Tryz.prog 66 #[.agg #[.int .u64 ((zl r3.num : Nat) : Int), .string (zh r3.num), .bool (zs r3.num), .int .u64 ((lo (fe r3) : Nat) : Int), .string (hs (fe r3))], .agg #[.int .u64 ((zl r3.num : Nat) : Int), .string (zh r3.num), .bool (zs r3.num), .int .u64 ((lo (fe r3) : Nat) : Int), .string (hs (fe r3))]] w fun xe w' => xe = .returned (.agg #[.int .u64 0, .string ⟨#[]⟩, .bool false, .int .u64 0, .string ⟨#[]⟩]) ∧ Below w.heap.size w w') (H16 : ∀ w, Tab w → Calls Tryz.prog 140 #[.agg #[.int .u64 0, .string ⟨#[]⟩, .bool false, .int .u64 0, .string ⟨#[]⟩], .string (ByteArray.mk #[48])] w fun xe w' => xe = .returned (.bool true) ∧ Below w.heap.size w w') (H17 : ∀ w, Calls Tryz.prog 139 #[.int .i64 2, .int .i64 3] w fun xe w' => xe = .returned (.agg #[.int .u64 ((zl r8.num : Nat) : Int), .string (zh r8.num), .bool (zs r8.num), .int .u64 ((lo (fe r8) : Nat) : Int), .string (hs (fe r8))]) ∧ Below w.heap.size w w') (H18 : ∀ w, Calls Tryz.prog 139 #[.int .i64 3, .int .i64 2] w fun xe w' => xe = .returned (.agg #[.int .u64 ((zl r9.num : Nat) : Int), .string (zh r9.num), .bool (zs r9.num), .int .u64 ((lo (fe r9) : Nat) : Int), .string (hs (fe r9))]) ∧ Below w.heap.size w w') (H19 : ∀ w, Calls Tryz.prog 68 #[.agg #[.int .u64 ((zl r8.num : Nat) : Int), .string (zh r8.num), .bool (zs r8.num), .int .u64 ((lo (fe r8) : Nat) : Int), .string (hs (fe r8))], .agg #[.int .u64 ((zl r9.num : Nat) : Int), .string (zh r9.num), .bool (zs r9.num), .int .u64 ((lo (fe r9) : Nat) : Int), .string (hs (fe r9))]] w fun xe w' => xe = .returned (.agg #[.int .u64 ((zl r2.num : Nat) : Int), .string (zh r2.num), .bool (zs r2.num), .int .u64 ((lo (fe r2) : Nat) : Int), .string (hs (fe r2))]) ∧ Below w.heap.size w w') (H20 : ∀ w, Tab w → Calls Tryz.prog 140 #[.agg #[.int .u64 ((zl r5.num : Nat) : Int), .string (zh r5.num), .bool (zs r5.num), .int .u64 ((lo (fe r5) : Nat) : Int), .string (hs (fe r5))], .string (ByteArray.mk #[45, 50])] w fun xe w' => xe = .returned (.bool true) ∧ Below w.heap.size w w') (H21 : ∀ w, Calls Tryz.prog 98 #[.agg #[.int .u64 ((zl r8.num : Nat) : Int), .string (zh r8.num), .bool (zs r8.num), .int .u64 ((lo (fe r8) : Nat) : Int), .string (hs (fe r8))], .int .i64 (-2)] w fun xe w' => xe = .returned (.tuple #[.agg #[.int .u64 ((zl r10.num : Nat) : Int), .string (zh r10.num), .bool (zs r10.num), .int .u64 ((lo (fe r10) : Nat) : Int), .string (hs (fe r10))], .int .i64 0]) ∧ Below w.heap.size w w') (H22 : ∀ w, Calls Tryz.prog 98 #[.agg #[.int .u64 0, .string ⟨#[]⟩, .bool false, .int .u64 0, .string ⟨#[]⟩], .int .i64 (-1)] w fun xe w' => xe = .returned (.tuple #[.agg #[.int .u64 0, .string ⟨#[]⟩, .bool false, .int .u64 0, .string ⟨#[]⟩], .int .i64 5]) ∧ Below w.heap.size w w') (H23 : ∀ w, Calls Tryz.prog 98 #[.agg #[.int .u64 0, .string ⟨#[]⟩, .bool false, .int .u64 0, .string ⟨#[]⟩], .int .i64 0] w fun xe w' => xe = .returned (.tuple #[.agg #[.int .u64 ((zl r2.num : Nat) : Int), .string (zh r2.num), .bool (zs r2.num), .int .u64 ((lo (fe r2) : Nat) : Int), .string (hs (fe r2))], .int .i64 0]) ∧ Below w.heap.size w w') (H24 : ∀ w, Calls Tryz.prog 78 #[.agg #[.int .u64 ((zl r1.num : Nat) : Int), .string (zh r1.num), .bool (zs r1.num), .int .u64 ((lo (fe r1) : Nat) : Int), .string (hs (fe r1))]] w fun xe w' => xe = .returned (.agg #[.int .u64 ((zl z1 : Nat) : Int), .string (zh z1), .bool (zs z1)]) ∧ Below w.heap.size w w') (H25 : ∀ w, Tab w → Calls Tryz.prog 77 #[.agg #[.int .u64 ((zl z1 : Nat) : Int), .string (zh z1), .bool (zs z1)]] w fun xe w' => xe = .returned (.string (ByteArray.mk #[45, 50])) ∧ Below w.heap.size w w') (H26 : ∀ w, Calls Tryz.prog 95 #[.agg #[.int .u64 ((zl r1.num : Nat) : Int), .string (zh r1.num), .bool (zs r1.num), .int .u64 ((lo (fe r1) : Nat) : Int), .string (hs (fe r1))]] w fun xe w' => xe = .returned (.agg #[.int .u64 ((zl z2 : Nat) : Int), .string (zh z2), .bool (zs z2)]) ∧ Below w.heap.size w w') (H27 : ∀ w, Tab w → Calls Tryz.prog 77 #[.agg #[.int .u64 ((zl z2 : Nat) : Int), .string (zh z2), .bool (zs z2)]] w fun xe w' => xe = .returned (.string (ByteArray.mk #[45, 49])) ∧ Below w.heap.size w w') (H28 : ∀ w, Tab w → Calls Tryz.prog 140 #[.agg #[.int .u64 ((zl r10.num : Nat) : Int), .string (zh r10.num), .bool (zs r10.num), .int .u64 ((lo (fe r10) : Nat) : Int), .string (hs (fe r10))], .string (ByteArray.mk #[57, 47, 52])] w fun xe w' => xe = .returned (.bool true) ∧ Below w.heap.size w w') (H29 : ∀ w, Calls Tryz.prog 100 #[.slice none 0 0] w fun xe w' => xe = .returned (.agg #[.int .u64 0, .string ⟨#[]⟩, .bool false, .int .u64 0, .string ⟨#[]⟩]) ∧ Below w.heap.size w w') (H30 : ∀ w, Calls Tryz.prog 94 #[.int .i64 (-1)] w fun xe w' => xe = .returned (.agg #[.int .u64 ((zl r11.num : Nat) : Int), .string (zh r11.num), .bool (zs r11.num), .int .u64 ((lo (fe r11) : Nat) : Int), .string (hs (fe r11))]) ∧ Below w.heap.size w w') (H31 : ∀ w, Calls Tryz.prog 139 #[.int .i64 (-1), .int .i64 2] w fun xe w' => xe = .returned (.agg #[.int .u64 ((zl r12.num : Nat) : Int), .string (zh r12.num), .bool (zs r12.num), .int .u64 ((lo (fe r12) : Nat) : Int), .string (hs (fe r12))]) ∧ Below w.heap.size w w') (H32 : ∀ g w, Hd w g [.int .u64 ((zl r11.num : Nat) : Int), .string (zh r11.num), .bool (zs r11.num), .int .u64 ((lo (fe r11) : Nat) : Int), .string (hs (fe r11)), .int .u64 ((zl r12.num : Nat) : Int), .string (zh r12.num), .bool (zs r12.num), .int .u64 ((lo (fe r12) : Nat) : Int), .string (hs (fe r12))] → Calls Tryz.prog 100 #[.slice (some ⟨g, 0, none⟩) 2 2] w fun xe w' => xe = .returned (.agg #[.int .u64 ((zl r12.num : Nat) : Int), .string (zh r12.num), .bool (zs r12.num), .int .u64 ((lo (fe r12) : Nat) : Int), .string (hs (fe r12))]) ∧ Below w.heap.size w w') (H33 : ∀ w, Tab w → Calls Tryz.prog 140 #[.agg #[.int .u64 ((zl r12.num : Nat) : Int), .string (zh r12.num), .bool (zs r12.num), .int .u64 ((lo (fe r12) : Nat) : Int), .string (hs (fe r12))], .string (ByteArray.mk #[45, 49, 47, 50])] w fun xe w' => xe = .returned (.bool true) ∧ Below w.heap.size w w') (w : World) (htab : Tab w) (kKM : KM w) :
    Calls Tryz.prog 57 #[] w fun xe w' => xe = .returned (.bool true) ∧ Below w.heap.size w w' := by
  have hL0 : GL w w [] := GL.start w
  replace hKM := Lib.hid hKM
  replace P0 := Lib.hid P0
  replace P1 := Lib.hid P1
  replace P2 := Lib.hid P2
  replace P3 := Lib.hid P3
  replace P4 := Lib.hid P4
  replace P5 := Lib.hid P5
  replace P6 := Lib.hid P6
  replace H1 := Lib.hid H1
  replace H2 := Lib.hid H2
  replace H3 := Lib.hid H3
  replace H4 := Lib.hid H4
  replace H5 := Lib.hid H5
  replace H6 := Lib.hid H6
  replace H7 := Lib.hid H7
  replace H8 := Lib.hid H8
  replace H9 := Lib.hid H9
  replace H10 := Lib.hid H10
  replace H11 := Lib.hid H11
  replace H12 := Lib.hid H12
  replace H13 := Lib.hid H13
  replace H14 := Lib.hid H14
  replace H15 := Lib.hid H15
  replace H16 := Lib.hid H16
  replace H17 := Lib.hid H17
  replace H18 := Lib.hid H18
  replace H19 := Lib.hid H19
  replace H20 := Lib.hid H20
  replace H21 := Lib.hid H21
  replace H22 := Lib.hid H22
  replace H23 := Lib.hid H23
  replace H24 := Lib.hid H24
  replace H25 := Lib.hid H25
  replace H26 := Lib.hid H26
  replace H27 := Lib.hid H27
  replace H28 := Lib.hid H28
  replace H29 := Lib.hid H29
  replace H30 := Lib.hid H30
  replace H31 := Lib.hid H31
  replace H32 := Lib.hid H32
  replace H33 := Lib.hid H33
  go_enter Tryz.func57, Tryz.ntmps57
  go_wp2_with fail
  with_reducible refine Calls.mono (H1.out _) ?_
  rintro e x1 ⟨rfl, hb⟩
  replace hL0 := hL0.call hb
  clear hb
  go_wp2_with fail
  with_reducible refine Calls.mono (H2.out _) ?_
  rintro e x2 ⟨rfl, hb⟩
  replace hL0 := hL0.call hb
  clear hb
  replace hL0 := ((hL0.new rfl [.int .u64 ((zl r1.num : Nat) : Int), .string (zh r1.num), .bool (zs r1.num), .int .u64 ((lo (fe r1) : Nat) : Int), .string (hs (fe r1))] 79).new (K := x2.heap.size + 1) (szA _ _) [.int .u64 0, .string ⟨#[]⟩, .bool false, .int .u64 0, .string ⟨#[]⟩] 79)
  generalize hweq : ((x2.alloc (.cells #[.int .u64 ((zl r1.num : Nat) : Int), .string (zh r1.num), .bool (zs r1.num), .int .u64 ((lo (fe r1) : Nat) : Int), .string (hs (fe r1))] 79)).alloc (.cells #[.int .u64 0, .string ⟨#[]⟩, .bool false, .int .u64 0, .string ⟨#[]⟩] 79)) = x3 at hL0
  have hA := hL0.fc
  simp only [fcG, cellsF, neK, and_true, ne_eq, Nat.zero_add, Nat.reduceAdd] at hA
  have hP := hL0.put 0 (x2.heap.size + 1) _ rfl [.int .u64 0, .string ⟨#[]⟩, .bool false, .int .u64 0, .string ⟨#[]⟩] rfl
  simp only [setAll, List.set_cons_zero, List.set_cons_succ] at hP
  generalize hput1 : (((((x3.setCell ⟨x2.heap.size + 1, 0, none⟩ (.int .u64 0)).setCell ⟨x2.heap.size + 1, 1, none⟩ (.string ⟨#[]⟩)).setCell ⟨x2.heap.size + 1, 2, none⟩ (.bool false)).setCell ⟨x2.heap.size + 1, 3, none⟩ (.int .u64 0)).setCell ⟨x2.heap.size + 1, 4, none⟩ (.string ⟨#[]⟩)) = x4 at hP
  have hB1 := hP.fc
  simp only [fcG, cellsF, neK, and_true, ne_eq, Nat.zero_add, Nat.reduceAdd] at hB1
  replace hL0 := hP
  go_wp2_with fail
  clear hA
  with_reducible refine Calls.mono (H3.out _) ?_
  rintro e x5 ⟨rfl, hb⟩
  replace hL0 := hL0.call hb
  clear hb hweq hput1 hB1
  replace hL0 := (hL0.new rfl [.int .u64 0, .string ⟨#[]⟩, .bool false, .int .u64 0, .string ⟨#[]⟩] 79)
  generalize hweq : (x5.alloc (.cells #[.int .u64 0, .string ⟨#[]⟩, .bool false, .int .u64 0, .string ⟨#[]⟩] 79)) = x6 at hL0
  have hA := hL0.fc
  simp only [fcG, cellsF, neK, and_true, ne_eq, Nat.zero_add, Nat.reduceAdd] at hA
  have hP := hL0.put 0 (x5.heap.size) _ rfl [.int .u64 0, .string ⟨#[]⟩, .bool false, .int .u64 0, .string ⟨#[]⟩] rfl
  simp only [setAll, List.set_cons_zero, List.set_cons_succ] at hP
  generalize hput2 : (((((x6.setCell ⟨x5.heap.size, 0, none⟩ (.int .u64 0)).setCell ⟨x5.heap.size, 1, none⟩ (.string ⟨#[]⟩)).setCell ⟨x5.heap.size, 2, none⟩ (.bool false)).setCell ⟨x5.heap.size, 3, none⟩ (.int .u64 0)).setCell ⟨x5.heap.size, 4, none⟩ (.string ⟨#[]⟩)) = x7 at hP
  have hB2 := hP.fc
  simp only [fcG, cellsF, neK, and_true, ne_eq, Nat.zero_add, Nat.reduceAdd] at hB2
  replace hL0 := hP
  go_wp2_with fail
  clear hA
  with_reducible refine Calls.mono (H4.out _) ?_
  rintro e x8 ⟨rfl, hb⟩
  replace hL0 := hL0.call hb
  clear hb hweq hput2 hB2
  replace hL0 := (hL0.new rfl [.int .u64 ((zl r2.num : Nat) : Int), .string (zh r2.num), .bool (zs r2.num), .int .u64 ((lo (fe r2) : Nat) : Int), .string (hs (fe r2))] 79)
  generalize hweq : (x8.alloc (.cells #[.int .u64 ((zl r2.num : Nat) : Int), .string (zh r2.num), .bool (zs r2.num), .int .u64 ((lo (fe r2) : Nat) : Int), .string (hs (fe r2))] 79)) = x9 at hL0
  go_wp2_with fail
  with_reducible refine Calls.mono (H5.out _) ?_
  rintro e x10 ⟨rfl, hb⟩
  replace hL0 := hL0.call hb
  clear hb hweq
  go_wp2_with fail
  with_reducible refine Calls.mono (H6.out _) ?_
  rintro e x11 ⟨rfl, hb⟩
  replace hL0 := hL0.call hb
  clear hb
  go_wp2_with fail
  with_reducible refine Calls.mono (H7.out _) ?_
  rintro e x12 ⟨rfl, hb⟩
  replace hL0 := hL0.call hb
  clear hb
  replace hL0 := (hL0.new rfl [.int .u64 ((zl r5.num : Nat) : Int), .string (zh r5.num), .bool (zs r5.num), .int .u64 ((lo (fe r5) : Nat) : Int), .string (hs (fe r5))] 79)
  generalize hweq : (x12.alloc (.cells #[.int .u64 ((zl r5.num : Nat) : Int), .string (zh r5.num), .bool (zs r5.num), .int .u64 ((lo (fe r5) : Nat) : Int), .string (hs (fe r5))] 79)) = x13 at hL0
  go_upto_region 5 with fail
  clear hweq
  refine region_gh (by kernel_rfl) (by kernel_rfl) ?_
  refine lex_seg (gl := []) 6 (by kernel_rfl) ?_
  intro α iα F hF1 hF2
  have hq := GL.seg hF1 hL0
  simp only [fcC, cellsC, and_true, Nat.zero_add, Nat.reduceAdd] at hq
  simp only [List.take_succ_cons, List.take_zero, List.drop_succ_cons, List.drop_zero, List.take_nil, List.drop_nil]
  repeat (go_big_quiet_step (first | fail | (go_at_call 94; with_reducible exact seg_call hF2 H8.out _) | (go_at_call 61; with_reducible exact seg_call hF2 H9.out _)))
  refine wpQuiet_nil ?_
  clear hq hF1 hF2 iα F α
  refine lex_new [.int .u64 0, .string ⟨#[]⟩, .bool false, .int .u64 0, .string ⟨#[]⟩] 8 79 79 rfl rfl (of_decide_eq_true (by kernel_rfl)) (by kernel_rfl) rfl new_frac ?_
  simp only [Act.put, List.setIfInBounds_toArray, List.set_cons_succ, List.set_cons_zero]
  refine lex_put [.int .u64 0, .string ⟨#[]⟩, .bool false, .int .u64 0, .string ⟨#[]⟩] [.int .u64 0, .string ⟨#[]⟩, .bool false, .int .u64 0, .string ⟨#[]⟩] 8 79 (.tmp 38) rfl (by kernel_rfl) (by simp [toG, upd]) rfl (fun w k h => put_frac _ _ _ _ _ _ _ _ _ _ w k h) ?_
  simp only [Act.put]
  refine lex_seg (gl := [(8, [.int .u64 0, .string ⟨#[]⟩, .bool false, .int .u64 0, .string ⟨#[]⟩], true), (8, [.int .u64 0, .string ⟨#[]⟩, .bool false, .int .u64 0, .string ⟨#[]⟩], false)]) 1 (by kernel_rfl) ?_
  intro α iα F hF1 hF2
  have hq := GL.seg hF1 hL0
  simp only [fcC, cellsC, and_true, Nat.zero_add, Nat.reduceAdd] at hq
  simp only [List.take_succ_cons, List.take_zero, List.drop_succ_cons, List.drop_zero, List.take_nil, List.drop_nil]
  repeat (go_big_quiet_step (first | fail | (go_at_call 94; with_reducible exact seg_call hF2 H8.out _) | (go_at_call 61; with_reducible exact seg_call hF2 H9.out _)))
  refine wpQuiet_nil ?_
  clear hq hF1 hF2 iα F α
  refine lexG_nil ?_
  intro κ x14 hS
  replace hL0 := hL0.ghs hS [(8, [.int .u64 0, .string ⟨#[]⟩, .bool false, .int .u64 0, .string ⟨#[]⟩])] (by simp) (by intro p hp; simp only [List.mem_cons, List.not_mem_nil, or_false] at hp; rcases hp with rfl <;> exact ⟨_, by simp only [toG, upd]; rfl⟩)
  simp only [List.map_cons, List.map_nil, List.cons_append, List.nil_append] at hL0
  simp only [over_toG, over_nil, Act.put, List.setIfInBounds_toArray, List.set_cons_succ, List.set_cons_zero]
  clear hS
  generalize κ 8 = k14_8 at *
  have hN0 := cells_of _ 0 [] rfl (hL0.get _ _ (List.mem_cons_of_mem _ (List.mem_cons_of_mem _ (List.mem_cons_of_mem _ (List.mem_cons_of_mem _ (List.mem_cons_of_mem _ List.mem_cons_self))))))
  simp only [cellsF, and_true, Nat.zero_add, Nat.reduceAdd] at hN0
  go_wp2_with fail
  clear hN0
  with_reducible refine Calls.mono (H10.out _ (htab.below hL0.bl)) ?_
  rintro e x15 ⟨rfl, hb⟩
  replace hL0 := hL0.call hb
  clear hb
  have hN0 := cells_of _ 0 [] rfl (hL0.get _ _ (List.mem_cons_of_mem _ (List.mem_cons_of_mem _ List.mem_cons_self)))
  simp only [cellsF, and_true, Nat.zero_add, Nat.reduceAdd] at hN0
  have hN1 := cells_of _ 0 [] rfl (hL0.get _ _ (List.mem_cons_of_mem _ (List.mem_cons_of_mem _ (List.mem_cons_of_mem _ (List.mem_cons_of_mem _ List.mem_cons_self)))))
  simp only [cellsF, and_true, Nat.zero_add, Nat.reduceAdd] at hN1
  go_wp2_with fail
  clear hN0 hN1
  with_reducible refine Calls.mono (H11.out _ (htab.below hL0.bl)) ?_
  rintro e x16 ⟨rfl, hb⟩
  replace hL0 := hL0.call hb
  clear hb
  go_wp2_with fail
  with_reducible refine Calls.mono (H5.out _) ?_
  rintro e x17 ⟨rfl, hb⟩
  replace hL0 := hL0.call hb
  clear hb
  go_wp2_with fail
  with_reducible refine Calls.mono (H12.out _) ?_
  rintro e x18 ⟨rfl, hb⟩
  replace hL0 := hL0.call hb
  clear hb
  go_wp2_with fail
  with_reducible refine Calls.mono (H13.out _) ?_
  rintro e x19 ⟨rfl, hb⟩
  replace hL0 := hL0.call hb
  clear hb
  go_wp2_with fail
  with_reducible refine Calls.mono (H14.out _ (htab.below hL0.bl)) ?_
  rintro e x20 ⟨rfl, hb⟩
  replace hL0 := hL0.call hb
  clear hb
  go_wp2_with fail
  with_reducible refine Calls.mono (H5.out _) ?_
  rintro e x21 ⟨rfl, hb⟩
  replace hL0 := hL0.call hb
  clear hb
  go_wp2_with fail
  with_reducible refine Calls.mono (H5.out _) ?_
  rintro e x22 ⟨rfl, hb⟩
  replace hL0 := hL0.call hb
  clear hb
  go_wp2_with fail
  with_reducible refine Calls.mono (H15.out _) ?_
  rintro e x23 ⟨rfl, hb⟩
  replace hL0 := hL0.call hb
  clear hb
  go_wp2_with fail
  with_reducible refine Calls.mono (H16.out _ (htab.below hL0.bl)) ?_
  rintro e x24 ⟨rfl, hb⟩
  replace hL0 := hL0.call hb
  clear hb
  go_wp2_with fail
  with_reducible refine Calls.mono (H17.out _) ?_
  rintro e x25 ⟨rfl, hb⟩
  replace hL0 := hL0.call hb
  clear hb
  go_wp2_with fail
  with_reducible refine Calls.mono (H18.out _) ?_
  rintro e x26 ⟨rfl, hb⟩
  replace hL0 := hL0.call hb
  clear hb
  go_wp2_with fail
  with_reducible refine Calls.mono (H19.out _) ?_
  rintro e x27 ⟨rfl, hb⟩
  replace hL0 := hL0.call hb
  clear hb
  go_wp2_with fail
  with_reducible refine Calls.mono (H11.out _ (htab.below hL0.bl)) ?_
  rintro e x28 ⟨rfl, hb⟩
  replace hL0 := hL0.call hb
  clear hb
  have hN0 := cells_of _ 0 [] rfl (hL0.get _ _ (List.mem_cons_of_mem _ List.mem_cons_self))
  simp only [cellsF, and_true, Nat.zero_add, Nat.reduceAdd] at hN0
  go_wp2_with fail
  clear hN0
  with_reducible refine Calls.mono (H20.out _ (htab.below hL0.bl)) ?_
  rintro e x29 ⟨rfl, hb⟩
  replace hL0 := hL0.call hb
  clear hb
  go_wp2_with fail
  with_reducible refine Calls.mono (H17.out _) ?_
  rintro e x30 ⟨rfl, hb⟩
  replace hL0 := hL0.call hb
  clear hb
  go_wp2_with fail
  with_reducible refine Calls.mono (H21.out _) ?_
  rintro e x31 ⟨rfl, hb⟩
  replace hL0 := hL0.call hb
  clear hb
  replace hL0 := (hL0.new rfl [.int .u64 ((zl r10.num : Nat) : Int), .string (zh r10.num), .bool (zs r10.num), .int .u64 ((lo (fe r10) : Nat) : Int), .string (hs (fe r10))] 79)
  generalize hweq : (x31.alloc (.cells #[.int .u64 ((zl r10.num : Nat) : Int), .string (zh r10.num), .bool (zs r10.num), .int .u64 ((lo (fe r10) : Nat) : Int), .string (hs (fe r10))] 79)) = x32 at hL0
  have hN0 := cells_of _ 0 [] rfl (hL0.get _ _ (List.mem_cons_of_mem _ (List.mem_cons_of_mem _ (List.mem_cons_of_mem _ (List.mem_cons_of_mem _ (List.mem_cons_of_mem _ List.mem_cons_self))))))
  simp only [cellsF, and_true, Nat.zero_add, Nat.reduceAdd] at hN0
  go_wp2_with fail
  clear hN0
  with_reducible refine Calls.mono (H22.out _) ?_
  rintro e x33 ⟨rfl, hb⟩
  replace hL0 := hL0.call hb
  clear hb hweq
  replace hL0 := (hL0.new rfl [.int .u64 0, .string ⟨#[]⟩, .bool false, .int .u64 0, .string ⟨#[]⟩] 79)
  generalize hweq : (x33.alloc (.cells #[.int .u64 0, .string ⟨#[]⟩, .bool false, .int .u64 0, .string ⟨#[]⟩] 79)) = x34 at hL0
  have hA := hL0.fc
  simp only [fcG, cellsF, neK, and_true, ne_eq, Nat.zero_add, Nat.reduceAdd] at hA
  have hP := hL0.put 0 (x33.heap.size) _ rfl [.int .u64 0, .string ⟨#[]⟩, .bool false, .int .u64 0, .string ⟨#[]⟩] rfl
  simp only [setAll, List.set_cons_zero, List.set_cons_succ] at hP
  generalize hput3 : (((((x34.setCell ⟨x33.heap.size, 0, none⟩ (.int .u64 0)).setCell ⟨x33.heap.size, 1, none⟩ (.string ⟨#[]⟩)).setCell ⟨x33.heap.size, 2, none⟩ (.bool false)).setCell ⟨x33.heap.size, 3, none⟩ (.int .u64 0)).setCell ⟨x33.heap.size, 4, none⟩ (.string ⟨#[]⟩)) = x35 at hP
  have hB3 := hP.fc
  simp only [fcG, cellsF, neK, and_true, ne_eq, Nat.zero_add, Nat.reduceAdd] at hB3
  replace hL0 := hP
  go_wp2_with fail
  clear hA
  with_reducible refine Calls.mono (H23.out _) ?_
  rintro e x36 ⟨rfl, hb⟩
  replace hL0 := hL0.call hb
  clear hb hweq hput3 hB3
  replace hL0 := (hL0.new rfl [.int .u64 ((zl r2.num : Nat) : Int), .string (zh r2.num), .bool (zs r2.num), .int .u64 ((lo (fe r2) : Nat) : Int), .string (hs (fe r2))] 79)
  generalize hweq : (x36.alloc (.cells #[.int .u64 ((zl r2.num : Nat) : Int), .string (zh r2.num), .bool (zs r2.num), .int .u64 ((lo (fe r2) : Nat) : Int), .string (hs (fe r2))] 79)) = x37 at hL0
  have hN0 := cells_of _ 0 [] rfl (hL0.get _ _ (List.mem_cons_of_mem _ (List.mem_cons_of_mem _ (List.mem_cons_of_mem _ (List.mem_cons_of_mem _ (List.mem_cons_of_mem _ (List.mem_cons_of_mem _ (List.mem_cons_of_mem _ (List.mem_cons_of_mem _ List.mem_cons_self)))))))))
  simp only [cellsF, and_true, Nat.zero_add, Nat.reduceAdd] at hN0
  go_wp2_with fail
  clear hN0
  with_reducible refine Calls.mono (H24.out _) ?_
  rintro e x38 ⟨rfl, hb⟩
  replace hL0 := hL0.call hb
  clear hb hweq
  go_wp2_with fail
  with_reducible refine Calls.mono (H25.out _ (htab.below hL0.bl)) ?_
  rintro e x39 ⟨rfl, hb⟩
  replace hL0 := hL0.call hb
  clear hb
  have hN0 := cells_of _ 0 [] rfl (hL0.get _ _ (List.mem_cons_of_mem _ (List.mem_cons_of_mem _ (List.mem_cons_of_mem _ (List.mem_cons_of_mem _ (List.mem_cons_of_mem _ (List.mem_cons_of_mem _ (List.mem_cons_of_mem _ (List.mem_cons_of_mem _ List.mem_cons_self)))))))))
  simp only [cellsF, and_true, Nat.zero_add, Nat.reduceAdd] at hN0
  go_wp2_with fail
  clear hN0
  with_reducible refine Calls.mono (H26.out _) ?_
  rintro e x40 ⟨rfl, hb⟩
  replace hL0 := hL0.call hb
  clear hb
  go_wp2_with fail
  with_reducible refine Calls.mono (H27.out _ (htab.below hL0.bl)) ?_
  rintro e x41 ⟨rfl, hb⟩
  replace hL0 := hL0.call hb
  clear hb
  have hN0 := cells_of _ 0 [] rfl (hL0.get _ _ (List.mem_cons_of_mem _ (List.mem_cons_of_mem _ List.mem_cons_self)))
  simp only [cellsF, and_true, Nat.zero_add, Nat.reduceAdd] at hN0
  go_wp2_with fail
  clear hN0
  with_reducible refine Calls.mono (H28.out _ (htab.below hL0.bl)) ?_
  rintro e x42 ⟨rfl, hb⟩
  replace hL0 := hL0.call hb
  clear hb
  have hN0 := cells_of _ 0 [] rfl (hL0.get _ _ List.mem_cons_self)
  simp only [cellsF, and_true, Nat.zero_add, Nat.reduceAdd] at hN0
  go_wp2_with fail
  clear hN0
  with_reducible refine Calls.mono (H11.out _ (htab.below hL0.bl)) ?_
  rintro e x43 ⟨rfl, hb⟩
  replace hL0 := hL0.call hb
  clear hb
  go_wp2_with fail
  with_reducible refine Calls.mono (H29.out _) ?_
  rintro e x44 ⟨rfl, hb⟩
  replace hL0 := hL0.call hb
  clear hb
  go_wp2_with fail
  with_reducible refine Calls.mono (H16.out _ (htab.below hL0.bl)) ?_
  rintro e x45 ⟨rfl, hb⟩
  replace hL0 := hL0.call hb
  clear hb
  go_wp2_with fail
  with_reducible refine Calls.mono (H30.out _) ?_
  rintro e x46 ⟨rfl, hb⟩
  replace hL0 := hL0.call hb
  clear hb
  go_wp2_with fail
  with_reducible refine Calls.mono (H31.out _) ?_
  rintro e x47 ⟨rfl, hb⟩
  replace hL0 := hL0.call hb
  clear hb
  replace hL0 := (hL0.new rfl [.int .u64 ((zl r11.num : Nat) : Int), .string (zh r11.num), .bool (zs r11.num), .int .u64 ((lo (fe r11) : Nat) : Int), .string (hs (fe r11)), .int .u64 ((zl r12.num : Nat) : Int), .string (zh r12.num), .bool (zs r12.num), .int .u64 ((lo (fe r12) : Nat) : Int), .string (hs (fe r12))] 79)
  generalize hweq : (x47.alloc (.cells #[.int .u64 ((zl r11.num : Nat) : Int), .string (zh r11.num), .bool (zs r11.num), .int .u64 ((lo (fe r11) : Nat) : Int), .string (hs (fe r11)), .int .u64 ((zl r12.num : Nat) : Int), .string (zh r12.num), .bool (zs r12.num), .int .u64 ((lo (fe r12) : Nat) : Int), .string (hs (fe r12))] 79)) = x48 at hL0
  go_wp2_with fail
  with_reducible refine Calls.mono (H32.out _ _ (hL0.get _ _ List.mem_cons_self)) ?_
  rintro e x49 ⟨rfl, hb⟩
  replace hL0 := hL0.call hb
  clear hb hweq
  go_wp2_with fail
  with_reducible refine Calls.mono (H33.out _ (htab.below hL0.bl)) ?_
  rintro e x50 ⟨rfl, hb⟩
  replace hL0 := hL0.call hb
  clear hb
  replace hL0 := ((hL0.new rfl [.string (ByteArray.mk #[45, 54, 47, 52]), .string (ByteArray.mk #[49, 47, 48]), .string (ByteArray.mk #[49, 47, 45, 50]), .string (ByteArray.mk #[49, 47, 50, 47, 51]), .string (ByteArray.mk #[48, 47, 55]), .string ⟨#[]⟩, .string (ByteArray.mk #[49, 47])] 9).new (K := x50.heap.size + 1) (szA _ _) [.int .i64 0, .int .i64 5, .int .i64 4, .int .i64 4, .int .i64 0, .int .i64 4, .int .i64 4] 85)
  generalize hweq : ((x50.alloc (.cells #[.string (ByteArray.mk #[45, 54, 47, 52]), .string (ByteArray.mk #[49, 47, 48]), .string (ByteArray.mk #[49, 47, 45, 50]), .string (ByteArray.mk #[49, 47, 50, 47, 51]), .string (ByteArray.mk #[48, 47, 55]), .string ⟨#[]⟩, .string (ByteArray.mk #[49, 47])] 9)).alloc (.cells #[.int .i64 0, .int .i64 5, .int .i64 4, .int .i64 4, .int .i64 0, .int .i64 4, .int .i64 4] 85)) = x51 at hL0
  go_wp2_with fail
  clear hweq
  go_loopw [18] (fun z wr => ∃ i : Nat, i ≤ 7 ∧ z = .int .i64 (i : Int) ∧ GL w wr [(x50.heap.size + 1, [.int .i64 0, .int .i64 5, .int .i64 4, .int .i64 4, .int .i64 0, .int .i64 4, .int .i64 4]), (x50.heap.size, [.string (ByteArray.mk #[45, 54, 47, 52]), .string (ByteArray.mk #[49, 47, 48]), .string (ByteArray.mk #[49, 47, 45, 50]), .string (ByteArray.mk #[49, 47, 50, 47, 51]), .string (ByteArray.mk #[48, 47, 55]), .string ⟨#[]⟩, .string (ByteArray.mk #[49, 47])]), (x47.heap.size, [.int .u64 ((zl r11.num : Nat) : Int), .string (zh r11.num), .bool (zs r11.num), .int .u64 ((lo (fe r11) : Nat) : Int), .string (hs (fe r11)), .int .u64 ((zl r12.num : Nat) : Int), .string (zh r12.num), .bool (zs r12.num), .int .u64 ((lo (fe r12) : Nat) : Int), .string (hs (fe r12))]), (x36.heap.size, [.int .u64 ((zl r2.num : Nat) : Int), .string (zh r2.num), .bool (zs r2.num), .int .u64 ((lo (fe r2) : Nat) : Int), .string (hs (fe r2))]), (x33.heap.size, [.int .u64 0, .string ⟨#[]⟩, .bool false, .int .u64 0, .string ⟨#[]⟩]), (x31.heap.size, [.int .u64 ((zl r10.num : Nat) : Int), .string (zh r10.num), .bool (zs r10.num), .int .u64 ((lo (fe r10) : Nat) : Int), .string (hs (fe r10))]), (k14_8, [.int .u64 0, .string ⟨#[]⟩, .bool false, .int .u64 0, .string ⟨#[]⟩]), (x12.heap.size, [.int .u64 ((zl r5.num : Nat) : Int), .string (zh r5.num), .bool (zs r5.num), .int .u64 ((lo (fe r5) : Nat) : Int), .string (hs (fe r5))]), (x8.heap.size, [.int .u64 ((zl r2.num : Nat) : Int), .string (zh r2.num), .bool (zs r2.num), .int .u64 ((lo (fe r2) : Nat) : Int), .string (hs (fe r2))]), (x5.heap.size, [.int .u64 0, .string ⟨#[]⟩, .bool false, .int .u64 0, .string ⟨#[]⟩]), (x2.heap.size + 1, [.int .u64 0, .string ⟨#[]⟩, .bool false, .int .u64 0, .string ⟨#[]⟩]), (x2.heap.size, [.int .u64 ((zl r1.num : Nat) : Int), .string (zh r1.num), .bool (zs r1.num), .int .u64 ((lo (fe r1) : Nat) : Int), .string (hs (fe r1))])]) (fun z _ => 7 - (intOf z).toNat)
  case atStart => exact ⟨0, by omega, rfl, hL0⟩
  case round =>
    clear hL0
    obtain ⟨i, hi, rfl, hL0⟩ := hrel
    rcases (show i = 0 ∨ i = 1 ∨ i = 2 ∨ i = 3 ∨ i = 4 ∨ i = 5 ∨ i = 6 ∨ i = 7 by omega) with rfl | rfl | rfl | rfl | rfl | rfl | rfl | rfl
    all_goals clear hi
    · skip
      have hN0 := cells_of _ 0 [] rfl (hL0.get _ _ (List.mem_cons_of_mem _ List.mem_cons_self))
      simp only [cellsF, and_true, Nat.zero_add, Nat.reduceAdd] at hN0
      go_wp2_with fail
      clear hN0
      with_reducible refine Calls.mono (P0.out _ (hKM.out.at hL0.bl kKM)) ?_
      rintro e x52 ⟨rfl, hb⟩
      replace hL0 := hL0.call hb
      clear hb
      replace hL0 := (hL0.new rfl [.int .u64 ((zl r1.num : Nat) : Int), .string (zh r1.num), .bool (zs r1.num), .int .u64 ((lo (fe r1) : Nat) : Int), .string (hs (fe r1))] 79)
      generalize hweq : (x52.alloc (.cells #[.int .u64 ((zl r1.num : Nat) : Int), .string (zh r1.num), .bool (zs r1.num), .int .u64 ((lo (fe r1) : Nat) : Int), .string (hs (fe r1))] 79)) = x53 at hL0
      have hN0 := cells_of _ 0 [] rfl (hL0.get _ _ List.mem_cons_self)
      simp only [cellsF, and_true, Nat.zero_add, Nat.reduceAdd] at hN0
      have hN1 := cells_of _ 0 [] rfl (hL0.get _ _ (List.mem_cons_of_mem _ List.mem_cons_self))
      simp only [cellsF, and_true, Nat.zero_add, Nat.reduceAdd] at hN1
      have hN2 := cells_of _ 0 [] rfl (hL0.get _ _ (List.mem_cons_of_mem _ (List.mem_cons_of_mem _ (List.mem_cons_of_mem _ (List.mem_cons_of_mem _ (List.mem_cons_of_mem _ (List.mem_cons_of_mem _ (List.mem_cons_of_mem _ (List.mem_cons_of_mem _ (List.mem_cons_of_mem _ (List.mem_cons_of_mem _ (List.mem_cons_of_mem _ (List.mem_cons_of_mem _ List.mem_cons_self)))))))))))))
      simp only [cellsF, and_true, Nat.zero_add, Nat.reduceAdd] at hN2
      go_wp2_with fail
      go_roundw
      case rel => exact ⟨0 + 1, by omega, by first | rfl | go_num, hL0.weak (List.Sublist.cons _ (List.Sublist.refl _))⟩
      case measure => simp [intOf]
    · skip
      have hN0 := cells_of _ 0 [] rfl (hL0.get _ _ (List.mem_cons_of_mem _ List.mem_cons_self))
      simp only [cellsF, and_true, Nat.zero_add, Nat.reduceAdd] at hN0
      go_wp2_with fail
      clear hN0
      with_reducible refine Calls.mono (P1.out _ (hKM.out.at hL0.bl kKM)) ?_
      rintro e x54 ⟨rfl, hb⟩
      replace hL0 := hL0.call hb
      clear hb
      replace hL0 := (hL0.new rfl [.int .u64 0, .string ⟨#[]⟩, .bool false, .int .u64 0, .string ⟨#[]⟩] 79)
      generalize hweq : (x54.alloc (.cells #[.int .u64 0, .string ⟨#[]⟩, .bool false, .int .u64 0, .string ⟨#[]⟩] 79)) = x55 at hL0
      have hA := hL0.fc
      simp only [fcG, cellsF, neK, and_true, ne_eq, Nat.zero_add, Nat.reduceAdd] at hA
      have hP := hL0.put 0 (x54.heap.size) _ rfl [.int .u64 0, .string ⟨#[]⟩, .bool false, .int .u64 0, .string ⟨#[]⟩] rfl
      simp only [setAll, List.set_cons_zero, List.set_cons_succ] at hP
      generalize hput4 : (((((x55.setCell ⟨x54.heap.size, 0, none⟩ (.int .u64 0)).setCell ⟨x54.heap.size, 1, none⟩ (.string ⟨#[]⟩)).setCell ⟨x54.heap.size, 2, none⟩ (.bool false)).setCell ⟨x54.heap.size, 3, none⟩ (.int .u64 0)).setCell ⟨x54.heap.size, 4, none⟩ (.string ⟨#[]⟩)) = x56 at hP
      have hB4 := hP.fc
      simp only [fcG, cellsF, neK, and_true, ne_eq, Nat.zero_add, Nat.reduceAdd] at hB4
      replace hL0 := hP
      go_wp2_with fail
      go_roundw
      case rel => exact ⟨1 + 1, by omega, by first | rfl | go_num, hL0.weak (List.Sublist.cons _ (List.Sublist.refl _))⟩
      case measure => simp [intOf]
    · skip
      have hN0 := cells_of _ 0 [] rfl (hL0.get _ _ (List.mem_cons_of_mem _ List.mem_cons_self))
      simp only [cellsF, and_true, Nat.zero_add, Nat.reduceAdd] at hN0
      go_wp2_with fail
      clear hN0
      with_reducible refine Calls.mono (P2.out _ (hKM.out.at hL0.bl kKM)) ?_
      rintro e x57 ⟨rfl, hb⟩
      replace hL0 := hL0.call hb
      clear hb
      replace hL0 := (hL0.new rfl [.int .u64 0, .string ⟨#[]⟩, .bool false, .int .u64 0, .string ⟨#[]⟩] 79)
      generalize hweq : (x57.alloc (.cells #[.int .u64 0, .string ⟨#[]⟩, .bool false, .int .u64 0, .string ⟨#[]⟩] 79)) = x58 at hL0
      have hA := hL0.fc
      simp only [fcG, cellsF, neK, and_true, ne_eq, Nat.zero_add, Nat.reduceAdd] at hA
      have hP := hL0.put 0 (x57.heap.size) _ rfl [.int .u64 0, .string ⟨#[]⟩, .bool false, .int .u64 0, .string ⟨#[]⟩] rfl
      simp only [setAll, List.set_cons_zero, List.set_cons_succ] at hP
      generalize hput5 : (((((x58.setCell ⟨x57.heap.size, 0, none⟩ (.int .u64 0)).setCell ⟨x57.heap.size, 1, none⟩ (.string ⟨#[]⟩)).setCell ⟨x57.heap.size, 2, none⟩ (.bool false)).setCell ⟨x57.heap.size, 3, none⟩ (.int .u64 0)).setCell ⟨x57.heap.size, 4, none⟩ (.string ⟨#[]⟩)) = x59 at hP
      have hB5 := hP.fc
      simp only [fcG, cellsF, neK, and_true, ne_eq, Nat.zero_add, Nat.reduceAdd] at hB5
      replace hL0 := hP
      go_wp2_with fail
      go_roundw
      case rel => exact ⟨2 + 1, by omega, by first | rfl | go_num, hL0.weak (List.Sublist.cons _ (List.Sublist.refl _))⟩
      case measure => simp [intOf]
    · skip
      have hN0 := cells_of _ 0 [] rfl (hL0.get _ _ (List.mem_cons_of_mem _ List.mem_cons_self))
      simp only [cellsF, and_true, Nat.zero_add, Nat.reduceAdd] at hN0
      go_wp2_with fail
      clear hN0
      with_reducible refine Calls.mono (P3.out _ (hKM.out.at hL0.bl kKM)) ?_
      rintro e x60 ⟨rfl, hb⟩
      replace hL0 := hL0.call hb
      clear hb
      replace hL0 := (hL0.new rfl [.int .u64 0, .string ⟨#[]⟩, .bool false, .int .u64 0, .string ⟨#[]⟩] 79)
      generalize hweq : (x60.alloc (.cells #[.int .u64 0, .string ⟨#[]⟩, .bool false, .int .u64 0, .string ⟨#[]⟩] 79)) = x61 at hL0
      have hA := hL0.fc
      simp only [fcG, cellsF, neK, and_true, ne_eq, Nat.zero_add, Nat.reduceAdd] at hA
      have hP := hL0.put 0 (x60.heap.size) _ rfl [.int .u64 0, .string ⟨#[]⟩, .bool false, .int .u64 0, .string ⟨#[]⟩] rfl
      simp only [setAll, List.set_cons_zero, List.set_cons_succ] at hP
      generalize hput6 : (((((x61.setCell ⟨x60.heap.size, 0, none⟩ (.int .u64 0)).setCell ⟨x60.heap.size, 1, none⟩ (.string ⟨#[]⟩)).setCell ⟨x60.heap.size, 2, none⟩ (.bool false)).setCell ⟨x60.heap.size, 3, none⟩ (.int .u64 0)).setCell ⟨x60.heap.size, 4, none⟩ (.string ⟨#[]⟩)) = x62 at hP
      have hB6 := hP.fc
      simp only [fcG, cellsF, neK, and_true, ne_eq, Nat.zero_add, Nat.reduceAdd] at hB6
      replace hL0 := hP
      go_wp2_with fail
      go_roundw
      case rel => exact ⟨3 + 1, by omega, by first | rfl | go_num, hL0.weak (List.Sublist.cons _ (List.Sublist.refl _))⟩
      case measure => simp [intOf]
    · skip
      have hN0 := cells_of _ 0 [] rfl (hL0.get _ _ (List.mem_cons_of_mem _ List.mem_cons_self))
      simp only [cellsF, and_true, Nat.zero_add, Nat.reduceAdd] at hN0
      go_wp2_with fail
      clear hN0
      with_reducible refine Calls.mono (P4.out _ (hKM.out.at hL0.bl kKM)) ?_
      rintro e x63 ⟨rfl, hb⟩
      replace hL0 := hL0.call hb
      clear hb
      replace hL0 := (hL0.new rfl [.int .u64 0, .string ⟨#[]⟩, .bool false, .int .u64 0, .string ⟨#[]⟩] 79)
      generalize hweq : (x63.alloc (.cells #[.int .u64 0, .string ⟨#[]⟩, .bool false, .int .u64 0, .string ⟨#[]⟩] 79)) = x64 at hL0
      have hA := hL0.fc
      simp only [fcG, cellsF, neK, and_true, ne_eq, Nat.zero_add, Nat.reduceAdd] at hA
      have hP := hL0.put 0 (x63.heap.size) _ rfl [.int .u64 0, .string ⟨#[]⟩, .bool false, .int .u64 0, .string ⟨#[]⟩] rfl
      simp only [setAll, List.set_cons_zero, List.set_cons_succ] at hP
      generalize hput7 : (((((x64.setCell ⟨x63.heap.size, 0, none⟩ (.int .u64 0)).setCell ⟨x63.heap.size, 1, none⟩ (.string ⟨#[]⟩)).setCell ⟨x63.heap.size, 2, none⟩ (.bool false)).setCell ⟨x63.heap.size, 3, none⟩ (.int .u64 0)).setCell ⟨x63.heap.size, 4, none⟩ (.string ⟨#[]⟩)) = x65 at hP
      have hB7 := hP.fc
      simp only [fcG, cellsF, neK, and_true, ne_eq, Nat.zero_add, Nat.reduceAdd] at hB7
      replace hL0 := hP
      go_wp2_with fail
      go_roundw
      case rel => exact ⟨4 + 1, by omega, by first | rfl | go_num, hL0.weak (List.Sublist.cons _ (List.Sublist.refl _))⟩
      case measure => simp [intOf]
    · skip
      have hN0 := cells_of _ 0 [] rfl (hL0.get _ _ (List.mem_cons_of_mem _ List.mem_cons_self))
      simp only [cellsF, and_true, Nat.zero_add, Nat.reduceAdd] at hN0
      go_wp2_with fail
      clear hN0
      with_reducible refine Calls.mono (P5.out _ (hKM.out.at hL0.bl kKM)) ?_
      rintro e x66 ⟨rfl, hb⟩
      replace hL0 := hL0.call hb
      clear hb
      replace hL0 := (hL0.new rfl [.int .u64 0, .string ⟨#[]⟩, .bool false, .int .u64 0, .string ⟨#[]⟩] 79)
      generalize hweq : (x66.alloc (.cells #[.int .u64 0, .string ⟨#[]⟩, .bool false, .int .u64 0, .string ⟨#[]⟩] 79)) = x67 at hL0
      have hA := hL0.fc
      simp only [fcG, cellsF, neK, and_true, ne_eq, Nat.zero_add, Nat.reduceAdd] at hA
      have hP := hL0.put 0 (x66.heap.size) _ rfl [.int .u64 0, .string ⟨#[]⟩, .bool false, .int .u64 0, .string ⟨#[]⟩] rfl
      simp only [setAll, List.set_cons_zero, List.set_cons_succ] at hP
      generalize hput8 : (((((x67.setCell ⟨x66.heap.size, 0, none⟩ (.int .u64 0)).setCell ⟨x66.heap.size, 1, none⟩ (.string ⟨#[]⟩)).setCell ⟨x66.heap.size, 2, none⟩ (.bool false)).setCell ⟨x66.heap.size, 3, none⟩ (.int .u64 0)).setCell ⟨x66.heap.size, 4, none⟩ (.string ⟨#[]⟩)) = x68 at hP
      have hB8 := hP.fc
      simp only [fcG, cellsF, neK, and_true, ne_eq, Nat.zero_add, Nat.reduceAdd] at hB8
      replace hL0 := hP
      go_wp2_with fail
      go_roundw
      case rel => exact ⟨5 + 1, by omega, by first | rfl | go_num, hL0.weak (List.Sublist.cons _ (List.Sublist.refl _))⟩
      case measure => simp [intOf]
    · skip
      have hN0 := cells_of _ 0 [] rfl (hL0.get _ _ (List.mem_cons_of_mem _ List.mem_cons_self))
      simp only [cellsF, and_true, Nat.zero_add, Nat.reduceAdd] at hN0
      go_wp2_with fail
      clear hN0
      with_reducible refine Calls.mono (P6.out _ (hKM.out.at hL0.bl kKM)) ?_
      rintro e x69 ⟨rfl, hb⟩
      replace hL0 := hL0.call hb
      clear hb
      replace hL0 := (hL0.new rfl [.int .u64 0, .string ⟨#[]⟩, .bool false, .int .u64 0, .string ⟨#[]⟩] 79)
      generalize hweq : (x69.alloc (.cells #[.int .u64 0, .string ⟨#[]⟩, .bool false, .int .u64 0, .string ⟨#[]⟩] 79)) = x70 at hL0
      have hA := hL0.fc
      simp only [fcG, cellsF, neK, and_true, ne_eq, Nat.zero_add, Nat.reduceAdd] at hA
      have hP := hL0.put 0 (x69.heap.size) _ rfl [.int .u64 0, .string ⟨#[]⟩, .bool false, .int .u64 0, .string ⟨#[]⟩] rfl
      simp only [setAll, List.set_cons_zero, List.set_cons_succ] at hP
      generalize hput9 : (((((x70.setCell ⟨x69.heap.size, 0, none⟩ (.int .u64 0)).setCell ⟨x69.heap.size, 1, none⟩ (.string ⟨#[]⟩)).setCell ⟨x69.heap.size, 2, none⟩ (.bool false)).setCell ⟨x69.heap.size, 3, none⟩ (.int .u64 0)).setCell ⟨x69.heap.size, 4, none⟩ (.string ⟨#[]⟩)) = x71 at hP
      have hB9 := hP.fc
      simp only [fcG, cellsF, neK, and_true, ne_eq, Nat.zero_add, Nat.reduceAdd] at hB9
      replace hL0 := hP
      go_wp2_with fail
      go_roundw
      case rel => exact ⟨6 + 1, by omega, by first | rfl | go_num, hL0.weak (List.Sublist.cons _ (List.Sublist.refl _))⟩
      case measure => simp [intOf]
    · skip
      go_wp2_with fail
      exact bodyPost_ret (v := .bool true) (by simp [results, Tryz.results57, go_sem]) rfl ⟨rfl, hL0.bl⟩

theorem fworks_any (w : World) (htab : Tab w) (hm : MaxL w) : Calls Tryz.prog 57 #[] w fun xe w' => xe = .returned (.bool true) ∧ Below w.heap.size w w' := by
  have H1t := fun w => ofF (6) (-4) (by decide) (by decide) (by decide) (by decide) (by decide) w
  rw [show (((6 : Int)) : Rat) / (((-4 : Int)) : Rat) = (mkRat (-3) 2) from by decide +kernel] at H1t
  have H1 := fun w => lof_w _ _ _ _ _ H1t w
  have H2t := fun w => ofF (0) (-5) (by decide) (by decide) (by decide) (by decide) (by decide) w
  rw [show (((0 : Int)) : Rat) / (((-5 : Int)) : Rat) = (0 : Rat) from by decide +kernel] at H2t
  rw [frV_q0] at H2t
  have H2 := fun w => lof_0 _ _ _ H2t w
  have H3 := fun w => of0F (1) (by decide) (by decide) w
  try rw [frV_q0] at H3
  have H4t := fun w => ofF (-9223372036854775808) (-9223372036854775808) (by decide) (by decide) (by decide) (by decide) (by decide) w
  rw [show (((-9223372036854775808 : Int)) : Rat) / (((-9223372036854775808 : Int)) : Rat) = ((1 : Int) : Rat) from by decide +kernel] at H4t
  have H4 := fun w => lof_w _ _ _ _ _ H4t w
  have H5t := fun w => ofF (1) (2) (by decide) (by decide) (by decide) (by decide) (by decide) w
  rw [show (((1 : Int)) : Rat) / (((2 : Int)) : Rat) = (mkRat (1) 2) from by decide +kernel] at H5t
  have H5 := fun w => lof_w _ _ _ _ _ H5t w
  have H6t := fun w => ofF (-1) (4) (by decide) (by decide) (by decide) (by decide) (by decide) w
  rw [show (((-1 : Int)) : Rat) / (((4 : Int)) : Rat) = (mkRat (-1) 4) from by decide +kernel] at H6t
  have H6 := fun w => lof_w _ _ _ _ _ H6t w
  have H7 := fun w => divF (mkRat (1) 2) (mkRat (-1) 4) 1 ((szc (mkRat (1) 2) (by decide +kernel) (by decide +kernel)).mono (by omega)) ((szc (mkRat (-1) 4) (by decide +kernel) (by decide +kernel)).mono (by omega)) (by omega) (by decide +kernel) w
  rw [show ((mkRat (1) 2) / (mkRat (-1) 4)) = ((-2 : Int) : Rat) from by decide +kernel] at H7
  have H8 := fun w => intF (1) (by decide) (by decide) w
  have H9 := fun w => div0F ((1 : Int) : Rat) w
  try rw [frV_q0] at H9
  have H10t := fun w h => textF (mkRat (-3) 2) 1 (szc (mkRat (-3) 2) (by decide +kernel) (by decide +kernel)) (by omega) w h
  rw [show qtxt (mkRat (-3) 2) = (ByteArray.mk #[45, 51, 47, 50]) from qt_n3_2] at H10t
  have H10 := fun w h => ltext_true _ _ _ H10t w h
  have H11t := fun w h => textF ((1 : Int) : Rat) 1 (szc ((1 : Int) : Rat) (by decide +kernel) (by decide +kernel)) (by omega) w h
  rw [show qtxt ((1 : Int) : Rat) = (ByteArray.mk #[49]) from qt_1] at H11t
  have H11 := fun w h => ltext_true _ _ _ H11t w h
  have H12t := fun w => ofF (1) (3) (by decide) (by decide) (by decide) (by decide) (by decide) w
  rw [show (((1 : Int)) : Rat) / (((3 : Int)) : Rat) = (mkRat (1) 3) from by decide +kernel] at H12t
  have H12 := fun w => lof_w _ _ _ _ _ H12t w
  have H13 := fun w => addF (mkRat (1) 2) (mkRat (1) 3) 1 ((szc (mkRat (1) 2) (by decide +kernel) (by decide +kernel)).mono (by omega)) ((szc (mkRat (1) 3) (by decide +kernel) (by decide +kernel)).mono (by omega)) (by omega) w
  rw [show ((mkRat (1) 2) + (mkRat (1) 3)) = (mkRat (5) 6) from by decide +kernel] at H13
  have H14t := fun w h => textF (mkRat (5) 6) 1 (szc (mkRat (5) 6) (by decide +kernel) (by decide +kernel)) (by omega) w h
  rw [show qtxt (mkRat (5) 6) = (ByteArray.mk #[53, 47, 54]) from qt_5_6] at H14t
  have H14 := fun w h => ltext_true _ _ _ H14t w h
  have H15 := fun w => subF (mkRat (1) 2) (mkRat (1) 2) 1 ((szc (mkRat (1) 2) (by decide +kernel) (by decide +kernel)).mono (by omega)) ((szc (mkRat (1) 2) (by decide +kernel) (by decide +kernel)).mono (by omega)) (by omega) w
  rw [show ((mkRat (1) 2) - (mkRat (1) 2)) = (0 : Rat) from by decide +kernel] at H15
  try rw [frV_q0] at H15
  have H16t := fun w h => textF (0 : Rat) 1 (szc 0 (by decide) (by decide)) (by omega) w h
  rw [show qtxt (0 : Rat) = (ByteArray.mk #[48]) from qt_0] at H16t
  rw [frV_q0] at H16t
  have H16 := fun w h => ltext_0 _ H16t w h
  have H17t := fun w => ofF (2) (3) (by decide) (by decide) (by decide) (by decide) (by decide) w
  rw [show (((2 : Int)) : Rat) / (((3 : Int)) : Rat) = (mkRat (2) 3) from by decide +kernel] at H17t
  have H17 := fun w => lof_w _ _ _ _ _ H17t w
  have H18t := fun w => ofF (3) (2) (by decide) (by decide) (by decide) (by decide) (by decide) w
  rw [show (((3 : Int)) : Rat) / (((2 : Int)) : Rat) = (mkRat (3) 2) from by decide +kernel] at H18t
  have H18 := fun w => lof_w _ _ _ _ _ H18t w
  have H19 := fun w => mulF (mkRat (2) 3) (mkRat (3) 2) 1 ((szc (mkRat (2) 3) (by decide +kernel) (by decide +kernel)).mono (by omega)) ((szc (mkRat (3) 2) (by decide +kernel) (by decide +kernel)).mono (by omega)) (by omega) w
  rw [show ((mkRat (2) 3) * (mkRat (3) 2)) = ((1 : Int) : Rat) from by decide +kernel] at H19
  have H20t := fun w h => textF ((-2 : Int) : Rat) 1 (szc ((-2 : Int) : Rat) (by decide +kernel) (by decide +kernel)) (by omega) w h
  rw [show qtxt ((-2 : Int) : Rat) = (ByteArray.mk #[45, 50]) from qt_n2] at H20t
  have H20 := fun w h => ltext_true _ _ _ H20t w h
  have H21t := fun w => powerF (mkRat (2) 3)⁻¹ 2 (by decide) (.inr (by decide +kernel)) (.inr (by decide +kernel)) 1 (Sz.inv (szc (mkRat (2) 3) (by decide +kernel) (by decide +kernel)) (by decide +kernel)) (by omega) w
  rw [show ((mkRat (2) 3)⁻¹) ^ (2 : Nat) = (mkRat (9) 4) from by decide +kernel] at H21t
  have H21 := fun w => powF_neg (mkRat (2) 3) (by decide +kernel) (-2) 2 (by decide) (by decide) (by decide) _ _ H21t w
  have H22 := fun w => powF_zero (-1) (by decide) (by decide) w
  rw [frV_q0] at H22
  have H23t := fun w => powerF (0 : Rat) 0 (by decide) (.inl rfl) (.inl rfl) 1 (szc 0 (by decide) (by decide)) (by omega) w
  rw [show (0 : Rat) ^ (0 : Nat) = ((1 : Int) : Rat) from by decide +kernel] at H23t
  have H23 := fun w => powF_pos (0 : Rat) 0 (by decide) _ _ H23t w
  try rw [frV_q0] at H23
  try rw [show ((((0) : Nat)) : Int) = 0 from rfl] at H23
  have H24 := fun w => floorF (mkRat (-3) 2) 1 (szc (mkRat (-3) 2) (by decide +kernel) (by decide +kernel)) (by omega) w
  rw [show ((mkRat (-3) 2)).floor = -2 from by decide +kernel] at H24
  have H25 := fun w h => textI (-2 : Int) (Nat.le_trans (dI_lit (by decide)) (by omega)) w h
  rw [show ztxt (-2 : Int) = (ByteArray.mk #[45, 50]) from zt_n2] at H25
  have H26 := fun w => ceilF (mkRat (-3) 2) 1 (szc (mkRat (-3) 2) (by decide +kernel) (by decide +kernel)) (by omega) w
  rw [show rceil (mkRat (-3) 2) = -1 from by decide +kernel] at H26
  have H27 := fun w h => textI (-1 : Int) (Nat.le_trans (dI_lit (by decide)) (by omega)) w h
  rw [show ztxt (-1 : Int) = (ByteArray.mk #[45, 49]) from zt_n1] at H27
  have H28t := fun w h => textF (mkRat (9) 4) 1 (szc (mkRat (9) 4) (by decide +kernel) (by decide +kernel)) (by omega) w h
  rw [show qtxt (mkRat (9) 4) = (ByteArray.mk #[57, 47, 52]) from qt_9_4] at H28t
  have H28 := fun w h => ltext_true _ _ _ H28t w h
  have H29 := fun w => max_nil w
  have H30 := fun w => intF (-1) (by decide) (by decide) w
  have H31t := fun w => ofF (-1) (2) (by decide) (by decide) (by decide) (by decide) (by decide) w
  rw [show (((-1 : Int)) : Rat) / (((2 : Int)) : Rat) = (mkRat (-1) 2) from by decide +kernel] at H31t
  have H31 := fun w => lof_w _ _ _ _ _ H31t w
  have H32 := fun g w h => max_two ((-1 : Int) : Rat) (mkRat (-1) 2) (mkRat (-1) 2) (szc ((-1 : Int) : Rat) (by decide +kernel) (by decide +kernel)) (szc (mkRat (-1) 2) (by decide +kernel) (by decide +kernel)) (by decide +kernel) g w h
  have H33t := fun w h => textF (mkRat (-1) 2) 1 (szc (mkRat (-1) 2) (by decide +kernel) (by decide +kernel)) (by omega) w h
  rw [show qtxt (mkRat (-1) 2) = (ByteArray.mk #[45, 49, 47, 50]) from qt_n1_2] at H33t
  have H33 := fun w h => ltext_true _ _ _ H33t w h
  exact fworks_w (mkRat (-3) 2) ((1 : Int) : Rat) (mkRat (1) 2) (mkRat (-1) 4) ((-2 : Int) : Rat) (mkRat (1) 3) (mkRat (5) 6) (mkRat (2) 3) (mkRat (3) 2) (mkRat (9) 4) (-2 : Int) (-1 : Int) ((-1 : Int) : Rat) (mkRat (-1) 2) _ MaxL.keeps parse_w0 parse_w1 parse_w2 parse_w3 parse_w4 parse_w5 parse_w6 H1 H2 H3 H4 H5 H6 H7 H8 H9 H10 H11 H12 H13 H14 H15 H16 H17 H18 H19 H20 H21 H22 H23 H24 H25 H26 H27 H28 H29 H30 H31 H32 H33 w htab hm
end Go.Proofs.YtecdnohhengfaaaGreatDoor

/-
  Layer 3, the law package: few.
-/
namespace Go.Proofs.YtecdnohhengfaaaGreatDoor
open Go.RowKit
attribute [local irreducible] lo hs zl zh zs

end Go.Proofs.YtecdnohhengfaaaGreatDoor

/-
  A quicker look whether the order of the text may be walked for every order.
-/
namespace Go.Proofs.YtecdnohhengfaaaGreatDoor

end Go.Proofs.YtecdnohhengfaaaGreatDoor

/-
  Layer 3, laws: what they share.
-/
namespace Go.Proofs.YtecdnohhengfaaaGreatDoor
open Go.RowKit
attribute [local irreducible] lo hs sm s64 c64 d64 b64 mh ml pd pc qd qc val hiB str cmpI srD lz nb isq decB zl zh zs

theorem sgnQ_eq0 {q : Rat} : (sgnQ q == 0) = decide (q = 0) := by
  unfold sgnQ
  by_cases h : q < 0
  · rw [if_pos h, decide_eq_false (p := q = 0) (by grind)]; rfl
  · rw [if_neg h]
    by_cases h' : q = 0
    · rw [if_pos h', decide_eq_true h']; rfl
    · rw [if_neg h', decide_eq_false h']; rfl
end Go.Proofs.YtecdnohhengfaaaGreatDoor

/-
  Layer 3: powers with exponents of either sign; fractions of a 64-bit numerator and a 32-bit denominator.
-/
namespace Go.Proofs.YtecdnohhengfaaaGreatDoor
open Go.RowKit
attribute [local irreducible] lo hs sm s64 c64 d64 b64 mh ml pd pc qd qc val hiB str cmpI srD lz isq decB zl zh zs dval

theorem digs_pow_le {n k : Nat} (h : (digs n).length ≤ k) : ∀ i, (digs (n ^ i)).length ≤ k * i + 1
  | 0 => by rw [Nat.pow_zero]; exact digs_length_iff.2 (by rw [Nat.mul_zero, Nat.zero_add, Nat.pow_one]; exact Bs_gt)
  | i + 1 => by
    rw [Nat.pow_succ]
    refine Nat.le_trans (digs_mul_le (digs_pow_le h i) h) ?_
    rw [Nat.mul_succ]; omega
theorem Sz.pow {q : Rat} {k : Nat} (h : Sz q k) (i : Nat) : Sz (q ^ i) (k * i + 1) := by
  refine ⟨?_, ?_⟩
  · show (digs (q ^ i).num.natAbs).length ≤ _
    rw [Rat.num_pow, Int.natAbs_pow]; exact digs_pow_le h.1 i
  · rw [Rat.den_pow]; exact digs_pow_le h.2 i
theorem rpow_ne {q : Rat} (h : q ≠ 0) : ∀ n : Nat, q ^ n ≠ 0
  | 0 => by rw [Rat.pow_zero]; decide
  | n + 1 => by
    rw [Rat.pow_succ]
    intro e
    rcases Rat.mul_eq_zero.1 e with e | e
    · exact rpow_ne h n e
    · exact h e
theorem rinv_pow (q : Rat) : ∀ n : Nat, (q⁻¹) ^ n = (q ^ n)⁻¹
  | 0 => by rw [Rat.pow_zero, Rat.pow_zero]; decide +kernel
  | n + 1 => by rw [Rat.pow_succ, Rat.pow_succ, rinv_pow q n, Rat.inv_mul_rev, Rat.mul_comm]
theorem zpow_of_nat (q : Rat) (n : Nat) : q ^ (n : Int) = q ^ n := rfl
theorem zpow_of_neg (q : Rat) {m : Int} {l : Nat} (h : m = -(l : Int)) : q ^ m = (q⁻¹) ^ l := by
  rw [h, Rat.zpow_neg, rinv_pow, zpow_of_nat]
theorem Sz.zpow {q : Rat} {k : Nat} (h : Sz q k) {m : Int} (hq : q ≠ 0 ∨ 0 ≤ m) (hm : m.natAbs ≤ 40) : Sz (q ^ m) (k * 40 + 1) := by
  by_cases h0 : 0 ≤ m
  · obtain ⟨l, rfl⟩ : ∃ l : Nat, m = (l : Int) := ⟨m.toNat, by omega⟩
    rw [zpow_of_nat]
    have hl : l ≤ 40 := by omega
    exact (h.pow l).mono (by have := Nat.mul_le_mul_left k hl; omega)
  · obtain ⟨l, hl⟩ : ∃ l : Nat, m = -(l : Int) := ⟨m.natAbs, by omega⟩
    rw [zpow_of_neg q hl]
    have hl2 : l ≤ 40 := by omega
    exact ((h.inv (hq.resolve_right h0)).pow l).mono (by have := Nat.mul_le_mul_left k hl2; omega)
theorem powZ (q : Rat) (m : Int) (hq : q ≠ 0 ∨ 0 ≤ m) (hm : m.natAbs ≤ 4096) (k : Nat) (hk : m.natAbs = 0 ∨ k ≤ 262144 / m.natAbs) (h1 : nb q.num.natAbs ≤ k) (h2 : nb q.den ≤ k) (hs : Sz q 2) (w : World) :
    Calls Tryz.prog 98 #[fracV q, .int .i64 m] w fun x w' => x = .returned (.tuple #[fracV (q ^ m), .int .i64 0]) ∧ Below w.heap.size w w' := by
  have b : ∀ l : Nat, l = m.natAbs → ∀ x, nb x ≤ k → l = 0 ∨ nb x ≤ 262144 / l := fun l hl x hx => by
    subst hl
    rcases hk with hk | hk
    · exact .inl hk
    · exact .inr (Nat.le_trans hx hk)
  by_cases h0 : 0 ≤ m
  · obtain ⟨l, rfl⟩ : ∃ l : Nat, m = (l : Int) := ⟨m.toNat, by omega⟩
    rw [zpow_of_nat]
    exact powF_pos q l (by omega) _ _ (fun w => powerF q l (by omega) (b l (by omega) _ h1) (b l (by omega) _ h2) 2 hs (by omega) w) w
  · obtain ⟨l, hl⟩ : ∃ l : Nat, m = -(l : Int) := ⟨m.natAbs, by omega⟩
    have hne := hq.resolve_right h0
    rw [zpow_of_neg q hl]
    obtain ⟨e1, e2⟩ := rinv_parts hne
    have e3 : (q⁻¹).num.natAbs = q.den := by rw [e1]; split <;> omega
    exact powF_neg q hne m l hl (by omega) (by omega) _ _ (fun w => powerF q⁻¹ l (by omega) (by rw [e3]; exact b l (by omega) _ h2) (by rw [e2]; exact b l (by omega) _ h1) 2 (hs.inv hne) (by omega) w) w
theorem powZ_arg (q : Rat) (m : Int) (h : m < -4096 ∨ 4096 < m) (w : World) : Calls Tryz.prog 98 #[fracV q, .int .i64 m] w fun x w' => x = .returned (.tuple #[.agg #[.int .u64 0, .string ⟨#[]⟩, .bool false, .int .u64 0, .string ⟨#[]⟩], .int .i64 1]) ∧ Below w.heap.size w w' := by
  have := powF_arg q m h w
  rwa [frV_q0] at this
theorem powZ_zero (q : Rat) (hz : q = 0) (m : Int) (h1 : -4096 ≤ m) (h2 : m < 0) (w : World) : Calls Tryz.prog 98 #[fracV q, .int .i64 m] w fun x w' => x = .returned (.tuple #[.agg #[.int .u64 0, .string ⟨#[]⟩, .bool false, .int .u64 0, .string ⟨#[]⟩], .int .i64 5]) ∧ Below w.heap.size w w' := by
  subst hz
  rw [← frV_q0]
  exact powF_zero m h1 h2 w
theorem zpow_sum (q : Rat) (m k : Int) (h : q ≠ 0 ∨ 0 ≤ m ∧ 0 ≤ k) : q ^ m * q ^ k = q ^ (m + k) := by
  by_cases h0 : q = 0
  · obtain ⟨h1, h2⟩ := h.resolve_left (fun e => e h0)
    obtain ⟨a, rfl⟩ : ∃ l : Nat, m = (l : Int) := ⟨m.toNat, by omega⟩
    obtain ⟨b, rfl⟩ : ∃ l : Nat, k = (l : Int) := ⟨k.toNat, by omega⟩
    rw [← Int.natCast_add, zpow_of_nat, zpow_of_nat, zpow_of_nat]
    clear h h0 h1 h2
    induction b with
    | zero => rw [Rat.pow_zero, Rat.mul_one, Nat.add_zero]
    | succ b ih => rw [Rat.pow_succ, ← Rat.mul_assoc, ih, ← Rat.pow_succ, Nat.add_assoc]
  · rw [Rat.zpow_add h0]
/-- A fraction of small data. -/
def qmade (n : Int) (d : Nat) : Rat := mkRat n (if d < 1 then 1 else d)
theorem qmade_parts (n : Int) (d : Nat) : (qmade n d).num.natAbs ≤ n.natAbs ∧ (qmade n d).den ≤ (if d < 1 then 1 else d) := by
  unfold qmade
  obtain ⟨h1, h2⟩ := canc (z := n) (d := if d < 1 then 1 else d) (by split <;> omega)
  rw [h1, h2, Int.natAbs_tdiv]
  exact ⟨Nat.div_le_self _ _, Nat.div_le_self _ _⟩
theorem nb_small {x : Nat} (h : x ≤ 9) : nb x ≤ 4 := by
  by_cases h0 : x = 0
  · subst h0; decide
  · obtain ⟨k, h1, h2, _⟩ := nb_spec h0
    rcases Nat.lt_or_ge k 4 with hk | hk
    · omega
    · have := Nat.pow_le_pow_right (n := 2) (by omega) hk
      omega
theorem qmade_nb (n : Int) (d : Nat) (h1 : -9223372036854775808 ≤ n) (h2 : n < 9223372036854775808) (h3 : d < 4294967296) : nb (qmade n d).num.natAbs ≤ 64 ∧ nb (qmade n d).den ≤ 64 := by
  obtain ⟨e1, e2⟩ := qmade_parts n d
  exact ⟨nb_le64 (by unfold Bs; omega), nb_le64 (by unfold Bs; split at e2 <;> omega)⟩
theorem qmade_nb4 (n : Int) (d : Nat) (h1 : -9 ≤ n) (h2 : n ≤ 9) (h3 : d ≤ 9) : nb (qmade n d).num.natAbs ≤ 4 ∧ nb (qmade n d).den ≤ 4 := by
  obtain ⟨e1, e2⟩ := qmade_parts n d
  exact ⟨nb_small (by omega), nb_small (by split at e2 <;> omega)⟩
theorem qmade_sz (n : Int) (d : Nat) (h1 : -9223372036854775808 ≤ n) (h2 : n < 9223372036854775808) (h3 : d < 4294967296) : Sz (qmade n d) 1 := by
  obtain ⟨e1, e2⟩ := qmade_parts n d
  exact szc _ (by omega) (by split at e2 <;> omega)
end Go.Proofs.YtecdnohhengfaaaGreatDoor

/-
  Layer 1, cards: what the cards of all laws share.
-/
namespace Go.Proofs.YtecdnohhengfaaaGreatDoor
open Go.ChangeShapes Go.WideShapes Go.ChangeAt Go.RowKit

theorem own : ownKnob Tryz.prog.godebug = none := by kernel_rfl
theorem laidOut : laidOutB Tryz.prog = true := by kernel_rfl
theorem cells24 : Tryz.prog.cellsOf 30 = 1 := by kernel_rfl

/-- The variables that every row of this layer lists. -/
def laidAll : List (String × DataW Unit) := [("math/bits.deBruijn32tab", Rows.laid_math_bits_deBruijn32tab), ("math/bits.deBruijn64tab", Rows.laid_math_bits_deBruijn64tab), ("internal/strconv.uint64pow10", Rows.laid_internal_strconv_uint64pow10)]
theorem gPow : Tryz.prog.globalNamed "internal/strconv.uint64pow10" = some 2 := by kernel_rfl

theorem gPowType : (Tryz.prog.globals[2]?).map (·.type) = some 254 := by kernel_rfl
theorem cells20 : Tryz.prog.cellsOf 254 = 20 := by kernel_rfl
theorem tab_of {W : World} (h : laidMetH Tryz.prog laidAll W) : Tab W := by
  have h1 := laidMetH.filter (fun x => x.1 == "internal/strconv.uint64pow10") h
  have e : laidAll.filter (fun x => x.1 == "internal/strconv.uint64pow10") = [("internal/strconv.uint64pow10", Rows.laid_internal_strconv_uint64pow10)] := by kernel_rfl
  rw [e, MakeChecks.laidMetH_plain _ _ _ (by kernel_rfl)] at h1
  exact Lib.tabIs_of_head (rest := []) gPow gPowType Tryz.underlying254 Tryz.underlying30 cells24 cells20 (show laidMet Tryz.prog (("internal/strconv.uint64pow10", Lib.tabData .u64 Lib.pow10Tab) :: []) W from h1)

end Go.Proofs.YtecdnohhengfaaaGreatDoor

/-
  Layer 2, cards: a parameter that is a plain integer (gussetlaw02.Z).
-/
namespace Go.Proofs.YtecdnohhengfaaaGreatDoor
open Go.ChangeShapes Go.WideShapes Go.ChangeAt Go.RowKit Go.Joins

end Go.Proofs.YtecdnohhengfaaaGreatDoor

/-
  Layer 3, cards: parameters that are fractions as plain data.
-/
namespace Go.Proofs.YtecdnohhengfaaaGreatDoor
open Go.ChangeShapes Go.WideShapes Go.ChangeAt Go.RowKit Go.Joins

end Go.Proofs.YtecdnohhengfaaaGreatDoor

/-
  Layer 3, cards: parameters that are fractions as plain data.
-/
namespace Go.Proofs.YtecdnohhengfaaaGreatDoor
open Go.ChangeShapes Go.WideShapes Go.ChangeAt Go.RowKit Go.Joins

set_option maxRecDepth 100000 in
theorem cellsQ : Tryz.prog.cellsOf 120 = 2 := by kernel_rfl
set_option maxRecDepth 100000 in
theorem q_of {H : Type} {enc : TypeId × Value → H} {W : World} {base : Nat} {v : Value} {d : DataW H} {p : List MemPlace} (hv : Value.okWide Tryz.prog W .any base 120 v)
    (h : DataW.Trod enc Tryz.prog W 0 (fun _ => true) true 120 v d p) : ∃ n e : Int, v = .agg #[.int .i64 n, .int .u32 e] ∧ (-9223372036854775808 ≤ n ∧ n < 9223372036854775808) ∧ (0 ≤ e ∧ e < 4294967296) := by
  obtain ⟨v0, v1, y0, y1, m, rfl, rfl, rfl, h0, h1⟩ := open_agg2 Tryz.underlying120 (by kernel_rfl) cellsQ hv h
  obtain ⟨n, e0, -, f0⟩ := DataW.trod_int Tryz.underlying2 h0
  obtain ⟨e, e1, -, f1⟩ := DataW.trod_int Tryz.underlying22 h1
  simp only [List.cons.injEq, and_true] at e0 e1
  subst e0 e1
  have b0 := bounds_i64 f0
  have b1 := bounds_u32 f1
  exact ⟨n, e, rfl, by omega, by omega⟩
end Go.Proofs.YtecdnohhengfaaaGreatDoor
