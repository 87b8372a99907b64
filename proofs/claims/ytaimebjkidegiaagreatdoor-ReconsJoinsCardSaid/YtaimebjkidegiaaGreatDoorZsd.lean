/-
  The law answers true at every input, and leaves its arguments as they were: a part of the proof. CONDITIONS: the package-level tables start as the program's text lays them (the card ties them).
-/
import Derived.Test.YtaimebjkidegiaaGreatDoorZsc
import Derived.Test.YtaimebjkidegiaaGreatDoorRows
set_option linter.unusedVariables false
set_option linter.unusedSimpArgs false
namespace Go.Proofs.YtaimebjkidegiaaGreatDoor
open Go.RowKit
attribute [local irreducible] lo hs sm s64 c64 d64 b64 mh ml pd pc qd qc val hiB str cmpI srD lz nb isq zl zh zs fe
theorem rest_fld1 (z : Int) (m : Nat) (w : World) : (Instr.field 55 (frV z m) 0).run Tryz.prog w = .ok (intV z) w := by simp [go_sem, Instr.field, asAgg]
set_option maxHeartbeats 4000000 in
set_option maxRecDepth 100000 in
theorem pjoin_no (a b x y g u v : Int) (m n k : Nat) (HF1 : ∀ w, Calls Tryz.prog 19 #[.bool false, natV m] w fun xe w' => xe = .returned (intV x) ∧ Below w.heap.size w w') (HF2 : ∀ w, Calls Tryz.prog 19 #[.bool false, natV n] w fun xe w' => xe = .returned (intV y) ∧ Below w.heap.size w w') (HG : ∀ w, Calls Tryz.prog 145 #[intV x, intV y] w fun xe w' => xe = .returned (.tuple #[intV g, intV u, intV v]) ∧ Below w.heap.size w w') (HA : ∀ w, Calls Tryz.prog 123 #[intV g] w fun xe w' => xe = .returned (natV k) ∧ Below w.heap.size w w') (HC : ∀ w, Calls Tryz.prog 139 #[intV a, intV b, natV k] w fun xe w' => xe = .returned (.bool false) ∧ Below w.heap.size w w') (w : World) :
  Calls Tryz.prog 70 #[frV a m, frV b n] w fun xe w' => xe = .returned (.tuple #[.agg #[.int .u64 0, .string ⟨#[]⟩, .bool false, .int .u64 0, .string ⟨#[]⟩], .bool false]) ∧ Below w.heap.size w w' := by
 have hL0 : GL w w [] := GL.start w
 replace HF1 := Lib.hid HF1
 replace HF2 := Lib.hid HF2
 replace HG := Lib.hid HG
 replace HA := Lib.hid HA
 replace HC := Lib.hid HC
 replace hL0 := (((hL0.new rfl [.int .u64 ((zl a : Nat) : Int), .string (zh a), .bool (zs a), .int .u64 ((lo m : Nat) : Int), .string (hs m)] 55).new (K := w.heap.size + 1) (szA _ _) [.int .u64 ((zl b : Nat) : Int), .string (zh b), .bool (zs b), .int .u64 ((lo n : Nat) : Int), .string (hs n)] 55).new (K := w.heap.size + 1 + 1) (by simp only [World.size_alloc]) [.int .u64 0, .string ⟨#[]⟩, .bool false, .int .u64 0, .string ⟨#[]⟩] 55)
 generalize hweq : (((w.alloc (.cells #[.int .u64 ((zl a : Nat) : Int), .string (zh a), .bool (zs a), .int .u64 ((lo m : Nat) : Int), .string (hs m)] 55)).alloc (.cells #[.int .u64 ((zl b : Nat) : Int), .string (zh b), .bool (zs b), .int .u64 ((lo n : Nat) : Int), .string (hs n)] 55)).alloc (.cells #[.int .u64 0, .string ⟨#[]⟩, .bool false, .int .u64 0, .string ⟨#[]⟩] 55)) = x1 at hL0
 go_enter Tryz.func70, Tryz.ntmps70
 go_upto_region 1 with fail
 clear hweq
 refine region_gh (by kernel_rfl) (by kernel_rfl) ?_
 refine lex_seg (gl := []) 6 (by kernel_rfl) ?_
 intro α iα F hF1 hF2
 have hq := GL.seg hF1 hL0
 simp only [fcC, cellsC, and_true, Nat.zero_add, Nat.reduceAdd] at hq
 simp only [List.take_succ_cons, List.take_zero, List.drop_succ_cons, List.drop_zero, List.take_nil, List.drop_nil]
 repeat (go_big_quiet_step (first | fail | (go_at_call 19; with_reducible exact seg_call hF2 HF1.out _) | (go_at_call 19; with_reducible exact seg_call hF2 HF2.out _)))
 refine wpQuiet_nil ?_
 clear hq hF1 hF2 iα F α
 refine lex_new [.int .u64 0, .string ⟨#[]⟩, .bool false] 6 32 32 rfl rfl (of_decide_eq_true (by kernel_rfl)) (by kernel_rfl) rfl new_int ?_
 simp only [Act.put, List.setIfInBounds_toArray, List.set_cons_succ, List.set_cons_zero]
 refine lex_new [.int .u64 0, .string ⟨#[]⟩, .bool false] 7 32 32 rfl rfl (of_decide_eq_true (by kernel_rfl)) (by kernel_rfl) rfl new_int ?_
 simp only [Act.put, List.setIfInBounds_toArray, List.set_cons_succ, List.set_cons_zero]
 refine lex_put [.int .u64 ((zl x : Nat) : Int), .string (zh x), .bool (zs x)] [.int .u64 0, .string ⟨#[]⟩, .bool false] 6 32 (.tmp 20) rfl (by kernel_rfl) (by simp [toG, upd]) rfl (fun w k h => put_int _ _ _ _ _ _ w k h) ?_
 simp only [Act.put]
 refine lex_put [.int .u64 ((zl y : Nat) : Int), .string (zh y), .bool (zs y)] [.int .u64 0, .string ⟨#[]⟩, .bool false] 7 32 (.tmp 23) rfl (by kernel_rfl) (by simp [toG, upd]) rfl (fun w k h => put_int _ _ _ _ _ _ w k h) ?_
 simp only [Act.put]
 refine lexG_nil ?_
 intro κ x2 hS
 replace hL0 := hL0.ghs hS [(7, [.int .u64 ((zl y : Nat) : Int), .string (zh y), .bool (zs y)]), (6, [.int .u64 ((zl x : Nat) : Int), .string (zh x), .bool (zs x)])] (by simp) (by intro p hp; simp only [List.mem_cons, List.not_mem_nil, or_false] at hp; rcases hp with rfl | rfl <;> exact ⟨_, by simp only [toG, upd]; rfl⟩)
 simp only [List.map_cons, List.map_nil, List.cons_append, List.nil_append] at hL0
 simp only [over_toG, over_nil, Act.put, List.setIfInBounds_toArray, List.set_cons_succ, List.set_cons_zero]
 clear hS
 generalize κ 7 = k2_7 at *
 generalize κ 6 = k2_6 at *
 have hN0 := cells_of _ 0 [] rfl (hL0.get _ _ List.mem_cons_self)
 simp only [cellsF, and_true, Nat.zero_add, Nat.reduceAdd] at hN0
 have hN1 := cells_of _ 0 [] rfl (hL0.get _ _ (List.mem_cons_of_mem _ List.mem_cons_self))
 simp only [cellsF, and_true, Nat.zero_add, Nat.reduceAdd] at hN1
 go_wp2_with fail
 clear hN0 hN1
 with_reducible refine Calls.mono (HG.out _) ?_
 rintro e x3 ⟨rfl, hb⟩
 replace hL0 := hL0.call hb
 clear hb
 replace hL0 := (((hL0.new rfl [.int .u64 ((zl g : Nat) : Int), .string (zh g), .bool (zs g)] 32).new (K := x3.heap.size + 1) (szA _ _) [.int .u64 ((zl u : Nat) : Int), .string (zh u), .bool (zs u)] 32).new (K := x3.heap.size + 1 + 1) (by simp only [World.size_alloc]) [.int .u64 ((zl v : Nat) : Int), .string (zh v), .bool (zs v)] 32)
 generalize hweq : (((x3.alloc (.cells #[.int .u64 ((zl g : Nat) : Int), .string (zh g), .bool (zs g)] 32)).alloc (.cells #[.int .u64 ((zl u : Nat) : Int), .string (zh u), .bool (zs u)] 32)).alloc (.cells #[.int .u64 ((zl v : Nat) : Int), .string (zh v), .bool (zs v)] 32)) = x4 at hL0
 go_upto_region 3 with fail
 clear hweq
 obtain ⟨α, iα, F, hF1, hF2⟩ := cls x4
 have hq0 := cls_box hF1 hL0 _ _ (List.mem_cons_of_mem _ (List.mem_cons_of_mem _ List.mem_cons_self))
 simp only [cellsC, and_true, Nat.zero_add, Nat.reduceAdd] at hq0
 have hq1 := cls_box hF1 hL0 _ _ (List.mem_cons_of_mem _ (List.mem_cons_of_mem _ (List.mem_cons_of_mem _ (List.mem_cons_of_mem _ (List.mem_cons_of_mem _ (List.mem_cons_of_mem _ List.mem_cons_self))))))
 simp only [cellsC, and_true, Nat.zero_add, Nat.reduceAdd] at hq1
 have hq2 := cls_box hF1 hL0 _ _ (List.mem_cons_of_mem _ (List.mem_cons_of_mem _ (List.mem_cons_of_mem _ (List.mem_cons_of_mem _ (List.mem_cons_of_mem _ (List.mem_cons_of_mem _ (List.mem_cons_of_mem _ List.mem_cons_self)))))))
 simp only [cellsC, and_true, Nat.zero_add, Nat.reduceAdd] at hq2
 refine region_qs 8 (C := fun w' => ∃ x, w' = F x) (by kernel_rfl) (by kernel_rfl) (cls_drew hF2) ?_
 simp only [List.take_succ_cons, List.take_zero, List.drop_succ_cons, List.drop_zero, List.take_nil, List.drop_nil]
 repeat (go_big_quiet_step (first | fail | (go_at_call 123; with_reducible exact cls_call hF1 hF2 HA.out _) | (go_at_call 139; with_reducible exact cls_call hF1 hF2 HC.out _)))
 refine wpQuiet_nil ?_
 rintro wq ⟨xq, rfl⟩
 replace hL0 := hL0.call (hF1 xq)
 clear  hq0 hq1 hq2 hF2
 generalize F xq = x5 at hL0 ⊢
 clear hF1 xq iα F α
 have hA := hL0.fc
 simp only [fcG, cellsF, neK, and_true, ne_eq, Nat.zero_add, Nat.reduceAdd] at hA
 have hP := hL0.put 5 (w.heap.size + 1 + 1) _ rfl [.int .u64 0, .string ⟨#[]⟩, .bool false, .int .u64 0, .string ⟨#[]⟩] rfl
 simp only [setAll, List.set_cons_zero, List.set_cons_succ] at hP
 generalize hput1 : (((((x5.setCell ⟨w.heap.size + 1 + 1, 0, none⟩ (.int .u64 0)).setCell ⟨w.heap.size + 1 + 1, 1, none⟩ (.string ⟨#[]⟩)).setCell ⟨w.heap.size + 1 + 1, 2, none⟩ (.bool false)).setCell ⟨w.heap.size + 1 + 1, 3, none⟩ (.int .u64 0)).setCell ⟨w.heap.size + 1 + 1, 4, none⟩ (.string ⟨#[]⟩)) = x6 at hP
 have hB1 := hP.fc
 simp only [fcG, cellsF, neK, and_true, ne_eq, Nat.zero_add, Nat.reduceAdd] at hB1
 replace hL0 := hP
 go_wp2_with fail
 exact bodyPost_ret (v := .tuple #[.agg #[.int .u64 0, .string ⟨#[]⟩, .bool false, .int .u64 0, .string ⟨#[]⟩], .bool false]) (by simp [results, Tryz.results70, go_sem, hB1]) rfl ⟨rfl, hL0.bl⟩
set_option maxHeartbeats 4000000 in
set_option maxRecDepth 100000 in
theorem pjoin_yes (a b x y g u v d q r o l h j t s z i : Int) (c1 c2 : Bool) (m n k e f : Nat) (HF1 : ∀ w, Calls Tryz.prog 19 #[.bool false, natV m] w fun xe w' => xe = .returned (intV x) ∧ Below w.heap.size w w') (HF2 : ∀ w, Calls Tryz.prog 19 #[.bool false, natV n] w fun xe w' => xe = .returned (intV y) ∧ Below w.heap.size w w') (HG : ∀ w, Calls Tryz.prog 145 #[intV x, intV y] w fun xe w' => xe = .returned (.tuple #[intV g, intV u, intV v]) ∧ Below w.heap.size w w') (HA : ∀ w, Calls Tryz.prog 123 #[intV g] w fun xe w' => xe = .returned (natV k) ∧ Below w.heap.size w w') (HC : ∀ w, Calls Tryz.prog 139 #[intV a, intV b, natV k] w fun xe w' => xe = .returned (.bool true) ∧ Below w.heap.size w w') (HS : ∀ w, Calls Tryz.prog 146 #[intV b, intV a] w fun xe w' => xe = .returned (intV d) ∧ Below w.heap.size w w') (HD1 : ∀ w, Calls Tryz.prog 21 #[intV d, intV g] w fun xe w' => xe = .returned (.tuple #[intV q, intV r, .bool c1]) ∧ Below w.heap.size w w') (HD2 : ∀ w, Calls Tryz.prog 21 #[intV y, intV g] w fun xe w' => xe = .returned (.tuple #[intV o, intV l, .bool c2]) ∧ Below w.heap.size w w') (HM1 : ∀ w, Calls Tryz.prog 141 #[intV q, intV u] w fun xe w' => xe = .returned (intV h) ∧ Below w.heap.size w w') (HA2 : ∀ w, Calls Tryz.prog 123 #[intV o] w fun xe w' => xe = .returned (natV e) ∧ Below w.heap.size w w') (HN : ∀ w, Calls Tryz.prog 147 #[frV h e] w fun xe w' => xe = .returned (frV t e) ∧ Below w.heap.size w w') (HM2 : ∀ w, Calls Tryz.prog 141 #[intV t, intV x] w fun xe w' => xe = .returned (intV s) ∧ Below w.heap.size w w') (HP : ∀ w, Calls Tryz.prog 18 #[intV a, intV s] w fun xe w' => xe = .returned (intV z) ∧ Below w.heap.size w w') (HM3 : ∀ w, Calls Tryz.prog 141 #[intV x, intV o] w fun xe w' => xe = .returned (intV i) ∧ Below w.heap.size w w') (HA3 : ∀ w, Calls Tryz.prog 123 #[intV i] w fun xe w' => xe = .returned (natV f) ∧ Below w.heap.size w w') (w : World) :
  Calls Tryz.prog 70 #[frV a m, frV b n] w fun xe w' => xe = .returned (.tuple #[frV z f, .bool true]) ∧ Below w.heap.size w w' := by
 have hL0 : GL w w [] := GL.start w
 replace HF1 := Lib.hid HF1
 replace HF2 := Lib.hid HF2
 replace HG := Lib.hid HG
 replace HA := Lib.hid HA
 replace HC := Lib.hid HC
 replace HS := Lib.hid HS
 replace HD1 := Lib.hid HD1
 replace HD2 := Lib.hid HD2
 replace HM1 := Lib.hid HM1
 replace HA2 := Lib.hid HA2
 replace HN := Lib.hid HN
 replace HM2 := Lib.hid HM2
 replace HP := Lib.hid HP
 replace HM3 := Lib.hid HM3
 replace HA3 := Lib.hid HA3
 have hfd := fun w => rest_fld1 t e w
 replace hL0 := (((hL0.new rfl [.int .u64 ((zl a : Nat) : Int), .string (zh a), .bool (zs a), .int .u64 ((lo m : Nat) : Int), .string (hs m)] 55).new (K := w.heap.size + 1) (szA _ _) [.int .u64 ((zl b : Nat) : Int), .string (zh b), .bool (zs b), .int .u64 ((lo n : Nat) : Int), .string (hs n)] 55).new (K := w.heap.size + 1 + 1) (by simp only [World.size_alloc]) [.int .u64 0, .string ⟨#[]⟩, .bool false, .int .u64 0, .string ⟨#[]⟩] 55)
 generalize hweq : (((w.alloc (.cells #[.int .u64 ((zl a : Nat) : Int), .string (zh a), .bool (zs a), .int .u64 ((lo m : Nat) : Int), .string (hs m)] 55)).alloc (.cells #[.int .u64 ((zl b : Nat) : Int), .string (zh b), .bool (zs b), .int .u64 ((lo n : Nat) : Int), .string (hs n)] 55)).alloc (.cells #[.int .u64 0, .string ⟨#[]⟩, .bool false, .int .u64 0, .string ⟨#[]⟩] 55)) = x1 at hL0
 go_enter Tryz.func70, Tryz.ntmps70
 go_upto_region 1 with fail
 clear hweq
 refine region_gh (by kernel_rfl) (by kernel_rfl) ?_
 refine lex_seg (gl := []) 6 (by kernel_rfl) ?_
 intro α iα F hF1 hF2
 have hq := GL.seg hF1 hL0
 simp only [fcC, cellsC, and_true, Nat.zero_add, Nat.reduceAdd] at hq
 simp only [List.take_succ_cons, List.take_zero, List.drop_succ_cons, List.drop_zero, List.take_nil, List.drop_nil]
 repeat (go_big_quiet_step (first | fail | (go_at_call 19; with_reducible exact seg_call hF2 HF1.out _) | (go_at_call 19; with_reducible exact seg_call hF2 HF2.out _)))
 refine wpQuiet_nil ?_
 clear hq hF1 hF2 iα F α
 refine lex_new [.int .u64 0, .string ⟨#[]⟩, .bool false] 6 32 32 rfl rfl (of_decide_eq_true (by kernel_rfl)) (by kernel_rfl) rfl new_int ?_
 simp only [Act.put, List.setIfInBounds_toArray, List.set_cons_succ, List.set_cons_zero]
 refine lex_new [.int .u64 0, .string ⟨#[]⟩, .bool false] 7 32 32 rfl rfl (of_decide_eq_true (by kernel_rfl)) (by kernel_rfl) rfl new_int ?_
 simp only [Act.put, List.setIfInBounds_toArray, List.set_cons_succ, List.set_cons_zero]
 refine lex_put [.int .u64 ((zl x : Nat) : Int), .string (zh x), .bool (zs x)] [.int .u64 0, .string ⟨#[]⟩, .bool false] 6 32 (.tmp 20) rfl (by kernel_rfl) (by simp [toG, upd]) rfl (fun w k h => put_int _ _ _ _ _ _ w k h) ?_
 simp only [Act.put]
 refine lex_put [.int .u64 ((zl y : Nat) : Int), .string (zh y), .bool (zs y)] [.int .u64 0, .string ⟨#[]⟩, .bool false] 7 32 (.tmp 23) rfl (by kernel_rfl) (by simp [toG, upd]) rfl (fun w k h => put_int _ _ _ _ _ _ w k h) ?_
 simp only [Act.put]
 refine lexG_nil ?_
 intro κ x2 hS
 replace hL0 := hL0.ghs hS [(7, [.int .u64 ((zl y : Nat) : Int), .string (zh y), .bool (zs y)]), (6, [.int .u64 ((zl x : Nat) : Int), .string (zh x), .bool (zs x)])] (by simp) (by intro p hp; simp only [List.mem_cons, List.not_mem_nil, or_false] at hp; rcases hp with rfl | rfl <;> exact ⟨_, by simp only [toG, upd]; rfl⟩)
 simp only [List.map_cons, List.map_nil, List.cons_append, List.nil_append] at hL0
 simp only [over_toG, over_nil, Act.put, List.setIfInBounds_toArray, List.set_cons_succ, List.set_cons_zero]
 clear hS
 generalize κ 7 = k2_7 at *
 generalize κ 6 = k2_6 at *
 have hN0 := cells_of _ 0 [] rfl (hL0.get _ _ List.mem_cons_self)
 simp only [cellsF, and_true, Nat.zero_add, Nat.reduceAdd] at hN0
 have hN1 := cells_of _ 0 [] rfl (hL0.get _ _ (List.mem_cons_of_mem _ List.mem_cons_self))
 simp only [cellsF, and_true, Nat.zero_add, Nat.reduceAdd] at hN1
 go_wp2_with fail
 clear hN0 hN1
 with_reducible refine Calls.mono (HG.out _) ?_
 rintro e x3 ⟨rfl, hb⟩
 replace hL0 := hL0.call hb
 clear hb
 replace hL0 := (((hL0.new rfl [.int .u64 ((zl g : Nat) : Int), .string (zh g), .bool (zs g)] 32).new (K := x3.heap.size + 1) (szA _ _) [.int .u64 ((zl u : Nat) : Int), .string (zh u), .bool (zs u)] 32).new (K := x3.heap.size + 1 + 1) (by simp only [World.size_alloc]) [.int .u64 ((zl v : Nat) : Int), .string (zh v), .bool (zs v)] 32)
 generalize hweq : (((x3.alloc (.cells #[.int .u64 ((zl g : Nat) : Int), .string (zh g), .bool (zs g)] 32)).alloc (.cells #[.int .u64 ((zl u : Nat) : Int), .string (zh u), .bool (zs u)] 32)).alloc (.cells #[.int .u64 ((zl v : Nat) : Int), .string (zh v), .bool (zs v)] 32)) = x4 at hL0
 go_upto_region 3 with fail
 clear hweq
 obtain ⟨α, iα, F, hF1, hF2⟩ := cls x4
 have hq0 := cls_box hF1 hL0 _ _ (List.mem_cons_of_mem _ (List.mem_cons_of_mem _ List.mem_cons_self))
 simp only [cellsC, and_true, Nat.zero_add, Nat.reduceAdd] at hq0
 have hq1 := cls_box hF1 hL0 _ _ (List.mem_cons_of_mem _ (List.mem_cons_of_mem _ (List.mem_cons_of_mem _ (List.mem_cons_of_mem _ (List.mem_cons_of_mem _ (List.mem_cons_of_mem _ List.mem_cons_self))))))
 simp only [cellsC, and_true, Nat.zero_add, Nat.reduceAdd] at hq1
 have hq2 := cls_box hF1 hL0 _ _ (List.mem_cons_of_mem _ (List.mem_cons_of_mem _ (List.mem_cons_of_mem _ (List.mem_cons_of_mem _ (List.mem_cons_of_mem _ (List.mem_cons_of_mem _ (List.mem_cons_of_mem _ List.mem_cons_self)))))))
 simp only [cellsC, and_true, Nat.zero_add, Nat.reduceAdd] at hq2
 refine region_qs 8 (C := fun w' => ∃ x, w' = F x) (by kernel_rfl) (by kernel_rfl) (cls_drew hF2) ?_
 simp only [List.take_succ_cons, List.take_zero, List.drop_succ_cons, List.drop_zero, List.take_nil, List.drop_nil]
 repeat (go_big_quiet_step (first | fail | (go_at_call 123; with_reducible exact cls_call hF1 hF2 HA.out _) | (go_at_call 139; with_reducible exact cls_call hF1 hF2 HC.out _)))
 refine wpQuiet_nil ?_
 rintro wq ⟨xq, rfl⟩
 replace hL0 := hL0.call (hF1 xq)
 clear  hq0 hq1 hq2 hF2
 generalize F xq = x5 at hL0 ⊢
 clear hF1 xq iα F α
 go_upto_region 5 with fail
 refine region_gh (by kernel_rfl) (by kernel_rfl) ?_
 refine lex_seg (gl := []) 11 (by kernel_rfl) ?_
 intro α iα F hF1 hF2
 have hq := GL.seg hF1 hL0
 simp only [fcC, cellsC, and_true, Nat.zero_add, Nat.reduceAdd] at hq
 simp only [List.take_succ_cons, List.take_zero, List.drop_succ_cons, List.drop_zero, List.take_nil, List.drop_nil]
 repeat (go_big_quiet_step (first | fail | (go_at_call 146; with_reducible exact seg_call hF2 HS.out _) | (go_at_call 21; with_reducible exact seg_call hF2 HD1.out _)))
 refine wpQuiet_nil ?_
 clear hq hF1 hF2 iα F α
 refine lex_new [.int .u64 0, .string ⟨#[]⟩, .bool false] 11 32 32 rfl rfl (of_decide_eq_true (by kernel_rfl)) (by kernel_rfl) rfl new_int ?_
 simp only [Act.put, List.setIfInBounds_toArray, List.set_cons_succ, List.set_cons_zero]
 refine lex_new [.int .u64 0, .string ⟨#[]⟩, .bool false] 12 32 32 rfl rfl (of_decide_eq_true (by kernel_rfl)) (by kernel_rfl) rfl new_int ?_
 simp only [Act.put, List.setIfInBounds_toArray, List.set_cons_succ, List.set_cons_zero]
 refine lex_put [.int .u64 ((zl q : Nat) : Int), .string (zh q), .bool (zs q)] [.int .u64 0, .string ⟨#[]⟩, .bool false] 11 32 (.tmp 48) rfl (by kernel_rfl) (by simp [toG, upd]) rfl (fun w k h => put_int _ _ _ _ _ _ w k h) ?_
 simp only [Act.put]
 refine lex_put [.int .u64 ((zl r : Nat) : Int), .string (zh r), .bool (zs r)] [.int .u64 0, .string ⟨#[]⟩, .bool false] 12 32 (.tmp 49) rfl (by kernel_rfl) (by simp [toG, upd]) rfl (fun w k h => put_int _ _ _ _ _ _ w k h) ?_
 simp only [Act.put]
 refine lex_seg (gl := [(12, [.int .u64 ((zl r : Nat) : Int), .string (zh r), .bool (zs r)], true), (11, [.int .u64 ((zl q : Nat) : Int), .string (zh q), .bool (zs q)], true), (12, [.int .u64 0, .string ⟨#[]⟩, .bool false], false), (11, [.int .u64 0, .string ⟨#[]⟩, .bool false], false)]) 1 (by kernel_rfl) ?_
 intro α iα F hF1 hF2
 have hq := GL.seg hF1 hL0
 simp only [fcC, cellsC, and_true, Nat.zero_add, Nat.reduceAdd] at hq
 simp only [List.take_succ_cons, List.take_zero, List.drop_succ_cons, List.drop_zero, List.take_nil, List.drop_nil]
 repeat (go_big_quiet_step (first | fail | (go_at_call 146; with_reducible exact seg_call hF2 HS.out _) | (go_at_call 21; with_reducible exact seg_call hF2 HD1.out _)))
 refine wpQuiet_nil ?_
 clear hq hF1 hF2 iα F α
 refine lexG_nil ?_
 intro κ x6 hS
 replace hL0 := hL0.ghs hS [(12, [.int .u64 ((zl r : Nat) : Int), .string (zh r), .bool (zs r)]), (11, [.int .u64 ((zl q : Nat) : Int), .string (zh q), .bool (zs q)])] (by simp) (by intro p hp; simp only [List.mem_cons, List.not_mem_nil, or_false] at hp; rcases hp with rfl | rfl <;> exact ⟨_, by simp only [toG, upd]; rfl⟩)
 simp only [List.map_cons, List.map_nil, List.cons_append, List.nil_append] at hL0
 simp only [over_toG, over_nil, Act.put, List.setIfInBounds_toArray, List.set_cons_succ, List.set_cons_zero]
 clear hS
 generalize κ 12 = k6_12 at *
 generalize κ 11 = k6_11 at *
 have hN0 := cells_of _ 0 [] rfl (hL0.get _ _ (List.mem_cons_of_mem _ (List.mem_cons_of_mem _ (List.mem_cons_of_mem _ (List.mem_cons_of_mem _ List.mem_cons_self)))))
 simp only [cellsF, and_true, Nat.zero_add, Nat.reduceAdd] at hN0
 have hN1 := cells_of _ 0 [] rfl (hL0.get _ _ (List.mem_cons_of_mem _ (List.mem_cons_of_mem _ (List.mem_cons_of_mem _ (List.mem_cons_of_mem _ (List.mem_cons_of_mem _ List.mem_cons_self))))))
 simp only [cellsF, and_true, Nat.zero_add, Nat.reduceAdd] at hN1
 go_wp2_with fail
 clear hN0 hN1
 with_reducible refine Calls.mono (HD2.out _) ?_
 rintro e x7 ⟨rfl, hb⟩
 replace hL0 := hL0.call hb
 clear hb
 replace hL0 := ((hL0.new rfl [.int .u64 ((zl o : Nat) : Int), .string (zh o), .bool (zs o)] 32).new (K := x7.heap.size + 1) (szA _ _) [.int .u64 ((zl l : Nat) : Int), .string (zh l), .bool (zs l)] 32)
 generalize hweq : ((x7.alloc (.cells #[.int .u64 ((zl o : Nat) : Int), .string (zh o), .bool (zs o)] 32)).alloc (.cells #[.int .u64 ((zl l : Nat) : Int), .string (zh l), .bool (zs l)] 32)) = x8 at hL0
 go_upto_region 7 with fail
 clear hweq
 refine region_gh (by kernel_rfl) (by kernel_rfl) ?_
 refine lex_seg (gl := []) 8 (by kernel_rfl) ?_
 intro α iα F hF1 hF2
 have hq := GL.seg hF1 hL0
 simp only [fcC, cellsC, and_true, Nat.zero_add, Nat.reduceAdd] at hq
 simp only [List.take_succ_cons, List.take_zero, List.drop_succ_cons, List.drop_zero, List.take_nil, List.drop_nil]
 repeat (go_big_quiet_step (first | fail | (go_at_call 141; with_reducible exact seg_call hF2 HM1.out _) | (go_at_call 123; with_reducible exact seg_call hF2 HA2.out _) | (go_at_call 147; with_reducible exact seg_call hF2 HN.out _)))
 refine wpQuiet_nil ?_
 clear hq hF1 hF2 iα F α
 refine lex_new [.int .u64 0, .string ⟨#[]⟩, .bool false] 17 32 32 rfl rfl (of_decide_eq_true (by kernel_rfl)) (by kernel_rfl) rfl new_int ?_
 simp only [Act.put, List.setIfInBounds_toArray, List.set_cons_succ, List.set_cons_zero]
 refine lex_put [.int .u64 ((zl t : Nat) : Int), .string (zh t), .bool (zs t)] [.int .u64 0, .string ⟨#[]⟩, .bool false] 17 32 (.tmp 65) rfl (by kernel_rfl) (by simp [toG, upd]) rfl (fun w k h => put_int _ _ _ _ _ _ w k h) ?_
 simp only [Act.put]
 refine lexG_nil ?_
 intro κ x9 hS
 replace hL0 := hL0.ghs hS [(17, [.int .u64 ((zl t : Nat) : Int), .string (zh t), .bool (zs t)])] (by simp) (by intro p hp; simp only [List.mem_cons, List.not_mem_nil, or_false] at hp; rcases hp with rfl <;> exact ⟨_, by simp only [toG, upd]; rfl⟩)
 simp only [List.map_cons, List.map_nil, List.cons_append, List.nil_append] at hL0
 simp only [over_toG, over_nil, Act.put, List.setIfInBounds_toArray, List.set_cons_succ, List.set_cons_zero]
 clear hS
 generalize κ 17 = k9_17 at *
 go_upto_region 8 with fail
 obtain ⟨α, iα, F, hF1, hF2⟩ := cls x9
 have hq0 := cls_box hF1 hL0 _ _ List.mem_cons_self
 simp only [cellsC, and_true, Nat.zero_add, Nat.reduceAdd] at hq0
 have hq1 := cls_box hF1 hL0 _ _ (List.mem_cons_of_mem _ (List.mem_cons_of_mem _ List.mem_cons_self))
 simp only [cellsC, and_true, Nat.zero_add, Nat.reduceAdd] at hq1
 have hq2 := cls_box hF1 hL0 _ _ (List.mem_cons_of_mem _ (List.mem_cons_of_mem _ (List.mem_cons_of_mem _ (List.mem_cons_of_mem _ (List.mem_cons_of_mem _ (List.mem_cons_of_mem _ (List.mem_cons_of_mem _ (List.mem_cons_of_mem _ (List.mem_cons_of_mem _ List.mem_cons_self)))))))))
 simp only [cellsC, and_true, Nat.zero_add, Nat.reduceAdd] at hq2
 have hq3 := cls_box hF1 hL0 _ _ (List.mem_cons_of_mem _ (List.mem_cons_of_mem _ (List.mem_cons_of_mem _ (List.mem_cons_of_mem _ (List.mem_cons_of_mem _ (List.mem_cons_of_mem _ (List.mem_cons_of_mem _ (List.mem_cons_of_mem _ (List.mem_cons_of_mem _ (List.mem_cons_of_mem _ (List.mem_cons_of_mem _ (List.mem_cons_of_mem _ List.mem_cons_self))))))))))))
 simp only [cellsC, and_true, Nat.zero_add, Nat.reduceAdd] at hq3
 refine region_qs 11 (C := fun w' => ∃ x, w' = F x) (by kernel_rfl) (by kernel_rfl) (cls_drew hF2) ?_
 simp only [List.take_succ_cons, List.take_zero, List.drop_succ_cons, List.drop_zero, List.take_nil, List.drop_nil]
 repeat (go_big_quiet_step (first | fail | (go_at_call 141; with_reducible exact cls_call hF1 hF2 HM2.out _) | (go_at_call 18; with_reducible exact cls_call hF1 hF2 HP.out _) | (go_at_call 141; with_reducible exact cls_call hF1 hF2 HM3.out _) | (go_at_call 123; with_reducible exact cls_call hF1 hF2 HA3.out _)))
 refine wpQuiet_nil ?_
 rintro wq ⟨xq, rfl⟩
 replace hL0 := hL0.call (hF1 xq)
 clear  hq0 hq1 hq2 hq3 hF2
 generalize F xq = x10 at hL0 ⊢
 clear hF1 xq iα F α
 have hA := hL0.fc
 simp only [fcG, cellsF, neK, and_true, ne_eq, Nat.zero_add, Nat.reduceAdd] at hA
 have hP := hL0.put 10 (w.heap.size + 1 + 1) _ rfl [.int .u64 ((zl z : Nat) : Int), .string (zh z), .bool (zs z), .int .u64 ((lo f : Nat) : Int), .string (hs f)] rfl
 simp only [setAll, List.set_cons_zero, List.set_cons_succ] at hP
 generalize hput1 : (((((x10.setCell ⟨w.heap.size + 1 + 1, 0, none⟩ (.int .u64 ((zl z : Nat) : Int))).setCell ⟨w.heap.size + 1 + 1, 1, none⟩ (.string (zh z))).setCell ⟨w.heap.size + 1 + 1, 2, none⟩ (.bool (zs z))).setCell ⟨w.heap.size + 1 + 1, 3, none⟩ (.int .u64 ((lo f : Nat) : Int))).setCell ⟨w.heap.size + 1 + 1, 4, none⟩ (.string (hs f))) = x11 at hP
 have hB1 := hP.fc
 simp only [fcG, cellsF, neK, and_true, ne_eq, Nat.zero_add, Nat.reduceAdd] at hB1
 replace hL0 := hP
 go_wp2_with fail
 exact bodyPost_ret (v := .tuple #[.agg #[.int .u64 ((zl z : Nat) : Int), .string (zh z), .bool (zs z), .int .u64 ((lo f : Nat) : Int), .string (hs f)], .bool true]) (by simp [results, Tryz.results70, go_sem, hB1]) rfl ⟨rfl, hL0.bl⟩
end Go.Proofs.YtaimebjkidegiaaGreatDoor
namespace Go.Proofs.YtaimebjkidegiaaGreatDoor
open Go.RowKit
attribute [local irreducible] lo hs sm s64 c64 d64 b64 mh ml pd pc qd qc val hiB str cmpI srD lz nb isq zl zh zs fe
theorem rest_fld2 (z : Int) (m : Nat) (w : World) : (Instr.field 55 (frV z m) 0).run Tryz.prog w = .ok (intV z) w := by simp [go_sem, Instr.field, asAgg]
set_option maxHeartbeats 4000000 in
set_option maxRecDepth 100000 in
theorem pstep_w (w0 : World) (kd kb kx ky k6 k4 k3 k2 : Nat) (a b n v d q r u t : Int) (m K : Nat) (c : Bool) (HD : ∀ w, Calls Tryz.prog 21 #[intV b, intV n] w fun xe w' => xe = .returned (.tuple #[intV q, intV r, .bool c]) ∧ Below w.heap.size w w') (HM : ∀ w, Calls Tryz.prog 141 #[intV q, intV d] w fun xe w' => xe = .returned (intV u) ∧ Below w.heap.size w w') (HS : ∀ w, Calls Tryz.prog 146 #[intV v, intV u] w fun xe w' => xe = .returned (intV t) ∧ Below w.heap.size w w') (w : World) (hL0 : GL w0 w [(kd, [.int .u64 ((zl d : Nat) : Int), .string (zh d), .bool (zs d)]), (kb, [.int .u64 ((zl v : Nat) : Int), .string (zh v), .bool (zs v)]), (kx, [.int .u64 ((zl n : Nat) : Int), .string (zh n), .bool (zs n)]), (ky, [.int .u64 ((zl b : Nat) : Int), .string (zh b), .bool (zs b)]), (k6, [.int .u64 ((lo K : Nat) : Int), .string (hs K)]), (k4, [.int .u64 0, .string ⟨#[]⟩, .bool false, .int .u64 0, .string ⟨#[]⟩]), (k3, [.int .u64 ((lo m : Nat) : Int), .string (hs m)]), (k2, [.int .u64 ((zl a : Nat) : Int), .string (zh a), .bool (zs a)])]) :
  Calls Tryz.prog 238 #[.pointer (some ⟨ky, 0, none⟩), .pointer (some ⟨kx, 0, none⟩), .pointer (some ⟨kd, 0, none⟩), .pointer (some ⟨kb, 0, none⟩)] w fun xe w' => xe = .returned (.tuple #[]) ∧ GL w0 w' [(kd, [.int .u64 ((zl t : Nat) : Int), .string (zh t), .bool (zs t)]), (kb, [.int .u64 ((zl d : Nat) : Int), .string (zh d), .bool (zs d)]), (kx, [.int .u64 ((zl r : Nat) : Int), .string (zh r), .bool (zs r)]), (ky, [.int .u64 ((zl n : Nat) : Int), .string (zh n), .bool (zs n)]), (k6, [.int .u64 ((lo K : Nat) : Int), .string (hs K)]), (k4, [.int .u64 0, .string ⟨#[]⟩, .bool false, .int .u64 0, .string ⟨#[]⟩]), (k3, [.int .u64 ((lo m : Nat) : Int), .string (hs m)]), (k2, [.int .u64 ((zl a : Nat) : Int), .string (zh a), .bool (zs a)])] := by
 replace HD := Lib.hid HD
 replace HM := Lib.hid HM
 replace HS := Lib.hid HS
 go_enter Tryz.func238, Tryz.ntmps238
 have hN0 := cells_of _ 0 [] rfl (hL0.get _ _ (List.mem_cons_of_mem _ (List.mem_cons_of_mem _ List.mem_cons_self)))
 simp only [cellsF, and_true, Nat.zero_add, Nat.reduceAdd] at hN0
 have hN1 := cells_of _ 0 [] rfl (hL0.get _ _ (List.mem_cons_of_mem _ (List.mem_cons_of_mem _ (List.mem_cons_of_mem _ List.mem_cons_self))))
 simp only [cellsF, and_true, Nat.zero_add, Nat.reduceAdd] at hN1
 go_wp2_with fail
 clear hN0 hN1
 with_reducible refine Calls.mono (HD.out _) ?_
 rintro e x1 ⟨rfl, hb⟩
 replace hL0 := hL0.call hb
 clear hb
 replace hL0 := ((hL0.new rfl [.int .u64 ((zl q : Nat) : Int), .string (zh q), .bool (zs q)] 32).new (K := x1.heap.size + 1) (szA _ _) [.int .u64 ((zl r : Nat) : Int), .string (zh r), .bool (zs r)] 32)
 generalize hweq : ((x1.alloc (.cells #[.int .u64 ((zl q : Nat) : Int), .string (zh q), .bool (zs q)] 32)).alloc (.cells #[.int .u64 ((zl r : Nat) : Int), .string (zh r), .bool (zs r)] 32)) = x2 at hL0
 have hA := hL0.fc
 simp only [fcG, cellsF, neK, and_true, ne_eq, Nat.zero_add, Nat.reduceAdd] at hA
 go_upto_region 1 with fail
 clear hweq
 obtain ⟨⟨c0, c1, c2⟩, cf0, cn0, -, -, -, -, -, -, -, -, -, ⟨c3, c4, c5⟩, cf4, cn4, ⟨c6, c7, c8⟩, cf5, cn5, -, -, -, -, -, -, -, -, -, -, -⟩ := id hA
 clear hA
 go_region
 have hP := ((hL0.put 5 (ky) _ rfl [.int .u64 ((zl n : Nat) : Int), .string (zh n), .bool (zs n)] rfl).put 4 (kx) _ rfl [.int .u64 ((zl r : Nat) : Int), .string (zh r), .bool (zs r)] rfl).drew
 simp only [setAll, List.set_cons_zero, List.set_cons_succ] at hP
 generalize ((((((x2.setCell ⟨ky, 0, none⟩ (.int .u64 ((zl n : Nat) : Int))).setCell ⟨ky, 1, none⟩ (.string (zh n))).setCell ⟨ky, 2, none⟩ (.bool (zs n))).setCell ⟨kx, 0, none⟩ (.int .u64 ((zl r : Nat) : Int))).setCell ⟨kx, 1, none⟩ (.string (zh r))).setCell ⟨kx, 2, none⟩ (.bool (zs r))).drew = x3 at hP ⊢
 clear hL0
 have hL0 := hP
 clear hP
 clear c0 c1 c2 cf0 c3 c4 c5 cf4 c6 c7 c8 cf5 cn0 cn4 cn5
 go_upto_region 2 with fail
 obtain ⟨α, iα, F, hF1, hF2⟩ := cls x3
 have hq0 := cls_box hF1 hL0 _ _ (List.mem_cons_of_mem _ List.mem_cons_self)
 simp only [cellsC, and_true, Nat.zero_add, Nat.reduceAdd] at hq0
 have hq1 := cls_box hF1 hL0 _ _ (List.mem_cons_of_mem _ (List.mem_cons_of_mem _ List.mem_cons_self))
 simp only [cellsC, and_true, Nat.zero_add, Nat.reduceAdd] at hq1
 have hq2 := cls_box hF1 hL0 _ _ (List.mem_cons_of_mem _ (List.mem_cons_of_mem _ (List.mem_cons_of_mem _ List.mem_cons_self)))
 simp only [cellsC, and_true, Nat.zero_add, Nat.reduceAdd] at hq2
 refine region_qs 6 (C := fun w' => ∃ x, w' = F x) (by kernel_rfl) (by kernel_rfl) (cls_drew hF2) ?_
 simp only [List.take_succ_cons, List.take_zero, List.drop_succ_cons, List.drop_zero, List.take_nil, List.drop_nil]
 repeat (go_big_quiet_step (first | fail | (go_at_call 141; with_reducible exact cls_call hF1 hF2 HM.out _) | (go_at_call 146; with_reducible exact cls_call hF1 hF2 HS.out _)))
 refine wpQuiet_nil ?_
 rintro wq ⟨xq, rfl⟩
 replace hL0 := hL0.call (hF1 xq)
 clear  hq0 hq1 hq2 hF2
 generalize F xq = x4 at hL0 ⊢
 clear hF1 xq iα F α
 have hA := hL0.fc
 simp only [fcG, cellsF, neK, and_true, ne_eq, Nat.zero_add, Nat.reduceAdd] at hA
 have hP := hL0.put 3 (kb) _ rfl [.int .u64 ((zl d : Nat) : Int), .string (zh d), .bool (zs d)] rfl
 simp only [setAll, List.set_cons_zero, List.set_cons_succ] at hP
 generalize hput1 : (((x4.setCell ⟨kb, 0, none⟩ (.int .u64 ((zl d : Nat) : Int))).setCell ⟨kb, 1, none⟩ (.string (zh d))).setCell ⟨kb, 2, none⟩ (.bool (zs d))) = x5 at hP
 have hB1 := hP.fc
 simp only [fcG, cellsF, neK, and_true, ne_eq, Nat.zero_add, Nat.reduceAdd] at hB1
 replace hL0 := hP
 have hP := hL0.put 2 (kd) _ rfl [.int .u64 ((zl t : Nat) : Int), .string (zh t), .bool (zs t)] rfl
 simp only [setAll, List.set_cons_zero, List.set_cons_succ] at hP
 generalize hput2 : (((x5.setCell ⟨kd, 0, none⟩ (.int .u64 ((zl t : Nat) : Int))).setCell ⟨kd, 1, none⟩ (.string (zh t))).setCell ⟨kd, 2, none⟩ (.bool (zs t))) = x6 at hP
 have hB2 := hP.fc
 simp only [fcG, cellsF, neK, and_true, ne_eq, Nat.zero_add, Nat.reduceAdd] at hB2
 replace hL0 := hP
 go_wp2_with fail
 go_end0
 exact ⟨rfl, hL0.weak (List.Sublist.cons _ (List.Sublist.cons _ (List.Sublist.refl _)))⟩
set_option maxHeartbeats 16000000 in
set_option maxRecDepth 100000 in
theorem pcand_w (a y r zo on : Int) (m K : Nat) (R : Value) (hm : (digs m).length ≤ 10000) (HGr : ∀ w, Calls Tryz.prog 237 #[natV m] w fun xe w' => xe = .returned (natV K) ∧ Below w.heap.size w w') (HF : ∀ w, Calls Tryz.prog 19 #[.bool false, natV m] w fun xe w' => xe = .returned (intV y) ∧ Below w.heap.size w w') (HNm : ∀ w, Calls Tryz.prog 147 #[frV a m] w fun xe w' => xe = .returned (frV r m) ∧ Below w.heap.size w w') (H0 : ∀ w, Calls Tryz.prog 23 #[.int .i64 0] w fun xe w' => xe = .returned (intV zo) ∧ Below w.heap.size w w') (H1 : ∀ w, Calls Tryz.prog 23 #[.int .i64 1] w fun xe w' => xe = .returned (intV on) ∧ Below w.heap.size w w') (hcs : CEu a m (m + 1) y r zo on) (hK : K = recK m) (hN : candO a m = none → R = .tuple #[.agg #[.int .u64 0, .string ⟨#[]⟩, .bool false, .int .u64 0, .string ⟨#[]⟩], .bool false]) (hS : ∀ z d, candO a m = some (z, d) → R = .tuple #[fracV (mkRat z d), .bool true]) (w : World) :
  Calls Tryz.prog 206 #[intV a, natV m] w fun xe w' => xe = .returned R ∧ Below w.heap.size w w' := by
 replace HGr := Lib.hid HGr
 replace HF := Lib.hid HF
 replace HNm := Lib.hid HNm
 replace H0 := Lib.hid H0
 replace H1 := Lib.hid H1
 have hfd := fun w => rest_fld2 r m w
 replace hcs := Lib.hid hcs
 replace hK := Lib.hid hK
 replace hN := Lib.hid hN
 replace hS := Lib.hid hS
 have hL0 : GL w w [] := GL.start w
 replace hL0 := (((hL0.new rfl [.int .u64 ((zl a : Nat) : Int), .string (zh a), .bool (zs a)] 32).new (K := w.heap.size + 1) (szA _ _) [.int .u64 ((lo m : Nat) : Int), .string (hs m)] 30).new (K := w.heap.size + 1 + 1) (by simp only [World.size_alloc]) [.int .u64 0, .string ⟨#[]⟩, .bool false, .int .u64 0, .string ⟨#[]⟩] 34)
 generalize hweq : (((w.alloc (.cells #[.int .u64 ((zl a : Nat) : Int), .string (zh a), .bool (zs a)] 32)).alloc (.cells #[.int .u64 ((lo m : Nat) : Int), .string (hs m)] 30)).alloc (.cells #[.int .u64 0, .string ⟨#[]⟩, .bool false, .int .u64 0, .string ⟨#[]⟩] 34)) = x1 at hL0
 go_enter Tryz.func206, Tryz.ntmps206
 go_wp2_with fail
 go_step3
 have hN0 := cells_of _ 0 [] rfl (hL0.get _ _ (List.mem_cons_of_mem _ List.mem_cons_self))
 simp only [cellsF, and_true, Nat.zero_add, Nat.reduceAdd] at hN0
 go_wp2_with fail
 clear hN0
 with_reducible refine Calls.mono (HGr.out _) ?_
 rintro e x2 ⟨rfl, hb⟩
 replace hL0 := hL0.call hb
 clear hb hweq
 replace hL0 := (hL0.new rfl [.int .u64 ((lo K : Nat) : Int), .string (hs K)] 30)
 generalize hweq : (x2.alloc (.cells #[.int .u64 ((lo K : Nat) : Int), .string (hs K)] 30)) = x3 at hL0
 go_upto_region 2 with fail
 clear hweq
 refine region_gh (by kernel_rfl) (by kernel_rfl) ?_
 refine lex_seg (gl := []) 7 (by kernel_rfl) ?_
 intro α iα F hF1 hF2
 have hq := GL.seg hF1 hL0
 simp only [fcC, cellsC, and_true, Nat.zero_add, Nat.reduceAdd] at hq
 simp only [List.take_succ_cons, List.take_zero, List.drop_succ_cons, List.drop_zero, List.take_nil, List.drop_nil]
 repeat (go_big_quiet_step (first | fail | (go_at_call 19; with_reducible exact seg_call hF2 HF.out _) | (go_at_call 147; with_reducible exact seg_call hF2 HNm.out _)))
 refine wpQuiet_nil ?_
 clear hq hF1 hF2 iα F α
 refine lex_new [.int .u64 0, .string ⟨#[]⟩, .bool false] 7 32 32 rfl rfl (of_decide_eq_true (by kernel_rfl)) (by kernel_rfl) rfl new_int ?_
 simp only [Act.put, List.setIfInBounds_toArray, List.set_cons_succ, List.set_cons_zero]
 refine lex_new [.int .u64 0, .string ⟨#[]⟩, .bool false] 8 32 32 rfl rfl (of_decide_eq_true (by kernel_rfl)) (by kernel_rfl) rfl new_int ?_
 simp only [Act.put, List.setIfInBounds_toArray, List.set_cons_succ, List.set_cons_zero]
 refine lex_put [.int .u64 ((zl y : Nat) : Int), .string (zh y), .bool (zs y)] [.int .u64 0, .string ⟨#[]⟩, .bool false] 7 32 (.tmp 17) rfl (by kernel_rfl) (by simp [toG, upd]) rfl (fun w k h => put_int _ _ _ _ _ _ w k h) ?_
 simp only [Act.put]
 refine lex_put [.int .u64 ((zl r : Nat) : Int), .string (zh r), .bool (zs r)] [.int .u64 0, .string ⟨#[]⟩, .bool false] 8 32 (.tmp 22) rfl (by kernel_rfl) (by simp [toG, upd]) rfl (fun w k h => put_int _ _ _ _ _ _ w k h) ?_
 simp only [Act.put]
 refine lexG_nil ?_
 intro κ x4 hS
 replace hL0 := hL0.ghs hS [(8, [.int .u64 ((zl r : Nat) : Int), .string (zh r), .bool (zs r)]), (7, [.int .u64 ((zl y : Nat) : Int), .string (zh y), .bool (zs y)])] (by simp) (by intro p hp; simp only [List.mem_cons, List.not_mem_nil, or_false] at hp; rcases hp with rfl | rfl <;> exact ⟨_, by simp only [toG, upd]; rfl⟩)
 simp only [List.map_cons, List.map_nil, List.cons_append, List.nil_append] at hL0
 simp only [over_toG, over_nil, Act.put, List.setIfInBounds_toArray, List.set_cons_succ, List.set_cons_zero]
 clear hS
 generalize κ 8 = k4_8 at *
 generalize κ 7 = k4_7 at *
 go_wp2_with fail
 with_reducible refine Calls.mono (H0.out _) ?_
 rintro e x5 ⟨rfl, hb⟩
 replace hL0 := hL0.call hb
 clear hb
 go_wp2_with fail
 with_reducible refine Calls.mono (H1.out _) ?_
 rintro e x6 ⟨rfl, hb⟩
 replace hL0 := hL0.call hb
 clear hb
 replace hL0 := ((hL0.new rfl [.int .u64 ((zl zo : Nat) : Int), .string (zh zo), .bool (zs zo)] 32).new (K := x6.heap.size + 1) (szA _ _) [.int .u64 ((zl on : Nat) : Int), .string (zh on), .bool (zs on)] 32)
 generalize hweq : ((x6.alloc (.cells #[.int .u64 ((zl zo : Nat) : Int), .string (zh zo), .bool (zs zo)] 32)).alloc (.cells #[.int .u64 ((zl on : Nat) : Int), .string (zh on), .bool (zs on)] 32)) = x7 at hL0
 go_wp2_with fail
 go_step3
 go_wp2_with fail
 clear hweq
 go_loopg [] (m + 1) (fun gk wr => ∃ (b n v d : Int), CEu a m gk b n v d ∧ GL w wr [(x6.heap.size + 1, [.int .u64 ((zl d : Nat) : Int), .string (zh d), .bool (zs d)]), (x6.heap.size, [.int .u64 ((zl v : Nat) : Int), .string (zh v), .bool (zs v)]), (k4_8, [.int .u64 ((zl n : Nat) : Int), .string (zh n), .bool (zs n)]), (k4_7, [.int .u64 ((zl b : Nat) : Int), .string (zh b), .bool (zs b)]), (x2.heap.size, [.int .u64 ((lo K : Nat) : Int), .string (hs K)]), (w.heap.size + 1 + 1, [.int .u64 0, .string ⟨#[]⟩, .bool false, .int .u64 0, .string ⟨#[]⟩]), (w.heap.size + 1, [.int .u64 ((lo m : Nat) : Int), .string (hs m)]), (w.heap.size, [.int .u64 ((zl a : Nat) : Int), .string (zh a), .bool (zs a)])])
 case atStart => exact ⟨_, _, _, _, hcs.out, hL0⟩
 case round =>
  clear hL0
  obtain ⟨b, n, v, d, hC, hL0⟩ := hrel
  obtain ⟨i, hi⟩ : ∃ i, i = d.natAbs := ⟨_, rfl⟩
  obtain ⟨j, hj⟩ : ∃ j, j = n.natAbs := ⟨_, rfl⟩
  have HA1 := Lib.hid (fun w => absI d w)
  have HA2 := Lib.hid (fun w => absI n w)
  rw [← hi] at HA1
  rw [← hj] at HA2
  have HC1 := Lib.hid (fun w => cmp_any i K w)
  have HC2 := Lib.hid (fun w => cmp_any j K w)
  obtain ⟨ci, hci⟩ : ∃ c, c = cmpI i K := ⟨_, rfl⟩
  obtain ⟨cj, hcj⟩ : ∃ c, c = cmpI j K := ⟨_, rfl⟩
  rw [← hci] at HC1
  rw [← hcj] at HC2
  rcases Nat.lt_or_ge K i with h1 | h1
  ·have g1 : decide (0 < ci) = true := by rw [hci, cmpI_gt h1]; rfl
   have hR := Lib.hid (hC.none (by rw [← hK.out, ← hi]; exact h1))
   clear hi hj h1 hci hcj hC
   go_upto_region 5 with fail
   obtain ⟨α, iα, F, hF1, hF2⟩ := cls wr
   have hq0 := cls_box hF1 hL0 _ _ List.mem_cons_self
   simp only [cellsC, and_true, Nat.zero_add, Nat.reduceAdd] at hq0
   have hq1 := cls_box hF1 hL0 _ _ (List.mem_cons_of_mem _ (List.mem_cons_of_mem _ (List.mem_cons_of_mem _ (List.mem_cons_of_mem _ List.mem_cons_self))))
   simp only [cellsC, and_true, Nat.zero_add, Nat.reduceAdd] at hq1
   refine region_qs 6 (C := fun w' => ∃ x, w' = F x) (by kernel_rfl) (by kernel_rfl) (cls_drew hF2) ?_
   simp only [List.take_succ_cons, List.take_zero, List.drop_succ_cons, List.drop_zero, List.take_nil, List.drop_nil]
   repeat (go_big_quiet_step (first | fail | (go_at_call 123; with_reducible exact cls_call hF1 hF2 HA1.out _) | (go_at_call 73; with_reducible exact cls_call hF1 hF2 HC1.out _)))
   refine wpQuiet_nil ?_
   rintro wq ⟨xq, rfl⟩
   replace hL0 := hL0.call (hF1 xq)
   clear  hq0 hq1 hF2
   generalize F xq = x8 at hL0 ⊢
   clear hF1 xq iα F α
   have hA := hL0.fc
   simp only [fcG, cellsF, neK, and_true, ne_eq, Nat.zero_add, Nat.reduceAdd] at hA
   have hP := hL0.put 5 (w.heap.size + 1 + 1) _ rfl [.int .u64 0, .string ⟨#[]⟩, .bool false, .int .u64 0, .string ⟨#[]⟩] rfl
   simp only [setAll, List.set_cons_zero, List.set_cons_succ] at hP
   generalize hput1 : (((((x8.setCell ⟨w.heap.size + 1 + 1, 0, none⟩ (.int .u64 0)).setCell ⟨w.heap.size + 1 + 1, 1, none⟩ (.string ⟨#[]⟩)).setCell ⟨w.heap.size + 1 + 1, 2, none⟩ (.bool false)).setCell ⟨w.heap.size + 1 + 1, 3, none⟩ (.int .u64 0)).setCell ⟨w.heap.size + 1 + 1, 4, none⟩ (.string ⟨#[]⟩)) = x9 at hP
   have hB1 := hP.fc
   simp only [fcG, cellsF, neK, and_true, ne_eq, Nat.zero_add, Nat.reduceAdd] at hB1
   replace hL0 := hP
   go_wp2_with fail
   try rw [Exit.noGoto_ret]
   exact bodyPost_ret (v := .tuple #[.agg #[.int .u64 0, .string ⟨#[]⟩, .bool false, .int .u64 0, .string ⟨#[]⟩], .bool false]) (by simp [results, Tryz.results206, go_sem, hB1]) rfl ⟨by first | exact congrArg _ (hN.out hR.out).symm | rw [hN.out hR.out], hL0.bl⟩
  ·have g1 : decide (0 < ci) = false := by rw [hci]; exact decide_eq_false (by unfold cmpI; split <;> (try split) <;> omega)
   rcases Nat.lt_or_ge K j with h2 | h2
   ·have g2 : decide (cj ≤ 0) = false := by rw [hcj, cmpI_gt h2]; rfl
    obtain ⟨d1, d2, d3, d4⟩ := hC.small hm
    obtain ⟨hn0, g', hg', hC'⟩ := hC.step (by rw [← hi, ← hK.out]; exact h1) (by rw [← hj, ← hK.out]; exact h2)
    have HD := Lib.hid (fun w => divI b n hn0 (Nat.le_trans d1 (by omega)) (Nat.le_trans d2 (by omega)) w)
    obtain ⟨q, hq⟩ : ∃ q, q = b / n := ⟨_, rfl⟩
    have dq : dI q ≤ 20001 := by rw [hq]; exact Nat.le_trans (dI_div d1) (by omega)
    obtain ⟨r, hr⟩ : ∃ r, r = b % n := ⟨_, rfl⟩
    rw [← hq, ← hr] at HD
    rw [← hq, ← hr] at hC'
    have HM := Lib.hid (fun w => mulI q d (by omega) (by omega) w)
    have du : dI (q * d) ≤ 40002 := Nat.le_trans (dI_mul dq d4) (by omega)
    obtain ⟨u, hu⟩ : ∃ u, u = q * d := ⟨_, rfl⟩
    rw [← hu] at HM hC' du
    have HS := Lib.hid (fun w => subI v u (by omega) (by omega) w)
    obtain ⟨t, ht⟩ : ∃ t, t = v - u := ⟨_, rfl⟩
    rw [← ht] at HS hC'
    clear hi hj h1 h2 hci hcj hC hn0 d1 d2 d3 d4 dq du hq hr hu ht
    replace hg' := Lib.hid hg'
    replace hC' := Lib.hid hC'
    go_upto_region 5 with fail
    obtain ⟨α, iα, F, hF1, hF2⟩ := cls wr
    have hq0 := cls_box hF1 hL0 _ _ List.mem_cons_self
    simp only [cellsC, and_true, Nat.zero_add, Nat.reduceAdd] at hq0
    have hq1 := cls_box hF1 hL0 _ _ (List.mem_cons_of_mem _ (List.mem_cons_of_mem _ (List.mem_cons_of_mem _ (List.mem_cons_of_mem _ List.mem_cons_self))))
    simp only [cellsC, and_true, Nat.zero_add, Nat.reduceAdd] at hq1
    refine region_qs 6 (C := fun w' => ∃ x, w' = F x) (by kernel_rfl) (by kernel_rfl) (cls_drew hF2) ?_
    simp only [List.take_succ_cons, List.take_zero, List.drop_succ_cons, List.drop_zero, List.take_nil, List.drop_nil]
    repeat (go_big_quiet_step (first | fail | (go_at_call 123; with_reducible exact cls_call hF1 hF2 HA1.out _) | (go_at_call 73; with_reducible exact cls_call hF1 hF2 HC1.out _)))
    refine wpQuiet_nil ?_
    rintro wq ⟨xq, rfl⟩
    replace hL0 := hL0.call (hF1 xq)
    clear  hq0 hq1 hF2
    generalize F xq = x8 at hL0 ⊢
    clear hF1 xq iα F α
    go_upto_region 7 with fail
    obtain ⟨α, iα, F, hF1, hF2⟩ := cls x8
    have hq0 := cls_box hF1 hL0 _ _ (List.mem_cons_of_mem _ (List.mem_cons_of_mem _ List.mem_cons_self))
    simp only [cellsC, and_true, Nat.zero_add, Nat.reduceAdd] at hq0
    have hq1 := cls_box hF1 hL0 _ _ (List.mem_cons_of_mem _ (List.mem_cons_of_mem _ (List.mem_cons_of_mem _ (List.mem_cons_of_mem _ List.mem_cons_self))))
    simp only [cellsC, and_true, Nat.zero_add, Nat.reduceAdd] at hq1
    refine region_qs 6 (C := fun w' => ∃ x, w' = F x) (by kernel_rfl) (by kernel_rfl) (cls_drew hF2) ?_
    simp only [List.take_succ_cons, List.take_zero, List.drop_succ_cons, List.drop_zero, List.take_nil, List.drop_nil]
    repeat (go_big_quiet_step (first | fail | (go_at_call 123; with_reducible exact cls_call hF1 hF2 HA2.out _) | (go_at_call 73; with_reducible exact cls_call hF1 hF2 HC2.out _)))
    refine wpQuiet_nil ?_
    rintro wq ⟨xq, rfl⟩
    replace hL0 := hL0.call (hF1 xq)
    clear  hq0 hq1 hF2
    generalize F xq = x9 at hL0 ⊢
    clear hF1 xq iα F α
    go_wp2_with fail
    refine Calls.mono (pstep_w w _ _ _ _ _ _ _ _ a b n v d q r u t m K true HD.out HM.out HS.out _ (by exact hL0)) ?_
    rintro e x99 ⟨rfl, hG⟩
    clear hL0
    go_wp2_with fail
    go_roundg g'
    case measure => exact hg'.out
    case rel => exact ⟨_, _, _, _, hC'.out, hG⟩
   ·have g2 : decide (cj ≤ 0) = true := by rw [hcj]; exact decide_eq_true (by unfold cmpI; split <;> (try split) <;> omega)
    obtain ⟨d1, d2, d3, d4⟩ := hC.small hm
    have hR := Lib.hid (hC.some (by rw [← hi, ← hK.out]; exact h1) (by rw [← hj, ← hK.out]; exact h2))
    have hi0 := hC.pos (by rw [← hi, ← hK.out]; exact h1)
    rw [← hi] at hi0
    have hiD : (digs i).length ≤ 10001 := by rw [hi]; exact d4
    have HSg := Lib.hid (fun w => signI d w)
    obtain ⟨sg, hsg⟩ : ∃ s, s = sgn d := ⟨_, rfl⟩
    rw [← hsg] at HSg
    by_cases hd : d < 0
    ·have g3 : decide (sg < 0) = true := by rw [hsg, dec_sgn]; exact decide_eq_true hd
     rw [if_pos hd] at hR
     have HNg := Lib.hid (fun w => negI n w)
     have d5 : dI (-n) ≤ 10001 := by rw [dI_neg]; exact d2
     obtain ⟨o, ho⟩ : ∃ o, o = -n := ⟨_, rfl⟩
     rw [← ho] at HNg hR d5
     have HFr := Lib.hid (fun w => fromF o i (by omega) (by omega) (by omega) w)
     rw [← hi] at hR
     obtain ⟨f, hf⟩ : ∃ f, f = mkRat o i := ⟨_, rfl⟩
     rw [← hf] at HFr
     have hR2 := Lib.hid (hS.out _ _ hR.out)
     rw [← hf] at hR2
     clear hi hj h1 h2 hci hcj hC d1 d2 d3 d4 hR hi0 hiD hsg hd hf d5 ho
     go_upto_region 5 with fail
     obtain ⟨α, iα, F, hF1, hF2⟩ := cls wr
     have hq0 := cls_box hF1 hL0 _ _ List.mem_cons_self
     simp only [cellsC, and_true, Nat.zero_add, Nat.reduceAdd] at hq0
     have hq1 := cls_box hF1 hL0 _ _ (List.mem_cons_of_mem _ (List.mem_cons_of_mem _ (List.mem_cons_of_mem _ (List.mem_cons_of_mem _ List.mem_cons_self))))
     simp only [cellsC, and_true, Nat.zero_add, Nat.reduceAdd] at hq1
     refine region_qs 6 (C := fun w' => ∃ x, w' = F x) (by kernel_rfl) (by kernel_rfl) (cls_drew hF2) ?_
     simp only [List.take_succ_cons, List.take_zero, List.drop_succ_cons, List.drop_zero, List.take_nil, List.drop_nil]
     repeat (go_big_quiet_step (first | fail | (go_at_call 123; with_reducible exact cls_call hF1 hF2 HA1.out _) | (go_at_call 73; with_reducible exact cls_call hF1 hF2 HC1.out _)))
     refine wpQuiet_nil ?_
     rintro wq ⟨xq, rfl⟩
     replace hL0 := hL0.call (hF1 xq)
     clear  hq0 hq1 hF2
     generalize F xq = x8 at hL0 ⊢
     clear hF1 xq iα F α
     go_upto_region 7 with fail
     obtain ⟨α, iα, F, hF1, hF2⟩ := cls x8
     have hq0 := cls_box hF1 hL0 _ _ (List.mem_cons_of_mem _ (List.mem_cons_of_mem _ List.mem_cons_self))
     simp only [cellsC, and_true, Nat.zero_add, Nat.reduceAdd] at hq0
     have hq1 := cls_box hF1 hL0 _ _ (List.mem_cons_of_mem _ (List.mem_cons_of_mem _ (List.mem_cons_of_mem _ (List.mem_cons_of_mem _ List.mem_cons_self))))
     simp only [cellsC, and_true, Nat.zero_add, Nat.reduceAdd] at hq1
     refine region_qs 6 (C := fun w' => ∃ x, w' = F x) (by kernel_rfl) (by kernel_rfl) (cls_drew hF2) ?_
     simp only [List.take_succ_cons, List.take_zero, List.drop_succ_cons, List.drop_zero, List.take_nil, List.drop_nil]
     repeat (go_big_quiet_step (first | fail | (go_at_call 123; with_reducible exact cls_call hF1 hF2 HA2.out _) | (go_at_call 73; with_reducible exact cls_call hF1 hF2 HC2.out _)))
     refine wpQuiet_nil ?_
     rintro wq ⟨xq, rfl⟩
     replace hL0 := hL0.call (hF1 xq)
     clear  hq0 hq1 hF2
     generalize F xq = x9 at hL0 ⊢
     clear hF1 xq iα F α
     have hN0 := cells_of _ 0 [] rfl (hL0.get _ _ List.mem_cons_self)
     simp only [cellsF, and_true, Nat.zero_add, Nat.reduceAdd] at hN0
     go_wp2_with fail
     clear hN0
     with_reducible refine Calls.mono (HSg.out _) ?_
     rintro e x10 ⟨rfl, hb⟩
     replace hL0 := hL0.call hb
     clear hb
     have hN0 := cells_of _ 0 [] rfl (hL0.get _ _ (List.mem_cons_of_mem _ (List.mem_cons_of_mem _ List.mem_cons_self)))
     simp only [cellsF, and_true, Nat.zero_add, Nat.reduceAdd] at hN0
     go_wp2_with fail
     clear hN0
     with_reducible refine Calls.mono (HNg.out _) ?_
     rintro e x11 ⟨rfl, hb⟩
     replace hL0 := hL0.call hb
     clear hb
     have hA := hL0.fc
     simp only [fcG, cellsF, neK, and_true, ne_eq, Nat.zero_add, Nat.reduceAdd] at hA
     have hP := hL0.put 2 (k4_8) _ rfl [.int .u64 ((zl o : Nat) : Int), .string (zh o), .bool (zs o)] rfl
     simp only [setAll, List.set_cons_zero, List.set_cons_succ] at hP
     generalize hput1 : (((x11.setCell ⟨k4_8, 0, none⟩ (.int .u64 ((zl o : Nat) : Int))).setCell ⟨k4_8, 1, none⟩ (.string (zh o))).setCell ⟨k4_8, 2, none⟩ (.bool (zs o))) = x12 at hP
     have hB1 := hP.fc
     simp only [fcG, cellsF, neK, and_true, ne_eq, Nat.zero_add, Nat.reduceAdd] at hB1
     replace hL0 := hP
     go_upto_region 11 with fail
     clear hA
     clear hput1 hB1
     refine region_gh (by kernel_rfl) (by kernel_rfl) ?_
     refine lex_seg (gl := []) 7 (by kernel_rfl) ?_
     intro α iα F hF1 hF2
     have hq := GL.seg hF1 hL0
     simp only [fcC, cellsC, and_true, Nat.zero_add, Nat.reduceAdd] at hq
     simp only [List.take_succ_cons, List.take_zero, List.drop_succ_cons, List.drop_zero, List.take_nil, List.drop_nil]
     repeat (go_big_quiet_step (first | fail | (go_at_call 123; with_reducible exact seg_call hF2 HA1.out _) | (go_at_call 122; with_reducible exact seg_call hF2 HFr.out _)))
     refine wpQuiet_nil ?_
     clear hq hF1 hF2 iα F α
     refine lex_new [.int .u64 0, .string ⟨#[]⟩, .bool false, .int .u64 0, .string ⟨#[]⟩] 12 34 34 rfl rfl (of_decide_eq_true (by kernel_rfl)) (by kernel_rfl) rfl new_frac ?_
     simp only [Act.put, List.setIfInBounds_toArray, List.set_cons_succ, List.set_cons_zero]
     refine lex_put [.int .u64 ((zl f.num : Nat) : Int), .string (zh f.num), .bool (zs f.num), .int .u64 ((lo (fe f) : Nat) : Int), .string (hs (fe f))] [.int .u64 0, .string ⟨#[]⟩, .bool false, .int .u64 0, .string ⟨#[]⟩] 12 34 (.tmp 51) rfl (by kernel_rfl) (by simp [toG, upd]) rfl (fun w k h => put_frac _ _ _ _ _ _ _ _ _ _ w k h) ?_
     simp only [Act.put]
     refine lex_seg (gl := [(12, [.int .u64 ((zl f.num : Nat) : Int), .string (zh f.num), .bool (zs f.num), .int .u64 ((lo (fe f) : Nat) : Int), .string (hs (fe f))], true), (12, [.int .u64 0, .string ⟨#[]⟩, .bool false, .int .u64 0, .string ⟨#[]⟩], false)]) 1 (by kernel_rfl) ?_
     intro α iα F hF1 hF2
     have hq := GL.seg hF1 hL0
     simp only [fcC, cellsC, and_true, Nat.zero_add, Nat.reduceAdd] at hq
     simp only [List.take_succ_cons, List.take_zero, List.drop_succ_cons, List.drop_zero, List.take_nil, List.drop_nil]
     repeat (go_big_quiet_step (first | fail | (go_at_call 123; with_reducible exact seg_call hF2 HA1.out _) | (go_at_call 122; with_reducible exact seg_call hF2 HFr.out _)))
     refine wpQuiet_nil ?_
     clear hq hF1 hF2 iα F α
     refine lexG_nil ?_
     intro κ x13 hS
     replace hL0 := hL0.ghs hS [(12, [.int .u64 ((zl f.num : Nat) : Int), .string (zh f.num), .bool (zs f.num), .int .u64 ((lo (fe f) : Nat) : Int), .string (hs (fe f))])] (by simp) (by intro p hp; simp only [List.mem_cons, List.not_mem_nil, or_false] at hp; rcases hp with rfl <;> exact ⟨_, by simp only [toG, upd]; rfl⟩)
     simp only [List.map_cons, List.map_nil, List.cons_append, List.nil_append] at hL0
     simp only [over_toG, over_nil, Act.put, List.setIfInBounds_toArray, List.set_cons_succ, List.set_cons_zero]
     clear hS
     generalize κ 12 = k13_12 at *
     have hA := hL0.fc
     simp only [fcG, cellsF, neK, and_true, ne_eq, Nat.zero_add, Nat.reduceAdd] at hA
     have hP := hL0.put 6 (w.heap.size + 1 + 1) _ rfl [.int .u64 ((zl f.num : Nat) : Int), .string (zh f.num), .bool (zs f.num), .int .u64 ((lo (fe f) : Nat) : Int), .string (hs (fe f))] rfl
     simp only [setAll, List.set_cons_zero, List.set_cons_succ] at hP
     generalize hput2 : (((((x13.setCell ⟨w.heap.size + 1 + 1, 0, none⟩ (.int .u64 ((zl f.num : Nat) : Int))).setCell ⟨w.heap.size + 1 + 1, 1, none⟩ (.string (zh f.num))).setCell ⟨w.heap.size + 1 + 1, 2, none⟩ (.bool (zs f.num))).setCell ⟨w.heap.size + 1 + 1, 3, none⟩ (.int .u64 ((lo (fe f) : Nat) : Int))).setCell ⟨w.heap.size + 1 + 1, 4, none⟩ (.string (hs (fe f)))) = x14 at hP
     have hB2 := hP.fc
     simp only [fcG, cellsF, neK, and_true, ne_eq, Nat.zero_add, Nat.reduceAdd] at hB2
     replace hL0 := hP
     go_wp2_with fail
     try rw [Exit.noGoto_ret]
     exact bodyPost_ret (v := .tuple #[.agg #[.int .u64 ((zl f.num : Nat) : Int), .string (zh f.num), .bool (zs f.num), .int .u64 ((lo (fe f) : Nat) : Int), .string (hs (fe f))], .bool true]) (by simp [results, Tryz.results206, go_sem, hB2]) rfl ⟨by rw [hR2.out], hL0.bl⟩
    ·have g3 : decide (sg < 0) = false := by rw [hsg, dec_sgn]; exact decide_eq_false hd
     rw [if_neg hd] at hR
     have HFr := Lib.hid (fun w => fromF n i (by omega) (by omega) (by omega) w)
     rw [← hi] at hR
     obtain ⟨f, hf⟩ : ∃ f, f = mkRat n i := ⟨_, rfl⟩
     rw [← hf] at HFr
     have hR2 := Lib.hid (hS.out _ _ hR.out)
     rw [← hf] at hR2
     clear hi hj h1 h2 hci hcj hC d1 d2 d3 d4 hR hi0 hiD hsg hd hf
     go_upto_region 5 with fail
     obtain ⟨α, iα, F, hF1, hF2⟩ := cls wr
     have hq0 := cls_box hF1 hL0 _ _ List.mem_cons_self
     simp only [cellsC, and_true, Nat.zero_add, Nat.reduceAdd] at hq0
     have hq1 := cls_box hF1 hL0 _ _ (List.mem_cons_of_mem _ (List.mem_cons_of_mem _ (List.mem_cons_of_mem _ (List.mem_cons_of_mem _ List.mem_cons_self))))
     simp only [cellsC, and_true, Nat.zero_add, Nat.reduceAdd] at hq1
     refine region_qs 6 (C := fun w' => ∃ x, w' = F x) (by kernel_rfl) (by kernel_rfl) (cls_drew hF2) ?_
     simp only [List.take_succ_cons, List.take_zero, List.drop_succ_cons, List.drop_zero, List.take_nil, List.drop_nil]
     repeat (go_big_quiet_step (first | fail | (go_at_call 123; with_reducible exact cls_call hF1 hF2 HA1.out _) | (go_at_call 73; with_reducible exact cls_call hF1 hF2 HC1.out _)))
     refine wpQuiet_nil ?_
     rintro wq ⟨xq, rfl⟩
     replace hL0 := hL0.call (hF1 xq)
     clear  hq0 hq1 hF2
     generalize F xq = x8 at hL0 ⊢
     clear hF1 xq iα F α
     go_upto_region 7 with fail
     obtain ⟨α, iα, F, hF1, hF2⟩ := cls x8
     have hq0 := cls_box hF1 hL0 _ _ (List.mem_cons_of_mem _ (List.mem_cons_of_mem _ List.mem_cons_self))
     simp only [cellsC, and_true, Nat.zero_add, Nat.reduceAdd] at hq0
     have hq1 := cls_box hF1 hL0 _ _ (List.mem_cons_of_mem _ (List.mem_cons_of_mem _ (List.mem_cons_of_mem _ (List.mem_cons_of_mem _ List.mem_cons_self))))
     simp only [cellsC, and_true, Nat.zero_add, Nat.reduceAdd] at hq1
     refine region_qs 6 (C := fun w' => ∃ x, w' = F x) (by kernel_rfl) (by kernel_rfl) (cls_drew hF2) ?_
     simp only [List.take_succ_cons, List.take_zero, List.drop_succ_cons, List.drop_zero, List.take_nil, List.drop_nil]
     repeat (go_big_quiet_step (first | fail | (go_at_call 123; with_reducible exact cls_call hF1 hF2 HA2.out _) | (go_at_call 73; with_reducible exact cls_call hF1 hF2 HC2.out _)))
     refine wpQuiet_nil ?_
     rintro wq ⟨xq, rfl⟩
     replace hL0 := hL0.call (hF1 xq)
     clear  hq0 hq1 hF2
     generalize F xq = x9 at hL0 ⊢
     clear hF1 xq iα F α
     have hN0 := cells_of _ 0 [] rfl (hL0.get _ _ List.mem_cons_self)
     simp only [cellsF, and_true, Nat.zero_add, Nat.reduceAdd] at hN0
     go_wp2_with fail
     clear hN0
     with_reducible refine Calls.mono (HSg.out _) ?_
     rintro e x10 ⟨rfl, hb⟩
     replace hL0 := hL0.call hb
     clear hb
     go_upto_region 11 with fail
     refine region_gh (by kernel_rfl) (by kernel_rfl) ?_
     refine lex_seg (gl := []) 7 (by kernel_rfl) ?_
     intro α iα F hF1 hF2
     have hq := GL.seg hF1 hL0
     simp only [fcC, cellsC, and_true, Nat.zero_add, Nat.reduceAdd] at hq
     simp only [List.take_succ_cons, List.take_zero, List.drop_succ_cons, List.drop_zero, List.take_nil, List.drop_nil]
     repeat (go_big_quiet_step (first | fail | (go_at_call 123; with_reducible exact seg_call hF2 HA1.out _) | (go_at_call 122; with_reducible exact seg_call hF2 HFr.out _)))
     refine wpQuiet_nil ?_
     clear hq hF1 hF2 iα F α
     refine lex_new [.int .u64 0, .string ⟨#[]⟩, .bool false, .int .u64 0, .string ⟨#[]⟩] 12 34 34 rfl rfl (of_decide_eq_true (by kernel_rfl)) (by kernel_rfl) rfl new_frac ?_
     simp only [Act.put, List.setIfInBounds_toArray, List.set_cons_succ, List.set_cons_zero]
     refine lex_put [.int .u64 ((zl f.num : Nat) : Int), .string (zh f.num), .bool (zs f.num), .int .u64 ((lo (fe f) : Nat) : Int), .string (hs (fe f))] [.int .u64 0, .string ⟨#[]⟩, .bool false, .int .u64 0, .string ⟨#[]⟩] 12 34 (.tmp 51) rfl (by kernel_rfl) (by simp [toG, upd]) rfl (fun w k h => put_frac _ _ _ _ _ _ _ _ _ _ w k h) ?_
     simp only [Act.put]
     refine lex_seg (gl := [(12, [.int .u64 ((zl f.num : Nat) : Int), .string (zh f.num), .bool (zs f.num), .int .u64 ((lo (fe f) : Nat) : Int), .string (hs (fe f))], true), (12, [.int .u64 0, .string ⟨#[]⟩, .bool false, .int .u64 0, .string ⟨#[]⟩], false)]) 1 (by kernel_rfl) ?_
     intro α iα F hF1 hF2
     have hq := GL.seg hF1 hL0
     simp only [fcC, cellsC, and_true, Nat.zero_add, Nat.reduceAdd] at hq
     simp only [List.take_succ_cons, List.take_zero, List.drop_succ_cons, List.drop_zero, List.take_nil, List.drop_nil]
     repeat (go_big_quiet_step (first | fail | (go_at_call 123; with_reducible exact seg_call hF2 HA1.out _) | (go_at_call 122; with_reducible exact seg_call hF2 HFr.out _)))
     refine wpQuiet_nil ?_
     clear hq hF1 hF2 iα F α
     refine lexG_nil ?_
     intro κ x11 hS
     replace hL0 := hL0.ghs hS [(12, [.int .u64 ((zl f.num : Nat) : Int), .string (zh f.num), .bool (zs f.num), .int .u64 ((lo (fe f) : Nat) : Int), .string (hs (fe f))])] (by simp) (by intro p hp; simp only [List.mem_cons, List.not_mem_nil, or_false] at hp; rcases hp with rfl <;> exact ⟨_, by simp only [toG, upd]; rfl⟩)
     simp only [List.map_cons, List.map_nil, List.cons_append, List.nil_append] at hL0
     simp only [over_toG, over_nil, Act.put, List.setIfInBounds_toArray, List.set_cons_succ, List.set_cons_zero]
     clear hS
     generalize κ 12 = k11_12 at *
     have hA := hL0.fc
     simp only [fcG, cellsF, neK, and_true, ne_eq, Nat.zero_add, Nat.reduceAdd] at hA
     have hP := hL0.put 6 (w.heap.size + 1 + 1) _ rfl [.int .u64 ((zl f.num : Nat) : Int), .string (zh f.num), .bool (zs f.num), .int .u64 ((lo (fe f) : Nat) : Int), .string (hs (fe f))] rfl
     simp only [setAll, List.set_cons_zero, List.set_cons_succ] at hP
     generalize hput1 : (((((x11.setCell ⟨w.heap.size + 1 + 1, 0, none⟩ (.int .u64 ((zl f.num : Nat) : Int))).setCell ⟨w.heap.size + 1 + 1, 1, none⟩ (.string (zh f.num))).setCell ⟨w.heap.size + 1 + 1, 2, none⟩ (.bool (zs f.num))).setCell ⟨w.heap.size + 1 + 1, 3, none⟩ (.int .u64 ((lo (fe f) : Nat) : Int))).setCell ⟨w.heap.size + 1 + 1, 4, none⟩ (.string (hs (fe f)))) = x12 at hP
     have hB1 := hP.fc
     simp only [fcG, cellsF, neK, and_true, ne_eq, Nat.zero_add, Nat.reduceAdd] at hB1
     replace hL0 := hP
     go_wp2_with fail
     try rw [Exit.noGoto_ret]
     exact bodyPost_ret (v := .tuple #[.agg #[.int .u64 ((zl f.num : Nat) : Int), .string (zh f.num), .bool (zs f.num), .int .u64 ((lo (fe f) : Nat) : Int), .string (hs (fe f))], .bool true]) (by simp [results, Tryz.results206, go_sem, hB1]) rfl ⟨by rw [hR2.out], hL0.bl⟩
end Go.Proofs.YtaimebjkidegiaaGreatDoor
namespace Go.Proofs.YtaimebjkidegiaaGreatDoor
theorem lcm_dvd_int {M1 M2 : Nat} {z : Int} : ((Nat.lcm M1 M2 : Nat) : Int) ∣ z ↔ (M1 : Int) ∣ z ∧ (M2 : Int) ∣ z := by
 rw [Int.ofNat_dvd_left, Int.ofNat_dvd_left, Int.ofNat_dvd_left]
 exact Nat.lcm_dvd_iff
/-- A number that satisfies both congruences stands for both. -/
theorem crt_iff {M1 M2 : Nat} {R1 R2 R : Int} (h1 : (M1 : Int) ∣ R - R1) (h2 : (M2 : Int) ∣ R - R2) (x : Int) : ((Nat.lcm M1 M2 : Nat) : Int) ∣ x - R ↔ (M1 : Int) ∣ x - R1 ∧ (M2 : Int) ∣ x - R2 := by
 rw [lcm_dvd_int]
 have e1 : x - R1 = (x - R) + (R - R1) := by omega
 have e2 : x - R2 = (x - R) + (R - R2) := by omega
 rw [e1, e2]
 exact and_congr (Int.dvd_add_left h1).symm (Int.dvd_add_left h2).symm
theorem crt_need {M1 M2 : Nat} {R1 R2 x : Int} (h1 : (M1 : Int) ∣ x - R1) (h2 : (M2 : Int) ∣ x - R2) : ((Nat.gcd M1 M2 : Nat) : Int) ∣ R2 - R1 := by
 have k1 := Int.dvd_trans (Int.natCast_dvd_natCast.2 (Nat.gcd_dvd_left M1 M2)) h1
 have k2 := Int.dvd_trans (Int.natCast_dvd_natCast.2 (Nat.gcd_dvd_right M1 M2)) h2
 have := Int.dvd_sub k1 k2
 rwa [show x - R1 - (x - R2) = R2 - R1 by omega] at this
/-- The residue between 0 and M - 1 is one. -/
theorem res_uniq {M : Nat} {R S : Int} (h0 : 0 ≤ R) (h1 : R < M) (g0 : 0 ≤ S) (g1 : S < M) (h : (M : Int) ∣ R - S) : R = S := by
 have := dvd_small h (by omega)
 omega
theorem res_mod {M : Nat} (hM : 0 < M) (x : Int) : 0 ≤ x % (M : Int) ∧ x % (M : Int) < M ∧ (M : Int) ∣ x - x % (M : Int) := by
 refine ⟨Int.emod_nonneg _ (by omega), Int.emod_lt_of_pos _ (by omega), ⟨x / M, ?_⟩⟩
 have := Int.emod_add_mul_ediv x M
 omega
/-- What several congruences say together. -/
def Holds (l : List (Int × Nat)) (x : Int) : Prop := ∀ c ∈ l, (c.2 : Int) ∣ x - c.1
theorem holds_nil (x : Int) : Holds [] x := fun c h => absurd h (by simp)
theorem holds_cons (c : Int × Nat) (l : List (Int × Nat)) (x : Int) : Holds (c :: l) x ↔ (c.2 : Int) ∣ x - c.1 ∧ Holds l x := by
 unfold Holds; simp
theorem holds_append (l k : List (Int × Nat)) (x : Int) : Holds (l ++ k) x ↔ Holds l x ∧ Holds k x := by
 unfold Holds
 constructor
 ·intro h; exact ⟨fun c hc => h c (List.mem_append_left _ hc), fun c hc => h c (List.mem_append_right _ hc)⟩
 ·rintro ⟨h1, h2⟩ c hc
  rcases List.mem_append.1 hc with h | h
  ·exact h1 c h
  ·exact h2 c h
theorem holds_turn (l k : List (Int × Nat)) (x : Int) : Holds (l ++ k) x ↔ Holds (k ++ l) x := by rw [holds_append, holds_append]; exact and_comm
/-- The least common multiple of the moduli. -/
def lcmL : List (Int × Nat) → Nat
 | [] => 1
 | c :: l => Nat.lcm c.2 (lcmL l)
theorem lcmL_dvd {l : List (Int × Nat)} : ∀ {n : Nat}, lcmL l ∣ n ↔ ∀ c ∈ l, c.2 ∣ n := by
 induction l with
 | nil => intro n; simp [lcmL]
 | cons c l ih => intro n; rw [lcmL, Nat.lcm_dvd_iff, ih]; simp
theorem lcmL_pos {l : List (Int × Nat)} (h : ∀ c ∈ l, 0 < c.2) : 0 < lcmL l := by
 induction l with
 | nil => exact Nat.one_pos
 | cons c l ih => exact Nat.lcm_pos (h c List.mem_cons_self) (ih fun d hd => h d (List.mem_cons_of_mem _ hd))
/-- The congruence that is equivalent to all of them. -/
structure Joint (l : List (Int × Nat)) (R : Int) (M : Nat) : Prop where
 m : M = lcmL l
 lo : 0 ≤ R
 hi : R < M
 iff : ∀ x, (M : Int) ∣ x - R ↔ Holds l x
theorem Joint.uniq {l : List (Int × Nat)} {R S : Int} {M K : Nat} (h : Joint l R M) (g : Joint l S K) : R = S ∧ M = K := by
 have e : M = K := h.m.trans g.m.symm
 subst e
 refine ⟨res_uniq h.lo h.hi g.lo g.hi ((g.iff R).2 ((h.iff R).1 ⟨0, by omega⟩)), rfl⟩
theorem lcmL_turn (l k : List (Int × Nat)) : lcmL (l ++ k) = lcmL (k ++ l) := by
 refine Nat.dvd_antisymm (lcmL_dvd.2 fun c hc => ?_) (lcmL_dvd.2 fun c hc => ?_)
 ·exact lcmL_dvd.1 (Nat.dvd_refl _) c (by rcases List.mem_append.1 hc with h | h <;> simp [h])
 ·exact lcmL_dvd.1 (Nat.dvd_refl _) c (by rcases List.mem_append.1 hc with h | h <;> simp [h])
theorem Joint.turn {l k : List (Int × Nat)} {R : Int} {M : Nat} (h : Joint (l ++ k) R M) : Joint (k ++ l) R M :=
 ⟨h.m.trans (lcmL_turn l k), h.lo, h.hi, fun x => (h.iff x).trans (holds_turn l k x)⟩
/-- The congruences that an integer satisfies say together that it has its residue modulo the least common multiple. -/
theorem joint_of {l : List (Int × Nat)} {a : Int} (h : Holds l a) (hp : ∀ c ∈ l, 0 < c.2) : Joint l (a % (lcmL l : Int)) (lcmL l) := by
 have hM := lcmL_pos hp
 obtain ⟨h0, h1, h2⟩ := res_mod hM a
 refine ⟨rfl, h0, h1, fun x => ?_⟩
 have key : (lcmL l : Int) ∣ x - a ↔ Holds l x := by
  rw [Int.ofNat_dvd_left, lcmL_dvd]
  unfold Holds
  refine forall_congr' fun c => forall_congr' fun hc => ?_
  rw [← Int.ofNat_dvd_left, show x - c.1 = (x - a) + (a - c.1) by omega]
  exact (Int.dvd_add_left (h c hc)).symm
 rw [← key, show x - a % (lcmL l : Int) = (x - a) + (a - a % (lcmL l : Int)) by omega]
 exact Int.dvd_add_left h2
end Go.Proofs.YtaimebjkidegiaaGreatDoor
namespace Go.Proofs.YtaimebjkidegiaaGreatDoor
/-- How often the first modulus is added to go from the first residue to the second. -/
def crtT (p q : Int × Nat) : Int := (q.1 - p.1) / (Nat.gcd p.2 q.2 : Int) * (xgcd p.2 q.2).2.1 % ((q.2 : Int) / (Nat.gcd p.2 q.2 : Int))
def crtR (p q : Int × Nat) : Int := p.1 + crtT p q * (p.2 : Int)
def crtM (p q : Int × Nat) : Nat := ((p.2 : Int) * ((q.2 : Int) / (Nat.gcd p.2 q.2 : Int))).natAbs
theorem crtM_lcm (p q : Int × Nat) : crtM p q = Nat.lcm p.2 q.2 := by
 unfold crtM
 rw [← Int.natCast_ediv, ← Int.natCast_mul, Int.natAbs_natCast, Nat.lcm, Nat.mul_div_assoc _ (Nat.gcd_dvd_right _ _)]
theorem turn_pos {m n : Nat} (hn : 0 < n) : 0 < n / Nat.gcd m n := Nat.div_pos (Nat.le_of_dvd hn (Nat.gcd_dvd_right _ _)) (Nat.gcd_pos_of_pos_right _ hn)
theorem crtT_bounds {p q : Int × Nat} (hq : 0 < q.2) : 0 ≤ crtT p q ∧ crtT p q < ((q.2 / Nat.gcd p.2 q.2 : Nat) : Int) := by
 unfold crtT
 have h := turn_pos (m := p.2) hq
 rw [← Int.natCast_ediv]
 exact ⟨Int.emod_nonneg _ (by omega), Int.emod_lt_of_pos _ (by omega)⟩
theorem crt_join {p q : Int × Nat} (hp : 0 < p.2) (hq : 0 < q.2) (h : (Nat.gcd p.2 q.2 : Int) ∣ q.1 - p.1) : (p.2 : Int) ∣ crtR p q - p.1 ∧ (q.2 : Int) ∣ crtR p q - q.1 := by
 obtain ⟨c, hc⟩ := h
 have hg : (Nat.gcd p.2 q.2 : Int) ≠ 0 := by have := Nat.gcd_pos_of_pos_right p.2 hq; omega
 have hb := xgcd_bez _ (p.2 : Int) (q.2 : Int) (Nat.le_refl _)
 rw [hb.2, Int.natAbs_natCast, Int.natAbs_natCast] at hb
 have hb1 := hb.1
 obtain ⟨a, ha⟩ : (Nat.gcd p.2 q.2 : Int) ∣ (p.2 : Int) := Int.natCast_dvd_natCast.2 (Nat.gcd_dvd_left _ _)
 obtain ⟨b, hb2⟩ : (Nat.gcd p.2 q.2 : Int) ∣ (q.2 : Int) := Int.natCast_dvd_natCast.2 (Nat.gcd_dvd_right _ _)
 unfold crtR crtT
 rw [hc, Int.mul_ediv_cancel_left _ hg]
 have hq2 : (q.2 : Int) / (Nat.gcd p.2 q.2 : Int) = b := by rw [hb2]; exact Int.mul_ediv_cancel_left _ hg
 rw [hq2]
 have e := Int.emod_add_mul_ediv (c * (xgcd p.2 q.2).2.1) b
 obtain ⟨t, ht⟩ : ∃ t, t = c * (xgcd p.2 q.2).2.1 % b := ⟨_, rfl⟩
 obtain ⟨k, hk⟩ : ∃ k, k = c * (xgcd p.2 q.2).2.1 / b := ⟨_, rfl⟩
 rw [← ht, ← hk] at e
 rw [← ht]
 refine ⟨⟨t, by rw [Int.add_comm, Int.add_sub_cancel, Int.mul_comm]⟩, ⟨-(c * (xgcd p.2 q.2).2.2 + a * k), ?_⟩⟩
 have e1 : t = c * (xgcd p.2 q.2).2.1 - b * k := by omega
 have e2 : p.1 + t * (p.2 : Int) - q.1 = t * (p.2 : Int) - (q.1 - p.1) := by omega
 rw [e2, hc, e1]
 obtain ⟨g, hg'⟩ : ∃ g : Int, g = (Nat.gcd p.2 q.2 : Int) := ⟨_, rfl⟩
 rw [← hg'] at ha hb2 hb1 ⊢
 generalize (xgcd p.2 q.2).2.1 = x at *
 generalize (xgcd p.2 q.2).2.2 = y at *
 rw [ha, hb2] at hb1 ⊢
 grind
theorem crt_bounds {p q : Int × Nat} (hq : 0 < q.2) (h0 : 0 ≤ p.1) (h1 : p.1 < p.2) : 0 ≤ crtR p q ∧ crtR p q < (crtM p q : Int) := by
 obtain ⟨t0, t1⟩ := crtT_bounds (p := p) hq
 have h2 : (0 : Int) ≤ (p.2 : Int) := by omega
 have h3 := Int.mul_nonneg t0 h2
 unfold crtR
 refine ⟨by omega, ?_⟩
 rw [crtM_lcm, Nat.lcm, Nat.mul_div_assoc _ (Nat.gcd_dvd_right _ _), Int.natCast_mul]
 generalize ((q.2 / Nat.gcd p.2 q.2 : Nat) : Int) = n at *
 generalize crtT p q = t at *
 have h4 : t * (p.2 : Int) ≤ (n - 1) * (p.2 : Int) := Int.mul_le_mul_of_nonneg_right (by omega) h2
 rw [Int.sub_mul, Int.one_mul, Int.mul_comm n] at h4
 omega
theorem joinable_iff {p q : Int × Nat} : p.1 % (Nat.gcd p.2 q.2 : Int) = q.1 % (Nat.gcd p.2 q.2 : Int) ↔ (Nat.gcd p.2 q.2 : Int) ∣ q.1 - p.1 := by
 rw [eq_comm]
 exact Int.emod_eq_emod_iff_emod_sub_eq_zero.trans Int.dvd_iff_emod_eq_zero.symm
def joinB (p q : Int × Nat) : Bool := decide (p.1 % (Nat.gcd p.2 q.2 : Int) = q.1 % (Nat.gcd p.2 q.2 : Int))
theorem joinB_iff {p q : Int × Nat} : joinB p q = true ↔ (Nat.gcd p.2 q.2 : Int) ∣ q.1 - p.1 := by unfold joinB; rw [decide_eq_true_iff]; exact joinable_iff
def chinF : Int × Nat → List (Int × Nat) → Option (Int × Nat)
 | p, [] => some p
 | p, q :: l => if joinB p q = true then chinF (crtR p q, crtM p q) l else none
theorem lcmL_snoc (l : List (Int × Nat)) (c : Int × Nat) : lcmL (l ++ [c]) = Nat.lcm (lcmL l) c.2 := by
 refine Nat.dvd_antisymm (lcmL_dvd.2 fun x hx => ?_) (Nat.lcm_dvd ?_ ?_)
 ·rcases List.mem_append.1 hx with h | h
  ·exact Nat.dvd_trans (lcmL_dvd.1 (Nat.dvd_refl _) x h) (Nat.dvd_lcm_left _ _)
  ·rw [List.mem_singleton.1 h]; exact Nat.dvd_lcm_right _ _
 ·exact lcmL_dvd.2 fun x hx => lcmL_dvd.1 (Nat.dvd_refl _) x (by simp [hx])
 ·exact lcmL_dvd.1 (Nat.dvd_refl _) c (by simp)
theorem Joint.pos {l : List (Int × Nat)} {R : Int} {M : Nat} (h : Joint l R M) : 0 < M := by have := h.lo; have := h.hi; omega
theorem Joint.snoc {l : List (Int × Nat)} {p q : Int × Nat} (h : Joint l p.1 p.2) (hq : 0 < q.2) (hj : joinB p q = true) : Joint (l ++ [q]) (crtR p q) (crtM p q) := by
 have hp := h.pos
 obtain ⟨k1, k2⟩ := crt_join hp hq (joinB_iff.1 hj)
 obtain ⟨b1, b2⟩ := crt_bounds hq h.lo h.hi
 refine ⟨by rw [crtM_lcm, lcmL_snoc, h.m], b1, b2, fun x => ?_⟩
 rw [crtM_lcm, crt_iff k1 k2 x, holds_append, h.iff x]
 refine and_congr_right fun _ => ?_
 rw [holds_cons]
 exact ⟨fun g => ⟨g, holds_nil x⟩, fun g => g.1⟩
theorem Joint.not {l : List (Int × Nat)} {p q : Int × Nat} (h : Joint l p.1 p.2) (hj : joinB p q = false) (k : List (Int × Nat)) (x : Int) : ¬ Holds (l ++ q :: k) x := by
 intro hx
 rw [holds_append, holds_cons, ← h.iff x] at hx
 have := joinB_iff.2 (crt_need hx.1 hx.2.1)
 rw [hj] at this; cases this
theorem chinF_joint : ∀ (l done : List (Int × Nat)) (p : Int × Nat), Joint done p.1 p.2 → (∀ c ∈ l, 0 < c.2) →
  (∀ r, chinF p l = some r → Joint (done ++ l) r.1 r.2) ∧ (chinF p l = none → ∀ x, ¬ Holds (done ++ l) x)
 | [], done, p, h, _ => ⟨fun r e => by rw [chinF] at e; obtain rfl := Option.some.inj e; rw [List.append_nil]; exact h, fun e => by rw [chinF] at e; cases e⟩
 | q :: l, done, p, h, hp => by
  rw [chinF]
  cases hj : joinB p q with
  | true =>
   rw [if_pos rfl]
   have h2 := chinF_joint l (done ++ [q]) (crtR p q, crtM p q) (h.snoc (hp q List.mem_cons_self) hj) (fun c hc => hp c (List.mem_cons_of_mem _ hc))
   rw [List.append_assoc] at h2
   exact h2
  | false =>
   rw [if_neg (by simp)]
   exact ⟨fun r e => (by cases e), fun _ x => h.not hj l x⟩
theorem joint_nil : Joint [] 0 1 := ⟨rfl, by decide, by decide, fun x => ⟨fun _ => holds_nil x, fun _ => ⟨x, by simp⟩⟩⟩
/-- Whether a modulus is 0. -/
def anyZ : List (Int × Nat) → Bool
 | [] => false
 | c :: l => if c.2 = 0 then true else anyZ l
theorem anyZ_false : ∀ {l : List (Int × Nat)}, anyZ l = false ↔ ∀ c ∈ l, 0 < c.2
 | [] => by simp [anyZ]
 | c :: l => by
  rw [anyZ]
  by_cases h : c.2 = 0
  ·rw [if_pos h]
   exact ⟨fun e => (by cases e), fun g => by have := g c List.mem_cons_self; omega⟩
  ·rw [if_neg h, anyZ_false]
   exact ⟨fun g x hx => by rcases List.mem_cons.1 hx with rfl | hx; omega; exact g x hx, fun g x hx => g x (List.mem_cons_of_mem _ hx)⟩
def chV (l : List (Int × Nat)) : Int × Nat := if anyZ l = true then (0, 0) else (chinF (0, 1) l).getD (0, 0)
def chE (l : List (Int × Nat)) : Int := if anyZ l = true then 5 else if (chinF (0, 1) l).isSome = true then 0 else 6
theorem ch_zero {l : List (Int × Nat)} (h : anyZ l = true) : chV l = (0, 0) ∧ chE l = 5 := by unfold chV chE; rw [if_pos h, if_pos h]; exact ⟨rfl, rfl⟩
theorem ch_ok {l : List (Int × Nat)} (h : ∀ c ∈ l, 0 < c.2) {R : Int} {M : Nat} (hj : Joint l R M) : chV l = (R, M) ∧ chE l = 0 := by
 have hz := anyZ_false.2 h
 obtain ⟨k1, k2⟩ := chinF_joint l [] (0, 1) joint_nil h
 unfold chV chE
 rw [hz, if_neg (by simp), if_neg (by simp)]
 cases e : chinF (0, 1) l with
 | none => exact absurd ((hj.iff R).1 ⟨0, by omega⟩) (k2 e R)
 | some r =>
  obtain ⟨a, b⟩ := (k1 r e).uniq hj
  exact ⟨Prod.ext a b, rfl⟩
theorem ch_no {l : List (Int × Nat)} (h : ∀ c ∈ l, 0 < c.2) (hj : ∀ x, ¬ Holds l x) : chV l = (0, 0) ∧ chE l = 6 := by
 have hz := anyZ_false.2 h
 obtain ⟨k1, k2⟩ := chinF_joint l [] (0, 1) joint_nil h
 unfold chV chE
 rw [hz, if_neg (by simp), if_neg (by simp)]
 cases e : chinF (0, 1) l with
 | none => exact ⟨rfl, rfl⟩
 | some r => exact absurd (((k1 r e).iff r.1).1 ⟨0, by omega⟩) (hj r.1)
theorem ch_any (l : List (Int × Nat)) (h : ∀ c ∈ l, 0 < c.2) : (Joint l (chV l).1 (chV l).2 ∧ chE l = 0) ∨ ((∀ x, ¬ Holds l x) ∧ chV l = (0, 0) ∧ chE l = 6) := by
 have hz := anyZ_false.2 h
 obtain ⟨k1, k2⟩ := chinF_joint l [] (0, 1) joint_nil h
 cases e : chinF (0, 1) l with
 | none => exact .inr ⟨k2 e, ch_no h (k2 e)⟩
 | some r =>
  left
  obtain ⟨a, b⟩ := ch_ok h (k1 r e)
  rw [a]; exact ⟨k1 r e, b⟩
theorem ch_holds {l : List (Int × Nat)} (h : ∀ c ∈ l, 0 < c.2) {x : Int} (hx : Holds l x) : chV l = (x % (lcmL l : Int), lcmL l) ∧ chE l = 0 := ch_ok h (joint_of hx h)
end Go.Proofs.YtaimebjkidegiaaGreatDoor
namespace Go.Proofs.YtaimebjkidegiaaGreatDoor
open Go.RowKit
attribute [local irreducible] lo hs sm s64 c64 d64 b64 mh ml pd pc qd qc val hiB str cmpI srD lz nb isq zl zh zs fe
/-- A slice's fractions. -/
structure FS (w : World) (g : Nat) (qs : List Rat) : Prop where
 cell : ∀ i (h : i < qs.length), w.cell? ⟨g, i * 5, none⟩ = some (.int .u64 ((zl qs[i].num : Nat) : Int)) ∧ w.cell? ⟨g, i * 5 + 1, none⟩ = some (.string (zh qs[i].num)) ∧ w.cell? ⟨g, i * 5 + 2, none⟩ = some (.bool (zs qs[i].num)) ∧
  w.cell? ⟨g, i * 5 + 3, none⟩ = some (.int .u64 ((lo (fe qs[i]) : Nat) : Int)) ∧ w.cell? ⟨g, i * 5 + 4, none⟩ = some (.string (hs (fe qs[i])))
 lt : g < w.heap.size
theorem FS.below {w w' : World} {g : Nat} {qs : List Rat} (h : FS w g qs) (hb : Below w.heap.size w w') : FS w' g qs := by
 have hs := hb.size
 have hl := h.lt
 refine ⟨fun i hi => ?_, by omega⟩
 obtain ⟨h0, h1, h2, h3, h4⟩ := h.cell i hi
 exact ⟨(hb.cell (p := ⟨g, i * 5, none⟩) hl).trans h0, (hb.cell (p := ⟨g, i * 5 + 1, none⟩) hl).trans h1, (hb.cell (p := ⟨g, i * 5 + 2, none⟩) hl).trans h2, (hb.cell (p := ⟨g, i * 5 + 3, none⟩) hl).trans h3, (hb.cell (p := ⟨g, i * 5 + 4, none⟩) hl).trans h4⟩
def SlQ (w : World) (v : Value) (qs : List Rat) : Prop := (∃ ao c, v = .slice ao 0 c ∧ qs = []) ∨ ∃ g c, v = .slice (some ⟨g, 0, none⟩) qs.length c ∧ FS w g qs
theorem SlQ.below {w w' : World} {v : Value} {qs : List Rat} (h : SlQ w v qs) (hb : Below w.heap.size w w') : SlQ w' v qs := by
 rcases h with h | ⟨g, c, h1, h2⟩
 ·exact .inl h
 ·exact .inr ⟨g, c, h1, h2.below hb⟩
theorem SlQ.keeps (v : Value) (qs : List Rat) : Keeps (fun w => SlQ w v qs) := fun _ _ hb h => h.below hb
end Go.Proofs.YtaimebjkidegiaaGreatDoor
namespace Go.Proofs.YtaimebjkidegiaaGreatDoor
open Go.RowKit
attribute [local irreducible] lo hs sm s64 c64 d64 b64 mh ml pd pc qd qc val hiB str cmpI srD lz nb isq zl zh zs
/-- A fraction's text. -/
def qtxt (q : Rat) : ByteArray := if q.den = 1 then ztxt q.num else ztxt q.num ++ (ByteArray.mk #[47]) ++ txt q.den
theorem ztxt_small {z : Int} {k : Nat} (hk : 0 < k) (h : dI z ≤ k) : (ztxt z).size ≤ 20 * k + 1 := by
 have h1 := txt_small (n := z.natAbs) hk h
 unfold ztxt
 split
 ·rw [ByteArray.size_append]
  have : (ByteArray.mk #[45]).size = 1 := rfl
  omega
 ·omega
theorem textF (q : Rat) (k : Nat) (hq : Sz q k) (hk : k ≤ 100000) (w : World) (htab : Tab w) : Calls Tryz.prog 137 #[fracV q] w fun x w' => x = .returned (.string (qtxt q)) ∧ Below w.heap.size w w' := by
 have hT := fun w h => textI q.num (Nat.le_trans hq.1 (by omega)) w h
 unfold qtxt
 by_cases h : q.den = 1
 ·rw [if_pos h, show fracV q = frV q.num 0 by unfold fracV; rw [fe_one h]]
  exact ftext_whole q.num _ (fun w => by have := whole_raw q.num 0 w; rwa [decide_eq_true rfl] at this) hT w htab
 ·rw [if_neg h, show fracV q = frV q.num q.den by unfold fracV; rw [fe_ne h]]
  have s1 := ztxt_small (k := 100000) (by omega) (Nat.le_trans hq.1 hk)
  have s2 := txt_small (n := q.den) (k := 100000) (by omega) (Nat.le_trans hq.2 hk)
  exact ftext_part q.num q.den _ _ (fun w => by have := whole_raw q.num q.den w; rwa [decide_eq_false q.den_nz] at this) hT (fun w h => text_any q.den (Nat.le_trans hq.2 (by omega)) w h) (by omega) (by omega) w htab
end Go.Proofs.YtaimebjkidegiaaGreatDoor
namespace Go.Proofs.YtaimebjkidegiaaGreatDoor
open Go.RowKit
attribute [local irreducible] lo hs sm s64 c64 d64 b64 mh ml pd pc qd qc val hiB str cmpI srD lz nb isq zl zh zs
theorem szc (q : Rat) (h1 : q.num.natAbs < 18446744073709551616) (h2 : q.den < 18446744073709551616) : Sz q 1 :=
 ⟨digs_length_iff.2 (by rw [Nat.pow_one]; exact h1), digs_length_iff.2 (by rw [Nat.pow_one]; exact h2)⟩
theorem frV_q0 : fracV 0 = .agg #[.int .u64 0, .string ⟨#[]⟩, .bool false, .int .u64 0, .string ⟨#[]⟩] := frV_00
theorem txt1 (d : Nat) (h : d < 10) : txt d = ⟨#[dch d]⟩ := by unfold txt; rw [dec_small h]
theorem zt_pos (d : Nat) (h : d < 10) : ztxt (d : Int) = ⟨#[dch d]⟩ := by unfold ztxt; rw [if_neg (by omega), Int.natAbs_natCast, txt1 d h]
theorem zt_neg (d : Nat) (h : d < 10) (h0 : 0 < d) : ztxt (-(d : Int)) = ⟨#[45, dch d]⟩ := by
 unfold ztxt; rw [if_pos (by omega), Int.natAbs_neg, Int.natAbs_natCast, txt1 d h]; rfl
theorem qt_int {q : Rat} {z : Int} (h1 : q.den = 1) (h2 : q.num = z) : qtxt q = ztxt z := by unfold qtxt; rw [if_pos h1, h2]
theorem qt_part {q : Rat} {z : Int} {d : Nat} (h1 : q.den = d) (hd : d ≠ 1) (h2 : q.num = z) : qtxt q = ztxt z ++ ByteArray.mk #[47] ++ txt d := by unfold qtxt; rw [if_neg (by rw [h1]; exact hd), h1, h2]
theorem qt_0 : qtxt (0 : Rat) = (ByteArray.mk #[48]) := (qt_int (by decide +kernel) (by decide +kernel)).trans (zt_pos 0 (by decide))
/-- The variable of package bytealg that strings.Cut looks at. -/
def MaxL (w : World) : Prop := ∃ m, w.cell? ⟨2, 0, none⟩ = some (.int .i64 m)
theorem MaxL.keeps : Keeps MaxL := fun w w' hb ⟨m, h⟩ => ⟨m, by
 have hl := World.block_lt_of_cell? w _ h
 exact (hb.cell (p := ⟨2, 0, none⟩) hl).trans h⟩
end Go.Proofs.YtaimebjkidegiaaGreatDoor
namespace Go.Proofs.YtaimebjkidegiaaGreatDoor
open Go.RowKit
attribute [local irreducible] lo hs sm s64 c64 d64 b64 mh ml pd pc qd qc val hiB str cmpI srD lz nb isq zl zh zs
theorem giRun {a b : Int} : ∀ (n : Nat) (G X N Y : Int), N.natAbs ≤ n → GI a b G X N Y → ∃ G X Y, GI a b G X 0 Y := by
  intro n
  induction n with
  | zero => intro G X N Y h hG; obtain rfl : N = 0 := by omega
            exact ⟨_, _, _, hG⟩
  | succ n ih =>
    intro G X N Y h hG
    by_cases hN : N = 0
    · subst hN; exact ⟨_, _, _, hG⟩
    · have h1 := Int.emod_lt G hN
      have h2 := Int.emod_nonneg G hN
      exact ih _ _ _ _ (by omega) (hG.next hN)
theorem xgcd_sz {a b : Int} {k : Nat} (ha : dI a ≤ k) (hb : dI b ≤ k) : dI (xgcd a b).1 ≤ 1 + k ∧ dI (xgcd a b).2.1 ≤ 1 + (k + 1) := by
 obtain ⟨G, X, Y, h⟩ := giRun _ a 1 b 0 (Nat.le_refl _) (GI.start a b)
 obtain ⟨b1, b2, b3, -⟩ := h.bounds ha hb
 obtain ⟨l1, l2⟩ := h.last
 have hs1 : dI (sgn G) ≤ 1 := digs_length_iff.2 (by have : (sgn G).natAbs ≤ 1 := (by unfold sgn; split <;> (try split) <;> omega); unfold Bs; omega)
 exact ⟨by rw [l1]; exact dI_mul hs1 b1, by rw [l2]; exact dI_mul hs1 b3⟩
def nrm (z : Int) (m : Nat) : Int := if m = 0 then 0 else z % (m : Int)
theorem nrm_dI {z : Int} {m k : Nat} (h : (digs m).length ≤ k) : dI (nrm z m) ≤ k := by
 refine dI_le (m := m) ?_ h
 unfold nrm
 split
 ·omega
 ·have h0 := Int.emod_nonneg z (show (m : Int) ≠ 0 by omega)
  have h1 := Int.emod_lt_of_pos z (show (0 : Int) < m by omega)
  omega
theorem normalP (z : Int) (m : Nat) (hz : dI z ≤ 1000000000) (hm : (digs m).length ≤ 1000000000) (w : World) :
  Calls Tryz.prog 147 #[frV z m] w fun e w' => e = .returned (frV (nrm z m) m) ∧ Below w.heap.size w w' := by
 by_cases h0 : m = 0
 ·subst h0
  exact pnormal_w z 0 0 0 0 false (fun w => fromI false 0 0 rfl w) (fun w => div0I z w) w
 ·unfold nrm
  rw [if_neg h0]
  exact pnormal_w z (m : Int) (z / (m : Int)) (z % (m : Int)) m true (fun w => fromI false m m rfl w) (fun w => divI z m (by omega) hz (by rw [dI_nat]; exact hm) w) w
theorem congP (y z : Int) (m : Nat) (h0 : m ≠ 0) (hy : dI y ≤ 1000000000) (hz : dI z ≤ 1000000000) (hm : (digs m).length ≤ 1000000000) (w : World) :
  Calls Tryz.prog 139 #[intV y, intV z, natV m] w fun e w' => e = .returned (.bool (decide (y % (m : Int) = z % (m : Int)))) ∧ Below w.heap.size w w' := by
 have H1 := fun w => normalP y m hy hm w
 have H2 := fun w => normalP z m hz hm w
 unfold nrm at H1 H2
 rw [if_neg h0] at H1 H2
 by_cases e : y % (m : Int) = z % (m : Int)
 ·rw [decide_eq_true e]
  rw [e] at H1
  exact pcong_yes y z _ m H1 H2 w
 ·rw [decide_eq_false e]
  exact pcong_no y z _ _ m H1 H2 e w
theorem fitsP (q : Rat) (a : Int) (m k : Nat) (hq : Sz q k) (ha : dI a ≤ k) (hk : k ≤ 1000000) (hm : (digs m).length ≤ 1000000000) (w : World) :
  Calls Tryz.prog 62 #[fracV q, intV a, natV m] w fun e w' => e = .returned (.bool (fitsB q a m)) ∧ Below w.heap.size w w' := by
 rcases Nat.eq_zero_or_pos m with rfl | hp
 ·rw [show fitsB q a 0 = false from by unfold fitsB; simp]
  exact pfits_zero q.num a (fe q) zero_o w
 ·rw [show fitsB q a m = decide (q.num % (m : Int) = a * (q.den : Int) % (m : Int)) from by
   unfold fitsB
   exact decide_eq_decide.2 ⟨fun h => h.2, fun h => ⟨by omega, h⟩⟩]
  have hd : dI (q.den : Int) ≤ k := by rw [dI_nat]; exact hq.d
  have hn := hq.n
  exact pfits_pos q.num a (q.den : Int) (a * (q.den : Int)) (fe q) m q.den _ zero_o (fun w => numF q w) (fun w => denF q w) (fun w => fromI false q.den _ rfl w) (fun w => mulI a _ (by omega) (by omega) w)
   (fun w => congP q.num _ m (by omega) (by omega) (Nat.le_trans (dI_mul ha hd) (by omega)) hm w) hp w
theorem cmpI_pos {a b : Nat} : decide (0 < cmpI a b) = decide (b < a) := by
 with_unfolding_all unfold cmpI
 split
 ·rw [decide_eq_false (by omega), decide_eq_false (by omega)]
 ·split
  ·rw [decide_eq_false (by omega), decide_eq_false (by omega)]
  ·rw [decide_eq_true (by omega), decide_eq_true (by omega)]
theorem cmpI_negD {a b : Nat} : decide (cmpI a b < 0) = decide (a < b) := by
 with_unfolding_all unfold cmpI
 split
 ·rw [decide_eq_true (by omega), decide_eq_true (by omega)]
 ·split
  ·rw [decide_eq_false (by omega), decide_eq_false (by omega)]
  ·rw [decide_eq_false (by omega), decide_eq_false (by omega)]
theorem sq_le {a b : Nat} (h : a ≤ b) : a * a ≤ b * b := Nat.mul_le_mul h h
theorem farP (q : Rat) (m k : Nat) (hq : Sz q k) (hk : k ≤ 1000000) (w : World) :
  Calls Tryz.prog 64 #[fracV q, natV m] w fun e w' => e = .returned (.bool (farB q m)) ∧ Below w.heap.size w w' := by
 have hn := hq.n
 have hd := hq.d
 have hsq : ∀ g : Nat, (digs g).length ≤ k → (digs (g * g)).length ≤ k + k := fun g hg => by
  have := dI_mul (x := (g : Int)) (y := (g : Int)) (k := k) (m := k) (by rw [dI_nat]; exact hg) (by rw [dI_nat]; exact hg)
  rw [← Int.natCast_mul, dI_nat] at this; exact this
 by_cases h : q.den < q.num.natAbs
 ·have h2 := sq_le (Nat.le_of_lt h)
  refine pfar_num q.num _ _ (fe q) q.den q.num.natAbs _ _ m (farB q m) (fun w => denF q w) (fun w => numF q w) (fun w => absI _ w) (fun w => cmp_any _ _ w) (fun w => mul_any _ _ (Nat.le_trans hn (by omega)) (Nat.le_trans hn (by omega)) w) (fun w => add_any _ _ (Nat.le_trans (hsq _ hn) (by omega)) (Nat.le_trans (hsq _ hn) (by omega)) w) (fun w => cmp_any _ _ w) ?_ ?_ w
  ·rw [cmpI_pos]; exact decide_eq_true h
  ·rw [cmpI_negD]; unfold farB; exact decide_eq_decide.2 ⟨fun g => ⟨by omega, by omega⟩, fun g => by omega⟩
 ·have h2 := sq_le (Nat.le_of_not_lt h)
  refine pfar_den q.num _ _ (fe q) q.den q.num.natAbs _ _ m (farB q m) (fun w => denF q w) (fun w => numF q w) (fun w => absI _ w) (fun w => cmp_any _ _ w) (fun w => mul_any _ _ (by omega) (by omega) w) (fun w => add_any _ _ (Nat.le_trans (hsq _ hd) (by omega)) (Nat.le_trans (hsq _ hd) (by omega)) w) (fun w => cmp_any _ _ w) ?_ ?_ w
  ·rw [cmpI_pos]; exact decide_eq_false h
  ·rw [cmpI_negD]; unfold farB; exact decide_eq_decide.2 ⟨fun g => ⟨by omega, by omega⟩, fun g => by omega⟩
theorem two_o (w : World) : Calls Tryz.prog 17 #[.int .u64 2] w fun e w' => e = .returned (natV 2) ∧ Below w.heap.size w w' := of_val 2 2 rfl (by unfold Bs; omega) w
theorem sqrtN (n : Nat) (hn : (digs n).length ≤ 1000000000) (w : World) : Calls Tryz.prog 261 #[natV n] w fun e w' => e = .returned (natV (isq n)) ∧ Below w.heap.size w w' := by
 rcases Nat.eq_zero_or_pos n with rfl | h
 ·exact sqrt_zero w
 ·exact sqrt_pos n h hn w
theorem greatP (m : Nat) (hm : (digs m).length ≤ 1000000) (w : World) : Calls Tryz.prog 237 #[natV m] w fun e w' => e = .returned (natV (recK m)) ∧ Below w.heap.size w w' := by
 have hl : ∀ n, n ≤ m → (digs n).length ≤ 1000000 := fun n h => Nat.le_trans (digs_mono h) hm
 rcases Nat.eq_zero_or_pos m with rfl | h
 ·exact pgreat_w 0 0 0 0 (recK 0) false true one_o (fun w => sub_lt 0 1 (by omega) w) two_o (fun w => div_pos 0 2 (by omega) (by have := hl 0 (by omega); omega) w) (fun w => sqrtN 0 (by have := hl 0 (by omega); omega) w) w
 ·unfold recK
  exact pgreat_w m (m - 1) ((m - 1) / 2) ((m - 1) % 2) _ true true one_o (fun w => sub_ge m 1 h (by omega) w) two_o (fun w => div_pos (m - 1) 2 (by omega) (by have := hl (m - 1) (by omega); omega) w) (fun w => sqrtN _ (by have := hl ((m - 1) / 2) (by omega); omega) w) w
def candV (a : Int) (m : Nat) : Value := match candO a m with
 | none => .tuple #[.agg #[.int .u64 0, .string ⟨#[]⟩, .bool false, .int .u64 0, .string ⟨#[]⟩], .bool false]
 | some p => .tuple #[fracV (mkRat p.1 p.2), .bool true]
theorem candP (a : Int) (m : Nat) (ha : dI a ≤ 1000000) (hm : (digs m).length ≤ 10000) (w : World) :
  Calls Tryz.prog 206 #[intV a, natV m] w fun e w' => e = .returned (candV a m) ∧ Below w.heap.size w w' := by
 refine pcand_w a (m : Int) (nrm a m) 0 1 m (recK m) (candV a m) hm (fun w => greatP m (by omega) w) (fun w => fromI false m m rfl w) (fun w => normalP a m (by omega) (by omega) w) (fun w => ofI 0 (by decide) (by decide) w) (fun w => ofI 1 (by decide) (by decide) w) (CEu.start a m) rfl (fun h => ?_) (fun z d h => ?_) w
 ·unfold candV; rw [h]
 ·unfold candV; rw [h]
theorem back_sz (a : Int) (m k : Nat) (hk : 0 < k) (hm : (digs m).length ≤ k) : Sz (backQ a m) k := by
 have h1 : (digs 1).length ≤ k := Nat.le_trans (digs_length_iff.2 (show 1 < Bs ^ 1 by rw [Nat.pow_one]; unfold Bs; decide)) hk
 have hz : Sz (0 : Rat) k := ⟨Nat.le_trans (digs_mono (show (0 : Rat).num.natAbs ≤ 1 by decide)) h1, h1⟩
 cases hb : backB a m with
 | false => rw [backB_false hb]; exact hz
 | true =>
  obtain ⟨h2, h3⟩ := backB_true hb
  have h4 := farB_iff.1 h3
  have e1 := h4.n
  have e2 := h4.d
  have lem : ∀ x : Nat, 2 * (x * x) < m → x ≤ m := fun x hx => by
   rcases Nat.eq_zero_or_pos x with rfl | hp
   ·omega
   ·have := Nat.le_mul_of_pos_left x hp; omega
  exact ⟨Nat.le_trans (digs_mono (lem _ e1)) hm, Nat.le_trans (digs_mono (lem _ e2)) hm⟩
theorem backP (a : Int) (m : Nat) (ha : dI a ≤ 1000000) (hm : (digs m).length ≤ 10000) (w : World) :
  Calls Tryz.prog 138 #[intV a, natV m] w fun e w' => e = .returned (.tuple #[fracV (backQ a m), .bool (backB a m)]) ∧ Below w.heap.size w w' := by
 have hc := fun w => candP a m ha hm w
 unfold candV at hc
 cases e : candO a m with
 | none =>
  rw [e] at hc
  have hb : backO a m = none := by unfold backO; rw [e]
  rw [show backQ a m = 0 from by unfold backQ; rw [hb]; rfl, show backB a m = false from by unfold backB; rw [hb]; rfl, frV_q0]
  exact pback_none a m hc w
 | some p =>
  obtain ⟨n, d⟩ := p
  rw [e] at hc
  have hp : 0 < m := by
   rcases Nat.eq_zero_or_pos m with rfl | h
   ·rw [candO_zero] at e; cases e
   ·exact h
  have hs := eucGo_sound hp _ _ _ _ _ _ n d (Euc.start hp a) e
  obtain ⟨s1, s2, s3, s4⟩ := hs
  have hK := recK_lt hp
  have hsz : Sz (mkRat n d) 1000000 := by
   have g1 := mk_num_le (n := n) (d := d) (by omega)
   have g2 := mk_den_le (n := n) (d := d) (by omega)
   exact ⟨Nat.le_trans (digs_mono (show _ ≤ m by omega)) (by omega), Nat.le_trans (digs_mono (show _ ≤ m by omega)) (by omega)⟩
  have hf := fun w => fitsP (mkRat n d) a m 1000000 hsz ha (by omega) (by omega) w
  have hb : backO a m = if fitsB (mkRat n d) a m = true then some (mkRat n d) else none := by unfold backO; rw [e]
  cases hfb : fitsB (mkRat n d) a m with
  | false =>
   rw [hfb] at hf
   rw [hfb, if_neg (by simp)] at hb
   rw [show backQ a m = 0 from by unfold backQ; rw [hb]; rfl, show backB a m = false from by unfold backB; rw [hb]; rfl, frV_q0]
   exact pback_no a _ m _ hc hf w
  | true =>
   rw [hfb] at hf
   rw [hfb, if_pos rfl] at hb
   rw [show backQ a m = mkRat n d from by unfold backQ; rw [hb]; rfl, show backB a m = true from by unfold backB; rw [hb]; rfl]
   exact pback_yes a _ m _ hc hf w
/-- What join answers. -/
def joinV (p q : Int × Nat) : Value := if joinB p q = true then .tuple #[frV (crtR p q) (crtM p q), .bool true] else .tuple #[.agg #[.int .u64 0, .string ⟨#[]⟩, .bool false, .int .u64 0, .string ⟨#[]⟩], .bool false]
theorem joinP (p q : Int × Nat) (hp : 0 < p.2) (hq : 0 < q.2) (k : Nat) (hk : k ≤ 900) (s1 : dI p.1 ≤ k) (s2 : (digs p.2).length ≤ k) (s3 : dI q.1 ≤ k) (s4 : (digs q.2).length ≤ k) (w : World) :
  Calls Tryz.prog 70 #[frV p.1 p.2, frV q.1 q.2] w fun e w' => e = .returned (joinV p q) ∧ Below w.heap.size w w' := by
 obtain ⟨a, m⟩ := p
 obtain ⟨b, n⟩ := q
 simp only at hp hq s1 s2 s3 s4 ⊢
 have hg := (xgcd_bez _ (m : Int) (n : Int) (Nat.le_refl _)).2
 rw [Int.natAbs_natCast, Int.natAbs_natCast] at hg
 have hG := fun w => gcdI (m : Int) (n : Int) (by rw [dI_nat]; omega) (by rw [dI_nat]; omega) w
 have hx := (xgcd_sz (a := (m : Int)) (b := (n : Int)) (k := k) (by rw [dI_nat]; exact s2) (by rw [dI_nat]; exact s4)).2
 rw [hg] at hG
 have gpos := Nat.gcd_pos_of_pos_right m hq
 have gle := Nat.le_of_dvd hq (Nat.gcd_dvd_right m n)
 have gsz : (digs (Nat.gcd m n)).length ≤ k := Nat.le_trans (digs_mono gle) s4
 have HC := fun w => congP a b (Nat.gcd m n) (by omega) (by omega) (by omega) (by omega) w
 have HA := fun w => absI ((Nat.gcd m n : Nat) : Int) w
 rw [Int.natAbs_natCast] at HA
 cases hj : joinB (a, m) (b, n) with
 | false =>
  rw [show joinV (a, m) (b, n) = .tuple #[.agg #[.int .u64 0, .string ⟨#[]⟩, .bool false, .int .u64 0, .string ⟨#[]⟩], .bool false] from by unfold joinV; rw [hj, if_neg (by simp)]]
  rw [show decide (a % ((Nat.gcd m n : Nat) : Int) = b % ((Nat.gcd m n : Nat) : Int)) = false from hj] at HC
  exact pjoin_no a b (m : Int) (n : Int) _ _ _ m n _ (fun w => fromI false m _ rfl w) (fun w => fromI false n _ rfl w) hG HA HC w
 | true =>
  rw [show joinV (a, m) (b, n) = .tuple #[frV (crtR (a, m) (b, n)) (crtM (a, m) (b, n)), .bool true] from by unfold joinV; rw [hj, if_pos rfl]]
  rw [show decide (a % ((Nat.gcd m n : Nat) : Int) = b % ((Nat.gcd m n : Nat) : Int)) = true from hj] at HC
  have dd := dI_sub (x := b) (y := a) s3 s1
  have dg : dI ((Nat.gcd m n : Nat) : Int) ≤ k := by rw [dI_nat]; exact gsz
  have dm : dI (m : Int) ≤ k := by rw [dI_nat]; exact s2
  have dn : dI (n : Int) ≤ k := by rw [dI_nat]; exact s4
  have dq := dI_div (y := ((Nat.gcd m n : Nat) : Int)) dd
  have dh := dI_mul dq hx
  have dt := dI_div (y := ((Nat.gcd m n : Nat) : Int)) dn
  have tpos : 0 < ((n : Int) / ((Nat.gcd m n : Nat) : Int)).natAbs := by
   have := turn_pos (m := m) hq
   rw [← Int.natCast_ediv, Int.natAbs_natCast]; exact this
  have tval : ((((n : Int) / ((Nat.gcd m n : Nat) : Int)).natAbs : Nat) : Int) = (n : Int) / ((Nat.gcd m n : Nat) : Int) := by rw [← Int.natCast_ediv, Int.natAbs_natCast]
  have HN := fun w => normalP ((b - a) / ((Nat.gcd m n : Nat) : Int) * (xgcd m n).2.1) ((n : Int) / ((Nat.gcd m n : Nat) : Int)).natAbs (Nat.le_trans dh (by omega)) (Nat.le_trans dt (by omega)) w
  have enr : nrm ((b - a) / ((Nat.gcd m n : Nat) : Int) * (xgcd m n).2.1) ((n : Int) / ((Nat.gcd m n : Nat) : Int)).natAbs = crtT (a, m) (b, n) := by
   unfold nrm crtT
   rw [if_neg (by omega), tval]
  have dT := nrm_dI (z := (b - a) / ((Nat.gcd m n : Nat) : Int) * (xgcd m n).2.1) dt
  rw [enr] at HN dT
  have ds := dI_mul dT dm
  exact pjoin_yes a b (m : Int) (n : Int) _ _ _ _ _ _ _ _ _ 0 _ _ (crtR (a, m) (b, n)) _ true true m n _ _ (crtM (a, m) (b, n)) (fun w => fromI false m _ rfl w) (fun w => fromI false n _ rfl w) hG HA HC
   (fun w => subI b a (by omega) (by omega) w) (fun w => divI _ _ (by omega) (by omega) (by omega) w) (fun w => divI _ _ (by omega) (by omega) (by omega) w) (fun w => mulI _ _ (by omega) (by omega) w) (fun w => absI _ w) HN (fun w => mulI _ _ (by omega) (by omega) w)
   (fun w => addI _ _ (by omega) (by omega) w) (fun w => mulI _ _ (by omega) (by omega) w) (fun w => absI _ w) w
end Go.Proofs.YtaimebjkidegiaaGreatDoor
namespace Go.Proofs.YtaimebjkidegiaaGreatDoor
open Go.RowKit
attribute [local irreducible] lo hs sm s64 c64 d64 b64 mh ml pd pc qd qc val hiB str cmpI srD lz nb isq zl zh zs fe
theorem GL.join {w x y : World} {L M : List (Nat × List Value)} (h : GL w x L) (g : GL x y M) : GL w y (M ++ L) := by
 have h2 := h.call g.bl
 refine ⟨h2.bl, fun p hp => ?_, ?_⟩
 ·rcases List.mem_append.1 hp with hp | hp
  ·exact ⟨Nat.le_trans h.bl.size (g.all p hp).1, (g.all p hp).2⟩
  ·exact h2.all p hp
 ·rw [List.map_append, List.nodup_append]
  refine ⟨g.nd, h.nd, fun a ha b hb => ?_⟩
  obtain ⟨p, hp, rfl⟩ := List.mem_map.1 ha
  obtain ⟨q, hq, rfl⟩ := List.mem_map.1 hb
  have h3 := (g.all p hp).1
  have h4 := (h.all q hq).2.lt
  omega
end Go.Proofs.YtaimebjkidegiaaGreatDoor
namespace Go.Proofs.YtaimebjkidegiaaGreatDoor
open Go.RowKit
attribute [local irreducible] lo hs sm s64 c64 d64 b64 mh ml pd pc qd qc val hiB str cmpI srD lz nb isq zl zh zs
structure RS (w : World) (g : Nat) (qs : List (Int × Nat)) : Prop where
 cell : ∀ i (h : i < qs.length), w.cell? ⟨g, i * 5, none⟩ = some (.int .u64 ((zl qs[i].1 : Nat) : Int)) ∧ w.cell? ⟨g, i * 5 + 1, none⟩ = some (.string (zh qs[i].1)) ∧ w.cell? ⟨g, i * 5 + 2, none⟩ = some (.bool (zs qs[i].1)) ∧
  w.cell? ⟨g, i * 5 + 3, none⟩ = some (.int .u64 ((lo qs[i].2 : Nat) : Int)) ∧ w.cell? ⟨g, i * 5 + 4, none⟩ = some (.string (hs qs[i].2))
 lt : g < w.heap.size
theorem RS.below {w w' : World} {g : Nat} {qs : List (Int × Nat)} (h : RS w g qs) (hb : Below w.heap.size w w') : RS w' g qs := by
 have hs := hb.size
 have hl := h.lt
 refine ⟨fun i hi => ?_, by omega⟩
 obtain ⟨h0, h1, h2, h3, h4⟩ := h.cell i hi
 exact ⟨(hb.cell (p := ⟨g, i * 5, none⟩) hl).trans h0, (hb.cell (p := ⟨g, i * 5 + 1, none⟩) hl).trans h1, (hb.cell (p := ⟨g, i * 5 + 2, none⟩) hl).trans h2, (hb.cell (p := ⟨g, i * 5 + 3, none⟩) hl).trans h3, (hb.cell (p := ⟨g, i * 5 + 4, none⟩) hl).trans h4⟩
def SlR (w : World) (v : Value) (qs : List (Int × Nat)) : Prop := (∃ ao c, v = .slice ao 0 c ∧ qs = []) ∨ ∃ g c, v = .slice (some ⟨g, 0, none⟩) qs.length c ∧ RS w g qs
theorem SlR.below {w w' : World} {v : Value} {qs : List (Int × Nat)} (h : SlR w v qs) (hb : Below w.heap.size w w') : SlR w' v qs := by
 rcases h with h | ⟨g, c, h1, h2⟩
 ·exact .inl h
 ·exact .inr ⟨g, c, h1, h2.below hb⟩
theorem SlR.keeps (v : Value) (qs : List (Int × Nat)) : Keeps (fun w => SlR w v qs) := fun _ _ hb h => h.below hb
def rsC (q : (Int × Nat)) : List Value := [.int .u64 ((zl q.1 : Nat) : Int), .string (zh q.1), .bool (zs q.1), .int .u64 ((lo q.2 : Nat) : Int), .string (hs q.2)]
def rsCs (l : List (Int × Nat)) : List Value := l.flatMap rsC
theorem rsCs_nil : rsCs [] = [] := rfl
theorem rsC_length (q : (Int × Nat)) : (rsC q).length = 5 := rfl
theorem rsCs_length : ∀ l : List (Int × Nat), (rsCs l).length = l.length * 5
 | [] => rfl
 | q :: l => by unfold rsCs; rw [List.flatMap_cons, List.length_append, rsC_length, List.length_cons]; have := rsCs_length l; unfold rsCs at this; omega
theorem rsCs_append (l m : List (Int × Nat)) : rsCs (l ++ m) = rsCs l ++ rsCs m := by unfold rsCs; rw [List.flatMap_append]
theorem rsCs_snoc (l : List (Int × Nat)) (q : (Int × Nat)) : rsCs (l ++ [q]) = rsCs l ++ rsC q := by rw [rsCs_append]; simp [rsCs]
theorem rsCs_get : ∀ (l : List (Int × Nat)) (i j : Nat) (h : i < l.length), j < 5 → (rsCs l)[i * 5 + j]? = (rsC l[i])[j]?
 | q :: l, 0, j, h, hj => by
  unfold rsCs
  rw [List.flatMap_cons, Nat.zero_mul, Nat.zero_add, List.getElem?_append_left (by rw [rsC_length]; exact hj)]; rfl
 | q :: l, i + 1, j, h, hj => by
  have hi : i < l.length := by simpa using h
  have ih := rsCs_get l i j hi hj
  unfold rsCs at ih ⊢
  rw [List.flatMap_cons, List.getElem?_append_right (by rw [rsC_length]; omega), rsC_length, show (i + 1) * 5 + j - 5 = i * 5 + j by omega, ih]
  rfl
theorem rsC_one : ∀ (q : (Int × Nat)), ∀ u ∈ rsC q, u.oneCell' = true := by
 intro q u hu
 unfold rsC at hu
 simp only [List.mem_cons, List.not_mem_nil, or_false] at hu
 rcases hu with rfl | rfl | rfl | rfl | rfl <;> rfl
theorem rsCs_one (l : List (Int × Nat)) : ∀ u ∈ rsCs l, u.oneCell' = true := by
 intro u hu
 obtain ⟨q, -, hq⟩ := List.mem_flatMap.1 hu
 exact rsC_one q u hq
theorem add0P (g j : Nat) : (⟨g, 0, none⟩ : Addr).add j = ⟨g, j, none⟩ := by
 unfold Addr.add
 by_cases h : j = 0
 ·subst h; simp
 ·simp [h]
theorem ownR_cells {w : World} {B n : Nat} {v : Value} {l : List (Int × Nat)} {g : Nat} {c : Nat} (h : w.ownsRow B 55 5 v n (rsCs l)) (hv : v = .slice (some ⟨g, 0, none⟩) n c) (j : Nat) (u : Value) (hu : (rsCs l)[j]? = some u) : w.cell? ⟨g, j, none⟩ = some u := by
 have := World.ownsRow.cells h (g := g) (by rw [hv]; rfl) j u hu
 rw [add0P] at this
 exact this
theorem ownR_rs {w : World} {B n g c : Nat} {v : Value} {l : List (Int × Nat)} (h : w.ownsRow B 55 5 v n (rsCs l)) (hv : v = .slice (some ⟨g, 0, none⟩) n c) : RS w g l := by
 have hc := ownR_cells h hv
 refine ⟨fun i hi => ?_, (h.lt g (by rw [hv]; rfl)).2⟩
 have e := fun j hj => rsCs_get l i j hi hj
 exact ⟨hc _ _ (by have := e 0 (by omega); rw [Nat.add_zero] at this; exact this), hc _ _ (e 1 (by omega)), hc _ _ (e 2 (by omega)), hc _ _ (e 3 (by omega)), hc _ _ (e 4 (by omega))⟩
theorem ownR_slr {w : World} {B n : Nat} {v : Value} {l : List (Int × Nat)} (h : w.ownsRow B 55 5 v n (rsCs l)) (hn : n = l.length) : SlR w v l := by
 rcases h.2 with ⟨h1, h2⟩ | ⟨g, cap, cur, h1, h2, h3, h4, h5, h6, h7⟩
 ·exact .inl ⟨none, 0, h1, List.eq_nil_of_length_eq_zero (by omega)⟩
 ·exact .inr ⟨g, cap, by rw [h1, hn], ownR_rs h h1⟩
theorem ownR_below {w w' : World} {B n : Nat} {v : Value} {l : List (Int × Nat)} (h : w.ownsRow B 55 5 v n (rsCs l)) (hb : Below w.heap.size w w') : w'.ownsRow B 55 5 v n (rsCs l) := by
 refine ⟨h.1, ?_⟩
 rcases h.2 with h1 | ⟨g, cap, cur, h1, h2, h3, h4⟩
 ·exact .inl h1
 ·refine .inr ⟨g, cap, cur, h1, h2, ?_, h4⟩
  have hg := (h.lt g (by rw [h1]; rfl)).2
  rw [hb.block g hg]; exact h3
theorem GL.belowR {w W W' : World} {L : List (Nat × List Value)} {B : Nat} (h : GL w W L) (hb : Below B W W') (hB : ∀ p ∈ L, p.1 < B) (hw : w.heap.size ≤ B) : GL w W' L := by
 refine ⟨h.bl.trans (hb.mono hw), fun p hp => ⟨(h.all p hp).1, ?_⟩, h.nd⟩
 have hd := (h.all p hp).2
 have hk := hB p hp
 have hbl := hb.block p.1 hk
 refine ⟨fun i hi => (World.cell?_of_block (a := ⟨p.1, i, none⟩) hbl).trans (hd.cell i hi), fun i => ?_, Nat.lt_of_lt_of_le hd.lt hb.size, ?_⟩
 ·have := hd.frz i
  unfold World.frozen? at this ⊢
  simp only at this ⊢
  rw [hbl]; exact this
 ·obtain ⟨arr, t, h1, h2⟩ := hd.row
  exact ⟨arr, t, by rw [hbl]; exact h1, h2⟩
theorem slice_fromR (w : World) (g n cap k : Nat) (h : k < n) (hc : n ≤ cap) :
  (Instr.slice 50 (.slice (some ⟨g, 0, none⟩) n cap) (some (.int .i64 (k : Int))) none none).run Tryz.prog w = .ok (.slice (some ((⟨g, 0, none⟩ : Addr).add (k * 5))) (n - k) (cap - k)) w := by
 have h1 : (0 : Int) ≤ (k : Int) := by omega
 have h2 : (k : Int) ≤ (n : Int) := by omega
 have hh : ¬ cap = k := by omega
 simp [Instr.slice, Instr.sliceBounds, run_underlying Tryz.underlying50, run_sliceBound, h1, h2, hh, go_sem] <;> rfl
theorem slice_toR (w : World) (g n cap k : Nat) (h : k < n) (hc : n ≤ cap) :
  (Instr.slice 50 (.slice (some ⟨g, 0, none⟩) n cap) none (some (.int .i64 (k : Int))) none).run Tryz.prog w = .ok (.slice (some ⟨g, 0, none⟩) k cap) w := by
 have h1 : (0 : Int) ≤ (k : Int) := by omega
 have h2 : (k : Int) ≤ (cap : Int) := by omega
 simp [Instr.slice, Instr.sliceBounds, run_underlying Tryz.underlying50, run_sliceBound, h1, h2, go_sem] <;> rfl
theorem addkP (g o j : Nat) : (⟨g, o, none⟩ : Addr).add j = ⟨g, o + j, none⟩ := by
 unfold Addr.add
 by_cases h : j = 0
 ·subst h; simp
 ·simp [h]
theorem ownR_drop {w : World} {B n g c k : Nat} {l : List (Int × Nat)} (h : w.ownsRow B 55 5 (.slice (some ⟨g, 0, none⟩) n c) n (rsCs l)) (hk : k ≤ l.length) :
  ∀ (j : Nat) (u : Value), (rsCs (l.drop k))[j]? = some u → w.cell? (((⟨g, 0, none⟩ : Addr).add (k * 5)).add j) = some u := by
 intro j u hu
 rw [addkP, addkP, Nat.zero_add]
 refine ownR_cells h rfl _ u ?_
 conv => lhs; rw [← List.take_append_drop k l, rsCs_append]
 rw [List.getElem?_append_right (by rw [rsCs_length, List.length_take]; omega), rsCs_length, List.length_take, show k * 5 + j - min k l.length * 5 = j by rw [Nat.min_eq_left hk]; omega]
 exact hu
theorem ownR_take {w : World} {B n g c k : Nat} {l : List (Int × Nat)} (h : w.ownsRow B 55 5 (.slice (some ⟨g, 0, none⟩) n c) n (rsCs l)) :
  ∀ (j : Nat) (u : Value), (rsCs (l.take k))[j]? = some u → w.cell? ((⟨g, 0, none⟩ : Addr).add j) = some u := by
 intro j u hu
 rw [addkP, Nat.zero_add]
 refine ownR_cells h rfl _ u ?_
 have hj : j < (rsCs (l.take k)).length := (List.getElem?_eq_some_iff.1 hu).1
 conv => lhs; rw [← List.take_append_drop k l, rsCs_append]
 rw [List.getElem?_append_left hj]
 exact hu
theorem ownR_form {w : World} {B n m : Nat} {v : Value} {xs : List Value} (h : w.ownsRow B 55 5 v n xs) (hn : m = n) (h0 : 0 < m) : ∃ g c, v = .slice (some ⟨g, 0, none⟩) m c ∧ B ≤ g ∧ g < w.heap.size ∧ m ≤ c := by
 subst hn
 have hlt := h.lt
 rcases h.2 with ⟨h1, h2⟩ | ⟨g, cap, cur, h1, h2, h3, h4, h5⟩
 ·omega
 ·exact ⟨g, cap, h1, h2, (hlt g (by rw [h1]; rfl)).2, h4⟩
theorem slice_fromRK (w : World) (g n cap k : Nat) (h : k < n) (hc : n ≤ cap) :
  (Instr.slice 50 (.slice (some ⟨g, 0, none⟩) n cap) (some (.int .i64 (k : Int))) none none).run Tryz.prog w = .ok (.slice (some ⟨g, k * 5, none⟩) (n - k) (cap - k)) w := by
 rw [slice_fromR w g n cap k h hc, addkP, Nat.zero_add]
theorem ownR_dropK {w : World} {B n g c k : Nat} {l : List (Int × Nat)} (h : w.ownsRow B 55 5 (.slice (some ⟨g, 0, none⟩) n c) n (rsCs l)) (hk : k ≤ l.length) :
  ∀ (j : Nat) (u : Value), (rsCs (l.drop k))[j]? = some u → w.cell? ((⟨g, k * 5, none⟩ : Addr).add j) = some u := by
 have e := ownR_drop h hk
 rw [addkP, Nat.zero_add] at e
 exact e
theorem infoS : (Tryz.prog.info? 55).map (fun i => (i.zero, i.size, i.bytes)) = some (some (.agg #[.int .u64 0, .string ⟨#[]⟩, .bool false, .int .u64 0, .string ⟨#[]⟩]), 5, 56) := by kernel_rfl
theorem hd_newsP {w : World} {k : Nat} {c : List Value} (h : Hd w k c) : ∀ (j : Nat) (u : Value), c[j]? = some u → w.cell? ((⟨k, 0, none⟩ : Addr).add j) = some u := by
 intro j u hu
 obtain ⟨hj, he⟩ := List.getElem?_eq_some_iff.1 hu
 rw [add0P, h.cell j hj, he]
theorem slr_nil (w : World) : SlR w (.slice none 0 0) [] := .inl ⟨none, 0, rfl, rfl⟩
theorem slr_form {w : World} {v : Value} {l : List (Int × Nat)} (h : SlR w v l) : ∃ ao n c, v = .slice ao n c ∧ n = l.length := by
 rcases h with ⟨ao, c, h1, rfl⟩ | ⟨g, c, h1, h2⟩
 ·exact ⟨ao, 0, c, h1, rfl⟩
 ·exact ⟨_, _, c, h1, rfl⟩
theorem slr_parts {w : World} {ao : Option Addr} {n c : Nat} {l : List (Int × Nat)} (h : SlR w (.slice ao n c) l) : n = l.length ∧ (0 < n → ∃ g, ao = some ⟨g, 0, none⟩ ∧ RS w g l) := by
 rcases h with ⟨a2, c2, h1, rfl⟩ | ⟨g, c2, h1, h2⟩
 ·simp only [Value.slice.injEq] at h1
  obtain ⟨-, rfl, -⟩ := h1
  exact ⟨rfl, fun h => by omega⟩
 ·simp only [Value.slice.injEq] at h1
  obtain ⟨rfl, rfl, -⟩ := h1
  exact ⟨rfl, fun _ => ⟨g, rfl, h2⟩⟩
theorem slr_two {w : World} {g : Nat} {p q : Int × Nat} (h : Hd w g [.int .u64 ((zl p.1 : Nat) : Int), .string (zh p.1), .bool (zs p.1), .int .u64 ((lo p.2 : Nat) : Int), .string (hs p.2), .int .u64 ((zl q.1 : Nat) : Int), .string (zh q.1), .bool (zs q.1), .int .u64 ((lo q.2 : Nat) : Int), .string (hs q.2)]) : SlR w (.slice (some ⟨g, 0, none⟩) 2 2) [p, q] :=
 .inr ⟨g, 2, rfl, ⟨fun i hi => by
  rcases (show i = 0 ∨ i = 1 by simp at hi; omega) with rfl | rfl
  ·exact ⟨h.cell 0 (by simp), h.cell 1 (by simp), h.cell 2 (by simp), h.cell 3 (by simp), h.cell 4 (by simp)⟩
  ·exact ⟨h.cell 5 (by simp), h.cell 6 (by simp), h.cell 7 (by simp), h.cell 8 (by simp), h.cell 9 (by simp)⟩, h.lt⟩⟩
end Go.Proofs.YtaimebjkidegiaaGreatDoor
namespace Go.Proofs.YtaimebjkidegiaaGreatDoor
open Go.RowKit
attribute [local irreducible] lo hs sm s64 c64 d64 b64 mh ml pd pc qd qc val hiB str cmpI srD lz nb isq zl zh zs fe
set_option maxHeartbeats 4000000 in
set_option maxRecDepth 100000 in
theorem pfrac_w (i j c x : Int) (e : Nat) (HF : ∀ w, Calls Tryz.prog 47 #[.int .i64 i, .int .i64 j] w fun xe w' => xe = .returned (.tuple #[frV x e, .int .i64 c]) ∧ Below w.heap.size w w') (w : World) :
  Calls Tryz.prog 63 #[.int .i64 i, .int .i64 j] w fun xe w' => xe = .returned (frV x e) ∧ Below w.heap.size w w' := by
 have hL0 : GL w w [] := GL.start w
 replace HF := Lib.hid HF
 replace hL0 := (hL0.new rfl [.int .u64 0, .string ⟨#[]⟩, .bool false, .int .u64 0, .string ⟨#[]⟩] 34)
 generalize hweq : (w.alloc (.cells #[.int .u64 0, .string ⟨#[]⟩, .bool false, .int .u64 0, .string ⟨#[]⟩] 34)) = x1 at hL0
 go_enter Tryz.func63, Tryz.ntmps63
 go_wp2_with fail
 with_reducible refine Calls.mono (HF.out _) ?_
 rintro e x2 ⟨rfl, hb⟩
 replace hL0 := hL0.call hb
 clear hb hweq
 replace hL0 := (hL0.new rfl [.int .u64 ((zl x : Nat) : Int), .string (zh x), .bool (zs x), .int .u64 ((lo e : Nat) : Int), .string (hs e)] 34)
 generalize hweq : (x2.alloc (.cells #[.int .u64 ((zl x : Nat) : Int), .string (zh x), .bool (zs x), .int .u64 ((lo e : Nat) : Int), .string (hs e)] 34)) = x3 at hL0
 have hA := hL0.fc
 simp only [fcG, cellsF, neK, and_true, ne_eq, Nat.zero_add, Nat.reduceAdd] at hA
 have hP := hL0.put 1 (w.heap.size) _ rfl [.int .u64 ((zl x : Nat) : Int), .string (zh x), .bool (zs x), .int .u64 ((lo e : Nat) : Int), .string (hs e)] rfl
 simp only [setAll, List.set_cons_zero, List.set_cons_succ] at hP
 generalize hput1 : (((((x3.setCell ⟨w.heap.size, 0, none⟩ (.int .u64 ((zl x : Nat) : Int))).setCell ⟨w.heap.size, 1, none⟩ (.string (zh x))).setCell ⟨w.heap.size, 2, none⟩ (.bool (zs x))).setCell ⟨w.heap.size, 3, none⟩ (.int .u64 ((lo e : Nat) : Int))).setCell ⟨w.heap.size, 4, none⟩ (.string (hs e))) = x4 at hP
 have hB1 := hP.fc
 simp only [fcG, cellsF, neK, and_true, ne_eq, Nat.zero_add, Nat.reduceAdd] at hB1
 replace hL0 := hP
 go_wp2_with fail
 exact bodyPost_ret (v := .agg #[.int .u64 ((zl x : Nat) : Int), .string (zh x), .bool (zs x), .int .u64 ((lo e : Nat) : Int), .string (hs e)]) (by simp [results, Tryz.results63, go_sem, hB1]) rfl ⟨rfl, hL0.bl⟩
set_option maxHeartbeats 4000000 in
set_option maxRecDepth 100000 in
theorem lback_no (a m : Int) (z n : Int) (k e : Nat) (HO : ∀ w, Calls Tryz.prog 23 #[.int .i64 a] w fun xe w' => xe = .returned (intV z) ∧ Below w.heap.size w w') (HN : ∀ w, Calls Tryz.prog 17 #[.int .u64 m] w fun xe w' => xe = .returned (natV k) ∧ Below w.heap.size w w') (HB : ∀ w, Calls Tryz.prog 138 #[intV z, natV k] w fun xe w' => xe = .returned (.tuple #[frV n e, .bool false]) ∧ Below w.heap.size w w') (w : World) :
  Calls Tryz.prog 61 #[.int .i64 a, .int .u64 m] w fun xe w' => xe = .returned (.string (ByteArray.mk #[110, 111, 110, 101])) ∧ Below w.heap.size w w' := by
 have hL0 : GL w w [] := GL.start w
 replace HO := Lib.hid HO
 replace HN := Lib.hid HN
 replace HB := Lib.hid HB
 go_enter Tryz.func61, Tryz.ntmps61
 go_wp2_with fail
 with_reducible refine Calls.mono (HO.out _) ?_
 rintro e x1 ⟨rfl, hb⟩
 replace hL0 := hL0.call hb
 clear hb
 go_wp2_with fail
 with_reducible refine Calls.mono (HN.out _) ?_
 rintro e x2 ⟨rfl, hb⟩
 replace hL0 := hL0.call hb
 clear hb
 go_wp2_with fail
 with_reducible refine Calls.mono (HB.out _) ?_
 rintro e x3 ⟨rfl, hb⟩
 replace hL0 := hL0.call hb
 clear hb
 replace hL0 := (hL0.new rfl [.int .u64 ((zl n : Nat) : Int), .string (zh n), .bool (zs n), .int .u64 ((lo e : Nat) : Int), .string (hs e)] 34)
 generalize hweq : (x3.alloc (.cells #[.int .u64 ((zl n : Nat) : Int), .string (zh n), .bool (zs n), .int .u64 ((lo e : Nat) : Int), .string (hs e)] 34)) = x4 at hL0
 go_wp2_with fail
 exact bodyPost_ret (v := .string (ByteArray.mk #[110, 111, 110, 101])) (by simp [results, Tryz.results61, go_sem]) rfl ⟨rfl, hL0.bl⟩
set_option maxHeartbeats 4000000 in
set_option maxRecDepth 100000 in
theorem lback_yes (a m : Int) (z n : Int) (k e : Nat) (s : ByteArray) (HO : ∀ w, Calls Tryz.prog 23 #[.int .i64 a] w fun xe w' => xe = .returned (intV z) ∧ Below w.heap.size w w') (HN : ∀ w, Calls Tryz.prog 17 #[.int .u64 m] w fun xe w' => xe = .returned (natV k) ∧ Below w.heap.size w w') (HB : ∀ w, Calls Tryz.prog 138 #[intV z, natV k] w fun xe w' => xe = .returned (.tuple #[frV n e, .bool true]) ∧ Below w.heap.size w w') (HT : ∀ w, Tab w → Calls Tryz.prog 137 #[frV n e] w fun xe w' => xe = .returned (.string s) ∧ Below w.heap.size w w') (w : World) (htab : Tab w) :
  Calls Tryz.prog 61 #[.int .i64 a, .int .u64 m] w fun xe w' => xe = .returned (.string s) ∧ Below w.heap.size w w' := by
 have hL0 : GL w w [] := GL.start w
 replace HO := Lib.hid HO
 replace HN := Lib.hid HN
 replace HB := Lib.hid HB
 replace HT := Lib.hid HT
 go_enter Tryz.func61, Tryz.ntmps61
 go_wp2_with fail
 with_reducible refine Calls.mono (HO.out _) ?_
 rintro e x1 ⟨rfl, hb⟩
 replace hL0 := hL0.call hb
 clear hb
 go_wp2_with fail
 with_reducible refine Calls.mono (HN.out _) ?_
 rintro e x2 ⟨rfl, hb⟩
 replace hL0 := hL0.call hb
 clear hb
 go_wp2_with fail
 with_reducible refine Calls.mono (HB.out _) ?_
 rintro e x3 ⟨rfl, hb⟩
 replace hL0 := hL0.call hb
 clear hb
 replace hL0 := (hL0.new rfl [.int .u64 ((zl n : Nat) : Int), .string (zh n), .bool (zs n), .int .u64 ((lo e : Nat) : Int), .string (hs e)] 34)
 generalize hweq : (x3.alloc (.cells #[.int .u64 ((zl n : Nat) : Int), .string (zh n), .bool (zs n), .int .u64 ((lo e : Nat) : Int), .string (hs e)] 34)) = x4 at hL0
 have hN0 := cells_of _ 0 [] rfl (hL0.get _ _ List.mem_cons_self)
 simp only [cellsF, and_true, Nat.zero_add, Nat.reduceAdd] at hN0
 go_wp2_with fail
 clear hN0
 with_reducible refine Calls.mono (HT.out _ (htab.below hL0.bl)) ?_
 rintro e x5 ⟨rfl, hb⟩
 replace hL0 := hL0.call hb
 clear hb hweq
 go_wp2_with fail
 exact bodyPost_ret (v := .string s) (by simp [results, Tryz.results61, go_sem]) rfl ⟨rfl, hL0.bl⟩
set_option maxHeartbeats 16000000 in
set_option maxRecDepth 100000 in
theorem pchin_w (cs : List (Int × Nat)) (ao : Option Addr) (n c : Nat) (P : Nat → Int → Nat → Prop) (R : Value) (hlen : cs.length = n) (hnb : n ≤ 1000000)
  (HO0 : ∀ w, Calls Tryz.prog 17 #[.int .u64 0] w fun xe w' => xe = .returned (natV 0) ∧ Below w.heap.size w w') (HO1 : ∀ w, Calls Tryz.prog 17 #[.int .u64 1] w fun xe w' => xe = .returned (natV 1) ∧ Below w.heap.size w w')
  (hz : ∀ i (h : i < cs.length), (cs[i]'h).2 = 0 → R = .tuple #[.agg #[.int .u64 0, .string ⟨#[]⟩, .bool false, .int .u64 0, .string ⟨#[]⟩], .int .i64 5]) (h0 : (∀ i (h : i < cs.length), (cs[i]'h).2 ≠ 0) → P 0 0 1)
  (hJ : ∀ i z m (h : i < cs.length), P i z m → (∃ z2 m2, P (i + 1) z2 m2 ∧ (∀ w, Calls Tryz.prog 70 #[frV z m, frV (cs[i]'h).1 (cs[i]'h).2] w fun xe w' => xe = .returned (.tuple #[frV z2 m2, .bool true]) ∧ Below w.heap.size w w')) ∨ (R = .tuple #[.agg #[.int .u64 0, .string ⟨#[]⟩, .bool false, .int .u64 0, .string ⟨#[]⟩], .int .i64 6] ∧ (∀ w, Calls Tryz.prog 70 #[frV z m, frV (cs[i]'h).1 (cs[i]'h).2] w fun xe w' => xe = .returned (.tuple #[.agg #[.int .u64 0, .string ⟨#[]⟩, .bool false, .int .u64 0, .string ⟨#[]⟩], .bool false]) ∧ Below w.heap.size w w')))
  (hR : ∀ z m, P n z m → R = .tuple #[frV z m, .int .i64 0]) (w : World) (hq : 0 < n → ∃ g, ao = some ⟨g, 0, none⟩ ∧ RS w g cs) :
  Calls Tryz.prog 20 #[.slice ao n c] w fun xe w' => xe = .returned R ∧ Below w.heap.size w w' := by
 replace HO0 := Lib.hid HO0
 replace HO1 := Lib.hid HO1
 replace hz := Lib.hid hz
 replace h0 := Lib.hid h0
 replace hJ := Lib.hid hJ
 replace hR := Lib.hid hR
 replace hq := Lib.hid hq
 replace hlen := Lib.hid hlen
 replace hnb := Lib.hid hnb
 have hL0 : GL w w [] := GL.start w
 replace hL0 := (hL0.new rfl [.int .u64 0, .string ⟨#[]⟩, .bool false, .int .u64 0, .string ⟨#[]⟩] 55)
 generalize hweq : (w.alloc (.cells #[.int .u64 0, .string ⟨#[]⟩, .bool false, .int .u64 0, .string ⟨#[]⟩] 55)) = x1 at hL0
 go_enter Tryz.func20, Tryz.ntmps20
 go_wp2_with fail
 clear hweq
 go_loopg [13] n (fun gk iv wr => ∃ (i : Nat), i + gk = n ∧ iv = .int .i64 (i : Int) ∧ (∀ j (h : j < cs.length), j < i → (cs[j]'h).2 ≠ 0) ∧ GL w wr [(w.heap.size, [.int .u64 0, .string ⟨#[]⟩, .bool false, .int .u64 0, .string ⟨#[]⟩])])
 case atStart => exact ⟨0, Nat.zero_add n, by first | rfl | go_num, fun j _ h => absurd h (Nat.not_lt_zero _), hL0⟩
 case round =>
  clear hL0
  obtain ⟨i, hik, rfl, hall, hL0⟩ := hrel
  replace hall := Lib.hid hall
  by_cases hin : i < n
  ·have hcl := hlen.out
   obtain ⟨g, rfl, hfs⟩ := hq.out (by omega)
   have hf := (hfs.below hL0.bl).cell i (by omega)
   obtain ⟨y, hy⟩ : ∃ x, x = (cs[i]'(by omega)).1 := ⟨_, rfl⟩
   obtain ⟨l, hl⟩ : ∃ x, x = (cs[i]'(by omega)).2 := ⟨_, rfl⟩
   rw [← hy, ← hl] at hf
   obtain ⟨f0, f1, f2, f3, f4⟩ := hf
   have k1 : (i : Int) < (n : Int) := by omega
   have k0 : (0 : Int) ≤ (i : Int) := Int.natCast_nonneg _
   have kb : (i : Int) ≤ 1000000 := by have := hnb.out; omega
   rcases Nat.eq_zero_or_pos l with h0 | h0
   ·have hR2 := Lib.hid (hz.out i (by omega) (by rw [← hl]; exact h0))
    clear hl
    subst h0
    clear hy
    replace hL0 := (hL0.new rfl [.int .u64 ((zl y : Nat) : Int), .string (zh y), .bool (zs y), .int .u64 ((lo 0 : Nat) : Int), .string (hs 0)] 55)
    generalize hweq : (wr.alloc (.cells #[.int .u64 ((zl y : Nat) : Int), .string (zh y), .bool (zs y), .int .u64 ((lo 0 : Nat) : Int), .string (hs 0)] 55)) = x2 at hL0
    go_upto_region 4 with fail
    clear hweq
    obtain ⟨α, iα, F, hF1, hF2⟩ := cls x2
    have hq0 := cls_box hF1 hL0 _ _ List.mem_cons_self
    simp only [cellsC, and_true, Nat.zero_add, Nat.reduceAdd] at hq0
    refine region_qs 4 (C := fun w' => ∃ x, w' = F x) (by kernel_rfl) (by kernel_rfl) (cls_drew hF2) ?_
    simp only [List.take_succ_cons, List.take_zero, List.drop_succ_cons, List.drop_zero, List.take_nil, List.drop_nil]
    repeat (go_big_quiet_step (first | fail | (go_at_call 17; with_reducible exact cls_call hF1 hF2 HO0.out _)))
    refine wpQuiet_nil ?_
    rintro wq ⟨xq, rfl⟩
    replace hL0 := hL0.call (hF1 xq)
    clear  hq0 hF2
    generalize F xq = x3 at hL0 ⊢
    clear hF1 xq iα F α
    have hA := hL0.fc
    simp only [fcG, cellsF, neK, and_true, ne_eq, Nat.zero_add, Nat.reduceAdd] at hA
    have hP := hL0.put 1 (w.heap.size) _ rfl [.int .u64 0, .string ⟨#[]⟩, .bool false, .int .u64 0, .string ⟨#[]⟩] rfl
    simp only [setAll, List.set_cons_zero, List.set_cons_succ] at hP
    generalize hput1 : (((((x3.setCell ⟨w.heap.size, 0, none⟩ (.int .u64 0)).setCell ⟨w.heap.size, 1, none⟩ (.string ⟨#[]⟩)).setCell ⟨w.heap.size, 2, none⟩ (.bool false)).setCell ⟨w.heap.size, 3, none⟩ (.int .u64 0)).setCell ⟨w.heap.size, 4, none⟩ (.string ⟨#[]⟩)) = x4 at hP
    have hB1 := hP.fc
    simp only [fcG, cellsF, neK, and_true, ne_eq, Nat.zero_add, Nat.reduceAdd] at hB1
    replace hL0 := hP
    go_wp2_with fail
    exact bodyPost_ret (v := .tuple #[.agg #[.int .u64 0, .string ⟨#[]⟩, .bool false, .int .u64 0, .string ⟨#[]⟩], .int .i64 5]) (by simp [results, Tryz.results20, go_sem, hB1]) rfl ⟨by rw [hR2.out], hL0.bl⟩
   ·have hne := eq_zero h0
    have hal2 := Lib.hid (show ∀ j (h : j < cs.length), j < i + 1 → (cs[j]'h).2 ≠ 0 from fun j h hj => by
      rcases Nat.lt_or_ge j i with g1 | g1
      ·exact hall.out j h g1
      ·obtain rfl : j = i := by omega
       rw [← hl]; omega)
    clear h0 hl hy
    rcases hne with e0 | ⟨e0, e1⟩
    ·have k2 : 0 ≤ n := Nat.zero_le _
     replace hL0 := (hL0.new rfl [.int .u64 ((zl y : Nat) : Int), .string (zh y), .bool (zs y), .int .u64 ((lo l : Nat) : Int), .string (hs l)] 55)
     generalize hweq : (wr.alloc (.cells #[.int .u64 ((zl y : Nat) : Int), .string (zh y), .bool (zs y), .int .u64 ((lo l : Nat) : Int), .string (hs l)] 55)) = x2 at hL0
     go_upto_region 4 with fail
     clear hweq
     obtain ⟨α, iα, F, hF1, hF2⟩ := cls x2
     have hq0 := cls_box hF1 hL0 _ _ List.mem_cons_self
     simp only [cellsC, and_true, Nat.zero_add, Nat.reduceAdd] at hq0
     refine region_qs 4 (C := fun w' => ∃ x, w' = F x) (by kernel_rfl) (by kernel_rfl) (cls_drew hF2) ?_
     simp only [List.take_succ_cons, List.take_zero, List.drop_succ_cons, List.drop_zero, List.take_nil, List.drop_nil]
     repeat (go_big_quiet_step (first | fail | (go_at_call 17; with_reducible exact cls_call hF1 hF2 HO0.out _)))
     refine wpQuiet_nil ?_
     rintro wq ⟨xq, rfl⟩
     replace hL0 := hL0.call (hF1 xq)
     clear  hq0 hF2
     generalize F xq = x3 at hL0 ⊢
     clear hF1 xq iα F α
     go_wp2_with fail
     go_roundg (gk - 1)
     case measure => omega
     case rel => exact ⟨i + 1, by omega, by first | rfl | go_num, hal2.out, hL0.weak (List.Sublist.cons _ (List.Sublist.refl _))⟩
    ·have k2 : 0 ≤ n := Nat.zero_le _
     replace hL0 := (hL0.new rfl [.int .u64 ((zl y : Nat) : Int), .string (zh y), .bool (zs y), .int .u64 ((lo l : Nat) : Int), .string (hs l)] 55)
     generalize hweq : (wr.alloc (.cells #[.int .u64 ((zl y : Nat) : Int), .string (zh y), .bool (zs y), .int .u64 ((lo l : Nat) : Int), .string (hs l)] 55)) = x2 at hL0
     go_upto_region 4 with fail
     clear hweq
     obtain ⟨α, iα, F, hF1, hF2⟩ := cls x2
     have hq0 := cls_box hF1 hL0 _ _ List.mem_cons_self
     simp only [cellsC, and_true, Nat.zero_add, Nat.reduceAdd] at hq0
     refine region_qs 4 (C := fun w' => ∃ x, w' = F x) (by kernel_rfl) (by kernel_rfl) (cls_drew hF2) ?_
     simp only [List.take_succ_cons, List.take_zero, List.drop_succ_cons, List.drop_zero, List.take_nil, List.drop_nil]
     repeat (go_big_quiet_step (first | fail | (go_at_call 17; with_reducible exact cls_call hF1 hF2 HO0.out _)))
     refine wpQuiet_nil ?_
     rintro wq ⟨xq, rfl⟩
     replace hL0 := hL0.call (hF1 xq)
     clear  hq0 hF2
     generalize F xq = x3 at hL0 ⊢
     clear hF1 xq iα F α
     go_wp2_with fail
     go_roundg (gk - 1)
     case measure => omega
     case rel => exact ⟨i + 1, by omega, by first | rfl | go_num, hal2.out, hL0.weak (List.Sublist.cons _ (List.Sublist.refl _))⟩
  ·obtain rfl : i = n := by omega
   have k1 : ¬ (i : Int) < (i : Int) := by omega
   have hP0 := Lib.hid (h0.out fun j h => hall.out j h (by rw [← hlen.out]; exact h))
   clear hall hik
   go_wp2_with fail
   with_reducible refine Calls.mono (HO1.out _) ?_
   rintro e x2 ⟨rfl, hb⟩
   replace hL0 := hL0.call hb
   clear hb
   replace hL0 := (hL0.new rfl [.int .u64 0, .string ⟨#[]⟩, .bool false, .int .u64 ((lo 1 : Nat) : Int), .string (hs 1)] 55)
   generalize hweq : (x2.alloc (.cells #[.int .u64 0, .string ⟨#[]⟩, .bool false, .int .u64 ((lo 1 : Nat) : Int), .string (hs 1)] 55)) = x3 at hL0
   go_wp2_with fail
   clear hweq
   go_loopg [27] i (fun gk iv wr => ∃ (j : Nat) (z : Int) (m : Nat), j + gk = i ∧ iv = .int .i64 (j : Int) ∧ P j z m ∧ GL w wr [(x2.heap.size, [.int .u64 ((zl z : Nat) : Int), .string (zh z), .bool (zs z), .int .u64 ((lo m : Nat) : Int), .string (hs m)]), (w.heap.size, [.int .u64 0, .string ⟨#[]⟩, .bool false, .int .u64 0, .string ⟨#[]⟩])])
   case atStart => exact ⟨0, 0, 1, Nat.zero_add i, by first | rfl | go_num, hP0.out, by rw [z0.1, z0.2.1, z0.2.2]; exact hL0⟩
   case round =>
    clear hL0 hP0
    clear k1 hin
    obtain ⟨j, z, m, hik, rfl, hP, hL0⟩ := hrel
    by_cases hin : j < i
    ·have hcl := hlen.out
     obtain ⟨g, rfl, hfs⟩ := hq.out (by omega)
     have hf := (hfs.below hL0.bl).cell j (by omega)
     obtain ⟨y, hy⟩ : ∃ x, x = (cs[j]'(by omega)).1 := ⟨_, rfl⟩
     obtain ⟨l, hl⟩ : ∃ x, x = (cs[j]'(by omega)).2 := ⟨_, rfl⟩
     rw [← hy, ← hl] at hf
     obtain ⟨f0, f1, f2, f3, f4⟩ := hf
     have k1 : (j : Int) < (i : Int) := by omega
     have k0 : (0 : Int) ≤ (j : Int) := Int.natCast_nonneg _
     have kb : (j : Int) ≤ 1000000 := by have := hnb.out; omega
     have hj2 := hJ.out j z m (by omega) hP
     rw [← hy, ← hl] at hj2
     clear hy hl hP
     rcases hj2 with ⟨z2, m2, hP2, HJ1⟩ | ⟨hR2, HJ1⟩
     ·replace HJ1 := Lib.hid HJ1
      replace hP2 := Lib.hid hP2
      replace hL0 := (hL0.new rfl [.int .u64 ((zl y : Nat) : Int), .string (zh y), .bool (zs y), .int .u64 ((lo l : Nat) : Int), .string (hs l)] 55)
      generalize hweq : (wr.alloc (.cells #[.int .u64 ((zl y : Nat) : Int), .string (zh y), .bool (zs y), .int .u64 ((lo l : Nat) : Int), .string (hs l)] 55)) = x4 at hL0
      have hN0 := cells_of _ 0 [] rfl (hL0.get _ _ List.mem_cons_self)
      simp only [cellsF, and_true, Nat.zero_add, Nat.reduceAdd] at hN0
      have hN1 := cells_of _ 0 [] rfl (hL0.get _ _ (List.mem_cons_of_mem _ List.mem_cons_self))
      simp only [cellsF, and_true, Nat.zero_add, Nat.reduceAdd] at hN1
      go_wp2_with fail
      clear hN0 hN1
      with_reducible refine Calls.mono (HJ1.out _) ?_
      rintro e x5 ⟨rfl, hb⟩
      replace hL0 := hL0.call hb
      clear hb hweq
      replace hL0 := (hL0.new rfl [.int .u64 ((zl z2 : Nat) : Int), .string (zh z2), .bool (zs z2), .int .u64 ((lo m2 : Nat) : Int), .string (hs m2)] 55)
      generalize hweq : (x5.alloc (.cells #[.int .u64 ((zl z2 : Nat) : Int), .string (zh z2), .bool (zs z2), .int .u64 ((lo m2 : Nat) : Int), .string (hs m2)] 55)) = x6 at hL0
      have hA := hL0.fc
      simp only [fcG, cellsF, neK, and_true, ne_eq, Nat.zero_add, Nat.reduceAdd] at hA
      have hP := hL0.put 2 (x2.heap.size) _ rfl [.int .u64 ((zl z2 : Nat) : Int), .string (zh z2), .bool (zs z2), .int .u64 ((lo m2 : Nat) : Int), .string (hs m2)] rfl
      simp only [setAll, List.set_cons_zero, List.set_cons_succ] at hP
      generalize hput1 : (((((x6.setCell ⟨x2.heap.size, 0, none⟩ (.int .u64 ((zl z2 : Nat) : Int))).setCell ⟨x2.heap.size, 1, none⟩ (.string (zh z2))).setCell ⟨x2.heap.size, 2, none⟩ (.bool (zs z2))).setCell ⟨x2.heap.size, 3, none⟩ (.int .u64 ((lo m2 : Nat) : Int))).setCell ⟨x2.heap.size, 4, none⟩ (.string (hs m2))) = x7 at hP
      have hB1 := hP.fc
      simp only [fcG, cellsF, neK, and_true, ne_eq, Nat.zero_add, Nat.reduceAdd] at hB1
      replace hL0 := hP
      go_wp2_with fail
      go_roundg (gk - 1)
      case measure => omega
      case rel => exact ⟨j + 1, z2, m2, by omega, by first | rfl | go_num, hP2.out, hL0.weak (List.Sublist.cons _ (List.Sublist.cons _ (List.Sublist.refl _)))⟩
     ·replace HJ1 := Lib.hid HJ1
      replace hR2 := Lib.hid hR2
      replace hL0 := (hL0.new rfl [.int .u64 ((zl y : Nat) : Int), .string (zh y), .bool (zs y), .int .u64 ((lo l : Nat) : Int), .string (hs l)] 55)
      generalize hweq : (wr.alloc (.cells #[.int .u64 ((zl y : Nat) : Int), .string (zh y), .bool (zs y), .int .u64 ((lo l : Nat) : Int), .string (hs l)] 55)) = x4 at hL0
      have hN0 := cells_of _ 0 [] rfl (hL0.get _ _ List.mem_cons_self)
      simp only [cellsF, and_true, Nat.zero_add, Nat.reduceAdd] at hN0
      have hN1 := cells_of _ 0 [] rfl (hL0.get _ _ (List.mem_cons_of_mem _ List.mem_cons_self))
      simp only [cellsF, and_true, Nat.zero_add, Nat.reduceAdd] at hN1
      go_wp2_with fail
      clear hN0 hN1
      with_reducible refine Calls.mono (HJ1.out _) ?_
      rintro e x5 ⟨rfl, hb⟩
      replace hL0 := hL0.call hb
      clear hb hweq
      replace hL0 := (hL0.new rfl [.int .u64 0, .string ⟨#[]⟩, .bool false, .int .u64 0, .string ⟨#[]⟩] 55)
      generalize hweq : (x5.alloc (.cells #[.int .u64 0, .string ⟨#[]⟩, .bool false, .int .u64 0, .string ⟨#[]⟩] 55)) = x6 at hL0
      have hA := hL0.fc
      simp only [fcG, cellsF, neK, and_true, ne_eq, Nat.zero_add, Nat.reduceAdd] at hA
      have hP := hL0.put 0 (x5.heap.size) _ rfl [.int .u64 0, .string ⟨#[]⟩, .bool false, .int .u64 0, .string ⟨#[]⟩] rfl
      simp only [setAll, List.set_cons_zero, List.set_cons_succ] at hP
      generalize hput1 : (((((x6.setCell ⟨x5.heap.size, 0, none⟩ (.int .u64 0)).setCell ⟨x5.heap.size, 1, none⟩ (.string ⟨#[]⟩)).setCell ⟨x5.heap.size, 2, none⟩ (.bool false)).setCell ⟨x5.heap.size, 3, none⟩ (.int .u64 0)).setCell ⟨x5.heap.size, 4, none⟩ (.string ⟨#[]⟩)) = x7 at hP
      have hB1 := hP.fc
      simp only [fcG, cellsF, neK, and_true, ne_eq, Nat.zero_add, Nat.reduceAdd] at hB1
      replace hL0 := hP
      have hP := hL0.put 3 (w.heap.size) _ rfl [.int .u64 0, .string ⟨#[]⟩, .bool false, .int .u64 0, .string ⟨#[]⟩] rfl
      simp only [setAll, List.set_cons_zero, List.set_cons_succ] at hP
      generalize hput2 : (((((x7.setCell ⟨w.heap.size, 0, none⟩ (.int .u64 0)).setCell ⟨w.heap.size, 1, none⟩ (.string ⟨#[]⟩)).setCell ⟨w.heap.size, 2, none⟩ (.bool false)).setCell ⟨w.heap.size, 3, none⟩ (.int .u64 0)).setCell ⟨w.heap.size, 4, none⟩ (.string ⟨#[]⟩)) = x8 at hP
      have hB2 := hP.fc
      simp only [fcG, cellsF, neK, and_true, ne_eq, Nat.zero_add, Nat.reduceAdd] at hB2
      replace hL0 := hP
      go_wp2_with fail
      exact bodyPost_ret (v := .tuple #[.agg #[.int .u64 0, .string ⟨#[]⟩, .bool false, .int .u64 0, .string ⟨#[]⟩], .int .i64 6]) (by simp [results, Tryz.results20, go_sem, hB2]) rfl ⟨by rw [hR2.out], hL0.bl⟩
    ·obtain rfl : j = i := by omega
     have k1 : ¬ (j : Int) < (j : Int) := by omega
     have hR2 := Lib.hid (hR.out z m hP)
     clear hP
     have hA := hL0.fc
     simp only [fcG, cellsF, neK, and_true, ne_eq, Nat.zero_add, Nat.reduceAdd] at hA
     have hP := hL0.put 1 (w.heap.size) _ rfl [.int .u64 ((zl z : Nat) : Int), .string (zh z), .bool (zs z), .int .u64 ((lo m : Nat) : Int), .string (hs m)] rfl
     simp only [setAll, List.set_cons_zero, List.set_cons_succ] at hP
     generalize hput1 : (((((wr.setCell ⟨w.heap.size, 0, none⟩ (.int .u64 ((zl z : Nat) : Int))).setCell ⟨w.heap.size, 1, none⟩ (.string (zh z))).setCell ⟨w.heap.size, 2, none⟩ (.bool (zs z))).setCell ⟨w.heap.size, 3, none⟩ (.int .u64 ((lo m : Nat) : Int))).setCell ⟨w.heap.size, 4, none⟩ (.string (hs m))) = x4 at hP
     have hB1 := hP.fc
     simp only [fcG, cellsF, neK, and_true, ne_eq, Nat.zero_add, Nat.reduceAdd] at hB1
     replace hL0 := hP
     go_wp2_with fail
     exact bodyPost_ret (v := .tuple #[.agg #[.int .u64 ((zl z : Nat) : Int), .string (zh z), .bool (zs z), .int .u64 ((lo m : Nat) : Int), .string (hs m)], .int .i64 0]) (by simp [results, Tryz.results20, go_sem, hB1]) rfl ⟨by rw [hR2.out], hL0.bl⟩
end Go.Proofs.YtaimebjkidegiaaGreatDoor
namespace Go.Proofs.YtaimebjkidegiaaGreatDoor
open Go.RowKit
attribute [local irreducible] lo hs sm s64 c64 d64 b64 mh ml pd pc qd qc val hiB str cmpI srD lz nb isq zl zh zs
theorem anyZ_true : ∀ {l : List (Int × Nat)} (i : Nat) (h : i < l.length), (l[i]'h).2 = 0 → anyZ l = true
 | c :: l, 0, h, e => by rw [anyZ, if_pos (show c.2 = 0 from e)]
 | c :: l, i + 1, h, e => by
  rw [anyZ]
  by_cases hc : c.2 = 0
  ·rw [if_pos hc]
  ·rw [if_neg hc]; exact anyZ_true i (by simpa using h) e
/-- What the second loop keeps. -/
structure CJ (cs : List (Int × Nat)) (k i : Nat) (z : Int) (m : Nat) : Prop where
 pos : ∀ c ∈ cs, 0 < c.2
 lo : 0 ≤ z
 hi : z < (m : Int)
 sz : (digs m).length ≤ 1 + i * k
 eq : chinF (z, m) (cs.drop i) = chinF (0, 1) cs
theorem lcm_digs {m n a b : Nat} (hm : 0 < m) (hn : 0 < n) (h1 : (digs m).length ≤ a) (h2 : (digs n).length ≤ b) : (digs (Nat.lcm m n)).length ≤ a + b := by
 refine Nat.le_trans (digs_mono (Nat.le_of_dvd (Nat.mul_pos hm hn) (Nat.lcm_dvd (Nat.dvd_mul_right _ _) (Nat.dvd_mul_left _ _)))) ?_
 have := dI_mul (x := (m : Int)) (y := (n : Int)) (by rw [dI_nat]; exact h1) (by rw [dI_nat]; exact h2)
 rw [← Int.natCast_mul, dI_nat] at this; exact this
theorem frV_zz : frV 0 0 = .agg #[.int .u64 0, .string ⟨#[]⟩, .bool false, .int .u64 0, .string ⟨#[]⟩] := frV_00
theorem chinP (cs : List (Int × Nat)) (k : Nat) (hk : 0 < k) (hk2 : 1 + cs.length * k ≤ 900) (hs : ∀ c ∈ cs, dI c.1 ≤ k ∧ (digs c.2).length ≤ k) (v : Value) (w : World) (hv : SlR w v cs) :
  Calls Tryz.prog 20 #[v] w fun e w' => e = .returned (.tuple #[frV (chV cs).1 (chV cs).2, .int .i64 (chE cs)]) ∧ Below w.heap.size w w' := by
 obtain ⟨ao, n, c, rfl, hn⟩ := slr_form hv
 obtain ⟨-, hq⟩ := slr_parts hv
 have hle : cs.length * 1 ≤ cs.length * k := Nat.mul_le_mul_left _ hk
 refine pchin_w cs ao n c (CJ cs k) _ hn.symm (by omega) zero_o one_o (fun i h e => ?_) (fun h => ?_) (fun i z m h hP => ?_) (fun z m hP => ?_) w hq
 ·obtain ⟨h1, h2⟩ := ch_zero (anyZ_true i h e)
  rw [h1, h2, frV_zz]
 ·refine ⟨fun c hc => ?_, by omega, by omega, ?_, rfl⟩
  ·obtain ⟨i, hi, rfl⟩ := List.getElem_of_mem hc
   exact Nat.pos_of_ne_zero (h i hi)
  ·have : (digs 1).length ≤ 1 := digs_length_iff.2 (by rw [Nat.pow_one]; unfold Bs; decide)
   omega
 ·have hmem := List.getElem_mem h
  have hp := hP.pos _ hmem
  obtain ⟨g1, g2⟩ := hs _ hmem
  have hm : 0 < m := by have := hP.lo; have := hP.hi; omega
  have hik : (i + 1) * k ≤ cs.length * k := Nat.mul_le_mul_right _ h
  have hik2 : (i + 1) * k = i * k + k := Nat.succ_mul _ _
  have hsz := hP.sz
  have hJ := fun w => joinP (z, m) (cs[i]'h) hm hp 900 (Nat.le_refl _) (Nat.le_trans (dI_le (m := m) (by have := hP.lo; have := hP.hi; omega) hsz) (by omega)) (by show (digs m).length ≤ 900; omega) (by omega) (by omega) w
  have hd : cs.drop i = (cs[i]'h) :: cs.drop (i + 1) := List.drop_eq_getElem_cons h
  have he := hP.eq
  rw [hd, chinF] at he
  unfold joinV at hJ
  cases hj : joinB (z, m) (cs[i]'h) with
  | true =>
   rw [hj, if_pos rfl] at hJ he
   obtain ⟨b0, b1⟩ := crt_bounds (p := (z, m)) (q := cs[i]'h) hp hP.lo hP.hi
   refine .inl ⟨_, _, ⟨hP.pos, b0, b1, ?_, he⟩, hJ⟩
   rw [crtM_lcm]
   exact Nat.le_trans (lcm_digs (m := m) hm hp hsz g2) (by omega)
  | false =>
   rw [hj, if_neg (by simp)] at hJ he
   refine .inr ⟨?_, hJ⟩
   have hz := anyZ_false.2 hP.pos
   rw [show chV cs = (0, 0) from by unfold chV; rw [hz, if_neg (by simp), ← he]; rfl, show chE cs = 6 from by unfold chE; rw [hz, if_neg (by simp), ← he]; rfl, frV_zz]
 ·have he := hP.eq
  rw [hn, List.drop_length, chinF] at he
  have hz := anyZ_false.2 hP.pos
  rw [show chV cs = (z, m) from by unfold chV; rw [hz, if_neg (by simp), ← he]; rfl, show chE cs = 0 from by unfold chE; rw [hz, if_neg (by simp), ← he]; rfl]
end Go.Proofs.YtaimebjkidegiaaGreatDoor
namespace Go.Proofs.YtaimebjkidegiaaGreatDoor
open Go.RowKit
attribute [local irreducible] lo hs sm s64 c64 d64 b64 mh ml pd pc qd qc val hiB str cmpI srD lz nb isq zl zh zs fe
set_option maxHeartbeats 4000000 in
set_option maxRecDepth 100000 in
theorem rof_w (x y z : Int) (m : Nat) (HO : ∀ w, Calls Tryz.prog 23 #[.int .i64 x] w fun xe w' => xe = .returned (intV z) ∧ Below w.heap.size w w') (HN : ∀ w, Calls Tryz.prog 17 #[.int .u64 y] w fun xe w' => xe = .returned (natV m) ∧ Below w.heap.size w w') (hu : y % 18446744073709551616 = y) (w : World) :
  Calls Tryz.prog 142 #[.agg #[.int .i64 x, .int .u32 y]] w fun xe w' => xe = .returned (frV z m) ∧ Below w.heap.size w w' := by
 have hL0 : GL w w [] := GL.start w
 replace HO := Lib.hid HO
 replace HN := Lib.hid HN
 replace hL0 := ((hL0.new rfl [.int .i64 x, .int .u32 y] 136).new (K := w.heap.size + 1) (szA _ _) [.int .u64 0, .string ⟨#[]⟩, .bool false, .int .u64 0, .string ⟨#[]⟩] 55)
 generalize hweq : ((w.alloc (.cells #[.int .i64 x, .int .u32 y] 136)).alloc (.cells #[.int .u64 0, .string ⟨#[]⟩, .bool false, .int .u64 0, .string ⟨#[]⟩] 55)) = x1 at hL0
 go_enter Tryz.func142, Tryz.ntmps142
 go_upto_region 1 with fail
 clear hweq
 obtain ⟨α, iα, F, hF1, hF2⟩ := cls x1
 have hq0 := cls_box hF1 hL0 _ _ (List.mem_cons_of_mem _ List.mem_cons_self)
 simp only [cellsC, and_true, Nat.zero_add, Nat.reduceAdd] at hq0
 refine region_qs 8 (C := fun w' => ∃ x, w' = F x) (by kernel_rfl) (by kernel_rfl) (cls_drew hF2) ?_
 simp only [List.take_succ_cons, List.take_zero, List.drop_succ_cons, List.drop_zero, List.take_nil, List.drop_nil]
 repeat (go_big_quiet_step (first | fail | (go_at_call 23; with_reducible exact cls_call hF1 hF2 HO.out _) | (go_at_call 17; with_reducible exact cls_call hF1 hF2 HN.out _)))
 refine wpQuiet_nil ?_
 rintro wq ⟨xq, rfl⟩
 replace hL0 := hL0.call (hF1 xq)
 clear  hq0 hF2
 generalize F xq = x2 at hL0 ⊢
 clear hF1 xq iα F α
 have hA := hL0.fc
 simp only [fcG, cellsF, neK, and_true, ne_eq, Nat.zero_add, Nat.reduceAdd] at hA
 have hP := hL0.put 0 (w.heap.size + 1) _ rfl [.int .u64 ((zl z : Nat) : Int), .string (zh z), .bool (zs z), .int .u64 ((lo m : Nat) : Int), .string (hs m)] rfl
 simp only [setAll, List.set_cons_zero, List.set_cons_succ] at hP
 generalize hput1 : (((((x2.setCell ⟨w.heap.size + 1, 0, none⟩ (.int .u64 ((zl z : Nat) : Int))).setCell ⟨w.heap.size + 1, 1, none⟩ (.string (zh z))).setCell ⟨w.heap.size + 1, 2, none⟩ (.bool (zs z))).setCell ⟨w.heap.size + 1, 3, none⟩ (.int .u64 ((lo m : Nat) : Int))).setCell ⟨w.heap.size + 1, 4, none⟩ (.string (hs m))) = x3 at hP
 have hB1 := hP.fc
 simp only [fcG, cellsF, neK, and_true, ne_eq, Nat.zero_add, Nat.reduceAdd] at hB1
 replace hL0 := hP
 go_wp2_with fail
 exact bodyPost_ret (v := .agg #[.int .u64 ((zl z : Nat) : Int), .string (zh z), .bool (zs z), .int .u64 ((lo m : Nat) : Int), .string (hs m)]) (by simp [results, Tryz.results142, go_sem, hB1]) rfl ⟨rfl, hL0.bl⟩
/-- Plain congruences in memory. -/
structure PRs (w : World) (a : Addr) (ps : List (Int × Int)) : Prop where
 c0 : ∀ (i : Nat) (h : i < ps.length), w.cell? (a.add (i * 2)) = some (.int .i64 ps[i].1)
 c1 : ∀ (i : Nat) (h : i < ps.length), w.cell? ((a.add (i * 2)).add 1) = some (.int .u32 ps[i].2)
 blk : a.block < w.heap.size
theorem add_blkP (a : Addr) (i : Nat) : (a.add i).block = a.block := by unfold Addr.add; split <;> rfl
theorem add_oneP (a : Addr) : a.add 1 = ⟨a.block, a.off + 1, none⟩ := by unfold Addr.add; simp
theorem PRs.below {w w' : World} {a : Addr} {ps : List (Int × Int)} (h : PRs w a ps) (hb : Below w.heap.size w w') : PRs w' a ps :=
 ⟨fun i hi => (hb.cell (p := a.add (i * 2)) (by rw [add_blkP]; exact h.blk)).trans (h.c0 i hi), fun i hi => (hb.cell (p := (a.add (i * 2)).add 1) (by rw [add_blkP, add_blkP]; exact h.blk)).trans (h.c1 i hi), Nat.lt_of_lt_of_le h.blk hb.size⟩
def SlP (w : World) (v : Value) (ps : List (Int × Int)) : Prop := ∃ ao n c, v = .slice ao n c ∧ ps.length = n ∧ (0 < n → ∃ a, ao = some a ∧ PRs w a ps)
theorem slp_nil (w : World) : SlP w (.slice none 0 0) [] := ⟨none, 0, 0, rfl, rfl, fun h => by omega⟩
theorem slp_two {w : World} {g : Nat} {x y z t : Int} (h : Hd w g [.int .i64 x, .int .u32 y, .int .i64 z, .int .u32 t]) : SlP w (.slice (some ⟨g, 0, none⟩) 2 2) [(x, y), (z, t)] := by
 refine ⟨_, _, _, rfl, rfl, fun _ => ⟨_, rfl, fun i hi => ?_, fun i hi => ?_, h.lt⟩⟩
 ·obtain rfl | rfl : i = 0 ∨ i = 1 := by simp at hi; omega
  ·exact h.cell 0 (by simp)
  ·rw [add0P]; exact h.cell 2 (by simp)
 ·obtain rfl | rfl : i = 0 ∨ i = 1 := by simp at hi; omega
  ·exact h.cell 1 (by simp)
  ·rw [add0P, add_oneP]; exact h.cell 3 (by simp)
set_option maxHeartbeats 16000000 in
set_option maxRecDepth 100000 in
theorem ljoin_none (ps : List (Int × Int)) (qs : List (Int × Nat)) (ao : Option Addr) (n c : Nat) (cz ce : Int) (cm : Nat) (hlen : ps.length = n) (hlq : qs.length = n) (hnb : n ≤ 1000)
  (HQ : ∀ (i : Nat) (h : i < ps.length) (h' : i < qs.length) (w : World), Calls Tryz.prog 142 #[.agg #[.int .i64 ps[i].1, .int .u32 ps[i].2]] w fun xe w' => xe = .returned (frV qs[i].1 qs[i].2) ∧ Below w.heap.size w w')
  (HC : ∀ (v : Value) (w : World), SlR w v qs → Calls Tryz.prog 20 #[v] w fun xe w' => xe = .returned (.tuple #[frV cz cm, .int .i64 ce]) ∧ Below w.heap.size w w') (he : (ce != 0) = true) (w : World) (hq : 0 < n → ∃ a, ao = some a ∧ PRs w a ps) :
  Calls Tryz.prog 65 #[.slice ao n c] w fun xe w' => xe = .returned (.string (ByteArray.mk #[110, 111, 110, 101])) ∧ Below w.heap.size w w' := by
 replace hq := Lib.hid hq
 replace hlen := Lib.hid hlen
 replace hlq := Lib.hid hlq
 replace hnb := Lib.hid hnb
 replace HQ := Lib.hid HQ
 replace HC := Lib.hid HC
 obtain ⟨iF, hi, hz0, hz1, hz2⟩ := info_parts infoS
 replace hi := Lib.hid hi
 replace hz0 := Lib.hid hz0
 replace hz1 := Lib.hid hz1
 replace hz2 := Lib.hid hz2
 have hL0 : GL w w [] := GL.start w
 go_enter Tryz.func65, Tryz.ntmps65
 go_wp2_with fail
 go_loopw [3, 4] (fun v z wr => ∃ (i : Nat) (zi : Int), i ≤ n ∧ z = .int .i64 zi ∧ zi = (i : Int) ∧ w.heap.size ≤ wr.heap.size ∧ wr.ownsRow w.heap.size 55 5 v i (rsCs (qs.take i)) ∧ GL w wr []) (fun _ z _ => n - (intOf z).toNat)
 case atStart => exact ⟨0, _, Nat.zero_le _, rfl, rfl, hL0.bl.size, by rw [List.take_zero, rsCs_nil]; exact World.ownsRow_nil _ _ _ _, hL0⟩
 case round =>
  clear hL0
  obtain ⟨i, zi, hi1, rfl, hzi, hEw, hown, hL0⟩ := hrel
  rcases Nat.lt_or_ge i n with hin | hin
  ·subst hzi
   obtain ⟨q9, rfl, hqa⟩ := hq.out (by omega)
   have hln := hlen.out
   have hl2 := hlq.out
   have k1 : (i : Int) < (n : Int) := by omega
   have k0 : (0 : Int) ≤ (i : Int) := Int.natCast_nonneg _
   have kb : (i : Int) ≤ 1000000 := by have := hnb.out; omega
   have hQw := hqa.below hL0.bl
   have c0 := hQw.c0 i (by omega)
   have c1 := hQw.c1 i (by omega)
   rw [add_oneP] at c1
   obtain ⟨x, hx⟩ : ∃ x, x = (ps[i]'(by omega)).1 := ⟨_, rfl⟩
   obtain ⟨y, hy⟩ : ∃ y, y = (ps[i]'(by omega)).2 := ⟨_, rfl⟩
   rw [← hx] at c0
   rw [← hy] at c1
   have HQi := Lib.hid (HQ.out i (by omega) (by omega))
   rw [← hx, ← hy] at HQi
   obtain ⟨r, hr⟩ : ∃ r, r = qs[i]'(by omega) := ⟨_, rfl⟩
   rw [← hr] at HQi
   have htk := Lib.hid (show qs.take (i + 1) = qs.take i ++ [r] by rw [List.take_succ_eq_append_getElem (by omega), hr])
   clear hqa hQw hx hy hr
   obtain ⟨rz, rm⟩ := r
   replace hown := Lib.hid hown
   replace hEw := Lib.hid hEw
   go_wp2_with fail
   with_reducible refine Calls.mono (HQi.out _) ?_
   rintro e x92 ⟨rfl, hb⟩
   have hown2 := ownR_below hown.out hb
   replace hL0 := hL0.call hb
   have hE2 : w.heap.size ≤ x92.heap.size := Nat.le_trans hEw.out hb.size
   clear hb hown hEw c0 c1
   replace hL0 := (hL0.new rfl [.int .u64 ((zl rz : Nat) : Int), .string (zh rz), .bool (zs rz), .int .u64 ((lo rm : Nat) : Int), .string (hs rm)] 55)
   generalize hweq : (x92.alloc (.cells #[.int .u64 ((zl rz : Nat) : Int), .string (zh rz), .bool (zs rz), .int .u64 ((lo rm : Nat) : Int), .string (hs rm)] 55)) = x93 at hL0
   have hown3 := ownR_below hown2 (show Below x92.heap.size x92 x93 by rw [← hweq]; exact (Below.refl _ _).alloc (Nat.le_refl _) _)
   have hE3 : w.heap.size ≤ x93.heap.size := Nat.le_trans hE2 (by rw [← hweq, World.size_alloc]; omega)
   clear hown2 hE2
   have hnw := hd_newsP (hL0.get _ _ List.mem_cons_self)
   replace hnw := Lib.hid hnw
   replace hown3 := Lib.hid hown3
   replace hE3 := Lib.hid hE3
   have hne : ∀ u ∈ ([.int .u64 ((zl rz : Nat) : Int), .string (zh rz), .bool (zs rz), .int .u64 ((lo rm : Nat) : Int), .string (hs rm)] : List Value), u.oneCell' = true := rsC_one (rz, rm)
   replace hne := Lib.hid hne
   go_wp2_with (at_builtin; refine wpList_append_own _ rfl _ _ 50 rfl w.heap.size 55 iF (.agg #[.int .u64 0, .string ⟨#[]⟩, .bool false, .int .u64 0, .string ⟨#[]⟩]) 5 56 Tryz.underlying50 hi.out hz0.out hz1.out hz2.out rfl (by decide) _ _ _ rfl hown3.out ⟨x92.heap.size, 0, none⟩ 1 1 [.int .u64 ((zl rz : Nat) : Int), .string (zh rz), .bool (zs rz), .int .u64 ((lo rm : Nat) : Int), .string (hs rm)] rfl rfl hnw.out hne.out (by unfold maxLen; omega) (by omega) hE3.out ?_)
   intro v' w1 hown' hgrow _
   have hown4 : w1.ownsRow w.heap.size 55 5 v' (i + 1) (rsCs (qs.take (i + 1))) := by rw [htk.out, rsCs_snoc]; exact hown'
   have hb4 : Below w.heap.size x93 w1 := (Below.refl w.heap.size x93).grown hgrow hE3.out (fun j hj => (hown3.out.lt j hj).1)
   replace hL0 := (hL0.weak (List.Sublist.cons _ (List.Sublist.refl _))).belowR hb4 (fun p hp => by cases hp) (Nat.le_refl _)
   have hE4 : w.heap.size ≤ w1.heap.size := Nat.le_trans hE3.out hgrow.size
   clear hown' hgrow hb4 hown3 hE3 hnw hne hweq
   replace hown4 := Lib.hid hown4
   replace hE4 := Lib.hid hE4
   go_wp2_with fail
   go_roundw
   case rel => exact ⟨i + 1, _, by omega, by first | rfl | go_num, by omega, hE4.out, hown4.out, hL0⟩
   case measure => simp [intOf] <;> omega
  ·obtain rfl : i = n := by omega
   subst hzi
   have k1 : ¬ (i : Int) < (i : Int) := by omega
   rw [List.take_of_length_le (Nat.le_of_eq hlq.out)] at hown
   have hSl := ownR_slr hown hlq.out.symm
   obtain ⟨sa, sn, sc, rfl, -⟩ := slr_form hSl
   replace hSl := Lib.hid hSl
   clear hown hEw hi1 hin
   go_wp2_with fail
   with_reducible refine Calls.mono (HC.out _ _ hSl.out) ?_
   rintro e x101 ⟨rfl, hb⟩
   replace hL0 := hL0.call hb
   clear hb
   replace hL0 := (hL0.new rfl [.int .u64 ((zl cz : Nat) : Int), .string (zh cz), .bool (zs cz), .int .u64 ((lo cm : Nat) : Int), .string (hs cm)] 55)
   generalize hweq : (x101.alloc (.cells #[.int .u64 ((zl cz : Nat) : Int), .string (zh cz), .bool (zs cz), .int .u64 ((lo cm : Nat) : Int), .string (hs cm)] 55)) = x102 at hL0
   go_wp2_with fail
   exact bodyPost_ret (v := .string (ByteArray.mk #[110, 111, 110, 101])) (by simp [results, Tryz.results65, go_sem]) rfl ⟨rfl, hL0.bl⟩
set_option maxHeartbeats 16000000 in
set_option maxRecDepth 100000 in
theorem ljoin_ok (ps : List (Int × Int)) (qs : List (Int × Nat)) (ao : Option Addr) (n c : Nat) (cz ce : Int) (cm : Nat) (s t : ByteArray) (hlen : ps.length = n) (hlq : qs.length = n) (hnb : n ≤ 1000)
  (HQ : ∀ (i : Nat) (h : i < ps.length) (h' : i < qs.length) (w : World), Calls Tryz.prog 142 #[.agg #[.int .i64 ps[i].1, .int .u32 ps[i].2]] w fun xe w' => xe = .returned (frV qs[i].1 qs[i].2) ∧ Below w.heap.size w w')
  (HC : ∀ (v : Value) (w : World), SlR w v qs → Calls Tryz.prog 20 #[v] w fun xe w' => xe = .returned (.tuple #[frV cz cm, .int .i64 ce]) ∧ Below w.heap.size w w') (HS : ∀ w, Tab w → Calls Tryz.prog 143 #[intV cz] w fun xe w' => xe = .returned (.string s) ∧ Below w.heap.size w w') (HT : ∀ w, Tab w → Calls Tryz.prog 144 #[natV cm] w fun xe w' => xe = .returned (.string t) ∧ Below w.heap.size w w') (he : (ce != 0) = false) (h1 : ((s.size : Nat) : Int) ≤ 20000000) (h2 : ((t.size : Nat) : Int) ≤ 20000000) (w : World) (htab : Tab w) (hq : 0 < n → ∃ a, ao = some a ∧ PRs w a ps) :
  Calls Tryz.prog 65 #[.slice ao n c] w fun xe w' => xe = .returned (.string ((s ++ (ByteArray.mk #[32, 98, 121, 32])) ++ t)) ∧ Below w.heap.size w w' := by
 replace hq := Lib.hid hq
 replace hlen := Lib.hid hlen
 replace hlq := Lib.hid hlq
 replace hnb := Lib.hid hnb
 replace HQ := Lib.hid HQ
 replace HC := Lib.hid HC
 obtain ⟨iF, hi, hz0, hz1, hz2⟩ := info_parts infoS
 replace hi := Lib.hid hi
 replace hz0 := Lib.hid hz0
 replace hz1 := Lib.hid hz1
 replace hz2 := Lib.hid hz2
 replace HS := Lib.hid HS
 replace HT := Lib.hid HT
 have hL0 : GL w w [] := GL.start w
 go_enter Tryz.func65, Tryz.ntmps65
 go_wp2_with fail
 go_loopw [3, 4] (fun v z wr => ∃ (i : Nat) (zi : Int), i ≤ n ∧ z = .int .i64 zi ∧ zi = (i : Int) ∧ w.heap.size ≤ wr.heap.size ∧ wr.ownsRow w.heap.size 55 5 v i (rsCs (qs.take i)) ∧ GL w wr []) (fun _ z _ => n - (intOf z).toNat)
 case atStart => exact ⟨0, _, Nat.zero_le _, rfl, rfl, hL0.bl.size, by rw [List.take_zero, rsCs_nil]; exact World.ownsRow_nil _ _ _ _, hL0⟩
 case round =>
  clear hL0
  obtain ⟨i, zi, hi1, rfl, hzi, hEw, hown, hL0⟩ := hrel
  rcases Nat.lt_or_ge i n with hin | hin
  ·subst hzi
   obtain ⟨q9, rfl, hqa⟩ := hq.out (by omega)
   have hln := hlen.out
   have hl2 := hlq.out
   have k1 : (i : Int) < (n : Int) := by omega
   have k0 : (0 : Int) ≤ (i : Int) := Int.natCast_nonneg _
   have kb : (i : Int) ≤ 1000000 := by have := hnb.out; omega
   have hQw := hqa.below hL0.bl
   have c0 := hQw.c0 i (by omega)
   have c1 := hQw.c1 i (by omega)
   rw [add_oneP] at c1
   obtain ⟨x, hx⟩ : ∃ x, x = (ps[i]'(by omega)).1 := ⟨_, rfl⟩
   obtain ⟨y, hy⟩ : ∃ y, y = (ps[i]'(by omega)).2 := ⟨_, rfl⟩
   rw [← hx] at c0
   rw [← hy] at c1
   have HQi := Lib.hid (HQ.out i (by omega) (by omega))
   rw [← hx, ← hy] at HQi
   obtain ⟨r, hr⟩ : ∃ r, r = qs[i]'(by omega) := ⟨_, rfl⟩
   rw [← hr] at HQi
   have htk := Lib.hid (show qs.take (i + 1) = qs.take i ++ [r] by rw [List.take_succ_eq_append_getElem (by omega), hr])
   clear hqa hQw hx hy hr
   obtain ⟨rz, rm⟩ := r
   replace hown := Lib.hid hown
   replace hEw := Lib.hid hEw
   go_wp2_with fail
   with_reducible refine Calls.mono (HQi.out _) ?_
   rintro e x92 ⟨rfl, hb⟩
   have hown2 := ownR_below hown.out hb
   replace hL0 := hL0.call hb
   have hE2 : w.heap.size ≤ x92.heap.size := Nat.le_trans hEw.out hb.size
   clear hb hown hEw c0 c1
   replace hL0 := (hL0.new rfl [.int .u64 ((zl rz : Nat) : Int), .string (zh rz), .bool (zs rz), .int .u64 ((lo rm : Nat) : Int), .string (hs rm)] 55)
   generalize hweq : (x92.alloc (.cells #[.int .u64 ((zl rz : Nat) : Int), .string (zh rz), .bool (zs rz), .int .u64 ((lo rm : Nat) : Int), .string (hs rm)] 55)) = x93 at hL0
   have hown3 := ownR_below hown2 (show Below x92.heap.size x92 x93 by rw [← hweq]; exact (Below.refl _ _).alloc (Nat.le_refl _) _)
   have hE3 : w.heap.size ≤ x93.heap.size := Nat.le_trans hE2 (by rw [← hweq, World.size_alloc]; omega)
   clear hown2 hE2
   have hnw := hd_newsP (hL0.get _ _ List.mem_cons_self)
   replace hnw := Lib.hid hnw
   replace hown3 := Lib.hid hown3
   replace hE3 := Lib.hid hE3
   have hne : ∀ u ∈ ([.int .u64 ((zl rz : Nat) : Int), .string (zh rz), .bool (zs rz), .int .u64 ((lo rm : Nat) : Int), .string (hs rm)] : List Value), u.oneCell' = true := rsC_one (rz, rm)
   replace hne := Lib.hid hne
   go_wp2_with (at_builtin; refine wpList_append_own _ rfl _ _ 50 rfl w.heap.size 55 iF (.agg #[.int .u64 0, .string ⟨#[]⟩, .bool false, .int .u64 0, .string ⟨#[]⟩]) 5 56 Tryz.underlying50 hi.out hz0.out hz1.out hz2.out rfl (by decide) _ _ _ rfl hown3.out ⟨x92.heap.size, 0, none⟩ 1 1 [.int .u64 ((zl rz : Nat) : Int), .string (zh rz), .bool (zs rz), .int .u64 ((lo rm : Nat) : Int), .string (hs rm)] rfl rfl hnw.out hne.out (by unfold maxLen; omega) (by omega) hE3.out ?_)
   intro v' w1 hown' hgrow _
   have hown4 : w1.ownsRow w.heap.size 55 5 v' (i + 1) (rsCs (qs.take (i + 1))) := by rw [htk.out, rsCs_snoc]; exact hown'
   have hb4 : Below w.heap.size x93 w1 := (Below.refl w.heap.size x93).grown hgrow hE3.out (fun j hj => (hown3.out.lt j hj).1)
   replace hL0 := (hL0.weak (List.Sublist.cons _ (List.Sublist.refl _))).belowR hb4 (fun p hp => by cases hp) (Nat.le_refl _)
   have hE4 : w.heap.size ≤ w1.heap.size := Nat.le_trans hE3.out hgrow.size
   clear hown' hgrow hb4 hown3 hE3 hnw hne hweq
   replace hown4 := Lib.hid hown4
   replace hE4 := Lib.hid hE4
   go_wp2_with fail
   go_roundw
   case rel => exact ⟨i + 1, _, by omega, by first | rfl | go_num, by omega, hE4.out, hown4.out, hL0⟩
   case measure => simp [intOf] <;> omega
  ·obtain rfl : i = n := by omega
   subst hzi
   have k1 : ¬ (i : Int) < (i : Int) := by omega
   rw [List.take_of_length_le (Nat.le_of_eq hlq.out)] at hown
   have hSl := ownR_slr hown hlq.out.symm
   obtain ⟨sa, sn, sc, rfl, -⟩ := slr_form hSl
   replace hSl := Lib.hid hSl
   clear hown hEw hi1 hin
   go_wp2_with fail
   with_reducible refine Calls.mono (HC.out _ _ hSl.out) ?_
   rintro e x101 ⟨rfl, hb⟩
   replace hL0 := hL0.call hb
   clear hb
   replace hL0 := (hL0.new rfl [.int .u64 ((zl cz : Nat) : Int), .string (zh cz), .bool (zs cz), .int .u64 ((lo cm : Nat) : Int), .string (hs cm)] 55)
   generalize hweq : (x101.alloc (.cells #[.int .u64 ((zl cz : Nat) : Int), .string (zh cz), .bool (zs cz), .int .u64 ((lo cm : Nat) : Int), .string (hs cm)] 55)) = x102 at hL0
   go_upto_region 9 with fail
   have ht := htab.below hL0.bl
   clear hweq
   obtain ⟨α, iα, F, hF1, hF2⟩ := cls x102
   have hq0 := cls_box hF1 hL0 _ _ List.mem_cons_self
   simp only [cellsC, and_true, Nat.zero_add, Nat.reduceAdd] at hq0
   refine region_qs 9 (C := fun w' => ∃ x, w' = F x) (by kernel_rfl) (by kernel_rfl) (cls_drew hF2) ?_
   simp only [List.take_succ_cons, List.take_zero, List.drop_succ_cons, List.drop_zero, List.take_nil, List.drop_nil]
   repeat (go_big_quiet_step (first | fail | (go_at_call 143; with_reducible exact cls_callT hF1 hF2 ht HS.out _) | (go_at_call 144; with_reducible exact cls_callT hF1 hF2 ht HT.out _)))
   refine wpQuiet_nil ?_
   rintro wq ⟨xq, rfl⟩
   replace hL0 := hL0.call (hF1 xq)
   clear  hq0 hF2
   generalize F xq = x103 at hL0 ⊢
   clear hF1 xq iα F α
   clear ht
   go_wp2_with fail
   exact bodyPost_ret (v := .string ((s ++ (ByteArray.mk #[32, 98, 121, 32])) ++ t)) (by simp [results, Tryz.results65, go_sem]) rfl ⟨rfl, hL0.bl⟩
set_option maxHeartbeats 16000000 in
set_option maxRecDepth 100000 in
theorem pworks_w (five zo a b c : Int) (nine eight i j k : Nat)
  (B0 : ∀ w, Tab w → Calls Tryz.prog 61 #[.int .i64 5, .int .u64 9] w fun xe w' => xe = .returned (.string (ByteArray.mk #[49, 47, 50])) ∧ Below w.heap.size w w')
  (B1 : ∀ w, Tab w → Calls Tryz.prog 61 #[.int .i64 (-4), .int .u64 9] w fun xe w' => xe = .returned (.string (ByteArray.mk #[49, 47, 50])) ∧ Below w.heap.size w w')
  (B2 : ∀ w, Tab w → Calls Tryz.prog 61 #[.int .i64 3, .int .u64 9] w fun xe w' => xe = .returned (.string (ByteArray.mk #[110, 111, 110, 101])) ∧ Below w.heap.size w w')
  (B3 : ∀ w, Tab w → Calls Tryz.prog 61 #[.int .i64 0, .int .u64 3] w fun xe w' => xe = .returned (.string (ByteArray.mk #[48])) ∧ Below w.heap.size w w')
  (B4 : ∀ w, Tab w → Calls Tryz.prog 61 #[.int .i64 0, .int .u64 2] w fun xe w' => xe = .returned (.string (ByteArray.mk #[110, 111, 110, 101])) ∧ Below w.heap.size w w')
  (B5 : ∀ w, Tab w → Calls Tryz.prog 61 #[.int .i64 10, .int .u64 101] w fun xe w' => xe = .returned (.string (ByteArray.mk #[110, 111, 110, 101])) ∧ Below w.heap.size w w')
  (B6 : ∀ w, Tab w → Calls Tryz.prog 61 #[.int .i64 67, .int .u64 101] w fun xe w' => xe = .returned (.string (ByteArray.mk #[45, 49, 47, 51])) ∧ Below w.heap.size w w')
  (B7 : ∀ w, Tab w → Calls Tryz.prog 61 #[.int .i64 34, .int .u64 101] w fun xe w' => xe = .returned (.string (ByteArray.mk #[49, 47, 51])) ∧ Below w.heap.size w w')
  (B8 : ∀ w, Tab w → Calls Tryz.prog 61 #[.int .i64 20, .int .u64 101] w fun xe w' => xe = .returned (.string (ByteArray.mk #[45, 49, 47, 53])) ∧ Below w.heap.size w w')
  (HO5 : ∀ w, Calls Tryz.prog 23 #[.int .i64 5] w fun xe w' => xe = .returned (intV five) ∧ Below w.heap.size w w')
  (HO9 : ∀ w, Calls Tryz.prog 17 #[.int .u64 9] w fun xe w' => xe = .returned (natV nine) ∧ Below w.heap.size w w')
  (HO0 : ∀ w, Calls Tryz.prog 23 #[.int .i64 0] w fun xe w' => xe = .returned (intV zo) ∧ Below w.heap.size w w')
  (HO8 : ∀ w, Calls Tryz.prog 17 #[.int .u64 8] w fun xe w' => xe = .returned (natV eight) ∧ Below w.heap.size w w')
  (F12 : ∀ w, Calls Tryz.prog 63 #[.int .i64 1, .int .i64 2] w fun xe w' => xe = .returned (frV a i) ∧ Below w.heap.size w w')
  (F13 : ∀ w, Calls Tryz.prog 63 #[.int .i64 1, .int .i64 3] w fun xe w' => xe = .returned (frV b j) ∧ Below w.heap.size w w')
  (F21 : ∀ w, Calls Tryz.prog 63 #[.int .i64 2, .int .i64 1] w fun xe w' => xe = .returned (frV c k) ∧ Below w.heap.size w w')
  (G1 : ∀ w, Calls Tryz.prog 62 #[frV a i, intV five, natV nine] w fun xe w' => xe = .returned (.bool true) ∧ Below w.heap.size w w')
  (G2 : ∀ w, Calls Tryz.prog 62 #[frV b j, intV zo, natV nine] w fun xe w' => xe = .returned (.bool false) ∧ Below w.heap.size w w')
  (G3 : ∀ w, Calls Tryz.prog 64 #[frV c k, natV nine] w fun xe w' => xe = .returned (.bool true) ∧ Below w.heap.size w w')
  (G4 : ∀ w, Calls Tryz.prog 64 #[frV c k, natV eight] w fun xe w' => xe = .returned (.bool false) ∧ Below w.heap.size w w')
  (J0 : ∀ (v : Value) (w : World), Tab w → SlP w v [(2, 3), (3, 5)] → Calls Tryz.prog 65 #[v] w fun xe w' => xe = .returned (.string (ByteArray.mk #[56, 32, 98, 121, 32, 49, 53])) ∧ Below w.heap.size w w')
  (J1 : ∀ (v : Value) (w : World), Tab w → SlP w v [(1, 4), (3, 6)] → Calls Tryz.prog 65 #[v] w fun xe w' => xe = .returned (.string (ByteArray.mk #[57, 32, 98, 121, 32, 49, 50])) ∧ Below w.heap.size w w')
  (J2 : ∀ (v : Value) (w : World), Tab w → SlP w v [(1, 4), (2, 6)] → Calls Tryz.prog 65 #[v] w fun xe w' => xe = .returned (.string (ByteArray.mk #[110, 111, 110, 101])) ∧ Below w.heap.size w w')
  (J3 : ∀ (v : Value) (w : World), Tab w → SlP w v [] → Calls Tryz.prog 65 #[v] w fun xe w' => xe = .returned (.string (ByteArray.mk #[48, 32, 98, 121, 32, 49])) ∧ Below w.heap.size w w') (w : World) (htab : Tab w) :
  Calls Tryz.prog 15 #[] w fun xe w' => xe = .returned (.bool true) ∧ Below w.heap.size w w' := by
 replace B0 := Lib.hid B0
 replace B1 := Lib.hid B1
 replace B2 := Lib.hid B2
 replace B3 := Lib.hid B3
 replace B4 := Lib.hid B4
 replace B5 := Lib.hid B5
 replace B6 := Lib.hid B6
 replace B7 := Lib.hid B7
 replace B8 := Lib.hid B8
 replace HO5 := Lib.hid HO5
 replace HO9 := Lib.hid HO9
 replace HO0 := Lib.hid HO0
 replace HO8 := Lib.hid HO8
 replace F12 := Lib.hid F12
 replace F13 := Lib.hid F13
 replace F21 := Lib.hid F21
 replace G1 := Lib.hid G1
 replace G2 := Lib.hid G2
 replace G3 := Lib.hid G3
 replace G4 := Lib.hid G4
 replace J0 := Lib.hid J0
 replace J1 := Lib.hid J1
 replace J2 := Lib.hid J2
 replace J3 := Lib.hid J3
 have hL0 : GL w w [] := GL.start w
 go_enter Tryz.func15, Tryz.ntmps15
 go_wp2_with fail
 with_reducible refine Calls.mono (B0.out _ (htab.below hL0.bl)) ?_
 rintro e x1 ⟨rfl, hb⟩
 replace hL0 := hL0.call hb
 clear hb
 go_wp2_with fail
 with_reducible refine Calls.mono (B1.out _ (htab.below hL0.bl)) ?_
 rintro e x2 ⟨rfl, hb⟩
 replace hL0 := hL0.call hb
 clear hb
 go_wp2_with fail
 with_reducible refine Calls.mono (B2.out _ (htab.below hL0.bl)) ?_
 rintro e x3 ⟨rfl, hb⟩
 replace hL0 := hL0.call hb
 clear hb
 go_wp2_with fail
 with_reducible refine Calls.mono (B3.out _ (htab.below hL0.bl)) ?_
 rintro e x4 ⟨rfl, hb⟩
 replace hL0 := hL0.call hb
 clear hb
 go_wp2_with fail
 with_reducible refine Calls.mono (B4.out _ (htab.below hL0.bl)) ?_
 rintro e x5 ⟨rfl, hb⟩
 replace hL0 := hL0.call hb
 clear hb
 go_wp2_with fail
 with_reducible refine Calls.mono (B5.out _ (htab.below hL0.bl)) ?_
 rintro e x6 ⟨rfl, hb⟩
 replace hL0 := hL0.call hb
 clear hb
 go_wp2_with fail
 with_reducible refine Calls.mono (B6.out _ (htab.below hL0.bl)) ?_
 rintro e x7 ⟨rfl, hb⟩
 replace hL0 := hL0.call hb
 clear hb
 go_wp2_with fail
 with_reducible refine Calls.mono (B7.out _ (htab.below hL0.bl)) ?_
 rintro e x8 ⟨rfl, hb⟩
 replace hL0 := hL0.call hb
 clear hb
 go_wp2_with fail
 with_reducible refine Calls.mono (B8.out _ (htab.below hL0.bl)) ?_
 rintro e x9 ⟨rfl, hb⟩
 replace hL0 := hL0.call hb
 clear hb
 go_wp2_with fail
 with_reducible refine Calls.mono (HO5.out _) ?_
 rintro e x10 ⟨rfl, hb⟩
 replace hL0 := hL0.call hb
 clear hb
 go_wp2_with fail
 with_reducible refine Calls.mono (HO9.out _) ?_
 rintro e x11 ⟨rfl, hb⟩
 replace hL0 := hL0.call hb
 clear hb
 go_wp2_with fail
 with_reducible refine Calls.mono (HO0.out _) ?_
 rintro e x12 ⟨rfl, hb⟩
 replace hL0 := hL0.call hb
 clear hb
 replace hL0 := (((hL0.new rfl [.int .u64 ((zl five : Nat) : Int), .string (zh five), .bool (zs five)] 32).new (K := x12.heap.size + 1) (szA _ _) [.int .u64 ((lo nine : Nat) : Int), .string (hs nine)] 30).new (K := x12.heap.size + 1 + 1) (by simp only [World.size_alloc]) [.int .u64 ((zl zo : Nat) : Int), .string (zh zo), .bool (zs zo)] 32)
 generalize hweq : (((x12.alloc (.cells #[.int .u64 ((zl five : Nat) : Int), .string (zh five), .bool (zs five)] 32)).alloc (.cells #[.int .u64 ((lo nine : Nat) : Int), .string (hs nine)] 30)).alloc (.cells #[.int .u64 ((zl zo : Nat) : Int), .string (zh zo), .bool (zs zo)] 32)) = x13 at hL0
 go_upto_region 4 with fail
 clear hweq
 obtain ⟨α, iα, F, hF1, hF2⟩ := cls x13
 have hq0 := cls_box hF1 hL0 _ _ List.mem_cons_self
 simp only [cellsC, and_true, Nat.zero_add, Nat.reduceAdd] at hq0
 have hq1 := cls_box hF1 hL0 _ _ (List.mem_cons_of_mem _ List.mem_cons_self)
 simp only [cellsC, and_true, Nat.zero_add, Nat.reduceAdd] at hq1
 have hq2 := cls_box hF1 hL0 _ _ (List.mem_cons_of_mem _ (List.mem_cons_of_mem _ List.mem_cons_self))
 simp only [cellsC, and_true, Nat.zero_add, Nat.reduceAdd] at hq2
 refine region_qs 22 (C := fun w' => ∃ x, w' = F x) (by kernel_rfl) (by kernel_rfl) (cls_drew hF2) ?_
 simp only [List.take_succ_cons, List.take_zero, List.drop_succ_cons, List.drop_zero, List.take_nil, List.drop_nil]
 repeat (go_big_quiet_step (first | fail | (go_at_call 63; with_reducible exact cls_call hF1 hF2 F12.out _) | (go_at_call 62; with_reducible exact cls_call hF1 hF2 G1.out _) | (go_at_call 63; with_reducible exact cls_call hF1 hF2 F13.out _) | (go_at_call 62; with_reducible exact cls_call hF1 hF2 G2.out _) | (go_at_call 63; with_reducible exact cls_call hF1 hF2 F21.out _) | (go_at_call 64; with_reducible exact cls_call hF1 hF2 G3.out _) | (go_at_call 17; with_reducible exact cls_call hF1 hF2 HO8.out _) | (go_at_call 64; with_reducible exact cls_call hF1 hF2 G4.out _)))
 refine wpQuiet_nil ?_
 rintro wq ⟨xq, rfl⟩
 replace hL0 := hL0.call (hF1 xq)
 clear  hq0 hq1 hq2 hF2
 generalize F xq = x14 at hL0 ⊢
 clear hF1 xq iα F α
 replace hL0 := (hL0.new rfl [.int .i64 2, .int .u32 3, .int .i64 3, .int .u32 5] 136)
 generalize hweq : (x14.alloc (.cells #[.int .i64 2, .int .u32 3, .int .i64 3, .int .u32 5] 136)) = x15 at hL0
 go_wp2_with fail
 with_reducible refine Calls.mono (J0.out _ _ (htab.below hL0.bl) (slp_two (hL0.get _ _ List.mem_cons_self))) ?_
 rintro e x16 ⟨rfl, hb⟩
 replace hL0 := hL0.call hb
 clear hb hweq
 replace hL0 := (hL0.new rfl [.int .i64 1, .int .u32 4, .int .i64 3, .int .u32 6] 136)
 generalize hweq : (x16.alloc (.cells #[.int .i64 1, .int .u32 4, .int .i64 3, .int .u32 6] 136)) = x17 at hL0
 go_wp2_with fail
 with_reducible refine Calls.mono (J1.out _ _ (htab.below hL0.bl) (slp_two (hL0.get _ _ List.mem_cons_self))) ?_
 rintro e x18 ⟨rfl, hb⟩
 replace hL0 := hL0.call hb
 clear hb hweq
 replace hL0 := (hL0.new rfl [.int .i64 1, .int .u32 4, .int .i64 2, .int .u32 6] 136)
 generalize hweq : (x18.alloc (.cells #[.int .i64 1, .int .u32 4, .int .i64 2, .int .u32 6] 136)) = x19 at hL0
 go_wp2_with fail
 with_reducible refine Calls.mono (J2.out _ _ (htab.below hL0.bl) (slp_two (hL0.get _ _ List.mem_cons_self))) ?_
 rintro e x20 ⟨rfl, hb⟩
 replace hL0 := hL0.call hb
 clear hb hweq
 go_wp2_with fail
 with_reducible refine Calls.mono (J3.out _ _ (htab.below hL0.bl) (slp_nil _)) ?_
 rintro e x21 ⟨rfl, hb⟩
 replace hL0 := hL0.call hb
 clear hb
 go_wp2_with fail
 exact bodyPost_ret (v := .bool true) (by simp [results, Tryz.results15, go_sem]) rfl ⟨rfl, hL0.bl⟩
end Go.Proofs.YtaimebjkidegiaaGreatDoor
namespace Go.Proofs.YtaimebjkidegiaaGreatDoor
open Go.RowKit
attribute [local irreducible] lo hs sm s64 c64 d64 b64 mh ml pd pc qd qc val hiB str cmpI srD lz nb zl zh zs
/-- The congruences that plain data stands for. -/
def rsOf (ps : List (Int × Int)) : List (Int × Nat) := ps.map fun p => (p.1, p.2.toNat)
theorem rsOf_len (ps : List (Int × Int)) : (rsOf ps).length = ps.length := by unfold rsOf; rw [List.length_map]
theorem rsOf_get (ps : List (Int × Int)) (i : Nat) (h : i < ps.length) (h' : i < (rsOf ps).length) : (rsOf ps)[i]'h' = ((ps[i]'h).1, (ps[i]'h).2.toNat) := List.getElem_map (fun p : Int × Int => (p.1, p.2.toNat))
theorem rofP (x y : Int) (h1 : -9223372036854775808 ≤ x) (h2 : x < 9223372036854775808) (h3 : 0 ≤ y) (h4 : y < 4294967296) (w : World) :
  Calls Tryz.prog 142 #[.agg #[.int .i64 x, .int .u32 y]] w fun e w' => e = .returned (frV x y.toNat) ∧ Below w.heap.size w w' :=
 rof_w x y x y.toNat (fun w => ofI x h1 h2 w) (fun w => of_val y y.toNat (by omega) (by unfold Bs; omega) w) (by omega) w
def noneT : ByteArray := ByteArray.mk #[110, 111, 110, 101]
def backT (a : Int) (m : Nat) : ByteArray := if backB a m = true then qtxt (backQ a m) else noneT
theorem backL (a : Int) (m : Nat) (h1 : -9223372036854775808 ≤ a) (h2 : a < 9223372036854775808) (h3 : m < 18446744073709551616) (w : World) (htab : Tab w) :
  Calls Tryz.prog 61 #[.int .i64 a, .int .u64 (m : Int)] w fun e w' => e = .returned (.string (backT a m)) ∧ Below w.heap.size w w' := by
 have hd : (digs m).length ≤ 1 := digs_length_iff.2 (by rw [Nat.pow_one]; unfold Bs; exact h3)
 have ha := i64_dI h1 h2
 have hB := fun w => backP a m (by omega) (by omega) w
 have hO := fun w => ofI a h1 h2 w
 have hN := fun w => of_val (m : Int) m rfl (by unfold Bs; exact h3) w
 unfold backT
 cases hb : backB a m with
 | false =>
  rw [hb] at hB
  rw [if_neg (by simp)]
  exact lback_no a (m : Int) a _ m _ hO hN hB w
 | true =>
  rw [hb] at hB
  rw [if_pos rfl]
  exact lback_yes a (m : Int) a _ m _ _ hO hN hB (fun w h => textF (backQ a m) 1 (back_sz a m 1 (by omega) hd) (by omega) w h) w htab
def joinT (ps : List (Int × Int)) : ByteArray := if chE (rsOf ps) = 0 then ztxt (chV (rsOf ps)).1 ++ ByteArray.mk #[32, 98, 121, 32] ++ txt (chV (rsOf ps)).2 else noneT
theorem chV_sz (cs : List (Int × Nat)) (k : Nat) (hk : 0 < k) (hp : ∀ c ∈ cs, (digs c.2).length ≤ k) : dI (chV cs).1 ≤ 1 + cs.length * k ∧ (digs (chV cs).2).length ≤ 1 + cs.length * k := by
 have h0 : dI 0 ≤ 1 := dI_lit (by decide)
 have h0' : (digs 0).length ≤ 1 := digs_length_iff.2 (by rw [Nat.pow_one]; unfold Bs; decide)
 by_cases hz : anyZ cs = true
 ·rw [(ch_zero hz).1]; show dI 0 ≤ _ ∧ (digs 0).length ≤ _; exact ⟨by omega, by omega⟩
 ·have hz2 : anyZ cs = false := by cases h : anyZ cs <;> simp_all
  have hpos := anyZ_false.1 hz2
  have hl : ∀ (l : List (Int × Nat)), (∀ c ∈ l, 0 < c.2) → (∀ c ∈ l, (digs c.2).length ≤ k) → 0 < lcmL l ∧ (digs (lcmL l)).length ≤ 1 + l.length * k := by
   intro l
   induction l with
   | nil => intro _ _; exact ⟨Nat.one_pos, Nat.le_trans (digs_length_iff.2 (show 1 < Bs ^ 1 by rw [Nat.pow_one]; unfold Bs; decide)) (by omega)⟩
   | cons c l ih =>
    intro h1 h2
    obtain ⟨g1, g2⟩ := ih (fun d hd => h1 d (List.mem_cons_of_mem _ hd)) (fun d hd => h2 d (List.mem_cons_of_mem _ hd))
    have g3 := lcm_digs (h1 c List.mem_cons_self) g1 (h2 c List.mem_cons_self) g2
    refine ⟨lcmL_pos h1, ?_⟩
    rw [lcmL, List.length_cons, Nat.succ_mul]; omega
  obtain ⟨g1, g2⟩ := hl cs hpos hp
  rcases ch_any cs hpos with ⟨h, -⟩ | ⟨-, h, -⟩
  ·have hM : (chV cs).2 = lcmL cs := h.m
   have h1 := h.lo
   have h2 := h.hi
   refine ⟨dI_le (m := (chV cs).2) (by omega) (by rw [hM]; exact g2), by rw [hM]; exact g2⟩
  ·rw [h]; show dI 0 ≤ _ ∧ (digs 0).length ≤ _; exact ⟨by omega, by omega⟩
theorem joinedL (ps : List (Int × Int)) (hl : ps.length ≤ 20) (hr : ∀ p ∈ ps, (-9223372036854775808 ≤ p.1 ∧ p.1 < 9223372036854775808) ∧ 0 ≤ p.2 ∧ p.2 < 4294967296) (v : Value) (w : World) (htab : Tab w) (hv : SlP w v ps) :
  Calls Tryz.prog 65 #[v] w fun e w' => e = .returned (.string (joinT ps)) ∧ Below w.heap.size w w' := by
 obtain ⟨ao, n, c, rfl, hn, hq⟩ := hv
 have hlen := rsOf_len ps
 have hs : ∀ c ∈ rsOf ps, dI c.1 ≤ 1 ∧ (digs c.2).length ≤ 1 := fun c hc => by
  unfold rsOf at hc
  obtain ⟨p, hp, rfl⟩ := List.mem_map.1 hc
  obtain ⟨⟨a1, a2⟩, a3, a4⟩ := hr p hp
  exact ⟨i64_dI a1 a2, digs_length_iff.2 (by rw [Nat.pow_one]; unfold Bs; show p.2.toNat < _; omega)⟩
 have HQ : ∀ (i : Nat) (h : i < ps.length) (h' : i < (rsOf ps).length) (w : World), Calls Tryz.prog 142 #[.agg #[.int .i64 ps[i].1, .int .u32 ps[i].2]] w fun xe w' => xe = .returned (frV (rsOf ps)[i].1 (rsOf ps)[i].2) ∧ Below w.heap.size w w' := fun i h h' w => by
  obtain ⟨⟨a1, a2⟩, a3, a4⟩ := hr _ (List.getElem_mem h)
  have e : (rsOf ps)[i] = (ps[i].1, ps[i].2.toNat) := rsOf_get ps i h h'
  rw [e]
  exact rofP _ _ a1 a2 a3 a4 w
 have HC := fun v w hv => chinP (rsOf ps) 1 (by omega) (by omega) hs v w hv
 obtain ⟨z1, z2⟩ := chV_sz (rsOf ps) 1 (by omega) (fun c hc => (hs c hc).2)
 unfold joinT
 by_cases he : chE (rsOf ps) = 0
 ·rw [if_pos he]
  rw [he] at HC
  have s1 := ztxt_small (z := (chV (rsOf ps)).1) (k := 100000) (by omega) (by omega)
  have s2 := txt_small (n := (chV (rsOf ps)).2) (k := 100000) (by omega) (by omega)
  exact ljoin_ok ps (rsOf ps) ao n c _ 0 _ _ _ hn (by omega) (by omega) HQ HC (fun w h => textI _ (by omega) w h) (fun w h => text_any _ (by omega) w h) rfl (by omega) (by omega) w htab hq
 ·rw [if_neg he]
  exact ljoin_none ps (rsOf ps) ao n c _ _ _ hn (by omega) (by omega) HQ HC (by simp [he]) w hq
-- the examples
theorem qt_1_2 : qtxt (mkRat (1) 2) = (ByteArray.mk #[49, 47, 50]) := by
 rw [qt_part (d := 2) (z := 1) (by decide +kernel) (by decide) (by decide +kernel), txt1 2 (by decide), show ztxt (1 : Int) = _ from zt_pos 1 (by decide)]; rfl
theorem qt_1_3 : qtxt (mkRat (1) 3) = (ByteArray.mk #[49, 47, 51]) := by
 rw [qt_part (d := 3) (z := 1) (by decide +kernel) (by decide) (by decide +kernel), txt1 3 (by decide), show ztxt (1 : Int) = _ from zt_pos 1 (by decide)]; rfl
theorem qt_n1_3 : qtxt (mkRat (-1) 3) = (ByteArray.mk #[45, 49, 47, 51]) := by
 rw [qt_part (d := 3) (z := -1) (by decide +kernel) (by decide) (by decide +kernel), txt1 3 (by decide), show ztxt (-1 : Int) = _ from zt_neg 1 (by decide) (by decide)]; rfl
theorem qt_n1_5 : qtxt (mkRat (-1) 5) = (ByteArray.mk #[45, 49, 47, 53]) := by
 rw [qt_part (d := 5) (z := -1) (by decide +kernel) (by decide) (by decide +kernel), txt1 5 (by decide), show ztxt (-1 : Int) = _ from zt_neg 1 (by decide) (by decide)]; rfl
theorem backT_yes {a : Int} {m : Nat} {q : Rat} {t : ByteArray} (h1 : backB a m = true) (h2 : backQ a m = q) (h3 : qtxt q = t) : backT a m = t := by unfold backT; rw [if_pos h1, h2, h3]
theorem backT_no {a : Int} {m : Nat} (h1 : backB a m = false) : backT a m = noneT := by unfold backT; rw [if_neg (by rw [h1]; simp)]
theorem txt2 (d : Nat) (h : 10 ≤ d) (h2 : d < 100) : txt d = ⟨#[dch (d / 10), dch (d % 10)]⟩ := by unfold txt; rw [dec_big (by omega), dec_small (show d / 10 < 10 by omega)]; rfl
theorem joinT_ok {ps : List (Int × Int)} {r : Int} {m : Nat} (h1 : chV (rsOf ps) = (r, m)) (h2 : chE (rsOf ps) = 0) : joinT ps = ztxt r ++ ByteArray.mk #[32, 98, 121, 32] ++ txt m := by unfold joinT; rw [if_pos h2, h1]
theorem j0 : joinT [(2, 3), (3, 5)] = (ByteArray.mk #[56, 32, 98, 121, 32, 49, 53]) := by
 obtain ⟨h1, h2⟩ := ch_holds (l := rsOf [(2, 3), (3, 5)]) (by decide) (x := 8) (by unfold Holds; decide)
 rw [joinT_ok (r := 8) (m := 15) (by rw [h1]; decide) h2, show ztxt (8 : Int) = _ from zt_pos 8 (by decide), txt2 15 (by decide) (by decide)]; rfl
theorem j1 : joinT [(1, 4), (3, 6)] = (ByteArray.mk #[57, 32, 98, 121, 32, 49, 50]) := by
 obtain ⟨h1, h2⟩ := ch_holds (l := rsOf [(1, 4), (3, 6)]) (by decide) (x := 9) (by unfold Holds; decide)
 rw [joinT_ok (r := 9) (m := 12) (by rw [h1]; decide) h2, show ztxt (9 : Int) = _ from zt_pos 9 (by decide), txt2 12 (by decide) (by decide)]; rfl
theorem j2 : joinT [(1, 4), (2, 6)] = noneT := by
 obtain ⟨h1, h2⟩ := ch_no (l := rsOf [(1, 4), (2, 6)]) (by decide) (fun x hx => by
  have g1 := hx (1, 4) (by decide)
  have g2 := hx (2, 6) (by decide)
  simp only at g1 g2
  omega)
 unfold joinT; rw [h2]; rfl
theorem j3 : joinT [] = (ByteArray.mk #[48, 32, 98, 121, 32, 49]) := by
 obtain ⟨h1, h2⟩ := ch_holds (l := rsOf []) (by decide) (x := 0) (by unfold Holds; decide)
 rw [joinT_ok (r := 0) (m := 1) (by rw [h1]; decide) h2, show ztxt (0 : Int) = _ from zt_pos 0 (by decide), txt1 1 (by decide)]; rfl
theorem fracL (n d : Int) (a1 : -9223372036854775808 ≤ n) (a2 : n < 9223372036854775808) (b1 : -9223372036854775808 ≤ d) (b2 : d < 9223372036854775808) (h0 : d ≠ 0) (w : World) :
  Calls Tryz.prog 63 #[.int .i64 n, .int .i64 d] w fun e w' => e = .returned (fracV ((n : Rat) / (d : Rat))) ∧ Below w.heap.size w w' :=
 pfrac_w n d 0 _ _ (fun w => ofF n d a1 a2 b1 b2 h0 w) w
theorem bk {a : Int} {m : Nat} {t : ByteArray} (h1 : -9223372036854775808 ≤ a) (h2 : a < 9223372036854775808) (h3 : m < 18446744073709551616) (h : backT a m = t) : ∀ w, Tab w → Calls Tryz.prog 61 #[.int .i64 a, .int .u64 (m : Int)] w fun e w' => e = .returned (.string t) ∧ Below w.heap.size w w' := fun w htab => by
 have := backL a m h1 h2 h3 w htab
 rwa [h] at this
theorem pworks_any (w : World) (htab : Tab w) : Calls Tryz.prog 15 #[] w fun e w' => e = .returned (.bool true) ∧ Below w.heap.size w w' := by
 have qa : ((1 : Int) : Rat) / ((2 : Int) : Rat) = mkRat 1 2 := by decide +kernel
 have qb : ((1 : Int) : Rat) / ((3 : Int) : Rat) = mkRat 1 3 := by decide +kernel
 have qc : ((2 : Int) : Rat) / ((1 : Int) : Rat) = mkRat 2 1 := by decide +kernel
 have sz : ∀ q : Rat, q.num.natAbs < 18446744073709551616 → q.den < 18446744073709551616 → Sz q 1 := szc
 have F1 := fun w => fracL 1 2 (by decide) (by decide) (by decide) (by decide) (by decide) w
 have F2 := fun w => fracL 1 3 (by decide) (by decide) (by decide) (by decide) (by decide) w
 have F3 := fun w => fracL 2 1 (by decide) (by decide) (by decide) (by decide) (by decide) w
 rw [qa] at F1; rw [qb] at F2; rw [qc] at F3
 have d9 : (digs 9).length ≤ 1 := digs_length_iff.2 (by rw [Nat.pow_one]; unfold Bs; decide)
 have G1 := fun w => fitsP (mkRat 1 2) 5 9 1 (sz _ (by decide +kernel) (by decide +kernel)) (dI_lit (by decide)) (by omega) (by omega) w
 have G2 := fun w => fitsP (mkRat 1 3) 0 9 1 (sz _ (by decide +kernel) (by decide +kernel)) (dI_lit (by decide)) (by omega) (by omega) w
 have G3 := fun w => farP (mkRat 2 1) 9 1 (sz _ (by decide +kernel) (by decide +kernel)) (by omega) w
 have G4 := fun w => farP (mkRat 2 1) 8 1 (sz _ (by decide +kernel) (by decide +kernel)) (by omega) w
 rw [show fitsB (mkRat 1 2) 5 9 = true from by decide +kernel] at G1
 rw [show fitsB (mkRat 1 3) 0 9 = false from by decide +kernel] at G2
 rw [show farB (mkRat 2 1) 9 = true from by decide +kernel] at G3
 rw [show farB (mkRat 2 1) 8 = false from by decide +kernel] at G4
 have JL := fun (ps : List (Int × Int)) (t : ByteArray) (e : joinT ps = t) (hl : ps.length ≤ 20) (hr : ∀ p ∈ ps, (-9223372036854775808 ≤ p.1 ∧ p.1 < 9223372036854775808) ∧ 0 ≤ p.2 ∧ p.2 < 4294967296) (v : Value) (w : World) (ht : Tab w) (hv : SlP w v ps) => by
  have := joinedL ps hl hr v w ht hv
  rw [e] at this; exact this
 exact pworks_w 5 0 _ _ _ 9 8 _ _ _
  (bk (m := 9) (by decide) (by decide) (by decide) (backT_yes (q := mkRat 1 2) (by decide +kernel) (by decide +kernel) qt_1_2)) (bk (m := 9) (by decide) (by decide) (by decide) (backT_yes (q := mkRat 1 2) (by decide +kernel) (by decide +kernel) qt_1_2))
  (bk (m := 9) (by decide) (by decide) (by decide) (backT_no (by decide +kernel))) (bk (m := 3) (by decide) (by decide) (by decide) (backT_yes (q := 0) (by decide +kernel) (by decide +kernel) qt_0)) (bk (m := 2) (by decide) (by decide) (by decide) (backT_no (by decide +kernel)))
  (bk (m := 101) (by decide) (by decide) (by decide) (backT_no (by decide +kernel))) (bk (m := 101) (by decide) (by decide) (by decide) (backT_yes (q := mkRat (-1) 3) (by decide +kernel) (by decide +kernel) qt_n1_3)) (bk (m := 101) (by decide) (by decide) (by decide) (backT_yes (q := mkRat 1 3) (by decide +kernel) (by decide +kernel) qt_1_3))
  (bk (m := 101) (by decide) (by decide) (by decide) (backT_yes (q := mkRat (-1) 5) (by decide +kernel) (by decide +kernel) qt_n1_5))
  (fun w => ofI 5 (by decide) (by decide) w) (fun w => of_val 9 9 rfl (by unfold Bs; omega) w) (fun w => ofI 0 (by decide) (by decide) w) (fun w => of_val 8 8 rfl (by unfold Bs; omega) w) F1 F2 F3 G1 G2 G3 G4
  (JL _ _ j0 (by decide) (by decide)) (JL _ _ j1 (by decide) (by decide)) (JL _ _ j2 (by decide) (by decide)) (JL _ _ j3 (by decide) (by decide)) w htab
end Go.Proofs.YtaimebjkidegiaaGreatDoor
namespace Go.Proofs.YtaimebjkidegiaaGreatDoor.Rx
open Go.RowKit
/-- The number that digits spell. -/
def tv : List Nat → Nat
 | [] => 0
 | d :: l => d + 10000 * tv l
theorem tv_nil : tv [] = 0 := rfl
/-- The digits of a number. -/
def td (n : Nat) : List Nat := if h : n = 0 then [] else n % 10000 :: td (n / 10000)
theorem td_zero : td 0 = [] := by rw [td, dif_pos rfl]
theorem td_pos {n : Nat} (h : n ≠ 0) : td n = n % 10000 :: td (n / 10000) := by rw [td, dif_neg h]
theorem td_lt (n : Nat) : ∀ d ∈ td n, d < 10000 := by
 induction n using Nat.strongRecOn with
 | _ n ih =>
  by_cases h : n = 0
  ·rw [h, td_zero]; intro d hd; cases hd
  ·rw [td_pos h]
   intro d hd
   rcases List.mem_cons.1 hd with rfl | hd
   ·omega
   ·exact ih (n / 10000) (by omega) d hd
theorem td_nil {n : Nat} : td n = [] ↔ n = 0 := by
 by_cases h : n = 0
 ·rw [h, td_zero]; simp
 ·rw [td_pos h]; simp [h]
theorem tv_append (l m : List Nat) : tv (l ++ m) = tv l + 10000 ^ l.length * tv m := by
 induction l with
 | nil => simp [tv]
 | cons d l ih => rw [List.cons_append, tv, ih, tv, List.length_cons, Nat.pow_succ, Nat.mul_add, Nat.mul_comm _ 10000, Nat.mul_assoc]; omega
theorem tv_lt {l : List Nat} (h : ∀ d ∈ l, d < 10000) : tv l < 10000 ^ l.length := by
 induction l with
 | nil => exact Nat.one_pos
 | cons d l ih =>
  have h1 := ih fun x hx => h x (List.mem_cons_of_mem _ hx)
  have h2 := h d List.mem_cons_self
  rw [tv, List.length_cons, Nat.pow_succ]
  omega
theorem tv_zeros (k : Nat) : tv (List.replicate k 0) = 0 := by
 induction k with
 | zero => rfl
 | succ k ih => rw [List.replicate_succ, tv, ih]
/-- Digits are those of their number, and zeros behind them. -/
theorem td_tv {l : List Nat} (h : ∀ d ∈ l, d < 10000) : ∃ z, l = td (tv l) ++ List.replicate z 0 := by
 induction l with
 | nil => exact ⟨0, by rw [tv, td_zero]; rfl⟩
 | cons d l ih =>
  obtain ⟨z, hz⟩ := ih fun x hx => h x (List.mem_cons_of_mem _ hx)
  have hd := h d List.mem_cons_self
  rw [tv]
  by_cases h0 : d + 10000 * tv l = 0
  ·have h1 : tv l = 0 := by omega
   rw [h1, td_zero, List.nil_append] at hz
   refine ⟨z + 1, ?_⟩
   rw [h0, td_zero, List.nil_append, List.replicate_succ, ← hz, show d = 0 by omega]
  ·refine ⟨z, ?_⟩
   rw [td_pos h0, show (d + 10000 * tv l) % 10000 = d by omega, show (d + 10000 * tv l) / 10000 = tv l by omega, List.cons_append, ← hz]
theorem td_length {n k : Nat} : (td n).length ≤ k ↔ n < 10000 ^ k := by
 induction k generalizing n with
 | zero =>
  rw [Nat.pow_zero]
  constructor
  ·intro h; have := td_nil.1 (List.eq_nil_of_length_eq_zero (l := td n) (by omega)); omega
  ·intro h; rw [show n = 0 by omega, td_zero]; exact Nat.le_refl _
 | succ k ih =>
  by_cases h : n = 0
  ·rw [h, td_zero]; exact ⟨fun _ => Nat.pow_pos (by omega), fun _ => Nat.zero_le _⟩
  ·rw [td_pos h, List.length_cons, Nat.pow_succ]
   have := ih (n := n / 10000)
   constructor
   ·intro h1; have := this.1 (by omega); omega
   ·intro h1; have := this.2 (by omega); omega
theorem tv_snoc (l : List Nat) (d : Nat) : tv (l ++ [d]) = tv l + 10000 ^ l.length * d := by rw [tv_append]; simp [tv]
theorem tv_take_getElem {l : List Nat} {k : Nat} (h : k < l.length) : tv (l.take (k + 1)) = tv (l.take k) + 10000 ^ k * l[k] := by
 rw [List.take_succ_eq_append_getElem h, tv_snoc, List.length_take, Nat.min_eq_left (Nat.le_of_lt h)]
theorem td_last {n : Nat} (h : td n ≠ []) : (td n).getLast h ≠ 0 := by
 induction n using Nat.strongRecOn with
 | _ n ih =>
  have h0 : n ≠ 0 := fun e => h (td_nil.2 e)
  by_cases h1 : n / 10000 = 0
  ·simp only [td_pos h0, h1, td_zero, List.getLast_singleton]; omega
  ·have h2 : td (n / 10000) ≠ [] := fun e => h1 (td_nil.1 e)
   have := ih (n / 10000) (by omega) h2
   simp only [td_pos h0]
   rwa [List.getLast_cons h2]
/-- A digit, or 0 behind the last one. -/
def dg (l : List Nat) (i : Nat) : Nat := l.getD i 0
theorem dg_lt {l : List Nat} (h : ∀ d ∈ l, d < 10000) (i : Nat) : dg l i < 10000 := by
 unfold dg
 rcases Nat.lt_or_ge i l.length with hi | hi
 ·simp [hi]; exact h _ (List.getElem_mem hi)
 ·simp [hi]
theorem dg_in {l : List Nat} {i : Nat} (h : i < l.length) : dg l i = l[i] := by unfold dg; simp [h]
theorem dg_out {l : List Nat} {i : Nat} (h : l.length ≤ i) : dg l i = 0 := by unfold dg; simp [h]
theorem tv_take (l : List Nat) (k : Nat) : tv (l.take (k + 1)) = tv (l.take k) + 10000 ^ k * dg l k := by
 rcases Nat.lt_or_ge k l.length with h | h
 ·rw [tv_take_getElem h, dg_in h]
 ·rw [dg_out h, List.take_of_length_le (by omega), List.take_of_length_le h]; omega
/-- A slice of ints that can be read. -/
structure Sd (w : World) (a : Addr) (l : List Nat) : Prop where
 cell : ∀ (i : Nat) (h : i < l.length), w.cell? (a.add i) = some (.int .i64 ((l[i] : Nat) : Int))
 blk : a.block < w.heap.size
theorem addB (a : Addr) (i : Nat) : (a.add i).block = a.block := by unfold Addr.add; split <;> rfl
theorem Sd.below {w w' : World} {a : Addr} {l : List Nat} (h : Sd w a l) (hb : Below w.heap.size w w') : Sd w' a l :=
 ⟨fun i hi => (hb.cell (p := a.add i) (by rw [addB]; exact h.blk)).trans (h.cell i hi), Nat.lt_of_lt_of_le h.blk hb.size⟩
theorem Sd.left {w : World} {a : Addr} {l m : List Nat} (h : Sd w a (l ++ m)) : Sd w a l :=
 ⟨fun i hi => by rw [h.cell i (by rw [List.length_append]; omega), List.getElem_append_left hi], h.blk⟩
def Sl (w : World) (v : Value) (l : List Nat) : Prop := (∃ ao c, v = .slice ao 0 c ∧ l = [] ∧ (ao = none → c = 0)) ∨ ∃ a c, v = .slice (some a) l.length c ∧ l.length ≤ c ∧ Sd w a l
theorem Sl.below {w w' : World} {v : Value} {l : List Nat} (h : Sl w v l) (hb : Below w.heap.size w w') : Sl w' v l := by
 rcases h with h | ⟨a, c, h1, h2, h3⟩
 ·exact .inl h
 ·exact .inr ⟨a, c, h1, h2, h3.below hb⟩
theorem Sl.form {w : World} {v : Value} {l : List Nat} (h : Sl w v l) : ∃ ao c, v = .slice ao l.length c := by
 rcases h with ⟨ao, c, rfl, rfl, -⟩ | ⟨a, c, rfl, _⟩
 ·exact ⟨_, _, rfl⟩
 ·exact ⟨_, _, rfl⟩
theorem Sl.nil (w : World) : Sl w (.slice none 0 0) [] := .inl ⟨_, _, rfl, rfl, fun _ => rfl⟩
theorem Sl.drew {w : World} {v : Value} {l : List Nat} (h : Sl w v l) : Sl w.drew v l := by
 rcases h with h | ⟨a, c, h1, h2, h3⟩
 ·exact .inl h
 ·exact .inr ⟨a, c, h1, h2, h3.cell, h3.blk⟩
abbrev iv (d : Nat) : Value := .int .i64 (d : Int)
end Go.Proofs.YtaimebjkidegiaaGreatDoor.Rx
namespace Go.Proofs.YtaimebjkidegiaaGreatDoor.Rx
open Go.RowKit
attribute [local irreducible] tv dg
def lenOf : Value → Nat | .slice _ n _ => n | _ => 0
theorem trim_nil (ao : Option Addr) (c : Nat) (w : World) :
  Calls Tryz.prog 128 #[.slice ao 0 c] w fun e w' => e = .returned (.slice ao 0 c) ∧ w = w' := by
 go_enter Tryz.func128, Tryz.ntmps128
 go_wp2_with fail
 go_loopw [0] (fun v wr => v = .slice ao 0 c ∧ wr = w) (fun v _ => lenOf v)
 case atStart => exact ⟨rfl, rfl⟩
 case round =>
  obtain ⟨rfl, rfl⟩ := hrel
  go_wp2_with fail
  go_ret
  exact ⟨rfl, rfl⟩
theorem trim_row (a : Addr) (c m z : Nat) (l : List Nat) (hm : l.length = m) (hc : m + z ≤ c) (hB : m + z < 9223372036854775807) (hlast : ∀ h : l ≠ [], l.getLast h ≠ 0) (w : World) (h : Sd w a (l ++ List.replicate z 0)) :
  Calls Tryz.prog 128 #[.slice (some a) (m + z) c] w fun e w' => e = .returned (.slice (some a) m c) ∧ w = w' := by
 have hz : ∀ k, k < z → w.cell? (a.add (m + k)) = some (.int .i64 0) := fun k hk => by
  rw [h.cell (m + k) (by simp; omega), List.getElem_append_right (by omega)]; simp
 have hl : ∀ p, m = p + 1 → ∃ d : Nat, d ≠ 0 ∧ w.cell? (a.add p) = some (.int .i64 (d : Int)) := fun p hp => by
  have hne : l ≠ [] := fun e => by rw [e] at hm; simp at hm; omega
  refine ⟨l.getLast hne, hlast hne, ?_⟩
  rw [h.cell p (by simp; omega), List.getElem_append_left (by omega), List.getLast_eq_getElem hne]
  simp [hm, hp]
 clear h hlast hm
 replace hz := Lib.hid hz
 replace hl := Lib.hid hl
 go_enter Tryz.func128, Tryz.ntmps128
 go_wp2_with fail
 go_loopw [0] (fun v wr => ∃ k, k ≤ z ∧ v = .slice (some a) (m + k) c ∧ wr = w) (fun v _ => lenOf v)
 case atStart => exact ⟨z, Nat.le_refl _, rfl, rfl⟩
 case round =>
  obtain ⟨k, hk, rfl, rfl⟩ := hrel
  cases k with
  | zero =>
   rw [Nat.add_zero]
   cases m with
   | zero =>
    go_wp2_with fail
    go_ret
    exact ⟨rfl, rfl⟩
   | succ p =>
    obtain ⟨d, hd, hcell⟩ := hl.out p rfl
    have hd1 : ((d : Int) == 0) = false := beq_eq_false_iff_ne.2 (by omega)
    go_wp2_with fail
    go_ret
    exact ⟨rfl, rfl⟩
  | succ j =>
   have hcell := hz.out j (by omega)
   rw [show m + (j + 1) = (m + j) + 1 from by omega]
   obtain ⟨q, hq⟩ : ∃ q, q = m + j := ⟨_, rfl⟩
   rw [← hq] at hcell ⊢
   have hqc : q + 1 ≤ c := by omega
   have hqB : q + 1 < 9223372036854775807 := by omega
   replace hq := Lib.hid hq
   go_wp2_with fail
   go_roundw
   case rel => exact ⟨j, by omega, by rw [hq.out], trivial⟩
   case measure => simp [lenOf]
/-- trim: the digits of a number. -/
theorem trim_any (v : Value) (l : List Nat) (hd : ∀ d ∈ l, d < 10000) (hB : l.length < 9223372036854775807) (w : World) (h : Sl w v l) :
  Calls Tryz.prog 128 #[v] w fun e w' => ∃ v', e = .returned v' ∧ Sl w v' (td (tv l)) ∧ w = w' := by
 obtain ⟨z, hz⟩ := td_tv hd
 rcases h with ⟨ao, c, rfl, rfl, hc0⟩ | ⟨a, c, rfl, h2, h3⟩
 ·refine (trim_nil ao c w).mono ?_
  rintro e w' ⟨rfl, rfl⟩
  exact ⟨_, rfl, .inl ⟨ao, c, rfl, by rw [tv_nil, td_zero], hc0⟩, rfl⟩
 ·have hlen : l.length = (td (tv l)).length + z := by
   have := congrArg List.length hz
   rwa [List.length_append, List.length_replicate] at this
  rw [hz] at h3
  rw [hlen] at h2 hB ⊢
  refine (trim_row a c _ z (td (tv l)) rfl h2 hB (fun h => td_last h) w h3).mono ?_
  rintro e w' ⟨rfl, rfl⟩
  exact ⟨_, rfl, .inr ⟨a, c, rfl, by omega, h3.left⟩, rfl⟩
end Go.Proofs.YtaimebjkidegiaaGreatDoor.Rx
namespace Go.Proofs.YtaimebjkidegiaaGreatDoor.Rx
open Go.RowKit
attribute [local irreducible] tv dg
/-- What the digits so far spell, with what is left. -/
theorem td_step {n k : Nat} (hk : k < (td n).length) : n / 10000 ^ k ≠ 0 ∧ (td n)[k] = n / 10000 ^ k % 10000 := by
 induction k generalizing n with
 | zero =>
  have h0 : n ≠ 0 := fun e => by rw [e, td_zero] at hk; exact absurd hk (by simp)
  simp only [Nat.pow_zero, Nat.div_one]
  refine ⟨h0, ?_⟩
  simp only [td_pos h0, List.getElem_cons_zero]
 | succ k ih =>
  have h0 : n ≠ 0 := fun e => by rw [e, td_zero] at hk; exact absurd hk (by simp)
  have hk' : k < (td (n / 10000)).length := by rw [td_pos h0, List.length_cons] at hk; omega
  have := ih hk'
  rw [Nat.div_div_eq_div_mul, Nat.mul_comm, ← Nat.pow_succ] at this
  refine ⟨this.1, ?_⟩
  simp only [td_pos h0, List.getElem_cons_succ]
  exact this.2
theorem td_end {n k : Nat} (hk : (td n).length ≤ k) : n / 10000 ^ k = 0 := Nat.div_eq_of_lt (td_length.1 hk)
end Go.Proofs.YtaimebjkidegiaaGreatDoor.Rx
namespace Go.Proofs.YtaimebjkidegiaaGreatDoor.Rx
open Go.RowKit
attribute [local irreducible] tv dg
/-- What Add's rounds keep. -/
structure AddS (A B S : List Nat) (i c : Nat) : Prop where
 len : S.length = i
 lt : ∀ d ∈ S, d < 10000
 car : c ≤ 1
 eq : tv S + 10000 ^ i * c = tv (A.take i) + tv (B.take i)
theorem AddS.step {A B S : List Nat} {i c : Nat} (h : AddS A B S i c) (hA : ∀ d ∈ A, d < 10000) (hB : ∀ d ∈ B, d < 10000) :
  AddS A B (S ++ [(dg A i + dg B i + c) % 10000]) (i + 1) ((dg A i + dg B i + c) / 10000) := by
 have h1 := dg_lt hA i
 have h2 := dg_lt hB i
 have h3 := h.car
 refine ⟨by rw [List.length_append, h.len]; rfl, fun d hd => ?_, by omega, ?_⟩
 ·rcases List.mem_append.1 hd with hd | hd
  ·exact h.lt d hd
  ·rw [List.mem_singleton.1 hd]; omega
 ·rw [tv_snoc, h.len, tv_take, tv_take, Nat.pow_succ]
  have h4 := h.eq
  generalize dg A i = x at *
  generalize dg B i = y at *
  have h5 : (x + y + c) % 10000 + 10000 * ((x + y + c) / 10000) = x + y + c := by omega
  have h6 : 10000 ^ i * ((x + y + c) % 10000) + 10000 ^ i * 10000 * ((x + y + c) / 10000) = 10000 ^ i * x + 10000 ^ i * y + 10000 ^ i * c := by
   rw [Nat.mul_assoc, ← Nat.mul_add, h5, Nat.mul_add, Nat.mul_add]
  generalize 10000 ^ i * ((x + y + c) % 10000) = p at *
  generalize 10000 ^ i * 10000 * ((x + y + c) / 10000) = q at *
  omega
end Go.Proofs.YtaimebjkidegiaaGreatDoor.Rx
namespace Go.Proofs.YtaimebjkidegiaaGreatDoor.Rx
open Go.RowKit
attribute [local irreducible] tv dg
/-- Block g holds just these ints. -/
def IB (w : World) (g : Nat) (l : List Nat) : Prop := w.heap[g]? = some (.cells (l.map iv).toArray 3 (0, 0))
section
variable {w w' : World} {g : Nat} {l : List Nat}
theorem IB.lt (h : IB w g l) : g < w.heap.size := (Array.getElem?_eq_some_iff.1 h).1
theorem IB.cell (h : IB w g l) (i : Nat) (hi : i < l.length) : w.cell? ⟨g, i, none⟩ = some (.int .i64 ((l[i] : Nat) : Int)) := by
 rw [cell_of_row w g i _ _ _ h]; simp [hi]
theorem IB.frozen (h : IB w g l) (i : Nat) : w.frozen? ⟨g, i, none⟩ = false := frozen_of_row w g i _ _ h
theorem IB.set (h : IB w g l) (i : Nat) (d : Nat) : IB (w.setCell ⟨g, i, none⟩ (.int .i64 (d : Int))) g (l.set i d) := by
 unfold IB at *
 rw [heap_setCell_same w g i _ _ _ h]
 congr 2
 rw [List.map_set]; simp
theorem IB.keep (h : IB w g l) (hk : w'.heap[g]? = w.heap[g]?) : IB w' g l := hk.trans h
theorem IB.below {B : Nat} (h : IB w g l) (hb : Below B w w') (hg : g < B) : IB w' g l := h.keep (hb.block g hg)
theorem IB.drewN (h : IB w g l) (n : Nat) : IB (w.drewN n) g l := h
end
/-- Zeros, as make lays them. -/
def zobjI (n : Nat) : Obj := .cells ((List.replicate n 0).map iv).toArray 3
theorem IB.zeros (w : World) (n : Nat) : IB (w.alloc (zobjI n)) w.heap.size (List.replicate n 0) := heap_alloc_new w _
theorem tv_set {l : List Nat} {j : Nat} (h : j < l.length) (d : Nat) : tv (l.set j d) + 10000 ^ j * l[j] = tv l + 10000 ^ j * d := by
 induction l generalizing j with
 | nil => exact absurd h (by simp)
 | cons x l ih =>
  cases j with
  | zero => simp only [List.set_cons_zero, List.getElem_cons_zero, tv, Nat.pow_zero, Nat.one_mul]; omega
  | succ j =>
   have hj : j < l.length := by simpa using h
   have := ih (j := j) hj
   simp only [List.set_cons_succ, List.getElem_cons_succ, tv, Nat.pow_succ]
   rw [Nat.mul_comm (10000 ^ j) 10000, Nat.mul_assoc, Nat.mul_assoc]
   generalize 10000 ^ j * l[j] = p at *
   generalize 10000 ^ j * d = q at *
   omega
/-- What Mul's inner rounds keep. -/
structure MulS (A B X : List Nat) (i k c : Nat) : Prop where
 len : X.length = A.length + B.length
 lt : ∀ d ∈ X, d < 10000
 car : c < 10000
 eq : tv X + 10000 ^ (i + k) * c = tv (A.take i) * tv B + 10000 ^ i * (dg A i * tv (B.take k))
theorem MulS.step {A B X : List Nat} {i k c : Nat} (h : MulS A B X i k c) (hA : ∀ d ∈ A, d < 10000) (hB : ∀ d ∈ B, d < 10000) (hj : i + k < X.length) {s : Nat} (hs : s = X[i + k] + dg A i * dg B k + c) :
  s < 100000000 ∧ MulS A B (X.set (i + k) (s % 10000)) i (k + 1) (s / 10000) := by
 have h1 := dg_lt hA i
 have h2 := dg_lt hB k
 have h3 := h.car
 have hx := h.lt _ (List.getElem_mem hj)
 have hp : dg A i * dg B k ≤ 9999 * 9999 := Nat.mul_le_mul (by omega) (by omega)
 have hs1 : s < 100000000 := by omega
 refine ⟨hs1, by rw [List.length_set]; exact h.len, fun d hd => ?_, by omega, ?_⟩
 ·rcases List.mem_or_eq_of_mem_set hd with hd | hd
  ·exact h.lt d hd
  ·omega
 ·have e1 := tv_set hj (s % 10000)
  have e2 := h.eq
  rw [tv_take, ← Nat.add_assoc, Nat.pow_succ]
  have e3 : s % 10000 + 10000 * (s / 10000) = X[i + k] + dg A i * dg B k + c := by omega
  have e4 : 10000 ^ (i + k) * (s % 10000) + 10000 ^ (i + k) * 10000 * (s / 10000) = 10000 ^ (i + k) * X[i + k] + 10000 ^ (i + k) * (dg A i * dg B k) + 10000 ^ (i + k) * c := by
   rw [Nat.mul_assoc, ← Nat.mul_add, e3, Nat.mul_add, Nat.mul_add]
  have e5 : 10000 ^ i * (dg A i * (tv (B.take k) + 10000 ^ k * dg B k)) = 10000 ^ i * (dg A i * tv (B.take k)) + 10000 ^ (i + k) * (dg A i * dg B k) := by
   rw [Nat.mul_add, Nat.mul_add, Nat.pow_add, Nat.mul_left_comm (dg A i), Nat.mul_assoc (10000 ^ i)]
  rw [e5]
  generalize 10000 ^ (i + k) * (s % 10000) = p1 at *
  generalize 10000 ^ (i + k) * 10000 * (s / 10000) = p2 at *
  generalize 10000 ^ (i + k) * X[i + k] = p3 at *
  generalize 10000 ^ (i + k) * (dg A i * dg B k) = p4 at *
  generalize 10000 ^ (i + k) * c = p5 at *
  generalize 10000 ^ i * (dg A i * tv (B.take k)) = p6 at *
  generalize tv (A.take i) * tv B = p7 at *
  generalize tv (X.set (i + k) (s % 10000)) = p8 at *
  generalize tv X = p9 at *
  omega
/-- Behind b's digits one carry may be left, and no more. -/
theorem MulS.carry {A B X : List Nat} {i k c : Nat} (h : MulS A B X i k c) (hA : ∀ d ∈ A, d < 10000) (hB : ∀ d ∈ B, d < 10000) (hi : i < A.length) (hk : B.length + 1 ≤ k) : c = 0 := by
 rcases Nat.eq_zero_or_pos c with h0 | h0
 ·exact h0
 ·have e := h.eq
  have e2 : tv (A.take i) * tv B + 10000 ^ i * (dg A i * tv (B.take k)) = tv (A.take (i + 1)) * tv B := by
   rw [List.take_of_length_le (l := B) (by omega), tv_take, Nat.add_mul, Nat.mul_assoc]
  have e3 : tv (A.take (i + 1)) < 10000 ^ (i + 1) := by
   have := tv_lt (l := A.take (i + 1)) fun d hd => hA d (List.mem_of_mem_take hd)
   rwa [List.length_take, Nat.min_eq_left (by omega)] at this
  have e4 := tv_lt hB
  have e5 : tv (A.take (i + 1)) * tv B < 10000 ^ (i + 1) * 10000 ^ B.length := Nat.lt_of_le_of_lt (Nat.mul_le_mul_left _ (Nat.le_of_lt e4)) (Nat.mul_lt_mul_of_pos_right e3 (Nat.pow_pos (by omega)))
  rw [← Nat.pow_add] at e5
  have e6 : 10000 ^ (i + 1 + B.length) ≤ 10000 ^ (i + k) := Nat.pow_le_pow_right (by omega) (by omega)
  have e7 : 10000 ^ (i + k) ≤ 10000 ^ (i + k) * c := Nat.le_mul_of_pos_right _ h0
  omega
theorem MulS.done {A B X : List Nat} {i k : Nat} (h : MulS A B X i k 0) (hk : B.length ≤ k) : MulS A B X (i + 1) 0 0 := by
 refine ⟨h.len, h.lt, by omega, ?_⟩
 have e := h.eq
 rw [List.take_of_length_le hk] at e
 rw [List.take_zero, tv_take, Nat.add_mul, Nat.mul_assoc]
 rw [Nat.mul_zero, Nat.add_zero] at e ⊢
 rw [e]
 have : tv [] = 0 := by unfold tv; rfl
 rw [this, Nat.mul_zero, Nat.mul_zero, Nat.add_zero]
theorem MulS.start (A B : List Nat) : MulS A B (List.replicate (A.length + B.length) 0) 0 0 0 := by
 refine ⟨List.length_replicate, fun d hd => by rw [(List.mem_replicate.1 hd).2]; omega, by omega, ?_⟩
 have : tv [] = 0 := by unfold tv; rfl
 rw [tv_zeros, List.take_zero, List.take_zero, this]
 simp
end Go.Proofs.YtaimebjkidegiaaGreatDoor.Rx
namespace Go.Proofs.YtaimebjkidegiaaGreatDoor.Rx
open Go.RowKit
attribute [local irreducible] tv dg
/-- A slice that holds a number's digits. -/
abbrev Rn (w : World) (v : Value) (n : Nat) : Prop := Sl w v (td n)
end Go.Proofs.YtaimebjkidegiaaGreatDoor.Rx
namespace Go.Proofs.YtaimebjkidegiaaGreatDoor.Rx
open Go.RowKit
attribute [local irreducible] tv dg cmpI
end Go.Proofs.YtaimebjkidegiaaGreatDoor.Rx
namespace Go.Proofs.YtaimebjkidegiaaGreatDoor.Rx
open Go.RowKit
attribute [local irreducible] tv dg cmpI
/-- What Sub's rounds keep. -/
structure SubS (A B S : List Nat) (i c : Nat) : Prop where
 len : S.length = i
 lt : ∀ d ∈ S, d < 10000
 car : c ≤ 1
 eq : tv (A.take i) + 10000 ^ i * c = tv S + tv (B.take i)
theorem SubS.step {A B S : List Nat} {i c d c' : Nat} (h : SubS A B S i c) (hd : d < 10000) (hc : c' ≤ 1) (he : d + dg B i + c = dg A i + 10000 * c') : SubS A B (S ++ [d]) (i + 1) c' := by
 refine ⟨by rw [List.length_append, h.len]; rfl, fun x hx => ?_, hc, ?_⟩
 ·rcases List.mem_append.1 hx with hx | hx
  ·exact h.lt x hx
  ·rw [List.mem_singleton.1 hx]; exact hd
 ·rw [tv_snoc, h.len, tv_take, tv_take, Nat.pow_succ]
  have h4 := h.eq
  have h6 : 10000 ^ i * d + 10000 ^ i * dg B i + 10000 ^ i * c = 10000 ^ i * dg A i + 10000 ^ i * 10000 * c' := by
   rw [Nat.mul_assoc, ← Nat.mul_add, ← Nat.mul_add, ← Nat.mul_add, he]
  generalize 10000 ^ i * d = p1 at *
  generalize 10000 ^ i * dg B i = p2 at *
  generalize 10000 ^ i * c = p3 at *
  generalize 10000 ^ i * dg A i = p4 at *
  generalize 10000 ^ i * 10000 * c' = p5 at *
  omega
theorem SubS.done {A B S : List Nat} {c : Nat} (h : SubS A B S A.length c) (hB : B.length ≤ A.length) (hle : tv B ≤ tv A) : tv S = tv A - tv B := by
 have e := h.eq
 rw [List.take_of_length_le (Nat.le_refl _), List.take_of_length_le hB] at e
 have h1 := tv_lt h.lt
 rw [h.len] at h1
 have hc := h.car
 rcases Nat.eq_zero_or_pos c with h0 | h0
 ·rw [h0, Nat.mul_zero] at e; omega
 ·rw [show c = 1 by omega, Nat.mul_one] at e; omega
end Go.Proofs.YtaimebjkidegiaaGreatDoor.Rx
namespace Go.Proofs.YtaimebjkidegiaaGreatDoor.Rx
open Go.RowKit
open Go.Lib (decDigits)
attribute [local irreducible] tv dg cmpI
/-- What Text has written behind digit i. -/
def TS (n i : Nat) (T : List UInt8) : Prop := (i < (td n).length ∧ decDigits n = decDigits (n / 10000 ^ i) ++ T) ∨ (i = (td n).length ∧ T = decDigits n)
theorem TS.start {n : Nat} (h : 0 < (td n).length) : TS n 0 [] := .inl ⟨h, by simp⟩
theorem TS.step {n i : Nat} {T : List UInt8} (h : TS n i T) (hl : i < (td n).length) (hi : i + 1 < (td n).length) : TS n (i + 1) (pad 4 ((td n)[i]'hl) ++ T) := by
 rcases h with ⟨h1, h2⟩ | ⟨h1, h2⟩
 ·refine .inl ⟨hi, ?_⟩
  have hd := (td_step h1).2
  have hq := (td_step hi).1
  have e : n / 10000 ^ i = n / 10000 ^ (i + 1) * 10 ^ 4 + (td n)[i] := by
   rw [hd, Nat.pow_succ, ← Nat.div_div_eq_div_mul]
   show _ = _ * 10000 + _
   omega
  have hlt : (td n)[i] < 10 ^ 4 := td_lt n _ (List.getElem_mem _)
  have := dec_mul_add 4 (n / 10000 ^ (i + 1)) ((td n)[i]) (by omega) hlt
  rw [h2, e, this, List.append_assoc]
 ·omega
theorem TS.last {n i : Nat} {T : List UInt8} (h : TS n i T) (hl : i < (td n).length) (hi : i + 1 = (td n).length) : 0 < (td n)[i]'hl ∧ TS n (i + 1) (decDigits ((td n)[i]'hl) ++ T) := by
 rcases h with ⟨h1, h2⟩ | ⟨h1, h2⟩
 ·have hd := td_step h1
  have h0 : n / 10000 ^ (i + 1) = 0 := td_end (by omega)
  have e : n / 10000 ^ i = (td n)[i] := by
   rw [hd.2]
   rw [Nat.pow_succ, ← Nat.div_div_eq_div_mul] at h0
   omega
  refine ⟨by rw [← e]; omega, .inr ⟨hi, ?_⟩⟩
  rw [h2, e]
 ·omega
theorem TS.len {n i : Nat} {T : List UInt8} (h : TS n i T) : T.length ≤ (decDigits n).length := by
 rcases h with ⟨h1, h2⟩ | ⟨h1, h2⟩
 ·rw [h2, List.length_append]; omega
 ·rw [h2]; exact Nat.le_refl _
end Go.Proofs.YtaimebjkidegiaaGreatDoor.Rx
namespace Go.Proofs.YtaimebjkidegiaaGreatDoor.Rx
open Go.RowKit
attribute [local irreducible] lo hs tv dg cmpI txt
end Go.Proofs.YtaimebjkidegiaaGreatDoor.Rx
namespace Go.Proofs.YtaimebjkidegiaaGreatDoor.Rx
open Go.RowKit
attribute [local irreducible] tv dg cmpI txt
/-- What is appended, chunk by chunk. -/
structure PS (l : List UInt8) (S : List Nat) (t e : Nat) : Prop where
 len : S.length = t
 lt : ∀ d ∈ S, d < 10000
 pos : e = l.length - 4 * t
 eq : tv S + 10000 ^ t * dval (l.take e) = dval l
theorem PS.step {l : List UInt8} {S : List Nat} {t e : Nat} (h : PS l S t e) (hd : ∀ c ∈ l, isDig c) (he : 0 < e) :
  dval ((l.drop (e - 4)).take (e - (e - 4))) < 10000 ∧ PS l (S ++ [dval ((l.drop (e - 4)).take (e - (e - 4)))]) (t + 1) (e - 4) := by
 have hle : e ≤ l.length := by have := h.pos; omega
 have hch : ((l.drop (e - 4)).take (e - (e - 4))).length = e - (e - 4) := by rw [List.length_take, List.length_drop]; omega
 have hlt : dval ((l.drop (e - 4)).take (e - (e - 4))) < 10000 := by
  have h1 := dval_lt (l := (l.drop (e - 4)).take (e - (e - 4))) fun c hc => hd c (List.mem_of_mem_drop (List.mem_of_mem_take hc))
  rw [hch] at h1
  exact Nat.lt_of_lt_of_le h1 (Nat.le_trans (Nat.pow_le_pow_right (by omega) (show e - (e - 4) ≤ 4 by omega)) (by decide))
 refine ⟨hlt, by rw [List.length_append, h.len]; rfl, fun d hx => ?_, by have := h.pos; omega, ?_⟩
 ·rcases List.mem_append.1 hx with hx | hx
  ·exact h.lt d hx
  ·rw [List.mem_singleton.1 hx]; exact hlt
 ·have e1 : l.take e = l.take (e - 4) ++ (l.drop (e - 4)).take (e - (e - 4)) := by
   have := List.take_add (l := l) (i := e - 4) (j := e - (e - 4))
   rw [show e - 4 + (e - (e - 4)) = e by omega] at this
   exact this
  have e2 := h.eq
  rw [e1, dval_append, hch] at e2
  rw [tv_snoc, h.len, Nat.pow_succ]
  generalize dval ((l.drop (e - 4)).take (e - (e - 4))) = d at *
  rcases Nat.lt_or_ge e 4 with h4 | h4
  ·have h0 : dval (l.take (e - 4)) = 0 := by rw [show e - 4 = 0 by omega, List.take_zero, dval_nil]
   rw [h0, Nat.zero_mul, Nat.zero_add] at e2
   rw [h0, Nat.mul_zero]; omega
  ·rw [show e - (e - 4) = 4 by omega] at e2
   rw [Nat.mul_add, Nat.mul_comm (dval _) (10 ^ 4), ← Nat.mul_assoc, show (10 : Nat) ^ 4 = 10000 by rfl] at e2
   omega
theorem PS.start (l : List UInt8) : PS l [] 0 l.length := ⟨rfl, (fun d hd => by cases hd), by omega, by rw [tv_nil, List.take_length]; simp⟩
end Go.Proofs.YtaimebjkidegiaaGreatDoor.Rx
namespace Go.Proofs.YtaimebjkidegiaaGreatDoor
open Go.RowKit Go.Proofs.YtaimebjkidegiaaGreatDoor.Rx
attribute [local irreducible] lo hs sm s64 c64 d64 b64 mh ml pd pc qd qc val hiB str cmpI srD lz nb isq dval
theorem sl_upd {w w' : World} {k : Nat} {c : List Value} {v : Value} {l : List Nat} (h : Sl w v l) (hu : Upd k w w') (hd : Hd w k c) (hc : ∀ v ∈ c, ∀ n, v ≠ .int .i64 n) : Sl w' v l := by
 rcases h with h | ⟨a, c1, h1, h2, h3⟩
 ·exact .inl h
 ·refine .inr ⟨a, c1, h1, h2, fun i hi => ?_, by rw [hu.size]; exact h3.blk⟩
  have hx := h3.cell i hi
  exact (World.cell?_of_block (w := w) (hu.block _ (hd.no_int hc hx))).trans hx
end Go.Proofs.YtaimebjkidegiaaGreatDoor
namespace Go.Proofs.YtaimebjkidegiaaGreatDoor
open Go.RowKit
section
variable {P : Program} {ops : Array Oper} {C : World → Prop}
/-- What an operation does: its value has the property in the world that it leaves. -/
def tyUpon (P : Program) (w : World) (T : Value → World → Prop) : Result Next → Prop
 | .ok (.value u) w' => Below w.heap.size w w' ∧ T u w'
 | .ok .skip w' => Below w.heap.size w w' ∧ T undef w'
 | .ok (.enter f args) w' => w' = w ∧ Calls P f args w (fun e w'' => ∃ u, e = .returned u ∧ T u w'' ∧ Below w.heap.size w w'')
 | _ => False
def TyAt (P : Program) (ops : Array Oper) (o : Oper) (a : Act) (w : World) (T : Value → World → Prop) : Prop :=
 if Region.wanted o (yielded ops a.tmps) then tyUpon P w T ((execOp a.eval o).run P w) else T undef w
theorem tyAt_none {o : Oper} {a : Act} {w : World} {T : Value → World → Prop} (hg : o.guard = none) (h : tyUpon P w T ((execOp a.eval o).run P w)) : TyAt P ops o a w T := by
 unfold TyAt
 rw [if_pos (by unfold Region.wanted; rw [hg])]
 exact h
/-- A call whose contract gives the property. -/
theorem ty_call {o : Oper} {a : Act} {w : World} {T : Value → World → Prop} {f : FuncId} {args : Array Value} (hr : (execOp a.eval o).run P w = .ok (.enter f args) w) (h : Calls P f args w fun e w'' => ∃ u, e = .returned u ∧ T u w'' ∧ Below w.heap.size w w'') : tyUpon P w T ((execOp a.eval o).run P w) := by
 rw [hr]; exact ⟨rfl, h⟩
/-- The frame with the values of the operations that have come up. -/
def putsIf : List Oper → Nat → (Nat → Bool) → (Nat → Value) → Act → Act
 | [], _, _, _, a => a
 | o :: l, k, b, v, a => putsIf l (k + 1) b v (if b k then a.put o.dst (v k) else a)
def putsV : List Oper → Nat → (Nat → Value) → Act → Act
 | [], _, _, a => a
 | o :: l, k, v, a => putsV l (k + 1) v (a.put o.dst (v k))
theorem putsIf_all {v : Nat → Value} {b : Nat → Bool} : ∀ (l : List Oper) (k : Nat) (a : Act), (∀ i, k ≤ i → i < k + l.length → b i = true) → putsIf l k b v a = putsV l k v a
 | [], _, _, _ => rfl
 | o :: l, k, a, h => by
  rw [putsIf, putsV, if_pos (h k (Nat.le_refl k) (by rw [List.length_cons]; omega))]
  exact putsIf_all l (k + 1) _ fun i h1 h2 => h i (by omega) (by rw [List.length_cons]; omega)
theorem putsIf_none {v : Nat → Value} {b : Nat → Bool} : ∀ (l : List Oper) (k : Nat) (a : Act), (∀ i, k ≤ i → i < k + l.length → b i = false) → putsIf l k b v a = a
 | [], _, _, _ => rfl
 | o :: l, k, a, h => by
  rw [putsIf, if_neg (by rw [h k (Nat.le_refl k) (by rw [List.length_cons]; omega)]; exact Bool.false_ne_true)]
  exact putsIf_none l (k + 1) _ fun i h1 h2 => h i (by omega) (by rw [List.length_cons]; omega)
theorem putsIf_congr {v v' : Nat → Value} {b b' : Nat → Bool} : ∀ (l : List Oper) (k : Nat) (a : Act), (∀ i, k ≤ i → i < k + l.length → b i = b' i ∧ (b i = true → v i = v' i)) → putsIf l k b v a = putsIf l k b' v' a
 | [], _, _, _ => rfl
 | o :: l, k, a, h => by
  obtain ⟨h1, h2⟩ := h k (Nat.le_refl k) (by rw [List.length_cons]; omega)
  rw [putsIf, putsIf]
  have e : (if b k = true then a.put o.dst (v k) else a) = (if b' k = true then a.put o.dst (v' k) else a) := by
   rw [← h1]
   by_cases hb : b k = true
   ·rw [if_pos hb, if_pos hb, h2 hb]
   ·rw [if_neg hb, if_neg hb]
  rw [e]
  exact putsIf_congr l (k + 1) _ fun i h1 h2 => h i (by omega) (by rw [List.length_cons]; omega)
/-- No two of them write one slot. -/
def apartD (d : Option Tmp) (l : List Oper) : Bool := l.all fun o => match d, o.dst with
 | some x, some y => !(x == y)
 | _, _ => true
def nodupD : List Oper → Bool
 | [] => true
 | o :: l => apartD o.dst l && nodupD l
theorem apartD_spec {d : Option Tmp} {l : List Oper} (h : apartD d l = true) {o : Oper} (ho : o ∈ l) {x : Tmp} (hx : d = some x) : o.dst ≠ some x := by
 intro e
 have := (List.all_eq_true.1 h) o ho
 subst hx
 simp only [e] at this
 simp at this
theorem put_late {v : Nat → Value} {b : Nat → Bool} {d : Option Tmp} {u : Value} : ∀ (l : List Oper) (k : Nat) (a : Act), apartD d l = true → putsIf l k b v (a.put d u) = (putsIf l k b v a).put d u
 | [], _, _, _ => rfl
 | o :: l, k, a, h => by
  have h0 := h
  simp only [apartD, List.all_cons, Bool.and_eq_true] at h
  rw [putsIf, putsIf]
  by_cases hb : b k = true
  ·rw [if_pos hb, if_pos hb]
   have : (a.put d u).put o.dst (v k) = (a.put o.dst (v k)).put d u := by
    cases d with
    | none => rfl
    | some x =>
     cases ho : o.dst with
     | none => rfl
     | some y =>
      have hne : y ≠ x := fun e => apartD_spec h0 List.mem_cons_self rfl (by rw [ho, e])
      exact Act.put_comm a u (v k) (fun d hd e => hne (Option.some.inj (e.trans hd.symm)))
   rw [this]
   exact put_late l (k + 1) _ h.2
  ·rw [if_neg hb, if_neg hb]; exact put_late l (k + 1) _ h.2
theorem put_at {v v' : Nat → Value} {b b' : Nat → Bool} {j : Nat} {u : Value} (hb : b j = false) (hb' : b' j = true) (hv : v' j = u) (hbb : ∀ i, i ≠ j → b' i = b i ∧ v' i = v i) :
  ∀ (l : List Oper) (k : Nat) (a : Act) (o : Oper), nodupD l = true → k ≤ j → l[j - k]? = some o → (putsIf l k b v a).put o.dst u = putsIf l k b' v' a
 | [], _, _, _, _, _, h => by simp at h
 | o1 :: l, k, a, o, hn, hk, h => by
  simp only [nodupD, Bool.and_eq_true] at hn
  rw [putsIf, putsIf]
  by_cases e : j = k
  ·subst e
   simp only [Nat.sub_self, List.getElem?_cons_zero, Option.some.injEq] at h
   subst h
   rw [if_neg (by rw [hb]; exact Bool.false_ne_true), if_pos hb', hv, ← put_late l (j + 1) a hn.1]
   exact putsIf_congr l (j + 1) _ fun i h1 h2 => ⟨(hbb i (by omega)).1.symm, fun _ => (hbb i (by omega)).2.symm⟩
  ·have hk' : k + 1 ≤ j := by omega
   rw [show j - k = (j - (k + 1)) + 1 by omega, List.getElem?_cons_succ] at h
   obtain ⟨h1, h2⟩ := hbb k (fun e' => e e'.symm)
   rw [h1, h2]
   exact put_at hb hb' hv hbb l (k + 1) _ o hn.2 hk' h
theorem put_get (a : Act) (d : Option Tmp) (u : Value) (t : Nat) : (a.put d u).tmps[t]? = if d = some t then (if t < a.tmps.size then some u else none) else a.tmps[t]? := by
 cases d with
 | none => simp [Act.put]
 | some x =>
  simp only [Act.put, Array.getElem?_setIfInBounds, Option.some.injEq]
  by_cases h : x = t
  ·subst h; simp
  ·simp [h]
theorem get_puts {v : Nat → Value} {b : Nat → Bool} {t : Nat} : ∀ (l : List Oper) (k : Nat) (a a' : Act), a.tmps[t]? = a'.tmps[t]? → (∀ i o, l[i]? = some o → o.dst = some t → b (k + i) = true) → (putsIf l k b v a).tmps[t]? = (putsV l k v a').tmps[t]?
 | [], _, _, _, h, _ => h
 | o :: l, k, a, a', h, hd => by
  rw [putsIf, putsV]
  refine get_puts l (k + 1) _ _ ?_ fun i o' ho' hd' => by have := hd (i + 1) o' (by simpa using ho') hd'; rwa [show k + (i + 1) = k + 1 + i by omega] at this
  have hsz : t < a.tmps.size ↔ t < a'.tmps.size := by
   constructor <;> intro h1
   ·rw [Array.getElem?_eq_getElem h1] at h; exact (Array.getElem?_eq_some_iff.1 h.symm).1
   ·rw [Array.getElem?_eq_getElem h1] at h; exact (Array.getElem?_eq_some_iff.1 h).1
  by_cases e : o.dst = some t
  ·have hb := hd 0 o (by simp) e
   rw [Nat.add_zero] at hb
   rw [if_pos hb, put_get, put_get, if_pos e, if_pos e]
   by_cases h2 : t < a.tmps.size
   ·rw [if_pos h2, if_pos (hsz.1 h2)]
   ·rw [if_neg h2, if_neg fun h3 => h2 (hsz.2 h3)]
  ·by_cases hb : b k = true
   ·rw [if_pos hb, put_get, put_get, if_neg e, if_neg e]; exact h
   ·rw [if_neg hb, put_get, if_neg e]; exact h
theorem wanted_same {a a' : Act} {o : Oper} (h : ∀ t ∈ o.looksAt ops, a.tmps[t]? = a'.tmps[t]?) : Region.wanted o (yielded ops a.tmps) = Region.wanted o (yielded ops a'.tmps) := by
 unfold Region.wanted
 cases hg : o.guard with
 | none => rfl
 | some gw =>
  obtain ⟨gg, want⟩ := gw
  have hy : yielded ops a.tmps gg = yielded ops a'.tmps gg := by
   unfold yielded
   cases ht : (ops[gg]?).bind (·.dst) with
   | none => rfl
   | some t =>
    have := h t (List.mem_append_right _ (by simp [hg, ht]))
    simp [this]
  simp only [hy]
theorem exec_same {a a' : Act} {o : Oper} (hs : ∀ cs b, o.op ≠ .select cs b) (h : ∀ t ∈ o.looksAt ops, a.tmps[t]? = a'.tmps[t]?) : execOp a.eval o = execOp a'.eval o :=
 execOp_congr o hs fun x hx => by
  cases x with
  | tmp t =>
   have ht : t ∈ o.looksAt ops := List.mem_append_left _ (List.mem_filterMap.2 ⟨_, by simpa using hx, rfl⟩)
   simp only [Act.eval, Array.getD_eq_getD_getElem?, h t ht]
  | _ => rfl
/-- Each of the first n waits for earlier ones alone, and for each of them that writes a slot that it looks at. -/
def depB (ops : Array Oper) (n : Nat) : Bool :=
 (List.range n).all fun j => (predsOf .any ops j).all (fun i => decide (i < j)) && match ops[j]? with
  | some o => (o.looksAt ops).all fun t => (List.range n).all fun i => match (ops[i]?).bind (·.dst) with
    | some d => !(d == t) || (predsOf .any ops j).contains i
    | none => true
  | none => true
theorem depB_pred {n j i : Nat} (h : depB ops n = true) (hj : j < n) (hi : i ∈ predsOf .any ops j) : i < j := by
 simp only [depB, List.all_eq_true, List.mem_range, Bool.and_eq_true, decide_eq_true_eq] at h
 exact (h j hj).1 i hi
theorem depB_looks {n j i : Nat} (h : depB ops n = true) (hj : j < n) (hi : i < n) {o o' : Oper} (ho : ops[j]? = some o) (ho' : ops[i]? = some o') {t : Tmp} (ht : t ∈ o.looksAt ops) (hd : o'.dst = some t) : i ∈ predsOf .any ops j := by
 simp only [depB, List.all_eq_true, List.mem_range, Bool.and_eq_true, decide_eq_true_eq] at h
 have h1 := (h j hj).2
 rw [ho] at h1
 simp only [List.all_eq_true, List.mem_range] at h1
 have h2 := h1 t ht i hi
 rw [ho'] at h2
 simp only [Option.bind_some, hd, beq_self_eq_true, Bool.not_true, Bool.false_or] at h2
 exact List.contains_iff_mem.1 h2
/-- A property that later worlds keep. -/
def Stays (T : Value → World → Prop) : Prop := ∀ v w w', Below w.heap.size w w' → T v w → T v w'
/-- How many of the first n have not come up. -/
def left (n : Nat) (listed : Array Bool) : Nat := (List.range n).countP fun i => !listed.getD i false
theorem left_zero {n : Nat} {listed : Array Bool} (h : left n listed = 0) : doneN n listed = true := by
 refine doneN_iff.2 fun i hi => ?_
 have := (List.countP_eq_zero.1 h) i (List.mem_range.2 hi)
 simpa using this
theorem left_some {n m : Nat} {listed : Array Bool} (h : left n listed = m + 1) : doneN n listed = false := by
 refine Bool.eq_false_iff.2 fun hd => ?_
 have : left n listed = 0 := List.countP_eq_zero.2 fun i hi => by simp [doneN_iff.1 hd i (List.mem_range.1 hi)]
 omega
theorem countP_drop {p q : Nat → Bool} {j : Nat} (hpq : ∀ i, i ≠ j → q i = p i) (hp : p j = true) (hq : q j = false) : ∀ (r : List Nat), r.Nodup → j ∈ r → r.countP p = r.countP q + 1
 | [], _, h => by cases h
 | x :: r, hn, h => by
  rw [List.nodup_cons] at hn
  rcases List.mem_cons.1 h with rfl | h
  ·rw [List.countP_cons_of_pos hp, List.countP_cons_of_neg (by rw [hq]; exact Bool.false_ne_true)]
   congr 1
   refine List.countP_congr fun i hi => ?_
   rw [hpq i (fun e => hn.1 (e ▸ hi))]
  ·have hx : x ≠ j := fun e => hn.1 (e ▸ h)
   have ih := countP_drop hpq hp hq r hn.2 h
   by_cases hpx : p x = true
   ·rw [List.countP_cons_of_pos hpx, List.countP_cons_of_pos (by rw [hpq x hx]; exact hpx), ih]
   ·rw [List.countP_cons_of_neg hpx, List.countP_cons_of_neg (by rw [hpq x hx]; exact hpx), ih]
theorem left_set {n j m : Nat} {listed : Array Bool} (hs : listed.size = ops.size) (hj : j < n) (hjs : j < ops.size) (hu : listed.getD j false = false) (h : left n listed = m + 1) : left n (listed.setIfInBounds j true) = m := by
 have := countP_drop (p := fun i => !listed.getD i false) (q := fun i => !(listed.setIfInBounds j true).getD i false) (j := j) (fun i hi => by simp only [getD_set_ne false (fun e => hi e.symm)]) (by simp [hu]) (by simp [hs, hjs]) (List.range n) List.nodup_range (List.mem_range.2 hj)
 unfold left at h ⊢
 omega
theorem ready_some {n m : Nat} {listed : Array Bool} (hs : listed.size = ops.size) (hn : n ≤ ops.size) (hD : depB ops n = true) (h : left n listed = m + 1) : Region.ready .any ops listed ≠ [] := by
  have hnd := left_some h
  have ex : ∃ i, i < n ∧ listed.getD i false = false := Classical.byContradiction fun hc => by
    have : doneN n listed = true := doneN_iff.2 fun i hi => by
      cases hv : listed.getD i false with
      | true => rfl
      | false => exact absurd ⟨i, hi, hv⟩ hc
    rw [this] at hnd; cases hnd
  have key : ∀ k i, i ≤ k → i < n → listed.getD i false = false → ∃ i, i ∈ Region.ready .any ops listed := by
    intro k
    induction k with
    | zero =>
      intro i hi h1 h2
      obtain rfl : i = 0 := by omega
      have ho : 0 < ops.size := by omega
      refine ⟨0, mem_ready.2 ⟨by have h3 : 0 < listed.size := by omega
                                 simpa [h3] using h2, ops[0], Array.getElem?_eq_getElem ho, fun e he hb => ?_⟩⟩
      have : e.on ∈ predsOf .any ops 0 := by
        unfold predsOf; rw [Array.getElem?_eq_getElem ho]
        exact List.mem_map.2 ⟨e, List.mem_filter.2 ⟨by simpa using he, hb⟩, rfl⟩
      have := depB_pred hD h1 this
      omega
    | succ k ih =>
      intro i hi h1 h2
      have ho : i < ops.size := by omega
      by_cases hall : ∀ p ∈ predsOf .any ops i, listed.getD p false = true
      · refine ⟨i, mem_ready.2 ⟨by have h3 : i < listed.size := by omega
                                   simpa [h3] using h2, ops[i], Array.getElem?_eq_getElem ho, fun e he hb => hall _ ?_⟩⟩
        unfold predsOf; rw [Array.getElem?_eq_getElem ho]
        exact List.mem_map.2 ⟨e, List.mem_filter.2 ⟨by simpa using he, hb⟩, rfl⟩
      · have : ∃ p, p ∈ predsOf .any ops i ∧ listed.getD p false = false := Classical.byContradiction fun hc => hall fun p hp => by
          cases hv : listed.getD p false with
          | true => rfl
          | false => exact absurd ⟨p, hp, hv⟩ hc
        obtain ⟨p, hp, hv⟩ := this
        have := depB_pred hD h1 hp
        exact ih p (by omega) (by omega) hv
  obtain ⟨i, h1, h2⟩ := ex
  obtain ⟨i, hi⟩ := key i i (Nat.le_refl _) h1 h2
  exact List.ne_nil_of_mem hi
theorem preds_of_ready {j : Nat} {listed : Array Bool} (hj : j ∈ Region.ready .any ops listed) : ∀ p ∈ predsOf .any ops j, listed.getD p false = true := by
 obtain ⟨-, o, ho, hall⟩ := mem_ready.1 hj
 intro p hp
 unfold predsOf at hp
 simp only [ho, List.mem_map, List.mem_filter] at hp
 obtain ⟨e, ⟨he, hb⟩, rfl⟩ := hp
 exact hall e (by simpa using he) hb
theorem wpAny_ty {n s : Nat} {l : List Oper} {T : Nat → Value → World → Prop} {w0 : World} {a0 : Act} {Q : Exit → Act → World → Prop} (hT : ∀ i, Stays (T i)) (hsel : Region.noSelect l.toArray = true) (hn : n ≤ l.length)
  (hB : barB .any l.toArray n = true) (hN : nodupD (l.take n) = true) (hD : depB l.toArray n = true)
  (hops : ∀ j o, j < n → l[j]? = some o → ∀ v w, Below w0.heap.size w0 w → (∀ p ∈ predsOf .any l.toArray j, T p (v p) w) → TyAt P l.toArray o (putsV (l.take n) 0 v a0) w (T j))
  (hend : ∀ v w, Below w0.heap.size w0 w → (∀ i, i < n → T i (v i) w) → wpAny P .any l.toArray Q s (canonL l.length n) (putsV (l.take n) 0 v a0) w) :
  ∀ (m : Nat) (listed : Array Bool) (v : Nat → Value) (w : World), left n listed = m → closedL .any l.toArray listed → sufL n l.toArray listed → Below w0.heap.size w0 w →
   (∀ i, i < n → listed.getD i false = true → T i (v i) w) → wpAny P .any l.toArray Q (s + m) listed (putsIf (l.take n) 0 (fun i => listed.getD i false) v a0) w := by
 intro m
 have hlen : (l.take n).length = n := by rw [List.length_take]; omega
 induction m with
 | zero =>
  intro listed v w hl hc hu hb ht
  have hd := left_zero hl
  rw [putsIf_all (l.take n) 0 a0 fun i _ h2 => doneN_iff.1 hd i (by omega)]
  have e := canon_of hu hd
  rw [show l.toArray.size = l.length by simp] at e
  rw [e]
  exact hend v w hb fun i hi => ht i hi (doneN_iff.1 hd i hi)
 | succ m ih =>
  intro listed v w hl hc hu hb ht
  have hnd := left_some hl
  refine ⟨fun h0 => absurd h0 (ready_some hu.1 (by simpa using hn) hD hl), fun j hj => ?_⟩
  have hjn := bar hB hc hj hnd
  obtain ⟨hju, o, ho, -⟩ := mem_ready.1 hj
  have hpre := preds_of_ready hj
  have hol : l[j]? = some o := by simpa using ho
  have hjs : j < l.toArray.size := (Array.getElem?_eq_some_iff.1 ho).1
  have hty := hops j o hjn hol v w hb fun p hp => ht p (by have := depB_pred hD hjn hp; omega) (hpre p hp)
  have hag : ∀ t ∈ o.looksAt l.toArray, (putsIf (l.take n) 0 (fun i => listed.getD i false) v a0).tmps[t]? = (putsV (l.take n) 0 v a0).tmps[t]? := fun t ht' =>
   get_puts (l.take n) 0 a0 a0 rfl fun i o' ho' hd' => by
    have hin : i < n := by rw [← hlen]; exact (List.getElem?_eq_some_iff.1 ho').1
    have ho2 : l.toArray[i]? = some o' := by rw [List.getElem?_take, if_pos hin] at ho'; simpa using ho'
    rw [Nat.zero_add]
    exact hpre i (depB_looks hD hjn hin ho ho2 ht' hd')
  have step : ∀ u w', Below w.heap.size w w' → T j u w' → wpAny P .any l.toArray Q (s + m) (listed.setIfInBounds j true) ((putsIf (l.take n) 0 (fun i => listed.getD i false) v a0).put o.dst u) w' := by
   intro u w' hw' hu'
   have e := put_at (v := v) (v' := fun i => if i = j then u else v i) (b := fun i => listed.getD i false) (b' := fun i => (listed.setIfInBounds j true).getD i false) (j := j) (u := u) (unl hju) (by simp [hu.1]; simpa using hjs) (by simp)
    (fun i hi => ⟨getD_set_ne false fun e => hi e.symm, by simp [hi]⟩) (l.take n) 0 a0 o hN (Nat.zero_le _) (by rw [Nat.sub_zero, List.getElem?_take, if_pos hjn]; exact hol)
   rw [e]
   refine ih _ _ w' (left_set (ops := l.toArray) hu.1 hjn hjs (unl hju) hl) (hc.set hj) ⟨by simpa using hu.1, fun k hk hks => by rw [getD_set_ne true (by omega)]; exact hu.2 k hk hks⟩ (hb.trans (hw'.mono hb.size)) fun i hi hli => ?_
   by_cases e : i = j
   ·subst e; simpa using hu'
   ·rw [getD_set_ne false fun e' => e e'.symm] at hli
    simp only [if_neg e]
    exact hT i _ _ _ hw' (ht i hi hli)
  unfold wpOp
  simp only [ho]
  unfold TyAt at hty
  rw [← wanted_same hag] at hty
  by_cases hw : Region.wanted o (yielded l.toArray (putsIf (l.take n) 0 (fun i => listed.getD i false) v a0).tmps) = true
  ·simp only [hw, if_true] at hty ⊢
   refine .inl ?_
   unfold Oper.wp
   rw [exec_same (fun cs b => Region.noSelect_spec hsel j o cs b ho) hag]
   generalize (execOp (putsV (l.take n) 0 v a0).eval o).run P w = r at *
   cases r with
   | ok nx w' =>
    cases nx <;> simp only [tyUpon] at hty <;> simp only [Oper.upon]
    case value u => exact step u w' hty.1 hty.2
    case skip => exact step undef w' hty.1 hty.2
    case enter f args =>
     obtain ⟨rfl, hcall⟩ := hty
     exact hcall.mono fun e w'' ⟨u, he, h1, h2⟩ => by subst he; exact step u w'' h2 h1
   | halt x w' => simp only [tyUpon] at hty
  ·simp only [hw] at hty ⊢
   exact step undef w (Below.refl _ _) hty
def tyB (n : Nat) (l : List Oper) : Bool :=
 Region.noSelect l.toArray && decide (n ≤ l.length) && barB .any l.toArray n && nodupD (l.take n) && depB l.toArray n && seqB .any l.toArray (l.length - n) n (canonL l.length n)
/-- **A region whose first n operations each give a value of a property; then the others, in their order.** -/
theorem region_ty (n : Nat) (T : Nat → Value → World → Prop) {id : Nat} {Q : Exit → Act → World → Prop} {a : Act} {w : World} {l : List Oper} (hm : P.follows .mixedOrders = true) (hB : tyB n l = true) (hT : ∀ i, Stays (T i))
  (hops : ∀ j o, j < n → l[j]? = some o → ∀ v w1, Below w.drew.heap.size w.drew w1 → (∀ p ∈ predsOf .any l.toArray j, T p (v p) w1) → TyAt P l.toArray o (putsV (l.take n) 0 v a) w1 (T j))
  (hend : ∀ v w1, Below w.drew.heap.size w.drew w1 → (∀ i, i < n → T i (v i) w1) → wpList P l.toArray Q (l.drop n) (putsV (l.take n) 0 v a) w1) : (Code.region id l.toArray true).wp P Q a w := by
 simp only [tyB, Bool.and_eq_true, decide_eq_true_eq] at hB
 obtain ⟨⟨⟨⟨⟨hs, hn⟩, hb⟩, hN⟩, hD⟩, hq⟩ := hB
 refine wp_region_any hm ?_
 have hrep : ∀ i, (Array.replicate l.length false).getD i false = false := fun i => by
  rcases Nat.lt_or_ge i l.length with h' | h' <;> simp [h']
 have h0 : closedL .any l.toArray (Array.replicate l.length false) := fun j o _ hl => by rw [hrep] at hl; cases hl
 have hleft : left n (Array.replicate l.length false) = n := by
  unfold left
  rw [List.countP_eq_length.2 fun i _ => by rw [hrep]; rfl, List.length_range]
 have h2 := wpAny_ty (P := P) (s := l.length - n) (Q := Q) (a0 := a) hT hs hn hb hN hD hops (fun v w1 h1 h2 => by
   have h3 := wpAny_of_seq (md := .any) (P := P) (Q' := Q) (l.drop n) n (canonL l.length n) (putsV (l.take n) 0 v a) w1 (fun j hj => by simp [List.getElem?_drop]) (by rw [List.length_drop]; exact hq) (hend v w1 h1 h2)
   rw [List.length_drop] at h3
   exact h3) n (Array.replicate l.length false) (fun _ => undef) w.drew hleft h0 ⟨by simp, fun j _ hj => by simp at hj; simp [hj]⟩ (Below.refl _ _) (fun i _ hl => by rw [hrep] at hl; cases hl)
 rw [putsIf_none (l.take n) 0 a fun i _ _ => hrep i, Nat.sub_add_cancel hn] at h2
 simpa using h2
theorem stays_nil : ∀ i : Nat, Stays (([] : List (Value → World → Prop)).getD i (fun _ _ => True)) := fun i => by simp [Stays]
theorem stays_cons {T : Value → World → Prop} {L : List (Value → World → Prop)} (h : Stays T) (hL : ∀ i : Nat, Stays (L.getD i (fun _ _ => True))) : ∀ i : Nat, Stays ((T :: L).getD i (fun _ _ => True))
 | 0 => h
 | i + 1 => by simpa using hL i
theorem stays_eq (c : Value) : Stays (fun u _ => u = c) := fun _ _ _ _ h => h
/-- The operations, one obligation each. -/
def hopsR (P : Program) (ops : Array Oper) (T : Nat → Value → World → Prop) (w0 : World) (F : (Nat → Value) → Act) : List Oper → Nat → Prop
 | [], _ => True
 | o :: l, k => (∀ v w1, Below w0.heap.size w0 w1 → (∀ p ∈ predsOf .any ops k, T p (v p) w1) → TyAt P ops o (F v) w1 (T k)) ∧ hopsR P ops T w0 F l (k + 1)
theorem hops_of {T : Nat → Value → World → Prop} {w0 : World} {F : (Nat → Value) → Act} : ∀ (l : List Oper) (k : Nat), hopsR P ops T w0 F l k → ∀ j o, l[j]? = some o → ∀ v w1, Below w0.heap.size w0 w1 → (∀ p ∈ predsOf .any ops (k + j), T p (v p) w1) → TyAt P ops o (F v) w1 (T (k + j))
 | [], _, _, j, o, h => by simp at h
 | o' :: l, k, hh, 0, o, h => by
  simp only [List.getElem?_cons_zero, Option.some.injEq] at h
  subst h; exact hh.1
 | o' :: l, k, hh, j + 1, o, h => by
  have := hops_of l (k + 1) hh.2 j o (by simpa using h)
  rwa [show k + 1 + j = k + (j + 1) by omega] at this
/-- region_ty, with its properties as a list. -/
theorem region_tl (n : Nat) (L : List (Value → World → Prop)) {id : Nat} {Q : Exit → Act → World → Prop} {a : Act} {w : World} {l : List Oper} (hm : P.follows .mixedOrders = true) (hB : tyB n l = true) (hT : ∀ i, Stays (L.getD i (fun _ _ => True)))
  (hops : hopsR P l.toArray (fun i => L.getD i (fun _ _ => True)) w.drew (fun v => putsV (l.take n) 0 v a) (l.take n) 0)
  (hend : ∀ v w1, Below w.drew.heap.size w.drew w1 → (∀ i, i < n → L.getD i (fun _ _ => True) (v i) w1) → wpList P l.toArray Q (l.drop n) (putsV (l.take n) 0 v a) w1) : (Code.region id l.toArray true).wp P Q a w :=
 region_ty n (fun i => L.getD i (fun _ _ => True)) hm hB hT (fun j o hj ho v w1 hb hp => by
  have := hops_of (l.take n) 0 hops j o (by rw [List.getElem?_take, if_pos hj]; exact ho) v w1 hb (by rw [Nat.zero_add]; exact hp)
  rwa [Nat.zero_add] at this) hend
end
end Go.Proofs.YtaimebjkidegiaaGreatDoor
namespace Go.Proofs.YtaimebjkidegiaaGreatDoor
open Go.RowKit Go.Proofs.YtaimebjkidegiaaGreatDoor.Rx
/-- A struct of the reference that stands for an integer. -/
def RZ (w : World) (v : Value) (z : Int) : Prop := ∃ u, v = .agg #[.bool (decide (z < 0)), u] ∧ Rn w u z.natAbs
theorem RZ.below {w w' : World} {v : Value} {z : Int} (h : RZ w v z) (hb : Below w.heap.size w w') : RZ w' v z := by
 obtain ⟨u, h1, h2⟩ := h
 exact ⟨u, h1, Sl.below h2 hb⟩
theorem RZ.of {w : World} {b : Bool} {u : Value} {n : Nat} {z : Int} (h : Rn w u n) (hb : b = decide (z < 0)) (hn : n = z.natAbs) : RZ w (.agg #[.bool b, u]) z := ⟨u, by rw [hb], by rw [← hn]; exact h⟩
end Go.Proofs.YtaimebjkidegiaaGreatDoor
namespace Go.Proofs.YtaimebjkidegiaaGreatDoor
open Go.RowKit
section
variable {P : Program} {ops : Array Oper} {C : World → Prop}
theorem alloc_run {P : Program} {o : Oper} {ev : Operand → Value} {e t : TypeId} {c : Array Value} (he : o.op = .alloc e) (h : ∀ w, (Instr.alloc e true (.tuple #[])).run P w = .ok (.pointer (some ⟨w.heap.size, 0, none⟩)) (w.alloc (.cells c t))) (w : World) :
  (execOp ev o).run P w = .ok (.value (.pointer (some ⟨w.heap.size, 0, none⟩))) (w.alloc (.cells c t)) := by
 simp only [execOp, he]
 rw [Sem.run_bind, h w]
 rfl
/-- What the operations that make boxes do. -/
def newR (P : Program) (l : List Oper) : List Nat → Prop
 | [] => True
 | j :: A => (∃ o e c t, l[j]? = some o ∧ o.guard = none ∧ o.op = .alloc e ∧ ∀ w, (Instr.alloc e true (.tuple #[])).run P w = .ok (.pointer (some ⟨w.heap.size, 0, none⟩)) (w.alloc (.cells c t))) ∧ newR P l A
theorem newR_spec {P : Program} {l : List Oper} : ∀ {A : List Nat}, newR P l A → ∀ j o, l[j]? = some o → A.contains j = true → o.guard = none ∧ ∃ e c t, o.op = .alloc e ∧ ∀ w, (Instr.alloc e true (.tuple #[])).run P w = .ok (.pointer (some ⟨w.heap.size, 0, none⟩)) (w.alloc (.cells c t))
 | [], _, _, _, _, hA => by simp at hA
 | k :: A, h, j, o, ho, hA => by
  obtain ⟨⟨o', e, c, t, h1, h2, h3, h4⟩, hr⟩ := h
  rcases List.mem_cons.1 (List.contains_iff_mem.1 hA) with e1 | e1
  ·subst e1
   rw [ho] at h1
   obtain rfl := Option.some.inj h1
   exact ⟨h2, e, c, t, h3, h4⟩
  ·exact newR_spec hr j o ho (List.contains_iff_mem.2 e1)
end
end Go.Proofs.YtaimebjkidegiaaGreatDoor
namespace Go.Proofs.YtaimebjkidegiaaGreatDoor
open Go.RowKit Go.Proofs.YtaimebjkidegiaaGreatDoor.Rx
/-- The slices of digits that a call has got hold of. -/
def SS (W : World) (S : List (Value × Nat)) : Prop := ∀ p ∈ S, Rn W p.1 p.2
theorem SS.nil (W : World) : SS W [] := fun p hp => by cases hp
theorem SS.call {W W' : World} {S : List (Value × Nat)} (h : SS W S) (hb : Below W.heap.size W W') : SS W' S := fun p hp => Sl.below (h p hp) hb
theorem SS.new {W : World} {S : List (Value × Nat)} (h : SS W S) (o : Obj) : SS (W.alloc o) S := h.call ((Below.refl _ _).alloc (Nat.le_refl _) o)
theorem SS.cons {W : World} {S : List (Value × Nat)} (h : SS W S) {v : Value} {n : Nat} (hv : Rn W v n) : SS W ((v, n) :: S) := fun p hp => by
 rcases List.mem_cons.1 hp with rfl | hp
 ·exact hv
 ·exact h p hp
theorem SS.put {W W' : World} {S : List (Value × Nat)} (h : SS W S) {k : Nat} {c : List Value} (hu : Upd k W W') (hd : Hd W k c) (hc : ∀ v ∈ c, ∀ n, v ≠ .int .i64 n) : SS W' S := fun p hp => sl_upd (h p hp) hu hd hc
theorem SS.drew {W : World} {S : List (Value × Nat)} (h : SS W S) : SS W.drew S := fun p hp => Sl.drew (h p hp)
theorem SS.get {W : World} {S : List (Value × Nat)} (h : SS W S) {v : Value} {n : Nat} (hm : (v, n) ∈ S) : Rn W v n := h _ hm
/-- A typed region's properties, in short. -/
abbrev EV (v : Value) : Value → World → Prop := fun u _ => u = v
theorem LC {l : List Nat} {a : Nat} (h : l.contains a = true) : a ∈ l := List.contains_iff_mem.1 h
end Go.Proofs.YtaimebjkidegiaaGreatDoor
namespace Go.Proofs.YtaimebjkidegiaaGreatDoor
open Go.RowKit
section
variable {P : Program} {ops : Array Oper} {C : World → Prop}
/-- As tyB, but the store n does not wait for the operation i0. -/
def lateB (n i0 : Nat) (l : List Oper) : Bool :=
 ((List.range l.length).all fun j => decide (j < n) || ((List.range n).all fun i => (decide (j = n) && decide (i = i0)) || (ancOf .any l.toArray j).contains i) && (decide (j = n) || (ancOf .any l.toArray j).contains n)) &&
 decide (i0 < n) && decide (n < l.length) &&
 match l[n]?, l[i0]? with
 | some o, some q => o.guard.isNone && o.dst.isNone && q.guard.isNone && (o.looksAt l.toArray).all fun t => !(q.dst == some t)
 | _, _ => false
theorem lateB_parts {n i0 : Nat} {l : List Oper} (h : lateB n i0 l = true) : i0 < n ∧ n < l.length ∧ ∃ o q, l[n]? = some o ∧ l[i0]? = some q ∧ o.guard = none ∧ o.dst = none ∧ q.guard = none ∧ ∀ t ∈ o.looksAt l.toArray, q.dst ≠ some t := by
 simp only [lateB, Bool.and_eq_true, decide_eq_true_eq] at h
 obtain ⟨⟨⟨-, h1⟩, h2⟩, h3⟩ := h
 refine ⟨h1, h2, ?_⟩
 split at h3
 ·rename_i o q ho hq
  simp only [Bool.and_eq_true, Option.isNone_iff_eq_none, List.all_eq_true, Bool.not_eq_true', beq_eq_false_iff_ne] at h3
  exact ⟨o, q, ho, hq, h3.1.1.1, h3.1.1.2, h3.1.2, h3.2⟩
 ·cases h3
theorem anc_listed {ops : Array Oper} {listed : Array Bool} {j : Nat} (h : closedL .any ops listed) (hj : j ∈ Region.ready .any ops listed) {i : Nat} (hi : (ancOf .any ops j).contains i = true) : listed.getD i false = true := by
 obtain ⟨-, o, ho, hall⟩ := mem_ready.1 hj
 have hp : ∀ x ∈ predsOf .any ops j, listed.getD x false = true := by
  intro x hx
  unfold predsOf at hx
  simp only [ho, List.mem_map, List.mem_filter] at hx
  obtain ⟨e, ⟨he, hb⟩, rfl⟩ := hx
  exact hall e (by simpa using he) hb
 exact fold_listed h _ _ hp i (List.contains_iff_mem.1 hi)
theorem lateB_at {n i0 : Nat} {l : List Oper} {listed : Array Bool} {j : Nat} (hB : lateB n i0 l = true) (h : closedL .any l.toArray listed) (hj : j ∈ Region.ready .any l.toArray listed) (hn : ¬ j < n) :
  (∀ i, i < n → ¬ (j = n ∧ i = i0) → listed.getD i false = true) ∧ (j ≠ n → listed.getD n false = true) := by
 obtain ⟨-, o, ho, -⟩ := mem_ready.1 hj
 have hjs : j < l.length := by simpa using (Array.getElem?_eq_some_iff.1 ho).1
 simp only [lateB, Bool.and_eq_true] at hB
 have h1 := List.all_eq_true.1 hB.1.1.1 j (List.mem_range.2 hjs)
 simp only [Bool.or_eq_true, Bool.and_eq_true, decide_eq_true_eq, List.all_eq_true, List.mem_range] at h1
 rcases h1 with h1 | ⟨h1, h2⟩
 ·exact absurd h1 hn
 ·refine ⟨fun i hi hne => ?_, fun hne => ?_⟩
  ·rcases h1 i hi with h3 | h3
   ·exact absurd h3 hne
   ·exact anc_listed h hj h3
  ·rcases h2 with h3 | h3
   ·exact absurd h3 hne
   ·exact anc_listed h hj h3
theorem lateB_bar {n i0 : Nat} {l : List Oper} {listed : Array Bool} {j : Nat} (hB : lateB n i0 l = true) (h : closedL .any l.toArray listed) (hj : j ∈ Region.ready .any l.toArray listed) (hd : doneN n listed = false) (hn : ¬ j < n) :
  n = j ∧ ∀ i, i < n → i ≠ i0 → listed.getD i false = true := by
 obtain ⟨h1, h2⟩ := lateB_at hB h hj hn
 by_cases e : j = n
 ·exact ⟨e.symm, fun i hi hne => h1 i hi fun hh => hne hh.2⟩
 ·have : doneN n listed = true := doneN_iff.2 fun i hi => h1 i hi fun hh => e hh.1
  rw [hd] at this; cases this
theorem late_step {n s i0 : Nat} {l : List Oper} {T : Nat → Value → World → Prop} {w0 : World} {a0 : Act} {Q : Exit → Act → World → Prop} {A : Nat → Bool} (hsel : Region.noSelect l.toArray = true) (hn : n ≤ l.length)
  (hB : lateB n i0 l = true) (hN : nodupD (l.take n) = true) (hD : depB l.toArray n = true)
  (hlate : ∀ v w, Below w0.heap.size w0 w → (∀ i, i < n → i ≠ i0 → T i (v i) w) → ∃ w1 u, (∀ o, l[n]? = some o → (execOp (putsV (l.take n) 0 v a0).eval o).run P w = .ok .skip w1) ∧ (∀ o, l[i0]? = some o → (execOp (putsV (l.take n) 0 v a0).eval o).run P w1 = .ok (.value u) w1) ∧ T i0 u w) (hA0 : A i0 = false)
  (hend : ∀ v w, Below w0.heap.size w0 w → (∀ i, i < n → T i (v i) w) → (∀ i j, i < n → j < n → i ≠ j → A i = true → A j = true → v i ≠ v j) → wpAny P .any l.toArray Q s (canonL l.length n) (putsV (l.take n) 0 v a0) w)
  {m : Nat} {listed : Array Bool} {v : Nat → Value} {w : World} (hl : left n listed = m + 1) (hc : closedL .any l.toArray listed) (hu : sufL n l.toArray listed) (hb : Below w0.heap.size w0 w)
  (ht : ∀ i, i < n → listed.getD i false = true → T i (v i) w) (hne : ∀ i j, i < n → j < n → i ≠ j → A i = true → A j = true → listed.getD i false = true → listed.getD j false = true → v i ≠ v j)
  (hj : n ∈ Region.ready .any l.toArray listed) (hall : ∀ i, i < n → i ≠ i0 → listed.getD i false = true) :
  wpOp P l.toArray Q n (wpAny P .any l.toArray Q (s + m) (listed.setIfInBounds n true)) (putsIf (l.take n) 0 (fun i => listed.getD i false) v a0) w := by
 have hlen : (l.take n).length = n := by rw [List.length_take]; omega
 obtain ⟨hi0, hnl, o, q, ho, hq, go, od, gq, hlook⟩ := lateB_parts hB
 have hi0u : listed.getD i0 false = false := by
  rcases Bool.eq_false_or_eq_true (listed.getD i0 false) with h | h
  ·exfalso
   have : doneN n listed = true := doneN_iff.2 fun i hi => by
    by_cases e : i = i0
    ·subst e; exact h
    ·exact hall i hi e
   rw [left_some hl] at this; cases this
  ·exact h
 have hi0s : i0 < listed.size := by rw [hu.1]; simp; omega
 have hns : n < listed.size := by rw [hu.1]; simp; omega
 have hin0 : i0 ≠ n := by omega
 -- the rest of the first n
 have hm0 : left n (listed.setIfInBounds i0 true) = m := left_set (ops := l.toArray) hu.1 hi0 (by simp; omega) hi0u hl
 have hd0 : doneN n (listed.setIfInBounds i0 true) = true := doneN_iff.2 fun i hi => by
  by_cases e : i = i0
  ·subst e; simp [hi0s]
  ·rw [getD_set_ne false fun h => e h.symm]; exact hall i hi e
 have hm : m = 0 := by
  rw [← hm0]; unfold left
  exact List.countP_eq_zero.2 fun i hi => by simp [doneN_iff.1 hd0 i (List.mem_range.1 hi)]
 subst hm
 obtain ⟨w1, u, hs, hx, hTu⟩ := hlate v w hb fun i hi hne => ht i hi (hall i hi hne)
 replace hs := hs o ho
 replace hx := hx q hq
 have hsel' : ∀ cs b, o.op ≠ .select cs b := fun cs b => Region.noSelect_spec hsel n o cs b (by simpa using ho)
 have hselq : ∀ cs b, q.op ≠ .select cs b := fun cs b => Region.noSelect_spec hsel i0 q cs b (by simpa using hq)
 have hpre0 : ∀ p ∈ predsOf .any l.toArray i0, listed.getD p false = true := fun p hp => by
  have := depB_pred hD hi0 hp
  exact hall p (by omega) (by omega)
 -- what both look at
 have hagn : ∀ (x : Nat → Value) (b : Nat → Bool), (∀ i, i ≠ i0 → i < n → b i = true) → (∀ i, i ≠ i0 → x i = v i) → ∀ t ∈ o.looksAt l.toArray, (putsIf (l.take n) 0 b x a0).tmps[t]? = (putsV (l.take n) 0 v a0).tmps[t]? := by
  intro x b hbi hxv t ht'
  have h1 := get_puts (v := x) (b := b) (t := t) (l.take n) 0 a0 a0 rfl fun i o' ho' hd' => by
   have hin : i < n := by rw [← hlen]; exact (List.getElem?_eq_some_iff.1 ho').1
   rw [Nat.zero_add]
   refine hbi i (fun e => ?_) hin
   subst e
   rw [List.getElem?_take, if_pos hin, hq] at ho'
   obtain rfl := Option.some.inj ho'
   exact hlook t ht' hd'
  have h2 := get_puts (v := v) (b := fun i => decide (i ≠ i0)) (t := t) (l.take n) 0 a0 a0 rfl fun i o' ho' hd' => by
   have hin : i < n := by rw [← hlen]; exact (List.getElem?_eq_some_iff.1 ho').1
   rw [Nat.zero_add]
   refine decide_eq_true fun e => ?_
   subst e
   rw [List.getElem?_take, if_pos hin, hq] at ho'
   obtain rfl := Option.some.inj ho'
   exact hlook t ht' hd'
  have h3 := get_puts (v := x) (b := fun i => decide (i ≠ i0)) (t := t) (l.take n) 0 a0 a0 rfl fun i o' ho' hd' => by
   have hin : i < n := by rw [← hlen]; exact (List.getElem?_eq_some_iff.1 ho').1
   rw [Nat.zero_add]
   refine decide_eq_true fun e => ?_
   subst e
   rw [List.getElem?_take, if_pos hin, hq] at ho'
   obtain rfl := Option.some.inj ho'
   exact hlook t ht' hd'
  rw [h1, ← h3, putsIf_congr (v := x) (v' := v) (b := fun i => decide (i ≠ i0)) (b' := fun i => decide (i ≠ i0)) (l.take n) 0 a0 (fun i _ _ => ⟨rfl, fun hh => hxv i (of_decide_eq_true hh)⟩), h2]
 -- what the other order says
 let v' : Nat → Value := fun i => if i = i0 then u else v i
 have hend' := hend v' w hb (fun i hi => by
  by_cases e : i = i0
  ·subst e; simpa [v'] using hTu
  ·simpa [v', e] using ht i hi (hall i hi e)) (fun i j hi hj' hij hai haj => by
  have e1 : i ≠ i0 := fun e => by subst e; rw [hA0] at hai; cases hai
  have e2 : j ≠ i0 := fun e => by subst e; rw [hA0] at haj; cases haj
  simpa [v', e1, e2] using hne i j hi hj' hij hai haj (hall i hi e1) (hall j hj' e2))
 have hcan : canonL l.length n = listed.setIfInBounds i0 true := by
  have := canon_of (ops := l.toArray) (n := n) (listed := listed.setIfInBounds i0 true) ⟨by simpa using hu.1, fun k hk hks => by rw [getD_set_ne true (by omega)]; exact hu.2 k hk hks⟩ hd0
  rw [this]; simp
 rw [hcan] at hend'
 have hrn : n ∈ Region.ready .any l.toArray (listed.setIfInBounds i0 true) := ready_mono hj (by omega)
 have hcn : closedL .any l.toArray (listed.setIfInBounds n true) := hc.set hj
 have hri : i0 ∈ Region.ready .any l.toArray (listed.setIfInBounds n true) := by
  refine ready_mono (mem_ready.2 ⟨?_, q, by simpa using hq, fun e he hb' => hpre0 _ ?_⟩) (by omega)
  ·have : listed.getD i0 true = listed.getD i0 false := by simp [hi0s]
   rw [this]; exact hi0u
  ·unfold predsOf
   simp only [show l.toArray[i0]? = some q by simpa using hq, List.mem_map, List.mem_filter]
   exact ⟨e, ⟨by simpa using he, hb'⟩, rfl⟩
 -- the store's turn
 unfold wpOp
 simp only [show l.toArray[n]? = some o by simpa using ho]
 have hwo : ∀ Y, Region.wanted o Y = true := fun Y => by unfold Region.wanted; rw [go]
 have hwq : ∀ Y, Region.wanted q Y = true := fun Y => by unfold Region.wanted; rw [gq]
 have ag1 := hagn v (fun i => listed.getD i false) (fun i h1 h2 => hall i h2 h1) (fun i _ => rfl)
 rw [hwo, if_pos rfl]
 have hput : ∀ (a : Act), a.put none undef = a := fun a => rfl
 cases s with
 | zero =>
  exfalso
  have := hend'.1
  rw [this] at hrn; cases hrn
 | succ s =>
  have h2 := hend'.2 n hrn
  unfold wpOp at h2
  simp only [show l.toArray[n]? = some o by simpa using ho] at h2
  rw [hwo, if_pos rfl] at h2
  have ag2 := hagn v' (fun _ => true) (fun i _ _ => rfl) (fun i h1 => by simp [v', h1])
  rw [putsIf_all (l.take n) 0 a0 fun i _ _ => rfl] at ag2
  rcases h2 with h2 | h2
  case inr =>
   refine .inr ⟨?_, h2.2⟩
   have h3 := h2.1
   unfold Oper.asks at h3 ⊢
   rw [exec_same hsel' ag2] at h3
   rw [exec_same hsel' ag1]
   exact h3
  refine .inl ?_
  unfold Oper.wp at h2 ⊢
  rw [exec_same hsel' ag2, hs] at h2
  rw [exec_same hsel' ag1, hs]
  simp only [Oper.upon, od, hput] at h2 ⊢
  -- the late one's turn
  refine ⟨fun h0 => absurd h0 (List.ne_nil_of_mem hri), fun i hi => ?_⟩
  obtain rfl : i = i0 := by
   by_cases hin : i < n
   ·rcases Decidable.em (i = i0) with e | e
    ·exact e
    ·exfalso
     have := (mem_ready.1 hi).1
     rw [getD_set_ne true (by omega)] at this
     have h4 := unl this
     rw [hall i hin e] at h4; cases h4
   ·exfalso
    obtain ⟨h4, h5⟩ := lateB_at hB hcn hi hin
    by_cases e : i = n
    ·subst e
     have := (mem_ready.1 hi).1
     simp [hns] at this
    ·have := h4 i0 hi0 fun hh => e hh.1
     rw [getD_set_ne false (by omega), hi0u] at this; cases this
  unfold wpOp
  simp only [show l.toArray[i]? = some q by simpa using hq]
  rw [hwq, if_pos rfl]
  refine .inl ?_
  have hag0 : ∀ t ∈ q.looksAt l.toArray, (putsIf (l.take n) 0 (fun i => listed.getD i false) v a0).tmps[t]? = (putsV (l.take n) 0 v a0).tmps[t]? := fun t ht' =>
   get_puts (l.take n) 0 a0 a0 rfl fun k o' ho' hd' => by
    have hin : k < n := by rw [← hlen]; exact (List.getElem?_eq_some_iff.1 ho').1
    have ho2 : l.toArray[k]? = some o' := by rw [List.getElem?_take, if_pos hin] at ho'; simpa using ho'
    rw [Nat.zero_add]
    exact hpre0 k (depB_looks hD hi0 hin (by simpa using hq) ho2 ht' hd')
  unfold Oper.wp
  rw [exec_same hselq hag0, hx]
  simp only [Oper.upon]
  have e := put_at (v := v) (v' := v') (b := fun i => listed.getD i false) (b' := fun k => (listed.setIfInBounds i true).getD k false) (j := i) (u := u) hi0u (by simp [hi0s]) (by simp [v'])
   (fun k hk => ⟨getD_set_ne false fun e => hk e.symm, by simp [v', hk]⟩) (l.take n) 0 a0 q hN (Nat.zero_le _) (by rw [Nat.sub_zero, List.getElem?_take, if_pos hi0]; exact hq)
  rw [e, putsIf_all (l.take n) 0 a0 fun k _ h5 => doneN_iff.1 hd0 k (by omega), Array.setIfInBounds_comm _ _ (by omega)]
  exact h2
theorem wpAny_tb {n s i0 : Nat} {l : List Oper} {T : Nat → Value → World → Prop} {w0 : World} {a0 : Act} {Q : Exit → Act → World → Prop} {A : Nat → Bool} (hT : ∀ i, Stays (T i)) (hsel : Region.noSelect l.toArray = true) (hn : n ≤ l.length)
  (hB : lateB n i0 l = true) (hN : nodupD (l.take n) = true) (hD : depB l.toArray n = true)
  (hops : ∀ j o, j < n → l[j]? = some o → ∀ v w, Below w0.heap.size w0 w → (∀ p ∈ predsOf .any l.toArray j, T p (v p) w) → TyAt P l.toArray o (putsV (l.take n) 0 v a0) w (T j))
  (hptr : ∀ j, A j = true → ∀ u w, T j u w → ∃ k, u = .pointer (some ⟨k, 0, none⟩) ∧ k < w.heap.size)
  (hnew : ∀ j o, l[j]? = some o → A j = true → o.guard = none ∧ ∃ e c t, o.op = .alloc e ∧ ∀ w, (Instr.alloc e true (.tuple #[])).run P w = .ok (.pointer (some ⟨w.heap.size, 0, none⟩)) (w.alloc (.cells c t)))
  (hlate : ∀ v w, Below w0.heap.size w0 w → (∀ i, i < n → i ≠ i0 → T i (v i) w) → ∃ w1 u, (∀ o, l[n]? = some o → (execOp (putsV (l.take n) 0 v a0).eval o).run P w = .ok .skip w1) ∧ (∀ o, l[i0]? = some o → (execOp (putsV (l.take n) 0 v a0).eval o).run P w1 = .ok (.value u) w1) ∧ T i0 u w) (hA0 : A i0 = false)
  (hend : ∀ v w, Below w0.heap.size w0 w → (∀ i, i < n → T i (v i) w) → (∀ i j, i < n → j < n → i ≠ j → A i = true → A j = true → v i ≠ v j) → wpAny P .any l.toArray Q s (canonL l.length n) (putsV (l.take n) 0 v a0) w) :
  ∀ (m : Nat) (listed : Array Bool) (v : Nat → Value) (w : World), left n listed = m → closedL .any l.toArray listed → sufL n l.toArray listed → Below w0.heap.size w0 w →
   (∀ i, i < n → listed.getD i false = true → T i (v i) w) → (∀ i j, i < n → j < n → i ≠ j → A i = true → A j = true → listed.getD i false = true → listed.getD j false = true → v i ≠ v j) → wpAny P .any l.toArray Q (s + m) listed (putsIf (l.take n) 0 (fun i => listed.getD i false) v a0) w := by
 intro m
 have hlen : (l.take n).length = n := by rw [List.length_take]; omega
 induction m with
 | zero =>
  intro listed v w hl hc hu hb ht hne
  have hd := left_zero hl
  rw [putsIf_all (l.take n) 0 a0 fun i _ h2 => doneN_iff.1 hd i (by omega)]
  have e := canon_of hu hd
  rw [show l.toArray.size = l.length by simp] at e
  rw [e]
  exact hend v w hb (fun i hi => ht i hi (doneN_iff.1 hd i hi)) fun i j hi hj hij ha hb' => hne i j hi hj hij ha hb' (doneN_iff.1 hd i hi) (doneN_iff.1 hd j hj)
 | succ m ih =>
  intro listed v w hl hc hu hb ht hne
  have hnd := left_some hl
  refine ⟨fun h0 => absurd h0 (ready_some hu.1 (by simpa using hn) hD hl), fun j hj => ?_⟩
  by_cases hlt : j < n
  case neg =>
   obtain ⟨rfl, hall⟩ := lateB_bar hB hc hj hnd hlt
   exact late_step hsel hn hB hN hD hlate hA0 hend hl hc hu hb ht hne hj hall
  have hjn := hlt
  obtain ⟨hju, o, ho, -⟩ := mem_ready.1 hj
  have hpre := preds_of_ready hj
  have hol : l[j]? = some o := by simpa using ho
  have hjs : j < l.toArray.size := (Array.getElem?_eq_some_iff.1 ho).1
  have hty := hops j o hjn hol v w hb fun p hp => ht p (by have := depB_pred hD hjn hp; omega) (hpre p hp)
  have hag : ∀ t ∈ o.looksAt l.toArray, (putsIf (l.take n) 0 (fun i => listed.getD i false) v a0).tmps[t]? = (putsV (l.take n) 0 v a0).tmps[t]? := fun t ht' =>
   get_puts (l.take n) 0 a0 a0 rfl fun i o' ho' hd' => by
    have hin : i < n := by rw [← hlen]; exact (List.getElem?_eq_some_iff.1 ho').1
    have ho2 : l.toArray[i]? = some o' := by rw [List.getElem?_take, if_pos hin] at ho'; simpa using ho'
    rw [Nat.zero_add]
    exact hpre i (depB_looks hD hjn hin ho ho2 ht' hd')
  have step : ∀ u w', Below w.heap.size w w' → T j u w' → (A j = true → u = .pointer (some ⟨w.heap.size, 0, none⟩)) → wpAny P .any l.toArray Q (s + m) (listed.setIfInBounds j true) ((putsIf (l.take n) 0 (fun i => listed.getD i false) v a0).put o.dst u) w' := by
   intro u w' hw' hu' hun
   have e := put_at (v := v) (v' := fun i => if i = j then u else v i) (b := fun i => listed.getD i false) (b' := fun i => (listed.setIfInBounds j true).getD i false) (j := j) (u := u) (unl hju) (by simp [hu.1]; simpa using hjs) (by simp)
    (fun i hi => ⟨getD_set_ne false fun e => hi e.symm, by simp [hi]⟩) (l.take n) 0 a0 o hN (Nat.zero_le _) (by rw [Nat.sub_zero, List.getElem?_take, if_pos hjn]; exact hol)
   rw [e]
   refine ih _ _ w' (left_set (ops := l.toArray) hu.1 hjn hjs (unl hju) hl) (hc.set hj) ⟨by simpa using hu.1, fun k hk hks => by rw [getD_set_ne true (by omega)]; exact hu.2 k hk hks⟩ (hb.trans (hw'.mono hb.size)) (fun i hi hli => ?_) ?_
   ·by_cases e : i = j
    ·subst e; simpa using hu'
    ·rw [getD_set_ne false fun e' => e e'.symm] at hli
     simp only [if_neg e]
     exact hT i _ _ _ hw' (ht i hi hli)
   intro i k hi hk hik hAi hAk hli hlk
   by_cases e : i = j
   ·subst e
    have e2 : k ≠ i := fun e => hik e.symm
    rw [getD_set_ne false fun e' => e2 e'.symm] at hlk
    simp only [if_neg e2, if_pos]
    obtain ⟨b, hb1, hb2⟩ := hptr k hAk _ _ (ht k hk hlk)
    rw [hb1, hun hAi]
    intro he
    simp only [Value.pointer.injEq, Option.some.injEq, Addr.mk.injEq, and_true] at he
    omega
   ·rw [getD_set_ne false fun e' => e e'.symm] at hli
    by_cases e2 : k = j
    ·subst e2
     simp only [if_neg e, if_pos]
     obtain ⟨b, hb1, hb2⟩ := hptr i hAi _ _ (ht i hi hli)
     rw [hb1, hun hAk]
     intro he
     simp only [Value.pointer.injEq, Option.some.injEq, Addr.mk.injEq, and_true] at he
     omega
    ·rw [getD_set_ne false fun e' => e2 e'.symm] at hlk
     simp only [if_neg e, if_neg e2]
     exact hne i k hi hk hik hAi hAk hli hlk
  unfold wpOp
  simp only [ho]
  unfold TyAt at hty
  rw [← wanted_same hag] at hty
  by_cases hw : Region.wanted o (yielded l.toArray (putsIf (l.take n) 0 (fun i => listed.getD i false) v a0).tmps) = true
  ·simp only [hw, if_true] at hty ⊢
   refine .inl ?_
   unfold Oper.wp
   rw [exec_same (fun cs b => Region.noSelect_spec hsel j o cs b ho) hag]
   have hal : A j = true → ∀ u w', (execOp (putsV (l.take n) 0 v a0).eval o).run P w = .ok (.value u) w' → u = .pointer (some ⟨w.heap.size, 0, none⟩) := fun hA u w' hr => by
    obtain ⟨_, e, c, t, he, hal⟩ := hnew j o hol hA
    rw [alloc_run he hal] at hr
    simp only [Result.ok.injEq, Next.value.injEq] at hr
    exact hr.1.symm
   have hal2 : A j = true → ∀ w', (execOp (putsV (l.take n) 0 v a0).eval o).run P w ≠ .ok .skip w' := fun hA w' hr => by
    obtain ⟨_, e, c, t, he, hal⟩ := hnew j o hol hA
    rw [alloc_run he hal] at hr
    cases hr
   have hal3 : A j = true → ∀ f args w', (execOp (putsV (l.take n) 0 v a0).eval o).run P w ≠ .ok (.enter f args) w' := fun hA f args w' hr => by
    obtain ⟨_, e, c, t, he, hal⟩ := hnew j o hol hA
    rw [alloc_run he hal] at hr
    cases hr
   generalize (execOp (putsV (l.take n) 0 v a0).eval o).run P w = r at *
   cases r with
   | ok nx w' =>
    cases nx <;> simp only [tyUpon] at hty <;> simp only [Oper.upon]
    case value u => exact step u w' hty.1 hty.2 fun hA => hal hA u w' rfl
    case skip => exact step undef w' hty.1 hty.2 fun hA => absurd rfl (hal2 hA w')
    case enter f args =>
     obtain ⟨rfl, hcall⟩ := hty
     exact hcall.mono fun e w'' ⟨u, he, h1, h2⟩ => by subst he; exact step u w'' h2 h1 fun hA => absurd rfl (hal3 hA f args _)
   | halt x w' => simp only [tyUpon] at hty
  ·simp only [hw] at hty ⊢
   exact step undef w (Below.refl _ _) hty fun hA => by
    obtain ⟨hg, _⟩ := hnew j o hol hA
    exact absurd (by unfold Region.wanted; rw [hg]) hw
def tyBl (n i0 : Nat) (l : List Oper) : Bool :=
 Region.noSelect l.toArray && decide (n ≤ l.length) && lateB n i0 l && nodupD (l.take n) && depB l.toArray n && seqB .any l.toArray (l.length - n) n (canonL l.length n)
/-- **A region whose first n operations each give a value of a property; then the others, in their order.** -/
theorem region_tb (n i0 : Nat) (T : Nat → Value → World → Prop) (A : Nat → Bool) {id : Nat} {Q : Exit → Act → World → Prop} {a : Act} {w : World} {l : List Oper} (hm : P.follows .mixedOrders = true) (hB : tyBl n i0 l = true) (hT : ∀ i, Stays (T i))
  (hops : ∀ j o, j < n → l[j]? = some o → ∀ v w1, Below w.drew.heap.size w.drew w1 → (∀ p ∈ predsOf .any l.toArray j, T p (v p) w1) → TyAt P l.toArray o (putsV (l.take n) 0 v a) w1 (T j))
  (hptr : ∀ j, A j = true → ∀ u w, T j u w → ∃ k, u = .pointer (some ⟨k, 0, none⟩) ∧ k < w.heap.size)
  (hnew : ∀ j o, l[j]? = some o → A j = true → o.guard = none ∧ ∃ e c t, o.op = .alloc e ∧ ∀ w, (Instr.alloc e true (.tuple #[])).run P w = .ok (.pointer (some ⟨w.heap.size, 0, none⟩)) (w.alloc (.cells c t)))
  (hlate : ∀ v w2, Below w.drew.heap.size w.drew w2 → (∀ i, i < n → i ≠ i0 → T i (v i) w2) → ∃ w1 u, (∀ o, l[n]? = some o → (execOp (putsV (l.take n) 0 v a).eval o).run P w2 = .ok .skip w1) ∧ (∀ o, l[i0]? = some o → (execOp (putsV (l.take n) 0 v a).eval o).run P w1 = .ok (.value u) w1) ∧ T i0 u w2) (hA0 : A i0 = false)
  (hend : ∀ v w1, Below w.drew.heap.size w.drew w1 → (∀ i, i < n → T i (v i) w1) → (∀ i j, i < n → j < n → i ≠ j → A i = true → A j = true → v i ≠ v j) → wpList P l.toArray Q (l.drop n) (putsV (l.take n) 0 v a) w1) : (Code.region id l.toArray true).wp P Q a w := by
 simp only [tyBl, Bool.and_eq_true, decide_eq_true_eq] at hB
 obtain ⟨⟨⟨⟨⟨hs, hn⟩, hb⟩, hN⟩, hD⟩, hq⟩ := hB
 refine wp_region_any hm ?_
 have hrep : ∀ i, (Array.replicate l.length false).getD i false = false := fun i => by
  rcases Nat.lt_or_ge i l.length with h' | h' <;> simp [h']
 have h0 : closedL .any l.toArray (Array.replicate l.length false) := fun j o _ hl => by rw [hrep] at hl; cases hl
 have hleft : left n (Array.replicate l.length false) = n := by
  unfold left
  rw [List.countP_eq_length.2 fun i _ => by rw [hrep]; rfl, List.length_range]
 have h2 := wpAny_tb (i0 := i0) (A := A) (P := P) (s := l.length - n) (Q := Q) (a0 := a) hT hs hn hb hN hD hops hptr hnew hlate hA0 (fun v w1 h1 h2 hdis => by
   have h3 := wpAny_of_seq (md := .any) (P := P) (Q' := Q) (l.drop n) n (canonL l.length n) (putsV (l.take n) 0 v a) w1 (fun j hj => by simp [List.getElem?_drop]) (by rw [List.length_drop]; exact hq) (hend v w1 h1 h2 hdis)
   rw [List.length_drop] at h3
   exact h3) n (Array.replicate l.length false) (fun _ => undef) w.drew hleft h0 ⟨by simp, fun j _ hj => by simp at hj; simp [hj]⟩ (Below.refl _ _) (fun i _ hl => by rw [hrep] at hl; cases hl) (fun i j _ _ _ _ _ hl => by rw [hrep] at hl; cases hl)
 rw [putsIf_none (l.take n) 0 a fun i _ _ => hrep i, Nat.sub_add_cancel hn] at h2
 simpa using h2
/-- region_tb, with its properties as a list; A: the operations that make boxes. -/
theorem region_tbl (n i0 : Nat) (L : List (Value → World → Prop)) (A : List Nat) {id : Nat} {Q : Exit → Act → World → Prop} {a : Act} {w : World} {l : List Oper} (hm : P.follows .mixedOrders = true) (hB : tyBl n i0 l = true) (hT : ∀ i, Stays (L.getD i (fun _ _ => True)))
  (hops : hopsR P l.toArray (fun i => L.getD i (fun _ _ => True)) w.drew (fun v => putsV (l.take n) 0 v a) (l.take n) 0)
  (hptr : ∀ j, A.contains j = true → ∀ u w, L.getD j (fun _ _ => True) u w → ∃ k, u = .pointer (some ⟨k, 0, none⟩) ∧ k < w.heap.size)
  (hnew : newR P l A)
  (hlate : ∀ v w2, Below w.drew.heap.size w.drew w2 → (∀ i, i < n → i ≠ i0 → L.getD i (fun _ _ => True) (v i) w2) → ∃ w1 u, (∀ o, l[n]? = some o → (execOp (putsV (l.take n) 0 v a).eval o).run P w2 = .ok .skip w1) ∧ (∀ o, l[i0]? = some o → (execOp (putsV (l.take n) 0 v a).eval o).run P w1 = .ok (.value u) w1) ∧ L.getD i0 (fun _ _ => True) u w2) (hA0 : A.contains i0 = false)
  (hend : ∀ v w1, Below w.drew.heap.size w.drew w1 → (∀ i, i < n → L.getD i (fun _ _ => True) (v i) w1) → (∀ i j, i < n → j < n → i ≠ j → A.contains i = true → A.contains j = true → v i ≠ v j) → wpList P l.toArray Q (l.drop n) (putsV (l.take n) 0 v a) w1) : (Code.region id l.toArray true).wp P Q a w :=
 region_tb n i0 (fun i => L.getD i (fun _ _ => True)) (fun i => A.contains i) hm hB hT (fun j o hj ho v w1 hb hp => by
  have := hops_of (l.take n) 0 hops j o (by rw [List.getElem?_take, if_pos hj]; exact ho) v w1 hb (by rw [Nat.zero_add]; exact hp)
  rwa [Nat.zero_add] at this) hptr (fun j o ho hA => newR_spec hnew j o ho hA) hlate hA0 hend
end
end Go.Proofs.YtaimebjkidegiaaGreatDoor
