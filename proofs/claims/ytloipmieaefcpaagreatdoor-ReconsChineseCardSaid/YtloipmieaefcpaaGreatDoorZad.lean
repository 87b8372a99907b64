/-
  The law answers true at every input, and leaves its arguments as they were: a part of the proof. CONDITIONS: the package-level tables start as the program's text lays them (the card ties them).
-/
import Derived.Test.YtloipmieaefcpaaGreatDoorZac
import Derived.Test.YtloipmieaefcpaaGreatDoorTie
import Derived.Test.YtloipmieaefcpaaGreatDoorCards
set_option linter.unusedVariables false
set_option linter.unusedSimpArgs false
namespace Go.Proofs.YtloipmieaefcpaaGreatDoor
open Go.RowKit
attribute [local irreducible] lo hs sm s64 c64 d64 b64 mh ml pd pc qd qc val hiB str cmpI srD lz nb isq zl zh zs fe
theorem rest_fld1 (z : Int) (m : Nat) (w : World) : (Instr.field 58 (frV z m) 0).run Tryz.prog w = .ok (intV z) w := by simp [go_sem, Instr.field, asAgg]
set_option maxHeartbeats 4000000 in
set_option maxRecDepth 100000 in
theorem pjoin_no (a b x y g u v : Int) (m n k : Nat) (HF1 : ∀ w, Calls Tryz.prog 31 #[.bool false, natV m] w fun xe w' => xe = .returned (intV x) ∧ Below w.heap.size w w') (HF2 : ∀ w, Calls Tryz.prog 31 #[.bool false, natV n] w fun xe w' => xe = .returned (intV y) ∧ Below w.heap.size w w') (HG : ∀ w, Calls Tryz.prog 30 #[intV x, intV y] w fun xe w' => xe = .returned (.tuple #[intV g, intV u, intV v]) ∧ Below w.heap.size w w') (HA : ∀ w, Calls Tryz.prog 50 #[intV g] w fun xe w' => xe = .returned (natV k) ∧ Below w.heap.size w w') (HC : ∀ w, Calls Tryz.prog 48 #[intV a, intV b, natV k] w fun xe w' => xe = .returned (.bool false) ∧ Below w.heap.size w w') (w : World) :
  Calls Tryz.prog 54 #[frV a m, frV b n] w fun xe w' => xe = .returned (.tuple #[.agg #[.int .u64 0, .string ⟨#[]⟩, .bool false, .int .u64 0, .string ⟨#[]⟩], .bool false]) ∧ Below w.heap.size w w' := by
 have hL0 : GL w w [] := GL.start w
 replace HF1 := Lib.hid HF1
 replace HF2 := Lib.hid HF2
 replace HG := Lib.hid HG
 replace HA := Lib.hid HA
 replace HC := Lib.hid HC
 replace hL0 := (((hL0.new rfl [.int .u64 ((zl a : Nat) : Int), .string (zh a), .bool (zs a), .int .u64 ((lo m : Nat) : Int), .string (hs m)] 58).new (K := w.heap.size + 1) (szA _ _) [.int .u64 ((zl b : Nat) : Int), .string (zh b), .bool (zs b), .int .u64 ((lo n : Nat) : Int), .string (hs n)] 58).new (K := w.heap.size + 1 + 1) (by simp only [World.size_alloc]) [.int .u64 0, .string ⟨#[]⟩, .bool false, .int .u64 0, .string ⟨#[]⟩] 58)
 generalize hweq : (((w.alloc (.cells #[.int .u64 ((zl a : Nat) : Int), .string (zh a), .bool (zs a), .int .u64 ((lo m : Nat) : Int), .string (hs m)] 58)).alloc (.cells #[.int .u64 ((zl b : Nat) : Int), .string (zh b), .bool (zs b), .int .u64 ((lo n : Nat) : Int), .string (hs n)] 58)).alloc (.cells #[.int .u64 0, .string ⟨#[]⟩, .bool false, .int .u64 0, .string ⟨#[]⟩] 58)) = x1 at hL0
 go_enter Tryz.func54, Tryz.ntmps54
 go_upto_region 1 with fail
 clear hweq
 refine region_gh (by kernel_rfl) (by kernel_rfl) ?_
 refine lex_seg (gl := []) 6 (by kernel_rfl) ?_
 intro α iα F hF1 hF2
 have hq := GL.seg hF1 hL0
 simp only [fcC, cellsC, and_true, Nat.zero_add, Nat.reduceAdd] at hq
 simp only [List.take_succ_cons, List.take_zero, List.drop_succ_cons, List.drop_zero, List.take_nil, List.drop_nil]
 repeat (go_big_quiet_step (first | fail | (go_at_call 31; with_reducible exact seg_call hF2 HF1.out _) | (go_at_call 31; with_reducible exact seg_call hF2 HF2.out _)))
 refine wpQuiet_nil ?_
 clear hq hF1 hF2 iα F α
 refine lex_new [.int .u64 0, .string ⟨#[]⟩, .bool false] 6 28 28 rfl rfl (of_decide_eq_true (by kernel_rfl)) (by kernel_rfl) rfl new_int ?_
 simp only [Act.put, List.setIfInBounds_toArray, List.set_cons_succ, List.set_cons_zero]
 refine lex_new [.int .u64 0, .string ⟨#[]⟩, .bool false] 7 28 28 rfl rfl (of_decide_eq_true (by kernel_rfl)) (by kernel_rfl) rfl new_int ?_
 simp only [Act.put, List.setIfInBounds_toArray, List.set_cons_succ, List.set_cons_zero]
 refine lex_put [.int .u64 ((zl x : Nat) : Int), .string (zh x), .bool (zs x)] [.int .u64 0, .string ⟨#[]⟩, .bool false] 6 28 (.tmp 20) rfl (by kernel_rfl) (by simp [toG, upd]) rfl (fun w k h => put_int _ _ _ _ _ _ w k h) ?_
 simp only [Act.put]
 refine lex_put [.int .u64 ((zl y : Nat) : Int), .string (zh y), .bool (zs y)] [.int .u64 0, .string ⟨#[]⟩, .bool false] 7 28 (.tmp 23) rfl (by kernel_rfl) (by simp [toG, upd]) rfl (fun w k h => put_int _ _ _ _ _ _ w k h) ?_
 simp only [Act.put]
 refine lexG_nil ?_
 intro κ x2 hS
 replace hL0 := hL0.ghs hS [(7, [.int .u64 ((zl y : Nat) : Int), .string (zh y), .bool (zs y)]), (6, [.int .u64 ((zl x : Nat) : Int), .string (zh x), .bool (zs x)])] (by simp) (by intro p hp; simp only [List.mem_cons, List.not_mem_nil, or_false] at hp; rcases hp with rfl | rfl <;> exact ⟨_, by simp only [toG, upd]; rfl⟩)
 simp only [List.map_cons, List.map_nil, List.cons_append, List.nil_append] at hL0
 simp only [over_toG, over_nil, Act.put, List.setIfInBounds_toArray, List.set_cons_succ, List.set_cons_zero]
 clear hS
 generalize κ 7 = k2_7 at *
 generalize κ 6 = k2_6 at *
 have hN0 := cells_of _ 0 [] rfl (hL0.get _ _ List.mem_cons_self)
 simp only [cellsF, and_true, Nat.zero_add, Nat.reduceAdd] at hN0
 have hN1 := cells_of _ 0 [] rfl (hL0.get _ _ (List.mem_cons_of_mem _ List.mem_cons_self))
 simp only [cellsF, and_true, Nat.zero_add, Nat.reduceAdd] at hN1
 go_wp2_with fail
 clear hN0 hN1
 with_reducible refine Calls.mono (HG.out _) ?_
 rintro e x3 ⟨rfl, hb⟩
 replace hL0 := hL0.call hb
 clear hb
 replace hL0 := (((hL0.new rfl [.int .u64 ((zl g : Nat) : Int), .string (zh g), .bool (zs g)] 28).new (K := x3.heap.size + 1) (szA _ _) [.int .u64 ((zl u : Nat) : Int), .string (zh u), .bool (zs u)] 28).new (K := x3.heap.size + 1 + 1) (by simp only [World.size_alloc]) [.int .u64 ((zl v : Nat) : Int), .string (zh v), .bool (zs v)] 28)
 generalize hweq : (((x3.alloc (.cells #[.int .u64 ((zl g : Nat) : Int), .string (zh g), .bool (zs g)] 28)).alloc (.cells #[.int .u64 ((zl u : Nat) : Int), .string (zh u), .bool (zs u)] 28)).alloc (.cells #[.int .u64 ((zl v : Nat) : Int), .string (zh v), .bool (zs v)] 28)) = x4 at hL0
 go_upto_region 3 with fail
 clear hweq
 obtain ⟨α, iα, F, hF1, hF2⟩ := cls x4
 have hq0 := cls_box hF1 hL0 _ _ (List.mem_cons_of_mem _ (List.mem_cons_of_mem _ List.mem_cons_self))
 simp only [cellsC, and_true, Nat.zero_add, Nat.reduceAdd] at hq0
 have hq1 := cls_box hF1 hL0 _ _ (List.mem_cons_of_mem _ (List.mem_cons_of_mem _ (List.mem_cons_of_mem _ (List.mem_cons_of_mem _ (List.mem_cons_of_mem _ (List.mem_cons_of_mem _ List.mem_cons_self))))))
 simp only [cellsC, and_true, Nat.zero_add, Nat.reduceAdd] at hq1
 have hq2 := cls_box hF1 hL0 _ _ (List.mem_cons_of_mem _ (List.mem_cons_of_mem _ (List.mem_cons_of_mem _ (List.mem_cons_of_mem _ (List.mem_cons_of_mem _ (List.mem_cons_of_mem _ (List.mem_cons_of_mem _ List.mem_cons_self)))))))
 simp only [cellsC, and_true, Nat.zero_add, Nat.reduceAdd] at hq2
 refine region_qs 8 (C := fun w' => ∃ x, w' = F x) (by kernel_rfl) (by kernel_rfl) (cls_drew hF2) ?_
 simp only [List.take_succ_cons, List.take_zero, List.drop_succ_cons, List.drop_zero, List.take_nil, List.drop_nil]
 repeat (go_big_quiet_step (first | fail | (go_at_call 50; with_reducible exact cls_call hF1 hF2 HA.out _) | (go_at_call 48; with_reducible exact cls_call hF1 hF2 HC.out _)))
 refine wpQuiet_nil ?_
 rintro wq ⟨xq, rfl⟩
 replace hL0 := hL0.call (hF1 xq)
 clear  hq0 hq1 hq2 hF2
 generalize F xq = x5 at hL0 ⊢
 clear hF1 xq iα F α
 have hA := hL0.fc
 simp only [fcG, cellsF, neK, and_true, ne_eq, Nat.zero_add, Nat.reduceAdd] at hA
 have hP := hL0.put 5 (w.heap.size + 1 + 1) _ rfl [.int .u64 0, .string ⟨#[]⟩, .bool false, .int .u64 0, .string ⟨#[]⟩] rfl
 simp only [setAll, List.set_cons_zero, List.set_cons_succ] at hP
 generalize hput1 : (((((x5.setCell ⟨w.heap.size + 1 + 1, 0, none⟩ (.int .u64 0)).setCell ⟨w.heap.size + 1 + 1, 1, none⟩ (.string ⟨#[]⟩)).setCell ⟨w.heap.size + 1 + 1, 2, none⟩ (.bool false)).setCell ⟨w.heap.size + 1 + 1, 3, none⟩ (.int .u64 0)).setCell ⟨w.heap.size + 1 + 1, 4, none⟩ (.string ⟨#[]⟩)) = x6 at hP
 have hB1 := hP.fc
 simp only [fcG, cellsF, neK, and_true, ne_eq, Nat.zero_add, Nat.reduceAdd] at hB1
 replace hL0 := hP
 go_wp2_with fail
 exact bodyPost_ret (v := .tuple #[.agg #[.int .u64 0, .string ⟨#[]⟩, .bool false, .int .u64 0, .string ⟨#[]⟩], .bool false]) (by simp [results, Tryz.results54, go_sem, hB1]) rfl ⟨rfl, hL0.bl⟩
set_option maxHeartbeats 4000000 in
set_option maxRecDepth 100000 in
theorem pjoin_yes (a b x y g u v d q r o l h j t s z i : Int) (c1 c2 : Bool) (m n k e f : Nat) (HF1 : ∀ w, Calls Tryz.prog 31 #[.bool false, natV m] w fun xe w' => xe = .returned (intV x) ∧ Below w.heap.size w w') (HF2 : ∀ w, Calls Tryz.prog 31 #[.bool false, natV n] w fun xe w' => xe = .returned (intV y) ∧ Below w.heap.size w w') (HG : ∀ w, Calls Tryz.prog 30 #[intV x, intV y] w fun xe w' => xe = .returned (.tuple #[intV g, intV u, intV v]) ∧ Below w.heap.size w w') (HA : ∀ w, Calls Tryz.prog 50 #[intV g] w fun xe w' => xe = .returned (natV k) ∧ Below w.heap.size w w') (HC : ∀ w, Calls Tryz.prog 48 #[intV a, intV b, natV k] w fun xe w' => xe = .returned (.bool true) ∧ Below w.heap.size w w') (HS : ∀ w, Calls Tryz.prog 57 #[intV b, intV a] w fun xe w' => xe = .returned (intV d) ∧ Below w.heap.size w w') (HD1 : ∀ w, Calls Tryz.prog 36 #[intV d, intV g] w fun xe w' => xe = .returned (.tuple #[intV q, intV r, .bool c1]) ∧ Below w.heap.size w w') (HD2 : ∀ w, Calls Tryz.prog 36 #[intV y, intV g] w fun xe w' => xe = .returned (.tuple #[intV o, intV l, .bool c2]) ∧ Below w.heap.size w w') (HM1 : ∀ w, Calls Tryz.prog 32 #[intV q, intV u] w fun xe w' => xe = .returned (intV h) ∧ Below w.heap.size w w') (HA2 : ∀ w, Calls Tryz.prog 50 #[intV o] w fun xe w' => xe = .returned (natV e) ∧ Below w.heap.size w w') (HN : ∀ w, Calls Tryz.prog 71 #[frV h e] w fun xe w' => xe = .returned (frV t e) ∧ Below w.heap.size w w') (HM2 : ∀ w, Calls Tryz.prog 32 #[intV t, intV x] w fun xe w' => xe = .returned (intV s) ∧ Below w.heap.size w w') (HP : ∀ w, Calls Tryz.prog 33 #[intV a, intV s] w fun xe w' => xe = .returned (intV z) ∧ Below w.heap.size w w') (HM3 : ∀ w, Calls Tryz.prog 32 #[intV x, intV o] w fun xe w' => xe = .returned (intV i) ∧ Below w.heap.size w w') (HA3 : ∀ w, Calls Tryz.prog 50 #[intV i] w fun xe w' => xe = .returned (natV f) ∧ Below w.heap.size w w') (w : World) :
  Calls Tryz.prog 54 #[frV a m, frV b n] w fun xe w' => xe = .returned (.tuple #[frV z f, .bool true]) ∧ Below w.heap.size w w' := by
 have hL0 : GL w w [] := GL.start w
 replace HF1 := Lib.hid HF1
 replace HF2 := Lib.hid HF2
 replace HG := Lib.hid HG
 replace HA := Lib.hid HA
 replace HC := Lib.hid HC
 replace HS := Lib.hid HS
 replace HD1 := Lib.hid HD1
 replace HD2 := Lib.hid HD2
 replace HM1 := Lib.hid HM1
 replace HA2 := Lib.hid HA2
 replace HN := Lib.hid HN
 replace HM2 := Lib.hid HM2
 replace HP := Lib.hid HP
 replace HM3 := Lib.hid HM3
 replace HA3 := Lib.hid HA3
 have hfd := fun w => rest_fld1 t e w
 replace hL0 := (((hL0.new rfl [.int .u64 ((zl a : Nat) : Int), .string (zh a), .bool (zs a), .int .u64 ((lo m : Nat) : Int), .string (hs m)] 58).new (K := w.heap.size + 1) (szA _ _) [.int .u64 ((zl b : Nat) : Int), .string (zh b), .bool (zs b), .int .u64 ((lo n : Nat) : Int), .string (hs n)] 58).new (K := w.heap.size + 1 + 1) (by simp only [World.size_alloc]) [.int .u64 0, .string ⟨#[]⟩, .bool false, .int .u64 0, .string ⟨#[]⟩] 58)
 generalize hweq : (((w.alloc (.cells #[.int .u64 ((zl a : Nat) : Int), .string (zh a), .bool (zs a), .int .u64 ((lo m : Nat) : Int), .string (hs m)] 58)).alloc (.cells #[.int .u64 ((zl b : Nat) : Int), .string (zh b), .bool (zs b), .int .u64 ((lo n : Nat) : Int), .string (hs n)] 58)).alloc (.cells #[.int .u64 0, .string ⟨#[]⟩, .bool false, .int .u64 0, .string ⟨#[]⟩] 58)) = x1 at hL0
 go_enter Tryz.func54, Tryz.ntmps54
 go_upto_region 1 with fail
 clear hweq
 refine region_gh (by kernel_rfl) (by kernel_rfl) ?_
 refine lex_seg (gl := []) 6 (by kernel_rfl) ?_
 intro α iα F hF1 hF2
 have hq := GL.seg hF1 hL0
 simp only [fcC, cellsC, and_true, Nat.zero_add, Nat.reduceAdd] at hq
 simp only [List.take_succ_cons, List.take_zero, List.drop_succ_cons, List.drop_zero, List.take_nil, List.drop_nil]
 repeat (go_big_quiet_step (first | fail | (go_at_call 31; with_reducible exact seg_call hF2 HF1.out _) | (go_at_call 31; with_reducible exact seg_call hF2 HF2.out _)))
 refine wpQuiet_nil ?_
 clear hq hF1 hF2 iα F α
 refine lex_new [.int .u64 0, .string ⟨#[]⟩, .bool false] 6 28 28 rfl rfl (of_decide_eq_true (by kernel_rfl)) (by kernel_rfl) rfl new_int ?_
 simp only [Act.put, List.setIfInBounds_toArray, List.set_cons_succ, List.set_cons_zero]
 refine lex_new [.int .u64 0, .string ⟨#[]⟩, .bool false] 7 28 28 rfl rfl (of_decide_eq_true (by kernel_rfl)) (by kernel_rfl) rfl new_int ?_
 simp only [Act.put, List.setIfInBounds_toArray, List.set_cons_succ, List.set_cons_zero]
 refine lex_put [.int .u64 ((zl x : Nat) : Int), .string (zh x), .bool (zs x)] [.int .u64 0, .string ⟨#[]⟩, .bool false] 6 28 (.tmp 20) rfl (by kernel_rfl) (by simp [toG, upd]) rfl (fun w k h => put_int _ _ _ _ _ _ w k h) ?_
 simp only [Act.put]
 refine lex_put [.int .u64 ((zl y : Nat) : Int), .string (zh y), .bool (zs y)] [.int .u64 0, .string ⟨#[]⟩, .bool false] 7 28 (.tmp 23) rfl (by kernel_rfl) (by simp [toG, upd]) rfl (fun w k h => put_int _ _ _ _ _ _ w k h) ?_
 simp only [Act.put]
 refine lexG_nil ?_
 intro κ x2 hS
 replace hL0 := hL0.ghs hS [(7, [.int .u64 ((zl y : Nat) : Int), .string (zh y), .bool (zs y)]), (6, [.int .u64 ((zl x : Nat) : Int), .string (zh x), .bool (zs x)])] (by simp) (by intro p hp; simp only [List.mem_cons, List.not_mem_nil, or_false] at hp; rcases hp with rfl | rfl <;> exact ⟨_, by simp only [toG, upd]; rfl⟩)
 simp only [List.map_cons, List.map_nil, List.cons_append, List.nil_append] at hL0
 simp only [over_toG, over_nil, Act.put, List.setIfInBounds_toArray, List.set_cons_succ, List.set_cons_zero]
 clear hS
 generalize κ 7 = k2_7 at *
 generalize κ 6 = k2_6 at *
 have hN0 := cells_of _ 0 [] rfl (hL0.get _ _ List.mem_cons_self)
 simp only [cellsF, and_true, Nat.zero_add, Nat.reduceAdd] at hN0
 have hN1 := cells_of _ 0 [] rfl (hL0.get _ _ (List.mem_cons_of_mem _ List.mem_cons_self))
 simp only [cellsF, and_true, Nat.zero_add, Nat.reduceAdd] at hN1
 go_wp2_with fail
 clear hN0 hN1
 with_reducible refine Calls.mono (HG.out _) ?_
 rintro e x3 ⟨rfl, hb⟩
 replace hL0 := hL0.call hb
 clear hb
 replace hL0 := (((hL0.new rfl [.int .u64 ((zl g : Nat) : Int), .string (zh g), .bool (zs g)] 28).new (K := x3.heap.size + 1) (szA _ _) [.int .u64 ((zl u : Nat) : Int), .string (zh u), .bool (zs u)] 28).new (K := x3.heap.size + 1 + 1) (by simp only [World.size_alloc]) [.int .u64 ((zl v : Nat) : Int), .string (zh v), .bool (zs v)] 28)
 generalize hweq : (((x3.alloc (.cells #[.int .u64 ((zl g : Nat) : Int), .string (zh g), .bool (zs g)] 28)).alloc (.cells #[.int .u64 ((zl u : Nat) : Int), .string (zh u), .bool (zs u)] 28)).alloc (.cells #[.int .u64 ((zl v : Nat) : Int), .string (zh v), .bool (zs v)] 28)) = x4 at hL0
 go_upto_region 3 with fail
 clear hweq
 obtain ⟨α, iα, F, hF1, hF2⟩ := cls x4
 have hq0 := cls_box hF1 hL0 _ _ (List.mem_cons_of_mem _ (List.mem_cons_of_mem _ List.mem_cons_self))
 simp only [cellsC, and_true, Nat.zero_add, Nat.reduceAdd] at hq0
 have hq1 := cls_box hF1 hL0 _ _ (List.mem_cons_of_mem _ (List.mem_cons_of_mem _ (List.mem_cons_of_mem _ (List.mem_cons_of_mem _ (List.mem_cons_of_mem _ (List.mem_cons_of_mem _ List.mem_cons_self))))))
 simp only [cellsC, and_true, Nat.zero_add, Nat.reduceAdd] at hq1
 have hq2 := cls_box hF1 hL0 _ _ (List.mem_cons_of_mem _ (List.mem_cons_of_mem _ (List.mem_cons_of_mem _ (List.mem_cons_of_mem _ (List.mem_cons_of_mem _ (List.mem_cons_of_mem _ (List.mem_cons_of_mem _ List.mem_cons_self)))))))
 simp only [cellsC, and_true, Nat.zero_add, Nat.reduceAdd] at hq2
 refine region_qs 8 (C := fun w' => ∃ x, w' = F x) (by kernel_rfl) (by kernel_rfl) (cls_drew hF2) ?_
 simp only [List.take_succ_cons, List.take_zero, List.drop_succ_cons, List.drop_zero, List.take_nil, List.drop_nil]
 repeat (go_big_quiet_step (first | fail | (go_at_call 50; with_reducible exact cls_call hF1 hF2 HA.out _) | (go_at_call 48; with_reducible exact cls_call hF1 hF2 HC.out _)))
 refine wpQuiet_nil ?_
 rintro wq ⟨xq, rfl⟩
 replace hL0 := hL0.call (hF1 xq)
 clear  hq0 hq1 hq2 hF2
 generalize F xq = x5 at hL0 ⊢
 clear hF1 xq iα F α
 go_upto_region 5 with fail
 refine region_gh (by kernel_rfl) (by kernel_rfl) ?_
 refine lex_seg (gl := []) 11 (by kernel_rfl) ?_
 intro α iα F hF1 hF2
 have hq := GL.seg hF1 hL0
 simp only [fcC, cellsC, and_true, Nat.zero_add, Nat.reduceAdd] at hq
 simp only [List.take_succ_cons, List.take_zero, List.drop_succ_cons, List.drop_zero, List.take_nil, List.drop_nil]
 repeat (go_big_quiet_step (first | fail | (go_at_call 57; with_reducible exact seg_call hF2 HS.out _) | (go_at_call 36; with_reducible exact seg_call hF2 HD1.out _)))
 refine wpQuiet_nil ?_
 clear hq hF1 hF2 iα F α
 refine lex_new [.int .u64 0, .string ⟨#[]⟩, .bool false] 11 28 28 rfl rfl (of_decide_eq_true (by kernel_rfl)) (by kernel_rfl) rfl new_int ?_
 simp only [Act.put, List.setIfInBounds_toArray, List.set_cons_succ, List.set_cons_zero]
 refine lex_new [.int .u64 0, .string ⟨#[]⟩, .bool false] 12 28 28 rfl rfl (of_decide_eq_true (by kernel_rfl)) (by kernel_rfl) rfl new_int ?_
 simp only [Act.put, List.setIfInBounds_toArray, List.set_cons_succ, List.set_cons_zero]
 refine lex_put [.int .u64 ((zl q : Nat) : Int), .string (zh q), .bool (zs q)] [.int .u64 0, .string ⟨#[]⟩, .bool false] 11 28 (.tmp 48) rfl (by kernel_rfl) (by simp [toG, upd]) rfl (fun w k h => put_int _ _ _ _ _ _ w k h) ?_
 simp only [Act.put]
 refine lex_put [.int .u64 ((zl r : Nat) : Int), .string (zh r), .bool (zs r)] [.int .u64 0, .string ⟨#[]⟩, .bool false] 12 28 (.tmp 49) rfl (by kernel_rfl) (by simp [toG, upd]) rfl (fun w k h => put_int _ _ _ _ _ _ w k h) ?_
 simp only [Act.put]
 refine lex_seg (gl := [(12, [.int .u64 ((zl r : Nat) : Int), .string (zh r), .bool (zs r)], true), (11, [.int .u64 ((zl q : Nat) : Int), .string (zh q), .bool (zs q)], true), (12, [.int .u64 0, .string ⟨#[]⟩, .bool false], false), (11, [.int .u64 0, .string ⟨#[]⟩, .bool false], false)]) 1 (by kernel_rfl) ?_
 intro α iα F hF1 hF2
 have hq := GL.seg hF1 hL0
 simp only [fcC, cellsC, and_true, Nat.zero_add, Nat.reduceAdd] at hq
 simp only [List.take_succ_cons, List.take_zero, List.drop_succ_cons, List.drop_zero, List.take_nil, List.drop_nil]
 repeat (go_big_quiet_step (first | fail | (go_at_call 57; with_reducible exact seg_call hF2 HS.out _) | (go_at_call 36; with_reducible exact seg_call hF2 HD1.out _)))
 refine wpQuiet_nil ?_
 clear hq hF1 hF2 iα F α
 refine lexG_nil ?_
 intro κ x6 hS
 replace hL0 := hL0.ghs hS [(12, [.int .u64 ((zl r : Nat) : Int), .string (zh r), .bool (zs r)]), (11, [.int .u64 ((zl q : Nat) : Int), .string (zh q), .bool (zs q)])] (by simp) (by intro p hp; simp only [List.mem_cons, List.not_mem_nil, or_false] at hp; rcases hp with rfl | rfl <;> exact ⟨_, by simp only [toG, upd]; rfl⟩)
 simp only [List.map_cons, List.map_nil, List.cons_append, List.nil_append] at hL0
 simp only [over_toG, over_nil, Act.put, List.setIfInBounds_toArray, List.set_cons_succ, List.set_cons_zero]
 clear hS
 generalize κ 12 = k6_12 at *
 generalize κ 11 = k6_11 at *
 have hN0 := cells_of _ 0 [] rfl (hL0.get _ _ (List.mem_cons_of_mem _ (List.mem_cons_of_mem _ (List.mem_cons_of_mem _ (List.mem_cons_of_mem _ List.mem_cons_self)))))
 simp only [cellsF, and_true, Nat.zero_add, Nat.reduceAdd] at hN0
 have hN1 := cells_of _ 0 [] rfl (hL0.get _ _ (List.mem_cons_of_mem _ (List.mem_cons_of_mem _ (List.mem_cons_of_mem _ (List.mem_cons_of_mem _ (List.mem_cons_of_mem _ List.mem_cons_self))))))
 simp only [cellsF, and_true, Nat.zero_add, Nat.reduceAdd] at hN1
 go_wp2_with fail
 clear hN0 hN1
 with_reducible refine Calls.mono (HD2.out _) ?_
 rintro e x7 ⟨rfl, hb⟩
 replace hL0 := hL0.call hb
 clear hb
 replace hL0 := ((hL0.new rfl [.int .u64 ((zl o : Nat) : Int), .string (zh o), .bool (zs o)] 28).new (K := x7.heap.size + 1) (szA _ _) [.int .u64 ((zl l : Nat) : Int), .string (zh l), .bool (zs l)] 28)
 generalize hweq : ((x7.alloc (.cells #[.int .u64 ((zl o : Nat) : Int), .string (zh o), .bool (zs o)] 28)).alloc (.cells #[.int .u64 ((zl l : Nat) : Int), .string (zh l), .bool (zs l)] 28)) = x8 at hL0
 go_upto_region 7 with fail
 clear hweq
 refine region_gh (by kernel_rfl) (by kernel_rfl) ?_
 refine lex_seg (gl := []) 8 (by kernel_rfl) ?_
 intro α iα F hF1 hF2
 have hq := GL.seg hF1 hL0
 simp only [fcC, cellsC, and_true, Nat.zero_add, Nat.reduceAdd] at hq
 simp only [List.take_succ_cons, List.take_zero, List.drop_succ_cons, List.drop_zero, List.take_nil, List.drop_nil]
 repeat (go_big_quiet_step (first | fail | (go_at_call 32; with_reducible exact seg_call hF2 HM1.out _) | (go_at_call 50; with_reducible exact seg_call hF2 HA2.out _) | (go_at_call 71; with_reducible exact seg_call hF2 HN.out _)))
 refine wpQuiet_nil ?_
 clear hq hF1 hF2 iα F α
 refine lex_new [.int .u64 0, .string ⟨#[]⟩, .bool false] 17 28 28 rfl rfl (of_decide_eq_true (by kernel_rfl)) (by kernel_rfl) rfl new_int ?_
 simp only [Act.put, List.setIfInBounds_toArray, List.set_cons_succ, List.set_cons_zero]
 refine lex_put [.int .u64 ((zl t : Nat) : Int), .string (zh t), .bool (zs t)] [.int .u64 0, .string ⟨#[]⟩, .bool false] 17 28 (.tmp 65) rfl (by kernel_rfl) (by simp [toG, upd]) rfl (fun w k h => put_int _ _ _ _ _ _ w k h) ?_
 simp only [Act.put]
 refine lexG_nil ?_
 intro κ x9 hS
 replace hL0 := hL0.ghs hS [(17, [.int .u64 ((zl t : Nat) : Int), .string (zh t), .bool (zs t)])] (by simp) (by intro p hp; simp only [List.mem_cons, List.not_mem_nil, or_false] at hp; rcases hp with rfl <;> exact ⟨_, by simp only [toG, upd]; rfl⟩)
 simp only [List.map_cons, List.map_nil, List.cons_append, List.nil_append] at hL0
 simp only [over_toG, over_nil, Act.put, List.setIfInBounds_toArray, List.set_cons_succ, List.set_cons_zero]
 clear hS
 generalize κ 17 = k9_17 at *
 go_upto_region 8 with fail
 obtain ⟨α, iα, F, hF1, hF2⟩ := cls x9
 have hq0 := cls_box hF1 hL0 _ _ List.mem_cons_self
 simp only [cellsC, and_true, Nat.zero_add, Nat.reduceAdd] at hq0
 have hq1 := cls_box hF1 hL0 _ _ (List.mem_cons_of_mem _ (List.mem_cons_of_mem _ List.mem_cons_self))
 simp only [cellsC, and_true, Nat.zero_add, Nat.reduceAdd] at hq1
 have hq2 := cls_box hF1 hL0 _ _ (List.mem_cons_of_mem _ (List.mem_cons_of_mem _ (List.mem_cons_of_mem _ (List.mem_cons_of_mem _ (List.mem_cons_of_mem _ (List.mem_cons_of_mem _ (List.mem_cons_of_mem _ (List.mem_cons_of_mem _ (List.mem_cons_of_mem _ List.mem_cons_self)))))))))
 simp only [cellsC, and_true, Nat.zero_add, Nat.reduceAdd] at hq2
 have hq3 := cls_box hF1 hL0 _ _ (List.mem_cons_of_mem _ (List.mem_cons_of_mem _ (List.mem_cons_of_mem _ (List.mem_cons_of_mem _ (List.mem_cons_of_mem _ (List.mem_cons_of_mem _ (List.mem_cons_of_mem _ (List.mem_cons_of_mem _ (List.mem_cons_of_mem _ (List.mem_cons_of_mem _ (List.mem_cons_of_mem _ (List.mem_cons_of_mem _ List.mem_cons_self))))))))))))
 simp only [cellsC, and_true, Nat.zero_add, Nat.reduceAdd] at hq3
 refine region_qs 11 (C := fun w' => ∃ x, w' = F x) (by kernel_rfl) (by kernel_rfl) (cls_drew hF2) ?_
 simp only [List.take_succ_cons, List.take_zero, List.drop_succ_cons, List.drop_zero, List.take_nil, List.drop_nil]
 repeat (go_big_quiet_step (first | fail | (go_at_call 32; with_reducible exact cls_call hF1 hF2 HM2.out _) | (go_at_call 33; with_reducible exact cls_call hF1 hF2 HP.out _) | (go_at_call 32; with_reducible exact cls_call hF1 hF2 HM3.out _) | (go_at_call 50; with_reducible exact cls_call hF1 hF2 HA3.out _)))
 refine wpQuiet_nil ?_
 rintro wq ⟨xq, rfl⟩
 replace hL0 := hL0.call (hF1 xq)
 clear  hq0 hq1 hq2 hq3 hF2
 generalize F xq = x10 at hL0 ⊢
 clear hF1 xq iα F α
 have hA := hL0.fc
 simp only [fcG, cellsF, neK, and_true, ne_eq, Nat.zero_add, Nat.reduceAdd] at hA
 have hP := hL0.put 10 (w.heap.size + 1 + 1) _ rfl [.int .u64 ((zl z : Nat) : Int), .string (zh z), .bool (zs z), .int .u64 ((lo f : Nat) : Int), .string (hs f)] rfl
 simp only [setAll, List.set_cons_zero, List.set_cons_succ] at hP
 generalize hput1 : (((((x10.setCell ⟨w.heap.size + 1 + 1, 0, none⟩ (.int .u64 ((zl z : Nat) : Int))).setCell ⟨w.heap.size + 1 + 1, 1, none⟩ (.string (zh z))).setCell ⟨w.heap.size + 1 + 1, 2, none⟩ (.bool (zs z))).setCell ⟨w.heap.size + 1 + 1, 3, none⟩ (.int .u64 ((lo f : Nat) : Int))).setCell ⟨w.heap.size + 1 + 1, 4, none⟩ (.string (hs f))) = x11 at hP
 have hB1 := hP.fc
 simp only [fcG, cellsF, neK, and_true, ne_eq, Nat.zero_add, Nat.reduceAdd] at hB1
 replace hL0 := hP
 go_wp2_with fail
 exact bodyPost_ret (v := .tuple #[.agg #[.int .u64 ((zl z : Nat) : Int), .string (zh z), .bool (zs z), .int .u64 ((lo f : Nat) : Int), .string (hs f)], .bool true]) (by simp [results, Tryz.results54, go_sem, hB1]) rfl ⟨rfl, hL0.bl⟩
end Go.Proofs.YtloipmieaefcpaaGreatDoor
namespace Go.Proofs.YtloipmieaefcpaaGreatDoor
open Go.RowKit
attribute [local irreducible] lo hs sm s64 c64 d64 b64 mh ml pd pc qd qc val hiB str cmpI srD lz nb isq zl zh zs fe
theorem rest_fld2 (z : Int) (m : Nat) (w : World) : (Instr.field 58 (frV z m) 0).run Tryz.prog w = .ok (intV z) w := by simp [go_sem, Instr.field, asAgg]
set_option maxHeartbeats 4000000 in
set_option maxRecDepth 100000 in
theorem pstep_w (w0 : World) (kd kb kx ky k6 k4 k3 k2 : Nat) (a b n v d q r u t : Int) (m K : Nat) (c : Bool) (HD : ∀ w, Calls Tryz.prog 36 #[intV b, intV n] w fun xe w' => xe = .returned (.tuple #[intV q, intV r, .bool c]) ∧ Below w.heap.size w w') (HM : ∀ w, Calls Tryz.prog 32 #[intV q, intV d] w fun xe w' => xe = .returned (intV u) ∧ Below w.heap.size w w') (HS : ∀ w, Calls Tryz.prog 57 #[intV v, intV u] w fun xe w' => xe = .returned (intV t) ∧ Below w.heap.size w w') (w : World) (hL0 : GL w0 w [(kd, [.int .u64 ((zl d : Nat) : Int), .string (zh d), .bool (zs d)]), (kb, [.int .u64 ((zl v : Nat) : Int), .string (zh v), .bool (zs v)]), (kx, [.int .u64 ((zl n : Nat) : Int), .string (zh n), .bool (zs n)]), (ky, [.int .u64 ((zl b : Nat) : Int), .string (zh b), .bool (zs b)]), (k6, [.int .u64 ((lo K : Nat) : Int), .string (hs K)]), (k4, [.int .u64 0, .string ⟨#[]⟩, .bool false, .int .u64 0, .string ⟨#[]⟩]), (k3, [.int .u64 ((lo m : Nat) : Int), .string (hs m)]), (k2, [.int .u64 ((zl a : Nat) : Int), .string (zh a), .bool (zs a)])]) :
  Calls Tryz.prog 72 #[.pointer (some ⟨ky, 0, none⟩), .pointer (some ⟨kx, 0, none⟩), .pointer (some ⟨kd, 0, none⟩), .pointer (some ⟨kb, 0, none⟩)] w fun xe w' => xe = .returned (.tuple #[]) ∧ GL w0 w' [(kd, [.int .u64 ((zl t : Nat) : Int), .string (zh t), .bool (zs t)]), (kb, [.int .u64 ((zl d : Nat) : Int), .string (zh d), .bool (zs d)]), (kx, [.int .u64 ((zl r : Nat) : Int), .string (zh r), .bool (zs r)]), (ky, [.int .u64 ((zl n : Nat) : Int), .string (zh n), .bool (zs n)]), (k6, [.int .u64 ((lo K : Nat) : Int), .string (hs K)]), (k4, [.int .u64 0, .string ⟨#[]⟩, .bool false, .int .u64 0, .string ⟨#[]⟩]), (k3, [.int .u64 ((lo m : Nat) : Int), .string (hs m)]), (k2, [.int .u64 ((zl a : Nat) : Int), .string (zh a), .bool (zs a)])] := by
 replace HD := Lib.hid HD
 replace HM := Lib.hid HM
 replace HS := Lib.hid HS
 go_enter Tryz.func72, Tryz.ntmps72
 have hN0 := cells_of _ 0 [] rfl (hL0.get _ _ (List.mem_cons_of_mem _ (List.mem_cons_of_mem _ List.mem_cons_self)))
 simp only [cellsF, and_true, Nat.zero_add, Nat.reduceAdd] at hN0
 have hN1 := cells_of _ 0 [] rfl (hL0.get _ _ (List.mem_cons_of_mem _ (List.mem_cons_of_mem _ (List.mem_cons_of_mem _ List.mem_cons_self))))
 simp only [cellsF, and_true, Nat.zero_add, Nat.reduceAdd] at hN1
 go_wp2_with fail
 clear hN0 hN1
 with_reducible refine Calls.mono (HD.out _) ?_
 rintro e x1 ⟨rfl, hb⟩
 replace hL0 := hL0.call hb
 clear hb
 replace hL0 := ((hL0.new rfl [.int .u64 ((zl q : Nat) : Int), .string (zh q), .bool (zs q)] 28).new (K := x1.heap.size + 1) (szA _ _) [.int .u64 ((zl r : Nat) : Int), .string (zh r), .bool (zs r)] 28)
 generalize hweq : ((x1.alloc (.cells #[.int .u64 ((zl q : Nat) : Int), .string (zh q), .bool (zs q)] 28)).alloc (.cells #[.int .u64 ((zl r : Nat) : Int), .string (zh r), .bool (zs r)] 28)) = x2 at hL0
 have hA := hL0.fc
 simp only [fcG, cellsF, neK, and_true, ne_eq, Nat.zero_add, Nat.reduceAdd] at hA
 go_upto_region 1 with fail
 clear hweq
 obtain ⟨⟨c0, c1, c2⟩, cf0, cn0, -, -, -, -, -, -, -, -, -, ⟨c3, c4, c5⟩, cf4, cn4, ⟨c6, c7, c8⟩, cf5, cn5, -, -, -, -, -, -, -, -, -, -, -⟩ := id hA
 clear hA
 go_region
 have hP := ((hL0.put 5 (ky) _ rfl [.int .u64 ((zl n : Nat) : Int), .string (zh n), .bool (zs n)] rfl).put 4 (kx) _ rfl [.int .u64 ((zl r : Nat) : Int), .string (zh r), .bool (zs r)] rfl).drew
 simp only [setAll, List.set_cons_zero, List.set_cons_succ] at hP
 generalize ((((((x2.setCell ⟨ky, 0, none⟩ (.int .u64 ((zl n : Nat) : Int))).setCell ⟨ky, 1, none⟩ (.string (zh n))).setCell ⟨ky, 2, none⟩ (.bool (zs n))).setCell ⟨kx, 0, none⟩ (.int .u64 ((zl r : Nat) : Int))).setCell ⟨kx, 1, none⟩ (.string (zh r))).setCell ⟨kx, 2, none⟩ (.bool (zs r))).drew = x3 at hP ⊢
 clear hL0
 have hL0 := hP
 clear hP
 clear c0 c1 c2 cf0 c3 c4 c5 cf4 c6 c7 c8 cf5 cn0 cn4 cn5
 go_upto_region 2 with fail
 obtain ⟨α, iα, F, hF1, hF2⟩ := cls x3
 have hq0 := cls_box hF1 hL0 _ _ (List.mem_cons_of_mem _ List.mem_cons_self)
 simp only [cellsC, and_true, Nat.zero_add, Nat.reduceAdd] at hq0
 have hq1 := cls_box hF1 hL0 _ _ (List.mem_cons_of_mem _ (List.mem_cons_of_mem _ List.mem_cons_self))
 simp only [cellsC, and_true, Nat.zero_add, Nat.reduceAdd] at hq1
 have hq2 := cls_box hF1 hL0 _ _ (List.mem_cons_of_mem _ (List.mem_cons_of_mem _ (List.mem_cons_of_mem _ List.mem_cons_self)))
 simp only [cellsC, and_true, Nat.zero_add, Nat.reduceAdd] at hq2
 refine region_qs 6 (C := fun w' => ∃ x, w' = F x) (by kernel_rfl) (by kernel_rfl) (cls_drew hF2) ?_
 simp only [List.take_succ_cons, List.take_zero, List.drop_succ_cons, List.drop_zero, List.take_nil, List.drop_nil]
 repeat (go_big_quiet_step (first | fail | (go_at_call 32; with_reducible exact cls_call hF1 hF2 HM.out _) | (go_at_call 57; with_reducible exact cls_call hF1 hF2 HS.out _)))
 refine wpQuiet_nil ?_
 rintro wq ⟨xq, rfl⟩
 replace hL0 := hL0.call (hF1 xq)
 clear  hq0 hq1 hq2 hF2
 generalize F xq = x4 at hL0 ⊢
 clear hF1 xq iα F α
 have hA := hL0.fc
 simp only [fcG, cellsF, neK, and_true, ne_eq, Nat.zero_add, Nat.reduceAdd] at hA
 have hP := hL0.put 3 (kb) _ rfl [.int .u64 ((zl d : Nat) : Int), .string (zh d), .bool (zs d)] rfl
 simp only [setAll, List.set_cons_zero, List.set_cons_succ] at hP
 generalize hput1 : (((x4.setCell ⟨kb, 0, none⟩ (.int .u64 ((zl d : Nat) : Int))).setCell ⟨kb, 1, none⟩ (.string (zh d))).setCell ⟨kb, 2, none⟩ (.bool (zs d))) = x5 at hP
 have hB1 := hP.fc
 simp only [fcG, cellsF, neK, and_true, ne_eq, Nat.zero_add, Nat.reduceAdd] at hB1
 replace hL0 := hP
 have hP := hL0.put 2 (kd) _ rfl [.int .u64 ((zl t : Nat) : Int), .string (zh t), .bool (zs t)] rfl
 simp only [setAll, List.set_cons_zero, List.set_cons_succ] at hP
 generalize hput2 : (((x5.setCell ⟨kd, 0, none⟩ (.int .u64 ((zl t : Nat) : Int))).setCell ⟨kd, 1, none⟩ (.string (zh t))).setCell ⟨kd, 2, none⟩ (.bool (zs t))) = x6 at hP
 have hB2 := hP.fc
 simp only [fcG, cellsF, neK, and_true, ne_eq, Nat.zero_add, Nat.reduceAdd] at hB2
 replace hL0 := hP
 go_wp2_with fail
 go_end0
 exact ⟨rfl, hL0.weak (List.Sublist.cons _ (List.Sublist.cons _ (List.Sublist.refl _)))⟩
set_option maxHeartbeats 16000000 in
set_option maxRecDepth 100000 in
theorem pcand_w (a y r zo on : Int) (m K : Nat) (R : Value) (hm : (digs m).length ≤ 10000) (HGr : ∀ w, Calls Tryz.prog 70 #[natV m] w fun xe w' => xe = .returned (natV K) ∧ Below w.heap.size w w') (HF : ∀ w, Calls Tryz.prog 31 #[.bool false, natV m] w fun xe w' => xe = .returned (intV y) ∧ Below w.heap.size w w') (HNm : ∀ w, Calls Tryz.prog 71 #[frV a m] w fun xe w' => xe = .returned (frV r m) ∧ Below w.heap.size w w') (H0 : ∀ w, Calls Tryz.prog 11 #[.int .i64 0] w fun xe w' => xe = .returned (intV zo) ∧ Below w.heap.size w w') (H1 : ∀ w, Calls Tryz.prog 11 #[.int .i64 1] w fun xe w' => xe = .returned (intV on) ∧ Below w.heap.size w w') (hcs : CEu a m (m + 1) y r zo on) (hK : K = recK m) (hN : candO a m = none → R = .tuple #[.agg #[.int .u64 0, .string ⟨#[]⟩, .bool false, .int .u64 0, .string ⟨#[]⟩], .bool false]) (hS : ∀ z d, candO a m = some (z, d) → R = .tuple #[fracV (mkRat z d), .bool true]) (w : World) :
  Calls Tryz.prog 41 #[intV a, natV m] w fun xe w' => xe = .returned R ∧ Below w.heap.size w w' := by
 replace HGr := Lib.hid HGr
 replace HF := Lib.hid HF
 replace HNm := Lib.hid HNm
 replace H0 := Lib.hid H0
 replace H1 := Lib.hid H1
 have hfd := fun w => rest_fld2 r m w
 replace hcs := Lib.hid hcs
 replace hK := Lib.hid hK
 replace hN := Lib.hid hN
 replace hS := Lib.hid hS
 have hL0 : GL w w [] := GL.start w
 replace hL0 := (((hL0.new rfl [.int .u64 ((zl a : Nat) : Int), .string (zh a), .bool (zs a)] 28).new (K := w.heap.size + 1) (szA _ _) [.int .u64 ((lo m : Nat) : Int), .string (hs m)] 26).new (K := w.heap.size + 1 + 1) (by simp only [World.size_alloc]) [.int .u64 0, .string ⟨#[]⟩, .bool false, .int .u64 0, .string ⟨#[]⟩] 30)
 generalize hweq : (((w.alloc (.cells #[.int .u64 ((zl a : Nat) : Int), .string (zh a), .bool (zs a)] 28)).alloc (.cells #[.int .u64 ((lo m : Nat) : Int), .string (hs m)] 26)).alloc (.cells #[.int .u64 0, .string ⟨#[]⟩, .bool false, .int .u64 0, .string ⟨#[]⟩] 30)) = x1 at hL0
 go_enter Tryz.func41, Tryz.ntmps41
 go_wp2_with fail
 go_step3
 have hN0 := cells_of _ 0 [] rfl (hL0.get _ _ (List.mem_cons_of_mem _ List.mem_cons_self))
 simp only [cellsF, and_true, Nat.zero_add, Nat.reduceAdd] at hN0
 go_wp2_with fail
 clear hN0
 with_reducible refine Calls.mono (HGr.out _) ?_
 rintro e x2 ⟨rfl, hb⟩
 replace hL0 := hL0.call hb
 clear hb hweq
 replace hL0 := (hL0.new rfl [.int .u64 ((lo K : Nat) : Int), .string (hs K)] 26)
 generalize hweq : (x2.alloc (.cells #[.int .u64 ((lo K : Nat) : Int), .string (hs K)] 26)) = x3 at hL0
 go_upto_region 2 with fail
 clear hweq
 refine region_gh (by kernel_rfl) (by kernel_rfl) ?_
 refine lex_seg (gl := []) 7 (by kernel_rfl) ?_
 intro α iα F hF1 hF2
 have hq := GL.seg hF1 hL0
 simp only [fcC, cellsC, and_true, Nat.zero_add, Nat.reduceAdd] at hq
 simp only [List.take_succ_cons, List.take_zero, List.drop_succ_cons, List.drop_zero, List.take_nil, List.drop_nil]
 repeat (go_big_quiet_step (first | fail | (go_at_call 31; with_reducible exact seg_call hF2 HF.out _) | (go_at_call 71; with_reducible exact seg_call hF2 HNm.out _)))
 refine wpQuiet_nil ?_
 clear hq hF1 hF2 iα F α
 refine lex_new [.int .u64 0, .string ⟨#[]⟩, .bool false] 7 28 28 rfl rfl (of_decide_eq_true (by kernel_rfl)) (by kernel_rfl) rfl new_int ?_
 simp only [Act.put, List.setIfInBounds_toArray, List.set_cons_succ, List.set_cons_zero]
 refine lex_new [.int .u64 0, .string ⟨#[]⟩, .bool false] 8 28 28 rfl rfl (of_decide_eq_true (by kernel_rfl)) (by kernel_rfl) rfl new_int ?_
 simp only [Act.put, List.setIfInBounds_toArray, List.set_cons_succ, List.set_cons_zero]
 refine lex_put [.int .u64 ((zl y : Nat) : Int), .string (zh y), .bool (zs y)] [.int .u64 0, .string ⟨#[]⟩, .bool false] 7 28 (.tmp 17) rfl (by kernel_rfl) (by simp [toG, upd]) rfl (fun w k h => put_int _ _ _ _ _ _ w k h) ?_
 simp only [Act.put]
 refine lex_put [.int .u64 ((zl r : Nat) : Int), .string (zh r), .bool (zs r)] [.int .u64 0, .string ⟨#[]⟩, .bool false] 8 28 (.tmp 22) rfl (by kernel_rfl) (by simp [toG, upd]) rfl (fun w k h => put_int _ _ _ _ _ _ w k h) ?_
 simp only [Act.put]
 refine lexG_nil ?_
 intro κ x4 hS
 replace hL0 := hL0.ghs hS [(8, [.int .u64 ((zl r : Nat) : Int), .string (zh r), .bool (zs r)]), (7, [.int .u64 ((zl y : Nat) : Int), .string (zh y), .bool (zs y)])] (by simp) (by intro p hp; simp only [List.mem_cons, List.not_mem_nil, or_false] at hp; rcases hp with rfl | rfl <;> exact ⟨_, by simp only [toG, upd]; rfl⟩)
 simp only [List.map_cons, List.map_nil, List.cons_append, List.nil_append] at hL0
 simp only [over_toG, over_nil, Act.put, List.setIfInBounds_toArray, List.set_cons_succ, List.set_cons_zero]
 clear hS
 generalize κ 8 = k4_8 at *
 generalize κ 7 = k4_7 at *
 go_wp2_with fail
 with_reducible refine Calls.mono (H0.out _) ?_
 rintro e x5 ⟨rfl, hb⟩
 replace hL0 := hL0.call hb
 clear hb
 go_wp2_with fail
 with_reducible refine Calls.mono (H1.out _) ?_
 rintro e x6 ⟨rfl, hb⟩
 replace hL0 := hL0.call hb
 clear hb
 replace hL0 := ((hL0.new rfl [.int .u64 ((zl zo : Nat) : Int), .string (zh zo), .bool (zs zo)] 28).new (K := x6.heap.size + 1) (szA _ _) [.int .u64 ((zl on : Nat) : Int), .string (zh on), .bool (zs on)] 28)
 generalize hweq : ((x6.alloc (.cells #[.int .u64 ((zl zo : Nat) : Int), .string (zh zo), .bool (zs zo)] 28)).alloc (.cells #[.int .u64 ((zl on : Nat) : Int), .string (zh on), .bool (zs on)] 28)) = x7 at hL0
 go_wp2_with fail
 go_step3
 go_wp2_with fail
 clear hweq
 go_loopg [] (m + 1) (fun gk wr => ∃ (b n v d : Int), CEu a m gk b n v d ∧ GL w wr [(x6.heap.size + 1, [.int .u64 ((zl d : Nat) : Int), .string (zh d), .bool (zs d)]), (x6.heap.size, [.int .u64 ((zl v : Nat) : Int), .string (zh v), .bool (zs v)]), (k4_8, [.int .u64 ((zl n : Nat) : Int), .string (zh n), .bool (zs n)]), (k4_7, [.int .u64 ((zl b : Nat) : Int), .string (zh b), .bool (zs b)]), (x2.heap.size, [.int .u64 ((lo K : Nat) : Int), .string (hs K)]), (w.heap.size + 1 + 1, [.int .u64 0, .string ⟨#[]⟩, .bool false, .int .u64 0, .string ⟨#[]⟩]), (w.heap.size + 1, [.int .u64 ((lo m : Nat) : Int), .string (hs m)]), (w.heap.size, [.int .u64 ((zl a : Nat) : Int), .string (zh a), .bool (zs a)])])
 case atStart => exact ⟨_, _, _, _, hcs.out, hL0⟩
 case round =>
  clear hL0
  obtain ⟨b, n, v, d, hC, hL0⟩ := hrel
  obtain ⟨i, hi⟩ : ∃ i, i = d.natAbs := ⟨_, rfl⟩
  obtain ⟨j, hj⟩ : ∃ j, j = n.natAbs := ⟨_, rfl⟩
  have HA1 := Lib.hid (fun w => absI d w)
  have HA2 := Lib.hid (fun w => absI n w)
  rw [← hi] at HA1
  rw [← hj] at HA2
  have HC1 := Lib.hid (fun w => cmp_any i K w)
  have HC2 := Lib.hid (fun w => cmp_any j K w)
  obtain ⟨ci, hci⟩ : ∃ c, c = cmpI i K := ⟨_, rfl⟩
  obtain ⟨cj, hcj⟩ : ∃ c, c = cmpI j K := ⟨_, rfl⟩
  rw [← hci] at HC1
  rw [← hcj] at HC2
  rcases Nat.lt_or_ge K i with h1 | h1
  ·have g1 : decide (0 < ci) = true := by rw [hci, cmpI_gt h1]; rfl
   have hR := Lib.hid (hC.none (by rw [← hK.out, ← hi]; exact h1))
   clear hi hj h1 hci hcj hC
   go_upto_region 5 with fail
   obtain ⟨α, iα, F, hF1, hF2⟩ := cls wr
   have hq0 := cls_box hF1 hL0 _ _ List.mem_cons_self
   simp only [cellsC, and_true, Nat.zero_add, Nat.reduceAdd] at hq0
   have hq1 := cls_box hF1 hL0 _ _ (List.mem_cons_of_mem _ (List.mem_cons_of_mem _ (List.mem_cons_of_mem _ (List.mem_cons_of_mem _ List.mem_cons_self))))
   simp only [cellsC, and_true, Nat.zero_add, Nat.reduceAdd] at hq1
   refine region_qs 6 (C := fun w' => ∃ x, w' = F x) (by kernel_rfl) (by kernel_rfl) (cls_drew hF2) ?_
   simp only [List.take_succ_cons, List.take_zero, List.drop_succ_cons, List.drop_zero, List.take_nil, List.drop_nil]
   repeat (go_big_quiet_step (first | fail | (go_at_call 50; with_reducible exact cls_call hF1 hF2 HA1.out _) | (go_at_call 51; with_reducible exact cls_call hF1 hF2 HC1.out _)))
   refine wpQuiet_nil ?_
   rintro wq ⟨xq, rfl⟩
   replace hL0 := hL0.call (hF1 xq)
   clear  hq0 hq1 hF2
   generalize F xq = x8 at hL0 ⊢
   clear hF1 xq iα F α
   have hA := hL0.fc
   simp only [fcG, cellsF, neK, and_true, ne_eq, Nat.zero_add, Nat.reduceAdd] at hA
   have hP := hL0.put 5 (w.heap.size + 1 + 1) _ rfl [.int .u64 0, .string ⟨#[]⟩, .bool false, .int .u64 0, .string ⟨#[]⟩] rfl
   simp only [setAll, List.set_cons_zero, List.set_cons_succ] at hP
   generalize hput1 : (((((x8.setCell ⟨w.heap.size + 1 + 1, 0, none⟩ (.int .u64 0)).setCell ⟨w.heap.size + 1 + 1, 1, none⟩ (.string ⟨#[]⟩)).setCell ⟨w.heap.size + 1 + 1, 2, none⟩ (.bool false)).setCell ⟨w.heap.size + 1 + 1, 3, none⟩ (.int .u64 0)).setCell ⟨w.heap.size + 1 + 1, 4, none⟩ (.string ⟨#[]⟩)) = x9 at hP
   have hB1 := hP.fc
   simp only [fcG, cellsF, neK, and_true, ne_eq, Nat.zero_add, Nat.reduceAdd] at hB1
   replace hL0 := hP
   go_wp2_with fail
   try rw [Exit.noGoto_ret]
   exact bodyPost_ret (v := .tuple #[.agg #[.int .u64 0, .string ⟨#[]⟩, .bool false, .int .u64 0, .string ⟨#[]⟩], .bool false]) (by simp [results, Tryz.results41, go_sem, hB1]) rfl ⟨by first | exact congrArg _ (hN.out hR.out).symm | rw [hN.out hR.out], hL0.bl⟩
  ·have g1 : decide (0 < ci) = false := by rw [hci]; exact decide_eq_false (by unfold cmpI; split <;> (try split) <;> omega)
   rcases Nat.lt_or_ge K j with h2 | h2
   ·have g2 : decide (cj ≤ 0) = false := by rw [hcj, cmpI_gt h2]; rfl
    obtain ⟨d1, d2, d3, d4⟩ := hC.small hm
    obtain ⟨hn0, g', hg', hC'⟩ := hC.step (by rw [← hi, ← hK.out]; exact h1) (by rw [← hj, ← hK.out]; exact h2)
    have HD := Lib.hid (fun w => divI b n hn0 (Nat.le_trans d1 (by omega)) (Nat.le_trans d2 (by omega)) w)
    obtain ⟨q, hq⟩ : ∃ q, q = b / n := ⟨_, rfl⟩
    have dq : dI q ≤ 20001 := by rw [hq]; exact Nat.le_trans (dI_div d1) (by omega)
    obtain ⟨r, hr⟩ : ∃ r, r = b % n := ⟨_, rfl⟩
    rw [← hq, ← hr] at HD
    rw [← hq, ← hr] at hC'
    have HM := Lib.hid (fun w => mulI q d (by omega) (by omega) w)
    have du : dI (q * d) ≤ 40002 := Nat.le_trans (dI_mul dq d4) (by omega)
    obtain ⟨u, hu⟩ : ∃ u, u = q * d := ⟨_, rfl⟩
    rw [← hu] at HM hC' du
    have HS := Lib.hid (fun w => subI v u (by omega) (by omega) w)
    obtain ⟨t, ht⟩ : ∃ t, t = v - u := ⟨_, rfl⟩
    rw [← ht] at HS hC'
    clear hi hj h1 h2 hci hcj hC hn0 d1 d2 d3 d4 dq du hq hr hu ht
    replace hg' := Lib.hid hg'
    replace hC' := Lib.hid hC'
    go_upto_region 5 with fail
    obtain ⟨α, iα, F, hF1, hF2⟩ := cls wr
    have hq0 := cls_box hF1 hL0 _ _ List.mem_cons_self
    simp only [cellsC, and_true, Nat.zero_add, Nat.reduceAdd] at hq0
    have hq1 := cls_box hF1 hL0 _ _ (List.mem_cons_of_mem _ (List.mem_cons_of_mem _ (List.mem_cons_of_mem _ (List.mem_cons_of_mem _ List.mem_cons_self))))
    simp only [cellsC, and_true, Nat.zero_add, Nat.reduceAdd] at hq1
    refine region_qs 6 (C := fun w' => ∃ x, w' = F x) (by kernel_rfl) (by kernel_rfl) (cls_drew hF2) ?_
    simp only [List.take_succ_cons, List.take_zero, List.drop_succ_cons, List.drop_zero, List.take_nil, List.drop_nil]
    repeat (go_big_quiet_step (first | fail | (go_at_call 50; with_reducible exact cls_call hF1 hF2 HA1.out _) | (go_at_call 51; with_reducible exact cls_call hF1 hF2 HC1.out _)))
    refine wpQuiet_nil ?_
    rintro wq ⟨xq, rfl⟩
    replace hL0 := hL0.call (hF1 xq)
    clear  hq0 hq1 hF2
    generalize F xq = x8 at hL0 ⊢
    clear hF1 xq iα F α
    go_upto_region 7 with fail
    obtain ⟨α, iα, F, hF1, hF2⟩ := cls x8
    have hq0 := cls_box hF1 hL0 _ _ (List.mem_cons_of_mem _ (List.mem_cons_of_mem _ List.mem_cons_self))
    simp only [cellsC, and_true, Nat.zero_add, Nat.reduceAdd] at hq0
    have hq1 := cls_box hF1 hL0 _ _ (List.mem_cons_of_mem _ (List.mem_cons_of_mem _ (List.mem_cons_of_mem _ (List.mem_cons_of_mem _ List.mem_cons_self))))
    simp only [cellsC, and_true, Nat.zero_add, Nat.reduceAdd] at hq1
    refine region_qs 6 (C := fun w' => ∃ x, w' = F x) (by kernel_rfl) (by kernel_rfl) (cls_drew hF2) ?_
    simp only [List.take_succ_cons, List.take_zero, List.drop_succ_cons, List.drop_zero, List.take_nil, List.drop_nil]
    repeat (go_big_quiet_step (first | fail | (go_at_call 50; with_reducible exact cls_call hF1 hF2 HA2.out _) | (go_at_call 51; with_reducible exact cls_call hF1 hF2 HC2.out _)))
    refine wpQuiet_nil ?_
    rintro wq ⟨xq, rfl⟩
    replace hL0 := hL0.call (hF1 xq)
    clear  hq0 hq1 hF2
    generalize F xq = x9 at hL0 ⊢
    clear hF1 xq iα F α
    go_wp2_with fail
    refine Calls.mono (pstep_w w _ _ _ _ _ _ _ _ a b n v d q r u t m K true HD.out HM.out HS.out _ (by exact hL0)) ?_
    rintro e x99 ⟨rfl, hG⟩
    clear hL0
    go_wp2_with fail
    go_roundg g'
    case measure => exact hg'.out
    case rel => exact ⟨_, _, _, _, hC'.out, hG⟩
   ·have g2 : decide (cj ≤ 0) = true := by rw [hcj]; exact decide_eq_true (by unfold cmpI; split <;> (try split) <;> omega)
    obtain ⟨d1, d2, d3, d4⟩ := hC.small hm
    have hR := Lib.hid (hC.some (by rw [← hi, ← hK.out]; exact h1) (by rw [← hj, ← hK.out]; exact h2))
    have hi0 := hC.pos (by rw [← hi, ← hK.out]; exact h1)
    rw [← hi] at hi0
    have hiD : (digs i).length ≤ 10001 := by rw [hi]; exact d4
    have HSg := Lib.hid (fun w => signI d w)
    obtain ⟨sg, hsg⟩ : ∃ s, s = sgn d := ⟨_, rfl⟩
    rw [← hsg] at HSg
    by_cases hd : d < 0
    ·have g3 : decide (sg < 0) = true := by rw [hsg, dec_sgn]; exact decide_eq_true hd
     rw [if_pos hd] at hR
     have HNg := Lib.hid (fun w => negI n w)
     have d5 : dI (-n) ≤ 10001 := by rw [dI_neg]; exact d2
     obtain ⟨o, ho⟩ : ∃ o, o = -n := ⟨_, rfl⟩
     rw [← ho] at HNg hR d5
     have HFr := Lib.hid (fun w => fromF o i (by omega) (by omega) (by omega) w)
     rw [← hi] at hR
     obtain ⟨f, hf⟩ : ∃ f, f = mkRat o i := ⟨_, rfl⟩
     rw [← hf] at HFr
     have hR2 := Lib.hid (hS.out _ _ hR.out)
     rw [← hf] at hR2
     clear hi hj h1 h2 hci hcj hC d1 d2 d3 d4 hR hi0 hiD hsg hd hf d5 ho
     go_upto_region 5 with fail
     obtain ⟨α, iα, F, hF1, hF2⟩ := cls wr
     have hq0 := cls_box hF1 hL0 _ _ List.mem_cons_self
     simp only [cellsC, and_true, Nat.zero_add, Nat.reduceAdd] at hq0
     have hq1 := cls_box hF1 hL0 _ _ (List.mem_cons_of_mem _ (List.mem_cons_of_mem _ (List.mem_cons_of_mem _ (List.mem_cons_of_mem _ List.mem_cons_self))))
     simp only [cellsC, and_true, Nat.zero_add, Nat.reduceAdd] at hq1
     refine region_qs 6 (C := fun w' => ∃ x, w' = F x) (by kernel_rfl) (by kernel_rfl) (cls_drew hF2) ?_
     simp only [List.take_succ_cons, List.take_zero, List.drop_succ_cons, List.drop_zero, List.take_nil, List.drop_nil]
     repeat (go_big_quiet_step (first | fail | (go_at_call 50; with_reducible exact cls_call hF1 hF2 HA1.out _) | (go_at_call 51; with_reducible exact cls_call hF1 hF2 HC1.out _)))
     refine wpQuiet_nil ?_
     rintro wq ⟨xq, rfl⟩
     replace hL0 := hL0.call (hF1 xq)
     clear  hq0 hq1 hF2
     generalize F xq = x8 at hL0 ⊢
     clear hF1 xq iα F α
     go_upto_region 7 with fail
     obtain ⟨α, iα, F, hF1, hF2⟩ := cls x8
     have hq0 := cls_box hF1 hL0 _ _ (List.mem_cons_of_mem _ (List.mem_cons_of_mem _ List.mem_cons_self))
     simp only [cellsC, and_true, Nat.zero_add, Nat.reduceAdd] at hq0
     have hq1 := cls_box hF1 hL0 _ _ (List.mem_cons_of_mem _ (List.mem_cons_of_mem _ (List.mem_cons_of_mem _ (List.mem_cons_of_mem _ List.mem_cons_self))))
     simp only [cellsC, and_true, Nat.zero_add, Nat.reduceAdd] at hq1
     refine region_qs 6 (C := fun w' => ∃ x, w' = F x) (by kernel_rfl) (by kernel_rfl) (cls_drew hF2) ?_
     simp only [List.take_succ_cons, List.take_zero, List.drop_succ_cons, List.drop_zero, List.take_nil, List.drop_nil]
     repeat (go_big_quiet_step (first | fail | (go_at_call 50; with_reducible exact cls_call hF1 hF2 HA2.out _) | (go_at_call 51; with_reducible exact cls_call hF1 hF2 HC2.out _)))
     refine wpQuiet_nil ?_
     rintro wq ⟨xq, rfl⟩
     replace hL0 := hL0.call (hF1 xq)
     clear  hq0 hq1 hF2
     generalize F xq = x9 at hL0 ⊢
     clear hF1 xq iα F α
     have hN0 := cells_of _ 0 [] rfl (hL0.get _ _ List.mem_cons_self)
     simp only [cellsF, and_true, Nat.zero_add, Nat.reduceAdd] at hN0
     go_wp2_with fail
     clear hN0
     with_reducible refine Calls.mono (HSg.out _) ?_
     rintro e x10 ⟨rfl, hb⟩
     replace hL0 := hL0.call hb
     clear hb
     have hN0 := cells_of _ 0 [] rfl (hL0.get _ _ (List.mem_cons_of_mem _ (List.mem_cons_of_mem _ List.mem_cons_self)))
     simp only [cellsF, and_true, Nat.zero_add, Nat.reduceAdd] at hN0
     go_wp2_with fail
     clear hN0
     with_reducible refine Calls.mono (HNg.out _) ?_
     rintro e x11 ⟨rfl, hb⟩
     replace hL0 := hL0.call hb
     clear hb
     have hA := hL0.fc
     simp only [fcG, cellsF, neK, and_true, ne_eq, Nat.zero_add, Nat.reduceAdd] at hA
     have hP := hL0.put 2 (k4_8) _ rfl [.int .u64 ((zl o : Nat) : Int), .string (zh o), .bool (zs o)] rfl
     simp only [setAll, List.set_cons_zero, List.set_cons_succ] at hP
     generalize hput1 : (((x11.setCell ⟨k4_8, 0, none⟩ (.int .u64 ((zl o : Nat) : Int))).setCell ⟨k4_8, 1, none⟩ (.string (zh o))).setCell ⟨k4_8, 2, none⟩ (.bool (zs o))) = x12 at hP
     have hB1 := hP.fc
     simp only [fcG, cellsF, neK, and_true, ne_eq, Nat.zero_add, Nat.reduceAdd] at hB1
     replace hL0 := hP
     go_upto_region 11 with fail
     clear hA
     clear hput1 hB1
     refine region_gh (by kernel_rfl) (by kernel_rfl) ?_
     refine lex_seg (gl := []) 7 (by kernel_rfl) ?_
     intro α iα F hF1 hF2
     have hq := GL.seg hF1 hL0
     simp only [fcC, cellsC, and_true, Nat.zero_add, Nat.reduceAdd] at hq
     simp only [List.take_succ_cons, List.take_zero, List.drop_succ_cons, List.drop_zero, List.take_nil, List.drop_nil]
     repeat (go_big_quiet_step (first | fail | (go_at_call 50; with_reducible exact seg_call hF2 HA1.out _) | (go_at_call 55; with_reducible exact seg_call hF2 HFr.out _)))
     refine wpQuiet_nil ?_
     clear hq hF1 hF2 iα F α
     refine lex_new [.int .u64 0, .string ⟨#[]⟩, .bool false, .int .u64 0, .string ⟨#[]⟩] 12 30 30 rfl rfl (of_decide_eq_true (by kernel_rfl)) (by kernel_rfl) rfl new_frac ?_
     simp only [Act.put, List.setIfInBounds_toArray, List.set_cons_succ, List.set_cons_zero]
     refine lex_put [.int .u64 ((zl f.num : Nat) : Int), .string (zh f.num), .bool (zs f.num), .int .u64 ((lo (fe f) : Nat) : Int), .string (hs (fe f))] [.int .u64 0, .string ⟨#[]⟩, .bool false, .int .u64 0, .string ⟨#[]⟩] 12 30 (.tmp 51) rfl (by kernel_rfl) (by simp [toG, upd]) rfl (fun w k h => put_frac _ _ _ _ _ _ _ _ _ _ w k h) ?_
     simp only [Act.put]
     refine lex_seg (gl := [(12, [.int .u64 ((zl f.num : Nat) : Int), .string (zh f.num), .bool (zs f.num), .int .u64 ((lo (fe f) : Nat) : Int), .string (hs (fe f))], true), (12, [.int .u64 0, .string ⟨#[]⟩, .bool false, .int .u64 0, .string ⟨#[]⟩], false)]) 1 (by kernel_rfl) ?_
     intro α iα F hF1 hF2
     have hq := GL.seg hF1 hL0
     simp only [fcC, cellsC, and_true, Nat.zero_add, Nat.reduceAdd] at hq
     simp only [List.take_succ_cons, List.take_zero, List.drop_succ_cons, List.drop_zero, List.take_nil, List.drop_nil]
     repeat (go_big_quiet_step (first | fail | (go_at_call 50; with_reducible exact seg_call hF2 HA1.out _) | (go_at_call 55; with_reducible exact seg_call hF2 HFr.out _)))
     refine wpQuiet_nil ?_
     clear hq hF1 hF2 iα F α
     refine lexG_nil ?_
     intro κ x13 hS
     replace hL0 := hL0.ghs hS [(12, [.int .u64 ((zl f.num : Nat) : Int), .string (zh f.num), .bool (zs f.num), .int .u64 ((lo (fe f) : Nat) : Int), .string (hs (fe f))])] (by simp) (by intro p hp; simp only [List.mem_cons, List.not_mem_nil, or_false] at hp; rcases hp with rfl <;> exact ⟨_, by simp only [toG, upd]; rfl⟩)
     simp only [List.map_cons, List.map_nil, List.cons_append, List.nil_append] at hL0
     simp only [over_toG, over_nil, Act.put, List.setIfInBounds_toArray, List.set_cons_succ, List.set_cons_zero]
     clear hS
     generalize κ 12 = k13_12 at *
     have hA := hL0.fc
     simp only [fcG, cellsF, neK, and_true, ne_eq, Nat.zero_add, Nat.reduceAdd] at hA
     have hP := hL0.put 6 (w.heap.size + 1 + 1) _ rfl [.int .u64 ((zl f.num : Nat) : Int), .string (zh f.num), .bool (zs f.num), .int .u64 ((lo (fe f) : Nat) : Int), .string (hs (fe f))] rfl
     simp only [setAll, List.set_cons_zero, List.set_cons_succ] at hP
     generalize hput2 : (((((x13.setCell ⟨w.heap.size + 1 + 1, 0, none⟩ (.int .u64 ((zl f.num : Nat) : Int))).setCell ⟨w.heap.size + 1 + 1, 1, none⟩ (.string (zh f.num))).setCell ⟨w.heap.size + 1 + 1, 2, none⟩ (.bool (zs f.num))).setCell ⟨w.heap.size + 1 + 1, 3, none⟩ (.int .u64 ((lo (fe f) : Nat) : Int))).setCell ⟨w.heap.size + 1 + 1, 4, none⟩ (.string (hs (fe f)))) = x14 at hP
     have hB2 := hP.fc
     simp only [fcG, cellsF, neK, and_true, ne_eq, Nat.zero_add, Nat.reduceAdd] at hB2
     replace hL0 := hP
     go_wp2_with fail
     try rw [Exit.noGoto_ret]
     exact bodyPost_ret (v := .tuple #[.agg #[.int .u64 ((zl f.num : Nat) : Int), .string (zh f.num), .bool (zs f.num), .int .u64 ((lo (fe f) : Nat) : Int), .string (hs (fe f))], .bool true]) (by simp [results, Tryz.results41, go_sem, hB2]) rfl ⟨by rw [hR2.out], hL0.bl⟩
    ·have g3 : decide (sg < 0) = false := by rw [hsg, dec_sgn]; exact decide_eq_false hd
     rw [if_neg hd] at hR
     have HFr := Lib.hid (fun w => fromF n i (by omega) (by omega) (by omega) w)
     rw [← hi] at hR
     obtain ⟨f, hf⟩ : ∃ f, f = mkRat n i := ⟨_, rfl⟩
     rw [← hf] at HFr
     have hR2 := Lib.hid (hS.out _ _ hR.out)
     rw [← hf] at hR2
     clear hi hj h1 h2 hci hcj hC d1 d2 d3 d4 hR hi0 hiD hsg hd hf
     go_upto_region 5 with fail
     obtain ⟨α, iα, F, hF1, hF2⟩ := cls wr
     have hq0 := cls_box hF1 hL0 _ _ List.mem_cons_self
     simp only [cellsC, and_true, Nat.zero_add, Nat.reduceAdd] at hq0
     have hq1 := cls_box hF1 hL0 _ _ (List.mem_cons_of_mem _ (List.mem_cons_of_mem _ (List.mem_cons_of_mem _ (List.mem_cons_of_mem _ List.mem_cons_self))))
     simp only [cellsC, and_true, Nat.zero_add, Nat.reduceAdd] at hq1
     refine region_qs 6 (C := fun w' => ∃ x, w' = F x) (by kernel_rfl) (by kernel_rfl) (cls_drew hF2) ?_
     simp only [List.take_succ_cons, List.take_zero, List.drop_succ_cons, List.drop_zero, List.take_nil, List.drop_nil]
     repeat (go_big_quiet_step (first | fail | (go_at_call 50; with_reducible exact cls_call hF1 hF2 HA1.out _) | (go_at_call 51; with_reducible exact cls_call hF1 hF2 HC1.out _)))
     refine wpQuiet_nil ?_
     rintro wq ⟨xq, rfl⟩
     replace hL0 := hL0.call (hF1 xq)
     clear  hq0 hq1 hF2
     generalize F xq = x8 at hL0 ⊢
     clear hF1 xq iα F α
     go_upto_region 7 with fail
     obtain ⟨α, iα, F, hF1, hF2⟩ := cls x8
     have hq0 := cls_box hF1 hL0 _ _ (List.mem_cons_of_mem _ (List.mem_cons_of_mem _ List.mem_cons_self))
     simp only [cellsC, and_true, Nat.zero_add, Nat.reduceAdd] at hq0
     have hq1 := cls_box hF1 hL0 _ _ (List.mem_cons_of_mem _ (List.mem_cons_of_mem _ (List.mem_cons_of_mem _ (List.mem_cons_of_mem _ List.mem_cons_self))))
     simp only [cellsC, and_true, Nat.zero_add, Nat.reduceAdd] at hq1
     refine region_qs 6 (C := fun w' => ∃ x, w' = F x) (by kernel_rfl) (by kernel_rfl) (cls_drew hF2) ?_
     simp only [List.take_succ_cons, List.take_zero, List.drop_succ_cons, List.drop_zero, List.take_nil, List.drop_nil]
     repeat (go_big_quiet_step (first | fail | (go_at_call 50; with_reducible exact cls_call hF1 hF2 HA2.out _) | (go_at_call 51; with_reducible exact cls_call hF1 hF2 HC2.out _)))
     refine wpQuiet_nil ?_
     rintro wq ⟨xq, rfl⟩
     replace hL0 := hL0.call (hF1 xq)
     clear  hq0 hq1 hF2
     generalize F xq = x9 at hL0 ⊢
     clear hF1 xq iα F α
     have hN0 := cells_of _ 0 [] rfl (hL0.get _ _ List.mem_cons_self)
     simp only [cellsF, and_true, Nat.zero_add, Nat.reduceAdd] at hN0
     go_wp2_with fail
     clear hN0
     with_reducible refine Calls.mono (HSg.out _) ?_
     rintro e x10 ⟨rfl, hb⟩
     replace hL0 := hL0.call hb
     clear hb
     go_upto_region 11 with fail
     refine region_gh (by kernel_rfl) (by kernel_rfl) ?_
     refine lex_seg (gl := []) 7 (by kernel_rfl) ?_
     intro α iα F hF1 hF2
     have hq := GL.seg hF1 hL0
     simp only [fcC, cellsC, and_true, Nat.zero_add, Nat.reduceAdd] at hq
     simp only [List.take_succ_cons, List.take_zero, List.drop_succ_cons, List.drop_zero, List.take_nil, List.drop_nil]
     repeat (go_big_quiet_step (first | fail | (go_at_call 50; with_reducible exact seg_call hF2 HA1.out _) | (go_at_call 55; with_reducible exact seg_call hF2 HFr.out _)))
     refine wpQuiet_nil ?_
     clear hq hF1 hF2 iα F α
     refine lex_new [.int .u64 0, .string ⟨#[]⟩, .bool false, .int .u64 0, .string ⟨#[]⟩] 12 30 30 rfl rfl (of_decide_eq_true (by kernel_rfl)) (by kernel_rfl) rfl new_frac ?_
     simp only [Act.put, List.setIfInBounds_toArray, List.set_cons_succ, List.set_cons_zero]
     refine lex_put [.int .u64 ((zl f.num : Nat) : Int), .string (zh f.num), .bool (zs f.num), .int .u64 ((lo (fe f) : Nat) : Int), .string (hs (fe f))] [.int .u64 0, .string ⟨#[]⟩, .bool false, .int .u64 0, .string ⟨#[]⟩] 12 30 (.tmp 51) rfl (by kernel_rfl) (by simp [toG, upd]) rfl (fun w k h => put_frac _ _ _ _ _ _ _ _ _ _ w k h) ?_
     simp only [Act.put]
     refine lex_seg (gl := [(12, [.int .u64 ((zl f.num : Nat) : Int), .string (zh f.num), .bool (zs f.num), .int .u64 ((lo (fe f) : Nat) : Int), .string (hs (fe f))], true), (12, [.int .u64 0, .string ⟨#[]⟩, .bool false, .int .u64 0, .string ⟨#[]⟩], false)]) 1 (by kernel_rfl) ?_
     intro α iα F hF1 hF2
     have hq := GL.seg hF1 hL0
     simp only [fcC, cellsC, and_true, Nat.zero_add, Nat.reduceAdd] at hq
     simp only [List.take_succ_cons, List.take_zero, List.drop_succ_cons, List.drop_zero, List.take_nil, List.drop_nil]
     repeat (go_big_quiet_step (first | fail | (go_at_call 50; with_reducible exact seg_call hF2 HA1.out _) | (go_at_call 55; with_reducible exact seg_call hF2 HFr.out _)))
     refine wpQuiet_nil ?_
     clear hq hF1 hF2 iα F α
     refine lexG_nil ?_
     intro κ x11 hS
     replace hL0 := hL0.ghs hS [(12, [.int .u64 ((zl f.num : Nat) : Int), .string (zh f.num), .bool (zs f.num), .int .u64 ((lo (fe f) : Nat) : Int), .string (hs (fe f))])] (by simp) (by intro p hp; simp only [List.mem_cons, List.not_mem_nil, or_false] at hp; rcases hp with rfl <;> exact ⟨_, by simp only [toG, upd]; rfl⟩)
     simp only [List.map_cons, List.map_nil, List.cons_append, List.nil_append] at hL0
     simp only [over_toG, over_nil, Act.put, List.setIfInBounds_toArray, List.set_cons_succ, List.set_cons_zero]
     clear hS
     generalize κ 12 = k11_12 at *
     have hA := hL0.fc
     simp only [fcG, cellsF, neK, and_true, ne_eq, Nat.zero_add, Nat.reduceAdd] at hA
     have hP := hL0.put 6 (w.heap.size + 1 + 1) _ rfl [.int .u64 ((zl f.num : Nat) : Int), .string (zh f.num), .bool (zs f.num), .int .u64 ((lo (fe f) : Nat) : Int), .string (hs (fe f))] rfl
     simp only [setAll, List.set_cons_zero, List.set_cons_succ] at hP
     generalize hput1 : (((((x11.setCell ⟨w.heap.size + 1 + 1, 0, none⟩ (.int .u64 ((zl f.num : Nat) : Int))).setCell ⟨w.heap.size + 1 + 1, 1, none⟩ (.string (zh f.num))).setCell ⟨w.heap.size + 1 + 1, 2, none⟩ (.bool (zs f.num))).setCell ⟨w.heap.size + 1 + 1, 3, none⟩ (.int .u64 ((lo (fe f) : Nat) : Int))).setCell ⟨w.heap.size + 1 + 1, 4, none⟩ (.string (hs (fe f)))) = x12 at hP
     have hB1 := hP.fc
     simp only [fcG, cellsF, neK, and_true, ne_eq, Nat.zero_add, Nat.reduceAdd] at hB1
     replace hL0 := hP
     go_wp2_with fail
     try rw [Exit.noGoto_ret]
     exact bodyPost_ret (v := .tuple #[.agg #[.int .u64 ((zl f.num : Nat) : Int), .string (zh f.num), .bool (zs f.num), .int .u64 ((lo (fe f) : Nat) : Int), .string (hs (fe f))], .bool true]) (by simp [results, Tryz.results41, go_sem, hB1]) rfl ⟨by rw [hR2.out], hL0.bl⟩
end Go.Proofs.YtloipmieaefcpaaGreatDoor
namespace Go.Proofs.YtloipmieaefcpaaGreatDoor
theorem lcm_dvd_int {M1 M2 : Nat} {z : Int} : ((Nat.lcm M1 M2 : Nat) : Int) ∣ z ↔ (M1 : Int) ∣ z ∧ (M2 : Int) ∣ z := by
 rw [Int.ofNat_dvd_left, Int.ofNat_dvd_left, Int.ofNat_dvd_left]
 exact Nat.lcm_dvd_iff
/-- A number that satisfies both congruences stands for both. -/
theorem crt_iff {M1 M2 : Nat} {R1 R2 R : Int} (h1 : (M1 : Int) ∣ R - R1) (h2 : (M2 : Int) ∣ R - R2) (x : Int) : ((Nat.lcm M1 M2 : Nat) : Int) ∣ x - R ↔ (M1 : Int) ∣ x - R1 ∧ (M2 : Int) ∣ x - R2 := by
 rw [lcm_dvd_int]
 have e1 : x - R1 = (x - R) + (R - R1) := by omega
 have e2 : x - R2 = (x - R) + (R - R2) := by omega
 rw [e1, e2]
 exact and_congr (Int.dvd_add_left h1).symm (Int.dvd_add_left h2).symm
theorem crt_need {M1 M2 : Nat} {R1 R2 x : Int} (h1 : (M1 : Int) ∣ x - R1) (h2 : (M2 : Int) ∣ x - R2) : ((Nat.gcd M1 M2 : Nat) : Int) ∣ R2 - R1 := by
 have k1 := Int.dvd_trans (Int.natCast_dvd_natCast.2 (Nat.gcd_dvd_left M1 M2)) h1
 have k2 := Int.dvd_trans (Int.natCast_dvd_natCast.2 (Nat.gcd_dvd_right M1 M2)) h2
 have := Int.dvd_sub k1 k2
 rwa [show x - R1 - (x - R2) = R2 - R1 by omega] at this
/-- The residue between 0 and M - 1 is one. -/
theorem res_uniq {M : Nat} {R S : Int} (h0 : 0 ≤ R) (h1 : R < M) (g0 : 0 ≤ S) (g1 : S < M) (h : (M : Int) ∣ R - S) : R = S := by
 have := dvd_small h (by omega)
 omega
theorem res_mod {M : Nat} (hM : 0 < M) (x : Int) : 0 ≤ x % (M : Int) ∧ x % (M : Int) < M ∧ (M : Int) ∣ x - x % (M : Int) := by
 refine ⟨Int.emod_nonneg _ (by omega), Int.emod_lt_of_pos _ (by omega), ⟨x / M, ?_⟩⟩
 have := Int.emod_add_mul_ediv x M
 omega
/-- What several congruences say together. -/
def Holds (l : List (Int × Nat)) (x : Int) : Prop := ∀ c ∈ l, (c.2 : Int) ∣ x - c.1
theorem holds_nil (x : Int) : Holds [] x := fun c h => absurd h (by simp)
theorem holds_cons (c : Int × Nat) (l : List (Int × Nat)) (x : Int) : Holds (c :: l) x ↔ (c.2 : Int) ∣ x - c.1 ∧ Holds l x := by
 unfold Holds; simp
theorem holds_append (l k : List (Int × Nat)) (x : Int) : Holds (l ++ k) x ↔ Holds l x ∧ Holds k x := by
 unfold Holds
 constructor
 ·intro h; exact ⟨fun c hc => h c (List.mem_append_left _ hc), fun c hc => h c (List.mem_append_right _ hc)⟩
 ·rintro ⟨h1, h2⟩ c hc
  rcases List.mem_append.1 hc with h | h
  ·exact h1 c h
  ·exact h2 c h
/-- The least common multiple of the moduli. -/
def lcmL : List (Int × Nat) → Nat
 | [] => 1
 | c :: l => Nat.lcm c.2 (lcmL l)
theorem lcmL_dvd {l : List (Int × Nat)} : ∀ {n : Nat}, lcmL l ∣ n ↔ ∀ c ∈ l, c.2 ∣ n := by
 induction l with
 | nil => intro n; simp [lcmL]
 | cons c l ih => intro n; rw [lcmL, Nat.lcm_dvd_iff, ih]; simp
theorem lcmL_pos {l : List (Int × Nat)} (h : ∀ c ∈ l, 0 < c.2) : 0 < lcmL l := by
 induction l with
 | nil => exact Nat.one_pos
 | cons c l ih => exact Nat.lcm_pos (h c List.mem_cons_self) (ih fun d hd => h d (List.mem_cons_of_mem _ hd))
/-- The congruence that is equivalent to all of them. -/
structure Joint (l : List (Int × Nat)) (R : Int) (M : Nat) : Prop where
 m : M = lcmL l
 lo : 0 ≤ R
 hi : R < M
 iff : ∀ x, (M : Int) ∣ x - R ↔ Holds l x
theorem Joint.uniq {l : List (Int × Nat)} {R S : Int} {M K : Nat} (h : Joint l R M) (g : Joint l S K) : R = S ∧ M = K := by
 have e : M = K := h.m.trans g.m.symm
 subst e
 refine ⟨res_uniq h.lo h.hi g.lo g.hi ((g.iff R).2 ((h.iff R).1 ⟨0, by omega⟩)), rfl⟩
/-- The congruences that an integer satisfies say together that it has its residue modulo the least common multiple. -/
theorem joint_of {l : List (Int × Nat)} {a : Int} (h : Holds l a) (hp : ∀ c ∈ l, 0 < c.2) : Joint l (a % (lcmL l : Int)) (lcmL l) := by
 have hM := lcmL_pos hp
 obtain ⟨h0, h1, h2⟩ := res_mod hM a
 refine ⟨rfl, h0, h1, fun x => ?_⟩
 have key : (lcmL l : Int) ∣ x - a ↔ Holds l x := by
  rw [Int.ofNat_dvd_left, lcmL_dvd]
  unfold Holds
  refine forall_congr' fun c => forall_congr' fun hc => ?_
  rw [← Int.ofNat_dvd_left, show x - c.1 = (x - a) + (a - c.1) by omega]
  exact (Int.dvd_add_left (h c hc)).symm
 rw [← key, show x - a % (lcmL l : Int) = (x - a) + (a - a % (lcmL l : Int)) by omega]
 exact Int.dvd_add_left h2
end Go.Proofs.YtloipmieaefcpaaGreatDoor
namespace Go.Proofs.YtloipmieaefcpaaGreatDoor
/-- How often the first modulus is added to go from the first residue to the second. -/
def crtT (p q : Int × Nat) : Int := (q.1 - p.1) / (Nat.gcd p.2 q.2 : Int) * (xgcd p.2 q.2).2.1 % ((q.2 : Int) / (Nat.gcd p.2 q.2 : Int))
def crtR (p q : Int × Nat) : Int := p.1 + crtT p q * (p.2 : Int)
def crtM (p q : Int × Nat) : Nat := ((p.2 : Int) * ((q.2 : Int) / (Nat.gcd p.2 q.2 : Int))).natAbs
theorem crtM_lcm (p q : Int × Nat) : crtM p q = Nat.lcm p.2 q.2 := by
 unfold crtM
 rw [← Int.natCast_ediv, ← Int.natCast_mul, Int.natAbs_natCast, Nat.lcm, Nat.mul_div_assoc _ (Nat.gcd_dvd_right _ _)]
theorem turn_pos {m n : Nat} (hn : 0 < n) : 0 < n / Nat.gcd m n := Nat.div_pos (Nat.le_of_dvd hn (Nat.gcd_dvd_right _ _)) (Nat.gcd_pos_of_pos_right _ hn)
theorem crtT_bounds {p q : Int × Nat} (hq : 0 < q.2) : 0 ≤ crtT p q ∧ crtT p q < ((q.2 / Nat.gcd p.2 q.2 : Nat) : Int) := by
 unfold crtT
 have h := turn_pos (m := p.2) hq
 rw [← Int.natCast_ediv]
 exact ⟨Int.emod_nonneg _ (by omega), Int.emod_lt_of_pos _ (by omega)⟩
theorem crt_join {p q : Int × Nat} (hp : 0 < p.2) (hq : 0 < q.2) (h : (Nat.gcd p.2 q.2 : Int) ∣ q.1 - p.1) : (p.2 : Int) ∣ crtR p q - p.1 ∧ (q.2 : Int) ∣ crtR p q - q.1 := by
 obtain ⟨c, hc⟩ := h
 have hg : (Nat.gcd p.2 q.2 : Int) ≠ 0 := by have := Nat.gcd_pos_of_pos_right p.2 hq; omega
 have hb := xgcd_bez _ (p.2 : Int) (q.2 : Int) (Nat.le_refl _)
 rw [hb.2, Int.natAbs_natCast, Int.natAbs_natCast] at hb
 have hb1 := hb.1
 obtain ⟨a, ha⟩ : (Nat.gcd p.2 q.2 : Int) ∣ (p.2 : Int) := Int.natCast_dvd_natCast.2 (Nat.gcd_dvd_left _ _)
 obtain ⟨b, hb2⟩ : (Nat.gcd p.2 q.2 : Int) ∣ (q.2 : Int) := Int.natCast_dvd_natCast.2 (Nat.gcd_dvd_right _ _)
 unfold crtR crtT
 rw [hc, Int.mul_ediv_cancel_left _ hg]
 have hq2 : (q.2 : Int) / (Nat.gcd p.2 q.2 : Int) = b := by rw [hb2]; exact Int.mul_ediv_cancel_left _ hg
 rw [hq2]
 have e := Int.emod_add_mul_ediv (c * (xgcd p.2 q.2).2.1) b
 obtain ⟨t, ht⟩ : ∃ t, t = c * (xgcd p.2 q.2).2.1 % b := ⟨_, rfl⟩
 obtain ⟨k, hk⟩ : ∃ k, k = c * (xgcd p.2 q.2).2.1 / b := ⟨_, rfl⟩
 rw [← ht, ← hk] at e
 rw [← ht]
 refine ⟨⟨t, by rw [Int.add_comm, Int.add_sub_cancel, Int.mul_comm]⟩, ⟨-(c * (xgcd p.2 q.2).2.2 + a * k), ?_⟩⟩
 have e1 : t = c * (xgcd p.2 q.2).2.1 - b * k := by omega
 have e2 : p.1 + t * (p.2 : Int) - q.1 = t * (p.2 : Int) - (q.1 - p.1) := by omega
 rw [e2, hc, e1]
 obtain ⟨g, hg'⟩ : ∃ g : Int, g = (Nat.gcd p.2 q.2 : Int) := ⟨_, rfl⟩
 rw [← hg'] at ha hb2 hb1 ⊢
 generalize (xgcd p.2 q.2).2.1 = x at *
 generalize (xgcd p.2 q.2).2.2 = y at *
 rw [ha, hb2] at hb1 ⊢
 grind
theorem crt_bounds {p q : Int × Nat} (hq : 0 < q.2) (h0 : 0 ≤ p.1) (h1 : p.1 < p.2) : 0 ≤ crtR p q ∧ crtR p q < (crtM p q : Int) := by
 obtain ⟨t0, t1⟩ := crtT_bounds (p := p) hq
 have h2 : (0 : Int) ≤ (p.2 : Int) := by omega
 have h3 := Int.mul_nonneg t0 h2
 unfold crtR
 refine ⟨by omega, ?_⟩
 rw [crtM_lcm, Nat.lcm, Nat.mul_div_assoc _ (Nat.gcd_dvd_right _ _), Int.natCast_mul]
 generalize ((q.2 / Nat.gcd p.2 q.2 : Nat) : Int) = n at *
 generalize crtT p q = t at *
 have h4 : t * (p.2 : Int) ≤ (n - 1) * (p.2 : Int) := Int.mul_le_mul_of_nonneg_right (by omega) h2
 rw [Int.sub_mul, Int.one_mul, Int.mul_comm n] at h4
 omega
theorem joinable_iff {p q : Int × Nat} : p.1 % (Nat.gcd p.2 q.2 : Int) = q.1 % (Nat.gcd p.2 q.2 : Int) ↔ (Nat.gcd p.2 q.2 : Int) ∣ q.1 - p.1 := by
 rw [eq_comm]
 exact Int.emod_eq_emod_iff_emod_sub_eq_zero.trans Int.dvd_iff_emod_eq_zero.symm
def joinB (p q : Int × Nat) : Bool := decide (p.1 % (Nat.gcd p.2 q.2 : Int) = q.1 % (Nat.gcd p.2 q.2 : Int))
theorem joinB_iff {p q : Int × Nat} : joinB p q = true ↔ (Nat.gcd p.2 q.2 : Int) ∣ q.1 - p.1 := by unfold joinB; rw [decide_eq_true_iff]; exact joinable_iff
def chinF : Int × Nat → List (Int × Nat) → Option (Int × Nat)
 | p, [] => some p
 | p, q :: l => if joinB p q = true then chinF (crtR p q, crtM p q) l else none
theorem lcmL_snoc (l : List (Int × Nat)) (c : Int × Nat) : lcmL (l ++ [c]) = Nat.lcm (lcmL l) c.2 := by
 refine Nat.dvd_antisymm (lcmL_dvd.2 fun x hx => ?_) (Nat.lcm_dvd ?_ ?_)
 ·rcases List.mem_append.1 hx with h | h
  ·exact Nat.dvd_trans (lcmL_dvd.1 (Nat.dvd_refl _) x h) (Nat.dvd_lcm_left _ _)
  ·rw [List.mem_singleton.1 h]; exact Nat.dvd_lcm_right _ _
 ·exact lcmL_dvd.2 fun x hx => lcmL_dvd.1 (Nat.dvd_refl _) x (by simp [hx])
 ·exact lcmL_dvd.1 (Nat.dvd_refl _) c (by simp)
theorem Joint.pos {l : List (Int × Nat)} {R : Int} {M : Nat} (h : Joint l R M) : 0 < M := by have := h.lo; have := h.hi; omega
theorem Joint.snoc {l : List (Int × Nat)} {p q : Int × Nat} (h : Joint l p.1 p.2) (hq : 0 < q.2) (hj : joinB p q = true) : Joint (l ++ [q]) (crtR p q) (crtM p q) := by
 have hp := h.pos
 obtain ⟨k1, k2⟩ := crt_join hp hq (joinB_iff.1 hj)
 obtain ⟨b1, b2⟩ := crt_bounds hq h.lo h.hi
 refine ⟨by rw [crtM_lcm, lcmL_snoc, h.m], b1, b2, fun x => ?_⟩
 rw [crtM_lcm, crt_iff k1 k2 x, holds_append, h.iff x]
 refine and_congr_right fun _ => ?_
 rw [holds_cons]
 exact ⟨fun g => ⟨g, holds_nil x⟩, fun g => g.1⟩
theorem Joint.not {l : List (Int × Nat)} {p q : Int × Nat} (h : Joint l p.1 p.2) (hj : joinB p q = false) (k : List (Int × Nat)) (x : Int) : ¬ Holds (l ++ q :: k) x := by
 intro hx
 rw [holds_append, holds_cons, ← h.iff x] at hx
 have := joinB_iff.2 (crt_need hx.1 hx.2.1)
 rw [hj] at this; cases this
theorem chinF_joint : ∀ (l done : List (Int × Nat)) (p : Int × Nat), Joint done p.1 p.2 → (∀ c ∈ l, 0 < c.2) →
  (∀ r, chinF p l = some r → Joint (done ++ l) r.1 r.2) ∧ (chinF p l = none → ∀ x, ¬ Holds (done ++ l) x)
 | [], done, p, h, _ => ⟨fun r e => by rw [chinF] at e; obtain rfl := Option.some.inj e; rw [List.append_nil]; exact h, fun e => by rw [chinF] at e; cases e⟩
 | q :: l, done, p, h, hp => by
  rw [chinF]
  cases hj : joinB p q with
  | true =>
   rw [if_pos rfl]
   have h2 := chinF_joint l (done ++ [q]) (crtR p q, crtM p q) (h.snoc (hp q List.mem_cons_self) hj) (fun c hc => hp c (List.mem_cons_of_mem _ hc))
   rw [List.append_assoc] at h2
   exact h2
  | false =>
   rw [if_neg (by simp)]
   exact ⟨fun r e => (by cases e), fun _ x => h.not hj l x⟩
theorem joint_nil : Joint [] 0 1 := ⟨rfl, by decide, by decide, fun x => ⟨fun _ => holds_nil x, fun _ => ⟨x, by simp⟩⟩⟩
/-- Whether a modulus is 0. -/
def anyZ : List (Int × Nat) → Bool
 | [] => false
 | c :: l => if c.2 = 0 then true else anyZ l
theorem anyZ_false : ∀ {l : List (Int × Nat)}, anyZ l = false ↔ ∀ c ∈ l, 0 < c.2
 | [] => by simp [anyZ]
 | c :: l => by
  rw [anyZ]
  by_cases h : c.2 = 0
  ·rw [if_pos h]
   exact ⟨fun e => (by cases e), fun g => by have := g c List.mem_cons_self; omega⟩
  ·rw [if_neg h, anyZ_false]
   exact ⟨fun g x hx => by rcases List.mem_cons.1 hx with rfl | hx; omega; exact g x hx, fun g x hx => g x (List.mem_cons_of_mem _ hx)⟩
def chV (l : List (Int × Nat)) : Int × Nat := if anyZ l = true then (0, 0) else (chinF (0, 1) l).getD (0, 0)
def chE (l : List (Int × Nat)) : Int := if anyZ l = true then 5 else if (chinF (0, 1) l).isSome = true then 0 else 6
theorem ch_zero {l : List (Int × Nat)} (h : anyZ l = true) : chV l = (0, 0) ∧ chE l = 5 := by unfold chV chE; rw [if_pos h, if_pos h]; exact ⟨rfl, rfl⟩
theorem ch_ok {l : List (Int × Nat)} (h : ∀ c ∈ l, 0 < c.2) {R : Int} {M : Nat} (hj : Joint l R M) : chV l = (R, M) ∧ chE l = 0 := by
 have hz := anyZ_false.2 h
 obtain ⟨k1, k2⟩ := chinF_joint l [] (0, 1) joint_nil h
 unfold chV chE
 rw [hz, if_neg (by simp), if_neg (by simp)]
 cases e : chinF (0, 1) l with
 | none => exact absurd ((hj.iff R).1 ⟨0, by omega⟩) (k2 e R)
 | some r =>
  obtain ⟨a, b⟩ := (k1 r e).uniq hj
  exact ⟨Prod.ext a b, rfl⟩
theorem ch_no {l : List (Int × Nat)} (h : ∀ c ∈ l, 0 < c.2) (hj : ∀ x, ¬ Holds l x) : chV l = (0, 0) ∧ chE l = 6 := by
 have hz := anyZ_false.2 h
 obtain ⟨k1, k2⟩ := chinF_joint l [] (0, 1) joint_nil h
 unfold chV chE
 rw [hz, if_neg (by simp), if_neg (by simp)]
 cases e : chinF (0, 1) l with
 | none => exact ⟨rfl, rfl⟩
 | some r => exact absurd (((k1 r e).iff r.1).1 ⟨0, by omega⟩) (hj r.1)
theorem ch_any (l : List (Int × Nat)) (h : ∀ c ∈ l, 0 < c.2) : (Joint l (chV l).1 (chV l).2 ∧ chE l = 0) ∨ ((∀ x, ¬ Holds l x) ∧ chV l = (0, 0) ∧ chE l = 6) := by
 have hz := anyZ_false.2 h
 obtain ⟨k1, k2⟩ := chinF_joint l [] (0, 1) joint_nil h
 cases e : chinF (0, 1) l with
 | none => exact .inr ⟨k2 e, ch_no h (k2 e)⟩
 | some r =>
  left
  obtain ⟨a, b⟩ := ch_ok h (k1 r e)
  rw [a]; exact ⟨k1 r e, b⟩
theorem ch_holds {l : List (Int × Nat)} (h : ∀ c ∈ l, 0 < c.2) {x : Int} (hx : Holds l x) : chV l = (x % (lcmL l : Int), lcmL l) ∧ chE l = 0 := ch_ok h (joint_of hx h)
end Go.Proofs.YtloipmieaefcpaaGreatDoor
namespace Go.Proofs.YtloipmieaefcpaaGreatDoor
open Go.RowKit
attribute [local irreducible] lo hs sm s64 c64 d64 b64 mh ml pd pc qd qc val hiB str cmpI srD lz nb isq zl zh zs
set_option maxHeartbeats 4000000 in
set_option maxRecDepth 100000 in
theorem gden_w (s : Bool) (a b : Option Addr) (n c m d : Nat) (w : World) :
  Calls Tryz.prog 56 #[.agg #[.bool s, .slice a n c, .slice b m d]] w fun xe w' => xe = .returned (.agg #[.bool false, .slice b m d]) ∧ Below w.heap.size w w' := by
 have hL0 : GL w w [] := GL.start w
 replace hL0 := ((hL0.new rfl [.bool s, .slice a n c, .slice b m d] 70).new (K := w.heap.size + 1) (szA _ _) [.bool false, .slice b m d] 68)
 generalize hweq : ((w.alloc (.cells #[.bool s, .slice a n c, .slice b m d] 70)).alloc (.cells #[.bool false, .slice b m d] 68)) = x1 at hL0
 go_enter Tryz.func56, Tryz.ntmps56
 have hN0 := cells_of _ 0 [] rfl (hL0.get _ _ List.mem_cons_self)
 simp only [cellsF, and_true, Nat.zero_add, Nat.reduceAdd] at hN0
 have hN1 := cells_of _ 0 [] rfl (hL0.get _ _ (List.mem_cons_of_mem _ List.mem_cons_self))
 simp only [cellsF, and_true, Nat.zero_add, Nat.reduceAdd] at hN1
 go_wp2_with fail
 exact bodyPost_ret (v := .agg #[.bool false, .slice b m d]) (by simp [results, Tryz.results56, go_sem, hN0 ,hN1]) rfl ⟨rfl, hL0.bl⟩
set_option maxHeartbeats 4000000 in
set_option maxRecDepth 100000 in
theorem gof_w (s : Bool) (a b : Option Addr) (n c m d : Nat) (y z x : Int) (p q e : Nat) (K : World → Prop) (hK : Keeps K) (HZ : RK K 28 #[.agg #[.bool s, .slice a n c]] (intV z)) (HD : RT 56 #[.agg #[.bool s, .slice a n c, .slice b m d]] (.agg #[.bool false, .slice b m d])) (L : World → Prop) (hL : Keeps L) (HY : RK L 28 #[.agg #[.bool false, .slice b m d]] (intV y)) (HA : RT 50 #[intV y] (natV p)) (HO : RT 12 #[.int .u64 1] (natV 1)) (HP : RT 53 #[natV p, natV 1] (natV q)) (HF : RT 55 #[intV z, natV q] (.tuple #[frV x e, .int .i64 0])) (w : World) (kK : K w) (kL : L w) :
  Calls Tryz.prog 29 #[.agg #[.bool s, .slice a n c, .slice b m d]] w fun xe w' => xe = .returned (frV x e) ∧ Below w.heap.size w w' := by
 have hL0 : GL w w [] := GL.start w
 replace hK := Lib.hid hK
 replace HZ := Lib.hid HZ
 replace HD := Lib.hid HD
 replace hL := Lib.hid hL
 replace HY := Lib.hid HY
 replace HA := Lib.hid HA
 replace HO := Lib.hid HO
 replace HP := Lib.hid HP
 replace HF := Lib.hid HF
 replace hL0 := ((hL0.new rfl [.bool s, .slice a n c, .slice b m d] 70).new (K := w.heap.size + 1) (szA _ _) [.int .u64 0, .string ⟨#[]⟩, .bool false, .int .u64 0, .string ⟨#[]⟩] 30)
 generalize hweq : ((w.alloc (.cells #[.bool s, .slice a n c, .slice b m d] 70)).alloc (.cells #[.int .u64 0, .string ⟨#[]⟩, .bool false, .int .u64 0, .string ⟨#[]⟩] 30)) = x1 at hL0
 go_enter Tryz.func29, Tryz.ntmps29
 go_upto_region 1 with fail
 have kK1 := hK.out.at hL0.bl kK
 have kL1 := hL.out.at hL0.bl kL
 clear hweq
 refine region_gh (by kernel_rfl) (by kernel_rfl) ?_
 refine lex_seg (gl := []) 13 (by kernel_rfl) ?_
 intro α iα F hF1 hF2
 have hq := GL.seg hF1 hL0
 simp only [fcC, cellsC, and_true, Nat.zero_add, Nat.reduceAdd] at hq
 simp only [List.take_succ_cons, List.take_zero, List.drop_succ_cons, List.drop_zero, List.take_nil, List.drop_nil]
 repeat (go_big_quiet_step (first | fail | (go_at_call 28; with_reducible exact seg_callK hK.out hF1 hF2 kK1 HZ.out _) | (go_at_call 56; with_reducible exact seg_call hF2 HD.out _) | (go_at_call 28; with_reducible exact seg_callK hL.out hF1 hF2 kL1 HY.out _) | (go_at_call 50; with_reducible exact seg_call hF2 HA.out _) | (go_at_call 12; with_reducible exact seg_call hF2 HO.out _) | (go_at_call 53; with_reducible exact seg_call hF2 HP.out _) | (go_at_call 55; with_reducible exact seg_call hF2 HF.out _)))
 refine wpQuiet_nil ?_
 clear hq hF1 hF2 iα F α
 refine lex_new [.int .u64 0, .string ⟨#[]⟩, .bool false, .int .u64 0, .string ⟨#[]⟩] 3 30 30 rfl rfl (of_decide_eq_true (by kernel_rfl)) (by kernel_rfl) rfl new_frac ?_
 simp only [Act.put, List.setIfInBounds_toArray, List.set_cons_succ, List.set_cons_zero]
 refine lex_put [.int .u64 ((zl x : Nat) : Int), .string (zh x), .bool (zs x), .int .u64 ((lo e : Nat) : Int), .string (hs e)] [.int .u64 0, .string ⟨#[]⟩, .bool false, .int .u64 0, .string ⟨#[]⟩] 3 30 (.tmp 16) rfl (by kernel_rfl) (by simp [toG, upd]) rfl (fun w k h => put_frac _ _ _ _ _ _ _ _ _ _ w k h) ?_
 simp only [Act.put]
 refine lex_seg (gl := [(3, [.int .u64 ((zl x : Nat) : Int), .string (zh x), .bool (zs x), .int .u64 ((lo e : Nat) : Int), .string (hs e)], true), (3, [.int .u64 0, .string ⟨#[]⟩, .bool false, .int .u64 0, .string ⟨#[]⟩], false)]) 1 (by kernel_rfl) ?_
 intro α iα F hF1 hF2
 have hq := GL.seg hF1 hL0
 simp only [fcC, cellsC, and_true, Nat.zero_add, Nat.reduceAdd] at hq
 simp only [List.take_succ_cons, List.take_zero, List.drop_succ_cons, List.drop_zero, List.take_nil, List.drop_nil]
 repeat (go_big_quiet_step (first | fail | (go_at_call 28; with_reducible exact seg_callK hK.out hF1 hF2 kK1 HZ.out _) | (go_at_call 56; with_reducible exact seg_call hF2 HD.out _) | (go_at_call 28; with_reducible exact seg_callK hL.out hF1 hF2 kL1 HY.out _) | (go_at_call 50; with_reducible exact seg_call hF2 HA.out _) | (go_at_call 12; with_reducible exact seg_call hF2 HO.out _) | (go_at_call 53; with_reducible exact seg_call hF2 HP.out _) | (go_at_call 55; with_reducible exact seg_call hF2 HF.out _)))
 refine wpQuiet_nil ?_
 clear hq hF1 hF2 iα F α
 refine lexG_nil ?_
 intro κ x2 hS
 replace hL0 := hL0.ghs hS [(3, [.int .u64 ((zl x : Nat) : Int), .string (zh x), .bool (zs x), .int .u64 ((lo e : Nat) : Int), .string (hs e)])] (by simp) (by intro p hp; simp only [List.mem_cons, List.not_mem_nil, or_false] at hp; rcases hp with rfl <;> exact ⟨_, by simp only [toG, upd]; rfl⟩)
 simp only [List.map_cons, List.map_nil, List.cons_append, List.nil_append] at hL0
 simp only [over_toG, over_nil, Act.put, List.setIfInBounds_toArray, List.set_cons_succ, List.set_cons_zero]
 clear hS
 generalize κ 3 = k2_3 at *
 clear kK1 kL1
 have hA := hL0.fc
 simp only [fcG, cellsF, neK, and_true, ne_eq, Nat.zero_add, Nat.reduceAdd] at hA
 have hP := hL0.put 1 (w.heap.size + 1) _ rfl [.int .u64 ((zl x : Nat) : Int), .string (zh x), .bool (zs x), .int .u64 ((lo e : Nat) : Int), .string (hs e)] rfl
 simp only [setAll, List.set_cons_zero, List.set_cons_succ] at hP
 generalize hput1 : (((((x2.setCell ⟨w.heap.size + 1, 0, none⟩ (.int .u64 ((zl x : Nat) : Int))).setCell ⟨w.heap.size + 1, 1, none⟩ (.string (zh x))).setCell ⟨w.heap.size + 1, 2, none⟩ (.bool (zs x))).setCell ⟨w.heap.size + 1, 3, none⟩ (.int .u64 ((lo e : Nat) : Int))).setCell ⟨w.heap.size + 1, 4, none⟩ (.string (hs e))) = x3 at hP
 have hB1 := hP.fc
 simp only [fcG, cellsF, neK, and_true, ne_eq, Nat.zero_add, Nat.reduceAdd] at hB1
 replace hL0 := hP
 go_wp2_with fail
 exact bodyPost_ret (v := frV x e) (by simp [results, Tryz.results29, go_sem, hB1]) rfl ⟨rfl, hL0.bl⟩
end Go.Proofs.YtloipmieaefcpaaGreatDoor
namespace Go.Proofs.YtloipmieaefcpaaGreatDoor
open Go.RowKit
attribute [local irreducible] lo hs sm s64 c64 d64 b64 mh ml pd pc qd qc val hiB str cmpI srD lz nb isq zl zh zs fe
/-- A slice's fractions. -/
structure FS (w : World) (g : Nat) (qs : List Rat) : Prop where
 cell : ∀ i (h : i < qs.length), w.cell? ⟨g, i * 5, none⟩ = some (.int .u64 ((zl qs[i].num : Nat) : Int)) ∧ w.cell? ⟨g, i * 5 + 1, none⟩ = some (.string (zh qs[i].num)) ∧ w.cell? ⟨g, i * 5 + 2, none⟩ = some (.bool (zs qs[i].num)) ∧
  w.cell? ⟨g, i * 5 + 3, none⟩ = some (.int .u64 ((lo (fe qs[i]) : Nat) : Int)) ∧ w.cell? ⟨g, i * 5 + 4, none⟩ = some (.string (hs (fe qs[i])))
 lt : g < w.heap.size
theorem FS.below {w w' : World} {g : Nat} {qs : List Rat} (h : FS w g qs) (hb : Below w.heap.size w w') : FS w' g qs := by
 have hs := hb.size
 have hl := h.lt
 refine ⟨fun i hi => ?_, by omega⟩
 obtain ⟨h0, h1, h2, h3, h4⟩ := h.cell i hi
 exact ⟨(hb.cell (p := ⟨g, i * 5, none⟩) hl).trans h0, (hb.cell (p := ⟨g, i * 5 + 1, none⟩) hl).trans h1, (hb.cell (p := ⟨g, i * 5 + 2, none⟩) hl).trans h2, (hb.cell (p := ⟨g, i * 5 + 3, none⟩) hl).trans h3, (hb.cell (p := ⟨g, i * 5 + 4, none⟩) hl).trans h4⟩
def SlQ (w : World) (v : Value) (qs : List Rat) : Prop := (∃ ao c, v = .slice ao 0 c ∧ qs = []) ∨ ∃ g c, v = .slice (some ⟨g, 0, none⟩) qs.length c ∧ FS w g qs
theorem SlQ.below {w w' : World} {v : Value} {qs : List Rat} (h : SlQ w v qs) (hb : Below w.heap.size w w') : SlQ w' v qs := by
 rcases h with h | ⟨g, c, h1, h2⟩
 ·exact .inl h
 ·exact .inr ⟨g, c, h1, h2.below hb⟩
theorem SlQ.keeps (v : Value) (qs : List Rat) : Keeps (fun w => SlQ w v qs) := fun _ _ hb h => h.below hb
end Go.Proofs.YtloipmieaefcpaaGreatDoor
namespace Go.Proofs.YtloipmieaefcpaaGreatDoor
open Go.RowKit
attribute [local irreducible] lo hs sm s64 c64 d64 b64 mh ml pd pc qd qc val hiB str cmpI srD lz nb isq zl zh zs
/-- A fraction's text. -/
def qtxt (q : Rat) : ByteArray := if q.den = 1 then ztxt q.num else ztxt q.num ++ (ByteArray.mk #[47]) ++ txt q.den
theorem ztxt_small {z : Int} {k : Nat} (hk : 0 < k) (h : dI z ≤ k) : (ztxt z).size ≤ 20 * k + 1 := by
 have h1 := txt_small (n := z.natAbs) hk h
 unfold ztxt
 split
 ·rw [ByteArray.size_append]
  have : (ByteArray.mk #[45]).size = 1 := rfl
  omega
 ·omega
theorem textF (q : Rat) (k : Nat) (hq : Sz q k) (hk : k ≤ 100000) (w : World) (htab : Tab w) : Calls Tryz.prog 73 #[fracV q] w fun x w' => x = .returned (.string (qtxt q)) ∧ Below w.heap.size w w' := by
 have hT := fun w h => textI q.num (Nat.le_trans hq.1 (by omega)) w h
 unfold qtxt
 by_cases h : q.den = 1
 ·rw [if_pos h, show fracV q = frV q.num 0 by unfold fracV; rw [fe_one h]]
  exact ftext_whole q.num _ (fun w => by have := whole_raw q.num 0 w; rwa [decide_eq_true rfl] at this) hT w htab
 ·rw [if_neg h, show fracV q = frV q.num q.den by unfold fracV; rw [fe_ne h]]
  have s1 := ztxt_small (k := 100000) (by omega) (Nat.le_trans hq.1 hk)
  have s2 := txt_small (n := q.den) (k := 100000) (by omega) (Nat.le_trans hq.2 hk)
  exact ftext_part q.num q.den _ _ (fun w => by have := whole_raw q.num q.den w; rwa [decide_eq_false q.den_nz] at this) hT (fun w h => text_any q.den (Nat.le_trans hq.2 (by omega)) w h) (by omega) (by omega) w htab
end Go.Proofs.YtloipmieaefcpaaGreatDoor
namespace Go.Proofs.YtloipmieaefcpaaGreatDoor
open Go.RowKit
attribute [local irreducible] lo hs sm s64 c64 d64 b64 mh ml pd pc qd qc val hiB str cmpI srD lz nb isq zl zh zs
theorem szc (q : Rat) (h1 : q.num.natAbs < 18446744073709551616) (h2 : q.den < 18446744073709551616) : Sz q 1 :=
 ⟨digs_length_iff.2 (by rw [Nat.pow_one]; exact h1), digs_length_iff.2 (by rw [Nat.pow_one]; exact h2)⟩
theorem frV_q0 : fracV 0 = .agg #[.int .u64 0, .string ⟨#[]⟩, .bool false, .int .u64 0, .string ⟨#[]⟩] := frV_00
theorem txt1 (d : Nat) (h : d < 10) : txt d = ⟨#[dch d]⟩ := by unfold txt; rw [dec_small h]
theorem zt_pos (d : Nat) (h : d < 10) : ztxt (d : Int) = ⟨#[dch d]⟩ := by unfold ztxt; rw [if_neg (by omega), Int.natAbs_natCast, txt1 d h]
theorem zt_neg (d : Nat) (h : d < 10) (h0 : 0 < d) : ztxt (-(d : Int)) = ⟨#[45, dch d]⟩ := by
 unfold ztxt; rw [if_pos (by omega), Int.natAbs_neg, Int.natAbs_natCast, txt1 d h]; rfl
theorem qt_int {q : Rat} {z : Int} (h1 : q.den = 1) (h2 : q.num = z) : qtxt q = ztxt z := by unfold qtxt; rw [if_pos h1, h2]
theorem qt_part {q : Rat} {z : Int} {d : Nat} (h1 : q.den = d) (hd : d ≠ 1) (h2 : q.num = z) : qtxt q = ztxt z ++ ByteArray.mk #[47] ++ txt d := by unfold qtxt; rw [if_neg (by rw [h1]; exact hd), h1, h2]
theorem qt_0 : qtxt (0 : Rat) = (ByteArray.mk #[48]) := (qt_int (by decide +kernel) (by decide +kernel)).trans (zt_pos 0 (by decide))
/-- The variable of package bytealg that strings.Cut looks at. -/
def MaxL (w : World) : Prop := ∃ m, w.cell? ⟨3, 0, none⟩ = some (.int .i64 m)
theorem MaxL.keeps : Keeps MaxL := fun w w' hb ⟨m, h⟩ => ⟨m, by
 have hl := World.block_lt_of_cell? w _ h
 exact (hb.cell (p := ⟨3, 0, none⟩) hl).trans h⟩
end Go.Proofs.YtloipmieaefcpaaGreatDoor
namespace Go.Proofs.YtloipmieaefcpaaGreatDoor
open Go.RowKit
attribute [local irreducible] lo hs sm s64 c64 d64 b64 mh ml pd pc qd qc val hiB str cmpI srD lz nb isq zl zh zs
/-- A Great as plain data. -/
def gmade (s : Bool) (l k : List Nat) : Rat := mkRat (zmade s l) (made k + 1)
theorem gof_any (s : Bool) (a b : Option Addr) (n c m d : Nat) (l k : List Nat) (hl : l.length ≤ 1000) (hk : k.length ≤ 1000) (w : World) (h1 : Ws w (.slice a n c) l) (h2 : Ws w (.slice b m d) k) :
  Calls Tryz.prog 29 #[.agg #[.bool s, .slice a n c, .slice b m d]] w fun xe w' => xe = .returned (fracV (gmade s l k)) ∧ Below w.heap.size w w' := by
 have d1 := zmade_dI (s := s) h1.lt
 have d2 := made_digs h2.lt
 have dz1 : (digs 1).length ≤ 1 := digs_length_iff.2 (by rw [Nat.pow_one]; exact Bs_gt)
 have d3 : (digs (made k + 1)).length ≤ 1001 := Nat.le_trans (digs_add_le (k := 1000) (by omega) (Nat.le_trans dz1 (by omega))) (by omega)
 refine gof_w s a b n c m d (zmade false k) (zmade s l) _ (made k) (made k + 1) _ _ (Keeps.ws _ l) (fun w h => zof_any s a n c l hl w h) (fun w => gden_w s a b n c m d w) _ (Keeps.ws _ k) (fun w h => zof_any false b m d k hk w h) (fun w => ?_) one_o (fun w => add_any (made k) 1 (by omega) (by omega) w) (fromF (zmade s l) (made k + 1) (by omega) (by omega) (by omega)) w h1 h2
 have h := absI (zmade false k) w
 rw [show (zmade false k).natAbs = made k from rfl] at h
 exact h
theorem gmade_sz {s : Bool} {w : World} {a b : Option Addr} {n c m d : Nat} {l k : List Nat} {most : Nat} (hp : 0 < most) (h1 : Ws w (.slice a n c) l) (h2 : Ws w (.slice b m d) k) (hn : n ≤ most) (hm : m ≤ most) : Sz (gmade s l k) (most + 1) := by
 have e1 := h1.len
 have e2 := h2.len
 have d1 := zmade_dI (s := s) h1.lt
 have d2 := made_digs h2.lt
 refine Sz.mk (by omega) ?_ (by omega)
 have dz1 : (digs 1).length ≤ 1 := digs_length_iff.2 (by rw [Nat.pow_one]; exact Bs_gt)
 exact digs_add_le (k := most) (by omega) (by omega)
end Go.Proofs.YtloipmieaefcpaaGreatDoor
namespace Go.Proofs.YtloipmieaefcpaaGreatDoor
open Go.RowKit
attribute [local irreducible] lo hs sm s64 c64 d64 b64 mh ml pd pc qd qc val hiB str cmpI srD lz nb isq zl zh zs
theorem giRun {a b : Int} : ∀ (n : Nat) (G X N Y : Int), N.natAbs ≤ n → GI a b G X N Y → ∃ G X Y, GI a b G X 0 Y := by
  intro n
  induction n with
  | zero => intro G X N Y h hG; obtain rfl : N = 0 := by omega
            exact ⟨_, _, _, hG⟩
  | succ n ih =>
    intro G X N Y h hG
    by_cases hN : N = 0
    · subst hN; exact ⟨_, _, _, hG⟩
    · have h1 := Int.emod_lt G hN
      have h2 := Int.emod_nonneg G hN
      exact ih _ _ _ _ (by omega) (hG.next hN)
theorem xgcd_sz {a b : Int} {k : Nat} (ha : dI a ≤ k) (hb : dI b ≤ k) : dI (xgcd a b).1 ≤ 1 + k ∧ dI (xgcd a b).2.1 ≤ 1 + (k + 1) := by
 obtain ⟨G, X, Y, h⟩ := giRun _ a 1 b 0 (Nat.le_refl _) (GI.start a b)
 obtain ⟨b1, b2, b3, -⟩ := h.bounds ha hb
 obtain ⟨l1, l2⟩ := h.last
 have hs1 : dI (sgn G) ≤ 1 := digs_length_iff.2 (by have : (sgn G).natAbs ≤ 1 := (by unfold sgn; split <;> (try split) <;> omega); unfold Bs; omega)
 exact ⟨by rw [l1]; exact dI_mul hs1 b1, by rw [l2]; exact dI_mul hs1 b3⟩
def nrm (z : Int) (m : Nat) : Int := if m = 0 then 0 else z % (m : Int)
theorem nrm_dI {z : Int} {m k : Nat} (h : (digs m).length ≤ k) : dI (nrm z m) ≤ k := by
 refine dI_le (m := m) ?_ h
 unfold nrm
 split
 ·omega
 ·have h0 := Int.emod_nonneg z (show (m : Int) ≠ 0 by omega)
  have h1 := Int.emod_lt_of_pos z (show (0 : Int) < m by omega)
  omega
theorem normalP (z : Int) (m : Nat) (hz : dI z ≤ 1000000000) (hm : (digs m).length ≤ 1000000000) (w : World) :
  Calls Tryz.prog 71 #[frV z m] w fun e w' => e = .returned (frV (nrm z m) m) ∧ Below w.heap.size w w' := by
 by_cases h0 : m = 0
 ·subst h0
  exact pnormal_w z 0 0 0 0 false (fun w => fromI false 0 0 rfl w) (fun w => div0I z w) w
 ·unfold nrm
  rw [if_neg h0]
  exact pnormal_w z (m : Int) (z / (m : Int)) (z % (m : Int)) m true (fun w => fromI false m m rfl w) (fun w => divI z m (by omega) hz (by rw [dI_nat]; exact hm) w) w
theorem congP (y z : Int) (m : Nat) (h0 : m ≠ 0) (hy : dI y ≤ 1000000000) (hz : dI z ≤ 1000000000) (hm : (digs m).length ≤ 1000000000) (w : World) :
  Calls Tryz.prog 48 #[intV y, intV z, natV m] w fun e w' => e = .returned (.bool (decide (y % (m : Int) = z % (m : Int)))) ∧ Below w.heap.size w w' := by
 have H1 := fun w => normalP y m hy hm w
 have H2 := fun w => normalP z m hz hm w
 unfold nrm at H1 H2
 rw [if_neg h0] at H1 H2
 by_cases e : y % (m : Int) = z % (m : Int)
 ·rw [decide_eq_true e]
  rw [e] at H1
  exact pcong_yes y z _ m H1 H2 w
 ·rw [decide_eq_false e]
  exact pcong_no y z _ _ m H1 H2 e w
theorem fitsP (q : Rat) (a : Int) (m k : Nat) (hq : Sz q k) (ha : dI a ≤ k) (hk : k ≤ 1000000) (hm : (digs m).length ≤ 1000000000) (w : World) :
  Calls Tryz.prog 20 #[fracV q, intV a, natV m] w fun e w' => e = .returned (.bool (fitsB q a m)) ∧ Below w.heap.size w w' := by
 rcases Nat.eq_zero_or_pos m with rfl | hp
 ·rw [show fitsB q a 0 = false from by unfold fitsB; simp]
  exact pfits_zero q.num a (fe q) zero_o w
 ·rw [show fitsB q a m = decide (q.num % (m : Int) = a * (q.den : Int) % (m : Int)) from by
   unfold fitsB
   exact decide_eq_decide.2 ⟨fun h => h.2, fun h => ⟨by omega, h⟩⟩]
  have hd : dI (q.den : Int) ≤ k := by rw [dI_nat]; exact hq.d
  have hn := hq.n
  exact pfits_pos q.num a (q.den : Int) (a * (q.den : Int)) (fe q) m q.den _ zero_o (fun w => numF q w) (fun w => denF q w) (fun w => fromI false q.den _ rfl w) (fun w => mulI a _ (by omega) (by omega) w)
   (fun w => congP q.num _ m (by omega) (by omega) (Nat.le_trans (dI_mul ha hd) (by omega)) hm w) hp w
theorem cmpI_pos {a b : Nat} : decide (0 < cmpI a b) = decide (b < a) := by
 with_unfolding_all unfold cmpI
 split
 ·rw [decide_eq_false (by omega), decide_eq_false (by omega)]
 ·split
  ·rw [decide_eq_false (by omega), decide_eq_false (by omega)]
  ·rw [decide_eq_true (by omega), decide_eq_true (by omega)]
theorem cmpI_negD {a b : Nat} : decide (cmpI a b < 0) = decide (a < b) := by
 with_unfolding_all unfold cmpI
 split
 ·rw [decide_eq_true (by omega), decide_eq_true (by omega)]
 ·split
  ·rw [decide_eq_false (by omega), decide_eq_false (by omega)]
  ·rw [decide_eq_false (by omega), decide_eq_false (by omega)]
theorem sq_le {a b : Nat} (h : a ≤ b) : a * a ≤ b * b := Nat.mul_le_mul h h
theorem farP (q : Rat) (m k : Nat) (hq : Sz q k) (hk : k ≤ 1000000) (w : World) :
  Calls Tryz.prog 22 #[fracV q, natV m] w fun e w' => e = .returned (.bool (farB q m)) ∧ Below w.heap.size w w' := by
 have hn := hq.n
 have hd := hq.d
 have hsq : ∀ g : Nat, (digs g).length ≤ k → (digs (g * g)).length ≤ k + k := fun g hg => by
  have := dI_mul (x := (g : Int)) (y := (g : Int)) (k := k) (m := k) (by rw [dI_nat]; exact hg) (by rw [dI_nat]; exact hg)
  rw [← Int.natCast_mul, dI_nat] at this; exact this
 by_cases h : q.den < q.num.natAbs
 ·have h2 := sq_le (Nat.le_of_lt h)
  refine pfar_num q.num _ _ (fe q) q.den q.num.natAbs _ _ m (farB q m) (fun w => denF q w) (fun w => numF q w) (fun w => absI _ w) (fun w => cmp_any _ _ w) (fun w => mul_any _ _ (Nat.le_trans hn (by omega)) (Nat.le_trans hn (by omega)) w) (fun w => add_any _ _ (Nat.le_trans (hsq _ hn) (by omega)) (Nat.le_trans (hsq _ hn) (by omega)) w) (fun w => cmp_any _ _ w) ?_ ?_ w
  ·rw [cmpI_pos]; exact decide_eq_true h
  ·rw [cmpI_negD]; unfold farB; exact decide_eq_decide.2 ⟨fun g => ⟨by omega, by omega⟩, fun g => by omega⟩
 ·have h2 := sq_le (Nat.le_of_not_lt h)
  refine pfar_den q.num _ _ (fe q) q.den q.num.natAbs _ _ m (farB q m) (fun w => denF q w) (fun w => numF q w) (fun w => absI _ w) (fun w => cmp_any _ _ w) (fun w => mul_any _ _ (by omega) (by omega) w) (fun w => add_any _ _ (Nat.le_trans (hsq _ hd) (by omega)) (Nat.le_trans (hsq _ hd) (by omega)) w) (fun w => cmp_any _ _ w) ?_ ?_ w
  ·rw [cmpI_pos]; exact decide_eq_false h
  ·rw [cmpI_negD]; unfold farB; exact decide_eq_decide.2 ⟨fun g => ⟨by omega, by omega⟩, fun g => by omega⟩
theorem two_o (w : World) : Calls Tryz.prog 12 #[.int .u64 2] w fun e w' => e = .returned (natV 2) ∧ Below w.heap.size w w' := of_val 2 2 rfl (by unfold Bs; omega) w
theorem sqrtN (n : Nat) (hn : (digs n).length ≤ 1000000000) (w : World) : Calls Tryz.prog 97 #[natV n] w fun e w' => e = .returned (natV (isq n)) ∧ Below w.heap.size w w' := by
 rcases Nat.eq_zero_or_pos n with rfl | h
 ·exact sqrt_zero w
 ·exact sqrt_pos n h hn w
theorem greatP (m : Nat) (hm : (digs m).length ≤ 1000000) (w : World) : Calls Tryz.prog 70 #[natV m] w fun e w' => e = .returned (natV (recK m)) ∧ Below w.heap.size w w' := by
 have hl : ∀ n, n ≤ m → (digs n).length ≤ 1000000 := fun n h => Nat.le_trans (digs_mono h) hm
 rcases Nat.eq_zero_or_pos m with rfl | h
 ·exact pgreat_w 0 0 0 0 (recK 0) false true one_o (fun w => sub_lt 0 1 (by omega) w) two_o (fun w => div_pos 0 2 (by omega) (by have := hl 0 (by omega); omega) w) (fun w => sqrtN 0 (by have := hl 0 (by omega); omega) w) w
 ·unfold recK
  exact pgreat_w m (m - 1) ((m - 1) / 2) ((m - 1) % 2) _ true true one_o (fun w => sub_ge m 1 h (by omega) w) two_o (fun w => div_pos (m - 1) 2 (by omega) (by have := hl (m - 1) (by omega); omega) w) (fun w => sqrtN _ (by have := hl ((m - 1) / 2) (by omega); omega) w) w
def candV (a : Int) (m : Nat) : Value := match candO a m with
 | none => .tuple #[.agg #[.int .u64 0, .string ⟨#[]⟩, .bool false, .int .u64 0, .string ⟨#[]⟩], .bool false]
 | some p => .tuple #[fracV (mkRat p.1 p.2), .bool true]
theorem candP (a : Int) (m : Nat) (ha : dI a ≤ 1000000) (hm : (digs m).length ≤ 10000) (w : World) :
  Calls Tryz.prog 41 #[intV a, natV m] w fun e w' => e = .returned (candV a m) ∧ Below w.heap.size w w' := by
 refine pcand_w a (m : Int) (nrm a m) 0 1 m (recK m) (candV a m) hm (fun w => greatP m (by omega) w) (fun w => fromI false m m rfl w) (fun w => normalP a m (by omega) (by omega) w) (fun w => ofI 0 (by decide) (by decide) w) (fun w => ofI 1 (by decide) (by decide) w) (CEu.start a m) rfl (fun h => ?_) (fun z d h => ?_) w
 ·unfold candV; rw [h]
 ·unfold candV; rw [h]
theorem back_sz (a : Int) (m k : Nat) (hk : 0 < k) (hm : (digs m).length ≤ k) : Sz (backQ a m) k := by
 have h1 : (digs 1).length ≤ k := Nat.le_trans (digs_length_iff.2 (show 1 < Bs ^ 1 by rw [Nat.pow_one]; unfold Bs; decide)) hk
 have hz : Sz (0 : Rat) k := ⟨Nat.le_trans (digs_mono (show (0 : Rat).num.natAbs ≤ 1 by decide)) h1, h1⟩
 cases hb : backB a m with
 | false => rw [backB_false hb]; exact hz
 | true =>
  obtain ⟨h2, h3⟩ := backB_true hb
  have h4 := farB_iff.1 h3
  have e1 := h4.n
  have e2 := h4.d
  have lem : ∀ x : Nat, 2 * (x * x) < m → x ≤ m := fun x hx => by
   rcases Nat.eq_zero_or_pos x with rfl | hp
   ·omega
   ·have := Nat.le_mul_of_pos_left x hp; omega
  exact ⟨Nat.le_trans (digs_mono (lem _ e1)) hm, Nat.le_trans (digs_mono (lem _ e2)) hm⟩
theorem backP (a : Int) (m : Nat) (ha : dI a ≤ 1000000) (hm : (digs m).length ≤ 10000) (w : World) :
  Calls Tryz.prog 10 #[intV a, natV m] w fun e w' => e = .returned (.tuple #[fracV (backQ a m), .bool (backB a m)]) ∧ Below w.heap.size w w' := by
 have hc := fun w => candP a m ha hm w
 unfold candV at hc
 cases e : candO a m with
 | none =>
  rw [e] at hc
  have hb : backO a m = none := by unfold backO; rw [e]
  rw [show backQ a m = 0 from by unfold backQ; rw [hb]; rfl, show backB a m = false from by unfold backB; rw [hb]; rfl, frV_q0]
  exact pback_none a m hc w
 | some p =>
  obtain ⟨n, d⟩ := p
  rw [e] at hc
  have hp : 0 < m := by
   rcases Nat.eq_zero_or_pos m with rfl | h
   ·rw [candO_zero] at e; cases e
   ·exact h
  have hs := eucGo_sound hp _ _ _ _ _ _ n d (Euc.start hp a) e
  obtain ⟨s1, s2, s3, s4⟩ := hs
  have hK := recK_lt hp
  have hsz : Sz (mkRat n d) 1000000 := by
   have g1 := mk_num_le (n := n) (d := d) (by omega)
   have g2 := mk_den_le (n := n) (d := d) (by omega)
   exact ⟨Nat.le_trans (digs_mono (show _ ≤ m by omega)) (by omega), Nat.le_trans (digs_mono (show _ ≤ m by omega)) (by omega)⟩
  have hf := fun w => fitsP (mkRat n d) a m 1000000 hsz ha (by omega) (by omega) w
  have hb : backO a m = if fitsB (mkRat n d) a m = true then some (mkRat n d) else none := by unfold backO; rw [e]
  cases hfb : fitsB (mkRat n d) a m with
  | false =>
   rw [hfb] at hf
   rw [hfb, if_neg (by simp)] at hb
   rw [show backQ a m = 0 from by unfold backQ; rw [hb]; rfl, show backB a m = false from by unfold backB; rw [hb]; rfl, frV_q0]
   exact pback_no a _ m _ hc hf w
  | true =>
   rw [hfb] at hf
   rw [hfb, if_pos rfl] at hb
   rw [show backQ a m = mkRat n d from by unfold backQ; rw [hb]; rfl, show backB a m = true from by unfold backB; rw [hb]; rfl]
   exact pback_yes a _ m _ hc hf w
/-- What join answers. -/
def joinV (p q : Int × Nat) : Value := if joinB p q = true then .tuple #[frV (crtR p q) (crtM p q), .bool true] else .tuple #[.agg #[.int .u64 0, .string ⟨#[]⟩, .bool false, .int .u64 0, .string ⟨#[]⟩], .bool false]
theorem joinP (p q : Int × Nat) (hp : 0 < p.2) (hq : 0 < q.2) (k : Nat) (hk : k ≤ 900) (s1 : dI p.1 ≤ k) (s2 : (digs p.2).length ≤ k) (s3 : dI q.1 ≤ k) (s4 : (digs q.2).length ≤ k) (w : World) :
  Calls Tryz.prog 54 #[frV p.1 p.2, frV q.1 q.2] w fun e w' => e = .returned (joinV p q) ∧ Below w.heap.size w w' := by
 obtain ⟨a, m⟩ := p
 obtain ⟨b, n⟩ := q
 simp only at hp hq s1 s2 s3 s4 ⊢
 have hg := (xgcd_bez _ (m : Int) (n : Int) (Nat.le_refl _)).2
 rw [Int.natAbs_natCast, Int.natAbs_natCast] at hg
 have hG := fun w => gcdI (m : Int) (n : Int) (by rw [dI_nat]; omega) (by rw [dI_nat]; omega) w
 have hx := (xgcd_sz (a := (m : Int)) (b := (n : Int)) (k := k) (by rw [dI_nat]; exact s2) (by rw [dI_nat]; exact s4)).2
 rw [hg] at hG
 have gpos := Nat.gcd_pos_of_pos_right m hq
 have gle := Nat.le_of_dvd hq (Nat.gcd_dvd_right m n)
 have gsz : (digs (Nat.gcd m n)).length ≤ k := Nat.le_trans (digs_mono gle) s4
 have HC := fun w => congP a b (Nat.gcd m n) (by omega) (by omega) (by omega) (by omega) w
 have HA := fun w => absI ((Nat.gcd m n : Nat) : Int) w
 rw [Int.natAbs_natCast] at HA
 cases hj : joinB (a, m) (b, n) with
 | false =>
  rw [show joinV (a, m) (b, n) = .tuple #[.agg #[.int .u64 0, .string ⟨#[]⟩, .bool false, .int .u64 0, .string ⟨#[]⟩], .bool false] from by unfold joinV; rw [hj, if_neg (by simp)]]
  rw [show decide (a % ((Nat.gcd m n : Nat) : Int) = b % ((Nat.gcd m n : Nat) : Int)) = false from hj] at HC
  exact pjoin_no a b (m : Int) (n : Int) _ _ _ m n _ (fun w => fromI false m _ rfl w) (fun w => fromI false n _ rfl w) hG HA HC w
 | true =>
  rw [show joinV (a, m) (b, n) = .tuple #[frV (crtR (a, m) (b, n)) (crtM (a, m) (b, n)), .bool true] from by unfold joinV; rw [hj, if_pos rfl]]
  rw [show decide (a % ((Nat.gcd m n : Nat) : Int) = b % ((Nat.gcd m n : Nat) : Int)) = true from hj] at HC
  have dd := dI_sub (x := b) (y := a) s3 s1
  have dg : dI ((Nat.gcd m n : Nat) : Int) ≤ k := by rw [dI_nat]; exact gsz
  have dm : dI (m : Int) ≤ k := by rw [dI_nat]; exact s2
  have dn : dI (n : Int) ≤ k := by rw [dI_nat]; exact s4
  have dq := dI_div (y := ((Nat.gcd m n : Nat) : Int)) dd
  have dh := dI_mul dq hx
  have dt := dI_div (y := ((Nat.gcd m n : Nat) : Int)) dn
  have tpos : 0 < ((n : Int) / ((Nat.gcd m n : Nat) : Int)).natAbs := by
   have := turn_pos (m := m) hq
   rw [← Int.natCast_ediv, Int.natAbs_natCast]; exact this
  have tval : ((((n : Int) / ((Nat.gcd m n : Nat) : Int)).natAbs : Nat) : Int) = (n : Int) / ((Nat.gcd m n : Nat) : Int) := by rw [← Int.natCast_ediv, Int.natAbs_natCast]
  have HN := fun w => normalP ((b - a) / ((Nat.gcd m n : Nat) : Int) * (xgcd m n).2.1) ((n : Int) / ((Nat.gcd m n : Nat) : Int)).natAbs (Nat.le_trans dh (by omega)) (Nat.le_trans dt (by omega)) w
  have enr : nrm ((b - a) / ((Nat.gcd m n : Nat) : Int) * (xgcd m n).2.1) ((n : Int) / ((Nat.gcd m n : Nat) : Int)).natAbs = crtT (a, m) (b, n) := by
   unfold nrm crtT
   rw [if_neg (by omega), tval]
  have dT := nrm_dI (z := (b - a) / ((Nat.gcd m n : Nat) : Int) * (xgcd m n).2.1) dt
  rw [enr] at HN dT
  have ds := dI_mul dT dm
  exact pjoin_yes a b (m : Int) (n : Int) _ _ _ _ _ _ _ _ _ 0 _ _ (crtR (a, m) (b, n)) _ true true m n _ _ (crtM (a, m) (b, n)) (fun w => fromI false m _ rfl w) (fun w => fromI false n _ rfl w) hG HA HC
   (fun w => subI b a (by omega) (by omega) w) (fun w => divI _ _ (by omega) (by omega) (by omega) w) (fun w => divI _ _ (by omega) (by omega) (by omega) w) (fun w => mulI _ _ (by omega) (by omega) w) (fun w => absI _ w) HN (fun w => mulI _ _ (by omega) (by omega) w)
   (fun w => addI _ _ (by omega) (by omega) w) (fun w => mulI _ _ (by omega) (by omega) w) (fun w => absI _ w) w
end Go.Proofs.YtloipmieaefcpaaGreatDoor
namespace Go.Proofs.YtloipmieaefcpaaGreatDoor
open Go.RowKit
attribute [local irreducible] lo hs sm s64 c64 d64 b64 mh ml pd pc qd qc val hiB str cmpI srD lz nb isq zl zh zs fe
theorem GL.join {w x y : World} {L M : List (Nat × List Value)} (h : GL w x L) (g : GL x y M) : GL w y (M ++ L) := by
 have h2 := h.call g.bl
 refine ⟨h2.bl, fun p hp => ?_, ?_⟩
 ·rcases List.mem_append.1 hp with hp | hp
  ·exact ⟨Nat.le_trans h.bl.size (g.all p hp).1, (g.all p hp).2⟩
  ·exact h2.all p hp
 ·rw [List.map_append, List.nodup_append]
  refine ⟨g.nd, h.nd, fun a ha b hb => ?_⟩
  obtain ⟨p, hp, rfl⟩ := List.mem_map.1 ha
  obtain ⟨q, hq, rfl⟩ := List.mem_map.1 hb
  have h3 := (g.all p hp).1
  have h4 := (h.all q hq).2.lt
  omega
end Go.Proofs.YtloipmieaefcpaaGreatDoor
namespace Go.Proofs.YtloipmieaefcpaaGreatDoor
open Go.RowKit
attribute [local irreducible] lo hs sm s64 c64 d64 b64 mh ml pd pc qd qc val hiB str cmpI srD lz nb isq zl zh zs
structure RS (w : World) (g : Nat) (qs : List (Int × Nat)) : Prop where
 cell : ∀ i (h : i < qs.length), w.cell? ⟨g, i * 5, none⟩ = some (.int .u64 ((zl qs[i].1 : Nat) : Int)) ∧ w.cell? ⟨g, i * 5 + 1, none⟩ = some (.string (zh qs[i].1)) ∧ w.cell? ⟨g, i * 5 + 2, none⟩ = some (.bool (zs qs[i].1)) ∧
  w.cell? ⟨g, i * 5 + 3, none⟩ = some (.int .u64 ((lo qs[i].2 : Nat) : Int)) ∧ w.cell? ⟨g, i * 5 + 4, none⟩ = some (.string (hs qs[i].2))
 lt : g < w.heap.size
theorem RS.below {w w' : World} {g : Nat} {qs : List (Int × Nat)} (h : RS w g qs) (hb : Below w.heap.size w w') : RS w' g qs := by
 have hs := hb.size
 have hl := h.lt
 refine ⟨fun i hi => ?_, by omega⟩
 obtain ⟨h0, h1, h2, h3, h4⟩ := h.cell i hi
 exact ⟨(hb.cell (p := ⟨g, i * 5, none⟩) hl).trans h0, (hb.cell (p := ⟨g, i * 5 + 1, none⟩) hl).trans h1, (hb.cell (p := ⟨g, i * 5 + 2, none⟩) hl).trans h2, (hb.cell (p := ⟨g, i * 5 + 3, none⟩) hl).trans h3, (hb.cell (p := ⟨g, i * 5 + 4, none⟩) hl).trans h4⟩
def SlR (w : World) (v : Value) (qs : List (Int × Nat)) : Prop := (∃ ao c, v = .slice ao 0 c ∧ qs = []) ∨ ∃ g c, v = .slice (some ⟨g, 0, none⟩) qs.length c ∧ RS w g qs
theorem SlR.below {w w' : World} {v : Value} {qs : List (Int × Nat)} (h : SlR w v qs) (hb : Below w.heap.size w w') : SlR w' v qs := by
 rcases h with h | ⟨g, c, h1, h2⟩
 ·exact .inl h
 ·exact .inr ⟨g, c, h1, h2.below hb⟩
theorem SlR.keeps (v : Value) (qs : List (Int × Nat)) : Keeps (fun w => SlR w v qs) := fun _ _ hb h => h.below hb
def rsC (q : (Int × Nat)) : List Value := [.int .u64 ((zl q.1 : Nat) : Int), .string (zh q.1), .bool (zs q.1), .int .u64 ((lo q.2 : Nat) : Int), .string (hs q.2)]
def rsCs (l : List (Int × Nat)) : List Value := l.flatMap rsC
theorem rsCs_nil : rsCs [] = [] := rfl
theorem rsC_length (q : (Int × Nat)) : (rsC q).length = 5 := rfl
theorem rsCs_append (l m : List (Int × Nat)) : rsCs (l ++ m) = rsCs l ++ rsCs m := by unfold rsCs; rw [List.flatMap_append]
theorem rsCs_snoc (l : List (Int × Nat)) (q : (Int × Nat)) : rsCs (l ++ [q]) = rsCs l ++ rsC q := by rw [rsCs_append]; simp [rsCs]
theorem rsCs_get : ∀ (l : List (Int × Nat)) (i j : Nat) (h : i < l.length), j < 5 → (rsCs l)[i * 5 + j]? = (rsC l[i])[j]?
 | q :: l, 0, j, h, hj => by
  unfold rsCs
  rw [List.flatMap_cons, Nat.zero_mul, Nat.zero_add, List.getElem?_append_left (by rw [rsC_length]; exact hj)]; rfl
 | q :: l, i + 1, j, h, hj => by
  have hi : i < l.length := by simpa using h
  have ih := rsCs_get l i j hi hj
  unfold rsCs at ih ⊢
  rw [List.flatMap_cons, List.getElem?_append_right (by rw [rsC_length]; omega), rsC_length, show (i + 1) * 5 + j - 5 = i * 5 + j by omega, ih]
  rfl
theorem rsC_one : ∀ (q : (Int × Nat)), ∀ u ∈ rsC q, u.oneCell' = true := by
 intro q u hu
 unfold rsC at hu
 simp only [List.mem_cons, List.not_mem_nil, or_false] at hu
 rcases hu with rfl | rfl | rfl | rfl | rfl <;> rfl
theorem add0P (g j : Nat) : (⟨g, 0, none⟩ : Addr).add j = ⟨g, j, none⟩ := by
 unfold Addr.add
 by_cases h : j = 0
 ·subst h; simp
 ·simp [h]
theorem ownR_cells {w : World} {B n : Nat} {v : Value} {l : List (Int × Nat)} {g : Nat} {c : Nat} (h : w.ownsRow B 58 5 v n (rsCs l)) (hv : v = .slice (some ⟨g, 0, none⟩) n c) (j : Nat) (u : Value) (hu : (rsCs l)[j]? = some u) : w.cell? ⟨g, j, none⟩ = some u := by
 have := World.ownsRow.cells h (g := g) (by rw [hv]; rfl) j u hu
 rw [add0P] at this
 exact this
theorem ownR_rs {w : World} {B n g c : Nat} {v : Value} {l : List (Int × Nat)} (h : w.ownsRow B 58 5 v n (rsCs l)) (hv : v = .slice (some ⟨g, 0, none⟩) n c) : RS w g l := by
 have hc := ownR_cells h hv
 refine ⟨fun i hi => ?_, (h.lt g (by rw [hv]; rfl)).2⟩
 have e := fun j hj => rsCs_get l i j hi hj
 exact ⟨hc _ _ (by have := e 0 (by omega); rw [Nat.add_zero] at this; exact this), hc _ _ (e 1 (by omega)), hc _ _ (e 2 (by omega)), hc _ _ (e 3 (by omega)), hc _ _ (e 4 (by omega))⟩
theorem ownR_slr {w : World} {B n : Nat} {v : Value} {l : List (Int × Nat)} (h : w.ownsRow B 58 5 v n (rsCs l)) (hn : n = l.length) : SlR w v l := by
 rcases h.2 with ⟨h1, h2⟩ | ⟨g, cap, cur, h1, h2, h3, h4, h5, h6, h7⟩
 ·exact .inl ⟨none, 0, h1, List.eq_nil_of_length_eq_zero (by omega)⟩
 ·exact .inr ⟨g, cap, by rw [h1, hn], ownR_rs h h1⟩
theorem ownR_below {w w' : World} {B n : Nat} {v : Value} {l : List (Int × Nat)} (h : w.ownsRow B 58 5 v n (rsCs l)) (hb : Below w.heap.size w w') : w'.ownsRow B 58 5 v n (rsCs l) := by
 refine ⟨h.1, ?_⟩
 rcases h.2 with h1 | ⟨g, cap, cur, h1, h2, h3, h4⟩
 ·exact .inl h1
 ·refine .inr ⟨g, cap, cur, h1, h2, ?_, h4⟩
  have hg := (h.lt g (by rw [h1]; rfl)).2
  rw [hb.block g hg]; exact h3
theorem GL.belowR {w W W' : World} {L : List (Nat × List Value)} {B : Nat} (h : GL w W L) (hb : Below B W W') (hB : ∀ p ∈ L, p.1 < B) (hw : w.heap.size ≤ B) : GL w W' L := by
 refine ⟨h.bl.trans (hb.mono hw), fun p hp => ⟨(h.all p hp).1, ?_⟩, h.nd⟩
 have hd := (h.all p hp).2
 have hk := hB p hp
 have hbl := hb.block p.1 hk
 refine ⟨fun i hi => (World.cell?_of_block (a := ⟨p.1, i, none⟩) hbl).trans (hd.cell i hi), fun i => ?_, Nat.lt_of_lt_of_le hd.lt hb.size, ?_⟩
 ·have := hd.frz i
  unfold World.frozen? at this ⊢
  simp only at this ⊢
  rw [hbl]; exact this
 ·obtain ⟨arr, t, h1, h2⟩ := hd.row
  exact ⟨arr, t, by rw [hbl]; exact h1, h2⟩
theorem infoS : (Tryz.prog.info? 58).map (fun i => (i.zero, i.size, i.bytes)) = some (some (.agg #[.int .u64 0, .string ⟨#[]⟩, .bool false, .int .u64 0, .string ⟨#[]⟩]), 5, 56) := by kernel_rfl
theorem hd_newsP {w : World} {k : Nat} {c : List Value} (h : Hd w k c) : ∀ (j : Nat) (u : Value), c[j]? = some u → w.cell? ((⟨k, 0, none⟩ : Addr).add j) = some u := by
 intro j u hu
 obtain ⟨hj, he⟩ := List.getElem?_eq_some_iff.1 hu
 rw [add0P, h.cell j hj, he]
theorem slr_form {w : World} {v : Value} {l : List (Int × Nat)} (h : SlR w v l) : ∃ ao n c, v = .slice ao n c ∧ n = l.length := by
 rcases h with ⟨ao, c, h1, rfl⟩ | ⟨g, c, h1, h2⟩
 ·exact ⟨ao, 0, c, h1, rfl⟩
 ·exact ⟨_, _, c, h1, rfl⟩
theorem slr_parts {w : World} {ao : Option Addr} {n c : Nat} {l : List (Int × Nat)} (h : SlR w (.slice ao n c) l) : n = l.length ∧ (0 < n → ∃ g, ao = some ⟨g, 0, none⟩ ∧ RS w g l) := by
 rcases h with ⟨a2, c2, h1, rfl⟩ | ⟨g, c2, h1, h2⟩
 ·simp only [Value.slice.injEq] at h1
  obtain ⟨-, rfl, -⟩ := h1
  exact ⟨rfl, fun h => by omega⟩
 ·simp only [Value.slice.injEq] at h1
  obtain ⟨rfl, rfl, -⟩ := h1
  exact ⟨rfl, fun _ => ⟨g, rfl, h2⟩⟩
end Go.Proofs.YtloipmieaefcpaaGreatDoor
namespace Go.Proofs.YtloipmieaefcpaaGreatDoor
open Go.RowKit
attribute [local irreducible] lo hs sm s64 c64 d64 b64 mh ml pd pc qd qc val hiB str cmpI srD lz nb isq zl zh zs fe
set_option maxHeartbeats 4000000 in
set_option maxRecDepth 100000 in
theorem pfrac_w (i j c x : Int) (e : Nat) (HF : ∀ w, Calls Tryz.prog 43 #[.int .i64 i, .int .i64 j] w fun xe w' => xe = .returned (.tuple #[frV x e, .int .i64 c]) ∧ Below w.heap.size w w') (w : World) :
  Calls Tryz.prog 14 #[.int .i64 i, .int .i64 j] w fun xe w' => xe = .returned (frV x e) ∧ Below w.heap.size w w' := by
 have hL0 : GL w w [] := GL.start w
 replace HF := Lib.hid HF
 replace hL0 := (hL0.new rfl [.int .u64 0, .string ⟨#[]⟩, .bool false, .int .u64 0, .string ⟨#[]⟩] 30)
 generalize hweq : (w.alloc (.cells #[.int .u64 0, .string ⟨#[]⟩, .bool false, .int .u64 0, .string ⟨#[]⟩] 30)) = x1 at hL0
 go_enter Tryz.func14, Tryz.ntmps14
 go_wp2_with fail
 with_reducible refine Calls.mono (HF.out _) ?_
 rintro e x2 ⟨rfl, hb⟩
 replace hL0 := hL0.call hb
 clear hb hweq
 replace hL0 := (hL0.new rfl [.int .u64 ((zl x : Nat) : Int), .string (zh x), .bool (zs x), .int .u64 ((lo e : Nat) : Int), .string (hs e)] 30)
 generalize hweq : (x2.alloc (.cells #[.int .u64 ((zl x : Nat) : Int), .string (zh x), .bool (zs x), .int .u64 ((lo e : Nat) : Int), .string (hs e)] 30)) = x3 at hL0
 have hA := hL0.fc
 simp only [fcG, cellsF, neK, and_true, ne_eq, Nat.zero_add, Nat.reduceAdd] at hA
 have hP := hL0.put 1 (w.heap.size) _ rfl [.int .u64 ((zl x : Nat) : Int), .string (zh x), .bool (zs x), .int .u64 ((lo e : Nat) : Int), .string (hs e)] rfl
 simp only [setAll, List.set_cons_zero, List.set_cons_succ] at hP
 generalize hput1 : (((((x3.setCell ⟨w.heap.size, 0, none⟩ (.int .u64 ((zl x : Nat) : Int))).setCell ⟨w.heap.size, 1, none⟩ (.string (zh x))).setCell ⟨w.heap.size, 2, none⟩ (.bool (zs x))).setCell ⟨w.heap.size, 3, none⟩ (.int .u64 ((lo e : Nat) : Int))).setCell ⟨w.heap.size, 4, none⟩ (.string (hs e))) = x4 at hP
 have hB1 := hP.fc
 simp only [fcG, cellsF, neK, and_true, ne_eq, Nat.zero_add, Nat.reduceAdd] at hB1
 replace hL0 := hP
 go_wp2_with fail
 exact bodyPost_ret (v := .agg #[.int .u64 ((zl x : Nat) : Int), .string (zh x), .bool (zs x), .int .u64 ((lo e : Nat) : Int), .string (hs e)]) (by simp [results, Tryz.results14, go_sem, hB1]) rfl ⟨rfl, hL0.bl⟩
set_option maxHeartbeats 4000000 in
set_option maxRecDepth 100000 in
theorem lback_no (a m : Int) (z n : Int) (k e : Nat) (HO : ∀ w, Calls Tryz.prog 11 #[.int .i64 a] w fun xe w' => xe = .returned (intV z) ∧ Below w.heap.size w w') (HN : ∀ w, Calls Tryz.prog 12 #[.int .u64 m] w fun xe w' => xe = .returned (natV k) ∧ Below w.heap.size w w') (HB : ∀ w, Calls Tryz.prog 10 #[intV z, natV k] w fun xe w' => xe = .returned (.tuple #[frV n e, .bool false]) ∧ Below w.heap.size w w') (w : World) :
  Calls Tryz.prog 44 #[.int .i64 a, .int .u64 m] w fun xe w' => xe = .returned (.string (ByteArray.mk #[110, 111, 110, 101])) ∧ Below w.heap.size w w' := by
 have hL0 : GL w w [] := GL.start w
 replace HO := Lib.hid HO
 replace HN := Lib.hid HN
 replace HB := Lib.hid HB
 go_enter Tryz.func44, Tryz.ntmps44
 go_wp2_with fail
 with_reducible refine Calls.mono (HO.out _) ?_
 rintro e x1 ⟨rfl, hb⟩
 replace hL0 := hL0.call hb
 clear hb
 go_wp2_with fail
 with_reducible refine Calls.mono (HN.out _) ?_
 rintro e x2 ⟨rfl, hb⟩
 replace hL0 := hL0.call hb
 clear hb
 go_wp2_with fail
 with_reducible refine Calls.mono (HB.out _) ?_
 rintro e x3 ⟨rfl, hb⟩
 replace hL0 := hL0.call hb
 clear hb
 replace hL0 := (hL0.new rfl [.int .u64 ((zl n : Nat) : Int), .string (zh n), .bool (zs n), .int .u64 ((lo e : Nat) : Int), .string (hs e)] 30)
 generalize hweq : (x3.alloc (.cells #[.int .u64 ((zl n : Nat) : Int), .string (zh n), .bool (zs n), .int .u64 ((lo e : Nat) : Int), .string (hs e)] 30)) = x4 at hL0
 go_wp2_with fail
 exact bodyPost_ret (v := .string (ByteArray.mk #[110, 111, 110, 101])) (by simp [results, Tryz.results44, go_sem]) rfl ⟨rfl, hL0.bl⟩
set_option maxHeartbeats 4000000 in
set_option maxRecDepth 100000 in
theorem lback_yes (a m : Int) (z n : Int) (k e : Nat) (s : ByteArray) (HO : ∀ w, Calls Tryz.prog 11 #[.int .i64 a] w fun xe w' => xe = .returned (intV z) ∧ Below w.heap.size w w') (HN : ∀ w, Calls Tryz.prog 12 #[.int .u64 m] w fun xe w' => xe = .returned (natV k) ∧ Below w.heap.size w w') (HB : ∀ w, Calls Tryz.prog 10 #[intV z, natV k] w fun xe w' => xe = .returned (.tuple #[frV n e, .bool true]) ∧ Below w.heap.size w w') (HT : ∀ w, Tab w → Calls Tryz.prog 73 #[frV n e] w fun xe w' => xe = .returned (.string s) ∧ Below w.heap.size w w') (w : World) (htab : Tab w) :
  Calls Tryz.prog 44 #[.int .i64 a, .int .u64 m] w fun xe w' => xe = .returned (.string s) ∧ Below w.heap.size w w' := by
 have hL0 : GL w w [] := GL.start w
 replace HO := Lib.hid HO
 replace HN := Lib.hid HN
 replace HB := Lib.hid HB
 replace HT := Lib.hid HT
 go_enter Tryz.func44, Tryz.ntmps44
 go_wp2_with fail
 with_reducible refine Calls.mono (HO.out _) ?_
 rintro e x1 ⟨rfl, hb⟩
 replace hL0 := hL0.call hb
 clear hb
 go_wp2_with fail
 with_reducible refine Calls.mono (HN.out _) ?_
 rintro e x2 ⟨rfl, hb⟩
 replace hL0 := hL0.call hb
 clear hb
 go_wp2_with fail
 with_reducible refine Calls.mono (HB.out _) ?_
 rintro e x3 ⟨rfl, hb⟩
 replace hL0 := hL0.call hb
 clear hb
 replace hL0 := (hL0.new rfl [.int .u64 ((zl n : Nat) : Int), .string (zh n), .bool (zs n), .int .u64 ((lo e : Nat) : Int), .string (hs e)] 30)
 generalize hweq : (x3.alloc (.cells #[.int .u64 ((zl n : Nat) : Int), .string (zh n), .bool (zs n), .int .u64 ((lo e : Nat) : Int), .string (hs e)] 30)) = x4 at hL0
 have hN0 := cells_of _ 0 [] rfl (hL0.get _ _ List.mem_cons_self)
 simp only [cellsF, and_true, Nat.zero_add, Nat.reduceAdd] at hN0
 go_wp2_with fail
 clear hN0
 with_reducible refine Calls.mono (HT.out _ (htab.below hL0.bl)) ?_
 rintro e x5 ⟨rfl, hb⟩
 replace hL0 := hL0.call hb
 clear hb hweq
 go_wp2_with fail
 exact bodyPost_ret (v := .string s) (by simp [results, Tryz.results44, go_sem]) rfl ⟨rfl, hL0.bl⟩
set_option maxHeartbeats 16000000 in
set_option maxRecDepth 100000 in
theorem pchin_w (cs : List (Int × Nat)) (ao : Option Addr) (n c : Nat) (P : Nat → Int → Nat → Prop) (R : Value) (hlen : cs.length = n) (hnb : n ≤ 1000000)
  (HO0 : ∀ w, Calls Tryz.prog 12 #[.int .u64 0] w fun xe w' => xe = .returned (natV 0) ∧ Below w.heap.size w w') (HO1 : ∀ w, Calls Tryz.prog 12 #[.int .u64 1] w fun xe w' => xe = .returned (natV 1) ∧ Below w.heap.size w w')
  (hz : ∀ i (h : i < cs.length), (cs[i]'h).2 = 0 → R = .tuple #[.agg #[.int .u64 0, .string ⟨#[]⟩, .bool false, .int .u64 0, .string ⟨#[]⟩], .int .i64 5]) (h0 : (∀ i (h : i < cs.length), (cs[i]'h).2 ≠ 0) → P 0 0 1)
  (hJ : ∀ i z m (h : i < cs.length), P i z m → (∃ z2 m2, P (i + 1) z2 m2 ∧ (∀ w, Calls Tryz.prog 54 #[frV z m, frV (cs[i]'h).1 (cs[i]'h).2] w fun xe w' => xe = .returned (.tuple #[frV z2 m2, .bool true]) ∧ Below w.heap.size w w')) ∨ (R = .tuple #[.agg #[.int .u64 0, .string ⟨#[]⟩, .bool false, .int .u64 0, .string ⟨#[]⟩], .int .i64 6] ∧ (∀ w, Calls Tryz.prog 54 #[frV z m, frV (cs[i]'h).1 (cs[i]'h).2] w fun xe w' => xe = .returned (.tuple #[.agg #[.int .u64 0, .string ⟨#[]⟩, .bool false, .int .u64 0, .string ⟨#[]⟩], .bool false]) ∧ Below w.heap.size w w')))
  (hR : ∀ z m, P n z m → R = .tuple #[frV z m, .int .i64 0]) (w : World) (hq : 0 < n → ∃ g, ao = some ⟨g, 0, none⟩ ∧ RS w g cs) :
  Calls Tryz.prog 25 #[.slice ao n c] w fun xe w' => xe = .returned R ∧ Below w.heap.size w w' := by
 replace HO0 := Lib.hid HO0
 replace HO1 := Lib.hid HO1
 replace hz := Lib.hid hz
 replace h0 := Lib.hid h0
 replace hJ := Lib.hid hJ
 replace hR := Lib.hid hR
 replace hq := Lib.hid hq
 replace hlen := Lib.hid hlen
 replace hnb := Lib.hid hnb
 have hL0 : GL w w [] := GL.start w
 replace hL0 := (hL0.new rfl [.int .u64 0, .string ⟨#[]⟩, .bool false, .int .u64 0, .string ⟨#[]⟩] 58)
 generalize hweq : (w.alloc (.cells #[.int .u64 0, .string ⟨#[]⟩, .bool false, .int .u64 0, .string ⟨#[]⟩] 58)) = x1 at hL0
 go_enter Tryz.func25, Tryz.ntmps25
 go_wp2_with fail
 clear hweq
 go_loopg [13] n (fun gk iv wr => ∃ (i : Nat), i + gk = n ∧ iv = .int .i64 (i : Int) ∧ (∀ j (h : j < cs.length), j < i → (cs[j]'h).2 ≠ 0) ∧ GL w wr [(w.heap.size, [.int .u64 0, .string ⟨#[]⟩, .bool false, .int .u64 0, .string ⟨#[]⟩])])
 case atStart => exact ⟨0, Nat.zero_add n, by first | rfl | go_num, fun j _ h => absurd h (Nat.not_lt_zero _), hL0⟩
 case round =>
  clear hL0
  obtain ⟨i, hik, rfl, hall, hL0⟩ := hrel
  replace hall := Lib.hid hall
  by_cases hin : i < n
  ·have hcl := hlen.out
   obtain ⟨g, rfl, hfs⟩ := hq.out (by omega)
   have hf := (hfs.below hL0.bl).cell i (by omega)
   obtain ⟨y, hy⟩ : ∃ x, x = (cs[i]'(by omega)).1 := ⟨_, rfl⟩
   obtain ⟨l, hl⟩ : ∃ x, x = (cs[i]'(by omega)).2 := ⟨_, rfl⟩
   rw [← hy, ← hl] at hf
   obtain ⟨f0, f1, f2, f3, f4⟩ := hf
   have k1 : (i : Int) < (n : Int) := by omega
   have k0 : (0 : Int) ≤ (i : Int) := Int.natCast_nonneg _
   have kb : (i : Int) ≤ 1000000 := by have := hnb.out; omega
   rcases Nat.eq_zero_or_pos l with h0 | h0
   ·have hR2 := Lib.hid (hz.out i (by omega) (by rw [← hl]; exact h0))
    clear hl
    subst h0
    clear hy
    replace hL0 := (hL0.new rfl [.int .u64 ((zl y : Nat) : Int), .string (zh y), .bool (zs y), .int .u64 ((lo 0 : Nat) : Int), .string (hs 0)] 58)
    generalize hweq : (wr.alloc (.cells #[.int .u64 ((zl y : Nat) : Int), .string (zh y), .bool (zs y), .int .u64 ((lo 0 : Nat) : Int), .string (hs 0)] 58)) = x2 at hL0
    go_upto_region 4 with fail
    clear hweq
    obtain ⟨α, iα, F, hF1, hF2⟩ := cls x2
    have hq0 := cls_box hF1 hL0 _ _ List.mem_cons_self
    simp only [cellsC, and_true, Nat.zero_add, Nat.reduceAdd] at hq0
    refine region_qs 4 (C := fun w' => ∃ x, w' = F x) (by kernel_rfl) (by kernel_rfl) (cls_drew hF2) ?_
    simp only [List.take_succ_cons, List.take_zero, List.drop_succ_cons, List.drop_zero, List.take_nil, List.drop_nil]
    repeat (go_big_quiet_step (first | fail | (go_at_call 12; with_reducible exact cls_call hF1 hF2 HO0.out _)))
    refine wpQuiet_nil ?_
    rintro wq ⟨xq, rfl⟩
    replace hL0 := hL0.call (hF1 xq)
    clear  hq0 hF2
    generalize F xq = x3 at hL0 ⊢
    clear hF1 xq iα F α
    have hA := hL0.fc
    simp only [fcG, cellsF, neK, and_true, ne_eq, Nat.zero_add, Nat.reduceAdd] at hA
    have hP := hL0.put 1 (w.heap.size) _ rfl [.int .u64 0, .string ⟨#[]⟩, .bool false, .int .u64 0, .string ⟨#[]⟩] rfl
    simp only [setAll, List.set_cons_zero, List.set_cons_succ] at hP
    generalize hput1 : (((((x3.setCell ⟨w.heap.size, 0, none⟩ (.int .u64 0)).setCell ⟨w.heap.size, 1, none⟩ (.string ⟨#[]⟩)).setCell ⟨w.heap.size, 2, none⟩ (.bool false)).setCell ⟨w.heap.size, 3, none⟩ (.int .u64 0)).setCell ⟨w.heap.size, 4, none⟩ (.string ⟨#[]⟩)) = x4 at hP
    have hB1 := hP.fc
    simp only [fcG, cellsF, neK, and_true, ne_eq, Nat.zero_add, Nat.reduceAdd] at hB1
    replace hL0 := hP
    go_wp2_with fail
    exact bodyPost_ret (v := .tuple #[.agg #[.int .u64 0, .string ⟨#[]⟩, .bool false, .int .u64 0, .string ⟨#[]⟩], .int .i64 5]) (by simp [results, Tryz.results25, go_sem, hB1]) rfl ⟨by rw [hR2.out], hL0.bl⟩
   ·have hne := eq_zero h0
    have hal2 := Lib.hid (show ∀ j (h : j < cs.length), j < i + 1 → (cs[j]'h).2 ≠ 0 from fun j h hj => by
      rcases Nat.lt_or_ge j i with g1 | g1
      ·exact hall.out j h g1
      ·obtain rfl : j = i := by omega
       rw [← hl]; omega)
    clear h0 hl hy
    rcases hne with e0 | ⟨e0, e1⟩
    ·have k2 : 0 ≤ n := Nat.zero_le _
     replace hL0 := (hL0.new rfl [.int .u64 ((zl y : Nat) : Int), .string (zh y), .bool (zs y), .int .u64 ((lo l : Nat) : Int), .string (hs l)] 58)
     generalize hweq : (wr.alloc (.cells #[.int .u64 ((zl y : Nat) : Int), .string (zh y), .bool (zs y), .int .u64 ((lo l : Nat) : Int), .string (hs l)] 58)) = x2 at hL0
     go_upto_region 4 with fail
     clear hweq
     obtain ⟨α, iα, F, hF1, hF2⟩ := cls x2
     have hq0 := cls_box hF1 hL0 _ _ List.mem_cons_self
     simp only [cellsC, and_true, Nat.zero_add, Nat.reduceAdd] at hq0
     refine region_qs 4 (C := fun w' => ∃ x, w' = F x) (by kernel_rfl) (by kernel_rfl) (cls_drew hF2) ?_
     simp only [List.take_succ_cons, List.take_zero, List.drop_succ_cons, List.drop_zero, List.take_nil, List.drop_nil]
     repeat (go_big_quiet_step (first | fail | (go_at_call 12; with_reducible exact cls_call hF1 hF2 HO0.out _)))
     refine wpQuiet_nil ?_
     rintro wq ⟨xq, rfl⟩
     replace hL0 := hL0.call (hF1 xq)
     clear  hq0 hF2
     generalize F xq = x3 at hL0 ⊢
     clear hF1 xq iα F α
     go_wp2_with fail
     go_roundg (gk - 1)
     case measure => omega
     case rel => exact ⟨i + 1, by omega, by first | rfl | go_num, hal2.out, hL0.weak (List.Sublist.cons _ (List.Sublist.refl _))⟩
    ·have k2 : 0 ≤ n := Nat.zero_le _
     replace hL0 := (hL0.new rfl [.int .u64 ((zl y : Nat) : Int), .string (zh y), .bool (zs y), .int .u64 ((lo l : Nat) : Int), .string (hs l)] 58)
     generalize hweq : (wr.alloc (.cells #[.int .u64 ((zl y : Nat) : Int), .string (zh y), .bool (zs y), .int .u64 ((lo l : Nat) : Int), .string (hs l)] 58)) = x2 at hL0
     go_upto_region 4 with fail
     clear hweq
     obtain ⟨α, iα, F, hF1, hF2⟩ := cls x2
     have hq0 := cls_box hF1 hL0 _ _ List.mem_cons_self
     simp only [cellsC, and_true, Nat.zero_add, Nat.reduceAdd] at hq0
     refine region_qs 4 (C := fun w' => ∃ x, w' = F x) (by kernel_rfl) (by kernel_rfl) (cls_drew hF2) ?_
     simp only [List.take_succ_cons, List.take_zero, List.drop_succ_cons, List.drop_zero, List.take_nil, List.drop_nil]
     repeat (go_big_quiet_step (first | fail | (go_at_call 12; with_reducible exact cls_call hF1 hF2 HO0.out _)))
     refine wpQuiet_nil ?_
     rintro wq ⟨xq, rfl⟩
     replace hL0 := hL0.call (hF1 xq)
     clear  hq0 hF2
     generalize F xq = x3 at hL0 ⊢
     clear hF1 xq iα F α
     go_wp2_with fail
     go_roundg (gk - 1)
     case measure => omega
     case rel => exact ⟨i + 1, by omega, by first | rfl | go_num, hal2.out, hL0.weak (List.Sublist.cons _ (List.Sublist.refl _))⟩
  ·obtain rfl : i = n := by omega
   have k1 : ¬ (i : Int) < (i : Int) := by omega
   have hP0 := Lib.hid (h0.out fun j h => hall.out j h (by rw [← hlen.out]; exact h))
   clear hall hik
   go_wp2_with fail
   with_reducible refine Calls.mono (HO1.out _) ?_
   rintro e x2 ⟨rfl, hb⟩
   replace hL0 := hL0.call hb
   clear hb
   replace hL0 := (hL0.new rfl [.int .u64 0, .string ⟨#[]⟩, .bool false, .int .u64 ((lo 1 : Nat) : Int), .string (hs 1)] 58)
   generalize hweq : (x2.alloc (.cells #[.int .u64 0, .string ⟨#[]⟩, .bool false, .int .u64 ((lo 1 : Nat) : Int), .string (hs 1)] 58)) = x3 at hL0
   go_wp2_with fail
   clear hweq
   go_loopg [27] i (fun gk iv wr => ∃ (j : Nat) (z : Int) (m : Nat), j + gk = i ∧ iv = .int .i64 (j : Int) ∧ P j z m ∧ GL w wr [(x2.heap.size, [.int .u64 ((zl z : Nat) : Int), .string (zh z), .bool (zs z), .int .u64 ((lo m : Nat) : Int), .string (hs m)]), (w.heap.size, [.int .u64 0, .string ⟨#[]⟩, .bool false, .int .u64 0, .string ⟨#[]⟩])])
   case atStart => exact ⟨0, 0, 1, Nat.zero_add i, by first | rfl | go_num, hP0.out, by rw [z0.1, z0.2.1, z0.2.2]; exact hL0⟩
   case round =>
    clear hL0 hP0
    clear k1 hin
    obtain ⟨j, z, m, hik, rfl, hP, hL0⟩ := hrel
    by_cases hin : j < i
    ·have hcl := hlen.out
     obtain ⟨g, rfl, hfs⟩ := hq.out (by omega)
     have hf := (hfs.below hL0.bl).cell j (by omega)
     obtain ⟨y, hy⟩ : ∃ x, x = (cs[j]'(by omega)).1 := ⟨_, rfl⟩
     obtain ⟨l, hl⟩ : ∃ x, x = (cs[j]'(by omega)).2 := ⟨_, rfl⟩
     rw [← hy, ← hl] at hf
     obtain ⟨f0, f1, f2, f3, f4⟩ := hf
     have k1 : (j : Int) < (i : Int) := by omega
     have k0 : (0 : Int) ≤ (j : Int) := Int.natCast_nonneg _
     have kb : (j : Int) ≤ 1000000 := by have := hnb.out; omega
     have hj2 := hJ.out j z m (by omega) hP
     rw [← hy, ← hl] at hj2
     clear hy hl hP
     rcases hj2 with ⟨z2, m2, hP2, HJ1⟩ | ⟨hR2, HJ1⟩
     ·replace HJ1 := Lib.hid HJ1
      replace hP2 := Lib.hid hP2
      replace hL0 := (hL0.new rfl [.int .u64 ((zl y : Nat) : Int), .string (zh y), .bool (zs y), .int .u64 ((lo l : Nat) : Int), .string (hs l)] 58)
      generalize hweq : (wr.alloc (.cells #[.int .u64 ((zl y : Nat) : Int), .string (zh y), .bool (zs y), .int .u64 ((lo l : Nat) : Int), .string (hs l)] 58)) = x4 at hL0
      have hN0 := cells_of _ 0 [] rfl (hL0.get _ _ List.mem_cons_self)
      simp only [cellsF, and_true, Nat.zero_add, Nat.reduceAdd] at hN0
      have hN1 := cells_of _ 0 [] rfl (hL0.get _ _ (List.mem_cons_of_mem _ List.mem_cons_self))
      simp only [cellsF, and_true, Nat.zero_add, Nat.reduceAdd] at hN1
      go_wp2_with fail
      clear hN0 hN1
      with_reducible refine Calls.mono (HJ1.out _) ?_
      rintro e x5 ⟨rfl, hb⟩
      replace hL0 := hL0.call hb
      clear hb hweq
      replace hL0 := (hL0.new rfl [.int .u64 ((zl z2 : Nat) : Int), .string (zh z2), .bool (zs z2), .int .u64 ((lo m2 : Nat) : Int), .string (hs m2)] 58)
      generalize hweq : (x5.alloc (.cells #[.int .u64 ((zl z2 : Nat) : Int), .string (zh z2), .bool (zs z2), .int .u64 ((lo m2 : Nat) : Int), .string (hs m2)] 58)) = x6 at hL0
      have hA := hL0.fc
      simp only [fcG, cellsF, neK, and_true, ne_eq, Nat.zero_add, Nat.reduceAdd] at hA
      have hP := hL0.put 2 (x2.heap.size) _ rfl [.int .u64 ((zl z2 : Nat) : Int), .string (zh z2), .bool (zs z2), .int .u64 ((lo m2 : Nat) : Int), .string (hs m2)] rfl
      simp only [setAll, List.set_cons_zero, List.set_cons_succ] at hP
      generalize hput1 : (((((x6.setCell ⟨x2.heap.size, 0, none⟩ (.int .u64 ((zl z2 : Nat) : Int))).setCell ⟨x2.heap.size, 1, none⟩ (.string (zh z2))).setCell ⟨x2.heap.size, 2, none⟩ (.bool (zs z2))).setCell ⟨x2.heap.size, 3, none⟩ (.int .u64 ((lo m2 : Nat) : Int))).setCell ⟨x2.heap.size, 4, none⟩ (.string (hs m2))) = x7 at hP
      have hB1 := hP.fc
      simp only [fcG, cellsF, neK, and_true, ne_eq, Nat.zero_add, Nat.reduceAdd] at hB1
      replace hL0 := hP
      go_wp2_with fail
      go_roundg (gk - 1)
      case measure => omega
      case rel => exact ⟨j + 1, z2, m2, by omega, by first | rfl | go_num, hP2.out, hL0.weak (List.Sublist.cons _ (List.Sublist.cons _ (List.Sublist.refl _)))⟩
     ·replace HJ1 := Lib.hid HJ1
      replace hR2 := Lib.hid hR2
      replace hL0 := (hL0.new rfl [.int .u64 ((zl y : Nat) : Int), .string (zh y), .bool (zs y), .int .u64 ((lo l : Nat) : Int), .string (hs l)] 58)
      generalize hweq : (wr.alloc (.cells #[.int .u64 ((zl y : Nat) : Int), .string (zh y), .bool (zs y), .int .u64 ((lo l : Nat) : Int), .string (hs l)] 58)) = x4 at hL0
      have hN0 := cells_of _ 0 [] rfl (hL0.get _ _ List.mem_cons_self)
      simp only [cellsF, and_true, Nat.zero_add, Nat.reduceAdd] at hN0
      have hN1 := cells_of _ 0 [] rfl (hL0.get _ _ (List.mem_cons_of_mem _ List.mem_cons_self))
      simp only [cellsF, and_true, Nat.zero_add, Nat.reduceAdd] at hN1
      go_wp2_with fail
      clear hN0 hN1
      with_reducible refine Calls.mono (HJ1.out _) ?_
      rintro e x5 ⟨rfl, hb⟩
      replace hL0 := hL0.call hb
      clear hb hweq
      replace hL0 := (hL0.new rfl [.int .u64 0, .string ⟨#[]⟩, .bool false, .int .u64 0, .string ⟨#[]⟩] 58)
      generalize hweq : (x5.alloc (.cells #[.int .u64 0, .string ⟨#[]⟩, .bool false, .int .u64 0, .string ⟨#[]⟩] 58)) = x6 at hL0
      have hA := hL0.fc
      simp only [fcG, cellsF, neK, and_true, ne_eq, Nat.zero_add, Nat.reduceAdd] at hA
      have hP := hL0.put 0 (x5.heap.size) _ rfl [.int .u64 0, .string ⟨#[]⟩, .bool false, .int .u64 0, .string ⟨#[]⟩] rfl
      simp only [setAll, List.set_cons_zero, List.set_cons_succ] at hP
      generalize hput1 : (((((x6.setCell ⟨x5.heap.size, 0, none⟩ (.int .u64 0)).setCell ⟨x5.heap.size, 1, none⟩ (.string ⟨#[]⟩)).setCell ⟨x5.heap.size, 2, none⟩ (.bool false)).setCell ⟨x5.heap.size, 3, none⟩ (.int .u64 0)).setCell ⟨x5.heap.size, 4, none⟩ (.string ⟨#[]⟩)) = x7 at hP
      have hB1 := hP.fc
      simp only [fcG, cellsF, neK, and_true, ne_eq, Nat.zero_add, Nat.reduceAdd] at hB1
      replace hL0 := hP
      have hP := hL0.put 3 (w.heap.size) _ rfl [.int .u64 0, .string ⟨#[]⟩, .bool false, .int .u64 0, .string ⟨#[]⟩] rfl
      simp only [setAll, List.set_cons_zero, List.set_cons_succ] at hP
      generalize hput2 : (((((x7.setCell ⟨w.heap.size, 0, none⟩ (.int .u64 0)).setCell ⟨w.heap.size, 1, none⟩ (.string ⟨#[]⟩)).setCell ⟨w.heap.size, 2, none⟩ (.bool false)).setCell ⟨w.heap.size, 3, none⟩ (.int .u64 0)).setCell ⟨w.heap.size, 4, none⟩ (.string ⟨#[]⟩)) = x8 at hP
      have hB2 := hP.fc
      simp only [fcG, cellsF, neK, and_true, ne_eq, Nat.zero_add, Nat.reduceAdd] at hB2
      replace hL0 := hP
      go_wp2_with fail
      exact bodyPost_ret (v := .tuple #[.agg #[.int .u64 0, .string ⟨#[]⟩, .bool false, .int .u64 0, .string ⟨#[]⟩], .int .i64 6]) (by simp [results, Tryz.results25, go_sem, hB2]) rfl ⟨by rw [hR2.out], hL0.bl⟩
    ·obtain rfl : j = i := by omega
     have k1 : ¬ (j : Int) < (j : Int) := by omega
     have hR2 := Lib.hid (hR.out z m hP)
     clear hP
     have hA := hL0.fc
     simp only [fcG, cellsF, neK, and_true, ne_eq, Nat.zero_add, Nat.reduceAdd] at hA
     have hP := hL0.put 1 (w.heap.size) _ rfl [.int .u64 ((zl z : Nat) : Int), .string (zh z), .bool (zs z), .int .u64 ((lo m : Nat) : Int), .string (hs m)] rfl
     simp only [setAll, List.set_cons_zero, List.set_cons_succ] at hP
     generalize hput1 : (((((wr.setCell ⟨w.heap.size, 0, none⟩ (.int .u64 ((zl z : Nat) : Int))).setCell ⟨w.heap.size, 1, none⟩ (.string (zh z))).setCell ⟨w.heap.size, 2, none⟩ (.bool (zs z))).setCell ⟨w.heap.size, 3, none⟩ (.int .u64 ((lo m : Nat) : Int))).setCell ⟨w.heap.size, 4, none⟩ (.string (hs m))) = x4 at hP
     have hB1 := hP.fc
     simp only [fcG, cellsF, neK, and_true, ne_eq, Nat.zero_add, Nat.reduceAdd] at hB1
     replace hL0 := hP
     go_wp2_with fail
     exact bodyPost_ret (v := .tuple #[.agg #[.int .u64 ((zl z : Nat) : Int), .string (zh z), .bool (zs z), .int .u64 ((lo m : Nat) : Int), .string (hs m)], .int .i64 0]) (by simp [results, Tryz.results25, go_sem, hB1]) rfl ⟨by rw [hR2.out], hL0.bl⟩
end Go.Proofs.YtloipmieaefcpaaGreatDoor
namespace Go.Proofs.YtloipmieaefcpaaGreatDoor
open Go.RowKit
attribute [local irreducible] lo hs sm s64 c64 d64 b64 mh ml pd pc qd qc val hiB str cmpI srD lz nb isq zl zh zs
theorem anyZ_true : ∀ {l : List (Int × Nat)} (i : Nat) (h : i < l.length), (l[i]'h).2 = 0 → anyZ l = true
 | c :: l, 0, h, e => by rw [anyZ, if_pos (show c.2 = 0 from e)]
 | c :: l, i + 1, h, e => by
  rw [anyZ]
  by_cases hc : c.2 = 0
  ·rw [if_pos hc]
  ·rw [if_neg hc]; exact anyZ_true i (by simpa using h) e
/-- What the second loop keeps. -/
structure CJ (cs : List (Int × Nat)) (k i : Nat) (z : Int) (m : Nat) : Prop where
 pos : ∀ c ∈ cs, 0 < c.2
 lo : 0 ≤ z
 hi : z < (m : Int)
 sz : (digs m).length ≤ 1 + i * k
 eq : chinF (z, m) (cs.drop i) = chinF (0, 1) cs
theorem lcm_digs {m n a b : Nat} (hm : 0 < m) (hn : 0 < n) (h1 : (digs m).length ≤ a) (h2 : (digs n).length ≤ b) : (digs (Nat.lcm m n)).length ≤ a + b := by
 refine Nat.le_trans (digs_mono (Nat.le_of_dvd (Nat.mul_pos hm hn) (Nat.lcm_dvd (Nat.dvd_mul_right _ _) (Nat.dvd_mul_left _ _)))) ?_
 have := dI_mul (x := (m : Int)) (y := (n : Int)) (by rw [dI_nat]; exact h1) (by rw [dI_nat]; exact h2)
 rw [← Int.natCast_mul, dI_nat] at this; exact this
theorem frV_zz : frV 0 0 = .agg #[.int .u64 0, .string ⟨#[]⟩, .bool false, .int .u64 0, .string ⟨#[]⟩] := frV_00
theorem chinP (cs : List (Int × Nat)) (k : Nat) (hk : 0 < k) (hk2 : 1 + cs.length * k ≤ 900) (hs : ∀ c ∈ cs, dI c.1 ≤ k ∧ (digs c.2).length ≤ k) (v : Value) (w : World) (hv : SlR w v cs) :
  Calls Tryz.prog 25 #[v] w fun e w' => e = .returned (.tuple #[frV (chV cs).1 (chV cs).2, .int .i64 (chE cs)]) ∧ Below w.heap.size w w' := by
 obtain ⟨ao, n, c, rfl, hn⟩ := slr_form hv
 obtain ⟨-, hq⟩ := slr_parts hv
 have hle : cs.length * 1 ≤ cs.length * k := Nat.mul_le_mul_left _ hk
 refine pchin_w cs ao n c (CJ cs k) _ hn.symm (by omega) zero_o one_o (fun i h e => ?_) (fun h => ?_) (fun i z m h hP => ?_) (fun z m hP => ?_) w hq
 ·obtain ⟨h1, h2⟩ := ch_zero (anyZ_true i h e)
  rw [h1, h2, frV_zz]
 ·refine ⟨fun c hc => ?_, by omega, by omega, ?_, rfl⟩
  ·obtain ⟨i, hi, rfl⟩ := List.getElem_of_mem hc
   exact Nat.pos_of_ne_zero (h i hi)
  ·have : (digs 1).length ≤ 1 := digs_length_iff.2 (by rw [Nat.pow_one]; unfold Bs; decide)
   omega
 ·have hmem := List.getElem_mem h
  have hp := hP.pos _ hmem
  obtain ⟨g1, g2⟩ := hs _ hmem
  have hm : 0 < m := by have := hP.lo; have := hP.hi; omega
  have hik : (i + 1) * k ≤ cs.length * k := Nat.mul_le_mul_right _ h
  have hik2 : (i + 1) * k = i * k + k := Nat.succ_mul _ _
  have hsz := hP.sz
  have hJ := fun w => joinP (z, m) (cs[i]'h) hm hp 900 (Nat.le_refl _) (Nat.le_trans (dI_le (m := m) (by have := hP.lo; have := hP.hi; omega) hsz) (by omega)) (by show (digs m).length ≤ 900; omega) (by omega) (by omega) w
  have hd : cs.drop i = (cs[i]'h) :: cs.drop (i + 1) := List.drop_eq_getElem_cons h
  have he := hP.eq
  rw [hd, chinF] at he
  unfold joinV at hJ
  cases hj : joinB (z, m) (cs[i]'h) with
  | true =>
   rw [hj, if_pos rfl] at hJ he
   obtain ⟨b0, b1⟩ := crt_bounds (p := (z, m)) (q := cs[i]'h) hp hP.lo hP.hi
   refine .inl ⟨_, _, ⟨hP.pos, b0, b1, ?_, he⟩, hJ⟩
   rw [crtM_lcm]
   exact Nat.le_trans (lcm_digs (m := m) hm hp hsz g2) (by omega)
  | false =>
   rw [hj, if_neg (by simp)] at hJ he
   refine .inr ⟨?_, hJ⟩
   have hz := anyZ_false.2 hP.pos
   rw [show chV cs = (0, 0) from by unfold chV; rw [hz, if_neg (by simp), ← he]; rfl, show chE cs = 6 from by unfold chE; rw [hz, if_neg (by simp), ← he]; rfl, frV_zz]
 ·have he := hP.eq
  rw [hn, List.drop_length, chinF] at he
  have hz := anyZ_false.2 hP.pos
  rw [show chV cs = (z, m) from by unfold chV; rw [hz, if_neg (by simp), ← he]; rfl, show chE cs = 0 from by unfold chE; rw [hz, if_neg (by simp), ← he]; rfl]
end Go.Proofs.YtloipmieaefcpaaGreatDoor
namespace Go.Proofs.YtloipmieaefcpaaGreatDoor
open Go.RowKit
attribute [local irreducible] lo hs sm s64 c64 d64 b64 mh ml pd pc qd qc val hiB str cmpI srD lz nb isq zl zh zs fe
set_option maxHeartbeats 4000000 in
set_option maxRecDepth 100000 in
theorem rof_w (x y z : Int) (m : Nat) (HO : ∀ w, Calls Tryz.prog 11 #[.int .i64 x] w fun xe w' => xe = .returned (intV z) ∧ Below w.heap.size w w') (HN : ∀ w, Calls Tryz.prog 12 #[.int .u64 y] w fun xe w' => xe = .returned (natV m) ∧ Below w.heap.size w w') (hu : y % 18446744073709551616 = y) (w : World) :
  Calls Tryz.prog 24 #[.agg #[.int .i64 x, .int .u32 y]] w fun xe w' => xe = .returned (frV z m) ∧ Below w.heap.size w w' := by
 have hL0 : GL w w [] := GL.start w
 replace HO := Lib.hid HO
 replace HN := Lib.hid HN
 replace hL0 := ((hL0.new rfl [.int .i64 x, .int .u32 y] 56).new (K := w.heap.size + 1) (szA _ _) [.int .u64 0, .string ⟨#[]⟩, .bool false, .int .u64 0, .string ⟨#[]⟩] 58)
 generalize hweq : ((w.alloc (.cells #[.int .i64 x, .int .u32 y] 56)).alloc (.cells #[.int .u64 0, .string ⟨#[]⟩, .bool false, .int .u64 0, .string ⟨#[]⟩] 58)) = x1 at hL0
 go_enter Tryz.func24, Tryz.ntmps24
 go_upto_region 1 with fail
 clear hweq
 obtain ⟨α, iα, F, hF1, hF2⟩ := cls x1
 have hq0 := cls_box hF1 hL0 _ _ (List.mem_cons_of_mem _ List.mem_cons_self)
 simp only [cellsC, and_true, Nat.zero_add, Nat.reduceAdd] at hq0
 refine region_qs 8 (C := fun w' => ∃ x, w' = F x) (by kernel_rfl) (by kernel_rfl) (cls_drew hF2) ?_
 simp only [List.take_succ_cons, List.take_zero, List.drop_succ_cons, List.drop_zero, List.take_nil, List.drop_nil]
 repeat (go_big_quiet_step (first | fail | (go_at_call 11; with_reducible exact cls_call hF1 hF2 HO.out _) | (go_at_call 12; with_reducible exact cls_call hF1 hF2 HN.out _)))
 refine wpQuiet_nil ?_
 rintro wq ⟨xq, rfl⟩
 replace hL0 := hL0.call (hF1 xq)
 clear  hq0 hF2
 generalize F xq = x2 at hL0 ⊢
 clear hF1 xq iα F α
 have hA := hL0.fc
 simp only [fcG, cellsF, neK, and_true, ne_eq, Nat.zero_add, Nat.reduceAdd] at hA
 have hP := hL0.put 0 (w.heap.size + 1) _ rfl [.int .u64 ((zl z : Nat) : Int), .string (zh z), .bool (zs z), .int .u64 ((lo m : Nat) : Int), .string (hs m)] rfl
 simp only [setAll, List.set_cons_zero, List.set_cons_succ] at hP
 generalize hput1 : (((((x2.setCell ⟨w.heap.size + 1, 0, none⟩ (.int .u64 ((zl z : Nat) : Int))).setCell ⟨w.heap.size + 1, 1, none⟩ (.string (zh z))).setCell ⟨w.heap.size + 1, 2, none⟩ (.bool (zs z))).setCell ⟨w.heap.size + 1, 3, none⟩ (.int .u64 ((lo m : Nat) : Int))).setCell ⟨w.heap.size + 1, 4, none⟩ (.string (hs m))) = x3 at hP
 have hB1 := hP.fc
 simp only [fcG, cellsF, neK, and_true, ne_eq, Nat.zero_add, Nat.reduceAdd] at hB1
 replace hL0 := hP
 go_wp2_with fail
 exact bodyPost_ret (v := .agg #[.int .u64 ((zl z : Nat) : Int), .string (zh z), .bool (zs z), .int .u64 ((lo m : Nat) : Int), .string (hs m)]) (by simp [results, Tryz.results24, go_sem, hB1]) rfl ⟨rfl, hL0.bl⟩
/-- Plain congruences in memory. -/
structure PRs (w : World) (a : Addr) (ps : List (Int × Int)) : Prop where
 c0 : ∀ (i : Nat) (h : i < ps.length), w.cell? (a.add (i * 2)) = some (.int .i64 ps[i].1)
 c1 : ∀ (i : Nat) (h : i < ps.length), w.cell? ((a.add (i * 2)).add 1) = some (.int .u32 ps[i].2)
 blk : a.block < w.heap.size
theorem add_blkP (a : Addr) (i : Nat) : (a.add i).block = a.block := by unfold Addr.add; split <;> rfl
theorem add_oneP (a : Addr) : a.add 1 = ⟨a.block, a.off + 1, none⟩ := by unfold Addr.add; simp
theorem PRs.below {w w' : World} {a : Addr} {ps : List (Int × Int)} (h : PRs w a ps) (hb : Below w.heap.size w w') : PRs w' a ps :=
 ⟨fun i hi => (hb.cell (p := a.add (i * 2)) (by rw [add_blkP]; exact h.blk)).trans (h.c0 i hi), fun i hi => (hb.cell (p := (a.add (i * 2)).add 1) (by rw [add_blkP, add_blkP]; exact h.blk)).trans (h.c1 i hi), Nat.lt_of_lt_of_le h.blk hb.size⟩
def SlP (w : World) (v : Value) (ps : List (Int × Int)) : Prop := ∃ ao n c, v = .slice ao n c ∧ ps.length = n ∧ (0 < n → ∃ a, ao = some a ∧ PRs w a ps)
theorem slp_nil (w : World) : SlP w (.slice none 0 0) [] := ⟨none, 0, 0, rfl, rfl, fun h => by omega⟩
theorem slp_two {w : World} {g : Nat} {x y z t : Int} (h : Hd w g [.int .i64 x, .int .u32 y, .int .i64 z, .int .u32 t]) : SlP w (.slice (some ⟨g, 0, none⟩) 2 2) [(x, y), (z, t)] := by
 refine ⟨_, _, _, rfl, rfl, fun _ => ⟨_, rfl, fun i hi => ?_, fun i hi => ?_, h.lt⟩⟩
 ·obtain rfl | rfl : i = 0 ∨ i = 1 := by simp at hi; omega
  ·exact h.cell 0 (by simp)
  ·rw [add0P]; exact h.cell 2 (by simp)
 ·obtain rfl | rfl : i = 0 ∨ i = 1 := by simp at hi; omega
  ·exact h.cell 1 (by simp)
  ·rw [add0P, add_oneP]; exact h.cell 3 (by simp)
set_option maxHeartbeats 16000000 in
set_option maxRecDepth 100000 in
theorem ljoin_none (ps : List (Int × Int)) (qs : List (Int × Nat)) (ao : Option Addr) (n c : Nat) (cz ce : Int) (cm : Nat) (hlen : ps.length = n) (hlq : qs.length = n) (hnb : n ≤ 1000)
  (HQ : ∀ (i : Nat) (h : i < ps.length) (h' : i < qs.length) (w : World), Calls Tryz.prog 24 #[.agg #[.int .i64 ps[i].1, .int .u32 ps[i].2]] w fun xe w' => xe = .returned (frV qs[i].1 qs[i].2) ∧ Below w.heap.size w w')
  (HC : ∀ (v : Value) (w : World), SlR w v qs → Calls Tryz.prog 25 #[v] w fun xe w' => xe = .returned (.tuple #[frV cz cm, .int .i64 ce]) ∧ Below w.heap.size w w') (he : (ce != 0) = true) (w : World) (hq : 0 < n → ∃ a, ao = some a ∧ PRs w a ps) :
  Calls Tryz.prog 45 #[.slice ao n c] w fun xe w' => xe = .returned (.string (ByteArray.mk #[110, 111, 110, 101])) ∧ Below w.heap.size w w' := by
 replace hq := Lib.hid hq
 replace hlen := Lib.hid hlen
 replace hlq := Lib.hid hlq
 replace hnb := Lib.hid hnb
 replace HQ := Lib.hid HQ
 replace HC := Lib.hid HC
 obtain ⟨iF, hi, hz0, hz1, hz2⟩ := info_parts infoS
 replace hi := Lib.hid hi
 replace hz0 := Lib.hid hz0
 replace hz1 := Lib.hid hz1
 replace hz2 := Lib.hid hz2
 have hL0 : GL w w [] := GL.start w
 go_enter Tryz.func45, Tryz.ntmps45
 go_wp2_with fail
 go_loopw [3, 4] (fun v z wr => ∃ (i : Nat) (zi : Int), i ≤ n ∧ z = .int .i64 zi ∧ zi = (i : Int) ∧ w.heap.size ≤ wr.heap.size ∧ wr.ownsRow w.heap.size 58 5 v i (rsCs (qs.take i)) ∧ GL w wr []) (fun _ z _ => n - (intOf z).toNat)
 case atStart => exact ⟨0, _, Nat.zero_le _, rfl, rfl, hL0.bl.size, by rw [List.take_zero, rsCs_nil]; exact World.ownsRow_nil _ _ _ _, hL0⟩
 case round =>
  clear hL0
  obtain ⟨i, zi, hi1, rfl, hzi, hEw, hown, hL0⟩ := hrel
  rcases Nat.lt_or_ge i n with hin | hin
  ·subst hzi
   obtain ⟨q9, rfl, hqa⟩ := hq.out (by omega)
   have hln := hlen.out
   have hl2 := hlq.out
   have k1 : (i : Int) < (n : Int) := by omega
   have k0 : (0 : Int) ≤ (i : Int) := Int.natCast_nonneg _
   have kb : (i : Int) ≤ 1000000 := by have := hnb.out; omega
   have hQw := hqa.below hL0.bl
   have c0 := hQw.c0 i (by omega)
   have c1 := hQw.c1 i (by omega)
   rw [add_oneP] at c1
   obtain ⟨x, hx⟩ : ∃ x, x = (ps[i]'(by omega)).1 := ⟨_, rfl⟩
   obtain ⟨y, hy⟩ : ∃ y, y = (ps[i]'(by omega)).2 := ⟨_, rfl⟩
   rw [← hx] at c0
   rw [← hy] at c1
   have HQi := Lib.hid (HQ.out i (by omega) (by omega))
   rw [← hx, ← hy] at HQi
   obtain ⟨r, hr⟩ : ∃ r, r = qs[i]'(by omega) := ⟨_, rfl⟩
   rw [← hr] at HQi
   have htk := Lib.hid (show qs.take (i + 1) = qs.take i ++ [r] by rw [List.take_succ_eq_append_getElem (by omega), hr])
   clear hqa hQw hx hy hr
   obtain ⟨rz, rm⟩ := r
   replace hown := Lib.hid hown
   replace hEw := Lib.hid hEw
   go_wp2_with fail
   with_reducible refine Calls.mono (HQi.out _) ?_
   rintro e x92 ⟨rfl, hb⟩
   have hown2 := ownR_below hown.out hb
   replace hL0 := hL0.call hb
   have hE2 : w.heap.size ≤ x92.heap.size := Nat.le_trans hEw.out hb.size
   clear hb hown hEw c0 c1
   replace hL0 := (hL0.new rfl [.int .u64 ((zl rz : Nat) : Int), .string (zh rz), .bool (zs rz), .int .u64 ((lo rm : Nat) : Int), .string (hs rm)] 58)
   generalize hweq : (x92.alloc (.cells #[.int .u64 ((zl rz : Nat) : Int), .string (zh rz), .bool (zs rz), .int .u64 ((lo rm : Nat) : Int), .string (hs rm)] 58)) = x93 at hL0
   have hown3 := ownR_below hown2 (show Below x92.heap.size x92 x93 by rw [← hweq]; exact (Below.refl _ _).alloc (Nat.le_refl _) _)
   have hE3 : w.heap.size ≤ x93.heap.size := Nat.le_trans hE2 (by rw [← hweq, World.size_alloc]; omega)
   clear hown2 hE2
   have hnw := hd_newsP (hL0.get _ _ List.mem_cons_self)
   replace hnw := Lib.hid hnw
   replace hown3 := Lib.hid hown3
   replace hE3 := Lib.hid hE3
   have hne : ∀ u ∈ ([.int .u64 ((zl rz : Nat) : Int), .string (zh rz), .bool (zs rz), .int .u64 ((lo rm : Nat) : Int), .string (hs rm)] : List Value), u.oneCell' = true := rsC_one (rz, rm)
   replace hne := Lib.hid hne
   go_wp2_with (at_builtin; refine wpList_append_own _ rfl _ _ 52 rfl w.heap.size 58 iF (.agg #[.int .u64 0, .string ⟨#[]⟩, .bool false, .int .u64 0, .string ⟨#[]⟩]) 5 56 Tryz.underlying52 hi.out hz0.out hz1.out hz2.out rfl (by decide) _ _ _ rfl hown3.out ⟨x92.heap.size, 0, none⟩ 1 1 [.int .u64 ((zl rz : Nat) : Int), .string (zh rz), .bool (zs rz), .int .u64 ((lo rm : Nat) : Int), .string (hs rm)] rfl rfl hnw.out hne.out (by unfold maxLen; omega) (by omega) hE3.out ?_)
   intro v' w1 hown' hgrow _
   have hown4 : w1.ownsRow w.heap.size 58 5 v' (i + 1) (rsCs (qs.take (i + 1))) := by rw [htk.out, rsCs_snoc]; exact hown'
   have hb4 : Below w.heap.size x93 w1 := (Below.refl w.heap.size x93).grown hgrow hE3.out (fun j hj => (hown3.out.lt j hj).1)
   replace hL0 := (hL0.weak (List.Sublist.cons _ (List.Sublist.refl _))).belowR hb4 (fun p hp => by cases hp) (Nat.le_refl _)
   have hE4 : w.heap.size ≤ w1.heap.size := Nat.le_trans hE3.out hgrow.size
   clear hown' hgrow hb4 hown3 hE3 hnw hne hweq
   replace hown4 := Lib.hid hown4
   replace hE4 := Lib.hid hE4
   go_wp2_with fail
   go_roundw
   case rel => exact ⟨i + 1, _, by omega, by first | rfl | go_num, by omega, hE4.out, hown4.out, hL0⟩
   case measure => simp [intOf] <;> omega
  ·obtain rfl : i = n := by omega
   subst hzi
   have k1 : ¬ (i : Int) < (i : Int) := by omega
   rw [List.take_of_length_le (Nat.le_of_eq hlq.out)] at hown
   have hSl := ownR_slr hown hlq.out.symm
   obtain ⟨sa, sn, sc, rfl, -⟩ := slr_form hSl
   replace hSl := Lib.hid hSl
   clear hown hEw hi1 hin
   go_wp2_with fail
   with_reducible refine Calls.mono (HC.out _ _ hSl.out) ?_
   rintro e x101 ⟨rfl, hb⟩
   replace hL0 := hL0.call hb
   clear hb
   replace hL0 := (hL0.new rfl [.int .u64 ((zl cz : Nat) : Int), .string (zh cz), .bool (zs cz), .int .u64 ((lo cm : Nat) : Int), .string (hs cm)] 58)
   generalize hweq : (x101.alloc (.cells #[.int .u64 ((zl cz : Nat) : Int), .string (zh cz), .bool (zs cz), .int .u64 ((lo cm : Nat) : Int), .string (hs cm)] 58)) = x102 at hL0
   go_wp2_with fail
   exact bodyPost_ret (v := .string (ByteArray.mk #[110, 111, 110, 101])) (by simp [results, Tryz.results45, go_sem]) rfl ⟨rfl, hL0.bl⟩
set_option maxHeartbeats 16000000 in
set_option maxRecDepth 100000 in
theorem ljoin_ok (ps : List (Int × Int)) (qs : List (Int × Nat)) (ao : Option Addr) (n c : Nat) (cz ce : Int) (cm : Nat) (s t : ByteArray) (hlen : ps.length = n) (hlq : qs.length = n) (hnb : n ≤ 1000)
  (HQ : ∀ (i : Nat) (h : i < ps.length) (h' : i < qs.length) (w : World), Calls Tryz.prog 24 #[.agg #[.int .i64 ps[i].1, .int .u32 ps[i].2]] w fun xe w' => xe = .returned (frV qs[i].1 qs[i].2) ∧ Below w.heap.size w w')
  (HC : ∀ (v : Value) (w : World), SlR w v qs → Calls Tryz.prog 25 #[v] w fun xe w' => xe = .returned (.tuple #[frV cz cm, .int .i64 ce]) ∧ Below w.heap.size w w') (HS : ∀ w, Tab w → Calls Tryz.prog 74 #[intV cz] w fun xe w' => xe = .returned (.string s) ∧ Below w.heap.size w w') (HT : ∀ w, Tab w → Calls Tryz.prog 75 #[natV cm] w fun xe w' => xe = .returned (.string t) ∧ Below w.heap.size w w') (he : (ce != 0) = false) (h1 : ((s.size : Nat) : Int) ≤ 20000000) (h2 : ((t.size : Nat) : Int) ≤ 20000000) (w : World) (htab : Tab w) (hq : 0 < n → ∃ a, ao = some a ∧ PRs w a ps) :
  Calls Tryz.prog 45 #[.slice ao n c] w fun xe w' => xe = .returned (.string ((s ++ (ByteArray.mk #[32, 98, 121, 32])) ++ t)) ∧ Below w.heap.size w w' := by
 replace hq := Lib.hid hq
 replace hlen := Lib.hid hlen
 replace hlq := Lib.hid hlq
 replace hnb := Lib.hid hnb
 replace HQ := Lib.hid HQ
 replace HC := Lib.hid HC
 obtain ⟨iF, hi, hz0, hz1, hz2⟩ := info_parts infoS
 replace hi := Lib.hid hi
 replace hz0 := Lib.hid hz0
 replace hz1 := Lib.hid hz1
 replace hz2 := Lib.hid hz2
 replace HS := Lib.hid HS
 replace HT := Lib.hid HT
 have hL0 : GL w w [] := GL.start w
 go_enter Tryz.func45, Tryz.ntmps45
 go_wp2_with fail
 go_loopw [3, 4] (fun v z wr => ∃ (i : Nat) (zi : Int), i ≤ n ∧ z = .int .i64 zi ∧ zi = (i : Int) ∧ w.heap.size ≤ wr.heap.size ∧ wr.ownsRow w.heap.size 58 5 v i (rsCs (qs.take i)) ∧ GL w wr []) (fun _ z _ => n - (intOf z).toNat)
 case atStart => exact ⟨0, _, Nat.zero_le _, rfl, rfl, hL0.bl.size, by rw [List.take_zero, rsCs_nil]; exact World.ownsRow_nil _ _ _ _, hL0⟩
 case round =>
  clear hL0
  obtain ⟨i, zi, hi1, rfl, hzi, hEw, hown, hL0⟩ := hrel
  rcases Nat.lt_or_ge i n with hin | hin
  ·subst hzi
   obtain ⟨q9, rfl, hqa⟩ := hq.out (by omega)
   have hln := hlen.out
   have hl2 := hlq.out
   have k1 : (i : Int) < (n : Int) := by omega
   have k0 : (0 : Int) ≤ (i : Int) := Int.natCast_nonneg _
   have kb : (i : Int) ≤ 1000000 := by have := hnb.out; omega
   have hQw := hqa.below hL0.bl
   have c0 := hQw.c0 i (by omega)
   have c1 := hQw.c1 i (by omega)
   rw [add_oneP] at c1
   obtain ⟨x, hx⟩ : ∃ x, x = (ps[i]'(by omega)).1 := ⟨_, rfl⟩
   obtain ⟨y, hy⟩ : ∃ y, y = (ps[i]'(by omega)).2 := ⟨_, rfl⟩
   rw [← hx] at c0
   rw [← hy] at c1
   have HQi := Lib.hid (HQ.out i (by omega) (by omega))
   rw [← hx, ← hy] at HQi
   obtain ⟨r, hr⟩ : ∃ r, r = qs[i]'(by omega) := ⟨_, rfl⟩
   rw [← hr] at HQi
   have htk := Lib.hid (show qs.take (i + 1) = qs.take i ++ [r] by rw [List.take_succ_eq_append_getElem (by omega), hr])
   clear hqa hQw hx hy hr
   obtain ⟨rz, rm⟩ := r
   replace hown := Lib.hid hown
   replace hEw := Lib.hid hEw
   go_wp2_with fail
   with_reducible refine Calls.mono (HQi.out _) ?_
   rintro e x92 ⟨rfl, hb⟩
   have hown2 := ownR_below hown.out hb
   replace hL0 := hL0.call hb
   have hE2 : w.heap.size ≤ x92.heap.size := Nat.le_trans hEw.out hb.size
   clear hb hown hEw c0 c1
   replace hL0 := (hL0.new rfl [.int .u64 ((zl rz : Nat) : Int), .string (zh rz), .bool (zs rz), .int .u64 ((lo rm : Nat) : Int), .string (hs rm)] 58)
   generalize hweq : (x92.alloc (.cells #[.int .u64 ((zl rz : Nat) : Int), .string (zh rz), .bool (zs rz), .int .u64 ((lo rm : Nat) : Int), .string (hs rm)] 58)) = x93 at hL0
   have hown3 := ownR_below hown2 (show Below x92.heap.size x92 x93 by rw [← hweq]; exact (Below.refl _ _).alloc (Nat.le_refl _) _)
   have hE3 : w.heap.size ≤ x93.heap.size := Nat.le_trans hE2 (by rw [← hweq, World.size_alloc]; omega)
   clear hown2 hE2
   have hnw := hd_newsP (hL0.get _ _ List.mem_cons_self)
   replace hnw := Lib.hid hnw
   replace hown3 := Lib.hid hown3
   replace hE3 := Lib.hid hE3
   have hne : ∀ u ∈ ([.int .u64 ((zl rz : Nat) : Int), .string (zh rz), .bool (zs rz), .int .u64 ((lo rm : Nat) : Int), .string (hs rm)] : List Value), u.oneCell' = true := rsC_one (rz, rm)
   replace hne := Lib.hid hne
   go_wp2_with (at_builtin; refine wpList_append_own _ rfl _ _ 52 rfl w.heap.size 58 iF (.agg #[.int .u64 0, .string ⟨#[]⟩, .bool false, .int .u64 0, .string ⟨#[]⟩]) 5 56 Tryz.underlying52 hi.out hz0.out hz1.out hz2.out rfl (by decide) _ _ _ rfl hown3.out ⟨x92.heap.size, 0, none⟩ 1 1 [.int .u64 ((zl rz : Nat) : Int), .string (zh rz), .bool (zs rz), .int .u64 ((lo rm : Nat) : Int), .string (hs rm)] rfl rfl hnw.out hne.out (by unfold maxLen; omega) (by omega) hE3.out ?_)
   intro v' w1 hown' hgrow _
   have hown4 : w1.ownsRow w.heap.size 58 5 v' (i + 1) (rsCs (qs.take (i + 1))) := by rw [htk.out, rsCs_snoc]; exact hown'
   have hb4 : Below w.heap.size x93 w1 := (Below.refl w.heap.size x93).grown hgrow hE3.out (fun j hj => (hown3.out.lt j hj).1)
   replace hL0 := (hL0.weak (List.Sublist.cons _ (List.Sublist.refl _))).belowR hb4 (fun p hp => by cases hp) (Nat.le_refl _)
   have hE4 : w.heap.size ≤ w1.heap.size := Nat.le_trans hE3.out hgrow.size
   clear hown' hgrow hb4 hown3 hE3 hnw hne hweq
   replace hown4 := Lib.hid hown4
   replace hE4 := Lib.hid hE4
   go_wp2_with fail
   go_roundw
   case rel => exact ⟨i + 1, _, by omega, by first | rfl | go_num, by omega, hE4.out, hown4.out, hL0⟩
   case measure => simp [intOf] <;> omega
  ·obtain rfl : i = n := by omega
   subst hzi
   have k1 : ¬ (i : Int) < (i : Int) := by omega
   rw [List.take_of_length_le (Nat.le_of_eq hlq.out)] at hown
   have hSl := ownR_slr hown hlq.out.symm
   obtain ⟨sa, sn, sc, rfl, -⟩ := slr_form hSl
   replace hSl := Lib.hid hSl
   clear hown hEw hi1 hin
   go_wp2_with fail
   with_reducible refine Calls.mono (HC.out _ _ hSl.out) ?_
   rintro e x101 ⟨rfl, hb⟩
   replace hL0 := hL0.call hb
   clear hb
   replace hL0 := (hL0.new rfl [.int .u64 ((zl cz : Nat) : Int), .string (zh cz), .bool (zs cz), .int .u64 ((lo cm : Nat) : Int), .string (hs cm)] 58)
   generalize hweq : (x101.alloc (.cells #[.int .u64 ((zl cz : Nat) : Int), .string (zh cz), .bool (zs cz), .int .u64 ((lo cm : Nat) : Int), .string (hs cm)] 58)) = x102 at hL0
   go_upto_region 9 with fail
   have ht := htab.below hL0.bl
   clear hweq
   obtain ⟨α, iα, F, hF1, hF2⟩ := cls x102
   have hq0 := cls_box hF1 hL0 _ _ List.mem_cons_self
   simp only [cellsC, and_true, Nat.zero_add, Nat.reduceAdd] at hq0
   refine region_qs 9 (C := fun w' => ∃ x, w' = F x) (by kernel_rfl) (by kernel_rfl) (cls_drew hF2) ?_
   simp only [List.take_succ_cons, List.take_zero, List.drop_succ_cons, List.drop_zero, List.take_nil, List.drop_nil]
   repeat (go_big_quiet_step (first | fail | (go_at_call 74; with_reducible exact cls_callT hF1 hF2 ht HS.out _) | (go_at_call 75; with_reducible exact cls_callT hF1 hF2 ht HT.out _)))
   refine wpQuiet_nil ?_
   rintro wq ⟨xq, rfl⟩
   replace hL0 := hL0.call (hF1 xq)
   clear  hq0 hF2
   generalize F xq = x103 at hL0 ⊢
   clear hF1 xq iα F α
   clear ht
   go_wp2_with fail
   exact bodyPost_ret (v := .string ((s ++ (ByteArray.mk #[32, 98, 121, 32])) ++ t)) (by simp [results, Tryz.results45, go_sem]) rfl ⟨rfl, hL0.bl⟩
set_option maxHeartbeats 16000000 in
set_option maxRecDepth 100000 in
theorem pworks_w (five zo a b c : Int) (nine eight i j k : Nat)
  (B0 : ∀ w, Tab w → Calls Tryz.prog 44 #[.int .i64 5, .int .u64 9] w fun xe w' => xe = .returned (.string (ByteArray.mk #[49, 47, 50])) ∧ Below w.heap.size w w')
  (B1 : ∀ w, Tab w → Calls Tryz.prog 44 #[.int .i64 (-4), .int .u64 9] w fun xe w' => xe = .returned (.string (ByteArray.mk #[49, 47, 50])) ∧ Below w.heap.size w w')
  (B2 : ∀ w, Tab w → Calls Tryz.prog 44 #[.int .i64 3, .int .u64 9] w fun xe w' => xe = .returned (.string (ByteArray.mk #[110, 111, 110, 101])) ∧ Below w.heap.size w w')
  (B3 : ∀ w, Tab w → Calls Tryz.prog 44 #[.int .i64 0, .int .u64 3] w fun xe w' => xe = .returned (.string (ByteArray.mk #[48])) ∧ Below w.heap.size w w')
  (B4 : ∀ w, Tab w → Calls Tryz.prog 44 #[.int .i64 0, .int .u64 2] w fun xe w' => xe = .returned (.string (ByteArray.mk #[110, 111, 110, 101])) ∧ Below w.heap.size w w')
  (B5 : ∀ w, Tab w → Calls Tryz.prog 44 #[.int .i64 10, .int .u64 101] w fun xe w' => xe = .returned (.string (ByteArray.mk #[110, 111, 110, 101])) ∧ Below w.heap.size w w')
  (B6 : ∀ w, Tab w → Calls Tryz.prog 44 #[.int .i64 67, .int .u64 101] w fun xe w' => xe = .returned (.string (ByteArray.mk #[45, 49, 47, 51])) ∧ Below w.heap.size w w')
  (B7 : ∀ w, Tab w → Calls Tryz.prog 44 #[.int .i64 34, .int .u64 101] w fun xe w' => xe = .returned (.string (ByteArray.mk #[49, 47, 51])) ∧ Below w.heap.size w w')
  (B8 : ∀ w, Tab w → Calls Tryz.prog 44 #[.int .i64 20, .int .u64 101] w fun xe w' => xe = .returned (.string (ByteArray.mk #[45, 49, 47, 53])) ∧ Below w.heap.size w w')
  (HO5 : ∀ w, Calls Tryz.prog 11 #[.int .i64 5] w fun xe w' => xe = .returned (intV five) ∧ Below w.heap.size w w')
  (HO9 : ∀ w, Calls Tryz.prog 12 #[.int .u64 9] w fun xe w' => xe = .returned (natV nine) ∧ Below w.heap.size w w')
  (HO0 : ∀ w, Calls Tryz.prog 11 #[.int .i64 0] w fun xe w' => xe = .returned (intV zo) ∧ Below w.heap.size w w')
  (HO8 : ∀ w, Calls Tryz.prog 12 #[.int .u64 8] w fun xe w' => xe = .returned (natV eight) ∧ Below w.heap.size w w')
  (F12 : ∀ w, Calls Tryz.prog 14 #[.int .i64 1, .int .i64 2] w fun xe w' => xe = .returned (frV a i) ∧ Below w.heap.size w w')
  (F13 : ∀ w, Calls Tryz.prog 14 #[.int .i64 1, .int .i64 3] w fun xe w' => xe = .returned (frV b j) ∧ Below w.heap.size w w')
  (F21 : ∀ w, Calls Tryz.prog 14 #[.int .i64 2, .int .i64 1] w fun xe w' => xe = .returned (frV c k) ∧ Below w.heap.size w w')
  (G1 : ∀ w, Calls Tryz.prog 20 #[frV a i, intV five, natV nine] w fun xe w' => xe = .returned (.bool true) ∧ Below w.heap.size w w')
  (G2 : ∀ w, Calls Tryz.prog 20 #[frV b j, intV zo, natV nine] w fun xe w' => xe = .returned (.bool false) ∧ Below w.heap.size w w')
  (G3 : ∀ w, Calls Tryz.prog 22 #[frV c k, natV nine] w fun xe w' => xe = .returned (.bool true) ∧ Below w.heap.size w w')
  (G4 : ∀ w, Calls Tryz.prog 22 #[frV c k, natV eight] w fun xe w' => xe = .returned (.bool false) ∧ Below w.heap.size w w')
  (J0 : ∀ (v : Value) (w : World), Tab w → SlP w v [(2, 3), (3, 5)] → Calls Tryz.prog 45 #[v] w fun xe w' => xe = .returned (.string (ByteArray.mk #[56, 32, 98, 121, 32, 49, 53])) ∧ Below w.heap.size w w')
  (J1 : ∀ (v : Value) (w : World), Tab w → SlP w v [(1, 4), (3, 6)] → Calls Tryz.prog 45 #[v] w fun xe w' => xe = .returned (.string (ByteArray.mk #[57, 32, 98, 121, 32, 49, 50])) ∧ Below w.heap.size w w')
  (J2 : ∀ (v : Value) (w : World), Tab w → SlP w v [(1, 4), (2, 6)] → Calls Tryz.prog 45 #[v] w fun xe w' => xe = .returned (.string (ByteArray.mk #[110, 111, 110, 101])) ∧ Below w.heap.size w w')
  (J3 : ∀ (v : Value) (w : World), Tab w → SlP w v [] → Calls Tryz.prog 45 #[v] w fun xe w' => xe = .returned (.string (ByteArray.mk #[48, 32, 98, 121, 32, 49])) ∧ Below w.heap.size w w') (w : World) (htab : Tab w) :
  Calls Tryz.prog 15 #[] w fun xe w' => xe = .returned (.bool true) ∧ Below w.heap.size w w' := by
 replace B0 := Lib.hid B0
 replace B1 := Lib.hid B1
 replace B2 := Lib.hid B2
 replace B3 := Lib.hid B3
 replace B4 := Lib.hid B4
 replace B5 := Lib.hid B5
 replace B6 := Lib.hid B6
 replace B7 := Lib.hid B7
 replace B8 := Lib.hid B8
 replace HO5 := Lib.hid HO5
 replace HO9 := Lib.hid HO9
 replace HO0 := Lib.hid HO0
 replace HO8 := Lib.hid HO8
 replace F12 := Lib.hid F12
 replace F13 := Lib.hid F13
 replace F21 := Lib.hid F21
 replace G1 := Lib.hid G1
 replace G2 := Lib.hid G2
 replace G3 := Lib.hid G3
 replace G4 := Lib.hid G4
 replace J0 := Lib.hid J0
 replace J1 := Lib.hid J1
 replace J2 := Lib.hid J2
 replace J3 := Lib.hid J3
 have hL0 : GL w w [] := GL.start w
 go_enter Tryz.func15, Tryz.ntmps15
 go_wp2_with fail
 with_reducible refine Calls.mono (B0.out _ (htab.below hL0.bl)) ?_
 rintro e x1 ⟨rfl, hb⟩
 replace hL0 := hL0.call hb
 clear hb
 go_wp2_with fail
 with_reducible refine Calls.mono (B1.out _ (htab.below hL0.bl)) ?_
 rintro e x2 ⟨rfl, hb⟩
 replace hL0 := hL0.call hb
 clear hb
 go_wp2_with fail
 with_reducible refine Calls.mono (B2.out _ (htab.below hL0.bl)) ?_
 rintro e x3 ⟨rfl, hb⟩
 replace hL0 := hL0.call hb
 clear hb
 go_wp2_with fail
 with_reducible refine Calls.mono (B3.out _ (htab.below hL0.bl)) ?_
 rintro e x4 ⟨rfl, hb⟩
 replace hL0 := hL0.call hb
 clear hb
 go_wp2_with fail
 with_reducible refine Calls.mono (B4.out _ (htab.below hL0.bl)) ?_
 rintro e x5 ⟨rfl, hb⟩
 replace hL0 := hL0.call hb
 clear hb
 go_wp2_with fail
 with_reducible refine Calls.mono (B5.out _ (htab.below hL0.bl)) ?_
 rintro e x6 ⟨rfl, hb⟩
 replace hL0 := hL0.call hb
 clear hb
 go_wp2_with fail
 with_reducible refine Calls.mono (B6.out _ (htab.below hL0.bl)) ?_
 rintro e x7 ⟨rfl, hb⟩
 replace hL0 := hL0.call hb
 clear hb
 go_wp2_with fail
 with_reducible refine Calls.mono (B7.out _ (htab.below hL0.bl)) ?_
 rintro e x8 ⟨rfl, hb⟩
 replace hL0 := hL0.call hb
 clear hb
 go_wp2_with fail
 with_reducible refine Calls.mono (B8.out _ (htab.below hL0.bl)) ?_
 rintro e x9 ⟨rfl, hb⟩
 replace hL0 := hL0.call hb
 clear hb
 go_wp2_with fail
 with_reducible refine Calls.mono (HO5.out _) ?_
 rintro e x10 ⟨rfl, hb⟩
 replace hL0 := hL0.call hb
 clear hb
 go_wp2_with fail
 with_reducible refine Calls.mono (HO9.out _) ?_
 rintro e x11 ⟨rfl, hb⟩
 replace hL0 := hL0.call hb
 clear hb
 go_wp2_with fail
 with_reducible refine Calls.mono (HO0.out _) ?_
 rintro e x12 ⟨rfl, hb⟩
 replace hL0 := hL0.call hb
 clear hb
 replace hL0 := (((hL0.new rfl [.int .u64 ((zl five : Nat) : Int), .string (zh five), .bool (zs five)] 28).new (K := x12.heap.size + 1) (szA _ _) [.int .u64 ((lo nine : Nat) : Int), .string (hs nine)] 26).new (K := x12.heap.size + 1 + 1) (by simp only [World.size_alloc]) [.int .u64 ((zl zo : Nat) : Int), .string (zh zo), .bool (zs zo)] 28)
 generalize hweq : (((x12.alloc (.cells #[.int .u64 ((zl five : Nat) : Int), .string (zh five), .bool (zs five)] 28)).alloc (.cells #[.int .u64 ((lo nine : Nat) : Int), .string (hs nine)] 26)).alloc (.cells #[.int .u64 ((zl zo : Nat) : Int), .string (zh zo), .bool (zs zo)] 28)) = x13 at hL0
 go_upto_region 4 with fail
 clear hweq
 obtain ⟨α, iα, F, hF1, hF2⟩ := cls x13
 have hq0 := cls_box hF1 hL0 _ _ List.mem_cons_self
 simp only [cellsC, and_true, Nat.zero_add, Nat.reduceAdd] at hq0
 have hq1 := cls_box hF1 hL0 _ _ (List.mem_cons_of_mem _ List.mem_cons_self)
 simp only [cellsC, and_true, Nat.zero_add, Nat.reduceAdd] at hq1
 have hq2 := cls_box hF1 hL0 _ _ (List.mem_cons_of_mem _ (List.mem_cons_of_mem _ List.mem_cons_self))
 simp only [cellsC, and_true, Nat.zero_add, Nat.reduceAdd] at hq2
 refine region_qs 22 (C := fun w' => ∃ x, w' = F x) (by kernel_rfl) (by kernel_rfl) (cls_drew hF2) ?_
 simp only [List.take_succ_cons, List.take_zero, List.drop_succ_cons, List.drop_zero, List.take_nil, List.drop_nil]
 repeat (go_big_quiet_step (first | fail | (go_at_call 14; with_reducible exact cls_call hF1 hF2 F12.out _) | (go_at_call 20; with_reducible exact cls_call hF1 hF2 G1.out _) | (go_at_call 14; with_reducible exact cls_call hF1 hF2 F13.out _) | (go_at_call 20; with_reducible exact cls_call hF1 hF2 G2.out _) | (go_at_call 14; with_reducible exact cls_call hF1 hF2 F21.out _) | (go_at_call 22; with_reducible exact cls_call hF1 hF2 G3.out _) | (go_at_call 12; with_reducible exact cls_call hF1 hF2 HO8.out _) | (go_at_call 22; with_reducible exact cls_call hF1 hF2 G4.out _)))
 refine wpQuiet_nil ?_
 rintro wq ⟨xq, rfl⟩
 replace hL0 := hL0.call (hF1 xq)
 clear  hq0 hq1 hq2 hF2
 generalize F xq = x14 at hL0 ⊢
 clear hF1 xq iα F α
 replace hL0 := (hL0.new rfl [.int .i64 2, .int .u32 3, .int .i64 3, .int .u32 5] 56)
 generalize hweq : (x14.alloc (.cells #[.int .i64 2, .int .u32 3, .int .i64 3, .int .u32 5] 56)) = x15 at hL0
 go_wp2_with fail
 with_reducible refine Calls.mono (J0.out _ _ (htab.below hL0.bl) (slp_two (hL0.get _ _ List.mem_cons_self))) ?_
 rintro e x16 ⟨rfl, hb⟩
 replace hL0 := hL0.call hb
 clear hb hweq
 replace hL0 := (hL0.new rfl [.int .i64 1, .int .u32 4, .int .i64 3, .int .u32 6] 56)
 generalize hweq : (x16.alloc (.cells #[.int .i64 1, .int .u32 4, .int .i64 3, .int .u32 6] 56)) = x17 at hL0
 go_wp2_with fail
 with_reducible refine Calls.mono (J1.out _ _ (htab.below hL0.bl) (slp_two (hL0.get _ _ List.mem_cons_self))) ?_
 rintro e x18 ⟨rfl, hb⟩
 replace hL0 := hL0.call hb
 clear hb hweq
 replace hL0 := (hL0.new rfl [.int .i64 1, .int .u32 4, .int .i64 2, .int .u32 6] 56)
 generalize hweq : (x18.alloc (.cells #[.int .i64 1, .int .u32 4, .int .i64 2, .int .u32 6] 56)) = x19 at hL0
 go_wp2_with fail
 with_reducible refine Calls.mono (J2.out _ _ (htab.below hL0.bl) (slp_two (hL0.get _ _ List.mem_cons_self))) ?_
 rintro e x20 ⟨rfl, hb⟩
 replace hL0 := hL0.call hb
 clear hb hweq
 go_wp2_with fail
 with_reducible refine Calls.mono (J3.out _ _ (htab.below hL0.bl) (slp_nil _)) ?_
 rintro e x21 ⟨rfl, hb⟩
 replace hL0 := hL0.call hb
 clear hb
 go_wp2_with fail
 exact bodyPost_ret (v := .bool true) (by simp [results, Tryz.results15, go_sem]) rfl ⟨rfl, hL0.bl⟩
end Go.Proofs.YtloipmieaefcpaaGreatDoor
namespace Go.Proofs.YtloipmieaefcpaaGreatDoor
open Go.RowKit
attribute [local irreducible] lo hs sm s64 c64 d64 b64 mh ml pd pc qd qc val hiB str cmpI srD lz nb zl zh zs
/-- The congruences that plain data stands for. -/
def rsOf (ps : List (Int × Int)) : List (Int × Nat) := ps.map fun p => (p.1, p.2.toNat)
theorem rsOf_len (ps : List (Int × Int)) : (rsOf ps).length = ps.length := by unfold rsOf; rw [List.length_map]
theorem rsOf_get (ps : List (Int × Int)) (i : Nat) (h : i < ps.length) (h' : i < (rsOf ps).length) : (rsOf ps)[i]'h' = ((ps[i]'h).1, (ps[i]'h).2.toNat) := List.getElem_map (fun p : Int × Int => (p.1, p.2.toNat))
theorem rofP (x y : Int) (h1 : -9223372036854775808 ≤ x) (h2 : x < 9223372036854775808) (h3 : 0 ≤ y) (h4 : y < 4294967296) (w : World) :
  Calls Tryz.prog 24 #[.agg #[.int .i64 x, .int .u32 y]] w fun e w' => e = .returned (frV x y.toNat) ∧ Below w.heap.size w w' :=
 rof_w x y x y.toNat (fun w => ofI x h1 h2 w) (fun w => of_val y y.toNat (by omega) (by unfold Bs; omega) w) (by omega) w
def noneT : ByteArray := ByteArray.mk #[110, 111, 110, 101]
def backT (a : Int) (m : Nat) : ByteArray := if backB a m = true then qtxt (backQ a m) else noneT
theorem backL (a : Int) (m : Nat) (h1 : -9223372036854775808 ≤ a) (h2 : a < 9223372036854775808) (h3 : m < 18446744073709551616) (w : World) (htab : Tab w) :
  Calls Tryz.prog 44 #[.int .i64 a, .int .u64 (m : Int)] w fun e w' => e = .returned (.string (backT a m)) ∧ Below w.heap.size w w' := by
 have hd : (digs m).length ≤ 1 := digs_length_iff.2 (by rw [Nat.pow_one]; unfold Bs; exact h3)
 have ha := i64_dI h1 h2
 have hB := fun w => backP a m (by omega) (by omega) w
 have hO := fun w => ofI a h1 h2 w
 have hN := fun w => of_val (m : Int) m rfl (by unfold Bs; exact h3) w
 unfold backT
 cases hb : backB a m with
 | false =>
  rw [hb] at hB
  rw [if_neg (by simp)]
  exact lback_no a (m : Int) a _ m _ hO hN hB w
 | true =>
  rw [hb] at hB
  rw [if_pos rfl]
  exact lback_yes a (m : Int) a _ m _ _ hO hN hB (fun w h => textF (backQ a m) 1 (back_sz a m 1 (by omega) hd) (by omega) w h) w htab
def joinT (ps : List (Int × Int)) : ByteArray := if chE (rsOf ps) = 0 then ztxt (chV (rsOf ps)).1 ++ ByteArray.mk #[32, 98, 121, 32] ++ txt (chV (rsOf ps)).2 else noneT
theorem chV_sz (cs : List (Int × Nat)) (k : Nat) (hk : 0 < k) (hp : ∀ c ∈ cs, (digs c.2).length ≤ k) : dI (chV cs).1 ≤ 1 + cs.length * k ∧ (digs (chV cs).2).length ≤ 1 + cs.length * k := by
 have h0 : dI 0 ≤ 1 := dI_lit (by decide)
 have h0' : (digs 0).length ≤ 1 := digs_length_iff.2 (by rw [Nat.pow_one]; unfold Bs; decide)
 by_cases hz : anyZ cs = true
 ·rw [(ch_zero hz).1]; show dI 0 ≤ _ ∧ (digs 0).length ≤ _; exact ⟨by omega, by omega⟩
 ·have hz2 : anyZ cs = false := by cases h : anyZ cs <;> simp_all
  have hpos := anyZ_false.1 hz2
  have hl : ∀ (l : List (Int × Nat)), (∀ c ∈ l, 0 < c.2) → (∀ c ∈ l, (digs c.2).length ≤ k) → 0 < lcmL l ∧ (digs (lcmL l)).length ≤ 1 + l.length * k := by
   intro l
   induction l with
   | nil => intro _ _; exact ⟨Nat.one_pos, Nat.le_trans (digs_length_iff.2 (show 1 < Bs ^ 1 by rw [Nat.pow_one]; unfold Bs; decide)) (by omega)⟩
   | cons c l ih =>
    intro h1 h2
    obtain ⟨g1, g2⟩ := ih (fun d hd => h1 d (List.mem_cons_of_mem _ hd)) (fun d hd => h2 d (List.mem_cons_of_mem _ hd))
    have g3 := lcm_digs (h1 c List.mem_cons_self) g1 (h2 c List.mem_cons_self) g2
    refine ⟨lcmL_pos h1, ?_⟩
    rw [lcmL, List.length_cons, Nat.succ_mul]; omega
  obtain ⟨g1, g2⟩ := hl cs hpos hp
  rcases ch_any cs hpos with ⟨h, -⟩ | ⟨-, h, -⟩
  ·have hM : (chV cs).2 = lcmL cs := h.m
   have h1 := h.lo
   have h2 := h.hi
   refine ⟨dI_le (m := (chV cs).2) (by omega) (by rw [hM]; exact g2), by rw [hM]; exact g2⟩
  ·rw [h]; show dI 0 ≤ _ ∧ (digs 0).length ≤ _; exact ⟨by omega, by omega⟩
theorem joinedL (ps : List (Int × Int)) (hl : ps.length ≤ 20) (hr : ∀ p ∈ ps, (-9223372036854775808 ≤ p.1 ∧ p.1 < 9223372036854775808) ∧ 0 ≤ p.2 ∧ p.2 < 4294967296) (v : Value) (w : World) (htab : Tab w) (hv : SlP w v ps) :
  Calls Tryz.prog 45 #[v] w fun e w' => e = .returned (.string (joinT ps)) ∧ Below w.heap.size w w' := by
 obtain ⟨ao, n, c, rfl, hn, hq⟩ := hv
 have hlen := rsOf_len ps
 have hs : ∀ c ∈ rsOf ps, dI c.1 ≤ 1 ∧ (digs c.2).length ≤ 1 := fun c hc => by
  unfold rsOf at hc
  obtain ⟨p, hp, rfl⟩ := List.mem_map.1 hc
  obtain ⟨⟨a1, a2⟩, a3, a4⟩ := hr p hp
  exact ⟨i64_dI a1 a2, digs_length_iff.2 (by rw [Nat.pow_one]; unfold Bs; show p.2.toNat < _; omega)⟩
 have HQ : ∀ (i : Nat) (h : i < ps.length) (h' : i < (rsOf ps).length) (w : World), Calls Tryz.prog 24 #[.agg #[.int .i64 ps[i].1, .int .u32 ps[i].2]] w fun xe w' => xe = .returned (frV (rsOf ps)[i].1 (rsOf ps)[i].2) ∧ Below w.heap.size w w' := fun i h h' w => by
  obtain ⟨⟨a1, a2⟩, a3, a4⟩ := hr _ (List.getElem_mem h)
  have e : (rsOf ps)[i] = (ps[i].1, ps[i].2.toNat) := rsOf_get ps i h h'
  rw [e]
  exact rofP _ _ a1 a2 a3 a4 w
 have HC := fun v w hv => chinP (rsOf ps) 1 (by omega) (by omega) hs v w hv
 obtain ⟨z1, z2⟩ := chV_sz (rsOf ps) 1 (by omega) (fun c hc => (hs c hc).2)
 unfold joinT
 by_cases he : chE (rsOf ps) = 0
 ·rw [if_pos he]
  rw [he] at HC
  have s1 := ztxt_small (z := (chV (rsOf ps)).1) (k := 100000) (by omega) (by omega)
  have s2 := txt_small (n := (chV (rsOf ps)).2) (k := 100000) (by omega) (by omega)
  exact ljoin_ok ps (rsOf ps) ao n c _ 0 _ _ _ hn (by omega) (by omega) HQ HC (fun w h => textI _ (by omega) w h) (fun w h => text_any _ (by omega) w h) rfl (by omega) (by omega) w htab hq
 ·rw [if_neg he]
  exact ljoin_none ps (rsOf ps) ao n c _ _ _ hn (by omega) (by omega) HQ HC (by simp [he]) w hq
-- the examples
theorem qt_1_2 : qtxt (mkRat (1) 2) = (ByteArray.mk #[49, 47, 50]) := by
 rw [qt_part (d := 2) (z := 1) (by decide +kernel) (by decide) (by decide +kernel), txt1 2 (by decide), show ztxt (1 : Int) = _ from zt_pos 1 (by decide)]; rfl
theorem qt_1_3 : qtxt (mkRat (1) 3) = (ByteArray.mk #[49, 47, 51]) := by
 rw [qt_part (d := 3) (z := 1) (by decide +kernel) (by decide) (by decide +kernel), txt1 3 (by decide), show ztxt (1 : Int) = _ from zt_pos 1 (by decide)]; rfl
theorem qt_n1_3 : qtxt (mkRat (-1) 3) = (ByteArray.mk #[45, 49, 47, 51]) := by
 rw [qt_part (d := 3) (z := -1) (by decide +kernel) (by decide) (by decide +kernel), txt1 3 (by decide), show ztxt (-1 : Int) = _ from zt_neg 1 (by decide) (by decide)]; rfl
theorem qt_n1_5 : qtxt (mkRat (-1) 5) = (ByteArray.mk #[45, 49, 47, 53]) := by
 rw [qt_part (d := 5) (z := -1) (by decide +kernel) (by decide) (by decide +kernel), txt1 5 (by decide), show ztxt (-1 : Int) = _ from zt_neg 1 (by decide) (by decide)]; rfl
theorem backT_yes {a : Int} {m : Nat} {q : Rat} {t : ByteArray} (h1 : backB a m = true) (h2 : backQ a m = q) (h3 : qtxt q = t) : backT a m = t := by unfold backT; rw [if_pos h1, h2, h3]
theorem backT_no {a : Int} {m : Nat} (h1 : backB a m = false) : backT a m = noneT := by unfold backT; rw [if_neg (by rw [h1]; simp)]
theorem txt2 (d : Nat) (h : 10 ≤ d) (h2 : d < 100) : txt d = ⟨#[dch (d / 10), dch (d % 10)]⟩ := by unfold txt; rw [dec_big (by omega), dec_small (show d / 10 < 10 by omega)]; rfl
theorem joinT_ok {ps : List (Int × Int)} {r : Int} {m : Nat} (h1 : chV (rsOf ps) = (r, m)) (h2 : chE (rsOf ps) = 0) : joinT ps = ztxt r ++ ByteArray.mk #[32, 98, 121, 32] ++ txt m := by unfold joinT; rw [if_pos h2, h1]
theorem j0 : joinT [(2, 3), (3, 5)] = (ByteArray.mk #[56, 32, 98, 121, 32, 49, 53]) := by
 obtain ⟨h1, h2⟩ := ch_holds (l := rsOf [(2, 3), (3, 5)]) (by decide) (x := 8) (by unfold Holds; decide)
 rw [joinT_ok (r := 8) (m := 15) (by rw [h1]; decide) h2, show ztxt (8 : Int) = _ from zt_pos 8 (by decide), txt2 15 (by decide) (by decide)]; rfl
theorem j1 : joinT [(1, 4), (3, 6)] = (ByteArray.mk #[57, 32, 98, 121, 32, 49, 50]) := by
 obtain ⟨h1, h2⟩ := ch_holds (l := rsOf [(1, 4), (3, 6)]) (by decide) (x := 9) (by unfold Holds; decide)
 rw [joinT_ok (r := 9) (m := 12) (by rw [h1]; decide) h2, show ztxt (9 : Int) = _ from zt_pos 9 (by decide), txt2 12 (by decide) (by decide)]; rfl
theorem j2 : joinT [(1, 4), (2, 6)] = noneT := by
 obtain ⟨h1, h2⟩ := ch_no (l := rsOf [(1, 4), (2, 6)]) (by decide) (fun x hx => by
  have g1 := hx (1, 4) (by decide)
  have g2 := hx (2, 6) (by decide)
  simp only at g1 g2
  omega)
 unfold joinT; rw [h2]; rfl
theorem j3 : joinT [] = (ByteArray.mk #[48, 32, 98, 121, 32, 49]) := by
 obtain ⟨h1, h2⟩ := ch_holds (l := rsOf []) (by decide) (x := 0) (by unfold Holds; decide)
 rw [joinT_ok (r := 0) (m := 1) (by rw [h1]; decide) h2, show ztxt (0 : Int) = _ from zt_pos 0 (by decide), txt1 1 (by decide)]; rfl
theorem fracL (n d : Int) (a1 : -9223372036854775808 ≤ n) (a2 : n < 9223372036854775808) (b1 : -9223372036854775808 ≤ d) (b2 : d < 9223372036854775808) (h0 : d ≠ 0) (w : World) :
  Calls Tryz.prog 14 #[.int .i64 n, .int .i64 d] w fun e w' => e = .returned (fracV ((n : Rat) / (d : Rat))) ∧ Below w.heap.size w w' :=
 pfrac_w n d 0 _ _ (fun w => ofF n d a1 a2 b1 b2 h0 w) w
theorem bk {a : Int} {m : Nat} {t : ByteArray} (h1 : -9223372036854775808 ≤ a) (h2 : a < 9223372036854775808) (h3 : m < 18446744073709551616) (h : backT a m = t) : ∀ w, Tab w → Calls Tryz.prog 44 #[.int .i64 a, .int .u64 (m : Int)] w fun e w' => e = .returned (.string t) ∧ Below w.heap.size w w' := fun w htab => by
 have := backL a m h1 h2 h3 w htab
 rwa [h] at this
theorem pworks_any (w : World) (htab : Tab w) : Calls Tryz.prog 15 #[] w fun e w' => e = .returned (.bool true) ∧ Below w.heap.size w w' := by
 have qa : ((1 : Int) : Rat) / ((2 : Int) : Rat) = mkRat 1 2 := by decide +kernel
 have qb : ((1 : Int) : Rat) / ((3 : Int) : Rat) = mkRat 1 3 := by decide +kernel
 have qc : ((2 : Int) : Rat) / ((1 : Int) : Rat) = mkRat 2 1 := by decide +kernel
 have sz : ∀ q : Rat, q.num.natAbs < 18446744073709551616 → q.den < 18446744073709551616 → Sz q 1 := szc
 have F1 := fun w => fracL 1 2 (by decide) (by decide) (by decide) (by decide) (by decide) w
 have F2 := fun w => fracL 1 3 (by decide) (by decide) (by decide) (by decide) (by decide) w
 have F3 := fun w => fracL 2 1 (by decide) (by decide) (by decide) (by decide) (by decide) w
 rw [qa] at F1; rw [qb] at F2; rw [qc] at F3
 have d9 : (digs 9).length ≤ 1 := digs_length_iff.2 (by rw [Nat.pow_one]; unfold Bs; decide)
 have G1 := fun w => fitsP (mkRat 1 2) 5 9 1 (sz _ (by decide +kernel) (by decide +kernel)) (dI_lit (by decide)) (by omega) (by omega) w
 have G2 := fun w => fitsP (mkRat 1 3) 0 9 1 (sz _ (by decide +kernel) (by decide +kernel)) (dI_lit (by decide)) (by omega) (by omega) w
 have G3 := fun w => farP (mkRat 2 1) 9 1 (sz _ (by decide +kernel) (by decide +kernel)) (by omega) w
 have G4 := fun w => farP (mkRat 2 1) 8 1 (sz _ (by decide +kernel) (by decide +kernel)) (by omega) w
 rw [show fitsB (mkRat 1 2) 5 9 = true from by decide +kernel] at G1
 rw [show fitsB (mkRat 1 3) 0 9 = false from by decide +kernel] at G2
 rw [show farB (mkRat 2 1) 9 = true from by decide +kernel] at G3
 rw [show farB (mkRat 2 1) 8 = false from by decide +kernel] at G4
 have JL := fun (ps : List (Int × Int)) (t : ByteArray) (e : joinT ps = t) (hl : ps.length ≤ 20) (hr : ∀ p ∈ ps, (-9223372036854775808 ≤ p.1 ∧ p.1 < 9223372036854775808) ∧ 0 ≤ p.2 ∧ p.2 < 4294967296) (v : Value) (w : World) (ht : Tab w) (hv : SlP w v ps) => by
  have := joinedL ps hl hr v w ht hv
  rw [e] at this; exact this
 exact pworks_w 5 0 _ _ _ 9 8 _ _ _
  (bk (m := 9) (by decide) (by decide) (by decide) (backT_yes (q := mkRat 1 2) (by decide +kernel) (by decide +kernel) qt_1_2)) (bk (m := 9) (by decide) (by decide) (by decide) (backT_yes (q := mkRat 1 2) (by decide +kernel) (by decide +kernel) qt_1_2))
  (bk (m := 9) (by decide) (by decide) (by decide) (backT_no (by decide +kernel))) (bk (m := 3) (by decide) (by decide) (by decide) (backT_yes (q := 0) (by decide +kernel) (by decide +kernel) qt_0)) (bk (m := 2) (by decide) (by decide) (by decide) (backT_no (by decide +kernel)))
  (bk (m := 101) (by decide) (by decide) (by decide) (backT_no (by decide +kernel))) (bk (m := 101) (by decide) (by decide) (by decide) (backT_yes (q := mkRat (-1) 3) (by decide +kernel) (by decide +kernel) qt_n1_3)) (bk (m := 101) (by decide) (by decide) (by decide) (backT_yes (q := mkRat 1 3) (by decide +kernel) (by decide +kernel) qt_1_3))
  (bk (m := 101) (by decide) (by decide) (by decide) (backT_yes (q := mkRat (-1) 5) (by decide +kernel) (by decide +kernel) qt_n1_5))
  (fun w => ofI 5 (by decide) (by decide) w) (fun w => of_val 9 9 rfl (by unfold Bs; omega) w) (fun w => ofI 0 (by decide) (by decide) w) (fun w => of_val 8 8 rfl (by unfold Bs; omega) w) F1 F2 F3 G1 G2 G3 G4
  (JL _ _ j0 (by decide) (by decide)) (JL _ _ j1 (by decide) (by decide)) (JL _ _ j2 (by decide) (by decide)) (JL _ _ j3 (by decide) (by decide)) w htab
end Go.Proofs.YtloipmieaefcpaaGreatDoor
namespace Go.Proofs.YtloipmieaefcpaaGreatDoor
open Go.RowKit
attribute [local irreducible] lo hs sm s64 c64 d64 b64 mh ml pd pc qd qc val hiB str cmpI srD lz nb isq zl zh zs
theorem gpairP (v u : Value) (l k : List Nat) : Keeps (fun w => Ws w v l ∧ Ws w u k) := Keeps.and (Keeps.ws v l) (Keeps.ws u k)
theorem made_sz {l : List Nat} (h : ∀ x ∈ l, x < 4294967296) : (digs (made l)).length ≤ l.length := by
 have := zmade_dI (s := false) h
 unfold zmade at this
 simp only [Bool.false_eq_true, if_false] at this
 rwa [dI_nat] at this
end Go.Proofs.YtloipmieaefcpaaGreatDoor
namespace Go.Proofs.YtloipmieaefcpaaGreatDoor
open Go.ChangeShapes Go.WideShapes Go.ChangeAt Go.RowKit
theorem own : ownKnob Tryz.prog.godebug = none := by kernel_rfl
theorem laidOut : laidOutB Tryz.prog = true := by kernel_rfl
theorem cells62 : Tryz.prog.cellsOf 54 = 1 := by kernel_rfl
theorem cells24 : Tryz.prog.cellsOf 24 = 1 := by kernel_rfl
/-- The variables that every row of this layer lists. -/
def laidAll : List (String × DataW Unit) := [("math/bits.deBruijn32tab", Rows.laid_math_bits_deBruijn32tab), ("math/bits.deBruijn64tab", Rows.laid_math_bits_deBruijn64tab), ("internal/strconv.uint64pow10", Rows.laid_internal_strconv_uint64pow10)]
theorem gPow : Tryz.prog.globalNamed "internal/strconv.uint64pow10" = some 2 := by kernel_rfl
theorem gPowType : (Tryz.prog.globals[2]?).map (·.type) = some 188 := by kernel_rfl
theorem cells20 : Tryz.prog.cellsOf 188 = 20 := by kernel_rfl
theorem tab_of {W : World} (h : laidMetH Tryz.prog laidAll W) : Tab W := by
 have h1 := laidMetH.filter (fun x => x.1 == "internal/strconv.uint64pow10") h
 have e : laidAll.filter (fun x => x.1 == "internal/strconv.uint64pow10") = [("internal/strconv.uint64pow10", Rows.laid_internal_strconv_uint64pow10)] := by kernel_rfl
 rw [e, MakeChecks.laidMetH_plain _ _ _ (by kernel_rfl)] at h1
 exact Lib.tabIs_of_head (rest := []) gPow gPowType Tryz.underlying188 Tryz.underlying24 cells24 cells20 (show laidMet Tryz.prog (("internal/strconv.uint64pow10", Lib.tabData .u64 Lib.pow10Tab) :: []) W from h1)
theorem wide_u32 {n : Int} (h : (Lit.int .u32 n).wf = true) : 0 ≤ n ∧ n ≤ 4294967295 := bounds_u32 h
theorem ws_of {H : Type} {enc : TypeId × Value → H} {W : World} {v : Value} {d : DataW H} {p : List MemPlace} (h : DataW.Trod enc Tryz.prog W 0 (fun _ => true) true 66 v d p) (hv : ∃ a n c, v = .slice a n c) : ∃ l, Ws W v l := by
 obtain ⟨a0, len, cap, rfl⟩ := hv
 obtain ⟨fuel, hf⟩ := h
 rcases open_ints Tryz.underlying66 Tryz.underlying54 cells62 hf with ⟨hcs, hx⟩ | ⟨a, len', cap', zs, hcs, _, hl, hm, hz, hx, hcell, hwz⟩
 ·simp [Value.cells] at hcs
  obtain ⟨rfl, rfl, rfl⟩ := hcs
  exact ⟨[], .inl ⟨_, _, rfl, rfl⟩⟩
 ·simp [Value.cells] at hcs
  obtain ⟨rfl, rfl, rfl⟩ := hcs
  simp only [if_true] at hz
  by_cases h0 : len = 0
  ·subst h0
   exact ⟨[], .inl ⟨_, _, rfl, rfl⟩⟩
  ·have hll : ((zs.take len).map Int.toNat).length = len := by simp; omega
   refine ⟨(zs.take len).map Int.toNat, .inr ⟨a, cap, by rw [hll], ?_, ?_, ?_⟩⟩
   ·intro x hx
    obtain ⟨z, hz1, rfl⟩ := List.mem_map.1 hx
    have := wide_u32 (hwz z (List.mem_of_mem_take hz1))
    omega
   ·intro i hi
    rw [hll] at hi
    have hi2 : i < zs.length := by omega
    have e := hcell i hi2
    rw [show zs.getD i 0 = zs[i] by simp [List.getD, hi2]] at e
    have hw := wide_u32 (hwz zs[i] (List.getElem_mem hi2))
    rw [e]
    simp only [List.getElem_map, List.getElem_take]
    rw [Int.toNat_of_nonneg hw.1]
   ·have e := hcell 0 (by omega)
    have := World.block_lt_of_cell? W _ e
    rw [show (a.add 0).block = a.block from by unfold Addr.add; split <;> rfl] at this
    exact this
end Go.Proofs.YtloipmieaefcpaaGreatDoor
namespace Go.Proofs.YtloipmieaefcpaaGreatDoor
open Go.ChangeShapes Go.WideShapes Go.ChangeAt Go.RowKit Go.Joins
theorem cellsZ : Tryz.prog.cellsOf 68 = 2 := by kernel_rfl
theorem ws_of_trod {H : Type} {enc : TypeId × Value → H} {W : World} {v : Value} {y : DataW H × List MemPlace} {fuel : Nat} (hf : DataW.trod enc Tryz.prog W 0 (fun _ => true) true fuel 66 [v] = some y) : ∃ a n c l, v = .slice a n c ∧ Ws W v l := by
 rcases open_ints Tryz.underlying66 Tryz.underlying54 cells62 hf with ⟨hcs, hx⟩ | ⟨a, len', cap', zs, hcs, _, hl, hm, hz, hx, hcell, hwz⟩
 ·simp only [List.cons.injEq, and_true] at hcs
  subst hcs
  exact ⟨none, 0, 0, [], rfl, .inl ⟨_, _, rfl, rfl⟩⟩
 ·simp only [List.cons.injEq, and_true] at hcs
  subst hcs
  simp only [if_true] at hz
  refine ⟨some a, len', cap', ?_⟩
  by_cases h0 : len' = 0
  ·subst h0
   exact ⟨[], rfl, .inl ⟨_, _, rfl, rfl⟩⟩
  ·have hll : ((zs.take len').map Int.toNat).length = len' := by simp; omega
   refine ⟨(zs.take len').map Int.toNat, rfl, .inr ⟨a, cap', by rw [hll], ?_, ?_, ?_⟩⟩
   ·intro x hx
    obtain ⟨z, hz1, rfl⟩ := List.mem_map.1 hx
    have := wide_u32 (hwz z (List.mem_of_mem_take hz1))
    omega
   ·intro i hi
    rw [hll] at hi
    have hi2 : i < zs.length := by omega
    have e := hcell i hi2
    rw [show zs.getD i 0 = zs[i] by simp [List.getD, hi2]] at e
    have hw := wide_u32 (hwz zs[i] (List.getElem_mem hi2))
    rw [e]
    simp only [List.getElem_map, List.getElem_take]
    rw [Int.toNat_of_nonneg hw.1]
   ·have e := hcell 0 (by omega)
    have := World.block_lt_of_cell? W _ e
    rw [show (a.add 0).block = a.block from by unfold Addr.add; split <;> rfl] at this
    exact this
end Go.Proofs.YtloipmieaefcpaaGreatDoor
namespace Go.Proofs.YtloipmieaefcpaaGreatDoor
open Go.ChangeShapes Go.WideShapes Go.ChangeAt Go.RowKit Go.Joins
theorem cellsG : Tryz.prog.cellsOf 70 = 3 := by kernel_rfl
theorem cellsW : Tryz.prog.cellsOf 66 = 1 := by kernel_rfl
theorem cellsB : Tryz.prog.cellsOf 4 = 1 := by kernel_rfl
set_option maxRecDepth 100000 in
theorem great_of {H : Type} {enc : TypeId × Value → H} {W : World} {base : Nat} {v : Value} {d : DataW H} {p : List MemPlace} (hv : Value.okWide Tryz.prog W .any base 70 v)
  (h : DataW.Trod enc Tryz.prog W 0 (fun _ => true) true 70 v d p) : ∃ s a q n c m d l k, v = .agg #[.bool s, .slice a n c, .slice q m d] ∧ Ws W (.slice a n c) l ∧ Ws W (.slice q m d) k := by
 obtain ⟨cs, rfl, hsz⟩ := okWide_struct Tryz.underlying70 hv
 obtain ⟨c0, c1, c2, rfl⟩ := array3 (hsz.trans cellsG)
 obtain ⟨fuel, hf⟩ := h
 obtain ⟨y0, y1, n, hx, _, h0, h1⟩ := trod_struct2 Tryz.underlying70 hf
 simp only [cellsZ, cellsW] at h0 h1
 obtain ⟨z0, z1, m, hz, _, g0, g1⟩ := trod_struct2 Tryz.underlying68 h0
 simp only [cellsB, cellsW] at g0 g1
 obtain ⟨s, e0, -⟩ := DataW.trod_bool Tryz.underlying4 g0
 obtain ⟨a1, n1, k1, l1, r1, w1⟩ := ws_of_trod g1
 obtain ⟨a2, n2, k2, l2, r2, w2⟩ := ws_of_trod h1
 simp [Value.cells] at e0 r1 r2
 subst e0 r1 r2
 exact ⟨s, a1, a2, n1, k1, n2, k2, l1, l2, rfl, w1, w2⟩
end Go.Proofs.YtloipmieaefcpaaGreatDoor
