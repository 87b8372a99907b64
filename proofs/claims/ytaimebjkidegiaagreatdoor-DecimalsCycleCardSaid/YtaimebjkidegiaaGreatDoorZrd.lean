/-
  The law answers true at every input, and leaves its arguments as they were: a part of the proof. CONDITIONS: the package-level tables start as the program's text lays them (the card ties them).
-/
import Derived.Test.YtaimebjkidegiaaGreatDoorZrc
set_option linter.unusedVariables false
set_option linter.unusedSimpArgs false
set_option maxHeartbeats 16000000
set_option maxRecDepth 100000
namespace Go.Proofs.YtaimebjkidegiaaGreatDoor
open Go.RowKit
attribute [local irreducible] lo hs sm s64 c64 d64 b64 mh ml pd pc qd qc val hiB str cmpI srD lz nb isq decB zl zh zs
theorem fcmp_w (m n x y c : Int) (d e p q : Nat) (HD : RT 45 #[frV m d] (natV p)) (HE : RT 45 #[frV n e] (natV q)) (HS : RT 185 #[intV m, natV q] (intV x)) (HT : RT 185 #[intV n, natV p] (intV y)) (HC : RT 273 #[intV x, intV y] (.int .i64 c)) (w : World) :
  Calls Tryz.prog 255 #[frV m d, frV n e] w fun xe w' => xe = .returned (.int .i64 c) ∧ Below w.heap.size w w' := by
 have hL0 : GL w w [] := GL.start w
 replace HD := Lib.hid HD
 replace HE := Lib.hid HE
 replace HS := Lib.hid HS
 replace HT := Lib.hid HT
 replace HC := Lib.hid HC
 obtain ⟨x1, hweq, hL0⟩ := GL.named ((hL0.new rfl [.int .u64 ((zl m : Nat) : Int), .string (zh m), .bool (zs m), .int .u64 ((lo d : Nat) : Int), .string (hs d)] 34).new (K := w.heap.size + 1) (szA _ _) [.int .u64 ((zl n : Nat) : Int), .string (zh n), .bool (zs n), .int .u64 ((lo e : Nat) : Int), .string (hs e)] 34)
 go_enter Tryz.func255, Tryz.ntmps255
 go_upto_region 1 with fail
 clear hweq
 obtain ⟨α, iα, F, hF1, hF2⟩ := cls x1
 have hq0 := cls_box hF1 hL0 _ _ mZ
 simp only [zC, Nat.reduceAdd] at hq0
 have hq1 := cls_box hF1 hL0 _ _ (mK mZ)
 simp only [zC, Nat.reduceAdd] at hq1
 refine region_qs 12 (C := fun w' => ∃ x, w' = F x) (by kernel_rfl) (by kernel_rfl) (cls_drew hF2) ?_
 simp only [zT]
 repeat (go_big_quiet_step (first | fail | (go_at_call 45; with_reducible exact cls_call hF1 hF2 HE.out _) | (go_at_call 185; with_reducible exact cls_call hF1 hF2 HS.out _) | (go_at_call 45; with_reducible exact cls_call hF1 hF2 HD.out _) | (go_at_call 185; with_reducible exact cls_call hF1 hF2 HT.out _) | (go_at_call 273; with_reducible exact cls_call hF1 hF2 HC.out _)))
 refine wpQuiet_nil ?_
 rintro wq ⟨xq, rfl⟩
 replace hL0 := hL0.call (hF1 xq)
 clear  hq0 hq1 hF2
 generalize F xq = x2 at hL0 ⊢
 clear hF1 xq iα F α
 go_wp2_with fail
 exact bodyPost_ret (v := .int .i64 c) (by simp [results, Tryz.results255, go_sem]) rfl ⟨rfl, hL0.bl⟩
theorem fmul_w (m n u v x y : Int) (d e p q g h k f : Nat) (HD : RT 45 #[frV m d] (natV p)) (HE : RT 45 #[frV n e] (natV q)) (HX : RT 171 #[intV m, natV q] (.tuple #[intV u, natV g])) (HY : RT 171 #[intV n, natV p] (.tuple #[intV v, natV h])) (HM : RT 141 #[intV u, intV v] (intV x)) (HP : RT 120 #[natV h, natV g] (natV k)) (HL : RT 172 #[intV x, natV k] (frV y f)) (w : World) :
  Calls Tryz.prog 95 #[frV m d, frV n e] w fun xe w' => xe = .returned (frV y f) ∧ Below w.heap.size w w' := by
 have hL0 : GL w w [] := GL.start w
 replace HD := Lib.hid HD
 replace HE := Lib.hid HE
 replace HX := Lib.hid HX
 replace HY := Lib.hid HY
 replace HM := Lib.hid HM
 replace HP := Lib.hid HP
 replace HL := Lib.hid HL
 obtain ⟨x1, hweq, hL0⟩ := GL.named (((hL0.new rfl [.int .u64 ((zl m : Nat) : Int), .string (zh m), .bool (zs m), .int .u64 ((lo d : Nat) : Int), .string (hs d)] 34).new (K := w.heap.size + 1) (szA _ _) [.int .u64 ((zl n : Nat) : Int), .string (zh n), .bool (zs n), .int .u64 ((lo e : Nat) : Int), .string (hs e)] 34).new (K := w.heap.size + 1 + 1) (by simp only [World.size_alloc]) [.int .u64 0, .string ⟨#[]⟩, .bool false, .int .u64 0, .string ⟨#[]⟩] 34)
 go_enter Tryz.func95, Tryz.ntmps95
 go_upto_region 1 with fail
 clear hweq
 refine region_gh (by kernel_rfl) (by kernel_rfl) ?_
 refine lex_seg (gl := []) 8 (by kernel_rfl) ?_
 intro α iα F hF1 hF2
 have hq := GL.seg hF1 hL0
 simp only [zC, Nat.reduceAdd] at hq
 simp only [zT]
 repeat (go_big_quiet_step (first | fail | (go_at_call 45; with_reducible exact seg_call hF2 HE.out _) | (go_at_call 171; with_reducible exact seg_call hF2 HX.out _)))
 refine wpQuiet_nil ?_
 clear hq hF1 hF2 iα F α
 refine lex_new [.int .u64 0, .string ⟨#[]⟩, .bool false] 5 32 32 rfl rfl (of_decide_eq_true (by kernel_rfl)) (by kernel_rfl) rfl new_int ?_
 simp only [Act.put, zP]
 refine lex_new [.int .u64 0, .string ⟨#[]⟩] 6 30 30 rfl rfl (of_decide_eq_true (by kernel_rfl)) (by kernel_rfl) rfl new_natc ?_
 simp only [Act.put, zP]
 refine lex_put [.int .u64 ((zl u : Nat) : Int), .string (zh u), .bool (zs u)] [.int .u64 0, .string ⟨#[]⟩, .bool false] 5 32 (.tmp 15) rfl (by kernel_rfl) (by simp [toG, upd]) rfl (fun w k h => put_int _ _ _ _ _ _ w k h) ?_
 simp only [Act.put]
 refine lex_put [.int .u64 ((lo g : Nat) : Int), .string (hs g)] [.int .u64 0, .string ⟨#[]⟩] 6 30 (.tmp 16) rfl (by kernel_rfl) (by simp [toG, upd]) rfl (fun w k h => put_natc _ _ _ _ w k h) ?_
 simp only [Act.put]
 refine lexG_nil ?_
 intro κ x2 hS
 replace hL0 := hL0.ghs hS [(6, [.int .u64 ((lo g : Nat) : Int), .string (hs g)]), (5, [.int .u64 ((zl u : Nat) : Int), .string (zh u), .bool (zs u)])] (by simp) (by intro p hp; simp only [List.mem_cons, List.not_mem_nil, or_false] at hp; rcases hp with rfl | rfl <;> exact ⟨_, by simp only [toG, upd]; rfl⟩)
 simp only [List.map_cons, List.map_nil, List.cons_append, List.nil_append] at hL0
 simp only [over_toG, over_nil, Act.put, zP]
 clear hS
 generalize κ 6 = k2_6 at *
 generalize κ 5 = k2_5 at *
 go_upto_region 2 with fail
 refine region_gh (by kernel_rfl) (by kernel_rfl) ?_
 refine lex_seg (gl := []) 8 (by kernel_rfl) ?_
 intro α iα F hF1 hF2
 have hq := GL.seg hF1 hL0
 simp only [zC, Nat.reduceAdd] at hq
 simp only [zT]
 repeat (go_big_quiet_step (first | fail | (go_at_call 45; with_reducible exact seg_call hF2 HD.out _) | (go_at_call 171; with_reducible exact seg_call hF2 HY.out _)))
 refine wpQuiet_nil ?_
 clear hq hF1 hF2 iα F α
 refine lex_new [.int .u64 0, .string ⟨#[]⟩, .bool false] 7 32 32 rfl rfl (of_decide_eq_true (by kernel_rfl)) (by kernel_rfl) rfl new_int ?_
 simp only [Act.put, zP]
 refine lex_new [.int .u64 0, .string ⟨#[]⟩] 8 30 30 rfl rfl (of_decide_eq_true (by kernel_rfl)) (by kernel_rfl) rfl new_natc ?_
 simp only [Act.put, zP]
 refine lex_put [.int .u64 ((zl v : Nat) : Int), .string (zh v), .bool (zs v)] [.int .u64 0, .string ⟨#[]⟩, .bool false] 7 32 (.tmp 23) rfl (by kernel_rfl) (by simp [toG, upd]) rfl (fun w k h => put_int _ _ _ _ _ _ w k h) ?_
 simp only [Act.put]
 refine lex_put [.int .u64 ((lo h : Nat) : Int), .string (hs h)] [.int .u64 0, .string ⟨#[]⟩] 8 30 (.tmp 24) rfl (by kernel_rfl) (by simp [toG, upd]) rfl (fun w k h => put_natc _ _ _ _ w k h) ?_
 simp only [Act.put]
 refine lexG_nil ?_
 intro κ x3 hS
 replace hL0 := hL0.ghs hS [(8, [.int .u64 ((lo h : Nat) : Int), .string (hs h)]), (7, [.int .u64 ((zl v : Nat) : Int), .string (zh v), .bool (zs v)])] (by simp) (by intro p hp; simp only [List.mem_cons, List.not_mem_nil, or_false] at hp; rcases hp with rfl | rfl <;> exact ⟨_, by simp only [toG, upd]; rfl⟩)
 simp only [List.map_cons, List.map_nil, List.cons_append, List.nil_append] at hL0
 simp only [over_toG, over_nil, Act.put, zP]
 clear hS
 generalize κ 8 = k3_8 at *
 generalize κ 7 = k3_7 at *
 go_upto_region 3 with fail
 obtain ⟨α, iα, F, hF1, hF2⟩ := cls x3
 have hq0 := cls_box hF1 hL0 _ _ mZ
 simp only [zC, Nat.reduceAdd] at hq0
 have hq1 := cls_box hF1 hL0 _ _ (mK mZ)
 simp only [zC, Nat.reduceAdd] at hq1
 have hq2 := cls_box hF1 hL0 _ _ (mK (mK mZ))
 simp only [zC, Nat.reduceAdd] at hq2
 have hq3 := cls_box hF1 hL0 _ _ (mK (mK (mK mZ)))
 simp only [zC, Nat.reduceAdd] at hq3
 refine region_qs 7 (C := fun w' => ∃ x, w' = F x) (by kernel_rfl) (by kernel_rfl) (cls_drew hF2) ?_
 simp only [zT]
 repeat (go_big_quiet_step (first | fail | (go_at_call 141; with_reducible exact cls_call hF1 hF2 HM.out _) | (go_at_call 120; with_reducible exact cls_call hF1 hF2 HP.out _) | (go_at_call 172; with_reducible exact cls_call hF1 hF2 HL.out _)))
 refine wpQuiet_nil ?_
 rintro wq ⟨xq, rfl⟩
 replace hL0 := hL0.call (hF1 xq)
 clear  hq0 hq1 hq2 hq3 hF2
 generalize F xq = x4 at hL0 ⊢
 clear hF1 xq iα F α
 have hA := hL0.fc
 simp only [zF, Nat.reduceAdd] at hA
 obtain ⟨x5, hput1, hP⟩ := GL.named (hL0.put 4 (w.heap.size + 1 + 1) _ rfl [.int .u64 ((zl y : Nat) : Int), .string (zh y), .bool (zs y), .int .u64 ((lo f : Nat) : Int), .string (hs f)] rfl)
 simp only [setAll] at hput1
 simp only [List.set_cons_zero, List.set_cons_succ] at hP
 have hB1 := hP.fc
 simp only [zF, Nat.reduceAdd] at hB1
 replace hL0 := hP
 go_wp2_with fail
 exact bodyPost_ret (v := frV y f) (by simp [results, Tryz.results95, go_sem, hB1]) rfl ⟨rfl, hL0.bl⟩
theorem fcombine_sub (m n x y s u z : Int) (d e p0 q0 g p q r t v f : Nat) (HD : RT 45 #[frV m d] (natV p0)) (HE : RT 45 #[frV n e] (natV q0)) (HG : RT 118 #[natV p0, natV q0] (natV g)) (HP : RT 184 #[natV p0, natV g] (natV p)) (HQ : RT 184 #[natV q0, natV g] (natV q)) (HS : RT 185 #[intV m, natV q] (intV x)) (HT : RT 185 #[intV n, natV p] (intV y)) (HB : RT 146 #[intV x, intV y] (intV s)) (HC : RT 171 #[intV s, natV g] (.tuple #[intV u, natV r])) (HU : RT 120 #[natV p, natV q] (natV t)) (HV : RT 120 #[natV t, natV r] (natV v)) (HL : RT 172 #[intV u, natV v] (frV z f)) (w : World) :
  Calls Tryz.prog 115 #[frV m d, frV n e, .func (.func 146) #[] #[]] w fun xe w' => xe = .returned (frV z f) ∧ Below w.heap.size w w' := by
 have hL0 : GL w w [] := GL.start w
 replace HD := Lib.hid HD
 replace HE := Lib.hid HE
 replace HG := Lib.hid HG
 replace HP := Lib.hid HP
 replace HQ := Lib.hid HQ
 replace HS := Lib.hid HS
 replace HT := Lib.hid HT
 replace HB := Lib.hid HB
 replace HC := Lib.hid HC
 replace HU := Lib.hid HU
 replace HV := Lib.hid HV
 replace HL := Lib.hid HL
 obtain ⟨x1, hweq, hL0⟩ := GL.named (((hL0.new rfl [.int .u64 ((zl m : Nat) : Int), .string (zh m), .bool (zs m), .int .u64 ((lo d : Nat) : Int), .string (hs d)] 34).new (K := w.heap.size + 1) (szA _ _) [.int .u64 ((zl n : Nat) : Int), .string (zh n), .bool (zs n), .int .u64 ((lo e : Nat) : Int), .string (hs e)] 34).new (K := w.heap.size + 1 + 1) (by simp only [World.size_alloc]) [.int .u64 0, .string ⟨#[]⟩, .bool false, .int .u64 0, .string ⟨#[]⟩] 34)
 go_enter Tryz.func115, Tryz.ntmps115
 go_upto_region 1 with fail
 clear hweq
 refine region_gh (by kernel_rfl) (by kernel_rfl) ?_
 refine lex_seg (gl := []) 5 (by kernel_rfl) ?_
 intro α iα F hF1 hF2
 have hq := GL.seg hF1 hL0
 simp only [zC, Nat.reduceAdd] at hq
 simp only [zT]
 repeat (go_big_quiet_step (first | fail | (go_at_call 45; with_reducible exact seg_call hF2 HD.out _) | (go_at_call 45; with_reducible exact seg_call hF2 HE.out _) | (go_at_call 118; with_reducible exact seg_call hF2 HG.out _)))
 refine wpQuiet_nil ?_
 clear hq hF1 hF2 iα F α
 refine lex_new [.int .u64 0, .string ⟨#[]⟩] 7 30 30 rfl rfl (of_decide_eq_true (by kernel_rfl)) (by kernel_rfl) rfl new_natc ?_
 simp only [Act.put, zP]
 refine lex_put [.int .u64 ((lo g : Nat) : Int), .string (hs g)] [.int .u64 0, .string ⟨#[]⟩] 7 30 (.tmp 16) rfl (by kernel_rfl) (by simp [toG, upd]) rfl (fun w k h => put_natc _ _ _ _ w k h) ?_
 simp only [Act.put]
 refine lexG_nil ?_
 intro κ x2 hS
 replace hL0 := hL0.ghs hS [(7, [.int .u64 ((lo g : Nat) : Int), .string (hs g)])] (by simp) (by intro p hp; simp only [List.mem_cons, List.not_mem_nil, or_false] at hp; rcases hp with rfl <;> exact ⟨_, by simp only [toG, upd]; rfl⟩)
 simp only [List.map_cons, List.map_nil, List.cons_append, List.nil_append] at hL0
 simp only [over_toG, over_nil, Act.put, zP]
 clear hS
 generalize κ 7 = k2_7 at *
 go_upto_region 2 with fail
 refine region_gh (by kernel_rfl) (by kernel_rfl) ?_
 refine lex_seg (gl := []) 8 (by kernel_rfl) ?_
 intro α iα F hF1 hF2
 have hq := GL.seg hF1 hL0
 simp only [zC, Nat.reduceAdd] at hq
 simp only [zT]
 repeat (go_big_quiet_step (first | fail | (go_at_call 45; with_reducible exact seg_call hF2 HD.out _) | (go_at_call 184; with_reducible exact seg_call hF2 HP.out _) | (go_at_call 45; with_reducible exact seg_call hF2 HE.out _) | (go_at_call 184; with_reducible exact seg_call hF2 HQ.out _)))
 refine wpQuiet_nil ?_
 clear hq hF1 hF2 iα F α
 refine lex_new [.int .u64 0, .string ⟨#[]⟩] 8 30 30 rfl rfl (of_decide_eq_true (by kernel_rfl)) (by kernel_rfl) rfl new_natc ?_
 simp only [Act.put, zP]
 refine lex_new [.int .u64 0, .string ⟨#[]⟩] 9 30 30 rfl rfl (of_decide_eq_true (by kernel_rfl)) (by kernel_rfl) rfl new_natc ?_
 simp only [Act.put, zP]
 refine lex_put [.int .u64 ((lo p : Nat) : Int), .string (hs p)] [.int .u64 0, .string ⟨#[]⟩] 8 30 (.tmp 20) rfl (by kernel_rfl) (by simp [toG, upd]) rfl (fun w k h => put_natc _ _ _ _ w k h) ?_
 simp only [Act.put]
 refine lex_put [.int .u64 ((lo q : Nat) : Int), .string (hs q)] [.int .u64 0, .string ⟨#[]⟩] 9 30 (.tmp 24) rfl (by kernel_rfl) (by simp [toG, upd]) rfl (fun w k h => put_natc _ _ _ _ w k h) ?_
 simp only [Act.put]
 refine lexG_nil ?_
 intro κ x3 hS
 replace hL0 := hL0.ghs hS [(9, [.int .u64 ((lo q : Nat) : Int), .string (hs q)]), (8, [.int .u64 ((lo p : Nat) : Int), .string (hs p)])] (by simp) (by intro p hp; simp only [List.mem_cons, List.not_mem_nil, or_false] at hp; rcases hp with rfl | rfl <;> exact ⟨_, by simp only [toG, upd]; rfl⟩)
 simp only [List.map_cons, List.map_nil, List.cons_append, List.nil_append] at hL0
 simp only [over_toG, over_nil, Act.put, zP]
 clear hS
 generalize κ 9 = k3_9 at *
 generalize κ 8 = k3_8 at *
 go_upto_region 3 with fail
 refine region_gh (by kernel_rfl) (by kernel_rfl) ?_
 refine lex_seg (gl := []) 15 (by kernel_rfl) ?_
 intro α iα F hF1 hF2
 have hq := GL.seg hF1 hL0
 simp only [zC, Nat.reduceAdd] at hq
 simp only [zT]
 repeat (go_big_quiet_step (first | fail | (go_at_call 185; with_reducible exact seg_call hF2 HS.out _) | (go_at_call 185; with_reducible exact seg_call hF2 HT.out _) | (go_at_call 146; with_reducible exact seg_call hF2 HB.out _) | (go_at_call 171; with_reducible exact seg_call hF2 HC.out _)))
 refine wpQuiet_nil ?_
 clear hq hF1 hF2 iα F α
 refine lex_new [.int .u64 0, .string ⟨#[]⟩, .bool false] 10 32 32 rfl rfl (of_decide_eq_true (by kernel_rfl)) (by kernel_rfl) rfl new_int ?_
 simp only [Act.put, zP]
 refine lex_new [.int .u64 0, .string ⟨#[]⟩] 11 30 30 rfl rfl (of_decide_eq_true (by kernel_rfl)) (by kernel_rfl) rfl new_natc ?_
 simp only [Act.put, zP]
 refine lex_put [.int .u64 ((zl u : Nat) : Int), .string (zh u), .bool (zs u)] [.int .u64 0, .string ⟨#[]⟩, .bool false] 10 32 (.tmp 38) rfl (by kernel_rfl) (by simp [toG, upd]) rfl (fun w k h => put_int _ _ _ _ _ _ w k h) ?_
 simp only [Act.put]
 refine lex_put [.int .u64 ((lo r : Nat) : Int), .string (hs r)] [.int .u64 0, .string ⟨#[]⟩] 11 30 (.tmp 39) rfl (by kernel_rfl) (by simp [toG, upd]) rfl (fun w k h => put_natc _ _ _ _ w k h) ?_
 simp only [Act.put]
 refine lexG_nil ?_
 intro κ x4 hS
 replace hL0 := hL0.ghs hS [(11, [.int .u64 ((lo r : Nat) : Int), .string (hs r)]), (10, [.int .u64 ((zl u : Nat) : Int), .string (zh u), .bool (zs u)])] (by simp) (by intro p hp; simp only [List.mem_cons, List.not_mem_nil, or_false] at hp; rcases hp with rfl | rfl <;> exact ⟨_, by simp only [toG, upd]; rfl⟩)
 simp only [List.map_cons, List.map_nil, List.cons_append, List.nil_append] at hL0
 simp only [over_toG, over_nil, Act.put, zP]
 clear hS
 generalize κ 11 = k4_11 at *
 generalize κ 10 = k4_10 at *
 go_upto_region 4 with fail
 obtain ⟨α, iα, F, hF1, hF2⟩ := cls x4
 have hq0 := cls_box hF1 hL0 _ _ mZ
 simp only [zC, Nat.reduceAdd] at hq0
 have hq1 := cls_box hF1 hL0 _ _ (mK mZ)
 simp only [zC, Nat.reduceAdd] at hq1
 have hq2 := cls_box hF1 hL0 _ _ (mK (mK mZ))
 simp only [zC, Nat.reduceAdd] at hq2
 have hq3 := cls_box hF1 hL0 _ _ (mK (mK (mK mZ)))
 simp only [zC, Nat.reduceAdd] at hq3
 refine region_qs 7 (C := fun w' => ∃ x, w' = F x) (by kernel_rfl) (by kernel_rfl) (cls_drew hF2) ?_
 simp only [zT]
 repeat (go_big_quiet_step (first | fail | (go_at_call 120; with_reducible exact cls_call hF1 hF2 HU.out _) | (go_at_call 120; with_reducible exact cls_call hF1 hF2 HV.out _) | (go_at_call 172; with_reducible exact cls_call hF1 hF2 HL.out _)))
 refine wpQuiet_nil ?_
 rintro wq ⟨xq, rfl⟩
 replace hL0 := hL0.call (hF1 xq)
 clear  hq0 hq1 hq2 hq3 hF2
 generalize F xq = x5 at hL0 ⊢
 clear hF1 xq iα F α
 have hA := hL0.fc
 simp only [zF, Nat.reduceAdd] at hA
 obtain ⟨x6, hput1, hP⟩ := GL.named (hL0.put 5 (w.heap.size + 1 + 1) _ rfl [.int .u64 ((zl z : Nat) : Int), .string (zh z), .bool (zs z), .int .u64 ((lo f : Nat) : Int), .string (hs f)] rfl)
 simp only [setAll] at hput1
 simp only [List.set_cons_zero, List.set_cons_succ] at hP
 have hB1 := hP.fc
 simp only [zF, Nat.reduceAdd] at hB1
 replace hL0 := hP
 go_wp2_with fail
 exact bodyPost_ret (v := frV z f) (by simp [results, Tryz.results115, go_sem, hB1]) rfl ⟨rfl, hL0.bl⟩
theorem fsub_w (m n z : Int) (d e f : Nat) (HC : RT 115 #[frV m d, frV n e, .func (.func 146) #[] #[]] (frV z f)) (w : World) :
  Calls Tryz.prog 106 #[frV m d, frV n e] w fun xe w' => xe = .returned (frV z f) ∧ Below w.heap.size w w' := by
 have hL0 : GL w w [] := GL.start w
 replace HC := Lib.hid HC
 obtain ⟨x1, hweq, hL0⟩ := GL.named (((hL0.new rfl [.int .u64 ((zl m : Nat) : Int), .string (zh m), .bool (zs m), .int .u64 ((lo d : Nat) : Int), .string (hs d)] 34).new (K := w.heap.size + 1) (szA _ _) [.int .u64 ((zl n : Nat) : Int), .string (zh n), .bool (zs n), .int .u64 ((lo e : Nat) : Int), .string (hs e)] 34).new (K := w.heap.size + 1 + 1) (by simp only [World.size_alloc]) [.int .u64 0, .string ⟨#[]⟩, .bool false, .int .u64 0, .string ⟨#[]⟩] 34)
 go_enter Tryz.func106, Tryz.ntmps106
 have hN0 := cells_of _ 0 [] rfl (hL0.get _ _ (mK mZ))
 simp only [zF, Nat.reduceAdd] at hN0
 have hN1 := cells_of _ 0 [] rfl (hL0.get _ _ (mK (mK mZ)))
 simp only [zF, Nat.reduceAdd] at hN1
 go_wp2_with fail
 clear hN0 hN1
 with_reducible refine Calls.mono (HC.out _) ?_
 rintro e x2 ⟨rfl, hb⟩
 replace hL0 := hL0.call hb
 clear hb hweq
 have hA := hL0.fc
 simp only [zF, Nat.reduceAdd] at hA
 obtain ⟨x3, hput1, hP⟩ := GL.named (hL0.put 0 (w.heap.size + 1 + 1) _ rfl [.int .u64 ((zl z : Nat) : Int), .string (zh z), .bool (zs z), .int .u64 ((lo f : Nat) : Int), .string (hs f)] rfl)
 simp only [setAll] at hput1
 simp only [List.set_cons_zero, List.set_cons_succ] at hP
 have hB1 := hP.fc
 simp only [zF, Nat.reduceAdd] at hB1
 replace hL0 := hP
 go_wp2_with fail
 exact bodyPost_ret (v := frV z f) (by simp [results, Tryz.results106, go_sem, hB1]) rfl ⟨rfl, hL0.bl⟩
end Go.Proofs.YtaimebjkidegiaaGreatDoor
namespace Go.Proofs.YtaimebjkidegiaaGreatDoor
open Go.RowKit
attribute [local irreducible] lo hs sm s64 c64 d64 b64 mh ml pd pc qd qc val hiB str cmpI srD lz nb isq decB zl zh zs
theorem ffrom_w (n u z : Int) (d v f : Nat) (HO : RT 17 #[.int .u64 0] (natV 0)) (HC : RT 171 #[intV n, natV d] (.tuple #[intV u, natV v])) (HL : RT 172 #[intV u, natV v] (frV z f)) (hd : d ≠ 0) (w : World) :
  Calls Tryz.prog 122 #[intV n, natV d] w fun xe w' => xe = .returned (.tuple #[frV z f, .int .i64 0]) ∧ Below w.heap.size w w' := by
 have hL0 : GL w w [] := GL.start w
 replace HO := Lib.hid HO
 replace HC := Lib.hid HC
 replace HL := Lib.hid HL
 have hz := ne_nat hd
 clear hd
 rcases hz with e0 | ⟨e0, e1⟩
 all_goals (
  obtain ⟨x1, hweq, hL0⟩ := GL.named (((hL0.new rfl [.int .u64 ((zl n : Nat) : Int), .string (zh n), .bool (zs n)] 32).new (K := w.heap.size + 1) (szA _ _) [.int .u64 ((lo d : Nat) : Int), .string (hs d)] 30).new (K := w.heap.size + 1 + 1) (by simp only [World.size_alloc]) [.int .u64 0, .string ⟨#[]⟩, .bool false, .int .u64 0, .string ⟨#[]⟩] 34)
  go_enter Tryz.func122, Tryz.ntmps122
  go_upto_region 1 with fail
  clear hweq
  obtain ⟨α, iα, F, hF1, hF2⟩ := cls x1
  have hq0 := cls_box hF1 hL0 _ _ (mK mZ)
  simp only [zC, Nat.reduceAdd] at hq0
  refine region_qs 3 (C := fun w' => ∃ x, w' = F x) (by kernel_rfl) (by kernel_rfl) (cls_drew hF2) ?_
  simp only [zT]
  repeat (go_big_quiet_step (first | fail | (go_at_call 17; with_reducible exact cls_call hF1 hF2 HO.out _)))
  refine wpQuiet_nil ?_
  rintro wq ⟨xq, rfl⟩
  replace hL0 := hL0.call (hF1 xq)
  clear  hq0 hF2
  generalize F xq = x2 at hL0 ⊢
  clear hF1 xq iα F α
  have hN0 := cells_of _ 0 [] rfl (hL0.get _ _ (mK mZ))
  simp only [zF, Nat.reduceAdd] at hN0
  have hN1 := cells_of _ 0 [] rfl (hL0.get _ _ (mK (mK mZ)))
  simp only [zF, Nat.reduceAdd] at hN1
  go_wp2_with fail
  clear hN0 hN1
  with_reducible refine Calls.mono (HC.out _) ?_
  rintro e x3 ⟨rfl, hb⟩
  replace hL0 := hL0.call hb
  clear hb
  go_wp2_with fail
  with_reducible refine Calls.mono (HL.out _) ?_
  rintro e x4 ⟨rfl, hb⟩
  replace hL0 := hL0.call hb
  clear hb
  have hA := hL0.fc
  simp only [zF, Nat.reduceAdd] at hA
  obtain ⟨x5, hput1, hP⟩ := GL.named (hL0.put 0 (w.heap.size + 1 + 1) _ rfl [.int .u64 ((zl z : Nat) : Int), .string (zh z), .bool (zs z), .int .u64 ((lo f : Nat) : Int), .string (hs f)] rfl)
  simp only [setAll] at hput1
  simp only [List.set_cons_zero, List.set_cons_succ] at hP
  have hB1 := hP.fc
  simp only [zF, Nat.reduceAdd] at hB1
  replace hL0 := hP
  go_wp2_with fail
  exact bodyPost_ret (v := .tuple #[frV z f, .int .i64 0]) (by simp [results, Tryz.results122, go_sem, hB1]) rfl ⟨rfl, hL0.bl⟩)
theorem ftext_whole (n : Int) (s : ByteArray) (HW : RT 119 #[frV n 0] (.bool true)) (HT : RK Tab 143 #[intV n] (.string s)) (w : World) (htab : Tab w) :
  Calls Tryz.prog 137 #[frV n 0] w fun xe w' => xe = .returned (.string s) ∧ Below w.heap.size w w' := by
 have hL0 : GL w w [] := GL.start w
 replace HW := Lib.hid HW
 replace HT := Lib.hid HT
 obtain ⟨x1, hweq, hL0⟩ := GL.named (hL0.new rfl [.int .u64 ((zl n : Nat) : Int), .string (zh n), .bool (zs n), .int .u64 ((lo 0 : Nat) : Int), .string (hs 0)] 34)
 go_enter Tryz.func137, Tryz.ntmps137
 have hN0 := cells_of _ 0 [] rfl (hL0.get _ _ mZ)
 simp only [zF, Nat.reduceAdd] at hN0
 go_wp2_with fail
 clear hN0
 with_reducible refine Calls.mono (HW.out _) ?_
 rintro e x2 ⟨rfl, hb⟩
 replace hL0 := hL0.call hb
 clear hb hweq
 have hN0 := cells_of _ 0 [] rfl (hL0.get _ _ mZ)
 simp only [zF, Nat.reduceAdd] at hN0
 go_wp2_with fail
 clear hN0
 with_reducible refine Calls.mono (HT.out _ (htab.below hL0.bl)) ?_
 rintro e x3 ⟨rfl, hb⟩
 replace hL0 := hL0.call hb
 clear hb
 go_wp2_with fail
 exact bodyPost_ret (v := .string s) (by simp [results, Tryz.results137, go_sem]) rfl ⟨rfl, hL0.bl⟩
theorem ftext_part (n : Int) (e : Nat) (s t : ByteArray) (HW : RT 119 #[frV n e] (.bool false)) (HT : RK Tab 143 #[intV n] (.string s)) (HU : RK Tab 144 #[natV e] (.string t)) (h1 : ((s.size : Nat) : Int) ≤ 20000000) (h2 : ((t.size : Nat) : Int) ≤ 20000000) (w : World) (htab : Tab w) :
  Calls Tryz.prog 137 #[frV n e] w fun xe w' => xe = .returned (.string ((s ++ ByteArray.mk #[47]) ++ t)) ∧ Below w.heap.size w w' := by
 have hL0 : GL w w [] := GL.start w
 replace HW := Lib.hid HW
 replace HT := Lib.hid HT
 replace HU := Lib.hid HU
 obtain ⟨x1, hweq, hL0⟩ := GL.named (hL0.new rfl [.int .u64 ((zl n : Nat) : Int), .string (zh n), .bool (zs n), .int .u64 ((lo e : Nat) : Int), .string (hs e)] 34)
 go_enter Tryz.func137, Tryz.ntmps137
 have hN0 := cells_of _ 0 [] rfl (hL0.get _ _ mZ)
 simp only [zF, Nat.reduceAdd] at hN0
 go_wp2_with fail
 clear hN0
 with_reducible refine Calls.mono (HW.out _) ?_
 rintro e x2 ⟨rfl, hb⟩
 replace hL0 := hL0.call hb
 clear hb hweq
 go_upto_region 3 with fail
 have ht := htab.below hL0.bl
 obtain ⟨α, iα, F, hF1, hF2⟩ := cls x2
 have hq0 := cls_box hF1 hL0 _ _ mZ
 simp only [zC, Nat.reduceAdd] at hq0
 refine region_qs 9 (C := fun w' => ∃ x, w' = F x) (by kernel_rfl) (by kernel_rfl) (cls_drew hF2) ?_
 simp only [zT]
 repeat (go_big_quiet_step (first | fail | (go_at_call 143; with_reducible exact cls_callT hF1 hF2 ht HT.out _) | (go_at_call 144; with_reducible exact cls_callT hF1 hF2 ht HU.out _)))
 refine wpQuiet_nil ?_
 rintro wq ⟨xq, rfl⟩
 replace hL0 := hL0.call (hF1 xq)
 clear  hq0 hF2
 generalize F xq = x3 at hL0 ⊢
 clear hF1 xq iα F α
 clear ht
 go_wp2_with fail
 exact bodyPost_ret (v := .string ((s ++ ByteArray.mk #[47]) ++ t)) (by simp [results, Tryz.results137, go_sem]) rfl ⟨rfl, hL0.bl⟩
end Go.Proofs.YtaimebjkidegiaaGreatDoor
namespace Go.Proofs.YtaimebjkidegiaaGreatDoor
open Go.RowKit
attribute [local irreducible] lo hs sm s64 c64 d64 b64 mh ml pd pc qd qc val hiB str cmpI srD lz nb isq decB zl zh zs
theorem fe_den (q : Rat) : q.den = if fe q = 0 then 1 else fe q := by
 unfold fe
 have := q.den_nz
 split <;> simp_all
theorem frV_z (n : Int) : frV n 0 = .agg #[.int .u64 ((zl n : Nat) : Int), .string (zh n), .bool (zs n), .int .u64 0, .string ⟨#[]⟩] := by unfold frV; rw [lo_small Bs_pos, hs_small Bs_pos]; rfl
theorem fracV_int (z : Int) : fracV (z : Rat) = frV z 0 := rfl
theorem fracV_of {q : Rat} {n : Int} {d : Nat} (hn : q.num = n) (hd : q.den = d) : fracV q = frV n (if d = 1 then 0 else d) := by subst hn hd; rfl
theorem one_o (w : World) : Calls Tryz.prog 17 #[.int .u64 1] w fun e w' => e = .returned (natV 1) ∧ Below w.heap.size w w' := of_val 1 1 rfl (by unfold Bs; omega) w
theorem zero_o (w : World) : Calls Tryz.prog 17 #[.int .u64 0] w fun e w' => e = .returned (natV 0) ∧ Below w.heap.size w w' := of_val 0 0 rfl (by unfold Bs; omega) w
theorem dec_sgn (z : Int) : decide (sgn z < 0) = decide (z < 0) := by
 have : sgn z < 0 ↔ z < 0 := by unfold sgn; split <;> (try split) <;> omega
 simp only [this]
theorem whole_raw (n : Int) (e : Nat) (w : World) : Calls Tryz.prog 119 #[frV n e] w fun x w' => x = .returned (.bool (decide (e = 0))) ∧ Below w.heap.size w w' := by
 by_cases h : e = 0
 ·subst h; rw [decide_eq_true rfl]; exact whole_yes n w
 ·rw [decide_eq_false h]; exact whole_no n e h w
theorem den_raw (n : Int) (e : Nat) (w : World) : Calls Tryz.prog 45 #[frV n e] w fun x w' => x = .returned (natV (if e = 0 then 1 else e)) ∧ Below w.heap.size w w' := by
 by_cases h : e = 0
 ·subst h; rw [if_pos rfl]; exact den_one_w n (whole_yes n) one_o w
 ·rw [if_neg h]; exact den_part_w n e (whole_no n e h) w
theorem denF (q : Rat) (w : World) : Calls Tryz.prog 45 #[fracV q] w fun x w' => x = .returned (natV q.den) ∧ Below w.heap.size w w' := by
 have h := den_raw q.num (fe q) w
 rw [← fe_den] at h
 exact h
theorem lowest_raw (n : Int) (d : Nat) (w : World) : Calls Tryz.prog 172 #[intV n, natV d] w fun x w' => x = .returned (frV n (if d = 1 then 0 else d)) ∧ Below w.heap.size w w' := by
 by_cases h : d = 1
 ·subst h; rw [if_pos rfl, frV_z]; exact lowest_one n one_o w
 ·rw [if_neg h]; exact lowest_part n d one_o h w
theorem lowestF {q : Rat} {n : Int} {d : Nat} (hn : q.num = n) (hd : q.den = d) (w : World) : Calls Tryz.prog 172 #[intV n, natV d] w fun x w' => x = .returned (fracV q) ∧ Below w.heap.size w w' := by
 rw [fracV_of hn hd]; exact lowest_raw n d w
theorem pon_raw (n g : Nat) (hg : g ≠ 0) (hn : (digs n).length ≤ 100000000) (w : World) : Calls Tryz.prog 184 #[natV n, natV g] w fun x w' => x = .returned (natV (n / g)) ∧ Below w.heap.size w w' := by
 by_cases h : g = 1
 ·subst h; rw [Nat.div_one]; exact pon_one n one_o w
 ·exact pon_div n g (n / g) (n % g) one_o (fun w => div_pos n g (by omega) (by omega) w) h w
theorem tdiv_sgn (z : Int) (g : Nat) : z.tdiv (g : Int) = if decide (z < 0) then -((z.natAbs / g : Nat) : Int) else ((z.natAbs / g : Nat) : Int) := by
 by_cases h : z < 0
 ·obtain ⟨n, rfl⟩ : ∃ n : Nat, z = -(n : Int) := ⟨z.natAbs, by omega⟩
  rw [decide_eq_true h, if_pos rfl, Int.natAbs_neg, Int.natAbs_natCast, Int.neg_tdiv, ← Int.ofNat_tdiv]
 ·obtain ⟨n, rfl⟩ : ∃ n : Nat, z = (n : Int) := ⟨z.natAbs, by omega⟩
  rw [decide_eq_false h, Int.natAbs_natCast, ← Int.ofNat_tdiv]; rfl
theorem part_raw (z : Int) (g : Nat) (hg : g ≠ 0) (hz : dI z ≤ 100000000) (w : World) : Calls Tryz.prog 216 #[intV z, natV g] w fun x w' => x = .returned (intV (z.tdiv g)) ∧ Below w.heap.size w w' := by
 have hF := fun w => fromI (decide (z < 0)) (z.natAbs / g) (z.tdiv g) (tdiv_sgn z g) w
 have hs := dec_sgn z
 by_cases h : z < 0
 ·rw [decide_eq_true h] at hF hs
  exact part_true z (sgn z) _ _ g _ (signI z) (absI z) (pon_raw _ g hg hz) hF hs w
 ·rw [decide_eq_false h] at hF hs
  exact part_false z (sgn z) _ _ g _ (signI z) (absI z) (pon_raw _ g hg hz) hF hs w
theorem cancel_raw (z : Int) (d : Nat) (hd : d ≠ 0) (hz : dI z ≤ 100000000) (hl : (digs d).length ≤ 100000000) (w : World) :
  Calls Tryz.prog 171 #[intV z, natV d] w fun x w' => x = .returned (.tuple #[intV (z.tdiv (Nat.gcd z.natAbs d : Nat)), natV (d / Nat.gcd z.natAbs d)]) ∧ Below w.heap.size w w' := by
 have hg : Nat.gcd z.natAbs d ≠ 0 := fun e => hd (Nat.gcd_eq_zero_iff.1 e).2
 exact cancel_w z _ _ d _ _ (absI z) (fun w => gcd_any z.natAbs d (Nat.le_trans hz (by omega)) (by omega) w) (part_raw z _ hg hz) (pon_raw d _ hg hl) w
theorem times_raw (z : Int) (d : Nat) (hz : dI z ≤ 100000000) (hd : (digs d).length ≤ 100000000) (w : World) : Calls Tryz.prog 185 #[intV z, natV d] w fun x w' => x = .returned (intV (z * (d : Int))) ∧ Below w.heap.size w w' := by
 by_cases h : d = 1
 ·subst h; rw [show z * ((1 : Nat) : Int) = z by omega]; exact times_one z one_o w
 ·exact times_mul z (d : Int) _ d one_o (fun w => fromI false d (d : Int) rfl w) (fun w => mulI z (d : Int) (by omega) (by rw [dI_nat]; omega) w) h w
theorem intF (k : Int) (h1 : -9223372036854775808 ≤ k) (h2 : k < 9223372036854775808) (w : World) : Calls Tryz.prog 36 #[.int .i64 k] w fun x w' => x = .returned (fracV (k : Rat)) ∧ Below w.heap.size w w' := by
 rw [fracV_int, frV_z]; exact int_w k k (fun w => ofI k h1 h2 w) w
theorem fromF (z : Int) (d : Nat) (hd : d ≠ 0) (hz : dI z ≤ 100000000) (hl : (digs d).length ≤ 100000000) (w : World) : Calls Tryz.prog 122 #[intV z, natV d] w fun x w' => x = .returned (.tuple #[fracV (mkRat z d), .int .i64 0]) ∧ Below w.heap.size w w' := by
 obtain ⟨h1, h2⟩ := canc (z := z) hd
 exact ffrom_w z _ _ d _ _ zero_o (cancel_raw z d hd hz hl) (fun w => lowestF h1 h2 w) hd w
end Go.Proofs.YtaimebjkidegiaaGreatDoor
namespace Go.Proofs.YtaimebjkidegiaaGreatDoor
open Go.RowKit
attribute [local irreducible] lo hs sm s64 c64 d64 b64 mh ml pd pc qd qc val hiB str cmpI srD lz nb isq decB zl zh zs
theorem negF (q : Rat) (w : World) : Calls Tryz.prog 257 #[fracV q] w fun x w' => x = .returned (fracV (-q)) ∧ Below w.heap.size w w' := fneg_w q.num (-q.num) (fe q) (fun w => negI q.num w) w
theorem floorF (q : Rat) (k : Nat) (hq : Sz q k) (hk : k ≤ 100000000) (w : World) : Calls Tryz.prog 228 #[fracV q] w fun x w' => x = .returned (intV q.floor) ∧ Below w.heap.size w w' := by
 rw [rfloor]
 exact floor_w q.num (q.den : Int) _ (q.num % (q.den : Int)) (fe q) q.den (denF q) (fun w => fromI false q.den _ rfl w) (fun w => divI q.num (q.den : Int) (by have := q.den_nz; omega) (Nat.le_trans hq.1 (by omega)) (by rw [dI_nat]; exact Nat.le_trans hq.2 (by omega)) w) w
theorem ceilF (q : Rat) (k : Nat) (hq : Sz q k) (hk : k ≤ 100000000) (w : World) : Calls Tryz.prog 229 #[fracV q] w fun x w' => x = .returned (intV (rceil q)) ∧ Below w.heap.size w w' :=
 ceil_w q.num (-q.num) (-q).floor _ (fe q) (negF q) (floorF (-q) k hq.neg hk) (fun w => negI _ w) w
theorem cmpF (p q : Rat) (k : Nat) (hp : Sz p k) (hq : Sz q k) (hk : k ≤ 100000000) (w : World) : Calls Tryz.prog 255 #[fracV p, fracV q] w fun x w' => x = .returned (.int .i64 (cmpQ p q)) ∧ Below w.heap.size w w' := by
 rw [cmpQ_parts]
 exact fcmp_w p.num q.num _ _ _ (fe p) (fe q) p.den q.den (denF p) (denF q) (times_raw p.num q.den (Nat.le_trans hp.1 hk) (Nat.le_trans hq.2 hk)) (times_raw q.num p.den (Nat.le_trans hq.1 hk) (Nat.le_trans hp.2 hk)) (fun w => cmpII _ _ w) w
theorem tdiv_dI {z : Int} {g k : Nat} (h : dI z ≤ k) : dI (z.tdiv (g : Int)) ≤ k := by
 refine Nat.le_trans (dI_mono ?_) h
 rw [Int.natAbs_tdiv]; exact Nat.div_le_self _ _
theorem ndiv_digs {n g k : Nat} (h : (digs n).length ≤ k) : (digs (n / g)).length ≤ k := Nat.le_trans (digs_mono (Nat.div_le_self _ _)) h
theorem mulF (p q : Rat) (k : Nat) (hp : Sz p k) (hq : Sz q k) (hk : k ≤ 100000000) (w : World) : Calls Tryz.prog 95 #[fracV p, fracV q] w fun x w' => x = .returned (fracV (p * q)) ∧ Below w.heap.size w w' := by
 obtain ⟨h1, h2⟩ := rmul_parts p q
 rw [Nat.mul_comm] at h2
 exact fmul_w p.num q.num _ _ _ _ (fe p) (fe q) p.den q.den _ _ _ _ (denF p) (denF q) (cancel_raw p.num q.den q.den_nz (Nat.le_trans hp.1 hk) (Nat.le_trans hq.2 hk)) (cancel_raw q.num p.den p.den_nz (Nat.le_trans hq.1 hk) (Nat.le_trans hp.2 hk))
  (fun w => mulI _ _ (Nat.le_trans (tdiv_dI hp.1) (by omega)) (Nat.le_trans (tdiv_dI hq.1) (by omega)) w) (fun w => mul_any _ _ (Nat.le_trans (ndiv_digs hp.2) (by omega)) (Nat.le_trans (ndiv_digs hq.2) (by omega)) w) (fun w => lowestF h1 h2 w) w
theorem frV_00 : frV 0 0 = .agg #[.int .u64 0, .string ⟨#[]⟩, .bool false, .int .u64 0, .string ⟨#[]⟩] := by
 rw [frV_z, (z0).1, (z0).2.1, (z0).2.2]; rfl
theorem subF (p q : Rat) (k : Nat) (hp : Sz p k) (hq : Sz q k) (hk : k ≤ 10000000) (w : World) : Calls Tryz.prog 106 #[fracV p, fracV q] w fun x w' => x = .returned (fracV (p - q)) ∧ Below w.heap.size w w' := by
 have hp' := radd_parts p (-q)
 rw [← Rat.sub_eq_add_neg, Rat.neg_num, Rat.neg_den, Int.neg_mul, ← Int.sub_eq_add_neg] at hp'
 obtain ⟨h1, h2⟩ := hp'
 have hg : Nat.gcd p.den q.den ≠ 0 := fun e => p.den_nz (Nat.gcd_eq_zero_iff.1 e).1
 have l1 : (digs (p.den / Nat.gcd p.den q.den)).length ≤ k := ndiv_digs hp.2
 have l2 : (digs (q.den / Nat.gcd p.den q.den)).length ≤ k := ndiv_digs hq.2
 have l3 : (digs (Nat.gcd p.den q.den)).length ≤ k := Nat.le_trans (digs_mono (Nat.gcd_le_left _ p.den_pos)) hp.2
 have lx : dI (p.num * ((q.den / Nat.gcd p.den q.den : Nat) : Int)) ≤ k + k := dI_mul hp.1 (by rw [dI_nat]; exact l2)
 have ly : dI (q.num * ((p.den / Nat.gcd p.den q.den : Nat) : Int)) ≤ k + k := dI_mul hq.1 (by rw [dI_nat]; exact l1)
 have ls := dI_sub lx ly
 refine fsub_w p.num q.num _ (fe p) (fe q) _ ?_ w
 exact fcombine_sub p.num q.num _ _ _ _ _ (fe p) (fe q) p.den q.den _ _ _ _ _ _ _ (denF p) (denF q) (fun w => gcd_any _ _ (Nat.le_trans hp.2 (by omega)) (Nat.le_trans hq.2 (by omega)) w)
  (pon_raw _ _ hg (Nat.le_trans hp.2 (by omega))) (pon_raw _ _ hg (Nat.le_trans hq.2 (by omega))) (times_raw _ _ (Nat.le_trans hp.1 (by omega)) (by omega)) (times_raw _ _ (Nat.le_trans hq.1 (by omega)) (by omega))
  (fun w => subI _ _ (by omega) (by omega) w) (cancel_raw _ _ hg (by omega) (by omega)) (fun w => mul_any _ _ (by omega) (by omega) w)
  (fun w => mul_any _ _ (Nat.le_trans (digs_mul_le l1 l2) (by omega)) (Nat.le_trans (ndiv_digs l3) (by omega)) w) (fun w => lowestF h1 h2 w)
theorem of_val_q (n d : Int) (h0 : d ≠ 0) : mkRat (if d < 0 then -n else n) d.natAbs = (n : Rat) / (d : Rat) := by
 rw [Rat.mkRat_eq_div]
 by_cases h : d < 0
 ·rw [if_pos h]
  have e : ((d.natAbs : Nat) : Rat) = -(d : Rat) := by
   rw [show ((d.natAbs : Nat) : Rat) = (((d.natAbs : Nat) : Int) : Rat) from (Rat.intCast_natCast _).symm, show ((d.natAbs : Nat) : Int) = -d by omega, Rat.intCast_neg]
  rw [e, Rat.intCast_neg]
  have hd : (d : Rat) ≠ 0 := by simpa using h0
  grind
 ·rw [if_neg h, show ((d.natAbs : Nat) : Rat) = (((d.natAbs : Nat) : Int) : Rat) from (Rat.intCast_natCast _).symm, show ((d.natAbs : Nat) : Int) = d by omega]
theorem i64_dI {z : Int} (h1 : -9223372036854775808 ≤ z) (h2 : z < 9223372036854775808) : dI z ≤ 1 := digs_length_iff.2 (by unfold Bs; omega)
theorem ofF (n d : Int) (a1 : -9223372036854775808 ≤ n) (a2 : n < 9223372036854775808) (b1 : -9223372036854775808 ≤ d) (b2 : d < 9223372036854775808) (h0 : d ≠ 0) (w : World) :
  Calls Tryz.prog 47 #[.int .i64 n, .int .i64 d] w fun x w' => x = .returned (.tuple #[fracV ((n : Rat) / (d : Rat)), .int .i64 0]) ∧ Below w.heap.size w w' := by
 rw [← of_val_q n d h0]
 have hs := dec_sgn d
 have ln := i64_dI a1 a2
 have ld : (digs d.natAbs).length ≤ 1 := i64_dI b1 b2
 by_cases h : d < 0
 ·rw [decide_eq_true h] at hs
  rw [if_pos h]
  exact fof_true n d (sgn d) (-n) _ n d _ _ 0 (fun w => ofI n a1 a2 w) (fun w => ofI d b1 b2 w) (signI d) (fun w => negI n w) (absI d) (fromF (-n) d.natAbs (by omega) (by rw [dI_neg]; omega) (by omega)) hs w
 ·rw [decide_eq_false h] at hs
  rw [if_neg h]
  exact fof_false n d (sgn d) n _ n d _ _ 0 (fun w => ofI n a1 a2 w) (fun w => ofI d b1 b2 w) (signI d) (absI d) (fromF n d.natAbs (by omega) (by omega) (by omega)) hs w
end Go.Proofs.YtaimebjkidegiaaGreatDoor
namespace Go.Proofs.YtaimebjkidegiaaGreatDoor
open Go.RowKit
attribute [local irreducible] lo hs sm s64 c64 d64 b64 mh ml pd pc qd qc val hiB str cmpI srD lz nb isq decB zl zh zs fe
theorem dwhole_w (z c : Int) (q : Rat) (HO : RT 17 #[.int .u64 1] (natV 1)) (HF : RT 122 #[intV z, natV 1] (.tuple #[fracV q, .int .i64 c])) (w : World) :
  Calls Tryz.prog 196 #[intV z] w fun xe w' => xe = .returned (fracV q) ∧ Below w.heap.size w w' := by
 have hL0 : GL w w [] := GL.start w
 replace HO := Lib.hid HO
 replace HF := Lib.hid HF
 obtain ⟨x1, hweq, hL0⟩ := GL.named ((hL0.new rfl [.int .u64 ((zl z : Nat) : Int), .string (zh z), .bool (zs z)] 32).new (K := w.heap.size + 1) (szA _ _) [.int .u64 0, .string ⟨#[]⟩, .bool false, .int .u64 0, .string ⟨#[]⟩] 34)
 go_enter Tryz.func196, Tryz.ntmps196
 go_upto_region 1 with fail
 clear hweq
 refine region_gh (by kernel_rfl) (by kernel_rfl) ?_
 refine lex_seg (gl := []) 6 (by kernel_rfl) ?_
 intro α iα F hF1 hF2
 have hq := GL.seg hF1 hL0
 simp only [zC, Nat.reduceAdd] at hq
 simp only [zT]
 repeat (go_big_quiet_step (first | fail | (go_at_call 17; with_reducible exact seg_call hF2 HO.out _) | (go_at_call 122; with_reducible exact seg_call hF2 HF.out _)))
 refine wpQuiet_nil ?_
 clear hq hF1 hF2 iα F α
 refine lex_new [.int .u64 0, .string ⟨#[]⟩, .bool false, .int .u64 0, .string ⟨#[]⟩] 3 34 34 rfl rfl (of_decide_eq_true (by kernel_rfl)) (by kernel_rfl) rfl new_frac ?_
 simp only [Act.put, zP]
 refine lex_put [.int .u64 ((zl q.num : Nat) : Int), .string (zh q.num), .bool (zs q.num), .int .u64 ((lo (fe q) : Nat) : Int), .string (hs (fe q))] [.int .u64 0, .string ⟨#[]⟩, .bool false, .int .u64 0, .string ⟨#[]⟩] 3 34 (.tmp 9) rfl (by kernel_rfl) (by simp [toG, upd]) rfl (fun w k h => put_frac _ _ _ _ _ _ _ _ _ _ w k h) ?_
 simp only [Act.put]
 refine lex_seg (gl := [(3, [.int .u64 ((zl q.num : Nat) : Int), .string (zh q.num), .bool (zs q.num), .int .u64 ((lo (fe q) : Nat) : Int), .string (hs (fe q))], true), (3, [.int .u64 0, .string ⟨#[]⟩, .bool false, .int .u64 0, .string ⟨#[]⟩], false)]) 1 (by kernel_rfl) ?_
 intro α iα F hF1 hF2
 have hq := GL.seg hF1 hL0
 simp only [zC, Nat.reduceAdd] at hq
 simp only [zT]
 repeat (go_big_quiet_step (first | fail | (go_at_call 17; with_reducible exact seg_call hF2 HO.out _) | (go_at_call 122; with_reducible exact seg_call hF2 HF.out _)))
 refine wpQuiet_nil ?_
 clear hq hF1 hF2 iα F α
 refine lexG_nil ?_
 intro κ x2 hS
 replace hL0 := hL0.ghs hS [(3, [.int .u64 ((zl q.num : Nat) : Int), .string (zh q.num), .bool (zs q.num), .int .u64 ((lo (fe q) : Nat) : Int), .string (hs (fe q))])] (by simp) (by intro p hp; simp only [List.mem_cons, List.not_mem_nil, or_false] at hp; rcases hp with rfl <;> exact ⟨_, by simp only [toG, upd]; rfl⟩)
 simp only [List.map_cons, List.map_nil, List.cons_append, List.nil_append] at hL0
 simp only [over_toG, over_nil, Act.put, zP]
 clear hS
 generalize κ 3 = k2_3 at *
 have hA := hL0.fc
 simp only [zF, Nat.reduceAdd] at hA
 obtain ⟨x3, hput1, hP⟩ := GL.named (hL0.put 1 (w.heap.size + 1) _ rfl [.int .u64 ((zl q.num : Nat) : Int), .string (zh q.num), .bool (zs q.num), .int .u64 ((lo (fe q) : Nat) : Int), .string (hs (fe q))] rfl)
 simp only [setAll] at hput1
 simp only [List.set_cons_zero, List.set_cons_succ] at hP
 have hB1 := hP.fc
 simp only [zF, Nat.reduceAdd] at hB1
 replace hL0 := hP
 go_wp2_with fail
 exact bodyPost_ret (v := fracV q) (by simp [results, Tryz.results196, go_sem, hB1]) rfl ⟨rfl, hL0.bl⟩
theorem dtens_w (n c : Int) (u : Nat) (HO : RT 17 #[.int .u64 10] (natV 10)) (HP : RT 197 #[natV 10, .int .i64 n] (.tuple #[natV u, .int .i64 c])) (w : World) :
  Calls Tryz.prog 134 #[.int .i64 n] w fun xe w' => xe = .returned (natV u) ∧ Below w.heap.size w w' := by
 have hL0 : GL w w [] := GL.start w
 replace HO := Lib.hid HO
 replace HP := Lib.hid HP
 obtain ⟨x1, hweq, hL0⟩ := GL.named (hL0.new rfl [.int .u64 0, .string ⟨#[]⟩] 30)
 go_enter Tryz.func134, Tryz.ntmps134
 go_wp2_with fail
 with_reducible refine Calls.mono (HO.out _) ?_
 rintro e x2 ⟨rfl, hb⟩
 replace hL0 := hL0.call hb
 clear hb hweq
 go_wp2_with fail
 with_reducible refine Calls.mono (HP.out _) ?_
 rintro e x3 ⟨rfl, hb⟩
 replace hL0 := hL0.call hb
 clear hb
 obtain ⟨x4, hweq, hL0⟩ := GL.named (hL0.new rfl [.int .u64 ((lo u : Nat) : Int), .string (hs u)] 30)
 have hA := hL0.fc
 simp only [zF, Nat.reduceAdd] at hA
 obtain ⟨x5, hput1, hP⟩ := GL.named (hL0.put 1 (w.heap.size) _ rfl [.int .u64 ((lo u : Nat) : Int), .string (hs u)] rfl)
 simp only [setAll] at hput1
 simp only [List.set_cons_zero, List.set_cons_succ] at hP
 have hB1 := hP.fc
 simp only [zF, Nat.reduceAdd] at hB1
 replace hL0 := hP
 go_wp2_with fail
 exact bodyPost_ret (v := natV u) (by simp [results, Tryz.results134, go_sem, hB1]) rfl ⟨rfl, hL0.bl⟩
theorem dnear_lt (a h p r : Rat) (z c : Int) (HF : RT 228 #[fracV a] (intV z)) (HH : RT 47 #[.int .i64 1, .int .i64 2] (.tuple #[fracV h, .int .i64 c])) (HW : RT 196 #[intV z] (fracV p)) (HB : RT 106 #[fracV a, fracV p] (fracV r)) (HC : RT 255 #[fracV r, fracV h] (.int .i64 (-1))) (w : World) :
  Calls Tryz.prog 227 #[fracV a] w fun xe w' => xe = .returned (.bool false) ∧ Below w.heap.size w w' := by
 have hL0 : GL w w [] := GL.start w
 replace HF := Lib.hid HF
 replace HH := Lib.hid HH
 replace HW := Lib.hid HW
 replace HB := Lib.hid HB
 replace HC := Lib.hid HC
 obtain ⟨x1, hweq, hL0⟩ := GL.named (hL0.new rfl [.int .u64 ((zl a.num : Nat) : Int), .string (zh a.num), .bool (zs a.num), .int .u64 ((lo (fe a) : Nat) : Int), .string (hs (fe a))] 34)
 go_enter Tryz.func227, Tryz.ntmps227
 have hN0 := cells_of _ 0 [] rfl (hL0.get _ _ mZ)
 simp only [zF, Nat.reduceAdd] at hN0
 go_wp2_with fail
 clear hN0
 with_reducible refine Calls.mono (HF.out _) ?_
 rintro e x2 ⟨rfl, hb⟩
 replace hL0 := hL0.call hb
 clear hb hweq
 obtain ⟨x3, hweq, hL0⟩ := GL.named (hL0.new rfl [.int .u64 ((zl z : Nat) : Int), .string (zh z), .bool (zs z)] 32)
 go_wp2_with fail
 with_reducible refine Calls.mono (HH.out _) ?_
 rintro e x4 ⟨rfl, hb⟩
 replace hL0 := hL0.call hb
 clear hb hweq
 obtain ⟨x5, hweq, hL0⟩ := GL.named (hL0.new rfl [.int .u64 ((zl h.num : Nat) : Int), .string (zh h.num), .bool (zs h.num), .int .u64 ((lo (fe h) : Nat) : Int), .string (hs (fe h))] 34)
 go_upto_region 3 with fail
 clear hweq
 obtain ⟨α, iα, F, hF1, hF2⟩ := cls x5
 have hq0 := cls_box hF1 hL0 _ _ mZ
 simp only [zC, Nat.reduceAdd] at hq0
 have hq1 := cls_box hF1 hL0 _ _ (mK mZ)
 simp only [zC, Nat.reduceAdd] at hq1
 have hq2 := cls_box hF1 hL0 _ _ (mK (mK mZ))
 simp only [zC, Nat.reduceAdd] at hq2
 refine region_qs 6 (C := fun w' => ∃ x, w' = F x) (by kernel_rfl) (by kernel_rfl) (cls_drew hF2) ?_
 simp only [zT]
 repeat (go_big_quiet_step (first | fail | (go_at_call 196; with_reducible exact cls_call hF1 hF2 HW.out _) | (go_at_call 106; with_reducible exact cls_call hF1 hF2 HB.out _) | (go_at_call 255; with_reducible exact cls_call hF1 hF2 HC.out _)))
 refine wpQuiet_nil ?_
 rintro wq ⟨xq, rfl⟩
 replace hL0 := hL0.call (hF1 xq)
 clear  hq0 hq1 hq2 hF2
 generalize F xq = x6 at hL0 ⊢
 clear hF1 xq iα F α
 go_wp2_with fail
 exact bodyPost_ret (v := .bool false) (by simp [results, Tryz.results227, go_sem]) rfl ⟨rfl, hL0.bl⟩
theorem dnear_gt (a h p r : Rat) (z c : Int) (HF : RT 228 #[fracV a] (intV z)) (HH : RT 47 #[.int .i64 1, .int .i64 2] (.tuple #[fracV h, .int .i64 c])) (HW : RT 196 #[intV z] (fracV p)) (HB : RT 106 #[fracV a, fracV p] (fracV r)) (HC : RT 255 #[fracV r, fracV h] (.int .i64 1)) (w : World) :
  Calls Tryz.prog 227 #[fracV a] w fun xe w' => xe = .returned (.bool true) ∧ Below w.heap.size w w' := by
 have hL0 : GL w w [] := GL.start w
 replace HF := Lib.hid HF
 replace HH := Lib.hid HH
 replace HW := Lib.hid HW
 replace HB := Lib.hid HB
 replace HC := Lib.hid HC
 obtain ⟨x1, hweq, hL0⟩ := GL.named (hL0.new rfl [.int .u64 ((zl a.num : Nat) : Int), .string (zh a.num), .bool (zs a.num), .int .u64 ((lo (fe a) : Nat) : Int), .string (hs (fe a))] 34)
 go_enter Tryz.func227, Tryz.ntmps227
 have hN0 := cells_of _ 0 [] rfl (hL0.get _ _ mZ)
 simp only [zF, Nat.reduceAdd] at hN0
 go_wp2_with fail
 clear hN0
 with_reducible refine Calls.mono (HF.out _) ?_
 rintro e x2 ⟨rfl, hb⟩
 replace hL0 := hL0.call hb
 clear hb hweq
 obtain ⟨x3, hweq, hL0⟩ := GL.named (hL0.new rfl [.int .u64 ((zl z : Nat) : Int), .string (zh z), .bool (zs z)] 32)
 go_wp2_with fail
 with_reducible refine Calls.mono (HH.out _) ?_
 rintro e x4 ⟨rfl, hb⟩
 replace hL0 := hL0.call hb
 clear hb hweq
 obtain ⟨x5, hweq, hL0⟩ := GL.named (hL0.new rfl [.int .u64 ((zl h.num : Nat) : Int), .string (zh h.num), .bool (zs h.num), .int .u64 ((lo (fe h) : Nat) : Int), .string (hs (fe h))] 34)
 go_upto_region 3 with fail
 clear hweq
 obtain ⟨α, iα, F, hF1, hF2⟩ := cls x5
 have hq0 := cls_box hF1 hL0 _ _ mZ
 simp only [zC, Nat.reduceAdd] at hq0
 have hq1 := cls_box hF1 hL0 _ _ (mK mZ)
 simp only [zC, Nat.reduceAdd] at hq1
 have hq2 := cls_box hF1 hL0 _ _ (mK (mK mZ))
 simp only [zC, Nat.reduceAdd] at hq2
 refine region_qs 6 (C := fun w' => ∃ x, w' = F x) (by kernel_rfl) (by kernel_rfl) (cls_drew hF2) ?_
 simp only [zT]
 repeat (go_big_quiet_step (first | fail | (go_at_call 196; with_reducible exact cls_call hF1 hF2 HW.out _) | (go_at_call 106; with_reducible exact cls_call hF1 hF2 HB.out _) | (go_at_call 255; with_reducible exact cls_call hF1 hF2 HC.out _)))
 refine wpQuiet_nil ?_
 rintro wq ⟨xq, rfl⟩
 replace hL0 := hL0.call (hF1 xq)
 clear  hq0 hq1 hq2 hF2
 generalize F xq = x6 at hL0 ⊢
 clear hF1 xq iα F α
 go_wp2_with fail
 exact bodyPost_ret (v := .bool true) (by simp [results, Tryz.results227, go_sem]) rfl ⟨rfl, hL0.bl⟩
theorem dnear_eq (a h p r : Rat) (z c : Int) (b : Bool) (HF : RT 228 #[fracV a] (intV z)) (HH : RT 47 #[.int .i64 1, .int .i64 2] (.tuple #[fracV h, .int .i64 c])) (HW : RT 196 #[intV z] (fracV p)) (HB : RT 106 #[fracV a, fracV p] (fracV r)) (HC : RT 255 #[fracV r, fracV h] (.int .i64 0)) (HO : RT 256 #[intV z] (.bool b)) (w : World) :
  Calls Tryz.prog 227 #[fracV a] w fun xe w' => xe = .returned (.bool b) ∧ Below w.heap.size w w' := by
 have hL0 : GL w w [] := GL.start w
 replace HF := Lib.hid HF
 replace HH := Lib.hid HH
 replace HW := Lib.hid HW
 replace HB := Lib.hid HB
 replace HC := Lib.hid HC
 replace HO := Lib.hid HO
 obtain ⟨x1, hweq, hL0⟩ := GL.named (hL0.new rfl [.int .u64 ((zl a.num : Nat) : Int), .string (zh a.num), .bool (zs a.num), .int .u64 ((lo (fe a) : Nat) : Int), .string (hs (fe a))] 34)
 go_enter Tryz.func227, Tryz.ntmps227
 have hN0 := cells_of _ 0 [] rfl (hL0.get _ _ mZ)
 simp only [zF, Nat.reduceAdd] at hN0
 go_wp2_with fail
 clear hN0
 with_reducible refine Calls.mono (HF.out _) ?_
 rintro e x2 ⟨rfl, hb⟩
 replace hL0 := hL0.call hb
 clear hb hweq
 obtain ⟨x3, hweq, hL0⟩ := GL.named (hL0.new rfl [.int .u64 ((zl z : Nat) : Int), .string (zh z), .bool (zs z)] 32)
 go_wp2_with fail
 with_reducible refine Calls.mono (HH.out _) ?_
 rintro e x4 ⟨rfl, hb⟩
 replace hL0 := hL0.call hb
 clear hb hweq
 obtain ⟨x5, hweq, hL0⟩ := GL.named (hL0.new rfl [.int .u64 ((zl h.num : Nat) : Int), .string (zh h.num), .bool (zs h.num), .int .u64 ((lo (fe h) : Nat) : Int), .string (hs (fe h))] 34)
 go_upto_region 3 with fail
 clear hweq
 obtain ⟨α, iα, F, hF1, hF2⟩ := cls x5
 have hq0 := cls_box hF1 hL0 _ _ mZ
 simp only [zC, Nat.reduceAdd] at hq0
 have hq1 := cls_box hF1 hL0 _ _ (mK mZ)
 simp only [zC, Nat.reduceAdd] at hq1
 have hq2 := cls_box hF1 hL0 _ _ (mK (mK mZ))
 simp only [zC, Nat.reduceAdd] at hq2
 refine region_qs 6 (C := fun w' => ∃ x, w' = F x) (by kernel_rfl) (by kernel_rfl) (cls_drew hF2) ?_
 simp only [zT]
 repeat (go_big_quiet_step (first | fail | (go_at_call 196; with_reducible exact cls_call hF1 hF2 HW.out _) | (go_at_call 106; with_reducible exact cls_call hF1 hF2 HB.out _) | (go_at_call 255; with_reducible exact cls_call hF1 hF2 HC.out _)))
 refine wpQuiet_nil ?_
 rintro wq ⟨xq, rfl⟩
 replace hL0 := hL0.call (hF1 xq)
 clear  hq0 hq1 hq2 hF2
 generalize F xq = x6 at hL0 ⊢
 clear hF1 xq iα F α
 have hN0 := cells_of _ 0 [] rfl (hL0.get _ _ (mK mZ))
 simp only [zF, Nat.reduceAdd] at hN0
 go_wp2_with fail
 clear hN0
 with_reducible refine Calls.mono (HO.out _) ?_
 rintro e x7 ⟨rfl, hb⟩
 replace hL0 := hL0.call hb
 clear hb
 go_wp2_with fail
 exact bodyPost_ret (v := .bool b) (by simp [results, Tryz.results227, go_sem]) rfl ⟨rfl, hL0.bl⟩
theorem dtoi_down (a : Rat) (z : Int) (HF : RT 228 #[fracV a] (intV z)) (w : World) :
  Calls Tryz.prog 195 #[fracV a, .int .i64 1] w fun xe w' => xe = .returned (intV z) ∧ Below w.heap.size w w' := by
 have hL0 : GL w w [] := GL.start w
 replace HF := Lib.hid HF
 obtain ⟨x1, hweq, hL0⟩ := GL.named ((hL0.new rfl [.int .u64 ((zl a.num : Nat) : Int), .string (zh a.num), .bool (zs a.num), .int .u64 ((lo (fe a) : Nat) : Int), .string (hs (fe a))] 34).new (K := w.heap.size + 1) (szA _ _) [.int .u64 0, .string ⟨#[]⟩, .bool false] 32)
 go_enter Tryz.func195, Tryz.ntmps195
 have hN0 := cells_of _ 0 [] rfl (hL0.get _ _ (mK mZ))
 simp only [zF, Nat.reduceAdd] at hN0
 go_wp2_with fail
 clear hN0
 with_reducible refine Calls.mono (HF.out _) ?_
 rintro e x2 ⟨rfl, hb⟩
 replace hL0 := hL0.call hb
 clear hb hweq
 have hA := hL0.fc
 simp only [zF, Nat.reduceAdd] at hA
 obtain ⟨x3, hput1, hP⟩ := GL.named (hL0.put 0 (w.heap.size + 1) _ rfl [.int .u64 ((zl z : Nat) : Int), .string (zh z), .bool (zs z)] rfl)
 simp only [setAll] at hput1
 simp only [List.set_cons_zero, List.set_cons_succ] at hP
 have hB1 := hP.fc
 simp only [zF, Nat.reduceAdd] at hB1
 replace hL0 := hP
 go_wp2_with fail
 exact bodyPost_ret (v := intV z) (by simp [results, Tryz.results195, go_sem, hB1]) rfl ⟨rfl, hL0.bl⟩
theorem dtoi_up (a : Rat) (z : Int) (HC : RT 229 #[fracV a] (intV z)) (w : World) :
  Calls Tryz.prog 195 #[fracV a, .int .i64 2] w fun xe w' => xe = .returned (intV z) ∧ Below w.heap.size w w' := by
 have hL0 : GL w w [] := GL.start w
 replace HC := Lib.hid HC
 obtain ⟨x1, hweq, hL0⟩ := GL.named ((hL0.new rfl [.int .u64 ((zl a.num : Nat) : Int), .string (zh a.num), .bool (zs a.num), .int .u64 ((lo (fe a) : Nat) : Int), .string (hs (fe a))] 34).new (K := w.heap.size + 1) (szA _ _) [.int .u64 0, .string ⟨#[]⟩, .bool false] 32)
 go_enter Tryz.func195, Tryz.ntmps195
 have hN0 := cells_of _ 0 [] rfl (hL0.get _ _ (mK mZ))
 simp only [zF, Nat.reduceAdd] at hN0
 go_wp2_with fail
 clear hN0
 with_reducible refine Calls.mono (HC.out _) ?_
 rintro e x2 ⟨rfl, hb⟩
 replace hL0 := hL0.call hb
 clear hb hweq
 have hA := hL0.fc
 simp only [zF, Nat.reduceAdd] at hA
 obtain ⟨x3, hput1, hP⟩ := GL.named (hL0.put 0 (w.heap.size + 1) _ rfl [.int .u64 ((zl z : Nat) : Int), .string (zh z), .bool (zs z)] rfl)
 simp only [setAll] at hput1
 simp only [List.set_cons_zero, List.set_cons_succ] at hP
 have hB1 := hP.fc
 simp only [zF, Nat.reduceAdd] at hB1
 replace hL0 := hP
 go_wp2_with fail
 exact bodyPost_ret (v := intV z) (by simp [results, Tryz.results195, go_sem, hB1]) rfl ⟨rfl, hL0.bl⟩
theorem dtoi_low (a : Rat) (z : Int) (HN : RT 227 #[fracV a] (.bool false)) (HF : RT 228 #[fracV a] (intV z)) (w : World) :
  Calls Tryz.prog 195 #[fracV a, .int .i64 3] w fun xe w' => xe = .returned (intV z) ∧ Below w.heap.size w w' := by
 have hL0 : GL w w [] := GL.start w
 replace HN := Lib.hid HN
 replace HF := Lib.hid HF
 obtain ⟨x1, hweq, hL0⟩ := GL.named ((hL0.new rfl [.int .u64 ((zl a.num : Nat) : Int), .string (zh a.num), .bool (zs a.num), .int .u64 ((lo (fe a) : Nat) : Int), .string (hs (fe a))] 34).new (K := w.heap.size + 1) (szA _ _) [.int .u64 0, .string ⟨#[]⟩, .bool false] 32)
 go_enter Tryz.func195, Tryz.ntmps195
 have hN0 := cells_of _ 0 [] rfl (hL0.get _ _ (mK mZ))
 simp only [zF, Nat.reduceAdd] at hN0
 go_wp2_with fail
 clear hN0
 with_reducible refine Calls.mono (HN.out _) ?_
 rintro e x2 ⟨rfl, hb⟩
 replace hL0 := hL0.call hb
 clear hb hweq
 have hN0 := cells_of _ 0 [] rfl (hL0.get _ _ (mK mZ))
 simp only [zF, Nat.reduceAdd] at hN0
 go_wp2_with fail
 clear hN0
 with_reducible refine Calls.mono (HF.out _) ?_
 rintro e x3 ⟨rfl, hb⟩
 replace hL0 := hL0.call hb
 clear hb
 have hA := hL0.fc
 simp only [zF, Nat.reduceAdd] at hA
 obtain ⟨x4, hput1, hP⟩ := GL.named (hL0.put 0 (w.heap.size + 1) _ rfl [.int .u64 ((zl z : Nat) : Int), .string (zh z), .bool (zs z)] rfl)
 simp only [setAll] at hput1
 simp only [List.set_cons_zero, List.set_cons_succ] at hP
 have hB1 := hP.fc
 simp only [zF, Nat.reduceAdd] at hB1
 replace hL0 := hP
 go_wp2_with fail
 exact bodyPost_ret (v := intV z) (by simp [results, Tryz.results195, go_sem, hB1]) rfl ⟨rfl, hL0.bl⟩
theorem dtoi_high (a : Rat) (z : Int) (HN : RT 227 #[fracV a] (.bool true)) (HC : RT 229 #[fracV a] (intV z)) (w : World) :
  Calls Tryz.prog 195 #[fracV a, .int .i64 3] w fun xe w' => xe = .returned (intV z) ∧ Below w.heap.size w w' := by
 have hL0 : GL w w [] := GL.start w
 replace HN := Lib.hid HN
 replace HC := Lib.hid HC
 obtain ⟨x1, hweq, hL0⟩ := GL.named ((hL0.new rfl [.int .u64 ((zl a.num : Nat) : Int), .string (zh a.num), .bool (zs a.num), .int .u64 ((lo (fe a) : Nat) : Int), .string (hs (fe a))] 34).new (K := w.heap.size + 1) (szA _ _) [.int .u64 0, .string ⟨#[]⟩, .bool false] 32)
 go_enter Tryz.func195, Tryz.ntmps195
 have hN0 := cells_of _ 0 [] rfl (hL0.get _ _ (mK mZ))
 simp only [zF, Nat.reduceAdd] at hN0
 go_wp2_with fail
 clear hN0
 with_reducible refine Calls.mono (HN.out _) ?_
 rintro e x2 ⟨rfl, hb⟩
 replace hL0 := hL0.call hb
 clear hb hweq
 have hN0 := cells_of _ 0 [] rfl (hL0.get _ _ (mK mZ))
 simp only [zF, Nat.reduceAdd] at hN0
 go_wp2_with fail
 clear hN0
 with_reducible refine Calls.mono (HC.out _) ?_
 rintro e x3 ⟨rfl, hb⟩
 replace hL0 := hL0.call hb
 clear hb
 have hA := hL0.fc
 simp only [zF, Nat.reduceAdd] at hA
 obtain ⟨x4, hput1, hP⟩ := GL.named (hL0.put 0 (w.heap.size + 1) _ rfl [.int .u64 ((zl z : Nat) : Int), .string (zh z), .bool (zs z)] rfl)
 simp only [setAll] at hput1
 simp only [List.set_cons_zero, List.set_cons_succ] at hP
 have hB1 := hP.fc
 simp only [zF, Nat.reduceAdd] at hB1
 replace hL0 := hP
 go_wp2_with fail
 exact bodyPost_ret (v := intV z) (by simp [results, Tryz.results195, go_sem, hB1]) rfl ⟨rfl, hL0.bl⟩
theorem drnd_neg (a : Rat) (n v : Int) (h1 : decide (n < 0) = true) (w : World) :
  Calls Tryz.prog 133 #[fracV a, .int .i64 n, .int .i64 v] w fun xe w' => xe = .returned (.tuple #[.agg #[.int .u64 0, .string ⟨#[]⟩, .bool false], .int .i64 1]) ∧ Below w.heap.size w w' := by
 have hL0 : GL w w [] := GL.start w
 obtain ⟨x1, hweq, hL0⟩ := GL.named ((hL0.new rfl [.int .u64 ((zl a.num : Nat) : Int), .string (zh a.num), .bool (zs a.num), .int .u64 ((lo (fe a) : Nat) : Int), .string (hs (fe a))] 34).new (K := w.heap.size + 1) (szA _ _) [.int .u64 0, .string ⟨#[]⟩, .bool false] 32)
 go_enter Tryz.func133, Tryz.ntmps133
 have hA := hL0.fc
 simp only [zF, Nat.reduceAdd] at hA
 obtain ⟨x2, hput1, hP⟩ := GL.named (hL0.put 0 (w.heap.size + 1) _ rfl [.int .u64 0, .string ⟨#[]⟩, .bool false] rfl)
 simp only [setAll] at hput1
 simp only [List.set_cons_zero, List.set_cons_succ] at hP
 have hB1 := hP.fc
 simp only [zF, Nat.reduceAdd] at hB1
 replace hL0 := hP
 go_wp2_with fail
 exact bodyPost_ret (v := .tuple #[.agg #[.int .u64 0, .string ⟨#[]⟩, .bool false], .int .i64 1]) (by simp [results, Tryz.results133, go_sem, hB1]) rfl ⟨rfl, hL0.bl⟩
theorem drnd_big (a : Rat) (n v : Int) (h1 : decide (n < 0) = false) (h2 : decide (100 < n) = true) (w : World) :
  Calls Tryz.prog 133 #[fracV a, .int .i64 n, .int .i64 v] w fun xe w' => xe = .returned (.tuple #[.agg #[.int .u64 0, .string ⟨#[]⟩, .bool false], .int .i64 3]) ∧ Below w.heap.size w w' := by
 have hL0 : GL w w [] := GL.start w
 obtain ⟨x1, hweq, hL0⟩ := GL.named ((hL0.new rfl [.int .u64 ((zl a.num : Nat) : Int), .string (zh a.num), .bool (zs a.num), .int .u64 ((lo (fe a) : Nat) : Int), .string (hs (fe a))] 34).new (K := w.heap.size + 1) (szA _ _) [.int .u64 0, .string ⟨#[]⟩, .bool false] 32)
 go_enter Tryz.func133, Tryz.ntmps133
 have hA := hL0.fc
 simp only [zF, Nat.reduceAdd] at hA
 obtain ⟨x2, hput1, hP⟩ := GL.named (hL0.put 0 (w.heap.size + 1) _ rfl [.int .u64 0, .string ⟨#[]⟩, .bool false] rfl)
 simp only [setAll] at hput1
 simp only [List.set_cons_zero, List.set_cons_succ] at hP
 have hB1 := hP.fc
 simp only [zF, Nat.reduceAdd] at hB1
 replace hL0 := hP
 go_wp2_with fail
 exact bodyPost_ret (v := .tuple #[.agg #[.int .u64 0, .string ⟨#[]⟩, .bool false], .int .i64 3]) (by simp [results, Tryz.results133, go_sem, hB1]) rfl ⟨rfl, hL0.bl⟩
theorem drnd_way0 (a : Rat) (n v : Int) (h1 : decide (n < 0) = false) (h2 : decide (100 < n) = false) (h3 : decide (v < 1) = true) (w : World) :
  Calls Tryz.prog 133 #[fracV a, .int .i64 n, .int .i64 v] w fun xe w' => xe = .returned (.tuple #[.agg #[.int .u64 0, .string ⟨#[]⟩, .bool false], .int .i64 1]) ∧ Below w.heap.size w w' := by
 have hL0 : GL w w [] := GL.start w
 obtain ⟨x1, hweq, hL0⟩ := GL.named ((hL0.new rfl [.int .u64 ((zl a.num : Nat) : Int), .string (zh a.num), .bool (zs a.num), .int .u64 ((lo (fe a) : Nat) : Int), .string (hs (fe a))] 34).new (K := w.heap.size + 1) (szA _ _) [.int .u64 0, .string ⟨#[]⟩, .bool false] 32)
 go_enter Tryz.func133, Tryz.ntmps133
 have hA := hL0.fc
 simp only [zF, Nat.reduceAdd] at hA
 obtain ⟨x2, hput1, hP⟩ := GL.named (hL0.put 0 (w.heap.size + 1) _ rfl [.int .u64 0, .string ⟨#[]⟩, .bool false] rfl)
 simp only [setAll] at hput1
 simp only [List.set_cons_zero, List.set_cons_succ] at hP
 have hB1 := hP.fc
 simp only [zF, Nat.reduceAdd] at hB1
 replace hL0 := hP
 go_wp2_with fail
 exact bodyPost_ret (v := .tuple #[.agg #[.int .u64 0, .string ⟨#[]⟩, .bool false], .int .i64 1]) (by simp [results, Tryz.results133, go_sem, hB1]) rfl ⟨rfl, hL0.bl⟩
theorem drnd_way4 (a : Rat) (n v : Int) (h1 : decide (n < 0) = false) (h2 : decide (100 < n) = false) (h3 : decide (v < 1) = false) (h4 : decide (3 < v) = true) (w : World) :
  Calls Tryz.prog 133 #[fracV a, .int .i64 n, .int .i64 v] w fun xe w' => xe = .returned (.tuple #[.agg #[.int .u64 0, .string ⟨#[]⟩, .bool false], .int .i64 1]) ∧ Below w.heap.size w w' := by
 have hL0 : GL w w [] := GL.start w
 obtain ⟨x1, hweq, hL0⟩ := GL.named ((hL0.new rfl [.int .u64 ((zl a.num : Nat) : Int), .string (zh a.num), .bool (zs a.num), .int .u64 ((lo (fe a) : Nat) : Int), .string (hs (fe a))] 34).new (K := w.heap.size + 1) (szA _ _) [.int .u64 0, .string ⟨#[]⟩, .bool false] 32)
 go_enter Tryz.func133, Tryz.ntmps133
 have hA := hL0.fc
 simp only [zF, Nat.reduceAdd] at hA
 obtain ⟨x2, hput1, hP⟩ := GL.named (hL0.put 0 (w.heap.size + 1) _ rfl [.int .u64 0, .string ⟨#[]⟩, .bool false] rfl)
 simp only [setAll] at hput1
 simp only [List.set_cons_zero, List.set_cons_succ] at hP
 have hB1 := hP.fc
 simp only [zF, Nat.reduceAdd] at hB1
 replace hL0 := hP
 go_wp2_with fail
 exact bodyPost_ret (v := .tuple #[.agg #[.int .u64 0, .string ⟨#[]⟩, .bool false], .int .i64 1]) (by simp [results, Tryz.results133, go_sem, hB1]) rfl ⟨rfl, hL0.bl⟩
theorem drnd_ok (a p r : Rat) (n v t z : Int) (u : Nat) (HT : RT 134 #[.int .i64 n] (natV u)) (HF : RT 19 #[.bool false, natV u] (intV t)) (HW : RT 196 #[intV t] (fracV p)) (HM : RT 95 #[fracV a, fracV p] (fracV r)) (HI : RT 195 #[fracV r, .int .i64 v] (intV z)) (h1 : decide (n < 0) = false) (h2 : decide (100 < n) = false) (h3 : decide (v < 1) = false) (h4 : decide (3 < v) = false) (w : World) :
  Calls Tryz.prog 133 #[fracV a, .int .i64 n, .int .i64 v] w fun xe w' => xe = .returned (.tuple #[intV z, .int .i64 0]) ∧ Below w.heap.size w w' := by
 have hL0 : GL w w [] := GL.start w
 replace HT := Lib.hid HT
 replace HF := Lib.hid HF
 replace HW := Lib.hid HW
 replace HM := Lib.hid HM
 replace HI := Lib.hid HI
 obtain ⟨x1, hweq, hL0⟩ := GL.named ((hL0.new rfl [.int .u64 ((zl a.num : Nat) : Int), .string (zh a.num), .bool (zs a.num), .int .u64 ((lo (fe a) : Nat) : Int), .string (hs (fe a))] 34).new (K := w.heap.size + 1) (szA _ _) [.int .u64 0, .string ⟨#[]⟩, .bool false] 32)
 go_enter Tryz.func133, Tryz.ntmps133
 go_upto_region 8 with fail
 clear hweq
 obtain ⟨α, iα, F, hF1, hF2⟩ := cls x1
 have hq0 := cls_box hF1 hL0 _ _ (mK mZ)
 simp only [zC, Nat.reduceAdd] at hq0
 refine region_qs 8 (C := fun w' => ∃ x, w' = F x) (by kernel_rfl) (by kernel_rfl) (cls_drew hF2) ?_
 simp only [zT]
 repeat (go_big_quiet_step (first | fail | (go_at_call 134; with_reducible exact cls_call hF1 hF2 HT.out _) | (go_at_call 19; with_reducible exact cls_call hF1 hF2 HF.out _) | (go_at_call 196; with_reducible exact cls_call hF1 hF2 HW.out _) | (go_at_call 95; with_reducible exact cls_call hF1 hF2 HM.out _) | (go_at_call 195; with_reducible exact cls_call hF1 hF2 HI.out _)))
 refine wpQuiet_nil ?_
 rintro wq ⟨xq, rfl⟩
 replace hL0 := hL0.call (hF1 xq)
 clear  hq0 hF2
 generalize F xq = x2 at hL0 ⊢
 clear hF1 xq iα F α
 have hA := hL0.fc
 simp only [zF, Nat.reduceAdd] at hA
 obtain ⟨x3, hput1, hP⟩ := GL.named (hL0.put 0 (w.heap.size + 1) _ rfl [.int .u64 ((zl z : Nat) : Int), .string (zh z), .bool (zs z)] rfl)
 simp only [setAll] at hput1
 simp only [List.set_cons_zero, List.set_cons_succ] at hP
 have hB1 := hP.fc
 simp only [zF, Nat.reduceAdd] at hB1
 replace hL0 := hP
 go_wp2_with fail
 exact bodyPost_ret (v := .tuple #[intV z, .int .i64 0]) (by simp [results, Tryz.results133, go_sem, hB1]) rfl ⟨rfl, hL0.bl⟩
theorem dround_ok (a q : Rat) (n v z c : Int) (u : Nat) (HR : RT 133 #[fracV a, .int .i64 n, .int .i64 v] (.tuple #[intV z, .int .i64 0])) (HT : RT 134 #[.int .i64 n] (natV u)) (HF : RT 122 #[intV z, natV u] (.tuple #[fracV q, .int .i64 c])) (w : World) :
  Calls Tryz.prog 56 #[fracV a, .int .i64 n, .int .i64 v] w fun xe w' => xe = .returned (.tuple #[fracV q, .int .i64 c]) ∧ Below w.heap.size w w' := by
 have hL0 : GL w w [] := GL.start w
 replace HR := Lib.hid HR
 replace HT := Lib.hid HT
 replace HF := Lib.hid HF
 obtain ⟨x1, hweq, hL0⟩ := GL.named ((hL0.new rfl [.int .u64 ((zl a.num : Nat) : Int), .string (zh a.num), .bool (zs a.num), .int .u64 ((lo (fe a) : Nat) : Int), .string (hs (fe a))] 34).new (K := w.heap.size + 1) (szA _ _) [.int .u64 0, .string ⟨#[]⟩, .bool false, .int .u64 0, .string ⟨#[]⟩] 34)
 go_enter Tryz.func56, Tryz.ntmps56
 have hN0 := cells_of _ 0 [] rfl (hL0.get _ _ (mK mZ))
 simp only [zF, Nat.reduceAdd] at hN0
 go_wp2_with fail
 clear hN0
 with_reducible refine Calls.mono (HR.out _) ?_
 rintro e x2 ⟨rfl, hb⟩
 replace hL0 := hL0.call hb
 clear hb hweq
 obtain ⟨x3, hweq, hL0⟩ := GL.named (hL0.new rfl [.int .u64 ((zl z : Nat) : Int), .string (zh z), .bool (zs z)] 32)
 go_upto_region 4 with fail
 clear hweq
 obtain ⟨α, iα, F, hF1, hF2⟩ := cls x3
 have hq0 := cls_box hF1 hL0 _ _ mZ
 simp only [zC, Nat.reduceAdd] at hq0
 refine region_qs 6 (C := fun w' => ∃ x, w' = F x) (by kernel_rfl) (by kernel_rfl) (cls_drew hF2) ?_
 simp only [zT]
 repeat (go_big_quiet_step (first | fail | (go_at_call 134; with_reducible exact cls_call hF1 hF2 HT.out _) | (go_at_call 122; with_reducible exact cls_call hF1 hF2 HF.out _)))
 refine wpQuiet_nil ?_
 rintro wq ⟨xq, rfl⟩
 replace hL0 := hL0.call (hF1 xq)
 clear  hq0 hF2
 generalize F xq = x4 at hL0 ⊢
 clear hF1 xq iα F α
 have hA := hL0.fc
 simp only [zF, Nat.reduceAdd] at hA
 obtain ⟨x5, hput1, hP⟩ := GL.named (hL0.put 1 (w.heap.size + 1) _ rfl [.int .u64 ((zl q.num : Nat) : Int), .string (zh q.num), .bool (zs q.num), .int .u64 ((lo (fe q) : Nat) : Int), .string (hs (fe q))] rfl)
 simp only [setAll] at hput1
 simp only [List.set_cons_zero, List.set_cons_succ] at hP
 have hB1 := hP.fc
 simp only [zF, Nat.reduceAdd] at hB1
 replace hL0 := hP
 go_wp2_with fail
 exact bodyPost_ret (v := .tuple #[fracV q, .int .i64 c]) (by simp [results, Tryz.results56, go_sem, hB1]) rfl ⟨rfl, hL0.bl⟩
theorem dbetween_ok (a p q : Rat) (n c : Int) (H1 : RT 56 #[fracV a, .int .i64 n, .int .i64 1] (.tuple #[fracV p, .int .i64 0])) (H2 : RT 56 #[fracV a, .int .i64 n, .int .i64 2] (.tuple #[fracV q, .int .i64 c])) (w : World) :
  Calls Tryz.prog 57 #[fracV a, .int .i64 n] w fun xe w' => xe = .returned (.tuple #[fracV p, fracV q, .int .i64 c]) ∧ Below w.heap.size w w' := by
 have hL0 : GL w w [] := GL.start w
 replace H1 := Lib.hid H1
 replace H2 := Lib.hid H2
 obtain ⟨x1, hweq, hL0⟩ := GL.named (((hL0.new rfl [.int .u64 ((zl a.num : Nat) : Int), .string (zh a.num), .bool (zs a.num), .int .u64 ((lo (fe a) : Nat) : Int), .string (hs (fe a))] 34).new (K := w.heap.size + 1) (szA _ _) [.int .u64 0, .string ⟨#[]⟩, .bool false, .int .u64 0, .string ⟨#[]⟩] 34).new (K := w.heap.size + 1 + 1) (by simp only [World.size_alloc]) [.int .u64 0, .string ⟨#[]⟩, .bool false, .int .u64 0, .string ⟨#[]⟩] 34)
 go_enter Tryz.func57, Tryz.ntmps57
 have hN0 := cells_of _ 0 [] rfl (hL0.get _ _ (mK (mK mZ)))
 simp only [zF, Nat.reduceAdd] at hN0
 go_wp2_with fail
 clear hN0
 with_reducible refine Calls.mono (H1.out _) ?_
 rintro e x2 ⟨rfl, hb⟩
 replace hL0 := hL0.call hb
 clear hb hweq
 have hA := hL0.fc
 simp only [zF, Nat.reduceAdd] at hA
 obtain ⟨x3, hput1, hP⟩ := GL.named (hL0.put 1 (w.heap.size + 1) _ rfl [.int .u64 ((zl p.num : Nat) : Int), .string (zh p.num), .bool (zs p.num), .int .u64 ((lo (fe p) : Nat) : Int), .string (hs (fe p))] rfl)
 simp only [setAll] at hput1
 simp only [List.set_cons_zero, List.set_cons_succ] at hP
 have hB1 := hP.fc
 simp only [zF, Nat.reduceAdd] at hB1
 replace hL0 := hP
 go_wp2_with fail
 clear hA
 with_reducible refine Calls.mono (H2.out _) ?_
 rintro e x4 ⟨rfl, hb⟩
 replace hL0 := hL0.call hb
 clear hb hput1 hB1
 have hA := hL0.fc
 simp only [zF, Nat.reduceAdd] at hA
 obtain ⟨x5, hput2, hP⟩ := GL.named (hL0.put 0 (w.heap.size + 1 + 1) _ rfl [.int .u64 ((zl q.num : Nat) : Int), .string (zh q.num), .bool (zs q.num), .int .u64 ((lo (fe q) : Nat) : Int), .string (hs (fe q))] rfl)
 simp only [setAll] at hput2
 simp only [List.set_cons_zero, List.set_cons_succ] at hP
 have hB2 := hP.fc
 simp only [zF, Nat.reduceAdd] at hB2
 replace hL0 := hP
 go_upto_region 5 with fail
 clear hA
 clear hput2 hB2
 have hA := hL0.fc
 simp only [zF, Nat.reduceAdd] at hA
 obtain ⟨⟨c0, c1, c2, c3, c4⟩, cf0, cn0, ⟨c5, c6, c7, c8, c9⟩, cf1, cn1, ⟨c10, c11, c12, c13, c14⟩, cf2⟩ := id hA
 clear hA
 go_region
 have hP := ((hL0.put 1 (w.heap.size + 1) _ rfl [.int .u64 ((zl p.num : Nat) : Int), .string (zh p.num), .bool (zs p.num), .int .u64 ((lo (fe p) : Nat) : Int), .string (hs (fe p))] rfl).put 0 (w.heap.size + 1 + 1) _ rfl [.int .u64 ((zl q.num : Nat) : Int), .string (zh q.num), .bool (zs q.num), .int .u64 ((lo (fe q) : Nat) : Int), .string (hs (fe q))] rfl).drew
 simp only [setAll, List.set_cons_zero, List.set_cons_succ] at hP
 generalize ((((((((((x5.setCell ⟨w.heap.size + 1, 0, none⟩ (.int .u64 ((zl p.num : Nat) : Int))).setCell ⟨w.heap.size + 1, 1, none⟩ (.string (zh p.num))).setCell ⟨w.heap.size + 1, 2, none⟩ (.bool (zs p.num))).setCell ⟨w.heap.size + 1, 3, none⟩ (.int .u64 ((lo (fe p) : Nat) : Int))).setCell ⟨w.heap.size + 1, 4, none⟩ (.string (hs (fe p)))).setCell ⟨w.heap.size + 1 + 1, 0, none⟩ (.int .u64 ((zl q.num : Nat) : Int))).setCell ⟨w.heap.size + 1 + 1, 1, none⟩ (.string (zh q.num))).setCell ⟨w.heap.size + 1 + 1, 2, none⟩ (.bool (zs q.num))).setCell ⟨w.heap.size + 1 + 1, 3, none⟩ (.int .u64 ((lo (fe q) : Nat) : Int))).setCell ⟨w.heap.size + 1 + 1, 4, none⟩ (.string (hs (fe q)))).drew = x6 at hP ⊢
 clear hL0
 have hL0 := hP
 clear hP
 clear c0 c1 c2 c3 c4 cf0 cn0 c5 c6 c7 c8 c9 cf1 cn1 c10 c11 c12 c13 c14 cf2
 have hN0 := cells_of _ 0 [] rfl (hL0.get _ _ mZ)
 simp only [zF, Nat.reduceAdd] at hN0
 have hN1 := cells_of _ 0 [] rfl (hL0.get _ _ (mK mZ))
 simp only [zF, Nat.reduceAdd] at hN1
 go_wp2_with fail
 exact bodyPost_ret (v := .tuple #[fracV p, fracV q, .int .i64 c]) (by simp [results, Tryz.results57, go_sem, hN0 ,hN1]) rfl ⟨rfl, hL0.bl⟩
theorem dodd_yes (z q : Int) (HO : RT 23 #[.int .i64 2] (intV 2)) (HD : RT 21 #[intV z, intV 2] (.tuple #[intV q, intV 1, .bool true])) (H1 : RT 23 #[.int .i64 1] (intV 1)) (w : World) :
  Calls Tryz.prog 256 #[intV z] w fun xe w' => xe = .returned (.bool true) ∧ Below w.heap.size w w' := by
 have hL0 : GL w w [] := GL.start w
 replace HO := Lib.hid HO
 replace HD := Lib.hid HD
 replace H1 := Lib.hid H1
 obtain ⟨x1, hweq, hL0⟩ := GL.named (hL0.new rfl [.int .u64 ((zl z : Nat) : Int), .string (zh z), .bool (zs z)] 32)
 go_enter Tryz.func256, Tryz.ntmps256
 go_upto_region 1 with fail
 clear hweq
 refine region_gh (by kernel_rfl) (by kernel_rfl) ?_
 refine lex_seg (gl := []) 7 (by kernel_rfl) ?_
 intro α iα F hF1 hF2
 have hq := GL.seg hF1 hL0
 simp only [zC, Nat.reduceAdd] at hq
 simp only [zT]
 repeat (go_big_quiet_step (first | fail | (go_at_call 23; with_reducible exact seg_call hF2 HO.out _) | (go_at_call 21; with_reducible exact seg_call hF2 HD.out _)))
 refine wpQuiet_nil ?_
 clear hq hF1 hF2 iα F α
 refine lex_new [.int .u64 0, .string ⟨#[]⟩, .bool false] 3 32 32 rfl rfl (of_decide_eq_true (by kernel_rfl)) (by kernel_rfl) rfl new_int ?_
 simp only [Act.put, zP]
 refine lex_new [.int .u64 0, .string ⟨#[]⟩, .bool false] 4 32 32 rfl rfl (of_decide_eq_true (by kernel_rfl)) (by kernel_rfl) rfl new_int ?_
 simp only [Act.put, zP]
 refine lex_put [.int .u64 ((zl q : Nat) : Int), .string (zh q), .bool (zs q)] [.int .u64 0, .string ⟨#[]⟩, .bool false] 3 32 (.tmp 10) rfl (by kernel_rfl) (by simp [toG, upd]) rfl (fun w k h => put_int _ _ _ _ _ _ w k h) ?_
 simp only [Act.put]
 refine lex_put [.int .u64 ((zl 1 : Nat) : Int), .string (zh 1), .bool (zs 1)] [.int .u64 0, .string ⟨#[]⟩, .bool false] 4 32 (.tmp 11) rfl (by kernel_rfl) (by simp [toG, upd]) rfl (fun w k h => put_int _ _ _ _ _ _ w k h) ?_
 simp only [Act.put]
 refine lex_seg (gl := [(4, [.int .u64 ((zl 1 : Nat) : Int), .string (zh 1), .bool (zs 1)], true), (3, [.int .u64 ((zl q : Nat) : Int), .string (zh q), .bool (zs q)], true), (4, [.int .u64 0, .string ⟨#[]⟩, .bool false], false), (3, [.int .u64 0, .string ⟨#[]⟩, .bool false], false)]) 1 (by kernel_rfl) ?_
 intro α iα F hF1 hF2
 have hq := GL.seg hF1 hL0
 simp only [zC, Nat.reduceAdd] at hq
 simp only [zT]
 repeat (go_big_quiet_step (first | fail | (go_at_call 23; with_reducible exact seg_call hF2 HO.out _) | (go_at_call 21; with_reducible exact seg_call hF2 HD.out _)))
 refine wpQuiet_nil ?_
 clear hq hF1 hF2 iα F α
 refine lexG_nil ?_
 intro κ x2 hS
 replace hL0 := hL0.ghs hS [(4, [.int .u64 ((zl 1 : Nat) : Int), .string (zh 1), .bool (zs 1)]), (3, [.int .u64 ((zl q : Nat) : Int), .string (zh q), .bool (zs q)])] (by simp) (by intro p hp; simp only [List.mem_cons, List.not_mem_nil, or_false] at hp; rcases hp with rfl | rfl <;> exact ⟨_, by simp only [toG, upd]; rfl⟩)
 simp only [List.map_cons, List.map_nil, List.cons_append, List.nil_append] at hL0
 simp only [over_toG, over_nil, Act.put, zP]
 clear hS
 generalize κ 4 = k2_4 at *
 generalize κ 3 = k2_3 at *
 go_upto_region 2 with fail
 obtain ⟨α, iα, F, hF1, hF2⟩ := cls x2
 have hq0 := cls_box hF1 hL0 _ _ mZ
 simp only [zC, Nat.reduceAdd] at hq0
 refine region_qs 4 (C := fun w' => ∃ x, w' = F x) (by kernel_rfl) (by kernel_rfl) (cls_drew hF2) ?_
 simp only [zT]
 repeat (go_big_quiet_step (first | fail | (go_at_call 23; with_reducible exact cls_call hF1 hF2 H1.out _)))
 refine wpQuiet_nil ?_
 rintro wq ⟨xq, rfl⟩
 replace hL0 := hL0.call (hF1 xq)
 clear  hq0 hF2
 generalize F xq = x3 at hL0 ⊢
 clear hF1 xq iα F α
 go_wp2_with fail
 exact bodyPost_ret (v := .bool true) (by simp [results, Tryz.results256, go_sem]) rfl ⟨rfl, hL0.bl⟩
theorem dodd_no (z q r : Int) (HO : RT 23 #[.int .i64 2] (intV 2)) (HD : RT 21 #[intV z, intV 2] (.tuple #[intV q, intV r, .bool true])) (H1 : RT 23 #[.int .i64 1] (intV 1)) (h1 : (((zl r : Nat) : Int) == ((zl 1 : Nat) : Int)) = false) (h2 : (zl r == zl 1) = false) (h3 : ¬ zl r = zl 1) (w : World) :
  Calls Tryz.prog 256 #[intV z] w fun xe w' => xe = .returned (.bool false) ∧ Below w.heap.size w w' := by
 have hL0 : GL w w [] := GL.start w
 replace HO := Lib.hid HO
 replace HD := Lib.hid HD
 replace H1 := Lib.hid H1
 obtain ⟨x1, hweq, hL0⟩ := GL.named (hL0.new rfl [.int .u64 ((zl z : Nat) : Int), .string (zh z), .bool (zs z)] 32)
 go_enter Tryz.func256, Tryz.ntmps256
 go_upto_region 1 with fail
 clear hweq
 refine region_gh (by kernel_rfl) (by kernel_rfl) ?_
 refine lex_seg (gl := []) 7 (by kernel_rfl) ?_
 intro α iα F hF1 hF2
 have hq := GL.seg hF1 hL0
 simp only [zC, Nat.reduceAdd] at hq
 simp only [zT]
 repeat (go_big_quiet_step (first | fail | (go_at_call 23; with_reducible exact seg_call hF2 HO.out _) | (go_at_call 21; with_reducible exact seg_call hF2 HD.out _)))
 refine wpQuiet_nil ?_
 clear hq hF1 hF2 iα F α
 refine lex_new [.int .u64 0, .string ⟨#[]⟩, .bool false] 3 32 32 rfl rfl (of_decide_eq_true (by kernel_rfl)) (by kernel_rfl) rfl new_int ?_
 simp only [Act.put, zP]
 refine lex_new [.int .u64 0, .string ⟨#[]⟩, .bool false] 4 32 32 rfl rfl (of_decide_eq_true (by kernel_rfl)) (by kernel_rfl) rfl new_int ?_
 simp only [Act.put, zP]
 refine lex_put [.int .u64 ((zl q : Nat) : Int), .string (zh q), .bool (zs q)] [.int .u64 0, .string ⟨#[]⟩, .bool false] 3 32 (.tmp 10) rfl (by kernel_rfl) (by simp [toG, upd]) rfl (fun w k h => put_int _ _ _ _ _ _ w k h) ?_
 simp only [Act.put]
 refine lex_put [.int .u64 ((zl r : Nat) : Int), .string (zh r), .bool (zs r)] [.int .u64 0, .string ⟨#[]⟩, .bool false] 4 32 (.tmp 11) rfl (by kernel_rfl) (by simp [toG, upd]) rfl (fun w k h => put_int _ _ _ _ _ _ w k h) ?_
 simp only [Act.put]
 refine lex_seg (gl := [(4, [.int .u64 ((zl r : Nat) : Int), .string (zh r), .bool (zs r)], true), (3, [.int .u64 ((zl q : Nat) : Int), .string (zh q), .bool (zs q)], true), (4, [.int .u64 0, .string ⟨#[]⟩, .bool false], false), (3, [.int .u64 0, .string ⟨#[]⟩, .bool false], false)]) 1 (by kernel_rfl) ?_
 intro α iα F hF1 hF2
 have hq := GL.seg hF1 hL0
 simp only [zC, Nat.reduceAdd] at hq
 simp only [zT]
 repeat (go_big_quiet_step (first | fail | (go_at_call 23; with_reducible exact seg_call hF2 HO.out _) | (go_at_call 21; with_reducible exact seg_call hF2 HD.out _)))
 refine wpQuiet_nil ?_
 clear hq hF1 hF2 iα F α
 refine lexG_nil ?_
 intro κ x2 hS
 replace hL0 := hL0.ghs hS [(4, [.int .u64 ((zl r : Nat) : Int), .string (zh r), .bool (zs r)]), (3, [.int .u64 ((zl q : Nat) : Int), .string (zh q), .bool (zs q)])] (by simp) (by intro p hp; simp only [List.mem_cons, List.not_mem_nil, or_false] at hp; rcases hp with rfl | rfl <;> exact ⟨_, by simp only [toG, upd]; rfl⟩)
 simp only [List.map_cons, List.map_nil, List.cons_append, List.nil_append] at hL0
 simp only [over_toG, over_nil, Act.put, zP]
 clear hS
 generalize κ 4 = k2_4 at *
 generalize κ 3 = k2_3 at *
 go_upto_region 2 with fail
 obtain ⟨α, iα, F, hF1, hF2⟩ := cls x2
 have hq0 := cls_box hF1 hL0 _ _ mZ
 simp only [zC, Nat.reduceAdd] at hq0
 refine region_qs 4 (C := fun w' => ∃ x, w' = F x) (by kernel_rfl) (by kernel_rfl) (cls_drew hF2) ?_
 simp only [zT]
 repeat (go_big_quiet_step (first | fail | (go_at_call 23; with_reducible exact cls_call hF1 hF2 H1.out _)))
 refine wpQuiet_nil ?_
 rintro wq ⟨xq, rfl⟩
 replace hL0 := hL0.call (hF1 xq)
 clear  hq0 hF2
 generalize F xq = x3 at hL0 ⊢
 clear hF1 xq iα F α
 go_wp2_with fail
 exact bodyPost_ret (v := .bool false) (by simp [results, Tryz.results256, go_sem]) rfl ⟨rfl, hL0.bl⟩
end Go.Proofs.YtaimebjkidegiaaGreatDoor
namespace Go.Proofs.YtaimebjkidegiaaGreatDoor
open Go.RowKit
attribute [local irreducible] lo hs sm s64 c64 d64 b64 mh ml pd pc qd qc val hiB str cmpI srD lz nb isq decB zl zh zs fe
/-- A slice's fractions. -/
structure FS (w : World) (g : Nat) (qs : List Rat) : Prop where
 cell : ∀ i (h : i < qs.length), w.cell? ⟨g, i * 5, none⟩ = some (.int .u64 ((zl qs[i].num : Nat) : Int)) ∧ w.cell? ⟨g, i * 5 + 1, none⟩ = some (.string (zh qs[i].num)) ∧ w.cell? ⟨g, i * 5 + 2, none⟩ = some (.bool (zs qs[i].num)) ∧
  w.cell? ⟨g, i * 5 + 3, none⟩ = some (.int .u64 ((lo (fe qs[i]) : Nat) : Int)) ∧ w.cell? ⟨g, i * 5 + 4, none⟩ = some (.string (hs (fe qs[i])))
 lt : g < w.heap.size
theorem FS.below {w w' : World} {g : Nat} {qs : List Rat} (h : FS w g qs) (hb : Below w.heap.size w w') : FS w' g qs := by
 have hs := hb.size
 have hl := h.lt
 refine ⟨fun i hi => ?_, by omega⟩
 obtain ⟨h0, h1, h2, h3, h4⟩ := h.cell i hi
 exact ⟨(hb.cell (p := ⟨g, i * 5, none⟩) hl).trans h0, (hb.cell (p := ⟨g, i * 5 + 1, none⟩) hl).trans h1, (hb.cell (p := ⟨g, i * 5 + 2, none⟩) hl).trans h2, (hb.cell (p := ⟨g, i * 5 + 3, none⟩) hl).trans h3, (hb.cell (p := ⟨g, i * 5 + 4, none⟩) hl).trans h4⟩
def SlQ (w : World) (v : Value) (qs : List Rat) : Prop := (∃ ao c, v = .slice ao 0 c ∧ qs = []) ∨ ∃ g c, v = .slice (some ⟨g, 0, none⟩) qs.length c ∧ FS w g qs
theorem SlQ.below {w w' : World} {v : Value} {qs : List Rat} (h : SlQ w v qs) (hb : Below w.heap.size w w') : SlQ w' v qs := by
 rcases h with h | ⟨g, c, h1, h2⟩
 ·exact .inl h
 ·exact .inr ⟨g, c, h1, h2.below hb⟩
theorem SlQ.keeps (v : Value) (qs : List Rat) : Keeps (fun w => SlQ w v qs) := fun _ _ hb h => h.below hb
end Go.Proofs.YtaimebjkidegiaaGreatDoor
namespace Go.Proofs.YtaimebjkidegiaaGreatDoor
open Go.RowKit
attribute [local irreducible] lo hs sm s64 c64 d64 b64 mh ml pd pc qd qc val hiB str cmpI srD lz nb isq decB zl zh zs
/-- A fraction's text. -/
def qtxt (q : Rat) : ByteArray := if q.den = 1 then ztxt q.num else ztxt q.num ++ (ByteArray.mk #[47]) ++ txt q.den
theorem ztxt_small {z : Int} {k : Nat} (hk : 0 < k) (h : dI z ≤ k) : (ztxt z).size ≤ 20 * k + 1 := by
 have h1 := txt_small (n := z.natAbs) hk h
 unfold ztxt
 split
 ·rw [ByteArray.size_append]
  have : (ByteArray.mk #[45]).size = 1 := rfl
  omega
 ·omega
theorem textF (q : Rat) (k : Nat) (hq : Sz q k) (hk : k ≤ 100000) (w : World) (htab : Tab w) : Calls Tryz.prog 137 #[fracV q] w fun x w' => x = .returned (.string (qtxt q)) ∧ Below w.heap.size w w' := by
 have hT := fun w h => textI q.num (Nat.le_trans hq.1 (by omega)) w h
 unfold qtxt
 by_cases h : q.den = 1
 ·rw [if_pos h, show fracV q = frV q.num 0 by unfold fracV; rw [fe_one h]]
  exact ftext_whole q.num _ (fun w => by have := whole_raw q.num 0 w; rwa [decide_eq_true rfl] at this) hT w htab
 ·rw [if_neg h, show fracV q = frV q.num q.den by unfold fracV; rw [fe_ne h]]
  have s1 := ztxt_small (k := 100000) (by omega) (Nat.le_trans hq.1 hk)
  have s2 := txt_small (n := q.den) (k := 100000) (by omega) (Nat.le_trans hq.2 hk)
  exact ftext_part q.num q.den _ _ (fun w => by have := whole_raw q.num q.den w; rwa [decide_eq_false q.den_nz] at this) hT (fun w h => text_any q.den (Nat.le_trans hq.2 (by omega)) w h) (by omega) (by omega) w htab
end Go.Proofs.YtaimebjkidegiaaGreatDoor
namespace Go.Proofs.YtaimebjkidegiaaGreatDoor
open Go.RowKit
/-- Whether the integer nearest to x, of two the even one, lies above x. -/
def nearUp (x : Rat) : Bool := if x - (x.floor : Rat) < mkRat 1 2 then false else if x - (x.floor : Rat) = mkRat 1 2 then decide (x.floor % 2 = 1) else true
/-- x rounded to an integer: down (1), up (2), to the nearest (3). -/
def toI (way : Int) (x : Rat) : Int := if way = 3 then (if nearUp x then rceil x else x.floor) else if way = 2 then rceil x else x.floor
/-- 10^p as a fraction. -/
def tenQ (p : Nat) : Rat := ((10 ^ p : Nat) : Rat)
theorem tenN_pos (p : Nat) : 0 < 10 ^ p := Nat.pow_pos (by decide)
/-- q rounded to a multiple of 10^-p. -/
def rnd (way : Int) (p : Nat) (q : Rat) : Rat := (toI way (q * tenQ p) : Rat) / tenQ p
end Go.Proofs.YtaimebjkidegiaaGreatDoor
namespace Go.Proofs.YtaimebjkidegiaaGreatDoor
open Go.RowKit
/-- 2^p as a fraction, and its inverse. -/
def twoQ (p : Nat) : Rat := ((2 ^ p : Nat) : Rat)
def stepR (p : Nat) : Rat := 1 / twoQ p
/-- The integer below the root of x; the one that is not below it. -/
def rtL (x : Rat) : Nat := isq x.floor.natAbs
def rtH (x : Rat) : Nat := if ((rtL x : Nat) : Rat) * ((rtL x : Nat) : Rat) = x then rtL x else rtL x + 1
end Go.Proofs.YtaimebjkidegiaaGreatDoor
namespace Go.Proofs.YtaimebjkidegiaaGreatDoor
open Go.RowKit
def scaleR (p : Nat) (a : Rat) : Rat := a * (twoQ p * twoQ p)
/-- The greatest multiple of 2^-p that is at most the root of a; the least one that is at least it. -/
def below (p : Nat) (a : Rat) : Rat := ((rtL (scaleR p a) : Nat) : Rat) * stepR p
def above (p : Nat) (a : Rat) : Rat := ((rtH (scaleR p a) : Nat) : Rat) * stepR p
end Go.Proofs.YtaimebjkidegiaaGreatDoor
namespace Go.Proofs.YtaimebjkidegiaaGreatDoor
open Go.RowKit
theorem floor_d {q : Rat} {k : Nat} (h : Sz q k) : dI q.floor ≤ k := by rw [rfloor]; exact Nat.le_trans (dI_mono (Int.natAbs_ediv_le_natAbs _ _)) h.1
theorem ceil_d {q : Rat} {k : Nat} (h : Sz q k) : dI (rceil q) ≤ k := by unfold rceil; rw [dI_neg]; exact floor_d h.neg
theorem toI_d {q : Rat} {k : Nat} (way : Int) (h : Sz q k) : dI (toI way q) ≤ k := by
 unfold toI
 split
 ·split
  ·exact ceil_d h
  ·exact floor_d h
 ·split
  ·exact ceil_d h
  ·exact floor_d h
theorem ten_d {p : Nat} (h : p ≤ 100) : (digs (10 ^ p)).length ≤ 6 := by
 refine digs_length_iff.2 (Nat.lt_of_le_of_lt (Nat.pow_le_pow_right (by decide) h) ?_)
 unfold Bs; decide +kernel
theorem two_d {p : Nat} (h : p ≤ 100) : (digs (2 ^ p)).length ≤ 2 := by
 refine digs_length_iff.2 (Nat.lt_of_le_of_lt (Nat.pow_le_pow_right (by decide) h) ?_)
 unfold Bs; decide +kernel
theorem nat_sz {n k : Nat} (h : (digs n).length ≤ k) (hk : 0 < k) : Sz ((n : Nat) : Rat) k := Sz.int (z := ((n : Nat) : Int)) (by rw [dI_nat]; exact h) hk
theorem ten_sz {p : Nat} (h : p ≤ 100) : Sz (tenQ p) 6 := nat_sz (ten_d h) (by decide)
end Go.Proofs.YtaimebjkidegiaaGreatDoor
namespace Go.Proofs.YtaimebjkidegiaaGreatDoor
open Go.RowKit
theorem frV_q0' : fracV 0 = .agg #[.int .u64 0, .string ⟨#[]⟩, .bool false, .int .u64 0, .string ⟨#[]⟩] := frV_00
end Go.Proofs.YtaimebjkidegiaaGreatDoor
namespace Go.Proofs.YtaimebjkidegiaaGreatDoor
open Go.RowKit
attribute [local irreducible] lo hs sm s64 c64 d64 b64 mh ml pd pc qd qc val hiB str cmpI srD lz nb isq decB zl zh zs
theorem szc (q : Rat) (h1 : q.num.natAbs < 18446744073709551616) (h2 : q.den < 18446744073709551616) : Sz q 1 :=
 ⟨digs_length_iff.2 (by rw [Nat.pow_one]; exact h1), digs_length_iff.2 (by rw [Nat.pow_one]; exact h2)⟩
theorem txt1 (d : Nat) (h : d < 10) : txt d = ⟨#[dch d]⟩ := by unfold txt; rw [dec_small h]
theorem zt_neg (d : Nat) (h : d < 10) (h0 : 0 < d) : ztxt (-(d : Int)) = ⟨#[45, dch d]⟩ := by
 unfold ztxt; rw [if_pos (by omega), Int.natAbs_neg, Int.natAbs_natCast, txt1 d h]; rfl
theorem qt_part {q : Rat} {z : Int} {d : Nat} (h1 : q.den = d) (hd : d ≠ 1) (h2 : q.num = z) : qtxt q = ztxt z ++ ByteArray.mk #[47] ++ txt d := by unfold qtxt; rw [if_neg (by rw [h1]; exact hd), h1, h2]
/-- The variable of package bytealg that strings.Cut looks at. -/
def MaxL (w : World) : Prop := ∃ m, w.cell? ⟨2, 0, none⟩ = some (.int .i64 m)
theorem MaxL.keeps : Keeps MaxL := fun w w' hb ⟨m, h⟩ => ⟨m, by
 have hl := World.block_lt_of_cell? w _ h
 exact (hb.cell (p := ⟨2, 0, none⟩) hl).trans h⟩
theorem maxL_of {w : World} (h : w.ShapedOpen Tryz.prog) : MaxL w := Tryz.laysM145.s1_3 w h
end Go.Proofs.YtaimebjkidegiaaGreatDoor
namespace Go.Proofs.YtaimebjkidegiaaGreatDoor
open Go.RowKit
theorem wholeD (z : Int) (hz : dI z ≤ 100000) (w : World) : Calls Tryz.prog 196 #[intV z] w fun e w' => e = .returned (fracV (z : Rat)) ∧ Below w.heap.size w w' := by
 have h := fun w => fromF z 1 (by omega) (by omega) (by have := two_d (p := 0) (by omega); exact Nat.le_trans this (by omega)) w
 rw [Rat.mkRat_one] at h
 exact dwhole_w z 0 (z : Rat) one_o h w
theorem ten_o (w : World) : Calls Tryz.prog 17 #[.int .u64 10] w fun e w' => e = .returned (natV 10) ∧ Below w.heap.size w w' := of_val 10 10 rfl (by unfold Bs; omega) w
theorem nb_ten : nb 10 ≤ 4 := by
 obtain ⟨k, h1, h2, -⟩ := nb_spec (n := 10) (by decide)
 rw [h1]
 rcases Nat.lt_or_ge k 4 with g | g
 ·omega
 ·exfalso
  have := Nat.pow_le_pow_right (show 0 < 2 by omega) g
  omega
theorem tensD (n : Nat) (h : n ≤ 100) (w : World) : Calls Tryz.prog 134 #[.int .i64 (n : Int)] w fun e w' => e = .returned (natV (10 ^ n)) ∧ Below w.heap.size w w' :=
 dtens_w n 0 (10 ^ n) ten_o (fun w => pow_ok 10 n (by omega) (by
  rcases Nat.eq_zero_or_pos n with g | g
  ·exact .inl g
  ·refine .inr (Nat.le_trans nb_ten ((Nat.le_div_iff_mul_le g).2 (by omega)))) (by have := ten_d (p := 1) (by omega); exact Nat.le_trans this (by omega)) w) w
theorem zl_one : zl 1 = 1 := by unfold zl; exact lo_small (by unfold Bs; decide)
theorem oddD (z : Int) (hz : dI z ≤ 100000) (w : World) : Calls Tryz.prog 256 #[intV z] w fun e w' => e = .returned (.bool (decide (z % 2 = 1))) ∧ Below w.heap.size w w' := by
 have H2 := fun w => ofI 2 (by decide) (by decide) w
 have H1 := fun w => ofI 1 (by decide) (by decide) w
 have HD := fun w => divI z 2 (by decide) (by omega) (by rw [show dI 2 = (digs 2).length from rfl]; have := two_d (p := 1) (by omega); exact Nat.le_trans this (by omega)) w
 rcases (show z % 2 = 1 ∨ z % 2 = 0 by omega) with h | h
 ·rw [h] at HD ⊢
  exact dodd_yes z _ H2 HD H1 w
 ·rw [h] at HD ⊢
  exact dodd_no z _ 0 H2 HD H1 (by rw [z0.1, zl_one]; rfl) (by rw [z0.1, zl_one]; rfl) (by rw [z0.1, zl_one]; decide) w
theorem nearD (a : Rat) (k : Nat) (ha : Sz a k) (hk : k ≤ 10000) (w : World) : Calls Tryz.prog 227 #[fracV a] w fun e w' => e = .returned (.bool (nearUp a)) ∧ Below w.heap.size w w' := by
 have HF := floorF a k ha (by omega)
 have hd := floor_d ha
 have HH := fun w => ofF 1 2 (by decide) (by decide) (by decide) (by decide) (by decide) w
 have eh : ((1 : Int) : Rat) / ((2 : Int) : Rat) = mkRat 1 2 := by decide +kernel
 rw [eh] at HH
 have HW := wholeD a.floor (by omega)
 have sf : Sz (a.floor : Rat) (k + 1) := Sz.int (Nat.le_trans hd (by omega)) (by omega)
 have HB := subF a (a.floor : Rat) (k + 1) (ha.mono (by omega)) sf (by omega)
 have HC := cmpF (a - (a.floor : Rat)) (mkRat 1 2) (k + k + 3) ((ha.sub sf).mono (by omega)) ((szc (mkRat 1 2) (by decide +kernel) (by decide +kernel)).mono (by omega)) (by omega)
 unfold nearUp
 by_cases h1 : a - (a.floor : Rat) < mkRat 1 2
 ·rw [if_pos h1]
  rw [show cmpQ (a - (a.floor : Rat)) (mkRat 1 2) = -1 by unfold cmpQ; rw [if_pos h1]] at HC
  exact dnear_lt a _ _ _ _ _ HF HH HW HB HC w
 ·rw [if_neg h1]
  by_cases h2 : a - (a.floor : Rat) = mkRat 1 2
  ·rw [if_pos h2]
   rw [show cmpQ (a - (a.floor : Rat)) (mkRat 1 2) = 0 by unfold cmpQ; rw [if_neg h1, if_pos h2]] at HC
   exact dnear_eq a _ _ _ _ _ _ HF HH HW HB HC (oddD a.floor (by omega)) w
  ·rw [if_neg h2]
   rw [show cmpQ (a - (a.floor : Rat)) (mkRat 1 2) = 1 by unfold cmpQ; rw [if_neg h1, if_neg h2]] at HC
   exact dnear_gt a _ _ _ _ _ HF HH HW HB HC w
theorem toID (a : Rat) (v : Int) (k : Nat) (ha : Sz a k) (hk : k ≤ 10000) (hv : 1 ≤ v ∧ v ≤ 3) (w : World) : Calls Tryz.prog 195 #[fracV a, .int .i64 v] w fun e w' => e = .returned (intV (toI v a)) ∧ Below w.heap.size w w' := by
 have HF := floorF a k ha (by omega)
 have HC := ceilF a k ha (by omega)
 have HN := nearD a k ha hk
 rcases (show v = 1 ∨ v = 2 ∨ v = 3 by omega) with rfl | rfl | rfl
 ·exact dtoi_down a _ HF w
 ·exact dtoi_up a _ HC w
 ·cases h : nearUp a with
  | false => rw [h] at HN; rw [show toI 3 a = a.floor by unfold toI; rw [if_pos rfl, h]; rfl]; exact dtoi_low a _ HN HF w
  | true => rw [h] at HN; rw [show toI 3 a = rceil a by unfold toI; rw [if_pos rfl, h]; rfl]; exact dtoi_high a _ HN HC w
/-- The code with which rounding to n places in the mode v ends. -/
def rdC (n v : Int) : Int := if n < 0 then 1 else if 100 < n then 3 else if v < 1 ∨ 3 < v then 1 else 0
theorem roundD (a : Rat) (p : Nat) (v : Int) (k : Nat) (ha : Sz a k) (hk : k ≤ 5000) (hp : p ≤ 100) (hv : 1 ≤ v ∧ v ≤ 3) (w : World) :
  Calls Tryz.prog 56 #[fracV a, .int .i64 (p : Int), .int .i64 v] w fun e w' => e = .returned (.tuple #[fracV (rnd v p a), .int .i64 0]) ∧ Below w.heap.size w w' := by
 have HT := tensD p hp
 have HI := fun w => fromI false (10 ^ p) ((10 ^ p : Nat) : Int) rfl w
 have hd : dI ((10 ^ p : Nat) : Int) ≤ 6 := by rw [dI_nat]; exact ten_d hp
 have HW := wholeD ((10 ^ p : Nat) : Int) (by omega)
 have et : (((10 ^ p : Nat) : Int) : Rat) = tenQ p := rfl
 rw [et] at HW
 have HM := mulF a (tenQ p) (k + 6) (ha.mono (by omega)) ((ten_sz hp).mono (by omega)) (by omega)
 have HN := toID (a * tenQ p) v (k + 6) (ha.mul (ten_sz hp)) (by omega) hv
 have HR := drnd_ok a _ _ (p : Int) v _ _ _ HT HI HW HM HN (decide_eq_false (by omega)) (decide_eq_false (by omega)) (decide_eq_false (by omega)) (decide_eq_false (by omega))
 have hz := toI_d v (ha.mul (ten_sz hp))
 have hpos := tenN_pos p
 have HF := fromF (toI v (a * tenQ p)) (10 ^ p) (by omega) (by omega) (by have := ten_d hp; omega)
 have e : mkRat (toI v (a * tenQ p)) (10 ^ p) = rnd v p a := by unfold rnd; rw [Rat.mkRat_eq_div]; rfl
 rw [e] at HF
 exact dround_ok a _ (p : Int) v _ 0 _ HR HT HF w
theorem intV_00 : intV 0 = .agg #[.int .u64 0, .string ⟨#[]⟩, .bool false] := by
 show Value.agg #[.int .u64 ((zl 0 : Nat) : Int), .string (zh 0), .bool (zs 0)] = _
 rw [z0.1, z0.2.1, z0.2.2]; rfl
theorem betweenD (a : Rat) (p : Nat) (k : Nat) (ha : Sz a k) (hk : k ≤ 5000) (hp : p ≤ 100) (w : World) :
  Calls Tryz.prog 57 #[fracV a, .int .i64 (p : Int)] w fun e w' => e = .returned (.tuple #[fracV (rnd 1 p a), fracV (rnd 2 p a), .int .i64 0]) ∧ Below w.heap.size w w' :=
 dbetween_ok a _ _ (p : Int) 0 (roundD a p 1 k ha hk hp (by decide)) (roundD a p 2 k ha hk hp (by decide)) w
end Go.Proofs.YtaimebjkidegiaaGreatDoor
namespace Go.Proofs.YtaimebjkidegiaaGreatDoor
open Go.RowKit
attribute [local irreducible] lo hs sm s64 c64 d64 b64 mh ml pd pc qd qc val hiB str cmpI srD lz nb isq
theorem wbyte_any (B b : Nat) (bs : List Value) (c : Int) (w : World) (h : Lib.IsBuilderF 273 5 B b bs w) (hlen : bs.length + 1 ≤ 140737488355328) (hBw : B ≤ w.heap.size) :
  Calls Tryz.prog 199 #[.pointer (some ⟨b, 0, none⟩), .int .u8 c] w fun e w' => e = .returned .nilIface ∧ (Lib.IsBuilderF 273 5 B b (bs ++ [.int .u8 c]) w' ∧ Below B w w' ∧ Lib.OthersKept 5 (some b) w w') := by
 obtain ⟨i0, hi, hz0, hz1, hz2⟩ := info_parts infoU8
 go_enter Tryz.func199, Tryz.ntmps199
 go_wp2_with (go_at_call 231; refine (check_any B b bs _ h).mono ?_)
 rintro e w1 ⟨rfl, h1, hb1, hk1⟩
 obtain ⟨hB, v, hbk, hown, hne⟩ := h1
 have c0 : w1.cell? ⟨b, 0, none⟩ = some (.pointer (some ⟨b, 0, none⟩)) := by rw [Lib.cell_of_heap hbk]; rfl
 have c1 : w1.cell? ⟨b, 1, none⟩ = some v := by rw [Lib.cell_of_heap hbk]; rfl
 go_wp2_with (at_builtin; refine wpList_append_ownF _ rfl _ _ 231 rfl B 5 i0 (.int .u8 0) 1 1 Tryz.underlying231 hi hz0 hz1 hz2 rfl (by decide) _ _ _ rfl (hown.alloc _) ⟨w1.heap.size, 0, none⟩ 1 1 [.int .u8 c] rfl rfl ?c1 ?c2 ?c3 ?c4 ?c5 ?_)
 case c1 =>
  intro j u hj
  match j, hj with
  | 0, hj => simp at hj; subst hj; simp [Addr.add]
 case c2 => intro u hu; simp at hu; subst hu; rfl
 case c3 => unfold maxLen; omega
 case c4 => omega
 case c5 => have := hb1.size; simp; omega
 intro v' w2 hown' hgrow _
 have hlt : b < w1.heap.size := by
  rcases Nat.lt_or_ge b w1.heap.size with h' | h'
  ·exact h'
  ·simp [Array.getElem?_eq_none h'] at hbk
 have hb2 : w2.heap[b]? = some (.cells #[.pointer (some ⟨b, 0, none⟩), v] 273 (0, 0)) := by
  rw [hgrow.block b (by simp; omega) (fun e => hne e.symm), Lib.alloc_old w1 _ b hlt]
  exact hbk
 have d0 : w2.cell? ⟨b, 0, none⟩ = some (.pointer (some ⟨b, 0, none⟩)) := by rw [Lib.cell_of_heap hb2]; rfl
 have d1 : w2.cell? ⟨b, 1, none⟩ = some v := by rw [Lib.cell_of_heap hb2]; rfl
 have f1 : w2.frozen? ⟨b, 1, none⟩ = false := Lib.frozen_of_heap hb2 1
 obtain ⟨g, cap, rfl⟩ : ∃ g cap, v' = .slice (some ⟨g, 0, none⟩) (bs.length + 1) cap := by
  rcases hown'.2 with ⟨_, h0⟩ | ⟨g, cap, cur, fz, hv, _⟩
  ·omega
  ·exact ⟨g, cap, hv⟩
 go_wp2
 go_ret
 refine ⟨rfl, ?_, ?_, ((hk1.alloc _).grown hgrow (Lib.ownsRowF_kind (hown.alloc _))).setCell ⟨b, 1, none⟩ rfl _⟩
 ·exact .inr (Lib.BuilderAtF.put (T := 273) (e := 5) hB hb2 (bs' := bs ++ [.int .u8 c]) (by simpa using hown') (by decide))
 ·exact ((hb1.alloc (by have := hb1.size; omega) _).grown hgrow (by have := hb1.size; simp; omega) (fun k hk => (hown.lt k hk).1)).setCell (p := ⟨b, 1, none⟩) hB _
theorem kept_below {w0 w w' : World} {b : Nat} (h : Lib.OthersKept 5 (some b) w0 w) (hb : Below w.heap.size w w') : Lib.OthersKept 5 (some b) w0 w' := fun k o hk hkb ho => by
 have h1 := h k o hk hkb ho
 rw [hb.block k (Array.getElem?_eq_some_iff.1 h1).1]; exact h1
theorem wbyte_l (B b : Nat) (l : List UInt8) (c : UInt8) (w : World) (h : Lib.IsBuilderF 273 5 B b (Lib.byteCells l) w) (hlen : l.length + 1 ≤ 140737488355328) (hBw : B ≤ w.heap.size) :
  Calls Tryz.prog 199 #[.pointer (some ⟨b, 0, none⟩), .int .u8 c.toNat] w fun e w' => e = .returned .nilIface ∧ Lib.IsBuilderF 273 5 B b (Lib.byteCells (l ++ [c])) w' ∧ Below B w w' ∧ Lib.OthersKept 5 (some b) w w' := by
 refine (wbyte_any B b (Lib.byteCells l) c.toNat w h (by rw [Lib.byteCells_length]; exact hlen) hBw).mono ?_
 rintro e w' ⟨rfl, h1, h2, h3⟩
 refine ⟨rfl, ?_, h2, h3⟩
 rw [Lib.byteCells_append]; exact h1
theorem wstr_l (B b : Nat) (l m : List UInt8) (w : World) (h : Lib.IsBuilderF 273 5 B b (Lib.byteCells l) w) (hlen : l.length + m.length ≤ 140737488355328) (hBw : B ≤ w.heap.size) :
  Calls Tryz.prog 200 #[.pointer (some ⟨b, 0, none⟩), .string ⟨m.toArray⟩] w fun e w' => e = .returned (.tuple #[.int .i64 m.length, .nilIface]) ∧ Lib.IsBuilderF 273 5 B b (Lib.byteCells (l ++ m)) w' ∧ Below B w w' ∧ Lib.OthersKept 5 (some b) w w' := by
 refine (write_any B b (Lib.byteCells l) ⟨m.toArray⟩ w h (by rw [Lib.byteCells_length]; exact hlen) hBw).mono ?_
 rintro e w' ⟨rfl, h1, h2, h3⟩
 refine ⟨rfl, ?_, h2, h3⟩
 rw [Lib.byteCells_append]; exact h1
end Go.Proofs.YtaimebjkidegiaaGreatDoor
namespace Go.Proofs.YtaimebjkidegiaaGreatDoor
open Go.RowKit
theorem dvd_ten (m t c : Nat) (h0 : 0 < m) : m ∣ t * c ↔ m / Nat.gcd m t ∣ c := by
 have hg : 0 < Nat.gcd m t := Nat.gcd_pos_of_pos_left t h0
 have hm : Nat.gcd m t * (m / Nat.gcd m t) = m := Nat.mul_div_cancel' (Nat.gcd_dvd_left m t)
 have ht : Nat.gcd m t * (t / Nat.gcd m t) = t := Nat.mul_div_cancel' (Nat.gcd_dvd_right m t)
 have hc : Nat.Coprime (m / Nat.gcd m t) (t / Nat.gcd m t) := Nat.coprime_div_gcd_div_gcd hg
 constructor
 ·intro h
  have h1 : Nat.gcd m t * (m / Nat.gcd m t) ∣ Nat.gcd m t * (t / Nat.gcd m t * c) := by
   rw [hm, ← Nat.mul_assoc, ht]; exact h
  exact hc.dvd_of_dvd_mul_left (Nat.dvd_of_mul_dvd_mul_left hg h1)
 ·intro h
  have h1 : Nat.gcd m t * (m / Nat.gcd m t) ∣ t * c := by
   rw [← ht, Nat.mul_assoc]
   rw [ht]
   exact Nat.mul_dvd_mul_left _ (Nat.dvd_mul_left_of_dvd h _)
  rwa [hm] at h1
/-- What is left of a denominator behind n leading digits. -/
def Eden (D : Nat) : Nat → Nat
 | 0 => D
 | n + 1 => Eden D n / Nat.gcd (Eden D n) 10
theorem Eden_pos {D : Nat} (h : 0 < D) : ∀ n, 0 < Eden D n
 | 0 => h
 | n + 1 => Nat.div_pos (Nat.gcd_le_left 10 (Eden_pos h n)) (Nat.gcd_pos_of_pos_left 10 (Eden_pos h n))
theorem Eden_dvd {D : Nat} (h : 0 < D) (n : Nat) : ∀ c, D ∣ 10 ^ n * c ↔ Eden D n ∣ c := by
 induction n with
 | zero => intro c; simp [Eden]
 | succ n ih =>
  intro c
  rw [Nat.pow_succ, Nat.mul_assoc, ih, dvd_ten _ _ _ (Eden_pos h n)]; rfl
theorem Eden_le {D : Nat} : ∀ n, Eden D n ≤ D
 | 0 => Nat.le_refl _
 | n + 1 => Nat.le_trans (Nat.div_le_self _ _) (Eden_le n)
/-- k leading digits: what is left has nothing in common with 10, and not before. -/
structure Lead (D k : Nat) : Prop where
 one : Nat.gcd (Eden D k) 10 = 1
 bef : ∀ i, i < k → Nat.gcd (Eden D i) 10 ≠ 1
theorem Eden_stay {D k : Nat} (h : Nat.gcd (Eden D k) 10 = 1) : ∀ i, Eden D (k + i) = Eden D k
 | 0 => rfl
 | i + 1 => by
  show Eden D (k + i) / Nat.gcd (Eden D (k + i)) 10 = Eden D k
  rw [Eden_stay h i, h, Nat.div_one]
theorem Lead.stay {D k m : Nat} (h : Lead D k) (hm : k ≤ m) : Eden D m = Eden D k := by
 have := Eden_stay h.one (m - k)
 rwa [Nat.add_sub_cancel' hm] at this
theorem Lead.uniq {D k m : Nat} (h : Lead D k) (g : Lead D m) : k = m := by
 rcases Nat.lt_trichotomy k m with h1 | h1 | h1
 ·exact absurd h.one (g.bef k h1)
 ·exact h1
 ·exact absurd g.one (h.bef m h1)
theorem ten_dvd {n : Nat} (h : 0 < n) : 10 ∣ 10 ^ n := by
 obtain ⟨m, rfl⟩ : ∃ m, n = m + 1 := ⟨n - 1, by omega⟩
 rw [Nat.pow_succ]; exact Nat.dvd_mul_left _ _
theorem dvd_nines {e n : Nat} (h : 0 < n) (hd : e ∣ 10 ^ n - 1) : Nat.gcd e 10 = 1 := by
 have h1 : Nat.gcd e 10 ∣ 10 ^ n - 1 := Nat.dvd_trans (Nat.gcd_dvd_left _ _) hd
 have h2 : Nat.gcd e 10 ∣ 10 ^ n := Nat.dvd_trans (Nat.gcd_dvd_right _ _) (ten_dvd h)
 have hp : 0 < 10 ^ n := Nat.pow_pos (by decide)
 have h3 : Nat.gcd e 10 ∣ 10 ^ n - (10 ^ n - 1) := Nat.dvd_sub h2 h1
 have h4 : 10 ^ n - (10 ^ n - 1) = 1 := by omega
 rw [h4] at h3
 exact Nat.dvd_one.1 h3
/-- A number times 10^m times 10^n - 1 is an integer exactly behind the leading digits and for a multiple of the period. -/
theorem Lead.round {D k : Nat} (h0 : 0 < D) (h : Lead D k) (m n : Nat) (hn : 0 < n) : D ∣ 10 ^ m * (10 ^ n - 1) ↔ k ≤ m ∧ Eden D k ∣ 10 ^ n - 1 := by
 rw [Eden_dvd h0]
 constructor
 ·intro hd
  have hk : k ≤ m := by
   rcases Nat.lt_or_ge m k with h1 | h1
   ·exact absurd (dvd_nines hn hd) (h.bef m h1)
   ·exact h1
  rw [h.stay hk] at hd
  exact ⟨hk, hd⟩
 ·rintro ⟨hk, hd⟩
  rw [h.stay hk]; exact hd
theorem Lead.ends {D k : Nat} (h0 : 0 < D) (h : Lead D k) (m : Nat) : D ∣ 10 ^ m ↔ k ≤ m ∧ Eden D k = 1 := by
 have e := Eden_dvd h0 m 1
 rw [Nat.mul_one] at e
 rw [e, Nat.dvd_one]
 constructor
 ·intro hd
  have hk : k ≤ m := by
   rcases Nat.lt_or_ge m k with h1 | h1
   ·exact absurd (by rw [hd]; rfl) (h.bef m h1)
   ·exact h1
  rw [h.stay hk] at hd
  exact ⟨hk, hd⟩
 ·rintro ⟨hk, hd⟩
  rw [h.stay hk]; exact hd
/-- No leading digits end by most: no power of 10 up to there clears the denominator, nor does one before a period. -/
theorem no_lead {D most : Nat} (h0 : 0 < D) (h : ∀ i, i ≤ most → Nat.gcd (Eden D i) 10 ≠ 1) : (∀ m, m ≤ most → ¬ D ∣ 10 ^ m) ∧ ∀ m n, m ≤ most → 0 < n → ¬ D ∣ 10 ^ m * (10 ^ n - 1) := by
 constructor
 ·intro m hm hd
  have e := Eden_dvd h0 m 1
  rw [Nat.mul_one] at e
  have := Nat.dvd_one.1 (e.1 hd)
  exact h m hm (by rw [this]; rfl)
 ·intro m n hm hn hd
  exact h m hm (dvd_nines hn ((Eden_dvd h0 m _).1 hd))
theorem mod_same {d a b : Nat} (h : a ≤ b) : a % d = b % d ↔ d ∣ b - a := by
 constructor
 ·intro e
  exact Nat.dvd_of_mod_eq_zero (Nat.sub_mod_eq_zero_of_mod_eq e.symm)
 ·rintro ⟨q, e⟩
  have : b = a + d * q := by omega
  rw [this, Nat.add_mul_mod_self_left]
/-- The remainder behind n steps is 1 exactly for a multiple of the period. -/
theorem rest_one {d n : Nat} (h : 1 < d) : 10 ^ n % d = 1 ↔ d ∣ 10 ^ n - 1 := by
 have hp : 1 ≤ 10 ^ n := Nat.pow_pos (by decide)
 have e := mod_same (d := d) hp
 rw [Nat.mod_eq_of_lt h] at e
 rw [← e]
 exact ⟨Eq.symm, Eq.symm⟩
/-- Long division: the remainders of a number in lowest terms. -/
def remN (a D n : Nat) : Nat := a * 10 ^ n % D
theorem rem_zero {a D n : Nat} (hc : Nat.Coprime a D) : remN a D n = 0 ↔ D ∣ 10 ^ n := by
 unfold remN
 rw [← Nat.dvd_iff_mod_eq_zero]
 exact ⟨fun h => hc.symm.dvd_of_dvd_mul_left h, fun h => Nat.dvd_mul_left_of_dvd h _⟩
theorem rem_step (a D n : Nat) : remN a D n * 10 % D = remN a D (n + 1) := by
 unfold remN
 rw [Nat.pow_succ, ← Nat.mul_assoc, Nat.mod_mul_mod]
theorem rem_same {a D i n : Nat} (hc : Nat.Coprime a D) (h : i ≤ n) : remN a D i = remN a D n ↔ D ∣ 10 ^ i * (10 ^ (n - i) - 1) := by
 have e : 10 ^ n = 10 ^ i * 10 ^ (n - i) := by rw [← Nat.pow_add, Nat.add_sub_cancel' h]
 have hp : 1 ≤ 10 ^ (n - i) := Nat.pow_pos (by decide)
 have hle : a * 10 ^ i ≤ a * 10 ^ n := Nat.mul_le_mul_left _ (Nat.pow_le_pow_right (by decide) h)
 have e2 : a * 10 ^ n - a * 10 ^ i = a * (10 ^ i * (10 ^ (n - i) - 1)) := by
  rw [e, ← Nat.mul_sub, Nat.mul_sub (10 ^ i), Nat.mul_one]
 unfold remN
 rw [mod_same hle, e2]
 exact ⟨fun g => hc.symm.dvd_of_dvd_mul_left g, fun g => Nat.dvd_mul_left_of_dvd g _⟩
end Go.Proofs.YtaimebjkidegiaaGreatDoor
namespace Go.Proofs.YtaimebjkidegiaaGreatDoor
open Go.RowKit
attribute [local irreducible] lo hs sm s64 c64 d64 b64 mh ml pd pc qd qc val hiB str cmpI srD lz nb isq decB zl zh zs fe
theorem dlead_w (D : Nat) (R : Value)
  (HT : ∀ w, Calls Tryz.prog 17 #[.int .u64 10] w fun xe w' => xe = .returned (natV 10) ∧ Below w.heap.size w w')
  (HO : ∀ w, Calls Tryz.prog 17 #[.int .u64 1] w fun xe w' => xe = .returned (natV 1) ∧ Below w.heap.size w w')
  (hsz : (digs D).length ≤ 1000000) (h1 : ∀ i d : Nat, i ≤ 100 → d = Eden D i → Nat.gcd d 10 = 1 → (∀ j, j < i → Nat.gcd (Eden D j) 10 ≠ 1) → R = .tuple #[.int .i64 (i : Int), natV d]) (h2 : (∀ j, j ≤ 100 → Nat.gcd (Eden D j) 10 ≠ 1) → R = .tuple #[.int .i64 101, natV (Eden D 101)]) (w : World) :
  Calls Tryz.prog 44 #[natV D] w fun xe w' => xe = .returned R ∧ Below w.heap.size w w' := by
 replace HT := Lib.hid HT
 replace HO := Lib.hid HO
 replace hsz := Lib.hid hsz
 replace h1 := Lib.hid h1
 replace h2 := Lib.hid h2
 have hL0 : GL w w [] := GL.start w
 obtain ⟨x1, hweq, hL0⟩ := GL.named ((hL0.new rfl [.int .u64 ((lo D : Nat) : Int), .string (hs D)] 30).new (K := w.heap.size + 1) (szA _ _) [.int .u64 0, .string ⟨#[]⟩] 30)
 go_enter Tryz.func44, Tryz.ntmps44
 go_wp2_with fail
 clear hweq
 go_loopg [6] 101 (fun gk iv wr => ∃ (i d : Nat), i + gk = 101 ∧ iv = .int .i64 (i : Int) ∧ d = Eden D i ∧ (∀ j, j < i → Nat.gcd (Eden D j) 10 ≠ 1) ∧ GL w wr [(w.heap.size + 1, [.int .u64 0, .string ⟨#[]⟩]), (w.heap.size, [.int .u64 ((lo d : Nat) : Int), .string (hs d)])])
 case atStart => exact ⟨0, _, rfl, by first | rfl | go_num, rfl, (fun j h => absurd h (Nat.not_lt_zero _)), hL0⟩
 case round =>
  clear hL0
  obtain ⟨i, d, hik, rfl, hd, hbef, hL0⟩ := hrel
  by_cases hin : i < 101
  ·have k1 : (i : Int) < 101 := by omega
   have kb : (i : Int) ≤ 101 := by omega
   have k0 : (0 : Int) ≤ (i : Int) := by omega
   have hdD : (digs d).length ≤ 1000000 := by rw [hd]; exact Nat.le_trans (digs_mono (Eden_le i)) hsz.out
   have HG := Lib.hid (fun w => gcd_any d 10 (by omega) (Nat.le_trans (digs_length_iff.2 (show 10 < Bs ^ 1 by rw [Nat.pow_one]; unfold Bs; decide)) (by omega)) w)
   obtain ⟨g, hg⟩ : ∃ g, g = Nat.gcd d 10 := ⟨_, rfl⟩
   rw [← hg] at HG
   have hg0 : 0 < g := by rw [hg]; exact Nat.gcd_pos_of_pos_right _ (by decide)
   by_cases hg1 : g = 1
   ·have hR := Lib.hid (h1.out i d (by omega) hd (by rw [← hg, hg1]) hbef)
    subst hg1
    clear hg hd hbef hg0
    go_upto_region 4 with fail
    refine region_gh (by kernel_rfl) (by kernel_rfl) ?_
    refine lex_seg (gl := []) 3 (by kernel_rfl) ?_
    intro α iα F hF1 hF2
    have hq := GL.seg hF1 hL0
    simp only [zC, Nat.reduceAdd] at hq
    simp only [zT]
    repeat (go_big_quiet_step (first | fail | (go_at_call 17; with_reducible exact seg_call hF2 HT.out _) | (go_at_call 118; with_reducible exact seg_call hF2 HG.out _)))
    refine wpQuiet_nil ?_
    clear hq hF1 hF2 iα F α
    refine lex_new [.int .u64 0, .string ⟨#[]⟩] 5 30 30 rfl rfl (of_decide_eq_true (by kernel_rfl)) (by kernel_rfl) rfl new_natc ?_
    simp only [Act.put, zP]
    refine lex_put [.int .u64 ((lo 1 : Nat) : Int), .string (hs 1)] [.int .u64 0, .string ⟨#[]⟩] 5 30 (.tmp 11) rfl (by kernel_rfl) (by simp [toG, upd]) rfl (fun w k h => put_natc _ _ _ _ w k h) ?_
    simp only [Act.put]
    refine lexG_nil ?_
    intro κ x2 hS
    replace hL0 := hL0.ghs hS [(5, [.int .u64 ((lo 1 : Nat) : Int), .string (hs 1)])] (by simp) (by intro p hp; simp only [List.mem_cons, List.not_mem_nil, or_false] at hp; rcases hp with rfl <;> exact ⟨_, by simp only [toG, upd]; rfl⟩)
    simp only [List.map_cons, List.map_nil, List.cons_append, List.nil_append] at hL0
    simp only [over_toG, over_nil, Act.put, zP]
    clear hS
    generalize κ 5 = k2_5 at *
    go_upto_region 5 with fail
    obtain ⟨α, iα, F, hF1, hF2⟩ := cls x2
    have hq0 := cls_box hF1 hL0 _ _ mZ
    simp only [zC, Nat.reduceAdd] at hq0
    refine region_qs 3 (C := fun w' => ∃ x, w' = F x) (by kernel_rfl) (by kernel_rfl) (cls_drew hF2) ?_
    simp only [zT]
    repeat (go_big_quiet_step (first | fail | (go_at_call 17; with_reducible exact cls_call hF1 hF2 HO.out _)))
    refine wpQuiet_nil ?_
    rintro wq ⟨xq, rfl⟩
    replace hL0 := hL0.call (hF1 xq)
    clear  hq0 hF2
    generalize F xq = x3 at hL0 ⊢
    clear hF1 xq iα F α
    go_upto_region 6 with fail
    obtain ⟨α, iα, F, hF1, hF2⟩ := cls x3
    have hq0 := cls_box hF1 hL0 _ _ (mK (mK mZ))
    simp only [zC, Nat.reduceAdd] at hq0
    refine region_qs 3 (C := fun w' => ∃ x, w' = F x) (by kernel_rfl) (by kernel_rfl) (cls_drew hF2) ?_
    simp only [zT]
    repeat (go_big_quiet_step (first | fail))
    refine wpQuiet_nil ?_
    rintro wq ⟨xq, rfl⟩
    replace hL0 := hL0.call (hF1 xq)
    clear  hq0 hF2
    generalize F xq = x4 at hL0 ⊢
    clear hF1 xq iα F α
    have hA := hL0.fc
    simp only [zF, Nat.reduceAdd] at hA
    obtain ⟨x5, hput1, hP⟩ := GL.named (hL0.put 1 (w.heap.size + 1) _ rfl [.int .u64 ((lo d : Nat) : Int), .string (hs d)] rfl)
    simp only [setAll] at hput1
    simp only [List.set_cons_zero, List.set_cons_succ] at hP
    have hB1 := hP.fc
    simp only [zF, Nat.reduceAdd] at hB1
    replace hL0 := hP
    go_wp2_with fail
    exact bodyPost_ret (v := .tuple #[.int .i64 (i : Int), natV d]) (by simp [results, Tryz.results44, go_sem, hB1]) rfl ⟨by rw [hR.out], hL0.bl⟩
   ·have hne := ne_nat hg1
    have HD := Lib.hid (fun w => div_pos d g hg0 (by omega) w)
    have hb2 := Lib.hid (show ∀ j, j < i + 1 → Nat.gcd (Eden D j) 10 ≠ 1 from fun j hj => by
      rcases Nat.lt_or_ge j i with q | q
      ·exact hbef j q
      ·obtain rfl : j = i := by omega
       rw [← hd, ← hg]; exact hg1)
    obtain ⟨e, he⟩ : ∃ e, e = d / g := ⟨_, rfl⟩
    have hnx := Lib.hid (show e = Eden D (i + 1) from by rw [he, hg, hd]; rfl)
    rw [← he] at HD
    obtain ⟨r, hr⟩ : ∃ r, r = d % g := ⟨_, rfl⟩
    rw [← hr] at HD
    clear he hr hg hd hbef hg0 hg1 hdD
    rcases hne with e0 | ⟨e0, e1⟩
    ·have kk : 0 ≤ i := Nat.zero_le _
     go_upto_region 4 with fail
     refine region_gh (by kernel_rfl) (by kernel_rfl) ?_
     refine lex_seg (gl := []) 3 (by kernel_rfl) ?_
     intro α iα F hF1 hF2
     have hq := GL.seg hF1 hL0
     simp only [zC, Nat.reduceAdd] at hq
     simp only [zT]
     repeat (go_big_quiet_step (first | fail | (go_at_call 17; with_reducible exact seg_call hF2 HT.out _) | (go_at_call 118; with_reducible exact seg_call hF2 HG.out _)))
     refine wpQuiet_nil ?_
     clear hq hF1 hF2 iα F α
     refine lex_new [.int .u64 0, .string ⟨#[]⟩] 5 30 30 rfl rfl (of_decide_eq_true (by kernel_rfl)) (by kernel_rfl) rfl new_natc ?_
     simp only [Act.put, zP]
     refine lex_put [.int .u64 ((lo g : Nat) : Int), .string (hs g)] [.int .u64 0, .string ⟨#[]⟩] 5 30 (.tmp 11) rfl (by kernel_rfl) (by simp [toG, upd]) rfl (fun w k h => put_natc _ _ _ _ w k h) ?_
     simp only [Act.put]
     refine lexG_nil ?_
     intro κ x2 hS
     replace hL0 := hL0.ghs hS [(5, [.int .u64 ((lo g : Nat) : Int), .string (hs g)])] (by simp) (by intro p hp; simp only [List.mem_cons, List.not_mem_nil, or_false] at hp; rcases hp with rfl <;> exact ⟨_, by simp only [toG, upd]; rfl⟩)
     simp only [List.map_cons, List.map_nil, List.cons_append, List.nil_append] at hL0
     simp only [over_toG, over_nil, Act.put, zP]
     clear hS
     generalize κ 5 = k2_5 at *
     go_upto_region 5 with fail
     obtain ⟨α, iα, F, hF1, hF2⟩ := cls x2
     have hq0 := cls_box hF1 hL0 _ _ mZ
     simp only [zC, Nat.reduceAdd] at hq0
     refine region_qs 3 (C := fun w' => ∃ x, w' = F x) (by kernel_rfl) (by kernel_rfl) (cls_drew hF2) ?_
     simp only [zT]
     repeat (go_big_quiet_step (first | fail | (go_at_call 17; with_reducible exact cls_call hF1 hF2 HO.out _)))
     refine wpQuiet_nil ?_
     rintro wq ⟨xq, rfl⟩
     replace hL0 := hL0.call (hF1 xq)
     clear  hq0 hF2
     generalize F xq = x3 at hL0 ⊢
     clear hF1 xq iα F α
     have hN0 := cells_of _ 0 [] rfl (hL0.get _ _ mZ)
     simp only [zF, Nat.reduceAdd] at hN0
     have hN1 := cells_of _ 0 [] rfl (hL0.get _ _ (mK (mK mZ)))
     simp only [zF, Nat.reduceAdd] at hN1
     go_wp2_with fail
     clear hN0 hN1
     with_reducible refine Calls.mono (HD.out _) ?_
     rintro e x4 ⟨rfl, hb⟩
     replace hL0 := hL0.call hb
     clear hb
     have hA := hL0.fc
     simp only [zF, Nat.reduceAdd] at hA
     obtain ⟨x5, hput1, hP⟩ := GL.named (hL0.put 2 (w.heap.size) _ rfl [.int .u64 ((lo e : Nat) : Int), .string (hs e)] rfl)
     simp only [setAll] at hput1
     simp only [List.set_cons_zero, List.set_cons_succ] at hP
     have hB1 := hP.fc
     simp only [zF, Nat.reduceAdd] at hB1
     replace hL0 := hP
     go_wp2_with fail
     go_roundg (gk - 1)
     case measure => omega
     case rel => exact ⟨i + 1, e, by omega, by first | rfl | go_num, hnx.out, hb2.out, hL0.weak (List.Sublist.cons _ (List.Sublist.refl _))⟩
    ·have kk : 0 ≤ i := Nat.zero_le _
     go_upto_region 4 with fail
     refine region_gh (by kernel_rfl) (by kernel_rfl) ?_
     refine lex_seg (gl := []) 3 (by kernel_rfl) ?_
     intro α iα F hF1 hF2
     have hq := GL.seg hF1 hL0
     simp only [zC, Nat.reduceAdd] at hq
     simp only [zT]
     repeat (go_big_quiet_step (first | fail | (go_at_call 17; with_reducible exact seg_call hF2 HT.out _) | (go_at_call 118; with_reducible exact seg_call hF2 HG.out _)))
     refine wpQuiet_nil ?_
     clear hq hF1 hF2 iα F α
     refine lex_new [.int .u64 0, .string ⟨#[]⟩] 5 30 30 rfl rfl (of_decide_eq_true (by kernel_rfl)) (by kernel_rfl) rfl new_natc ?_
     simp only [Act.put, zP]
     refine lex_put [.int .u64 ((lo g : Nat) : Int), .string (hs g)] [.int .u64 0, .string ⟨#[]⟩] 5 30 (.tmp 11) rfl (by kernel_rfl) (by simp [toG, upd]) rfl (fun w k h => put_natc _ _ _ _ w k h) ?_
     simp only [Act.put]
     refine lexG_nil ?_
     intro κ x2 hS
     replace hL0 := hL0.ghs hS [(5, [.int .u64 ((lo g : Nat) : Int), .string (hs g)])] (by simp) (by intro p hp; simp only [List.mem_cons, List.not_mem_nil, or_false] at hp; rcases hp with rfl <;> exact ⟨_, by simp only [toG, upd]; rfl⟩)
     simp only [List.map_cons, List.map_nil, List.cons_append, List.nil_append] at hL0
     simp only [over_toG, over_nil, Act.put, zP]
     clear hS
     generalize κ 5 = k2_5 at *
     go_upto_region 5 with fail
     obtain ⟨α, iα, F, hF1, hF2⟩ := cls x2
     have hq0 := cls_box hF1 hL0 _ _ mZ
     simp only [zC, Nat.reduceAdd] at hq0
     refine region_qs 3 (C := fun w' => ∃ x, w' = F x) (by kernel_rfl) (by kernel_rfl) (cls_drew hF2) ?_
     simp only [zT]
     repeat (go_big_quiet_step (first | fail | (go_at_call 17; with_reducible exact cls_call hF1 hF2 HO.out _)))
     refine wpQuiet_nil ?_
     rintro wq ⟨xq, rfl⟩
     replace hL0 := hL0.call (hF1 xq)
     clear  hq0 hF2
     generalize F xq = x3 at hL0 ⊢
     clear hF1 xq iα F α
     have hN0 := cells_of _ 0 [] rfl (hL0.get _ _ mZ)
     simp only [zF, Nat.reduceAdd] at hN0
     have hN1 := cells_of _ 0 [] rfl (hL0.get _ _ (mK (mK mZ)))
     simp only [zF, Nat.reduceAdd] at hN1
     go_wp2_with fail
     clear hN0 hN1
     with_reducible refine Calls.mono (HD.out _) ?_
     rintro e x4 ⟨rfl, hb⟩
     replace hL0 := hL0.call hb
     clear hb
     have hA := hL0.fc
     simp only [zF, Nat.reduceAdd] at hA
     obtain ⟨x5, hput1, hP⟩ := GL.named (hL0.put 2 (w.heap.size) _ rfl [.int .u64 ((lo e : Nat) : Int), .string (hs e)] rfl)
     simp only [setAll] at hput1
     simp only [List.set_cons_zero, List.set_cons_succ] at hP
     have hB1 := hP.fc
     simp only [zF, Nat.reduceAdd] at hB1
     replace hL0 := hP
     go_wp2_with fail
     go_roundg (gk - 1)
     case measure => omega
     case rel => exact ⟨i + 1, e, by omega, by first | rfl | go_num, hnx.out, hb2.out, hL0.weak (List.Sublist.cons _ (List.Sublist.refl _))⟩
  ·obtain rfl : i = 101 := by omega
   have k1 : ¬ ((101 : Nat) : Int) < 101 := by decide
   have hR := Lib.hid (h2.out (fun j hj => hbef j (by omega)))
   rw [← hd] at hR
   clear hd hbef hik
   go_upto_region 9 with fail
   obtain ⟨α, iα, F, hF1, hF2⟩ := cls wr
   have hq0 := cls_box hF1 hL0 _ _ (mK mZ)
   simp only [zC, Nat.reduceAdd] at hq0
   refine region_qs 2 (C := fun w' => ∃ x, w' = F x) (by kernel_rfl) (by kernel_rfl) (cls_drew hF2) ?_
   simp only [zT]
   repeat (go_big_quiet_step (first | fail))
   refine wpQuiet_nil ?_
   rintro wq ⟨xq, rfl⟩
   replace hL0 := hL0.call (hF1 xq)
   clear  hq0 hF2
   generalize F xq = x2 at hL0 ⊢
   clear hF1 xq iα F α
   have hA := hL0.fc
   simp only [zF, Nat.reduceAdd] at hA
   obtain ⟨x3, hput1, hP⟩ := GL.named (hL0.put 0 (w.heap.size + 1) _ rfl [.int .u64 ((lo d : Nat) : Int), .string (hs d)] rfl)
   simp only [setAll] at hput1
   simp only [List.set_cons_zero, List.set_cons_succ] at hP
   have hB1 := hP.fc
   simp only [zF, Nat.reduceAdd] at hB1
   replace hL0 := hP
   go_wp2_with fail
   exact bodyPost_ret (v := .tuple #[.int .i64 101, natV d]) (by simp [results, Tryz.results44, go_sem, hB1]) rfl ⟨by rw [hR.out], hL0.bl⟩
theorem dper_w (d n : Nat) (R : Value)
  (HT : ∀ w, Calls Tryz.prog 17 #[.int .u64 10] w fun xe w' => xe = .returned (natV 10) ∧ Below w.heap.size w w')
  (HO : ∀ w, Calls Tryz.prog 17 #[.int .u64 1] w fun xe w' => xe = .returned (natV 1) ∧ Below w.heap.size w w')
  (hsz : (digs d).length ≤ 1000000) (hd1 : 1 < d) (hn : n ≤ 100) (h1 : ∀ k : Nat, 1 ≤ k → k ≤ n → 10 ^ k % d = 1 → (∀ j, 1 ≤ j → j < k → 10 ^ j % d ≠ 1) → R = .tuple #[.int .i64 (k : Int), .bool true]) (h2 : (∀ j, 1 ≤ j → j ≤ n → 10 ^ j % d ≠ 1) → R = .tuple #[.int .i64 0, .bool false]) (w : World) :
  Calls Tryz.prog 46 #[natV d, .int .i64 (n : Int)] w fun xe w' => xe = .returned R ∧ Below w.heap.size w w' := by
 replace HT := Lib.hid HT
 replace HO := Lib.hid HO
 replace hsz := Lib.hid hsz
 replace hd1 := Lib.hid hd1
 replace hn := Lib.hid hn
 replace h1 := Lib.hid h1
 replace h2 := Lib.hid h2
 have hL0 : GL w w [] := GL.start w
 obtain ⟨x1, hweq, hL0⟩ := GL.named (hL0.new rfl [.int .u64 ((lo d : Nat) : Int), .string (hs d)] 30)
 go_enter Tryz.func46, Tryz.ntmps46
 go_wp2_with fail
 with_reducible refine Calls.mono (HO.out _) ?_
 rintro e x2 ⟨rfl, hb⟩
 replace hL0 := hL0.call hb
 clear hb hweq
 obtain ⟨x3, hweq, hL0⟩ := GL.named (hL0.new rfl [.int .u64 ((lo 1 : Nat) : Int), .string (hs 1)] 30)
 go_wp2_with fail
 clear hweq
 go_loopg [10] n (fun gk iv wr => ∃ (i r : Nat), i + gk = n ∧ iv = .int .i64 (i : Int) ∧ r = 10 ^ i % d ∧ (∀ j, 1 ≤ j → j ≤ i → 10 ^ j % d ≠ 1) ∧ GL w wr [(x2.heap.size, [.int .u64 ((lo r : Nat) : Int), .string (hs r)]), (w.heap.size, [.int .u64 ((lo d : Nat) : Int), .string (hs d)])])
 case atStart => exact ⟨0, 1, Nat.zero_add n, by first | rfl | go_num, by rw [Nat.pow_zero, Nat.mod_eq_of_lt hd1.out], (fun j h1 h2 => by omega), hL0⟩
 case round =>
  clear hL0
  obtain ⟨i, r, hik, rfl, hr, hbef, hL0⟩ := hrel
  by_cases hin : i < n
  ·have k1 : (i : Int) < (n : Int) := by omega
   have kb : (i : Int) ≤ 1000 := by have := hn.out; omega
   have k0 : (0 : Int) ≤ (i : Int) := by omega
   have hrd : r < d := by rw [hr]; exact Nat.mod_lt _ (by have := hd1.out; omega)
   have hrs : (digs r).length ≤ 1000000 := Nat.le_trans (digs_mono (Nat.le_of_lt hrd)) hsz.out
   have h10 : (digs 10).length ≤ 1 := digs_length_iff.2 (by rw [Nat.pow_one]; unfold Bs; decide)
   have HM := Lib.hid (fun w => mul_any r 10 (by omega) (by omega) w)
   have hms : (digs (r * 10)).length ≤ 1000001 := Nat.le_trans (digs_mul_le hrs h10) (by omega)
   obtain ⟨m, hm⟩ : ∃ m, m = r * 10 := ⟨_, rfl⟩
   rw [← hm] at HM hms
   have HD := Lib.hid (fun w => div_pos m d (by have := hd1.out; omega) (by omega) w)
   obtain ⟨q, hq⟩ : ∃ q, q = m / d := ⟨_, rfl⟩
   obtain ⟨t, ht⟩ : ∃ t, t = m % d := ⟨_, rfl⟩
   rw [← hq, ← ht] at HD
   have hnx : t = 10 ^ (i + 1) % d := by rw [ht, hm, hr, Nat.pow_succ, Nat.mod_mul_mod]
   clear hq ht hm hr hrd hrs h10 hms
   by_cases ht1 : t = 1
   ·have hR := Lib.hid (h1.out (i + 1) (by omega) (by omega) (by rw [← hnx, ht1]) (fun j q1 q2 => hbef j q1 (by omega)))
    subst ht1
    clear hnx hbef
    go_upto_region 5 with fail
    obtain ⟨α, iα, F, hF1, hF2⟩ := cls wr
    have hq0 := cls_box hF1 hL0 _ _ mZ
    simp only [zC, Nat.reduceAdd] at hq0
    have hq1 := cls_box hF1 hL0 _ _ (mK mZ)
    simp only [zC, Nat.reduceAdd] at hq1
    refine region_qa 6 (C := fun w' => ∃ x, w' = F x) (by kernel_rfl) (by kernel_rfl) (cls_drew hF2) ?_
    simp only [zT]
    repeat (go_big_quiet_step (first | fail | (go_at_call 17; with_reducible exact cls_call hF1 hF2 HT.out _) | (go_at_call 120; with_reducible exact cls_call hF1 hF2 HM.out _) | (go_at_call 22; with_reducible exact cls_call hF1 hF2 HD.out _)))
    refine wpQuiet_nil ?_
    rintro wq ⟨xq, rfl⟩
    replace hL0 := hL0.call (hF1 xq)
    clear  hq0 hq1 hF2
    generalize F xq = x4 at hL0 ⊢
    clear hF1 xq iα F α
    refine any_pure (i := 6) (m := 3) _ (natV q) rfl rfl (by kernel_rfl) (fun _ _ _ h => h) (fun w => by simp [execOp, go_sem]) ?_
    refine any_pure (i := 7) (m := 2) _ (natV 1) rfl rfl (by kernel_rfl) (fun _ _ _ h => h) (fun w => by simp [execOp, go_sem]) ?_
    refine any_pure (i := 8) (m := 1) _ (.bool true) rfl rfl (by kernel_rfl) (fun _ _ _ h => h) (fun w => by simp [execOp, go_sem]) ?_
    refine any_seq 9 rfl (by kernel_rfl) ?_
    simp only [zT]
    have hA := hL0.fc
    simp only [zF, Nat.reduceAdd] at hA
    obtain ⟨x5, hput1, hP⟩ := GL.named (hL0.put 0 (x2.heap.size) _ rfl [.int .u64 ((lo 1 : Nat) : Int), .string (hs 1)] rfl)
    simp only [setAll] at hput1
    simp only [List.set_cons_zero, List.set_cons_succ] at hP
    have hB1 := hP.fc
    simp only [zF, Nat.reduceAdd] at hB1
    replace hL0 := hP
    go_upto_region 6 with fail
    clear hA
    clear hput1 hB1
    obtain ⟨α, iα, F, hF1, hF2⟩ := cls x5
    have hq0 := cls_box hF1 hL0 _ _ mZ
    simp only [zC, Nat.reduceAdd] at hq0
    refine region_qs 3 (C := fun w' => ∃ x, w' = F x) (by kernel_rfl) (by kernel_rfl) (cls_drew hF2) ?_
    simp only [zT]
    repeat (go_big_quiet_step (first | fail | (go_at_call 17; with_reducible exact cls_call hF1 hF2 HO.out _)))
    refine wpQuiet_nil ?_
    rintro wq ⟨xq, rfl⟩
    replace hL0 := hL0.call (hF1 xq)
    clear  hq0 hF2
    generalize F xq = x6 at hL0 ⊢
    clear hF1 xq iα F α
    go_wp2_with fail
    exact bodyPost_ret (v := .tuple #[.int .i64 ((i : Int) + 1), .bool true]) (by simp [results, Tryz.results46, go_sem]) rfl ⟨by rw [hR.out]; rfl, hL0.bl⟩
   ·have hne := ne_nat ht1
    have hb2 := Lib.hid (show ∀ j, 1 ≤ j → j ≤ i + 1 → 10 ^ j % d ≠ 1 from fun j q1 q2 => by
      rcases Nat.lt_or_ge i j with q | q
      ·obtain rfl : j = i + 1 := by omega
       rw [← hnx]; exact ht1
      ·exact hbef j q1 q)
    replace hnx := Lib.hid hnx
    clear hbef ht1
    rcases hne with e0 | ⟨e0, e1⟩
    ·have kk : 0 ≤ i := Nat.zero_le _
     go_upto_region 5 with fail
     obtain ⟨α, iα, F, hF1, hF2⟩ := cls wr
     have hq0 := cls_box hF1 hL0 _ _ mZ
     simp only [zC, Nat.reduceAdd] at hq0
     have hq1 := cls_box hF1 hL0 _ _ (mK mZ)
     simp only [zC, Nat.reduceAdd] at hq1
     refine region_qa 6 (C := fun w' => ∃ x, w' = F x) (by kernel_rfl) (by kernel_rfl) (cls_drew hF2) ?_
     simp only [zT]
     repeat (go_big_quiet_step (first | fail | (go_at_call 17; with_reducible exact cls_call hF1 hF2 HT.out _) | (go_at_call 120; with_reducible exact cls_call hF1 hF2 HM.out _) | (go_at_call 22; with_reducible exact cls_call hF1 hF2 HD.out _)))
     refine wpQuiet_nil ?_
     rintro wq ⟨xq, rfl⟩
     replace hL0 := hL0.call (hF1 xq)
     clear  hq0 hq1 hF2
     generalize F xq = x4 at hL0 ⊢
     clear hF1 xq iα F α
     refine any_pure (i := 6) (m := 3) _ (natV q) rfl rfl (by kernel_rfl) (fun _ _ _ h => h) (fun w => by simp [execOp, go_sem]) ?_
     refine any_pure (i := 7) (m := 2) _ (natV t) rfl rfl (by kernel_rfl) (fun _ _ _ h => h) (fun w => by simp [execOp, go_sem]) ?_
     refine any_pure (i := 8) (m := 1) _ (.bool true) rfl rfl (by kernel_rfl) (fun _ _ _ h => h) (fun w => by simp [execOp, go_sem]) ?_
     refine any_seq 9 rfl (by kernel_rfl) ?_
     simp only [zT]
     have hA := hL0.fc
     simp only [zF, Nat.reduceAdd] at hA
     obtain ⟨x5, hput1, hP⟩ := GL.named (hL0.put 0 (x2.heap.size) _ rfl [.int .u64 ((lo t : Nat) : Int), .string (hs t)] rfl)
     simp only [setAll] at hput1
     simp only [List.set_cons_zero, List.set_cons_succ] at hP
     have hB1 := hP.fc
     simp only [zF, Nat.reduceAdd] at hB1
     replace hL0 := hP
     go_upto_region 6 with fail
     clear hA
     clear hput1 hB1
     obtain ⟨α, iα, F, hF1, hF2⟩ := cls x5
     have hq0 := cls_box hF1 hL0 _ _ mZ
     simp only [zC, Nat.reduceAdd] at hq0
     refine region_qs 3 (C := fun w' => ∃ x, w' = F x) (by kernel_rfl) (by kernel_rfl) (cls_drew hF2) ?_
     simp only [zT]
     repeat (go_big_quiet_step (first | fail | (go_at_call 17; with_reducible exact cls_call hF1 hF2 HO.out _)))
     refine wpQuiet_nil ?_
     rintro wq ⟨xq, rfl⟩
     replace hL0 := hL0.call (hF1 xq)
     clear  hq0 hF2
     generalize F xq = x6 at hL0 ⊢
     clear hF1 xq iα F α
     go_wp2_with fail
     go_roundg (gk - 1)
     case measure => omega
     case rel => exact ⟨i + 1, t, by omega, by first | rfl | go_num, hnx.out, hb2.out, hL0⟩
    ·have kk : 0 ≤ i := Nat.zero_le _
     go_upto_region 5 with fail
     obtain ⟨α, iα, F, hF1, hF2⟩ := cls wr
     have hq0 := cls_box hF1 hL0 _ _ mZ
     simp only [zC, Nat.reduceAdd] at hq0
     have hq1 := cls_box hF1 hL0 _ _ (mK mZ)
     simp only [zC, Nat.reduceAdd] at hq1
     refine region_qa 6 (C := fun w' => ∃ x, w' = F x) (by kernel_rfl) (by kernel_rfl) (cls_drew hF2) ?_
     simp only [zT]
     repeat (go_big_quiet_step (first | fail | (go_at_call 17; with_reducible exact cls_call hF1 hF2 HT.out _) | (go_at_call 120; with_reducible exact cls_call hF1 hF2 HM.out _) | (go_at_call 22; with_reducible exact cls_call hF1 hF2 HD.out _)))
     refine wpQuiet_nil ?_
     rintro wq ⟨xq, rfl⟩
     replace hL0 := hL0.call (hF1 xq)
     clear  hq0 hq1 hF2
     generalize F xq = x4 at hL0 ⊢
     clear hF1 xq iα F α
     refine any_pure (i := 6) (m := 3) _ (natV q) rfl rfl (by kernel_rfl) (fun _ _ _ h => h) (fun w => by simp [execOp, go_sem]) ?_
     refine any_pure (i := 7) (m := 2) _ (natV t) rfl rfl (by kernel_rfl) (fun _ _ _ h => h) (fun w => by simp [execOp, go_sem]) ?_
     refine any_pure (i := 8) (m := 1) _ (.bool true) rfl rfl (by kernel_rfl) (fun _ _ _ h => h) (fun w => by simp [execOp, go_sem]) ?_
     refine any_seq 9 rfl (by kernel_rfl) ?_
     simp only [zT]
     have hA := hL0.fc
     simp only [zF, Nat.reduceAdd] at hA
     obtain ⟨x5, hput1, hP⟩ := GL.named (hL0.put 0 (x2.heap.size) _ rfl [.int .u64 ((lo t : Nat) : Int), .string (hs t)] rfl)
     simp only [setAll] at hput1
     simp only [List.set_cons_zero, List.set_cons_succ] at hP
     have hB1 := hP.fc
     simp only [zF, Nat.reduceAdd] at hB1
     replace hL0 := hP
     go_upto_region 6 with fail
     clear hA
     clear hput1 hB1
     obtain ⟨α, iα, F, hF1, hF2⟩ := cls x5
     have hq0 := cls_box hF1 hL0 _ _ mZ
     simp only [zC, Nat.reduceAdd] at hq0
     refine region_qs 3 (C := fun w' => ∃ x, w' = F x) (by kernel_rfl) (by kernel_rfl) (cls_drew hF2) ?_
     simp only [zT]
     repeat (go_big_quiet_step (first | fail | (go_at_call 17; with_reducible exact cls_call hF1 hF2 HO.out _)))
     refine wpQuiet_nil ?_
     rintro wq ⟨xq, rfl⟩
     replace hL0 := hL0.call (hF1 xq)
     clear  hq0 hF2
     generalize F xq = x6 at hL0 ⊢
     clear hF1 xq iα F α
     go_wp2_with fail
     go_roundg (gk - 1)
     case measure => omega
     case rel => exact ⟨i + 1, t, by omega, by first | rfl | go_num, hnx.out, hb2.out, hL0⟩
  ·obtain rfl : i = n := by omega
   have k1 : ¬ (i : Int) < (i : Int) := by omega
   have hR := Lib.hid (h2.out hbef)
   clear hr hbef hik
   go_wp2_with fail
   exact bodyPost_ret (v := .tuple #[.int .i64 0, .bool false]) (by simp [results, Tryz.results46, go_sem]) rfl ⟨by rw [hR.out], hL0.bl⟩
theorem dcyc_far (a : Rat) (m d : Nat) (k : Int) (HN : RT 45 #[fracV a] (natV m)) (HL : RT 44 #[natV m] (.tuple #[.int .i64 k, natV d])) (hk : decide (100 < k) = true) (w : World) :
  Calls Tryz.prog 10 #[fracV a] w fun xe w' => xe = .returned (.tuple #[.int .i64 0, .int .i64 0, .int .i64 3]) ∧ Below w.heap.size w w' := by
 have hL0 : GL w w [] := GL.start w
 replace HN := Lib.hid HN
 replace HL := Lib.hid HL
 obtain ⟨x1, hweq, hL0⟩ := GL.named (hL0.new rfl [.int .u64 ((zl a.num : Nat) : Int), .string (zh a.num), .bool (zs a.num), .int .u64 ((lo (fe a) : Nat) : Int), .string (hs (fe a))] 34)
 go_enter Tryz.func10, Tryz.ntmps10
 have hN0 := cells_of _ 0 [] rfl (hL0.get _ _ mZ)
 simp only [zF, Nat.reduceAdd] at hN0
 go_wp2_with fail
 clear hN0
 with_reducible refine Calls.mono (HN.out _) ?_
 rintro e x2 ⟨rfl, hb⟩
 replace hL0 := hL0.call hb
 clear hb hweq
 go_wp2_with fail
 with_reducible refine Calls.mono (HL.out _) ?_
 rintro e x3 ⟨rfl, hb⟩
 replace hL0 := hL0.call hb
 clear hb
 obtain ⟨x4, hweq, hL0⟩ := GL.named (hL0.new rfl [.int .u64 ((lo d : Nat) : Int), .string (hs d)] 30)
 go_wp2_with fail
 exact bodyPost_ret (v := .tuple #[.int .i64 0, .int .i64 0, .int .i64 3]) (by simp [results, Tryz.results10, go_sem]) rfl ⟨rfl, hL0.bl⟩
theorem dcyc_end (a : Rat) (m : Nat) (k : Int) (HN : RT 45 #[fracV a] (natV m)) (HL : RT 44 #[natV m] (.tuple #[.int .i64 k, natV 1])) (HO : RT 17 #[.int .u64 1] (natV 1)) (hk : decide (100 < k) = false) (w : World) :
  Calls Tryz.prog 10 #[fracV a] w fun xe w' => xe = .returned (.tuple #[.int .i64 k, .int .i64 0, .int .i64 0]) ∧ Below w.heap.size w w' := by
 have hL0 : GL w w [] := GL.start w
 replace HN := Lib.hid HN
 replace HL := Lib.hid HL
 replace HO := Lib.hid HO
 obtain ⟨x1, hweq, hL0⟩ := GL.named (hL0.new rfl [.int .u64 ((zl a.num : Nat) : Int), .string (zh a.num), .bool (zs a.num), .int .u64 ((lo (fe a) : Nat) : Int), .string (hs (fe a))] 34)
 go_enter Tryz.func10, Tryz.ntmps10
 have hN0 := cells_of _ 0 [] rfl (hL0.get _ _ mZ)
 simp only [zF, Nat.reduceAdd] at hN0
 go_wp2_with fail
 clear hN0
 with_reducible refine Calls.mono (HN.out _) ?_
 rintro e x2 ⟨rfl, hb⟩
 replace hL0 := hL0.call hb
 clear hb hweq
 go_wp2_with fail
 with_reducible refine Calls.mono (HL.out _) ?_
 rintro e x3 ⟨rfl, hb⟩
 replace hL0 := hL0.call hb
 clear hb
 obtain ⟨x4, hweq, hL0⟩ := GL.named (hL0.new rfl [.int .u64 ((lo 1 : Nat) : Int), .string (hs 1)] 30)
 go_upto_region 4 with fail
 clear hweq
 obtain ⟨α, iα, F, hF1, hF2⟩ := cls x4
 have hq0 := cls_box hF1 hL0 _ _ mZ
 simp only [zC, Nat.reduceAdd] at hq0
 refine region_qs 3 (C := fun w' => ∃ x, w' = F x) (by kernel_rfl) (by kernel_rfl) (cls_drew hF2) ?_
 simp only [zT]
 repeat (go_big_quiet_step (first | fail | (go_at_call 17; with_reducible exact cls_call hF1 hF2 HO.out _)))
 refine wpQuiet_nil ?_
 rintro wq ⟨xq, rfl⟩
 replace hL0 := hL0.call (hF1 xq)
 clear  hq0 hF2
 generalize F xq = x5 at hL0 ⊢
 clear hF1 xq iα F α
 go_wp2_with fail
 exact bodyPost_ret (v := .tuple #[.int .i64 k, .int .i64 0, .int .i64 0]) (by simp [results, Tryz.results10, go_sem]) rfl ⟨rfl, hL0.bl⟩
theorem dcyc_round (a : Rat) (m d : Nat) (k l n : Int) (HN : RT 45 #[fracV a] (natV m)) (HL : RT 44 #[natV m] (.tuple #[.int .i64 k, natV d])) (HO : RT 17 #[.int .u64 1] (natV 1)) (HP : RT 46 #[natV d, .int .i64 l] (.tuple #[.int .i64 n, .bool true])) (hk : decide (100 < k) = false) (hl : IntKind.i64.wrap (100 - k) = l) (hl2 : wrap64 (100 - k) = l) (hd : d ≠ 1) (w : World) :
  Calls Tryz.prog 10 #[fracV a] w fun xe w' => xe = .returned (.tuple #[.int .i64 k, .int .i64 n, .int .i64 0]) ∧ Below w.heap.size w w' := by
 have hL0 : GL w w [] := GL.start w
 replace HN := Lib.hid HN
 replace HL := Lib.hid HL
 replace HO := Lib.hid HO
 replace HP := Lib.hid HP
 have hz := ne_nat hd
 clear hd
 rcases hz with e0 | ⟨e0, e1⟩
 all_goals (
  obtain ⟨x1, hweq, hL0⟩ := GL.named (hL0.new rfl [.int .u64 ((zl a.num : Nat) : Int), .string (zh a.num), .bool (zs a.num), .int .u64 ((lo (fe a) : Nat) : Int), .string (hs (fe a))] 34)
  go_enter Tryz.func10, Tryz.ntmps10
  have hN0 := cells_of _ 0 [] rfl (hL0.get _ _ mZ)
  simp only [zF, Nat.reduceAdd] at hN0
  go_wp2_with fail
  clear hN0
  with_reducible refine Calls.mono (HN.out _) ?_
  rintro e x2 ⟨rfl, hb⟩
  replace hL0 := hL0.call hb
  clear hb hweq
  go_wp2_with fail
  with_reducible refine Calls.mono (HL.out _) ?_
  rintro e x3 ⟨rfl, hb⟩
  replace hL0 := hL0.call hb
  clear hb
  obtain ⟨x4, hweq, hL0⟩ := GL.named (hL0.new rfl [.int .u64 ((lo d : Nat) : Int), .string (hs d)] 30)
  go_upto_region 4 with fail
  clear hweq
  obtain ⟨α, iα, F, hF1, hF2⟩ := cls x4
  have hq0 := cls_box hF1 hL0 _ _ mZ
  simp only [zC, Nat.reduceAdd] at hq0
  refine region_qs 3 (C := fun w' => ∃ x, w' = F x) (by kernel_rfl) (by kernel_rfl) (cls_drew hF2) ?_
  simp only [zT]
  repeat (go_big_quiet_step (first | fail | (go_at_call 17; with_reducible exact cls_call hF1 hF2 HO.out _)))
  refine wpQuiet_nil ?_
  rintro wq ⟨xq, rfl⟩
  replace hL0 := hL0.call (hF1 xq)
  clear  hq0 hF2
  generalize F xq = x5 at hL0 ⊢
  clear hF1 xq iα F α
  have hN0 := cells_of _ 0 [] rfl (hL0.get _ _ mZ)
  simp only [zF, Nat.reduceAdd] at hN0
  go_wp2_with fail
  clear hN0
  with_reducible refine Calls.mono (HP.out _) ?_
  rintro e x6 ⟨rfl, hb⟩
  replace hL0 := hL0.call hb
  clear hb
  go_wp2_with fail
  exact bodyPost_ret (v := .tuple #[.int .i64 k, .int .i64 n, .int .i64 0]) (by simp [results, Tryz.results10, go_sem]) rfl ⟨rfl, hL0.bl⟩)
theorem dcyc_none (a : Rat) (m d : Nat) (k l n : Int) (HN : RT 45 #[fracV a] (natV m)) (HL : RT 44 #[natV m] (.tuple #[.int .i64 k, natV d])) (HO : RT 17 #[.int .u64 1] (natV 1)) (HP : RT 46 #[natV d, .int .i64 l] (.tuple #[.int .i64 n, .bool false])) (hk : decide (100 < k) = false) (hl : IntKind.i64.wrap (100 - k) = l) (hl2 : wrap64 (100 - k) = l) (hd : d ≠ 1) (w : World) :
  Calls Tryz.prog 10 #[fracV a] w fun xe w' => xe = .returned (.tuple #[.int .i64 0, .int .i64 0, .int .i64 3]) ∧ Below w.heap.size w w' := by
 have hL0 : GL w w [] := GL.start w
 replace HN := Lib.hid HN
 replace HL := Lib.hid HL
 replace HO := Lib.hid HO
 replace HP := Lib.hid HP
 have hz := ne_nat hd
 clear hd
 rcases hz with e0 | ⟨e0, e1⟩
 all_goals (
  obtain ⟨x1, hweq, hL0⟩ := GL.named (hL0.new rfl [.int .u64 ((zl a.num : Nat) : Int), .string (zh a.num), .bool (zs a.num), .int .u64 ((lo (fe a) : Nat) : Int), .string (hs (fe a))] 34)
  go_enter Tryz.func10, Tryz.ntmps10
  have hN0 := cells_of _ 0 [] rfl (hL0.get _ _ mZ)
  simp only [zF, Nat.reduceAdd] at hN0
  go_wp2_with fail
  clear hN0
  with_reducible refine Calls.mono (HN.out _) ?_
  rintro e x2 ⟨rfl, hb⟩
  replace hL0 := hL0.call hb
  clear hb hweq
  go_wp2_with fail
  with_reducible refine Calls.mono (HL.out _) ?_
  rintro e x3 ⟨rfl, hb⟩
  replace hL0 := hL0.call hb
  clear hb
  obtain ⟨x4, hweq, hL0⟩ := GL.named (hL0.new rfl [.int .u64 ((lo d : Nat) : Int), .string (hs d)] 30)
  go_upto_region 4 with fail
  clear hweq
  obtain ⟨α, iα, F, hF1, hF2⟩ := cls x4
  have hq0 := cls_box hF1 hL0 _ _ mZ
  simp only [zC, Nat.reduceAdd] at hq0
  refine region_qs 3 (C := fun w' => ∃ x, w' = F x) (by kernel_rfl) (by kernel_rfl) (cls_drew hF2) ?_
  simp only [zT]
  repeat (go_big_quiet_step (first | fail | (go_at_call 17; with_reducible exact cls_call hF1 hF2 HO.out _)))
  refine wpQuiet_nil ?_
  rintro wq ⟨xq, rfl⟩
  replace hL0 := hL0.call (hF1 xq)
  clear  hq0 hF2
  generalize F xq = x5 at hL0 ⊢
  clear hF1 xq iα F α
  have hN0 := cells_of _ 0 [] rfl (hL0.get _ _ mZ)
  simp only [zF, Nat.reduceAdd] at hN0
  go_wp2_with fail
  clear hN0
  with_reducible refine Calls.mono (HP.out _) ?_
  rintro e x6 ⟨rfl, hb⟩
  replace hL0 := hL0.call hb
  clear hb
  go_wp2_with fail
  exact bodyPost_ret (v := .tuple #[.int .i64 0, .int .i64 0, .int .i64 3]) (by simp [results, Tryz.results10, go_sem]) rfl ⟨rfl, hL0.bl⟩)
theorem dcycles_w (a : Rat) (i j k n e : Int) (b : Bool) (HC : RT 10 #[fracV a] (.tuple #[.int .i64 i, .int .i64 j, .int .i64 0])) (w : World) :
  Calls Tryz.prog 60 #[fracV a, .int .i64 i, .int .i64 j] w fun xe w' => xe = .returned (.bool true) ∧ Below w.heap.size w w' := by
 have hL0 : GL w w [] := GL.start w
 replace HC := Lib.hid HC
 obtain ⟨x1, hweq, hL0⟩ := GL.named (hL0.new rfl [.int .u64 ((zl a.num : Nat) : Int), .string (zh a.num), .bool (zs a.num), .int .u64 ((lo (fe a) : Nat) : Int), .string (hs (fe a))] 34)
 go_enter Tryz.func60, Tryz.ntmps60
 have hN0 := cells_of _ 0 [] rfl (hL0.get _ _ mZ)
 simp only [zF, Nat.reduceAdd] at hN0
 go_wp2_with fail
 clear hN0
 with_reducible refine Calls.mono (HC.out _) ?_
 rintro e x2 ⟨rfl, hb⟩
 replace hL0 := hL0.call hb
 clear hb hweq
 go_wp2_with fail
 exact bodyPost_ret (v := .bool true) (by simp [results, Tryz.results60, go_sem]) rfl ⟨rfl, hL0.bl⟩
end Go.Proofs.YtaimebjkidegiaaGreatDoor
namespace Go.Proofs.YtaimebjkidegiaaGreatDoor
open Go.RowKit
attribute [local irreducible] lo hs sm s64 c64 d64 b64 mh ml pd pc qd qc val hiB str cmpI srD lz nb isq txt
/-- The builder at b holds l. -/
def Bd (B b : Nat) (l : List UInt8) (w : World) : Prop := Lib.IsBuilderF 273 5 B b (Lib.byteCells l) w
/-- What writes into the builder leave as it is. -/
def Wr (B b : Nat) (w w' : World) : Prop := Below B w w' ∧ Lib.OthersKept 5 (some b) w w'
theorem Wr.trans {B b : Nat} {u v w : World} (h : Wr B b u v) (k : Wr B b v w) : Wr B b u w := ⟨h.1.trans k.1, h.2.trans k.2⟩
theorem Wr.below {B b : Nat} {u v w : World} (h : Wr B b u v) (hB : B ≤ v.heap.size) (k : Below v.heap.size v w) : Wr B b u w := ⟨h.1.trans (k.mono hB), kept_below h.2 k⟩
theorem Wr.refl (B b : Nat) (w : World) : Wr B b w w := ⟨Below.refl B w, Lib.OthersKept.refl _ _ w⟩
theorem Bd.below {B b : Nat} {l : List UInt8} {w w' : World} (h : Bd B b l w) (hb : Below w.heap.size w w') : Bd B b l w' := bf_below h hb
theorem wb_any (B b : Nat) (l m : List UInt8) (w : World) (h : Bd B b l w) (hm : l ++ [48] = m) (hlen : m.length ≤ 140737488355328) (hBw : B ≤ w.heap.size) :
  Calls Tryz.prog 199 #[.pointer (some ⟨b, 0, none⟩), .int .u8 48] w fun e w' => e = .returned .nilIface ∧ Bd B b m w' ∧ Wr B b w w' := by
 subst hm
 refine (wbyte_l B b l 48 w h (by simpa using hlen) hBw).mono ?_
 rintro e w' ⟨rfl, h1, h2, h3⟩
 exact ⟨rfl, h1, h2, h3⟩
theorem ws_any (B b : Nat) (l m r : List UInt8) (s : ByteArray) (hs : s = ⟨m.toArray⟩) (hr : l ++ m = r) (w : World) (h : Bd B b l w) (hlen : r.length ≤ 140737488355328) (hBw : B ≤ w.heap.size) :
  Calls Tryz.prog 200 #[.pointer (some ⟨b, 0, none⟩), .string s] w fun e w' => (∃ v, e = .returned v) ∧ Bd B b r w' ∧ Wr B b w w' := by
 subst hs; subst hr
 refine (wstr_l B b l m w h (by simpa using hlen) hBw).mono ?_
 rintro e w' ⟨rfl, h1, h2, h3⟩
 exact ⟨⟨_, rfl⟩, h1, h2, h3⟩
theorem txt_size (n : Nat) : (txt n).size = (Lib.decDigits n).length := by unfold txt; simp [ByteArray.size]
theorem not1_any (B b part k : Nat) (l : List UInt8) (hl : (digs part).length ≤ 1000000) (hk : k ≤ 1000) (hll : l.length ≤ 1000000000) (w : World) (hB : Bd B b l w) (htab : Tab w) (hBw : B ≤ w.heap.size) :
  Calls Tryz.prog 198 #[natV part, .int .i64 (k : Int), .pointer (some ⟨b, 0, none⟩)] w fun e w' => e = .returned (.tuple #[]) ∧ Bd B b (l ++ (List.replicate (k - (Lib.decDigits part).length) 48 ++ Lib.decDigits part)) w' ∧ Wr B b w w' := by
 obtain ⟨w0, hw0, hA, hb0, hsz0⟩ := boxes1 w (.int .u64 ((lo part : Nat) : Int)) (.string (hs part)) 30
 obtain ⟨a0, a1, af⟩ := id hA
 have HT := Lib.hid (fun w ht => text_any part hl w ht)
 have hm0 := dec_len_bound hl (by decide)
 have hts := txt_size part
 have HW := Lib.hid (fun (l m r : List UInt8) s hs hr w h h2 h3 => ws_any B b l m r s hs hr w h h2 h3)
 obtain ⟨S, hS⟩ : ∃ S, S = txt part := ⟨_, rfl⟩
 obtain ⟨m, hm⟩ : ∃ m, m = (Lib.decDigits part).length := ⟨_, rfl⟩
 rw [← hS] at HT hts
 rw [← hm] at hts hm0 ⊢
 have hS2 : S = ⟨(Lib.decDigits part).toArray⟩ := by rw [hS]; unfold txt; rfl
 have hB0 := Lib.hid (Bd.below hB hb0)
 have hW0 := Lib.hid ((Wr.refl B b w).below hBw hb0)
 have ht0 := Lib.hid (htab.below hb0)
 replace hS2 := Lib.hid hS2
 replace hm := Lib.hid hm
 have hBw0 : B ≤ w0.heap.size := by omega
 clear hB htab hb0 hl hS
 go_enter Tryz.func198, Tryz.ntmps198
 go_wp2_with fail
 refine (HT.out _ ht0.out).mono ?_
 rintro e w1 ⟨rfl, hb1⟩
 have hB1 := Lib.hid (hB0.out.below hb1)
 have hW1 := Lib.hid (hW0.out.below hBw0 hb1)
 have hBw1 : B ≤ w1.heap.size := by have := hb1.size; omega
 clear a0 a1 af hA ht0 hb1 hB0 hW0
 have q1 : (m : Int) ≤ 1000000000 := by omega
 have q2 : (0 : Int) ≤ (m : Int) := by omega
 have q3 : (k : Int) ≤ 1000 := by omega
 have q4 : (0 : Int) ≤ (k : Int) := by omega
 go_wp2_with fail
 go_loopg [12] (k - m) (fun gk iv wr => ∃ i : Nat, i + gk = k - m ∧ iv = .int .i64 (i : Int) ∧ Bd B b (l ++ List.replicate i 48) wr ∧ Wr B b w wr ∧ B ≤ wr.heap.size)
 case atStart => exact ⟨0, Nat.zero_add _, by first | rfl | go_num, by simpa using hB1.out, hW1.out, hBw1⟩
 case round =>
  clear hB1 hW1 hBw1
  obtain ⟨i, hik, rfl, hBi, hWi, hBwi⟩ := hrel
  replace hBi := Lib.hid hBi
  replace hWi := Lib.hid hWi
  by_cases hin : i < k - m
  ·have k1 : (i : Int) < (k : Int) - (m : Int) := by omega
   have kb : (i : Int) ≤ 1000 := by omega
   have k0 : (0 : Int) ≤ (i : Int) := by omega
   go_wp2_with fail
   refine (wb_any B b _ (l ++ List.replicate (i + 1) 48) _ hBi.out (by rw [List.append_assoc, List.replicate_succ']) (by simp; omega) hBwi).mono ?_
   rintro e w2 ⟨rfl, hB2, hW2⟩
   replace hB2 := Lib.hid hB2
   replace hW2 := Lib.hid (hWi.out.trans hW2)
   go_wp2_with fail
   go_roundg (gk - 1)
   case measure => omega
   case rel => exact ⟨i + 1, by omega, by first | rfl | go_num, hB2.out, hW2.out, by have := hW2.out.1.size; omega⟩
  ·obtain rfl : i = k - m := by omega
   have k1 : ¬ ((k - m : Nat) : Int) < (k : Int) - (m : Int) := by omega
   go_wp2_with fail
   refine (HW.out _ (Lib.decDigits part) _ S hS2.out rfl _ hBi.out (by simp; have := hm.out; omega) hBwi).mono ?_
   rintro e w2 ⟨⟨v, rfl⟩, hB2, hW2⟩
   go_wp2_with fail
   go_end0
   exact ⟨rfl, by rw [← List.append_assoc]; exact hB2, hWi.out.trans hW2⟩
end Go.Proofs.YtaimebjkidegiaaGreatDoor
namespace Go.Proofs.YtaimebjkidegiaaGreatDoor
open Go.RowKit
attribute [local irreducible] lo hs sm s64 c64 d64 b64 mh ml pd pc qd qc val hiB str cmpI srD lz nb isq decB zl zh zs fe txt
theorem not1_v (B b part k : Nat) (kv : Int) (hkv : (k : Int) = kv) (l : List UInt8) (hl : (digs part).length ≤ 1000000) (hk : k ≤ 1000) (hll : l.length ≤ 1000000000) (w : World) (hB : Bd B b l w) (htab : Tab w) (hBw : B ≤ w.heap.size) :
  Calls Tryz.prog 198 #[natV part, .int .i64 kv, .pointer (some ⟨b, 0, none⟩)] w fun e w' => e = .returned (.tuple #[]) ∧ Bd B b (l ++ (List.replicate (k - (Lib.decDigits part).length) 48 ++ Lib.decDigits part)) w' ∧ Wr B b w w' := by
 subst hkv
 exact not1_any B b part k l hl hk hll w hB htab hBw
theorem dnot_w (z sv : Int) (p m t q r : Nat) (s T : List UInt8) (HA : RT 123 #[intV z] (natV m)) (HT : RT 134 #[.int .i64 (p : Int)] (natV t)) (HD : RT 22 #[natV m, natV t] (.tuple #[natV q, natV r, .bool true])) (HS : RT 117 #[intV z] (.int .i64 sv)) (hq : (digs q).length ≤ 1000000) (hr : (digs r).length ≤ 1000000) (hp : p ≤ 1000)
  (hs1 : sv < 0 → s = [45]) (hs0 : ¬ sv < 0 → s = []) (ht1 : 0 < p → T = [46] ++ (List.replicate (p - (Lib.decDigits r).length) 48 ++ Lib.decDigits r)) (ht0 : ¬ 0 < p → T = []) (w : World) (htab : Tab w) :
  Calls Tryz.prog 135 #[intV z, .int .i64 (p : Int)] w fun xe w' => xe = .returned (.string ⟨(s ++ (List.replicate (1 - (Lib.decDigits q).length) 48 ++ Lib.decDigits q) ++ T).toArray⟩) ∧ Below w.heap.size w w' := by
 replace HA := Lib.hid HA
 replace HT := Lib.hid HT
 replace HD := Lib.hid HD
 replace HS := Lib.hid HS
 replace hs1 := Lib.hid hs1
 replace hs0 := Lib.hid hs0
 replace ht1 := Lib.hid ht1
 replace ht0 := Lib.hid ht0
 replace htab := Lib.hid htab
 have hL0 : GL w w [] := GL.start w
 obtain ⟨x1, hweq, hL0⟩ := GL.named ((hL0.new rfl [.int .u64 ((zl z : Nat) : Int), .string (zh z), .bool (zs z)] 32).new (K := w.heap.size + 1) (szA _ _) [.pointer none, .slice none 0 0] 273)
 have hM0 : GL x1 x1 [] := GL.start x1
 have hx1 : x1.heap.size = w.heap.size + 1 + 1 := by rw [← hweq, World.size_alloc, World.size_alloc]
 replace hx1 := Lib.hid hx1
 have hBd : Bd (w.heap.size + 1) (w.heap.size + 1) [] x1 := by
  have := Lib.IsBuilderF.of (Lib.fresh_isBuilder 273 5 (w.alloc (.cells #[.int .u64 ((zl z : Nat) : Int), .string (zh z), .bool (zs z)] 32)))
  rw [hweq, World.size_alloc] at this
  exact this
 replace hBd := Lib.hid hBd
 go_enter Tryz.func135, Tryz.ntmps135
 have hN0 := cells_of _ 0 [] rfl (hL0.get _ _ (mK mZ))
 simp only [zF, Nat.reduceAdd] at hN0
 go_wp2_with fail
 clear hN0
 with_reducible refine Calls.mono (HA.out _) ?_
 rintro e x2 ⟨rfl, hb⟩
 replace hL0 := hL0.call hb
 replace hM0 := hM0.call hb
 clear hb hweq
 go_wp2_with fail
 with_reducible refine Calls.mono (HT.out _) ?_
 rintro e x3 ⟨rfl, hb⟩
 replace hL0 := hL0.call hb
 replace hM0 := hM0.call hb
 clear hb
 go_wp2_with fail
 with_reducible refine Calls.mono (HD.out _) ?_
 rintro e x4 ⟨rfl, hb⟩
 replace hL0 := hL0.call hb
 replace hM0 := hM0.call hb
 clear hb
 replace hL0 := ((hL0.new rfl [.int .u64 ((lo q : Nat) : Int), .string (hs q)] 30).new (K := x4.heap.size + 1) (szA _ _) [.int .u64 ((lo r : Nat) : Int), .string (hs r)] 30)
 have hx4 := Lib.hid hM0.bl.size
 replace hM0 := ((hM0.new rfl [.int .u64 ((lo q : Nat) : Int), .string (hs q)] 30).new (K := x4.heap.size + 1) (szA _ _) [.int .u64 ((lo r : Nat) : Int), .string (hs r)] 30)
 generalize hweq : ((x4.alloc (.cells #[.int .u64 ((lo q : Nat) : Int), .string (hs q)] 30)).alloc (.cells #[.int .u64 ((lo r : Nat) : Int), .string (hs r)] 30)) = x5 at hL0 hM0
 have e7 : x5.heap[x4.heap.size]? = some (.cells #[.int .u64 ((lo q : Nat) : Int), .string (hs q)] 30 (0, 0)) := by
  rw [← hweq, Lib.alloc_old _ _ _ (by simp)]
  exact heap_alloc_new _ _
 have e8 : x5.heap[x4.heap.size + 1]? = some (.cells #[.int .u64 ((lo r : Nat) : Int), .string (hs r)] 30 (0, 0)) := by
  rw [← hweq]
  have := heap_alloc_new (x4.alloc (.cells #[.int .u64 ((lo q : Nat) : Int), .string (hs q)] 30)) (.cells #[.int .u64 ((lo r : Nat) : Int), .string (hs r)] 30)
  rw [World.size_alloc] at this
  exact this
 replace e7 := Lib.hid e7
 replace e8 := Lib.hid e8
 have hx5 : x5.heap.size = x4.heap.size + 1 + 1 := by rw [← hweq, World.size_alloc, World.size_alloc]
 replace hx5 := Lib.hid hx5
 replace hBd := Lib.hid (hBd.out.below hM0.bl)
 have hN0 := cells_of _ 0 [] rfl (hL0.get _ _ (mK (mK (mK mZ))))
 simp only [zF, Nat.reduceAdd] at hN0
 go_upto_region 4 with fail
 clear hweq
 go_wp2_with fail
 clear hN0
 with_reducible refine Calls.mono (HS.out _) ?_
 rintro e x6 ⟨rfl, hb⟩
 replace e7 := Lib.hid ((hb.block x4.heap.size (by rw [hx5.out]; omega)).trans e7.out)
 replace e8 := Lib.hid ((hb.block (x4.heap.size + 1) (by rw [hx5.out]; omega)).trans e8.out)
 replace hBd := Lib.hid (hBd.out.below hb)
 have n7 : x4.heap.size ≠ w.heap.size + 1 := by have := hx4.out; have := hx1.out; omega
 have n8 : x4.heap.size + 1 ≠ w.heap.size + 1 := by have := hx4.out; have := hx1.out; omega
 have s6 : w.heap.size + 1 ≤ x6.heap.size := by have := hb.size; have := hx5.out; have := hx4.out; have := hx1.out; omega
 have hbl := Lib.hid (hL0.call hb).bl
 have hq1 := Lib.hid (dec_len_bound hq (by decide))
 have hr1 := Lib.hid (dec_len_bound hr (by decide))
 replace hq := Lib.hid hq
 replace hr := Lib.hid hr
 replace hp := Lib.hid hp
 replace n7 := Lib.hid n7
 replace n8 := Lib.hid n8
 clear hL0 hM0 hb hx1 hx4 hx5
 by_cases g1 : sv < 0
 ·by_cases g2 : 0 < p
  ·obtain rfl : s = [45] := hs1.out (by omega)
   obtain rfl : T = [46] ++ (List.replicate (p - (Lib.decDigits r).length) 48 ++ Lib.decDigits r) := ht1.out (by omega)
   have p4 : 0 < (p : Int) := by omega
   have W6 := Lib.hid (Wr.refl (w.heap.size + 1) (w.heap.size + 1) x6)
   go_wp2_with fail
   refine (ws_any (w.heap.size + 1) (w.heap.size + 1) [] [45] [45] _ rfl rfl _ hBd.out (by decide) s6).mono ?_
   rintro e x7 ⟨⟨v, rfl⟩, hB7, hW7⟩
   replace hBd := Lib.hid hB7
   replace W6 := Lib.hid (W6.out.trans hW7)
   clear hB7 hW7
   have s7 : w.heap.size + 1 ≤ x7.heap.size := by have := W6.out.1.size; omega
   have t7 := Lib.hid (htab.out.below (hbl.out.trans (W6.out.1.mono (by omega))))
   have E7 : x7.heap[x4.heap.size]? = _ := W6.out.2 (x4.heap.size) _ e7.out (fun e => n7.out (Option.some.inj e)) (fun c fz e => by simp at e)
   have f0 : x7.cell? ⟨x4.heap.size, 0, none⟩ = some (.int .u64 ((lo q : Nat) : Int)) := by rw [Lib.cell_of_heap E7]; rfl
   have f1 : x7.cell? ⟨x4.heap.size, 1, none⟩ = some (.string (hs q)) := by rw [Lib.cell_of_heap E7]; rfl
   clear E7
   go_wp2_with fail
   refine (not1_v (w.heap.size + 1) (w.heap.size + 1) q 1 1 rfl [45] hq.out (by decide) (by decide) _ hBd.out t7.out s7).mono ?_
   rintro e x8 ⟨rfl, hB7, hW7⟩
   replace hBd := Lib.hid hB7
   replace W6 := Lib.hid (W6.out.trans hW7)
   clear hB7 hW7 s7 t7 f0 f1
   have s7 : w.heap.size + 1 ≤ x8.heap.size := by have := W6.out.1.size; omega
   go_wp2_with fail
   refine (ws_any (w.heap.size + 1) (w.heap.size + 1) ([45] ++ (List.replicate (1 - (Lib.decDigits q).length) 48 ++ Lib.decDigits q)) [46] (([45] ++ (List.replicate (1 - (Lib.decDigits q).length) 48 ++ Lib.decDigits q)) ++ [46]) _ rfl rfl _ hBd.out (by have := hq1.out; simp; omega) s7).mono ?_
   rintro e x9 ⟨⟨v2, rfl⟩, hB7, hW7⟩
   replace hBd := Lib.hid hB7
   replace W6 := Lib.hid (W6.out.trans hW7)
   clear hB7 hW7 s7
   have s7 : w.heap.size + 1 ≤ x9.heap.size := by have := W6.out.1.size; omega
   have t7 := Lib.hid (htab.out.below (hbl.out.trans (W6.out.1.mono (by omega))))
   have E7 : x9.heap[x4.heap.size + 1]? = _ := W6.out.2 (x4.heap.size + 1) _ e8.out (fun e => n8.out (Option.some.inj e)) (fun c fz e => by simp at e)
   have f0 : x9.cell? ⟨x4.heap.size + 1, 0, none⟩ = some (.int .u64 ((lo r : Nat) : Int)) := by rw [Lib.cell_of_heap E7]; rfl
   have f1 : x9.cell? ⟨x4.heap.size + 1, 1, none⟩ = some (.string (hs r)) := by rw [Lib.cell_of_heap E7]; rfl
   clear E7
   go_wp2_with fail
   refine (not1_v (w.heap.size + 1) (w.heap.size + 1) r p (p : Int) rfl (([45] ++ (List.replicate (1 - (Lib.decDigits q).length) 48 ++ Lib.decDigits q)) ++ [46]) hr.out hp.out (by have := hq1.out; simp; omega) _ hBd.out t7.out s7).mono ?_
   rintro e x10 ⟨rfl, hB7, hW7⟩
   replace hBd := Lib.hid hB7
   replace W6 := Lib.hid (W6.out.trans hW7)
   clear hB7 hW7 s7 t7 f0 f1
   have s7 : w.heap.size + 1 ≤ x10.heap.size := by have := W6.out.1.size; omega
   have hfin := hBd.out
   obtain ⟨fin, hf⟩ : ∃ f, f = (([45] ++ (List.replicate (1 - (Lib.decDigits q).length) 48 ++ Lib.decDigits q)) ++ [46]) ++ (List.replicate (p - (Lib.decDigits r).length) 48 ++ Lib.decDigits r) := ⟨_, rfl⟩
   rw [← hf] at hfin
   replace hf := Lib.hid hf
   replace hfin := Lib.hid hfin
   clear hBd
   go_wp2_with fail
   refine (Tryz.Builder_String_any_k _ _ fin _ hfin.out s7).mono ?_
   rintro e xe ⟨rfl, h1, h2, h3⟩
   replace W6 := Lib.hid (hbl.out.trans ((W6.out.1.trans h2).mono (by omega)))
   clear h1 h2 h3
   go_wp2_with fail
   exact bodyPost_ret (v := .string ⟨fin.toArray⟩) (by simp [results, Tryz.results135, go_sem]) rfl ⟨by rw [hf.out]; simp, W6.out⟩
  ·obtain rfl : s = [45] := hs1.out (by omega)
   obtain rfl : T = [] := ht0.out (by omega)
   have p4 : ¬ 0 < (p : Int) := by omega
   have W6 := Lib.hid (Wr.refl (w.heap.size + 1) (w.heap.size + 1) x6)
   go_wp2_with fail
   refine (ws_any (w.heap.size + 1) (w.heap.size + 1) [] [45] [45] _ rfl rfl _ hBd.out (by decide) s6).mono ?_
   rintro e x7 ⟨⟨v, rfl⟩, hB7, hW7⟩
   replace hBd := Lib.hid hB7
   replace W6 := Lib.hid (W6.out.trans hW7)
   clear hB7 hW7
   have s7 : w.heap.size + 1 ≤ x7.heap.size := by have := W6.out.1.size; omega
   have t7 := Lib.hid (htab.out.below (hbl.out.trans (W6.out.1.mono (by omega))))
   have E7 : x7.heap[x4.heap.size]? = _ := W6.out.2 (x4.heap.size) _ e7.out (fun e => n7.out (Option.some.inj e)) (fun c fz e => by simp at e)
   have f0 : x7.cell? ⟨x4.heap.size, 0, none⟩ = some (.int .u64 ((lo q : Nat) : Int)) := by rw [Lib.cell_of_heap E7]; rfl
   have f1 : x7.cell? ⟨x4.heap.size, 1, none⟩ = some (.string (hs q)) := by rw [Lib.cell_of_heap E7]; rfl
   clear E7
   go_wp2_with fail
   refine (not1_v (w.heap.size + 1) (w.heap.size + 1) q 1 1 rfl [45] hq.out (by decide) (by decide) _ hBd.out t7.out s7).mono ?_
   rintro e x8 ⟨rfl, hB7, hW7⟩
   replace hBd := Lib.hid hB7
   replace W6 := Lib.hid (W6.out.trans hW7)
   clear hB7 hW7 s7 t7 f0 f1
   have s7 : w.heap.size + 1 ≤ x8.heap.size := by have := W6.out.1.size; omega
   have hfin := hBd.out
   obtain ⟨fin, hf⟩ : ∃ f, f = ([45] ++ (List.replicate (1 - (Lib.decDigits q).length) 48 ++ Lib.decDigits q)) := ⟨_, rfl⟩
   rw [← hf] at hfin
   replace hf := Lib.hid hf
   replace hfin := Lib.hid hfin
   clear hBd
   go_wp2_with fail
   refine (Tryz.Builder_String_any_k _ _ fin _ hfin.out s7).mono ?_
   rintro e xe ⟨rfl, h1, h2, h3⟩
   replace W6 := Lib.hid (hbl.out.trans ((W6.out.1.trans h2).mono (by omega)))
   clear h1 h2 h3
   go_wp2_with fail
   exact bodyPost_ret (v := .string ⟨fin.toArray⟩) (by simp [results, Tryz.results135, go_sem]) rfl ⟨by rw [hf.out]; simp, W6.out⟩
 ·by_cases g2 : 0 < p
  ·obtain rfl : s = [] := hs0.out (by omega)
   obtain rfl : T = [46] ++ (List.replicate (p - (Lib.decDigits r).length) 48 ++ Lib.decDigits r) := ht1.out (by omega)
   have p4 : 0 < (p : Int) := by omega
   have W6 := Lib.hid (Wr.refl (w.heap.size + 1) (w.heap.size + 1) x6)
   have s7 : w.heap.size + 1 ≤ x6.heap.size := by have := W6.out.1.size; omega
   have t7 := Lib.hid (htab.out.below (hbl.out.trans (W6.out.1.mono (by omega))))
   have E7 : x6.heap[x4.heap.size]? = _ := W6.out.2 (x4.heap.size) _ e7.out (fun e => n7.out (Option.some.inj e)) (fun c fz e => by simp at e)
   have f0 : x6.cell? ⟨x4.heap.size, 0, none⟩ = some (.int .u64 ((lo q : Nat) : Int)) := by rw [Lib.cell_of_heap E7]; rfl
   have f1 : x6.cell? ⟨x4.heap.size, 1, none⟩ = some (.string (hs q)) := by rw [Lib.cell_of_heap E7]; rfl
   clear E7
   go_wp2_with fail
   refine (not1_v (w.heap.size + 1) (w.heap.size + 1) q 1 1 rfl [] hq.out (by decide) (by decide) _ hBd.out t7.out s7).mono ?_
   rintro e x8 ⟨rfl, hB7, hW7⟩
   replace hBd := Lib.hid hB7
   replace W6 := Lib.hid (W6.out.trans hW7)
   clear hB7 hW7 s7 t7 f0 f1
   have s7 : w.heap.size + 1 ≤ x8.heap.size := by have := W6.out.1.size; omega
   go_wp2_with fail
   refine (ws_any (w.heap.size + 1) (w.heap.size + 1) ([] ++ (List.replicate (1 - (Lib.decDigits q).length) 48 ++ Lib.decDigits q)) [46] (([] ++ (List.replicate (1 - (Lib.decDigits q).length) 48 ++ Lib.decDigits q)) ++ [46]) _ rfl rfl _ hBd.out (by have := hq1.out; simp; omega) s7).mono ?_
   rintro e x9 ⟨⟨v2, rfl⟩, hB7, hW7⟩
   replace hBd := Lib.hid hB7
   replace W6 := Lib.hid (W6.out.trans hW7)
   clear hB7 hW7 s7
   have s7 : w.heap.size + 1 ≤ x9.heap.size := by have := W6.out.1.size; omega
   have t7 := Lib.hid (htab.out.below (hbl.out.trans (W6.out.1.mono (by omega))))
   have E7 : x9.heap[x4.heap.size + 1]? = _ := W6.out.2 (x4.heap.size + 1) _ e8.out (fun e => n8.out (Option.some.inj e)) (fun c fz e => by simp at e)
   have f0 : x9.cell? ⟨x4.heap.size + 1, 0, none⟩ = some (.int .u64 ((lo r : Nat) : Int)) := by rw [Lib.cell_of_heap E7]; rfl
   have f1 : x9.cell? ⟨x4.heap.size + 1, 1, none⟩ = some (.string (hs r)) := by rw [Lib.cell_of_heap E7]; rfl
   clear E7
   go_wp2_with fail
   refine (not1_v (w.heap.size + 1) (w.heap.size + 1) r p (p : Int) rfl (([] ++ (List.replicate (1 - (Lib.decDigits q).length) 48 ++ Lib.decDigits q)) ++ [46]) hr.out hp.out (by have := hq1.out; simp; omega) _ hBd.out t7.out s7).mono ?_
   rintro e x10 ⟨rfl, hB7, hW7⟩
   replace hBd := Lib.hid hB7
   replace W6 := Lib.hid (W6.out.trans hW7)
   clear hB7 hW7 s7 t7 f0 f1
   have s7 : w.heap.size + 1 ≤ x10.heap.size := by have := W6.out.1.size; omega
   have hfin := hBd.out
   obtain ⟨fin, hf⟩ : ∃ f, f = (([] ++ (List.replicate (1 - (Lib.decDigits q).length) 48 ++ Lib.decDigits q)) ++ [46]) ++ (List.replicate (p - (Lib.decDigits r).length) 48 ++ Lib.decDigits r) := ⟨_, rfl⟩
   rw [← hf] at hfin
   replace hf := Lib.hid hf
   replace hfin := Lib.hid hfin
   clear hBd
   go_wp2_with fail
   refine (Tryz.Builder_String_any_k _ _ fin _ hfin.out s7).mono ?_
   rintro e xe ⟨rfl, h1, h2, h3⟩
   replace W6 := Lib.hid (hbl.out.trans ((W6.out.1.trans h2).mono (by omega)))
   clear h1 h2 h3
   go_wp2_with fail
   exact bodyPost_ret (v := .string ⟨fin.toArray⟩) (by simp [results, Tryz.results135, go_sem]) rfl ⟨by rw [hf.out]; simp, W6.out⟩
  ·obtain rfl : s = [] := hs0.out (by omega)
   obtain rfl : T = [] := ht0.out (by omega)
   have p4 : ¬ 0 < (p : Int) := by omega
   have W6 := Lib.hid (Wr.refl (w.heap.size + 1) (w.heap.size + 1) x6)
   have s7 : w.heap.size + 1 ≤ x6.heap.size := by have := W6.out.1.size; omega
   have t7 := Lib.hid (htab.out.below (hbl.out.trans (W6.out.1.mono (by omega))))
   have E7 : x6.heap[x4.heap.size]? = _ := W6.out.2 (x4.heap.size) _ e7.out (fun e => n7.out (Option.some.inj e)) (fun c fz e => by simp at e)
   have f0 : x6.cell? ⟨x4.heap.size, 0, none⟩ = some (.int .u64 ((lo q : Nat) : Int)) := by rw [Lib.cell_of_heap E7]; rfl
   have f1 : x6.cell? ⟨x4.heap.size, 1, none⟩ = some (.string (hs q)) := by rw [Lib.cell_of_heap E7]; rfl
   clear E7
   go_wp2_with fail
   refine (not1_v (w.heap.size + 1) (w.heap.size + 1) q 1 1 rfl [] hq.out (by decide) (by decide) _ hBd.out t7.out s7).mono ?_
   rintro e x8 ⟨rfl, hB7, hW7⟩
   replace hBd := Lib.hid hB7
   replace W6 := Lib.hid (W6.out.trans hW7)
   clear hB7 hW7 s7 t7 f0 f1
   have s7 : w.heap.size + 1 ≤ x8.heap.size := by have := W6.out.1.size; omega
   have hfin := hBd.out
   obtain ⟨fin, hf⟩ : ∃ f, f = ([] ++ (List.replicate (1 - (Lib.decDigits q).length) 48 ++ Lib.decDigits q)) := ⟨_, rfl⟩
   rw [← hf] at hfin
   replace hf := Lib.hid hf
   replace hfin := Lib.hid hfin
   clear hBd
   go_wp2_with fail
   refine (Tryz.Builder_String_any_k _ _ fin _ hfin.out s7).mono ?_
   rintro e xe ⟨rfl, h1, h2, h3⟩
   replace W6 := Lib.hid (hbl.out.trans ((W6.out.1.trans h2).mono (by omega)))
   clear h1 h2 h3
   go_wp2_with fail
   exact bodyPost_ret (v := .string ⟨fin.toArray⟩) (by simp [results, Tryz.results135, go_sem]) rfl ⟨by rw [hf.out]; simp, W6.out⟩
end Go.Proofs.YtaimebjkidegiaaGreatDoor
namespace Go.Proofs.YtaimebjkidegiaaGreatDoor
open Go.RowKit
attribute [local irreducible] lo hs sm s64 c64 d64 b64 mh ml pd pc qd qc val hiB str cmpI srD lz nb isq decB zl zh zs fe txt
theorem dtext_err (a : Rat) (n v z c : Int) (HR : RT 133 #[fracV a, .int .i64 n, .int .i64 v] (.tuple #[intV z, .int .i64 c])) (h1 : (c != 0) = true) (w : World) :
  Calls Tryz.prog 58 #[fracV a, .int .i64 n, .int .i64 v] w fun xe w' => xe = .returned (.tuple #[.string ⟨#[]⟩, .int .i64 c]) ∧ Below w.heap.size w w' := by
 have hL0 : GL w w [] := GL.start w
 replace HR := Lib.hid HR
 obtain ⟨x1, hweq, hL0⟩ := GL.named (hL0.new rfl [.int .u64 ((zl a.num : Nat) : Int), .string (zh a.num), .bool (zs a.num), .int .u64 ((lo (fe a) : Nat) : Int), .string (hs (fe a))] 34)
 go_enter Tryz.func58, Tryz.ntmps58
 have hN0 := cells_of _ 0 [] rfl (hL0.get _ _ mZ)
 simp only [zF, Nat.reduceAdd] at hN0
 go_wp2_with fail
 clear hN0
 with_reducible refine Calls.mono (HR.out _) ?_
 rintro e x2 ⟨rfl, hb⟩
 replace hL0 := hL0.call hb
 clear hb hweq
 obtain ⟨x3, hweq, hL0⟩ := GL.named (hL0.new rfl [.int .u64 ((zl z : Nat) : Int), .string (zh z), .bool (zs z)] 32)
 go_wp2_with fail
 exact bodyPost_ret (v := .tuple #[.string ⟨#[]⟩, .int .i64 c]) (by simp [results, Tryz.results58, go_sem]) rfl ⟨rfl, hL0.bl⟩
theorem dtext_ok (a : Rat) (n v z : Int) (s : ByteArray) (HR : RT 133 #[fracV a, .int .i64 n, .int .i64 v] (.tuple #[intV z, .int .i64 0])) (HN : RK Tab 135 #[intV z, .int .i64 n] (.string s)) (w : World) (htab : Tab w) :
  Calls Tryz.prog 58 #[fracV a, .int .i64 n, .int .i64 v] w fun xe w' => xe = .returned (.tuple #[.string s, .int .i64 0]) ∧ Below w.heap.size w w' := by
 have hL0 : GL w w [] := GL.start w
 replace HR := Lib.hid HR
 replace HN := Lib.hid HN
 obtain ⟨x1, hweq, hL0⟩ := GL.named (hL0.new rfl [.int .u64 ((zl a.num : Nat) : Int), .string (zh a.num), .bool (zs a.num), .int .u64 ((lo (fe a) : Nat) : Int), .string (hs (fe a))] 34)
 go_enter Tryz.func58, Tryz.ntmps58
 have hN0 := cells_of _ 0 [] rfl (hL0.get _ _ mZ)
 simp only [zF, Nat.reduceAdd] at hN0
 go_wp2_with fail
 clear hN0
 with_reducible refine Calls.mono (HR.out _) ?_
 rintro e x2 ⟨rfl, hb⟩
 replace hL0 := hL0.call hb
 clear hb hweq
 obtain ⟨x3, hweq, hL0⟩ := GL.named (hL0.new rfl [.int .u64 ((zl z : Nat) : Int), .string (zh z), .bool (zs z)] 32)
 have hN0 := cells_of _ 0 [] rfl (hL0.get _ _ mZ)
 simp only [zF, Nat.reduceAdd] at hN0
 go_wp2_with fail
 clear hN0
 with_reducible refine Calls.mono (HN.out _ (htab.below hL0.bl)) ?_
 rintro e x4 ⟨rfl, hb⟩
 replace hL0 := hL0.call hb
 clear hb hweq
 go_wp2_with fail
 exact bodyPost_ret (v := .tuple #[.string s, .int .i64 0]) (by simp [results, Tryz.results58, go_sem]) rfl ⟨rfl, hL0.bl⟩
theorem dbeh_ok (s t : ByteArray) (n k u r : Nat) (b : Bool) (HP : RT 204 #[.string t] (.tuple #[natV n, .int .i64 0])) (HT : RT 134 #[.int .i64 (k : Int)] (natV u)) (HS : RT 72 #[natV n, natV u] (.tuple #[natV r, .bool b])) (hp : (ByteArray.mk #[49]) ++ s = t) (hk : s.size = k) (hk2 : ¬ 9223372036854775807 < 1 + k) (hk3 : ¬ 9223372036854775806 < k) (hk4 : 1 + k ≤ 9223372036854775807) (w : World) :
  Calls Tryz.prog 205 #[.string s] w fun xe w' => xe = .returned (.tuple #[natV r, .int .i64 0]) ∧ Below w.heap.size w w' := by
 have hL0 : GL w w [] := GL.start w
 replace HP := Lib.hid HP
 replace HT := Lib.hid HT
 replace HS := Lib.hid HS
 obtain ⟨x1, hweq, hL0⟩ := GL.named (hL0.new rfl [.int .u64 0, .string ⟨#[]⟩] 30)
 go_enter Tryz.func205, Tryz.ntmps205
 go_wp2_with fail
 with_reducible refine Calls.mono (HP.out _) ?_
 rintro e x2 ⟨rfl, hb⟩
 replace hL0 := hL0.call hb
 clear hb hweq
 obtain ⟨x3, hweq, hL0⟩ := GL.named (hL0.new rfl [.int .u64 ((lo n : Nat) : Int), .string (hs n)] 30)
 go_upto_region 4 with fail
 clear hweq
 refine region_gh (by kernel_rfl) (by kernel_rfl) ?_
 refine lex_seg (gl := []) 8 (by kernel_rfl) ?_
 intro α iα F hF1 hF2
 have hq := GL.seg hF1 hL0
 simp only [zC, Nat.reduceAdd] at hq
 simp only [zT]
 repeat (go_big_quiet_step (first | fail | (go_at_call 134; with_reducible exact seg_call hF2 HT.out _) | (go_at_call 72; with_reducible exact seg_call hF2 HS.out _)))
 refine wpQuiet_nil ?_
 clear hq hF1 hF2 iα F α
 refine lex_new [.int .u64 0, .string ⟨#[]⟩] 6 30 30 rfl rfl (of_decide_eq_true (by kernel_rfl)) (by kernel_rfl) rfl new_natc ?_
 simp only [Act.put, zP]
 refine lex_put [.int .u64 ((lo r : Nat) : Int), .string (hs r)] [.int .u64 0, .string ⟨#[]⟩] 6 30 (.tmp 24) rfl (by kernel_rfl) (by simp [toG, upd]) rfl (fun w k h => put_natc _ _ _ _ w k h) ?_
 simp only [Act.put]
 refine lex_seg (gl := [(6, [.int .u64 ((lo r : Nat) : Int), .string (hs r)], true), (6, [.int .u64 0, .string ⟨#[]⟩], false)]) 1 (by kernel_rfl) ?_
 intro α iα F hF1 hF2
 have hq := GL.seg hF1 hL0
 simp only [zC, Nat.reduceAdd] at hq
 simp only [zT]
 repeat (go_big_quiet_step (first | fail | (go_at_call 134; with_reducible exact seg_call hF2 HT.out _) | (go_at_call 72; with_reducible exact seg_call hF2 HS.out _)))
 refine wpQuiet_nil ?_
 clear hq hF1 hF2 iα F α
 refine lexG_nil ?_
 intro κ x4 hS
 replace hL0 := hL0.ghs hS [(6, [.int .u64 ((lo r : Nat) : Int), .string (hs r)])] (by simp) (by intro p hp; simp only [List.mem_cons, List.not_mem_nil, or_false] at hp; rcases hp with rfl <;> exact ⟨_, by simp only [toG, upd]; rfl⟩)
 simp only [List.map_cons, List.map_nil, List.cons_append, List.nil_append] at hL0
 simp only [over_toG, over_nil, Act.put, zP]
 clear hS
 generalize κ 6 = k4_6 at *
 have hA := hL0.fc
 simp only [zF, Nat.reduceAdd] at hA
 obtain ⟨x5, hput1, hP⟩ := GL.named (hL0.put 2 (w.heap.size) _ rfl [.int .u64 ((lo r : Nat) : Int), .string (hs r)] rfl)
 simp only [setAll] at hput1
 simp only [List.set_cons_zero, List.set_cons_succ] at hP
 have hB1 := hP.fc
 simp only [zF, Nat.reduceAdd] at hB1
 replace hL0 := hP
 go_wp2_with fail
 exact bodyPost_ret (v := .tuple #[natV r, .int .i64 0]) (by simp [results, Tryz.results205, go_sem, hB1]) rfl ⟨rfl, hL0.bl⟩
theorem dparse_end (s d p : ByteArray) (l : Nat) (g : Bool) (HC : RT 202 #[.string s, .string (ByteArray.mk #[45])] (.tuple #[.string d, .bool g])) (KT : World → Prop) (hKT : Keeps KT) (HU : RK KT 203 #[.string d, .string (ByteArray.mk #[46])] (.tuple #[.string p, .string ⟨#[]⟩, .bool true])) (hl : s.size = l) (h0 : decide (4096 < (l : Int)) = false) (w : World) (kKT : KT w) :
  Calls Tryz.prog 136 #[.string s] w fun xe w' => xe = .returned (.tuple #[.agg #[.int .u64 0, .string ⟨#[]⟩, .bool false, .int .u64 0, .string ⟨#[]⟩], .int .i64 4]) ∧ Below w.heap.size w w' := by
 have hL0 : GL w w [] := GL.start w
 replace HC := Lib.hid HC
 replace hKT := Lib.hid hKT
 replace HU := Lib.hid HU
 obtain ⟨x1, hweq, hL0⟩ := GL.named (hL0.new rfl [.int .u64 0, .string ⟨#[]⟩, .bool false, .int .u64 0, .string ⟨#[]⟩] 34)
 go_enter Tryz.func136, Tryz.ntmps136
 go_wp2_with fail
 with_reducible refine Calls.mono (HC.out _) ?_
 rintro e x2 ⟨rfl, hb⟩
 replace hL0 := hL0.call hb
 clear hb hweq
 go_wp2_with fail
 with_reducible refine Calls.mono (HU.out _ (hKT.out.at hL0.bl kKT)) ?_
 rintro e x3 ⟨rfl, hb⟩
 replace hL0 := hL0.call hb
 clear hb
 have hA := hL0.fc
 simp only [zF, Nat.reduceAdd] at hA
 obtain ⟨x4, hput1, hP⟩ := GL.named (hL0.put 0 (w.heap.size) _ rfl [.int .u64 0, .string ⟨#[]⟩, .bool false, .int .u64 0, .string ⟨#[]⟩] rfl)
 simp only [setAll] at hput1
 simp only [List.set_cons_zero, List.set_cons_succ] at hP
 have hB1 := hP.fc
 simp only [zF, Nat.reduceAdd] at hB1
 replace hL0 := hP
 go_wp2_with fail
 exact bodyPost_ret (v := .tuple #[.agg #[.int .u64 0, .string ⟨#[]⟩, .bool false, .int .u64 0, .string ⟨#[]⟩], .int .i64 4]) (by simp [results, Tryz.results136, go_sem, hB1]) rfl ⟨rfl, hL0.bl⟩
theorem dparse_high_f (s d p q : ByteArray) (l h : Nat) (c : Int) (g : Bool) (HC : RT 202 #[.string s, .string (ByteArray.mk #[45])] (.tuple #[.string d, .bool g])) (KT : World → Prop) (hKT : Keeps KT) (HU : RK KT 203 #[.string d, .string (ByteArray.mk #[46])] (.tuple #[.string p, .string q, .bool false])) (HP : RT 204 #[.string p] (.tuple #[natV h, .int .i64 c])) (hl : s.size = l) (h0 : decide (4096 < (l : Int)) = false) (h1 : (c != 0) = true) (w : World) (kKT : KT w) :
  Calls Tryz.prog 136 #[.string s] w fun xe w' => xe = .returned (.tuple #[.agg #[.int .u64 0, .string ⟨#[]⟩, .bool false, .int .u64 0, .string ⟨#[]⟩], .int .i64 c]) ∧ Below w.heap.size w w' := by
 have hL0 : GL w w [] := GL.start w
 replace HC := Lib.hid HC
 replace hKT := Lib.hid hKT
 replace HU := Lib.hid HU
 replace HP := Lib.hid HP
 obtain ⟨x1, hweq, hL0⟩ := GL.named (hL0.new rfl [.int .u64 0, .string ⟨#[]⟩, .bool false, .int .u64 0, .string ⟨#[]⟩] 34)
 go_enter Tryz.func136, Tryz.ntmps136
 go_wp2_with fail
 with_reducible refine Calls.mono (HC.out _) ?_
 rintro e x2 ⟨rfl, hb⟩
 replace hL0 := hL0.call hb
 clear hb hweq
 go_wp2_with fail
 with_reducible refine Calls.mono (HU.out _ (hKT.out.at hL0.bl kKT)) ?_
 rintro e x3 ⟨rfl, hb⟩
 replace hL0 := hL0.call hb
 clear hb
 go_wp2_with fail
 with_reducible refine Calls.mono (HP.out _) ?_
 rintro e x4 ⟨rfl, hb⟩
 replace hL0 := hL0.call hb
 clear hb
 obtain ⟨x5, hweq, hL0⟩ := GL.named (hL0.new rfl [.int .u64 ((lo h : Nat) : Int), .string (hs h)] 30)
 have hA := hL0.fc
 simp only [zF, Nat.reduceAdd] at hA
 obtain ⟨x6, hput1, hP⟩ := GL.named (hL0.put 1 (w.heap.size) _ rfl [.int .u64 0, .string ⟨#[]⟩, .bool false, .int .u64 0, .string ⟨#[]⟩] rfl)
 simp only [setAll] at hput1
 simp only [List.set_cons_zero, List.set_cons_succ] at hP
 have hB1 := hP.fc
 simp only [zF, Nat.reduceAdd] at hB1
 replace hL0 := hP
 go_wp2_with fail
 exact bodyPost_ret (v := .tuple #[.agg #[.int .u64 0, .string ⟨#[]⟩, .bool false, .int .u64 0, .string ⟨#[]⟩], .int .i64 c]) (by simp [results, Tryz.results136, go_sem, hB1]) rfl ⟨rfl, hL0.bl⟩
theorem dparse_zero_f (s d p q : ByteArray) (l h m k u x : Nat) (HC : RT 202 #[.string s, .string (ByteArray.mk #[45])] (.tuple #[.string d, .bool true])) (KT : World → Prop) (hKT : Keeps KT) (HU : RK KT 203 #[.string d, .string (ByteArray.mk #[46])] (.tuple #[.string p, .string q, .bool false])) (HP : RT 204 #[.string p] (.tuple #[natV h, .int .i64 0])) (HB : RT 205 #[.string q] (.tuple #[natV m, .int .i64 0])) (HT : RT 134 #[.int .i64 (k : Int)] (natV u)) (HM : RT 120 #[natV h, natV u] (natV x)) (HA : RT 71 #[natV x, natV m] (natV 0)) (HO : RT 17 #[.int .u64 0] (natV 0)) (hl : s.size = l) (h0 : decide (4096 < (l : Int)) = false) (hk : q.size = k) (w : World) (kKT : KT w) :
  Calls Tryz.prog 136 #[.string s] w fun xe w' => xe = .returned (.tuple #[.agg #[.int .u64 0, .string ⟨#[]⟩, .bool false, .int .u64 0, .string ⟨#[]⟩], .int .i64 4]) ∧ Below w.heap.size w w' := by
 have hL0 : GL w w [] := GL.start w
 replace HC := Lib.hid HC
 replace hKT := Lib.hid hKT
 replace HU := Lib.hid HU
 replace HP := Lib.hid HP
 replace HB := Lib.hid HB
 replace HT := Lib.hid HT
 replace HM := Lib.hid HM
 replace HA := Lib.hid HA
 replace HO := Lib.hid HO
 obtain ⟨x1, hweq, hL0⟩ := GL.named (hL0.new rfl [.int .u64 0, .string ⟨#[]⟩, .bool false, .int .u64 0, .string ⟨#[]⟩] 34)
 go_enter Tryz.func136, Tryz.ntmps136
 go_wp2_with fail
 with_reducible refine Calls.mono (HC.out _) ?_
 rintro e x2 ⟨rfl, hb⟩
 replace hL0 := hL0.call hb
 clear hb hweq
 go_wp2_with fail
 with_reducible refine Calls.mono (HU.out _ (hKT.out.at hL0.bl kKT)) ?_
 rintro e x3 ⟨rfl, hb⟩
 replace hL0 := hL0.call hb
 clear hb
 go_wp2_with fail
 with_reducible refine Calls.mono (HP.out _) ?_
 rintro e x4 ⟨rfl, hb⟩
 replace hL0 := hL0.call hb
 clear hb
 obtain ⟨x5, hweq, hL0⟩ := GL.named (hL0.new rfl [.int .u64 ((lo h : Nat) : Int), .string (hs h)] 30)
 go_wp2_with fail
 with_reducible refine Calls.mono (HB.out _) ?_
 rintro e x6 ⟨rfl, hb⟩
 replace hL0 := hL0.call hb
 clear hb hweq
 obtain ⟨x7, hweq, hL0⟩ := GL.named (hL0.new rfl [.int .u64 ((lo m : Nat) : Int), .string (hs m)] 30)
 go_wp2_with fail
 with_reducible refine Calls.mono (HT.out _) ?_
 rintro e x8 ⟨rfl, hb⟩
 replace hL0 := hL0.call hb
 clear hb hweq
 obtain ⟨x9, hweq, hL0⟩ := GL.named (hL0.new rfl [.int .u64 ((lo u : Nat) : Int), .string (hs u)] 30)
 go_upto_region 14 with fail
 clear hweq
 refine region_gh (by kernel_rfl) (by kernel_rfl) ?_
 refine lex_seg (gl := []) 5 (by kernel_rfl) ?_
 intro α iα F hF1 hF2
 have hq := GL.seg hF1 hL0
 simp only [zC, Nat.reduceAdd] at hq
 simp only [zT]
 repeat (go_big_quiet_step (first | fail | (go_at_call 120; with_reducible exact seg_call hF2 HM.out _) | (go_at_call 71; with_reducible exact seg_call hF2 HA.out _)))
 refine wpQuiet_nil ?_
 clear hq hF1 hF2 iα F α
 refine lex_new [.int .u64 0, .string ⟨#[]⟩] 13 30 30 rfl rfl (of_decide_eq_true (by kernel_rfl)) (by kernel_rfl) rfl new_natc ?_
 simp only [Act.put, zP]
 refine lex_put [.int .u64 ((lo 0 : Nat) : Int), .string (hs 0)] [.int .u64 0, .string ⟨#[]⟩] 13 30 (.tmp 60) rfl (by kernel_rfl) (by simp [toG, upd]) rfl (fun w k h => put_natc _ _ _ _ w k h) ?_
 simp only [Act.put]
 refine lexG_nil ?_
 intro κ x10 hS
 replace hL0 := hL0.ghs hS [(13, [.int .u64 ((lo 0 : Nat) : Int), .string (hs 0)])] (by simp) (by intro p hp; simp only [List.mem_cons, List.not_mem_nil, or_false] at hp; rcases hp with rfl <;> exact ⟨_, by simp only [toG, upd]; rfl⟩)
 simp only [List.map_cons, List.map_nil, List.cons_append, List.nil_append] at hL0
 simp only [over_toG, over_nil, Act.put, zP]
 clear hS
 generalize κ 13 = k10_13 at *
 go_upto_region 15 with fail
 obtain ⟨α, iα, F, hF1, hF2⟩ := cls x10
 have hq0 := cls_box hF1 hL0 _ _ mZ
 simp only [zC, Nat.reduceAdd] at hq0
 refine region_qs 6 (C := fun w' => ∃ x, w' = F x) (by kernel_rfl) (by kernel_rfl) (cls_drew hF2) ?_
 simp only [zT]
 repeat (go_big_quiet_step (first | fail | (go_at_call 17; with_reducible exact cls_call hF1 hF2 HO.out _)))
 refine wpQuiet_nil ?_
 rintro wq ⟨xq, rfl⟩
 replace hL0 := hL0.call (hF1 xq)
 clear  hq0 hF2
 generalize F xq = x11 at hL0 ⊢
 clear hF1 xq iα F α
 have hA := hL0.fc
 simp only [zF, Nat.reduceAdd] at hA
 obtain ⟨x12, hput1, hP⟩ := GL.named (hL0.put 4 (w.heap.size) _ rfl [.int .u64 0, .string ⟨#[]⟩, .bool false, .int .u64 0, .string ⟨#[]⟩] rfl)
 simp only [setAll] at hput1
 simp only [List.set_cons_zero, List.set_cons_succ] at hP
 have hB1 := hP.fc
 simp only [zF, Nat.reduceAdd] at hB1
 replace hL0 := hP
 go_wp2_with fail
 exact bodyPost_ret (v := .tuple #[.agg #[.int .u64 0, .string ⟨#[]⟩, .bool false, .int .u64 0, .string ⟨#[]⟩], .int .i64 4]) (by simp [results, Tryz.results136, go_sem, hB1]) rfl ⟨rfl, hL0.bl⟩
theorem dparse_pos_f (s d p q : ByteArray) (l h m k u x y : Nat) (z e : Int) (a : Rat) (HC : RT 202 #[.string s, .string (ByteArray.mk #[45])] (.tuple #[.string d, .bool false])) (KT : World → Prop) (hKT : Keeps KT) (HU : RK KT 203 #[.string d, .string (ByteArray.mk #[46])] (.tuple #[.string p, .string q, .bool false])) (HP : RT 204 #[.string p] (.tuple #[natV h, .int .i64 0])) (HB : RT 205 #[.string q] (.tuple #[natV m, .int .i64 0])) (HT : RT 134 #[.int .i64 (k : Int)] (natV u)) (HM : RT 120 #[natV h, natV u] (natV x)) (HA : RT 71 #[natV x, natV m] (natV y)) (HJ : RT 19 #[.bool false, natV y] (intV z)) (HF : RT 122 #[intV z, natV u] (.tuple #[fracV a, .int .i64 e])) (hl : s.size = l) (h0 : decide (4096 < (l : Int)) = false) (hk : q.size = k) (w : World) (kKT : KT w) :
  Calls Tryz.prog 136 #[.string s] w fun xe w' => xe = .returned (.tuple #[fracV a, .int .i64 e]) ∧ Below w.heap.size w w' := by
 have hL0 : GL w w [] := GL.start w
 replace HC := Lib.hid HC
 replace hKT := Lib.hid hKT
 replace HU := Lib.hid HU
 replace HP := Lib.hid HP
 replace HB := Lib.hid HB
 replace HT := Lib.hid HT
 replace HM := Lib.hid HM
 replace HA := Lib.hid HA
 replace HJ := Lib.hid HJ
 replace HF := Lib.hid HF
 obtain ⟨x1, hweq, hL0⟩ := GL.named (hL0.new rfl [.int .u64 0, .string ⟨#[]⟩, .bool false, .int .u64 0, .string ⟨#[]⟩] 34)
 go_enter Tryz.func136, Tryz.ntmps136
 go_wp2_with fail
 with_reducible refine Calls.mono (HC.out _) ?_
 rintro e x2 ⟨rfl, hb⟩
 replace hL0 := hL0.call hb
 clear hb hweq
 go_wp2_with fail
 with_reducible refine Calls.mono (HU.out _ (hKT.out.at hL0.bl kKT)) ?_
 rintro e x3 ⟨rfl, hb⟩
 replace hL0 := hL0.call hb
 clear hb
 go_wp2_with fail
 with_reducible refine Calls.mono (HP.out _) ?_
 rintro e x4 ⟨rfl, hb⟩
 replace hL0 := hL0.call hb
 clear hb
 obtain ⟨x5, hweq, hL0⟩ := GL.named (hL0.new rfl [.int .u64 ((lo h : Nat) : Int), .string (hs h)] 30)
 go_wp2_with fail
 with_reducible refine Calls.mono (HB.out _) ?_
 rintro e x6 ⟨rfl, hb⟩
 replace hL0 := hL0.call hb
 clear hb hweq
 obtain ⟨x7, hweq, hL0⟩ := GL.named (hL0.new rfl [.int .u64 ((lo m : Nat) : Int), .string (hs m)] 30)
 go_wp2_with fail
 with_reducible refine Calls.mono (HT.out _) ?_
 rintro e x8 ⟨rfl, hb⟩
 replace hL0 := hL0.call hb
 clear hb hweq
 obtain ⟨x9, hweq, hL0⟩ := GL.named (hL0.new rfl [.int .u64 ((lo u : Nat) : Int), .string (hs u)] 30)
 go_upto_region 14 with fail
 clear hweq
 refine region_gh (by kernel_rfl) (by kernel_rfl) ?_
 refine lex_seg (gl := []) 5 (by kernel_rfl) ?_
 intro α iα F hF1 hF2
 have hq := GL.seg hF1 hL0
 simp only [zC, Nat.reduceAdd] at hq
 simp only [zT]
 repeat (go_big_quiet_step (first | fail | (go_at_call 120; with_reducible exact seg_call hF2 HM.out _) | (go_at_call 71; with_reducible exact seg_call hF2 HA.out _)))
 refine wpQuiet_nil ?_
 clear hq hF1 hF2 iα F α
 refine lex_new [.int .u64 0, .string ⟨#[]⟩] 13 30 30 rfl rfl (of_decide_eq_true (by kernel_rfl)) (by kernel_rfl) rfl new_natc ?_
 simp only [Act.put, zP]
 refine lex_put [.int .u64 ((lo y : Nat) : Int), .string (hs y)] [.int .u64 0, .string ⟨#[]⟩] 13 30 (.tmp 60) rfl (by kernel_rfl) (by simp [toG, upd]) rfl (fun w k h => put_natc _ _ _ _ w k h) ?_
 simp only [Act.put]
 refine lexG_nil ?_
 intro κ x10 hS
 replace hL0 := hL0.ghs hS [(13, [.int .u64 ((lo y : Nat) : Int), .string (hs y)])] (by simp) (by intro p hp; simp only [List.mem_cons, List.not_mem_nil, or_false] at hp; rcases hp with rfl <;> exact ⟨_, by simp only [toG, upd]; rfl⟩)
 simp only [List.map_cons, List.map_nil, List.cons_append, List.nil_append] at hL0
 simp only [over_toG, over_nil, Act.put, zP]
 clear hS
 generalize κ 13 = k10_13 at *
 go_upto_region 15 with fail
 obtain ⟨α, iα, F, hF1, hF2⟩ := cls x10
 refine region_qs 6 (C := fun w' => ∃ x, w' = F x) (by kernel_rfl) (by kernel_rfl) (cls_drew hF2) ?_
 simp only [zT]
 repeat (go_big_quiet_step (first | fail))
 refine wpQuiet_nil ?_
 rintro wq ⟨xq, rfl⟩
 replace hL0 := hL0.call (hF1 xq)
 clear  hF2
 generalize F xq = x11 at hL0 ⊢
 clear hF1 xq iα F α
 go_upto_region 17 with fail
 obtain ⟨α, iα, F, hF1, hF2⟩ := cls x11
 have hq0 := cls_box hF1 hL0 _ _ mZ
 simp only [zC, Nat.reduceAdd] at hq0
 have hq1 := cls_box hF1 hL0 _ _ (mK mZ)
 simp only [zC, Nat.reduceAdd] at hq1
 refine region_qs 7 (C := fun w' => ∃ x, w' = F x) (by kernel_rfl) (by kernel_rfl) (cls_drew hF2) ?_
 simp only [zT]
 repeat (go_big_quiet_step (first | fail | (go_at_call 19; with_reducible exact cls_call hF1 hF2 HJ.out _) | (go_at_call 122; with_reducible exact cls_call hF1 hF2 HF.out _)))
 refine wpQuiet_nil ?_
 rintro wq ⟨xq, rfl⟩
 replace hL0 := hL0.call (hF1 xq)
 clear  hq0 hq1 hF2
 generalize F xq = x12 at hL0 ⊢
 clear hF1 xq iα F α
 have hA := hL0.fc
 simp only [zF, Nat.reduceAdd] at hA
 obtain ⟨x13, hput1, hP⟩ := GL.named (hL0.put 4 (w.heap.size) _ rfl [.int .u64 ((zl a.num : Nat) : Int), .string (zh a.num), .bool (zs a.num), .int .u64 ((lo (fe a) : Nat) : Int), .string (hs (fe a))] rfl)
 simp only [setAll] at hput1
 simp only [List.set_cons_zero, List.set_cons_succ] at hP
 have hB1 := hP.fc
 simp only [zF, Nat.reduceAdd] at hB1
 replace hL0 := hP
 go_wp2_with fail
 exact bodyPost_ret (v := .tuple #[fracV a, .int .i64 e]) (by simp [results, Tryz.results136, go_sem, hB1]) rfl ⟨rfl, hL0.bl⟩
theorem dparse_neg_f (s d p q : ByteArray) (l h m k u x y : Nat) (z e : Int) (a : Rat) (HC : RT 202 #[.string s, .string (ByteArray.mk #[45])] (.tuple #[.string d, .bool true])) (KT : World → Prop) (hKT : Keeps KT) (HU : RK KT 203 #[.string d, .string (ByteArray.mk #[46])] (.tuple #[.string p, .string q, .bool false])) (HP : RT 204 #[.string p] (.tuple #[natV h, .int .i64 0])) (HB : RT 205 #[.string q] (.tuple #[natV m, .int .i64 0])) (HT : RT 134 #[.int .i64 (k : Int)] (natV u)) (HM : RT 120 #[natV h, natV u] (natV x)) (HA : RT 71 #[natV x, natV m] (natV y)) (HO : RT 17 #[.int .u64 0] (natV 0)) (HJ : RT 19 #[.bool true, natV y] (intV z)) (HF : RT 122 #[intV z, natV u] (.tuple #[fracV a, .int .i64 e])) (hl : s.size = l) (h0 : decide (4096 < (l : Int)) = false) (hk : q.size = k) (hy : 0 < y) (w : World) (kKT : KT w) :
  Calls Tryz.prog 136 #[.string s] w fun xe w' => xe = .returned (.tuple #[fracV a, .int .i64 e]) ∧ Below w.heap.size w w' := by
 have hL0 : GL w w [] := GL.start w
 replace HC := Lib.hid HC
 replace hKT := Lib.hid hKT
 replace HU := Lib.hid HU
 replace HP := Lib.hid HP
 replace HB := Lib.hid HB
 replace HT := Lib.hid HT
 replace HM := Lib.hid HM
 replace HA := Lib.hid HA
 replace HO := Lib.hid HO
 replace HJ := Lib.hid HJ
 replace HF := Lib.hid HF
 have hz := eq_zero hy
 clear hy
 rcases hz with e0 | ⟨e0, e1⟩
 all_goals (
  obtain ⟨x1, hweq, hL0⟩ := GL.named (hL0.new rfl [.int .u64 0, .string ⟨#[]⟩, .bool false, .int .u64 0, .string ⟨#[]⟩] 34)
  go_enter Tryz.func136, Tryz.ntmps136
  go_wp2_with fail
  with_reducible refine Calls.mono (HC.out _) ?_
  rintro e x2 ⟨rfl, hb⟩
  replace hL0 := hL0.call hb
  clear hb hweq
  go_wp2_with fail
  with_reducible refine Calls.mono (HU.out _ (hKT.out.at hL0.bl kKT)) ?_
  rintro e x3 ⟨rfl, hb⟩
  replace hL0 := hL0.call hb
  clear hb
  go_wp2_with fail
  with_reducible refine Calls.mono (HP.out _) ?_
  rintro e x4 ⟨rfl, hb⟩
  replace hL0 := hL0.call hb
  clear hb
  obtain ⟨x5, hweq, hL0⟩ := GL.named (hL0.new rfl [.int .u64 ((lo h : Nat) : Int), .string (hs h)] 30)
  go_wp2_with fail
  with_reducible refine Calls.mono (HB.out _) ?_
  rintro e x6 ⟨rfl, hb⟩
  replace hL0 := hL0.call hb
  clear hb hweq
  obtain ⟨x7, hweq, hL0⟩ := GL.named (hL0.new rfl [.int .u64 ((lo m : Nat) : Int), .string (hs m)] 30)
  go_wp2_with fail
  with_reducible refine Calls.mono (HT.out _) ?_
  rintro e x8 ⟨rfl, hb⟩
  replace hL0 := hL0.call hb
  clear hb hweq
  obtain ⟨x9, hweq, hL0⟩ := GL.named (hL0.new rfl [.int .u64 ((lo u : Nat) : Int), .string (hs u)] 30)
  go_upto_region 14 with fail
  clear hweq
  refine region_gh (by kernel_rfl) (by kernel_rfl) ?_
  refine lex_seg (gl := []) 5 (by kernel_rfl) ?_
  intro α iα F hF1 hF2
  have hq := GL.seg hF1 hL0
  simp only [zC, Nat.reduceAdd] at hq
  simp only [zT]
  repeat (go_big_quiet_step (first | fail | (go_at_call 120; with_reducible exact seg_call hF2 HM.out _) | (go_at_call 71; with_reducible exact seg_call hF2 HA.out _)))
  refine wpQuiet_nil ?_
  clear hq hF1 hF2 iα F α
  refine lex_new [.int .u64 0, .string ⟨#[]⟩] 13 30 30 rfl rfl (of_decide_eq_true (by kernel_rfl)) (by kernel_rfl) rfl new_natc ?_
  simp only [Act.put, zP]
  refine lex_put [.int .u64 ((lo y : Nat) : Int), .string (hs y)] [.int .u64 0, .string ⟨#[]⟩] 13 30 (.tmp 60) rfl (by kernel_rfl) (by simp [toG, upd]) rfl (fun w k h => put_natc _ _ _ _ w k h) ?_
  simp only [Act.put]
  refine lexG_nil ?_
  intro κ x10 hS
  replace hL0 := hL0.ghs hS [(13, [.int .u64 ((lo y : Nat) : Int), .string (hs y)])] (by simp) (by intro p hp; simp only [List.mem_cons, List.not_mem_nil, or_false] at hp; rcases hp with rfl <;> exact ⟨_, by simp only [toG, upd]; rfl⟩)
  simp only [List.map_cons, List.map_nil, List.cons_append, List.nil_append] at hL0
  simp only [over_toG, over_nil, Act.put, zP]
  clear hS
  generalize κ 13 = k10_13 at *
  go_upto_region 15 with fail
  obtain ⟨α, iα, F, hF1, hF2⟩ := cls x10
  have hq0 := cls_box hF1 hL0 _ _ mZ
  simp only [zC, Nat.reduceAdd] at hq0
  refine region_qs 6 (C := fun w' => ∃ x, w' = F x) (by kernel_rfl) (by kernel_rfl) (cls_drew hF2) ?_
  simp only [zT]
  repeat (go_big_quiet_step (first | fail | (go_at_call 17; with_reducible exact cls_call hF1 hF2 HO.out _)))
  refine wpQuiet_nil ?_
  rintro wq ⟨xq, rfl⟩
  replace hL0 := hL0.call (hF1 xq)
  clear  hq0 hF2
  generalize F xq = x11 at hL0 ⊢
  clear hF1 xq iα F α
  go_upto_region 17 with fail
  obtain ⟨α, iα, F, hF1, hF2⟩ := cls x11
  have hq0 := cls_box hF1 hL0 _ _ mZ
  simp only [zC, Nat.reduceAdd] at hq0
  have hq1 := cls_box hF1 hL0 _ _ (mK mZ)
  simp only [zC, Nat.reduceAdd] at hq1
  refine region_qs 7 (C := fun w' => ∃ x, w' = F x) (by kernel_rfl) (by kernel_rfl) (cls_drew hF2) ?_
  simp only [zT]
  repeat (go_big_quiet_step (first | fail | (go_at_call 19; with_reducible exact cls_call hF1 hF2 HJ.out _) | (go_at_call 122; with_reducible exact cls_call hF1 hF2 HF.out _)))
  refine wpQuiet_nil ?_
  rintro wq ⟨xq, rfl⟩
  replace hL0 := hL0.call (hF1 xq)
  clear  hq0 hq1 hF2
  generalize F xq = x12 at hL0 ⊢
  clear hF1 xq iα F α
  have hA := hL0.fc
  simp only [zF, Nat.reduceAdd] at hA
  obtain ⟨x13, hput1, hP⟩ := GL.named (hL0.put 4 (w.heap.size) _ rfl [.int .u64 ((zl a.num : Nat) : Int), .string (zh a.num), .bool (zs a.num), .int .u64 ((lo (fe a) : Nat) : Int), .string (hs (fe a))] rfl)
  simp only [setAll] at hput1
  simp only [List.set_cons_zero, List.set_cons_succ] at hP
  have hB1 := hP.fc
  simp only [zF, Nat.reduceAdd] at hB1
  replace hL0 := hP
  go_wp2_with fail
  exact bodyPost_ret (v := .tuple #[fracV a, .int .i64 e]) (by simp [results, Tryz.results136, go_sem, hB1]) rfl ⟨rfl, hL0.bl⟩)
theorem dparse_high_t (s d p q : ByteArray) (l h : Nat) (c : Int) (g : Bool) (HC : RT 202 #[.string s, .string (ByteArray.mk #[45])] (.tuple #[.string d, .bool g])) (KT : World → Prop) (hKT : Keeps KT) (HU : RK KT 203 #[.string d, .string (ByteArray.mk #[46])] (.tuple #[.string p, .string q, .bool true])) (HP : RT 204 #[.string p] (.tuple #[natV h, .int .i64 c])) (hl : s.size = l) (h0 : decide (4096 < (l : Int)) = false) (hq : ¬ q.toList = []) (h1 : (c != 0) = true) (w : World) (kKT : KT w) :
  Calls Tryz.prog 136 #[.string s] w fun xe w' => xe = .returned (.tuple #[.agg #[.int .u64 0, .string ⟨#[]⟩, .bool false, .int .u64 0, .string ⟨#[]⟩], .int .i64 c]) ∧ Below w.heap.size w w' := by
 have hL0 : GL w w [] := GL.start w
 replace HC := Lib.hid HC
 replace hKT := Lib.hid hKT
 replace HU := Lib.hid HU
 replace HP := Lib.hid HP
 have hq1 : (q.toList == []) = false := by simpa using hq
 have hq2 : q.toList.isEmpty = false := by simpa using hq
 obtain ⟨x1, hweq, hL0⟩ := GL.named (hL0.new rfl [.int .u64 0, .string ⟨#[]⟩, .bool false, .int .u64 0, .string ⟨#[]⟩] 34)
 go_enter Tryz.func136, Tryz.ntmps136
 go_wp2_with fail
 with_reducible refine Calls.mono (HC.out _) ?_
 rintro e x2 ⟨rfl, hb⟩
 replace hL0 := hL0.call hb
 clear hb hweq
 go_wp2_with fail
 with_reducible refine Calls.mono (HU.out _ (hKT.out.at hL0.bl kKT)) ?_
 rintro e x3 ⟨rfl, hb⟩
 replace hL0 := hL0.call hb
 clear hb
 go_wp2_with fail
 with_reducible refine Calls.mono (HP.out _) ?_
 rintro e x4 ⟨rfl, hb⟩
 replace hL0 := hL0.call hb
 clear hb
 obtain ⟨x5, hweq, hL0⟩ := GL.named (hL0.new rfl [.int .u64 ((lo h : Nat) : Int), .string (hs h)] 30)
 have hA := hL0.fc
 simp only [zF, Nat.reduceAdd] at hA
 obtain ⟨x6, hput1, hP⟩ := GL.named (hL0.put 1 (w.heap.size) _ rfl [.int .u64 0, .string ⟨#[]⟩, .bool false, .int .u64 0, .string ⟨#[]⟩] rfl)
 simp only [setAll] at hput1
 simp only [List.set_cons_zero, List.set_cons_succ] at hP
 have hB1 := hP.fc
 simp only [zF, Nat.reduceAdd] at hB1
 replace hL0 := hP
 go_wp2_with fail
 exact bodyPost_ret (v := .tuple #[.agg #[.int .u64 0, .string ⟨#[]⟩, .bool false, .int .u64 0, .string ⟨#[]⟩], .int .i64 c]) (by simp [results, Tryz.results136, go_sem, hB1]) rfl ⟨rfl, hL0.bl⟩
theorem dparse_zero_t (s d p q : ByteArray) (l h m k u x : Nat) (HC : RT 202 #[.string s, .string (ByteArray.mk #[45])] (.tuple #[.string d, .bool true])) (KT : World → Prop) (hKT : Keeps KT) (HU : RK KT 203 #[.string d, .string (ByteArray.mk #[46])] (.tuple #[.string p, .string q, .bool true])) (HP : RT 204 #[.string p] (.tuple #[natV h, .int .i64 0])) (HB : RT 205 #[.string q] (.tuple #[natV m, .int .i64 0])) (HT : RT 134 #[.int .i64 (k : Int)] (natV u)) (HM : RT 120 #[natV h, natV u] (natV x)) (HA : RT 71 #[natV x, natV m] (natV 0)) (HO : RT 17 #[.int .u64 0] (natV 0)) (hl : s.size = l) (h0 : decide (4096 < (l : Int)) = false) (hq : ¬ q.toList = []) (hk : q.size = k) (w : World) (kKT : KT w) :
  Calls Tryz.prog 136 #[.string s] w fun xe w' => xe = .returned (.tuple #[.agg #[.int .u64 0, .string ⟨#[]⟩, .bool false, .int .u64 0, .string ⟨#[]⟩], .int .i64 4]) ∧ Below w.heap.size w w' := by
 have hL0 : GL w w [] := GL.start w
 replace HC := Lib.hid HC
 replace hKT := Lib.hid hKT
 replace HU := Lib.hid HU
 replace HP := Lib.hid HP
 replace HB := Lib.hid HB
 replace HT := Lib.hid HT
 replace HM := Lib.hid HM
 replace HA := Lib.hid HA
 replace HO := Lib.hid HO
 have hq1 : (q.toList == []) = false := by simpa using hq
 have hq2 : q.toList.isEmpty = false := by simpa using hq
 obtain ⟨x1, hweq, hL0⟩ := GL.named (hL0.new rfl [.int .u64 0, .string ⟨#[]⟩, .bool false, .int .u64 0, .string ⟨#[]⟩] 34)
 go_enter Tryz.func136, Tryz.ntmps136
 go_wp2_with fail
 with_reducible refine Calls.mono (HC.out _) ?_
 rintro e x2 ⟨rfl, hb⟩
 replace hL0 := hL0.call hb
 clear hb hweq
 go_wp2_with fail
 with_reducible refine Calls.mono (HU.out _ (hKT.out.at hL0.bl kKT)) ?_
 rintro e x3 ⟨rfl, hb⟩
 replace hL0 := hL0.call hb
 clear hb
 go_wp2_with fail
 with_reducible refine Calls.mono (HP.out _) ?_
 rintro e x4 ⟨rfl, hb⟩
 replace hL0 := hL0.call hb
 clear hb
 obtain ⟨x5, hweq, hL0⟩ := GL.named (hL0.new rfl [.int .u64 ((lo h : Nat) : Int), .string (hs h)] 30)
 go_wp2_with fail
 with_reducible refine Calls.mono (HB.out _) ?_
 rintro e x6 ⟨rfl, hb⟩
 replace hL0 := hL0.call hb
 clear hb hweq
 obtain ⟨x7, hweq, hL0⟩ := GL.named (hL0.new rfl [.int .u64 ((lo m : Nat) : Int), .string (hs m)] 30)
 go_wp2_with fail
 with_reducible refine Calls.mono (HT.out _) ?_
 rintro e x8 ⟨rfl, hb⟩
 replace hL0 := hL0.call hb
 clear hb hweq
 obtain ⟨x9, hweq, hL0⟩ := GL.named (hL0.new rfl [.int .u64 ((lo u : Nat) : Int), .string (hs u)] 30)
 go_upto_region 14 with fail
 clear hweq
 refine region_gh (by kernel_rfl) (by kernel_rfl) ?_
 refine lex_seg (gl := []) 5 (by kernel_rfl) ?_
 intro α iα F hF1 hF2
 have hq := GL.seg hF1 hL0
 simp only [zC, Nat.reduceAdd] at hq
 simp only [zT]
 repeat (go_big_quiet_step (first | fail | (go_at_call 120; with_reducible exact seg_call hF2 HM.out _) | (go_at_call 71; with_reducible exact seg_call hF2 HA.out _)))
 refine wpQuiet_nil ?_
 clear hq hF1 hF2 iα F α
 refine lex_new [.int .u64 0, .string ⟨#[]⟩] 13 30 30 rfl rfl (of_decide_eq_true (by kernel_rfl)) (by kernel_rfl) rfl new_natc ?_
 simp only [Act.put, zP]
 refine lex_put [.int .u64 ((lo 0 : Nat) : Int), .string (hs 0)] [.int .u64 0, .string ⟨#[]⟩] 13 30 (.tmp 60) rfl (by kernel_rfl) (by simp [toG, upd]) rfl (fun w k h => put_natc _ _ _ _ w k h) ?_
 simp only [Act.put]
 refine lexG_nil ?_
 intro κ x10 hS
 replace hL0 := hL0.ghs hS [(13, [.int .u64 ((lo 0 : Nat) : Int), .string (hs 0)])] (by simp) (by intro p hp; simp only [List.mem_cons, List.not_mem_nil, or_false] at hp; rcases hp with rfl <;> exact ⟨_, by simp only [toG, upd]; rfl⟩)
 simp only [List.map_cons, List.map_nil, List.cons_append, List.nil_append] at hL0
 simp only [over_toG, over_nil, Act.put, zP]
 clear hS
 generalize κ 13 = k10_13 at *
 go_upto_region 15 with fail
 obtain ⟨α, iα, F, hF1, hF2⟩ := cls x10
 have hq0 := cls_box hF1 hL0 _ _ mZ
 simp only [zC, Nat.reduceAdd] at hq0
 refine region_qs 6 (C := fun w' => ∃ x, w' = F x) (by kernel_rfl) (by kernel_rfl) (cls_drew hF2) ?_
 simp only [zT]
 repeat (go_big_quiet_step (first | fail | (go_at_call 17; with_reducible exact cls_call hF1 hF2 HO.out _)))
 refine wpQuiet_nil ?_
 rintro wq ⟨xq, rfl⟩
 replace hL0 := hL0.call (hF1 xq)
 clear  hq0 hF2
 generalize F xq = x11 at hL0 ⊢
 clear hF1 xq iα F α
 have hA := hL0.fc
 simp only [zF, Nat.reduceAdd] at hA
 obtain ⟨x12, hput1, hP⟩ := GL.named (hL0.put 4 (w.heap.size) _ rfl [.int .u64 0, .string ⟨#[]⟩, .bool false, .int .u64 0, .string ⟨#[]⟩] rfl)
 simp only [setAll] at hput1
 simp only [List.set_cons_zero, List.set_cons_succ] at hP
 have hB1 := hP.fc
 simp only [zF, Nat.reduceAdd] at hB1
 replace hL0 := hP
 go_wp2_with fail
 exact bodyPost_ret (v := .tuple #[.agg #[.int .u64 0, .string ⟨#[]⟩, .bool false, .int .u64 0, .string ⟨#[]⟩], .int .i64 4]) (by simp [results, Tryz.results136, go_sem, hB1]) rfl ⟨rfl, hL0.bl⟩
theorem dparse_pos_t (s d p q : ByteArray) (l h m k u x y : Nat) (z e : Int) (a : Rat) (HC : RT 202 #[.string s, .string (ByteArray.mk #[45])] (.tuple #[.string d, .bool false])) (KT : World → Prop) (hKT : Keeps KT) (HU : RK KT 203 #[.string d, .string (ByteArray.mk #[46])] (.tuple #[.string p, .string q, .bool true])) (HP : RT 204 #[.string p] (.tuple #[natV h, .int .i64 0])) (HB : RT 205 #[.string q] (.tuple #[natV m, .int .i64 0])) (HT : RT 134 #[.int .i64 (k : Int)] (natV u)) (HM : RT 120 #[natV h, natV u] (natV x)) (HA : RT 71 #[natV x, natV m] (natV y)) (HJ : RT 19 #[.bool false, natV y] (intV z)) (HF : RT 122 #[intV z, natV u] (.tuple #[fracV a, .int .i64 e])) (hl : s.size = l) (h0 : decide (4096 < (l : Int)) = false) (hq : ¬ q.toList = []) (hk : q.size = k) (w : World) (kKT : KT w) :
  Calls Tryz.prog 136 #[.string s] w fun xe w' => xe = .returned (.tuple #[fracV a, .int .i64 e]) ∧ Below w.heap.size w w' := by
 have hL0 : GL w w [] := GL.start w
 replace HC := Lib.hid HC
 replace hKT := Lib.hid hKT
 replace HU := Lib.hid HU
 replace HP := Lib.hid HP
 replace HB := Lib.hid HB
 replace HT := Lib.hid HT
 replace HM := Lib.hid HM
 replace HA := Lib.hid HA
 replace HJ := Lib.hid HJ
 replace HF := Lib.hid HF
 have hq1 : (q.toList == []) = false := by simpa using hq
 have hq2 : q.toList.isEmpty = false := by simpa using hq
 obtain ⟨x1, hweq, hL0⟩ := GL.named (hL0.new rfl [.int .u64 0, .string ⟨#[]⟩, .bool false, .int .u64 0, .string ⟨#[]⟩] 34)
 go_enter Tryz.func136, Tryz.ntmps136
 go_wp2_with fail
 with_reducible refine Calls.mono (HC.out _) ?_
 rintro e x2 ⟨rfl, hb⟩
 replace hL0 := hL0.call hb
 clear hb hweq
 go_wp2_with fail
 with_reducible refine Calls.mono (HU.out _ (hKT.out.at hL0.bl kKT)) ?_
 rintro e x3 ⟨rfl, hb⟩
 replace hL0 := hL0.call hb
 clear hb
 go_wp2_with fail
 with_reducible refine Calls.mono (HP.out _) ?_
 rintro e x4 ⟨rfl, hb⟩
 replace hL0 := hL0.call hb
 clear hb
 obtain ⟨x5, hweq, hL0⟩ := GL.named (hL0.new rfl [.int .u64 ((lo h : Nat) : Int), .string (hs h)] 30)
 go_wp2_with fail
 with_reducible refine Calls.mono (HB.out _) ?_
 rintro e x6 ⟨rfl, hb⟩
 replace hL0 := hL0.call hb
 clear hb hweq
 obtain ⟨x7, hweq, hL0⟩ := GL.named (hL0.new rfl [.int .u64 ((lo m : Nat) : Int), .string (hs m)] 30)
 go_wp2_with fail
 with_reducible refine Calls.mono (HT.out _) ?_
 rintro e x8 ⟨rfl, hb⟩
 replace hL0 := hL0.call hb
 clear hb hweq
 obtain ⟨x9, hweq, hL0⟩ := GL.named (hL0.new rfl [.int .u64 ((lo u : Nat) : Int), .string (hs u)] 30)
 go_upto_region 14 with fail
 clear hweq
 refine region_gh (by kernel_rfl) (by kernel_rfl) ?_
 refine lex_seg (gl := []) 5 (by kernel_rfl) ?_
 intro α iα F hF1 hF2
 have hq := GL.seg hF1 hL0
 simp only [zC, Nat.reduceAdd] at hq
 simp only [zT]
 repeat (go_big_quiet_step (first | fail | (go_at_call 120; with_reducible exact seg_call hF2 HM.out _) | (go_at_call 71; with_reducible exact seg_call hF2 HA.out _)))
 refine wpQuiet_nil ?_
 clear hq hF1 hF2 iα F α
 refine lex_new [.int .u64 0, .string ⟨#[]⟩] 13 30 30 rfl rfl (of_decide_eq_true (by kernel_rfl)) (by kernel_rfl) rfl new_natc ?_
 simp only [Act.put, zP]
 refine lex_put [.int .u64 ((lo y : Nat) : Int), .string (hs y)] [.int .u64 0, .string ⟨#[]⟩] 13 30 (.tmp 60) rfl (by kernel_rfl) (by simp [toG, upd]) rfl (fun w k h => put_natc _ _ _ _ w k h) ?_
 simp only [Act.put]
 refine lexG_nil ?_
 intro κ x10 hS
 replace hL0 := hL0.ghs hS [(13, [.int .u64 ((lo y : Nat) : Int), .string (hs y)])] (by simp) (by intro p hp; simp only [List.mem_cons, List.not_mem_nil, or_false] at hp; rcases hp with rfl <;> exact ⟨_, by simp only [toG, upd]; rfl⟩)
 simp only [List.map_cons, List.map_nil, List.cons_append, List.nil_append] at hL0
 simp only [over_toG, over_nil, Act.put, zP]
 clear hS
 generalize κ 13 = k10_13 at *
 go_upto_region 15 with fail
 obtain ⟨α, iα, F, hF1, hF2⟩ := cls x10
 refine region_qs 6 (C := fun w' => ∃ x, w' = F x) (by kernel_rfl) (by kernel_rfl) (cls_drew hF2) ?_
 simp only [zT]
 repeat (go_big_quiet_step (first | fail))
 refine wpQuiet_nil ?_
 rintro wq ⟨xq, rfl⟩
 replace hL0 := hL0.call (hF1 xq)
 clear  hF2
 generalize F xq = x11 at hL0 ⊢
 clear hF1 xq iα F α
 go_upto_region 17 with fail
 obtain ⟨α, iα, F, hF1, hF2⟩ := cls x11
 have hq0 := cls_box hF1 hL0 _ _ mZ
 simp only [zC, Nat.reduceAdd] at hq0
 have hq1 := cls_box hF1 hL0 _ _ (mK mZ)
 simp only [zC, Nat.reduceAdd] at hq1
 refine region_qs 7 (C := fun w' => ∃ x, w' = F x) (by kernel_rfl) (by kernel_rfl) (cls_drew hF2) ?_
 simp only [zT]
 repeat (go_big_quiet_step (first | fail | (go_at_call 19; with_reducible exact cls_call hF1 hF2 HJ.out _) | (go_at_call 122; with_reducible exact cls_call hF1 hF2 HF.out _)))
 refine wpQuiet_nil ?_
 rintro wq ⟨xq, rfl⟩
 replace hL0 := hL0.call (hF1 xq)
 clear  hq0 hq1 hF2
 generalize F xq = x12 at hL0 ⊢
 clear hF1 xq iα F α
 have hA := hL0.fc
 simp only [zF, Nat.reduceAdd] at hA
 obtain ⟨x13, hput1, hP⟩ := GL.named (hL0.put 4 (w.heap.size) _ rfl [.int .u64 ((zl a.num : Nat) : Int), .string (zh a.num), .bool (zs a.num), .int .u64 ((lo (fe a) : Nat) : Int), .string (hs (fe a))] rfl)
 simp only [setAll] at hput1
 simp only [List.set_cons_zero, List.set_cons_succ] at hP
 have hB1 := hP.fc
 simp only [zF, Nat.reduceAdd] at hB1
 replace hL0 := hP
 go_wp2_with fail
 exact bodyPost_ret (v := .tuple #[fracV a, .int .i64 e]) (by simp [results, Tryz.results136, go_sem, hB1]) rfl ⟨rfl, hL0.bl⟩
theorem dparse_neg_t (s d p q : ByteArray) (l h m k u x y : Nat) (z e : Int) (a : Rat) (HC : RT 202 #[.string s, .string (ByteArray.mk #[45])] (.tuple #[.string d, .bool true])) (KT : World → Prop) (hKT : Keeps KT) (HU : RK KT 203 #[.string d, .string (ByteArray.mk #[46])] (.tuple #[.string p, .string q, .bool true])) (HP : RT 204 #[.string p] (.tuple #[natV h, .int .i64 0])) (HB : RT 205 #[.string q] (.tuple #[natV m, .int .i64 0])) (HT : RT 134 #[.int .i64 (k : Int)] (natV u)) (HM : RT 120 #[natV h, natV u] (natV x)) (HA : RT 71 #[natV x, natV m] (natV y)) (HO : RT 17 #[.int .u64 0] (natV 0)) (HJ : RT 19 #[.bool true, natV y] (intV z)) (HF : RT 122 #[intV z, natV u] (.tuple #[fracV a, .int .i64 e])) (hl : s.size = l) (h0 : decide (4096 < (l : Int)) = false) (hq : ¬ q.toList = []) (hk : q.size = k) (hy : 0 < y) (w : World) (kKT : KT w) :
  Calls Tryz.prog 136 #[.string s] w fun xe w' => xe = .returned (.tuple #[fracV a, .int .i64 e]) ∧ Below w.heap.size w w' := by
 have hL0 : GL w w [] := GL.start w
 replace HC := Lib.hid HC
 replace hKT := Lib.hid hKT
 replace HU := Lib.hid HU
 replace HP := Lib.hid HP
 replace HB := Lib.hid HB
 replace HT := Lib.hid HT
 replace HM := Lib.hid HM
 replace HA := Lib.hid HA
 replace HO := Lib.hid HO
 replace HJ := Lib.hid HJ
 replace HF := Lib.hid HF
 have hq1 : (q.toList == []) = false := by simpa using hq
 have hq2 : q.toList.isEmpty = false := by simpa using hq
 have hz := eq_zero hy
 clear hy
 rcases hz with e0 | ⟨e0, e1⟩
 all_goals (
  obtain ⟨x1, hweq, hL0⟩ := GL.named (hL0.new rfl [.int .u64 0, .string ⟨#[]⟩, .bool false, .int .u64 0, .string ⟨#[]⟩] 34)
  go_enter Tryz.func136, Tryz.ntmps136
  go_wp2_with fail
  with_reducible refine Calls.mono (HC.out _) ?_
  rintro e x2 ⟨rfl, hb⟩
  replace hL0 := hL0.call hb
  clear hb hweq
  go_wp2_with fail
  with_reducible refine Calls.mono (HU.out _ (hKT.out.at hL0.bl kKT)) ?_
  rintro e x3 ⟨rfl, hb⟩
  replace hL0 := hL0.call hb
  clear hb
  go_wp2_with fail
  with_reducible refine Calls.mono (HP.out _) ?_
  rintro e x4 ⟨rfl, hb⟩
  replace hL0 := hL0.call hb
  clear hb
  obtain ⟨x5, hweq, hL0⟩ := GL.named (hL0.new rfl [.int .u64 ((lo h : Nat) : Int), .string (hs h)] 30)
  go_wp2_with fail
  with_reducible refine Calls.mono (HB.out _) ?_
  rintro e x6 ⟨rfl, hb⟩
  replace hL0 := hL0.call hb
  clear hb hweq
  obtain ⟨x7, hweq, hL0⟩ := GL.named (hL0.new rfl [.int .u64 ((lo m : Nat) : Int), .string (hs m)] 30)
  go_wp2_with fail
  with_reducible refine Calls.mono (HT.out _) ?_
  rintro e x8 ⟨rfl, hb⟩
  replace hL0 := hL0.call hb
  clear hb hweq
  obtain ⟨x9, hweq, hL0⟩ := GL.named (hL0.new rfl [.int .u64 ((lo u : Nat) : Int), .string (hs u)] 30)
  go_upto_region 14 with fail
  clear hweq
  refine region_gh (by kernel_rfl) (by kernel_rfl) ?_
  refine lex_seg (gl := []) 5 (by kernel_rfl) ?_
  intro α iα F hF1 hF2
  have hq := GL.seg hF1 hL0
  simp only [zC, Nat.reduceAdd] at hq
  simp only [zT]
  repeat (go_big_quiet_step (first | fail | (go_at_call 120; with_reducible exact seg_call hF2 HM.out _) | (go_at_call 71; with_reducible exact seg_call hF2 HA.out _)))
  refine wpQuiet_nil ?_
  clear hq hF1 hF2 iα F α
  refine lex_new [.int .u64 0, .string ⟨#[]⟩] 13 30 30 rfl rfl (of_decide_eq_true (by kernel_rfl)) (by kernel_rfl) rfl new_natc ?_
  simp only [Act.put, zP]
  refine lex_put [.int .u64 ((lo y : Nat) : Int), .string (hs y)] [.int .u64 0, .string ⟨#[]⟩] 13 30 (.tmp 60) rfl (by kernel_rfl) (by simp [toG, upd]) rfl (fun w k h => put_natc _ _ _ _ w k h) ?_
  simp only [Act.put]
  refine lexG_nil ?_
  intro κ x10 hS
  replace hL0 := hL0.ghs hS [(13, [.int .u64 ((lo y : Nat) : Int), .string (hs y)])] (by simp) (by intro p hp; simp only [List.mem_cons, List.not_mem_nil, or_false] at hp; rcases hp with rfl <;> exact ⟨_, by simp only [toG, upd]; rfl⟩)
  simp only [List.map_cons, List.map_nil, List.cons_append, List.nil_append] at hL0
  simp only [over_toG, over_nil, Act.put, zP]
  clear hS
  generalize κ 13 = k10_13 at *
  go_upto_region 15 with fail
  obtain ⟨α, iα, F, hF1, hF2⟩ := cls x10
  have hq0 := cls_box hF1 hL0 _ _ mZ
  simp only [zC, Nat.reduceAdd] at hq0
  refine region_qs 6 (C := fun w' => ∃ x, w' = F x) (by kernel_rfl) (by kernel_rfl) (cls_drew hF2) ?_
  simp only [zT]
  repeat (go_big_quiet_step (first | fail | (go_at_call 17; with_reducible exact cls_call hF1 hF2 HO.out _)))
  refine wpQuiet_nil ?_
  rintro wq ⟨xq, rfl⟩
  replace hL0 := hL0.call (hF1 xq)
  clear  hq0 hF2
  generalize F xq = x11 at hL0 ⊢
  clear hF1 xq iα F α
  go_upto_region 17 with fail
  obtain ⟨α, iα, F, hF1, hF2⟩ := cls x11
  have hq0 := cls_box hF1 hL0 _ _ mZ
  simp only [zC, Nat.reduceAdd] at hq0
  have hq1 := cls_box hF1 hL0 _ _ (mK mZ)
  simp only [zC, Nat.reduceAdd] at hq1
  refine region_qs 7 (C := fun w' => ∃ x, w' = F x) (by kernel_rfl) (by kernel_rfl) (cls_drew hF2) ?_
  simp only [zT]
  repeat (go_big_quiet_step (first | fail | (go_at_call 19; with_reducible exact cls_call hF1 hF2 HJ.out _) | (go_at_call 122; with_reducible exact cls_call hF1 hF2 HF.out _)))
  refine wpQuiet_nil ?_
  rintro wq ⟨xq, rfl⟩
  replace hL0 := hL0.call (hF1 xq)
  clear  hq0 hq1 hF2
  generalize F xq = x12 at hL0 ⊢
  clear hF1 xq iα F α
  have hA := hL0.fc
  simp only [zF, Nat.reduceAdd] at hA
  obtain ⟨x13, hput1, hP⟩ := GL.named (hL0.put 4 (w.heap.size) _ rfl [.int .u64 ((zl a.num : Nat) : Int), .string (zh a.num), .bool (zs a.num), .int .u64 ((lo (fe a) : Nat) : Int), .string (hs (fe a))] rfl)
  simp only [setAll] at hput1
  simp only [List.set_cons_zero, List.set_cons_succ] at hP
  have hB1 := hP.fc
  simp only [zF, Nat.reduceAdd] at hB1
  replace hL0 := hP
  go_wp2_with fail
  exact bodyPost_ret (v := .tuple #[fracV a, .int .i64 e]) (by simp [results, Tryz.results136, go_sem, hB1]) rfl ⟨rfl, hL0.bl⟩)
theorem lof4_w (i j c : Int) (a : Rat) (HF : RT 47 #[.int .i64 i, .int .i64 j] (.tuple #[fracV a, .int .i64 c])) (w : World) :
  Calls Tryz.prog 54 #[.int .i64 i, .int .i64 j] w fun xe w' => xe = .returned (fracV a) ∧ Below w.heap.size w w' := by
 have hL0 : GL w w [] := GL.start w
 replace HF := Lib.hid HF
 obtain ⟨x1, hweq, hL0⟩ := GL.named (hL0.new rfl [.int .u64 0, .string ⟨#[]⟩, .bool false, .int .u64 0, .string ⟨#[]⟩] 34)
 go_enter Tryz.func54, Tryz.ntmps54
 go_wp2_with fail
 with_reducible refine Calls.mono (HF.out _) ?_
 rintro e x2 ⟨rfl, hb⟩
 replace hL0 := hL0.call hb
 clear hb hweq
 obtain ⟨x3, hweq, hL0⟩ := GL.named (hL0.new rfl [.int .u64 ((zl a.num : Nat) : Int), .string (zh a.num), .bool (zs a.num), .int .u64 ((lo (fe a) : Nat) : Int), .string (hs (fe a))] 34)
 have hA := hL0.fc
 simp only [zF, Nat.reduceAdd] at hA
 obtain ⟨x4, hput1, hP⟩ := GL.named (hL0.put 1 (w.heap.size) _ rfl [.int .u64 ((zl a.num : Nat) : Int), .string (zh a.num), .bool (zs a.num), .int .u64 ((lo (fe a) : Nat) : Int), .string (hs (fe a))] rfl)
 simp only [setAll] at hput1
 simp only [List.set_cons_zero, List.set_cons_succ] at hP
 have hB1 := hP.fc
 simp only [zF, Nat.reduceAdd] at hB1
 replace hL0 := hP
 go_wp2_with fail
 exact bodyPost_ret (v := fracV a) (by simp [results, Tryz.results54, go_sem, hB1]) rfl ⟨rfl, hL0.bl⟩
theorem ltext4_ok (a : Rat) (n v : Int) (s : ByteArray) (HT : RK Tab 58 #[fracV a, .int .i64 n, .int .i64 v] (.tuple #[.string s, .int .i64 0])) (w : World) (htab : Tab w) :
  Calls Tryz.prog 55 #[fracV a, .int .i64 n, .int .i64 v] w fun xe w' => xe = .returned (.string s) ∧ Below w.heap.size w w' := by
 have hL0 : GL w w [] := GL.start w
 replace HT := Lib.hid HT
 obtain ⟨x1, hweq, hL0⟩ := GL.named (hL0.new rfl [.int .u64 ((zl a.num : Nat) : Int), .string (zh a.num), .bool (zs a.num), .int .u64 ((lo (fe a) : Nat) : Int), .string (hs (fe a))] 34)
 go_enter Tryz.func55, Tryz.ntmps55
 have hN0 := cells_of _ 0 [] rfl (hL0.get _ _ mZ)
 simp only [zF, Nat.reduceAdd] at hN0
 go_wp2_with fail
 clear hN0
 with_reducible refine Calls.mono (HT.out _ (htab.below hL0.bl)) ?_
 rintro e x2 ⟨rfl, hb⟩
 replace hL0 := hL0.call hb
 clear hb hweq
 go_wp2_with fail
 exact bodyPost_ret (v := .string s) (by simp [results, Tryz.results55, go_sem]) rfl ⟨rfl, hL0.bl⟩
theorem lread4_ok (a : Rat) (s t : ByteArray) (KT : World → Prop) (hKT : Keeps KT) (HP : RK KT 136 #[.string s] (.tuple #[fracV a, .int .i64 0])) (HT : RK Tab 137 #[fracV a] (.string t)) (w : World) (htab : Tab w) (kKT : KT w) :
  Calls Tryz.prog 59 #[.string s] w fun xe w' => xe = .returned (.string t) ∧ Below w.heap.size w w' := by
 have hL0 : GL w w [] := GL.start w
 replace hKT := Lib.hid hKT
 replace HP := Lib.hid HP
 replace HT := Lib.hid HT
 go_enter Tryz.func59, Tryz.ntmps59
 go_wp2_with fail
 with_reducible refine Calls.mono (HP.out _ (hKT.out.at hL0.bl kKT)) ?_
 rintro e x1 ⟨rfl, hb⟩
 replace hL0 := hL0.call hb
 clear hb
 obtain ⟨x2, hweq, hL0⟩ := GL.named (hL0.new rfl [.int .u64 ((zl a.num : Nat) : Int), .string (zh a.num), .bool (zs a.num), .int .u64 ((lo (fe a) : Nat) : Int), .string (hs (fe a))] 34)
 have hN0 := cells_of _ 0 [] rfl (hL0.get _ _ mZ)
 simp only [zF, Nat.reduceAdd] at hN0
 go_wp2_with fail
 clear hN0
 with_reducible refine Calls.mono (HT.out _ (htab.below hL0.bl)) ?_
 rintro e x3 ⟨rfl, hb⟩
 replace hL0 := hL0.call hb
 clear hb hweq
 go_wp2_with fail
 exact bodyPost_ret (v := .string t) (by simp [results, Tryz.results59, go_sem]) rfl ⟨rfl, hL0.bl⟩
theorem lread4_err (a : Rat) (s : ByteArray) (c : Int) (KT : World → Prop) (hKT : Keeps KT) (HP : RK KT 136 #[.string s] (.tuple #[fracV a, .int .i64 c])) (h1 : (c != 0) = true) (w : World) (kKT : KT w) :
  Calls Tryz.prog 59 #[.string s] w fun xe w' => xe = .returned (.string (ByteArray.mk #[110, 111, 110, 101])) ∧ Below w.heap.size w w' := by
 have hL0 : GL w w [] := GL.start w
 replace hKT := Lib.hid hKT
 replace HP := Lib.hid HP
 go_enter Tryz.func59, Tryz.ntmps59
 go_wp2_with fail
 with_reducible refine Calls.mono (HP.out _ (hKT.out.at hL0.bl kKT)) ?_
 rintro e x1 ⟨rfl, hb⟩
 replace hL0 := hL0.call hb
 clear hb
 obtain ⟨x2, hweq, hL0⟩ := GL.named (hL0.new rfl [.int .u64 ((zl a.num : Nat) : Int), .string (zh a.num), .bool (zs a.num), .int .u64 ((lo (fe a) : Nat) : Int), .string (hs (fe a))] 34)
 go_wp2_with fail
 exact bodyPost_ret (v := .string (ByteArray.mk #[110, 111, 110, 101])) (by simp [results, Tryz.results59, go_sem]) rfl ⟨rfl, hL0.bl⟩
end Go.Proofs.YtaimebjkidegiaaGreatDoor
namespace Go.Proofs.YtaimebjkidegiaaGreatDoor
open Go.RowKit
open Go.Lib (decDigits)
/-- What stands before and behind the point, for a number m of units 10^-p. -/
def tailT (m p : Nat) : List UInt8 := if 0 < p then 46 :: pad p (m % 10 ^ p) else []
/-- The notation of n/10^p with p places. -/
def decT (n : Int) (p : Nat) : List UInt8 := (if n < 0 then [45] else []) ++ (decDigits (n.natAbs / 10 ^ p) ++ tailT n.natAbs p)
/-- Behind a 1 no zero is a leading one. -/
theorem one_isDec {l : List UInt8} (h : ∀ c ∈ l, isDig c) : isDec (49 :: l) := by
 refine ⟨?_, .inr ⟨by simp, by simp⟩⟩
 intro c hc
 rcases List.mem_cons.1 hc with h1 | h1
 ·subst h1; unfold isDig; decide
 ·exact h c h1
end Go.Proofs.YtaimebjkidegiaaGreatDoor
namespace Go.Proofs.YtaimebjkidegiaaGreatDoor
open Go.RowKit
open Go.Lib (decDigits)
theorem pad_full (q : Nat) : List.replicate (1 - (decDigits q).length) 48 ++ decDigits q = decDigits q := by
 have := dec_length_pos q
 rw [show 1 - (decDigits q).length = 0 by omega]; rfl
theorem notD (z : Int) (p : Nat) (hz : dI z ≤ 100000) (hp : p ≤ 100) (w : World) (htab : Tab w) :
  Calls Tryz.prog 135 #[intV z, .int .i64 (p : Int)] w fun e w' => e = .returned (.string ⟨(decT z p).toArray⟩) ∧ Below w.heap.size w w' := by
 have hpos : 0 < 10 ^ p := Nat.pow_pos (by decide)
 have hm : (digs z.natAbs).length ≤ 100000 := hz
 have hq : (digs (z.natAbs / 10 ^ p)).length ≤ 100000 := Nat.le_trans (digs_mono (Nat.div_le_self _ _)) hm
 have hr : (digs (z.natAbs % 10 ^ p)).length ≤ 100000 := Nat.le_trans (digs_mono (Nat.mod_le _ _)) hm
 have hs : sgn z < 0 ↔ z < 0 := by unfold sgn; split <;> (try split) <;> omega
 have h := dnot_w z (sgn z) p z.natAbs (10 ^ p) (z.natAbs / 10 ^ p) (z.natAbs % 10 ^ p) (if z < 0 then [45] else []) (tailT z.natAbs p) (absI z) (tensD p hp) (div_pos z.natAbs (10 ^ p) hpos (by omega)) (signI z) (by omega) (by omega) (by omega)
  (fun h => by rw [if_pos (hs.1 h)]) (fun h => by rw [if_neg (fun h2 => h (hs.2 h2))])
  (fun h => by unfold tailT; rw [if_pos h, (pad_eq p _ h (Nat.mod_lt _ hpos)).1]; rfl) (fun h => by unfold tailT; rw [if_neg h]) w htab
 rw [pad_full, List.append_assoc] at h
 exact h
theorem rndE (a : Rat) (n v : Int) (hc : rdC n v ≠ 0) (w : World) : Calls Tryz.prog 133 #[fracV a, .int .i64 n, .int .i64 v] w fun e w' => e = .returned (.tuple #[intV 0, .int .i64 (rdC n v)]) ∧ Below w.heap.size w w' := by
 rw [intV_00]
 unfold rdC at hc ⊢
 by_cases h1 : n < 0
 ·rw [if_pos h1]; exact drnd_neg a n v (decide_eq_true h1) w
 rw [if_neg h1] at hc ⊢
 by_cases h2 : 100 < n
 ·rw [if_pos h2]; exact drnd_big a n v (decide_eq_false h1) (decide_eq_true h2) w
 rw [if_neg h2] at hc ⊢
 by_cases h3 : v < 1
 ·rw [if_pos (.inl h3)]; exact drnd_way0 a n v (decide_eq_false h1) (decide_eq_false h2) (decide_eq_true h3) w
 by_cases h4 : 3 < v
 ·rw [if_pos (.inr h4)]; exact drnd_way4 a n v (decide_eq_false h1) (decide_eq_false h2) (decide_eq_false h3) (decide_eq_true h4) w
 rw [if_neg (by omega)] at hc
 exact absurd rfl hc
theorem textD (a : Rat) (p : Nat) (v : Int) (k : Nat) (ha : Sz a k) (hk : k ≤ 5000) (hp : p ≤ 100) (hv : 1 ≤ v ∧ v ≤ 3) (w : World) (htab : Tab w) :
  Calls Tryz.prog 58 #[fracV a, .int .i64 (p : Int), .int .i64 v] w fun e w' => e = .returned (.tuple #[.string ⟨(decT (toI v (a * tenQ p)) p).toArray⟩, .int .i64 0]) ∧ Below w.heap.size w w' := by
 have HT := tensD p hp
 have HI := fun w => fromI false (10 ^ p) ((10 ^ p : Nat) : Int) rfl w
 have hd : dI ((10 ^ p : Nat) : Int) ≤ 6 := by rw [dI_nat]; exact ten_d hp
 have HW := wholeD ((10 ^ p : Nat) : Int) (by omega)
 have et : (((10 ^ p : Nat) : Int) : Rat) = tenQ p := rfl
 rw [et] at HW
 have HM := mulF a (tenQ p) (k + 6) (ha.mono (by omega)) ((ten_sz hp).mono (by omega)) (by omega)
 have HN := toID (a * tenQ p) v (k + 6) (ha.mul (ten_sz hp)) (by omega) hv
 have HR := drnd_ok a _ _ (p : Int) v _ _ _ HT HI HW HM HN (decide_eq_false (by omega)) (decide_eq_false (by omega)) (decide_eq_false (by omega)) (decide_eq_false (by omega))
 have hz := toI_d v (ha.mul (ten_sz hp))
 exact dtext_ok a (p : Int) v _ _ HR (notD _ p (by omega) hp) w htab
theorem textE (a : Rat) (n v : Int) (hc : rdC n v ≠ 0) (w : World) :
  Calls Tryz.prog 58 #[fracV a, .int .i64 n, .int .i64 v] w fun e w' => e = .returned (.tuple #[.string ⟨#[]⟩, .int .i64 (rdC n v)]) ∧ Below w.heap.size w w' :=
 dtext_err a n v 0 (rdC n v) (rndE a n v hc) (by simpa using hc) w
theorem dval_d {l : List UInt8} (h : ∀ c ∈ l, isDig c) : (digs (dval l)).length ≤ l.length :=
 digs_length_iff.2 (Nat.lt_of_lt_of_le (dval_lt h) (Nat.pow_le_pow_left (by unfold Bs; decide) _))
theorem behD (a : List UInt8) (ha : ∀ c ∈ a, isDig c) (hl : a.length ≤ 100) (w : World) :
  Calls Tryz.prog 205 #[.string ⟨a.toArray⟩] w fun e w' => e = .returned (.tuple #[natV (dval a), .int .i64 0]) ∧ Below w.heap.size w w' := by
 have hv : dval (49 :: a) = 10 ^ a.length + dval a := by
  have := dval_append [49] a
  rw [show dval [49] = 1 from rfl, Nat.one_mul] at this
  exact this
 have HP := parse_ok (49 :: a) (by simp; omega) (one_isDec ha)
 have h49 : ∀ c ∈ (49 :: a), isDig c := (one_isDec ha).1
 have hd := dval_d h49
 rw [hv] at HP hd
 have HS := fun w => sub_ge (10 ^ a.length + dval a) (10 ^ a.length) (Nat.le_add_right _ _) (Nat.le_trans hd (by simp; omega)) w
 rw [Nat.add_sub_cancel_left] at HS
 exact dbeh_ok ⟨a.toArray⟩ (st (49 :: a)) _ a.length _ _ _ HP (tensD a.length hl) HS (by show (⟨[49].toArray⟩ : ByteArray) ++ ⟨a.toArray⟩ = _; rw [ByteArray.mk_append_mk]; rfl) (by simp [ByteArray.size]) (by omega) (by omega) (by omega) w
/-- What CutPrefix finds. -/
def Sgn (g : Bool) (l d : List UInt8) : Prop := (g = true ∧ l = 45 :: d) ∨ (g = false ∧ l = d ∧ l.head? ≠ some 45)
theorem Sgn.le {g : Bool} {l d : List UInt8} (h : Sgn g l d) : d.length ≤ l.length := by
 rcases h with ⟨_, rfl⟩ | ⟨_, rfl, _⟩
 ·simp
 ·exact Nat.le_refl _
theorem cpD (g : Bool) (l d : List UInt8) (h : Sgn g l d) (w : World) :
  Calls Tryz.prog 202 #[.string ⟨l.toArray⟩, .string (ByteArray.mk #[45])] w fun e w' => e = .returned (.tuple #[.string ⟨d.toArray⟩, .bool g]) ∧ Below w.heap.size w w' := by
 refine (Tryz.strings_CutPrefix ⟨l.toArray⟩ (ByteArray.mk #[45]) w).mono ?_
 rintro e w' ⟨rfl, rfl⟩
 refine ⟨?_, Below.refl _ _⟩
 rcases h with ⟨rfl, rfl⟩ | ⟨rfl, rfl, h⟩
 ·simp [Lib.trimPrefix, Lib.hasPrefix]
 ·have : Lib.hasPrefix l [45] = false := by
   unfold Lib.hasPrefix
   cases l with
   | nil => rfl
   | cons c r => simp at h; simp [List.isPrefixOf, Ne.symm h]
  simp [Lib.trimPrefix, this]
theorem cutD (d p q : List UInt8) (f : Bool) (hl : d.length ≤ 4096) (h : Lib.cut d [46] = (p, q, f)) (w : World) (hm : MaxL w) :
  Calls Tryz.prog 203 #[.string ⟨d.toArray⟩, .string (ByteArray.mk #[46])] w fun xe w' => xe = .returned (.tuple #[.string ⟨p.toArray⟩, .string ⟨q.toArray⟩, .bool f]) ∧ Below w.heap.size w w' := by
 obtain ⟨m, hm⟩ := hm
 have h1 := Tryz.strings_Cut ⟨d.toArray⟩ (ByteArray.mk #[46]) m w (by simp [ByteArray.size]; omega) hm
 rw [show (ByteArray.mk #[46]).data.toList = [46] from rfl, show (ByteArray.mk d.toArray).data.toList = d by simp, h] at h1
 exact h1.mono fun xe w' ⟨h1, n, h2⟩ => ⟨h1, by rw [h2]; exact ⟨rfl, rfl, rfl, Nat.le_refl _, fun _ _ => rfl⟩⟩
theorem ne_list {a : List UInt8} (h : a ≠ []) : ¬ (ByteArray.mk a.toArray).toList = [] := by
 rw [ByteArray.toList_eq]; simpa using h
theorem parse_in (f g : Bool) (l d p q : List UInt8) (hg : Sgn g l d) (hc : Lib.cut d [46] = (p, q, f)) (hp : isDec p) (hq : ∀ c ∈ q, isDig c) (hf : f = true → q ≠ []) (hl : l.length ≤ 4096) (hpl : p.length ≤ 4096) (hk : q.length ≤ 100) (h0 : g = true → dval p * 10 ^ q.length + dval q ≠ 0) (w : World) (hM : MaxL w) :
  Calls Tryz.prog 136 #[.string ⟨l.toArray⟩] w fun e w' => e = .returned (.tuple #[fracV (mkRat (if g then -((dval p * 10 ^ q.length + dval q : Nat) : Int) else ((dval p * 10 ^ q.length + dval q : Nat) : Int)) (10 ^ q.length)), .int .i64 0]) ∧ Below w.heap.size w w' := by
 have hdl := hg.le
 have hpq : ∀ c ∈ p ++ q, isDig c := fun c h => (List.mem_append.1 h).elim (hp.1 c) (hq c)
 have hy := dval_d hpq
 rw [dval_append, List.length_append] at hy
 have hx : (digs (dval p * 10 ^ q.length)).length ≤ p.length + q.length := Nat.le_trans (digs_mono (Nat.le_add_right _ _)) hy
 have hp1 := dval_d hp.1
 have hq1 := dval_d hq
 have hu := ten_d hk
 have HC := cpD g l d hg
 have HU := cutD d p q f (by omega) hc
 have HP := parse_ok p hpl hp
 have HB := behD q hq hk
 have HT := tensD q.length hk
 have HM := fun w => mul_any (dval p) (10 ^ q.length) (by omega) (by omega) w
 have HA := fun w => add_any (dval p * 10 ^ q.length) (dval q) (by omega) (by omega) w
 have HJ := fun w => fromI g (dval p * 10 ^ q.length + dval q) _ rfl w
 have hpos : 10 ^ q.length ≠ 0 := Nat.ne_of_gt (Nat.pow_pos (by decide))
 obtain ⟨y, hye⟩ : ∃ y, y = dval p * 10 ^ q.length + dval q := ⟨_, rfl⟩
 rw [← hye] at HA HJ hy h0 ⊢
 obtain ⟨z, hz⟩ : ∃ z : Int, z = if g then -(y : Int) else (y : Int) := ⟨_, rfl⟩
 rw [← hz] at HJ ⊢
 have hzd : dI z ≤ 5000 := by
  have : z.natAbs = y := by rw [hz]; split <;> omega
  unfold dI; rw [this]; omega
 have HF := fun w => fromF z (10 ^ q.length) hpos (by omega) (by omega) w
 have hs : (ByteArray.mk l.toArray).size = l.length := by simp [ByteArray.size]
 have hs2 : (ByteArray.mk q.toArray).size = q.length := by simp [ByteArray.size]
 have d0 : decide (4096 < (l.length : Int)) = false := decide_eq_false (by omega)
 have HO := of_val 0 0 rfl (by unfold Bs; omega)
 have HP2 : ∀ w, Calls Tryz.prog 204 #[.string ⟨p.toArray⟩] w fun e w' => e = .returned (.tuple #[natV (dval p), .int .i64 0]) ∧ Below w.heap.size w w' := HP
 cases f <;> cases g
 ·exact dparse_pos_f _ _ _ _ _ _ _ _ _ _ _ _ _ _ HC MaxL MaxL.keeps HU HP2 HB HT HM HA HJ HF hs d0 hs2 w hM
 ·exact dparse_neg_f _ _ _ _ _ _ _ _ _ _ _ _ _ _ HC MaxL MaxL.keeps HU HP2 HB HT HM HA HO HJ HF hs d0 hs2 (Nat.pos_of_ne_zero (h0 rfl)) w hM
 ·exact dparse_pos_t _ _ _ _ _ _ _ _ _ _ _ _ _ _ HC MaxL MaxL.keeps HU HP2 HB HT HM HA HJ HF hs d0 (ne_list (hf rfl)) hs2 w hM
 ·exact dparse_neg_t _ _ _ _ _ _ _ _ _ _ _ _ _ _ HC MaxL MaxL.keeps HU HP2 HB HT HM HA HO HJ HF hs d0 (ne_list (hf rfl)) hs2 (Nat.pos_of_ne_zero (h0 rfl)) w hM
theorem parse_zin (f : Bool) (l d p q : List UInt8) (hg : Sgn true l d) (hc : Lib.cut d [46] = (p, q, f)) (hp : isDec p) (hq : ∀ c ∈ q, isDig c) (hf : f = true → q ≠ []) (hl : l.length ≤ 100) (hpl : p.length ≤ 4096) (hk : q.length ≤ 100) (h0 : dval p * 10 ^ q.length + dval q = 0) (w : World) (hM : MaxL w) :
  Calls Tryz.prog 136 #[.string ⟨l.toArray⟩] w fun e w' => e = .returned (.tuple #[.agg #[.int .u64 0, .string ⟨#[]⟩, .bool false, .int .u64 0, .string ⟨#[]⟩], .int .i64 4]) ∧ Below w.heap.size w w' := by
 have hdl := hg.le
 have hp1 := dval_d hp.1
 have hq1 := dval_d hq
 have hu := ten_d hk
 have HC := cpD true l d hg
 have HU := cutD d p q f (by omega) hc
 have HP : ∀ w, Calls Tryz.prog 204 #[.string ⟨p.toArray⟩] w fun e w' => e = .returned (.tuple #[natV (dval p), .int .i64 0]) ∧ Below w.heap.size w w' := parse_ok p hpl hp
 have HB := behD q hq hk
 have HT := tensD q.length hk
 have HM := fun w => mul_any (dval p) (10 ^ q.length) (by omega) (by omega) w
 have hxz : dval p * 10 ^ q.length = 0 := by omega
 have HA := fun w => add_any (dval p * 10 ^ q.length) (dval q) (by rw [hxz, digs_zero]; simp) (by omega) w
 rw [h0] at HA
 have hs : (ByteArray.mk l.toArray).size = l.length := by simp [ByteArray.size]
 have hs2 : (ByteArray.mk q.toArray).size = q.length := by simp [ByteArray.size]
 have d0 : decide (4096 < (l.length : Int)) = false := decide_eq_false (by omega)
 have HO := of_val 0 0 rfl (by unfold Bs; omega)
 cases f
 ·exact dparse_zero_f _ _ _ _ _ _ _ _ _ _ HC MaxL MaxL.keeps HU HP HB HT HM HA HO hs d0 hs2 w hM
 ·exact dparse_zero_t _ _ _ _ _ _ _ _ _ _ HC MaxL MaxL.keeps HU HP HB HT HM HA HO hs d0 (ne_list (hf rfl)) hs2 w hM
theorem zeroF : (Value.agg #[.int .u64 0, .string ⟨#[]⟩, .bool false, .int .u64 0, .string ⟨#[]⟩]) = fracV 0 := frV_q0'.symm
end Go.Proofs.YtaimebjkidegiaaGreatDoor
namespace Go.Proofs.YtaimebjkidegiaaGreatDoor
open Go.RowKit
/-- What Cycle answers for a denominator D. -/
def CycA (D : Nat) (m n c : Int) : Prop :=
 (∃ k : Nat, Lead D k ∧ k ≤ 100 ∧ Eden D k = 1 ∧ m = k ∧ n = 0 ∧ c = 0) ∨
 (∃ k j : Nat, Lead D k ∧ k ≤ 100 ∧ Eden D k ≠ 1 ∧ 1 ≤ j ∧ k + j ≤ 100 ∧ 10 ^ j % Eden D k = 1 ∧ (∀ i, 1 ≤ i → i < j → 10 ^ i % Eden D k ≠ 1) ∧ m = k ∧ n = j ∧ c = 0) ∨
 (∃ k : Nat, Lead D k ∧ k ≤ 100 ∧ Eden D k ≠ 1 ∧ (∀ i, 1 ≤ i → k + i ≤ 100 → 10 ^ i % Eden D k ≠ 1) ∧ m = 0 ∧ n = 0 ∧ c = 3) ∨
 ((∀ i, i ≤ 100 → Nat.gcd (Eden D i) 10 ≠ 1) ∧ m = 0 ∧ n = 0 ∧ c = 3)
theorem leadD (D k : Nat) (hsz : (digs D).length ≤ 1000000) (hk : Lead D k) (h100 : k ≤ 100) (w : World) :
  Calls Tryz.prog 44 #[natV D] w fun e w' => e = .returned (.tuple #[.int .i64 (k : Int), natV (Eden D k)]) ∧ Below w.heap.size w w' :=
 dlead_w D _ ten_o one_o hsz (fun i d hi hd hg hb => by
  have : k = i := Lead.uniq hk ⟨by rw [← hd]; exact hg, hb⟩
  subst this; rw [hd]) (fun h => absurd hk.one (h k h100)) w
theorem wrap_100 (k : Nat) (h : k ≤ 100) : IntKind.i64.wrap (100 - (k : Int)) = ((100 - k : Nat) : Int) ∧ wrap64 (100 - (k : Int)) = ((100 - k : Nat) : Int) := by
 have e : (100 - (k : Int)) = ((100 - k : Nat) : Int) := by omega
 rw [e]
 refine ⟨?_, by unfold wrap64; omega⟩
 simp only [IntKind.wrap, IntKind.signed, IntKind.bits]
 simp
 omega
theorem cycD (a : Rat) (k : Nat) (ha : Sz a k) (hk : k ≤ 1000000) (m n c : Int) (h : CycA a.den m n c) (w : World) :
  Calls Tryz.prog 10 #[fracV a] w fun e w' => e = .returned (.tuple #[.int .i64 m, .int .i64 n, .int .i64 c]) ∧ Below w.heap.size w w' := by
 have hsz : (digs a.den).length ≤ 1000000 := Nat.le_trans ha.2 hk
 have hpos : 0 < a.den := a.den_pos
 have he : ∀ i, (digs (Eden a.den i)).length ≤ 1000000 := fun i => Nat.le_trans (digs_mono (Eden_le i)) hsz
 have h1 : ∀ {i : Nat}, Eden a.den i ≠ 1 → 1 < Eden a.den i := fun {i} h => by have := Eden_pos hpos i; omega
 rcases h with ⟨i, hl, hi, h1', rfl, rfl, rfl⟩ | ⟨i, j, hl, hi, hne, hj1, hj2, hr, hb, rfl, rfl, rfl⟩ | ⟨i, hl, hi, hne, hb, rfl, rfl, rfl⟩ | ⟨hb, rfl, rfl, rfl⟩
 ·have HL := leadD a.den i hsz hl hi
  rw [h1'] at HL
  exact dcyc_end a a.den (i : Int) (denF a) HL one_o (decide_eq_false (by omega)) w
 ·have HP := dper_w (Eden a.den i) (100 - i) (.tuple #[.int .i64 (j : Int), .bool true]) ten_o one_o (he i) (h1 hne) (by omega) (fun k q1 q2 q3 q4 => by
   have : k = j := by
    rcases Nat.lt_trichotomy k j with q | q | q
    ·exact absurd q3 (hb k q1 q)
    ·exact q
    ·exact absurd hr (q4 j hj1 q)
   rw [this]) (fun q => absurd hr (q j hj1 (by omega)))
  exact dcyc_round a a.den _ (i : Int) _ (j : Int) (denF a) (leadD a.den i hsz hl hi) one_o HP (decide_eq_false (by omega)) (wrap_100 i hi).1 (wrap_100 i hi).2 hne w
 ·have HP := dper_w (Eden a.den i) (100 - i) (.tuple #[.int .i64 0, .bool false]) ten_o one_o (he i) (h1 hne) (by omega) (fun k q1 q2 q3 q4 => absurd q3 (hb k q1 (by omega))) (fun q => rfl)
  exact dcyc_none a a.den _ (i : Int) _ 0 (denF a) (leadD a.den i hsz hl hi) one_o HP (decide_eq_false (by omega)) (wrap_100 i hi).1 (wrap_100 i hi).2 hne w
 ·have HL := dlead_w a.den (.tuple #[.int .i64 101, natV (Eden a.den 101)]) ten_o one_o hsz (fun i d hi hd hg _ => absurd (by rw [← hd]; exact hg) (hb i hi)) (fun _ => rfl)
  exact dcyc_far a a.den _ 101 (denF a) HL (by decide) w
theorem least (P : Nat → Prop) : ∀ n, P n → ∃ k, k ≤ n ∧ P k ∧ ∀ j, j < k → ¬ P j := by
 intro n
 induction n using Nat.strongRecOn with
 | ind n ih =>
  intro hn
  by_cases h : ∃ j, j < n ∧ P j
  ·obtain ⟨j, hj, hp⟩ := h
   obtain ⟨k, hk, r⟩ := ih j hj hp
   exact ⟨k, by omega, r⟩
  ·exact ⟨n, Nat.le_refl _, hn, fun j hj hp => h ⟨j, hj, hp⟩⟩
/-- There is an answer for every denominator. -/
theorem cycA_ex (D : Nat) : ∃ m n c, CycA D m n c := by
 by_cases h : ∃ i, i ≤ 100 ∧ Nat.gcd (Eden D i) 10 = 1
 ·obtain ⟨i, hi, hg⟩ := h
  obtain ⟨k, hk, hone, hbef⟩ := least (fun i => Nat.gcd (Eden D i) 10 = 1) i hg
  have hl : Lead D k := ⟨hone, hbef⟩
  by_cases h1 : Eden D k = 1
  ·exact ⟨_, _, _, .inl ⟨k, hl, by omega, h1, rfl, rfl, rfl⟩⟩
  ·by_cases h2 : ∃ j, 1 ≤ j ∧ k + j ≤ 100 ∧ 10 ^ j % Eden D k = 1
   ·obtain ⟨j, j1, j2, j3⟩ := h2
    obtain ⟨t, ht, ⟨t1, t2⟩, t3⟩ := least (fun j => 1 ≤ j ∧ 10 ^ j % Eden D k = 1) j ⟨j1, j3⟩
    exact ⟨_, _, _, .inr (.inl ⟨k, t, hl, by omega, h1, t1, by omega, t2, fun i a b c => t3 i b ⟨a, c⟩, rfl, rfl, rfl⟩)⟩
   ·exact ⟨_, _, _, .inr (.inr (.inl ⟨k, hl, by omega, h1, fun i a b c => h2 ⟨i, a, b, c⟩, rfl, rfl, rfl⟩))⟩
 ·exact ⟨0, 0, 3, .inr (.inr (.inr ⟨fun i hi hg => h ⟨i, hi, hg⟩, rfl, rfl, rfl⟩))⟩
end Go.Proofs.YtaimebjkidegiaaGreatDoor
namespace Go.Proofs.YtaimebjkidegiaaGreatDoor
open Go.RowKit
/-- Up to n no remainder is 0 and none returns. -/
def Fresh (rem : Nat → Nat) (n : Nat) : Prop := ∀ m, m < n → rem m ≠ 0 ∧ ∀ i, i < m → rem i ≠ rem m
theorem cyc_zero (a D : Nat) (h0 : 0 < D) (hc : Nat.Coprime a D) (x y c : Int) (h : CycA D x y c) (n : Nat) (hn : n ≤ 100) (hz : remN a D n = 0) (hf : Fresh (remN a D) n) : x = n ∧ y = 0 ∧ c = 0 := by
 have hd := (rem_zero hc).1 hz
 rcases h with ⟨k, hl, hk, h1, rfl, rfl, rfl⟩ | ⟨k, j, hl, hk, h1, hj, hkj, hr, hb, rfl, rfl, rfl⟩ | ⟨k, hl, hk, h1, hb, rfl, rfl, rfl⟩ | ⟨hb, rfl, rfl, rfl⟩
 ·have hle := ((Lead.ends h0 hl n).1 hd).1
  have hkz : remN a D k = 0 := (rem_zero hc).2 ((Lead.ends h0 hl k).2 ⟨Nat.le_refl _, h1⟩)
  rcases Nat.lt_or_ge k n with q | q
  ·exact absurd hkz (hf k q).1
  ·obtain rfl : k = n := by omega
   exact ⟨rfl, rfl, rfl⟩
 ·exact absurd ((Lead.ends h0 hl n).1 hd).2 h1
 ·exact absurd ((Lead.ends h0 hl n).1 hd).2 h1
 ·exact absurd hd ((no_lead h0 hb).1 n hn)
theorem cyc_back (a D : Nat) (h0 : 0 < D) (hc : Nat.Coprime a D) (x y c : Int) (h : CycA D x y c) (n i : Nat) (hn : n ≤ 100) (hi : i < n) (hf : Fresh (remN a D) n) (hs : remN a D i = remN a D n) : x = i ∧ y = (n : Int) - i ∧ c = 0 := by
 have hd := (rem_same hc (Nat.le_of_lt hi)).1 hs
 rcases h with ⟨k, hl, hk, h1, rfl, rfl, rfl⟩ | ⟨k, j, hl, hk, h1, hj, hkj, hr, hb, rfl, rfl, rfl⟩ | ⟨k, hl, hk, h1, hb, rfl, rfl, rfl⟩ | ⟨hb, rfl, rfl, rfl⟩
 ·have hle := ((Lead.round h0 hl i (n - i) (by omega)).1 hd).1
  have hkz : remN a D k = 0 := (rem_zero hc).2 ((Lead.ends h0 hl k).2 ⟨Nat.le_refl _, h1⟩)
  exact absurd hkz (hf k (by omega)).1
 ·have h1' : 1 < Eden D k := by have := Eden_pos h0 k; omega
  obtain ⟨hle, hdv⟩ := (Lead.round h0 hl i (n - i) (by omega)).1 hd
  have hge : j ≤ n - i := by
   rcases Nat.lt_or_ge (n - i) j with q | q
   ·exact absurd ((rest_one h1').2 hdv) (hb (n - i) (by omega) q)
   ·exact q
  have hks : remN a D k = remN a D (k + j) := (rem_same hc (by omega)).2 (by
   rw [Nat.add_sub_cancel_left]
   exact (Lead.round h0 hl k j (by omega)).2 ⟨Nat.le_refl _, (rest_one h1').1 hr⟩)
  rcases Nat.lt_or_ge (k + j) n with q | q
  ·exact absurd hks ((hf (k + j) q).2 k (by omega))
  ·obtain rfl : i = k := by omega
   exact ⟨rfl, by omega, rfl⟩
 ·have h1' : 1 < Eden D k := by have := Eden_pos h0 k; omega
  obtain ⟨hle, hdv⟩ := (Lead.round h0 hl i (n - i) (by omega)).1 hd
  exact absurd ((rest_one h1').2 hdv) (hb (n - i) (by omega) (by omega))
 ·exact absurd hd ((no_lead h0 hb).2 i (n - i) (by omega) (by omega))
theorem cyc_never (a D : Nat) (h0 : 0 < D) (hc : Nat.Coprime a D) (x y c : Int) (h : CycA D x y c) (hf : Fresh (remN a D) 101) : x = 0 ∧ y = 0 ∧ c = 3 := by
 rcases h with ⟨k, hl, hk, h1, rfl, rfl, rfl⟩ | ⟨k, j, hl, hk, h1, hj, hkj, hr, hb, rfl, rfl, rfl⟩ | ⟨k, hl, hk, h1, hb, rfl, rfl, rfl⟩ | ⟨hb, rfl, rfl, rfl⟩
 ·exact absurd ((rem_zero hc).2 ((Lead.ends h0 hl k).2 ⟨Nat.le_refl _, h1⟩)) (hf k (by omega)).1
 ·have h1' : 1 < Eden D k := by have := Eden_pos h0 k; omega
  have hks : remN a D k = remN a D (k + j) := (rem_same hc (by omega)).2 (by
   rw [Nat.add_sub_cancel_left]
   exact (Lead.round h0 hl k j (by omega)).2 ⟨Nat.le_refl _, (rest_one h1').1 hr⟩)
  exact absurd hks ((hf (k + j) (by omega)).2 k (by omega))
 ·exact ⟨rfl, rfl, rfl⟩
 ·exact ⟨rfl, rfl, rfl⟩
theorem Fresh.next {rem : Nat → Nat} {n : Nat} (h : Fresh rem n) (h1 : rem n ≠ 0) (h2 : ∀ i, i < n → rem i ≠ rem n) : Fresh rem (n + 1) := fun m hm => by
 rcases Nat.lt_or_ge m n with q | q
 ·exact h m q
 ·obtain rfl : m = n := by omega
  exact ⟨h1, h2⟩
theorem Fresh.zero (rem : Nat → Nat) : Fresh rem 0 := fun m hm => absurd hm (Nat.not_lt_zero _)
end Go.Proofs.YtaimebjkidegiaaGreatDoor
namespace Go.Proofs.YtaimebjkidegiaaGreatDoor
open Go.RowKit Go.Proofs.YtaimebjkidegiaaGreatDoor.Rx
attribute [local irreducible] lo hs sm s64 c64 d64 b64 mh ml pd pc qd qc val hiB str cmpI srD lz nb isq decB zl zh zs dval tln
theorem rzof_neg (v b c d g z : Int) (n : Nat) (HO : ∀ (w : World), Calls Tryz.prog 52 #[.int .u64 g] w fun e w' => ∃ pv, e = .returned pv ∧ Rn w' pv n ∧ Below w.heap.size w w') (HF : ∀ (p1 : Value) (w : World), Rn w p1 n → Calls Tryz.prog 193 #[.bool true, p1] w fun e w' => ∃ pv, e = .returned pv ∧ RZ w' pv z ∧ Below w.heap.size w w') (h0 : decide (v < 0) = true) (h1 : IntKind.i64.wrap (v + 1) = b) (h2 : IntKind.i64.wrap (-b) = c) (h3 : IntKind.u64.wrap c = d) (h4 : IntKind.u64.wrap (d + 1) = g) (w : World) :
  Calls Tryz.prog 194 #[.int .i64 v] w fun e w' => ∃ pv, e = .returned pv ∧ RZ w' pv z ∧ Below w.heap.size w w' := by
 replace HO := Lib.hid HO
 replace HF := Lib.hid HF
 have hL0 : GL w w [] := GL.start w
 have hS : SS w [] := SS.nil w
 obtain ⟨x1, hweq, hL0, hS⟩ := GL.named2 (hL0.new rfl [.bool false, .slice none 0 0] 40) (hS.new (.cells #[.bool false, .slice none 0 0] 40))
 go_enter Tryz.func194, Tryz.ntmps194
 go_wp2_with fail
 with_reducible refine Calls.mono (HO.out _) ?_
 rintro e x2 ⟨v0, rfl, q0, hb⟩
 replace hL0 := hL0.call hb
 replace hS := hS.call hb
 clear hb hweq
 obtain ⟨g1, d1, rfl⟩ := rn_form q0
 replace hS := hS.cons q0
 clear q0
 go_wp2_with fail
 with_reducible refine Calls.mono (HF.out (.slice g1 (tln n) d1) _ (hS.get mZ)) ?_
 rintro e x3 ⟨v0, rfl, q0, hb⟩
 replace hL0 := hL0.call hb
 replace hS := hS.call hb
 clear hb
 obtain ⟨g2, d2, rfl⟩ := rz_form q0
 replace hS := hS.cons (rz_rn q0)
 clear q0
 have hS1 := hS.put (((Upd.refl w.heap.size x3).setCell 0 (.bool (zs z))).setCell 1 (.slice g2 (tln z.natAbs) d2)) (hL0.get _ _ mZ) (by intro v hv n; simp only [List.mem_cons, List.not_mem_nil, or_false] at hv; rcases hv with rfl | rfl <;> simp)
 have hA := hL0.fc
 simp only [zF, Nat.reduceAdd] at hA
 have hP := hL0.put 0 (w.heap.size) _ rfl [.bool (zs z), .slice g2 (tln z.natAbs) d2] rfl
 simp only [setAll, List.set_cons_zero, List.set_cons_succ] at hP
 generalize hput1 : ((x3.setCell ⟨w.heap.size, 0, none⟩ (.bool (zs z))).setCell ⟨w.heap.size, 1, none⟩ (.slice g2 (tln z.natAbs) d2)) = x4 at hP hS1
 have hB1 := hP.fc
 simp only [zF, Nat.reduceAdd] at hB1
 replace hL0 := hP
 replace hS := hS1
 clear hS1
 go_wp2_with fail
 exact bodyPost_ret (v := .agg #[.bool (zs z), .slice g2 (tln z.natAbs) d2]) (by simp [results, Tryz.results194, go_sem, hB1]) rfl ⟨_, rfl, (rz_of (hS.get mZ)), hL0.bl⟩
theorem rzof_pos (v d z : Int) (n : Nat) (HO : ∀ (w : World), Calls Tryz.prog 52 #[.int .u64 d] w fun e w' => ∃ pv, e = .returned pv ∧ Rn w' pv n ∧ Below w.heap.size w w') (HF : ∀ (p1 : Value) (w : World), Rn w p1 n → Calls Tryz.prog 193 #[.bool false, p1] w fun e w' => ∃ pv, e = .returned pv ∧ RZ w' pv z ∧ Below w.heap.size w w') (h0 : decide (v < 0) = false) (h3 : IntKind.u64.wrap v = d) (w : World) :
  Calls Tryz.prog 194 #[.int .i64 v] w fun e w' => ∃ pv, e = .returned pv ∧ RZ w' pv z ∧ Below w.heap.size w w' := by
 replace HO := Lib.hid HO
 replace HF := Lib.hid HF
 have hL0 : GL w w [] := GL.start w
 have hS : SS w [] := SS.nil w
 obtain ⟨x1, hweq, hL0, hS⟩ := GL.named2 (hL0.new rfl [.bool false, .slice none 0 0] 40) (hS.new (.cells #[.bool false, .slice none 0 0] 40))
 go_enter Tryz.func194, Tryz.ntmps194
 go_wp2_with fail
 with_reducible refine Calls.mono (HO.out _) ?_
 rintro e x2 ⟨v0, rfl, q0, hb⟩
 replace hL0 := hL0.call hb
 replace hS := hS.call hb
 clear hb hweq
 obtain ⟨g1, d1, rfl⟩ := rn_form q0
 replace hS := hS.cons q0
 clear q0
 go_wp2_with fail
 with_reducible refine Calls.mono (HF.out (.slice g1 (tln n) d1) _ (hS.get mZ)) ?_
 rintro e x3 ⟨v0, rfl, q0, hb⟩
 replace hL0 := hL0.call hb
 replace hS := hS.call hb
 clear hb
 obtain ⟨g2, d2, rfl⟩ := rz_form q0
 replace hS := hS.cons (rz_rn q0)
 clear q0
 have hS1 := hS.put (((Upd.refl w.heap.size x3).setCell 0 (.bool (zs z))).setCell 1 (.slice g2 (tln z.natAbs) d2)) (hL0.get _ _ mZ) (by intro v hv n; simp only [List.mem_cons, List.not_mem_nil, or_false] at hv; rcases hv with rfl | rfl <;> simp)
 have hA := hL0.fc
 simp only [zF, Nat.reduceAdd] at hA
 have hP := hL0.put 0 (w.heap.size) _ rfl [.bool (zs z), .slice g2 (tln z.natAbs) d2] rfl
 simp only [setAll, List.set_cons_zero, List.set_cons_succ] at hP
 generalize hput1 : ((x3.setCell ⟨w.heap.size, 0, none⟩ (.bool (zs z))).setCell ⟨w.heap.size, 1, none⟩ (.slice g2 (tln z.natAbs) d2)) = x4 at hP hS1
 have hB1 := hP.fc
 simp only [zF, Nat.reduceAdd] at hB1
 replace hL0 := hP
 replace hS := hS1
 clear hS1
 go_wp2_with fail
 exact bodyPost_ret (v := .agg #[.bool (zs z), .slice g2 (tln z.natAbs) d2]) (by simp [results, Tryz.results194, go_sem, hB1]) rfl ⟨_, rfl, (rz_of (hS.get mZ)), hL0.bl⟩
end Go.Proofs.YtaimebjkidegiaaGreatDoor
namespace Go.Proofs.YtaimebjkidegiaaGreatDoor
open Go.RowKit Go.Proofs.YtaimebjkidegiaaGreatDoor.Rx
def fd (q : Rat) : Nat := q.den - 1
attribute [local irreducible] lo hs sm s64 c64 d64 b64 mh ml pd pc qd qc val hiB str cmpI srD lz nb isq decB zl zh zs dval tln fd
/-- A fraction of the reference: its numerator, and its denominator minus 1. -/
def RF (w : World) (v : Value) (q : Rat) : Prop := ∃ a b, v = .agg #[.bool (zs q.num), a, b] ∧ Rn w a q.num.natAbs ∧ Rn w b (fd q)
abbrev PF (q : Rat) : Value → World → Prop := fun u w => RF w u q
theorem RF.below {w w' : World} {v : Value} {q : Rat} (h : RF w v q) (hb : Below w.heap.size w w') : RF w' v q := by
 obtain ⟨a, b, h1, h2, h3⟩ := h
 exact ⟨a, b, h1, Sl.below h2 hb, Sl.below h3 hb⟩
theorem rf_form {w : World} {v : Value} {q : Rat} (h : RF w v q) : ∃ a c b d, v = .agg #[.bool (zs q.num), .slice a (tln q.num.natAbs) c, .slice b (tln (fd q)) d] := by
 obtain ⟨s, t, rfl, h2, h3⟩ := h
 obtain ⟨a, c, rfl⟩ := rn_form h2
 obtain ⟨b, d, rfl⟩ := rn_form h3
 exact ⟨a, c, b, d, rfl⟩
theorem rf_rn1 {w : World} {x s t : Value} {q : Rat} (h : RF w (.agg #[x, s, t]) q) : Rn w s q.num.natAbs := by
 obtain ⟨a, b, e, h2, h3⟩ := h
 simp only [Value.agg.injEq, Array.mk.injEq, List.cons.injEq, and_true] at e
 rw [e.2.1]; exact h2
theorem rf_rn2 {w : World} {x s t : Value} {q : Rat} (h : RF w (.agg #[x, s, t]) q) : Rn w t (fd q) := by
 obtain ⟨a, b, e, h2, h3⟩ := h
 simp only [Value.agg.injEq, Array.mk.injEq, List.cons.injEq, and_true] at e
 rw [e.2.2]; exact h3
theorem rf_of {w : World} {s t : Value} {q : Rat} (h1 : Rn w s q.num.natAbs) (h2 : Rn w t (fd q)) : RF w (.agg #[.bool (zs q.num), s, t]) q := ⟨s, t, rfl, h1, h2⟩
theorem stays_rf (q : Rat) : Stays (fun u w => RF w u q) := fun _ _ _ hb h => h.below hb
theorem rone_w  (HO : ∀ (w : World), Calls Tryz.prog 52 #[.int .u64 1] w fun e w' => ∃ pv, e = .returned pv ∧ Rn w' pv 1 ∧ Below w.heap.size w w') (w : World) :
  Calls Tryz.prog 125 #[] w fun e w' => ∃ pv, e = .returned pv ∧ Rn w' pv 1 ∧ Below w.heap.size w w' := by
 replace HO := Lib.hid HO
 have hL0 : GL w w [] := GL.start w
 have hS : SS w [] := SS.nil w
 go_enter Tryz.func125, Tryz.ntmps125
 go_wp2_with fail
 with_reducible refine Calls.mono (HO.out _) ?_
 rintro e x1 ⟨v0, rfl, q0, hb⟩
 replace hL0 := hL0.call hb
 replace hS := hS.call hb
 clear hb
 obtain ⟨g1, d1, rfl⟩ := rn_form q0
 replace hS := hS.cons q0
 clear q0
 go_wp2_with fail
 exact bodyPost_ret (v := .slice g1 (tln 1) d1) (by simp [results, Tryz.results125, go_sem]) rfl ⟨_, rfl, (hS.get mZ), hL0.bl⟩
theorem rfden_w (q : Rat) (m : Nat) (H1 : ∀ (w : World), Calls Tryz.prog 125 #[] w fun e w' => ∃ pv, e = .returned pv ∧ Rn w' pv 1 ∧ Below w.heap.size w w') (HA : ∀ (p0 p1 : Value) (w : World), Rn w p0 (fd q) → Rn w p1 1 → Calls Tryz.prog 124 #[p0, p1] w fun e w' => ∃ pv, e = .returned pv ∧ Rn w' pv m ∧ Below w.heap.size w w') (p0 : Value) (w : World) (r0 : RF w p0 q) :
  Calls Tryz.prog 48 #[p0] w fun e w' => ∃ pv, e = .returned pv ∧ Rn w' pv m ∧ Below w.heap.size w w' := by
 obtain ⟨xa0, xc0, xb0, xd0, rfl⟩ := rf_form r0
 have xf0 := Lib.hid (rf_rn1 r0)
 have xk0 := Lib.hid (rf_rn2 r0)
 clear r0
 replace H1 := Lib.hid H1
 replace HA := Lib.hid HA
 have hL0 : GL w w [] := GL.start w
 have hS : SS w [] := SS.nil w
 obtain ⟨x1, hweq, hL0, hS⟩ := GL.named2 (hL0.new rfl [.bool (zs q.num), .slice xa0 (tln q.num.natAbs) xc0, .slice xb0 (tln (fd q)) xd0] 42) (hS.new (.cells #[.bool (zs q.num), .slice xa0 (tln q.num.natAbs) xc0, .slice xb0 (tln (fd q)) xd0] 42))
 go_enter Tryz.func48, Tryz.ntmps48
 go_upto_region 1 with fail
 clear hweq
 refine region_tl 5 [EV (.pointer (some ⟨w.heap.size, 2, none⟩)), EV (.slice xb0 (tln (fd q)) xd0), PN 1, PN m, PN m] (by kernel_rfl) (by kernel_rfl) ?_ ?_ ?_
 ·repeat' first | exact stays_nil | apply stays_cons | exact stays_eq _ | exact stays_rn _
 ·simp only [List.take_succ_cons, List.take_zero, hopsR, and_true]
  refine ⟨?_, ?_, ?_, ?_, ?_⟩ <;> intro fv w1 hb1 hp
  all_goals (have hc := (hL0.call (below_drew hb1)).fc; simp only [zF, Nat.reduceAdd] at hc; simp only [putsV, Act.put, zP, Nat.zero_add, Nat.reduceAdd])
  ·refine tyAt_none rfl ?_
   simp [tyUpon, execOp, go_sem, Act.eval, Below.refl]
  ·have h0 : EV _ (fv 0) w1 := hp 0 (LC (by kernel_rfl))
   refine tyAt_none rfl ?_
   simp [tyUpon, execOp, go_sem, Act.eval, hc, h0, Below.refl]
  ·refine tyAt_none rfl ?_
   refine ty_call (f := 125) (args := #[]) (by simp [execOp, go_sem, Act.eval]) ?_
   exact (H1.out w1).mono fun e w2 ⟨pv, h1, h2, h3⟩ => ⟨pv, h1, h2, h3⟩
  ·have h1 : EV _ (fv 1) w1 := hp 1 (LC (by kernel_rfl))
   have h2 : PN _ (fv 2) w1 := hp 2 (LC (by kernel_rfl))
   refine tyAt_none rfl ?_
   refine ty_call (f := 124) (args := #[.slice xb0 (tln (fd q)) xd0, fv 2]) (by simp [execOp, go_sem, Act.eval, h1]) ?_
   exact (HA.out (.slice xb0 (tln (fd q)) xd0) (fv 2) w1 (Sl.below (Sl.below xk0.out hL0.bl) (below_drew hb1)) h2).mono fun e w2 ⟨pv, h1, h2, h3⟩ => ⟨pv, h1, h2, h3⟩
  ·have h3 : PN _ (fv 3) w1 := hp 3 (LC (by kernel_rfl))
   refine tyAt_none rfl ?_
   simp [tyUpon, execOp, go_sem, Act.eval, Below.refl]
   exact h3
 ·intro fv x2 hb1 hv
  have e0 : fv 0 = _ := hv 0 (by omega)
  have e1 : fv 1 = _ := hv 1 (by omega)
  have q2 : Rn x2 (fv 2) 1 := hv 2 (by omega)
  obtain ⟨g1, d1, e2⟩ := rn_form q2
  rw [e2] at q2
  have q3 : Rn x2 (fv 3) m := hv 3 (by omega)
  obtain ⟨g2, d2, e3⟩ := rn_form q3
  rw [e3] at q3
  have q4 : Rn x2 (fv 4) m := hv 4 (by omega)
  obtain ⟨g3, d3, e4⟩ := rn_form q4
  rw [e4] at q4
  simp only [List.take_succ_cons, List.take_zero, putsV, Act.put, zP, List.drop_succ_cons, List.drop_zero, Nat.zero_add, Nat.reduceAdd, e0, e1, e2, e3, e4]
  replace hL0 := hL0.call (below_drew hb1)
  replace hS := hS.call (below_drew hb1)
  replace hS := hS.cons q2
  replace hS := hS.cons q3
  replace hS := hS.cons q4
  clear e0 e1 e2 e3 e4 hb1 hv q2 q3 q4 fv
  go_wp2_with fail
  exact bodyPost_ret (v := .slice g3 (tln m) d3) (by simp [results, Tryz.results48, go_sem]) rfl ⟨_, rfl, (hS.get mZ), hL0.bl⟩
theorem rffrom_w (z : Int) (d g k r m t : Nat) (q : Rat) (HG : ∀ (p0 p1 : Value) (w : World), Rn w p0 z.natAbs → Rn w p1 d → Calls Tryz.prog 226 #[p0, p1] w fun e w' => ∃ pv, e = .returned pv ∧ Rn w' pv g ∧ Below w.heap.size w w') (HD : ∀ (p0 p1 : Value) (w : World), Rn w p0 z.natAbs → Rn w p1 g → Calls Tryz.prog 49 #[p0, p1] w fun e w' => ∃ v0 v1, e = .returned (.tuple #[v0, v1]) ∧ Rn w' v0 k ∧ Rn w' v1 r ∧ Below w.heap.size w w') (HE : ∀ (p0 p1 : Value) (w : World), Rn w p0 d → Rn w p1 g → Calls Tryz.prog 49 #[p0, p1] w fun e w' => ∃ v0 v1, e = .returned (.tuple #[v0, v1]) ∧ Rn w' v0 m ∧ Rn w' v1 t ∧ Below w.heap.size w w') (HF : ∀ (p1 : Value) (w : World), Rn w p1 k → Calls Tryz.prog 193 #[.bool (zs z), p1] w fun e w' => ∃ pv, e = .returned pv ∧ RZ w' pv q.num ∧ Below w.heap.size w w') (H1 : ∀ (w : World), Calls Tryz.prog 125 #[] w fun e w' => ∃ pv, e = .returned pv ∧ Rn w' pv 1 ∧ Below w.heap.size w w') (HB : ∀ (p0 p1 : Value) (w : World), Rn w p0 m → Rn w p1 1 → Calls Tryz.prog 129 #[p0, p1] w fun e w' => ∃ pv, e = .returned pv ∧ Rn w' pv (fd q) ∧ Below w.heap.size w w') (p0 : Value) (p1 : Value) (w : World) (r0 : RZ w p0 z) (r1 : Rn w p1 d) :
  Calls Tryz.prog 192 #[p0, p1] w fun e w' => ∃ pv, e = .returned pv ∧ RF w' pv q ∧ Below w.heap.size w w' := by
 obtain ⟨a0, c0, rfl⟩ := rz_form r0
 have f0 := Lib.hid (rz_rn r0)
 clear r0
 obtain ⟨a1, c1, rfl⟩ := rn_form r1
 have f1 := Lib.hid r1
 clear r1
 replace HG := Lib.hid HG
 replace HD := Lib.hid HD
 replace HE := Lib.hid HE
 replace HF := Lib.hid HF
 replace H1 := Lib.hid H1
 replace HB := Lib.hid HB
 have hL0 : GL w w [] := GL.start w
 have hS : SS w [] := SS.nil w
 obtain ⟨x1, hweq, hL0, hS⟩ := GL.named2 ((hL0.new rfl [.bool (zs z), .slice a0 (tln z.natAbs) c0] 40).new (K := w.heap.size + 1) (szA _ _) [.bool false, .slice none 0 0, .slice none 0 0] 42) ((hS.new (.cells #[.bool (zs z), .slice a0 (tln z.natAbs) c0] 40)).new (.cells #[.bool false, .slice none 0 0, .slice none 0 0] 42))
 go_enter Tryz.func192, Tryz.ntmps192
 have hN0 := cells_of _ 0 [] rfl (hL0.get _ _ (mK mZ))
 simp only [zF, Nat.reduceAdd] at hN0
 go_wp2_with fail
 clear hN0
 with_reducible refine Calls.mono (HG.out (.slice a0 (tln z.natAbs) c0) (.slice a1 (tln d) c1) _ (Sl.below f0.out hL0.bl) (Sl.below f1.out hL0.bl)) ?_
 rintro e x2 ⟨v0, rfl, q0, hb⟩
 replace hL0 := hL0.call hb
 replace hS := hS.call hb
 clear hb hweq
 obtain ⟨g1, d1, rfl⟩ := rn_form q0
 replace hS := hS.cons q0
 clear q0
 have hN0 := cells_of _ 0 [] rfl (hL0.get _ _ (mK mZ))
 simp only [zF, Nat.reduceAdd] at hN0
 go_wp2_with fail
 clear hN0
 with_reducible refine Calls.mono (HD.out (.slice a0 (tln z.natAbs) c0) (.slice g1 (tln g) d1) _ (Sl.below f0.out hL0.bl) (hS.get mZ)) ?_
 rintro e x3 ⟨v0, v1, rfl, q0, q1, hb⟩
 replace hL0 := hL0.call hb
 replace hS := hS.call hb
 clear hb
 obtain ⟨g2, d2, rfl⟩ := rn_form q0
 replace hS := hS.cons q0
 clear q0
 obtain ⟨g3, d3, rfl⟩ := rn_form q1
 replace hS := hS.cons q1
 clear q1
 go_wp2_with fail
 with_reducible refine Calls.mono (HE.out (.slice a1 (tln d) c1) (.slice g1 (tln g) d1) _ (Sl.below f1.out hL0.bl) (hS.get (mK (mK mZ)))) ?_
 rintro e x4 ⟨v0, v1, rfl, q0, q1, hb⟩
 replace hL0 := hL0.call hb
 replace hS := hS.call hb
 clear hb
 obtain ⟨g4, d4, rfl⟩ := rn_form q0
 replace hS := hS.cons q0
 clear q0
 obtain ⟨g5, d5, rfl⟩ := rn_form q1
 replace hS := hS.cons q1
 clear q1
 have hN0 := cells_of _ 0 [] rfl (hL0.get _ _ (mK mZ))
 simp only [zF, Nat.reduceAdd] at hN0
 go_wp2_with fail
 clear hN0
 with_reducible refine Calls.mono (HF.out (.slice g2 (tln k) d2) _ (hS.get (mK (mK (mK mZ))))) ?_
 rintro e x5 ⟨v0, rfl, q0, hb⟩
 replace hL0 := hL0.call hb
 replace hS := hS.call hb
 clear hb
 obtain ⟨g6, d6, rfl⟩ := rz_form q0
 replace hS := hS.cons (rz_rn q0)
 clear q0
 go_wp2_with fail
 with_reducible refine Calls.mono (H1.out _) ?_
 rintro e x6 ⟨v0, rfl, q0, hb⟩
 replace hL0 := hL0.call hb
 replace hS := hS.call hb
 clear hb
 obtain ⟨g7, d7, rfl⟩ := rn_form q0
 replace hS := hS.cons q0
 clear q0
 go_wp2_with fail
 with_reducible refine Calls.mono (HB.out (.slice g4 (tln m) d4) (.slice g7 (tln 1) d7) _ (hS.get (mK (mK (mK mZ)))) (hS.get mZ)) ?_
 rintro e x7 ⟨v0, rfl, q0, hb⟩
 replace hL0 := hL0.call hb
 replace hS := hS.call hb
 clear hb
 obtain ⟨g8, d8, rfl⟩ := rn_form q0
 replace hS := hS.cons q0
 clear q0
 have hS1 := hS.put ((((Upd.refl (w.heap.size + 1) x7).setCell 0 (.bool (zs q.num))).setCell 1 (.slice g6 (tln q.num.natAbs) d6)).setCell 2 (.slice g8 (tln (fd q)) d8)) (hL0.get _ _ mZ) (by intro v hv n; simp only [List.mem_cons, List.not_mem_nil, or_false] at hv; rcases hv with rfl | rfl | rfl <;> simp)
 have hA := hL0.fc
 simp only [zF, Nat.reduceAdd] at hA
 have hP := hL0.put 0 (w.heap.size + 1) _ rfl [.bool (zs q.num), .slice g6 (tln q.num.natAbs) d6, .slice g8 (tln (fd q)) d8] rfl
 simp only [setAll, List.set_cons_zero, List.set_cons_succ] at hP
 generalize hput1 : (((x7.setCell ⟨w.heap.size + 1, 0, none⟩ (.bool (zs q.num))).setCell ⟨w.heap.size + 1, 1, none⟩ (.slice g6 (tln q.num.natAbs) d6)).setCell ⟨w.heap.size + 1, 2, none⟩ (.slice g8 (tln (fd q)) d8)) = x8 at hP hS1
 have hB1 := hP.fc
 simp only [zF, Nat.reduceAdd] at hB1
 replace hL0 := hP
 replace hS := hS1
 clear hS1
 go_wp2_with fail
 exact bodyPost_ret (v := .agg #[.bool (zs q.num), .slice g6 (tln q.num.natAbs) d6, .slice g8 (tln (fd q)) d8]) (by simp [results, Tryz.results192, go_sem, hB1]) rfl ⟨_, rfl, (rf_of (hS.get (mK (mK mZ))) (hS.get mZ)), hL0.bl⟩
theorem rfsign_w (q : Rat) (c : Int) (HS : ∀ (p0 : Value) (w : World), RZ w p0 q.num → Calls Tryz.prog 224 #[p0] w fun e w' => e = .returned (.int .i64 c) ∧ Below w.heap.size w w') (p0 : Value) (w : World) (r0 : RF w p0 q) :
  Calls Tryz.prog 190 #[p0] w fun e w' => e = .returned (.int .i64 c) ∧ Below w.heap.size w w' := by
 obtain ⟨xa0, xc0, xb0, xd0, rfl⟩ := rf_form r0
 have xf0 := Lib.hid (rf_rn1 r0)
 have xk0 := Lib.hid (rf_rn2 r0)
 clear r0
 replace HS := Lib.hid HS
 have hL0 : GL w w [] := GL.start w
 have hS : SS w [] := SS.nil w
 obtain ⟨x1, hweq, hL0, hS⟩ := GL.named2 (hL0.new rfl [.bool (zs q.num), .slice xa0 (tln q.num.natAbs) xc0, .slice xb0 (tln (fd q)) xd0] 42) (hS.new (.cells #[.bool (zs q.num), .slice xa0 (tln q.num.natAbs) xc0, .slice xb0 (tln (fd q)) xd0] 42))
 go_enter Tryz.func190, Tryz.ntmps190
 have hN0 := cells_of _ 0 [] rfl (hL0.get _ _ mZ)
 simp only [zF, Nat.reduceAdd] at hN0
 go_wp2_with fail
 clear hN0
 with_reducible refine Calls.mono (HS.out (.agg #[.bool (zs q.num), .slice xa0 (tln q.num.natAbs) xc0]) _ (rz_of (Sl.below xf0.out hL0.bl))) ?_
 rintro e x2 ⟨rfl, hb⟩
 replace hL0 := hL0.call hb
 replace hS := hS.call hb
 clear hb hweq
 go_wp2_with fail
 exact bodyPost_ret (v := .int .i64 c) (by simp [results, Tryz.results190, go_sem]) rfl ⟨rfl, hL0.bl⟩
theorem rfmul_w (p q r : Rat) (s : Int) (m n k : Nat) (HM : ∀ (p0 p1 : Value) (w : World), RZ w p0 p.num → RZ w p1 q.num → Calls Tryz.prog 225 #[p0, p1] w fun e w' => ∃ pv, e = .returned pv ∧ RZ w' pv s ∧ Below w.heap.size w w') (HD : ∀ (p0 : Value) (w : World), RF w p0 p → Calls Tryz.prog 48 #[p0] w fun e w' => ∃ pv, e = .returned pv ∧ Rn w' pv m ∧ Below w.heap.size w w') (HE : ∀ (p0 : Value) (w : World), RF w p0 q → Calls Tryz.prog 48 #[p0] w fun e w' => ∃ pv, e = .returned pv ∧ Rn w' pv n ∧ Below w.heap.size w w') (HX : ∀ (p0 p1 : Value) (w : World), Rn w p0 m → Rn w p1 n → Calls Tryz.prog 51 #[p0, p1] w fun e w' => ∃ pv, e = .returned pv ∧ Rn w' pv k ∧ Below w.heap.size w w') (HF : ∀ (p0 p1 : Value) (w : World), RZ w p0 s → Rn w p1 k → Calls Tryz.prog 192 #[p0, p1] w fun e w' => ∃ pv, e = .returned pv ∧ RF w' pv r ∧ Below w.heap.size w w') (p0 : Value) (p1 : Value) (w : World) (r0 : RF w p0 p) (r1 : RF w p1 q) :
  Calls Tryz.prog 191 #[p0, p1] w fun e w' => ∃ pv, e = .returned pv ∧ RF w' pv r ∧ Below w.heap.size w w' := by
 obtain ⟨xa0, xc0, xb0, xd0, rfl⟩ := rf_form r0
 have xf0 := Lib.hid (rf_rn1 r0)
 have xk0 := Lib.hid (rf_rn2 r0)
 clear r0
 obtain ⟨xa1, xc1, xb1, xd1, rfl⟩ := rf_form r1
 have xf1 := Lib.hid (rf_rn1 r1)
 have xk1 := Lib.hid (rf_rn2 r1)
 clear r1
 replace HM := Lib.hid HM
 replace HD := Lib.hid HD
 replace HE := Lib.hid HE
 replace HX := Lib.hid HX
 replace HF := Lib.hid HF
 have hL0 : GL w w [] := GL.start w
 have hS : SS w [] := SS.nil w
 obtain ⟨x1, hweq, hL0, hS⟩ := GL.named2 (((hL0.new rfl [.bool (zs p.num), .slice xa0 (tln p.num.natAbs) xc0, .slice xb0 (tln (fd p)) xd0] 42).new (K := w.heap.size + 1) (szA _ _) [.bool (zs q.num), .slice xa1 (tln q.num.natAbs) xc1, .slice xb1 (tln (fd q)) xd1] 42).new (K := w.heap.size + 1 + 1) (by simp only [World.size_alloc]) [.bool false, .slice none 0 0, .slice none 0 0] 42) (((hS.new (.cells #[.bool (zs p.num), .slice xa0 (tln p.num.natAbs) xc0, .slice xb0 (tln (fd p)) xd0] 42)).new (.cells #[.bool (zs q.num), .slice xa1 (tln q.num.natAbs) xc1, .slice xb1 (tln (fd q)) xd1] 42)).new (.cells #[.bool false, .slice none 0 0, .slice none 0 0] 42))
 go_enter Tryz.func191, Tryz.ntmps191
 go_upto_region 1 with fail
 clear hweq
 refine region_tl 11 [EV (.pointer (some ⟨w.heap.size, 0, none⟩)), EV (.agg #[.bool (zs p.num), .slice xa0 (tln p.num.natAbs) xc0]), EV (.pointer (some ⟨w.heap.size + 1, 0, none⟩)), EV (.agg #[.bool (zs q.num), .slice xa1 (tln q.num.natAbs) xc1]), PZ s, EV (.agg #[.bool (zs p.num), .slice xa0 (tln p.num.natAbs) xc0, .slice xb0 (tln (fd p)) xd0]), PN m, EV (.agg #[.bool (zs q.num), .slice xa1 (tln q.num.natAbs) xc1, .slice xb1 (tln (fd q)) xd1]), PN n, PN k, PF r] (by kernel_rfl) (by kernel_rfl) ?_ ?_ ?_
 ·repeat' first | exact stays_nil | apply stays_cons | exact stays_eq _ | exact stays_rz _ | exact stays_rn _ | exact stays_rf _
 ·simp only [List.take_succ_cons, List.take_zero, hopsR, and_true]
  refine ⟨?_, ?_, ?_, ?_, ?_, ?_, ?_, ?_, ?_, ?_, ?_⟩ <;> intro fv w1 hb1 hp
  all_goals (have hc := (hL0.call (below_drew hb1)).fc; simp only [zF, Nat.reduceAdd] at hc; simp only [putsV, Act.put, zP, Nat.zero_add, Nat.reduceAdd])
  ·refine tyAt_none rfl ?_
   simp [tyUpon, execOp, go_sem, Act.eval, Below.refl]
  ·have h0 : EV _ (fv 0) w1 := hp 0 (LC (by kernel_rfl))
   refine tyAt_none rfl ?_
   simp [tyUpon, execOp, go_sem, Act.eval, hc, h0, Below.refl]
  ·refine tyAt_none rfl ?_
   simp [tyUpon, execOp, go_sem, Act.eval, Below.refl]
  ·have h2 : EV _ (fv 2) w1 := hp 2 (LC (by kernel_rfl))
   refine tyAt_none rfl ?_
   simp [tyUpon, execOp, go_sem, Act.eval, hc, h2, Below.refl]
  ·have h1 : EV _ (fv 1) w1 := hp 1 (LC (by kernel_rfl))
   have h3 : EV _ (fv 3) w1 := hp 3 (LC (by kernel_rfl))
   refine tyAt_none rfl ?_
   refine ty_call (f := 225) (args := #[.agg #[.bool (zs p.num), .slice xa0 (tln p.num.natAbs) xc0], .agg #[.bool (zs q.num), .slice xa1 (tln q.num.natAbs) xc1]]) (by simp [execOp, go_sem, Act.eval, h1, h3]) ?_
   exact (HM.out (.agg #[.bool (zs p.num), .slice xa0 (tln p.num.natAbs) xc0]) (.agg #[.bool (zs q.num), .slice xa1 (tln q.num.natAbs) xc1]) w1 (rz_of (Sl.below (Sl.below xf0.out hL0.bl) (below_drew hb1))) (rz_of (Sl.below (Sl.below xf1.out hL0.bl) (below_drew hb1)))).mono fun e w2 ⟨pv, h1, h2, h3⟩ => ⟨pv, h1, h2, h3⟩
  ·refine tyAt_none rfl ?_
   simp [tyUpon, execOp, go_sem, Act.eval, hc, Below.refl]
  ·have h5 : EV _ (fv 5) w1 := hp 5 (LC (by kernel_rfl))
   refine tyAt_none rfl ?_
   refine ty_call (f := 48) (args := #[.agg #[.bool (zs p.num), .slice xa0 (tln p.num.natAbs) xc0, .slice xb0 (tln (fd p)) xd0]]) (by simp [execOp, go_sem, Act.eval, h5]) ?_
   exact (HD.out (.agg #[.bool (zs p.num), .slice xa0 (tln p.num.natAbs) xc0, .slice xb0 (tln (fd p)) xd0]) w1 (rf_of (Sl.below (Sl.below xf0.out hL0.bl) (below_drew hb1)) (Sl.below (Sl.below xk0.out hL0.bl) (below_drew hb1)))).mono fun e w2 ⟨pv, h1, h2, h3⟩ => ⟨pv, h1, h2, h3⟩
  ·refine tyAt_none rfl ?_
   simp [tyUpon, execOp, go_sem, Act.eval, hc, Below.refl]
  ·have h7 : EV _ (fv 7) w1 := hp 7 (LC (by kernel_rfl))
   refine tyAt_none rfl ?_
   refine ty_call (f := 48) (args := #[.agg #[.bool (zs q.num), .slice xa1 (tln q.num.natAbs) xc1, .slice xb1 (tln (fd q)) xd1]]) (by simp [execOp, go_sem, Act.eval, h7]) ?_
   exact (HE.out (.agg #[.bool (zs q.num), .slice xa1 (tln q.num.natAbs) xc1, .slice xb1 (tln (fd q)) xd1]) w1 (rf_of (Sl.below (Sl.below xf1.out hL0.bl) (below_drew hb1)) (Sl.below (Sl.below xk1.out hL0.bl) (below_drew hb1)))).mono fun e w2 ⟨pv, h1, h2, h3⟩ => ⟨pv, h1, h2, h3⟩
  ·have h6 : PN _ (fv 6) w1 := hp 6 (LC (by kernel_rfl))
   have h8 : PN _ (fv 8) w1 := hp 8 (LC (by kernel_rfl))
   refine tyAt_none rfl ?_
   refine ty_call (f := 51) (args := #[fv 6, fv 8]) (by simp [execOp, go_sem, Act.eval]) ?_
   exact (HX.out (fv 6) (fv 8) w1 h6 h8).mono fun e w2 ⟨pv, h1, h2, h3⟩ => ⟨pv, h1, h2, h3⟩
  ·have h4 : PZ _ (fv 4) w1 := hp 4 (LC (by kernel_rfl))
   have h9 : PN _ (fv 9) w1 := hp 9 (LC (by kernel_rfl))
   refine tyAt_none rfl ?_
   refine ty_call (f := 192) (args := #[fv 4, fv 9]) (by simp [execOp, go_sem, Act.eval]) ?_
   exact (HF.out (fv 4) (fv 9) w1 h4 h9).mono fun e w2 ⟨pv, h1, h2, h3⟩ => ⟨pv, h1, h2, h3⟩
 ·intro fv x2 hb1 hv
  have e0 : fv 0 = _ := hv 0 (by omega)
  have e1 : fv 1 = _ := hv 1 (by omega)
  have e2 : fv 2 = _ := hv 2 (by omega)
  have e3 : fv 3 = _ := hv 3 (by omega)
  have q4 : RZ x2 (fv 4) s := hv 4 (by omega)
  obtain ⟨g1, d1, e4⟩ := rz_form q4
  rw [e4] at q4
  have e5 : fv 5 = _ := hv 5 (by omega)
  have q6 : Rn x2 (fv 6) m := hv 6 (by omega)
  obtain ⟨g2, d2, e6⟩ := rn_form q6
  rw [e6] at q6
  have e7 : fv 7 = _ := hv 7 (by omega)
  have q8 : Rn x2 (fv 8) n := hv 8 (by omega)
  obtain ⟨g3, d3, e8⟩ := rn_form q8
  rw [e8] at q8
  have q9 : Rn x2 (fv 9) k := hv 9 (by omega)
  obtain ⟨g4, d4, e9⟩ := rn_form q9
  rw [e9] at q9
  have q10 : RF x2 (fv 10) r := hv 10 (by omega)
  obtain ⟨g5, d5, g6, d6, e10⟩ := rf_form q10
  rw [e10] at q10
  simp only [List.take_succ_cons, List.take_zero, putsV, Act.put, zP, List.drop_succ_cons, List.drop_zero, Nat.zero_add, Nat.reduceAdd, e0, e1, e2, e3, e4, e5, e6, e7, e8, e9, e10]
  replace hL0 := hL0.call (below_drew hb1)
  replace hS := hS.call (below_drew hb1)
  replace hS := hS.cons (rz_rn q4)
  replace hS := hS.cons q6
  replace hS := hS.cons q8
  replace hS := hS.cons q9
  replace hS := hS.cons (rf_rn1 q10)
  replace hS := hS.cons (rf_rn2 q10)
  clear e0 e1 e2 e3 e4 e5 e6 e7 e8 e9 e10 hb1 hv q4 q6 q8 q9 q10 fv
  have hS1 := hS.put ((((Upd.refl (w.heap.size + 1 + 1) x2).setCell 0 (.bool (zs r.num))).setCell 1 (.slice g5 (tln r.num.natAbs) d5)).setCell 2 (.slice g6 (tln (fd r)) d6)) (hL0.get _ _ mZ) (by intro v hv n; simp only [List.mem_cons, List.not_mem_nil, or_false] at hv; rcases hv with rfl | rfl | rfl <;> simp)
  have hA := hL0.fc
  simp only [zF, Nat.reduceAdd] at hA
  have hP := hL0.put 0 (w.heap.size + 1 + 1) _ rfl [.bool (zs r.num), .slice g5 (tln r.num.natAbs) d5, .slice g6 (tln (fd r)) d6] rfl
  simp only [setAll, List.set_cons_zero, List.set_cons_succ] at hP
  generalize hput1 : (((x2.setCell ⟨w.heap.size + 1 + 1, 0, none⟩ (.bool (zs r.num))).setCell ⟨w.heap.size + 1 + 1, 1, none⟩ (.slice g5 (tln r.num.natAbs) d5)).setCell ⟨w.heap.size + 1 + 1, 2, none⟩ (.slice g6 (tln (fd r)) d6)) = x3 at hP hS1
  have hB1 := hP.fc
  simp only [zF, Nat.reduceAdd] at hB1
  replace hL0 := hP
  replace hS := hS1
  clear hS1
  go_wp2_with fail
  exact bodyPost_ret (v := .agg #[.bool (zs r.num), .slice g5 (tln r.num.natAbs) d5, .slice g6 (tln (fd r)) d6]) (by simp [results, Tryz.results191, go_sem, hB1]) rfl ⟨_, rfl, (rf_of (hS.get (mK mZ)) (hS.get mZ)), hL0.bl⟩
theorem rfdiv_w (p q n r : Rat) (c s : Int) (m : Nat) (HS : ∀ (p0 : Value) (w : World), RF w p0 q → Calls Tryz.prog 190 #[p0] w fun e w' => e = .returned (.int .i64 c) ∧ Below w.heap.size w w') (HD : ∀ (p0 : Value) (w : World), RF w p0 q → Calls Tryz.prog 48 #[p0] w fun e w' => ∃ pv, e = .returned pv ∧ Rn w' pv m ∧ Below w.heap.size w w') (HF : ∀ (p1 : Value) (w : World), Rn w p1 m → Calls Tryz.prog 193 #[.bool (zs q.num), p1] w fun e w' => ∃ pv, e = .returned pv ∧ RZ w' pv s ∧ Below w.heap.size w w') (HG : ∀ (p0 p1 : Value) (w : World), RZ w p0 s → Rn w p1 q.num.natAbs → Calls Tryz.prog 192 #[p0, p1] w fun e w' => ∃ pv, e = .returned pv ∧ RF w' pv n ∧ Below w.heap.size w w') (HM : ∀ (p0 p1 : Value) (w : World), RF w p0 p → RF w p1 n → Calls Tryz.prog 191 #[p0, p1] w fun e w' => ∃ pv, e = .returned pv ∧ RF w' pv r ∧ Below w.heap.size w w') (h0 : (c == 0) = false) (p0 : Value) (p1 : Value) (w : World) (r0 : RF w p0 p) (r1 : RF w p1 q) :
  Calls Tryz.prog 131 #[p0, p1] w fun e w' => ∃ pv, e = .returned pv ∧ RF w' pv r ∧ Below w.heap.size w w' := by
 obtain ⟨xa0, xc0, xb0, xd0, rfl⟩ := rf_form r0
 have xf0 := Lib.hid (rf_rn1 r0)
 have xk0 := Lib.hid (rf_rn2 r0)
 clear r0
 obtain ⟨xa1, xc1, xb1, xd1, rfl⟩ := rf_form r1
 have xf1 := Lib.hid (rf_rn1 r1)
 have xk1 := Lib.hid (rf_rn2 r1)
 clear r1
 replace HS := Lib.hid HS
 replace HD := Lib.hid HD
 replace HF := Lib.hid HF
 replace HG := Lib.hid HG
 replace HM := Lib.hid HM
 have hL0 : GL w w [] := GL.start w
 have hS : SS w [] := SS.nil w
 obtain ⟨x1, hweq, hL0, hS⟩ := GL.named2 (((hL0.new rfl [.bool (zs p.num), .slice xa0 (tln p.num.natAbs) xc0, .slice xb0 (tln (fd p)) xd0] 42).new (K := w.heap.size + 1) (szA _ _) [.bool (zs q.num), .slice xa1 (tln q.num.natAbs) xc1, .slice xb1 (tln (fd q)) xd1] 42).new (K := w.heap.size + 1 + 1) (by simp only [World.size_alloc]) [.bool false, .slice none 0 0, .slice none 0 0] 42) (((hS.new (.cells #[.bool (zs p.num), .slice xa0 (tln p.num.natAbs) xc0, .slice xb0 (tln (fd p)) xd0] 42)).new (.cells #[.bool (zs q.num), .slice xa1 (tln q.num.natAbs) xc1, .slice xb1 (tln (fd q)) xd1] 42)).new (.cells #[.bool false, .slice none 0 0, .slice none 0 0] 42))
 go_enter Tryz.func131, Tryz.ntmps131
 have hN0 := cells_of _ 0 [] rfl (hL0.get _ _ (mK mZ))
 simp only [zF, Nat.reduceAdd] at hN0
 go_wp2_with fail
 clear hN0
 with_reducible refine Calls.mono (HS.out (.agg #[.bool (zs q.num), .slice xa1 (tln q.num.natAbs) xc1, .slice xb1 (tln (fd q)) xd1]) _ (rf_of (Sl.below xf1.out hL0.bl) (Sl.below xk1.out hL0.bl))) ?_
 rintro e x2 ⟨rfl, hb⟩
 replace hL0 := hL0.call hb
 replace hS := hS.call hb
 clear hb hweq
 go_upto_region 3 with fail
 refine region_tl 12 [EV (.agg #[.bool (zs p.num), .slice xa0 (tln p.num.natAbs) xc0, .slice xb0 (tln (fd p)) xd0]), EV (.pointer (some ⟨w.heap.size + 1, 0, none⟩)), EV (.pointer (some ⟨w.heap.size + 1, 0, none⟩)), EV (.bool (zs q.num)), EV (.agg #[.bool (zs q.num), .slice xa1 (tln q.num.natAbs) xc1, .slice xb1 (tln (fd q)) xd1]), PN m, PZ s, EV (.pointer (some ⟨w.heap.size + 1, 0, none⟩)), EV (.pointer (some ⟨w.heap.size + 1, 1, none⟩)), EV (.slice xa1 (tln q.num.natAbs) xc1), PF n, PF r] (by kernel_rfl) (by kernel_rfl) ?_ ?_ ?_
 ·repeat' first | exact stays_nil | apply stays_cons | exact stays_eq _ | exact stays_rz _ | exact stays_rn _ | exact stays_rf _
 ·simp only [List.take_succ_cons, List.take_zero, hopsR, and_true]
  refine ⟨?_, ?_, ?_, ?_, ?_, ?_, ?_, ?_, ?_, ?_, ?_, ?_⟩ <;> intro fv w1 hb1 hp
  all_goals (have hc := (hL0.call (below_drew hb1)).fc; simp only [zF, Nat.reduceAdd] at hc; simp only [putsV, Act.put, zP, Nat.zero_add, Nat.reduceAdd])
  ·refine tyAt_none rfl ?_
   simp [tyUpon, execOp, go_sem, Act.eval, hc, Below.refl]
  ·refine tyAt_none rfl ?_
   simp [tyUpon, execOp, go_sem, Act.eval, Below.refl]
  ·have h1 : EV _ (fv 1) w1 := hp 1 (LC (by kernel_rfl))
   refine tyAt_none rfl ?_
   simp [tyUpon, execOp, go_sem, Act.eval, h1, Below.refl]
  ·have h2 : EV _ (fv 2) w1 := hp 2 (LC (by kernel_rfl))
   refine tyAt_none rfl ?_
   simp [tyUpon, execOp, go_sem, Act.eval, hc, h2, Below.refl]
  ·refine tyAt_none rfl ?_
   simp [tyUpon, execOp, go_sem, Act.eval, hc, Below.refl]
  ·have h4 : EV _ (fv 4) w1 := hp 4 (LC (by kernel_rfl))
   refine tyAt_none rfl ?_
   refine ty_call (f := 48) (args := #[.agg #[.bool (zs q.num), .slice xa1 (tln q.num.natAbs) xc1, .slice xb1 (tln (fd q)) xd1]]) (by simp [execOp, go_sem, Act.eval, h4]) ?_
   exact (HD.out (.agg #[.bool (zs q.num), .slice xa1 (tln q.num.natAbs) xc1, .slice xb1 (tln (fd q)) xd1]) w1 (rf_of (Sl.below (Sl.below xf1.out hL0.bl) (below_drew hb1)) (Sl.below (Sl.below xk1.out hL0.bl) (below_drew hb1)))).mono fun e w2 ⟨pv, h1, h2, h3⟩ => ⟨pv, h1, h2, h3⟩
  ·have h3 : EV _ (fv 3) w1 := hp 3 (LC (by kernel_rfl))
   have h5 : PN _ (fv 5) w1 := hp 5 (LC (by kernel_rfl))
   refine tyAt_none rfl ?_
   refine ty_call (f := 193) (args := #[.bool (zs q.num), fv 5]) (by simp [execOp, go_sem, Act.eval, h3]) ?_
   exact (HF.out (fv 5) w1 h5).mono fun e w2 ⟨pv, h1, h2, h3⟩ => ⟨pv, h1, h2, h3⟩
  ·refine tyAt_none rfl ?_
   simp [tyUpon, execOp, go_sem, Act.eval, Below.refl]
  ·have h7 : EV _ (fv 7) w1 := hp 7 (LC (by kernel_rfl))
   refine tyAt_none rfl ?_
   simp [tyUpon, execOp, go_sem, Act.eval, h7, Below.refl]
  ·have h8 : EV _ (fv 8) w1 := hp 8 (LC (by kernel_rfl))
   refine tyAt_none rfl ?_
   simp [tyUpon, execOp, go_sem, Act.eval, hc, h8, Below.refl]
  ·have h6 : PZ _ (fv 6) w1 := hp 6 (LC (by kernel_rfl))
   have h9 : EV _ (fv 9) w1 := hp 9 (LC (by kernel_rfl))
   refine tyAt_none rfl ?_
   refine ty_call (f := 192) (args := #[fv 6, .slice xa1 (tln q.num.natAbs) xc1]) (by simp [execOp, go_sem, Act.eval, h9]) ?_
   exact (HG.out (fv 6) (.slice xa1 (tln q.num.natAbs) xc1) w1 h6 (Sl.below (Sl.below xf1.out hL0.bl) (below_drew hb1))).mono fun e w2 ⟨pv, h1, h2, h3⟩ => ⟨pv, h1, h2, h3⟩
  ·have h0 : EV _ (fv 0) w1 := hp 0 (LC (by kernel_rfl))
   have h10 : PF _ (fv 10) w1 := hp 10 (LC (by kernel_rfl))
   refine tyAt_none rfl ?_
   refine ty_call (f := 191) (args := #[.agg #[.bool (zs p.num), .slice xa0 (tln p.num.natAbs) xc0, .slice xb0 (tln (fd p)) xd0], fv 10]) (by simp [execOp, go_sem, Act.eval, h0]) ?_
   exact (HM.out (.agg #[.bool (zs p.num), .slice xa0 (tln p.num.natAbs) xc0, .slice xb0 (tln (fd p)) xd0]) (fv 10) w1 (rf_of (Sl.below (Sl.below xf0.out hL0.bl) (below_drew hb1)) (Sl.below (Sl.below xk0.out hL0.bl) (below_drew hb1))) h10).mono fun e w2 ⟨pv, h1, h2, h3⟩ => ⟨pv, h1, h2, h3⟩
 ·intro fv x3 hb1 hv
  have e0 : fv 0 = _ := hv 0 (by omega)
  have e1 : fv 1 = _ := hv 1 (by omega)
  have e2 : fv 2 = _ := hv 2 (by omega)
  have e3 : fv 3 = _ := hv 3 (by omega)
  have e4 : fv 4 = _ := hv 4 (by omega)
  have q5 : Rn x3 (fv 5) m := hv 5 (by omega)
  obtain ⟨g1, d1, e5⟩ := rn_form q5
  rw [e5] at q5
  have q6 : RZ x3 (fv 6) s := hv 6 (by omega)
  obtain ⟨g2, d2, e6⟩ := rz_form q6
  rw [e6] at q6
  have e7 : fv 7 = _ := hv 7 (by omega)
  have e8 : fv 8 = _ := hv 8 (by omega)
  have e9 : fv 9 = _ := hv 9 (by omega)
  have q10 : RF x3 (fv 10) n := hv 10 (by omega)
  obtain ⟨g3, d3, g4, d4, e10⟩ := rf_form q10
  rw [e10] at q10
  have q11 : RF x3 (fv 11) r := hv 11 (by omega)
  obtain ⟨g5, d5, g6, d6, e11⟩ := rf_form q11
  rw [e11] at q11
  simp only [List.take_succ_cons, List.take_zero, putsV, Act.put, zP, List.drop_succ_cons, List.drop_zero, Nat.zero_add, Nat.reduceAdd, e0, e1, e2, e3, e4, e5, e6, e7, e8, e9, e10, e11]
  replace hL0 := hL0.call (below_drew hb1)
  replace hS := hS.call (below_drew hb1)
  replace hS := hS.cons q5
  replace hS := hS.cons (rz_rn q6)
  replace hS := hS.cons (rf_rn1 q10)
  replace hS := hS.cons (rf_rn2 q10)
  replace hS := hS.cons (rf_rn1 q11)
  replace hS := hS.cons (rf_rn2 q11)
  clear e0 e1 e2 e3 e4 e5 e6 e7 e8 e9 e10 e11 hb1 hv q5 q6 q10 q11 fv
  have hS1 := hS.put ((((Upd.refl (w.heap.size + 1 + 1) x3).setCell 0 (.bool (zs r.num))).setCell 1 (.slice g5 (tln r.num.natAbs) d5)).setCell 2 (.slice g6 (tln (fd r)) d6)) (hL0.get _ _ mZ) (by intro v hv n; simp only [List.mem_cons, List.not_mem_nil, or_false] at hv; rcases hv with rfl | rfl | rfl <;> simp)
  have hA := hL0.fc
  simp only [zF, Nat.reduceAdd] at hA
  have hP := hL0.put 0 (w.heap.size + 1 + 1) _ rfl [.bool (zs r.num), .slice g5 (tln r.num.natAbs) d5, .slice g6 (tln (fd r)) d6] rfl
  simp only [setAll, List.set_cons_zero, List.set_cons_succ] at hP
  generalize hput1 : (((x3.setCell ⟨w.heap.size + 1 + 1, 0, none⟩ (.bool (zs r.num))).setCell ⟨w.heap.size + 1 + 1, 1, none⟩ (.slice g5 (tln r.num.natAbs) d5)).setCell ⟨w.heap.size + 1 + 1, 2, none⟩ (.slice g6 (tln (fd r)) d6)) = x4 at hP hS1
  have hB1 := hP.fc
  simp only [zF, Nat.reduceAdd] at hB1
  replace hL0 := hP
  replace hS := hS1
  clear hS1
  go_wp2_with fail
  exact bodyPost_ret (v := .agg #[.bool (zs r.num), .slice g5 (tln r.num.natAbs) d5, .slice g6 (tln (fd r)) d6]) (by simp [results, Tryz.results131, go_sem, hB1]) rfl ⟨_, rfl, (rf_of (hS.get (mK mZ)) (hS.get mZ)), hL0.bl⟩
end Go.Proofs.YtaimebjkidegiaaGreatDoor
namespace Go.Proofs.YtaimebjkidegiaaGreatDoor.Rx
open Go.RowKit
attribute [local irreducible] tv dg cmpI txt decB nb
theorem td_one : (td 1).length = 1 := by rw [td_pos (by omega), show 1 / 10000 = 0 by rfl, td_zero]; rfl
end Go.Proofs.YtaimebjkidegiaaGreatDoor.Rx
namespace Go.Proofs.YtaimebjkidegiaaGreatDoor.Rx
open Go.RowKit
attribute [local irreducible] tv dg cmpI txt decB nb isq
/-- What the root's digits so far are good for. -/
structure SqS (a j : Nat) (X : List Nat) : Prop where
 lt : ∀ d ∈ X, d < 10000
 zero : ∀ (k : Nat) (h : k < X.length), k < j → X[k] = 0
 low : tv X * tv X ≤ a
 high : a < (tv X + 10000 ^ j) * (tv X + 10000 ^ j)
theorem SqS.start (a m : Nat) (h : (td a).length ≤ 2 * m) : SqS a m (List.replicate m 0) := by
 refine ⟨fun d hd => by rw [(List.mem_replicate.1 hd).2]; omega, fun k h _ => by simp, by rw [tv_zeros]; omega, ?_⟩
 have := td_length.1 h
 rwa [tv_zeros, Nat.zero_add, ← Nat.pow_add, ← Nat.two_mul]
theorem tv_set0 {X : List Nat} {i : Nat} (h : i < X.length) (h0 : X[i] = 0) (d : Nat) : tv (X.set i d) = tv X + 10000 ^ i * d := by
 have := tv_set h d
 rw [h0, Nat.mul_zero, Nat.add_zero] at this
 exact this
theorem SqS.set {a i : Nat} {X : List Nat} (h : SqS a (i + 1) X) (hi : i < X.length) {d : Nat} (hd : d < 10000) (h1 : (tv X + 10000 ^ i * d) * (tv X + 10000 ^ i * d) ≤ a) (h2 : a < (tv X + 10000 ^ i * (d + 1)) * (tv X + 10000 ^ i * (d + 1))) :
  SqS a i (X.set i d) := by
 have e := tv_set0 hi (h.zero i hi (by omega)) d
 refine ⟨fun x hx => ?_, fun k hk hki => ?_, by rw [e]; exact h1, ?_⟩
 ·rcases List.mem_or_eq_of_mem_set hx with hx | hx
  ·exact h.lt x hx
  ·rw [hx]; exact hd
 ·rw [List.getElem_set_ne (by omega)]
  exact h.zero k (by rw [List.length_set] at hk; exact hk) (by omega)
 ·rw [e, Nat.add_assoc, ← Nat.mul_succ]
  exact h2
theorem SqS.done {a : Nat} {X : List Nat} (h : SqS a 0 X) : tv X = isq a := isq_uniq h.low (by have := h.high; rwa [Nat.pow_zero] at this)
end Go.Proofs.YtaimebjkidegiaaGreatDoor.Rx
