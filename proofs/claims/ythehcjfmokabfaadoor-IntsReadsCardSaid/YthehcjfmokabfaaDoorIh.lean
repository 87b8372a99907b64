/-
  Layer 2, walks H: Gcd.
-/
import Derived.Test.YthehcjfmokabfaaDoorIg
import Derived.RegionTactic
import Derived.ChangeAlike
set_option linter.unusedVariables false
set_option linter.unusedSimpArgs false
namespace Go.Proofs.YthehcjfmokabfaaDoor
open Go.RowKit
attribute [local irreducible] lo hs sm s64 c64 d64 b64 mh ml pd pc qd qc val hiB str cmpI srD lz nb isq decB zl zh zs

theorem new_int (w : World) : (Instr.alloc 27 true (.tuple #[])).run Tryd.prog w = .ok (.pointer (some ⟨w.heap.size, 0, none⟩)) (w.alloc (.cells #[.int .u64 0, .string ⟨#[]⟩, .bool false] 27)) := by
  simp [go_sem, Instr.alloc]
theorem hd_put3 {w : World} {k : Nat} {x0 x1 x2 : Value} (h : Hd w k [x0, x1, x2]) (v0 v1 v2 : Value) : Hd (((w.setCell ⟨k, 0, none⟩ v0).setCell ⟨k, 1, none⟩ v1).setCell ⟨k, 2, none⟩ v2) k [v0, v1, v2] :=
  setAll_hd [v0, v1, v2] 0 w k [] [x0, x1, x2] rfl rfl h
theorem put_int (i0 i : Int) (s0 s : ByteArray) (b0 b : Bool) (w : World) (k : Nat) (h : Hd w k [.int .u64 i0, .string s0, .bool b0]) :
    ∃ w', (Instr.storeAt 27 (.pointer (some ⟨k, 0, none⟩)) (.agg #[.int .u64 i, .string s, .bool b])).run Tryd.prog w = .ok () w' ∧ Hd w' k [.int .u64 i, .string s, .bool b] ∧ Upd k w w' := by
  have h0 : w.cell? ⟨k, 0, none⟩ = some (.int .u64 i0) := h.cell 0 (by simp)
  have h1 : w.cell? ⟨k, 1, none⟩ = some (.string s0) := h.cell 1 (by simp)
  have h2 : w.cell? ⟨k, 2, none⟩ = some (.bool b0) := h.cell 2 (by simp)
  have hf := h.frz
  refine ⟨_, ?_, hd_put3 h (.int .u64 i) (.string s) (.bool b), (((Upd.refl k w).setCell 0 _).setCell 1 _).setCell 2 _⟩
  simp [go_sem, Instr.storeAt, Instr.sureAddr, h0, h1, h2, hf]
theorem z0 : zl 0 = 0 ∧ zh 0 = ⟨#[]⟩ ∧ zs 0 = false := ⟨by unfold zl; rw [show (0 : Int).natAbs = 0 from rfl, lo_small Bs_pos], by unfold zh; rw [show (0 : Int).natAbs = 0 from rfl, hs_small Bs_pos], by unfold zs; rfl⟩
theorem eqz : (((zl 0 : Nat) : Int) == 0) = true ∧ ((zh 0).toList == []) = true ∧ (zs 0 == false) = true := by
  obtain ⟨h1, h2, h3⟩ := z0
  rw [h1, h2, h3, ByteArray.toList_eq]; exact ⟨rfl, rfl, rfl⟩
theorem nez {z : Int} (h : z ≠ 0) : (((zl z : Nat) : Int) == 0) = false ∨ ((((zl z : Nat) : Int) == 0) = true ∧ ((zh z).toList == []) = false) ∨ ((((zl z : Nat) : Int) == 0) = true ∧ ((zh z).toList == []) = true ∧ (zs z == false) = false) := by
  have e := ne_int h
  obtain ⟨h1, h2, h3⟩ := z0
  rw [h1, h2, h3, ByteArray.toList_eq ⟨#[]⟩] at e
  exact e
/-- The integer's size that a struct in memory holds. -/
theorem rdz {w : World} {k : Nat} {z : Int} (h : Hd w k [.int .u64 ((zl z : Nat) : Int), .string (zh z), .bool (zs z)]) : rdn w k = z.natAbs :=
  rdn_eq (r := z.natAbs) ⟨(h.cell 0 (by simp)).trans (by unfold zl; rfl), (h.cell 1 (by simp)).trans (by unfold zh; rfl), h.frz⟩

set_option maxHeartbeats 4000000 in
set_option maxRecDepth 100000 in
theorem gcdI (a b : Int) (ha : dI a ≤ 1000) (hb : dI b ≤ 1000) (w : World) :
    Calls Tryd.prog 16 #[intV a, intV b] w fun e w' => e = .returned (.tuple #[intV (xgcd a b).1, intV (xgcd a b).2.1, intV (xgcd a b).2.2]) ∧ Below w.heap.size w w' := by
  have hL0 : GL w w [] := GL.start w
  have HO1 := Lib.hid (fun w => ofI 1 (by omega) (by omega) w)
  have HO0 := Lib.hid (fun w => ofI 0 (by omega) (by omega) w)
  replace hL0 := (((((hL0.new rfl [.int .u64 ((zl a : Nat) : Int), .string (zh a), .bool (zs a)] 27).new (K := w.heap.size + 1) (szA _ _) [.int .u64 ((zl b : Nat) : Int), .string (zh b), .bool (zs b)] 27).new (K := w.heap.size + 1 + 1) (by simp only [World.size_alloc]) [.int .u64 0, .string ⟨#[]⟩, .bool false] 27).new (K := w.heap.size + 1 + 1 + 1) (by simp only [World.size_alloc]) [.int .u64 0, .string ⟨#[]⟩, .bool false] 27).new (K := w.heap.size + 1 + 1 + 1 + 1) (by simp only [World.size_alloc]) [.int .u64 0, .string ⟨#[]⟩, .bool false] 27)
  generalize hweq : (((((w.alloc (.cells #[.int .u64 ((zl a : Nat) : Int), .string (zh a), .bool (zs a)] 27)).alloc (.cells #[.int .u64 ((zl b : Nat) : Int), .string (zh b), .bool (zs b)] 27)).alloc (.cells #[.int .u64 0, .string ⟨#[]⟩, .bool false] 27)).alloc (.cells #[.int .u64 0, .string ⟨#[]⟩, .bool false] 27)).alloc (.cells #[.int .u64 0, .string ⟨#[]⟩, .bool false] 27)) = x1 at hL0
  go_enter Tryd.func16, Tryd.ntmps16
  have hA := hL0.fc
  simp only [fcG, cellsF, neK, and_true, ne_eq, Nat.zero_add, Nat.reduceAdd] at hA
  go_upto_region 1 with fail
  clear hA
  clear hweq
  obtain ⟨α, iα, F, hF1, hF2⟩ := cls x1
  have hq := GL.fcC hF1 hL0
  simp only [fcC, cellsC, and_true, Nat.zero_add, Nat.reduceAdd] at hq
  refine region_qs 2 (C := fun w' => ∃ x, w' = F x) (by kernel_rfl) (by kernel_rfl) (cls_drew hF2) ?_
  simp only [List.take_succ_cons, List.take_zero, List.drop_succ_cons, List.drop_zero, List.take_nil, List.drop_nil]
  repeat (go_big_quiet_step (first | fail | (go_at_call 27; with_reducible exact cls_call hF1 hF2 HO1.out _)))
  refine wpQuiet_nil ?_
  rintro wq ⟨xq, rfl⟩
  replace hL0 := hL0.call (hF1 xq)
  clear hq hF2
  generalize F xq = x2 at hL0 ⊢
  clear hF1 xq iα F α
  have hA := hL0.fc
  simp only [fcG, cellsF, neK, and_true, ne_eq, Nat.zero_add, Nat.reduceAdd] at hA
  have hP := hL0.put 2 (w.heap.size + 1 + 1) _ rfl [.int .u64 ((zl a : Nat) : Int), .string (zh a), .bool (zs a)] rfl
  simp only [setAll, List.set_cons_zero, List.set_cons_succ] at hP
  generalize hput1 : (((x2.setCell ⟨w.heap.size + 1 + 1, 0, none⟩ (.int .u64 ((zl a : Nat) : Int))).setCell ⟨w.heap.size + 1 + 1, 1, none⟩ (.string (zh a))).setCell ⟨w.heap.size + 1 + 1, 2, none⟩ (.bool (zs a))) = x3 at hP
  have hB1 := hP.fc
  simp only [fcG, cellsF, neK, and_true, ne_eq, Nat.zero_add, Nat.reduceAdd] at hB1
  replace hL0 := hP
  have hP := hL0.put 1 (w.heap.size + 1 + 1 + 1) _ rfl [.int .u64 ((zl 1 : Nat) : Int), .string (zh 1), .bool (zs 1)] rfl
  simp only [setAll, List.set_cons_zero, List.set_cons_succ] at hP
  generalize hput2 : (((x3.setCell ⟨w.heap.size + 1 + 1 + 1, 0, none⟩ (.int .u64 ((zl 1 : Nat) : Int))).setCell ⟨w.heap.size + 1 + 1 + 1, 1, none⟩ (.string (zh 1))).setCell ⟨w.heap.size + 1 + 1 + 1, 2, none⟩ (.bool (zs 1))) = x4 at hP
  have hB2 := hP.fc
  simp only [fcG, cellsF, neK, and_true, ne_eq, Nat.zero_add, Nat.reduceAdd] at hB2
  replace hL0 := hP
  go_upto_region 2 with fail
  clear hA
  clear hput1 hB1 hput2 hB2
  refine region_gh (by kernel_rfl) (by kernel_rfl) ?_
  refine lex_seg (gl := []) 2 (by kernel_rfl) ?_
  intro α iα F hF1 hF2
  have hq := GL.seg hF1 hL0
  simp only [fcC, cellsC, and_true, Nat.zero_add, Nat.reduceAdd] at hq
  simp only [List.take_succ_cons, List.take_zero, List.drop_succ_cons, List.drop_zero, List.take_nil, List.drop_nil]
  repeat (go_big_quiet_step (first | fail | (go_at_call 27; with_reducible exact seg_call hF2 HO0.out _)))
  refine wpQuiet_nil ?_
  clear hq hF1 hF2 iα F α
  refine lex_new [.int .u64 0, .string ⟨#[]⟩, .bool false] 7 27 27 rfl rfl (of_decide_eq_true (by kernel_rfl)) (by kernel_rfl) rfl new_int ?_
  simp only [Act.put, List.setIfInBounds_toArray, List.set_cons_succ, List.set_cons_zero]
  refine lex_new [.int .u64 0, .string ⟨#[]⟩, .bool false] 8 27 27 rfl rfl (of_decide_eq_true (by kernel_rfl)) (by kernel_rfl) rfl new_int ?_
  simp only [Act.put, List.setIfInBounds_toArray, List.set_cons_succ, List.set_cons_zero]
  refine lex_put [.int .u64 ((zl b : Nat) : Int), .string (zh b), .bool (zs b)] [.int .u64 0, .string ⟨#[]⟩, .bool false] 7 27 (.tmp 15) rfl (by kernel_rfl) (by simp [toG, upd]) rfl (fun w k h => put_int _ _ _ _ _ _ w k h) ?_
  simp only [Act.put]
  refine lex_put [.int .u64 ((zl 0 : Nat) : Int), .string (zh 0), .bool (zs 0)] [.int .u64 0, .string ⟨#[]⟩, .bool false] 8 27 (.tmp 16) rfl (by kernel_rfl) (by simp [toG, upd]) rfl (fun w k h => put_int _ _ _ _ _ _ w k h) ?_
  simp only [Act.put]
  refine lexG_nil ?_
  intro κ x5 hS
  replace hL0 := hL0.ghs hS [(8, [.int .u64 ((zl 0 : Nat) : Int), .string (zh 0), .bool (zs 0)]), (7, [.int .u64 ((zl b : Nat) : Int), .string (zh b), .bool (zs b)])] (by simp) (by intro p hp; simp only [List.mem_cons, List.not_mem_nil, or_false] at hp; rcases hp with rfl | rfl <;> exact ⟨_, by simp only [toG, upd]; rfl⟩)
  simp only [List.map_cons, List.map_nil, List.cons_append, List.nil_append] at hL0
  simp only [over_toG, over_nil, Act.put, List.setIfInBounds_toArray, List.set_cons_succ, List.set_cons_zero]
  clear hS
  generalize κ 8 = k5_8 at *
  generalize κ 7 = k5_7 at *
  clear HO1 HO0
  have hA := hL0.fc
  simp only [fcG, cellsF, neK, and_true, ne_eq, Nat.zero_add, Nat.reduceAdd] at hA
  go_wp2_with fail
  clear hA
  go_loopw [11] (fun _ wr => ∃ G X N Y : Int, GI a b G X N Y ∧ GL w wr [(k5_8, [.int .u64 ((zl Y : Nat) : Int), .string (zh Y), .bool (zs Y)]), (k5_7, [.int .u64 ((zl N : Nat) : Int), .string (zh N), .bool (zs N)]), (w.heap.size + 1 + 1 + 1 + 1, [.int .u64 0, .string ⟨#[]⟩, .bool false]), (w.heap.size + 1 + 1 + 1, [.int .u64 ((zl X : Nat) : Int), .string (zh X), .bool (zs X)]), (w.heap.size + 1 + 1, [.int .u64 ((zl G : Nat) : Int), .string (zh G), .bool (zs G)]), (w.heap.size + 1, [.int .u64 ((zl b : Nat) : Int), .string (zh b), .bool (zs b)]), (w.heap.size, [.int .u64 ((zl a : Nat) : Int), .string (zh a), .bool (zs a)])]) (fun _ wr => rdn wr k5_7)
  case atStart => exact ⟨a, 1, b, 0, GI.start a b, hL0⟩
  case round =>
    clear hL0
    obtain ⟨G, X, N, Y, hG, hL0⟩ := hrel
    obtain ⟨b1, b2, b3, b4⟩ := hG.bounds ha hb
    by_cases hN : N = 0
    · subst hN
      obtain ⟨e0, e1, e2⟩ := eqz
      obtain ⟨l1, l2⟩ := hG.last
      have hs1 : dI (sgn G) ≤ 1 := digs_length_iff.2 (by have : (sgn G).natAbs ≤ 1 := (by unfold sgn; split <;> (try split) <;> omega); unfold Bs; omega)
      have hs2 : -1 ≤ sgn G ∧ sgn G ≤ 1 := by unfold sgn; split <;> (try split) <;> omega
      have HSg := Lib.hid (fun w => signI G w)
      have HOs := Lib.hid (fun w => ofI (sgn G) (by omega) (by omega) w)
      have HM1 := fun w => mulI (sgn G) G (by omega) (by omega) w
      have HM2 := fun w => mulI (sgn G) X (by omega) (by omega) w
      have q1 : dI (sgn G * G) ≤ 1 + 1000 := dI_mul hs1 b1
      have q2 : dI (sgn G * X) ≤ 1 + 1001 := dI_mul hs1 b3
      rw [← l1] at HM1 q1
      rw [← l2] at HM2 q2
      have HM3 := Lib.hid (fun w => mulI a (xgcd a b).2.1 (by omega) (by omega) w)
      have q3 : dI (a * (xgcd a b).2.1) ≤ 1000 + 1002 := dI_mul ha q2
      have HS := Lib.hid (fun w => subI (xgcd a b).1 (a * (xgcd a b).2.1) (by omega) (by omega) w)
      have q4 : dI ((xgcd a b).1 - a * (xgcd a b).2.1) ≤ 2002 + 1 := dI_sub (by omega) (by omega)
      obtain ⟨R, o, HD⟩ : ∃ (R : Int) (o : Bool), ∀ w, Calls Tryd.prog 23 #[intV ((xgcd a b).1 - a * (xgcd a b).2.1), intV b] w fun e w' => e = .returned (.tuple #[intV (xgcd a b).2.2, intV R, .bool o]) ∧ Below w.heap.size w w' := by
        by_cases h : b = 0
        · subst h; refine ⟨0, false, fun w => ?_⟩; rw [show (xgcd a 0).2.2 = 0 by rw [xgcd_zero]]; exact div0I _ w
        · refine ⟨((xgcd a b).1 - a * (xgcd a b).2.1) % b, true, fun w => ?_⟩; have := divI _ b h (Nat.le_trans q4 (by omega)) (by omega) w; rw [xgcd_y h] at this; exact this
      clear hG l1 l2 b1 b2 b3 b4 hs1 hs2 q1 q2 q3 q4 ha hb
      replace HM1 := Lib.hid HM1
      replace HM2 := Lib.hid HM2
      replace HD := Lib.hid HD
      generalize (xgcd a b).1 - a * (xgcd a b).2.1 = d at *
      generalize a * (xgcd a b).2.1 = p at *
      generalize hg : (xgcd a b).1 = g at *
      generalize hx : (xgcd a b).2.1 = x at *
      generalize hy : (xgcd a b).2.2 = y at *
      replace hg := Lib.hid hg
      replace hx := Lib.hid hx
      replace hy := Lib.hid hy
      generalize sgn G = s at *
      have hA := hL0.fc
      simp only [fcG, cellsF, neK, and_true, ne_eq, Nat.zero_add, Nat.reduceAdd] at hA
      go_wp2_with fail
      clear hA
      with_reducible refine Calls.mono (HSg.out _) ?_
      rintro e x6 ⟨rfl, hb⟩
      replace hL0 := hL0.call hb
      clear hb
      have hA := hL0.fc
      simp only [fcG, cellsF, neK, and_true, ne_eq, Nat.zero_add, Nat.reduceAdd] at hA
      go_wp2_with fail
      clear hA
      with_reducible refine Calls.mono (HOs.out _) ?_
      rintro e x7 ⟨rfl, hb⟩
      replace hL0 := hL0.call hb
      clear hb
      replace hL0 := (hL0.new rfl [.int .u64 ((zl s : Nat) : Int), .string (zh s), .bool (zs s)] 27)
      generalize hweq : (x7.alloc (.cells #[.int .u64 ((zl s : Nat) : Int), .string (zh s), .bool (zs s)] 27)) = x8 at hL0
      have hA := hL0.fc
      simp only [fcG, cellsF, neK, and_true, ne_eq, Nat.zero_add, Nat.reduceAdd] at hA
      go_upto_region 8 with fail
      clear hA
      clear hweq
      obtain ⟨α, iα, F, hF1, hF2⟩ := cls x8
      have hq := GL.fcC hF1 hL0
      simp only [fcC, cellsC, and_true, Nat.zero_add, Nat.reduceAdd] at hq
      refine region_qs 6 (C := fun w' => ∃ x, w' = F x) (by kernel_rfl) (by kernel_rfl) (cls_drew hF2) ?_
      simp only [List.take_succ_cons, List.take_zero, List.drop_succ_cons, List.drop_zero, List.take_nil, List.drop_nil]
      repeat (go_big_quiet_step (first | fail | (go_at_call 18; with_reducible exact cls_call hF1 hF2 HM1.out _) | (go_at_call 18; with_reducible exact cls_call hF1 hF2 HM2.out _)))
      refine wpQuiet_nil ?_
      rintro wq ⟨xq, rfl⟩
      replace hL0 := hL0.call (hF1 xq)
      clear hq hF2
      generalize F xq = x9 at hL0 ⊢
      clear hF1 xq iα F α
      have hA := hL0.fc
      simp only [fcG, cellsF, neK, and_true, ne_eq, Nat.zero_add, Nat.reduceAdd] at hA
      have hP := hL0.put 5 (w.heap.size + 1 + 1) _ rfl [.int .u64 ((zl g : Nat) : Int), .string (zh g), .bool (zs g)] rfl
      simp only [setAll, List.set_cons_zero, List.set_cons_succ] at hP
      generalize hput3 : (((x9.setCell ⟨w.heap.size + 1 + 1, 0, none⟩ (.int .u64 ((zl g : Nat) : Int))).setCell ⟨w.heap.size + 1 + 1, 1, none⟩ (.string (zh g))).setCell ⟨w.heap.size + 1 + 1, 2, none⟩ (.bool (zs g))) = x10 at hP
      have hB3 := hP.fc
      simp only [fcG, cellsF, neK, and_true, ne_eq, Nat.zero_add, Nat.reduceAdd] at hB3
      replace hL0 := hP
      have hP := hL0.put 4 (w.heap.size + 1 + 1 + 1) _ rfl [.int .u64 ((zl x : Nat) : Int), .string (zh x), .bool (zs x)] rfl
      simp only [setAll, List.set_cons_zero, List.set_cons_succ] at hP
      generalize hput4 : (((x10.setCell ⟨w.heap.size + 1 + 1 + 1, 0, none⟩ (.int .u64 ((zl x : Nat) : Int))).setCell ⟨w.heap.size + 1 + 1 + 1, 1, none⟩ (.string (zh x))).setCell ⟨w.heap.size + 1 + 1 + 1, 2, none⟩ (.bool (zs x))) = x11 at hP
      have hB4 := hP.fc
      simp only [fcG, cellsF, neK, and_true, ne_eq, Nat.zero_add, Nat.reduceAdd] at hB4
      replace hL0 := hP
      go_upto_region 9 with fail
      clear hA
      clear hput3 hB3 hput4 hB4
      obtain ⟨α, iα, F, hF1, hF2⟩ := cls x11
      have hq := GL.fcC hF1 hL0
      simp only [fcC, cellsC, and_true, Nat.zero_add, Nat.reduceAdd] at hq
      refine region_qa 8 (C := fun w' => ∃ x, w' = F x) (by kernel_rfl) (by kernel_rfl) (cls_drew hF2) ?_
      simp only [List.take_succ_cons, List.take_zero, List.drop_succ_cons, List.drop_zero, List.take_nil, List.drop_nil]
      repeat (go_big_quiet_step (first | fail | (go_at_call 18; with_reducible exact cls_call hF1 hF2 HM3.out _) | (go_at_call 25; with_reducible exact cls_call hF1 hF2 HS.out _) | (go_at_call 23; with_reducible exact cls_call hF1 hF2 HD.out _)))
      refine wpQuiet_nil ?_
      rintro wq ⟨xq, rfl⟩
      replace hL0 := hL0.call (hF1 xq)
      clear hq hF2
      generalize F xq = x12 at hL0 ⊢
      clear hF1 xq iα F α
      refine any_pure (i := 8) (m := 3) _ (intV y) rfl rfl (by kernel_rfl) (fun _ _ _ h => h) (fun w => by simp [execOp, go_sem]) ?_
      refine any_pure (i := 9) (m := 2) _ (intV R) rfl rfl (by kernel_rfl) (fun _ _ _ h => h) (fun w => by simp [execOp, go_sem]) ?_
      refine any_pure (i := 10) (m := 1) _ (.bool o) rfl rfl (by kernel_rfl) (fun _ _ _ h => h) (fun w => by simp [execOp, go_sem]) ?_
      refine any_seq 11 rfl (by kernel_rfl) ?_
      simp only [List.take_succ_cons, List.take_zero, List.drop_succ_cons, List.drop_zero, List.take_nil, List.drop_nil]
      have hA := hL0.fc
      simp only [fcG, cellsF, neK, and_true, ne_eq, Nat.zero_add, Nat.reduceAdd] at hA
      have hP := hL0.put 3 (w.heap.size + 1 + 1 + 1 + 1) _ rfl [.int .u64 ((zl y : Nat) : Int), .string (zh y), .bool (zs y)] rfl
      simp only [setAll, List.set_cons_zero, List.set_cons_succ] at hP
      generalize hput5 : (((x12.setCell ⟨w.heap.size + 1 + 1 + 1 + 1, 0, none⟩ (.int .u64 ((zl y : Nat) : Int))).setCell ⟨w.heap.size + 1 + 1 + 1 + 1, 1, none⟩ (.string (zh y))).setCell ⟨w.heap.size + 1 + 1 + 1 + 1, 2, none⟩ (.bool (zs y))) = x13 at hP
      have hB5 := hP.fc
      simp only [fcG, cellsF, neK, and_true, ne_eq, Nat.zero_add, Nat.reduceAdd] at hB5
      replace hL0 := hP
      go_upto_region 10 with fail
      clear hput5 hB5
      clear hA
      have hA := hL0.fc
      simp only [fcG, cellsF, neK, and_true, ne_eq, Nat.zero_add, Nat.reduceAdd] at hA
      obtain ⟨⟨c0, c1, c2⟩, cf0, cn0, ⟨c3, c4, c5⟩, cf1, cn1, ⟨c6, c7, c8⟩, cf2, cn2, ⟨c9, c10, c11⟩, cf3, cn3, ⟨c12, c13, c14⟩, cf4, cn4, ⟨c15, c16, c17⟩, cf5, cn5, ⟨c18, c19, c20⟩, cf6, cn6, ⟨c21, c22, c23⟩, cf7⟩ := id hA
      clear hA
      go_region
      have hP := (((hL0.put 5 (w.heap.size + 1 + 1) _ rfl [.int .u64 ((zl g : Nat) : Int), .string (zh g), .bool (zs g)] rfl).put 4 (w.heap.size + 1 + 1 + 1) _ rfl [.int .u64 ((zl x : Nat) : Int), .string (zh x), .bool (zs x)] rfl).put 3 (w.heap.size + 1 + 1 + 1 + 1) _ rfl [.int .u64 ((zl y : Nat) : Int), .string (zh y), .bool (zs y)] rfl).drew
      simp only [setAll, List.set_cons_zero, List.set_cons_succ] at hP
      generalize (((((((((x13.setCell ⟨w.heap.size + 1 + 1, 0, none⟩ (.int .u64 ((zl g : Nat) : Int))).setCell ⟨w.heap.size + 1 + 1, 1, none⟩ (.string (zh g))).setCell ⟨w.heap.size + 1 + 1, 2, none⟩ (.bool (zs g))).setCell ⟨w.heap.size + 1 + 1 + 1, 0, none⟩ (.int .u64 ((zl x : Nat) : Int))).setCell ⟨w.heap.size + 1 + 1 + 1, 1, none⟩ (.string (zh x))).setCell ⟨w.heap.size + 1 + 1 + 1, 2, none⟩ (.bool (zs x))).setCell ⟨w.heap.size + 1 + 1 + 1 + 1, 0, none⟩ (.int .u64 ((zl y : Nat) : Int))).setCell ⟨w.heap.size + 1 + 1 + 1 + 1, 1, none⟩ (.string (zh y))).setCell ⟨w.heap.size + 1 + 1 + 1 + 1, 2, none⟩ (.bool (zs y))).drew = x14 at hP ⊢
      clear hL0
      have hL0 := hP
      clear hP
      clear c0 c1 c2 cf0 cn0 c3 c4 c5 cf1 cn1 c6 c7 c8 cf2 cn2 c9 c10 c11 cf3 cn3 c12 c13 c14 cf4 cn4 c15 c16 c17 cf5 cn5 c18 c19 c20 cf6 cn6 c21 c22 c23 cf7
      have hA := hL0.fc
      simp only [fcG, cellsF, neK, and_true, ne_eq, Nat.zero_add, Nat.reduceAdd] at hA
      go_wp2_with fail
      exact bodyPost_ret (v := .tuple #[intV g, intV x, intV y]) (by simp [results, Tryd.results16, go_sem, hA]) rfl ⟨by rw [hg.out, hx.out, hy.out], hL0.bl⟩
    · have HD := Lib.hid (fun w => divI G N hN (by omega) (by omega) w)
      have q1 : dI (G / N) ≤ 1000 := Nat.le_trans (dI_mono (Int.natAbs_ediv_le_natAbs _ _)) b1
      have HM := Lib.hid (fun w => mulI (G / N) Y (by omega) (by have := b4 hN; omega) w)
      have q2 : dI (G / N * Y) ≤ 1000 + 1001 := dI_mul q1 (b4 hN)
      have HS := Lib.hid (fun w => subI X (G / N * Y) (by omega) (by omega) w)
      have hG1 := Lib.hid (hG.next hN)
      have hlt := Lib.hid (Int.emod_lt G hN)
      have hge := Lib.hid (Int.emod_nonneg G hN)
      have hw0 := Lib.hid (rdz (hL0.get _ _ (List.mem_cons_of_mem _ List.mem_cons_self)))
      generalize X - G / N * Y = Y' at *
      generalize G / N * Y = p at *
      generalize G / N = q at *
      generalize G % N = r at *
      have e := nez hN
      clear hG b1 b2 b3 b4 q1 q2 ha hb hN
      rcases e with e0 | ⟨e0, e1⟩ | ⟨e0, e1, e2⟩
      all_goals (
        have hA := hL0.fc
        simp only [fcG, cellsF, neK, and_true, ne_eq, Nat.zero_add, Nat.reduceAdd] at hA
        go_wp2_with fail
        clear hA
        with_reducible refine Calls.mono (HD.out _) ?_
        rintro e x15 ⟨rfl, hb⟩
        replace hL0 := hL0.call hb
        clear hb
        replace hL0 := ((hL0.new rfl [.int .u64 ((zl q : Nat) : Int), .string (zh q), .bool (zs q)] 27).new (K := x15.heap.size + 1) (szA _ _) [.int .u64 ((zl r : Nat) : Int), .string (zh r), .bool (zs r)] 27)
        generalize hweq : ((x15.alloc (.cells #[.int .u64 ((zl q : Nat) : Int), .string (zh q), .bool (zs q)] 27)).alloc (.cells #[.int .u64 ((zl r : Nat) : Int), .string (zh r), .bool (zs r)] 27)) = x16 at hL0
        have hA := hL0.fc
        simp only [fcG, cellsF, neK, and_true, ne_eq, Nat.zero_add, Nat.reduceAdd] at hA
        go_upto_region 5 with fail
        clear hweq
        obtain ⟨⟨c0, c1, c2⟩, cf0, cn0, ⟨c3, c4, c5⟩, cf1, cn1, ⟨c6, c7, c8⟩, cf2, cn2, ⟨c9, c10, c11⟩, cf3, cn3, ⟨c12, c13, c14⟩, cf4, cn4, ⟨c15, c16, c17⟩, cf5, cn5, ⟨c18, c19, c20⟩, cf6, cn6, ⟨c21, c22, c23⟩, cf7, cn7, ⟨c24, c25, c26⟩, cf8⟩ := id hA
        clear hA
        go_region
        have hP := ((hL0.put 6 (w.heap.size + 1 + 1) _ rfl [.int .u64 ((zl N : Nat) : Int), .string (zh N), .bool (zs N)] rfl).put 3 (k5_7) _ rfl [.int .u64 ((zl r : Nat) : Int), .string (zh r), .bool (zs r)] rfl).drew
        simp only [setAll, List.set_cons_zero, List.set_cons_succ] at hP
        generalize ((((((x16.setCell ⟨w.heap.size + 1 + 1, 0, none⟩ (.int .u64 ((zl N : Nat) : Int))).setCell ⟨w.heap.size + 1 + 1, 1, none⟩ (.string (zh N))).setCell ⟨w.heap.size + 1 + 1, 2, none⟩ (.bool (zs N))).setCell ⟨k5_7, 0, none⟩ (.int .u64 ((zl r : Nat) : Int))).setCell ⟨k5_7, 1, none⟩ (.string (zh r))).setCell ⟨k5_7, 2, none⟩ (.bool (zs r))).drew = x17 at hP ⊢
        clear hL0
        have hL0 := hP
        clear hP
        clear c0 c1 c2 cf0 cn0 c3 c4 c5 cf1 cn1 c6 c7 c8 cf2 cn2 c9 c10 c11 cf3 cn3 c12 c13 c14 cf4 cn4 c15 c16 c17 cf5 cn5 c18 c19 c20 cf6 cn6 c21 c22 c23 cf7 cn7 c24 c25 c26 cf8
        have hA := hL0.fc
        simp only [fcG, cellsF, neK, and_true, ne_eq, Nat.zero_add, Nat.reduceAdd] at hA
        go_upto_region 6 with fail
        clear hA
        obtain ⟨α, iα, F, hF1, hF2⟩ := cls x17
        have hq := GL.fcC hF1 hL0
        simp only [fcC, cellsC, and_true, Nat.zero_add, Nat.reduceAdd] at hq
        refine region_qs 6 (C := fun w' => ∃ x, w' = F x) (by kernel_rfl) (by kernel_rfl) (cls_drew hF2) ?_
        simp only [List.take_succ_cons, List.take_zero, List.drop_succ_cons, List.drop_zero, List.take_nil, List.drop_nil]
        repeat (go_big_quiet_step (first | fail | (go_at_call 18; with_reducible exact cls_call hF1 hF2 HM.out _) | (go_at_call 25; with_reducible exact cls_call hF1 hF2 HS.out _)))
        refine wpQuiet_nil ?_
        rintro wq ⟨xq, rfl⟩
        replace hL0 := hL0.call (hF1 xq)
        clear hq hF2
        generalize F xq = x18 at hL0 ⊢
        clear hF1 xq iα F α
        have hA := hL0.fc
        simp only [fcG, cellsF, neK, and_true, ne_eq, Nat.zero_add, Nat.reduceAdd] at hA
        have hP := hL0.put 5 (w.heap.size + 1 + 1 + 1) _ rfl [.int .u64 ((zl Y : Nat) : Int), .string (zh Y), .bool (zs Y)] rfl
        simp only [setAll, List.set_cons_zero, List.set_cons_succ] at hP
        generalize hput6 : (((x18.setCell ⟨w.heap.size + 1 + 1 + 1, 0, none⟩ (.int .u64 ((zl Y : Nat) : Int))).setCell ⟨w.heap.size + 1 + 1 + 1, 1, none⟩ (.string (zh Y))).setCell ⟨w.heap.size + 1 + 1 + 1, 2, none⟩ (.bool (zs Y))) = x19 at hP
        have hB6 := hP.fc
        simp only [fcG, cellsF, neK, and_true, ne_eq, Nat.zero_add, Nat.reduceAdd] at hB6
        replace hL0 := hP
        have hP := hL0.put 2 (k5_8) _ rfl [.int .u64 ((zl Y' : Nat) : Int), .string (zh Y'), .bool (zs Y')] rfl
        simp only [setAll, List.set_cons_zero, List.set_cons_succ] at hP
        generalize hput7 : (((x19.setCell ⟨k5_8, 0, none⟩ (.int .u64 ((zl Y' : Nat) : Int))).setCell ⟨k5_8, 1, none⟩ (.string (zh Y'))).setCell ⟨k5_8, 2, none⟩ (.bool (zs Y'))) = x20 at hP
        have hB7 := hP.fc
        simp only [fcG, cellsF, neK, and_true, ne_eq, Nat.zero_add, Nat.reduceAdd] at hB7
        replace hL0 := hP
        go_wp2_with fail
        go_roundw
        case rel => exact ⟨N, Y, r, Y', hG1.out, hL0.weak (((List.Sublist.refl _).cons _).cons _)⟩
        case measure => (rw [hw0.out, rdz (hL0.get k5_7 [.int .u64 ((zl r : Nat) : Int), .string (zh r), .bool (zs r)] (by simp))]; have := hlt.out; have := hge.out; omega))
end Go.Proofs.YthehcjfmokabfaaDoor
