/-
  Layer 3, law: FracsLowest.
-/
import Derived.Test.YtecdnohhengfaaaGreatDoorZf
import Derived.ChangeMaps5
set_option linter.unusedVariables false
set_option linter.unusedSimpArgs false
namespace Go.Proofs.YtecdnohhengfaaaGreatDoor
open Go.RowKit
attribute [local irreducible] lo hs sm s64 c64 d64 b64 mh ml pd pc qd qc val hiB str cmpI srD lz nb isq decB zl zh zs

set_option maxHeartbeats 16000000 in
set_option maxRecDepth 100000 in
theorem flowest_big_w (sx : Bool) (ax qx : Option Addr) (nx cx mx dx : Nat) (k : Int) (lok : -9223372036854775808 ≤ k) (hik : k < 9223372036854775808) (KW : World → Prop) (hKW : Keeps KW) (HW : ∀ w, KW w → Calls Tryz.prog 57 #[] w fun xe w' => xe = .returned (.bool true) ∧ Below w.heap.size w w') (hfew : decide (nx ≤ 8 ∧ mx ≤ 8) = false) (w : World) (kKW : KW w) :
    Calls Tryz.prog 10 #[.agg #[.bool sx, .slice ax nx cx, .slice qx mx dx], .int .i64 k] w fun xe w' => xe = .returned (.bool true) ∧ Below w.heap.size w w' := by
  have hL0 : GL w w [] := GL.start w
  replace hKW := Lib.hid hKW
  replace HW := Lib.hid HW
  replace hL0 := ((hL0.new rfl [.bool sx, .slice ax nx cx, .slice qx mx dx] 76).new (K := w.heap.size + 1) (szA _ _) [.bool sx, .slice ax nx cx, .slice qx mx dx] 76)
  generalize hweq : ((w.alloc (.cells #[.bool sx, .slice ax nx cx, .slice qx mx dx] 76)).alloc (.cells #[.bool sx, .slice ax nx cx, .slice qx mx dx] 76)) = x1 at hL0
  go_enter Tryz.func10, Tryz.ntmps10
  have hN0 := cells_of _ 0 [] rfl (hL0.get _ _ (List.mem_cons_of_mem _ List.mem_cons_self))
  simp only [cellsF, and_true, Nat.zero_add, Nat.reduceAdd] at hN0
  have HFw := gfew1 8 8 rfl (by omega) (hL0.get _ _ List.mem_cons_self)
  rw [hfew] at HFw
  replace HFw := Lib.hid HFw
  go_wp2_with fail
  with_reducible refine Calls.mono (HFw.out) ?_
  rintro e x2 ⟨rfl, rfl⟩
  clear HFw
  clear hN0
  go_wp2_with fail
  with_reducible refine Calls.mono (HW.out _ (hKW.out.at hL0.bl kKW)) ?_
  rintro e x3 ⟨rfl, hb⟩
  replace hL0 := hL0.call hb
  clear hb hweq
  go_wp2_with fail
  exact bodyPost_ret (v := .bool true) (by simp [results, Tryz.results10, go_sem]) rfl ⟨rfl, hL0.bl⟩

theorem flowest_big (sx : Bool) (ax qx : Option Addr) (nx cx mx dx : Nat) (lx kx : List Nat) (k : Int) (lok : -9223372036854775808 ≤ k) (hik : k < 9223372036854775808) (h : ¬ (nx ≤ 8 ∧ mx ≤ 8)) (w : World) (htab : Tab w) (hm : MaxL w) (hwx : Ws w (.slice ax nx cx) lx) (hvx : Ws w (.slice qx mx dx) kx) :
    Calls Tryz.prog 10 #[.agg #[.bool sx, .slice ax nx cx, .slice qx mx dx], .int .i64 k] w fun xe w' => xe = .returned (.bool true) ∧ Below w.heap.size w w' := by
  have HW := fun w (h : Tab w ∧ MaxL w) => fworks_any w h.1 h.2
  exact flowest_big_w sx ax qx nx cx mx dx k lok hik _ (Keeps.and Keeps.tab MaxL.keeps) HW (decide_eq_false h) w ⟨htab, hm⟩

theorem red_gcd (q : Rat) : Nat.gcd q.num.natAbs q.den = 1 := q.reduced
theorem natV_z : natV 0 = .agg #[.int .u64 0, .string ⟨#[]⟩] := natV_zero
theorem lo1 : (((lo 1 : Nat) : Int) == 0) = false := by rw [lo_small (by unfold Bs; omega)]; rfl
set_option maxHeartbeats 16000000 in
set_option maxRecDepth 100000 in
theorem flowest_one_zero_w (sx : Bool) (ax qx : Option Addr) (nx cx mx dx : Nat) (a : Rat) (zn : Int) (an : Nat) (Kx : World → Prop) (hKx : Keeps Kx) (Gx : ∀ w, Kx w → Calls Tryz.prog 58 #[.agg #[.bool sx, .slice ax nx cx, .slice qx mx dx]] w fun xe w' => xe = .returned (.agg #[.int .u64 ((zl a.num : Nat) : Int), .string (zh a.num), .bool (zs a.num), .int .u64 ((lo (fe a) : Nat) : Int), .string (hs (fe a))]) ∧ Below w.heap.size w w') (HN : ∀ w, Calls Tryz.prog 84 #[.agg #[.int .u64 ((zl a.num : Nat) : Int), .string (zh a.num), .bool (zs a.num), .int .u64 ((lo (fe a) : Nat) : Int), .string (hs (fe a))]] w fun xe w' => xe = .returned (.agg #[.int .u64 ((zl zn : Nat) : Int), .string (zh zn), .bool (zs zn)]) ∧ Below w.heap.size w w') (HD : ∀ w, Calls Tryz.prog 85 #[.agg #[.int .u64 ((zl a.num : Nat) : Int), .string (zh a.num), .bool (zs a.num), .int .u64 ((lo (fe a) : Nat) : Int), .string (hs (fe a))]] w fun xe w' => xe = .returned (.agg #[.int .u64 ((lo 1 : Nat) : Int), .string (hs 1)]) ∧ Below w.heap.size w w') (HF : ∀ w, Calls Tryz.prog 86 #[.agg #[.int .u64 ((zl zn : Nat) : Int), .string (zh zn), .bool (zs zn)], .agg #[.int .u64 ((lo 1 : Nat) : Int), .string (hs 1)]] w fun xe w' => xe = .returned (.tuple #[.agg #[.int .u64 ((zl a.num : Nat) : Int), .string (zh a.num), .bool (zs a.num), .int .u64 ((lo (fe a) : Nat) : Int), .string (hs (fe a))], .int .i64 0]) ∧ Below w.heap.size w w') (HA : ∀ w, Calls Tryz.prog 43 #[.agg #[.int .u64 ((zl zn : Nat) : Int), .string (zh zn), .bool (zs zn)]] w fun xe w' => xe = .returned (.agg #[.int .u64 ((lo an : Nat) : Int), .string (hs an)]) ∧ Below w.heap.size w w') (HG : ∀ w, Calls Tryz.prog 87 #[.agg #[.int .u64 ((lo an : Nat) : Int), .string (hs an)], .agg #[.int .u64 ((lo 1 : Nat) : Int), .string (hs 1)]] w fun xe w' => xe = .returned (.agg #[.int .u64 ((lo 1 : Nat) : Int), .string (hs 1)]) ∧ Below w.heap.size w w') (HO : ∀ w, Calls Tryz.prog 88 #[.int .u64 1] w fun xe w' => xe = .returned (.agg #[.int .u64 ((lo 1 : Nat) : Int), .string (hs 1)]) ∧ Below w.heap.size w w') (HV : ∀ w, Calls Tryz.prog 89 #[.agg #[.int .u64 ((zl a.num : Nat) : Int), .string (zh a.num), .bool (zs a.num), .int .u64 ((lo (fe a) : Nat) : Int), .string (hs (fe a))]] w fun xe w' => xe = .returned (.bool true) ∧ Below w.heap.size w w') (HZ : ∀ w, Calls Tryz.prog 86 #[.agg #[.int .u64 ((zl zn : Nat) : Int), .string (zh zn), .bool (zs zn)], .agg #[.int .u64 0, .string ⟨#[]⟩]] w fun xe w' => xe = .returned (.tuple #[.agg #[.int .u64 0, .string ⟨#[]⟩, .bool false, .int .u64 0, .string ⟨#[]⟩], .int .i64 5]) ∧ Below w.heap.size w w') (KW : World → Prop) (hKW : Keeps KW) (HW : ∀ w, KW w → Calls Tryz.prog 57 #[] w fun xe w' => xe = .returned (.bool true) ∧ Below w.heap.size w w') (hfew : decide (nx ≤ 8 ∧ mx ≤ 8) = true) (e01 : (((lo 1 : Nat) : Int) == 0) = false) (w : World) (kKx : Kx w) (kKW : KW w) :
    Calls Tryz.prog 10 #[.agg #[.bool sx, .slice ax nx cx, .slice qx mx dx], .int .i64 0] w fun xe w' => xe = .returned (.bool true) ∧ Below w.heap.size w w' := by
  have hL0 : GL w w [] := GL.start w
  replace hKx := Lib.hid hKx
  replace Gx := Lib.hid Gx
  replace HN := Lib.hid HN
  replace HD := Lib.hid HD
  replace HF := Lib.hid HF
  replace HA := Lib.hid HA
  replace HG := Lib.hid HG
  replace HO := Lib.hid HO
  replace HV := Lib.hid HV
  replace HZ := Lib.hid HZ
  replace hKW := Lib.hid hKW
  replace HW := Lib.hid HW
  replace hL0 := ((hL0.new rfl [.bool sx, .slice ax nx cx, .slice qx mx dx] 76).new (K := w.heap.size + 1) (szA _ _) [.bool sx, .slice ax nx cx, .slice qx mx dx] 76)
  generalize hweq : ((w.alloc (.cells #[.bool sx, .slice ax nx cx, .slice qx mx dx] 76)).alloc (.cells #[.bool sx, .slice ax nx cx, .slice qx mx dx] 76)) = x1 at hL0
  go_enter Tryz.func10, Tryz.ntmps10
  have hN0 := cells_of _ 0 [] rfl (hL0.get _ _ (List.mem_cons_of_mem _ List.mem_cons_self))
  simp only [cellsF, and_true, Nat.zero_add, Nat.reduceAdd] at hN0
  have HFw := gfew1 8 8 rfl (by omega) (hL0.get _ _ List.mem_cons_self)
  rw [hfew] at HFw
  replace HFw := Lib.hid HFw
  go_wp2_with fail
  with_reducible refine Calls.mono (HFw.out) ?_
  rintro e x2 ⟨rfl, rfl⟩
  clear HFw
  clear hN0
  have hN0 := cells_of _ 0 [] rfl (hL0.get _ _ (List.mem_cons_of_mem _ List.mem_cons_self))
  simp only [cellsF, and_true, Nat.zero_add, Nat.reduceAdd] at hN0
  go_wp2_with fail
  clear hN0
  with_reducible refine Calls.mono (Gx.out _ (hKx.out.at hL0.bl kKx)) ?_
  rintro e x3 ⟨rfl, hb⟩
  replace hL0 := hL0.call hb
  clear hb hweq
  replace hL0 := (hL0.new rfl [.int .u64 ((zl a.num : Nat) : Int), .string (zh a.num), .bool (zs a.num), .int .u64 ((lo (fe a) : Nat) : Int), .string (hs (fe a))] 79)
  generalize hweq : (x3.alloc (.cells #[.int .u64 ((zl a.num : Nat) : Int), .string (zh a.num), .bool (zs a.num), .int .u64 ((lo (fe a) : Nat) : Int), .string (hs (fe a))] 79)) = x4 at hL0
  go_upto_region 4 with fail
  clear hweq
  refine region_gh (by kernel_rfl) (by kernel_rfl) ?_
  refine lex_seg (gl := []) 4 (by kernel_rfl) ?_
  intro α iα F hF1 hF2
  have hq := GL.seg hF1 hL0
  simp only [fcC, cellsC, and_true, Nat.zero_add, Nat.reduceAdd] at hq
  simp only [List.take_succ_cons, List.take_zero, List.drop_succ_cons, List.drop_zero, List.take_nil, List.drop_nil]
  repeat (go_big_quiet_step (first | fail | (go_at_call 84; with_reducible exact seg_call hF2 HN.out _) | (go_at_call 85; with_reducible exact seg_call hF2 HD.out _)))
  refine wpQuiet_nil ?_
  clear hq hF1 hF2 iα F α
  refine lex_new [.int .u64 0, .string ⟨#[]⟩, .bool false] 6 39 39 rfl rfl (of_decide_eq_true (by kernel_rfl)) (by kernel_rfl) rfl new_int ?_
  simp only [Act.put, List.setIfInBounds_toArray, List.set_cons_succ, List.set_cons_zero]
  refine lex_new [.int .u64 0, .string ⟨#[]⟩] 7 32 32 rfl rfl (of_decide_eq_true (by kernel_rfl)) (by kernel_rfl) rfl new_natc ?_
  simp only [Act.put, List.setIfInBounds_toArray, List.set_cons_succ, List.set_cons_zero]
  refine lex_put [.int .u64 ((zl zn : Nat) : Int), .string (zh zn), .bool (zs zn)] [.int .u64 0, .string ⟨#[]⟩, .bool false] 6 39 (.tmp 23) rfl (by kernel_rfl) (by simp [toG, upd]) rfl (fun w k h => put_int _ _ _ _ _ _ w k h) ?_
  simp only [Act.put]
  refine lex_put [.int .u64 ((lo 1 : Nat) : Int), .string (hs 1)] [.int .u64 0, .string ⟨#[]⟩] 7 32 (.tmp 25) rfl (by kernel_rfl) (by simp [toG, upd]) rfl (fun w k h => put_natc _ _ _ _ w k h) ?_
  simp only [Act.put]
  refine lexG_nil ?_
  intro κ x5 hS
  replace hL0 := hL0.ghs hS [(7, [.int .u64 ((lo 1 : Nat) : Int), .string (hs 1)]), (6, [.int .u64 ((zl zn : Nat) : Int), .string (zh zn), .bool (zs zn)])] (by simp) (by intro p hp; simp only [List.mem_cons, List.not_mem_nil, or_false] at hp; rcases hp with rfl | rfl <;> exact ⟨_, by simp only [toG, upd]; rfl⟩)
  simp only [List.map_cons, List.map_nil, List.cons_append, List.nil_append] at hL0
  simp only [over_toG, over_nil, Act.put, List.setIfInBounds_toArray, List.set_cons_succ, List.set_cons_zero]
  clear hS
  generalize κ 7 = k5_7 at *
  generalize κ 6 = k5_6 at *
  have hN0 := cells_of _ 0 [] rfl (hL0.get _ _ List.mem_cons_self)
  simp only [cellsF, and_true, Nat.zero_add, Nat.reduceAdd] at hN0
  have hN1 := cells_of _ 0 [] rfl (hL0.get _ _ (List.mem_cons_of_mem _ List.mem_cons_self))
  simp only [cellsF, and_true, Nat.zero_add, Nat.reduceAdd] at hN1
  go_wp2_with fail
  clear hN0 hN1
  with_reducible refine Calls.mono (HF.out _) ?_
  rintro e x6 ⟨rfl, hb⟩
  replace hL0 := hL0.call hb
  clear hb
  replace hL0 := (hL0.new rfl [.int .u64 ((zl a.num : Nat) : Int), .string (zh a.num), .bool (zs a.num), .int .u64 ((lo (fe a) : Nat) : Int), .string (hs (fe a))] 79)
  generalize hweq : (x6.alloc (.cells #[.int .u64 ((zl a.num : Nat) : Int), .string (zh a.num), .bool (zs a.num), .int .u64 ((lo (fe a) : Nat) : Int), .string (hs (fe a))] 79)) = x7 at hL0
  go_upto_region 6 with fail
  clear hweq
  obtain ⟨α, iα, F, hF1, hF2⟩ := cls x7
  have hq0 := cls_box hF1 hL0 _ _ List.mem_cons_self
  simp only [cellsC, and_true, Nat.zero_add, Nat.reduceAdd] at hq0
  have hq1 := cls_box hF1 hL0 _ _ (List.mem_cons_of_mem _ List.mem_cons_self)
  simp only [cellsC, and_true, Nat.zero_add, Nat.reduceAdd] at hq1
  have hq2 := cls_box hF1 hL0 _ _ (List.mem_cons_of_mem _ (List.mem_cons_of_mem _ List.mem_cons_self))
  simp only [cellsC, and_true, Nat.zero_add, Nat.reduceAdd] at hq2
  have hq3 := cls_box hF1 hL0 _ _ (List.mem_cons_of_mem _ (List.mem_cons_of_mem _ (List.mem_cons_of_mem _ List.mem_cons_self)))
  simp only [cellsC, and_true, Nat.zero_add, Nat.reduceAdd] at hq3
  refine region_qs 28 (C := fun w' => ∃ x, w' = F x) (by kernel_rfl) (by kernel_rfl) (cls_drew hF2) ?_
  simp only [List.take_succ_cons, List.take_zero, List.drop_succ_cons, List.drop_zero, List.take_nil, List.drop_nil]
  repeat (go_big_quiet_step (first | fail | (go_at_call 43; with_reducible exact cls_call hF1 hF2 HA.out _) | (go_at_call 87; with_reducible exact cls_call hF1 hF2 HG.out _) | (go_at_call 88; with_reducible exact cls_call hF1 hF2 HO.out _) | (go_at_call 89; with_reducible exact cls_call hF1 hF2 HV.out _)))
  refine wpQuiet_nil ?_
  rintro wq ⟨xq, rfl⟩
  replace hL0 := hL0.call (hF1 xq)
  clear  hq0 hq1 hq2 hq3 hF2
  generalize F xq = x8 at hL0 ⊢
  clear hF1 xq iα F α
  have hN0 := cells_of _ 0 [] rfl (hL0.get _ _ (List.mem_cons_of_mem _ (List.mem_cons_of_mem _ List.mem_cons_self)))
  simp only [cellsF, and_true, Nat.zero_add, Nat.reduceAdd] at hN0
  go_wp2_with fail
  clear hN0
  with_reducible refine Calls.mono (HZ.out _) ?_
  rintro e x9 ⟨rfl, hb⟩
  replace hL0 := hL0.call hb
  clear hb
  replace hL0 := (hL0.new rfl [.int .u64 0, .string ⟨#[]⟩, .bool false, .int .u64 0, .string ⟨#[]⟩] 79)
  generalize hweq : (x9.alloc (.cells #[.int .u64 0, .string ⟨#[]⟩, .bool false, .int .u64 0, .string ⟨#[]⟩] 79)) = x10 at hL0
  have hA := hL0.fc
  simp only [fcG, cellsF, neK, and_true, ne_eq, Nat.zero_add, Nat.reduceAdd] at hA
  have hP := hL0.put 0 (x9.heap.size) _ rfl [.int .u64 0, .string ⟨#[]⟩, .bool false, .int .u64 0, .string ⟨#[]⟩] rfl
  simp only [setAll, List.set_cons_zero, List.set_cons_succ] at hP
  generalize hput1 : (((((x10.setCell ⟨x9.heap.size, 0, none⟩ (.int .u64 0)).setCell ⟨x9.heap.size, 1, none⟩ (.string ⟨#[]⟩)).setCell ⟨x9.heap.size, 2, none⟩ (.bool false)).setCell ⟨x9.heap.size, 3, none⟩ (.int .u64 0)).setCell ⟨x9.heap.size, 4, none⟩ (.string ⟨#[]⟩)) = x11 at hP
  have hB1 := hP.fc
  simp only [fcG, cellsF, neK, and_true, ne_eq, Nat.zero_add, Nat.reduceAdd] at hB1
  replace hL0 := hP
  go_wp2_with fail
  clear hA
  with_reducible refine Calls.mono (HW.out _ (hKW.out.at hL0.bl kKW)) ?_
  rintro e x12 ⟨rfl, hb⟩
  replace hL0 := hL0.call hb
  clear hb hweq hput1 hB1
  go_wp2_with fail
  exact bodyPost_ret (v := .bool true) (by simp [results, Tryz.results10, go_sem]) rfl ⟨rfl, hL0.bl⟩

theorem flowest_one_zero (sx : Bool) (ax qx : Option Addr) (nx cx mx dx : Nat) (lx kx : List Nat) (hk : nx ≤ 8 ∧ mx ≤ 8) (h1 : (gmade sx lx kx).den = 1) (w : World) (htab : Tab w) (hm : MaxL w) (hwx : Ws w (.slice ax nx cx) lx) (hvx : Ws w (.slice qx mx dx) kx) :
    Calls Tryz.prog 10 #[.agg #[.bool sx, .slice ax nx cx, .slice qx mx dx], .int .i64 0] w fun xe w' => xe = .returned (.bool true) ∧ Below w.heap.size w w' := by
  have elx := hwx.len
  have ekx := hvx.len
  have Gx := fun w (h : Ws w (.slice ax nx cx) lx ∧ Ws w (.slice qx mx dx) kx) => gof_any sx ax qx nx cx mx dx lx kx (by omega) (by omega) w h.1 h.2
  have Sa : Sz (gmade sx lx kx) 9 := gmade_sz (by omega) hwx hvx (by omega) (by omega)
  generalize gmade sx lx kx = a at *
  have HN := fun w => numF a w
  have HD := fun w => denF a w
  have HF := fun w => fromF a.num a.den a.den_nz (Nat.le_trans Sa.n (by omega)) (Nat.le_trans Sa.d (by omega)) w
  rw [Rat.mkRat_self] at HF
  have HA := fun w => absI a.num w
  have HG := fun w => gcd_any a.num.natAbs a.den (Nat.le_trans Sa.n (by omega)) (Nat.le_trans Sa.d (by omega)) w
  rw [red_gcd] at HG
  have HO := one_o
  have HV := fun w => wholeF a w
  have HZ := fun w => from0F a.num w
  rw [natV_z, frV_q0] at HZ
  rw [h1] at HD HF HG
  rw [decide_eq_true h1] at HV
  have HW := fun w (h : Tab w ∧ MaxL w) => fworks_any w h.1 h.2
  exact flowest_one_zero_w sx ax qx nx cx mx dx  a a.num a.num.natAbs _ (Keeps.and (Keeps.ws _ _) (Keeps.ws _ _)) Gx HN HD HF HA HG HO HV HZ _ (Keeps.and Keeps.tab MaxL.keeps) HW (decide_eq_true hk) lo1 w ⟨hwx, hvx⟩ ⟨htab, hm⟩

set_option maxHeartbeats 16000000 in
set_option maxRecDepth 100000 in
theorem flowest_one_pos_w (sx : Bool) (ax qx : Option Addr) (nx cx mx dx : Nat) (k : Int) (a : Rat) (zn : Int) (an : Nat) (kn : Nat) (zk : Int) (dk : Nat) (kz : Int) (Kx : World → Prop) (hKx : Keeps Kx) (Gx : ∀ w, Kx w → Calls Tryz.prog 58 #[.agg #[.bool sx, .slice ax nx cx, .slice qx mx dx]] w fun xe w' => xe = .returned (.agg #[.int .u64 ((zl a.num : Nat) : Int), .string (zh a.num), .bool (zs a.num), .int .u64 ((lo (fe a) : Nat) : Int), .string (hs (fe a))]) ∧ Below w.heap.size w w') (HN : ∀ w, Calls Tryz.prog 84 #[.agg #[.int .u64 ((zl a.num : Nat) : Int), .string (zh a.num), .bool (zs a.num), .int .u64 ((lo (fe a) : Nat) : Int), .string (hs (fe a))]] w fun xe w' => xe = .returned (.agg #[.int .u64 ((zl zn : Nat) : Int), .string (zh zn), .bool (zs zn)]) ∧ Below w.heap.size w w') (HD : ∀ w, Calls Tryz.prog 85 #[.agg #[.int .u64 ((zl a.num : Nat) : Int), .string (zh a.num), .bool (zs a.num), .int .u64 ((lo (fe a) : Nat) : Int), .string (hs (fe a))]] w fun xe w' => xe = .returned (.agg #[.int .u64 ((lo 1 : Nat) : Int), .string (hs 1)]) ∧ Below w.heap.size w w') (HF : ∀ w, Calls Tryz.prog 86 #[.agg #[.int .u64 ((zl zn : Nat) : Int), .string (zh zn), .bool (zs zn)], .agg #[.int .u64 ((lo 1 : Nat) : Int), .string (hs 1)]] w fun xe w' => xe = .returned (.tuple #[.agg #[.int .u64 ((zl a.num : Nat) : Int), .string (zh a.num), .bool (zs a.num), .int .u64 ((lo (fe a) : Nat) : Int), .string (hs (fe a))], .int .i64 0]) ∧ Below w.heap.size w w') (HA : ∀ w, Calls Tryz.prog 43 #[.agg #[.int .u64 ((zl zn : Nat) : Int), .string (zh zn), .bool (zs zn)]] w fun xe w' => xe = .returned (.agg #[.int .u64 ((lo an : Nat) : Int), .string (hs an)]) ∧ Below w.heap.size w w') (HG : ∀ w, Calls Tryz.prog 87 #[.agg #[.int .u64 ((lo an : Nat) : Int), .string (hs an)], .agg #[.int .u64 ((lo 1 : Nat) : Int), .string (hs 1)]] w fun xe w' => xe = .returned (.agg #[.int .u64 ((lo 1 : Nat) : Int), .string (hs 1)]) ∧ Below w.heap.size w w') (HO : ∀ w, Calls Tryz.prog 88 #[.int .u64 1] w fun xe w' => xe = .returned (.agg #[.int .u64 ((lo 1 : Nat) : Int), .string (hs 1)]) ∧ Below w.heap.size w w') (HV : ∀ w, Calls Tryz.prog 89 #[.agg #[.int .u64 ((zl a.num : Nat) : Int), .string (zh a.num), .bool (zs a.num), .int .u64 ((lo (fe a) : Nat) : Int), .string (hs (fe a))]] w fun xe w' => xe = .returned (.bool true) ∧ Below w.heap.size w w') (HK : ∀ w, Calls Tryz.prog 90 #[.int .i64 k] w fun xe w' => xe = .returned (.agg #[.int .u64 ((zl k : Nat) : Int), .string (zh k), .bool (zs k)]) ∧ Below w.heap.size w w') (HB : ∀ w, Calls Tryz.prog 43 #[.agg #[.int .u64 ((zl k : Nat) : Int), .string (zh k), .bool (zs k)]] w fun xe w' => xe = .returned (.agg #[.int .u64 ((lo kn : Nat) : Int), .string (hs kn)]) ∧ Below w.heap.size w w') (HC : ∀ w, Calls Tryz.prog 91 #[.bool false, .agg #[.int .u64 ((lo kn : Nat) : Int), .string (hs kn)]] w fun xe w' => xe = .returned (.agg #[.int .u64 ((zl kz : Nat) : Int), .string (zh kz), .bool (zs kz)]) ∧ Below w.heap.size w w') (HM : ∀ w, Calls Tryz.prog 35 #[.agg #[.int .u64 ((zl zn : Nat) : Int), .string (zh zn), .bool (zs zn)], .agg #[.int .u64 ((zl kz : Nat) : Int), .string (zh kz), .bool (zs kz)]] w fun xe w' => xe = .returned (.agg #[.int .u64 ((zl zk : Nat) : Int), .string (zh zk), .bool (zs zk)]) ∧ Below w.heap.size w w') (HP : ∀ w, Calls Tryz.prog 92 #[.agg #[.int .u64 ((lo 1 : Nat) : Int), .string (hs 1)], .agg #[.int .u64 ((lo kn : Nat) : Int), .string (hs kn)]] w fun xe w' => xe = .returned (.agg #[.int .u64 ((lo dk : Nat) : Int), .string (hs dk)]) ∧ Below w.heap.size w w') (HR : ∀ w, Calls Tryz.prog 86 #[.agg #[.int .u64 ((zl zk : Nat) : Int), .string (zh zk), .bool (zs zk)], .agg #[.int .u64 ((lo dk : Nat) : Int), .string (hs dk)]] w fun xe w' => xe = .returned (.tuple #[.agg #[.int .u64 ((zl a.num : Nat) : Int), .string (zh a.num), .bool (zs a.num), .int .u64 ((lo (fe a) : Nat) : Int), .string (hs (fe a))], .int .i64 0]) ∧ Below w.heap.size w w') (KW : World → Prop) (hKW : Keeps KW) (HW : ∀ w, KW w → Calls Tryz.prog 57 #[] w fun xe w' => xe = .returned (.bool true) ∧ Below w.heap.size w w') (hfew : decide (nx ≤ 8 ∧ mx ≤ 8) = true) (e01 : (((lo 1 : Nat) : Int) == 0) = false) (hk0 : (k == 0) = false) (w : World) (kKx : Kx w) (kKW : KW w) :
    Calls Tryz.prog 10 #[.agg #[.bool sx, .slice ax nx cx, .slice qx mx dx], .int .i64 k] w fun xe w' => xe = .returned (.bool true) ∧ Below w.heap.size w w' := by
  have hL0 : GL w w [] := GL.start w
  replace hKx := Lib.hid hKx
  replace Gx := Lib.hid Gx
  replace HN := Lib.hid HN
  replace HD := Lib.hid HD
  replace HF := Lib.hid HF
  replace HA := Lib.hid HA
  replace HG := Lib.hid HG
  replace HO := Lib.hid HO
  replace HV := Lib.hid HV
  replace HK := Lib.hid HK
  replace HB := Lib.hid HB
  replace HC := Lib.hid HC
  replace HM := Lib.hid HM
  replace HP := Lib.hid HP
  replace HR := Lib.hid HR
  replace hKW := Lib.hid hKW
  replace HW := Lib.hid HW
  replace hL0 := ((hL0.new rfl [.bool sx, .slice ax nx cx, .slice qx mx dx] 76).new (K := w.heap.size + 1) (szA _ _) [.bool sx, .slice ax nx cx, .slice qx mx dx] 76)
  generalize hweq : ((w.alloc (.cells #[.bool sx, .slice ax nx cx, .slice qx mx dx] 76)).alloc (.cells #[.bool sx, .slice ax nx cx, .slice qx mx dx] 76)) = x1 at hL0
  go_enter Tryz.func10, Tryz.ntmps10
  have hN0 := cells_of _ 0 [] rfl (hL0.get _ _ (List.mem_cons_of_mem _ List.mem_cons_self))
  simp only [cellsF, and_true, Nat.zero_add, Nat.reduceAdd] at hN0
  have HFw := gfew1 8 8 rfl (by omega) (hL0.get _ _ List.mem_cons_self)
  rw [hfew] at HFw
  replace HFw := Lib.hid HFw
  go_wp2_with fail
  with_reducible refine Calls.mono (HFw.out) ?_
  rintro e x2 ⟨rfl, rfl⟩
  clear HFw
  clear hN0
  have hN0 := cells_of _ 0 [] rfl (hL0.get _ _ (List.mem_cons_of_mem _ List.mem_cons_self))
  simp only [cellsF, and_true, Nat.zero_add, Nat.reduceAdd] at hN0
  go_wp2_with fail
  clear hN0
  with_reducible refine Calls.mono (Gx.out _ (hKx.out.at hL0.bl kKx)) ?_
  rintro e x3 ⟨rfl, hb⟩
  replace hL0 := hL0.call hb
  clear hb hweq
  replace hL0 := (hL0.new rfl [.int .u64 ((zl a.num : Nat) : Int), .string (zh a.num), .bool (zs a.num), .int .u64 ((lo (fe a) : Nat) : Int), .string (hs (fe a))] 79)
  generalize hweq : (x3.alloc (.cells #[.int .u64 ((zl a.num : Nat) : Int), .string (zh a.num), .bool (zs a.num), .int .u64 ((lo (fe a) : Nat) : Int), .string (hs (fe a))] 79)) = x4 at hL0
  go_upto_region 4 with fail
  clear hweq
  refine region_gh (by kernel_rfl) (by kernel_rfl) ?_
  refine lex_seg (gl := []) 4 (by kernel_rfl) ?_
  intro α iα F hF1 hF2
  have hq := GL.seg hF1 hL0
  simp only [fcC, cellsC, and_true, Nat.zero_add, Nat.reduceAdd] at hq
  simp only [List.take_succ_cons, List.take_zero, List.drop_succ_cons, List.drop_zero, List.take_nil, List.drop_nil]
  repeat (go_big_quiet_step (first | fail | (go_at_call 84; with_reducible exact seg_call hF2 HN.out _) | (go_at_call 85; with_reducible exact seg_call hF2 HD.out _)))
  refine wpQuiet_nil ?_
  clear hq hF1 hF2 iα F α
  refine lex_new [.int .u64 0, .string ⟨#[]⟩, .bool false] 6 39 39 rfl rfl (of_decide_eq_true (by kernel_rfl)) (by kernel_rfl) rfl new_int ?_
  simp only [Act.put, List.setIfInBounds_toArray, List.set_cons_succ, List.set_cons_zero]
  refine lex_new [.int .u64 0, .string ⟨#[]⟩] 7 32 32 rfl rfl (of_decide_eq_true (by kernel_rfl)) (by kernel_rfl) rfl new_natc ?_
  simp only [Act.put, List.setIfInBounds_toArray, List.set_cons_succ, List.set_cons_zero]
  refine lex_put [.int .u64 ((zl zn : Nat) : Int), .string (zh zn), .bool (zs zn)] [.int .u64 0, .string ⟨#[]⟩, .bool false] 6 39 (.tmp 23) rfl (by kernel_rfl) (by simp [toG, upd]) rfl (fun w k h => put_int _ _ _ _ _ _ w k h) ?_
  simp only [Act.put]
  refine lex_put [.int .u64 ((lo 1 : Nat) : Int), .string (hs 1)] [.int .u64 0, .string ⟨#[]⟩] 7 32 (.tmp 25) rfl (by kernel_rfl) (by simp [toG, upd]) rfl (fun w k h => put_natc _ _ _ _ w k h) ?_
  simp only [Act.put]
  refine lexG_nil ?_
  intro κ x5 hS
  replace hL0 := hL0.ghs hS [(7, [.int .u64 ((lo 1 : Nat) : Int), .string (hs 1)]), (6, [.int .u64 ((zl zn : Nat) : Int), .string (zh zn), .bool (zs zn)])] (by simp) (by intro p hp; simp only [List.mem_cons, List.not_mem_nil, or_false] at hp; rcases hp with rfl | rfl <;> exact ⟨_, by simp only [toG, upd]; rfl⟩)
  simp only [List.map_cons, List.map_nil, List.cons_append, List.nil_append] at hL0
  simp only [over_toG, over_nil, Act.put, List.setIfInBounds_toArray, List.set_cons_succ, List.set_cons_zero]
  clear hS
  generalize κ 7 = k5_7 at *
  generalize κ 6 = k5_6 at *
  have hN0 := cells_of _ 0 [] rfl (hL0.get _ _ List.mem_cons_self)
  simp only [cellsF, and_true, Nat.zero_add, Nat.reduceAdd] at hN0
  have hN1 := cells_of _ 0 [] rfl (hL0.get _ _ (List.mem_cons_of_mem _ List.mem_cons_self))
  simp only [cellsF, and_true, Nat.zero_add, Nat.reduceAdd] at hN1
  go_wp2_with fail
  clear hN0 hN1
  with_reducible refine Calls.mono (HF.out _) ?_
  rintro e x6 ⟨rfl, hb⟩
  replace hL0 := hL0.call hb
  clear hb
  replace hL0 := (hL0.new rfl [.int .u64 ((zl a.num : Nat) : Int), .string (zh a.num), .bool (zs a.num), .int .u64 ((lo (fe a) : Nat) : Int), .string (hs (fe a))] 79)
  generalize hweq : (x6.alloc (.cells #[.int .u64 ((zl a.num : Nat) : Int), .string (zh a.num), .bool (zs a.num), .int .u64 ((lo (fe a) : Nat) : Int), .string (hs (fe a))] 79)) = x7 at hL0
  go_upto_region 6 with fail
  clear hweq
  obtain ⟨α, iα, F, hF1, hF2⟩ := cls x7
  have hq0 := cls_box hF1 hL0 _ _ List.mem_cons_self
  simp only [cellsC, and_true, Nat.zero_add, Nat.reduceAdd] at hq0
  have hq1 := cls_box hF1 hL0 _ _ (List.mem_cons_of_mem _ List.mem_cons_self)
  simp only [cellsC, and_true, Nat.zero_add, Nat.reduceAdd] at hq1
  have hq2 := cls_box hF1 hL0 _ _ (List.mem_cons_of_mem _ (List.mem_cons_of_mem _ List.mem_cons_self))
  simp only [cellsC, and_true, Nat.zero_add, Nat.reduceAdd] at hq2
  have hq3 := cls_box hF1 hL0 _ _ (List.mem_cons_of_mem _ (List.mem_cons_of_mem _ (List.mem_cons_of_mem _ List.mem_cons_self)))
  simp only [cellsC, and_true, Nat.zero_add, Nat.reduceAdd] at hq3
  refine region_qs 28 (C := fun w' => ∃ x, w' = F x) (by kernel_rfl) (by kernel_rfl) (cls_drew hF2) ?_
  simp only [List.take_succ_cons, List.take_zero, List.drop_succ_cons, List.drop_zero, List.take_nil, List.drop_nil]
  repeat (go_big_quiet_step (first | fail | (go_at_call 43; with_reducible exact cls_call hF1 hF2 HA.out _) | (go_at_call 87; with_reducible exact cls_call hF1 hF2 HG.out _) | (go_at_call 88; with_reducible exact cls_call hF1 hF2 HO.out _) | (go_at_call 89; with_reducible exact cls_call hF1 hF2 HV.out _)))
  refine wpQuiet_nil ?_
  rintro wq ⟨xq, rfl⟩
  replace hL0 := hL0.call (hF1 xq)
  clear  hq0 hq1 hq2 hq3 hF2
  generalize F xq = x8 at hL0 ⊢
  clear hF1 xq iα F α
  go_wp2_with fail
  with_reducible refine Calls.mono (HK.out _) ?_
  rintro e x9 ⟨rfl, hb⟩
  replace hL0 := hL0.call hb
  clear hb
  replace hL0 := (hL0.new rfl [.int .u64 ((zl k : Nat) : Int), .string (zh k), .bool (zs k)] 39)
  generalize hweq : (x9.alloc (.cells #[.int .u64 ((zl k : Nat) : Int), .string (zh k), .bool (zs k)] 39)) = x10 at hL0
  go_upto_region 12 with fail
  clear hweq
  refine region_gh (by kernel_rfl) (by kernel_rfl) ?_
  refine lex_seg (gl := []) 13 (by kernel_rfl) ?_
  intro α iα F hF1 hF2
  have hq := GL.seg hF1 hL0
  simp only [fcC, cellsC, and_true, Nat.zero_add, Nat.reduceAdd] at hq
  simp only [List.take_succ_cons, List.take_zero, List.drop_succ_cons, List.drop_zero, List.take_nil, List.drop_nil]
  repeat (go_big_quiet_step (first | fail | (go_at_call 43; with_reducible exact seg_call hF2 HB.out _) | (go_at_call 91; with_reducible exact seg_call hF2 HC.out _) | (go_at_call 35; with_reducible exact seg_call hF2 HM.out _) | (go_at_call 92; with_reducible exact seg_call hF2 HP.out _) | (go_at_call 86; with_reducible exact seg_call hF2 HR.out _)))
  refine wpQuiet_nil ?_
  clear hq hF1 hF2 iα F α
  refine lex_new [.int .u64 0, .string ⟨#[]⟩, .bool false, .int .u64 0, .string ⟨#[]⟩] 13 79 79 rfl rfl (of_decide_eq_true (by kernel_rfl)) (by kernel_rfl) rfl new_frac ?_
  simp only [Act.put, List.setIfInBounds_toArray, List.set_cons_succ, List.set_cons_zero]
  refine lex_put [.int .u64 ((zl a.num : Nat) : Int), .string (zh a.num), .bool (zs a.num), .int .u64 ((lo (fe a) : Nat) : Int), .string (hs (fe a))] [.int .u64 0, .string ⟨#[]⟩, .bool false, .int .u64 0, .string ⟨#[]⟩] 13 79 (.tmp 86) rfl (by kernel_rfl) (by simp [toG, upd]) rfl (fun w k h => put_frac _ _ _ _ _ _ _ _ _ _ w k h) ?_
  simp only [Act.put]
  refine lex_seg (gl := [(13, [.int .u64 ((zl a.num : Nat) : Int), .string (zh a.num), .bool (zs a.num), .int .u64 ((lo (fe a) : Nat) : Int), .string (hs (fe a))], true), (13, [.int .u64 0, .string ⟨#[]⟩, .bool false, .int .u64 0, .string ⟨#[]⟩], false)]) 1 (by kernel_rfl) ?_
  intro α iα F hF1 hF2
  have hq := GL.seg hF1 hL0
  simp only [fcC, cellsC, and_true, Nat.zero_add, Nat.reduceAdd] at hq
  simp only [List.take_succ_cons, List.take_zero, List.drop_succ_cons, List.drop_zero, List.take_nil, List.drop_nil]
  repeat (go_big_quiet_step (first | fail | (go_at_call 43; with_reducible exact seg_call hF2 HB.out _) | (go_at_call 91; with_reducible exact seg_call hF2 HC.out _) | (go_at_call 35; with_reducible exact seg_call hF2 HM.out _) | (go_at_call 92; with_reducible exact seg_call hF2 HP.out _) | (go_at_call 86; with_reducible exact seg_call hF2 HR.out _)))
  refine wpQuiet_nil ?_
  clear hq hF1 hF2 iα F α
  refine lexG_nil ?_
  intro κ x11 hS
  replace hL0 := hL0.ghs hS [(13, [.int .u64 ((zl a.num : Nat) : Int), .string (zh a.num), .bool (zs a.num), .int .u64 ((lo (fe a) : Nat) : Int), .string (hs (fe a))])] (by simp) (by intro p hp; simp only [List.mem_cons, List.not_mem_nil, or_false] at hp; rcases hp with rfl <;> exact ⟨_, by simp only [toG, upd]; rfl⟩)
  simp only [List.map_cons, List.map_nil, List.cons_append, List.nil_append] at hL0
  simp only [over_toG, over_nil, Act.put, List.setIfInBounds_toArray, List.set_cons_succ, List.set_cons_zero]
  clear hS
  generalize κ 13 = k11_13 at *
  have hN0 := cells_of _ 0 [] rfl (hL0.get _ _ List.mem_cons_self)
  simp only [cellsF, and_true, Nat.zero_add, Nat.reduceAdd] at hN0
  have hN1 := cells_of _ 0 [] rfl (hL0.get _ _ (List.mem_cons_of_mem _ (List.mem_cons_of_mem _ (List.mem_cons_of_mem _ (List.mem_cons_of_mem _ (List.mem_cons_of_mem _ List.mem_cons_self))))))
  simp only [cellsF, and_true, Nat.zero_add, Nat.reduceAdd] at hN1
  go_wp2_with fail
  clear hN0 hN1
  with_reducible refine Calls.mono (HW.out _ (hKW.out.at hL0.bl kKW)) ?_
  rintro e x12 ⟨rfl, hb⟩
  replace hL0 := hL0.call hb
  clear hb
  go_wp2_with fail
  exact bodyPost_ret (v := .bool true) (by simp [results, Tryz.results10, go_sem]) rfl ⟨rfl, hL0.bl⟩

theorem flowest_one_pos (sx : Bool) (ax qx : Option Addr) (nx cx mx dx : Nat) (lx kx : List Nat) (k : Int) (lok : -9223372036854775808 ≤ k) (hik : k < 9223372036854775808) (hk0 : k ≠ 0) (hk : nx ≤ 8 ∧ mx ≤ 8) (h1 : (gmade sx lx kx).den = 1) (w : World) (htab : Tab w) (hm : MaxL w) (hwx : Ws w (.slice ax nx cx) lx) (hvx : Ws w (.slice qx mx dx) kx) :
    Calls Tryz.prog 10 #[.agg #[.bool sx, .slice ax nx cx, .slice qx mx dx], .int .i64 k] w fun xe w' => xe = .returned (.bool true) ∧ Below w.heap.size w w' := by
  have elx := hwx.len
  have ekx := hvx.len
  have Gx := fun w (h : Ws w (.slice ax nx cx) lx ∧ Ws w (.slice qx mx dx) kx) => gof_any sx ax qx nx cx mx dx lx kx (by omega) (by omega) w h.1 h.2
  have Sa : Sz (gmade sx lx kx) 9 := gmade_sz (by omega) hwx hvx (by omega) (by omega)
  generalize gmade sx lx kx = a at *
  have HN := fun w => numF a w
  have HD := fun w => denF a w
  have HF := fun w => fromF a.num a.den a.den_nz (Nat.le_trans Sa.n (by omega)) (Nat.le_trans Sa.d (by omega)) w
  rw [Rat.mkRat_self] at HF
  have HA := fun w => absI a.num w
  have HG := fun w => gcd_any a.num.natAbs a.den (Nat.le_trans Sa.n (by omega)) (Nat.le_trans Sa.d (by omega)) w
  rw [red_gcd] at HG
  have HO := one_o
  have HV := fun w => wholeF a w
  have hkn : k.natAbs ≠ 0 := by omega
  have lk : (digs k.natAbs).length ≤ 1 := i64_dI lok hik
  have HK := fun w => ofI k lok hik w
  have HB := fun w => absI k w
  have HC := fun w => fromI false k.natAbs (k.natAbs : Int) rfl w
  have HM := fun w => mulI a.num (k.natAbs : Int) (Nat.le_trans Sa.n (by omega)) (by rw [dI_nat]; omega) w
  have HP := fun w => mul_any a.den k.natAbs (Nat.le_trans Sa.d (by omega)) (by omega) w
  have l1 : dI (a.num * (k.natAbs : Int)) ≤ 9 + 1 := dI_mul Sa.n (by rw [dI_nat]; exact lk)
  have l2 : (digs (a.den * k.natAbs)).length ≤ 9 + 1 := digs_mul_le Sa.d lk
  have HR := fun w => fromF (a.num * (k.natAbs : Int)) (a.den * k.natAbs) (Nat.mul_ne_zero a.den_nz hkn) (by omega) (by omega) w
  rw [scaled a k.natAbs hkn] at HR
  rw [h1] at HD HF HG
  rw [decide_eq_true h1] at HV
  rw [h1] at HP l2 HR
  have HW := fun w (h : Tab w ∧ MaxL w) => fworks_any w h.1 h.2
  exact flowest_one_pos_w sx ax qx nx cx mx dx k a a.num a.num.natAbs k.natAbs (a.num * (k.natAbs : Int)) (1 * k.natAbs) (k.natAbs : Int) _ (Keeps.and (Keeps.ws _ _) (Keeps.ws _ _)) Gx HN HD HF HA HG HO HV HK HB HC HM HP HR _ (Keeps.and Keeps.tab MaxL.keeps) HW (decide_eq_true hk) lo1 (by simp [hk0]) w ⟨hwx, hvx⟩ ⟨htab, hm⟩

set_option maxHeartbeats 16000000 in
set_option maxRecDepth 100000 in
theorem flowest_part_zero_w (sx : Bool) (ax qx : Option Addr) (nx cx mx dx : Nat) (a : Rat) (zn : Int) (dn : Nat) (an : Nat) (Kx : World → Prop) (hKx : Keeps Kx) (Gx : ∀ w, Kx w → Calls Tryz.prog 58 #[.agg #[.bool sx, .slice ax nx cx, .slice qx mx dx]] w fun xe w' => xe = .returned (.agg #[.int .u64 ((zl a.num : Nat) : Int), .string (zh a.num), .bool (zs a.num), .int .u64 ((lo (fe a) : Nat) : Int), .string (hs (fe a))]) ∧ Below w.heap.size w w') (HN : ∀ w, Calls Tryz.prog 84 #[.agg #[.int .u64 ((zl a.num : Nat) : Int), .string (zh a.num), .bool (zs a.num), .int .u64 ((lo (fe a) : Nat) : Int), .string (hs (fe a))]] w fun xe w' => xe = .returned (.agg #[.int .u64 ((zl zn : Nat) : Int), .string (zh zn), .bool (zs zn)]) ∧ Below w.heap.size w w') (HD : ∀ w, Calls Tryz.prog 85 #[.agg #[.int .u64 ((zl a.num : Nat) : Int), .string (zh a.num), .bool (zs a.num), .int .u64 ((lo (fe a) : Nat) : Int), .string (hs (fe a))]] w fun xe w' => xe = .returned (.agg #[.int .u64 ((lo dn : Nat) : Int), .string (hs dn)]) ∧ Below w.heap.size w w') (HF : ∀ w, Calls Tryz.prog 86 #[.agg #[.int .u64 ((zl zn : Nat) : Int), .string (zh zn), .bool (zs zn)], .agg #[.int .u64 ((lo dn : Nat) : Int), .string (hs dn)]] w fun xe w' => xe = .returned (.tuple #[.agg #[.int .u64 ((zl a.num : Nat) : Int), .string (zh a.num), .bool (zs a.num), .int .u64 ((lo (fe a) : Nat) : Int), .string (hs (fe a))], .int .i64 0]) ∧ Below w.heap.size w w') (HA : ∀ w, Calls Tryz.prog 43 #[.agg #[.int .u64 ((zl zn : Nat) : Int), .string (zh zn), .bool (zs zn)]] w fun xe w' => xe = .returned (.agg #[.int .u64 ((lo an : Nat) : Int), .string (hs an)]) ∧ Below w.heap.size w w') (HG : ∀ w, Calls Tryz.prog 87 #[.agg #[.int .u64 ((lo an : Nat) : Int), .string (hs an)], .agg #[.int .u64 ((lo dn : Nat) : Int), .string (hs dn)]] w fun xe w' => xe = .returned (.agg #[.int .u64 ((lo 1 : Nat) : Int), .string (hs 1)]) ∧ Below w.heap.size w w') (HO : ∀ w, Calls Tryz.prog 88 #[.int .u64 1] w fun xe w' => xe = .returned (.agg #[.int .u64 ((lo 1 : Nat) : Int), .string (hs 1)]) ∧ Below w.heap.size w w') (HV : ∀ w, Calls Tryz.prog 89 #[.agg #[.int .u64 ((zl a.num : Nat) : Int), .string (zh a.num), .bool (zs a.num), .int .u64 ((lo (fe a) : Nat) : Int), .string (hs (fe a))]] w fun xe w' => xe = .returned (.bool false) ∧ Below w.heap.size w w') (HZ : ∀ w, Calls Tryz.prog 86 #[.agg #[.int .u64 ((zl zn : Nat) : Int), .string (zh zn), .bool (zs zn)], .agg #[.int .u64 0, .string ⟨#[]⟩]] w fun xe w' => xe = .returned (.tuple #[.agg #[.int .u64 0, .string ⟨#[]⟩, .bool false, .int .u64 0, .string ⟨#[]⟩], .int .i64 5]) ∧ Below w.heap.size w w') (KW : World → Prop) (hKW : Keeps KW) (HW : ∀ w, KW w → Calls Tryz.prog 57 #[] w fun xe w' => xe = .returned (.bool true) ∧ Below w.heap.size w w') (hfew : decide (nx ≤ 8 ∧ mx ≤ 8) = true) (d0 : dn ≠ 0) (d1 : dn ≠ 1) (w : World) (kKx : Kx w) (kKW : KW w) :
    Calls Tryz.prog 10 #[.agg #[.bool sx, .slice ax nx cx, .slice qx mx dx], .int .i64 0] w fun xe w' => xe = .returned (.bool true) ∧ Below w.heap.size w w' := by
  have hL0 : GL w w [] := GL.start w
  replace hKx := Lib.hid hKx
  replace Gx := Lib.hid Gx
  replace HN := Lib.hid HN
  replace HD := Lib.hid HD
  replace HF := Lib.hid HF
  replace HA := Lib.hid HA
  replace HG := Lib.hid HG
  replace HO := Lib.hid HO
  replace HV := Lib.hid HV
  replace HZ := Lib.hid HZ
  replace hKW := Lib.hid hKW
  replace HW := Lib.hid HW
  have f0 := ne0 d0
  have f1 := ne_nat d1
  clear d0 d1
  rcases f0 with g0 | ⟨g0, g1⟩ <;> rcases f1 with g2 | ⟨g2, g3⟩
  all_goals (
    replace hL0 := ((hL0.new rfl [.bool sx, .slice ax nx cx, .slice qx mx dx] 76).new (K := w.heap.size + 1) (szA _ _) [.bool sx, .slice ax nx cx, .slice qx mx dx] 76)
    generalize hweq : ((w.alloc (.cells #[.bool sx, .slice ax nx cx, .slice qx mx dx] 76)).alloc (.cells #[.bool sx, .slice ax nx cx, .slice qx mx dx] 76)) = x1 at hL0
    go_enter Tryz.func10, Tryz.ntmps10
    have hN0 := cells_of _ 0 [] rfl (hL0.get _ _ (List.mem_cons_of_mem _ List.mem_cons_self))
    simp only [cellsF, and_true, Nat.zero_add, Nat.reduceAdd] at hN0
    have HFw := gfew1 8 8 rfl (by omega) (hL0.get _ _ List.mem_cons_self)
    rw [hfew] at HFw
    replace HFw := Lib.hid HFw
    go_wp2_with fail
    with_reducible refine Calls.mono (HFw.out) ?_
    rintro e x2 ⟨rfl, rfl⟩
    clear HFw
    clear hN0
    have hN0 := cells_of _ 0 [] rfl (hL0.get _ _ (List.mem_cons_of_mem _ List.mem_cons_self))
    simp only [cellsF, and_true, Nat.zero_add, Nat.reduceAdd] at hN0
    go_wp2_with fail
    clear hN0
    with_reducible refine Calls.mono (Gx.out _ (hKx.out.at hL0.bl kKx)) ?_
    rintro e x3 ⟨rfl, hb⟩
    replace hL0 := hL0.call hb
    clear hb hweq
    replace hL0 := (hL0.new rfl [.int .u64 ((zl a.num : Nat) : Int), .string (zh a.num), .bool (zs a.num), .int .u64 ((lo (fe a) : Nat) : Int), .string (hs (fe a))] 79)
    generalize hweq : (x3.alloc (.cells #[.int .u64 ((zl a.num : Nat) : Int), .string (zh a.num), .bool (zs a.num), .int .u64 ((lo (fe a) : Nat) : Int), .string (hs (fe a))] 79)) = x4 at hL0
    go_upto_region 4 with fail
    clear hweq
    refine region_gh (by kernel_rfl) (by kernel_rfl) ?_
    refine lex_seg (gl := []) 4 (by kernel_rfl) ?_
    intro α iα F hF1 hF2
    have hq := GL.seg hF1 hL0
    simp only [fcC, cellsC, and_true, Nat.zero_add, Nat.reduceAdd] at hq
    simp only [List.take_succ_cons, List.take_zero, List.drop_succ_cons, List.drop_zero, List.take_nil, List.drop_nil]
    repeat (go_big_quiet_step (first | fail | (go_at_call 84; with_reducible exact seg_call hF2 HN.out _) | (go_at_call 85; with_reducible exact seg_call hF2 HD.out _)))
    refine wpQuiet_nil ?_
    clear hq hF1 hF2 iα F α
    refine lex_new [.int .u64 0, .string ⟨#[]⟩, .bool false] 6 39 39 rfl rfl (of_decide_eq_true (by kernel_rfl)) (by kernel_rfl) rfl new_int ?_
    simp only [Act.put, List.setIfInBounds_toArray, List.set_cons_succ, List.set_cons_zero]
    refine lex_new [.int .u64 0, .string ⟨#[]⟩] 7 32 32 rfl rfl (of_decide_eq_true (by kernel_rfl)) (by kernel_rfl) rfl new_natc ?_
    simp only [Act.put, List.setIfInBounds_toArray, List.set_cons_succ, List.set_cons_zero]
    refine lex_put [.int .u64 ((zl zn : Nat) : Int), .string (zh zn), .bool (zs zn)] [.int .u64 0, .string ⟨#[]⟩, .bool false] 6 39 (.tmp 23) rfl (by kernel_rfl) (by simp [toG, upd]) rfl (fun w k h => put_int _ _ _ _ _ _ w k h) ?_
    simp only [Act.put]
    refine lex_put [.int .u64 ((lo dn : Nat) : Int), .string (hs dn)] [.int .u64 0, .string ⟨#[]⟩] 7 32 (.tmp 25) rfl (by kernel_rfl) (by simp [toG, upd]) rfl (fun w k h => put_natc _ _ _ _ w k h) ?_
    simp only [Act.put]
    refine lexG_nil ?_
    intro κ x5 hS
    replace hL0 := hL0.ghs hS [(7, [.int .u64 ((lo dn : Nat) : Int), .string (hs dn)]), (6, [.int .u64 ((zl zn : Nat) : Int), .string (zh zn), .bool (zs zn)])] (by simp) (by intro p hp; simp only [List.mem_cons, List.not_mem_nil, or_false] at hp; rcases hp with rfl | rfl <;> exact ⟨_, by simp only [toG, upd]; rfl⟩)
    simp only [List.map_cons, List.map_nil, List.cons_append, List.nil_append] at hL0
    simp only [over_toG, over_nil, Act.put, List.setIfInBounds_toArray, List.set_cons_succ, List.set_cons_zero]
    clear hS
    generalize κ 7 = k5_7 at *
    generalize κ 6 = k5_6 at *
    have hN0 := cells_of _ 0 [] rfl (hL0.get _ _ List.mem_cons_self)
    simp only [cellsF, and_true, Nat.zero_add, Nat.reduceAdd] at hN0
    have hN1 := cells_of _ 0 [] rfl (hL0.get _ _ (List.mem_cons_of_mem _ List.mem_cons_self))
    simp only [cellsF, and_true, Nat.zero_add, Nat.reduceAdd] at hN1
    go_wp2_with fail
    clear hN0 hN1
    with_reducible refine Calls.mono (HF.out _) ?_
    rintro e x6 ⟨rfl, hb⟩
    replace hL0 := hL0.call hb
    clear hb
    replace hL0 := (hL0.new rfl [.int .u64 ((zl a.num : Nat) : Int), .string (zh a.num), .bool (zs a.num), .int .u64 ((lo (fe a) : Nat) : Int), .string (hs (fe a))] 79)
    generalize hweq : (x6.alloc (.cells #[.int .u64 ((zl a.num : Nat) : Int), .string (zh a.num), .bool (zs a.num), .int .u64 ((lo (fe a) : Nat) : Int), .string (hs (fe a))] 79)) = x7 at hL0
    go_upto_region 6 with fail
    clear hweq
    obtain ⟨α, iα, F, hF1, hF2⟩ := cls x7
    have hq0 := cls_box hF1 hL0 _ _ List.mem_cons_self
    simp only [cellsC, and_true, Nat.zero_add, Nat.reduceAdd] at hq0
    have hq1 := cls_box hF1 hL0 _ _ (List.mem_cons_of_mem _ List.mem_cons_self)
    simp only [cellsC, and_true, Nat.zero_add, Nat.reduceAdd] at hq1
    have hq2 := cls_box hF1 hL0 _ _ (List.mem_cons_of_mem _ (List.mem_cons_of_mem _ List.mem_cons_self))
    simp only [cellsC, and_true, Nat.zero_add, Nat.reduceAdd] at hq2
    have hq3 := cls_box hF1 hL0 _ _ (List.mem_cons_of_mem _ (List.mem_cons_of_mem _ (List.mem_cons_of_mem _ List.mem_cons_self)))
    simp only [cellsC, and_true, Nat.zero_add, Nat.reduceAdd] at hq3
    refine region_qs 28 (C := fun w' => ∃ x, w' = F x) (by kernel_rfl) (by kernel_rfl) (cls_drew hF2) ?_
    simp only [List.take_succ_cons, List.take_zero, List.drop_succ_cons, List.drop_zero, List.take_nil, List.drop_nil]
    repeat (go_big_quiet_step (first | fail | (go_at_call 43; with_reducible exact cls_call hF1 hF2 HA.out _) | (go_at_call 87; with_reducible exact cls_call hF1 hF2 HG.out _) | (go_at_call 88; with_reducible exact cls_call hF1 hF2 HO.out _) | (go_at_call 89; with_reducible exact cls_call hF1 hF2 HV.out _)))
    refine wpQuiet_nil ?_
    rintro wq ⟨xq, rfl⟩
    replace hL0 := hL0.call (hF1 xq)
    clear  hq0 hq1 hq2 hq3 hF2
    generalize F xq = x8 at hL0 ⊢
    clear hF1 xq iα F α
    have hN0 := cells_of _ 0 [] rfl (hL0.get _ _ (List.mem_cons_of_mem _ (List.mem_cons_of_mem _ List.mem_cons_self)))
    simp only [cellsF, and_true, Nat.zero_add, Nat.reduceAdd] at hN0
    go_wp2_with fail
    clear hN0
    with_reducible refine Calls.mono (HZ.out _) ?_
    rintro e x9 ⟨rfl, hb⟩
    replace hL0 := hL0.call hb
    clear hb
    replace hL0 := (hL0.new rfl [.int .u64 0, .string ⟨#[]⟩, .bool false, .int .u64 0, .string ⟨#[]⟩] 79)
    generalize hweq : (x9.alloc (.cells #[.int .u64 0, .string ⟨#[]⟩, .bool false, .int .u64 0, .string ⟨#[]⟩] 79)) = x10 at hL0
    have hA := hL0.fc
    simp only [fcG, cellsF, neK, and_true, ne_eq, Nat.zero_add, Nat.reduceAdd] at hA
    have hP := hL0.put 0 (x9.heap.size) _ rfl [.int .u64 0, .string ⟨#[]⟩, .bool false, .int .u64 0, .string ⟨#[]⟩] rfl
    simp only [setAll, List.set_cons_zero, List.set_cons_succ] at hP
    generalize hput1 : (((((x10.setCell ⟨x9.heap.size, 0, none⟩ (.int .u64 0)).setCell ⟨x9.heap.size, 1, none⟩ (.string ⟨#[]⟩)).setCell ⟨x9.heap.size, 2, none⟩ (.bool false)).setCell ⟨x9.heap.size, 3, none⟩ (.int .u64 0)).setCell ⟨x9.heap.size, 4, none⟩ (.string ⟨#[]⟩)) = x11 at hP
    have hB1 := hP.fc
    simp only [fcG, cellsF, neK, and_true, ne_eq, Nat.zero_add, Nat.reduceAdd] at hB1
    replace hL0 := hP
    go_wp2_with fail
    clear hA
    with_reducible refine Calls.mono (HW.out _ (hKW.out.at hL0.bl kKW)) ?_
    rintro e x12 ⟨rfl, hb⟩
    replace hL0 := hL0.call hb
    clear hb hweq hput1 hB1
    go_wp2_with fail
    exact bodyPost_ret (v := .bool true) (by simp [results, Tryz.results10, go_sem]) rfl ⟨rfl, hL0.bl⟩)

theorem flowest_part_zero (sx : Bool) (ax qx : Option Addr) (nx cx mx dx : Nat) (lx kx : List Nat) (hk : nx ≤ 8 ∧ mx ≤ 8) (h1 : (gmade sx lx kx).den ≠ 1) (w : World) (htab : Tab w) (hm : MaxL w) (hwx : Ws w (.slice ax nx cx) lx) (hvx : Ws w (.slice qx mx dx) kx) :
    Calls Tryz.prog 10 #[.agg #[.bool sx, .slice ax nx cx, .slice qx mx dx], .int .i64 0] w fun xe w' => xe = .returned (.bool true) ∧ Below w.heap.size w w' := by
  have elx := hwx.len
  have ekx := hvx.len
  have Gx := fun w (h : Ws w (.slice ax nx cx) lx ∧ Ws w (.slice qx mx dx) kx) => gof_any sx ax qx nx cx mx dx lx kx (by omega) (by omega) w h.1 h.2
  have Sa : Sz (gmade sx lx kx) 9 := gmade_sz (by omega) hwx hvx (by omega) (by omega)
  generalize gmade sx lx kx = a at *
  have HN := fun w => numF a w
  have HD := fun w => denF a w
  have HF := fun w => fromF a.num a.den a.den_nz (Nat.le_trans Sa.n (by omega)) (Nat.le_trans Sa.d (by omega)) w
  rw [Rat.mkRat_self] at HF
  have HA := fun w => absI a.num w
  have HG := fun w => gcd_any a.num.natAbs a.den (Nat.le_trans Sa.n (by omega)) (Nat.le_trans Sa.d (by omega)) w
  rw [red_gcd] at HG
  have HO := one_o
  have HV := fun w => wholeF a w
  have HZ := fun w => from0F a.num w
  rw [natV_z, frV_q0] at HZ
  rw [decide_eq_false h1] at HV
  have HW := fun w (h : Tab w ∧ MaxL w) => fworks_any w h.1 h.2
  exact flowest_part_zero_w sx ax qx nx cx mx dx  a a.num a.den a.num.natAbs _ (Keeps.and (Keeps.ws _ _) (Keeps.ws _ _)) Gx HN HD HF HA HG HO HV HZ _ (Keeps.and Keeps.tab MaxL.keeps) HW (decide_eq_true hk) a.den_nz h1 w ⟨hwx, hvx⟩ ⟨htab, hm⟩

set_option maxHeartbeats 16000000 in
set_option maxRecDepth 100000 in
theorem flowest_part_pos_w (sx : Bool) (ax qx : Option Addr) (nx cx mx dx : Nat) (k : Int) (a : Rat) (zn : Int) (dn : Nat) (an : Nat) (kn : Nat) (zk : Int) (dk : Nat) (kz : Int) (Kx : World → Prop) (hKx : Keeps Kx) (Gx : ∀ w, Kx w → Calls Tryz.prog 58 #[.agg #[.bool sx, .slice ax nx cx, .slice qx mx dx]] w fun xe w' => xe = .returned (.agg #[.int .u64 ((zl a.num : Nat) : Int), .string (zh a.num), .bool (zs a.num), .int .u64 ((lo (fe a) : Nat) : Int), .string (hs (fe a))]) ∧ Below w.heap.size w w') (HN : ∀ w, Calls Tryz.prog 84 #[.agg #[.int .u64 ((zl a.num : Nat) : Int), .string (zh a.num), .bool (zs a.num), .int .u64 ((lo (fe a) : Nat) : Int), .string (hs (fe a))]] w fun xe w' => xe = .returned (.agg #[.int .u64 ((zl zn : Nat) : Int), .string (zh zn), .bool (zs zn)]) ∧ Below w.heap.size w w') (HD : ∀ w, Calls Tryz.prog 85 #[.agg #[.int .u64 ((zl a.num : Nat) : Int), .string (zh a.num), .bool (zs a.num), .int .u64 ((lo (fe a) : Nat) : Int), .string (hs (fe a))]] w fun xe w' => xe = .returned (.agg #[.int .u64 ((lo dn : Nat) : Int), .string (hs dn)]) ∧ Below w.heap.size w w') (HF : ∀ w, Calls Tryz.prog 86 #[.agg #[.int .u64 ((zl zn : Nat) : Int), .string (zh zn), .bool (zs zn)], .agg #[.int .u64 ((lo dn : Nat) : Int), .string (hs dn)]] w fun xe w' => xe = .returned (.tuple #[.agg #[.int .u64 ((zl a.num : Nat) : Int), .string (zh a.num), .bool (zs a.num), .int .u64 ((lo (fe a) : Nat) : Int), .string (hs (fe a))], .int .i64 0]) ∧ Below w.heap.size w w') (HA : ∀ w, Calls Tryz.prog 43 #[.agg #[.int .u64 ((zl zn : Nat) : Int), .string (zh zn), .bool (zs zn)]] w fun xe w' => xe = .returned (.agg #[.int .u64 ((lo an : Nat) : Int), .string (hs an)]) ∧ Below w.heap.size w w') (HG : ∀ w, Calls Tryz.prog 87 #[.agg #[.int .u64 ((lo an : Nat) : Int), .string (hs an)], .agg #[.int .u64 ((lo dn : Nat) : Int), .string (hs dn)]] w fun xe w' => xe = .returned (.agg #[.int .u64 ((lo 1 : Nat) : Int), .string (hs 1)]) ∧ Below w.heap.size w w') (HO : ∀ w, Calls Tryz.prog 88 #[.int .u64 1] w fun xe w' => xe = .returned (.agg #[.int .u64 ((lo 1 : Nat) : Int), .string (hs 1)]) ∧ Below w.heap.size w w') (HV : ∀ w, Calls Tryz.prog 89 #[.agg #[.int .u64 ((zl a.num : Nat) : Int), .string (zh a.num), .bool (zs a.num), .int .u64 ((lo (fe a) : Nat) : Int), .string (hs (fe a))]] w fun xe w' => xe = .returned (.bool false) ∧ Below w.heap.size w w') (HK : ∀ w, Calls Tryz.prog 90 #[.int .i64 k] w fun xe w' => xe = .returned (.agg #[.int .u64 ((zl k : Nat) : Int), .string (zh k), .bool (zs k)]) ∧ Below w.heap.size w w') (HB : ∀ w, Calls Tryz.prog 43 #[.agg #[.int .u64 ((zl k : Nat) : Int), .string (zh k), .bool (zs k)]] w fun xe w' => xe = .returned (.agg #[.int .u64 ((lo kn : Nat) : Int), .string (hs kn)]) ∧ Below w.heap.size w w') (HC : ∀ w, Calls Tryz.prog 91 #[.bool false, .agg #[.int .u64 ((lo kn : Nat) : Int), .string (hs kn)]] w fun xe w' => xe = .returned (.agg #[.int .u64 ((zl kz : Nat) : Int), .string (zh kz), .bool (zs kz)]) ∧ Below w.heap.size w w') (HM : ∀ w, Calls Tryz.prog 35 #[.agg #[.int .u64 ((zl zn : Nat) : Int), .string (zh zn), .bool (zs zn)], .agg #[.int .u64 ((zl kz : Nat) : Int), .string (zh kz), .bool (zs kz)]] w fun xe w' => xe = .returned (.agg #[.int .u64 ((zl zk : Nat) : Int), .string (zh zk), .bool (zs zk)]) ∧ Below w.heap.size w w') (HP : ∀ w, Calls Tryz.prog 92 #[.agg #[.int .u64 ((lo dn : Nat) : Int), .string (hs dn)], .agg #[.int .u64 ((lo kn : Nat) : Int), .string (hs kn)]] w fun xe w' => xe = .returned (.agg #[.int .u64 ((lo dk : Nat) : Int), .string (hs dk)]) ∧ Below w.heap.size w w') (HR : ∀ w, Calls Tryz.prog 86 #[.agg #[.int .u64 ((zl zk : Nat) : Int), .string (zh zk), .bool (zs zk)], .agg #[.int .u64 ((lo dk : Nat) : Int), .string (hs dk)]] w fun xe w' => xe = .returned (.tuple #[.agg #[.int .u64 ((zl a.num : Nat) : Int), .string (zh a.num), .bool (zs a.num), .int .u64 ((lo (fe a) : Nat) : Int), .string (hs (fe a))], .int .i64 0]) ∧ Below w.heap.size w w') (KW : World → Prop) (hKW : Keeps KW) (HW : ∀ w, KW w → Calls Tryz.prog 57 #[] w fun xe w' => xe = .returned (.bool true) ∧ Below w.heap.size w w') (hfew : decide (nx ≤ 8 ∧ mx ≤ 8) = true) (d0 : dn ≠ 0) (d1 : dn ≠ 1) (hk0 : (k == 0) = false) (w : World) (kKx : Kx w) (kKW : KW w) :
    Calls Tryz.prog 10 #[.agg #[.bool sx, .slice ax nx cx, .slice qx mx dx], .int .i64 k] w fun xe w' => xe = .returned (.bool true) ∧ Below w.heap.size w w' := by
  have hL0 : GL w w [] := GL.start w
  replace hKx := Lib.hid hKx
  replace Gx := Lib.hid Gx
  replace HN := Lib.hid HN
  replace HD := Lib.hid HD
  replace HF := Lib.hid HF
  replace HA := Lib.hid HA
  replace HG := Lib.hid HG
  replace HO := Lib.hid HO
  replace HV := Lib.hid HV
  replace HK := Lib.hid HK
  replace HB := Lib.hid HB
  replace HC := Lib.hid HC
  replace HM := Lib.hid HM
  replace HP := Lib.hid HP
  replace HR := Lib.hid HR
  replace hKW := Lib.hid hKW
  replace HW := Lib.hid HW
  have f0 := ne0 d0
  have f1 := ne_nat d1
  clear d0 d1
  rcases f0 with g0 | ⟨g0, g1⟩ <;> rcases f1 with g2 | ⟨g2, g3⟩
  all_goals (
    replace hL0 := ((hL0.new rfl [.bool sx, .slice ax nx cx, .slice qx mx dx] 76).new (K := w.heap.size + 1) (szA _ _) [.bool sx, .slice ax nx cx, .slice qx mx dx] 76)
    generalize hweq : ((w.alloc (.cells #[.bool sx, .slice ax nx cx, .slice qx mx dx] 76)).alloc (.cells #[.bool sx, .slice ax nx cx, .slice qx mx dx] 76)) = x1 at hL0
    go_enter Tryz.func10, Tryz.ntmps10
    have hN0 := cells_of _ 0 [] rfl (hL0.get _ _ (List.mem_cons_of_mem _ List.mem_cons_self))
    simp only [cellsF, and_true, Nat.zero_add, Nat.reduceAdd] at hN0
    have HFw := gfew1 8 8 rfl (by omega) (hL0.get _ _ List.mem_cons_self)
    rw [hfew] at HFw
    replace HFw := Lib.hid HFw
    go_wp2_with fail
    with_reducible refine Calls.mono (HFw.out) ?_
    rintro e x2 ⟨rfl, rfl⟩
    clear HFw
    clear hN0
    have hN0 := cells_of _ 0 [] rfl (hL0.get _ _ (List.mem_cons_of_mem _ List.mem_cons_self))
    simp only [cellsF, and_true, Nat.zero_add, Nat.reduceAdd] at hN0
    go_wp2_with fail
    clear hN0
    with_reducible refine Calls.mono (Gx.out _ (hKx.out.at hL0.bl kKx)) ?_
    rintro e x3 ⟨rfl, hb⟩
    replace hL0 := hL0.call hb
    clear hb hweq
    replace hL0 := (hL0.new rfl [.int .u64 ((zl a.num : Nat) : Int), .string (zh a.num), .bool (zs a.num), .int .u64 ((lo (fe a) : Nat) : Int), .string (hs (fe a))] 79)
    generalize hweq : (x3.alloc (.cells #[.int .u64 ((zl a.num : Nat) : Int), .string (zh a.num), .bool (zs a.num), .int .u64 ((lo (fe a) : Nat) : Int), .string (hs (fe a))] 79)) = x4 at hL0
    go_upto_region 4 with fail
    clear hweq
    refine region_gh (by kernel_rfl) (by kernel_rfl) ?_
    refine lex_seg (gl := []) 4 (by kernel_rfl) ?_
    intro α iα F hF1 hF2
    have hq := GL.seg hF1 hL0
    simp only [fcC, cellsC, and_true, Nat.zero_add, Nat.reduceAdd] at hq
    simp only [List.take_succ_cons, List.take_zero, List.drop_succ_cons, List.drop_zero, List.take_nil, List.drop_nil]
    repeat (go_big_quiet_step (first | fail | (go_at_call 84; with_reducible exact seg_call hF2 HN.out _) | (go_at_call 85; with_reducible exact seg_call hF2 HD.out _)))
    refine wpQuiet_nil ?_
    clear hq hF1 hF2 iα F α
    refine lex_new [.int .u64 0, .string ⟨#[]⟩, .bool false] 6 39 39 rfl rfl (of_decide_eq_true (by kernel_rfl)) (by kernel_rfl) rfl new_int ?_
    simp only [Act.put, List.setIfInBounds_toArray, List.set_cons_succ, List.set_cons_zero]
    refine lex_new [.int .u64 0, .string ⟨#[]⟩] 7 32 32 rfl rfl (of_decide_eq_true (by kernel_rfl)) (by kernel_rfl) rfl new_natc ?_
    simp only [Act.put, List.setIfInBounds_toArray, List.set_cons_succ, List.set_cons_zero]
    refine lex_put [.int .u64 ((zl zn : Nat) : Int), .string (zh zn), .bool (zs zn)] [.int .u64 0, .string ⟨#[]⟩, .bool false] 6 39 (.tmp 23) rfl (by kernel_rfl) (by simp [toG, upd]) rfl (fun w k h => put_int _ _ _ _ _ _ w k h) ?_
    simp only [Act.put]
    refine lex_put [.int .u64 ((lo dn : Nat) : Int), .string (hs dn)] [.int .u64 0, .string ⟨#[]⟩] 7 32 (.tmp 25) rfl (by kernel_rfl) (by simp [toG, upd]) rfl (fun w k h => put_natc _ _ _ _ w k h) ?_
    simp only [Act.put]
    refine lexG_nil ?_
    intro κ x5 hS
    replace hL0 := hL0.ghs hS [(7, [.int .u64 ((lo dn : Nat) : Int), .string (hs dn)]), (6, [.int .u64 ((zl zn : Nat) : Int), .string (zh zn), .bool (zs zn)])] (by simp) (by intro p hp; simp only [List.mem_cons, List.not_mem_nil, or_false] at hp; rcases hp with rfl | rfl <;> exact ⟨_, by simp only [toG, upd]; rfl⟩)
    simp only [List.map_cons, List.map_nil, List.cons_append, List.nil_append] at hL0
    simp only [over_toG, over_nil, Act.put, List.setIfInBounds_toArray, List.set_cons_succ, List.set_cons_zero]
    clear hS
    generalize κ 7 = k5_7 at *
    generalize κ 6 = k5_6 at *
    have hN0 := cells_of _ 0 [] rfl (hL0.get _ _ List.mem_cons_self)
    simp only [cellsF, and_true, Nat.zero_add, Nat.reduceAdd] at hN0
    have hN1 := cells_of _ 0 [] rfl (hL0.get _ _ (List.mem_cons_of_mem _ List.mem_cons_self))
    simp only [cellsF, and_true, Nat.zero_add, Nat.reduceAdd] at hN1
    go_wp2_with fail
    clear hN0 hN1
    with_reducible refine Calls.mono (HF.out _) ?_
    rintro e x6 ⟨rfl, hb⟩
    replace hL0 := hL0.call hb
    clear hb
    replace hL0 := (hL0.new rfl [.int .u64 ((zl a.num : Nat) : Int), .string (zh a.num), .bool (zs a.num), .int .u64 ((lo (fe a) : Nat) : Int), .string (hs (fe a))] 79)
    generalize hweq : (x6.alloc (.cells #[.int .u64 ((zl a.num : Nat) : Int), .string (zh a.num), .bool (zs a.num), .int .u64 ((lo (fe a) : Nat) : Int), .string (hs (fe a))] 79)) = x7 at hL0
    go_upto_region 6 with fail
    clear hweq
    obtain ⟨α, iα, F, hF1, hF2⟩ := cls x7
    have hq0 := cls_box hF1 hL0 _ _ List.mem_cons_self
    simp only [cellsC, and_true, Nat.zero_add, Nat.reduceAdd] at hq0
    have hq1 := cls_box hF1 hL0 _ _ (List.mem_cons_of_mem _ List.mem_cons_self)
    simp only [cellsC, and_true, Nat.zero_add, Nat.reduceAdd] at hq1
    have hq2 := cls_box hF1 hL0 _ _ (List.mem_cons_of_mem _ (List.mem_cons_of_mem _ List.mem_cons_self))
    simp only [cellsC, and_true, Nat.zero_add, Nat.reduceAdd] at hq2
    have hq3 := cls_box hF1 hL0 _ _ (List.mem_cons_of_mem _ (List.mem_cons_of_mem _ (List.mem_cons_of_mem _ List.mem_cons_self)))
    simp only [cellsC, and_true, Nat.zero_add, Nat.reduceAdd] at hq3
    refine region_qs 28 (C := fun w' => ∃ x, w' = F x) (by kernel_rfl) (by kernel_rfl) (cls_drew hF2) ?_
    simp only [List.take_succ_cons, List.take_zero, List.drop_succ_cons, List.drop_zero, List.take_nil, List.drop_nil]
    repeat (go_big_quiet_step (first | fail | (go_at_call 43; with_reducible exact cls_call hF1 hF2 HA.out _) | (go_at_call 87; with_reducible exact cls_call hF1 hF2 HG.out _) | (go_at_call 88; with_reducible exact cls_call hF1 hF2 HO.out _) | (go_at_call 89; with_reducible exact cls_call hF1 hF2 HV.out _)))
    refine wpQuiet_nil ?_
    rintro wq ⟨xq, rfl⟩
    replace hL0 := hL0.call (hF1 xq)
    clear  hq0 hq1 hq2 hq3 hF2
    generalize F xq = x8 at hL0 ⊢
    clear hF1 xq iα F α
    go_wp2_with fail
    with_reducible refine Calls.mono (HK.out _) ?_
    rintro e x9 ⟨rfl, hb⟩
    replace hL0 := hL0.call hb
    clear hb
    replace hL0 := (hL0.new rfl [.int .u64 ((zl k : Nat) : Int), .string (zh k), .bool (zs k)] 39)
    generalize hweq : (x9.alloc (.cells #[.int .u64 ((zl k : Nat) : Int), .string (zh k), .bool (zs k)] 39)) = x10 at hL0
    go_upto_region 12 with fail
    clear hweq
    refine region_gh (by kernel_rfl) (by kernel_rfl) ?_
    refine lex_seg (gl := []) 13 (by kernel_rfl) ?_
    intro α iα F hF1 hF2
    have hq := GL.seg hF1 hL0
    simp only [fcC, cellsC, and_true, Nat.zero_add, Nat.reduceAdd] at hq
    simp only [List.take_succ_cons, List.take_zero, List.drop_succ_cons, List.drop_zero, List.take_nil, List.drop_nil]
    repeat (go_big_quiet_step (first | fail | (go_at_call 43; with_reducible exact seg_call hF2 HB.out _) | (go_at_call 91; with_reducible exact seg_call hF2 HC.out _) | (go_at_call 35; with_reducible exact seg_call hF2 HM.out _) | (go_at_call 92; with_reducible exact seg_call hF2 HP.out _) | (go_at_call 86; with_reducible exact seg_call hF2 HR.out _)))
    refine wpQuiet_nil ?_
    clear hq hF1 hF2 iα F α
    refine lex_new [.int .u64 0, .string ⟨#[]⟩, .bool false, .int .u64 0, .string ⟨#[]⟩] 13 79 79 rfl rfl (of_decide_eq_true (by kernel_rfl)) (by kernel_rfl) rfl new_frac ?_
    simp only [Act.put, List.setIfInBounds_toArray, List.set_cons_succ, List.set_cons_zero]
    refine lex_put [.int .u64 ((zl a.num : Nat) : Int), .string (zh a.num), .bool (zs a.num), .int .u64 ((lo (fe a) : Nat) : Int), .string (hs (fe a))] [.int .u64 0, .string ⟨#[]⟩, .bool false, .int .u64 0, .string ⟨#[]⟩] 13 79 (.tmp 86) rfl (by kernel_rfl) (by simp [toG, upd]) rfl (fun w k h => put_frac _ _ _ _ _ _ _ _ _ _ w k h) ?_
    simp only [Act.put]
    refine lex_seg (gl := [(13, [.int .u64 ((zl a.num : Nat) : Int), .string (zh a.num), .bool (zs a.num), .int .u64 ((lo (fe a) : Nat) : Int), .string (hs (fe a))], true), (13, [.int .u64 0, .string ⟨#[]⟩, .bool false, .int .u64 0, .string ⟨#[]⟩], false)]) 1 (by kernel_rfl) ?_
    intro α iα F hF1 hF2
    have hq := GL.seg hF1 hL0
    simp only [fcC, cellsC, and_true, Nat.zero_add, Nat.reduceAdd] at hq
    simp only [List.take_succ_cons, List.take_zero, List.drop_succ_cons, List.drop_zero, List.take_nil, List.drop_nil]
    repeat (go_big_quiet_step (first | fail | (go_at_call 43; with_reducible exact seg_call hF2 HB.out _) | (go_at_call 91; with_reducible exact seg_call hF2 HC.out _) | (go_at_call 35; with_reducible exact seg_call hF2 HM.out _) | (go_at_call 92; with_reducible exact seg_call hF2 HP.out _) | (go_at_call 86; with_reducible exact seg_call hF2 HR.out _)))
    refine wpQuiet_nil ?_
    clear hq hF1 hF2 iα F α
    refine lexG_nil ?_
    intro κ x11 hS
    replace hL0 := hL0.ghs hS [(13, [.int .u64 ((zl a.num : Nat) : Int), .string (zh a.num), .bool (zs a.num), .int .u64 ((lo (fe a) : Nat) : Int), .string (hs (fe a))])] (by simp) (by intro p hp; simp only [List.mem_cons, List.not_mem_nil, or_false] at hp; rcases hp with rfl <;> exact ⟨_, by simp only [toG, upd]; rfl⟩)
    simp only [List.map_cons, List.map_nil, List.cons_append, List.nil_append] at hL0
    simp only [over_toG, over_nil, Act.put, List.setIfInBounds_toArray, List.set_cons_succ, List.set_cons_zero]
    clear hS
    generalize κ 13 = k11_13 at *
    have hN0 := cells_of _ 0 [] rfl (hL0.get _ _ List.mem_cons_self)
    simp only [cellsF, and_true, Nat.zero_add, Nat.reduceAdd] at hN0
    have hN1 := cells_of _ 0 [] rfl (hL0.get _ _ (List.mem_cons_of_mem _ (List.mem_cons_of_mem _ (List.mem_cons_of_mem _ (List.mem_cons_of_mem _ (List.mem_cons_of_mem _ List.mem_cons_self))))))
    simp only [cellsF, and_true, Nat.zero_add, Nat.reduceAdd] at hN1
    go_wp2_with fail
    clear hN0 hN1
    with_reducible refine Calls.mono (HW.out _ (hKW.out.at hL0.bl kKW)) ?_
    rintro e x12 ⟨rfl, hb⟩
    replace hL0 := hL0.call hb
    clear hb
    go_wp2_with fail
    exact bodyPost_ret (v := .bool true) (by simp [results, Tryz.results10, go_sem]) rfl ⟨rfl, hL0.bl⟩)

theorem flowest_part_pos (sx : Bool) (ax qx : Option Addr) (nx cx mx dx : Nat) (lx kx : List Nat) (k : Int) (lok : -9223372036854775808 ≤ k) (hik : k < 9223372036854775808) (hk0 : k ≠ 0) (hk : nx ≤ 8 ∧ mx ≤ 8) (h1 : (gmade sx lx kx).den ≠ 1) (w : World) (htab : Tab w) (hm : MaxL w) (hwx : Ws w (.slice ax nx cx) lx) (hvx : Ws w (.slice qx mx dx) kx) :
    Calls Tryz.prog 10 #[.agg #[.bool sx, .slice ax nx cx, .slice qx mx dx], .int .i64 k] w fun xe w' => xe = .returned (.bool true) ∧ Below w.heap.size w w' := by
  have elx := hwx.len
  have ekx := hvx.len
  have Gx := fun w (h : Ws w (.slice ax nx cx) lx ∧ Ws w (.slice qx mx dx) kx) => gof_any sx ax qx nx cx mx dx lx kx (by omega) (by omega) w h.1 h.2
  have Sa : Sz (gmade sx lx kx) 9 := gmade_sz (by omega) hwx hvx (by omega) (by omega)
  generalize gmade sx lx kx = a at *
  have HN := fun w => numF a w
  have HD := fun w => denF a w
  have HF := fun w => fromF a.num a.den a.den_nz (Nat.le_trans Sa.n (by omega)) (Nat.le_trans Sa.d (by omega)) w
  rw [Rat.mkRat_self] at HF
  have HA := fun w => absI a.num w
  have HG := fun w => gcd_any a.num.natAbs a.den (Nat.le_trans Sa.n (by omega)) (Nat.le_trans Sa.d (by omega)) w
  rw [red_gcd] at HG
  have HO := one_o
  have HV := fun w => wholeF a w
  have hkn : k.natAbs ≠ 0 := by omega
  have lk : (digs k.natAbs).length ≤ 1 := i64_dI lok hik
  have HK := fun w => ofI k lok hik w
  have HB := fun w => absI k w
  have HC := fun w => fromI false k.natAbs (k.natAbs : Int) rfl w
  have HM := fun w => mulI a.num (k.natAbs : Int) (Nat.le_trans Sa.n (by omega)) (by rw [dI_nat]; omega) w
  have HP := fun w => mul_any a.den k.natAbs (Nat.le_trans Sa.d (by omega)) (by omega) w
  have l1 : dI (a.num * (k.natAbs : Int)) ≤ 9 + 1 := dI_mul Sa.n (by rw [dI_nat]; exact lk)
  have l2 : (digs (a.den * k.natAbs)).length ≤ 9 + 1 := digs_mul_le Sa.d lk
  have HR := fun w => fromF (a.num * (k.natAbs : Int)) (a.den * k.natAbs) (Nat.mul_ne_zero a.den_nz hkn) (by omega) (by omega) w
  rw [scaled a k.natAbs hkn] at HR
  rw [decide_eq_false h1] at HV
  have HW := fun w (h : Tab w ∧ MaxL w) => fworks_any w h.1 h.2
  exact flowest_part_pos_w sx ax qx nx cx mx dx k a a.num a.den a.num.natAbs k.natAbs (a.num * (k.natAbs : Int)) (a.den * k.natAbs) (k.natAbs : Int) _ (Keeps.and (Keeps.ws _ _) (Keeps.ws _ _)) Gx HN HD HF HA HG HO HV HK HB HC HM HP HR _ (Keeps.and Keeps.tab MaxL.keeps) HW (decide_eq_true hk) a.den_nz h1 (by simp [hk0]) w ⟨hwx, hvx⟩ ⟨htab, hm⟩

theorem flowest_any (sx : Bool) (ax qx : Option Addr) (nx cx mx dx : Nat) (lx kx : List Nat) (k : Int) (lok : -9223372036854775808 ≤ k) (hik : k < 9223372036854775808) (w : World) (htab : Tab w) (hm : MaxL w) (hwx : Ws w (.slice ax nx cx) lx) (hvx : Ws w (.slice qx mx dx) kx) :
    Calls Tryz.prog 10 #[.agg #[.bool sx, .slice ax nx cx, .slice qx mx dx], .int .i64 k] w fun xe w' => xe = .returned (.bool true) ∧ Below w.heap.size w w' := by
  by_cases hk : nx ≤ 8 ∧ mx ≤ 8
  · by_cases h1 : (gmade sx lx kx).den = 1
    · by_cases hk0 : k = 0
      · subst hk0; exact flowest_one_zero sx ax qx nx cx mx dx lx kx hk h1 w htab hm hwx hvx
      · exact flowest_one_pos sx ax qx nx cx mx dx lx kx k lok hik hk0 hk h1 w htab hm hwx hvx
    · by_cases hk0 : k = 0
      · subst hk0; exact flowest_part_zero sx ax qx nx cx mx dx lx kx hk h1 w htab hm hwx hvx
      · exact flowest_part_pos sx ax qx nx cx mx dx lx kx k lok hik hk0 hk h1 w htab hm hwx hvx
  · exact flowest_big sx ax qx nx cx mx dx lx kx k lok hik hk w htab hm hwx hvx

end Go.Proofs.YtecdnohhengfaaaGreatDoor

/-
  The law FracsLowest answers true at every input, and leaves its arguments as they were. CONDITIONS: the package-level tables start as the program's text lays them (the card ties them).
-/
namespace Go.Proofs.YtecdnohhengfaaaGreatDoor.fracsLowest
open Go.ChangeShapes Go.WideShapes Go.ChangeAt Go.RowKit

set_option maxRecDepth 100000 in
theorem contract (H : Type) (enc : TypeId × Value → H) (W : World) (base : Nat) (args : Array Value) (ds gs : List (DataW H)) (before : List MemPlace)
    (hval : ∀ (j : Nat) t v, Tryz.f10.params[j]? = some t → args[j]? = some v → Value.okWide Tryz.prog W .any base t v)
    (hW : DataW.Whole enc Tryz.prog Tryz.f10.params.toList Rows.fracsLowestSpec.vars false W args.toList ds gs before) (hL : laidMetH Tryz.prog Rows.fracsLowestRow.laid W) (hSh : W.ShapedOpen Tryz.prog) :
    Calls Tryz.prog 10 args W fun e W' => ∃ v, e = .returned v ∧ Rows.fracsLowestSpec.post enc Tryz.prog Tryz.f10 false true false false W args v W' := by
  have hW' := hW
  obtain ⟨p, q, hA0, hV, rfl, _, _⟩ := hW
  have hA : DataW.TrodAll enc Tryz.prog W 0 (fun _ => true) true Tryz.f10.params.toList args.toList ds p := hA0
  rw [Tryz.params10] at hA hval
  obtain ⟨v0, v1, e0, e1, p0, p1, rfl, rfl, rfl, h0, h1⟩ := trodAll_two hA
  obtain ⟨rfl, rfl⟩ := trodVars_none hV
  clear hA0
  simp only [List.append_nil] at hW'
  have hlt : ∀ x ∈ p0 ++ p1, x.block < W.heap.size := fun x hx => by simpa using hW'.lt x hx
  have t0 : ∀ x ∈ p0, x.block < W.heap.size := fun x hx => hlt x (by simp [hx])
  obtain ⟨s0, a0, q0, n0, c0, m0, d0, l0, k0, rfl, w0, u0⟩ := great_of (hval 0 76 v0 rfl rfl) h0
  obtain ⟨z1, rfl, rfl, rfl, f1⟩ := open_int Tryz.underlying2 (hval 1 2 v1 rfl rfl) h1
  have b1 := bounds_i64 f1
  refine (flowest_any s0 a0 q0 n0 c0 m0 d0 l0 k0 z1 (by omega) (by omega) W (tab_of hL) (maxL_of hSh) w0 u0).mono fun e W' ⟨he, hb⟩ => ?_
  subst he
  refine ⟨_, rfl, _, _, _, [], ?pl, [], hW', ?_, ?_, rfl, hb.frame _, fun h => by cases h⟩
  rotate_left
  · exact trodAll_mk1 (shut_bool Tryz.underlying4 _)
  · exact trodAll_mk2 (Below.trod laidOut (by kernel_rfl) (of_decide_eq_true (by kernel_rfl)) h0 hb t0) (shut_int Tryz.underlying2 f1)

/-- A world for the witness: the settled one, the tables as their initialisers lay them. -/
noncomputable def laidWorld (os : Os) : World := World.laidAll Tryz.prog os Rows.fracsLowestRow.laid
theorem laid_met (os : Os) : laidMet Tryz.prog Rows.fracsLowestRow.laid ((laidWorld os).forCall (fun _ _ => 0) ⟨#[], #[.agg #[.bool false, .slice none 0 0, .slice none 0 0], .int .i64 0], []⟩).memory :=
  laidMet_laidAll _ (by kernel_rfl) (by kernel_rfl)
theorem reads (os : Os) {H : Type} (enc : TypeId × Value → H) : ∃ places, DataW.whole enc Tryz.prog ((laidWorld os).forCall (fun _ _ => 0) ⟨#[], #[.agg #[.bool false, .slice none 0 0, .slice none 0 0], .int .i64 0], []⟩).memory Tryz.f10.params.toList Rows.fracsLowestSpec.vars false (#[.agg #[.bool false, .slice none 0 0, .slice none 0 0], .int .i64 0] : Array Value).toList 8 = some ([.agg [.agg [.lit (.bool false), .nil], .nil], .lit (.int .i64 0)], [], places) :=
  ⟨[], by kernel_rfl⟩

set_option maxRecDepth 100000 in
theorem lifted (os : Os) (started : os.Started) (H : Type) (enc : TypeId × Value → H) (F : Stop.Interp) :
    ReturnsInHanded {} Tryz.checked os 10 .any ((OpenSpec.ofChange Rows.fracsLowestSpec).preRow enc Tryz.prog Tryz.f10 Rows.fracsLowestRow.domain false Rows.fracsLowestRow.laid) (((OpenSpec.ofChange Rows.fracsLowestSpec).at F).post enc Tryz.prog Tryz.f10 false true false false) := by
  obtain ⟨places, hx⟩ := reads os enc
  refine returnsInHanded_of_row (C := Tryz.checked) (s := OpenSpec.ofChange Rows.fracsLowestSpec) own started (by kernel_rfl) Tryz.func10
    (witness_row_at (enc := enc) (C := Tryz.checked) false (laidWorld os) #[.agg #[.bool false, .slice none 0 0, .slice none 0 0], .int .i64 0] (World.laidAll_os _ _ _) (by kernel_rfl) (by kernel_rfl) (by kernel_rfl)
      (OpenSpec.preRow_of_cond 8 hx (by kernel_rfl) (fun k hk => by cases hk) (by kernel_rfl) (laid_met os))) ?_
  intro W base args ds gs before hval hW _ _ _ hL hSh _
  exact contract H enc W base args ds gs before hval hW hL hSh

theorem said : Rows.FracsLowestSaid :=
  OpenClaim.holds_of_cond 10 Tryz.f10 rfl rfl rfl rfl rfl rfl rfl ⟨rfl, rfl, rfl, rfl, rfl⟩ rfl rfl rfl rfl rfl (by kernel_rfl) Tryz.func10 (by kernel_rfl)
    (of_decide_eq_true (by kernel_rfl)) (by unfold Func.isWrapper; first | (rw [if_pos (by decide +kernel)]; kernel_rfl) | (rw [if_neg (by decide +kernel)]; exact ⟨rfl, rfl⟩))
    (fun os started H enc _ F => by rw [OpenClaim.pre_eq_preRow]; exact lifted os started H enc F)

theorem plain (f : FuncId) (fn : Func) (hf : Tryz.pinned.checked.prog.funcNamed "gusset/gussetlaw03.FracsLowest" = some f) (hfn : Tryz.pinned.checked.prog.funcs[f]? = some fn) :
    false = Tryz.pinned.checked.prog.looks [] ∧ ∀ (j : Nat) t, fn.params[j]? = some t → Tryz.pinned.checked.prog.wantsStandIn t = false := by
  obtain rfl : f = 10 := Option.some.inj ((show Tryz.prog.funcNamed "gusset/gussetlaw03.FracsLowest" = some 10 by kernel_rfl).symm.trans hf) |>.symm
  obtain rfl : fn = Tryz.f10 := (Option.some.inj (Tryz.func10.symm.trans hfn)).symm
  refine ⟨by kernel_rfl, fun j t ht => ?_⟩
  rw [Tryz.params10] at ht
  have hm := Array.mem_of_getElem? ht
  simp only [List.mem_toArray, List.mem_cons, List.not_mem_nil, or_false] at hm
  rcases hm with rfl | rfl
  · exact (show Tryz.prog.wantsStandIn 76 = false by kernel_rfl)
  · exact (show Tryz.prog.wantsStandIn 2 = false by kernel_rfl)
end Go.Proofs.YtecdnohhengfaaaGreatDoor.fracsLowest

namespace Go.Proofs.YtecdnohhengfaaaGreatDoor
open Go.ChangeShapes Go.WideShapes Go.ChangeAt Go.RowKit
/-- THE CARD -/
theorem fracsLowestProved : Rows.FracsLowestCardSaid :=
  Claim7.holds_tied_plain_at .later [] _ _ _ _ fracsLowest.said (fun _ h => by cases h) (by kernel_rfl) (fun _ h => by cases h) fracsLowest_row_tie rfl ⟨rfl, rfl⟩ (by kernel_rfl) rfl fracsLowest.plain (by kernel_rfl)
end Go.Proofs.YtecdnohhengfaaaGreatDoor
