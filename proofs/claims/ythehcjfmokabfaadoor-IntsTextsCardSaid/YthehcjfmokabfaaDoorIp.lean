/-
  Layer 2, law: IntsTexts.
-/
import Derived.Test.YthehcjfmokabfaaDoorIl
set_option linter.unusedVariables false
set_option linter.unusedSimpArgs false
namespace Go.Proofs.YthehcjfmokabfaaDoor
open Go.RowKit
attribute [local irreducible] lo hs sm s64 c64 d64 b64 mh ml pd pc qd qc val hiB str cmpI srD lz nb isq decB zl zh zs dval

set_option maxHeartbeats 16000000 in
set_option maxRecDepth 100000 in
theorem itexts_big (sx : Bool) (ax : Option Addr) (nx cx : Nat) (lx : List Nat) (h : ¬ (nx ≤ 20)) (w : World) (htab : Tab w) (hwx : Ws w (.slice ax nx cx) lx) :
    Calls Tryd.prog 7 #[.agg #[.bool sx, .slice ax nx cx]] w fun e w' => e = .returned (.bool true) ∧ Below w.heap.size w w' := by
  have hL0 : GL w w [] := GL.start w
  have HW := Lib.hid (fun w h => zworks_any w h)
  replace hL0 := (hL0.new rfl [.bool sx, .slice ax nx cx] 43)
  generalize hweq : (w.alloc (.cells #[.bool sx, .slice ax nx cx] 43)) = x1 at hL0
  go_enter Tryd.func7, Tryd.ntmps7
  have hN0 := cells_of _ 0 [] rfl (hL0.get _ _ List.mem_cons_self)
  simp only [cellsF, and_true, Nat.zero_add, Nat.reduceAdd] at hN0
  have hG := hL0.new rfl [.bool sx, .slice ax nx cx] 43
  generalize hbs : x1.alloc (.cells #[.bool sx, .slice ax nx cx] 43) = x2 at hG
  clear hL0
  have hL0 := hG
  clear hG
  have HFw := few1 20 20 rfl (by omega) (hL0.get _ _ List.mem_cons_self)
  rw [show decide (nx ≤ 20) = false from decide_eq_false (by omega)] at HFw
  replace HFw := Lib.hid HFw
  go_wp2_with fail
  clear hN0
  with_reducible refine Calls.mono HFw.out ?_
  rintro e x3 ⟨rfl, rfl⟩
  clear HFw hbs hweq
  go_wp2_with fail
  with_reducible refine Calls.mono (HW.out _ (htab.below hL0.bl)) ?_
  rintro e x4 ⟨rfl, hb⟩
  replace hL0 := hL0.call hb
  clear hb
  go_wp2_with fail
  exact bodyPost_ret (v := .bool true) (by simp [results, Tryd.results7, go_sem]) rfl ⟨rfl, hL0.bl⟩

theorem st_take' (r : List UInt8) (k : Nat) : (st r).extract 0 k = st (r.take k) := by
  apply ByteArray.ext
  rw [ByteArray.data_extract]
  show r.toArray.extract 0 k = (r.take k).toArray
  simp
theorem take_head (l : List UInt8) (h : l.head? ≠ some 45) : ((st (l.take 1)).data.toList == [45]) = false := by
  cases l with
  | nil => rfl
  | cons c r =>
    show ([c] == [45]) = false
    rw [beq_eq_false_iff_ne]
    intro e
    exact h (by simp only [List.cons.injEq, and_true] at e; simp [e])

set_option maxHeartbeats 16000000 in
set_option maxRecDepth 100000 in
theorem itexts_neg (sx : Bool) (ax : Option Addr) (nx cx : Nat) (lx : List Nat) (kx : nx ≤ 20) (ha : zmade sx lx < 0) (w : World) (htab : Tab w) (hwx : Ws w (.slice ax nx cx) lx) :
    Calls Tryd.prog 7 #[.agg #[.bool sx, .slice ax nx cx]] w fun e w' => e = .returned (.bool true) ∧ Below w.heap.size w w' := by
  have hL0 : GL w w [] := GL.start w
  have ex := hwx.len
  have ZX := fun w h => zof_any sx ax nx cx lx (by omega) w h
  have dx : dI (zmade sx lx) ≤ 20 := Nat.le_trans (zmade_dI hwx.lt) (by omega)
  generalize zmade sx lx = a at *
  replace ZX := Lib.hid ZX
  have HT := Lib.hid (fun w h => textI a (by omega) w h)
  have HP := Lib.hid (fun w => parse_ztxt a (by omega) w)
  have HS := fun w => signI a w
  rw [sgn_neg ha] at HS
  replace HS := Lib.hid HS
  have HA := Lib.hid (fun w => absI a w)
  have HN := fun w h => text_any a.natAbs (Nat.le_trans dx (by omega)) w h
  have hsz := txt_small (k := 20) (by omega) dx
  have ez : ztxt a = ByteArray.mk #[45] ++ txt a.natAbs := by unfold ztxt; rw [if_pos ha]
  have ex : ∃ X : ByteArray, (ByteArray.mk #[45] ++ txt a.natAbs).extract 0 1 = X ∧ (X.toList == [45]) = true := ⟨_, rfl, by rw [← ez, ztxt_st, if_pos ha, st_take']; rw [ByteArray.toList_eq]; rfl⟩
  have hs1 : 1 ≤ (txt a.natAbs).size := by show 1 ≤ (Lib.decDigits a.natAbs).length; exact dec_length_pos _
  rw [ez] at HT HP
  generalize txt a.natAbs = t at *
  replace HN := Lib.hid HN
  obtain ⟨X, ex1, ex2⟩ := ex
  generalize a.natAbs = m at *
  have hs2 : ((t.size : Nat) : Int) ≤ 400 := by omega
  have hs3 : (1 : Int) ≤ ((t.size : Nat) : Int) := by omega
  have HW := Lib.hid (fun w h => zworks_any w h)
  have hs4 : (((ByteArray.mk #[45] ++ t).size : Nat) : Int) = 1 + ((t.size : Nat) : Int) := by rw [ByteArray.size_append]; rfl
  have f1 : decide ((0 : Int) < 1 + ((t.size : Nat) : Int)) = true := decide_eq_true (by omega)
  have f2 : decide ((0 : Int) < ((t.size : Nat) : Int)) = true := decide_eq_true (by omega)
  have f3 : decide (0 < t.size) = true := decide_eq_true (by omega)
  have f4 : decide (0 < 1 + t.size) = true := decide_eq_true (by omega)
  clear ez ha
  replace kx := Lib.hid kx
  clear ex dx
  replace hL0 := (hL0.new rfl [.bool sx, .slice ax nx cx] 43)
  generalize hweq : (w.alloc (.cells #[.bool sx, .slice ax nx cx] 43)) = x1 at hL0
  replace hwx := Lib.hid hwx
  go_enter Tryd.func7, Tryd.ntmps7
  have kx' := kx.out
  have hN0 := cells_of _ 0 [] rfl (hL0.get _ _ List.mem_cons_self)
  simp only [cellsF, and_true, Nat.zero_add, Nat.reduceAdd] at hN0
  have hG := hL0.new rfl [.bool sx, .slice ax nx cx] 43
  generalize hbs : x1.alloc (.cells #[.bool sx, .slice ax nx cx] 43) = x2 at hG
  clear hL0
  have hL0 := hG
  clear hG
  have HFw := few1 20 20 rfl (by omega) (hL0.get _ _ List.mem_cons_self)
  rw [show decide (nx ≤ 20) = true from decide_eq_true (by omega)] at HFw
  replace HFw := Lib.hid HFw
  go_wp2_with fail
  clear hN0
  with_reducible refine Calls.mono HFw.out ?_
  rintro e x3 ⟨rfl, rfl⟩
  clear HFw hbs hweq
  clear kx kx'
  have hwx1 := hwx.out.below hL0.bl
  have hN0 := cells_of _ 0 [] rfl (hL0.get _ _ (List.mem_cons_of_mem _ List.mem_cons_self))
  simp only [cellsF, and_true, Nat.zero_add, Nat.reduceAdd] at hN0
  go_wp2_with fail
  clear hN0
  with_reducible refine Calls.mono (ZX.out _ hwx1) ?_
  rintro e x4 ⟨rfl, hb⟩
  replace hL0 := hL0.call hb
  clear hb
  clear hwx1
  replace hL0 := (hL0.new rfl [.int .u64 ((zl a : Nat) : Int), .string (zh a), .bool (zs a)] 27)
  generalize hweq : (x4.alloc (.cells #[.int .u64 ((zl a : Nat) : Int), .string (zh a), .bool (zs a)] 27)) = x5 at hL0
  have hN0 := cells_of _ 0 [] rfl (hL0.get _ _ List.mem_cons_self)
  simp only [cellsF, and_true, Nat.zero_add, Nat.reduceAdd] at hN0
  go_wp2_with fail
  clear hN0
  with_reducible refine Calls.mono (HT.out _ (htab.below hL0.bl)) ?_
  rintro e x6 ⟨rfl, hb⟩
  replace hL0 := hL0.call hb
  clear hb hweq
  go_wp2_with fail
  with_reducible refine Calls.mono (HP.out _) ?_
  rintro e x7 ⟨rfl, hb⟩
  replace hL0 := hL0.call hb
  clear hb
  replace hL0 := (hL0.new rfl [.int .u64 ((zl a : Nat) : Int), .string (zh a), .bool (zs a)] 27)
  generalize hweq : (x7.alloc (.cells #[.int .u64 ((zl a : Nat) : Int), .string (zh a), .bool (zs a)] 27)) = x8 at hL0
  go_upto_region 6 with fail
  have ht := htab.below hL0.bl
  clear hweq
  obtain ⟨α, iα, F, hF1, hF2⟩ := cls x8
  have hq0 := cls_box hF1 hL0 _ _ (List.mem_cons_of_mem _ List.mem_cons_self)
  simp only [cellsC, and_true, Nat.zero_add, Nat.reduceAdd] at hq0
  have hq1 := cls_box hF1 hL0 _ _ List.mem_cons_self
  simp only [cellsC, and_true, Nat.zero_add, Nat.reduceAdd] at hq1
  refine region_qs 49 (C := fun w' => ∃ x, w' = F x) (by kernel_rfl) (by kernel_rfl) (cls_drew hF2) ?_
  simp only [List.take_succ_cons, List.take_zero, List.drop_succ_cons, List.drop_zero, List.take_nil, List.drop_nil]
  repeat (go_big_quiet_step (first | fail | (go_at_call 19; with_reducible exact cls_call hF1 hF2 HS.out _) | (go_at_call 20; with_reducible exact cls_call hF1 hF2 HA.out _) | (go_at_call 29; with_reducible exact cls_callT hF1 hF2 ht HN.out _) | (go_at_call 8; with_reducible exact cls_callT hF1 hF2 ht HW.out _)))
  refine wpQuiet_nil ?_
  rintro wq ⟨xq, rfl⟩
  replace hL0 := hL0.call (hF1 xq)
  clear  hq0 hq1 hF2
  generalize F xq = x9 at hL0 ⊢
  clear hF1 xq iα F α
  go_wp2_with fail
  exact bodyPost_ret (v := .bool true) (by simp [results, Tryd.results7, go_sem]) rfl ⟨rfl, hL0.bl⟩

set_option maxHeartbeats 16000000 in
set_option maxRecDepth 100000 in
theorem itexts_zero (sx : Bool) (ax : Option Addr) (nx cx : Nat) (lx : List Nat) (kx : nx ≤ 20) (ha : zmade sx lx = 0) (w : World) (htab : Tab w) (hwx : Ws w (.slice ax nx cx) lx) :
    Calls Tryd.prog 7 #[.agg #[.bool sx, .slice ax nx cx]] w fun e w' => e = .returned (.bool true) ∧ Below w.heap.size w w' := by
  have hL0 : GL w w [] := GL.start w
  have ex := hwx.len
  have ZX := fun w h => zof_any sx ax nx cx lx (by omega) w h
  have dx : dI (zmade sx lx) ≤ 20 := Nat.le_trans (zmade_dI hwx.lt) (by omega)
  generalize zmade sx lx = a at *
  replace ZX := Lib.hid ZX
  have HT := Lib.hid (fun w h => textI a (by omega) w h)
  have HP := Lib.hid (fun w => parse_ztxt a (by omega) w)
  have HS := fun w => signI a w
  rw [show sgn a = 0 by rw [ha]; rfl] at HS
  replace HS := Lib.hid HS
  have HA := Lib.hid (fun w => absI a w)
  have HN := fun w h => text_any a.natAbs (Nat.le_trans dx (by omega)) w h
  have hsz := txt_small (k := 20) (by omega) dx
  have ez : ztxt a = txt a.natAbs := by unfold ztxt; rw [if_neg (by omega)]
  have ex : ∃ X : ByteArray, (txt a.natAbs).extract 0 1 = X ∧ (X.toList == [45]) = false := ⟨_, rfl, by rw [← ez, ztxt_st, if_neg (by omega), st_take', ByteArray.toList_eq]; exact take_head _ (dec_head _)⟩
  have hs1 : 1 ≤ (txt a.natAbs).size := by show 1 ≤ (Lib.decDigits a.natAbs).length; exact dec_length_pos _
  rw [ez] at HT HP
  generalize txt a.natAbs = t at *
  replace HN := Lib.hid HN
  obtain ⟨X, ex1, ex2⟩ := ex
  generalize a.natAbs = m at *
  have hs2 : ((t.size : Nat) : Int) ≤ 400 := by omega
  have hs3 : (1 : Int) ≤ ((t.size : Nat) : Int) := by omega
  have HW := Lib.hid (fun w h => zworks_any w h)
  have f1 : decide ((0 : Int) < 1 + ((t.size : Nat) : Int)) = true := decide_eq_true (by omega)
  have f2 : decide ((0 : Int) < ((t.size : Nat) : Int)) = true := decide_eq_true (by omega)
  have f3 : decide (0 < t.size) = true := decide_eq_true (by omega)
  have f4 : decide (0 < 1 + t.size) = true := decide_eq_true (by omega)
  clear ez ha
  replace kx := Lib.hid kx
  clear ex dx
  replace hL0 := (hL0.new rfl [.bool sx, .slice ax nx cx] 43)
  generalize hweq : (w.alloc (.cells #[.bool sx, .slice ax nx cx] 43)) = x1 at hL0
  replace hwx := Lib.hid hwx
  go_enter Tryd.func7, Tryd.ntmps7
  have kx' := kx.out
  have hN0 := cells_of _ 0 [] rfl (hL0.get _ _ List.mem_cons_self)
  simp only [cellsF, and_true, Nat.zero_add, Nat.reduceAdd] at hN0
  have hG := hL0.new rfl [.bool sx, .slice ax nx cx] 43
  generalize hbs : x1.alloc (.cells #[.bool sx, .slice ax nx cx] 43) = x2 at hG
  clear hL0
  have hL0 := hG
  clear hG
  have HFw := few1 20 20 rfl (by omega) (hL0.get _ _ List.mem_cons_self)
  rw [show decide (nx ≤ 20) = true from decide_eq_true (by omega)] at HFw
  replace HFw := Lib.hid HFw
  go_wp2_with fail
  clear hN0
  with_reducible refine Calls.mono HFw.out ?_
  rintro e x3 ⟨rfl, rfl⟩
  clear HFw hbs hweq
  clear kx kx'
  have hwx1 := hwx.out.below hL0.bl
  have hN0 := cells_of _ 0 [] rfl (hL0.get _ _ (List.mem_cons_of_mem _ List.mem_cons_self))
  simp only [cellsF, and_true, Nat.zero_add, Nat.reduceAdd] at hN0
  go_wp2_with fail
  clear hN0
  with_reducible refine Calls.mono (ZX.out _ hwx1) ?_
  rintro e x4 ⟨rfl, hb⟩
  replace hL0 := hL0.call hb
  clear hb
  clear hwx1
  replace hL0 := (hL0.new rfl [.int .u64 ((zl a : Nat) : Int), .string (zh a), .bool (zs a)] 27)
  generalize hweq : (x4.alloc (.cells #[.int .u64 ((zl a : Nat) : Int), .string (zh a), .bool (zs a)] 27)) = x5 at hL0
  have hN0 := cells_of _ 0 [] rfl (hL0.get _ _ List.mem_cons_self)
  simp only [cellsF, and_true, Nat.zero_add, Nat.reduceAdd] at hN0
  go_wp2_with fail
  clear hN0
  with_reducible refine Calls.mono (HT.out _ (htab.below hL0.bl)) ?_
  rintro e x6 ⟨rfl, hb⟩
  replace hL0 := hL0.call hb
  clear hb hweq
  go_wp2_with fail
  with_reducible refine Calls.mono (HP.out _) ?_
  rintro e x7 ⟨rfl, hb⟩
  replace hL0 := hL0.call hb
  clear hb
  replace hL0 := (hL0.new rfl [.int .u64 ((zl a : Nat) : Int), .string (zh a), .bool (zs a)] 27)
  generalize hweq : (x7.alloc (.cells #[.int .u64 ((zl a : Nat) : Int), .string (zh a), .bool (zs a)] 27)) = x8 at hL0
  go_upto_region 6 with fail
  have ht := htab.below hL0.bl
  clear hweq
  obtain ⟨α, iα, F, hF1, hF2⟩ := cls x8
  have hq0 := cls_box hF1 hL0 _ _ (List.mem_cons_of_mem _ List.mem_cons_self)
  simp only [cellsC, and_true, Nat.zero_add, Nat.reduceAdd] at hq0
  have hq1 := cls_box hF1 hL0 _ _ List.mem_cons_self
  simp only [cellsC, and_true, Nat.zero_add, Nat.reduceAdd] at hq1
  refine region_qs 49 (C := fun w' => ∃ x, w' = F x) (by kernel_rfl) (by kernel_rfl) (cls_drew hF2) ?_
  simp only [List.take_succ_cons, List.take_zero, List.drop_succ_cons, List.drop_zero, List.take_nil, List.drop_nil]
  repeat (go_big_quiet_step (first | fail | (go_at_call 19; with_reducible exact cls_call hF1 hF2 HS.out _) | (go_at_call 20; with_reducible exact cls_call hF1 hF2 HA.out _) | (go_at_call 29; with_reducible exact cls_callT hF1 hF2 ht HN.out _) | (go_at_call 8; with_reducible exact cls_callT hF1 hF2 ht HW.out _)))
  refine wpQuiet_nil ?_
  rintro wq ⟨xq, rfl⟩
  replace hL0 := hL0.call (hF1 xq)
  clear  hq0 hq1 hF2
  generalize F xq = x9 at hL0 ⊢
  clear hF1 xq iα F α
  go_wp2_with fail
  exact bodyPost_ret (v := .bool true) (by simp [results, Tryd.results7, go_sem]) rfl ⟨rfl, hL0.bl⟩

set_option maxHeartbeats 16000000 in
set_option maxRecDepth 100000 in
theorem itexts_pos (sx : Bool) (ax : Option Addr) (nx cx : Nat) (lx : List Nat) (kx : nx ≤ 20) (ha : 0 < zmade sx lx) (w : World) (htab : Tab w) (hwx : Ws w (.slice ax nx cx) lx) :
    Calls Tryd.prog 7 #[.agg #[.bool sx, .slice ax nx cx]] w fun e w' => e = .returned (.bool true) ∧ Below w.heap.size w w' := by
  have hL0 : GL w w [] := GL.start w
  have ex := hwx.len
  have ZX := fun w h => zof_any sx ax nx cx lx (by omega) w h
  have dx : dI (zmade sx lx) ≤ 20 := Nat.le_trans (zmade_dI hwx.lt) (by omega)
  generalize zmade sx lx = a at *
  replace ZX := Lib.hid ZX
  have HT := Lib.hid (fun w h => textI a (by omega) w h)
  have HP := Lib.hid (fun w => parse_ztxt a (by omega) w)
  have HS := fun w => signI a w
  rw [sgn_pos ha] at HS
  replace HS := Lib.hid HS
  have HA := Lib.hid (fun w => absI a w)
  have HN := fun w h => text_any a.natAbs (Nat.le_trans dx (by omega)) w h
  have hsz := txt_small (k := 20) (by omega) dx
  have ez : ztxt a = txt a.natAbs := by unfold ztxt; rw [if_neg (by omega)]
  have ex : ∃ X : ByteArray, (txt a.natAbs).extract 0 1 = X ∧ (X.toList == [45]) = false := ⟨_, rfl, by rw [← ez, ztxt_st, if_neg (by omega), st_take', ByteArray.toList_eq]; exact take_head _ (dec_head _)⟩
  have hs1 : 1 ≤ (txt a.natAbs).size := by show 1 ≤ (Lib.decDigits a.natAbs).length; exact dec_length_pos _
  rw [ez] at HT HP
  generalize txt a.natAbs = t at *
  replace HN := Lib.hid HN
  obtain ⟨X, ex1, ex2⟩ := ex
  generalize a.natAbs = m at *
  have hs2 : ((t.size : Nat) : Int) ≤ 400 := by omega
  have hs3 : (1 : Int) ≤ ((t.size : Nat) : Int) := by omega
  have HW := Lib.hid (fun w h => zworks_any w h)
  have f1 : decide ((0 : Int) < 1 + ((t.size : Nat) : Int)) = true := decide_eq_true (by omega)
  have f2 : decide ((0 : Int) < ((t.size : Nat) : Int)) = true := decide_eq_true (by omega)
  have f3 : decide (0 < t.size) = true := decide_eq_true (by omega)
  have f4 : decide (0 < 1 + t.size) = true := decide_eq_true (by omega)
  clear ez ha
  replace kx := Lib.hid kx
  clear ex dx
  replace hL0 := (hL0.new rfl [.bool sx, .slice ax nx cx] 43)
  generalize hweq : (w.alloc (.cells #[.bool sx, .slice ax nx cx] 43)) = x1 at hL0
  replace hwx := Lib.hid hwx
  go_enter Tryd.func7, Tryd.ntmps7
  have kx' := kx.out
  have hN0 := cells_of _ 0 [] rfl (hL0.get _ _ List.mem_cons_self)
  simp only [cellsF, and_true, Nat.zero_add, Nat.reduceAdd] at hN0
  have hG := hL0.new rfl [.bool sx, .slice ax nx cx] 43
  generalize hbs : x1.alloc (.cells #[.bool sx, .slice ax nx cx] 43) = x2 at hG
  clear hL0
  have hL0 := hG
  clear hG
  have HFw := few1 20 20 rfl (by omega) (hL0.get _ _ List.mem_cons_self)
  rw [show decide (nx ≤ 20) = true from decide_eq_true (by omega)] at HFw
  replace HFw := Lib.hid HFw
  go_wp2_with fail
  clear hN0
  with_reducible refine Calls.mono HFw.out ?_
  rintro e x3 ⟨rfl, rfl⟩
  clear HFw hbs hweq
  clear kx kx'
  have hwx1 := hwx.out.below hL0.bl
  have hN0 := cells_of _ 0 [] rfl (hL0.get _ _ (List.mem_cons_of_mem _ List.mem_cons_self))
  simp only [cellsF, and_true, Nat.zero_add, Nat.reduceAdd] at hN0
  go_wp2_with fail
  clear hN0
  with_reducible refine Calls.mono (ZX.out _ hwx1) ?_
  rintro e x4 ⟨rfl, hb⟩
  replace hL0 := hL0.call hb
  clear hb
  clear hwx1
  replace hL0 := (hL0.new rfl [.int .u64 ((zl a : Nat) : Int), .string (zh a), .bool (zs a)] 27)
  generalize hweq : (x4.alloc (.cells #[.int .u64 ((zl a : Nat) : Int), .string (zh a), .bool (zs a)] 27)) = x5 at hL0
  have hN0 := cells_of _ 0 [] rfl (hL0.get _ _ List.mem_cons_self)
  simp only [cellsF, and_true, Nat.zero_add, Nat.reduceAdd] at hN0
  go_wp2_with fail
  clear hN0
  with_reducible refine Calls.mono (HT.out _ (htab.below hL0.bl)) ?_
  rintro e x6 ⟨rfl, hb⟩
  replace hL0 := hL0.call hb
  clear hb hweq
  go_wp2_with fail
  with_reducible refine Calls.mono (HP.out _) ?_
  rintro e x7 ⟨rfl, hb⟩
  replace hL0 := hL0.call hb
  clear hb
  replace hL0 := (hL0.new rfl [.int .u64 ((zl a : Nat) : Int), .string (zh a), .bool (zs a)] 27)
  generalize hweq : (x7.alloc (.cells #[.int .u64 ((zl a : Nat) : Int), .string (zh a), .bool (zs a)] 27)) = x8 at hL0
  go_upto_region 6 with fail
  have ht := htab.below hL0.bl
  clear hweq
  obtain ⟨α, iα, F, hF1, hF2⟩ := cls x8
  have hq0 := cls_box hF1 hL0 _ _ (List.mem_cons_of_mem _ List.mem_cons_self)
  simp only [cellsC, and_true, Nat.zero_add, Nat.reduceAdd] at hq0
  have hq1 := cls_box hF1 hL0 _ _ List.mem_cons_self
  simp only [cellsC, and_true, Nat.zero_add, Nat.reduceAdd] at hq1
  refine region_qs 49 (C := fun w' => ∃ x, w' = F x) (by kernel_rfl) (by kernel_rfl) (cls_drew hF2) ?_
  simp only [List.take_succ_cons, List.take_zero, List.drop_succ_cons, List.drop_zero, List.take_nil, List.drop_nil]
  repeat (go_big_quiet_step (first | fail | (go_at_call 19; with_reducible exact cls_call hF1 hF2 HS.out _) | (go_at_call 20; with_reducible exact cls_call hF1 hF2 HA.out _) | (go_at_call 29; with_reducible exact cls_callT hF1 hF2 ht HN.out _) | (go_at_call 8; with_reducible exact cls_callT hF1 hF2 ht HW.out _)))
  refine wpQuiet_nil ?_
  rintro wq ⟨xq, rfl⟩
  replace hL0 := hL0.call (hF1 xq)
  clear  hq0 hq1 hF2
  generalize F xq = x9 at hL0 ⊢
  clear hF1 xq iα F α
  go_wp2_with fail
  exact bodyPost_ret (v := .bool true) (by simp [results, Tryd.results7, go_sem]) rfl ⟨rfl, hL0.bl⟩

theorem itexts_small (sx : Bool) (ax : Option Addr) (nx cx : Nat) (lx : List Nat) (kx : nx ≤ 20) (w : World) (htab : Tab w) (hwx : Ws w (.slice ax nx cx) lx) :
    Calls Tryd.prog 7 #[.agg #[.bool sx, .slice ax nx cx]] w fun e w' => e = .returned (.bool true) ∧ Below w.heap.size w w' := by
  rcases Int.lt_trichotomy (zmade sx lx) 0 with h | h | h
  · exact itexts_neg sx ax nx cx lx kx h w htab hwx
  · exact itexts_zero sx ax nx cx lx kx h w htab hwx
  · exact itexts_pos sx ax nx cx lx kx h w htab hwx

theorem itexts_any (sx : Bool) (ax : Option Addr) (nx cx : Nat) (lx : List Nat)  (w : World) (htab : Tab w) (hwx : Ws w (.slice ax nx cx) lx) :
    Calls Tryd.prog 7 #[.agg #[.bool sx, .slice ax nx cx]] w fun e w' => e = .returned (.bool true) ∧ Below w.heap.size w w' := by
  by_cases h : nx ≤ 20
  · exact itexts_small sx ax nx cx lx h w htab hwx
  · exact itexts_big sx ax nx cx lx h w htab hwx

end Go.Proofs.YthehcjfmokabfaaDoor
