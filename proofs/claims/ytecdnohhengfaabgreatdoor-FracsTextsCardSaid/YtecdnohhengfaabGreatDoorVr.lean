/-
  Layer 3, law: FracsTexts.
-/
import Derived.Test.YtecdnohhengfaabGreatDoorZf
import Derived.ChangeMaps5
set_option linter.unusedVariables false
set_option linter.unusedSimpArgs false
namespace Go.Proofs.YtecdnohhengfaabGreatDoor
open Go.RowKit
attribute [local irreducible] lo hs sm s64 c64 d64 b64 mh ml pd pc qd qc val hiB str cmpI srD lz nb isq decB zl zh zs

set_option maxHeartbeats 16000000 in
set_option maxRecDepth 100000 in
theorem ftexts_big_w (sx : Bool) (ax qx : Option Addr) (nx cx mx dx : Nat) (KW : World → Prop) (hKW : Keeps KW) (HW : ∀ w, KW w → Calls Tryz.prog 6 #[] w fun xe w' => xe = .returned (.bool true) ∧ Below w.heap.size w w') (hfew : decide (nx ≤ 10 ∧ mx ≤ 10) = false) (w : World) (kKW : KW w) :
    Calls Tryz.prog 3 #[.agg #[.bool sx, .slice ax nx cx, .slice qx mx dx]] w fun xe w' => xe = .returned (.bool true) ∧ Below w.heap.size w w' := by
  have hL0 : GL w w [] := GL.start w
  replace hKW := Lib.hid hKW
  replace HW := Lib.hid HW
  replace hL0 := ((hL0.new rfl [.bool sx, .slice ax nx cx, .slice qx mx dx] 26).new (K := w.heap.size + 1) (szA _ _) [.bool sx, .slice ax nx cx, .slice qx mx dx] 26)
  generalize hweq : ((w.alloc (.cells #[.bool sx, .slice ax nx cx, .slice qx mx dx] 26)).alloc (.cells #[.bool sx, .slice ax nx cx, .slice qx mx dx] 26)) = x1 at hL0
  go_enter Tryz.func3, Tryz.ntmps3
  have hN0 := cells_of _ 0 [] rfl (hL0.get _ _ (List.mem_cons_of_mem _ List.mem_cons_self))
  simp only [cellsF, and_true, Nat.zero_add, Nat.reduceAdd] at hN0
  have HFw := gfew1 10 10 rfl (by omega) (hL0.get _ _ List.mem_cons_self)
  rw [hfew] at HFw
  replace HFw := Lib.hid HFw
  go_wp2_with fail
  with_reducible refine Calls.mono (HFw.out) ?_
  rintro e x2 ⟨rfl, rfl⟩
  clear HFw
  clear hN0
  go_wp2_with fail
  with_reducible refine Calls.mono (HW.out _ (hKW.out.at hL0.bl kKW)) ?_
  rintro e x3 ⟨rfl, hb⟩
  replace hL0 := hL0.call hb
  clear hb hweq
  go_wp2_with fail
  exact bodyPost_ret (v := .bool true) (by simp [results, Tryz.results3, go_sem]) rfl ⟨rfl, hL0.bl⟩

theorem ftexts_big (sx : Bool) (ax qx : Option Addr) (nx cx mx dx : Nat) (lx kx : List Nat) (h : ¬ (nx ≤ 10 ∧ mx ≤ 10)) (w : World) (htab : Tab w) (hm : MaxL w) (hwx : Ws w (.slice ax nx cx) lx) (hvx : Ws w (.slice qx mx dx) kx) :
    Calls Tryz.prog 3 #[.agg #[.bool sx, .slice ax nx cx, .slice qx mx dx]] w fun xe w' => xe = .returned (.bool true) ∧ Below w.heap.size w w' := by
  have HW := fun w (h : Tab w ∧ MaxL w) => fworks_any w h.1 h.2
  exact ftexts_big_w sx ax qx nx cx mx dx  _ (Keeps.and Keeps.tab MaxL.keeps) HW (decide_eq_false h) w ⟨htab, hm⟩

set_option maxHeartbeats 16000000 in
set_option maxRecDepth 100000 in
theorem ftexts_small_w (sx : Bool) (ax qx : Option Addr) (nx cx mx dx : Nat) (a : Rat) (t : ByteArray) (u : ByteArray) (v : ByteArray) (zn : Int) (yn : Int) (pn : Nat) (dn : Nat) (Kx : World → Prop) (hKx : Keeps Kx) (Gx : ∀ w, Kx w → Calls Tryz.prog 7 #[.agg #[.bool sx, .slice ax nx cx, .slice qx mx dx]] w fun xe w' => xe = .returned (.agg #[.int .u64 ((zl a.num : Nat) : Int), .string (zh a.num), .bool (zs a.num), .int .u64 ((lo (fe a) : Nat) : Int), .string (hs (fe a))]) ∧ Below w.heap.size w w') (KW : World → Prop) (hKW : Keeps KW) (HT : ∀ w, KW w → Calls Tryz.prog 9 #[.agg #[.int .u64 ((zl a.num : Nat) : Int), .string (zh a.num), .bool (zs a.num), .int .u64 ((lo (fe a) : Nat) : Int), .string (hs (fe a))]] w fun xe w' => xe = .returned (.string t) ∧ Below w.heap.size w w') (HP : ∀ w, KW w → Calls Tryz.prog 8 #[.string t] w fun xe w' => xe = .returned (.tuple #[.agg #[.int .u64 ((zl a.num : Nat) : Int), .string (zh a.num), .bool (zs a.num), .int .u64 ((lo (fe a) : Nat) : Int), .string (hs (fe a))], .int .i64 0]) ∧ Below w.heap.size w w') (HZ : ∀ w, Kx w → Calls Tryz.prog 10 #[.agg #[.bool sx, .slice ax nx cx]] w fun xe w' => xe = .returned (.agg #[.int .u64 ((zl zn : Nat) : Int), .string (zh zn), .bool (zs zn)]) ∧ Below w.heap.size w w') (HE : ∀ w, Calls Tryz.prog 13 #[.agg #[.bool sx, .slice ax nx cx, .slice qx mx dx]] w fun xe w' => xe = .returned (.agg #[.bool false, .slice qx mx dx]) ∧ Below w.heap.size w w') (HY : ∀ w, Kx w → Calls Tryz.prog 10 #[.agg #[.bool false, .slice qx mx dx]] w fun xe w' => xe = .returned (.agg #[.int .u64 ((zl yn : Nat) : Int), .string (zh yn), .bool (zs yn)]) ∧ Below w.heap.size w w') (HA : ∀ w, Calls Tryz.prog 12 #[.agg #[.int .u64 ((zl yn : Nat) : Int), .string (zh yn), .bool (zs yn)]] w fun xe w' => xe = .returned (.agg #[.int .u64 ((lo pn : Nat) : Int), .string (hs pn)]) ∧ Below w.heap.size w w') (HO : ∀ w, Calls Tryz.prog 14 #[.int .u64 1] w fun xe w' => xe = .returned (.agg #[.int .u64 ((lo 1 : Nat) : Int), .string (hs 1)]) ∧ Below w.heap.size w w') (HD : ∀ w, Calls Tryz.prog 11 #[.agg #[.int .u64 ((lo pn : Nat) : Int), .string (hs pn)], .agg #[.int .u64 ((lo 1 : Nat) : Int), .string (hs 1)]] w fun xe w' => xe = .returned (.agg #[.int .u64 ((lo dn : Nat) : Int), .string (hs dn)]) ∧ Below w.heap.size w w') (HI : ∀ w, KW w → Calls Tryz.prog 15 #[.agg #[.int .u64 ((zl zn : Nat) : Int), .string (zh zn), .bool (zs zn)]] w fun xe w' => xe = .returned (.string u) ∧ Below w.heap.size w w') (HN : ∀ w, KW w → Calls Tryz.prog 16 #[.agg #[.int .u64 ((lo dn : Nat) : Int), .string (hs dn)]] w fun xe w' => xe = .returned (.string v) ∧ Below w.heap.size w w') (HQ : ∀ w, KW w → Calls Tryz.prog 8 #[.string ((u ++ (ByteArray.mk #[47])) ++ v)] w fun xe w' => xe = .returned (.tuple #[.agg #[.int .u64 ((zl a.num : Nat) : Int), .string (zh a.num), .bool (zs a.num), .int .u64 ((lo (fe a) : Nat) : Int), .string (hs (fe a))], .int .i64 0]) ∧ Below w.heap.size w w') (HR : ∀ w, KW w → Calls Tryz.prog 8 #[.string (u ++ (ByteArray.mk #[47, 48]))] w fun xe w' => xe = .returned (.tuple #[.agg #[.int .u64 0, .string ⟨#[]⟩, .bool false, .int .u64 0, .string ⟨#[]⟩], .int .i64 5]) ∧ Below w.heap.size w w') (HW : ∀ w, KW w → Calls Tryz.prog 6 #[] w fun xe w' => xe = .returned (.bool true) ∧ Below w.heap.size w w') (hfew : decide (nx ≤ 10 ∧ mx ≤ 10) = true) (h1 : ((u.size : Nat) : Int) ≤ 20000000) (h2 : ((v.size : Nat) : Int) ≤ 20000000) (w : World) (kKx : Kx w) (kKW : KW w) :
    Calls Tryz.prog 3 #[.agg #[.bool sx, .slice ax nx cx, .slice qx mx dx]] w fun xe w' => xe = .returned (.bool true) ∧ Below w.heap.size w w' := by
  have hL0 : GL w w [] := GL.start w
  replace hKx := Lib.hid hKx
  replace Gx := Lib.hid Gx
  replace hKW := Lib.hid hKW
  replace HT := Lib.hid HT
  replace HP := Lib.hid HP
  replace HZ := Lib.hid HZ
  replace HE := Lib.hid HE
  replace HY := Lib.hid HY
  replace HA := Lib.hid HA
  replace HO := Lib.hid HO
  replace HD := Lib.hid HD
  replace HI := Lib.hid HI
  replace HN := Lib.hid HN
  replace HQ := Lib.hid HQ
  replace HR := Lib.hid HR
  replace HW := Lib.hid HW
  replace hL0 := ((hL0.new rfl [.bool sx, .slice ax nx cx, .slice qx mx dx] 26).new (K := w.heap.size + 1) (szA _ _) [.bool sx, .slice ax nx cx, .slice qx mx dx] 26)
  generalize hweq : ((w.alloc (.cells #[.bool sx, .slice ax nx cx, .slice qx mx dx] 26)).alloc (.cells #[.bool sx, .slice ax nx cx, .slice qx mx dx] 26)) = x1 at hL0
  go_enter Tryz.func3, Tryz.ntmps3
  have hN0 := cells_of _ 0 [] rfl (hL0.get _ _ (List.mem_cons_of_mem _ List.mem_cons_self))
  simp only [cellsF, and_true, Nat.zero_add, Nat.reduceAdd] at hN0
  have HFw := gfew1 10 10 rfl (by omega) (hL0.get _ _ List.mem_cons_self)
  rw [hfew] at HFw
  replace HFw := Lib.hid HFw
  go_wp2_with fail
  with_reducible refine Calls.mono (HFw.out) ?_
  rintro e x2 ⟨rfl, rfl⟩
  clear HFw
  clear hN0
  have hN0 := cells_of _ 0 [] rfl (hL0.get _ _ (List.mem_cons_of_mem _ List.mem_cons_self))
  simp only [cellsF, and_true, Nat.zero_add, Nat.reduceAdd] at hN0
  go_wp2_with fail
  clear hN0
  with_reducible refine Calls.mono (Gx.out _ (hKx.out.at hL0.bl kKx)) ?_
  rintro e x3 ⟨rfl, hb⟩
  replace hL0 := hL0.call hb
  clear hb hweq
  replace hL0 := (hL0.new rfl [.int .u64 ((zl a.num : Nat) : Int), .string (zh a.num), .bool (zs a.num), .int .u64 ((lo (fe a) : Nat) : Int), .string (hs (fe a))] 35)
  generalize hweq : (x3.alloc (.cells #[.int .u64 ((zl a.num : Nat) : Int), .string (zh a.num), .bool (zs a.num), .int .u64 ((lo (fe a) : Nat) : Int), .string (hs (fe a))] 35)) = x4 at hL0
  have hN0 := cells_of _ 0 [] rfl (hL0.get _ _ List.mem_cons_self)
  simp only [cellsF, and_true, Nat.zero_add, Nat.reduceAdd] at hN0
  go_wp2_with fail
  clear hN0
  with_reducible refine Calls.mono (HT.out _ (hKW.out.at hL0.bl kKW)) ?_
  rintro e x5 ⟨rfl, hb⟩
  replace hL0 := hL0.call hb
  clear hb hweq
  go_wp2_with fail
  with_reducible refine Calls.mono (HP.out _ (hKW.out.at hL0.bl kKW)) ?_
  rintro e x6 ⟨rfl, hb⟩
  replace hL0 := hL0.call hb
  clear hb
  replace hL0 := (hL0.new rfl [.int .u64 ((zl a.num : Nat) : Int), .string (zh a.num), .bool (zs a.num), .int .u64 ((lo (fe a) : Nat) : Int), .string (hs (fe a))] 35)
  generalize hweq : (x6.alloc (.cells #[.int .u64 ((zl a.num : Nat) : Int), .string (zh a.num), .bool (zs a.num), .int .u64 ((lo (fe a) : Nat) : Int), .string (hs (fe a))] 35)) = x7 at hL0
  go_upto_region 5 with fail
  have kKx1 := hKx.out.at hL0.bl kKx
  clear hweq
  refine region_gh (by kernel_rfl) (by kernel_rfl) ?_
  refine lex_seg (gl := []) 9 (by kernel_rfl) ?_
  intro α iα F hF1 hF2
  have hq := GL.seg hF1 hL0
  simp only [fcC, cellsC, and_true, Nat.zero_add, Nat.reduceAdd] at hq
  simp only [List.take_succ_cons, List.take_zero, List.drop_succ_cons, List.drop_zero, List.take_nil, List.drop_nil]
  repeat (go_big_quiet_step (first | fail | (go_at_call 10; with_reducible exact seg_callK hKx.out hF1 hF2 kKx1 HZ.out _) | (go_at_call 13; with_reducible exact seg_call hF2 HE.out _) | (go_at_call 10; with_reducible exact seg_callK hKx.out hF1 hF2 kKx1 HY.out _) | (go_at_call 12; with_reducible exact seg_call hF2 HA.out _) | (go_at_call 14; with_reducible exact seg_call hF2 HO.out _) | (go_at_call 11; with_reducible exact seg_call hF2 HD.out _)))
  refine wpQuiet_nil ?_
  clear hq hF1 hF2 iα F α
  refine lex_new [.int .u64 0, .string ⟨#[]⟩, .bool false] 6 33 33 rfl rfl (of_decide_eq_true (by kernel_rfl)) (by kernel_rfl) rfl new_int ?_
  simp only [Act.put, List.setIfInBounds_toArray, List.set_cons_succ, List.set_cons_zero]
  refine lex_new [.int .u64 0, .string ⟨#[]⟩] 7 31 31 rfl rfl (of_decide_eq_true (by kernel_rfl)) (by kernel_rfl) rfl new_natc ?_
  simp only [Act.put, List.setIfInBounds_toArray, List.set_cons_succ, List.set_cons_zero]
  refine lex_put [.int .u64 ((zl zn : Nat) : Int), .string (zh zn), .bool (zs zn)] [.int .u64 0, .string ⟨#[]⟩, .bool false] 6 33 (.tmp 27) rfl (by kernel_rfl) (by simp [toG, upd]) rfl (fun w k h => put_int _ _ _ _ _ _ w k h) ?_
  simp only [Act.put]
  refine lex_put [.int .u64 ((lo dn : Nat) : Int), .string (hs dn)] [.int .u64 0, .string ⟨#[]⟩] 7 31 (.tmp 33) rfl (by kernel_rfl) (by simp [toG, upd]) rfl (fun w k h => put_natc _ _ _ _ w k h) ?_
  simp only [Act.put]
  refine lexG_nil ?_
  intro κ x8 hS
  replace hL0 := hL0.ghs hS [(7, [.int .u64 ((lo dn : Nat) : Int), .string (hs dn)]), (6, [.int .u64 ((zl zn : Nat) : Int), .string (zh zn), .bool (zs zn)])] (by simp) (by intro p hp; simp only [List.mem_cons, List.not_mem_nil, or_false] at hp; rcases hp with rfl | rfl <;> exact ⟨_, by simp only [toG, upd]; rfl⟩)
  simp only [List.map_cons, List.map_nil, List.cons_append, List.nil_append] at hL0
  simp only [over_toG, over_nil, Act.put, List.setIfInBounds_toArray, List.set_cons_succ, List.set_cons_zero]
  clear hS
  generalize κ 7 = k8_7 at *
  generalize κ 6 = k8_6 at *
  clear kKx1
  go_upto_region 6 with fail
  have kKW1 := hKW.out.at hL0.bl kKW
  refine region_gh (by kernel_rfl) (by kernel_rfl) ?_
  refine lex_seg (gl := []) 10 (by kernel_rfl) ?_
  intro α iα F hF1 hF2
  have hq := GL.seg hF1 hL0
  simp only [fcC, cellsC, and_true, Nat.zero_add, Nat.reduceAdd] at hq
  simp only [List.take_succ_cons, List.take_zero, List.drop_succ_cons, List.drop_zero, List.take_nil, List.drop_nil]
  repeat (go_big_quiet_step (first | fail | (go_at_call 15; with_reducible exact seg_callK hKW.out hF1 hF2 kKW1 HI.out _) | (go_at_call 16; with_reducible exact seg_callK hKW.out hF1 hF2 kKW1 HN.out _) | (go_at_call 8; with_reducible exact seg_callK hKW.out hF1 hF2 kKW1 HQ.out _)))
  refine wpQuiet_nil ?_
  clear hq hF1 hF2 iα F α
  refine lex_new [.int .u64 0, .string ⟨#[]⟩, .bool false, .int .u64 0, .string ⟨#[]⟩] 8 35 35 rfl rfl (of_decide_eq_true (by kernel_rfl)) (by kernel_rfl) rfl new_frac ?_
  simp only [Act.put, List.setIfInBounds_toArray, List.set_cons_succ, List.set_cons_zero]
  refine lex_put [.int .u64 ((zl a.num : Nat) : Int), .string (zh a.num), .bool (zs a.num), .int .u64 ((lo (fe a) : Nat) : Int), .string (hs (fe a))] [.int .u64 0, .string ⟨#[]⟩, .bool false, .int .u64 0, .string ⟨#[]⟩] 8 35 (.tmp 42) rfl (by kernel_rfl) (by simp [toG, upd]) rfl (fun w k h => put_frac _ _ _ _ _ _ _ _ _ _ w k h) ?_
  simp only [Act.put]
  refine lex_seg (gl := [(8, [.int .u64 ((zl a.num : Nat) : Int), .string (zh a.num), .bool (zs a.num), .int .u64 ((lo (fe a) : Nat) : Int), .string (hs (fe a))], true), (8, [.int .u64 0, .string ⟨#[]⟩, .bool false, .int .u64 0, .string ⟨#[]⟩], false)]) 1 (by kernel_rfl) ?_
  intro α iα F hF1 hF2
  have hq := GL.seg hF1 hL0
  simp only [fcC, cellsC, and_true, Nat.zero_add, Nat.reduceAdd] at hq
  simp only [List.take_succ_cons, List.take_zero, List.drop_succ_cons, List.drop_zero, List.take_nil, List.drop_nil]
  repeat (go_big_quiet_step (first | fail | (go_at_call 15; with_reducible exact seg_callK hKW.out hF1 hF2 kKW1 HI.out _) | (go_at_call 16; with_reducible exact seg_callK hKW.out hF1 hF2 kKW1 HN.out _) | (go_at_call 8; with_reducible exact seg_callK hKW.out hF1 hF2 kKW1 HQ.out _)))
  refine wpQuiet_nil ?_
  clear hq hF1 hF2 iα F α
  refine lexG_nil ?_
  intro κ x9 hS
  replace hL0 := hL0.ghs hS [(8, [.int .u64 ((zl a.num : Nat) : Int), .string (zh a.num), .bool (zs a.num), .int .u64 ((lo (fe a) : Nat) : Int), .string (hs (fe a))])] (by simp) (by intro p hp; simp only [List.mem_cons, List.not_mem_nil, or_false] at hp; rcases hp with rfl <;> exact ⟨_, by simp only [toG, upd]; rfl⟩)
  simp only [List.map_cons, List.map_nil, List.cons_append, List.nil_append] at hL0
  simp only [over_toG, over_nil, Act.put, List.setIfInBounds_toArray, List.set_cons_succ, List.set_cons_zero]
  clear hS
  generalize κ 8 = k9_8 at *
  clear kKW1
  have hN0 := cells_of _ 0 [] rfl (hL0.get _ _ (List.mem_cons_of_mem _ (List.mem_cons_of_mem _ List.mem_cons_self)))
  simp only [cellsF, and_true, Nat.zero_add, Nat.reduceAdd] at hN0
  go_wp2_with fail
  clear hN0
  with_reducible refine Calls.mono (HI.out _ (hKW.out.at hL0.bl kKW)) ?_
  rintro e x10 ⟨rfl, hb⟩
  replace hL0 := hL0.call hb
  clear hb
  go_wp2_with fail
  with_reducible refine Calls.mono (HR.out _ (hKW.out.at hL0.bl kKW)) ?_
  rintro e x11 ⟨rfl, hb⟩
  replace hL0 := hL0.call hb
  clear hb
  replace hL0 := (hL0.new rfl [.int .u64 0, .string ⟨#[]⟩, .bool false, .int .u64 0, .string ⟨#[]⟩] 35)
  generalize hweq : (x11.alloc (.cells #[.int .u64 0, .string ⟨#[]⟩, .bool false, .int .u64 0, .string ⟨#[]⟩] 35)) = x12 at hL0
  have hA := hL0.fc
  simp only [fcG, cellsF, neK, and_true, ne_eq, Nat.zero_add, Nat.reduceAdd] at hA
  have hP := hL0.put 0 (x11.heap.size) _ rfl [.int .u64 0, .string ⟨#[]⟩, .bool false, .int .u64 0, .string ⟨#[]⟩] rfl
  simp only [setAll, List.set_cons_zero, List.set_cons_succ] at hP
  generalize hput1 : (((((x12.setCell ⟨x11.heap.size, 0, none⟩ (.int .u64 0)).setCell ⟨x11.heap.size, 1, none⟩ (.string ⟨#[]⟩)).setCell ⟨x11.heap.size, 2, none⟩ (.bool false)).setCell ⟨x11.heap.size, 3, none⟩ (.int .u64 0)).setCell ⟨x11.heap.size, 4, none⟩ (.string ⟨#[]⟩)) = x13 at hP
  have hB1 := hP.fc
  simp only [fcG, cellsF, neK, and_true, ne_eq, Nat.zero_add, Nat.reduceAdd] at hB1
  replace hL0 := hP
  go_wp2_with fail
  clear hA
  with_reducible refine Calls.mono (HW.out _ (hKW.out.at hL0.bl kKW)) ?_
  rintro e x14 ⟨rfl, hb⟩
  replace hL0 := hL0.call hb
  clear hb hweq hput1 hB1
  go_wp2_with fail
  exact bodyPost_ret (v := .bool true) (by simp [results, Tryz.results3, go_sem]) rfl ⟨rfl, hL0.bl⟩

theorem ftexts_small (sx : Bool) (ax qx : Option Addr) (nx cx mx dx : Nat) (lx kx : List Nat) (hk : nx ≤ 10 ∧ mx ≤ 10) (w : World) (htab : Tab w) (hm : MaxL w) (hwx : Ws w (.slice ax nx cx) lx) (hvx : Ws w (.slice qx mx dx) kx) :
    Calls Tryz.prog 3 #[.agg #[.bool sx, .slice ax nx cx, .slice qx mx dx]] w fun xe w' => xe = .returned (.bool true) ∧ Below w.heap.size w w' := by
  have elx := hwx.len
  have ekx := hvx.len
  have Gx := fun w (h : Ws w (.slice ax nx cx) lx ∧ Ws w (.slice qx mx dx) kx) => gof_any sx ax qx nx cx mx dx lx kx (by omega) (by omega) w h.1 h.2
  have Sa : Sz (gmade sx lx kx) 11 := gmade_sz (by omega) hwx hvx (by omega) (by omega)
  have d1 : dI (zmade sx lx) ≤ 11 := Nat.le_trans (zmade_dI hwx.lt) (by omega)
  have d2 : (digs (made kx)).length ≤ 10 := Nat.le_trans (made_digs hvx.lt) (by omega)
  have dz1 : (digs 1).length ≤ 1 := digs_length_iff.2 (by rw [Nat.pow_one]; exact Bs_gt)
  have d3 : (digs (made kx + 1)).length ≤ 11 := digs_add_le (k := 10) d2 (by omega)
  have HT := fun w (h : Tab w ∧ MaxL w) => textF (gmade sx lx kx) 11 Sa (by omega) w h.1
  have HP := fun w (h : Tab w ∧ MaxL w) => parse_qtxt (gmade sx lx kx) 11 Sa (by omega) w h.2
  have HZ := fun w (h : Ws w (.slice ax nx cx) lx ∧ Ws w (.slice qx mx dx) kx) => zof_any sx ax nx cx lx (by omega) w h.1
  have HE := fun w => gden_w sx ax qx nx cx mx dx w
  have HY := fun w (h : Ws w (.slice ax nx cx) lx ∧ Ws w (.slice qx mx dx) kx) => zof_any false qx mx dx kx (by omega) w h.2
  have HA := fun w => absI (zmade false kx) w
  rw [show (zmade false kx).natAbs = made kx from rfl] at HA
  have HO := one_o
  have HD := fun w => add_any (made kx) 1 (by omega) (by omega) w
  have HI := fun w (h : Tab w ∧ MaxL w) => textI (zmade sx lx) (by omega) w h.1
  have HN := fun w (h : Tab w ∧ MaxL w) => text_any (made kx + 1) (by omega) w h.1
  have HQ := fun w (h : Tab w ∧ MaxL w) => parse_part (zmade sx lx) (made kx + 1) (by omega) 11 d1 d3 (by omega) w h.2
  have HR := fun w (h : Tab w ∧ MaxL w) => parse_zero (zmade sx lx) 11 d1 (by omega) w h.2
  have HW := fun w (h : Tab w ∧ MaxL w) => fworks_any w h.1 h.2
  have s1 : ((((ztxt (zmade sx lx)).size : Nat)) : Int) ≤ 20000000 := by have := ztxt_small (k := 200) (by omega) (Nat.le_trans d1 (by omega)); omega
  have s2 : ((((txt (made kx + 1)).size : Nat)) : Int) ≤ 20000000 := by have := txt_small (n := made kx + 1) (k := 200) (by omega) (Nat.le_trans d3 (by omega)); omega
  exact ftexts_small_w sx ax qx nx cx mx dx (gmade sx lx kx) (qtxt (gmade sx lx kx)) (ztxt (zmade sx lx)) (txt (made kx + 1)) (zmade sx lx) (zmade false kx) (made kx) (made kx + 1) _ (Keeps.and (Keeps.ws _ _) (Keeps.ws _ _)) Gx _ (Keeps.and Keeps.tab MaxL.keeps) HT HP HZ HE HY HA HO HD HI HN HQ HR HW (decide_eq_true hk) s1 s2 w ⟨hwx, hvx⟩ ⟨htab, hm⟩

theorem ftexts_any (sx : Bool) (ax qx : Option Addr) (nx cx mx dx : Nat) (lx kx : List Nat) (w : World) (htab : Tab w) (hm : MaxL w) (hwx : Ws w (.slice ax nx cx) lx) (hvx : Ws w (.slice qx mx dx) kx) :
    Calls Tryz.prog 3 #[.agg #[.bool sx, .slice ax nx cx, .slice qx mx dx]] w fun xe w' => xe = .returned (.bool true) ∧ Below w.heap.size w w' := by
  by_cases hk : nx ≤ 10 ∧ mx ≤ 10
  · exact ftexts_small sx ax qx nx cx mx dx lx kx hk w htab hm hwx hvx
  · exact ftexts_big sx ax qx nx cx mx dx lx kx  hk w htab hm hwx hvx

end Go.Proofs.YtecdnohhengfaabGreatDoor

/-
  The law FracsTexts answers true at every input, and leaves its arguments as they were. CONDITIONS: the package-level tables start as the program's text lays them (the card ties them).
-/
namespace Go.Proofs.YtecdnohhengfaabGreatDoor.fracsTexts
open Go.ChangeShapes Go.WideShapes Go.ChangeAt Go.RowKit

set_option maxRecDepth 100000 in
theorem contract (H : Type) (enc : TypeId × Value → H) (W : World) (base : Nat) (args : Array Value) (ds gs : List (DataW H)) (before : List MemPlace)
    (hval : ∀ (j : Nat) t v, Tryz.f3.params[j]? = some t → args[j]? = some v → Value.okWide Tryz.prog W .any base t v)
    (hW : DataW.Whole enc Tryz.prog Tryz.f3.params.toList Rows.fracsTextsSpec.vars false W args.toList ds gs before) (hL : laidMetH Tryz.prog Rows.fracsTextsRow.laid W) (hSh : W.ShapedOpen Tryz.prog) :
    Calls Tryz.prog 3 args W fun e W' => ∃ v, e = .returned v ∧ Rows.fracsTextsSpec.post enc Tryz.prog Tryz.f3 false true false false W args v W' := by
  have hW' := hW
  obtain ⟨p, q, hA0, hV, rfl, _, _⟩ := hW
  have hA : DataW.TrodAll enc Tryz.prog W 0 (fun _ => true) true Tryz.f3.params.toList args.toList ds p := hA0
  rw [Tryz.params3] at hA hval
  obtain ⟨v0, e0, rfl, rfl, h0⟩ := trodAll_one hA
  obtain ⟨rfl, rfl⟩ := trodVars_none hV
  clear hA0
  simp only [List.append_nil] at hW'
  have hlt : ∀ x ∈ p, x.block < W.heap.size := fun x hx => by simpa using hW'.lt x hx
  have t0 : ∀ x ∈ p, x.block < W.heap.size := fun x hx => hlt x (by simp [hx])
  obtain ⟨s0, a0, q0, n0, c0, m0, d0, l0, k0, rfl, w0, u0⟩ := great_of (hval 0 26 v0 rfl rfl) h0
  refine (ftexts_any s0 a0 q0 n0 c0 m0 d0 l0 k0  W (tab_of hL) (maxL_of hSh) w0 u0).mono fun e W' ⟨he, hb⟩ => ?_
  subst he
  refine ⟨_, rfl, _, _, _, [], p, [], hW', ?_, ?_, rfl, hb.frame _, fun h => by cases h⟩
  · exact trodAll_mk1 (shut_bool Tryz.underlying4 _)
  · exact trodAll_mk1 (Below.trod laidOut (by kernel_rfl) (of_decide_eq_true (by kernel_rfl)) h0 hb t0)

/-- A world for the witness: the settled one, the tables as their initialisers lay them. -/
noncomputable def laidWorld (os : Os) : World := World.laidAll Tryz.prog os Rows.fracsTextsRow.laid
theorem laid_met (os : Os) : laidMet Tryz.prog Rows.fracsTextsRow.laid ((laidWorld os).forCall (fun _ _ => 0) ⟨#[], #[.agg #[.bool false, .slice none 0 0, .slice none 0 0]], []⟩).memory :=
  laidMet_laidAll _ (by kernel_rfl) (by kernel_rfl)
theorem reads (os : Os) {H : Type} (enc : TypeId × Value → H) : ∃ places, DataW.whole enc Tryz.prog ((laidWorld os).forCall (fun _ _ => 0) ⟨#[], #[.agg #[.bool false, .slice none 0 0, .slice none 0 0]], []⟩).memory Tryz.f3.params.toList Rows.fracsTextsSpec.vars false (#[.agg #[.bool false, .slice none 0 0, .slice none 0 0]] : Array Value).toList 8 = some ([.agg [.agg [.lit (.bool false), .nil], .nil]], [], places) :=
  ⟨[], by kernel_rfl⟩

set_option maxRecDepth 100000 in
theorem lifted (os : Os) (started : os.Started) (H : Type) (enc : TypeId × Value → H) (F : Stop.Interp) :
    ReturnsInHanded {} Tryz.checked os 3 .any ((OpenSpec.ofChange Rows.fracsTextsSpec).preRow enc Tryz.prog Tryz.f3 Rows.fracsTextsRow.domain false Rows.fracsTextsRow.laid) (((OpenSpec.ofChange Rows.fracsTextsSpec).at F).post enc Tryz.prog Tryz.f3 false true false false) := by
  obtain ⟨places, hx⟩ := reads os enc
  refine returnsInHanded_of_row (C := Tryz.checked) (s := OpenSpec.ofChange Rows.fracsTextsSpec) own started (by kernel_rfl) Tryz.func3
    (witness_row_at (enc := enc) (C := Tryz.checked) false (laidWorld os) #[.agg #[.bool false, .slice none 0 0, .slice none 0 0]] (World.laidAll_os _ _ _) (by kernel_rfl) (by kernel_rfl) (by kernel_rfl)
      (OpenSpec.preRow_of_cond 8 hx (by kernel_rfl) (fun k hk => by cases hk) (by kernel_rfl) (laid_met os))) ?_
  intro W base args ds gs before hval hW _ _ _ hL hSh _
  exact contract H enc W base args ds gs before hval hW hL hSh

theorem said : Rows.FracsTextsSaid :=
  OpenClaim.holds_of_cond 3 Tryz.f3 rfl rfl rfl rfl rfl rfl rfl ⟨rfl, rfl, rfl, rfl, rfl⟩ rfl rfl rfl rfl rfl (by kernel_rfl) Tryz.func3 (by kernel_rfl)
    (of_decide_eq_true (by kernel_rfl)) (by unfold Func.isWrapper; first | (rw [if_pos (by decide +kernel)]; kernel_rfl) | (rw [if_neg (by decide +kernel)]; exact ⟨rfl, rfl⟩))
    (fun os started H enc _ F => by rw [OpenClaim.pre_eq_preRow]; exact lifted os started H enc F)

theorem plain (f : FuncId) (fn : Func) (hf : Tryz.pinned.checked.prog.funcNamed "gusset/gussetlaw03.FracsTexts" = some f) (hfn : Tryz.pinned.checked.prog.funcs[f]? = some fn) :
    false = Tryz.pinned.checked.prog.looks [] ∧ ∀ (j : Nat) t, fn.params[j]? = some t → Tryz.pinned.checked.prog.wantsStandIn t = false := by
  obtain rfl : f = 3 := Option.some.inj ((show Tryz.prog.funcNamed "gusset/gussetlaw03.FracsTexts" = some 3 by kernel_rfl).symm.trans hf) |>.symm
  obtain rfl : fn = Tryz.f3 := (Option.some.inj (Tryz.func3.symm.trans hfn)).symm
  refine ⟨by kernel_rfl, fun j t ht => ?_⟩
  rw [Tryz.params3] at ht
  have hm := Array.mem_of_getElem? ht
  simp only [List.mem_toArray, List.mem_cons, List.not_mem_nil, or_false] at hm
  rcases hm with rfl
  · exact (show Tryz.prog.wantsStandIn 26 = false by kernel_rfl)
end Go.Proofs.YtecdnohhengfaabGreatDoor.fracsTexts

namespace Go.Proofs.YtecdnohhengfaabGreatDoor
open Go.ChangeShapes Go.WideShapes Go.ChangeAt Go.RowKit
/-- THE CARD -/
theorem fracsTextsProved : Rows.FracsTextsCardSaid :=
  Claim7.holds_tied_plain_at .later [] _ _ _ _ fracsTexts.said (fun _ h => by cases h) (by kernel_rfl) (fun _ h => by cases h) fracsTexts_row_tie rfl ⟨rfl, rfl⟩ (by kernel_rfl) rfl fracsTexts.plain (by kernel_rfl)
end Go.Proofs.YtecdnohhengfaabGreatDoor
