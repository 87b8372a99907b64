/-
  The law answers true at every input, and leaves its arguments as they were: a part of the proof. CONDITIONS: the package-level tables start as the program's text lays them (the card ties them).
-/
import Derived.Test.YtloipmieaefcpaaGreatDoorVaa
set_option linter.unusedVariables false
set_option linter.unusedSimpArgs false
namespace Go.Proofs.YtloipmieaefcpaaGreatDoor
open Go.RowKit
attribute [local irreducible] lo hs sm s64 c64 d64 b64 mh ml pd pc qd qc val hiB str cmpI srD lz nb isq zl zh zs fe fitsB farB backB backQ
theorem eq_zeroN {n : Nat} (h : n ≠ 0) : (((lo n : Nat) : Int) == 0) = false ∨ ((((lo n : Nat) : Int) == 0) = true ∧ ((hs n).toList == []) = false) := by
 have := eq_zero (Nat.pos_of_ne_zero h)
 rw [show lo 0 = 0 from lo_small Bs_pos, show hs 0 = ⟨#[]⟩ from hs_small Bs_pos, show ((0 : Nat) : Int) = 0 from rfl, show (⟨#[]⟩ : ByteArray).toList = [] from by decide +kernel] at this
 exact this
set_option maxHeartbeats 4000000 in
set_option maxRecDepth 100000 in
theorem pth_big0 (sx sa : Bool) (ax qx am aa : Option Addr) (nx cx mx dx nm cm na ca : Nat) (KT : World → Prop) (hKT : Keeps KT) (HW : ∀ w, KT w → Calls Tryz.prog 15 #[] w fun xe w' => xe = .returned (.bool true) ∧ Below w.heap.size w w') (l0 : decide ((4 : Int) < ((nx : Nat) : Int)) = true) (k0 : decide (4 < nx) = true) (w : World) (kKT : KT w) :
  Calls Tryz.prog 6 #[.agg #[.bool sx, .slice ax nx cx, .slice qx mx dx], .slice am nm cm, .agg #[.bool sa, .slice aa na ca]] w fun xe w' => xe = .returned (.bool true) ∧ Below w.heap.size w w' := by
 have hL0 : GL w w [] := GL.start w
 replace hKT := Lib.hid hKT
 replace HW := Lib.hid HW
 replace hL0 := ((hL0.new rfl [.bool sx, .slice ax nx cx, .slice qx mx dx] 70).new (K := w.heap.size + 1) (szA _ _) [.bool sa, .slice aa na ca] 68)
 generalize hweq : ((w.alloc (.cells #[.bool sx, .slice ax nx cx, .slice qx mx dx] 70)).alloc (.cells #[.bool sa, .slice aa na ca] 68)) = x1 at hL0
 go_enter Tryz.func6, Tryz.ntmps6
 have hN0 := cells_of _ 0 [] rfl (hL0.get _ _ (List.mem_cons_of_mem _ List.mem_cons_self))
 simp only [cellsF, and_true, Nat.zero_add, Nat.reduceAdd] at hN0
 go_wp2_with fail
 clear hN0
 with_reducible refine Calls.mono (HW.out _ (hKT.out.at hL0.bl kKT)) ?_
 rintro e x2 ⟨rfl, hb⟩
 replace hL0 := hL0.call hb
 clear hb hweq
 go_wp2_with fail
 exact bodyPost_ret (v := .bool true) (by simp [results, Tryz.results6, go_sem]) rfl ⟨rfl, hL0.bl⟩
set_option maxHeartbeats 4000000 in
set_option maxRecDepth 100000 in
theorem pth_big1 (sx sa : Bool) (ax qx am aa : Option Addr) (nx cx mx dx nm cm na ca : Nat) (KT : World → Prop) (hKT : Keeps KT) (HW : ∀ w, KT w → Calls Tryz.prog 15 #[] w fun xe w' => xe = .returned (.bool true) ∧ Below w.heap.size w w') (l0 : decide ((4 : Int) < ((nx : Nat) : Int)) = false) (k0 : decide (4 < nx) = false) (l1 : decide ((4 : Int) < ((mx : Nat) : Int)) = true) (k1 : decide (4 < mx) = true) (w : World) (kKT : KT w) :
  Calls Tryz.prog 6 #[.agg #[.bool sx, .slice ax nx cx, .slice qx mx dx], .slice am nm cm, .agg #[.bool sa, .slice aa na ca]] w fun xe w' => xe = .returned (.bool true) ∧ Below w.heap.size w w' := by
 have hL0 : GL w w [] := GL.start w
 replace hKT := Lib.hid hKT
 replace HW := Lib.hid HW
 replace hL0 := ((hL0.new rfl [.bool sx, .slice ax nx cx, .slice qx mx dx] 70).new (K := w.heap.size + 1) (szA _ _) [.bool sa, .slice aa na ca] 68)
 generalize hweq : ((w.alloc (.cells #[.bool sx, .slice ax nx cx, .slice qx mx dx] 70)).alloc (.cells #[.bool sa, .slice aa na ca] 68)) = x1 at hL0
 go_enter Tryz.func6, Tryz.ntmps6
 have hN0 := cells_of _ 0 [] rfl (hL0.get _ _ (List.mem_cons_of_mem _ List.mem_cons_self))
 simp only [cellsF, and_true, Nat.zero_add, Nat.reduceAdd] at hN0
 go_wp2_with fail
 clear hN0
 with_reducible refine Calls.mono (HW.out _ (hKT.out.at hL0.bl kKT)) ?_
 rintro e x2 ⟨rfl, hb⟩
 replace hL0 := hL0.call hb
 clear hb hweq
 go_wp2_with fail
 exact bodyPost_ret (v := .bool true) (by simp [results, Tryz.results6, go_sem]) rfl ⟨rfl, hL0.bl⟩
set_option maxHeartbeats 4000000 in
set_option maxRecDepth 100000 in
theorem pth_big2 (sx sa : Bool) (ax qx am aa : Option Addr) (nx cx mx dx nm cm na ca : Nat) (KT : World → Prop) (hKT : Keeps KT) (HW : ∀ w, KT w → Calls Tryz.prog 15 #[] w fun xe w' => xe = .returned (.bool true) ∧ Below w.heap.size w w') (l0 : decide ((4 : Int) < ((nx : Nat) : Int)) = false) (k0 : decide (4 < nx) = false) (l1 : decide ((4 : Int) < ((mx : Nat) : Int)) = false) (k1 : decide (4 < mx) = false) (l2 : decide ((12 : Int) < ((nm : Nat) : Int)) = true) (k2 : decide (12 < nm) = true) (w : World) (kKT : KT w) :
  Calls Tryz.prog 6 #[.agg #[.bool sx, .slice ax nx cx, .slice qx mx dx], .slice am nm cm, .agg #[.bool sa, .slice aa na ca]] w fun xe w' => xe = .returned (.bool true) ∧ Below w.heap.size w w' := by
 have hL0 : GL w w [] := GL.start w
 replace hKT := Lib.hid hKT
 replace HW := Lib.hid HW
 replace hL0 := ((hL0.new rfl [.bool sx, .slice ax nx cx, .slice qx mx dx] 70).new (K := w.heap.size + 1) (szA _ _) [.bool sa, .slice aa na ca] 68)
 generalize hweq : ((w.alloc (.cells #[.bool sx, .slice ax nx cx, .slice qx mx dx] 70)).alloc (.cells #[.bool sa, .slice aa na ca] 68)) = x1 at hL0
 go_enter Tryz.func6, Tryz.ntmps6
 have hN0 := cells_of _ 0 [] rfl (hL0.get _ _ (List.mem_cons_of_mem _ List.mem_cons_self))
 simp only [cellsF, and_true, Nat.zero_add, Nat.reduceAdd] at hN0
 go_wp2_with fail
 clear hN0
 with_reducible refine Calls.mono (HW.out _ (hKT.out.at hL0.bl kKT)) ?_
 rintro e x2 ⟨rfl, hb⟩
 replace hL0 := hL0.call hb
 clear hb hweq
 go_wp2_with fail
 exact bodyPost_ret (v := .bool true) (by simp [results, Tryz.results6, go_sem]) rfl ⟨rfl, hL0.bl⟩
set_option maxHeartbeats 4000000 in
set_option maxRecDepth 100000 in
theorem pth_big3 (sx sa : Bool) (ax qx am aa : Option Addr) (nx cx mx dx nm cm na ca : Nat) (KT : World → Prop) (hKT : Keeps KT) (HW : ∀ w, KT w → Calls Tryz.prog 15 #[] w fun xe w' => xe = .returned (.bool true) ∧ Below w.heap.size w w') (l0 : decide ((4 : Int) < ((nx : Nat) : Int)) = false) (k0 : decide (4 < nx) = false) (l1 : decide ((4 : Int) < ((mx : Nat) : Int)) = false) (k1 : decide (4 < mx) = false) (l2 : decide ((12 : Int) < ((nm : Nat) : Int)) = false) (k2 : decide (12 < nm) = false) (l3 : decide ((12 : Int) < ((na : Nat) : Int)) = true) (k3 : decide (12 < na) = true) (w : World) (kKT : KT w) :
  Calls Tryz.prog 6 #[.agg #[.bool sx, .slice ax nx cx, .slice qx mx dx], .slice am nm cm, .agg #[.bool sa, .slice aa na ca]] w fun xe w' => xe = .returned (.bool true) ∧ Below w.heap.size w w' := by
 have hL0 : GL w w [] := GL.start w
 replace hKT := Lib.hid hKT
 replace HW := Lib.hid HW
 replace hL0 := ((hL0.new rfl [.bool sx, .slice ax nx cx, .slice qx mx dx] 70).new (K := w.heap.size + 1) (szA _ _) [.bool sa, .slice aa na ca] 68)
 generalize hweq : ((w.alloc (.cells #[.bool sx, .slice ax nx cx, .slice qx mx dx] 70)).alloc (.cells #[.bool sa, .slice aa na ca] 68)) = x1 at hL0
 go_enter Tryz.func6, Tryz.ntmps6
 have hN0 := cells_of _ 0 [] rfl (hL0.get _ _ List.mem_cons_self)
 simp only [cellsF, and_true, Nat.zero_add, Nat.reduceAdd] at hN0
 have hN1 := cells_of _ 0 [] rfl (hL0.get _ _ (List.mem_cons_of_mem _ List.mem_cons_self))
 simp only [cellsF, and_true, Nat.zero_add, Nat.reduceAdd] at hN1
 go_wp2_with fail
 clear hN0 hN1
 with_reducible refine Calls.mono (HW.out _ (hKT.out.at hL0.bl kKT)) ?_
 rintro e x2 ⟨rfl, hb⟩
 replace hL0 := hL0.call hb
 clear hb hweq
 go_wp2_with fail
 exact bodyPost_ret (v := .bool true) (by simp [results, Tryz.results6, go_sem]) rfl ⟨rfl, hL0.bl⟩
set_option maxHeartbeats 4000000 in
set_option maxRecDepth 100000 in
theorem pth_y_g (sx sa : Bool) (ax qx am aa : Option Addr) (nx cx mx dx nm cm na ca : Nat) (b y z g u v o : Int) (n d : Nat) (q f : Rat) (Km : World → Prop) (hKm : Keeps Km) (HM : ∀ w, Km w → Calls Tryz.prog 27 #[.slice am nm cm] w fun xe w' => xe = .returned (natV n) ∧ Below w.heap.size w w') (Ka : World → Prop) (hKa : Keeps Ka) (HZ : ∀ w, Ka w → Calls Tryz.prog 28 #[.agg #[.bool sa, .slice aa na ca]] w fun xe w' => xe = .returned (intV b) ∧ Below w.heap.size w w') (HB : ∀ w, Calls Tryz.prog 10 #[intV b, natV n] w fun xe w' => xe = .returned (.tuple #[fracV q, .bool true]) ∧ Below w.heap.size w w') (HF : ∀ w, Calls Tryz.prog 20 #[fracV q, intV b, natV n] w fun xe w' => xe = .returned (.bool true) ∧ Below w.heap.size w w') (HR : ∀ w, Calls Tryz.prog 22 #[fracV q, natV n] w fun xe w' => xe = .returned (.bool true) ∧ Below w.heap.size w w') (Kx : World → Prop) (hKx : Keeps Kx) (GX : ∀ w, Kx w → Calls Tryz.prog 29 #[.agg #[.bool sx, .slice ax nx cx, .slice qx mx dx]] w fun xe w' => xe = .returned (fracV f) ∧ Below w.heap.size w w') (HY : ∀ w, Calls Tryz.prog 31 #[.bool false, natV n] w fun xe w' => xe = .returned (intV y) ∧ Below w.heap.size w w') (HD : ∀ w, Calls Tryz.prog 18 #[fracV f] w fun xe w' => xe = .returned (natV d) ∧ Below w.heap.size w w') (HE : ∀ w, Calls Tryz.prog 31 #[.bool false, natV d] w fun xe w' => xe = .returned (intV z) ∧ Below w.heap.size w w') (HG : ∀ w, Calls Tryz.prog 30 #[intV y, intV z] w fun xe w' => xe = .returned (.tuple #[intV g, intV u, intV v]) ∧ Below w.heap.size w w') (HO : ∀ w, Calls Tryz.prog 11 #[.int .i64 1] w fun xe w' => xe = .returned (intV o) ∧ Below w.heap.size w w') (KT : World → Prop) (hKT : Keeps KT) (HW : ∀ w, KT w → Calls Tryz.prog 15 #[] w fun xe w' => xe = .returned (.bool true) ∧ Below w.heap.size w w') (l0 : decide ((4 : Int) < ((nx : Nat) : Int)) = false) (k0 : decide (4 < nx) = false) (l1 : decide ((4 : Int) < ((mx : Nat) : Int)) = false) (k1 : decide (4 < mx) = false) (l2 : decide ((12 : Int) < ((nm : Nat) : Int)) = false) (k2 : decide (12 < nm) = false) (l3 : decide ((12 : Int) < ((na : Nat) : Int)) = false) (k3 : decide (12 < na) = false) (hg : g ≠ o) (w : World) (kKm : Km w) (kKa : Ka w) (kKx : Kx w) (kKT : KT w) :
  Calls Tryz.prog 6 #[.agg #[.bool sx, .slice ax nx cx, .slice qx mx dx], .slice am nm cm, .agg #[.bool sa, .slice aa na ca]] w fun xe w' => xe = .returned (.bool true) ∧ Below w.heap.size w w' := by
 have hL0 : GL w w [] := GL.start w
 replace hKm := Lib.hid hKm
 replace HM := Lib.hid HM
 replace hKa := Lib.hid hKa
 replace HZ := Lib.hid HZ
 replace HB := Lib.hid HB
 replace HF := Lib.hid HF
 replace HR := Lib.hid HR
 replace hKx := Lib.hid hKx
 replace GX := Lib.hid GX
 replace HY := Lib.hid HY
 replace HD := Lib.hid HD
 replace HE := Lib.hid HE
 replace HG := Lib.hid HG
 replace HO := Lib.hid HO
 replace hKT := Lib.hid hKT
 replace HW := Lib.hid HW
 have hz := ne_int hg
 clear hg
 rcases hz with e0 | ⟨e0, e1⟩ | ⟨e0, e1, e2⟩
 all_goals (
  replace hL0 := ((hL0.new rfl [.bool sx, .slice ax nx cx, .slice qx mx dx] 70).new (K := w.heap.size + 1) (szA _ _) [.bool sa, .slice aa na ca] 68)
  generalize hweq : ((w.alloc (.cells #[.bool sx, .slice ax nx cx, .slice qx mx dx] 70)).alloc (.cells #[.bool sa, .slice aa na ca] 68)) = x1 at hL0
  go_enter Tryz.func6, Tryz.ntmps6
  have hN0 := cells_of _ 0 [] rfl (hL0.get _ _ List.mem_cons_self)
  simp only [cellsF, and_true, Nat.zero_add, Nat.reduceAdd] at hN0
  have hN1 := cells_of _ 0 [] rfl (hL0.get _ _ (List.mem_cons_of_mem _ List.mem_cons_self))
  simp only [cellsF, and_true, Nat.zero_add, Nat.reduceAdd] at hN1
  go_upto_region 3 with fail
  have kKm1 := hKm.out.at hL0.bl kKm
  have kKa1 := hKa.out.at hL0.bl kKa
  clear hN0 hN1
  clear hweq
  refine region_gh (by kernel_rfl) (by kernel_rfl) ?_
  refine lex_seg (gl := []) 4 (by kernel_rfl) ?_
  intro α iα F hF1 hF2
  have hq := GL.seg hF1 hL0
  simp only [fcC, cellsC, and_true, Nat.zero_add, Nat.reduceAdd] at hq
  simp only [List.take_succ_cons, List.take_zero, List.drop_succ_cons, List.drop_zero, List.take_nil, List.drop_nil]
  repeat (go_big_quiet_step (first | fail | (go_at_call 27; with_reducible exact seg_callK hKm.out hF1 hF2 kKm1 HM.out _) | (go_at_call 28; with_reducible exact seg_callK hKa.out hF1 hF2 kKa1 HZ.out _)))
  refine wpQuiet_nil ?_
  clear hq hF1 hF2 iα F α
  refine lex_new [.int .u64 0, .string ⟨#[]⟩] 7 26 26 rfl rfl (of_decide_eq_true (by kernel_rfl)) (by kernel_rfl) rfl new_natc ?_
  simp only [Act.put, List.setIfInBounds_toArray, List.set_cons_succ, List.set_cons_zero]
  refine lex_new [.int .u64 0, .string ⟨#[]⟩, .bool false] 8 28 28 rfl rfl (of_decide_eq_true (by kernel_rfl)) (by kernel_rfl) rfl new_int ?_
  simp only [Act.put, List.setIfInBounds_toArray, List.set_cons_succ, List.set_cons_zero]
  refine lex_put [.int .u64 ((lo n : Nat) : Int), .string (hs n)] [.int .u64 0, .string ⟨#[]⟩] 7 26 (.tmp 42) rfl (by kernel_rfl) (by simp [toG, upd]) rfl (fun w k h => put_natc _ _ _ _ w k h) ?_
  simp only [Act.put]
  refine lex_put [.int .u64 ((zl b : Nat) : Int), .string (zh b), .bool (zs b)] [.int .u64 0, .string ⟨#[]⟩, .bool false] 8 28 (.tmp 44) rfl (by kernel_rfl) (by simp [toG, upd]) rfl (fun w k h => put_int _ _ _ _ _ _ w k h) ?_
  simp only [Act.put]
  refine lexG_nil ?_
  intro κ x2 hS
  replace hL0 := hL0.ghs hS [(8, [.int .u64 ((zl b : Nat) : Int), .string (zh b), .bool (zs b)]), (7, [.int .u64 ((lo n : Nat) : Int), .string (hs n)])] (by simp) (by intro p hp; simp only [List.mem_cons, List.not_mem_nil, or_false] at hp; rcases hp with rfl | rfl <;> exact ⟨_, by simp only [toG, upd]; rfl⟩)
  simp only [List.map_cons, List.map_nil, List.cons_append, List.nil_append] at hL0
  simp only [over_toG, over_nil, Act.put, List.setIfInBounds_toArray, List.set_cons_succ, List.set_cons_zero]
  clear hS
  generalize κ 8 = k2_8 at *
  generalize κ 7 = k2_7 at *
  clear kKm1 kKa1
  have hN0 := cells_of _ 0 [] rfl (hL0.get _ _ List.mem_cons_self)
  simp only [cellsF, and_true, Nat.zero_add, Nat.reduceAdd] at hN0
  have hN1 := cells_of _ 0 [] rfl (hL0.get _ _ (List.mem_cons_of_mem _ List.mem_cons_self))
  simp only [cellsF, and_true, Nat.zero_add, Nat.reduceAdd] at hN1
  go_wp2_with fail
  clear hN0 hN1
  with_reducible refine Calls.mono (HB.out _) ?_
  rintro e x3 ⟨rfl, hb⟩
  replace hL0 := hL0.call hb
  clear hb
  replace hL0 := (hL0.new rfl [.int .u64 ((zl q.num : Nat) : Int), .string (zh q.num), .bool (zs q.num), .int .u64 ((lo (fe q) : Nat) : Int), .string (hs (fe q))] 30)
  generalize hweq : (x3.alloc (.cells #[.int .u64 ((zl q.num : Nat) : Int), .string (zh q.num), .bool (zs q.num), .int .u64 ((lo (fe q) : Nat) : Int), .string (hs (fe q))] 30)) = x4 at hL0
  have hN0 := cells_of _ 0 [] rfl (hL0.get _ _ List.mem_cons_self)
  simp only [cellsF, and_true, Nat.zero_add, Nat.reduceAdd] at hN0
  have hN1 := cells_of _ 0 [] rfl (hL0.get _ _ (List.mem_cons_of_mem _ List.mem_cons_self))
  simp only [cellsF, and_true, Nat.zero_add, Nat.reduceAdd] at hN1
  have hN2 := cells_of _ 0 [] rfl (hL0.get _ _ (List.mem_cons_of_mem _ (List.mem_cons_of_mem _ List.mem_cons_self)))
  simp only [cellsF, and_true, Nat.zero_add, Nat.reduceAdd] at hN2
  go_wp2_with fail
  clear hN0 hN1 hN2
  with_reducible refine Calls.mono (HF.out _) ?_
  rintro e x5 ⟨rfl, hb⟩
  replace hL0 := hL0.call hb
  clear hb hweq
  have hN0 := cells_of _ 0 [] rfl (hL0.get _ _ List.mem_cons_self)
  simp only [cellsF, and_true, Nat.zero_add, Nat.reduceAdd] at hN0
  have hN1 := cells_of _ 0 [] rfl (hL0.get _ _ (List.mem_cons_of_mem _ (List.mem_cons_of_mem _ List.mem_cons_self)))
  simp only [cellsF, and_true, Nat.zero_add, Nat.reduceAdd] at hN1
  go_wp2_with fail
  clear hN0 hN1
  with_reducible refine Calls.mono (HR.out _) ?_
  rintro e x6 ⟨rfl, hb⟩
  replace hL0 := hL0.call hb
  clear hb
  have hN0 := cells_of _ 0 [] rfl (hL0.get _ _ (List.mem_cons_of_mem _ (List.mem_cons_of_mem _ (List.mem_cons_of_mem _ (List.mem_cons_of_mem _ List.mem_cons_self)))))
  simp only [cellsF, and_true, Nat.zero_add, Nat.reduceAdd] at hN0
  go_wp2_with fail
  clear hN0
  with_reducible refine Calls.mono (GX.out _ (hKx.out.at hL0.bl kKx)) ?_
  rintro e x7 ⟨rfl, hb⟩
  replace hL0 := hL0.call hb
  clear hb
  replace hL0 := (hL0.new rfl [.int .u64 ((zl f.num : Nat) : Int), .string (zh f.num), .bool (zs f.num), .int .u64 ((lo (fe f) : Nat) : Int), .string (hs (fe f))] 30)
  generalize hweq : (x7.alloc (.cells #[.int .u64 ((zl f.num : Nat) : Int), .string (zh f.num), .bool (zs f.num), .int .u64 ((lo (fe f) : Nat) : Int), .string (hs (fe f))] 30)) = x8 at hL0
  go_upto_region 8 with fail
  clear hweq
  refine region_gh (by kernel_rfl) (by kernel_rfl) ?_
  refine lex_seg (gl := []) 10 (by kernel_rfl) ?_
  intro α iα F hF1 hF2
  have hq := GL.seg hF1 hL0
  simp only [fcC, cellsC, and_true, Nat.zero_add, Nat.reduceAdd] at hq
  simp only [List.take_succ_cons, List.take_zero, List.drop_succ_cons, List.drop_zero, List.take_nil, List.drop_nil]
  repeat (go_big_quiet_step (first | fail | (go_at_call 31; with_reducible exact seg_call hF2 HY.out _) | (go_at_call 18; with_reducible exact seg_call hF2 HD.out _) | (go_at_call 31; with_reducible exact seg_call hF2 HE.out _) | (go_at_call 30; with_reducible exact seg_call hF2 HG.out _)))
  refine wpQuiet_nil ?_
  clear hq hF1 hF2 iα F α
  refine lex_new [.int .u64 0, .string ⟨#[]⟩, .bool false] 12 28 28 rfl rfl (of_decide_eq_true (by kernel_rfl)) (by kernel_rfl) rfl new_int ?_
  simp only [Act.put, List.setIfInBounds_toArray, List.set_cons_succ, List.set_cons_zero]
  refine lex_new [.int .u64 0, .string ⟨#[]⟩, .bool false] 13 28 28 rfl rfl (of_decide_eq_true (by kernel_rfl)) (by kernel_rfl) rfl new_int ?_
  simp only [Act.put, List.setIfInBounds_toArray, List.set_cons_succ, List.set_cons_zero]
  refine lex_new [.int .u64 0, .string ⟨#[]⟩, .bool false] 14 28 28 rfl rfl (of_decide_eq_true (by kernel_rfl)) (by kernel_rfl) rfl new_int ?_
  simp only [Act.put, List.setIfInBounds_toArray, List.set_cons_succ, List.set_cons_zero]
  refine lex_put [.int .u64 ((zl g : Nat) : Int), .string (zh g), .bool (zs g)] [.int .u64 0, .string ⟨#[]⟩, .bool false] 12 28 (.tmp 83) rfl (by kernel_rfl) (by simp [toG, upd]) rfl (fun w k h => put_int _ _ _ _ _ _ w k h) ?_
  simp only [Act.put]
  refine lex_put [.int .u64 ((zl u : Nat) : Int), .string (zh u), .bool (zs u)] [.int .u64 0, .string ⟨#[]⟩, .bool false] 13 28 (.tmp 84) rfl (by kernel_rfl) (by simp [toG, upd]) rfl (fun w k h => put_int _ _ _ _ _ _ w k h) ?_
  simp only [Act.put]
  refine lex_put [.int .u64 ((zl v : Nat) : Int), .string (zh v), .bool (zs v)] [.int .u64 0, .string ⟨#[]⟩, .bool false] 14 28 (.tmp 85) rfl (by kernel_rfl) (by simp [toG, upd]) rfl (fun w k h => put_int _ _ _ _ _ _ w k h) ?_
  simp only [Act.put]
  refine lexG_nil ?_
  intro κ x9 hS
  replace hL0 := hL0.ghs hS [(14, [.int .u64 ((zl v : Nat) : Int), .string (zh v), .bool (zs v)]), (13, [.int .u64 ((zl u : Nat) : Int), .string (zh u), .bool (zs u)]), (12, [.int .u64 ((zl g : Nat) : Int), .string (zh g), .bool (zs g)])] (by simp) (by intro p hp; simp only [List.mem_cons, List.not_mem_nil, or_false] at hp; rcases hp with rfl | rfl | rfl <;> exact ⟨_, by simp only [toG, upd]; rfl⟩)
  simp only [List.map_cons, List.map_nil, List.cons_append, List.nil_append] at hL0
  simp only [over_toG, over_nil, Act.put, List.setIfInBounds_toArray, List.set_cons_succ, List.set_cons_zero]
  clear hS
  generalize κ 14 = k9_14 at *
  generalize κ 13 = k9_13 at *
  generalize κ 12 = k9_12 at *
  go_upto_region 9 with fail
  obtain ⟨α, iα, F, hF1, hF2⟩ := cls x9
  have hq0 := cls_box hF1 hL0 _ _ (List.mem_cons_of_mem _ (List.mem_cons_of_mem _ List.mem_cons_self))
  simp only [cellsC, and_true, Nat.zero_add, Nat.reduceAdd] at hq0
  refine region_qs 8 (C := fun w' => ∃ x, w' = F x) (by kernel_rfl) (by kernel_rfl) (cls_drew hF2) ?_
  simp only [List.take_succ_cons, List.take_zero, List.drop_succ_cons, List.drop_zero, List.take_nil, List.drop_nil]
  repeat (go_big_quiet_step (first | fail | (go_at_call 11; with_reducible exact cls_call hF1 hF2 HO.out _)))
  refine wpQuiet_nil ?_
  rintro wq ⟨xq, rfl⟩
  replace hL0 := hL0.call (hF1 xq)
  clear  hq0 hF2
  generalize F xq = x10 at hL0 ⊢
  clear hF1 xq iα F α
  go_wp2_with fail
  with_reducible refine Calls.mono (HW.out _ (hKT.out.at hL0.bl kKT)) ?_
  rintro e x11 ⟨rfl, hb⟩
  replace hL0 := hL0.call hb
  clear hb
  go_wp2_with fail
  exact bodyPost_ret (v := .bool true) (by simp [results, Tryz.results6, go_sem]) rfl ⟨rfl, hL0.bl⟩)
set_option maxHeartbeats 4000000 in
set_option maxRecDepth 100000 in
theorem pth_y_z (sx sa : Bool) (ax qx am aa : Option Addr) (nx cx mx dx nm cm na ca : Nat) (b y z g u v : Int) (n d : Nat) (q f : Rat) (Km : World → Prop) (hKm : Keeps Km) (HM : ∀ w, Km w → Calls Tryz.prog 27 #[.slice am nm cm] w fun xe w' => xe = .returned (natV n) ∧ Below w.heap.size w w') (Ka : World → Prop) (hKa : Keeps Ka) (HZ : ∀ w, Ka w → Calls Tryz.prog 28 #[.agg #[.bool sa, .slice aa na ca]] w fun xe w' => xe = .returned (intV b) ∧ Below w.heap.size w w') (HB : ∀ w, Calls Tryz.prog 10 #[intV b, natV n] w fun xe w' => xe = .returned (.tuple #[fracV q, .bool true]) ∧ Below w.heap.size w w') (HF : ∀ w, Calls Tryz.prog 20 #[fracV q, intV b, natV n] w fun xe w' => xe = .returned (.bool true) ∧ Below w.heap.size w w') (HR : ∀ w, Calls Tryz.prog 22 #[fracV q, natV n] w fun xe w' => xe = .returned (.bool true) ∧ Below w.heap.size w w') (Kx : World → Prop) (hKx : Keeps Kx) (GX : ∀ w, Kx w → Calls Tryz.prog 29 #[.agg #[.bool sx, .slice ax nx cx, .slice qx mx dx]] w fun xe w' => xe = .returned (fracV f) ∧ Below w.heap.size w w') (HY : ∀ w, Calls Tryz.prog 31 #[.bool false, natV n] w fun xe w' => xe = .returned (intV y) ∧ Below w.heap.size w w') (HD : ∀ w, Calls Tryz.prog 18 #[fracV f] w fun xe w' => xe = .returned (natV d) ∧ Below w.heap.size w w') (HE : ∀ w, Calls Tryz.prog 31 #[.bool false, natV d] w fun xe w' => xe = .returned (intV z) ∧ Below w.heap.size w w') (HG : ∀ w, Calls Tryz.prog 30 #[intV y, intV z] w fun xe w' => xe = .returned (.tuple #[intV g, intV u, intV v]) ∧ Below w.heap.size w w') (HO : ∀ w, Calls Tryz.prog 11 #[.int .i64 1] w fun xe w' => xe = .returned (intV g) ∧ Below w.heap.size w w') (KT : World → Prop) (hKT : Keeps KT) (HW : ∀ w, KT w → Calls Tryz.prog 15 #[] w fun xe w' => xe = .returned (.bool true) ∧ Below w.heap.size w w') (l0 : decide ((4 : Int) < ((nx : Nat) : Int)) = false) (k0 : decide (4 < nx) = false) (l1 : decide ((4 : Int) < ((mx : Nat) : Int)) = false) (k1 : decide (4 < mx) = false) (l2 : decide ((12 : Int) < ((nm : Nat) : Int)) = false) (k2 : decide (12 < nm) = false) (l3 : decide ((12 : Int) < ((na : Nat) : Int)) = false) (k3 : decide (12 < na) = false) (e0 : (((lo n : Nat) : Int) == 0) = true) (e1 : ((hs n).toList == []) = true) (w : World) (kKm : Km w) (kKa : Ka w) (kKx : Kx w) (kKT : KT w) :
  Calls Tryz.prog 6 #[.agg #[.bool sx, .slice ax nx cx, .slice qx mx dx], .slice am nm cm, .agg #[.bool sa, .slice aa na ca]] w fun xe w' => xe = .returned (.bool true) ∧ Below w.heap.size w w' := by
 have hL0 : GL w w [] := GL.start w
 replace hKm := Lib.hid hKm
 replace HM := Lib.hid HM
 replace hKa := Lib.hid hKa
 replace HZ := Lib.hid HZ
 replace HB := Lib.hid HB
 replace HF := Lib.hid HF
 replace HR := Lib.hid HR
 replace hKx := Lib.hid hKx
 replace GX := Lib.hid GX
 replace HY := Lib.hid HY
 replace HD := Lib.hid HD
 replace HE := Lib.hid HE
 replace HG := Lib.hid HG
 replace HO := Lib.hid HO
 replace hKT := Lib.hid hKT
 replace HW := Lib.hid HW
 replace hL0 := ((hL0.new rfl [.bool sx, .slice ax nx cx, .slice qx mx dx] 70).new (K := w.heap.size + 1) (szA _ _) [.bool sa, .slice aa na ca] 68)
 generalize hweq : ((w.alloc (.cells #[.bool sx, .slice ax nx cx, .slice qx mx dx] 70)).alloc (.cells #[.bool sa, .slice aa na ca] 68)) = x1 at hL0
 go_enter Tryz.func6, Tryz.ntmps6
 have hN0 := cells_of _ 0 [] rfl (hL0.get _ _ List.mem_cons_self)
 simp only [cellsF, and_true, Nat.zero_add, Nat.reduceAdd] at hN0
 have hN1 := cells_of _ 0 [] rfl (hL0.get _ _ (List.mem_cons_of_mem _ List.mem_cons_self))
 simp only [cellsF, and_true, Nat.zero_add, Nat.reduceAdd] at hN1
 go_upto_region 3 with fail
 have kKm1 := hKm.out.at hL0.bl kKm
 have kKa1 := hKa.out.at hL0.bl kKa
 clear hN0 hN1
 clear hweq
 refine region_gh (by kernel_rfl) (by kernel_rfl) ?_
 refine lex_seg (gl := []) 4 (by kernel_rfl) ?_
 intro α iα F hF1 hF2
 have hq := GL.seg hF1 hL0
 simp only [fcC, cellsC, and_true, Nat.zero_add, Nat.reduceAdd] at hq
 simp only [List.take_succ_cons, List.take_zero, List.drop_succ_cons, List.drop_zero, List.take_nil, List.drop_nil]
 repeat (go_big_quiet_step (first | fail | (go_at_call 27; with_reducible exact seg_callK hKm.out hF1 hF2 kKm1 HM.out _) | (go_at_call 28; with_reducible exact seg_callK hKa.out hF1 hF2 kKa1 HZ.out _)))
 refine wpQuiet_nil ?_
 clear hq hF1 hF2 iα F α
 refine lex_new [.int .u64 0, .string ⟨#[]⟩] 7 26 26 rfl rfl (of_decide_eq_true (by kernel_rfl)) (by kernel_rfl) rfl new_natc ?_
 simp only [Act.put, List.setIfInBounds_toArray, List.set_cons_succ, List.set_cons_zero]
 refine lex_new [.int .u64 0, .string ⟨#[]⟩, .bool false] 8 28 28 rfl rfl (of_decide_eq_true (by kernel_rfl)) (by kernel_rfl) rfl new_int ?_
 simp only [Act.put, List.setIfInBounds_toArray, List.set_cons_succ, List.set_cons_zero]
 refine lex_put [.int .u64 ((lo n : Nat) : Int), .string (hs n)] [.int .u64 0, .string ⟨#[]⟩] 7 26 (.tmp 42) rfl (by kernel_rfl) (by simp [toG, upd]) rfl (fun w k h => put_natc _ _ _ _ w k h) ?_
 simp only [Act.put]
 refine lex_put [.int .u64 ((zl b : Nat) : Int), .string (zh b), .bool (zs b)] [.int .u64 0, .string ⟨#[]⟩, .bool false] 8 28 (.tmp 44) rfl (by kernel_rfl) (by simp [toG, upd]) rfl (fun w k h => put_int _ _ _ _ _ _ w k h) ?_
 simp only [Act.put]
 refine lexG_nil ?_
 intro κ x2 hS
 replace hL0 := hL0.ghs hS [(8, [.int .u64 ((zl b : Nat) : Int), .string (zh b), .bool (zs b)]), (7, [.int .u64 ((lo n : Nat) : Int), .string (hs n)])] (by simp) (by intro p hp; simp only [List.mem_cons, List.not_mem_nil, or_false] at hp; rcases hp with rfl | rfl <;> exact ⟨_, by simp only [toG, upd]; rfl⟩)
 simp only [List.map_cons, List.map_nil, List.cons_append, List.nil_append] at hL0
 simp only [over_toG, over_nil, Act.put, List.setIfInBounds_toArray, List.set_cons_succ, List.set_cons_zero]
 clear hS
 generalize κ 8 = k2_8 at *
 generalize κ 7 = k2_7 at *
 clear kKm1 kKa1
 have hN0 := cells_of _ 0 [] rfl (hL0.get _ _ List.mem_cons_self)
 simp only [cellsF, and_true, Nat.zero_add, Nat.reduceAdd] at hN0
 have hN1 := cells_of _ 0 [] rfl (hL0.get _ _ (List.mem_cons_of_mem _ List.mem_cons_self))
 simp only [cellsF, and_true, Nat.zero_add, Nat.reduceAdd] at hN1
 go_wp2_with fail
 clear hN0 hN1
 with_reducible refine Calls.mono (HB.out _) ?_
 rintro e x3 ⟨rfl, hb⟩
 replace hL0 := hL0.call hb
 clear hb
 replace hL0 := (hL0.new rfl [.int .u64 ((zl q.num : Nat) : Int), .string (zh q.num), .bool (zs q.num), .int .u64 ((lo (fe q) : Nat) : Int), .string (hs (fe q))] 30)
 generalize hweq : (x3.alloc (.cells #[.int .u64 ((zl q.num : Nat) : Int), .string (zh q.num), .bool (zs q.num), .int .u64 ((lo (fe q) : Nat) : Int), .string (hs (fe q))] 30)) = x4 at hL0
 have hN0 := cells_of _ 0 [] rfl (hL0.get _ _ List.mem_cons_self)
 simp only [cellsF, and_true, Nat.zero_add, Nat.reduceAdd] at hN0
 have hN1 := cells_of _ 0 [] rfl (hL0.get _ _ (List.mem_cons_of_mem _ List.mem_cons_self))
 simp only [cellsF, and_true, Nat.zero_add, Nat.reduceAdd] at hN1
 have hN2 := cells_of _ 0 [] rfl (hL0.get _ _ (List.mem_cons_of_mem _ (List.mem_cons_of_mem _ List.mem_cons_self)))
 simp only [cellsF, and_true, Nat.zero_add, Nat.reduceAdd] at hN2
 go_wp2_with fail
 clear hN0 hN1 hN2
 with_reducible refine Calls.mono (HF.out _) ?_
 rintro e x5 ⟨rfl, hb⟩
 replace hL0 := hL0.call hb
 clear hb hweq
 have hN0 := cells_of _ 0 [] rfl (hL0.get _ _ List.mem_cons_self)
 simp only [cellsF, and_true, Nat.zero_add, Nat.reduceAdd] at hN0
 have hN1 := cells_of _ 0 [] rfl (hL0.get _ _ (List.mem_cons_of_mem _ (List.mem_cons_of_mem _ List.mem_cons_self)))
 simp only [cellsF, and_true, Nat.zero_add, Nat.reduceAdd] at hN1
 go_wp2_with fail
 clear hN0 hN1
 with_reducible refine Calls.mono (HR.out _) ?_
 rintro e x6 ⟨rfl, hb⟩
 replace hL0 := hL0.call hb
 clear hb
 have hN0 := cells_of _ 0 [] rfl (hL0.get _ _ (List.mem_cons_of_mem _ (List.mem_cons_of_mem _ (List.mem_cons_of_mem _ (List.mem_cons_of_mem _ List.mem_cons_self)))))
 simp only [cellsF, and_true, Nat.zero_add, Nat.reduceAdd] at hN0
 go_wp2_with fail
 clear hN0
 with_reducible refine Calls.mono (GX.out _ (hKx.out.at hL0.bl kKx)) ?_
 rintro e x7 ⟨rfl, hb⟩
 replace hL0 := hL0.call hb
 clear hb
 replace hL0 := (hL0.new rfl [.int .u64 ((zl f.num : Nat) : Int), .string (zh f.num), .bool (zs f.num), .int .u64 ((lo (fe f) : Nat) : Int), .string (hs (fe f))] 30)
 generalize hweq : (x7.alloc (.cells #[.int .u64 ((zl f.num : Nat) : Int), .string (zh f.num), .bool (zs f.num), .int .u64 ((lo (fe f) : Nat) : Int), .string (hs (fe f))] 30)) = x8 at hL0
 go_upto_region 8 with fail
 clear hweq
 refine region_gh (by kernel_rfl) (by kernel_rfl) ?_
 refine lex_seg (gl := []) 10 (by kernel_rfl) ?_
 intro α iα F hF1 hF2
 have hq := GL.seg hF1 hL0
 simp only [fcC, cellsC, and_true, Nat.zero_add, Nat.reduceAdd] at hq
 simp only [List.take_succ_cons, List.take_zero, List.drop_succ_cons, List.drop_zero, List.take_nil, List.drop_nil]
 repeat (go_big_quiet_step (first | fail | (go_at_call 31; with_reducible exact seg_call hF2 HY.out _) | (go_at_call 18; with_reducible exact seg_call hF2 HD.out _) | (go_at_call 31; with_reducible exact seg_call hF2 HE.out _) | (go_at_call 30; with_reducible exact seg_call hF2 HG.out _)))
 refine wpQuiet_nil ?_
 clear hq hF1 hF2 iα F α
 refine lex_new [.int .u64 0, .string ⟨#[]⟩, .bool false] 12 28 28 rfl rfl (of_decide_eq_true (by kernel_rfl)) (by kernel_rfl) rfl new_int ?_
 simp only [Act.put, List.setIfInBounds_toArray, List.set_cons_succ, List.set_cons_zero]
 refine lex_new [.int .u64 0, .string ⟨#[]⟩, .bool false] 13 28 28 rfl rfl (of_decide_eq_true (by kernel_rfl)) (by kernel_rfl) rfl new_int ?_
 simp only [Act.put, List.setIfInBounds_toArray, List.set_cons_succ, List.set_cons_zero]
 refine lex_new [.int .u64 0, .string ⟨#[]⟩, .bool false] 14 28 28 rfl rfl (of_decide_eq_true (by kernel_rfl)) (by kernel_rfl) rfl new_int ?_
 simp only [Act.put, List.setIfInBounds_toArray, List.set_cons_succ, List.set_cons_zero]
 refine lex_put [.int .u64 ((zl g : Nat) : Int), .string (zh g), .bool (zs g)] [.int .u64 0, .string ⟨#[]⟩, .bool false] 12 28 (.tmp 83) rfl (by kernel_rfl) (by simp [toG, upd]) rfl (fun w k h => put_int _ _ _ _ _ _ w k h) ?_
 simp only [Act.put]
 refine lex_put [.int .u64 ((zl u : Nat) : Int), .string (zh u), .bool (zs u)] [.int .u64 0, .string ⟨#[]⟩, .bool false] 13 28 (.tmp 84) rfl (by kernel_rfl) (by simp [toG, upd]) rfl (fun w k h => put_int _ _ _ _ _ _ w k h) ?_
 simp only [Act.put]
 refine lex_put [.int .u64 ((zl v : Nat) : Int), .string (zh v), .bool (zs v)] [.int .u64 0, .string ⟨#[]⟩, .bool false] 14 28 (.tmp 85) rfl (by kernel_rfl) (by simp [toG, upd]) rfl (fun w k h => put_int _ _ _ _ _ _ w k h) ?_
 simp only [Act.put]
 refine lexG_nil ?_
 intro κ x9 hS
 replace hL0 := hL0.ghs hS [(14, [.int .u64 ((zl v : Nat) : Int), .string (zh v), .bool (zs v)]), (13, [.int .u64 ((zl u : Nat) : Int), .string (zh u), .bool (zs u)]), (12, [.int .u64 ((zl g : Nat) : Int), .string (zh g), .bool (zs g)])] (by simp) (by intro p hp; simp only [List.mem_cons, List.not_mem_nil, or_false] at hp; rcases hp with rfl | rfl | rfl <;> exact ⟨_, by simp only [toG, upd]; rfl⟩)
 simp only [List.map_cons, List.map_nil, List.cons_append, List.nil_append] at hL0
 simp only [over_toG, over_nil, Act.put, List.setIfInBounds_toArray, List.set_cons_succ, List.set_cons_zero]
 clear hS
 generalize κ 14 = k9_14 at *
 generalize κ 13 = k9_13 at *
 generalize κ 12 = k9_12 at *
 go_upto_region 9 with fail
 obtain ⟨α, iα, F, hF1, hF2⟩ := cls x9
 have hq0 := cls_box hF1 hL0 _ _ (List.mem_cons_of_mem _ (List.mem_cons_of_mem _ List.mem_cons_self))
 simp only [cellsC, and_true, Nat.zero_add, Nat.reduceAdd] at hq0
 have hq1 := cls_box hF1 hL0 _ _ (List.mem_cons_of_mem _ (List.mem_cons_of_mem _ (List.mem_cons_of_mem _ (List.mem_cons_of_mem _ (List.mem_cons_of_mem _ (List.mem_cons_of_mem _ List.mem_cons_self))))))
 simp only [cellsC, and_true, Nat.zero_add, Nat.reduceAdd] at hq1
 refine region_qs 8 (C := fun w' => ∃ x, w' = F x) (by kernel_rfl) (by kernel_rfl) (cls_drew hF2) ?_
 simp only [List.take_succ_cons, List.take_zero, List.drop_succ_cons, List.drop_zero, List.take_nil, List.drop_nil]
 repeat (go_big_quiet_step (first | fail | (go_at_call 11; with_reducible exact cls_call hF1 hF2 HO.out _)))
 refine wpQuiet_nil ?_
 rintro wq ⟨xq, rfl⟩
 replace hL0 := hL0.call (hF1 xq)
 clear  hq0 hq1 hF2
 generalize F xq = x10 at hL0 ⊢
 clear hF1 xq iα F α
 go_wp2_with fail
 with_reducible refine Calls.mono (HW.out _ (hKT.out.at hL0.bl kKT)) ?_
 rintro e x11 ⟨rfl, hb⟩
 replace hL0 := hL0.call hb
 clear hb
 go_wp2_with fail
 exact bodyPost_ret (v := .bool true) (by simp [results, Tryz.results6, go_sem]) rfl ⟨rfl, hL0.bl⟩
set_option maxHeartbeats 4000000 in
set_option maxRecDepth 100000 in
theorem pth_y_far (sx sa : Bool) (ax qx am aa : Option Addr) (nx cx mx dx nm cm na ca : Nat) (b y z g u v t : Int) (n d : Nat) (q f : Rat) (Km : World → Prop) (hKm : Keeps Km) (HM : ∀ w, Km w → Calls Tryz.prog 27 #[.slice am nm cm] w fun xe w' => xe = .returned (natV n) ∧ Below w.heap.size w w') (Ka : World → Prop) (hKa : Keeps Ka) (HZ : ∀ w, Ka w → Calls Tryz.prog 28 #[.agg #[.bool sa, .slice aa na ca]] w fun xe w' => xe = .returned (intV b) ∧ Below w.heap.size w w') (HB : ∀ w, Calls Tryz.prog 10 #[intV b, natV n] w fun xe w' => xe = .returned (.tuple #[fracV q, .bool true]) ∧ Below w.heap.size w w') (HF : ∀ w, Calls Tryz.prog 20 #[fracV q, intV b, natV n] w fun xe w' => xe = .returned (.bool true) ∧ Below w.heap.size w w') (HR : ∀ w, Calls Tryz.prog 22 #[fracV q, natV n] w fun xe w' => xe = .returned (.bool true) ∧ Below w.heap.size w w') (Kx : World → Prop) (hKx : Keeps Kx) (GX : ∀ w, Kx w → Calls Tryz.prog 29 #[.agg #[.bool sx, .slice ax nx cx, .slice qx mx dx]] w fun xe w' => xe = .returned (fracV f) ∧ Below w.heap.size w w') (HY : ∀ w, Calls Tryz.prog 31 #[.bool false, natV n] w fun xe w' => xe = .returned (intV y) ∧ Below w.heap.size w w') (HD : ∀ w, Calls Tryz.prog 18 #[fracV f] w fun xe w' => xe = .returned (natV d) ∧ Below w.heap.size w w') (HE : ∀ w, Calls Tryz.prog 31 #[.bool false, natV d] w fun xe w' => xe = .returned (intV z) ∧ Below w.heap.size w w') (HG : ∀ w, Calls Tryz.prog 30 #[intV y, intV z] w fun xe w' => xe = .returned (.tuple #[intV g, intV u, intV v]) ∧ Below w.heap.size w w') (HO : ∀ w, Calls Tryz.prog 11 #[.int .i64 1] w fun xe w' => xe = .returned (intV g) ∧ Below w.heap.size w w') (HNf : ∀ w, Calls Tryz.prog 16 #[fracV f] w fun xe w' => xe = .returned (.agg #[.int .u64 ((zl f.num : Nat) : Int), .string (zh f.num), .bool (zs f.num)]) ∧ Below w.heap.size w w') (HMl : ∀ w, Calls Tryz.prog 32 #[.agg #[.int .u64 ((zl f.num : Nat) : Int), .string (zh f.num), .bool (zs f.num)], intV v] w fun xe w' => xe = .returned (intV t) ∧ Below w.heap.size w w') (HFt : ∀ w, Calls Tryz.prog 20 #[fracV f, intV t, natV n] w fun xe w' => xe = .returned (.bool true) ∧ Below w.heap.size w w') (HBt : ∀ w, Calls Tryz.prog 10 #[intV t, natV n] w fun xe w' => xe = .returned (.tuple #[fracV f, .bool true]) ∧ Below w.heap.size w w') (HRf : ∀ w, Calls Tryz.prog 22 #[fracV f, natV n] w fun xe w' => xe = .returned (.bool true) ∧ Below w.heap.size w w') (KT : World → Prop) (hKT : Keeps KT) (HW : ∀ w, KT w → Calls Tryz.prog 15 #[] w fun xe w' => xe = .returned (.bool true) ∧ Below w.heap.size w w') (l0 : decide ((4 : Int) < ((nx : Nat) : Int)) = false) (k0 : decide (4 < nx) = false) (l1 : decide ((4 : Int) < ((mx : Nat) : Int)) = false) (k1 : decide (4 < mx) = false) (l2 : decide ((12 : Int) < ((nm : Nat) : Int)) = false) (k2 : decide (12 < nm) = false) (l3 : decide ((12 : Int) < ((na : Nat) : Int)) = false) (k3 : decide (12 < na) = false) (hn0 : n ≠ 0) (w : World) (kKm : Km w) (kKa : Ka w) (kKx : Kx w) (kKT : KT w) :
  Calls Tryz.prog 6 #[.agg #[.bool sx, .slice ax nx cx, .slice qx mx dx], .slice am nm cm, .agg #[.bool sa, .slice aa na ca]] w fun xe w' => xe = .returned (.bool true) ∧ Below w.heap.size w w' := by
 have hL0 : GL w w [] := GL.start w
 replace hKm := Lib.hid hKm
 replace HM := Lib.hid HM
 replace hKa := Lib.hid hKa
 replace HZ := Lib.hid HZ
 replace HB := Lib.hid HB
 replace HF := Lib.hid HF
 replace HR := Lib.hid HR
 replace hKx := Lib.hid hKx
 replace GX := Lib.hid GX
 replace HY := Lib.hid HY
 replace HD := Lib.hid HD
 replace HE := Lib.hid HE
 replace HG := Lib.hid HG
 replace HO := Lib.hid HO
 replace HNf := Lib.hid HNf
 replace HMl := Lib.hid HMl
 replace HFt := Lib.hid HFt
 replace HBt := Lib.hid HBt
 replace HRf := Lib.hid HRf
 replace hKT := Lib.hid hKT
 replace HW := Lib.hid HW
 have hz0 := eq_zeroN hn0
 clear hn0
 rcases hz0 with e0 | ⟨e0, e1⟩
 all_goals (
  replace hL0 := ((hL0.new rfl [.bool sx, .slice ax nx cx, .slice qx mx dx] 70).new (K := w.heap.size + 1) (szA _ _) [.bool sa, .slice aa na ca] 68)
  generalize hweq : ((w.alloc (.cells #[.bool sx, .slice ax nx cx, .slice qx mx dx] 70)).alloc (.cells #[.bool sa, .slice aa na ca] 68)) = x1 at hL0
  go_enter Tryz.func6, Tryz.ntmps6
  have hN0 := cells_of _ 0 [] rfl (hL0.get _ _ List.mem_cons_self)
  simp only [cellsF, and_true, Nat.zero_add, Nat.reduceAdd] at hN0
  have hN1 := cells_of _ 0 [] rfl (hL0.get _ _ (List.mem_cons_of_mem _ List.mem_cons_self))
  simp only [cellsF, and_true, Nat.zero_add, Nat.reduceAdd] at hN1
  go_upto_region 3 with fail
  have kKm1 := hKm.out.at hL0.bl kKm
  have kKa1 := hKa.out.at hL0.bl kKa
  clear hN0 hN1
  clear hweq
  refine region_gh (by kernel_rfl) (by kernel_rfl) ?_
  refine lex_seg (gl := []) 4 (by kernel_rfl) ?_
  intro α iα F hF1 hF2
  have hq := GL.seg hF1 hL0
  simp only [fcC, cellsC, and_true, Nat.zero_add, Nat.reduceAdd] at hq
  simp only [List.take_succ_cons, List.take_zero, List.drop_succ_cons, List.drop_zero, List.take_nil, List.drop_nil]
  repeat (go_big_quiet_step (first | fail | (go_at_call 27; with_reducible exact seg_callK hKm.out hF1 hF2 kKm1 HM.out _) | (go_at_call 28; with_reducible exact seg_callK hKa.out hF1 hF2 kKa1 HZ.out _)))
  refine wpQuiet_nil ?_
  clear hq hF1 hF2 iα F α
  refine lex_new [.int .u64 0, .string ⟨#[]⟩] 7 26 26 rfl rfl (of_decide_eq_true (by kernel_rfl)) (by kernel_rfl) rfl new_natc ?_
  simp only [Act.put, List.setIfInBounds_toArray, List.set_cons_succ, List.set_cons_zero]
  refine lex_new [.int .u64 0, .string ⟨#[]⟩, .bool false] 8 28 28 rfl rfl (of_decide_eq_true (by kernel_rfl)) (by kernel_rfl) rfl new_int ?_
  simp only [Act.put, List.setIfInBounds_toArray, List.set_cons_succ, List.set_cons_zero]
  refine lex_put [.int .u64 ((lo n : Nat) : Int), .string (hs n)] [.int .u64 0, .string ⟨#[]⟩] 7 26 (.tmp 42) rfl (by kernel_rfl) (by simp [toG, upd]) rfl (fun w k h => put_natc _ _ _ _ w k h) ?_
  simp only [Act.put]
  refine lex_put [.int .u64 ((zl b : Nat) : Int), .string (zh b), .bool (zs b)] [.int .u64 0, .string ⟨#[]⟩, .bool false] 8 28 (.tmp 44) rfl (by kernel_rfl) (by simp [toG, upd]) rfl (fun w k h => put_int _ _ _ _ _ _ w k h) ?_
  simp only [Act.put]
  refine lexG_nil ?_
  intro κ x2 hS
  replace hL0 := hL0.ghs hS [(8, [.int .u64 ((zl b : Nat) : Int), .string (zh b), .bool (zs b)]), (7, [.int .u64 ((lo n : Nat) : Int), .string (hs n)])] (by simp) (by intro p hp; simp only [List.mem_cons, List.not_mem_nil, or_false] at hp; rcases hp with rfl | rfl <;> exact ⟨_, by simp only [toG, upd]; rfl⟩)
  simp only [List.map_cons, List.map_nil, List.cons_append, List.nil_append] at hL0
  simp only [over_toG, over_nil, Act.put, List.setIfInBounds_toArray, List.set_cons_succ, List.set_cons_zero]
  clear hS
  generalize κ 8 = k2_8 at *
  generalize κ 7 = k2_7 at *
  clear kKm1 kKa1
  have hN0 := cells_of _ 0 [] rfl (hL0.get _ _ List.mem_cons_self)
  simp only [cellsF, and_true, Nat.zero_add, Nat.reduceAdd] at hN0
  have hN1 := cells_of _ 0 [] rfl (hL0.get _ _ (List.mem_cons_of_mem _ List.mem_cons_self))
  simp only [cellsF, and_true, Nat.zero_add, Nat.reduceAdd] at hN1
  go_wp2_with fail
  clear hN0 hN1
  with_reducible refine Calls.mono (HB.out _) ?_
  rintro e x3 ⟨rfl, hb⟩
  replace hL0 := hL0.call hb
  clear hb
  replace hL0 := (hL0.new rfl [.int .u64 ((zl q.num : Nat) : Int), .string (zh q.num), .bool (zs q.num), .int .u64 ((lo (fe q) : Nat) : Int), .string (hs (fe q))] 30)
  generalize hweq : (x3.alloc (.cells #[.int .u64 ((zl q.num : Nat) : Int), .string (zh q.num), .bool (zs q.num), .int .u64 ((lo (fe q) : Nat) : Int), .string (hs (fe q))] 30)) = x4 at hL0
  have hN0 := cells_of _ 0 [] rfl (hL0.get _ _ List.mem_cons_self)
  simp only [cellsF, and_true, Nat.zero_add, Nat.reduceAdd] at hN0
  have hN1 := cells_of _ 0 [] rfl (hL0.get _ _ (List.mem_cons_of_mem _ List.mem_cons_self))
  simp only [cellsF, and_true, Nat.zero_add, Nat.reduceAdd] at hN1
  have hN2 := cells_of _ 0 [] rfl (hL0.get _ _ (List.mem_cons_of_mem _ (List.mem_cons_of_mem _ List.mem_cons_self)))
  simp only [cellsF, and_true, Nat.zero_add, Nat.reduceAdd] at hN2
  go_wp2_with fail
  clear hN0 hN1 hN2
  with_reducible refine Calls.mono (HF.out _) ?_
  rintro e x5 ⟨rfl, hb⟩
  replace hL0 := hL0.call hb
  clear hb hweq
  have hN0 := cells_of _ 0 [] rfl (hL0.get _ _ List.mem_cons_self)
  simp only [cellsF, and_true, Nat.zero_add, Nat.reduceAdd] at hN0
  have hN1 := cells_of _ 0 [] rfl (hL0.get _ _ (List.mem_cons_of_mem _ (List.mem_cons_of_mem _ List.mem_cons_self)))
  simp only [cellsF, and_true, Nat.zero_add, Nat.reduceAdd] at hN1
  go_wp2_with fail
  clear hN0 hN1
  with_reducible refine Calls.mono (HR.out _) ?_
  rintro e x6 ⟨rfl, hb⟩
  replace hL0 := hL0.call hb
  clear hb
  have hN0 := cells_of _ 0 [] rfl (hL0.get _ _ (List.mem_cons_of_mem _ (List.mem_cons_of_mem _ (List.mem_cons_of_mem _ (List.mem_cons_of_mem _ List.mem_cons_self)))))
  simp only [cellsF, and_true, Nat.zero_add, Nat.reduceAdd] at hN0
  go_wp2_with fail
  clear hN0
  with_reducible refine Calls.mono (GX.out _ (hKx.out.at hL0.bl kKx)) ?_
  rintro e x7 ⟨rfl, hb⟩
  replace hL0 := hL0.call hb
  clear hb
  replace hL0 := (hL0.new rfl [.int .u64 ((zl f.num : Nat) : Int), .string (zh f.num), .bool (zs f.num), .int .u64 ((lo (fe f) : Nat) : Int), .string (hs (fe f))] 30)
  generalize hweq : (x7.alloc (.cells #[.int .u64 ((zl f.num : Nat) : Int), .string (zh f.num), .bool (zs f.num), .int .u64 ((lo (fe f) : Nat) : Int), .string (hs (fe f))] 30)) = x8 at hL0
  go_upto_region 8 with fail
  clear hweq
  refine region_gh (by kernel_rfl) (by kernel_rfl) ?_
  refine lex_seg (gl := []) 10 (by kernel_rfl) ?_
  intro α iα F hF1 hF2
  have hq := GL.seg hF1 hL0
  simp only [fcC, cellsC, and_true, Nat.zero_add, Nat.reduceAdd] at hq
  simp only [List.take_succ_cons, List.take_zero, List.drop_succ_cons, List.drop_zero, List.take_nil, List.drop_nil]
  repeat (go_big_quiet_step (first | fail | (go_at_call 31; with_reducible exact seg_call hF2 HY.out _) | (go_at_call 18; with_reducible exact seg_call hF2 HD.out _) | (go_at_call 31; with_reducible exact seg_call hF2 HE.out _) | (go_at_call 30; with_reducible exact seg_call hF2 HG.out _)))
  refine wpQuiet_nil ?_
  clear hq hF1 hF2 iα F α
  refine lex_new [.int .u64 0, .string ⟨#[]⟩, .bool false] 12 28 28 rfl rfl (of_decide_eq_true (by kernel_rfl)) (by kernel_rfl) rfl new_int ?_
  simp only [Act.put, List.setIfInBounds_toArray, List.set_cons_succ, List.set_cons_zero]
  refine lex_new [.int .u64 0, .string ⟨#[]⟩, .bool false] 13 28 28 rfl rfl (of_decide_eq_true (by kernel_rfl)) (by kernel_rfl) rfl new_int ?_
  simp only [Act.put, List.setIfInBounds_toArray, List.set_cons_succ, List.set_cons_zero]
  refine lex_new [.int .u64 0, .string ⟨#[]⟩, .bool false] 14 28 28 rfl rfl (of_decide_eq_true (by kernel_rfl)) (by kernel_rfl) rfl new_int ?_
  simp only [Act.put, List.setIfInBounds_toArray, List.set_cons_succ, List.set_cons_zero]
  refine lex_put [.int .u64 ((zl g : Nat) : Int), .string (zh g), .bool (zs g)] [.int .u64 0, .string ⟨#[]⟩, .bool false] 12 28 (.tmp 83) rfl (by kernel_rfl) (by simp [toG, upd]) rfl (fun w k h => put_int _ _ _ _ _ _ w k h) ?_
  simp only [Act.put]
  refine lex_put [.int .u64 ((zl u : Nat) : Int), .string (zh u), .bool (zs u)] [.int .u64 0, .string ⟨#[]⟩, .bool false] 13 28 (.tmp 84) rfl (by kernel_rfl) (by simp [toG, upd]) rfl (fun w k h => put_int _ _ _ _ _ _ w k h) ?_
  simp only [Act.put]
  refine lex_put [.int .u64 ((zl v : Nat) : Int), .string (zh v), .bool (zs v)] [.int .u64 0, .string ⟨#[]⟩, .bool false] 14 28 (.tmp 85) rfl (by kernel_rfl) (by simp [toG, upd]) rfl (fun w k h => put_int _ _ _ _ _ _ w k h) ?_
  simp only [Act.put]
  refine lexG_nil ?_
  intro κ x9 hS
  replace hL0 := hL0.ghs hS [(14, [.int .u64 ((zl v : Nat) : Int), .string (zh v), .bool (zs v)]), (13, [.int .u64 ((zl u : Nat) : Int), .string (zh u), .bool (zs u)]), (12, [.int .u64 ((zl g : Nat) : Int), .string (zh g), .bool (zs g)])] (by simp) (by intro p hp; simp only [List.mem_cons, List.not_mem_nil, or_false] at hp; rcases hp with rfl | rfl | rfl <;> exact ⟨_, by simp only [toG, upd]; rfl⟩)
  simp only [List.map_cons, List.map_nil, List.cons_append, List.nil_append] at hL0
  simp only [over_toG, over_nil, Act.put, List.setIfInBounds_toArray, List.set_cons_succ, List.set_cons_zero]
  clear hS
  generalize κ 14 = k9_14 at *
  generalize κ 13 = k9_13 at *
  generalize κ 12 = k9_12 at *
  go_upto_region 9 with fail
  obtain ⟨α, iα, F, hF1, hF2⟩ := cls x9
  have hq0 := cls_box hF1 hL0 _ _ (List.mem_cons_of_mem _ (List.mem_cons_of_mem _ List.mem_cons_self))
  simp only [cellsC, and_true, Nat.zero_add, Nat.reduceAdd] at hq0
  have hq1 := cls_box hF1 hL0 _ _ (List.mem_cons_of_mem _ (List.mem_cons_of_mem _ (List.mem_cons_of_mem _ (List.mem_cons_of_mem _ (List.mem_cons_of_mem _ (List.mem_cons_of_mem _ List.mem_cons_self))))))
  simp only [cellsC, and_true, Nat.zero_add, Nat.reduceAdd] at hq1
  refine region_qs 8 (C := fun w' => ∃ x, w' = F x) (by kernel_rfl) (by kernel_rfl) (cls_drew hF2) ?_
  simp only [List.take_succ_cons, List.take_zero, List.drop_succ_cons, List.drop_zero, List.take_nil, List.drop_nil]
  repeat (go_big_quiet_step (first | fail | (go_at_call 11; with_reducible exact cls_call hF1 hF2 HO.out _)))
  refine wpQuiet_nil ?_
  rintro wq ⟨xq, rfl⟩
  replace hL0 := hL0.call (hF1 xq)
  clear  hq0 hq1 hF2
  generalize F xq = x10 at hL0 ⊢
  clear hF1 xq iα F α
  go_upto_region 11 with fail
  refine region_gh (by kernel_rfl) (by kernel_rfl) ?_
  refine lex_seg (gl := []) 4 (by kernel_rfl) ?_
  intro α iα F hF1 hF2
  have hq := GL.seg hF1 hL0
  simp only [fcC, cellsC, and_true, Nat.zero_add, Nat.reduceAdd] at hq
  simp only [List.take_succ_cons, List.take_zero, List.drop_succ_cons, List.drop_zero, List.take_nil, List.drop_nil]
  repeat (go_big_quiet_step (first | fail | (go_at_call 16; with_reducible exact seg_call hF2 HNf.out _) | (go_at_call 32; with_reducible exact seg_call hF2 HMl.out _)))
  refine wpQuiet_nil ?_
  clear hq hF1 hF2 iα F α
  refine lex_new [.int .u64 0, .string ⟨#[]⟩, .bool false] 15 28 28 rfl rfl (of_decide_eq_true (by kernel_rfl)) (by kernel_rfl) rfl new_int ?_
  simp only [Act.put, List.setIfInBounds_toArray, List.set_cons_succ, List.set_cons_zero]
  refine lex_put [.int .u64 ((zl t : Nat) : Int), .string (zh t), .bool (zs t)] [.int .u64 0, .string ⟨#[]⟩, .bool false] 15 28 (.tmp 98) rfl (by kernel_rfl) (by simp [toG, upd]) rfl (fun w k h => put_int _ _ _ _ _ _ w k h) ?_
  simp only [Act.put]
  refine lexG_nil ?_
  intro κ x11 hS
  replace hL0 := hL0.ghs hS [(15, [.int .u64 ((zl t : Nat) : Int), .string (zh t), .bool (zs t)])] (by simp) (by intro p hp; simp only [List.mem_cons, List.not_mem_nil, or_false] at hp; rcases hp with rfl <;> exact ⟨_, by simp only [toG, upd]; rfl⟩)
  simp only [List.map_cons, List.map_nil, List.cons_append, List.nil_append] at hL0
  simp only [over_toG, over_nil, Act.put, List.setIfInBounds_toArray, List.set_cons_succ, List.set_cons_zero]
  clear hS
  generalize κ 15 = k11_15 at *
  have hN0 := cells_of _ 0 [] rfl (hL0.get _ _ List.mem_cons_self)
  simp only [cellsF, and_true, Nat.zero_add, Nat.reduceAdd] at hN0
  have hN1 := cells_of _ 0 [] rfl (hL0.get _ _ (List.mem_cons_of_mem _ (List.mem_cons_of_mem _ (List.mem_cons_of_mem _ (List.mem_cons_of_mem _ List.mem_cons_self)))))
  simp only [cellsF, and_true, Nat.zero_add, Nat.reduceAdd] at hN1
  have hN2 := cells_of _ 0 [] rfl (hL0.get _ _ (List.mem_cons_of_mem _ (List.mem_cons_of_mem _ (List.mem_cons_of_mem _ (List.mem_cons_of_mem _ (List.mem_cons_of_mem _ (List.mem_cons_of_mem _ (List.mem_cons_of_mem _ List.mem_cons_self))))))))
  simp only [cellsF, and_true, Nat.zero_add, Nat.reduceAdd] at hN2
  go_wp2_with fail
  clear hN0 hN1 hN2
  with_reducible refine Calls.mono (HFt.out _) ?_
  rintro e x12 ⟨rfl, hb⟩
  replace hL0 := hL0.call hb
  clear hb
  have hN0 := cells_of _ 0 [] rfl (hL0.get _ _ List.mem_cons_self)
  simp only [cellsF, and_true, Nat.zero_add, Nat.reduceAdd] at hN0
  have hN1 := cells_of _ 0 [] rfl (hL0.get _ _ (List.mem_cons_of_mem _ (List.mem_cons_of_mem _ (List.mem_cons_of_mem _ (List.mem_cons_of_mem _ (List.mem_cons_of_mem _ (List.mem_cons_of_mem _ (List.mem_cons_of_mem _ List.mem_cons_self))))))))
  simp only [cellsF, and_true, Nat.zero_add, Nat.reduceAdd] at hN1
  go_wp2_with fail
  clear hN0 hN1
  with_reducible refine Calls.mono (HBt.out _) ?_
  rintro e x13 ⟨rfl, hb⟩
  replace hL0 := hL0.call hb
  clear hb
  replace hL0 := (hL0.new rfl [.int .u64 ((zl f.num : Nat) : Int), .string (zh f.num), .bool (zs f.num), .int .u64 ((lo (fe f) : Nat) : Int), .string (hs (fe f))] 30)
  generalize hweq : (x13.alloc (.cells #[.int .u64 ((zl f.num : Nat) : Int), .string (zh f.num), .bool (zs f.num), .int .u64 ((lo (fe f) : Nat) : Int), .string (hs (fe f))] 30)) = x14 at hL0
  have hN0 := cells_of _ 0 [] rfl (hL0.get _ _ (List.mem_cons_of_mem _ (List.mem_cons_of_mem _ (List.mem_cons_of_mem _ (List.mem_cons_of_mem _ (List.mem_cons_of_mem _ List.mem_cons_self))))))
  simp only [cellsF, and_true, Nat.zero_add, Nat.reduceAdd] at hN0
  have hN1 := cells_of _ 0 [] rfl (hL0.get _ _ (List.mem_cons_of_mem _ (List.mem_cons_of_mem _ (List.mem_cons_of_mem _ (List.mem_cons_of_mem _ (List.mem_cons_of_mem _ (List.mem_cons_of_mem _ (List.mem_cons_of_mem _ (List.mem_cons_of_mem _ List.mem_cons_self)))))))))
  simp only [cellsF, and_true, Nat.zero_add, Nat.reduceAdd] at hN1
  go_wp2_with fail
  clear hN0 hN1
  with_reducible refine Calls.mono (HRf.out _) ?_
  rintro e x15 ⟨rfl, hb⟩
  replace hL0 := hL0.call hb
  clear hb hweq
  have hN0 := cells_of _ 0 [] rfl (hL0.get _ _ List.mem_cons_self)
  simp only [cellsF, and_true, Nat.zero_add, Nat.reduceAdd] at hN0
  have hN1 := cells_of _ 0 [] rfl (hL0.get _ _ (List.mem_cons_of_mem _ (List.mem_cons_of_mem _ (List.mem_cons_of_mem _ (List.mem_cons_of_mem _ (List.mem_cons_of_mem _ List.mem_cons_self))))))
  simp only [cellsF, and_true, Nat.zero_add, Nat.reduceAdd] at hN1
  go_wp2_with fail
  clear hN0 hN1
  with_reducible refine Calls.mono (HW.out _ (hKT.out.at hL0.bl kKT)) ?_
  rintro e x16 ⟨rfl, hb⟩
  replace hL0 := hL0.call hb
  clear hb
  go_wp2_with fail
  exact bodyPost_ret (v := .bool true) (by simp [results, Tryz.results6, go_sem]) rfl ⟨rfl, hL0.bl⟩)
set_option maxHeartbeats 4000000 in
set_option maxRecDepth 100000 in
theorem pth_y_none (sx sa : Bool) (ax qx am aa : Option Addr) (nx cx mx dx nm cm na ca : Nat) (b y z g u v t : Int) (n d : Nat) (q f : Rat) (Km : World → Prop) (hKm : Keeps Km) (HM : ∀ w, Km w → Calls Tryz.prog 27 #[.slice am nm cm] w fun xe w' => xe = .returned (natV n) ∧ Below w.heap.size w w') (Ka : World → Prop) (hKa : Keeps Ka) (HZ : ∀ w, Ka w → Calls Tryz.prog 28 #[.agg #[.bool sa, .slice aa na ca]] w fun xe w' => xe = .returned (intV b) ∧ Below w.heap.size w w') (HB : ∀ w, Calls Tryz.prog 10 #[intV b, natV n] w fun xe w' => xe = .returned (.tuple #[fracV q, .bool true]) ∧ Below w.heap.size w w') (HF : ∀ w, Calls Tryz.prog 20 #[fracV q, intV b, natV n] w fun xe w' => xe = .returned (.bool true) ∧ Below w.heap.size w w') (HR : ∀ w, Calls Tryz.prog 22 #[fracV q, natV n] w fun xe w' => xe = .returned (.bool true) ∧ Below w.heap.size w w') (Kx : World → Prop) (hKx : Keeps Kx) (GX : ∀ w, Kx w → Calls Tryz.prog 29 #[.agg #[.bool sx, .slice ax nx cx, .slice qx mx dx]] w fun xe w' => xe = .returned (fracV f) ∧ Below w.heap.size w w') (HY : ∀ w, Calls Tryz.prog 31 #[.bool false, natV n] w fun xe w' => xe = .returned (intV y) ∧ Below w.heap.size w w') (HD : ∀ w, Calls Tryz.prog 18 #[fracV f] w fun xe w' => xe = .returned (natV d) ∧ Below w.heap.size w w') (HE : ∀ w, Calls Tryz.prog 31 #[.bool false, natV d] w fun xe w' => xe = .returned (intV z) ∧ Below w.heap.size w w') (HG : ∀ w, Calls Tryz.prog 30 #[intV y, intV z] w fun xe w' => xe = .returned (.tuple #[intV g, intV u, intV v]) ∧ Below w.heap.size w w') (HO : ∀ w, Calls Tryz.prog 11 #[.int .i64 1] w fun xe w' => xe = .returned (intV g) ∧ Below w.heap.size w w') (HNf : ∀ w, Calls Tryz.prog 16 #[fracV f] w fun xe w' => xe = .returned (.agg #[.int .u64 ((zl f.num : Nat) : Int), .string (zh f.num), .bool (zs f.num)]) ∧ Below w.heap.size w w') (HMl : ∀ w, Calls Tryz.prog 32 #[.agg #[.int .u64 ((zl f.num : Nat) : Int), .string (zh f.num), .bool (zs f.num)], intV v] w fun xe w' => xe = .returned (intV t) ∧ Below w.heap.size w w') (HFt : ∀ w, Calls Tryz.prog 20 #[fracV f, intV t, natV n] w fun xe w' => xe = .returned (.bool true) ∧ Below w.heap.size w w') (HBt : ∀ w, Calls Tryz.prog 10 #[intV t, natV n] w fun xe w' => xe = .returned (.tuple #[.agg #[.int .u64 0, .string ⟨#[]⟩, .bool false, .int .u64 0, .string ⟨#[]⟩], .bool false]) ∧ Below w.heap.size w w') (HRf : ∀ w, Calls Tryz.prog 22 #[fracV f, natV n] w fun xe w' => xe = .returned (.bool false) ∧ Below w.heap.size w w') (KT : World → Prop) (hKT : Keeps KT) (HW : ∀ w, KT w → Calls Tryz.prog 15 #[] w fun xe w' => xe = .returned (.bool true) ∧ Below w.heap.size w w') (l0 : decide ((4 : Int) < ((nx : Nat) : Int)) = false) (k0 : decide (4 < nx) = false) (l1 : decide ((4 : Int) < ((mx : Nat) : Int)) = false) (k1 : decide (4 < mx) = false) (l2 : decide ((12 : Int) < ((nm : Nat) : Int)) = false) (k2 : decide (12 < nm) = false) (l3 : decide ((12 : Int) < ((na : Nat) : Int)) = false) (k3 : decide (12 < na) = false) (hn0 : n ≠ 0) (w : World) (kKm : Km w) (kKa : Ka w) (kKx : Kx w) (kKT : KT w) :
  Calls Tryz.prog 6 #[.agg #[.bool sx, .slice ax nx cx, .slice qx mx dx], .slice am nm cm, .agg #[.bool sa, .slice aa na ca]] w fun xe w' => xe = .returned (.bool true) ∧ Below w.heap.size w w' := by
 have hL0 : GL w w [] := GL.start w
 replace hKm := Lib.hid hKm
 replace HM := Lib.hid HM
 replace hKa := Lib.hid hKa
 replace HZ := Lib.hid HZ
 replace HB := Lib.hid HB
 replace HF := Lib.hid HF
 replace HR := Lib.hid HR
 replace hKx := Lib.hid hKx
 replace GX := Lib.hid GX
 replace HY := Lib.hid HY
 replace HD := Lib.hid HD
 replace HE := Lib.hid HE
 replace HG := Lib.hid HG
 replace HO := Lib.hid HO
 replace HNf := Lib.hid HNf
 replace HMl := Lib.hid HMl
 replace HFt := Lib.hid HFt
 replace HBt := Lib.hid HBt
 replace HRf := Lib.hid HRf
 replace hKT := Lib.hid hKT
 replace HW := Lib.hid HW
 have hz0 := eq_zeroN hn0
 clear hn0
 rcases hz0 with e0 | ⟨e0, e1⟩
 all_goals (
  replace hL0 := ((hL0.new rfl [.bool sx, .slice ax nx cx, .slice qx mx dx] 70).new (K := w.heap.size + 1) (szA _ _) [.bool sa, .slice aa na ca] 68)
  generalize hweq : ((w.alloc (.cells #[.bool sx, .slice ax nx cx, .slice qx mx dx] 70)).alloc (.cells #[.bool sa, .slice aa na ca] 68)) = x1 at hL0
  go_enter Tryz.func6, Tryz.ntmps6
  have hN0 := cells_of _ 0 [] rfl (hL0.get _ _ List.mem_cons_self)
  simp only [cellsF, and_true, Nat.zero_add, Nat.reduceAdd] at hN0
  have hN1 := cells_of _ 0 [] rfl (hL0.get _ _ (List.mem_cons_of_mem _ List.mem_cons_self))
  simp only [cellsF, and_true, Nat.zero_add, Nat.reduceAdd] at hN1
  go_upto_region 3 with fail
  have kKm1 := hKm.out.at hL0.bl kKm
  have kKa1 := hKa.out.at hL0.bl kKa
  clear hN0 hN1
  clear hweq
  refine region_gh (by kernel_rfl) (by kernel_rfl) ?_
  refine lex_seg (gl := []) 4 (by kernel_rfl) ?_
  intro α iα F hF1 hF2
  have hq := GL.seg hF1 hL0
  simp only [fcC, cellsC, and_true, Nat.zero_add, Nat.reduceAdd] at hq
  simp only [List.take_succ_cons, List.take_zero, List.drop_succ_cons, List.drop_zero, List.take_nil, List.drop_nil]
  repeat (go_big_quiet_step (first | fail | (go_at_call 27; with_reducible exact seg_callK hKm.out hF1 hF2 kKm1 HM.out _) | (go_at_call 28; with_reducible exact seg_callK hKa.out hF1 hF2 kKa1 HZ.out _)))
  refine wpQuiet_nil ?_
  clear hq hF1 hF2 iα F α
  refine lex_new [.int .u64 0, .string ⟨#[]⟩] 7 26 26 rfl rfl (of_decide_eq_true (by kernel_rfl)) (by kernel_rfl) rfl new_natc ?_
  simp only [Act.put, List.setIfInBounds_toArray, List.set_cons_succ, List.set_cons_zero]
  refine lex_new [.int .u64 0, .string ⟨#[]⟩, .bool false] 8 28 28 rfl rfl (of_decide_eq_true (by kernel_rfl)) (by kernel_rfl) rfl new_int ?_
  simp only [Act.put, List.setIfInBounds_toArray, List.set_cons_succ, List.set_cons_zero]
  refine lex_put [.int .u64 ((lo n : Nat) : Int), .string (hs n)] [.int .u64 0, .string ⟨#[]⟩] 7 26 (.tmp 42) rfl (by kernel_rfl) (by simp [toG, upd]) rfl (fun w k h => put_natc _ _ _ _ w k h) ?_
  simp only [Act.put]
  refine lex_put [.int .u64 ((zl b : Nat) : Int), .string (zh b), .bool (zs b)] [.int .u64 0, .string ⟨#[]⟩, .bool false] 8 28 (.tmp 44) rfl (by kernel_rfl) (by simp [toG, upd]) rfl (fun w k h => put_int _ _ _ _ _ _ w k h) ?_
  simp only [Act.put]
  refine lexG_nil ?_
  intro κ x2 hS
  replace hL0 := hL0.ghs hS [(8, [.int .u64 ((zl b : Nat) : Int), .string (zh b), .bool (zs b)]), (7, [.int .u64 ((lo n : Nat) : Int), .string (hs n)])] (by simp) (by intro p hp; simp only [List.mem_cons, List.not_mem_nil, or_false] at hp; rcases hp with rfl | rfl <;> exact ⟨_, by simp only [toG, upd]; rfl⟩)
  simp only [List.map_cons, List.map_nil, List.cons_append, List.nil_append] at hL0
  simp only [over_toG, over_nil, Act.put, List.setIfInBounds_toArray, List.set_cons_succ, List.set_cons_zero]
  clear hS
  generalize κ 8 = k2_8 at *
  generalize κ 7 = k2_7 at *
  clear kKm1 kKa1
  have hN0 := cells_of _ 0 [] rfl (hL0.get _ _ List.mem_cons_self)
  simp only [cellsF, and_true, Nat.zero_add, Nat.reduceAdd] at hN0
  have hN1 := cells_of _ 0 [] rfl (hL0.get _ _ (List.mem_cons_of_mem _ List.mem_cons_self))
  simp only [cellsF, and_true, Nat.zero_add, Nat.reduceAdd] at hN1
  go_wp2_with fail
  clear hN0 hN1
  with_reducible refine Calls.mono (HB.out _) ?_
  rintro e x3 ⟨rfl, hb⟩
  replace hL0 := hL0.call hb
  clear hb
  replace hL0 := (hL0.new rfl [.int .u64 ((zl q.num : Nat) : Int), .string (zh q.num), .bool (zs q.num), .int .u64 ((lo (fe q) : Nat) : Int), .string (hs (fe q))] 30)
  generalize hweq : (x3.alloc (.cells #[.int .u64 ((zl q.num : Nat) : Int), .string (zh q.num), .bool (zs q.num), .int .u64 ((lo (fe q) : Nat) : Int), .string (hs (fe q))] 30)) = x4 at hL0
  have hN0 := cells_of _ 0 [] rfl (hL0.get _ _ List.mem_cons_self)
  simp only [cellsF, and_true, Nat.zero_add, Nat.reduceAdd] at hN0
  have hN1 := cells_of _ 0 [] rfl (hL0.get _ _ (List.mem_cons_of_mem _ List.mem_cons_self))
  simp only [cellsF, and_true, Nat.zero_add, Nat.reduceAdd] at hN1
  have hN2 := cells_of _ 0 [] rfl (hL0.get _ _ (List.mem_cons_of_mem _ (List.mem_cons_of_mem _ List.mem_cons_self)))
  simp only [cellsF, and_true, Nat.zero_add, Nat.reduceAdd] at hN2
  go_wp2_with fail
  clear hN0 hN1 hN2
  with_reducible refine Calls.mono (HF.out _) ?_
  rintro e x5 ⟨rfl, hb⟩
  replace hL0 := hL0.call hb
  clear hb hweq
  have hN0 := cells_of _ 0 [] rfl (hL0.get _ _ List.mem_cons_self)
  simp only [cellsF, and_true, Nat.zero_add, Nat.reduceAdd] at hN0
  have hN1 := cells_of _ 0 [] rfl (hL0.get _ _ (List.mem_cons_of_mem _ (List.mem_cons_of_mem _ List.mem_cons_self)))
  simp only [cellsF, and_true, Nat.zero_add, Nat.reduceAdd] at hN1
  go_wp2_with fail
  clear hN0 hN1
  with_reducible refine Calls.mono (HR.out _) ?_
  rintro e x6 ⟨rfl, hb⟩
  replace hL0 := hL0.call hb
  clear hb
  have hN0 := cells_of _ 0 [] rfl (hL0.get _ _ (List.mem_cons_of_mem _ (List.mem_cons_of_mem _ (List.mem_cons_of_mem _ (List.mem_cons_of_mem _ List.mem_cons_self)))))
  simp only [cellsF, and_true, Nat.zero_add, Nat.reduceAdd] at hN0
  go_wp2_with fail
  clear hN0
  with_reducible refine Calls.mono (GX.out _ (hKx.out.at hL0.bl kKx)) ?_
  rintro e x7 ⟨rfl, hb⟩
  replace hL0 := hL0.call hb
  clear hb
  replace hL0 := (hL0.new rfl [.int .u64 ((zl f.num : Nat) : Int), .string (zh f.num), .bool (zs f.num), .int .u64 ((lo (fe f) : Nat) : Int), .string (hs (fe f))] 30)
  generalize hweq : (x7.alloc (.cells #[.int .u64 ((zl f.num : Nat) : Int), .string (zh f.num), .bool (zs f.num), .int .u64 ((lo (fe f) : Nat) : Int), .string (hs (fe f))] 30)) = x8 at hL0
  go_upto_region 8 with fail
  clear hweq
  refine region_gh (by kernel_rfl) (by kernel_rfl) ?_
  refine lex_seg (gl := []) 10 (by kernel_rfl) ?_
  intro α iα F hF1 hF2
  have hq := GL.seg hF1 hL0
  simp only [fcC, cellsC, and_true, Nat.zero_add, Nat.reduceAdd] at hq
  simp only [List.take_succ_cons, List.take_zero, List.drop_succ_cons, List.drop_zero, List.take_nil, List.drop_nil]
  repeat (go_big_quiet_step (first | fail | (go_at_call 31; with_reducible exact seg_call hF2 HY.out _) | (go_at_call 18; with_reducible exact seg_call hF2 HD.out _) | (go_at_call 31; with_reducible exact seg_call hF2 HE.out _) | (go_at_call 30; with_reducible exact seg_call hF2 HG.out _)))
  refine wpQuiet_nil ?_
  clear hq hF1 hF2 iα F α
  refine lex_new [.int .u64 0, .string ⟨#[]⟩, .bool false] 12 28 28 rfl rfl (of_decide_eq_true (by kernel_rfl)) (by kernel_rfl) rfl new_int ?_
  simp only [Act.put, List.setIfInBounds_toArray, List.set_cons_succ, List.set_cons_zero]
  refine lex_new [.int .u64 0, .string ⟨#[]⟩, .bool false] 13 28 28 rfl rfl (of_decide_eq_true (by kernel_rfl)) (by kernel_rfl) rfl new_int ?_
  simp only [Act.put, List.setIfInBounds_toArray, List.set_cons_succ, List.set_cons_zero]
  refine lex_new [.int .u64 0, .string ⟨#[]⟩, .bool false] 14 28 28 rfl rfl (of_decide_eq_true (by kernel_rfl)) (by kernel_rfl) rfl new_int ?_
  simp only [Act.put, List.setIfInBounds_toArray, List.set_cons_succ, List.set_cons_zero]
  refine lex_put [.int .u64 ((zl g : Nat) : Int), .string (zh g), .bool (zs g)] [.int .u64 0, .string ⟨#[]⟩, .bool false] 12 28 (.tmp 83) rfl (by kernel_rfl) (by simp [toG, upd]) rfl (fun w k h => put_int _ _ _ _ _ _ w k h) ?_
  simp only [Act.put]
  refine lex_put [.int .u64 ((zl u : Nat) : Int), .string (zh u), .bool (zs u)] [.int .u64 0, .string ⟨#[]⟩, .bool false] 13 28 (.tmp 84) rfl (by kernel_rfl) (by simp [toG, upd]) rfl (fun w k h => put_int _ _ _ _ _ _ w k h) ?_
  simp only [Act.put]
  refine lex_put [.int .u64 ((zl v : Nat) : Int), .string (zh v), .bool (zs v)] [.int .u64 0, .string ⟨#[]⟩, .bool false] 14 28 (.tmp 85) rfl (by kernel_rfl) (by simp [toG, upd]) rfl (fun w k h => put_int _ _ _ _ _ _ w k h) ?_
  simp only [Act.put]
  refine lexG_nil ?_
  intro κ x9 hS
  replace hL0 := hL0.ghs hS [(14, [.int .u64 ((zl v : Nat) : Int), .string (zh v), .bool (zs v)]), (13, [.int .u64 ((zl u : Nat) : Int), .string (zh u), .bool (zs u)]), (12, [.int .u64 ((zl g : Nat) : Int), .string (zh g), .bool (zs g)])] (by simp) (by intro p hp; simp only [List.mem_cons, List.not_mem_nil, or_false] at hp; rcases hp with rfl | rfl | rfl <;> exact ⟨_, by simp only [toG, upd]; rfl⟩)
  simp only [List.map_cons, List.map_nil, List.cons_append, List.nil_append] at hL0
  simp only [over_toG, over_nil, Act.put, List.setIfInBounds_toArray, List.set_cons_succ, List.set_cons_zero]
  clear hS
  generalize κ 14 = k9_14 at *
  generalize κ 13 = k9_13 at *
  generalize κ 12 = k9_12 at *
  go_upto_region 9 with fail
  obtain ⟨α, iα, F, hF1, hF2⟩ := cls x9
  have hq0 := cls_box hF1 hL0 _ _ (List.mem_cons_of_mem _ (List.mem_cons_of_mem _ List.mem_cons_self))
  simp only [cellsC, and_true, Nat.zero_add, Nat.reduceAdd] at hq0
  have hq1 := cls_box hF1 hL0 _ _ (List.mem_cons_of_mem _ (List.mem_cons_of_mem _ (List.mem_cons_of_mem _ (List.mem_cons_of_mem _ (List.mem_cons_of_mem _ (List.mem_cons_of_mem _ List.mem_cons_self))))))
  simp only [cellsC, and_true, Nat.zero_add, Nat.reduceAdd] at hq1
  refine region_qs 8 (C := fun w' => ∃ x, w' = F x) (by kernel_rfl) (by kernel_rfl) (cls_drew hF2) ?_
  simp only [List.take_succ_cons, List.take_zero, List.drop_succ_cons, List.drop_zero, List.take_nil, List.drop_nil]
  repeat (go_big_quiet_step (first | fail | (go_at_call 11; with_reducible exact cls_call hF1 hF2 HO.out _)))
  refine wpQuiet_nil ?_
  rintro wq ⟨xq, rfl⟩
  replace hL0 := hL0.call (hF1 xq)
  clear  hq0 hq1 hF2
  generalize F xq = x10 at hL0 ⊢
  clear hF1 xq iα F α
  go_upto_region 11 with fail
  refine region_gh (by kernel_rfl) (by kernel_rfl) ?_
  refine lex_seg (gl := []) 4 (by kernel_rfl) ?_
  intro α iα F hF1 hF2
  have hq := GL.seg hF1 hL0
  simp only [fcC, cellsC, and_true, Nat.zero_add, Nat.reduceAdd] at hq
  simp only [List.take_succ_cons, List.take_zero, List.drop_succ_cons, List.drop_zero, List.take_nil, List.drop_nil]
  repeat (go_big_quiet_step (first | fail | (go_at_call 16; with_reducible exact seg_call hF2 HNf.out _) | (go_at_call 32; with_reducible exact seg_call hF2 HMl.out _)))
  refine wpQuiet_nil ?_
  clear hq hF1 hF2 iα F α
  refine lex_new [.int .u64 0, .string ⟨#[]⟩, .bool false] 15 28 28 rfl rfl (of_decide_eq_true (by kernel_rfl)) (by kernel_rfl) rfl new_int ?_
  simp only [Act.put, List.setIfInBounds_toArray, List.set_cons_succ, List.set_cons_zero]
  refine lex_put [.int .u64 ((zl t : Nat) : Int), .string (zh t), .bool (zs t)] [.int .u64 0, .string ⟨#[]⟩, .bool false] 15 28 (.tmp 98) rfl (by kernel_rfl) (by simp [toG, upd]) rfl (fun w k h => put_int _ _ _ _ _ _ w k h) ?_
  simp only [Act.put]
  refine lexG_nil ?_
  intro κ x11 hS
  replace hL0 := hL0.ghs hS [(15, [.int .u64 ((zl t : Nat) : Int), .string (zh t), .bool (zs t)])] (by simp) (by intro p hp; simp only [List.mem_cons, List.not_mem_nil, or_false] at hp; rcases hp with rfl <;> exact ⟨_, by simp only [toG, upd]; rfl⟩)
  simp only [List.map_cons, List.map_nil, List.cons_append, List.nil_append] at hL0
  simp only [over_toG, over_nil, Act.put, List.setIfInBounds_toArray, List.set_cons_succ, List.set_cons_zero]
  clear hS
  generalize κ 15 = k11_15 at *
  have hN0 := cells_of _ 0 [] rfl (hL0.get _ _ List.mem_cons_self)
  simp only [cellsF, and_true, Nat.zero_add, Nat.reduceAdd] at hN0
  have hN1 := cells_of _ 0 [] rfl (hL0.get _ _ (List.mem_cons_of_mem _ (List.mem_cons_of_mem _ (List.mem_cons_of_mem _ (List.mem_cons_of_mem _ List.mem_cons_self)))))
  simp only [cellsF, and_true, Nat.zero_add, Nat.reduceAdd] at hN1
  have hN2 := cells_of _ 0 [] rfl (hL0.get _ _ (List.mem_cons_of_mem _ (List.mem_cons_of_mem _ (List.mem_cons_of_mem _ (List.mem_cons_of_mem _ (List.mem_cons_of_mem _ (List.mem_cons_of_mem _ (List.mem_cons_of_mem _ List.mem_cons_self))))))))
  simp only [cellsF, and_true, Nat.zero_add, Nat.reduceAdd] at hN2
  go_wp2_with fail
  clear hN0 hN1 hN2
  with_reducible refine Calls.mono (HFt.out _) ?_
  rintro e x12 ⟨rfl, hb⟩
  replace hL0 := hL0.call hb
  clear hb
  have hN0 := cells_of _ 0 [] rfl (hL0.get _ _ List.mem_cons_self)
  simp only [cellsF, and_true, Nat.zero_add, Nat.reduceAdd] at hN0
  have hN1 := cells_of _ 0 [] rfl (hL0.get _ _ (List.mem_cons_of_mem _ (List.mem_cons_of_mem _ (List.mem_cons_of_mem _ (List.mem_cons_of_mem _ (List.mem_cons_of_mem _ (List.mem_cons_of_mem _ (List.mem_cons_of_mem _ List.mem_cons_self))))))))
  simp only [cellsF, and_true, Nat.zero_add, Nat.reduceAdd] at hN1
  go_wp2_with fail
  clear hN0 hN1
  with_reducible refine Calls.mono (HBt.out _) ?_
  rintro e x13 ⟨rfl, hb⟩
  replace hL0 := hL0.call hb
  clear hb
  replace hL0 := (hL0.new rfl [.int .u64 0, .string ⟨#[]⟩, .bool false, .int .u64 0, .string ⟨#[]⟩] 30)
  generalize hweq : (x13.alloc (.cells #[.int .u64 0, .string ⟨#[]⟩, .bool false, .int .u64 0, .string ⟨#[]⟩] 30)) = x14 at hL0
  have hA := hL0.fc
  simp only [fcG, cellsF, neK, and_true, ne_eq, Nat.zero_add, Nat.reduceAdd] at hA
  have hP := hL0.put 0 (x13.heap.size) _ rfl [.int .u64 0, .string ⟨#[]⟩, .bool false, .int .u64 0, .string ⟨#[]⟩] rfl
  simp only [setAll, List.set_cons_zero, List.set_cons_succ] at hP
  generalize hput1 : (((((x14.setCell ⟨x13.heap.size, 0, none⟩ (.int .u64 0)).setCell ⟨x13.heap.size, 1, none⟩ (.string ⟨#[]⟩)).setCell ⟨x13.heap.size, 2, none⟩ (.bool false)).setCell ⟨x13.heap.size, 3, none⟩ (.int .u64 0)).setCell ⟨x13.heap.size, 4, none⟩ (.string ⟨#[]⟩)) = x15 at hP
  have hB1 := hP.fc
  simp only [fcG, cellsF, neK, and_true, ne_eq, Nat.zero_add, Nat.reduceAdd] at hB1
  replace hL0 := hP
  go_wp2_with fail
  clear hA
  with_reducible refine Calls.mono (HRf.out _) ?_
  rintro e x16 ⟨rfl, hb⟩
  replace hL0 := hL0.call hb
  clear hb hweq hput1 hB1
  go_wp2_with fail
  with_reducible refine Calls.mono (HW.out _ (hKT.out.at hL0.bl kKT)) ?_
  rintro e x17 ⟨rfl, hb⟩
  replace hL0 := hL0.call hb
  clear hb
  go_wp2_with fail
  exact bodyPost_ret (v := .bool true) (by simp [results, Tryz.results6, go_sem]) rfl ⟨rfl, hL0.bl⟩)
set_option maxHeartbeats 4000000 in
set_option maxRecDepth 100000 in
theorem pth_y_other (sx sa : Bool) (ax qx am aa : Option Addr) (nx cx mx dx nm cm na ca : Nat) (b y z g u v t : Int) (n d : Nat) (q f : Rat) (h : Rat) (Km : World → Prop) (hKm : Keeps Km) (HM : ∀ w, Km w → Calls Tryz.prog 27 #[.slice am nm cm] w fun xe w' => xe = .returned (natV n) ∧ Below w.heap.size w w') (Ka : World → Prop) (hKa : Keeps Ka) (HZ : ∀ w, Ka w → Calls Tryz.prog 28 #[.agg #[.bool sa, .slice aa na ca]] w fun xe w' => xe = .returned (intV b) ∧ Below w.heap.size w w') (HB : ∀ w, Calls Tryz.prog 10 #[intV b, natV n] w fun xe w' => xe = .returned (.tuple #[fracV q, .bool true]) ∧ Below w.heap.size w w') (HF : ∀ w, Calls Tryz.prog 20 #[fracV q, intV b, natV n] w fun xe w' => xe = .returned (.bool true) ∧ Below w.heap.size w w') (HR : ∀ w, Calls Tryz.prog 22 #[fracV q, natV n] w fun xe w' => xe = .returned (.bool true) ∧ Below w.heap.size w w') (Kx : World → Prop) (hKx : Keeps Kx) (GX : ∀ w, Kx w → Calls Tryz.prog 29 #[.agg #[.bool sx, .slice ax nx cx, .slice qx mx dx]] w fun xe w' => xe = .returned (fracV f) ∧ Below w.heap.size w w') (HY : ∀ w, Calls Tryz.prog 31 #[.bool false, natV n] w fun xe w' => xe = .returned (intV y) ∧ Below w.heap.size w w') (HD : ∀ w, Calls Tryz.prog 18 #[fracV f] w fun xe w' => xe = .returned (natV d) ∧ Below w.heap.size w w') (HE : ∀ w, Calls Tryz.prog 31 #[.bool false, natV d] w fun xe w' => xe = .returned (intV z) ∧ Below w.heap.size w w') (HG : ∀ w, Calls Tryz.prog 30 #[intV y, intV z] w fun xe w' => xe = .returned (.tuple #[intV g, intV u, intV v]) ∧ Below w.heap.size w w') (HO : ∀ w, Calls Tryz.prog 11 #[.int .i64 1] w fun xe w' => xe = .returned (intV g) ∧ Below w.heap.size w w') (HNf : ∀ w, Calls Tryz.prog 16 #[fracV f] w fun xe w' => xe = .returned (.agg #[.int .u64 ((zl f.num : Nat) : Int), .string (zh f.num), .bool (zs f.num)]) ∧ Below w.heap.size w w') (HMl : ∀ w, Calls Tryz.prog 32 #[.agg #[.int .u64 ((zl f.num : Nat) : Int), .string (zh f.num), .bool (zs f.num)], intV v] w fun xe w' => xe = .returned (intV t) ∧ Below w.heap.size w w') (HFt : ∀ w, Calls Tryz.prog 20 #[fracV f, intV t, natV n] w fun xe w' => xe = .returned (.bool true) ∧ Below w.heap.size w w') (HBt : ∀ w, Calls Tryz.prog 10 #[intV t, natV n] w fun xe w' => xe = .returned (.tuple #[fracV h, .bool true]) ∧ Below w.heap.size w w') (HRf : ∀ w, Calls Tryz.prog 22 #[fracV f, natV n] w fun xe w' => xe = .returned (.bool false) ∧ Below w.heap.size w w') (HFh : ∀ w, Calls Tryz.prog 20 #[fracV h, intV t, natV n] w fun xe w' => xe = .returned (.bool true) ∧ Below w.heap.size w w') (HRh : ∀ w, Calls Tryz.prog 22 #[fracV h, natV n] w fun xe w' => xe = .returned (.bool true) ∧ Below w.heap.size w w') (KT : World → Prop) (hKT : Keeps KT) (HW : ∀ w, KT w → Calls Tryz.prog 15 #[] w fun xe w' => xe = .returned (.bool true) ∧ Below w.heap.size w w') (l0 : decide ((4 : Int) < ((nx : Nat) : Int)) = false) (k0 : decide (4 < nx) = false) (l1 : decide ((4 : Int) < ((mx : Nat) : Int)) = false) (k1 : decide (4 < mx) = false) (l2 : decide ((12 : Int) < ((nm : Nat) : Int)) = false) (k2 : decide (12 < nm) = false) (l3 : decide ((12 : Int) < ((na : Nat) : Int)) = false) (k3 : decide (12 < na) = false) (hn0 : n ≠ 0) (hh : h ≠ f) (w : World) (kKm : Km w) (kKa : Ka w) (kKx : Kx w) (kKT : KT w) :
  Calls Tryz.prog 6 #[.agg #[.bool sx, .slice ax nx cx, .slice qx mx dx], .slice am nm cm, .agg #[.bool sa, .slice aa na ca]] w fun xe w' => xe = .returned (.bool true) ∧ Below w.heap.size w w' := by
 have hL0 : GL w w [] := GL.start w
 replace hKm := Lib.hid hKm
 replace HM := Lib.hid HM
 replace hKa := Lib.hid hKa
 replace HZ := Lib.hid HZ
 replace HB := Lib.hid HB
 replace HF := Lib.hid HF
 replace HR := Lib.hid HR
 replace hKx := Lib.hid hKx
 replace GX := Lib.hid GX
 replace HY := Lib.hid HY
 replace HD := Lib.hid HD
 replace HE := Lib.hid HE
 replace HG := Lib.hid HG
 replace HO := Lib.hid HO
 replace HNf := Lib.hid HNf
 replace HMl := Lib.hid HMl
 replace HFt := Lib.hid HFt
 replace HBt := Lib.hid HBt
 replace HRf := Lib.hid HRf
 replace HFh := Lib.hid HFh
 replace HRh := Lib.hid HRh
 replace hKT := Lib.hid hKT
 replace HW := Lib.hid HW
 have hz0 := eq_zeroN hn0
 clear hn0
 have hz1 := ne_fr hh
 clear hh
 rcases hz0 with e0 | ⟨e0, e1⟩ <;> rcases hz1 with g0 | ⟨g0, g1⟩ | ⟨g0, g1, g2⟩ | ⟨g0, g1, g2, g3⟩ | ⟨g0, g1, g2, g3, g4⟩
 all_goals (
  replace hL0 := ((hL0.new rfl [.bool sx, .slice ax nx cx, .slice qx mx dx] 70).new (K := w.heap.size + 1) (szA _ _) [.bool sa, .slice aa na ca] 68)
  generalize hweq : ((w.alloc (.cells #[.bool sx, .slice ax nx cx, .slice qx mx dx] 70)).alloc (.cells #[.bool sa, .slice aa na ca] 68)) = x1 at hL0
  go_enter Tryz.func6, Tryz.ntmps6
  have hN0 := cells_of _ 0 [] rfl (hL0.get _ _ List.mem_cons_self)
  simp only [cellsF, and_true, Nat.zero_add, Nat.reduceAdd] at hN0
  have hN1 := cells_of _ 0 [] rfl (hL0.get _ _ (List.mem_cons_of_mem _ List.mem_cons_self))
  simp only [cellsF, and_true, Nat.zero_add, Nat.reduceAdd] at hN1
  go_upto_region 3 with fail
  have kKm1 := hKm.out.at hL0.bl kKm
  have kKa1 := hKa.out.at hL0.bl kKa
  clear hN0 hN1
  clear hweq
  refine region_gh (by kernel_rfl) (by kernel_rfl) ?_
  refine lex_seg (gl := []) 4 (by kernel_rfl) ?_
  intro α iα F hF1 hF2
  have hq := GL.seg hF1 hL0
  simp only [fcC, cellsC, and_true, Nat.zero_add, Nat.reduceAdd] at hq
  simp only [List.take_succ_cons, List.take_zero, List.drop_succ_cons, List.drop_zero, List.take_nil, List.drop_nil]
  repeat (go_big_quiet_step (first | fail | (go_at_call 27; with_reducible exact seg_callK hKm.out hF1 hF2 kKm1 HM.out _) | (go_at_call 28; with_reducible exact seg_callK hKa.out hF1 hF2 kKa1 HZ.out _)))
  refine wpQuiet_nil ?_
  clear hq hF1 hF2 iα F α
  refine lex_new [.int .u64 0, .string ⟨#[]⟩] 7 26 26 rfl rfl (of_decide_eq_true (by kernel_rfl)) (by kernel_rfl) rfl new_natc ?_
  simp only [Act.put, List.setIfInBounds_toArray, List.set_cons_succ, List.set_cons_zero]
  refine lex_new [.int .u64 0, .string ⟨#[]⟩, .bool false] 8 28 28 rfl rfl (of_decide_eq_true (by kernel_rfl)) (by kernel_rfl) rfl new_int ?_
  simp only [Act.put, List.setIfInBounds_toArray, List.set_cons_succ, List.set_cons_zero]
  refine lex_put [.int .u64 ((lo n : Nat) : Int), .string (hs n)] [.int .u64 0, .string ⟨#[]⟩] 7 26 (.tmp 42) rfl (by kernel_rfl) (by simp [toG, upd]) rfl (fun w k h => put_natc _ _ _ _ w k h) ?_
  simp only [Act.put]
  refine lex_put [.int .u64 ((zl b : Nat) : Int), .string (zh b), .bool (zs b)] [.int .u64 0, .string ⟨#[]⟩, .bool false] 8 28 (.tmp 44) rfl (by kernel_rfl) (by simp [toG, upd]) rfl (fun w k h => put_int _ _ _ _ _ _ w k h) ?_
  simp only [Act.put]
  refine lexG_nil ?_
  intro κ x2 hS
  replace hL0 := hL0.ghs hS [(8, [.int .u64 ((zl b : Nat) : Int), .string (zh b), .bool (zs b)]), (7, [.int .u64 ((lo n : Nat) : Int), .string (hs n)])] (by simp) (by intro p hp; simp only [List.mem_cons, List.not_mem_nil, or_false] at hp; rcases hp with rfl | rfl <;> exact ⟨_, by simp only [toG, upd]; rfl⟩)
  simp only [List.map_cons, List.map_nil, List.cons_append, List.nil_append] at hL0
  simp only [over_toG, over_nil, Act.put, List.setIfInBounds_toArray, List.set_cons_succ, List.set_cons_zero]
  clear hS
  generalize κ 8 = k2_8 at *
  generalize κ 7 = k2_7 at *
  clear kKm1 kKa1
  have hN0 := cells_of _ 0 [] rfl (hL0.get _ _ List.mem_cons_self)
  simp only [cellsF, and_true, Nat.zero_add, Nat.reduceAdd] at hN0
  have hN1 := cells_of _ 0 [] rfl (hL0.get _ _ (List.mem_cons_of_mem _ List.mem_cons_self))
  simp only [cellsF, and_true, Nat.zero_add, Nat.reduceAdd] at hN1
  go_wp2_with fail
  clear hN0 hN1
  with_reducible refine Calls.mono (HB.out _) ?_
  rintro e x3 ⟨rfl, hb⟩
  replace hL0 := hL0.call hb
  clear hb
  replace hL0 := (hL0.new rfl [.int .u64 ((zl q.num : Nat) : Int), .string (zh q.num), .bool (zs q.num), .int .u64 ((lo (fe q) : Nat) : Int), .string (hs (fe q))] 30)
  generalize hweq : (x3.alloc (.cells #[.int .u64 ((zl q.num : Nat) : Int), .string (zh q.num), .bool (zs q.num), .int .u64 ((lo (fe q) : Nat) : Int), .string (hs (fe q))] 30)) = x4 at hL0
  have hN0 := cells_of _ 0 [] rfl (hL0.get _ _ List.mem_cons_self)
  simp only [cellsF, and_true, Nat.zero_add, Nat.reduceAdd] at hN0
  have hN1 := cells_of _ 0 [] rfl (hL0.get _ _ (List.mem_cons_of_mem _ List.mem_cons_self))
  simp only [cellsF, and_true, Nat.zero_add, Nat.reduceAdd] at hN1
  have hN2 := cells_of _ 0 [] rfl (hL0.get _ _ (List.mem_cons_of_mem _ (List.mem_cons_of_mem _ List.mem_cons_self)))
  simp only [cellsF, and_true, Nat.zero_add, Nat.reduceAdd] at hN2
  go_wp2_with fail
  clear hN0 hN1 hN2
  with_reducible refine Calls.mono (HF.out _) ?_
  rintro e x5 ⟨rfl, hb⟩
  replace hL0 := hL0.call hb
  clear hb hweq
  have hN0 := cells_of _ 0 [] rfl (hL0.get _ _ List.mem_cons_self)
  simp only [cellsF, and_true, Nat.zero_add, Nat.reduceAdd] at hN0
  have hN1 := cells_of _ 0 [] rfl (hL0.get _ _ (List.mem_cons_of_mem _ (List.mem_cons_of_mem _ List.mem_cons_self)))
  simp only [cellsF, and_true, Nat.zero_add, Nat.reduceAdd] at hN1
  go_wp2_with fail
  clear hN0 hN1
  with_reducible refine Calls.mono (HR.out _) ?_
  rintro e x6 ⟨rfl, hb⟩
  replace hL0 := hL0.call hb
  clear hb
  have hN0 := cells_of _ 0 [] rfl (hL0.get _ _ (List.mem_cons_of_mem _ (List.mem_cons_of_mem _ (List.mem_cons_of_mem _ (List.mem_cons_of_mem _ List.mem_cons_self)))))
  simp only [cellsF, and_true, Nat.zero_add, Nat.reduceAdd] at hN0
  go_wp2_with fail
  clear hN0
  with_reducible refine Calls.mono (GX.out _ (hKx.out.at hL0.bl kKx)) ?_
  rintro e x7 ⟨rfl, hb⟩
  replace hL0 := hL0.call hb
  clear hb
  replace hL0 := (hL0.new rfl [.int .u64 ((zl f.num : Nat) : Int), .string (zh f.num), .bool (zs f.num), .int .u64 ((lo (fe f) : Nat) : Int), .string (hs (fe f))] 30)
  generalize hweq : (x7.alloc (.cells #[.int .u64 ((zl f.num : Nat) : Int), .string (zh f.num), .bool (zs f.num), .int .u64 ((lo (fe f) : Nat) : Int), .string (hs (fe f))] 30)) = x8 at hL0
  go_upto_region 8 with fail
  clear hweq
  refine region_gh (by kernel_rfl) (by kernel_rfl) ?_
  refine lex_seg (gl := []) 10 (by kernel_rfl) ?_
  intro α iα F hF1 hF2
  have hq := GL.seg hF1 hL0
  simp only [fcC, cellsC, and_true, Nat.zero_add, Nat.reduceAdd] at hq
  simp only [List.take_succ_cons, List.take_zero, List.drop_succ_cons, List.drop_zero, List.take_nil, List.drop_nil]
  repeat (go_big_quiet_step (first | fail | (go_at_call 31; with_reducible exact seg_call hF2 HY.out _) | (go_at_call 18; with_reducible exact seg_call hF2 HD.out _) | (go_at_call 31; with_reducible exact seg_call hF2 HE.out _) | (go_at_call 30; with_reducible exact seg_call hF2 HG.out _)))
  refine wpQuiet_nil ?_
  clear hq hF1 hF2 iα F α
  refine lex_new [.int .u64 0, .string ⟨#[]⟩, .bool false] 12 28 28 rfl rfl (of_decide_eq_true (by kernel_rfl)) (by kernel_rfl) rfl new_int ?_
  simp only [Act.put, List.setIfInBounds_toArray, List.set_cons_succ, List.set_cons_zero]
  refine lex_new [.int .u64 0, .string ⟨#[]⟩, .bool false] 13 28 28 rfl rfl (of_decide_eq_true (by kernel_rfl)) (by kernel_rfl) rfl new_int ?_
  simp only [Act.put, List.setIfInBounds_toArray, List.set_cons_succ, List.set_cons_zero]
  refine lex_new [.int .u64 0, .string ⟨#[]⟩, .bool false] 14 28 28 rfl rfl (of_decide_eq_true (by kernel_rfl)) (by kernel_rfl) rfl new_int ?_
  simp only [Act.put, List.setIfInBounds_toArray, List.set_cons_succ, List.set_cons_zero]
  refine lex_put [.int .u64 ((zl g : Nat) : Int), .string (zh g), .bool (zs g)] [.int .u64 0, .string ⟨#[]⟩, .bool false] 12 28 (.tmp 83) rfl (by kernel_rfl) (by simp [toG, upd]) rfl (fun w k h => put_int _ _ _ _ _ _ w k h) ?_
  simp only [Act.put]
  refine lex_put [.int .u64 ((zl u : Nat) : Int), .string (zh u), .bool (zs u)] [.int .u64 0, .string ⟨#[]⟩, .bool false] 13 28 (.tmp 84) rfl (by kernel_rfl) (by simp [toG, upd]) rfl (fun w k h => put_int _ _ _ _ _ _ w k h) ?_
  simp only [Act.put]
  refine lex_put [.int .u64 ((zl v : Nat) : Int), .string (zh v), .bool (zs v)] [.int .u64 0, .string ⟨#[]⟩, .bool false] 14 28 (.tmp 85) rfl (by kernel_rfl) (by simp [toG, upd]) rfl (fun w k h => put_int _ _ _ _ _ _ w k h) ?_
  simp only [Act.put]
  refine lexG_nil ?_
  intro κ x9 hS
  replace hL0 := hL0.ghs hS [(14, [.int .u64 ((zl v : Nat) : Int), .string (zh v), .bool (zs v)]), (13, [.int .u64 ((zl u : Nat) : Int), .string (zh u), .bool (zs u)]), (12, [.int .u64 ((zl g : Nat) : Int), .string (zh g), .bool (zs g)])] (by simp) (by intro p hp; simp only [List.mem_cons, List.not_mem_nil, or_false] at hp; rcases hp with rfl | rfl | rfl <;> exact ⟨_, by simp only [toG, upd]; rfl⟩)
  simp only [List.map_cons, List.map_nil, List.cons_append, List.nil_append] at hL0
  simp only [over_toG, over_nil, Act.put, List.setIfInBounds_toArray, List.set_cons_succ, List.set_cons_zero]
  clear hS
  generalize κ 14 = k9_14 at *
  generalize κ 13 = k9_13 at *
  generalize κ 12 = k9_12 at *
  go_upto_region 9 with fail
  obtain ⟨α, iα, F, hF1, hF2⟩ := cls x9
  have hq0 := cls_box hF1 hL0 _ _ (List.mem_cons_of_mem _ (List.mem_cons_of_mem _ List.mem_cons_self))
  simp only [cellsC, and_true, Nat.zero_add, Nat.reduceAdd] at hq0
  have hq1 := cls_box hF1 hL0 _ _ (List.mem_cons_of_mem _ (List.mem_cons_of_mem _ (List.mem_cons_of_mem _ (List.mem_cons_of_mem _ (List.mem_cons_of_mem _ (List.mem_cons_of_mem _ List.mem_cons_self))))))
  simp only [cellsC, and_true, Nat.zero_add, Nat.reduceAdd] at hq1
  refine region_qs 8 (C := fun w' => ∃ x, w' = F x) (by kernel_rfl) (by kernel_rfl) (cls_drew hF2) ?_
  simp only [List.take_succ_cons, List.take_zero, List.drop_succ_cons, List.drop_zero, List.take_nil, List.drop_nil]
  repeat (go_big_quiet_step (first | fail | (go_at_call 11; with_reducible exact cls_call hF1 hF2 HO.out _)))
  refine wpQuiet_nil ?_
  rintro wq ⟨xq, rfl⟩
  replace hL0 := hL0.call (hF1 xq)
  clear  hq0 hq1 hF2
  generalize F xq = x10 at hL0 ⊢
  clear hF1 xq iα F α
  go_upto_region 11 with fail
  refine region_gh (by kernel_rfl) (by kernel_rfl) ?_
  refine lex_seg (gl := []) 4 (by kernel_rfl) ?_
  intro α iα F hF1 hF2
  have hq := GL.seg hF1 hL0
  simp only [fcC, cellsC, and_true, Nat.zero_add, Nat.reduceAdd] at hq
  simp only [List.take_succ_cons, List.take_zero, List.drop_succ_cons, List.drop_zero, List.take_nil, List.drop_nil]
  repeat (go_big_quiet_step (first | fail | (go_at_call 16; with_reducible exact seg_call hF2 HNf.out _) | (go_at_call 32; with_reducible exact seg_call hF2 HMl.out _)))
  refine wpQuiet_nil ?_
  clear hq hF1 hF2 iα F α
  refine lex_new [.int .u64 0, .string ⟨#[]⟩, .bool false] 15 28 28 rfl rfl (of_decide_eq_true (by kernel_rfl)) (by kernel_rfl) rfl new_int ?_
  simp only [Act.put, List.setIfInBounds_toArray, List.set_cons_succ, List.set_cons_zero]
  refine lex_put [.int .u64 ((zl t : Nat) : Int), .string (zh t), .bool (zs t)] [.int .u64 0, .string ⟨#[]⟩, .bool false] 15 28 (.tmp 98) rfl (by kernel_rfl) (by simp [toG, upd]) rfl (fun w k h => put_int _ _ _ _ _ _ w k h) ?_
  simp only [Act.put]
  refine lexG_nil ?_
  intro κ x11 hS
  replace hL0 := hL0.ghs hS [(15, [.int .u64 ((zl t : Nat) : Int), .string (zh t), .bool (zs t)])] (by simp) (by intro p hp; simp only [List.mem_cons, List.not_mem_nil, or_false] at hp; rcases hp with rfl <;> exact ⟨_, by simp only [toG, upd]; rfl⟩)
  simp only [List.map_cons, List.map_nil, List.cons_append, List.nil_append] at hL0
  simp only [over_toG, over_nil, Act.put, List.setIfInBounds_toArray, List.set_cons_succ, List.set_cons_zero]
  clear hS
  generalize κ 15 = k11_15 at *
  have hN0 := cells_of _ 0 [] rfl (hL0.get _ _ List.mem_cons_self)
  simp only [cellsF, and_true, Nat.zero_add, Nat.reduceAdd] at hN0
  have hN1 := cells_of _ 0 [] rfl (hL0.get _ _ (List.mem_cons_of_mem _ (List.mem_cons_of_mem _ (List.mem_cons_of_mem _ (List.mem_cons_of_mem _ List.mem_cons_self)))))
  simp only [cellsF, and_true, Nat.zero_add, Nat.reduceAdd] at hN1
  have hN2 := cells_of _ 0 [] rfl (hL0.get _ _ (List.mem_cons_of_mem _ (List.mem_cons_of_mem _ (List.mem_cons_of_mem _ (List.mem_cons_of_mem _ (List.mem_cons_of_mem _ (List.mem_cons_of_mem _ (List.mem_cons_of_mem _ List.mem_cons_self))))))))
  simp only [cellsF, and_true, Nat.zero_add, Nat.reduceAdd] at hN2
  go_wp2_with fail
  clear hN0 hN1 hN2
  with_reducible refine Calls.mono (HFt.out _) ?_
  rintro e x12 ⟨rfl, hb⟩
  replace hL0 := hL0.call hb
  clear hb
  have hN0 := cells_of _ 0 [] rfl (hL0.get _ _ List.mem_cons_self)
  simp only [cellsF, and_true, Nat.zero_add, Nat.reduceAdd] at hN0
  have hN1 := cells_of _ 0 [] rfl (hL0.get _ _ (List.mem_cons_of_mem _ (List.mem_cons_of_mem _ (List.mem_cons_of_mem _ (List.mem_cons_of_mem _ (List.mem_cons_of_mem _ (List.mem_cons_of_mem _ (List.mem_cons_of_mem _ List.mem_cons_self))))))))
  simp only [cellsF, and_true, Nat.zero_add, Nat.reduceAdd] at hN1
  go_wp2_with fail
  clear hN0 hN1
  with_reducible refine Calls.mono (HBt.out _) ?_
  rintro e x13 ⟨rfl, hb⟩
  replace hL0 := hL0.call hb
  clear hb
  replace hL0 := (hL0.new rfl [.int .u64 ((zl h.num : Nat) : Int), .string (zh h.num), .bool (zs h.num), .int .u64 ((lo (fe h) : Nat) : Int), .string (hs (fe h))] 30)
  generalize hweq : (x13.alloc (.cells #[.int .u64 ((zl h.num : Nat) : Int), .string (zh h.num), .bool (zs h.num), .int .u64 ((lo (fe h) : Nat) : Int), .string (hs (fe h))] 30)) = x14 at hL0
  have hN0 := cells_of _ 0 [] rfl (hL0.get _ _ (List.mem_cons_of_mem _ (List.mem_cons_of_mem _ (List.mem_cons_of_mem _ (List.mem_cons_of_mem _ (List.mem_cons_of_mem _ List.mem_cons_self))))))
  simp only [cellsF, and_true, Nat.zero_add, Nat.reduceAdd] at hN0
  have hN1 := cells_of _ 0 [] rfl (hL0.get _ _ (List.mem_cons_of_mem _ (List.mem_cons_of_mem _ (List.mem_cons_of_mem _ (List.mem_cons_of_mem _ (List.mem_cons_of_mem _ (List.mem_cons_of_mem _ (List.mem_cons_of_mem _ (List.mem_cons_of_mem _ List.mem_cons_self)))))))))
  simp only [cellsF, and_true, Nat.zero_add, Nat.reduceAdd] at hN1
  go_wp2_with fail
  clear hN0 hN1
  with_reducible refine Calls.mono (HRf.out _) ?_
  rintro e x15 ⟨rfl, hb⟩
  replace hL0 := hL0.call hb
  clear hb hweq
  have hN0 := cells_of _ 0 [] rfl (hL0.get _ _ List.mem_cons_self)
  simp only [cellsF, and_true, Nat.zero_add, Nat.reduceAdd] at hN0
  have hN1 := cells_of _ 0 [] rfl (hL0.get _ _ (List.mem_cons_of_mem _ List.mem_cons_self))
  simp only [cellsF, and_true, Nat.zero_add, Nat.reduceAdd] at hN1
  have hN2 := cells_of _ 0 [] rfl (hL0.get _ _ (List.mem_cons_of_mem _ (List.mem_cons_of_mem _ (List.mem_cons_of_mem _ (List.mem_cons_of_mem _ (List.mem_cons_of_mem _ List.mem_cons_self))))))
  simp only [cellsF, and_true, Nat.zero_add, Nat.reduceAdd] at hN2
  have hN3 := cells_of _ 0 [] rfl (hL0.get _ _ (List.mem_cons_of_mem _ (List.mem_cons_of_mem _ (List.mem_cons_of_mem _ (List.mem_cons_of_mem _ (List.mem_cons_of_mem _ (List.mem_cons_of_mem _ (List.mem_cons_of_mem _ (List.mem_cons_of_mem _ List.mem_cons_self)))))))))
  simp only [cellsF, and_true, Nat.zero_add, Nat.reduceAdd] at hN3
  go_wp2_with fail
  clear hN0 hN1 hN2 hN3
  with_reducible refine Calls.mono (HFh.out _) ?_
  rintro e x16 ⟨rfl, hb⟩
  replace hL0 := hL0.call hb
  clear hb
  have hN0 := cells_of _ 0 [] rfl (hL0.get _ _ List.mem_cons_self)
  simp only [cellsF, and_true, Nat.zero_add, Nat.reduceAdd] at hN0
  have hN1 := cells_of _ 0 [] rfl (hL0.get _ _ (List.mem_cons_of_mem _ (List.mem_cons_of_mem _ (List.mem_cons_of_mem _ (List.mem_cons_of_mem _ (List.mem_cons_of_mem _ (List.mem_cons_of_mem _ (List.mem_cons_of_mem _ (List.mem_cons_of_mem _ List.mem_cons_self)))))))))
  simp only [cellsF, and_true, Nat.zero_add, Nat.reduceAdd] at hN1
  go_wp2_with fail
  clear hN0 hN1
  with_reducible refine Calls.mono (HRh.out _) ?_
  rintro e x17 ⟨rfl, hb⟩
  replace hL0 := hL0.call hb
  clear hb
  go_wp2_with fail
  with_reducible refine Calls.mono (HW.out _ (hKT.out.at hL0.bl kKT)) ?_
  rintro e x18 ⟨rfl, hb⟩
  replace hL0 := hL0.call hb
  clear hb
  go_wp2_with fail
  exact bodyPost_ret (v := .bool true) (by simp [results, Tryz.results6, go_sem]) rfl ⟨rfl, hL0.bl⟩)
set_option maxHeartbeats 4000000 in
set_option maxRecDepth 100000 in
theorem pth_n_g (sx sa : Bool) (ax qx am aa : Option Addr) (nx cx mx dx nm cm na ca : Nat) (b y z g u v o : Int) (n d : Nat) (f : Rat) (Km : World → Prop) (hKm : Keeps Km) (HM : ∀ w, Km w → Calls Tryz.prog 27 #[.slice am nm cm] w fun xe w' => xe = .returned (natV n) ∧ Below w.heap.size w w') (Ka : World → Prop) (hKa : Keeps Ka) (HZ : ∀ w, Ka w → Calls Tryz.prog 28 #[.agg #[.bool sa, .slice aa na ca]] w fun xe w' => xe = .returned (intV b) ∧ Below w.heap.size w w') (HB : ∀ w, Calls Tryz.prog 10 #[intV b, natV n] w fun xe w' => xe = .returned (.tuple #[.agg #[.int .u64 0, .string ⟨#[]⟩, .bool false, .int .u64 0, .string ⟨#[]⟩], .bool false]) ∧ Below w.heap.size w w') (Kx : World → Prop) (hKx : Keeps Kx) (GX : ∀ w, Kx w → Calls Tryz.prog 29 #[.agg #[.bool sx, .slice ax nx cx, .slice qx mx dx]] w fun xe w' => xe = .returned (fracV f) ∧ Below w.heap.size w w') (HY : ∀ w, Calls Tryz.prog 31 #[.bool false, natV n] w fun xe w' => xe = .returned (intV y) ∧ Below w.heap.size w w') (HD : ∀ w, Calls Tryz.prog 18 #[fracV f] w fun xe w' => xe = .returned (natV d) ∧ Below w.heap.size w w') (HE : ∀ w, Calls Tryz.prog 31 #[.bool false, natV d] w fun xe w' => xe = .returned (intV z) ∧ Below w.heap.size w w') (HG : ∀ w, Calls Tryz.prog 30 #[intV y, intV z] w fun xe w' => xe = .returned (.tuple #[intV g, intV u, intV v]) ∧ Below w.heap.size w w') (HO : ∀ w, Calls Tryz.prog 11 #[.int .i64 1] w fun xe w' => xe = .returned (intV o) ∧ Below w.heap.size w w') (KT : World → Prop) (hKT : Keeps KT) (HW : ∀ w, KT w → Calls Tryz.prog 15 #[] w fun xe w' => xe = .returned (.bool true) ∧ Below w.heap.size w w') (l0 : decide ((4 : Int) < ((nx : Nat) : Int)) = false) (k0 : decide (4 < nx) = false) (l1 : decide ((4 : Int) < ((mx : Nat) : Int)) = false) (k1 : decide (4 < mx) = false) (l2 : decide ((12 : Int) < ((nm : Nat) : Int)) = false) (k2 : decide (12 < nm) = false) (l3 : decide ((12 : Int) < ((na : Nat) : Int)) = false) (k3 : decide (12 < na) = false) (hg : g ≠ o) (w : World) (kKm : Km w) (kKa : Ka w) (kKx : Kx w) (kKT : KT w) :
  Calls Tryz.prog 6 #[.agg #[.bool sx, .slice ax nx cx, .slice qx mx dx], .slice am nm cm, .agg #[.bool sa, .slice aa na ca]] w fun xe w' => xe = .returned (.bool true) ∧ Below w.heap.size w w' := by
 have hL0 : GL w w [] := GL.start w
 replace hKm := Lib.hid hKm
 replace HM := Lib.hid HM
 replace hKa := Lib.hid hKa
 replace HZ := Lib.hid HZ
 replace HB := Lib.hid HB
 replace hKx := Lib.hid hKx
 replace GX := Lib.hid GX
 replace HY := Lib.hid HY
 replace HD := Lib.hid HD
 replace HE := Lib.hid HE
 replace HG := Lib.hid HG
 replace HO := Lib.hid HO
 replace hKT := Lib.hid hKT
 replace HW := Lib.hid HW
 have hz := ne_int hg
 clear hg
 rcases hz with e0 | ⟨e0, e1⟩ | ⟨e0, e1, e2⟩
 all_goals (
  replace hL0 := ((hL0.new rfl [.bool sx, .slice ax nx cx, .slice qx mx dx] 70).new (K := w.heap.size + 1) (szA _ _) [.bool sa, .slice aa na ca] 68)
  generalize hweq : ((w.alloc (.cells #[.bool sx, .slice ax nx cx, .slice qx mx dx] 70)).alloc (.cells #[.bool sa, .slice aa na ca] 68)) = x1 at hL0
  go_enter Tryz.func6, Tryz.ntmps6
  have hN0 := cells_of _ 0 [] rfl (hL0.get _ _ List.mem_cons_self)
  simp only [cellsF, and_true, Nat.zero_add, Nat.reduceAdd] at hN0
  have hN1 := cells_of _ 0 [] rfl (hL0.get _ _ (List.mem_cons_of_mem _ List.mem_cons_self))
  simp only [cellsF, and_true, Nat.zero_add, Nat.reduceAdd] at hN1
  go_upto_region 3 with fail
  have kKm1 := hKm.out.at hL0.bl kKm
  have kKa1 := hKa.out.at hL0.bl kKa
  clear hN0 hN1
  clear hweq
  refine region_gh (by kernel_rfl) (by kernel_rfl) ?_
  refine lex_seg (gl := []) 4 (by kernel_rfl) ?_
  intro α iα F hF1 hF2
  have hq := GL.seg hF1 hL0
  simp only [fcC, cellsC, and_true, Nat.zero_add, Nat.reduceAdd] at hq
  simp only [List.take_succ_cons, List.take_zero, List.drop_succ_cons, List.drop_zero, List.take_nil, List.drop_nil]
  repeat (go_big_quiet_step (first | fail | (go_at_call 27; with_reducible exact seg_callK hKm.out hF1 hF2 kKm1 HM.out _) | (go_at_call 28; with_reducible exact seg_callK hKa.out hF1 hF2 kKa1 HZ.out _)))
  refine wpQuiet_nil ?_
  clear hq hF1 hF2 iα F α
  refine lex_new [.int .u64 0, .string ⟨#[]⟩] 7 26 26 rfl rfl (of_decide_eq_true (by kernel_rfl)) (by kernel_rfl) rfl new_natc ?_
  simp only [Act.put, List.setIfInBounds_toArray, List.set_cons_succ, List.set_cons_zero]
  refine lex_new [.int .u64 0, .string ⟨#[]⟩, .bool false] 8 28 28 rfl rfl (of_decide_eq_true (by kernel_rfl)) (by kernel_rfl) rfl new_int ?_
  simp only [Act.put, List.setIfInBounds_toArray, List.set_cons_succ, List.set_cons_zero]
  refine lex_put [.int .u64 ((lo n : Nat) : Int), .string (hs n)] [.int .u64 0, .string ⟨#[]⟩] 7 26 (.tmp 42) rfl (by kernel_rfl) (by simp [toG, upd]) rfl (fun w k h => put_natc _ _ _ _ w k h) ?_
  simp only [Act.put]
  refine lex_put [.int .u64 ((zl b : Nat) : Int), .string (zh b), .bool (zs b)] [.int .u64 0, .string ⟨#[]⟩, .bool false] 8 28 (.tmp 44) rfl (by kernel_rfl) (by simp [toG, upd]) rfl (fun w k h => put_int _ _ _ _ _ _ w k h) ?_
  simp only [Act.put]
  refine lexG_nil ?_
  intro κ x2 hS
  replace hL0 := hL0.ghs hS [(8, [.int .u64 ((zl b : Nat) : Int), .string (zh b), .bool (zs b)]), (7, [.int .u64 ((lo n : Nat) : Int), .string (hs n)])] (by simp) (by intro p hp; simp only [List.mem_cons, List.not_mem_nil, or_false] at hp; rcases hp with rfl | rfl <;> exact ⟨_, by simp only [toG, upd]; rfl⟩)
  simp only [List.map_cons, List.map_nil, List.cons_append, List.nil_append] at hL0
  simp only [over_toG, over_nil, Act.put, List.setIfInBounds_toArray, List.set_cons_succ, List.set_cons_zero]
  clear hS
  generalize κ 8 = k2_8 at *
  generalize κ 7 = k2_7 at *
  clear kKm1 kKa1
  have hN0 := cells_of _ 0 [] rfl (hL0.get _ _ List.mem_cons_self)
  simp only [cellsF, and_true, Nat.zero_add, Nat.reduceAdd] at hN0
  have hN1 := cells_of _ 0 [] rfl (hL0.get _ _ (List.mem_cons_of_mem _ List.mem_cons_self))
  simp only [cellsF, and_true, Nat.zero_add, Nat.reduceAdd] at hN1
  go_wp2_with fail
  clear hN0 hN1
  with_reducible refine Calls.mono (HB.out _) ?_
  rintro e x3 ⟨rfl, hb⟩
  replace hL0 := hL0.call hb
  clear hb
  replace hL0 := (hL0.new rfl [.int .u64 0, .string ⟨#[]⟩, .bool false, .int .u64 0, .string ⟨#[]⟩] 30)
  generalize hweq : (x3.alloc (.cells #[.int .u64 0, .string ⟨#[]⟩, .bool false, .int .u64 0, .string ⟨#[]⟩] 30)) = x4 at hL0
  have hA := hL0.fc
  simp only [fcG, cellsF, neK, and_true, ne_eq, Nat.zero_add, Nat.reduceAdd] at hA
  have hP := hL0.put 0 (x3.heap.size) _ rfl [.int .u64 0, .string ⟨#[]⟩, .bool false, .int .u64 0, .string ⟨#[]⟩] rfl
  simp only [setAll, List.set_cons_zero, List.set_cons_succ] at hP
  generalize hput1 : (((((x4.setCell ⟨x3.heap.size, 0, none⟩ (.int .u64 0)).setCell ⟨x3.heap.size, 1, none⟩ (.string ⟨#[]⟩)).setCell ⟨x3.heap.size, 2, none⟩ (.bool false)).setCell ⟨x3.heap.size, 3, none⟩ (.int .u64 0)).setCell ⟨x3.heap.size, 4, none⟩ (.string ⟨#[]⟩)) = x5 at hP
  have hB1 := hP.fc
  simp only [fcG, cellsF, neK, and_true, ne_eq, Nat.zero_add, Nat.reduceAdd] at hB1
  replace hL0 := hP
  go_wp2_with fail
  clear hA
  with_reducible refine Calls.mono (GX.out _ (hKx.out.at hL0.bl kKx)) ?_
  rintro e x6 ⟨rfl, hb⟩
  replace hL0 := hL0.call hb
  clear hb hweq hput1 hB1
  replace hL0 := (hL0.new rfl [.int .u64 ((zl f.num : Nat) : Int), .string (zh f.num), .bool (zs f.num), .int .u64 ((lo (fe f) : Nat) : Int), .string (hs (fe f))] 30)
  generalize hweq : (x6.alloc (.cells #[.int .u64 ((zl f.num : Nat) : Int), .string (zh f.num), .bool (zs f.num), .int .u64 ((lo (fe f) : Nat) : Int), .string (hs (fe f))] 30)) = x7 at hL0
  go_upto_region 8 with fail
  clear hweq
  refine region_gh (by kernel_rfl) (by kernel_rfl) ?_
  refine lex_seg (gl := []) 10 (by kernel_rfl) ?_
  intro α iα F hF1 hF2
  have hq := GL.seg hF1 hL0
  simp only [fcC, cellsC, and_true, Nat.zero_add, Nat.reduceAdd] at hq
  simp only [List.take_succ_cons, List.take_zero, List.drop_succ_cons, List.drop_zero, List.take_nil, List.drop_nil]
  repeat (go_big_quiet_step (first | fail | (go_at_call 31; with_reducible exact seg_call hF2 HY.out _) | (go_at_call 18; with_reducible exact seg_call hF2 HD.out _) | (go_at_call 31; with_reducible exact seg_call hF2 HE.out _) | (go_at_call 30; with_reducible exact seg_call hF2 HG.out _)))
  refine wpQuiet_nil ?_
  clear hq hF1 hF2 iα F α
  refine lex_new [.int .u64 0, .string ⟨#[]⟩, .bool false] 12 28 28 rfl rfl (of_decide_eq_true (by kernel_rfl)) (by kernel_rfl) rfl new_int ?_
  simp only [Act.put, List.setIfInBounds_toArray, List.set_cons_succ, List.set_cons_zero]
  refine lex_new [.int .u64 0, .string ⟨#[]⟩, .bool false] 13 28 28 rfl rfl (of_decide_eq_true (by kernel_rfl)) (by kernel_rfl) rfl new_int ?_
  simp only [Act.put, List.setIfInBounds_toArray, List.set_cons_succ, List.set_cons_zero]
  refine lex_new [.int .u64 0, .string ⟨#[]⟩, .bool false] 14 28 28 rfl rfl (of_decide_eq_true (by kernel_rfl)) (by kernel_rfl) rfl new_int ?_
  simp only [Act.put, List.setIfInBounds_toArray, List.set_cons_succ, List.set_cons_zero]
  refine lex_put [.int .u64 ((zl g : Nat) : Int), .string (zh g), .bool (zs g)] [.int .u64 0, .string ⟨#[]⟩, .bool false] 12 28 (.tmp 83) rfl (by kernel_rfl) (by simp [toG, upd]) rfl (fun w k h => put_int _ _ _ _ _ _ w k h) ?_
  simp only [Act.put]
  refine lex_put [.int .u64 ((zl u : Nat) : Int), .string (zh u), .bool (zs u)] [.int .u64 0, .string ⟨#[]⟩, .bool false] 13 28 (.tmp 84) rfl (by kernel_rfl) (by simp [toG, upd]) rfl (fun w k h => put_int _ _ _ _ _ _ w k h) ?_
  simp only [Act.put]
  refine lex_put [.int .u64 ((zl v : Nat) : Int), .string (zh v), .bool (zs v)] [.int .u64 0, .string ⟨#[]⟩, .bool false] 14 28 (.tmp 85) rfl (by kernel_rfl) (by simp [toG, upd]) rfl (fun w k h => put_int _ _ _ _ _ _ w k h) ?_
  simp only [Act.put]
  refine lexG_nil ?_
  intro κ x8 hS
  replace hL0 := hL0.ghs hS [(14, [.int .u64 ((zl v : Nat) : Int), .string (zh v), .bool (zs v)]), (13, [.int .u64 ((zl u : Nat) : Int), .string (zh u), .bool (zs u)]), (12, [.int .u64 ((zl g : Nat) : Int), .string (zh g), .bool (zs g)])] (by simp) (by intro p hp; simp only [List.mem_cons, List.not_mem_nil, or_false] at hp; rcases hp with rfl | rfl | rfl <;> exact ⟨_, by simp only [toG, upd]; rfl⟩)
  simp only [List.map_cons, List.map_nil, List.cons_append, List.nil_append] at hL0
  simp only [over_toG, over_nil, Act.put, List.setIfInBounds_toArray, List.set_cons_succ, List.set_cons_zero]
  clear hS
  generalize κ 14 = k8_14 at *
  generalize κ 13 = k8_13 at *
  generalize κ 12 = k8_12 at *
  go_upto_region 9 with fail
  obtain ⟨α, iα, F, hF1, hF2⟩ := cls x8
  have hq0 := cls_box hF1 hL0 _ _ (List.mem_cons_of_mem _ (List.mem_cons_of_mem _ List.mem_cons_self))
  simp only [cellsC, and_true, Nat.zero_add, Nat.reduceAdd] at hq0
  refine region_qs 8 (C := fun w' => ∃ x, w' = F x) (by kernel_rfl) (by kernel_rfl) (cls_drew hF2) ?_
  simp only [List.take_succ_cons, List.take_zero, List.drop_succ_cons, List.drop_zero, List.take_nil, List.drop_nil]
  repeat (go_big_quiet_step (first | fail | (go_at_call 11; with_reducible exact cls_call hF1 hF2 HO.out _)))
  refine wpQuiet_nil ?_
  rintro wq ⟨xq, rfl⟩
  replace hL0 := hL0.call (hF1 xq)
  clear  hq0 hF2
  generalize F xq = x9 at hL0 ⊢
  clear hF1 xq iα F α
  go_wp2_with fail
  with_reducible refine Calls.mono (HW.out _ (hKT.out.at hL0.bl kKT)) ?_
  rintro e x10 ⟨rfl, hb⟩
  replace hL0 := hL0.call hb
  clear hb
  go_wp2_with fail
  exact bodyPost_ret (v := .bool true) (by simp [results, Tryz.results6, go_sem]) rfl ⟨rfl, hL0.bl⟩)
set_option maxHeartbeats 4000000 in
set_option maxRecDepth 100000 in
theorem pth_n_z (sx sa : Bool) (ax qx am aa : Option Addr) (nx cx mx dx nm cm na ca : Nat) (b y z g u v : Int) (n d : Nat) (f : Rat) (Km : World → Prop) (hKm : Keeps Km) (HM : ∀ w, Km w → Calls Tryz.prog 27 #[.slice am nm cm] w fun xe w' => xe = .returned (natV n) ∧ Below w.heap.size w w') (Ka : World → Prop) (hKa : Keeps Ka) (HZ : ∀ w, Ka w → Calls Tryz.prog 28 #[.agg #[.bool sa, .slice aa na ca]] w fun xe w' => xe = .returned (intV b) ∧ Below w.heap.size w w') (HB : ∀ w, Calls Tryz.prog 10 #[intV b, natV n] w fun xe w' => xe = .returned (.tuple #[.agg #[.int .u64 0, .string ⟨#[]⟩, .bool false, .int .u64 0, .string ⟨#[]⟩], .bool false]) ∧ Below w.heap.size w w') (Kx : World → Prop) (hKx : Keeps Kx) (GX : ∀ w, Kx w → Calls Tryz.prog 29 #[.agg #[.bool sx, .slice ax nx cx, .slice qx mx dx]] w fun xe w' => xe = .returned (fracV f) ∧ Below w.heap.size w w') (HY : ∀ w, Calls Tryz.prog 31 #[.bool false, natV n] w fun xe w' => xe = .returned (intV y) ∧ Below w.heap.size w w') (HD : ∀ w, Calls Tryz.prog 18 #[fracV f] w fun xe w' => xe = .returned (natV d) ∧ Below w.heap.size w w') (HE : ∀ w, Calls Tryz.prog 31 #[.bool false, natV d] w fun xe w' => xe = .returned (intV z) ∧ Below w.heap.size w w') (HG : ∀ w, Calls Tryz.prog 30 #[intV y, intV z] w fun xe w' => xe = .returned (.tuple #[intV g, intV u, intV v]) ∧ Below w.heap.size w w') (HO : ∀ w, Calls Tryz.prog 11 #[.int .i64 1] w fun xe w' => xe = .returned (intV g) ∧ Below w.heap.size w w') (KT : World → Prop) (hKT : Keeps KT) (HW : ∀ w, KT w → Calls Tryz.prog 15 #[] w fun xe w' => xe = .returned (.bool true) ∧ Below w.heap.size w w') (l0 : decide ((4 : Int) < ((nx : Nat) : Int)) = false) (k0 : decide (4 < nx) = false) (l1 : decide ((4 : Int) < ((mx : Nat) : Int)) = false) (k1 : decide (4 < mx) = false) (l2 : decide ((12 : Int) < ((nm : Nat) : Int)) = false) (k2 : decide (12 < nm) = false) (l3 : decide ((12 : Int) < ((na : Nat) : Int)) = false) (k3 : decide (12 < na) = false) (e0 : (((lo n : Nat) : Int) == 0) = true) (e1 : ((hs n).toList == []) = true) (w : World) (kKm : Km w) (kKa : Ka w) (kKx : Kx w) (kKT : KT w) :
  Calls Tryz.prog 6 #[.agg #[.bool sx, .slice ax nx cx, .slice qx mx dx], .slice am nm cm, .agg #[.bool sa, .slice aa na ca]] w fun xe w' => xe = .returned (.bool true) ∧ Below w.heap.size w w' := by
 have hL0 : GL w w [] := GL.start w
 replace hKm := Lib.hid hKm
 replace HM := Lib.hid HM
 replace hKa := Lib.hid hKa
 replace HZ := Lib.hid HZ
 replace HB := Lib.hid HB
 replace hKx := Lib.hid hKx
 replace GX := Lib.hid GX
 replace HY := Lib.hid HY
 replace HD := Lib.hid HD
 replace HE := Lib.hid HE
 replace HG := Lib.hid HG
 replace HO := Lib.hid HO
 replace hKT := Lib.hid hKT
 replace HW := Lib.hid HW
 replace hL0 := ((hL0.new rfl [.bool sx, .slice ax nx cx, .slice qx mx dx] 70).new (K := w.heap.size + 1) (szA _ _) [.bool sa, .slice aa na ca] 68)
 generalize hweq : ((w.alloc (.cells #[.bool sx, .slice ax nx cx, .slice qx mx dx] 70)).alloc (.cells #[.bool sa, .slice aa na ca] 68)) = x1 at hL0
 go_enter Tryz.func6, Tryz.ntmps6
 have hN0 := cells_of _ 0 [] rfl (hL0.get _ _ List.mem_cons_self)
 simp only [cellsF, and_true, Nat.zero_add, Nat.reduceAdd] at hN0
 have hN1 := cells_of _ 0 [] rfl (hL0.get _ _ (List.mem_cons_of_mem _ List.mem_cons_self))
 simp only [cellsF, and_true, Nat.zero_add, Nat.reduceAdd] at hN1
 go_upto_region 3 with fail
 have kKm1 := hKm.out.at hL0.bl kKm
 have kKa1 := hKa.out.at hL0.bl kKa
 clear hN0 hN1
 clear hweq
 refine region_gh (by kernel_rfl) (by kernel_rfl) ?_
 refine lex_seg (gl := []) 4 (by kernel_rfl) ?_
 intro α iα F hF1 hF2
 have hq := GL.seg hF1 hL0
 simp only [fcC, cellsC, and_true, Nat.zero_add, Nat.reduceAdd] at hq
 simp only [List.take_succ_cons, List.take_zero, List.drop_succ_cons, List.drop_zero, List.take_nil, List.drop_nil]
 repeat (go_big_quiet_step (first | fail | (go_at_call 27; with_reducible exact seg_callK hKm.out hF1 hF2 kKm1 HM.out _) | (go_at_call 28; with_reducible exact seg_callK hKa.out hF1 hF2 kKa1 HZ.out _)))
 refine wpQuiet_nil ?_
 clear hq hF1 hF2 iα F α
 refine lex_new [.int .u64 0, .string ⟨#[]⟩] 7 26 26 rfl rfl (of_decide_eq_true (by kernel_rfl)) (by kernel_rfl) rfl new_natc ?_
 simp only [Act.put, List.setIfInBounds_toArray, List.set_cons_succ, List.set_cons_zero]
 refine lex_new [.int .u64 0, .string ⟨#[]⟩, .bool false] 8 28 28 rfl rfl (of_decide_eq_true (by kernel_rfl)) (by kernel_rfl) rfl new_int ?_
 simp only [Act.put, List.setIfInBounds_toArray, List.set_cons_succ, List.set_cons_zero]
 refine lex_put [.int .u64 ((lo n : Nat) : Int), .string (hs n)] [.int .u64 0, .string ⟨#[]⟩] 7 26 (.tmp 42) rfl (by kernel_rfl) (by simp [toG, upd]) rfl (fun w k h => put_natc _ _ _ _ w k h) ?_
 simp only [Act.put]
 refine lex_put [.int .u64 ((zl b : Nat) : Int), .string (zh b), .bool (zs b)] [.int .u64 0, .string ⟨#[]⟩, .bool false] 8 28 (.tmp 44) rfl (by kernel_rfl) (by simp [toG, upd]) rfl (fun w k h => put_int _ _ _ _ _ _ w k h) ?_
 simp only [Act.put]
 refine lexG_nil ?_
 intro κ x2 hS
 replace hL0 := hL0.ghs hS [(8, [.int .u64 ((zl b : Nat) : Int), .string (zh b), .bool (zs b)]), (7, [.int .u64 ((lo n : Nat) : Int), .string (hs n)])] (by simp) (by intro p hp; simp only [List.mem_cons, List.not_mem_nil, or_false] at hp; rcases hp with rfl | rfl <;> exact ⟨_, by simp only [toG, upd]; rfl⟩)
 simp only [List.map_cons, List.map_nil, List.cons_append, List.nil_append] at hL0
 simp only [over_toG, over_nil, Act.put, List.setIfInBounds_toArray, List.set_cons_succ, List.set_cons_zero]
 clear hS
 generalize κ 8 = k2_8 at *
 generalize κ 7 = k2_7 at *
 clear kKm1 kKa1
 have hN0 := cells_of _ 0 [] rfl (hL0.get _ _ List.mem_cons_self)
 simp only [cellsF, and_true, Nat.zero_add, Nat.reduceAdd] at hN0
 have hN1 := cells_of _ 0 [] rfl (hL0.get _ _ (List.mem_cons_of_mem _ List.mem_cons_self))
 simp only [cellsF, and_true, Nat.zero_add, Nat.reduceAdd] at hN1
 go_wp2_with fail
 clear hN0 hN1
 with_reducible refine Calls.mono (HB.out _) ?_
 rintro e x3 ⟨rfl, hb⟩
 replace hL0 := hL0.call hb
 clear hb
 replace hL0 := (hL0.new rfl [.int .u64 0, .string ⟨#[]⟩, .bool false, .int .u64 0, .string ⟨#[]⟩] 30)
 generalize hweq : (x3.alloc (.cells #[.int .u64 0, .string ⟨#[]⟩, .bool false, .int .u64 0, .string ⟨#[]⟩] 30)) = x4 at hL0
 have hA := hL0.fc
 simp only [fcG, cellsF, neK, and_true, ne_eq, Nat.zero_add, Nat.reduceAdd] at hA
 have hP := hL0.put 0 (x3.heap.size) _ rfl [.int .u64 0, .string ⟨#[]⟩, .bool false, .int .u64 0, .string ⟨#[]⟩] rfl
 simp only [setAll, List.set_cons_zero, List.set_cons_succ] at hP
 generalize hput1 : (((((x4.setCell ⟨x3.heap.size, 0, none⟩ (.int .u64 0)).setCell ⟨x3.heap.size, 1, none⟩ (.string ⟨#[]⟩)).setCell ⟨x3.heap.size, 2, none⟩ (.bool false)).setCell ⟨x3.heap.size, 3, none⟩ (.int .u64 0)).setCell ⟨x3.heap.size, 4, none⟩ (.string ⟨#[]⟩)) = x5 at hP
 have hB1 := hP.fc
 simp only [fcG, cellsF, neK, and_true, ne_eq, Nat.zero_add, Nat.reduceAdd] at hB1
 replace hL0 := hP
 go_wp2_with fail
 clear hA
 with_reducible refine Calls.mono (GX.out _ (hKx.out.at hL0.bl kKx)) ?_
 rintro e x6 ⟨rfl, hb⟩
 replace hL0 := hL0.call hb
 clear hb hweq hput1 hB1
 replace hL0 := (hL0.new rfl [.int .u64 ((zl f.num : Nat) : Int), .string (zh f.num), .bool (zs f.num), .int .u64 ((lo (fe f) : Nat) : Int), .string (hs (fe f))] 30)
 generalize hweq : (x6.alloc (.cells #[.int .u64 ((zl f.num : Nat) : Int), .string (zh f.num), .bool (zs f.num), .int .u64 ((lo (fe f) : Nat) : Int), .string (hs (fe f))] 30)) = x7 at hL0
 go_upto_region 8 with fail
 clear hweq
 refine region_gh (by kernel_rfl) (by kernel_rfl) ?_
 refine lex_seg (gl := []) 10 (by kernel_rfl) ?_
 intro α iα F hF1 hF2
 have hq := GL.seg hF1 hL0
 simp only [fcC, cellsC, and_true, Nat.zero_add, Nat.reduceAdd] at hq
 simp only [List.take_succ_cons, List.take_zero, List.drop_succ_cons, List.drop_zero, List.take_nil, List.drop_nil]
 repeat (go_big_quiet_step (first | fail | (go_at_call 31; with_reducible exact seg_call hF2 HY.out _) | (go_at_call 18; with_reducible exact seg_call hF2 HD.out _) | (go_at_call 31; with_reducible exact seg_call hF2 HE.out _) | (go_at_call 30; with_reducible exact seg_call hF2 HG.out _)))
 refine wpQuiet_nil ?_
 clear hq hF1 hF2 iα F α
 refine lex_new [.int .u64 0, .string ⟨#[]⟩, .bool false] 12 28 28 rfl rfl (of_decide_eq_true (by kernel_rfl)) (by kernel_rfl) rfl new_int ?_
 simp only [Act.put, List.setIfInBounds_toArray, List.set_cons_succ, List.set_cons_zero]
 refine lex_new [.int .u64 0, .string ⟨#[]⟩, .bool false] 13 28 28 rfl rfl (of_decide_eq_true (by kernel_rfl)) (by kernel_rfl) rfl new_int ?_
 simp only [Act.put, List.setIfInBounds_toArray, List.set_cons_succ, List.set_cons_zero]
 refine lex_new [.int .u64 0, .string ⟨#[]⟩, .bool false] 14 28 28 rfl rfl (of_decide_eq_true (by kernel_rfl)) (by kernel_rfl) rfl new_int ?_
 simp only [Act.put, List.setIfInBounds_toArray, List.set_cons_succ, List.set_cons_zero]
 refine lex_put [.int .u64 ((zl g : Nat) : Int), .string (zh g), .bool (zs g)] [.int .u64 0, .string ⟨#[]⟩, .bool false] 12 28 (.tmp 83) rfl (by kernel_rfl) (by simp [toG, upd]) rfl (fun w k h => put_int _ _ _ _ _ _ w k h) ?_
 simp only [Act.put]
 refine lex_put [.int .u64 ((zl u : Nat) : Int), .string (zh u), .bool (zs u)] [.int .u64 0, .string ⟨#[]⟩, .bool false] 13 28 (.tmp 84) rfl (by kernel_rfl) (by simp [toG, upd]) rfl (fun w k h => put_int _ _ _ _ _ _ w k h) ?_
 simp only [Act.put]
 refine lex_put [.int .u64 ((zl v : Nat) : Int), .string (zh v), .bool (zs v)] [.int .u64 0, .string ⟨#[]⟩, .bool false] 14 28 (.tmp 85) rfl (by kernel_rfl) (by simp [toG, upd]) rfl (fun w k h => put_int _ _ _ _ _ _ w k h) ?_
 simp only [Act.put]
 refine lexG_nil ?_
 intro κ x8 hS
 replace hL0 := hL0.ghs hS [(14, [.int .u64 ((zl v : Nat) : Int), .string (zh v), .bool (zs v)]), (13, [.int .u64 ((zl u : Nat) : Int), .string (zh u), .bool (zs u)]), (12, [.int .u64 ((zl g : Nat) : Int), .string (zh g), .bool (zs g)])] (by simp) (by intro p hp; simp only [List.mem_cons, List.not_mem_nil, or_false] at hp; rcases hp with rfl | rfl | rfl <;> exact ⟨_, by simp only [toG, upd]; rfl⟩)
 simp only [List.map_cons, List.map_nil, List.cons_append, List.nil_append] at hL0
 simp only [over_toG, over_nil, Act.put, List.setIfInBounds_toArray, List.set_cons_succ, List.set_cons_zero]
 clear hS
 generalize κ 14 = k8_14 at *
 generalize κ 13 = k8_13 at *
 generalize κ 12 = k8_12 at *
 go_upto_region 9 with fail
 obtain ⟨α, iα, F, hF1, hF2⟩ := cls x8
 have hq0 := cls_box hF1 hL0 _ _ (List.mem_cons_of_mem _ (List.mem_cons_of_mem _ List.mem_cons_self))
 simp only [cellsC, and_true, Nat.zero_add, Nat.reduceAdd] at hq0
 have hq1 := cls_box hF1 hL0 _ _ (List.mem_cons_of_mem _ (List.mem_cons_of_mem _ (List.mem_cons_of_mem _ (List.mem_cons_of_mem _ (List.mem_cons_of_mem _ (List.mem_cons_of_mem _ List.mem_cons_self))))))
 simp only [cellsC, and_true, Nat.zero_add, Nat.reduceAdd] at hq1
 refine region_qs 8 (C := fun w' => ∃ x, w' = F x) (by kernel_rfl) (by kernel_rfl) (cls_drew hF2) ?_
 simp only [List.take_succ_cons, List.take_zero, List.drop_succ_cons, List.drop_zero, List.take_nil, List.drop_nil]
 repeat (go_big_quiet_step (first | fail | (go_at_call 11; with_reducible exact cls_call hF1 hF2 HO.out _)))
 refine wpQuiet_nil ?_
 rintro wq ⟨xq, rfl⟩
 replace hL0 := hL0.call (hF1 xq)
 clear  hq0 hq1 hF2
 generalize F xq = x9 at hL0 ⊢
 clear hF1 xq iα F α
 go_wp2_with fail
 with_reducible refine Calls.mono (HW.out _ (hKT.out.at hL0.bl kKT)) ?_
 rintro e x10 ⟨rfl, hb⟩
 replace hL0 := hL0.call hb
 clear hb
 go_wp2_with fail
 exact bodyPost_ret (v := .bool true) (by simp [results, Tryz.results6, go_sem]) rfl ⟨rfl, hL0.bl⟩
set_option maxHeartbeats 4000000 in
set_option maxRecDepth 100000 in
theorem pth_n_far (sx sa : Bool) (ax qx am aa : Option Addr) (nx cx mx dx nm cm na ca : Nat) (b y z g u v t : Int) (n d : Nat) (f : Rat) (Km : World → Prop) (hKm : Keeps Km) (HM : ∀ w, Km w → Calls Tryz.prog 27 #[.slice am nm cm] w fun xe w' => xe = .returned (natV n) ∧ Below w.heap.size w w') (Ka : World → Prop) (hKa : Keeps Ka) (HZ : ∀ w, Ka w → Calls Tryz.prog 28 #[.agg #[.bool sa, .slice aa na ca]] w fun xe w' => xe = .returned (intV b) ∧ Below w.heap.size w w') (HB : ∀ w, Calls Tryz.prog 10 #[intV b, natV n] w fun xe w' => xe = .returned (.tuple #[.agg #[.int .u64 0, .string ⟨#[]⟩, .bool false, .int .u64 0, .string ⟨#[]⟩], .bool false]) ∧ Below w.heap.size w w') (Kx : World → Prop) (hKx : Keeps Kx) (GX : ∀ w, Kx w → Calls Tryz.prog 29 #[.agg #[.bool sx, .slice ax nx cx, .slice qx mx dx]] w fun xe w' => xe = .returned (fracV f) ∧ Below w.heap.size w w') (HY : ∀ w, Calls Tryz.prog 31 #[.bool false, natV n] w fun xe w' => xe = .returned (intV y) ∧ Below w.heap.size w w') (HD : ∀ w, Calls Tryz.prog 18 #[fracV f] w fun xe w' => xe = .returned (natV d) ∧ Below w.heap.size w w') (HE : ∀ w, Calls Tryz.prog 31 #[.bool false, natV d] w fun xe w' => xe = .returned (intV z) ∧ Below w.heap.size w w') (HG : ∀ w, Calls Tryz.prog 30 #[intV y, intV z] w fun xe w' => xe = .returned (.tuple #[intV g, intV u, intV v]) ∧ Below w.heap.size w w') (HO : ∀ w, Calls Tryz.prog 11 #[.int .i64 1] w fun xe w' => xe = .returned (intV g) ∧ Below w.heap.size w w') (HNf : ∀ w, Calls Tryz.prog 16 #[fracV f] w fun xe w' => xe = .returned (.agg #[.int .u64 ((zl f.num : Nat) : Int), .string (zh f.num), .bool (zs f.num)]) ∧ Below w.heap.size w w') (HMl : ∀ w, Calls Tryz.prog 32 #[.agg #[.int .u64 ((zl f.num : Nat) : Int), .string (zh f.num), .bool (zs f.num)], intV v] w fun xe w' => xe = .returned (intV t) ∧ Below w.heap.size w w') (HFt : ∀ w, Calls Tryz.prog 20 #[fracV f, intV t, natV n] w fun xe w' => xe = .returned (.bool true) ∧ Below w.heap.size w w') (HBt : ∀ w, Calls Tryz.prog 10 #[intV t, natV n] w fun xe w' => xe = .returned (.tuple #[fracV f, .bool true]) ∧ Below w.heap.size w w') (HRf : ∀ w, Calls Tryz.prog 22 #[fracV f, natV n] w fun xe w' => xe = .returned (.bool true) ∧ Below w.heap.size w w') (KT : World → Prop) (hKT : Keeps KT) (HW : ∀ w, KT w → Calls Tryz.prog 15 #[] w fun xe w' => xe = .returned (.bool true) ∧ Below w.heap.size w w') (l0 : decide ((4 : Int) < ((nx : Nat) : Int)) = false) (k0 : decide (4 < nx) = false) (l1 : decide ((4 : Int) < ((mx : Nat) : Int)) = false) (k1 : decide (4 < mx) = false) (l2 : decide ((12 : Int) < ((nm : Nat) : Int)) = false) (k2 : decide (12 < nm) = false) (l3 : decide ((12 : Int) < ((na : Nat) : Int)) = false) (k3 : decide (12 < na) = false) (hn0 : n ≠ 0) (w : World) (kKm : Km w) (kKa : Ka w) (kKx : Kx w) (kKT : KT w) :
  Calls Tryz.prog 6 #[.agg #[.bool sx, .slice ax nx cx, .slice qx mx dx], .slice am nm cm, .agg #[.bool sa, .slice aa na ca]] w fun xe w' => xe = .returned (.bool true) ∧ Below w.heap.size w w' := by
 have hL0 : GL w w [] := GL.start w
 replace hKm := Lib.hid hKm
 replace HM := Lib.hid HM
 replace hKa := Lib.hid hKa
 replace HZ := Lib.hid HZ
 replace HB := Lib.hid HB
 replace hKx := Lib.hid hKx
 replace GX := Lib.hid GX
 replace HY := Lib.hid HY
 replace HD := Lib.hid HD
 replace HE := Lib.hid HE
 replace HG := Lib.hid HG
 replace HO := Lib.hid HO
 replace HNf := Lib.hid HNf
 replace HMl := Lib.hid HMl
 replace HFt := Lib.hid HFt
 replace HBt := Lib.hid HBt
 replace HRf := Lib.hid HRf
 replace hKT := Lib.hid hKT
 replace HW := Lib.hid HW
 have hz0 := eq_zeroN hn0
 clear hn0
 rcases hz0 with e0 | ⟨e0, e1⟩
 all_goals (
  replace hL0 := ((hL0.new rfl [.bool sx, .slice ax nx cx, .slice qx mx dx] 70).new (K := w.heap.size + 1) (szA _ _) [.bool sa, .slice aa na ca] 68)
  generalize hweq : ((w.alloc (.cells #[.bool sx, .slice ax nx cx, .slice qx mx dx] 70)).alloc (.cells #[.bool sa, .slice aa na ca] 68)) = x1 at hL0
  go_enter Tryz.func6, Tryz.ntmps6
  have hN0 := cells_of _ 0 [] rfl (hL0.get _ _ List.mem_cons_self)
  simp only [cellsF, and_true, Nat.zero_add, Nat.reduceAdd] at hN0
  have hN1 := cells_of _ 0 [] rfl (hL0.get _ _ (List.mem_cons_of_mem _ List.mem_cons_self))
  simp only [cellsF, and_true, Nat.zero_add, Nat.reduceAdd] at hN1
  go_upto_region 3 with fail
  have kKm1 := hKm.out.at hL0.bl kKm
  have kKa1 := hKa.out.at hL0.bl kKa
  clear hN0 hN1
  clear hweq
  refine region_gh (by kernel_rfl) (by kernel_rfl) ?_
  refine lex_seg (gl := []) 4 (by kernel_rfl) ?_
  intro α iα F hF1 hF2
  have hq := GL.seg hF1 hL0
  simp only [fcC, cellsC, and_true, Nat.zero_add, Nat.reduceAdd] at hq
  simp only [List.take_succ_cons, List.take_zero, List.drop_succ_cons, List.drop_zero, List.take_nil, List.drop_nil]
  repeat (go_big_quiet_step (first | fail | (go_at_call 27; with_reducible exact seg_callK hKm.out hF1 hF2 kKm1 HM.out _) | (go_at_call 28; with_reducible exact seg_callK hKa.out hF1 hF2 kKa1 HZ.out _)))
  refine wpQuiet_nil ?_
  clear hq hF1 hF2 iα F α
  refine lex_new [.int .u64 0, .string ⟨#[]⟩] 7 26 26 rfl rfl (of_decide_eq_true (by kernel_rfl)) (by kernel_rfl) rfl new_natc ?_
  simp only [Act.put, List.setIfInBounds_toArray, List.set_cons_succ, List.set_cons_zero]
  refine lex_new [.int .u64 0, .string ⟨#[]⟩, .bool false] 8 28 28 rfl rfl (of_decide_eq_true (by kernel_rfl)) (by kernel_rfl) rfl new_int ?_
  simp only [Act.put, List.setIfInBounds_toArray, List.set_cons_succ, List.set_cons_zero]
  refine lex_put [.int .u64 ((lo n : Nat) : Int), .string (hs n)] [.int .u64 0, .string ⟨#[]⟩] 7 26 (.tmp 42) rfl (by kernel_rfl) (by simp [toG, upd]) rfl (fun w k h => put_natc _ _ _ _ w k h) ?_
  simp only [Act.put]
  refine lex_put [.int .u64 ((zl b : Nat) : Int), .string (zh b), .bool (zs b)] [.int .u64 0, .string ⟨#[]⟩, .bool false] 8 28 (.tmp 44) rfl (by kernel_rfl) (by simp [toG, upd]) rfl (fun w k h => put_int _ _ _ _ _ _ w k h) ?_
  simp only [Act.put]
  refine lexG_nil ?_
  intro κ x2 hS
  replace hL0 := hL0.ghs hS [(8, [.int .u64 ((zl b : Nat) : Int), .string (zh b), .bool (zs b)]), (7, [.int .u64 ((lo n : Nat) : Int), .string (hs n)])] (by simp) (by intro p hp; simp only [List.mem_cons, List.not_mem_nil, or_false] at hp; rcases hp with rfl | rfl <;> exact ⟨_, by simp only [toG, upd]; rfl⟩)
  simp only [List.map_cons, List.map_nil, List.cons_append, List.nil_append] at hL0
  simp only [over_toG, over_nil, Act.put, List.setIfInBounds_toArray, List.set_cons_succ, List.set_cons_zero]
  clear hS
  generalize κ 8 = k2_8 at *
  generalize κ 7 = k2_7 at *
  clear kKm1 kKa1
  have hN0 := cells_of _ 0 [] rfl (hL0.get _ _ List.mem_cons_self)
  simp only [cellsF, and_true, Nat.zero_add, Nat.reduceAdd] at hN0
  have hN1 := cells_of _ 0 [] rfl (hL0.get _ _ (List.mem_cons_of_mem _ List.mem_cons_self))
  simp only [cellsF, and_true, Nat.zero_add, Nat.reduceAdd] at hN1
  go_wp2_with fail
  clear hN0 hN1
  with_reducible refine Calls.mono (HB.out _) ?_
  rintro e x3 ⟨rfl, hb⟩
  replace hL0 := hL0.call hb
  clear hb
  replace hL0 := (hL0.new rfl [.int .u64 0, .string ⟨#[]⟩, .bool false, .int .u64 0, .string ⟨#[]⟩] 30)
  generalize hweq : (x3.alloc (.cells #[.int .u64 0, .string ⟨#[]⟩, .bool false, .int .u64 0, .string ⟨#[]⟩] 30)) = x4 at hL0
  have hA := hL0.fc
  simp only [fcG, cellsF, neK, and_true, ne_eq, Nat.zero_add, Nat.reduceAdd] at hA
  have hP := hL0.put 0 (x3.heap.size) _ rfl [.int .u64 0, .string ⟨#[]⟩, .bool false, .int .u64 0, .string ⟨#[]⟩] rfl
  simp only [setAll, List.set_cons_zero, List.set_cons_succ] at hP
  generalize hput1 : (((((x4.setCell ⟨x3.heap.size, 0, none⟩ (.int .u64 0)).setCell ⟨x3.heap.size, 1, none⟩ (.string ⟨#[]⟩)).setCell ⟨x3.heap.size, 2, none⟩ (.bool false)).setCell ⟨x3.heap.size, 3, none⟩ (.int .u64 0)).setCell ⟨x3.heap.size, 4, none⟩ (.string ⟨#[]⟩)) = x5 at hP
  have hB1 := hP.fc
  simp only [fcG, cellsF, neK, and_true, ne_eq, Nat.zero_add, Nat.reduceAdd] at hB1
  replace hL0 := hP
  go_wp2_with fail
  clear hA
  with_reducible refine Calls.mono (GX.out _ (hKx.out.at hL0.bl kKx)) ?_
  rintro e x6 ⟨rfl, hb⟩
  replace hL0 := hL0.call hb
  clear hb hweq hput1 hB1
  replace hL0 := (hL0.new rfl [.int .u64 ((zl f.num : Nat) : Int), .string (zh f.num), .bool (zs f.num), .int .u64 ((lo (fe f) : Nat) : Int), .string (hs (fe f))] 30)
  generalize hweq : (x6.alloc (.cells #[.int .u64 ((zl f.num : Nat) : Int), .string (zh f.num), .bool (zs f.num), .int .u64 ((lo (fe f) : Nat) : Int), .string (hs (fe f))] 30)) = x7 at hL0
  go_upto_region 8 with fail
  clear hweq
  refine region_gh (by kernel_rfl) (by kernel_rfl) ?_
  refine lex_seg (gl := []) 10 (by kernel_rfl) ?_
  intro α iα F hF1 hF2
  have hq := GL.seg hF1 hL0
  simp only [fcC, cellsC, and_true, Nat.zero_add, Nat.reduceAdd] at hq
  simp only [List.take_succ_cons, List.take_zero, List.drop_succ_cons, List.drop_zero, List.take_nil, List.drop_nil]
  repeat (go_big_quiet_step (first | fail | (go_at_call 31; with_reducible exact seg_call hF2 HY.out _) | (go_at_call 18; with_reducible exact seg_call hF2 HD.out _) | (go_at_call 31; with_reducible exact seg_call hF2 HE.out _) | (go_at_call 30; with_reducible exact seg_call hF2 HG.out _)))
  refine wpQuiet_nil ?_
  clear hq hF1 hF2 iα F α
  refine lex_new [.int .u64 0, .string ⟨#[]⟩, .bool false] 12 28 28 rfl rfl (of_decide_eq_true (by kernel_rfl)) (by kernel_rfl) rfl new_int ?_
  simp only [Act.put, List.setIfInBounds_toArray, List.set_cons_succ, List.set_cons_zero]
  refine lex_new [.int .u64 0, .string ⟨#[]⟩, .bool false] 13 28 28 rfl rfl (of_decide_eq_true (by kernel_rfl)) (by kernel_rfl) rfl new_int ?_
  simp only [Act.put, List.setIfInBounds_toArray, List.set_cons_succ, List.set_cons_zero]
  refine lex_new [.int .u64 0, .string ⟨#[]⟩, .bool false] 14 28 28 rfl rfl (of_decide_eq_true (by kernel_rfl)) (by kernel_rfl) rfl new_int ?_
  simp only [Act.put, List.setIfInBounds_toArray, List.set_cons_succ, List.set_cons_zero]
  refine lex_put [.int .u64 ((zl g : Nat) : Int), .string (zh g), .bool (zs g)] [.int .u64 0, .string ⟨#[]⟩, .bool false] 12 28 (.tmp 83) rfl (by kernel_rfl) (by simp [toG, upd]) rfl (fun w k h => put_int _ _ _ _ _ _ w k h) ?_
  simp only [Act.put]
  refine lex_put [.int .u64 ((zl u : Nat) : Int), .string (zh u), .bool (zs u)] [.int .u64 0, .string ⟨#[]⟩, .bool false] 13 28 (.tmp 84) rfl (by kernel_rfl) (by simp [toG, upd]) rfl (fun w k h => put_int _ _ _ _ _ _ w k h) ?_
  simp only [Act.put]
  refine lex_put [.int .u64 ((zl v : Nat) : Int), .string (zh v), .bool (zs v)] [.int .u64 0, .string ⟨#[]⟩, .bool false] 14 28 (.tmp 85) rfl (by kernel_rfl) (by simp [toG, upd]) rfl (fun w k h => put_int _ _ _ _ _ _ w k h) ?_
  simp only [Act.put]
  refine lexG_nil ?_
  intro κ x8 hS
  replace hL0 := hL0.ghs hS [(14, [.int .u64 ((zl v : Nat) : Int), .string (zh v), .bool (zs v)]), (13, [.int .u64 ((zl u : Nat) : Int), .string (zh u), .bool (zs u)]), (12, [.int .u64 ((zl g : Nat) : Int), .string (zh g), .bool (zs g)])] (by simp) (by intro p hp; simp only [List.mem_cons, List.not_mem_nil, or_false] at hp; rcases hp with rfl | rfl | rfl <;> exact ⟨_, by simp only [toG, upd]; rfl⟩)
  simp only [List.map_cons, List.map_nil, List.cons_append, List.nil_append] at hL0
  simp only [over_toG, over_nil, Act.put, List.setIfInBounds_toArray, List.set_cons_succ, List.set_cons_zero]
  clear hS
  generalize κ 14 = k8_14 at *
  generalize κ 13 = k8_13 at *
  generalize κ 12 = k8_12 at *
  go_upto_region 9 with fail
  obtain ⟨α, iα, F, hF1, hF2⟩ := cls x8
  have hq0 := cls_box hF1 hL0 _ _ (List.mem_cons_of_mem _ (List.mem_cons_of_mem _ List.mem_cons_self))
  simp only [cellsC, and_true, Nat.zero_add, Nat.reduceAdd] at hq0
  have hq1 := cls_box hF1 hL0 _ _ (List.mem_cons_of_mem _ (List.mem_cons_of_mem _ (List.mem_cons_of_mem _ (List.mem_cons_of_mem _ (List.mem_cons_of_mem _ (List.mem_cons_of_mem _ List.mem_cons_self))))))
  simp only [cellsC, and_true, Nat.zero_add, Nat.reduceAdd] at hq1
  refine region_qs 8 (C := fun w' => ∃ x, w' = F x) (by kernel_rfl) (by kernel_rfl) (cls_drew hF2) ?_
  simp only [List.take_succ_cons, List.take_zero, List.drop_succ_cons, List.drop_zero, List.take_nil, List.drop_nil]
  repeat (go_big_quiet_step (first | fail | (go_at_call 11; with_reducible exact cls_call hF1 hF2 HO.out _)))
  refine wpQuiet_nil ?_
  rintro wq ⟨xq, rfl⟩
  replace hL0 := hL0.call (hF1 xq)
  clear  hq0 hq1 hF2
  generalize F xq = x9 at hL0 ⊢
  clear hF1 xq iα F α
  go_upto_region 11 with fail
  refine region_gh (by kernel_rfl) (by kernel_rfl) ?_
  refine lex_seg (gl := []) 4 (by kernel_rfl) ?_
  intro α iα F hF1 hF2
  have hq := GL.seg hF1 hL0
  simp only [fcC, cellsC, and_true, Nat.zero_add, Nat.reduceAdd] at hq
  simp only [List.take_succ_cons, List.take_zero, List.drop_succ_cons, List.drop_zero, List.take_nil, List.drop_nil]
  repeat (go_big_quiet_step (first | fail | (go_at_call 16; with_reducible exact seg_call hF2 HNf.out _) | (go_at_call 32; with_reducible exact seg_call hF2 HMl.out _)))
  refine wpQuiet_nil ?_
  clear hq hF1 hF2 iα F α
  refine lex_new [.int .u64 0, .string ⟨#[]⟩, .bool false] 15 28 28 rfl rfl (of_decide_eq_true (by kernel_rfl)) (by kernel_rfl) rfl new_int ?_
  simp only [Act.put, List.setIfInBounds_toArray, List.set_cons_succ, List.set_cons_zero]
  refine lex_put [.int .u64 ((zl t : Nat) : Int), .string (zh t), .bool (zs t)] [.int .u64 0, .string ⟨#[]⟩, .bool false] 15 28 (.tmp 98) rfl (by kernel_rfl) (by simp [toG, upd]) rfl (fun w k h => put_int _ _ _ _ _ _ w k h) ?_
  simp only [Act.put]
  refine lexG_nil ?_
  intro κ x10 hS
  replace hL0 := hL0.ghs hS [(15, [.int .u64 ((zl t : Nat) : Int), .string (zh t), .bool (zs t)])] (by simp) (by intro p hp; simp only [List.mem_cons, List.not_mem_nil, or_false] at hp; rcases hp with rfl <;> exact ⟨_, by simp only [toG, upd]; rfl⟩)
  simp only [List.map_cons, List.map_nil, List.cons_append, List.nil_append] at hL0
  simp only [over_toG, over_nil, Act.put, List.setIfInBounds_toArray, List.set_cons_succ, List.set_cons_zero]
  clear hS
  generalize κ 15 = k10_15 at *
  have hN0 := cells_of _ 0 [] rfl (hL0.get _ _ List.mem_cons_self)
  simp only [cellsF, and_true, Nat.zero_add, Nat.reduceAdd] at hN0
  have hN1 := cells_of _ 0 [] rfl (hL0.get _ _ (List.mem_cons_of_mem _ (List.mem_cons_of_mem _ (List.mem_cons_of_mem _ (List.mem_cons_of_mem _ List.mem_cons_self)))))
  simp only [cellsF, and_true, Nat.zero_add, Nat.reduceAdd] at hN1
  have hN2 := cells_of _ 0 [] rfl (hL0.get _ _ (List.mem_cons_of_mem _ (List.mem_cons_of_mem _ (List.mem_cons_of_mem _ (List.mem_cons_of_mem _ (List.mem_cons_of_mem _ (List.mem_cons_of_mem _ (List.mem_cons_of_mem _ List.mem_cons_self))))))))
  simp only [cellsF, and_true, Nat.zero_add, Nat.reduceAdd] at hN2
  go_wp2_with fail
  clear hN0 hN1 hN2
  with_reducible refine Calls.mono (HFt.out _) ?_
  rintro e x11 ⟨rfl, hb⟩
  replace hL0 := hL0.call hb
  clear hb
  have hN0 := cells_of _ 0 [] rfl (hL0.get _ _ List.mem_cons_self)
  simp only [cellsF, and_true, Nat.zero_add, Nat.reduceAdd] at hN0
  have hN1 := cells_of _ 0 [] rfl (hL0.get _ _ (List.mem_cons_of_mem _ (List.mem_cons_of_mem _ (List.mem_cons_of_mem _ (List.mem_cons_of_mem _ (List.mem_cons_of_mem _ (List.mem_cons_of_mem _ (List.mem_cons_of_mem _ List.mem_cons_self))))))))
  simp only [cellsF, and_true, Nat.zero_add, Nat.reduceAdd] at hN1
  go_wp2_with fail
  clear hN0 hN1
  with_reducible refine Calls.mono (HBt.out _) ?_
  rintro e x12 ⟨rfl, hb⟩
  replace hL0 := hL0.call hb
  clear hb
  replace hL0 := (hL0.new rfl [.int .u64 ((zl f.num : Nat) : Int), .string (zh f.num), .bool (zs f.num), .int .u64 ((lo (fe f) : Nat) : Int), .string (hs (fe f))] 30)
  generalize hweq : (x12.alloc (.cells #[.int .u64 ((zl f.num : Nat) : Int), .string (zh f.num), .bool (zs f.num), .int .u64 ((lo (fe f) : Nat) : Int), .string (hs (fe f))] 30)) = x13 at hL0
  have hN0 := cells_of _ 0 [] rfl (hL0.get _ _ (List.mem_cons_of_mem _ (List.mem_cons_of_mem _ (List.mem_cons_of_mem _ (List.mem_cons_of_mem _ (List.mem_cons_of_mem _ List.mem_cons_self))))))
  simp only [cellsF, and_true, Nat.zero_add, Nat.reduceAdd] at hN0
  have hN1 := cells_of _ 0 [] rfl (hL0.get _ _ (List.mem_cons_of_mem _ (List.mem_cons_of_mem _ (List.mem_cons_of_mem _ (List.mem_cons_of_mem _ (List.mem_cons_of_mem _ (List.mem_cons_of_mem _ (List.mem_cons_of_mem _ (List.mem_cons_of_mem _ List.mem_cons_self)))))))))
  simp only [cellsF, and_true, Nat.zero_add, Nat.reduceAdd] at hN1
  go_wp2_with fail
  clear hN0 hN1
  with_reducible refine Calls.mono (HRf.out _) ?_
  rintro e x14 ⟨rfl, hb⟩
  replace hL0 := hL0.call hb
  clear hb hweq
  have hN0 := cells_of _ 0 [] rfl (hL0.get _ _ List.mem_cons_self)
  simp only [cellsF, and_true, Nat.zero_add, Nat.reduceAdd] at hN0
  have hN1 := cells_of _ 0 [] rfl (hL0.get _ _ (List.mem_cons_of_mem _ (List.mem_cons_of_mem _ (List.mem_cons_of_mem _ (List.mem_cons_of_mem _ (List.mem_cons_of_mem _ List.mem_cons_self))))))
  simp only [cellsF, and_true, Nat.zero_add, Nat.reduceAdd] at hN1
  go_wp2_with fail
  clear hN0 hN1
  with_reducible refine Calls.mono (HW.out _ (hKT.out.at hL0.bl kKT)) ?_
  rintro e x15 ⟨rfl, hb⟩
  replace hL0 := hL0.call hb
  clear hb
  go_wp2_with fail
  exact bodyPost_ret (v := .bool true) (by simp [results, Tryz.results6, go_sem]) rfl ⟨rfl, hL0.bl⟩)
set_option maxHeartbeats 4000000 in
set_option maxRecDepth 100000 in
theorem pth_n_none (sx sa : Bool) (ax qx am aa : Option Addr) (nx cx mx dx nm cm na ca : Nat) (b y z g u v t : Int) (n d : Nat) (f : Rat) (Km : World → Prop) (hKm : Keeps Km) (HM : ∀ w, Km w → Calls Tryz.prog 27 #[.slice am nm cm] w fun xe w' => xe = .returned (natV n) ∧ Below w.heap.size w w') (Ka : World → Prop) (hKa : Keeps Ka) (HZ : ∀ w, Ka w → Calls Tryz.prog 28 #[.agg #[.bool sa, .slice aa na ca]] w fun xe w' => xe = .returned (intV b) ∧ Below w.heap.size w w') (HB : ∀ w, Calls Tryz.prog 10 #[intV b, natV n] w fun xe w' => xe = .returned (.tuple #[.agg #[.int .u64 0, .string ⟨#[]⟩, .bool false, .int .u64 0, .string ⟨#[]⟩], .bool false]) ∧ Below w.heap.size w w') (Kx : World → Prop) (hKx : Keeps Kx) (GX : ∀ w, Kx w → Calls Tryz.prog 29 #[.agg #[.bool sx, .slice ax nx cx, .slice qx mx dx]] w fun xe w' => xe = .returned (fracV f) ∧ Below w.heap.size w w') (HY : ∀ w, Calls Tryz.prog 31 #[.bool false, natV n] w fun xe w' => xe = .returned (intV y) ∧ Below w.heap.size w w') (HD : ∀ w, Calls Tryz.prog 18 #[fracV f] w fun xe w' => xe = .returned (natV d) ∧ Below w.heap.size w w') (HE : ∀ w, Calls Tryz.prog 31 #[.bool false, natV d] w fun xe w' => xe = .returned (intV z) ∧ Below w.heap.size w w') (HG : ∀ w, Calls Tryz.prog 30 #[intV y, intV z] w fun xe w' => xe = .returned (.tuple #[intV g, intV u, intV v]) ∧ Below w.heap.size w w') (HO : ∀ w, Calls Tryz.prog 11 #[.int .i64 1] w fun xe w' => xe = .returned (intV g) ∧ Below w.heap.size w w') (HNf : ∀ w, Calls Tryz.prog 16 #[fracV f] w fun xe w' => xe = .returned (.agg #[.int .u64 ((zl f.num : Nat) : Int), .string (zh f.num), .bool (zs f.num)]) ∧ Below w.heap.size w w') (HMl : ∀ w, Calls Tryz.prog 32 #[.agg #[.int .u64 ((zl f.num : Nat) : Int), .string (zh f.num), .bool (zs f.num)], intV v] w fun xe w' => xe = .returned (intV t) ∧ Below w.heap.size w w') (HFt : ∀ w, Calls Tryz.prog 20 #[fracV f, intV t, natV n] w fun xe w' => xe = .returned (.bool true) ∧ Below w.heap.size w w') (HBt : ∀ w, Calls Tryz.prog 10 #[intV t, natV n] w fun xe w' => xe = .returned (.tuple #[.agg #[.int .u64 0, .string ⟨#[]⟩, .bool false, .int .u64 0, .string ⟨#[]⟩], .bool false]) ∧ Below w.heap.size w w') (HRf : ∀ w, Calls Tryz.prog 22 #[fracV f, natV n] w fun xe w' => xe = .returned (.bool false) ∧ Below w.heap.size w w') (KT : World → Prop) (hKT : Keeps KT) (HW : ∀ w, KT w → Calls Tryz.prog 15 #[] w fun xe w' => xe = .returned (.bool true) ∧ Below w.heap.size w w') (l0 : decide ((4 : Int) < ((nx : Nat) : Int)) = false) (k0 : decide (4 < nx) = false) (l1 : decide ((4 : Int) < ((mx : Nat) : Int)) = false) (k1 : decide (4 < mx) = false) (l2 : decide ((12 : Int) < ((nm : Nat) : Int)) = false) (k2 : decide (12 < nm) = false) (l3 : decide ((12 : Int) < ((na : Nat) : Int)) = false) (k3 : decide (12 < na) = false) (hn0 : n ≠ 0) (w : World) (kKm : Km w) (kKa : Ka w) (kKx : Kx w) (kKT : KT w) :
  Calls Tryz.prog 6 #[.agg #[.bool sx, .slice ax nx cx, .slice qx mx dx], .slice am nm cm, .agg #[.bool sa, .slice aa na ca]] w fun xe w' => xe = .returned (.bool true) ∧ Below w.heap.size w w' := by
 have hL0 : GL w w [] := GL.start w
 replace hKm := Lib.hid hKm
 replace HM := Lib.hid HM
 replace hKa := Lib.hid hKa
 replace HZ := Lib.hid HZ
 replace HB := Lib.hid HB
 replace hKx := Lib.hid hKx
 replace GX := Lib.hid GX
 replace HY := Lib.hid HY
 replace HD := Lib.hid HD
 replace HE := Lib.hid HE
 replace HG := Lib.hid HG
 replace HO := Lib.hid HO
 replace HNf := Lib.hid HNf
 replace HMl := Lib.hid HMl
 replace HFt := Lib.hid HFt
 replace HBt := Lib.hid HBt
 replace HRf := Lib.hid HRf
 replace hKT := Lib.hid hKT
 replace HW := Lib.hid HW
 have hz0 := eq_zeroN hn0
 clear hn0
 rcases hz0 with e0 | ⟨e0, e1⟩
 all_goals (
  replace hL0 := ((hL0.new rfl [.bool sx, .slice ax nx cx, .slice qx mx dx] 70).new (K := w.heap.size + 1) (szA _ _) [.bool sa, .slice aa na ca] 68)
  generalize hweq : ((w.alloc (.cells #[.bool sx, .slice ax nx cx, .slice qx mx dx] 70)).alloc (.cells #[.bool sa, .slice aa na ca] 68)) = x1 at hL0
  go_enter Tryz.func6, Tryz.ntmps6
  have hN0 := cells_of _ 0 [] rfl (hL0.get _ _ List.mem_cons_self)
  simp only [cellsF, and_true, Nat.zero_add, Nat.reduceAdd] at hN0
  have hN1 := cells_of _ 0 [] rfl (hL0.get _ _ (List.mem_cons_of_mem _ List.mem_cons_self))
  simp only [cellsF, and_true, Nat.zero_add, Nat.reduceAdd] at hN1
  go_upto_region 3 with fail
  have kKm1 := hKm.out.at hL0.bl kKm
  have kKa1 := hKa.out.at hL0.bl kKa
  clear hN0 hN1
  clear hweq
  refine region_gh (by kernel_rfl) (by kernel_rfl) ?_
  refine lex_seg (gl := []) 4 (by kernel_rfl) ?_
  intro α iα F hF1 hF2
  have hq := GL.seg hF1 hL0
  simp only [fcC, cellsC, and_true, Nat.zero_add, Nat.reduceAdd] at hq
  simp only [List.take_succ_cons, List.take_zero, List.drop_succ_cons, List.drop_zero, List.take_nil, List.drop_nil]
  repeat (go_big_quiet_step (first | fail | (go_at_call 27; with_reducible exact seg_callK hKm.out hF1 hF2 kKm1 HM.out _) | (go_at_call 28; with_reducible exact seg_callK hKa.out hF1 hF2 kKa1 HZ.out _)))
  refine wpQuiet_nil ?_
  clear hq hF1 hF2 iα F α
  refine lex_new [.int .u64 0, .string ⟨#[]⟩] 7 26 26 rfl rfl (of_decide_eq_true (by kernel_rfl)) (by kernel_rfl) rfl new_natc ?_
  simp only [Act.put, List.setIfInBounds_toArray, List.set_cons_succ, List.set_cons_zero]
  refine lex_new [.int .u64 0, .string ⟨#[]⟩, .bool false] 8 28 28 rfl rfl (of_decide_eq_true (by kernel_rfl)) (by kernel_rfl) rfl new_int ?_
  simp only [Act.put, List.setIfInBounds_toArray, List.set_cons_succ, List.set_cons_zero]
  refine lex_put [.int .u64 ((lo n : Nat) : Int), .string (hs n)] [.int .u64 0, .string ⟨#[]⟩] 7 26 (.tmp 42) rfl (by kernel_rfl) (by simp [toG, upd]) rfl (fun w k h => put_natc _ _ _ _ w k h) ?_
  simp only [Act.put]
  refine lex_put [.int .u64 ((zl b : Nat) : Int), .string (zh b), .bool (zs b)] [.int .u64 0, .string ⟨#[]⟩, .bool false] 8 28 (.tmp 44) rfl (by kernel_rfl) (by simp [toG, upd]) rfl (fun w k h => put_int _ _ _ _ _ _ w k h) ?_
  simp only [Act.put]
  refine lexG_nil ?_
  intro κ x2 hS
  replace hL0 := hL0.ghs hS [(8, [.int .u64 ((zl b : Nat) : Int), .string (zh b), .bool (zs b)]), (7, [.int .u64 ((lo n : Nat) : Int), .string (hs n)])] (by simp) (by intro p hp; simp only [List.mem_cons, List.not_mem_nil, or_false] at hp; rcases hp with rfl | rfl <;> exact ⟨_, by simp only [toG, upd]; rfl⟩)
  simp only [List.map_cons, List.map_nil, List.cons_append, List.nil_append] at hL0
  simp only [over_toG, over_nil, Act.put, List.setIfInBounds_toArray, List.set_cons_succ, List.set_cons_zero]
  clear hS
  generalize κ 8 = k2_8 at *
  generalize κ 7 = k2_7 at *
  clear kKm1 kKa1
  have hN0 := cells_of _ 0 [] rfl (hL0.get _ _ List.mem_cons_self)
  simp only [cellsF, and_true, Nat.zero_add, Nat.reduceAdd] at hN0
  have hN1 := cells_of _ 0 [] rfl (hL0.get _ _ (List.mem_cons_of_mem _ List.mem_cons_self))
  simp only [cellsF, and_true, Nat.zero_add, Nat.reduceAdd] at hN1
  go_wp2_with fail
  clear hN0 hN1
  with_reducible refine Calls.mono (HB.out _) ?_
  rintro e x3 ⟨rfl, hb⟩
  replace hL0 := hL0.call hb
  clear hb
  replace hL0 := (hL0.new rfl [.int .u64 0, .string ⟨#[]⟩, .bool false, .int .u64 0, .string ⟨#[]⟩] 30)
  generalize hweq : (x3.alloc (.cells #[.int .u64 0, .string ⟨#[]⟩, .bool false, .int .u64 0, .string ⟨#[]⟩] 30)) = x4 at hL0
  have hA := hL0.fc
  simp only [fcG, cellsF, neK, and_true, ne_eq, Nat.zero_add, Nat.reduceAdd] at hA
  have hP := hL0.put 0 (x3.heap.size) _ rfl [.int .u64 0, .string ⟨#[]⟩, .bool false, .int .u64 0, .string ⟨#[]⟩] rfl
  simp only [setAll, List.set_cons_zero, List.set_cons_succ] at hP
  generalize hput1 : (((((x4.setCell ⟨x3.heap.size, 0, none⟩ (.int .u64 0)).setCell ⟨x3.heap.size, 1, none⟩ (.string ⟨#[]⟩)).setCell ⟨x3.heap.size, 2, none⟩ (.bool false)).setCell ⟨x3.heap.size, 3, none⟩ (.int .u64 0)).setCell ⟨x3.heap.size, 4, none⟩ (.string ⟨#[]⟩)) = x5 at hP
  have hB1 := hP.fc
  simp only [fcG, cellsF, neK, and_true, ne_eq, Nat.zero_add, Nat.reduceAdd] at hB1
  replace hL0 := hP
  go_wp2_with fail
  clear hA
  with_reducible refine Calls.mono (GX.out _ (hKx.out.at hL0.bl kKx)) ?_
  rintro e x6 ⟨rfl, hb⟩
  replace hL0 := hL0.call hb
  clear hb hweq hput1 hB1
  replace hL0 := (hL0.new rfl [.int .u64 ((zl f.num : Nat) : Int), .string (zh f.num), .bool (zs f.num), .int .u64 ((lo (fe f) : Nat) : Int), .string (hs (fe f))] 30)
  generalize hweq : (x6.alloc (.cells #[.int .u64 ((zl f.num : Nat) : Int), .string (zh f.num), .bool (zs f.num), .int .u64 ((lo (fe f) : Nat) : Int), .string (hs (fe f))] 30)) = x7 at hL0
  go_upto_region 8 with fail
  clear hweq
  refine region_gh (by kernel_rfl) (by kernel_rfl) ?_
  refine lex_seg (gl := []) 10 (by kernel_rfl) ?_
  intro α iα F hF1 hF2
  have hq := GL.seg hF1 hL0
  simp only [fcC, cellsC, and_true, Nat.zero_add, Nat.reduceAdd] at hq
  simp only [List.take_succ_cons, List.take_zero, List.drop_succ_cons, List.drop_zero, List.take_nil, List.drop_nil]
  repeat (go_big_quiet_step (first | fail | (go_at_call 31; with_reducible exact seg_call hF2 HY.out _) | (go_at_call 18; with_reducible exact seg_call hF2 HD.out _) | (go_at_call 31; with_reducible exact seg_call hF2 HE.out _) | (go_at_call 30; with_reducible exact seg_call hF2 HG.out _)))
  refine wpQuiet_nil ?_
  clear hq hF1 hF2 iα F α
  refine lex_new [.int .u64 0, .string ⟨#[]⟩, .bool false] 12 28 28 rfl rfl (of_decide_eq_true (by kernel_rfl)) (by kernel_rfl) rfl new_int ?_
  simp only [Act.put, List.setIfInBounds_toArray, List.set_cons_succ, List.set_cons_zero]
  refine lex_new [.int .u64 0, .string ⟨#[]⟩, .bool false] 13 28 28 rfl rfl (of_decide_eq_true (by kernel_rfl)) (by kernel_rfl) rfl new_int ?_
  simp only [Act.put, List.setIfInBounds_toArray, List.set_cons_succ, List.set_cons_zero]
  refine lex_new [.int .u64 0, .string ⟨#[]⟩, .bool false] 14 28 28 rfl rfl (of_decide_eq_true (by kernel_rfl)) (by kernel_rfl) rfl new_int ?_
  simp only [Act.put, List.setIfInBounds_toArray, List.set_cons_succ, List.set_cons_zero]
  refine lex_put [.int .u64 ((zl g : Nat) : Int), .string (zh g), .bool (zs g)] [.int .u64 0, .string ⟨#[]⟩, .bool false] 12 28 (.tmp 83) rfl (by kernel_rfl) (by simp [toG, upd]) rfl (fun w k h => put_int _ _ _ _ _ _ w k h) ?_
  simp only [Act.put]
  refine lex_put [.int .u64 ((zl u : Nat) : Int), .string (zh u), .bool (zs u)] [.int .u64 0, .string ⟨#[]⟩, .bool false] 13 28 (.tmp 84) rfl (by kernel_rfl) (by simp [toG, upd]) rfl (fun w k h => put_int _ _ _ _ _ _ w k h) ?_
  simp only [Act.put]
  refine lex_put [.int .u64 ((zl v : Nat) : Int), .string (zh v), .bool (zs v)] [.int .u64 0, .string ⟨#[]⟩, .bool false] 14 28 (.tmp 85) rfl (by kernel_rfl) (by simp [toG, upd]) rfl (fun w k h => put_int _ _ _ _ _ _ w k h) ?_
  simp only [Act.put]
  refine lexG_nil ?_
  intro κ x8 hS
  replace hL0 := hL0.ghs hS [(14, [.int .u64 ((zl v : Nat) : Int), .string (zh v), .bool (zs v)]), (13, [.int .u64 ((zl u : Nat) : Int), .string (zh u), .bool (zs u)]), (12, [.int .u64 ((zl g : Nat) : Int), .string (zh g), .bool (zs g)])] (by simp) (by intro p hp; simp only [List.mem_cons, List.not_mem_nil, or_false] at hp; rcases hp with rfl | rfl | rfl <;> exact ⟨_, by simp only [toG, upd]; rfl⟩)
  simp only [List.map_cons, List.map_nil, List.cons_append, List.nil_append] at hL0
  simp only [over_toG, over_nil, Act.put, List.setIfInBounds_toArray, List.set_cons_succ, List.set_cons_zero]
  clear hS
  generalize κ 14 = k8_14 at *
  generalize κ 13 = k8_13 at *
  generalize κ 12 = k8_12 at *
  go_upto_region 9 with fail
  obtain ⟨α, iα, F, hF1, hF2⟩ := cls x8
  have hq0 := cls_box hF1 hL0 _ _ (List.mem_cons_of_mem _ (List.mem_cons_of_mem _ List.mem_cons_self))
  simp only [cellsC, and_true, Nat.zero_add, Nat.reduceAdd] at hq0
  have hq1 := cls_box hF1 hL0 _ _ (List.mem_cons_of_mem _ (List.mem_cons_of_mem _ (List.mem_cons_of_mem _ (List.mem_cons_of_mem _ (List.mem_cons_of_mem _ (List.mem_cons_of_mem _ List.mem_cons_self))))))
  simp only [cellsC, and_true, Nat.zero_add, Nat.reduceAdd] at hq1
  refine region_qs 8 (C := fun w' => ∃ x, w' = F x) (by kernel_rfl) (by kernel_rfl) (cls_drew hF2) ?_
  simp only [List.take_succ_cons, List.take_zero, List.drop_succ_cons, List.drop_zero, List.take_nil, List.drop_nil]
  repeat (go_big_quiet_step (first | fail | (go_at_call 11; with_reducible exact cls_call hF1 hF2 HO.out _)))
  refine wpQuiet_nil ?_
  rintro wq ⟨xq, rfl⟩
  replace hL0 := hL0.call (hF1 xq)
  clear  hq0 hq1 hF2
  generalize F xq = x9 at hL0 ⊢
  clear hF1 xq iα F α
  go_upto_region 11 with fail
  refine region_gh (by kernel_rfl) (by kernel_rfl) ?_
  refine lex_seg (gl := []) 4 (by kernel_rfl) ?_
  intro α iα F hF1 hF2
  have hq := GL.seg hF1 hL0
  simp only [fcC, cellsC, and_true, Nat.zero_add, Nat.reduceAdd] at hq
  simp only [List.take_succ_cons, List.take_zero, List.drop_succ_cons, List.drop_zero, List.take_nil, List.drop_nil]
  repeat (go_big_quiet_step (first | fail | (go_at_call 16; with_reducible exact seg_call hF2 HNf.out _) | (go_at_call 32; with_reducible exact seg_call hF2 HMl.out _)))
  refine wpQuiet_nil ?_
  clear hq hF1 hF2 iα F α
  refine lex_new [.int .u64 0, .string ⟨#[]⟩, .bool false] 15 28 28 rfl rfl (of_decide_eq_true (by kernel_rfl)) (by kernel_rfl) rfl new_int ?_
  simp only [Act.put, List.setIfInBounds_toArray, List.set_cons_succ, List.set_cons_zero]
  refine lex_put [.int .u64 ((zl t : Nat) : Int), .string (zh t), .bool (zs t)] [.int .u64 0, .string ⟨#[]⟩, .bool false] 15 28 (.tmp 98) rfl (by kernel_rfl) (by simp [toG, upd]) rfl (fun w k h => put_int _ _ _ _ _ _ w k h) ?_
  simp only [Act.put]
  refine lexG_nil ?_
  intro κ x10 hS
  replace hL0 := hL0.ghs hS [(15, [.int .u64 ((zl t : Nat) : Int), .string (zh t), .bool (zs t)])] (by simp) (by intro p hp; simp only [List.mem_cons, List.not_mem_nil, or_false] at hp; rcases hp with rfl <;> exact ⟨_, by simp only [toG, upd]; rfl⟩)
  simp only [List.map_cons, List.map_nil, List.cons_append, List.nil_append] at hL0
  simp only [over_toG, over_nil, Act.put, List.setIfInBounds_toArray, List.set_cons_succ, List.set_cons_zero]
  clear hS
  generalize κ 15 = k10_15 at *
  have hN0 := cells_of _ 0 [] rfl (hL0.get _ _ List.mem_cons_self)
  simp only [cellsF, and_true, Nat.zero_add, Nat.reduceAdd] at hN0
  have hN1 := cells_of _ 0 [] rfl (hL0.get _ _ (List.mem_cons_of_mem _ (List.mem_cons_of_mem _ (List.mem_cons_of_mem _ (List.mem_cons_of_mem _ List.mem_cons_self)))))
  simp only [cellsF, and_true, Nat.zero_add, Nat.reduceAdd] at hN1
  have hN2 := cells_of _ 0 [] rfl (hL0.get _ _ (List.mem_cons_of_mem _ (List.mem_cons_of_mem _ (List.mem_cons_of_mem _ (List.mem_cons_of_mem _ (List.mem_cons_of_mem _ (List.mem_cons_of_mem _ (List.mem_cons_of_mem _ List.mem_cons_self))))))))
  simp only [cellsF, and_true, Nat.zero_add, Nat.reduceAdd] at hN2
  go_wp2_with fail
  clear hN0 hN1 hN2
  with_reducible refine Calls.mono (HFt.out _) ?_
  rintro e x11 ⟨rfl, hb⟩
  replace hL0 := hL0.call hb
  clear hb
  have hN0 := cells_of _ 0 [] rfl (hL0.get _ _ List.mem_cons_self)
  simp only [cellsF, and_true, Nat.zero_add, Nat.reduceAdd] at hN0
  have hN1 := cells_of _ 0 [] rfl (hL0.get _ _ (List.mem_cons_of_mem _ (List.mem_cons_of_mem _ (List.mem_cons_of_mem _ (List.mem_cons_of_mem _ (List.mem_cons_of_mem _ (List.mem_cons_of_mem _ (List.mem_cons_of_mem _ List.mem_cons_self))))))))
  simp only [cellsF, and_true, Nat.zero_add, Nat.reduceAdd] at hN1
  go_wp2_with fail
  clear hN0 hN1
  with_reducible refine Calls.mono (HBt.out _) ?_
  rintro e x12 ⟨rfl, hb⟩
  replace hL0 := hL0.call hb
  clear hb
  replace hL0 := (hL0.new rfl [.int .u64 0, .string ⟨#[]⟩, .bool false, .int .u64 0, .string ⟨#[]⟩] 30)
  generalize hweq : (x12.alloc (.cells #[.int .u64 0, .string ⟨#[]⟩, .bool false, .int .u64 0, .string ⟨#[]⟩] 30)) = x13 at hL0
  have hA := hL0.fc
  simp only [fcG, cellsF, neK, and_true, ne_eq, Nat.zero_add, Nat.reduceAdd] at hA
  have hP := hL0.put 0 (x12.heap.size) _ rfl [.int .u64 0, .string ⟨#[]⟩, .bool false, .int .u64 0, .string ⟨#[]⟩] rfl
  simp only [setAll, List.set_cons_zero, List.set_cons_succ] at hP
  generalize hput2 : (((((x13.setCell ⟨x12.heap.size, 0, none⟩ (.int .u64 0)).setCell ⟨x12.heap.size, 1, none⟩ (.string ⟨#[]⟩)).setCell ⟨x12.heap.size, 2, none⟩ (.bool false)).setCell ⟨x12.heap.size, 3, none⟩ (.int .u64 0)).setCell ⟨x12.heap.size, 4, none⟩ (.string ⟨#[]⟩)) = x14 at hP
  have hB2 := hP.fc
  simp only [fcG, cellsF, neK, and_true, ne_eq, Nat.zero_add, Nat.reduceAdd] at hB2
  replace hL0 := hP
  go_wp2_with fail
  clear hA
  with_reducible refine Calls.mono (HRf.out _) ?_
  rintro e x15 ⟨rfl, hb⟩
  replace hL0 := hL0.call hb
  clear hb hweq hput2 hB2
  go_wp2_with fail
  with_reducible refine Calls.mono (HW.out _ (hKT.out.at hL0.bl kKT)) ?_
  rintro e x16 ⟨rfl, hb⟩
  replace hL0 := hL0.call hb
  clear hb
  go_wp2_with fail
  exact bodyPost_ret (v := .bool true) (by simp [results, Tryz.results6, go_sem]) rfl ⟨rfl, hL0.bl⟩)
set_option maxHeartbeats 4000000 in
set_option maxRecDepth 100000 in
theorem pth_n_other (sx sa : Bool) (ax qx am aa : Option Addr) (nx cx mx dx nm cm na ca : Nat) (b y z g u v t : Int) (n d : Nat) (f : Rat) (h : Rat) (Km : World → Prop) (hKm : Keeps Km) (HM : ∀ w, Km w → Calls Tryz.prog 27 #[.slice am nm cm] w fun xe w' => xe = .returned (natV n) ∧ Below w.heap.size w w') (Ka : World → Prop) (hKa : Keeps Ka) (HZ : ∀ w, Ka w → Calls Tryz.prog 28 #[.agg #[.bool sa, .slice aa na ca]] w fun xe w' => xe = .returned (intV b) ∧ Below w.heap.size w w') (HB : ∀ w, Calls Tryz.prog 10 #[intV b, natV n] w fun xe w' => xe = .returned (.tuple #[.agg #[.int .u64 0, .string ⟨#[]⟩, .bool false, .int .u64 0, .string ⟨#[]⟩], .bool false]) ∧ Below w.heap.size w w') (Kx : World → Prop) (hKx : Keeps Kx) (GX : ∀ w, Kx w → Calls Tryz.prog 29 #[.agg #[.bool sx, .slice ax nx cx, .slice qx mx dx]] w fun xe w' => xe = .returned (fracV f) ∧ Below w.heap.size w w') (HY : ∀ w, Calls Tryz.prog 31 #[.bool false, natV n] w fun xe w' => xe = .returned (intV y) ∧ Below w.heap.size w w') (HD : ∀ w, Calls Tryz.prog 18 #[fracV f] w fun xe w' => xe = .returned (natV d) ∧ Below w.heap.size w w') (HE : ∀ w, Calls Tryz.prog 31 #[.bool false, natV d] w fun xe w' => xe = .returned (intV z) ∧ Below w.heap.size w w') (HG : ∀ w, Calls Tryz.prog 30 #[intV y, intV z] w fun xe w' => xe = .returned (.tuple #[intV g, intV u, intV v]) ∧ Below w.heap.size w w') (HO : ∀ w, Calls Tryz.prog 11 #[.int .i64 1] w fun xe w' => xe = .returned (intV g) ∧ Below w.heap.size w w') (HNf : ∀ w, Calls Tryz.prog 16 #[fracV f] w fun xe w' => xe = .returned (.agg #[.int .u64 ((zl f.num : Nat) : Int), .string (zh f.num), .bool (zs f.num)]) ∧ Below w.heap.size w w') (HMl : ∀ w, Calls Tryz.prog 32 #[.agg #[.int .u64 ((zl f.num : Nat) : Int), .string (zh f.num), .bool (zs f.num)], intV v] w fun xe w' => xe = .returned (intV t) ∧ Below w.heap.size w w') (HFt : ∀ w, Calls Tryz.prog 20 #[fracV f, intV t, natV n] w fun xe w' => xe = .returned (.bool true) ∧ Below w.heap.size w w') (HBt : ∀ w, Calls Tryz.prog 10 #[intV t, natV n] w fun xe w' => xe = .returned (.tuple #[fracV h, .bool true]) ∧ Below w.heap.size w w') (HRf : ∀ w, Calls Tryz.prog 22 #[fracV f, natV n] w fun xe w' => xe = .returned (.bool false) ∧ Below w.heap.size w w') (HFh : ∀ w, Calls Tryz.prog 20 #[fracV h, intV t, natV n] w fun xe w' => xe = .returned (.bool true) ∧ Below w.heap.size w w') (HRh : ∀ w, Calls Tryz.prog 22 #[fracV h, natV n] w fun xe w' => xe = .returned (.bool true) ∧ Below w.heap.size w w') (KT : World → Prop) (hKT : Keeps KT) (HW : ∀ w, KT w → Calls Tryz.prog 15 #[] w fun xe w' => xe = .returned (.bool true) ∧ Below w.heap.size w w') (l0 : decide ((4 : Int) < ((nx : Nat) : Int)) = false) (k0 : decide (4 < nx) = false) (l1 : decide ((4 : Int) < ((mx : Nat) : Int)) = false) (k1 : decide (4 < mx) = false) (l2 : decide ((12 : Int) < ((nm : Nat) : Int)) = false) (k2 : decide (12 < nm) = false) (l3 : decide ((12 : Int) < ((na : Nat) : Int)) = false) (k3 : decide (12 < na) = false) (hn0 : n ≠ 0) (hh : h ≠ f) (w : World) (kKm : Km w) (kKa : Ka w) (kKx : Kx w) (kKT : KT w) :
  Calls Tryz.prog 6 #[.agg #[.bool sx, .slice ax nx cx, .slice qx mx dx], .slice am nm cm, .agg #[.bool sa, .slice aa na ca]] w fun xe w' => xe = .returned (.bool true) ∧ Below w.heap.size w w' := by
 have hL0 : GL w w [] := GL.start w
 replace hKm := Lib.hid hKm
 replace HM := Lib.hid HM
 replace hKa := Lib.hid hKa
 replace HZ := Lib.hid HZ
 replace HB := Lib.hid HB
 replace hKx := Lib.hid hKx
 replace GX := Lib.hid GX
 replace HY := Lib.hid HY
 replace HD := Lib.hid HD
 replace HE := Lib.hid HE
 replace HG := Lib.hid HG
 replace HO := Lib.hid HO
 replace HNf := Lib.hid HNf
 replace HMl := Lib.hid HMl
 replace HFt := Lib.hid HFt
 replace HBt := Lib.hid HBt
 replace HRf := Lib.hid HRf
 replace HFh := Lib.hid HFh
 replace HRh := Lib.hid HRh
 replace hKT := Lib.hid hKT
 replace HW := Lib.hid HW
 have hz0 := eq_zeroN hn0
 clear hn0
 have hz1 := ne_fr hh
 clear hh
 rcases hz0 with e0 | ⟨e0, e1⟩ <;> rcases hz1 with g0 | ⟨g0, g1⟩ | ⟨g0, g1, g2⟩ | ⟨g0, g1, g2, g3⟩ | ⟨g0, g1, g2, g3, g4⟩
 all_goals (
  replace hL0 := ((hL0.new rfl [.bool sx, .slice ax nx cx, .slice qx mx dx] 70).new (K := w.heap.size + 1) (szA _ _) [.bool sa, .slice aa na ca] 68)
  generalize hweq : ((w.alloc (.cells #[.bool sx, .slice ax nx cx, .slice qx mx dx] 70)).alloc (.cells #[.bool sa, .slice aa na ca] 68)) = x1 at hL0
  go_enter Tryz.func6, Tryz.ntmps6
  have hN0 := cells_of _ 0 [] rfl (hL0.get _ _ List.mem_cons_self)
  simp only [cellsF, and_true, Nat.zero_add, Nat.reduceAdd] at hN0
  have hN1 := cells_of _ 0 [] rfl (hL0.get _ _ (List.mem_cons_of_mem _ List.mem_cons_self))
  simp only [cellsF, and_true, Nat.zero_add, Nat.reduceAdd] at hN1
  go_upto_region 3 with fail
  have kKm1 := hKm.out.at hL0.bl kKm
  have kKa1 := hKa.out.at hL0.bl kKa
  clear hN0 hN1
  clear hweq
  refine region_gh (by kernel_rfl) (by kernel_rfl) ?_
  refine lex_seg (gl := []) 4 (by kernel_rfl) ?_
  intro α iα F hF1 hF2
  have hq := GL.seg hF1 hL0
  simp only [fcC, cellsC, and_true, Nat.zero_add, Nat.reduceAdd] at hq
  simp only [List.take_succ_cons, List.take_zero, List.drop_succ_cons, List.drop_zero, List.take_nil, List.drop_nil]
  repeat (go_big_quiet_step (first | fail | (go_at_call 27; with_reducible exact seg_callK hKm.out hF1 hF2 kKm1 HM.out _) | (go_at_call 28; with_reducible exact seg_callK hKa.out hF1 hF2 kKa1 HZ.out _)))
  refine wpQuiet_nil ?_
  clear hq hF1 hF2 iα F α
  refine lex_new [.int .u64 0, .string ⟨#[]⟩] 7 26 26 rfl rfl (of_decide_eq_true (by kernel_rfl)) (by kernel_rfl) rfl new_natc ?_
  simp only [Act.put, List.setIfInBounds_toArray, List.set_cons_succ, List.set_cons_zero]
  refine lex_new [.int .u64 0, .string ⟨#[]⟩, .bool false] 8 28 28 rfl rfl (of_decide_eq_true (by kernel_rfl)) (by kernel_rfl) rfl new_int ?_
  simp only [Act.put, List.setIfInBounds_toArray, List.set_cons_succ, List.set_cons_zero]
  refine lex_put [.int .u64 ((lo n : Nat) : Int), .string (hs n)] [.int .u64 0, .string ⟨#[]⟩] 7 26 (.tmp 42) rfl (by kernel_rfl) (by simp [toG, upd]) rfl (fun w k h => put_natc _ _ _ _ w k h) ?_
  simp only [Act.put]
  refine lex_put [.int .u64 ((zl b : Nat) : Int), .string (zh b), .bool (zs b)] [.int .u64 0, .string ⟨#[]⟩, .bool false] 8 28 (.tmp 44) rfl (by kernel_rfl) (by simp [toG, upd]) rfl (fun w k h => put_int _ _ _ _ _ _ w k h) ?_
  simp only [Act.put]
  refine lexG_nil ?_
  intro κ x2 hS
  replace hL0 := hL0.ghs hS [(8, [.int .u64 ((zl b : Nat) : Int), .string (zh b), .bool (zs b)]), (7, [.int .u64 ((lo n : Nat) : Int), .string (hs n)])] (by simp) (by intro p hp; simp only [List.mem_cons, List.not_mem_nil, or_false] at hp; rcases hp with rfl | rfl <;> exact ⟨_, by simp only [toG, upd]; rfl⟩)
  simp only [List.map_cons, List.map_nil, List.cons_append, List.nil_append] at hL0
  simp only [over_toG, over_nil, Act.put, List.setIfInBounds_toArray, List.set_cons_succ, List.set_cons_zero]
  clear hS
  generalize κ 8 = k2_8 at *
  generalize κ 7 = k2_7 at *
  clear kKm1 kKa1
  have hN0 := cells_of _ 0 [] rfl (hL0.get _ _ List.mem_cons_self)
  simp only [cellsF, and_true, Nat.zero_add, Nat.reduceAdd] at hN0
  have hN1 := cells_of _ 0 [] rfl (hL0.get _ _ (List.mem_cons_of_mem _ List.mem_cons_self))
  simp only [cellsF, and_true, Nat.zero_add, Nat.reduceAdd] at hN1
  go_wp2_with fail
  clear hN0 hN1
  with_reducible refine Calls.mono (HB.out _) ?_
  rintro e x3 ⟨rfl, hb⟩
  replace hL0 := hL0.call hb
  clear hb
  replace hL0 := (hL0.new rfl [.int .u64 0, .string ⟨#[]⟩, .bool false, .int .u64 0, .string ⟨#[]⟩] 30)
  generalize hweq : (x3.alloc (.cells #[.int .u64 0, .string ⟨#[]⟩, .bool false, .int .u64 0, .string ⟨#[]⟩] 30)) = x4 at hL0
  have hA := hL0.fc
  simp only [fcG, cellsF, neK, and_true, ne_eq, Nat.zero_add, Nat.reduceAdd] at hA
  have hP := hL0.put 0 (x3.heap.size) _ rfl [.int .u64 0, .string ⟨#[]⟩, .bool false, .int .u64 0, .string ⟨#[]⟩] rfl
  simp only [setAll, List.set_cons_zero, List.set_cons_succ] at hP
  generalize hput1 : (((((x4.setCell ⟨x3.heap.size, 0, none⟩ (.int .u64 0)).setCell ⟨x3.heap.size, 1, none⟩ (.string ⟨#[]⟩)).setCell ⟨x3.heap.size, 2, none⟩ (.bool false)).setCell ⟨x3.heap.size, 3, none⟩ (.int .u64 0)).setCell ⟨x3.heap.size, 4, none⟩ (.string ⟨#[]⟩)) = x5 at hP
  have hB1 := hP.fc
  simp only [fcG, cellsF, neK, and_true, ne_eq, Nat.zero_add, Nat.reduceAdd] at hB1
  replace hL0 := hP
  go_wp2_with fail
  clear hA
  with_reducible refine Calls.mono (GX.out _ (hKx.out.at hL0.bl kKx)) ?_
  rintro e x6 ⟨rfl, hb⟩
  replace hL0 := hL0.call hb
  clear hb hweq hput1 hB1
  replace hL0 := (hL0.new rfl [.int .u64 ((zl f.num : Nat) : Int), .string (zh f.num), .bool (zs f.num), .int .u64 ((lo (fe f) : Nat) : Int), .string (hs (fe f))] 30)
  generalize hweq : (x6.alloc (.cells #[.int .u64 ((zl f.num : Nat) : Int), .string (zh f.num), .bool (zs f.num), .int .u64 ((lo (fe f) : Nat) : Int), .string (hs (fe f))] 30)) = x7 at hL0
  go_upto_region 8 with fail
  clear hweq
  refine region_gh (by kernel_rfl) (by kernel_rfl) ?_
  refine lex_seg (gl := []) 10 (by kernel_rfl) ?_
  intro α iα F hF1 hF2
  have hq := GL.seg hF1 hL0
  simp only [fcC, cellsC, and_true, Nat.zero_add, Nat.reduceAdd] at hq
  simp only [List.take_succ_cons, List.take_zero, List.drop_succ_cons, List.drop_zero, List.take_nil, List.drop_nil]
  repeat (go_big_quiet_step (first | fail | (go_at_call 31; with_reducible exact seg_call hF2 HY.out _) | (go_at_call 18; with_reducible exact seg_call hF2 HD.out _) | (go_at_call 31; with_reducible exact seg_call hF2 HE.out _) | (go_at_call 30; with_reducible exact seg_call hF2 HG.out _)))
  refine wpQuiet_nil ?_
  clear hq hF1 hF2 iα F α
  refine lex_new [.int .u64 0, .string ⟨#[]⟩, .bool false] 12 28 28 rfl rfl (of_decide_eq_true (by kernel_rfl)) (by kernel_rfl) rfl new_int ?_
  simp only [Act.put, List.setIfInBounds_toArray, List.set_cons_succ, List.set_cons_zero]
  refine lex_new [.int .u64 0, .string ⟨#[]⟩, .bool false] 13 28 28 rfl rfl (of_decide_eq_true (by kernel_rfl)) (by kernel_rfl) rfl new_int ?_
  simp only [Act.put, List.setIfInBounds_toArray, List.set_cons_succ, List.set_cons_zero]
  refine lex_new [.int .u64 0, .string ⟨#[]⟩, .bool false] 14 28 28 rfl rfl (of_decide_eq_true (by kernel_rfl)) (by kernel_rfl) rfl new_int ?_
  simp only [Act.put, List.setIfInBounds_toArray, List.set_cons_succ, List.set_cons_zero]
  refine lex_put [.int .u64 ((zl g : Nat) : Int), .string (zh g), .bool (zs g)] [.int .u64 0, .string ⟨#[]⟩, .bool false] 12 28 (.tmp 83) rfl (by kernel_rfl) (by simp [toG, upd]) rfl (fun w k h => put_int _ _ _ _ _ _ w k h) ?_
  simp only [Act.put]
  refine lex_put [.int .u64 ((zl u : Nat) : Int), .string (zh u), .bool (zs u)] [.int .u64 0, .string ⟨#[]⟩, .bool false] 13 28 (.tmp 84) rfl (by kernel_rfl) (by simp [toG, upd]) rfl (fun w k h => put_int _ _ _ _ _ _ w k h) ?_
  simp only [Act.put]
  refine lex_put [.int .u64 ((zl v : Nat) : Int), .string (zh v), .bool (zs v)] [.int .u64 0, .string ⟨#[]⟩, .bool false] 14 28 (.tmp 85) rfl (by kernel_rfl) (by simp [toG, upd]) rfl (fun w k h => put_int _ _ _ _ _ _ w k h) ?_
  simp only [Act.put]
  refine lexG_nil ?_
  intro κ x8 hS
  replace hL0 := hL0.ghs hS [(14, [.int .u64 ((zl v : Nat) : Int), .string (zh v), .bool (zs v)]), (13, [.int .u64 ((zl u : Nat) : Int), .string (zh u), .bool (zs u)]), (12, [.int .u64 ((zl g : Nat) : Int), .string (zh g), .bool (zs g)])] (by simp) (by intro p hp; simp only [List.mem_cons, List.not_mem_nil, or_false] at hp; rcases hp with rfl | rfl | rfl <;> exact ⟨_, by simp only [toG, upd]; rfl⟩)
  simp only [List.map_cons, List.map_nil, List.cons_append, List.nil_append] at hL0
  simp only [over_toG, over_nil, Act.put, List.setIfInBounds_toArray, List.set_cons_succ, List.set_cons_zero]
  clear hS
  generalize κ 14 = k8_14 at *
  generalize κ 13 = k8_13 at *
  generalize κ 12 = k8_12 at *
  go_upto_region 9 with fail
  obtain ⟨α, iα, F, hF1, hF2⟩ := cls x8
  have hq0 := cls_box hF1 hL0 _ _ (List.mem_cons_of_mem _ (List.mem_cons_of_mem _ List.mem_cons_self))
  simp only [cellsC, and_true, Nat.zero_add, Nat.reduceAdd] at hq0
  have hq1 := cls_box hF1 hL0 _ _ (List.mem_cons_of_mem _ (List.mem_cons_of_mem _ (List.mem_cons_of_mem _ (List.mem_cons_of_mem _ (List.mem_cons_of_mem _ (List.mem_cons_of_mem _ List.mem_cons_self))))))
  simp only [cellsC, and_true, Nat.zero_add, Nat.reduceAdd] at hq1
  refine region_qs 8 (C := fun w' => ∃ x, w' = F x) (by kernel_rfl) (by kernel_rfl) (cls_drew hF2) ?_
  simp only [List.take_succ_cons, List.take_zero, List.drop_succ_cons, List.drop_zero, List.take_nil, List.drop_nil]
  repeat (go_big_quiet_step (first | fail | (go_at_call 11; with_reducible exact cls_call hF1 hF2 HO.out _)))
  refine wpQuiet_nil ?_
  rintro wq ⟨xq, rfl⟩
  replace hL0 := hL0.call (hF1 xq)
  clear  hq0 hq1 hF2
  generalize F xq = x9 at hL0 ⊢
  clear hF1 xq iα F α
  go_upto_region 11 with fail
  refine region_gh (by kernel_rfl) (by kernel_rfl) ?_
  refine lex_seg (gl := []) 4 (by kernel_rfl) ?_
  intro α iα F hF1 hF2
  have hq := GL.seg hF1 hL0
  simp only [fcC, cellsC, and_true, Nat.zero_add, Nat.reduceAdd] at hq
  simp only [List.take_succ_cons, List.take_zero, List.drop_succ_cons, List.drop_zero, List.take_nil, List.drop_nil]
  repeat (go_big_quiet_step (first | fail | (go_at_call 16; with_reducible exact seg_call hF2 HNf.out _) | (go_at_call 32; with_reducible exact seg_call hF2 HMl.out _)))
  refine wpQuiet_nil ?_
  clear hq hF1 hF2 iα F α
  refine lex_new [.int .u64 0, .string ⟨#[]⟩, .bool false] 15 28 28 rfl rfl (of_decide_eq_true (by kernel_rfl)) (by kernel_rfl) rfl new_int ?_
  simp only [Act.put, List.setIfInBounds_toArray, List.set_cons_succ, List.set_cons_zero]
  refine lex_put [.int .u64 ((zl t : Nat) : Int), .string (zh t), .bool (zs t)] [.int .u64 0, .string ⟨#[]⟩, .bool false] 15 28 (.tmp 98) rfl (by kernel_rfl) (by simp [toG, upd]) rfl (fun w k h => put_int _ _ _ _ _ _ w k h) ?_
  simp only [Act.put]
  refine lexG_nil ?_
  intro κ x10 hS
  replace hL0 := hL0.ghs hS [(15, [.int .u64 ((zl t : Nat) : Int), .string (zh t), .bool (zs t)])] (by simp) (by intro p hp; simp only [List.mem_cons, List.not_mem_nil, or_false] at hp; rcases hp with rfl <;> exact ⟨_, by simp only [toG, upd]; rfl⟩)
  simp only [List.map_cons, List.map_nil, List.cons_append, List.nil_append] at hL0
  simp only [over_toG, over_nil, Act.put, List.setIfInBounds_toArray, List.set_cons_succ, List.set_cons_zero]
  clear hS
  generalize κ 15 = k10_15 at *
  have hN0 := cells_of _ 0 [] rfl (hL0.get _ _ List.mem_cons_self)
  simp only [cellsF, and_true, Nat.zero_add, Nat.reduceAdd] at hN0
  have hN1 := cells_of _ 0 [] rfl (hL0.get _ _ (List.mem_cons_of_mem _ (List.mem_cons_of_mem _ (List.mem_cons_of_mem _ (List.mem_cons_of_mem _ List.mem_cons_self)))))
  simp only [cellsF, and_true, Nat.zero_add, Nat.reduceAdd] at hN1
  have hN2 := cells_of _ 0 [] rfl (hL0.get _ _ (List.mem_cons_of_mem _ (List.mem_cons_of_mem _ (List.mem_cons_of_mem _ (List.mem_cons_of_mem _ (List.mem_cons_of_mem _ (List.mem_cons_of_mem _ (List.mem_cons_of_mem _ List.mem_cons_self))))))))
  simp only [cellsF, and_true, Nat.zero_add, Nat.reduceAdd] at hN2
  go_wp2_with fail
  clear hN0 hN1 hN2
  with_reducible refine Calls.mono (HFt.out _) ?_
  rintro e x11 ⟨rfl, hb⟩
  replace hL0 := hL0.call hb
  clear hb
  have hN0 := cells_of _ 0 [] rfl (hL0.get _ _ List.mem_cons_self)
  simp only [cellsF, and_true, Nat.zero_add, Nat.reduceAdd] at hN0
  have hN1 := cells_of _ 0 [] rfl (hL0.get _ _ (List.mem_cons_of_mem _ (List.mem_cons_of_mem _ (List.mem_cons_of_mem _ (List.mem_cons_of_mem _ (List.mem_cons_of_mem _ (List.mem_cons_of_mem _ (List.mem_cons_of_mem _ List.mem_cons_self))))))))
  simp only [cellsF, and_true, Nat.zero_add, Nat.reduceAdd] at hN1
  go_wp2_with fail
  clear hN0 hN1
  with_reducible refine Calls.mono (HBt.out _) ?_
  rintro e x12 ⟨rfl, hb⟩
  replace hL0 := hL0.call hb
  clear hb
  replace hL0 := (hL0.new rfl [.int .u64 ((zl h.num : Nat) : Int), .string (zh h.num), .bool (zs h.num), .int .u64 ((lo (fe h) : Nat) : Int), .string (hs (fe h))] 30)
  generalize hweq : (x12.alloc (.cells #[.int .u64 ((zl h.num : Nat) : Int), .string (zh h.num), .bool (zs h.num), .int .u64 ((lo (fe h) : Nat) : Int), .string (hs (fe h))] 30)) = x13 at hL0
  have hN0 := cells_of _ 0 [] rfl (hL0.get _ _ (List.mem_cons_of_mem _ (List.mem_cons_of_mem _ (List.mem_cons_of_mem _ (List.mem_cons_of_mem _ (List.mem_cons_of_mem _ List.mem_cons_self))))))
  simp only [cellsF, and_true, Nat.zero_add, Nat.reduceAdd] at hN0
  have hN1 := cells_of _ 0 [] rfl (hL0.get _ _ (List.mem_cons_of_mem _ (List.mem_cons_of_mem _ (List.mem_cons_of_mem _ (List.mem_cons_of_mem _ (List.mem_cons_of_mem _ (List.mem_cons_of_mem _ (List.mem_cons_of_mem _ (List.mem_cons_of_mem _ List.mem_cons_self)))))))))
  simp only [cellsF, and_true, Nat.zero_add, Nat.reduceAdd] at hN1
  go_wp2_with fail
  clear hN0 hN1
  with_reducible refine Calls.mono (HRf.out _) ?_
  rintro e x14 ⟨rfl, hb⟩
  replace hL0 := hL0.call hb
  clear hb hweq
  have hN0 := cells_of _ 0 [] rfl (hL0.get _ _ List.mem_cons_self)
  simp only [cellsF, and_true, Nat.zero_add, Nat.reduceAdd] at hN0
  have hN1 := cells_of _ 0 [] rfl (hL0.get _ _ (List.mem_cons_of_mem _ List.mem_cons_self))
  simp only [cellsF, and_true, Nat.zero_add, Nat.reduceAdd] at hN1
  have hN2 := cells_of _ 0 [] rfl (hL0.get _ _ (List.mem_cons_of_mem _ (List.mem_cons_of_mem _ (List.mem_cons_of_mem _ (List.mem_cons_of_mem _ (List.mem_cons_of_mem _ List.mem_cons_self))))))
  simp only [cellsF, and_true, Nat.zero_add, Nat.reduceAdd] at hN2
  have hN3 := cells_of _ 0 [] rfl (hL0.get _ _ (List.mem_cons_of_mem _ (List.mem_cons_of_mem _ (List.mem_cons_of_mem _ (List.mem_cons_of_mem _ (List.mem_cons_of_mem _ (List.mem_cons_of_mem _ (List.mem_cons_of_mem _ (List.mem_cons_of_mem _ List.mem_cons_self)))))))))
  simp only [cellsF, and_true, Nat.zero_add, Nat.reduceAdd] at hN3
  go_wp2_with fail
  clear hN0 hN1 hN2 hN3
  with_reducible refine Calls.mono (HFh.out _) ?_
  rintro e x15 ⟨rfl, hb⟩
  replace hL0 := hL0.call hb
  clear hb
  have hN0 := cells_of _ 0 [] rfl (hL0.get _ _ List.mem_cons_self)
  simp only [cellsF, and_true, Nat.zero_add, Nat.reduceAdd] at hN0
  have hN1 := cells_of _ 0 [] rfl (hL0.get _ _ (List.mem_cons_of_mem _ (List.mem_cons_of_mem _ (List.mem_cons_of_mem _ (List.mem_cons_of_mem _ (List.mem_cons_of_mem _ (List.mem_cons_of_mem _ (List.mem_cons_of_mem _ (List.mem_cons_of_mem _ List.mem_cons_self)))))))))
  simp only [cellsF, and_true, Nat.zero_add, Nat.reduceAdd] at hN1
  go_wp2_with fail
  clear hN0 hN1
  with_reducible refine Calls.mono (HRh.out _) ?_
  rintro e x16 ⟨rfl, hb⟩
  replace hL0 := hL0.call hb
  clear hb
  go_wp2_with fail
  with_reducible refine Calls.mono (HW.out _ (hKT.out.at hL0.bl kKT)) ?_
  rintro e x17 ⟨rfl, hb⟩
  replace hL0 := hL0.call hb
  clear hb
  go_wp2_with fail
  exact bodyPost_ret (v := .bool true) (by simp [results, Tryz.results6, go_sem]) rfl ⟨rfl, hL0.bl⟩)
end Go.Proofs.YtloipmieaefcpaaGreatDoor
namespace Go.Proofs.YtloipmieaefcpaaGreatDoor
open Go.RowKit
attribute [local irreducible] lo hs sm s64 c64 d64 b64 mh ml pd pc qd qc val hiB str cmpI srD lz nb isq zl zh zs
/-- The residue of a fraction whose denominator has an inverse. -/
theorem fits_at {q : Rat} {n : Nat} {u v : Int} (hn : n ≠ 0) (hb : (n : Int) * u + (q.den : Int) * v = 1) : fitsB q (q.num * v) n = true := by
 rw [fitsB_iff]
 refine ⟨by omega, ⟨q.num * u, ?_⟩⟩
 have e : q.num - q.num * v * (q.den : Int) = q.num * (1 - (q.den : Int) * v) := by grind
 rw [e, show 1 - (q.den : Int) * v = (n : Int) * u by omega]
 grind
theorem pth_any (sx sa : Bool) (ax qx am aa : Option Addr) (nx cx mx dx nm cm na ca : Nat) (lx kx lm la : List Nat) (w : World) (hT : Tab w)
  (hwx : Ws w (.slice ax nx cx) lx) (hvx : Ws w (.slice qx mx dx) kx) (hm : Ws w (.slice am nm cm) lm) (ha : Ws w (.slice aa na ca) la) :
  Calls Tryz.prog 6 #[.agg #[.bool sx, .slice ax nx cx, .slice qx mx dx], .slice am nm cm, .agg #[.bool sa, .slice aa na ca]] w fun xe w' => xe = .returned (.bool true) ∧ Below w.heap.size w w' := by
 have e1 := hwx.len
 have e2 := hvx.len
 have e3 := hm.len
 have e4 := ha.len
 have T {k n : Nat} (h : k < n) : decide ((k : Int) < ((n : Nat) : Int)) = true ∧ decide (k < n) = true := ⟨decide_eq_true (by omega), decide_eq_true h⟩
 have F {k n : Nat} (h : ¬ k < n) : decide ((k : Int) < ((n : Nat) : Int)) = false ∧ decide (k < n) = false := ⟨decide_eq_false (by omega), decide_eq_false h⟩
 by_cases h1 : 4 < nx
 ·exact pth_big0 sx sa ax qx am aa nx cx mx dx nm cm na ca Tab Keeps.tab pworks_any (T h1).1 (T h1).2 w hT
 by_cases h2 : 4 < mx
 ·exact pth_big1 sx sa ax qx am aa nx cx mx dx nm cm na ca Tab Keeps.tab pworks_any (F h1).1 (F h1).2 (T h2).1 (T h2).2 w hT
 by_cases h3 : 12 < nm
 ·exact pth_big2 sx sa ax qx am aa nx cx mx dx nm cm na ca Tab Keeps.tab pworks_any (F h1).1 (F h1).2 (F h2).1 (F h2).2 (T h3).1 (T h3).2 w hT
 by_cases h4 : 12 < na
 ·exact pth_big3 sx sa ax qx am aa nx cx mx dx nm cm na ca Tab Keeps.tab pworks_any (F h1).1 (F h1).2 (F h2).1 (F h2).2 (F h3).1 (F h3).2 (T h4).1 (T h4).2 w hT
 have sf : Sz (gmade sx lx kx) 5 := gmade_sz (by omega) hwx hvx (by omega) (by omega)
 have sn : (digs (made lm)).length ≤ 12 := Nat.le_trans (made_sz hm.lt) (by omega)
 have db : dI (zmade sa la) ≤ 12 := Nat.le_trans (zmade_dI (s := sa) ha.lt) (by omega)
 have GX : ∀ w, (Ws w (.slice ax nx cx) lx ∧ Ws w (.slice qx mx dx) kx) → _ := fun w h => gof_any sx ax qx nx cx mx dx lx kx (by omega) (by omega) w h.1 h.2
 have HM : ∀ w, Ws w (.slice am nm cm) lm → _ := fun w h => made_any (.slice am nm cm) lm (by omega) w h
 have HZ : ∀ w, Ws w (.slice aa na ca) la → _ := fun w h => zof_any sa aa na ca la (by omega) w h
 generalize gmade sx lx kx = f at *
 generalize made lm = n at *
 generalize zmade sa la = b at *
 have dn : dI (n : Int) ≤ 12 := by rw [dI_nat]; exact sn
 have dd : dI (f.den : Int) ≤ 12 := by rw [dI_nat]; have := sf.d; omega
 have HB := fun w => backP b n (by omega) (by omega) w
 have HY := fun w => fromI false n (n : Int) rfl w
 have HD := fun w => denF f w
 have HE := fun w => fromI false f.den (f.den : Int) rfl w
 have HG := fun w => gcdI (n : Int) (f.den : Int) (by omega) (by omega) w
 obtain ⟨bz, hg⟩ := xgcd_bez _ (n : Int) (f.den : Int) (Nat.le_refl _)
 rw [Int.natAbs_natCast, Int.natAbs_natCast] at hg
 have dv : dI (xgcd (n : Int) (f.den : Int)).2.2 ≤ 40 := by
  have hd0 : (f.den : Int) ≠ 0 := by have := f.den_pos; omega
  obtain ⟨q1, q2⟩ := xgcd_sz dn dd
  rw [← xgcd_y hd0]
  refine Nat.le_trans (dI_mono (Int.natAbs_ediv_le_natAbs _ _)) ?_
  exact Nat.le_trans (dI_sub (k := 26) (by omega) (Nat.le_trans (dI_mul dn q2) (by omega))) (by omega)
 have H1 := fun w => ofI 1 (by decide) (by decide) w
 have p1 := F h1; have p2 := F h2; have p3 := F h3; have p4 := F h4
 generalize hx : (xgcd (n : Int) (f.den : Int)).1 = g at *
 generalize (xgcd (n : Int) (f.den : Int)).2.1 = u at *
 generalize (xgcd (n : Int) (f.den : Int)).2.2 = v at *
 have HNf := fun w => numF f w
 have fn := sf.n
 have HMl := fun w => mulI f.num v (by omega) (by omega) w
 have dt : dI (f.num * v) ≤ 45 := Nat.le_trans (dI_mul fn dv) (by omega)
 have HFt := fun w => fitsP f (f.num * v) n 45 (sf.mono (by omega)) dt (by omega) (by omega) w
 have HBt := fun w => backP (f.num * v) n (by omega) (by omega) w
 have HRf := fun w => farP f n 5 sf (by omega) w
 have sq := back_sz (f.num * v) n 12 (by omega) sn
 have HFh := fun w => fitsP (backQ (f.num * v) n) (f.num * v) n 45 (sq.mono (by omega)) dt (by omega) (by omega) w
 have HRh := fun w => farP (backQ (f.num * v) n) n 12 sq (by omega) w
 have hz : n = 0 → ((((lo n : Nat) : Int) == 0) = true ∧ ((hs n).toList == []) = true) := fun e => by
  subst e
  rw [show lo 0 = 0 from lo_small Bs_pos, show hs 0 = ⟨#[]⟩ from hs_small Bs_pos]
  exact ⟨rfl, by decide +kernel⟩
 have hR : farB f n = true → g = 1 → n ≠ 0 → backB (f.num * v) n = true ∧ backQ (f.num * v) n = f := fun c hg1 hn0 => back_find (fits_at hn0 (by rw [bz, hg1])) c
 have hR2 : g = 1 → n ≠ 0 → fitsB f (f.num * v) n = true := fun hg1 hn0 => fits_at hn0 (by rw [bz, hg1])
 cases cb : backB b n with
 | true =>
  obtain ⟨c1, c2⟩ := backB_true cb
  have sb := back_sz b n 12 (by omega) sn
  have HF := fun w => fitsP (backQ b n) b n 12 sb (by omega) (by omega) (by omega) w
  have HR := fun w => farP (backQ b n) n 12 sb (by omega) w
  rw [c1] at HF
  rw [c2] at HR
  rw [cb] at HB
  by_cases hg1 : g = 1
  ·subst hg1
   by_cases hn0 : n = 0
   ·obtain ⟨z0, z1⟩ := hz hn0
    exact pth_y_z sx sa ax qx am aa nx cx mx dx nm cm na ca b n f.den 1 u v n f.den _ f _ (Keeps.ws _ lm) HM _ (Keeps.ws _ la) HZ HB HF HR _ (gpairP _ _ lx kx) GX HY HD HE HG H1 Tab Keeps.tab pworks_any p1.1 p1.2 p2.1 p2.2 p3.1 p3.2 p4.1 p4.2 z0 z1 w hm ha ⟨hwx, hvx⟩ hT
   ·have t1 := hR2 rfl hn0
    rw [t1] at HFt
    cases cf : farB f n with
    | true =>
     obtain ⟨t2, t3⟩ := hR cf rfl hn0
     rw [t2, t3] at HBt
     rw [cf] at HRf
     exact pth_y_far sx sa ax qx am aa nx cx mx dx nm cm na ca b n f.den 1 u v _ n f.den _ f _ (Keeps.ws _ lm) HM _ (Keeps.ws _ la) HZ HB HF HR _ (gpairP _ _ lx kx) GX HY HD HE HG H1 HNf HMl HFt HBt HRf Tab Keeps.tab pworks_any p1.1 p1.2 p2.1 p2.2 p3.1 p3.2 p4.1 p4.2 hn0 w hm ha ⟨hwx, hvx⟩ hT
    | false =>
     rw [cf] at HRf
     cases ct : backB (f.num * v) n with
     | false =>
      rw [ct, backB_false ct, frV_q0] at HBt
      exact pth_y_none sx sa ax qx am aa nx cx mx dx nm cm na ca b n f.den 1 u v _ n f.den _ f _ (Keeps.ws _ lm) HM _ (Keeps.ws _ la) HZ HB HF HR _ (gpairP _ _ lx kx) GX HY HD HE HG H1 HNf HMl HFt HBt HRf Tab Keeps.tab pworks_any p1.1 p1.2 p2.1 p2.2 p3.1 p3.2 p4.1 p4.2 hn0 w hm ha ⟨hwx, hvx⟩ hT
     | true =>
      obtain ⟨d1, d2⟩ := backB_true ct
      rw [ct] at HBt
      rw [d1] at HFh
      rw [d2] at HRh
      exact pth_y_other sx sa ax qx am aa nx cx mx dx nm cm na ca b n f.den 1 u v _ n f.den _ f _ _ (Keeps.ws _ lm) HM _ (Keeps.ws _ la) HZ HB HF HR _ (gpairP _ _ lx kx) GX HY HD HE HG H1 HNf HMl HFt HBt HRf HFh HRh Tab Keeps.tab pworks_any p1.1 p1.2 p2.1 p2.2 p3.1 p3.2 p4.1 p4.2 hn0 (fun e => by rw [e, cf] at d2; cases d2) w hm ha ⟨hwx, hvx⟩ hT
  ·exact pth_y_g sx sa ax qx am aa nx cx mx dx nm cm na ca b n f.den g u v 1 n f.den _ f _ (Keeps.ws _ lm) HM _ (Keeps.ws _ la) HZ HB HF HR _ (gpairP _ _ lx kx) GX HY HD HE HG H1 Tab Keeps.tab pworks_any p1.1 p1.2 p2.1 p2.2 p3.1 p3.2 p4.1 p4.2 hg1 w hm ha ⟨hwx, hvx⟩ hT
 | false =>
  rw [cb, backB_false cb, frV_q0] at HB
  by_cases hg1 : g = 1
  ·subst hg1
   by_cases hn0 : n = 0
   ·obtain ⟨z0, z1⟩ := hz hn0
    exact pth_n_z sx sa ax qx am aa nx cx mx dx nm cm na ca b n f.den 1 u v n f.den f _ (Keeps.ws _ lm) HM _ (Keeps.ws _ la) HZ HB _ (gpairP _ _ lx kx) GX HY HD HE HG H1 Tab Keeps.tab pworks_any p1.1 p1.2 p2.1 p2.2 p3.1 p3.2 p4.1 p4.2 z0 z1 w hm ha ⟨hwx, hvx⟩ hT
   ·have t1 := hR2 rfl hn0
    rw [t1] at HFt
    cases cf : farB f n with
    | true =>
     obtain ⟨t2, t3⟩ := hR cf rfl hn0
     rw [t2, t3] at HBt
     rw [cf] at HRf
     exact pth_n_far sx sa ax qx am aa nx cx mx dx nm cm na ca b n f.den 1 u v _ n f.den f _ (Keeps.ws _ lm) HM _ (Keeps.ws _ la) HZ HB _ (gpairP _ _ lx kx) GX HY HD HE HG H1 HNf HMl HFt HBt HRf Tab Keeps.tab pworks_any p1.1 p1.2 p2.1 p2.2 p3.1 p3.2 p4.1 p4.2 hn0 w hm ha ⟨hwx, hvx⟩ hT
    | false =>
     rw [cf] at HRf
     cases ct : backB (f.num * v) n with
     | false =>
      rw [ct, backB_false ct, frV_q0] at HBt
      exact pth_n_none sx sa ax qx am aa nx cx mx dx nm cm na ca b n f.den 1 u v _ n f.den f _ (Keeps.ws _ lm) HM _ (Keeps.ws _ la) HZ HB _ (gpairP _ _ lx kx) GX HY HD HE HG H1 HNf HMl HFt HBt HRf Tab Keeps.tab pworks_any p1.1 p1.2 p2.1 p2.2 p3.1 p3.2 p4.1 p4.2 hn0 w hm ha ⟨hwx, hvx⟩ hT
     | true =>
      obtain ⟨d1, d2⟩ := backB_true ct
      rw [ct] at HBt
      rw [d1] at HFh
      rw [d2] at HRh
      exact pth_n_other sx sa ax qx am aa nx cx mx dx nm cm na ca b n f.den 1 u v _ n f.den f _ _ (Keeps.ws _ lm) HM _ (Keeps.ws _ la) HZ HB _ (gpairP _ _ lx kx) GX HY HD HE HG H1 HNf HMl HFt HBt HRf HFh HRh Tab Keeps.tab pworks_any p1.1 p1.2 p2.1 p2.2 p3.1 p3.2 p4.1 p4.2 hn0 (fun e => by rw [e, cf] at d2; cases d2) w hm ha ⟨hwx, hvx⟩ hT
  ·exact pth_n_g sx sa ax qx am aa nx cx mx dx nm cm na ca b n f.den g u v 1 n f.den f _ (Keeps.ws _ lm) HM _ (Keeps.ws _ la) HZ HB _ (gpairP _ _ lx kx) GX HY HD HE HG H1 Tab Keeps.tab pworks_any p1.1 p1.2 p2.1 p2.2 p3.1 p3.2 p4.1 p4.2 hg1 w hm ha ⟨hwx, hvx⟩ hT
end Go.Proofs.YtloipmieaefcpaaGreatDoor
namespace Go.Proofs.YtloipmieaefcpaaGreatDoor
open Go.ChangeShapes Go.WideShapes Go.ChangeAt Go.RowKit Go.Joins
set_option maxRecDepth 100000 in
theorem z_of {H : Type} {enc : TypeId × Value → H} {W : World} {base : Nat} {v : Value} {d : DataW H} {p : List MemPlace} (hv : Value.okWide Tryz.prog W .any base 68 v)
  (h : DataW.Trod enc Tryz.prog W 0 (fun _ => true) true 68 v d p) : ∃ s a n c l, v = .agg #[.bool s, .slice a n c] ∧ Ws W (.slice a n c) l := by
 obtain ⟨v0, v1, y0, y1, m, rfl, rfl, rfl, h0, h1⟩ := open_agg2 Tryz.underlying68 (by kernel_rfl) cellsZ hv h
 obtain ⟨s, e0, -⟩ := DataW.trod_bool Tryz.underlying4 h0
 obtain ⟨a, n, c, l, rfl, hw⟩ := ws_of_trod h1
 simp only [List.cons.injEq, and_true] at e0
 subst e0
 exact ⟨s, a, n, c, l, rfl, hw⟩
end Go.Proofs.YtloipmieaefcpaaGreatDoor
