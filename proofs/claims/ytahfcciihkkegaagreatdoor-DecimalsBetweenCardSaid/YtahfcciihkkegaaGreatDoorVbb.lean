/-
  The law answers true at every input, and leaves its arguments as they were: a part of the proof. CONDITIONS: the package-level tables start as the program's text lays them (the card ties them).
-/
import Derived.Test.YtahfcciihkkegaaGreatDoorVba
set_option linter.unusedVariables false
set_option linter.unusedSimpArgs false
namespace Go.Proofs.YtahfcciihkkegaaGreatDoor
open Go.RowKit
attribute [local irreducible] lo hs sm s64 c64 d64 b64 mh ml pd pc qd qc val hiB str cmpI srD lz nb isq decB zl zh zs fe
set_option maxHeartbeats 4000000 in
set_option maxRecDepth 100000 in
theorem dbetween_high (sx : Bool) (ax qx : Option Addr) (nx cx mx dx : Nat) (p8 n i1 j1 k3 : Int) (q st lw hg z1 y1 wh tw dd ab aw s2 tt : Rat) (Kx : World → Prop) (hKx : Keeps Kx) (GX : ∀ w, Kx w → Calls Tryz.prog 13 #[.agg #[.bool sx, .slice ax nx cx, .slice qx mx dx]] w fun xe w' => xe = .returned (fracV q) ∧ Below w.heap.size w w') (HP : ∀ w, Calls Tryz.prog 25 #[.int .i64 n] w fun xe w' => xe = .returned (fracV st) ∧ Below w.heap.size w w') (HB : ∀ w, Calls Tryz.prog 26 #[fracV q, .int .i64 n] w fun xe w' => xe = .returned (.tuple #[fracV lw, fracV hg, .int .i64 0]) ∧ Below w.heap.size w w') (HR : ∀ w, Calls Tryz.prog 12 #[fracV q, .int .i64 n, .int .i64 3] w fun xe w' => xe = .returned (.tuple #[fracV hg, .int .i64 0]) ∧ Below w.heap.size w w') (D1 : ∀ w, Calls Tryz.prog 27 #[fracV lw, fracV st] w fun xe w' => xe = .returned (.tuple #[fracV y1, .int .i64 0]) ∧ Below w.heap.size w w') (D2 : ∀ w, Calls Tryz.prog 27 #[fracV hg, fracV st] w fun xe w' => xe = .returned (.tuple #[fracV z1, .int .i64 0]) ∧ Below w.heap.size w w') (D3 : ∀ w, Calls Tryz.prog 27 #[fracV q, fracV st] w fun xe w' => xe = .returned (.tuple #[fracV wh, .int .i64 0]) ∧ Below w.heap.size w w') (W1 : ∀ w, Calls Tryz.prog 28 #[fracV y1] w fun xe w' => xe = .returned (.bool true) ∧ Below w.heap.size w w') (W2 : ∀ w, Calls Tryz.prog 28 #[fracV z1] w fun xe w' => xe = .returned (.bool true) ∧ Below w.heap.size w w') (C1 : ∀ w, Calls Tryz.prog 29 #[fracV lw, fracV q] w fun xe w' => xe = .returned (.int .i64 i1) ∧ Below w.heap.size w w') (C2 : ∀ w, Calls Tryz.prog 29 #[fracV hg, fracV q] w fun xe w' => xe = .returned (.int .i64 j1) ∧ Below w.heap.size w w') (W3 : ∀ w, Calls Tryz.prog 28 #[fracV wh] w fun xe w' => xe = .returned (.bool false) ∧ Below w.heap.size w w') (S1 : ∀ w, Calls Tryz.prog 30 #[fracV hg, fracV lw] w fun xe w' => xe = .returned (fracV st) ∧ Below w.heap.size w w') (I2 : ∀ w, Calls Tryz.prog 32 #[.int .i64 2] w fun xe w' => xe = .returned (fracV tw) ∧ Below w.heap.size w w') (S2 : ∀ w, Calls Tryz.prog 30 #[fracV hg, fracV q] w fun xe w' => xe = .returned (fracV dd) ∧ Below w.heap.size w w') (A1 : ∀ w, Calls Tryz.prog 33 #[fracV dd] w fun xe w' => xe = .returned (fracV ab) ∧ Below w.heap.size w w') (M1 : ∀ w, Calls Tryz.prog 31 #[fracV tw, fracV ab] w fun xe w' => xe = .returned (fracV aw) ∧ Below w.heap.size w w') (M2 : ∀ w, Calls Tryz.prog 31 #[fracV tw, fracV st] w fun xe w' => xe = .returned (fracV s2) ∧ Below w.heap.size w w') (D4 : ∀ w, Calls Tryz.prog 27 #[fracV hg, fracV s2] w fun xe w' => xe = .returned (.tuple #[fracV tt, .int .i64 0]) ∧ Below w.heap.size w w') (C3 : ∀ w, Calls Tryz.prog 29 #[fracV aw, fracV st] w fun xe w' => xe = .returned (.int .i64 k3) ∧ Below w.heap.size w w') (KT : World → Prop) (hKT : Keeps KT) (HW : ∀ w, KT w → Calls Tryz.prog 11 #[] w fun xe w' => xe = .returned (.bool true) ∧ Below w.heap.size w w') (l0 : decide ((6 : Int) < ((nx : Nat) : Int)) = false) (k0 : decide (6 < nx) = false) (l1 : decide ((6 : Int) < ((mx : Nat) : Int)) = false) (k1 : decide (6 < mx) = false) (hw : IntKind.i64.wrap p8 = p8) (hn : p8.tmod 101 = n) (g1 : decide (0 < i1) = false) (g2 : decide (j1 < 0) = false) (g3 : decide (0 < k3) = false) (HO : ∀ i : Nat, 1 ≤ i → i ≤ 3 → ∃ r : Rat, (∀ w, Calls Tryz.prog 12 #[fracV q, .int .i64 n, .int .i64 (i : Int)] w fun xe w' => xe = .returned (.tuple #[fracV r, .int .i64 0]) ∧ Below w.heap.size w w') ∧ (∀ w, Calls Tryz.prog 12 #[fracV r, .int .i64 n, .int .i64 (i : Int)] w fun xe w' => xe = .returned (.tuple #[fracV r, .int .i64 0]) ∧ Below w.heap.size w w')) (hlh : lw ≠ hg) (W4 : aw = st → ∀ w, Calls Tryz.prog 28 #[fracV tt] w fun xe w' => xe = .returned (.bool true) ∧ Below w.heap.size w w') (w : World) (kKx : Kx w) (kKT : KT w) :
  Calls Tryz.prog 6 #[.agg #[.bool sx, .slice ax nx cx, .slice qx mx dx], .int .u8 p8] w fun e w' => e = .returned (.bool true) ∧ Below w.heap.size w w' := by
 replace hKx := Lib.hid hKx
 replace GX := Lib.hid GX
 replace HP := Lib.hid HP
 replace HB := Lib.hid HB
 replace HR := Lib.hid HR
 replace D1 := Lib.hid D1
 replace D2 := Lib.hid D2
 replace D3 := Lib.hid D3
 replace W1 := Lib.hid W1
 replace W2 := Lib.hid W2
 replace C1 := Lib.hid C1
 replace C2 := Lib.hid C2
 replace W3 := Lib.hid W3
 replace S1 := Lib.hid S1
 replace I2 := Lib.hid I2
 replace S2 := Lib.hid S2
 replace A1 := Lib.hid A1
 replace M1 := Lib.hid M1
 replace M2 := Lib.hid M2
 replace D4 := Lib.hid D4
 replace C3 := Lib.hid C3
 replace hKT := Lib.hid hKT
 replace HW := Lib.hid HW
 have hL0 : GL w w [] := GL.start w
 have hS : SS w [] := SS.nil w
 replace HO := Lib.hid HO
 have G1 : i1 ≤ 0 := by have := of_decide_eq_false g1; omega
 have G2 : 0 ≤ j1 := by have := of_decide_eq_false g2; omega
 replace hlh := Lib.hid hlh
 replace W4 := Lib.hid W4
 replace hS := (hS.new (.cells #[.bool sx, .slice ax nx cx, .slice qx mx dx] 26))
 replace hL0 := (hL0.new rfl [.bool sx, .slice ax nx cx, .slice qx mx dx] 26)
 generalize hweq : (w.alloc (.cells #[.bool sx, .slice ax nx cx, .slice qx mx dx] 26)) = x1 at hL0 hS
 go_enter Tryz.func6, Tryz.ntmps6
 have hN0 := cells_of _ 0 [] rfl (hL0.get _ _ List.mem_cons_self)
 simp only [cellsF, and_true, Nat.zero_add, Nat.reduceAdd] at hN0
 go_wp2_with fail
 clear hN0
 with_reducible refine Calls.mono (GX.out _ (hKx.out.at hL0.bl kKx)) ?_
 rintro e x2 ⟨rfl, hb⟩
 replace hL0 := hL0.call hb
 replace hS := hS.call hb
 clear hb hweq
 go_wp2_with fail
 with_reducible refine Calls.mono (HP.out _) ?_
 rintro e x3 ⟨rfl, hb⟩
 replace hL0 := hL0.call hb
 replace hS := hS.call hb
 clear hb
 replace hS := ((hS.new (.cells #[.int .u64 ((zl q.num : Nat) : Int), .string (zh q.num), .bool (zs q.num), .int .u64 ((lo (fe q) : Nat) : Int), .string (hs (fe q))] 34)).new (.cells #[.int .u64 ((zl st.num : Nat) : Int), .string (zh st.num), .bool (zs st.num), .int .u64 ((lo (fe st) : Nat) : Int), .string (hs (fe st))] 34))
 replace hL0 := ((hL0.new rfl [.int .u64 ((zl q.num : Nat) : Int), .string (zh q.num), .bool (zs q.num), .int .u64 ((lo (fe q) : Nat) : Int), .string (hs (fe q))] 34).new (K := x3.heap.size + 1) (szA _ _) [.int .u64 ((zl st.num : Nat) : Int), .string (zh st.num), .bool (zs st.num), .int .u64 ((lo (fe st) : Nat) : Int), .string (hs (fe st))] 34)
 generalize hweq : ((x3.alloc (.cells #[.int .u64 ((zl q.num : Nat) : Int), .string (zh q.num), .bool (zs q.num), .int .u64 ((lo (fe q) : Nat) : Int), .string (hs (fe q))] 34)).alloc (.cells #[.int .u64 ((zl st.num : Nat) : Int), .string (zh st.num), .bool (zs st.num), .int .u64 ((lo (fe st) : Nat) : Int), .string (hs (fe st))] 34)) = x4 at hL0 hS
 have hN0 := cells_of _ 0 [] rfl (hL0.get _ _ (List.mem_cons_of_mem _ List.mem_cons_self))
 simp only [cellsF, and_true, Nat.zero_add, Nat.reduceAdd] at hN0
 go_wp2_with fail
 clear hN0
 with_reducible refine Calls.mono (HB.out _) ?_
 rintro e x5 ⟨rfl, hb⟩
 replace hL0 := hL0.call hb
 replace hS := hS.call hb
 clear hb hweq
 replace hS := ((hS.new (.cells #[.int .u64 ((zl lw.num : Nat) : Int), .string (zh lw.num), .bool (zs lw.num), .int .u64 ((lo (fe lw) : Nat) : Int), .string (hs (fe lw))] 34)).new (.cells #[.int .u64 ((zl hg.num : Nat) : Int), .string (zh hg.num), .bool (zs hg.num), .int .u64 ((lo (fe hg) : Nat) : Int), .string (hs (fe hg))] 34))
 replace hL0 := ((hL0.new rfl [.int .u64 ((zl lw.num : Nat) : Int), .string (zh lw.num), .bool (zs lw.num), .int .u64 ((lo (fe lw) : Nat) : Int), .string (hs (fe lw))] 34).new (K := x5.heap.size + 1) (szA _ _) [.int .u64 ((zl hg.num : Nat) : Int), .string (zh hg.num), .bool (zs hg.num), .int .u64 ((lo (fe hg) : Nat) : Int), .string (hs (fe hg))] 34)
 generalize hweq : ((x5.alloc (.cells #[.int .u64 ((zl lw.num : Nat) : Int), .string (zh lw.num), .bool (zs lw.num), .int .u64 ((lo (fe lw) : Nat) : Int), .string (hs (fe lw))] 34)).alloc (.cells #[.int .u64 ((zl hg.num : Nat) : Int), .string (zh hg.num), .bool (zs hg.num), .int .u64 ((lo (fe hg) : Nat) : Int), .string (hs (fe hg))] 34)) = x6 at hL0 hS
 have hN0 := cells_of _ 0 [] rfl (hL0.get _ _ (List.mem_cons_of_mem _ (List.mem_cons_of_mem _ (List.mem_cons_of_mem _ List.mem_cons_self))))
 simp only [cellsF, and_true, Nat.zero_add, Nat.reduceAdd] at hN0
 go_wp2_with fail
 clear hN0
 with_reducible refine Calls.mono (HR.out _) ?_
 rintro e x7 ⟨rfl, hb⟩
 replace hL0 := hL0.call hb
 replace hS := hS.call hb
 clear hb hweq
 replace hS := (hS.new (.cells #[.int .u64 ((zl hg.num : Nat) : Int), .string (zh hg.num), .bool (zs hg.num), .int .u64 ((lo (fe hg) : Nat) : Int), .string (hs (fe hg))] 34))
 replace hL0 := (hL0.new rfl [.int .u64 ((zl hg.num : Nat) : Int), .string (zh hg.num), .bool (zs hg.num), .int .u64 ((lo (fe hg) : Nat) : Int), .string (hs (fe hg))] 34)
 generalize hweq : (x7.alloc (.cells #[.int .u64 ((zl hg.num : Nat) : Int), .string (zh hg.num), .bool (zs hg.num), .int .u64 ((lo (fe hg) : Nat) : Int), .string (hs (fe hg))] 34)) = x8 at hL0 hS
 have hN0 := cells_of _ 0 [] rfl (hL0.get _ _ (List.mem_cons_of_mem _ (List.mem_cons_of_mem _ List.mem_cons_self)))
 simp only [cellsF, and_true, Nat.zero_add, Nat.reduceAdd] at hN0
 have hN1 := cells_of _ 0 [] rfl (hL0.get _ _ (List.mem_cons_of_mem _ (List.mem_cons_of_mem _ (List.mem_cons_of_mem _ List.mem_cons_self))))
 simp only [cellsF, and_true, Nat.zero_add, Nat.reduceAdd] at hN1
 go_wp2_with fail
 clear hN0 hN1
 with_reducible refine Calls.mono (D1.out _) ?_
 rintro e x9 ⟨rfl, hb⟩
 replace hL0 := hL0.call hb
 replace hS := hS.call hb
 clear hb hweq
 replace hS := (hS.new (.cells #[.int .u64 ((zl y1.num : Nat) : Int), .string (zh y1.num), .bool (zs y1.num), .int .u64 ((lo (fe y1) : Nat) : Int), .string (hs (fe y1))] 34))
 replace hL0 := (hL0.new rfl [.int .u64 ((zl y1.num : Nat) : Int), .string (zh y1.num), .bool (zs y1.num), .int .u64 ((lo (fe y1) : Nat) : Int), .string (hs (fe y1))] 34)
 generalize hweq : (x9.alloc (.cells #[.int .u64 ((zl y1.num : Nat) : Int), .string (zh y1.num), .bool (zs y1.num), .int .u64 ((lo (fe y1) : Nat) : Int), .string (hs (fe y1))] 34)) = x10 at hL0 hS
 have hN0 := cells_of _ 0 [] rfl (hL0.get _ _ (List.mem_cons_of_mem _ (List.mem_cons_of_mem _ List.mem_cons_self)))
 simp only [cellsF, and_true, Nat.zero_add, Nat.reduceAdd] at hN0
 have hN1 := cells_of _ 0 [] rfl (hL0.get _ _ (List.mem_cons_of_mem _ (List.mem_cons_of_mem _ (List.mem_cons_of_mem _ (List.mem_cons_of_mem _ List.mem_cons_self)))))
 simp only [cellsF, and_true, Nat.zero_add, Nat.reduceAdd] at hN1
 go_wp2_with fail
 clear hN0 hN1
 with_reducible refine Calls.mono (D2.out _) ?_
 rintro e x11 ⟨rfl, hb⟩
 replace hL0 := hL0.call hb
 replace hS := hS.call hb
 clear hb hweq
 replace hS := (hS.new (.cells #[.int .u64 ((zl z1.num : Nat) : Int), .string (zh z1.num), .bool (zs z1.num), .int .u64 ((lo (fe z1) : Nat) : Int), .string (hs (fe z1))] 34))
 replace hL0 := (hL0.new rfl [.int .u64 ((zl z1.num : Nat) : Int), .string (zh z1.num), .bool (zs z1.num), .int .u64 ((lo (fe z1) : Nat) : Int), .string (hs (fe z1))] 34)
 generalize hweq : (x11.alloc (.cells #[.int .u64 ((zl z1.num : Nat) : Int), .string (zh z1.num), .bool (zs z1.num), .int .u64 ((lo (fe z1) : Nat) : Int), .string (hs (fe z1))] 34)) = x12 at hL0 hS
 have hN0 := cells_of _ 0 [] rfl (hL0.get _ _ (List.mem_cons_of_mem _ (List.mem_cons_of_mem _ (List.mem_cons_of_mem _ (List.mem_cons_of_mem _ (List.mem_cons_of_mem _ List.mem_cons_self))))))
 simp only [cellsF, and_true, Nat.zero_add, Nat.reduceAdd] at hN0
 have hN1 := cells_of _ 0 [] rfl (hL0.get _ _ (List.mem_cons_of_mem _ (List.mem_cons_of_mem _ (List.mem_cons_of_mem _ (List.mem_cons_of_mem _ (List.mem_cons_of_mem _ (List.mem_cons_of_mem _ List.mem_cons_self)))))))
 simp only [cellsF, and_true, Nat.zero_add, Nat.reduceAdd] at hN1
 go_wp2_with fail
 clear hN0 hN1
 with_reducible refine Calls.mono (D3.out _) ?_
 rintro e x13 ⟨rfl, hb⟩
 replace hL0 := hL0.call hb
 replace hS := hS.call hb
 clear hb hweq
 replace hS := (hS.new (.cells #[.int .u64 ((zl wh.num : Nat) : Int), .string (zh wh.num), .bool (zs wh.num), .int .u64 ((lo (fe wh) : Nat) : Int), .string (hs (fe wh))] 34))
 replace hL0 := (hL0.new rfl [.int .u64 ((zl wh.num : Nat) : Int), .string (zh wh.num), .bool (zs wh.num), .int .u64 ((lo (fe wh) : Nat) : Int), .string (hs (fe wh))] 34)
 generalize hweq : (x13.alloc (.cells #[.int .u64 ((zl wh.num : Nat) : Int), .string (zh wh.num), .bool (zs wh.num), .int .u64 ((lo (fe wh) : Nat) : Int), .string (hs (fe wh))] 34)) = x14 at hL0 hS
 go_upto_region 10 with fail
 clear hweq
 refine region_tl 62 [EV (.int .i64 0), EV (.bool false), EV (.bool false), EV (.int .i64 0), EV (.bool false), EV (.bool false), EV (.bool false), EV (.int .i64 0), EV (.bool false), EV (.bool false), EV (.bool false), EV (.agg #[.int .u64 ((zl y1.num : Nat) : Int), .string (zh y1.num), .bool (zs y1.num), .int .u64 ((lo (fe y1) : Nat) : Int), .string (hs (fe y1))]), EV (.bool true), EV (.bool false), EV (.bool false), EV (.bool false), EV (.agg #[.int .u64 ((zl z1.num : Nat) : Int), .string (zh z1.num), .bool (zs z1.num), .int .u64 ((lo (fe z1) : Nat) : Int), .string (hs (fe z1))]), EV (.bool true), EV (.bool false), EV (.bool false), EV (.bool false), EV (.agg #[.int .u64 ((zl lw.num : Nat) : Int), .string (zh lw.num), .bool (zs lw.num), .int .u64 ((lo (fe lw) : Nat) : Int), .string (hs (fe lw))]), EV (.agg #[.int .u64 ((zl q.num : Nat) : Int), .string (zh q.num), .bool (zs q.num), .int .u64 ((lo (fe q) : Nat) : Int), .string (hs (fe q))]), EV (.int .i64 i1), EV (.bool false), EV (.bool false), EV (.bool false), EV (.agg #[.int .u64 ((zl hg.num : Nat) : Int), .string (zh hg.num), .bool (zs hg.num), .int .u64 ((lo (fe hg) : Nat) : Int), .string (hs (fe hg))]), EV (.agg #[.int .u64 ((zl q.num : Nat) : Int), .string (zh q.num), .bool (zs q.num), .int .u64 ((lo (fe q) : Nat) : Int), .string (hs (fe q))]), EV (.int .i64 j1), EV (.bool false), EV (.bool false), EV (.bool false), EV (.agg #[.int .u64 ((zl lw.num : Nat) : Int), .string (zh lw.num), .bool (zs lw.num), .int .u64 ((lo (fe lw) : Nat) : Int), .string (hs (fe lw))]), EV (.agg #[.int .u64 ((zl hg.num : Nat) : Int), .string (zh hg.num), .bool (zs hg.num), .int .u64 ((lo (fe hg) : Nat) : Int), .string (hs (fe hg))]), EV (.bool false), EV (.agg #[.int .u64 ((zl wh.num : Nat) : Int), .string (zh wh.num), .bool (zs wh.num), .int .u64 ((lo (fe wh) : Nat) : Int), .string (hs (fe wh))]), EV (.bool false), EV (.bool false), EV (.bool false), EV (.bool false), EV (.agg #[.int .u64 ((zl lw.num : Nat) : Int), .string (zh lw.num), .bool (zs lw.num), .int .u64 ((lo (fe lw) : Nat) : Int), .string (hs (fe lw))]), EV (.agg #[.int .u64 ((zl hg.num : Nat) : Int), .string (zh hg.num), .bool (zs hg.num), .int .u64 ((lo (fe hg) : Nat) : Int), .string (hs (fe hg))]), EV (.bool true), EV (.bool true), EV (.agg #[.int .u64 ((zl hg.num : Nat) : Int), .string (zh hg.num), .bool (zs hg.num), .int .u64 ((lo (fe hg) : Nat) : Int), .string (hs (fe hg))]), EV (.agg #[.int .u64 ((zl lw.num : Nat) : Int), .string (zh lw.num), .bool (zs lw.num), .int .u64 ((lo (fe lw) : Nat) : Int), .string (hs (fe lw))]), EV (.agg #[.int .u64 ((zl st.num : Nat) : Int), .string (zh st.num), .bool (zs st.num), .int .u64 ((lo (fe st) : Nat) : Int), .string (hs (fe st))]), EV (.agg #[.int .u64 ((zl st.num : Nat) : Int), .string (zh st.num), .bool (zs st.num), .int .u64 ((lo (fe st) : Nat) : Int), .string (hs (fe st))]), EV (.bool false), EV (.bool false), EV (.bool false), EV (.bool false), EV (.agg #[.int .u64 ((zl hg.num : Nat) : Int), .string (zh hg.num), .bool (zs hg.num), .int .u64 ((lo (fe hg) : Nat) : Int), .string (hs (fe hg))]), EV (.agg #[.int .u64 ((zl lw.num : Nat) : Int), .string (zh lw.num), .bool (zs lw.num), .int .u64 ((lo (fe lw) : Nat) : Int), .string (hs (fe lw))]), EV (.bool true), EV (.bool true), EV (.agg #[.int .u64 ((zl hg.num : Nat) : Int), .string (zh hg.num), .bool (zs hg.num), .int .u64 ((lo (fe hg) : Nat) : Int), .string (hs (fe hg))]), EV (.agg #[.int .u64 ((zl hg.num : Nat) : Int), .string (zh hg.num), .bool (zs hg.num), .int .u64 ((lo (fe hg) : Nat) : Int), .string (hs (fe hg))]), EV (.bool false), EV (.bool false), EV (.bool false)] (by kernel_rfl) (by kernel_rfl) ?_ ?_ ?_
 ·exact stays_cons (stays_eq _) (stays_cons (stays_eq _) (stays_cons (stays_eq _) (stays_cons (stays_eq _) (stays_cons (stays_eq _) (stays_cons (stays_eq _) (stays_cons (stays_eq _) (stays_cons (stays_eq _) (stays_cons (stays_eq _) (stays_cons (stays_eq _) (stays_cons (stays_eq _) (stays_cons (stays_eq _) (stays_cons (stays_eq _) (stays_cons (stays_eq _) (stays_cons (stays_eq _) (stays_cons (stays_eq _) (stays_cons (stays_eq _) (stays_cons (stays_eq _) (stays_cons (stays_eq _) (stays_cons (stays_eq _) (stays_cons (stays_eq _) (stays_cons (stays_eq _) (stays_cons (stays_eq _) (stays_cons (stays_eq _) (stays_cons (stays_eq _) (stays_cons (stays_eq _) (stays_cons (stays_eq _) (stays_cons (stays_eq _) (stays_cons (stays_eq _) (stays_cons (stays_eq _) (stays_cons (stays_eq _) (stays_cons (stays_eq _) (stays_cons (stays_eq _) (stays_cons (stays_eq _) (stays_cons (stays_eq _) (stays_cons (stays_eq _) (stays_cons (stays_eq _) (stays_cons (stays_eq _) (stays_cons (stays_eq _) (stays_cons (stays_eq _) (stays_cons (stays_eq _) (stays_cons (stays_eq _) (stays_cons (stays_eq _) (stays_cons (stays_eq _) (stays_cons (stays_eq _) (stays_cons (stays_eq _) (stays_cons (stays_eq _) (stays_cons (stays_eq _) (stays_cons (stays_eq _) (stays_cons (stays_eq _) (stays_cons (stays_eq _) (stays_cons (stays_eq _) (stays_cons (stays_eq _) (stays_cons (stays_eq _) (stays_cons (stays_eq _) (stays_cons (stays_eq _) (stays_cons (stays_eq _) (stays_cons (stays_eq _) (stays_cons (stays_eq _) (stays_cons (stays_eq _) (stays_cons (stays_eq _) (stays_cons (stays_eq _) (stays_nil))))))))))))))))))))))))))))))))))))))))))))))))))))))))))))))
 ·simp only [List.take_succ_cons, List.take_zero, hopsR, and_true]
  refine ⟨?_, ?_, ?_, ?_, ?_, ?_, ?_, ?_, ?_, ?_, ?_, ?_, ?_, ?_, ?_, ?_, ?_, ?_, ?_, ?_, ?_, ?_, ?_, ?_, ?_, ?_, ?_, ?_, ?_, ?_, ?_, ?_, ?_, ?_, ?_, ?_, ?_, ?_, ?_, ?_, ?_, ?_, ?_, ?_, ?_, ?_, ?_, ?_, ?_, ?_, ?_, ?_, ?_, ?_, ?_, ?_, ?_, ?_, ?_, ?_, ?_, ?_⟩ <;> intro fv w1 hb1 hp
  all_goals (simp only [putsV, Act.put, List.setIfInBounds_toArray, List.set_cons_succ, List.set_cons_zero, Nat.zero_add, Nat.reduceAdd])
  ·refine tyAt_none rfl ?_
   simp [tyUpon, execOp, go_sem, Act.eval, G1, G2, Below.refl]
  ·have h0 : EV _ (fv 0) w1 := hp 0 (LC (by kernel_rfl))
   refine tyAt_none rfl ?_
   simp [tyUpon, execOp, go_sem, Act.eval, h0, G1, G2, Below.refl]
  ·have h1 : EV _ (fv 1) w1 := hp 1 (LC (by kernel_rfl))
   refine tyAt_none rfl ?_
   simp [tyUpon, execOp, go_sem, Act.eval, h1, G1, G2, Below.refl]
  ·have h2 : EV _ (fv 2) w1 := hp 2 (LC (by kernel_rfl))
   refine tyAt_yes (by simp [Region.wanted, yielded, h2]) ?_
   simp [tyUpon, execOp, go_sem, Act.eval, h2, G1, G2, Below.refl]
  ·have h3 : EV _ (fv 3) w1 := hp 3 (LC (by kernel_rfl))
   have h2 : EV _ (fv 2) w1 := hp 2 (LC (by kernel_rfl))
   refine tyAt_yes (by simp [Region.wanted, yielded, h3, h2]) ?_
   simp [tyUpon, execOp, go_sem, Act.eval, h3, h2, G1, G2, Below.refl]
  ·have h2 : EV _ (fv 2) w1 := hp 2 (LC (by kernel_rfl))
   have h4 : EV _ (fv 4) w1 := hp 4 (LC (by kernel_rfl))
   refine tyAt_none rfl ?_
   simp [tyUpon, execOp, go_sem, Act.eval, h2, h4, G1, G2, Below.refl]
  ·have h5 : EV _ (fv 5) w1 := hp 5 (LC (by kernel_rfl))
   refine tyAt_none rfl ?_
   simp [tyUpon, execOp, go_sem, Act.eval, h5, G1, G2, Below.refl]
  ·have h6 : EV _ (fv 6) w1 := hp 6 (LC (by kernel_rfl))
   refine tyAt_yes (by simp [Region.wanted, yielded, h6]) ?_
   simp [tyUpon, execOp, go_sem, Act.eval, h6, G1, G2, Below.refl]
  ·have h7 : EV _ (fv 7) w1 := hp 7 (LC (by kernel_rfl))
   have h6 : EV _ (fv 6) w1 := hp 6 (LC (by kernel_rfl))
   refine tyAt_yes (by simp [Region.wanted, yielded, h7, h6]) ?_
   simp [tyUpon, execOp, go_sem, Act.eval, h7, h6, G1, G2, Below.refl]
  ·have h6 : EV _ (fv 6) w1 := hp 6 (LC (by kernel_rfl))
   have h8 : EV _ (fv 8) w1 := hp 8 (LC (by kernel_rfl))
   refine tyAt_none rfl ?_
   simp [tyUpon, execOp, go_sem, Act.eval, h6, h8, G1, G2, Below.refl]
  ·have h9 : EV _ (fv 9) w1 := hp 9 (LC (by kernel_rfl))
   refine tyAt_none rfl ?_
   simp [tyUpon, execOp, go_sem, Act.eval, h9, G1, G2, Below.refl]
  ·have h10 : EV _ (fv 10) w1 := hp 10 (LC (by kernel_rfl))
   refine tyAt_yes (by simp [Region.wanted, yielded, h10]) ?_
   have hc := (hL0.call (below_drew hb1)).fc
   simp only [fcG, cellsF, neK, and_true, ne_eq, Nat.zero_add, Nat.reduceAdd] at hc
   simp [tyUpon, execOp, go_sem, Act.eval, hc, h10, G1, G2, Below.refl]
  ·have h11 : EV _ (fv 11) w1 := hp 11 (LC (by kernel_rfl))
   have h10 : EV _ (fv 10) w1 := hp 10 (LC (by kernel_rfl))
   refine tyAt_yes (by simp [Region.wanted, yielded, h11, h10]) ?_
   refine ty_call (f := 28) (args := #[.agg #[.int .u64 ((zl y1.num : Nat) : Int), .string (zh y1.num), .bool (zs y1.num), .int .u64 ((lo (fe y1) : Nat) : Int), .string (hs (fe y1))]]) (by simp [execOp, go_sem, Act.eval, h11, h10]) ?_
   exact (W1.out w1).mono fun e w2 ⟨h1, h2⟩ => ⟨_, h1, rfl, h2⟩
  ·have h12 : EV _ (fv 12) w1 := hp 12 (LC (by kernel_rfl))
   have h10 : EV _ (fv 10) w1 := hp 10 (LC (by kernel_rfl))
   refine tyAt_yes (by simp [Region.wanted, yielded, h12, h10]) ?_
   simp [tyUpon, execOp, go_sem, Act.eval, h12, h10, G1, G2, Below.refl]
  ·have h10 : EV _ (fv 10) w1 := hp 10 (LC (by kernel_rfl))
   have h13 : EV _ (fv 13) w1 := hp 13 (LC (by kernel_rfl))
   refine tyAt_none rfl ?_
   simp [tyUpon, execOp, go_sem, Act.eval, h10, h13, G1, G2, Below.refl]
  ·have h14 : EV _ (fv 14) w1 := hp 14 (LC (by kernel_rfl))
   refine tyAt_none rfl ?_
   simp [tyUpon, execOp, go_sem, Act.eval, h14, G1, G2, Below.refl]
  ·have h15 : EV _ (fv 15) w1 := hp 15 (LC (by kernel_rfl))
   refine tyAt_yes (by simp [Region.wanted, yielded, h15]) ?_
   have hc := (hL0.call (below_drew hb1)).fc
   simp only [fcG, cellsF, neK, and_true, ne_eq, Nat.zero_add, Nat.reduceAdd] at hc
   simp [tyUpon, execOp, go_sem, Act.eval, hc, h15, G1, G2, Below.refl]
  ·have h16 : EV _ (fv 16) w1 := hp 16 (LC (by kernel_rfl))
   have h15 : EV _ (fv 15) w1 := hp 15 (LC (by kernel_rfl))
   refine tyAt_yes (by simp [Region.wanted, yielded, h16, h15]) ?_
   refine ty_call (f := 28) (args := #[.agg #[.int .u64 ((zl z1.num : Nat) : Int), .string (zh z1.num), .bool (zs z1.num), .int .u64 ((lo (fe z1) : Nat) : Int), .string (hs (fe z1))]]) (by simp [execOp, go_sem, Act.eval, h16, h15]) ?_
   exact (W2.out w1).mono fun e w2 ⟨h1, h2⟩ => ⟨_, h1, rfl, h2⟩
  ·have h17 : EV _ (fv 17) w1 := hp 17 (LC (by kernel_rfl))
   have h15 : EV _ (fv 15) w1 := hp 15 (LC (by kernel_rfl))
   refine tyAt_yes (by simp [Region.wanted, yielded, h17, h15]) ?_
   simp [tyUpon, execOp, go_sem, Act.eval, h17, h15, G1, G2, Below.refl]
  ·have h15 : EV _ (fv 15) w1 := hp 15 (LC (by kernel_rfl))
   have h18 : EV _ (fv 18) w1 := hp 18 (LC (by kernel_rfl))
   refine tyAt_none rfl ?_
   simp [tyUpon, execOp, go_sem, Act.eval, h15, h18, G1, G2, Below.refl]
  ·have h19 : EV _ (fv 19) w1 := hp 19 (LC (by kernel_rfl))
   refine tyAt_none rfl ?_
   simp [tyUpon, execOp, go_sem, Act.eval, h19, G1, G2, Below.refl]
  ·have h20 : EV _ (fv 20) w1 := hp 20 (LC (by kernel_rfl))
   refine tyAt_yes (by simp [Region.wanted, yielded, h20]) ?_
   have hc := (hL0.call (below_drew hb1)).fc
   simp only [fcG, cellsF, neK, and_true, ne_eq, Nat.zero_add, Nat.reduceAdd] at hc
   simp [tyUpon, execOp, go_sem, Act.eval, hc, h20, G1, G2, Below.refl]
  ·have h20 : EV _ (fv 20) w1 := hp 20 (LC (by kernel_rfl))
   refine tyAt_yes (by simp [Region.wanted, yielded, h20]) ?_
   have hc := (hL0.call (below_drew hb1)).fc
   simp only [fcG, cellsF, neK, and_true, ne_eq, Nat.zero_add, Nat.reduceAdd] at hc
   simp [tyUpon, execOp, go_sem, Act.eval, hc, h20, G1, G2, Below.refl]
  ·have h21 : EV _ (fv 21) w1 := hp 21 (LC (by kernel_rfl))
   have h22 : EV _ (fv 22) w1 := hp 22 (LC (by kernel_rfl))
   have h20 : EV _ (fv 20) w1 := hp 20 (LC (by kernel_rfl))
   refine tyAt_yes (by simp [Region.wanted, yielded, h21, h22, h20]) ?_
   refine ty_call (f := 29) (args := #[.agg #[.int .u64 ((zl lw.num : Nat) : Int), .string (zh lw.num), .bool (zs lw.num), .int .u64 ((lo (fe lw) : Nat) : Int), .string (hs (fe lw))], .agg #[.int .u64 ((zl q.num : Nat) : Int), .string (zh q.num), .bool (zs q.num), .int .u64 ((lo (fe q) : Nat) : Int), .string (hs (fe q))]]) (by simp [execOp, go_sem, Act.eval, h21, h22, h20]) ?_
   exact (C1.out w1).mono fun e w2 ⟨h1, h2⟩ => ⟨_, h1, rfl, h2⟩
  ·have h23 : EV _ (fv 23) w1 := hp 23 (LC (by kernel_rfl))
   have h20 : EV _ (fv 20) w1 := hp 20 (LC (by kernel_rfl))
   refine tyAt_yes (by simp [Region.wanted, yielded, h23, h20]) ?_
   simp [tyUpon, execOp, go_sem, Act.eval, h23, h20, G1, G2, Below.refl]
  ·have h20 : EV _ (fv 20) w1 := hp 20 (LC (by kernel_rfl))
   have h24 : EV _ (fv 24) w1 := hp 24 (LC (by kernel_rfl))
   refine tyAt_none rfl ?_
   simp [tyUpon, execOp, go_sem, Act.eval, h20, h24, G1, G2, Below.refl]
  ·have h25 : EV _ (fv 25) w1 := hp 25 (LC (by kernel_rfl))
   refine tyAt_none rfl ?_
   simp [tyUpon, execOp, go_sem, Act.eval, h25, G1, G2, Below.refl]
  ·have h26 : EV _ (fv 26) w1 := hp 26 (LC (by kernel_rfl))
   refine tyAt_yes (by simp [Region.wanted, yielded, h26]) ?_
   have hc := (hL0.call (below_drew hb1)).fc
   simp only [fcG, cellsF, neK, and_true, ne_eq, Nat.zero_add, Nat.reduceAdd] at hc
   simp [tyUpon, execOp, go_sem, Act.eval, hc, h26, G1, G2, Below.refl]
  ·have h26 : EV _ (fv 26) w1 := hp 26 (LC (by kernel_rfl))
   refine tyAt_yes (by simp [Region.wanted, yielded, h26]) ?_
   have hc := (hL0.call (below_drew hb1)).fc
   simp only [fcG, cellsF, neK, and_true, ne_eq, Nat.zero_add, Nat.reduceAdd] at hc
   simp [tyUpon, execOp, go_sem, Act.eval, hc, h26, G1, G2, Below.refl]
  ·have h27 : EV _ (fv 27) w1 := hp 27 (LC (by kernel_rfl))
   have h28 : EV _ (fv 28) w1 := hp 28 (LC (by kernel_rfl))
   have h26 : EV _ (fv 26) w1 := hp 26 (LC (by kernel_rfl))
   refine tyAt_yes (by simp [Region.wanted, yielded, h27, h28, h26]) ?_
   refine ty_call (f := 29) (args := #[.agg #[.int .u64 ((zl hg.num : Nat) : Int), .string (zh hg.num), .bool (zs hg.num), .int .u64 ((lo (fe hg) : Nat) : Int), .string (hs (fe hg))], .agg #[.int .u64 ((zl q.num : Nat) : Int), .string (zh q.num), .bool (zs q.num), .int .u64 ((lo (fe q) : Nat) : Int), .string (hs (fe q))]]) (by simp [execOp, go_sem, Act.eval, h27, h28, h26]) ?_
   exact (C2.out w1).mono fun e w2 ⟨h1, h2⟩ => ⟨_, h1, rfl, h2⟩
  ·have h29 : EV _ (fv 29) w1 := hp 29 (LC (by kernel_rfl))
   have h26 : EV _ (fv 26) w1 := hp 26 (LC (by kernel_rfl))
   refine tyAt_yes (by simp [Region.wanted, yielded, h29, h26]) ?_
   simp [tyUpon, execOp, go_sem, Act.eval, h29, h26, G1, G2, Below.refl]
  ·have h26 : EV _ (fv 26) w1 := hp 26 (LC (by kernel_rfl))
   have h30 : EV _ (fv 30) w1 := hp 30 (LC (by kernel_rfl))
   refine tyAt_none rfl ?_
   simp [tyUpon, execOp, go_sem, Act.eval, h26, h30, G1, G2, Below.refl]
  ·have h31 : EV _ (fv 31) w1 := hp 31 (LC (by kernel_rfl))
   refine tyAt_none rfl ?_
   simp [tyUpon, execOp, go_sem, Act.eval, h31, G1, G2, Below.refl]
  ·have h32 : EV _ (fv 32) w1 := hp 32 (LC (by kernel_rfl))
   refine tyAt_yes (by simp [Region.wanted, yielded, h32]) ?_
   have hc := (hL0.call (below_drew hb1)).fc
   simp only [fcG, cellsF, neK, and_true, ne_eq, Nat.zero_add, Nat.reduceAdd] at hc
   simp [tyUpon, execOp, go_sem, Act.eval, hc, h32, G1, G2, Below.refl]
  ·have h32 : EV _ (fv 32) w1 := hp 32 (LC (by kernel_rfl))
   refine tyAt_yes (by simp [Region.wanted, yielded, h32]) ?_
   have hc := (hL0.call (below_drew hb1)).fc
   simp only [fcG, cellsF, neK, and_true, ne_eq, Nat.zero_add, Nat.reduceAdd] at hc
   simp [tyUpon, execOp, go_sem, Act.eval, hc, h32, G1, G2, Below.refl]
  ·have h33 : EV _ (fv 33) w1 := hp 33 (LC (by kernel_rfl))
   have h34 : EV _ (fv 34) w1 := hp 34 (LC (by kernel_rfl))
   have h32 : EV _ (fv 32) w1 := hp 32 (LC (by kernel_rfl))
   refine tyAt_yes (by simp [Region.wanted, yielded, h33, h34, h32]) ?_
   rcases ne_fr hlh.out with hz | hz | hz | hz | hz <;> simp [tyUpon, execOp, go_sem, Act.eval, h33, h34, h32, G1, G2, hz, Below.refl]
  ·have h32 : EV _ (fv 32) w1 := hp 32 (LC (by kernel_rfl))
   refine tyAt_yes (by simp [Region.wanted, yielded, h32]) ?_
   have hc := (hL0.call (below_drew hb1)).fc
   simp only [fcG, cellsF, neK, and_true, ne_eq, Nat.zero_add, Nat.reduceAdd] at hc
   simp [tyUpon, execOp, go_sem, Act.eval, hc, h32, G1, G2, Below.refl]
  ·have h36 : EV _ (fv 36) w1 := hp 36 (LC (by kernel_rfl))
   have h32 : EV _ (fv 32) w1 := hp 32 (LC (by kernel_rfl))
   refine tyAt_yes (by simp [Region.wanted, yielded, h36, h32]) ?_
   refine ty_call (f := 28) (args := #[.agg #[.int .u64 ((zl wh.num : Nat) : Int), .string (zh wh.num), .bool (zs wh.num), .int .u64 ((lo (fe wh) : Nat) : Int), .string (hs (fe wh))]]) (by simp [execOp, go_sem, Act.eval, h36, h32]) ?_
   exact (W3.out w1).mono fun e w2 ⟨h1, h2⟩ => ⟨_, h1, rfl, h2⟩
  ·have h35 : EV _ (fv 35) w1 := hp 35 (LC (by kernel_rfl))
   have h37 : EV _ (fv 37) w1 := hp 37 (LC (by kernel_rfl))
   have h32 : EV _ (fv 32) w1 := hp 32 (LC (by kernel_rfl))
   refine tyAt_yes (by simp [Region.wanted, yielded, h35, h37, h32]) ?_
   simp [tyUpon, execOp, go_sem, Act.eval, h35, h37, h32, G1, G2, Below.refl]
  ·have h32 : EV _ (fv 32) w1 := hp 32 (LC (by kernel_rfl))
   have h38 : EV _ (fv 38) w1 := hp 38 (LC (by kernel_rfl))
   refine tyAt_none rfl ?_
   simp [tyUpon, execOp, go_sem, Act.eval, h32, h38, G1, G2, Below.refl]
  ·have h39 : EV _ (fv 39) w1 := hp 39 (LC (by kernel_rfl))
   refine tyAt_none rfl ?_
   simp [tyUpon, execOp, go_sem, Act.eval, h39, G1, G2, Below.refl]
  ·have h40 : EV _ (fv 40) w1 := hp 40 (LC (by kernel_rfl))
   refine tyAt_yes (by simp [Region.wanted, yielded, h40]) ?_
   have hc := (hL0.call (below_drew hb1)).fc
   simp only [fcG, cellsF, neK, and_true, ne_eq, Nat.zero_add, Nat.reduceAdd] at hc
   simp [tyUpon, execOp, go_sem, Act.eval, hc, h40, G1, G2, Below.refl]
  ·have h40 : EV _ (fv 40) w1 := hp 40 (LC (by kernel_rfl))
   refine tyAt_yes (by simp [Region.wanted, yielded, h40]) ?_
   have hc := (hL0.call (below_drew hb1)).fc
   simp only [fcG, cellsF, neK, and_true, ne_eq, Nat.zero_add, Nat.reduceAdd] at hc
   simp [tyUpon, execOp, go_sem, Act.eval, hc, h40, G1, G2, Below.refl]
  ·have h41 : EV _ (fv 41) w1 := hp 41 (LC (by kernel_rfl))
   have h42 : EV _ (fv 42) w1 := hp 42 (LC (by kernel_rfl))
   have h40 : EV _ (fv 40) w1 := hp 40 (LC (by kernel_rfl))
   refine tyAt_yes (by simp [Region.wanted, yielded, h41, h42, h40]) ?_
   rcases ne_fr hlh.out with hz | hz | hz | hz | hz <;> simp [tyUpon, execOp, go_sem, Act.eval, h41, h42, h40, G1, G2, hz, Below.refl]
  ·have h43 : EV _ (fv 43) w1 := hp 43 (LC (by kernel_rfl))
   have h40 : EV _ (fv 40) w1 := hp 40 (LC (by kernel_rfl))
   refine tyAt_yes (by simp [Region.wanted, yielded, h43, h40]) ?_
   simp [tyUpon, execOp, go_sem, Act.eval, h43, h40, G1, G2, Below.refl]
  ·have h44 : EV _ (fv 44) w1 := hp 44 (LC (by kernel_rfl))
   refine tyAt_yes (by simp [Region.wanted, yielded, h44]) ?_
   have hc := (hL0.call (below_drew hb1)).fc
   simp only [fcG, cellsF, neK, and_true, ne_eq, Nat.zero_add, Nat.reduceAdd] at hc
   simp [tyUpon, execOp, go_sem, Act.eval, hc, h44, G1, G2, Below.refl]
  ·have h44 : EV _ (fv 44) w1 := hp 44 (LC (by kernel_rfl))
   refine tyAt_yes (by simp [Region.wanted, yielded, h44]) ?_
   have hc := (hL0.call (below_drew hb1)).fc
   simp only [fcG, cellsF, neK, and_true, ne_eq, Nat.zero_add, Nat.reduceAdd] at hc
   simp [tyUpon, execOp, go_sem, Act.eval, hc, h44, G1, G2, Below.refl]
  ·have h45 : EV _ (fv 45) w1 := hp 45 (LC (by kernel_rfl))
   have h46 : EV _ (fv 46) w1 := hp 46 (LC (by kernel_rfl))
   have h44 : EV _ (fv 44) w1 := hp 44 (LC (by kernel_rfl))
   refine tyAt_yes (by simp [Region.wanted, yielded, h45, h46, h44]) ?_
   refine ty_call (f := 30) (args := #[.agg #[.int .u64 ((zl hg.num : Nat) : Int), .string (zh hg.num), .bool (zs hg.num), .int .u64 ((lo (fe hg) : Nat) : Int), .string (hs (fe hg))], .agg #[.int .u64 ((zl lw.num : Nat) : Int), .string (zh lw.num), .bool (zs lw.num), .int .u64 ((lo (fe lw) : Nat) : Int), .string (hs (fe lw))]]) (by simp [execOp, go_sem, Act.eval, h45, h46, h44]) ?_
   exact (S1.out w1).mono fun e w2 ⟨h1, h2⟩ => ⟨_, h1, rfl, h2⟩
  ·have h44 : EV _ (fv 44) w1 := hp 44 (LC (by kernel_rfl))
   refine tyAt_yes (by simp [Region.wanted, yielded, h44]) ?_
   have hc := (hL0.call (below_drew hb1)).fc
   simp only [fcG, cellsF, neK, and_true, ne_eq, Nat.zero_add, Nat.reduceAdd] at hc
   simp [tyUpon, execOp, go_sem, Act.eval, hc, h44, G1, G2, Below.refl]
  ·have h47 : EV _ (fv 47) w1 := hp 47 (LC (by kernel_rfl))
   have h48 : EV _ (fv 48) w1 := hp 48 (LC (by kernel_rfl))
   have h44 : EV _ (fv 44) w1 := hp 44 (LC (by kernel_rfl))
   refine tyAt_yes (by simp [Region.wanted, yielded, h47, h48, h44]) ?_
   simp [tyUpon, execOp, go_sem, Act.eval, h47, h48, h44, G1, G2, Below.refl]
  ·have h44 : EV _ (fv 44) w1 := hp 44 (LC (by kernel_rfl))
   have h49 : EV _ (fv 49) w1 := hp 49 (LC (by kernel_rfl))
   have h40 : EV _ (fv 40) w1 := hp 40 (LC (by kernel_rfl))
   refine tyAt_yes (by simp [Region.wanted, yielded, h44, h49, h40]) ?_
   simp [tyUpon, execOp, go_sem, Act.eval, h44, h49, h40, G1, G2, Below.refl]
  ·have h40 : EV _ (fv 40) w1 := hp 40 (LC (by kernel_rfl))
   have h50 : EV _ (fv 50) w1 := hp 50 (LC (by kernel_rfl))
   refine tyAt_none rfl ?_
   simp [tyUpon, execOp, go_sem, Act.eval, h40, h50, G1, G2, Below.refl]
  ·have h51 : EV _ (fv 51) w1 := hp 51 (LC (by kernel_rfl))
   refine tyAt_none rfl ?_
   simp [tyUpon, execOp, go_sem, Act.eval, h51, G1, G2, Below.refl]
  ·have h52 : EV _ (fv 52) w1 := hp 52 (LC (by kernel_rfl))
   refine tyAt_yes (by simp [Region.wanted, yielded, h52]) ?_
   have hc := (hL0.call (below_drew hb1)).fc
   simp only [fcG, cellsF, neK, and_true, ne_eq, Nat.zero_add, Nat.reduceAdd] at hc
   simp [tyUpon, execOp, go_sem, Act.eval, hc, h52, G1, G2, Below.refl]
  ·have h52 : EV _ (fv 52) w1 := hp 52 (LC (by kernel_rfl))
   refine tyAt_yes (by simp [Region.wanted, yielded, h52]) ?_
   have hc := (hL0.call (below_drew hb1)).fc
   simp only [fcG, cellsF, neK, and_true, ne_eq, Nat.zero_add, Nat.reduceAdd] at hc
   simp [tyUpon, execOp, go_sem, Act.eval, hc, h52, G1, G2, Below.refl]
  ·have h53 : EV _ (fv 53) w1 := hp 53 (LC (by kernel_rfl))
   have h54 : EV _ (fv 54) w1 := hp 54 (LC (by kernel_rfl))
   have h52 : EV _ (fv 52) w1 := hp 52 (LC (by kernel_rfl))
   refine tyAt_yes (by simp [Region.wanted, yielded, h53, h54, h52]) ?_
   rcases ne_fr (Ne.symm hlh.out) with hz | hz | hz | hz | hz <;> simp [tyUpon, execOp, go_sem, Act.eval, h53, h54, h52, G1, G2, hz, Below.refl]
  ·have h55 : EV _ (fv 55) w1 := hp 55 (LC (by kernel_rfl))
   have h52 : EV _ (fv 52) w1 := hp 52 (LC (by kernel_rfl))
   refine tyAt_yes (by simp [Region.wanted, yielded, h55, h52]) ?_
   simp [tyUpon, execOp, go_sem, Act.eval, h55, h52, G1, G2, Below.refl]
  ·have h56 : EV _ (fv 56) w1 := hp 56 (LC (by kernel_rfl))
   refine tyAt_yes (by simp [Region.wanted, yielded, h56]) ?_
   have hc := (hL0.call (below_drew hb1)).fc
   simp only [fcG, cellsF, neK, and_true, ne_eq, Nat.zero_add, Nat.reduceAdd] at hc
   simp [tyUpon, execOp, go_sem, Act.eval, hc, h56, G1, G2, Below.refl]
  ·have h56 : EV _ (fv 56) w1 := hp 56 (LC (by kernel_rfl))
   refine tyAt_yes (by simp [Region.wanted, yielded, h56]) ?_
   have hc := (hL0.call (below_drew hb1)).fc
   simp only [fcG, cellsF, neK, and_true, ne_eq, Nat.zero_add, Nat.reduceAdd] at hc
   simp [tyUpon, execOp, go_sem, Act.eval, hc, h56, G1, G2, Below.refl]
  ·have h57 : EV _ (fv 57) w1 := hp 57 (LC (by kernel_rfl))
   have h58 : EV _ (fv 58) w1 := hp 58 (LC (by kernel_rfl))
   have h56 : EV _ (fv 56) w1 := hp 56 (LC (by kernel_rfl))
   refine tyAt_yes (by simp [Region.wanted, yielded, h57, h58, h56]) ?_
   simp [tyUpon, execOp, go_sem, Act.eval, h57, h58, h56, G1, G2, Below.refl]
  ·have h56 : EV _ (fv 56) w1 := hp 56 (LC (by kernel_rfl))
   have h59 : EV _ (fv 59) w1 := hp 59 (LC (by kernel_rfl))
   have h52 : EV _ (fv 52) w1 := hp 52 (LC (by kernel_rfl))
   refine tyAt_yes (by simp [Region.wanted, yielded, h56, h59, h52]) ?_
   simp [tyUpon, execOp, go_sem, Act.eval, h56, h59, h52, G1, G2, Below.refl]
  ·have h52 : EV _ (fv 52) w1 := hp 52 (LC (by kernel_rfl))
   have h60 : EV _ (fv 60) w1 := hp 60 (LC (by kernel_rfl))
   refine tyAt_none rfl ?_
   simp [tyUpon, execOp, go_sem, Act.eval, h52, h60, G1, G2, Below.refl]
 ·intro fv x15 hb1 hv
  have e0 : fv 0 = _ := hv 0 (by omega)
  have e1 : fv 1 = _ := hv 1 (by omega)
  have e2 : fv 2 = _ := hv 2 (by omega)
  have e3 : fv 3 = _ := hv 3 (by omega)
  have e4 : fv 4 = _ := hv 4 (by omega)
  have e5 : fv 5 = _ := hv 5 (by omega)
  have e6 : fv 6 = _ := hv 6 (by omega)
  have e7 : fv 7 = _ := hv 7 (by omega)
  have e8 : fv 8 = _ := hv 8 (by omega)
  have e9 : fv 9 = _ := hv 9 (by omega)
  have e10 : fv 10 = _ := hv 10 (by omega)
  have e11 : fv 11 = _ := hv 11 (by omega)
  have e12 : fv 12 = _ := hv 12 (by omega)
  have e13 : fv 13 = _ := hv 13 (by omega)
  have e14 : fv 14 = _ := hv 14 (by omega)
  have e15 : fv 15 = _ := hv 15 (by omega)
  have e16 : fv 16 = _ := hv 16 (by omega)
  have e17 : fv 17 = _ := hv 17 (by omega)
  have e18 : fv 18 = _ := hv 18 (by omega)
  have e19 : fv 19 = _ := hv 19 (by omega)
  have e20 : fv 20 = _ := hv 20 (by omega)
  have e21 : fv 21 = _ := hv 21 (by omega)
  have e22 : fv 22 = _ := hv 22 (by omega)
  have e23 : fv 23 = _ := hv 23 (by omega)
  have e24 : fv 24 = _ := hv 24 (by omega)
  have e25 : fv 25 = _ := hv 25 (by omega)
  have e26 : fv 26 = _ := hv 26 (by omega)
  have e27 : fv 27 = _ := hv 27 (by omega)
  have e28 : fv 28 = _ := hv 28 (by omega)
  have e29 : fv 29 = _ := hv 29 (by omega)
  have e30 : fv 30 = _ := hv 30 (by omega)
  have e31 : fv 31 = _ := hv 31 (by omega)
  have e32 : fv 32 = _ := hv 32 (by omega)
  have e33 : fv 33 = _ := hv 33 (by omega)
  have e34 : fv 34 = _ := hv 34 (by omega)
  have e35 : fv 35 = _ := hv 35 (by omega)
  have e36 : fv 36 = _ := hv 36 (by omega)
  have e37 : fv 37 = _ := hv 37 (by omega)
  have e38 : fv 38 = _ := hv 38 (by omega)
  have e39 : fv 39 = _ := hv 39 (by omega)
  have e40 : fv 40 = _ := hv 40 (by omega)
  have e41 : fv 41 = _ := hv 41 (by omega)
  have e42 : fv 42 = _ := hv 42 (by omega)
  have e43 : fv 43 = _ := hv 43 (by omega)
  have e44 : fv 44 = _ := hv 44 (by omega)
  have e45 : fv 45 = _ := hv 45 (by omega)
  have e46 : fv 46 = _ := hv 46 (by omega)
  have e47 : fv 47 = _ := hv 47 (by omega)
  have e48 : fv 48 = _ := hv 48 (by omega)
  have e49 : fv 49 = _ := hv 49 (by omega)
  have e50 : fv 50 = _ := hv 50 (by omega)
  have e51 : fv 51 = _ := hv 51 (by omega)
  have e52 : fv 52 = _ := hv 52 (by omega)
  have e53 : fv 53 = _ := hv 53 (by omega)
  have e54 : fv 54 = _ := hv 54 (by omega)
  have e55 : fv 55 = _ := hv 55 (by omega)
  have e56 : fv 56 = _ := hv 56 (by omega)
  have e57 : fv 57 = _ := hv 57 (by omega)
  have e58 : fv 58 = _ := hv 58 (by omega)
  have e59 : fv 59 = _ := hv 59 (by omega)
  have e60 : fv 60 = _ := hv 60 (by omega)
  have e61 : fv 61 = _ := hv 61 (by omega)
  simp only [List.take_succ_cons, List.take_zero, putsV, Act.put, List.setIfInBounds_toArray, List.set_cons_succ, List.set_cons_zero, List.drop_succ_cons, List.drop_zero, Nat.zero_add, Nat.reduceAdd, e0, e1, e2, e3, e4, e5, e6, e7, e8, e9, e10, e11, e12, e13, e14, e15, e16, e17, e18, e19, e20, e21, e22, e23, e24, e25, e26, e27, e28, e29, e30, e31, e32, e33, e34, e35, e36, e37, e38, e39, e40, e41, e42, e43, e44, e45, e46, e47, e48, e49, e50, e51, e52, e53, e54, e55, e56, e57, e58, e59, e60, e61]
  replace hL0 := hL0.call (below_drew hb1)
  replace hS := hS.call (below_drew hb1)
  clear e0 e1 e2 e3 e4 e5 e6 e7 e8 e9 e10 e11 e12 e13 e14 e15 e16 e17 e18 e19 e20 e21 e22 e23 e24 e25 e26 e27 e28 e29 e30 e31 e32 e33 e34 e35 e36 e37 e38 e39 e40 e41 e42 e43 e44 e45 e46 e47 e48 e49 e50 e51 e52 e53 e54 e55 e56 e57 e58 e59 e60 e61 hb1 hv fv
  go_upto_region 12 with fail
  refine region_gh (by kernel_rfl) (by kernel_rfl) ?_
  refine lex_seg (gl := []) 6 (by kernel_rfl) ?_
  intro α iα F hF1 hF2
  have hq := GL.seg hF1 hL0
  simp only [fcC, cellsC, and_true, Nat.zero_add, Nat.reduceAdd] at hq
  simp only [List.take_succ_cons, List.take_zero, List.drop_succ_cons, List.drop_zero, List.take_nil, List.drop_nil]
  repeat (go_big_quiet_step (first | fail | (go_at_call 32; with_reducible exact seg_call hF2 I2.out _) | (go_at_call 30; with_reducible exact seg_call hF2 S2.out _) | (go_at_call 33; with_reducible exact seg_call hF2 A1.out _) | (go_at_call 31; with_reducible exact seg_call hF2 M1.out _)))
  refine wpQuiet_nil ?_
  clear hq hF1 hF2 iα F α
  refine lex_new [.int .u64 0, .string ⟨#[]⟩, .bool false, .int .u64 0, .string ⟨#[]⟩] 19 34 34 rfl rfl (of_decide_eq_true (by kernel_rfl)) (by kernel_rfl) rfl new_frac ?_
  simp only [Act.put, List.setIfInBounds_toArray, List.set_cons_succ, List.set_cons_zero]
  refine lex_put [.int .u64 ((zl aw.num : Nat) : Int), .string (zh aw.num), .bool (zs aw.num), .int .u64 ((lo (fe aw) : Nat) : Int), .string (hs (fe aw))] [.int .u64 0, .string ⟨#[]⟩, .bool false, .int .u64 0, .string ⟨#[]⟩] 19 34 (.tmp 144) rfl (by kernel_rfl) (by simp [toG, upd]) rfl (fun w k h => put_frac _ _ _ _ _ _ _ _ _ _ w k h) ?_
  simp only [Act.put]
  refine lexG_nil ?_
  intro κ x16 hS
  replace hL0 := hL0.ghs hS [(19, [.int .u64 ((zl aw.num : Nat) : Int), .string (zh aw.num), .bool (zs aw.num), .int .u64 ((lo (fe aw) : Nat) : Int), .string (hs (fe aw))])] (by simp) (by intro p hp; simp only [List.mem_cons, List.not_mem_nil, or_false] at hp; rcases hp with rfl <;> exact ⟨_, by simp only [toG, upd]; rfl⟩)
  simp only [List.map_cons, List.map_nil, List.cons_append, List.nil_append] at hL0
  simp only [over_toG, over_nil, Act.put, List.setIfInBounds_toArray, List.set_cons_succ, List.set_cons_zero]
  clear hS
  generalize κ 19 = k16_19 at *
  replace hS := SS.nil x16
  go_upto_region 13 with fail
  refine region_gh (by kernel_rfl) (by kernel_rfl) ?_
  refine lex_seg (gl := []) 8 (by kernel_rfl) ?_
  intro α iα F hF1 hF2
  have hq := GL.seg hF1 hL0
  simp only [fcC, cellsC, and_true, Nat.zero_add, Nat.reduceAdd] at hq
  simp only [List.take_succ_cons, List.take_zero, List.drop_succ_cons, List.drop_zero, List.take_nil, List.drop_nil]
  repeat (go_big_quiet_step (first | fail | (go_at_call 32; with_reducible exact seg_call hF2 I2.out _) | (go_at_call 31; with_reducible exact seg_call hF2 M2.out _) | (go_at_call 27; with_reducible exact seg_call hF2 D4.out _)))
  refine wpQuiet_nil ?_
  clear hq hF1 hF2 iα F α
  refine lex_new [.int .u64 0, .string ⟨#[]⟩, .bool false, .int .u64 0, .string ⟨#[]⟩] 20 34 34 rfl rfl (of_decide_eq_true (by kernel_rfl)) (by kernel_rfl) rfl new_frac ?_
  simp only [Act.put, List.setIfInBounds_toArray, List.set_cons_succ, List.set_cons_zero]
  refine lex_put [.int .u64 ((zl tt.num : Nat) : Int), .string (zh tt.num), .bool (zs tt.num), .int .u64 ((lo (fe tt) : Nat) : Int), .string (hs (fe tt))] [.int .u64 0, .string ⟨#[]⟩, .bool false, .int .u64 0, .string ⟨#[]⟩] 20 34 (.tmp 151) rfl (by kernel_rfl) (by simp [toG, upd]) rfl (fun w k h => put_frac _ _ _ _ _ _ _ _ _ _ w k h) ?_
  simp only [Act.put]
  refine lex_seg (gl := [(20, [.int .u64 ((zl tt.num : Nat) : Int), .string (zh tt.num), .bool (zs tt.num), .int .u64 ((lo (fe tt) : Nat) : Int), .string (hs (fe tt))], true), (20, [.int .u64 0, .string ⟨#[]⟩, .bool false, .int .u64 0, .string ⟨#[]⟩], false)]) 1 (by kernel_rfl) ?_
  intro α iα F hF1 hF2
  have hq := GL.seg hF1 hL0
  simp only [fcC, cellsC, and_true, Nat.zero_add, Nat.reduceAdd] at hq
  simp only [List.take_succ_cons, List.take_zero, List.drop_succ_cons, List.drop_zero, List.take_nil, List.drop_nil]
  repeat (go_big_quiet_step (first | fail | (go_at_call 32; with_reducible exact seg_call hF2 I2.out _) | (go_at_call 31; with_reducible exact seg_call hF2 M2.out _) | (go_at_call 27; with_reducible exact seg_call hF2 D4.out _)))
  refine wpQuiet_nil ?_
  clear hq hF1 hF2 iα F α
  refine lexG_nil ?_
  intro κ x17 hS
  replace hL0 := hL0.ghs hS [(20, [.int .u64 ((zl tt.num : Nat) : Int), .string (zh tt.num), .bool (zs tt.num), .int .u64 ((lo (fe tt) : Nat) : Int), .string (hs (fe tt))])] (by simp) (by intro p hp; simp only [List.mem_cons, List.not_mem_nil, or_false] at hp; rcases hp with rfl <;> exact ⟨_, by simp only [toG, upd]; rfl⟩)
  simp only [List.map_cons, List.map_nil, List.cons_append, List.nil_append] at hL0
  simp only [over_toG, over_nil, Act.put, List.setIfInBounds_toArray, List.set_cons_succ, List.set_cons_zero]
  clear hS
  generalize κ 20 = k17_20 at *
  replace hS := SS.nil x17
  by_cases hat : aw = st
  ·have W5 := Lib.hid (W4.out hat)
   have h2 := hat.symm
   clear hat W4
   subst h2
   have hN0 := cells_of _ 0 [] rfl (hL0.get _ _ (List.mem_cons_of_mem _ List.mem_cons_self))
   simp only [cellsF, and_true, Nat.zero_add, Nat.reduceAdd] at hN0
   have hN1 := cells_of _ 0 [] rfl (hL0.get _ _ (List.mem_cons_of_mem _ (List.mem_cons_of_mem _ (List.mem_cons_of_mem _ (List.mem_cons_of_mem _ (List.mem_cons_of_mem _ (List.mem_cons_of_mem _ (List.mem_cons_of_mem _ (List.mem_cons_of_mem _ List.mem_cons_self)))))))))
   simp only [cellsF, and_true, Nat.zero_add, Nat.reduceAdd] at hN1
   go_wp2_with fail
   clear hN0 hN1
   with_reducible refine Calls.mono (C3.out _) ?_
   rintro e x18 ⟨rfl, hb⟩
   replace hL0 := hL0.call hb
   replace hS := hS.call hb
   clear hb
   have hN0 := cells_of _ 0 [] rfl (hL0.get _ _ List.mem_cons_self)
   simp only [cellsF, and_true, Nat.zero_add, Nat.reduceAdd] at hN0
   have hN1 := cells_of _ 0 [] rfl (hL0.get _ _ (List.mem_cons_of_mem _ List.mem_cons_self))
   simp only [cellsF, and_true, Nat.zero_add, Nat.reduceAdd] at hN1
   have hN2 := cells_of _ 0 [] rfl (hL0.get _ _ (List.mem_cons_of_mem _ (List.mem_cons_of_mem _ (List.mem_cons_of_mem _ (List.mem_cons_of_mem _ (List.mem_cons_of_mem _ (List.mem_cons_of_mem _ (List.mem_cons_of_mem _ (List.mem_cons_of_mem _ List.mem_cons_self)))))))))
   simp only [cellsF, and_true, Nat.zero_add, Nat.reduceAdd] at hN2
   go_wp2_with fail
   clear hN0 hN1 hN2
   with_reducible refine Calls.mono (W5.out _) ?_
   rintro e x19 ⟨rfl, hb⟩
   replace hL0 := hL0.call hb
   replace hS := hS.call hb
   clear hb
   go_wp2_with fail
   go_loopg [22] 3 (fun gk iv wr => ∃ (i : Nat), 1 ≤ i ∧ i + gk = 4 ∧ iv = .int .i64 (i : Int) ∧ GL w wr [(k17_20, [.int .u64 ((zl tt.num : Nat) : Int), .string (zh tt.num), .bool (zs tt.num), .int .u64 ((lo (fe tt) : Nat) : Int), .string (hs (fe tt))]), (k16_19, [.int .u64 ((zl st.num : Nat) : Int), .string (zh st.num), .bool (zs st.num), .int .u64 ((lo (fe st) : Nat) : Int), .string (hs (fe st))]), (x13.heap.size, [.int .u64 ((zl wh.num : Nat) : Int), .string (zh wh.num), .bool (zs wh.num), .int .u64 ((lo (fe wh) : Nat) : Int), .string (hs (fe wh))]), (x11.heap.size, [.int .u64 ((zl z1.num : Nat) : Int), .string (zh z1.num), .bool (zs z1.num), .int .u64 ((lo (fe z1) : Nat) : Int), .string (hs (fe z1))]), (x9.heap.size, [.int .u64 ((zl y1.num : Nat) : Int), .string (zh y1.num), .bool (zs y1.num), .int .u64 ((lo (fe y1) : Nat) : Int), .string (hs (fe y1))]), (x7.heap.size, [.int .u64 ((zl hg.num : Nat) : Int), .string (zh hg.num), .bool (zs hg.num), .int .u64 ((lo (fe hg) : Nat) : Int), .string (hs (fe hg))]), (x5.heap.size + 1, [.int .u64 ((zl hg.num : Nat) : Int), .string (zh hg.num), .bool (zs hg.num), .int .u64 ((lo (fe hg) : Nat) : Int), .string (hs (fe hg))]), (x5.heap.size, [.int .u64 ((zl lw.num : Nat) : Int), .string (zh lw.num), .bool (zs lw.num), .int .u64 ((lo (fe lw) : Nat) : Int), .string (hs (fe lw))]), (x3.heap.size + 1, [.int .u64 ((zl st.num : Nat) : Int), .string (zh st.num), .bool (zs st.num), .int .u64 ((lo (fe st) : Nat) : Int), .string (hs (fe st))]), (x3.heap.size, [.int .u64 ((zl q.num : Nat) : Int), .string (zh q.num), .bool (zs q.num), .int .u64 ((lo (fe q) : Nat) : Int), .string (hs (fe q))]), (w.heap.size, [.bool sx, .slice ax nx cx, .slice qx mx dx])])
   case atStart => exact ⟨1, Nat.le_refl _, by omega, by first | rfl | go_num, hL0⟩
   case round =>
    clear hL0 hS
    obtain ⟨i, hi1, hik, rfl, hL0⟩ := hrel
    have hS := SS.nil wr
    by_cases hin : i < 4
    ·have k1 : (i : Int) ≤ 3 := by omega
     have kb : (i : Int) ≤ 1000000 := by omega
     obtain ⟨r9, HO1, HO2⟩ := HO.out i hi1 (by omega)
     replace HO1 := Lib.hid HO1
     replace HO2 := Lib.hid HO2
     clear hin hi1
     have hN0 := cells_of _ 0 [] rfl (hL0.get _ _ (List.mem_cons_of_mem _ (List.mem_cons_of_mem _ (List.mem_cons_of_mem _ (List.mem_cons_of_mem _ (List.mem_cons_of_mem _ (List.mem_cons_of_mem _ (List.mem_cons_of_mem _ (List.mem_cons_of_mem _ (List.mem_cons_of_mem _ List.mem_cons_self))))))))))
     simp only [cellsF, and_true, Nat.zero_add, Nat.reduceAdd] at hN0
     go_wp2_with fail
     clear hN0
     with_reducible refine Calls.mono (HO1.out _) ?_
     rintro e x20 ⟨rfl, hb⟩
     replace hL0 := hL0.call hb
     replace hS := hS.call hb
     clear hb
     replace hS := (hS.new (.cells #[.int .u64 ((zl r9.num : Nat) : Int), .string (zh r9.num), .bool (zs r9.num), .int .u64 ((lo (fe r9) : Nat) : Int), .string (hs (fe r9))] 34))
     replace hL0 := (hL0.new rfl [.int .u64 ((zl r9.num : Nat) : Int), .string (zh r9.num), .bool (zs r9.num), .int .u64 ((lo (fe r9) : Nat) : Int), .string (hs (fe r9))] 34)
     generalize hweq : (x20.alloc (.cells #[.int .u64 ((zl r9.num : Nat) : Int), .string (zh r9.num), .bool (zs r9.num), .int .u64 ((lo (fe r9) : Nat) : Int), .string (hs (fe r9))] 34)) = x21 at hL0 hS
     have hN0 := cells_of _ 0 [] rfl (hL0.get _ _ List.mem_cons_self)
     simp only [cellsF, and_true, Nat.zero_add, Nat.reduceAdd] at hN0
     go_wp2_with fail
     clear hN0
     with_reducible refine Calls.mono (HO2.out _) ?_
     rintro e x22 ⟨rfl, hb⟩
     replace hL0 := hL0.call hb
     replace hS := hS.call hb
     clear hb hweq
     replace hS := (hS.new (.cells #[.int .u64 ((zl r9.num : Nat) : Int), .string (zh r9.num), .bool (zs r9.num), .int .u64 ((lo (fe r9) : Nat) : Int), .string (hs (fe r9))] 34))
     replace hL0 := (hL0.new rfl [.int .u64 ((zl r9.num : Nat) : Int), .string (zh r9.num), .bool (zs r9.num), .int .u64 ((lo (fe r9) : Nat) : Int), .string (hs (fe r9))] 34)
     generalize hweq : (x22.alloc (.cells #[.int .u64 ((zl r9.num : Nat) : Int), .string (zh r9.num), .bool (zs r9.num), .int .u64 ((lo (fe r9) : Nat) : Int), .string (hs (fe r9))] 34)) = x23 at hL0 hS
     have hN0 := cells_of _ 0 [] rfl (hL0.get _ _ List.mem_cons_self)
     simp only [cellsF, and_true, Nat.zero_add, Nat.reduceAdd] at hN0
     have hN1 := cells_of _ 0 [] rfl (hL0.get _ _ (List.mem_cons_of_mem _ List.mem_cons_self))
     simp only [cellsF, and_true, Nat.zero_add, Nat.reduceAdd] at hN1
     go_wp2_with fail
     go_roundg (gk - 1)
     case measure => omega
     case rel => exact ⟨i + 1, by omega, by omega, by first | rfl | go_num, hL0.weak (List.Sublist.cons _ (List.Sublist.cons _ (List.Sublist.refl _)))⟩
    ·have k1 : ¬ (i : Int) ≤ 3 := by omega
     go_wp2_with fail
     with_reducible refine Calls.mono (HW.out _ (hKT.out.at hL0.bl kKT)) ?_
     rintro e x20 ⟨rfl, hb⟩
     replace hL0 := hL0.call hb
     replace hS := hS.call hb
     clear hb
     go_wp2_with fail
     exact bodyPost_ret (v := .bool true) (by simp [results, Tryz.results6, go_sem]) rfl ⟨rfl, hL0.bl⟩
  ·have haw := Lib.hid (show aw ≠ st from hat)
   clear hat W4
   rcases ne_fr haw.out with e0 | ⟨e0, e1⟩ | ⟨e0, e1, e2⟩ | ⟨e0, e1, e2, e3⟩ | ⟨e0, e1, e2, e3, e4⟩
   all_goals (
    have hN0 := cells_of _ 0 [] rfl (hL0.get _ _ (List.mem_cons_of_mem _ List.mem_cons_self))
    simp only [cellsF, and_true, Nat.zero_add, Nat.reduceAdd] at hN0
    have hN1 := cells_of _ 0 [] rfl (hL0.get _ _ (List.mem_cons_of_mem _ (List.mem_cons_of_mem _ (List.mem_cons_of_mem _ (List.mem_cons_of_mem _ (List.mem_cons_of_mem _ (List.mem_cons_of_mem _ (List.mem_cons_of_mem _ (List.mem_cons_of_mem _ List.mem_cons_self)))))))))
    simp only [cellsF, and_true, Nat.zero_add, Nat.reduceAdd] at hN1
    go_wp2_with fail
    clear hN0 hN1
    with_reducible refine Calls.mono (C3.out _) ?_
    rintro e x18 ⟨rfl, hb⟩
    replace hL0 := hL0.call hb
    replace hS := hS.call hb
    clear hb
    have hN0 := cells_of _ 0 [] rfl (hL0.get _ _ (List.mem_cons_of_mem _ List.mem_cons_self))
    simp only [cellsF, and_true, Nat.zero_add, Nat.reduceAdd] at hN0
    have hN1 := cells_of _ 0 [] rfl (hL0.get _ _ (List.mem_cons_of_mem _ (List.mem_cons_of_mem _ (List.mem_cons_of_mem _ (List.mem_cons_of_mem _ (List.mem_cons_of_mem _ (List.mem_cons_of_mem _ (List.mem_cons_of_mem _ (List.mem_cons_of_mem _ List.mem_cons_self)))))))))
    simp only [cellsF, and_true, Nat.zero_add, Nat.reduceAdd] at hN1
    go_wp2_with fail
    clear hN0 hN1
    go_loopg [22] 3 (fun gk iv wr => ∃ (i : Nat), 1 ≤ i ∧ i + gk = 4 ∧ iv = .int .i64 (i : Int) ∧ GL w wr [(k17_20, [.int .u64 ((zl tt.num : Nat) : Int), .string (zh tt.num), .bool (zs tt.num), .int .u64 ((lo (fe tt) : Nat) : Int), .string (hs (fe tt))]), (k16_19, [.int .u64 ((zl aw.num : Nat) : Int), .string (zh aw.num), .bool (zs aw.num), .int .u64 ((lo (fe aw) : Nat) : Int), .string (hs (fe aw))]), (x13.heap.size, [.int .u64 ((zl wh.num : Nat) : Int), .string (zh wh.num), .bool (zs wh.num), .int .u64 ((lo (fe wh) : Nat) : Int), .string (hs (fe wh))]), (x11.heap.size, [.int .u64 ((zl z1.num : Nat) : Int), .string (zh z1.num), .bool (zs z1.num), .int .u64 ((lo (fe z1) : Nat) : Int), .string (hs (fe z1))]), (x9.heap.size, [.int .u64 ((zl y1.num : Nat) : Int), .string (zh y1.num), .bool (zs y1.num), .int .u64 ((lo (fe y1) : Nat) : Int), .string (hs (fe y1))]), (x7.heap.size, [.int .u64 ((zl hg.num : Nat) : Int), .string (zh hg.num), .bool (zs hg.num), .int .u64 ((lo (fe hg) : Nat) : Int), .string (hs (fe hg))]), (x5.heap.size + 1, [.int .u64 ((zl hg.num : Nat) : Int), .string (zh hg.num), .bool (zs hg.num), .int .u64 ((lo (fe hg) : Nat) : Int), .string (hs (fe hg))]), (x5.heap.size, [.int .u64 ((zl lw.num : Nat) : Int), .string (zh lw.num), .bool (zs lw.num), .int .u64 ((lo (fe lw) : Nat) : Int), .string (hs (fe lw))]), (x3.heap.size + 1, [.int .u64 ((zl st.num : Nat) : Int), .string (zh st.num), .bool (zs st.num), .int .u64 ((lo (fe st) : Nat) : Int), .string (hs (fe st))]), (x3.heap.size, [.int .u64 ((zl q.num : Nat) : Int), .string (zh q.num), .bool (zs q.num), .int .u64 ((lo (fe q) : Nat) : Int), .string (hs (fe q))]), (w.heap.size, [.bool sx, .slice ax nx cx, .slice qx mx dx])])
    case atStart => exact ⟨1, Nat.le_refl _, by omega, by first | rfl | go_num, hL0⟩
    case round =>
     clear hL0 hS
     obtain ⟨i, hi1, hik, rfl, hL0⟩ := hrel
     have hS := SS.nil wr
     by_cases hin : i < 4
     ·have k1 : (i : Int) ≤ 3 := by omega
      have kb : (i : Int) ≤ 1000000 := by omega
      obtain ⟨r9, HO1, HO2⟩ := HO.out i hi1 (by omega)
      replace HO1 := Lib.hid HO1
      replace HO2 := Lib.hid HO2
      clear hin hi1
      have hN0 := cells_of _ 0 [] rfl (hL0.get _ _ (List.mem_cons_of_mem _ (List.mem_cons_of_mem _ (List.mem_cons_of_mem _ (List.mem_cons_of_mem _ (List.mem_cons_of_mem _ (List.mem_cons_of_mem _ (List.mem_cons_of_mem _ (List.mem_cons_of_mem _ (List.mem_cons_of_mem _ List.mem_cons_self))))))))))
      simp only [cellsF, and_true, Nat.zero_add, Nat.reduceAdd] at hN0
      go_wp2_with fail
      clear hN0
      with_reducible refine Calls.mono (HO1.out _) ?_
      rintro e x19 ⟨rfl, hb⟩
      replace hL0 := hL0.call hb
      replace hS := hS.call hb
      clear hb
      replace hS := (hS.new (.cells #[.int .u64 ((zl r9.num : Nat) : Int), .string (zh r9.num), .bool (zs r9.num), .int .u64 ((lo (fe r9) : Nat) : Int), .string (hs (fe r9))] 34))
      replace hL0 := (hL0.new rfl [.int .u64 ((zl r9.num : Nat) : Int), .string (zh r9.num), .bool (zs r9.num), .int .u64 ((lo (fe r9) : Nat) : Int), .string (hs (fe r9))] 34)
      generalize hweq : (x19.alloc (.cells #[.int .u64 ((zl r9.num : Nat) : Int), .string (zh r9.num), .bool (zs r9.num), .int .u64 ((lo (fe r9) : Nat) : Int), .string (hs (fe r9))] 34)) = x20 at hL0 hS
      have hN0 := cells_of _ 0 [] rfl (hL0.get _ _ List.mem_cons_self)
      simp only [cellsF, and_true, Nat.zero_add, Nat.reduceAdd] at hN0
      go_wp2_with fail
      clear hN0
      with_reducible refine Calls.mono (HO2.out _) ?_
      rintro e x21 ⟨rfl, hb⟩
      replace hL0 := hL0.call hb
      replace hS := hS.call hb
      clear hb hweq
      replace hS := (hS.new (.cells #[.int .u64 ((zl r9.num : Nat) : Int), .string (zh r9.num), .bool (zs r9.num), .int .u64 ((lo (fe r9) : Nat) : Int), .string (hs (fe r9))] 34))
      replace hL0 := (hL0.new rfl [.int .u64 ((zl r9.num : Nat) : Int), .string (zh r9.num), .bool (zs r9.num), .int .u64 ((lo (fe r9) : Nat) : Int), .string (hs (fe r9))] 34)
      generalize hweq : (x21.alloc (.cells #[.int .u64 ((zl r9.num : Nat) : Int), .string (zh r9.num), .bool (zs r9.num), .int .u64 ((lo (fe r9) : Nat) : Int), .string (hs (fe r9))] 34)) = x22 at hL0 hS
      have hN0 := cells_of _ 0 [] rfl (hL0.get _ _ List.mem_cons_self)
      simp only [cellsF, and_true, Nat.zero_add, Nat.reduceAdd] at hN0
      have hN1 := cells_of _ 0 [] rfl (hL0.get _ _ (List.mem_cons_of_mem _ List.mem_cons_self))
      simp only [cellsF, and_true, Nat.zero_add, Nat.reduceAdd] at hN1
      go_wp2_with fail
      go_roundg (gk - 1)
      case measure => omega
      case rel => exact ⟨i + 1, by omega, by omega, by first | rfl | go_num, hL0.weak (List.Sublist.cons _ (List.Sublist.cons _ (List.Sublist.refl _)))⟩
     ·have k1 : ¬ (i : Int) ≤ 3 := by omega
      go_wp2_with fail
      with_reducible refine Calls.mono (HW.out _ (hKT.out.at hL0.bl kKT)) ?_
      rintro e x19 ⟨rfl, hb⟩
      replace hL0 := hL0.call hb
      replace hS := hS.call hb
      clear hb
      go_wp2_with fail
      exact bodyPost_ret (v := .bool true) (by simp [results, Tryz.results6, go_sem]) rfl ⟨rfl, hL0.bl⟩)
end Go.Proofs.YtahfcciihkkegaaGreatDoor
namespace Go.Proofs.YtahfcciihkkegaaGreatDoor
open Go.RowKit
theorem dm_le {x y : Rat} (h : x ≤ y) : decide (0 < cmpQ x y) = false := by
 rw [cmpQ_gt]; exact decide_eq_false (by grind)
theorem dm_ge {x y : Rat} (h : y ≤ x) : decide (cmpQ x y < 0) = false := by
 rw [cmpQ_lt]; exact decide_eq_false (by grind)
theorem tenth_pow (p : Nat) : (mkRat 1 10) ^ p = stepQ p := by
 have inj {a b t : Rat} (h : 0 < t) (e : a * t = b * t) : a = b := by
  have h0 : t ≠ 0 := fun q => by rw [q] at h; exact absurd h (by decide)
  have e2 : a * t * t⁻¹ = b * t * t⁻¹ := by rw [e]
  rwa [Rat.mul_assoc, Rat.mul_assoc, Rat.mul_inv_cancel _ h0, Rat.mul_one, Rat.mul_one] at e2
 induction p with
 | zero => rw [Rat.pow_zero]; unfold stepQ tenQ; decide +kernel
 | succ p ih =>
  rw [Rat.pow_succ, ih]
  refine inj (tenQ_pos (p + 1)) ?_
  rw [step_mul, show tenQ (p + 1) = tenQ p * 10 by unfold tenQ; rw [Nat.pow_succ, Rat.natCast_mul]; rfl]
  have h1 := step_mul p
  have h2 : mkRat 1 10 * 10 = 1 := by decide +kernel
  grind
theorem nb_oneD : nb 1 ≤ 2 := by
 obtain ⟨k, h1, h2, -⟩ := nb_spec (n := 1) (by decide)
 rw [h1]
 rcases Nat.lt_or_ge k 2 with g | g
 ·omega
 ·exfalso
  have := Nat.pow_le_pow_right (show 0 < 2 by omega) g
  omega
theorem powerD (p : Nat) (hp : p ≤ 100) (w : World) : Calls Tryz.prog 25 #[.int .i64 (p : Int)] w fun x w' => x = .returned (fracV (stepQ p)) ∧ Below w.heap.size w w' := by
 have hO := of4 1 10 (mkRat 1 10) (by decide +kernel) (by decide) (by decide) (by decide) (by decide) (by decide)
 have n1 : nb (mkRat 1 10).num.natAbs ≤ 4 := by rw [show (mkRat 1 10).num.natAbs = 1 by decide +kernel]; exact Nat.le_trans nb_oneD (by decide)
 have n2 : nb (mkRat 1 10).den ≤ 4 := by rw [show (mkRat 1 10).den = 10 by decide +kernel]; exact nb_ten
 have hq : ∀ x, x ≤ 4 → p = 0 ∨ x ≤ 262144 / p := fun x hx => by
  rcases Nat.eq_zero_or_pos p with g | g
  ·exact .inl g
  ·exact .inr (Nat.le_trans hx ((Nat.le_div_iff_mul_le g).2 (by omega)))
 have hP := fun w => powF_pos (mkRat 1 10) p (by omega) _ 0 (fun w => powerF (mkRat 1 10) p (by omega) (hq _ n1) (hq _ n2) 1 (szc _ (by decide +kernel) (by decide +kernel)) (by omega) w) w
 rw [tenth_pow] at hP
 exact lpower_w p 0 (mkRat 1 10) (stepQ p) hO hP w
theorem abs_zero : absQ 0 = 0 := by decide +kernel
theorem far_same {q a st : Rat} (h : a = q) (hs : 0 < st) : (2 : Int) * absQ (a - q) ≠ st := by
 subst h
 rw [show a - a = 0 by grind, abs_zero]
 intro e
 rw [show ((2 : Int) : Rat) * 0 = 0 by grind] at e
 rw [← e] at hs; exact absurd hs (by decide)
end Go.Proofs.YtahfcciihkkegaaGreatDoor
namespace Go.Proofs.YtahfcciihkkegaaGreatDoor
open Go.RowKit Go.Proofs.YtahfcciihkkegaaGreatDoor.Rx
def fd (q : Rat) : Nat := q.den - 1
attribute [local irreducible] lo hs sm s64 c64 d64 b64 mh ml pd pc qd qc val hiB str cmpI srD lz nb isq decB zl zh zs dval fd
/-- A fraction of the reference: its numerator, and its denominator minus 1. -/
def RF (w : World) (v : Value) (q : Rat) : Prop := ∃ a b, v = .agg #[.bool (zs q.num), a, b] ∧ Rn w a q.num.natAbs ∧ Rn w b (fd q)
theorem RF.below {w w' : World} {v : Value} {q : Rat} (h : RF w v q) (hb : Below w.heap.size w w') : RF w' v q := by
 obtain ⟨a, b, h1, h2, h3⟩ := h
 exact ⟨a, b, h1, Sl.below h2 hb, Sl.below h3 hb⟩
end Go.Proofs.YtahfcciihkkegaaGreatDoor
namespace Go.Proofs.YtahfcciihkkegaaGreatDoor.Rx
open Go.RowKit
attribute [local irreducible] tv dg cmpI txt decB nb
end Go.Proofs.YtahfcciihkkegaaGreatDoor.Rx
namespace Go.Proofs.YtahfcciihkkegaaGreatDoor.Rx
open Go.RowKit
attribute [local irreducible] tv dg cmpI txt decB nb isq
/-- What the root's digits so far are good for. -/
structure SqS (a j : Nat) (X : List Nat) : Prop where
 lt : ∀ d ∈ X, d < 10000
 zero : ∀ (k : Nat) (h : k < X.length), k < j → X[k] = 0
 low : tv X * tv X ≤ a
 high : a < (tv X + 10000 ^ j) * (tv X + 10000 ^ j)
theorem SqS.start (a m : Nat) (h : (td a).length ≤ 2 * m) : SqS a m (List.replicate m 0) := by
 refine ⟨fun d hd => by rw [(List.mem_replicate.1 hd).2]; omega, fun k h _ => by simp, by rw [tv_zeros]; omega, ?_⟩
 have := td_length.1 h
 rwa [tv_zeros, Nat.zero_add, ← Nat.pow_add, ← Nat.two_mul]
theorem tv_set0 {X : List Nat} {i : Nat} (h : i < X.length) (h0 : X[i] = 0) (d : Nat) : tv (X.set i d) = tv X + 10000 ^ i * d := by
 have := tv_set h d
 rw [h0, Nat.mul_zero, Nat.add_zero] at this
 exact this
theorem SqS.set {a i : Nat} {X : List Nat} (h : SqS a (i + 1) X) (hi : i < X.length) {d : Nat} (hd : d < 10000) (h1 : (tv X + 10000 ^ i * d) * (tv X + 10000 ^ i * d) ≤ a) (h2 : a < (tv X + 10000 ^ i * (d + 1)) * (tv X + 10000 ^ i * (d + 1))) :
  SqS a i (X.set i d) := by
 have e := tv_set0 hi (h.zero i hi (by omega)) d
 refine ⟨fun x hx => ?_, fun k hk hki => ?_, by rw [e]; exact h1, ?_⟩
 ·rcases List.mem_or_eq_of_mem_set hx with hx | hx
  ·exact h.lt x hx
  ·rw [hx]; exact hd
 ·rw [List.getElem_set_ne (by omega)]
  exact h.zero k (by rw [List.length_set] at hk; exact hk) (by omega)
 ·rw [e, Nat.add_assoc, ← Nat.mul_succ]
  exact h2
theorem SqS.done {a : Nat} {X : List Nat} (h : SqS a 0 X) : tv X = isq a := isq_uniq h.low (by have := h.high; rwa [Nat.pow_zero] at this)
end Go.Proofs.YtahfcciihkkegaaGreatDoor.Rx
namespace Go.Proofs.YtahfcciihkkegaaGreatDoor.Rx
open Go.RowKit
attribute [local irreducible] tv dg cmpI txt decB nb isq
theorem td_drop (n k : Nat) : (td n).drop k = td (n / 10000 ^ k) := by
 induction k generalizing n with
 | zero => simp
 | succ k ih =>
  by_cases h : n = 0
  ·rw [h, Nat.zero_div, td_zero]; simp
  ·rw [td_pos h, List.drop_succ_cons, ih, Nat.div_div_eq_div_mul, Nat.pow_succ, Nat.mul_comm 10000]
/-- What Div's rounds keep: the digits from i on are the quotient's, r is what is left. -/
structure DivS (a b : Nat) (A X : List Nat) (i r : Nat) : Prop where
 lt : ∀ d ∈ X, d < 10000
 zero : ∀ (k : Nat) (h : k < X.length), k < i → X[k] = 0
 eq : tv X * b + 10000 ^ i * r + tv (A.take i) = a
 rem : r < b
theorem DivS.step {a b i r : Nat} {A X : List Nat} (h : DivS a b A X (i + 1) r) (hA : ∀ d ∈ A, d < 10000) (hi : i < X.length) {y : Nat} (hy : y = dg A i + 10000 * r) :
  y / b ≤ 9999 ∧ DivS a b A (X.set i (y / b)) i (y - b * (y / b)) := by
 have hb : 0 < b := Nat.lt_of_le_of_lt (Nat.zero_le _) h.rem
 have hx := dg_lt hA i
 have hr := h.rem
 have hq : y / b ≤ 9999 := by
  have h1 : y < 10000 * b := by
   have : 10000 * (r + 1) ≤ 10000 * b := Nat.mul_le_mul_left _ hr
   omega
  have := (Nat.div_lt_iff_lt_mul hb).2 h1
  omega
 have e := tv_set0 hi (h.zero i hi (by omega)) (y / b)
 have hm := Nat.div_add_mod y b
 have hml := Nat.mod_lt y hb
 refine ⟨hq, fun x hx => ?_, fun k hk hki => ?_, ?_, by omega⟩
 ·rcases List.mem_or_eq_of_mem_set hx with hx | hx
  ·exact h.lt x hx
  ·omega
 ·rw [List.getElem_set_ne (by omega)]
  exact h.zero k (by rw [List.length_set] at hk; exact hk) (by omega)
 ·have e0 := h.eq
  rw [tv_take, Nat.pow_succ] at e0
  rw [e, Nat.add_mul]
  have e1 : 10000 ^ i * (y / b) * b + 10000 ^ i * (y - b * (y / b)) = 10000 ^ i * dg A i + 10000 ^ i * 10000 * r := by
   rw [Nat.mul_assoc, Nat.mul_assoc, ← Nat.mul_add, ← Nat.mul_add, Nat.mul_comm (y / b) b, show b * (y / b) + (y - b * (y / b)) = y by omega, hy]
  generalize tv X * b = p1 at *
  generalize 10000 ^ i * (y / b) * b = p2 at *
  generalize 10000 ^ i * (y - b * (y / b)) = p3 at *
  generalize 10000 ^ i * dg A i = p4 at *
  generalize 10000 ^ i * 10000 * r = p5 at *
  omega
theorem DivS.done {a b r : Nat} {A X : List Nat} (h : DivS a b A X 0 r) : tv X = a / b ∧ r = a % b := by
 have e := h.eq
 rw [Nat.pow_zero, Nat.one_mul, List.take_zero, tv_nil, Nat.add_zero, Nat.mul_comm] at e
 have hb : 0 < b := Nat.lt_of_le_of_lt (Nat.zero_le _) h.rem
 rw [← e]
 exact ⟨by rw [Nat.mul_add_div hb, Nat.div_eq_of_lt h.rem, Nat.add_zero], by rw [Nat.mul_add_mod, Nat.mod_eq_of_lt h.rem]⟩
theorem DivS.start {a b : Nat} (hab : b ≤ a) (hb : 0 < b) : ∃ i, i + (td b).length = (td a).length + 1 ∧ DivS a b (td a) (List.replicate i 0) i (tv ((td a).drop i)) := by
 have hlen := td_mono hab
 have hbl : 0 < (td b).length := by
  rcases Nat.eq_zero_or_pos (td b).length with h | h
  ·have := td_nil.1 (List.eq_nil_of_length_eq_zero h); omega
  ·exact h
 refine ⟨(td a).length + 1 - (td b).length, by omega, fun d hd => by rw [(List.mem_replicate.1 hd).2]; omega, fun k h _ => by simp, ?_, ?_⟩
 ·rw [tv_zeros, Nat.zero_mul, Nat.zero_add]
  have := tv_append ((td a).take ((td a).length + 1 - (td b).length)) ((td a).drop ((td a).length + 1 - (td b).length))
  rw [List.take_append_drop, tv_td, List.length_take, Nat.min_eq_left (by omega)] at this
  omega
 ·rw [td_drop, tv_td]
  refine Nat.lt_of_not_le fun h => ?_
  have h1 : (td (a / 10000 ^ ((td a).length + 1 - (td b).length))).length = (td b).length - 1 := by
   rw [← td_drop, List.length_drop]; omega
  have := td_mono h
  omega
end Go.Proofs.YtahfcciihkkegaaGreatDoor.Rx
namespace Go.Proofs.YtahfcciihkkegaaGreatDoor.Rx
open Go.RowKit
attribute [local irreducible] tv dg cmpI txt decB nb isq
theorem Sl.inj {w : World} {v : Value} {l m : List Nat} (h : Sl w v l) (k : Sl w v m) : l = m := by
 rcases h with ⟨ao, c, e1, rfl, -⟩ | ⟨a, c, e1, -, h3⟩
 ·rcases k with ⟨_, _, _, rfl, -⟩ | ⟨a', c', e2, -, -⟩
  ·rfl
  ·rw [e1] at e2
   injection e2 with _ e3 _
   exact (List.eq_nil_of_length_eq_zero e3.symm).symm
 ·rcases k with ⟨_, _, e2, rfl, -⟩ | ⟨a', c', e2, -, k3⟩
  ·rw [e1] at e2
   injection e2 with _ e3 _
   exact List.eq_nil_of_length_eq_zero e3
  ·rw [e1] at e2
   injection e2 with e4 e3 _
   injection e4 with e4
   subst e4
   refine List.ext_getElem e3 fun i h1 h2 => ?_
   have := (h3.cell i h1).symm.trans (k3.cell i h2)
   injection this with this
   injection this with _ this
   exact Int.ofNat.inj this
theorem Rn.inj {w : World} {v : Value} {x y : Nat} (h : Rn w v x) (k : Rn w v y) : x = y := by
 have := congrArg tv (Sl.inj h k)
 rwa [tv_td, tv_td] at this
end Go.Proofs.YtahfcciihkkegaaGreatDoor.Rx
namespace Go.Proofs.YtahfcciihkkegaaGreatDoor
open Go.RowKit
attribute [local irreducible] lo hs sm s64 c64 d64 b64 mh ml pd pc qd qc val hiB str cmpI srD lz nb isq decB zl zh zs dval
theorem GI.run {a b : Int} : ∀ (n : Nat) (G X N Y : Int), N.natAbs ≤ n → GI a b G X N Y → ∃ G X Y, GI a b G X 0 Y := by
  intro n
  induction n with
  | zero => intro G X N Y h hG; obtain rfl : N = 0 := by omega
            exact ⟨_, _, _, hG⟩
  | succ n ih =>
    intro G X N Y h hG
    by_cases hN : N = 0
    · subst hN; exact ⟨_, _, _, hG⟩
    · have h1 := Int.emod_lt G hN
      have h2 := Int.emod_nonneg G hN
      exact ih _ _ _ _ (by omega) (hG.next hN)
end Go.Proofs.YtahfcciihkkegaaGreatDoor
namespace Go.Proofs.YtahfcciihkkegaaGreatDoor
open Go.RowKit Go.Proofs.YtahfcciihkkegaaGreatDoor.Rx
attribute [local irreducible] lo hs sm s64 c64 d64 b64 mh ml pd pc qd qc val hiB str cmpI srD lz nb isq decB zl zh dval txt
theorem absQ_sz {q : Rat} {k : Nat} (h : Sz q k) : Sz (absQ q) k := by
 unfold absQ
 split
 ·exact h.neg
 ·exact h
end Go.Proofs.YtahfcciihkkegaaGreatDoor
namespace Go.Proofs.YtahfcciihkkegaaGreatDoor
open Go.RowKit
attribute [local irreducible] toI rnd tenQ
set_option maxHeartbeats 8000000 in
theorem dbetween_any (sx : Bool) (ax qx : Option Addr) (nx cx mx dx : Nat) (lx kx : List Nat) (p8 : Int) (hp8 : 0 ≤ p8 ∧ p8 < 256) (w : World) (hw : KD w) (hwx : Ws w (.slice ax nx cx) lx) (hvx : Ws w (.slice qx mx dx) kx) :
  Calls Tryz.prog 6 #[.agg #[.bool sx, .slice ax nx cx, .slice qx mx dx], .int .u8 p8] w fun xe w' => xe = .returned (.bool true) ∧ Below w.heap.size w w' := by
 have e1 := hwx.len
 have e2 := hvx.len
 have T {n : Nat} (h : 6 < n) : decide ((6 : Int) < ((n : Nat) : Int)) = true ∧ decide (6 < n) = true := ⟨decide_eq_true (by omega), decide_eq_true h⟩
 have F {n : Nat} (h : ¬ 6 < n) : decide ((6 : Int) < ((n : Nat) : Int)) = false ∧ decide (6 < n) = false := ⟨decide_eq_false (by omega), decide_eq_false h⟩
 by_cases h1 : 6 < nx
 ·exact dbetween_big0 sx ax qx nx cx mx dx p8 KD KD.keeps dworks_any (T h1).1 (T h1).2 w hw
 by_cases h2 : 6 < mx
 ·exact dbetween_big1 sx ax qx nx cx mx dx p8 KD KD.keeps dworks_any (F h1).1 (F h1).2 (T h2).1 (T h2).2 w hw
 have sa : Sz (gmade sx lx kx) 9 := (gmade_sz (most := 6) (by omega) hwx hvx (by omega) (by omega)).mono (by omega)
 have GX : ∀ w, (Ws w (.slice ax nx cx) lx ∧ Ws w (.slice qx mx dx) kx) → _ := fun w h => gof_any sx ax qx nx cx mx dx lx kx (by omega) (by omega) w h.1 h.2
 generalize gmade sx lx kx = q at *
 have q1 := F h1
 have q2 := F h2
 obtain ⟨p, hn, hp⟩ : ∃ p : Nat, p8.tmod 101 = (p : Int) ∧ p ≤ 100 := by
  refine ⟨(p8 % 101).toNat, ?_, by omega⟩
  rw [Int.tmod_eq_emod_of_nonneg hp8.1]; omega
 have hw8 := i64w p8 (by omega) (by omega)
 have HP := powerD p hp
 have HB := fun w => betweenD q p 9 sa (by omega) hp w
 have HR := fun w => roundD q p 3 9 sa (by omega) hp (by omega) w
 have HO : ∀ i : Nat, 1 ≤ i → i ≤ 3 → ∃ r : Rat, (∀ w, Calls Tryz.prog 12 #[fracV q, .int .i64 (p : Int), .int .i64 (i : Int)] w fun xe w' => xe = .returned (.tuple #[fracV r, .int .i64 0]) ∧ Below w.heap.size w w') ∧
   (∀ w, Calls Tryz.prog 12 #[fracV r, .int .i64 (p : Int), .int .i64 (i : Int)] w fun xe w' => xe = .returned (.tuple #[fracV r, .int .i64 0]) ∧ Below w.heap.size w w') := fun i a b => by
  refine ⟨rnd i p q, fun w => roundD q p i 9 sa (by omega) hp (by omega) w, fun w => ?_⟩
  have h := roundD (rnd i p q) p i 21 (rnd_sz i sa hp) (by omega) hp (by omega) w
  rw [rnd_rnd] at h; exact h
 have sl := rnd_sz 1 sa hp
 have sh := rnd_sz 2 sa hp
 have sn := rnd_sz 3 sa hp
 have ss := step_sz hp
 have f1 := rnd_low p q
 have f2 := rnd_high p q
 have f3 := rnd_same p q
 have f4 := rnd_gap p q
 have f5 := rnd_near p q
 have f6 := rnd_away p q
 have f7 := rnd_whole 1 p q
 have f8 := rnd_whole 2 p q
 have hst := stepQ_pos p
 generalize rnd 1 p q = lo at *
 generalize rnd 2 p q = hi at *
 generalize rnd 3 p q = ne at *
 generalize stepQ p = st at *
 have hs0 : st ≠ 0 := fun e => by rw [e] at hst; exact absurd hst (by decide)
 have sq : Sz q 21 := sa.mono (by omega)
 have s7 : Sz st 21 := ss.mono (by omega)
 have D1 := fun w => divF lo st 21 sl s7 (by omega) hs0 w
 have D2 := fun w => divF hi st 21 sh s7 (by omega) hs0 w
 have D3 := fun w => divF q st 21 sq s7 (by omega) hs0 w
 have W1 := wholeF (lo / st)
 have W2 := wholeF (hi / st)
 have W3 := wholeF (q / st)
 rw [f7, show decide (1 = 1) = true from rfl] at W1
 rw [f8, show decide (1 = 1) = true from rfl] at W2
 have C1 := fun w => cmpF lo q 21 sl sq (by omega) w
 have C2 := fun w => cmpF hi q 21 sh sq (by omega) w
 have I2 := fun w => intF 2 (by decide) (by decide) w
 have s2 : Sz ((2 : Int) : Rat) 1 := Sz.int (dI_lit (by decide)) (by decide)
 have S2 := fun w => subF ne q 21 sn sq (by omega) w
 have sd : Sz (ne - q) 43 := sn.sub sq
 have A1 := absF (ne - q)
 have sb := absQ_sz sd
 have M1 := fun w => mulF ((2 : Int) : Rat) (absQ (ne - q)) 43 (s2.mono (by omega)) sb (by omega) w
 have sm := s2.mul sb
 have M2 := fun w => mulF ((2 : Int) : Rat) st 21 (s2.mono (by omega)) s7 (by omega) w
 have s22 := s2.mul s7
 have h20 : ((2 : Int) : Rat) * st ≠ 0 := fun e => by
  have : ((2 : Int) : Rat) = 2 := rfl
  grind
 have D4 := fun w => divF ne (((2 : Int) : Rat) * st) 22 (sn.mono (by omega)) s22 (by omega) h20 w
 have C3 := fun w => cmpF (((2 : Int) : Rat) * absQ (ne - q)) st 44 sm (s7.mono (by omega)) (by omega) w
 have W4 := wholeF (ne / (((2 : Int) : Rat) * st))
 have g1 := dm_le f1
 have g2 := dm_ge f2
 have g3 := dm_le f6.1
 have hK := dpair (.slice ax nx cx) (.slice qx mx dx) lx kx
 by_cases hs : lo = hi
 ·have hlq : lo = q := by grind
  have hn2 : ne = lo := by rcases f5 with h | h; exact h; exact h.trans hs.symm
  rw [decide_eq_true (f3.1 hs)] at W3
  have haw : ((2 : Int) : Rat) * absQ (ne - q) ≠ st := far_same (hn2.trans hlq) hst
  subst hs
  subst hn2
  generalize ((2 : Int) : Rat) * absQ (ne - q) = aw at *
  exact dbetween_same sx ax qx nx cx mx dx p8 p _ _ q st ne _ _ _ _ _ aw _ _ _ hK GX HP HB HR D1 D3 W1 C1 W3 I2 S2 A1 M1 M2 D4 C3 KD KD.keeps dworks_any q1.1 q1.2 q2.1 q2.2 hw8 hn g1 g2 g3 HO haw w ⟨hwx, hvx⟩ hw
 ·rw [decide_eq_false (fun e => hs (f3.2 e))] at W3
  have S1 := fun w => subF hi lo 21 sh sl (by omega) w
  rw [f4 hs] at S1
  have W5 : ((2 : Int) : Rat) * absQ (ne - q) = st → ∀ w, Calls Tryz.prog 28 #[fracV (ne / (((2 : Int) : Rat) * st))] w fun xe w' => xe = .returned (.bool true) ∧ Below w.heap.size w w' := fun ht w => by
   have h := W4 w
   rw [decide_eq_true (f6.2 ht)] at h; exact h
  generalize ((2 : Int) : Rat) * absQ (ne - q) = aw at *
  rcases f5 with h | h
  ·subst h
   exact dbetween_low sx ax qx nx cx mx dx p8 p _ _ _ q st ne hi _ _ _ _ _ _ aw _ _ _ hK GX HP HB HR D1 D2 D3 W1 W2 C1 C2 W3 S1 I2 S2 A1 M1 M2 D4 C3 KD KD.keeps dworks_any q1.1 q1.2 q2.1 q2.2 hw8 hn g1 g2 g3 HO hs W5 w ⟨hwx, hvx⟩ hw
  ·subst h
   exact dbetween_high sx ax qx nx cx mx dx p8 p _ _ _ q st lo ne _ _ _ _ _ _ aw _ _ _ hK GX HP HB HR D1 D2 D3 W1 W2 C1 C2 W3 S1 I2 S2 A1 M1 M2 D4 C3 KD KD.keeps dworks_any q1.1 q1.2 q2.1 q2.2 hw8 hn g1 g2 g3 HO hs W5 w ⟨hwx, hvx⟩ hw
end Go.Proofs.YtahfcciihkkegaaGreatDoor
