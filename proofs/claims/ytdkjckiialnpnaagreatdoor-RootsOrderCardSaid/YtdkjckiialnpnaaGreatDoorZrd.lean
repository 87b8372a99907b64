/-
  The law answers true at every input, and leaves its arguments as they were: a part of the proof. CONDITIONS: the package-level tables start as the program's text lays them (the card ties them).
-/
import Derived.Test.YtdkjckiialnpnaaGreatDoorZrc
import Derived.Test.YtdkjckiialnpnaaGreatDoorTie
import Derived.Test.YtdkjckiialnpnaaGreatDoorCards
set_option linter.unusedVariables false
set_option linter.unusedSimpArgs false
namespace Go.Proofs.YtdkjckiialnpnaaGreatDoor
open Go.RowKit
attribute [local irreducible] lo hs sm s64 c64 d64 b64 mh ml pd pc qd qc val hiB str cmpI srD lz nb isq zl zh zs fe
theorem new_rad (w : World) : (Instr.alloc 142 true (.tuple #[])).run Tryz.prog w = .ok (.pointer (some ⟨w.heap.size, 0, none⟩)) (w.alloc (.cells #[.int .u64 0, .string ⟨#[]⟩, .bool false, .int .u64 0, .string ⟨#[]⟩] 142)) := by
 simp [go_sem, Instr.alloc]
theorem put_rad (i0 i : Int) (s0 s : ByteArray) (b0 b : Bool) (j0 j : Int) (t0 t : ByteArray) (w : World) (k : Nat) (h : Hd w k [.int .u64 i0, .string s0, .bool b0, .int .u64 j0, .string t0]) :
  ∃ w', (Instr.storeAt 142 (.pointer (some ⟨k, 0, none⟩)) (.agg #[.int .u64 i, .string s, .bool b, .int .u64 j, .string t])).run Tryz.prog w = .ok () w' ∧ Hd w' k [.int .u64 i, .string s, .bool b, .int .u64 j, .string t] ∧ Upd k w w' := by
 have h0 : w.cell? ⟨k, 0, none⟩ = some (.int .u64 i0) := h.cell 0 (by simp)
 have h1 : w.cell? ⟨k, 1, none⟩ = some (.string s0) := h.cell 1 (by simp)
 have h2 : w.cell? ⟨k, 2, none⟩ = some (.bool b0) := h.cell 2 (by simp)
 have h3 : w.cell? ⟨k, 3, none⟩ = some (.int .u64 j0) := h.cell 3 (by simp)
 have h4 : w.cell? ⟨k, 4, none⟩ = some (.string t0) := h.cell 4 (by simp)
 have hf := h.frz
 refine ⟨_, ?_, setAll_hd [.int .u64 i, .string s, .bool b, .int .u64 j, .string t] 0 w k [] [.int .u64 i0, .string s0, .bool b0, .int .u64 j0, .string t0] rfl rfl h, ((((((Upd.refl k w).setCell 0 _).setCell 1 _).setCell 2 _).setCell 3 _).setCell 4 _)⟩
 simp [go_sem, Instr.storeAt, Instr.sureAddr, h0, h1, h2, h3, h4, hf, setAll]
set_option maxHeartbeats 4000000 in
set_option maxRecDepth 100000 in
theorem twos_w (n c : Int) (u : Nat) (HO : ∀ w, Calls Tryz.prog 63 #[.int .u64 2] w fun xe w' => xe = .returned (natV 2) ∧ Below w.heap.size w w') (HP : ∀ w, Calls Tryz.prog 163 #[natV 2, .int .i64 n] w fun xe w' => xe = .returned (.tuple #[natV u, .int .i64 c]) ∧ Below w.heap.size w w') (w : World) :
  Calls Tryz.prog 172 #[.int .i64 n] w fun xe w' => xe = .returned (natV u) ∧ Below w.heap.size w w' := by
 have hL0 : GL w w [] := GL.start w
 replace HO := Lib.hid HO
 replace HP := Lib.hid HP
 replace hL0 := (hL0.new rfl [.int .u64 0, .string ⟨#[]⟩] 30)
 generalize hweq : (w.alloc (.cells #[.int .u64 0, .string ⟨#[]⟩] 30)) = x1 at hL0
 go_enter Tryz.func172, Tryz.ntmps172
 go_wp2_with fail
 with_reducible refine Calls.mono (HO.out _) ?_
 rintro e x2 ⟨rfl, hb⟩
 replace hL0 := hL0.call hb
 clear hb hweq
 go_wp2_with fail
 with_reducible refine Calls.mono (HP.out _) ?_
 rintro e x3 ⟨rfl, hb⟩
 replace hL0 := hL0.call hb
 clear hb
 replace hL0 := (hL0.new rfl [.int .u64 ((lo u : Nat) : Int), .string (hs u)] 30)
 generalize hweq : (x3.alloc (.cells #[.int .u64 ((lo u : Nat) : Int), .string (hs u)] 30)) = x4 at hL0
 have hA := hL0.fc
 simp only [fcG, cellsF, neK, and_true, ne_eq, Nat.zero_add, Nat.reduceAdd] at hA
 have hP := hL0.put 1 (w.heap.size) _ rfl [.int .u64 ((lo u : Nat) : Int), .string (hs u)] rfl
 simp only [setAll, List.set_cons_zero, List.set_cons_succ] at hP
 generalize hput1 : ((x4.setCell ⟨w.heap.size, 0, none⟩ (.int .u64 ((lo u : Nat) : Int))).setCell ⟨w.heap.size, 1, none⟩ (.string (hs u))) = x5 at hP
 have hB1 := hP.fc
 simp only [fcG, cellsF, neK, and_true, ne_eq, Nat.zero_add, Nat.reduceAdd] at hB1
 replace hL0 := hP
 go_wp2_with fail
 exact bodyPost_ret (v := .agg #[.int .u64 ((lo u : Nat) : Int), .string (hs u)]) (by simp [results, Tryz.results172, go_sem, hB1]) rfl ⟨rfl, hL0.bl⟩
set_option maxHeartbeats 4000000 in
set_option maxRecDepth 100000 in
theorem rwhole_w (n : Nat) (z : Int) (HF : ∀ w, Calls Tryz.prog 93 #[.bool false, natV n] w fun xe w' => xe = .returned (intV z) ∧ Below w.heap.size w w') (w : World) :
  Calls Tryz.prog 112 #[natV n] w fun xe w' => xe = .returned (intV z) ∧ Below w.heap.size w w' := by
 have hL0 : GL w w [] := GL.start w
 replace HF := Lib.hid HF
 replace hL0 := ((hL0.new rfl [.int .u64 ((lo n : Nat) : Int), .string (hs n)] 30).new (K := w.heap.size + 1) (szA _ _) [.int .u64 0, .string ⟨#[]⟩, .bool false] 32)
 generalize hweq : ((w.alloc (.cells #[.int .u64 ((lo n : Nat) : Int), .string (hs n)] 30)).alloc (.cells #[.int .u64 0, .string ⟨#[]⟩, .bool false] 32)) = x1 at hL0
 go_enter Tryz.func112, Tryz.ntmps112
 have hN0 := cells_of _ 0 [] rfl (hL0.get _ _ (List.mem_cons_of_mem _ List.mem_cons_self))
 simp only [cellsF, and_true, Nat.zero_add, Nat.reduceAdd] at hN0
 go_wp2_with fail
 clear hN0
 with_reducible refine Calls.mono (HF.out _) ?_
 rintro e x2 ⟨rfl, hb⟩
 replace hL0 := hL0.call hb
 clear hb hweq
 have hA := hL0.fc
 simp only [fcG, cellsF, neK, and_true, ne_eq, Nat.zero_add, Nat.reduceAdd] at hA
 have hP := hL0.put 0 (w.heap.size + 1) _ rfl [.int .u64 ((zl z : Nat) : Int), .string (zh z), .bool (zs z)] rfl
 simp only [setAll, List.set_cons_zero, List.set_cons_succ] at hP
 generalize hput1 : (((x2.setCell ⟨w.heap.size + 1, 0, none⟩ (.int .u64 ((zl z : Nat) : Int))).setCell ⟨w.heap.size + 1, 1, none⟩ (.string (zh z))).setCell ⟨w.heap.size + 1, 2, none⟩ (.bool (zs z))) = x3 at hP
 have hB1 := hP.fc
 simp only [fcG, cellsF, neK, and_true, ne_eq, Nat.zero_add, Nat.reduceAdd] at hB1
 replace hL0 := hP
 go_wp2_with fail
 exact bodyPost_ret (v := .agg #[.int .u64 ((zl z : Nat) : Int), .string (zh z), .bool (zs z)]) (by simp [results, Tryz.results112, go_sem, hB1]) rfl ⟨rfl, hL0.bl⟩
set_option maxHeartbeats 4000000 in
set_option maxRecDepth 100000 in
theorem fraction_w (n : Nat) (z c : Int) (q : Rat) (HW : ∀ w, Calls Tryz.prog 112 #[natV n] w fun xe w' => xe = .returned (intV z) ∧ Below w.heap.size w w') (HO : ∀ w, Calls Tryz.prog 63 #[.int .u64 1] w fun xe w' => xe = .returned (natV 1) ∧ Below w.heap.size w w') (HF : ∀ w, Calls Tryz.prog 76 #[intV z, natV 1] w fun xe w' => xe = .returned (.tuple #[fracV q, .int .i64 c]) ∧ Below w.heap.size w w') (w : World) :
  Calls Tryz.prog 173 #[natV n] w fun xe w' => xe = .returned (fracV q) ∧ Below w.heap.size w w' := by
 have hL0 : GL w w [] := GL.start w
 replace HW := Lib.hid HW
 replace HO := Lib.hid HO
 replace HF := Lib.hid HF
 replace hL0 := ((hL0.new rfl [.int .u64 ((lo n : Nat) : Int), .string (hs n)] 30).new (K := w.heap.size + 1) (szA _ _) [.int .u64 0, .string ⟨#[]⟩, .bool false, .int .u64 0, .string ⟨#[]⟩] 34)
 generalize hweq : ((w.alloc (.cells #[.int .u64 ((lo n : Nat) : Int), .string (hs n)] 30)).alloc (.cells #[.int .u64 0, .string ⟨#[]⟩, .bool false, .int .u64 0, .string ⟨#[]⟩] 34)) = x1 at hL0
 go_enter Tryz.func173, Tryz.ntmps173
 have hN0 := cells_of _ 0 [] rfl (hL0.get _ _ (List.mem_cons_of_mem _ List.mem_cons_self))
 simp only [cellsF, and_true, Nat.zero_add, Nat.reduceAdd] at hN0
 go_wp2_with fail
 clear hN0
 with_reducible refine Calls.mono (HW.out _) ?_
 rintro e x2 ⟨rfl, hb⟩
 replace hL0 := hL0.call hb
 clear hb hweq
 go_wp2_with fail
 with_reducible refine Calls.mono (HO.out _) ?_
 rintro e x3 ⟨rfl, hb⟩
 replace hL0 := hL0.call hb
 clear hb
 go_wp2_with fail
 with_reducible refine Calls.mono (HF.out _) ?_
 rintro e x4 ⟨rfl, hb⟩
 replace hL0 := hL0.call hb
 clear hb
 replace hL0 := (hL0.new rfl [.int .u64 ((zl q.num : Nat) : Int), .string (zh q.num), .bool (zs q.num), .int .u64 ((lo (fe q) : Nat) : Int), .string (hs (fe q))] 34)
 generalize hweq : (x4.alloc (.cells #[.int .u64 ((zl q.num : Nat) : Int), .string (zh q.num), .bool (zs q.num), .int .u64 ((lo (fe q) : Nat) : Int), .string (hs (fe q))] 34)) = x5 at hL0
 have hA := hL0.fc
 simp only [fcG, cellsF, neK, and_true, ne_eq, Nat.zero_add, Nat.reduceAdd] at hA
 have hP := hL0.put 1 (w.heap.size + 1) _ rfl [.int .u64 ((zl q.num : Nat) : Int), .string (zh q.num), .bool (zs q.num), .int .u64 ((lo (fe q) : Nat) : Int), .string (hs (fe q))] rfl
 simp only [setAll, List.set_cons_zero, List.set_cons_succ] at hP
 generalize hput1 : (((((x5.setCell ⟨w.heap.size + 1, 0, none⟩ (.int .u64 ((zl q.num : Nat) : Int))).setCell ⟨w.heap.size + 1, 1, none⟩ (.string (zh q.num))).setCell ⟨w.heap.size + 1, 2, none⟩ (.bool (zs q.num))).setCell ⟨w.heap.size + 1, 3, none⟩ (.int .u64 ((lo (fe q) : Nat) : Int))).setCell ⟨w.heap.size + 1, 4, none⟩ (.string (hs (fe q)))) = x6 at hP
 have hB1 := hP.fc
 simp only [fcG, cellsF, neK, and_true, ne_eq, Nat.zero_add, Nat.reduceAdd] at hB1
 replace hL0 := hP
 go_wp2_with fail
 exact bodyPost_ret (v := .agg #[.int .u64 ((zl q.num : Nat) : Int), .string (zh q.num), .bool (zs q.num), .int .u64 ((lo (fe q) : Nat) : Int), .string (hs (fe q))]) (by simp [results, Tryz.results173, go_sem, hB1]) rfl ⟨rfl, hL0.bl⟩
set_option maxHeartbeats 4000000 in
set_option maxRecDepth 100000 in
theorem rdown_w (q : Rat) (f : Int) (a s : Nat) (HF : ∀ w, Calls Tryz.prog 174 #[fracV q] w fun xe w' => xe = .returned (intV f) ∧ Below w.heap.size w w') (HA : ∀ w, Calls Tryz.prog 78 #[intV f] w fun xe w' => xe = .returned (natV a) ∧ Below w.heap.size w w') (HS : ∀ w, Calls Tryz.prog 113 #[natV a] w fun xe w' => xe = .returned (natV s) ∧ Below w.heap.size w w') (w : World) :
  Calls Tryz.prog 102 #[fracV q] w fun xe w' => xe = .returned (natV s) ∧ Below w.heap.size w w' := by
 have hL0 : GL w w [] := GL.start w
 replace HF := Lib.hid HF
 replace HA := Lib.hid HA
 replace HS := Lib.hid HS
 replace hL0 := ((hL0.new rfl [.int .u64 ((zl q.num : Nat) : Int), .string (zh q.num), .bool (zs q.num), .int .u64 ((lo (fe q) : Nat) : Int), .string (hs (fe q))] 142).new (K := w.heap.size + 1) (szA _ _) [.int .u64 0, .string ⟨#[]⟩] 30)
 generalize hweq : ((w.alloc (.cells #[.int .u64 ((zl q.num : Nat) : Int), .string (zh q.num), .bool (zs q.num), .int .u64 ((lo (fe q) : Nat) : Int), .string (hs (fe q))] 142)).alloc (.cells #[.int .u64 0, .string ⟨#[]⟩] 30)) = x1 at hL0
 go_enter Tryz.func102, Tryz.ntmps102
 have hN0 := cells_of _ 0 [] rfl (hL0.get _ _ (List.mem_cons_of_mem _ List.mem_cons_self))
 simp only [cellsF, and_true, Nat.zero_add, Nat.reduceAdd] at hN0
 go_wp2_with fail
 clear hN0
 with_reducible refine Calls.mono (HF.out _) ?_
 rintro e x2 ⟨rfl, hb⟩
 replace hL0 := hL0.call hb
 clear hb hweq
 go_wp2_with fail
 with_reducible refine Calls.mono (HA.out _) ?_
 rintro e x3 ⟨rfl, hb⟩
 replace hL0 := hL0.call hb
 clear hb
 go_wp2_with fail
 with_reducible refine Calls.mono (HS.out _) ?_
 rintro e x4 ⟨rfl, hb⟩
 replace hL0 := hL0.call hb
 clear hb
 have hA := hL0.fc
 simp only [fcG, cellsF, neK, and_true, ne_eq, Nat.zero_add, Nat.reduceAdd] at hA
 have hP := hL0.put 0 (w.heap.size + 1) _ rfl [.int .u64 ((lo s : Nat) : Int), .string (hs s)] rfl
 simp only [setAll, List.set_cons_zero, List.set_cons_succ] at hP
 generalize hput1 : ((x4.setCell ⟨w.heap.size + 1, 0, none⟩ (.int .u64 ((lo s : Nat) : Int))).setCell ⟨w.heap.size + 1, 1, none⟩ (.string (hs s))) = x5 at hP
 have hB1 := hP.fc
 simp only [fcG, cellsF, neK, and_true, ne_eq, Nat.zero_add, Nat.reduceAdd] at hB1
 replace hL0 := hP
 go_wp2_with fail
 exact bodyPost_ret (v := .agg #[.int .u64 ((lo s : Nat) : Int), .string (hs s)]) (by simp [results, Tryz.results102, go_sem, hB1]) rfl ⟨rfl, hL0.bl⟩
set_option maxHeartbeats 4000000 in
set_option maxRecDepth 100000 in
theorem rup_same (q p : Rat) (s : Nat) (HD : ∀ w, Calls Tryz.prog 102 #[fracV q] w fun xe w' => xe = .returned (natV s) ∧ Below w.heap.size w w') (HF : ∀ w, Calls Tryz.prog 173 #[natV s] w fun xe w' => xe = .returned (fracV p) ∧ Below w.heap.size w w') (HQ : ∀ w, Calls Tryz.prog 42 #[fracV p] w fun xe w' => xe = .returned (fracV q) ∧ Below w.heap.size w w') (w : World) :
  Calls Tryz.prog 103 #[fracV q] w fun xe w' => xe = .returned (natV s) ∧ Below w.heap.size w w' := by
 have hL0 : GL w w [] := GL.start w
 replace HD := Lib.hid HD
 replace HF := Lib.hid HF
 replace HQ := Lib.hid HQ
 replace hL0 := ((hL0.new rfl [.int .u64 ((zl q.num : Nat) : Int), .string (zh q.num), .bool (zs q.num), .int .u64 ((lo (fe q) : Nat) : Int), .string (hs (fe q))] 142).new (K := w.heap.size + 1) (szA _ _) [.int .u64 0, .string ⟨#[]⟩] 30)
 generalize hweq : ((w.alloc (.cells #[.int .u64 ((zl q.num : Nat) : Int), .string (zh q.num), .bool (zs q.num), .int .u64 ((lo (fe q) : Nat) : Int), .string (hs (fe q))] 142)).alloc (.cells #[.int .u64 0, .string ⟨#[]⟩] 30)) = x1 at hL0
 go_enter Tryz.func103, Tryz.ntmps103
 have hN0 := cells_of _ 0 [] rfl (hL0.get _ _ (List.mem_cons_of_mem _ List.mem_cons_self))
 simp only [cellsF, and_true, Nat.zero_add, Nat.reduceAdd] at hN0
 go_wp2_with fail
 clear hN0
 with_reducible refine Calls.mono (HD.out _) ?_
 rintro e x2 ⟨rfl, hb⟩
 replace hL0 := hL0.call hb
 clear hb hweq
 replace hL0 := (hL0.new rfl [.int .u64 ((lo s : Nat) : Int), .string (hs s)] 30)
 generalize hweq : (x2.alloc (.cells #[.int .u64 ((lo s : Nat) : Int), .string (hs s)] 30)) = x3 at hL0
 go_upto_region 2 with fail
 clear hweq
 obtain ⟨α, iα, F, hF1, hF2⟩ := cls x3
 have hq0 := cls_box hF1 hL0 _ _ List.mem_cons_self
 simp only [cellsC, and_true, Nat.zero_add, Nat.reduceAdd] at hq0
 have hq1 := cls_box hF1 hL0 _ _ (List.mem_cons_of_mem _ (List.mem_cons_of_mem _ List.mem_cons_self))
 simp only [cellsC, and_true, Nat.zero_add, Nat.reduceAdd] at hq1
 refine region_qs 6 (C := fun w' => ∃ x, w' = F x) (by kernel_rfl) (by kernel_rfl) (cls_drew hF2) ?_
 simp only [List.take_succ_cons, List.take_zero, List.drop_succ_cons, List.drop_zero, List.take_nil, List.drop_nil]
 repeat (go_big_quiet_step (first | fail | (go_at_call 173; with_reducible exact cls_call hF1 hF2 HF.out _) | (go_at_call 42; with_reducible exact cls_call hF1 hF2 HQ.out _)))
 refine wpQuiet_nil ?_
 rintro wq ⟨xq, rfl⟩
 replace hL0 := hL0.call (hF1 xq)
 clear  hq0 hq1 hF2
 generalize F xq = x4 at hL0 ⊢
 clear hF1 xq iα F α
 have hA := hL0.fc
 simp only [fcG, cellsF, neK, and_true, ne_eq, Nat.zero_add, Nat.reduceAdd] at hA
 have hP := hL0.put 1 (w.heap.size + 1) _ rfl [.int .u64 ((lo s : Nat) : Int), .string (hs s)] rfl
 simp only [setAll, List.set_cons_zero, List.set_cons_succ] at hP
 generalize hput1 : ((x4.setCell ⟨w.heap.size + 1, 0, none⟩ (.int .u64 ((lo s : Nat) : Int))).setCell ⟨w.heap.size + 1, 1, none⟩ (.string (hs s))) = x5 at hP
 have hB1 := hP.fc
 simp only [fcG, cellsF, neK, and_true, ne_eq, Nat.zero_add, Nat.reduceAdd] at hB1
 replace hL0 := hP
 go_wp2_with fail
 exact bodyPost_ret (v := .agg #[.int .u64 ((lo s : Nat) : Int), .string (hs s)]) (by simp [results, Tryz.results103, go_sem, hB1]) rfl ⟨rfl, hL0.bl⟩
set_option maxHeartbeats 4000000 in
set_option maxRecDepth 100000 in
theorem rup_next (q p r : Rat) (s t : Nat) (HD : ∀ w, Calls Tryz.prog 102 #[fracV q] w fun xe w' => xe = .returned (natV s) ∧ Below w.heap.size w w') (HF : ∀ w, Calls Tryz.prog 173 #[natV s] w fun xe w' => xe = .returned (fracV p) ∧ Below w.heap.size w w') (HQ : ∀ w, Calls Tryz.prog 42 #[fracV p] w fun xe w' => xe = .returned (fracV r) ∧ Below w.heap.size w w') (HO : ∀ w, Calls Tryz.prog 63 #[.int .u64 1] w fun xe w' => xe = .returned (natV 1) ∧ Below w.heap.size w w') (HA : ∀ w, Calls Tryz.prog 77 #[natV s, natV 1] w fun xe w' => xe = .returned (natV t) ∧ Below w.heap.size w w') (hne : r ≠ q) (w : World) :
  Calls Tryz.prog 103 #[fracV q] w fun xe w' => xe = .returned (natV t) ∧ Below w.heap.size w w' := by
 have hL0 : GL w w [] := GL.start w
 replace HD := Lib.hid HD
 replace HF := Lib.hid HF
 replace HQ := Lib.hid HQ
 replace HO := Lib.hid HO
 replace HA := Lib.hid HA
 have hz := ne_fr hne
 clear hne
 rcases hz with e0 | ⟨e0, e1⟩ | ⟨e0, e1, e2⟩ | ⟨e0, e1, e2, e3⟩ | ⟨e0, e1, e2, e3, e4⟩
 all_goals (
  replace hL0 := ((hL0.new rfl [.int .u64 ((zl q.num : Nat) : Int), .string (zh q.num), .bool (zs q.num), .int .u64 ((lo (fe q) : Nat) : Int), .string (hs (fe q))] 142).new (K := w.heap.size + 1) (szA _ _) [.int .u64 0, .string ⟨#[]⟩] 30)
  generalize hweq : ((w.alloc (.cells #[.int .u64 ((zl q.num : Nat) : Int), .string (zh q.num), .bool (zs q.num), .int .u64 ((lo (fe q) : Nat) : Int), .string (hs (fe q))] 142)).alloc (.cells #[.int .u64 0, .string ⟨#[]⟩] 30)) = x1 at hL0
  go_enter Tryz.func103, Tryz.ntmps103
  have hN0 := cells_of _ 0 [] rfl (hL0.get _ _ (List.mem_cons_of_mem _ List.mem_cons_self))
  simp only [cellsF, and_true, Nat.zero_add, Nat.reduceAdd] at hN0
  go_wp2_with fail
  clear hN0
  with_reducible refine Calls.mono (HD.out _) ?_
  rintro e x2 ⟨rfl, hb⟩
  replace hL0 := hL0.call hb
  clear hb hweq
  replace hL0 := (hL0.new rfl [.int .u64 ((lo s : Nat) : Int), .string (hs s)] 30)
  generalize hweq : (x2.alloc (.cells #[.int .u64 ((lo s : Nat) : Int), .string (hs s)] 30)) = x3 at hL0
  go_upto_region 2 with fail
  clear hweq
  obtain ⟨α, iα, F, hF1, hF2⟩ := cls x3
  have hq0 := cls_box hF1 hL0 _ _ List.mem_cons_self
  simp only [cellsC, and_true, Nat.zero_add, Nat.reduceAdd] at hq0
  have hq1 := cls_box hF1 hL0 _ _ (List.mem_cons_of_mem _ (List.mem_cons_of_mem _ List.mem_cons_self))
  simp only [cellsC, and_true, Nat.zero_add, Nat.reduceAdd] at hq1
  refine region_qs 6 (C := fun w' => ∃ x, w' = F x) (by kernel_rfl) (by kernel_rfl) (cls_drew hF2) ?_
  simp only [List.take_succ_cons, List.take_zero, List.drop_succ_cons, List.drop_zero, List.take_nil, List.drop_nil]
  repeat (go_big_quiet_step (first | fail | (go_at_call 173; with_reducible exact cls_call hF1 hF2 HF.out _) | (go_at_call 42; with_reducible exact cls_call hF1 hF2 HQ.out _)))
  refine wpQuiet_nil ?_
  rintro wq ⟨xq, rfl⟩
  replace hL0 := hL0.call (hF1 xq)
  clear  hq0 hq1 hF2
  generalize F xq = x4 at hL0 ⊢
  clear hF1 xq iα F α
  go_upto_region 4 with fail
  obtain ⟨α, iα, F, hF1, hF2⟩ := cls x4
  have hq0 := cls_box hF1 hL0 _ _ List.mem_cons_self
  simp only [cellsC, and_true, Nat.zero_add, Nat.reduceAdd] at hq0
  refine region_qs 3 (C := fun w' => ∃ x, w' = F x) (by kernel_rfl) (by kernel_rfl) (cls_drew hF2) ?_
  simp only [List.take_succ_cons, List.take_zero, List.drop_succ_cons, List.drop_zero, List.take_nil, List.drop_nil]
  repeat (go_big_quiet_step (first | fail | (go_at_call 63; with_reducible exact cls_call hF1 hF2 HO.out _) | (go_at_call 77; with_reducible exact cls_call hF1 hF2 HA.out _)))
  refine wpQuiet_nil ?_
  rintro wq ⟨xq, rfl⟩
  replace hL0 := hL0.call (hF1 xq)
  clear  hq0 hF2
  generalize F xq = x5 at hL0 ⊢
  clear hF1 xq iα F α
  have hA := hL0.fc
  simp only [fcG, cellsF, neK, and_true, ne_eq, Nat.zero_add, Nat.reduceAdd] at hA
  have hP := hL0.put 1 (w.heap.size + 1) _ rfl [.int .u64 ((lo t : Nat) : Int), .string (hs t)] rfl
  simp only [setAll, List.set_cons_zero, List.set_cons_succ] at hP
  generalize hput1 : ((x5.setCell ⟨w.heap.size + 1, 0, none⟩ (.int .u64 ((lo t : Nat) : Int))).setCell ⟨w.heap.size + 1, 1, none⟩ (.string (hs t))) = x6 at hP
  have hB1 := hP.fc
  simp only [fcG, cellsF, neK, and_true, ne_eq, Nat.zero_add, Nat.reduceAdd] at hB1
  replace hL0 := hP
  go_wp2_with fail
  exact bodyPost_ret (v := .agg #[.int .u64 ((lo t : Nat) : Int), .string (hs t)]) (by simp [results, Tryz.results103, go_sem, hB1]) rfl ⟨rfl, hL0.bl⟩)
set_option maxHeartbeats 4000000 in
set_option maxRecDepth 100000 in
theorem rnd_neg_down (a : Rat) (n : Int) (h1 : decide (n < 0) = true) (w : World) :
  Calls Tryz.prog 101 #[fracV a, .int .i64 n, .func (.func 102) #[] #[]] w fun xe w' => xe = .returned (.tuple #[.agg #[.int .u64 0, .string ⟨#[]⟩, .bool false, .int .u64 0, .string ⟨#[]⟩], .int .i64 1]) ∧ Below w.heap.size w w' := by
 have hL0 : GL w w [] := GL.start w
 replace hL0 := ((hL0.new rfl [.int .u64 ((zl a.num : Nat) : Int), .string (zh a.num), .bool (zs a.num), .int .u64 ((lo (fe a) : Nat) : Int), .string (hs (fe a))] 34).new (K := w.heap.size + 1) (szA _ _) [.int .u64 0, .string ⟨#[]⟩, .bool false, .int .u64 0, .string ⟨#[]⟩] 34)
 generalize hweq : ((w.alloc (.cells #[.int .u64 ((zl a.num : Nat) : Int), .string (zh a.num), .bool (zs a.num), .int .u64 ((lo (fe a) : Nat) : Int), .string (hs (fe a))] 34)).alloc (.cells #[.int .u64 0, .string ⟨#[]⟩, .bool false, .int .u64 0, .string ⟨#[]⟩] 34)) = x1 at hL0
 go_enter Tryz.func101, Tryz.ntmps101
 have hA := hL0.fc
 simp only [fcG, cellsF, neK, and_true, ne_eq, Nat.zero_add, Nat.reduceAdd] at hA
 have hP := hL0.put 0 (w.heap.size + 1) _ rfl [.int .u64 0, .string ⟨#[]⟩, .bool false, .int .u64 0, .string ⟨#[]⟩] rfl
 simp only [setAll, List.set_cons_zero, List.set_cons_succ] at hP
 generalize hput1 : (((((x1.setCell ⟨w.heap.size + 1, 0, none⟩ (.int .u64 0)).setCell ⟨w.heap.size + 1, 1, none⟩ (.string ⟨#[]⟩)).setCell ⟨w.heap.size + 1, 2, none⟩ (.bool false)).setCell ⟨w.heap.size + 1, 3, none⟩ (.int .u64 0)).setCell ⟨w.heap.size + 1, 4, none⟩ (.string ⟨#[]⟩)) = x2 at hP
 have hB1 := hP.fc
 simp only [fcG, cellsF, neK, and_true, ne_eq, Nat.zero_add, Nat.reduceAdd] at hB1
 replace hL0 := hP
 go_wp2_with fail
 exact bodyPost_ret (v := .tuple #[.agg #[.int .u64 0, .string ⟨#[]⟩, .bool false, .int .u64 0, .string ⟨#[]⟩], .int .i64 1]) (by simp [results, Tryz.results101, go_sem, hB1]) rfl ⟨rfl, hL0.bl⟩
set_option maxHeartbeats 4000000 in
set_option maxRecDepth 100000 in
theorem rnd_big_down (a : Rat) (n : Int) (h1 : decide (n < 0) = false) (h2 : decide (100 < n) = true) (w : World) :
  Calls Tryz.prog 101 #[fracV a, .int .i64 n, .func (.func 102) #[] #[]] w fun xe w' => xe = .returned (.tuple #[.agg #[.int .u64 0, .string ⟨#[]⟩, .bool false, .int .u64 0, .string ⟨#[]⟩], .int .i64 3]) ∧ Below w.heap.size w w' := by
 have hL0 : GL w w [] := GL.start w
 replace hL0 := ((hL0.new rfl [.int .u64 ((zl a.num : Nat) : Int), .string (zh a.num), .bool (zs a.num), .int .u64 ((lo (fe a) : Nat) : Int), .string (hs (fe a))] 34).new (K := w.heap.size + 1) (szA _ _) [.int .u64 0, .string ⟨#[]⟩, .bool false, .int .u64 0, .string ⟨#[]⟩] 34)
 generalize hweq : ((w.alloc (.cells #[.int .u64 ((zl a.num : Nat) : Int), .string (zh a.num), .bool (zs a.num), .int .u64 ((lo (fe a) : Nat) : Int), .string (hs (fe a))] 34)).alloc (.cells #[.int .u64 0, .string ⟨#[]⟩, .bool false, .int .u64 0, .string ⟨#[]⟩] 34)) = x1 at hL0
 go_enter Tryz.func101, Tryz.ntmps101
 have hA := hL0.fc
 simp only [fcG, cellsF, neK, and_true, ne_eq, Nat.zero_add, Nat.reduceAdd] at hA
 have hP := hL0.put 0 (w.heap.size + 1) _ rfl [.int .u64 0, .string ⟨#[]⟩, .bool false, .int .u64 0, .string ⟨#[]⟩] rfl
 simp only [setAll, List.set_cons_zero, List.set_cons_succ] at hP
 generalize hput1 : (((((x1.setCell ⟨w.heap.size + 1, 0, none⟩ (.int .u64 0)).setCell ⟨w.heap.size + 1, 1, none⟩ (.string ⟨#[]⟩)).setCell ⟨w.heap.size + 1, 2, none⟩ (.bool false)).setCell ⟨w.heap.size + 1, 3, none⟩ (.int .u64 0)).setCell ⟨w.heap.size + 1, 4, none⟩ (.string ⟨#[]⟩)) = x2 at hP
 have hB1 := hP.fc
 simp only [fcG, cellsF, neK, and_true, ne_eq, Nat.zero_add, Nat.reduceAdd] at hB1
 replace hL0 := hP
 go_wp2_with fail
 exact bodyPost_ret (v := .tuple #[.agg #[.int .u64 0, .string ⟨#[]⟩, .bool false, .int .u64 0, .string ⟨#[]⟩], .int .i64 3]) (by simp [results, Tryz.results101, go_sem, hB1]) rfl ⟨rfl, hL0.bl⟩
set_option maxHeartbeats 4000000 in
set_option maxRecDepth 100000 in
theorem rnd_sgn_down (a : Rat) (n k : Int) (HS : ∀ w, Calls Tryz.prog 41 #[fracV a] w fun xe w' => xe = .returned (.int .i64 k) ∧ Below w.heap.size w w') (h1 : decide (n < 0) = false) (h2 : decide (100 < n) = false) (h3 : decide (k < 0) = true) (w : World) :
  Calls Tryz.prog 101 #[fracV a, .int .i64 n, .func (.func 102) #[] #[]] w fun xe w' => xe = .returned (.tuple #[.agg #[.int .u64 0, .string ⟨#[]⟩, .bool false, .int .u64 0, .string ⟨#[]⟩], .int .i64 1]) ∧ Below w.heap.size w w' := by
 have hL0 : GL w w [] := GL.start w
 replace HS := Lib.hid HS
 replace hL0 := ((hL0.new rfl [.int .u64 ((zl a.num : Nat) : Int), .string (zh a.num), .bool (zs a.num), .int .u64 ((lo (fe a) : Nat) : Int), .string (hs (fe a))] 34).new (K := w.heap.size + 1) (szA _ _) [.int .u64 0, .string ⟨#[]⟩, .bool false, .int .u64 0, .string ⟨#[]⟩] 34)
 generalize hweq : ((w.alloc (.cells #[.int .u64 ((zl a.num : Nat) : Int), .string (zh a.num), .bool (zs a.num), .int .u64 ((lo (fe a) : Nat) : Int), .string (hs (fe a))] 34)).alloc (.cells #[.int .u64 0, .string ⟨#[]⟩, .bool false, .int .u64 0, .string ⟨#[]⟩] 34)) = x1 at hL0
 go_enter Tryz.func101, Tryz.ntmps101
 have hN0 := cells_of _ 0 [] rfl (hL0.get _ _ (List.mem_cons_of_mem _ List.mem_cons_self))
 simp only [cellsF, and_true, Nat.zero_add, Nat.reduceAdd] at hN0
 go_wp2_with fail
 clear hN0
 with_reducible refine Calls.mono (HS.out _) ?_
 rintro e x2 ⟨rfl, hb⟩
 replace hL0 := hL0.call hb
 clear hb hweq
 have hA := hL0.fc
 simp only [fcG, cellsF, neK, and_true, ne_eq, Nat.zero_add, Nat.reduceAdd] at hA
 have hP := hL0.put 0 (w.heap.size + 1) _ rfl [.int .u64 0, .string ⟨#[]⟩, .bool false, .int .u64 0, .string ⟨#[]⟩] rfl
 simp only [setAll, List.set_cons_zero, List.set_cons_succ] at hP
 generalize hput1 : (((((x2.setCell ⟨w.heap.size + 1, 0, none⟩ (.int .u64 0)).setCell ⟨w.heap.size + 1, 1, none⟩ (.string ⟨#[]⟩)).setCell ⟨w.heap.size + 1, 2, none⟩ (.bool false)).setCell ⟨w.heap.size + 1, 3, none⟩ (.int .u64 0)).setCell ⟨w.heap.size + 1, 4, none⟩ (.string ⟨#[]⟩)) = x3 at hP
 have hB1 := hP.fc
 simp only [fcG, cellsF, neK, and_true, ne_eq, Nat.zero_add, Nat.reduceAdd] at hB1
 replace hL0 := hP
 go_wp2_with fail
 exact bodyPost_ret (v := .tuple #[.agg #[.int .u64 0, .string ⟨#[]⟩, .bool false, .int .u64 0, .string ⟨#[]⟩], .int .i64 1]) (by simp [results, Tryz.results101, go_sem, hB1]) rfl ⟨rfl, hL0.bl⟩
set_option maxHeartbeats 4000000 in
set_option maxRecDepth 100000 in
theorem rnd_ok_down (a m s b : Rat) (n k z c : Int) (u v r : Nat) (HS : ∀ w, Calls Tryz.prog 41 #[fracV a] w fun xe w' => xe = .returned (.int .i64 k) ∧ Below w.heap.size w w') (HT : ∀ w, Calls Tryz.prog 172 #[.int .i64 n] w fun xe w' => xe = .returned (natV u) ∧ Below w.heap.size w w') (HM : ∀ w, Calls Tryz.prog 91 #[natV u, natV u] w fun xe w' => xe = .returned (natV v) ∧ Below w.heap.size w w') (HF : ∀ w, Calls Tryz.prog 173 #[natV v] w fun xe w' => xe = .returned (fracV m) ∧ Below w.heap.size w w') (HP : ∀ w, Calls Tryz.prog 28 #[fracV a, fracV m] w fun xe w' => xe = .returned (fracV s) ∧ Below w.heap.size w w') (HD : ∀ w, Calls Tryz.prog 102 #[fracV s] w fun xe w' => xe = .returned (natV r) ∧ Below w.heap.size w w') (HW : ∀ w, Calls Tryz.prog 112 #[natV r] w fun xe w' => xe = .returned (intV z) ∧ Below w.heap.size w w') (HR : ∀ w, Calls Tryz.prog 76 #[intV z, natV u] w fun xe w' => xe = .returned (.tuple #[fracV b, .int .i64 c]) ∧ Below w.heap.size w w') (h1 : decide (n < 0) = false) (h2 : decide (100 < n) = false) (h3 : decide (k < 0) = false) (w : World) :
  Calls Tryz.prog 101 #[fracV a, .int .i64 n, .func (.func 102) #[] #[]] w fun xe w' => xe = .returned (.tuple #[fracV b, .int .i64 c]) ∧ Below w.heap.size w w' := by
 have hL0 : GL w w [] := GL.start w
 replace HS := Lib.hid HS
 replace HT := Lib.hid HT
 replace HM := Lib.hid HM
 replace HF := Lib.hid HF
 replace HP := Lib.hid HP
 replace HD := Lib.hid HD
 replace HW := Lib.hid HW
 replace HR := Lib.hid HR
 replace hL0 := ((hL0.new rfl [.int .u64 ((zl a.num : Nat) : Int), .string (zh a.num), .bool (zs a.num), .int .u64 ((lo (fe a) : Nat) : Int), .string (hs (fe a))] 34).new (K := w.heap.size + 1) (szA _ _) [.int .u64 0, .string ⟨#[]⟩, .bool false, .int .u64 0, .string ⟨#[]⟩] 34)
 generalize hweq : ((w.alloc (.cells #[.int .u64 ((zl a.num : Nat) : Int), .string (zh a.num), .bool (zs a.num), .int .u64 ((lo (fe a) : Nat) : Int), .string (hs (fe a))] 34)).alloc (.cells #[.int .u64 0, .string ⟨#[]⟩, .bool false, .int .u64 0, .string ⟨#[]⟩] 34)) = x1 at hL0
 go_enter Tryz.func101, Tryz.ntmps101
 have hN0 := cells_of _ 0 [] rfl (hL0.get _ _ (List.mem_cons_of_mem _ List.mem_cons_self))
 simp only [cellsF, and_true, Nat.zero_add, Nat.reduceAdd] at hN0
 go_wp2_with fail
 clear hN0
 with_reducible refine Calls.mono (HS.out _) ?_
 rintro e x2 ⟨rfl, hb⟩
 replace hL0 := hL0.call hb
 clear hb hweq
 go_wp2_with fail
 with_reducible refine Calls.mono (HT.out _) ?_
 rintro e x3 ⟨rfl, hb⟩
 replace hL0 := hL0.call hb
 clear hb
 replace hL0 := (hL0.new rfl [.int .u64 ((lo u : Nat) : Int), .string (hs u)] 30)
 generalize hweq : (x3.alloc (.cells #[.int .u64 ((lo u : Nat) : Int), .string (hs u)] 30)) = x4 at hL0
 go_upto_region 8 with fail
 clear hweq
 refine region_gh (by kernel_rfl) (by kernel_rfl) ?_
 refine lex_seg (gl := []) 7 (by kernel_rfl) ?_
 intro α iα F hF1 hF2
 have hq := GL.seg hF1 hL0
 simp only [fcC, cellsC, and_true, Nat.zero_add, Nat.reduceAdd] at hq
 simp only [List.take_succ_cons, List.take_zero, List.drop_succ_cons, List.drop_zero, List.take_nil, List.drop_nil]
 repeat (go_big_quiet_step (first | fail | (go_at_call 91; with_reducible exact seg_call hF2 HM.out _) | (go_at_call 173; with_reducible exact seg_call hF2 HF.out _) | (go_at_call 28; with_reducible exact seg_call hF2 HP.out _)))
 refine wpQuiet_nil ?_
 clear hq hF1 hF2 iα F α
 refine lex_new [.int .u64 0, .string ⟨#[]⟩, .bool false, .int .u64 0, .string ⟨#[]⟩] 9 142 142 rfl rfl (of_decide_eq_true (by kernel_rfl)) (by kernel_rfl) rfl new_rad ?_
 simp only [Act.put, List.setIfInBounds_toArray, List.set_cons_succ, List.set_cons_zero]
 refine lex_put [.int .u64 ((zl s.num : Nat) : Int), .string (zh s.num), .bool (zs s.num), .int .u64 ((lo (fe s) : Nat) : Int), .string (hs (fe s))] [.int .u64 0, .string ⟨#[]⟩, .bool false, .int .u64 0, .string ⟨#[]⟩] 9 142 (.tmp 31) rfl (by kernel_rfl) (by simp [toG, upd]) rfl (fun w k h => put_rad _ _ _ _ _ _ _ _ _ _ w k h) ?_
 simp only [Act.put]
 refine lexG_nil ?_
 intro κ x5 hS
 replace hL0 := hL0.ghs hS [(9, [.int .u64 ((zl s.num : Nat) : Int), .string (zh s.num), .bool (zs s.num), .int .u64 ((lo (fe s) : Nat) : Int), .string (hs (fe s))])] (by simp) (by intro p hp; simp only [List.mem_cons, List.not_mem_nil, or_false] at hp; rcases hp with rfl <;> exact ⟨_, by simp only [toG, upd]; rfl⟩)
 simp only [List.map_cons, List.map_nil, List.cons_append, List.nil_append] at hL0
 simp only [over_toG, over_nil, Act.put, List.setIfInBounds_toArray, List.set_cons_succ, List.set_cons_zero]
 clear hS
 generalize κ 9 = k5_9 at *
 go_upto_region 9 with fail
 obtain ⟨α, iα, F, hF1, hF2⟩ := cls x5
 have hq0 := cls_box hF1 hL0 _ _ List.mem_cons_self
 simp only [cellsC, and_true, Nat.zero_add, Nat.reduceAdd] at hq0
 have hq1 := cls_box hF1 hL0 _ _ (List.mem_cons_of_mem _ List.mem_cons_self)
 simp only [cellsC, and_true, Nat.zero_add, Nat.reduceAdd] at hq1
 refine region_qs 8 (C := fun w' => ∃ x, w' = F x) (by kernel_rfl) (by kernel_rfl) (cls_drew hF2) ?_
 simp only [List.take_succ_cons, List.take_zero, List.drop_succ_cons, List.drop_zero, List.take_nil, List.drop_nil]
 repeat (go_big_quiet_step (first | fail | (go_at_call 102; with_reducible exact cls_call hF1 hF2 HD.out _) | (go_at_call 112; with_reducible exact cls_call hF1 hF2 HW.out _) | (go_at_call 76; with_reducible exact cls_call hF1 hF2 HR.out _)))
 refine wpQuiet_nil ?_
 rintro wq ⟨xq, rfl⟩
 replace hL0 := hL0.call (hF1 xq)
 clear  hq0 hq1 hF2
 generalize F xq = x6 at hL0 ⊢
 clear hF1 xq iα F α
 have hA := hL0.fc
 simp only [fcG, cellsF, neK, and_true, ne_eq, Nat.zero_add, Nat.reduceAdd] at hA
 have hP := hL0.put 2 (w.heap.size + 1) _ rfl [.int .u64 ((zl b.num : Nat) : Int), .string (zh b.num), .bool (zs b.num), .int .u64 ((lo (fe b) : Nat) : Int), .string (hs (fe b))] rfl
 simp only [setAll, List.set_cons_zero, List.set_cons_succ] at hP
 generalize hput1 : (((((x6.setCell ⟨w.heap.size + 1, 0, none⟩ (.int .u64 ((zl b.num : Nat) : Int))).setCell ⟨w.heap.size + 1, 1, none⟩ (.string (zh b.num))).setCell ⟨w.heap.size + 1, 2, none⟩ (.bool (zs b.num))).setCell ⟨w.heap.size + 1, 3, none⟩ (.int .u64 ((lo (fe b) : Nat) : Int))).setCell ⟨w.heap.size + 1, 4, none⟩ (.string (hs (fe b)))) = x7 at hP
 have hB1 := hP.fc
 simp only [fcG, cellsF, neK, and_true, ne_eq, Nat.zero_add, Nat.reduceAdd] at hB1
 replace hL0 := hP
 go_wp2_with fail
 exact bodyPost_ret (v := .tuple #[.agg #[.int .u64 ((zl b.num : Nat) : Int), .string (zh b.num), .bool (zs b.num), .int .u64 ((lo (fe b) : Nat) : Int), .string (hs (fe b))], .int .i64 c]) (by simp [results, Tryz.results101, go_sem, hB1]) rfl ⟨rfl, hL0.bl⟩
set_option maxHeartbeats 4000000 in
set_option maxRecDepth 100000 in
theorem rnd_neg_up (a : Rat) (n : Int) (h1 : decide (n < 0) = true) (w : World) :
  Calls Tryz.prog 101 #[fracV a, .int .i64 n, .func (.func 103) #[] #[]] w fun xe w' => xe = .returned (.tuple #[.agg #[.int .u64 0, .string ⟨#[]⟩, .bool false, .int .u64 0, .string ⟨#[]⟩], .int .i64 1]) ∧ Below w.heap.size w w' := by
 have hL0 : GL w w [] := GL.start w
 replace hL0 := ((hL0.new rfl [.int .u64 ((zl a.num : Nat) : Int), .string (zh a.num), .bool (zs a.num), .int .u64 ((lo (fe a) : Nat) : Int), .string (hs (fe a))] 34).new (K := w.heap.size + 1) (szA _ _) [.int .u64 0, .string ⟨#[]⟩, .bool false, .int .u64 0, .string ⟨#[]⟩] 34)
 generalize hweq : ((w.alloc (.cells #[.int .u64 ((zl a.num : Nat) : Int), .string (zh a.num), .bool (zs a.num), .int .u64 ((lo (fe a) : Nat) : Int), .string (hs (fe a))] 34)).alloc (.cells #[.int .u64 0, .string ⟨#[]⟩, .bool false, .int .u64 0, .string ⟨#[]⟩] 34)) = x1 at hL0
 go_enter Tryz.func101, Tryz.ntmps101
 have hA := hL0.fc
 simp only [fcG, cellsF, neK, and_true, ne_eq, Nat.zero_add, Nat.reduceAdd] at hA
 have hP := hL0.put 0 (w.heap.size + 1) _ rfl [.int .u64 0, .string ⟨#[]⟩, .bool false, .int .u64 0, .string ⟨#[]⟩] rfl
 simp only [setAll, List.set_cons_zero, List.set_cons_succ] at hP
 generalize hput1 : (((((x1.setCell ⟨w.heap.size + 1, 0, none⟩ (.int .u64 0)).setCell ⟨w.heap.size + 1, 1, none⟩ (.string ⟨#[]⟩)).setCell ⟨w.heap.size + 1, 2, none⟩ (.bool false)).setCell ⟨w.heap.size + 1, 3, none⟩ (.int .u64 0)).setCell ⟨w.heap.size + 1, 4, none⟩ (.string ⟨#[]⟩)) = x2 at hP
 have hB1 := hP.fc
 simp only [fcG, cellsF, neK, and_true, ne_eq, Nat.zero_add, Nat.reduceAdd] at hB1
 replace hL0 := hP
 go_wp2_with fail
 exact bodyPost_ret (v := .tuple #[.agg #[.int .u64 0, .string ⟨#[]⟩, .bool false, .int .u64 0, .string ⟨#[]⟩], .int .i64 1]) (by simp [results, Tryz.results101, go_sem, hB1]) rfl ⟨rfl, hL0.bl⟩
set_option maxHeartbeats 4000000 in
set_option maxRecDepth 100000 in
theorem rnd_big_up (a : Rat) (n : Int) (h1 : decide (n < 0) = false) (h2 : decide (100 < n) = true) (w : World) :
  Calls Tryz.prog 101 #[fracV a, .int .i64 n, .func (.func 103) #[] #[]] w fun xe w' => xe = .returned (.tuple #[.agg #[.int .u64 0, .string ⟨#[]⟩, .bool false, .int .u64 0, .string ⟨#[]⟩], .int .i64 3]) ∧ Below w.heap.size w w' := by
 have hL0 : GL w w [] := GL.start w
 replace hL0 := ((hL0.new rfl [.int .u64 ((zl a.num : Nat) : Int), .string (zh a.num), .bool (zs a.num), .int .u64 ((lo (fe a) : Nat) : Int), .string (hs (fe a))] 34).new (K := w.heap.size + 1) (szA _ _) [.int .u64 0, .string ⟨#[]⟩, .bool false, .int .u64 0, .string ⟨#[]⟩] 34)
 generalize hweq : ((w.alloc (.cells #[.int .u64 ((zl a.num : Nat) : Int), .string (zh a.num), .bool (zs a.num), .int .u64 ((lo (fe a) : Nat) : Int), .string (hs (fe a))] 34)).alloc (.cells #[.int .u64 0, .string ⟨#[]⟩, .bool false, .int .u64 0, .string ⟨#[]⟩] 34)) = x1 at hL0
 go_enter Tryz.func101, Tryz.ntmps101
 have hA := hL0.fc
 simp only [fcG, cellsF, neK, and_true, ne_eq, Nat.zero_add, Nat.reduceAdd] at hA
 have hP := hL0.put 0 (w.heap.size + 1) _ rfl [.int .u64 0, .string ⟨#[]⟩, .bool false, .int .u64 0, .string ⟨#[]⟩] rfl
 simp only [setAll, List.set_cons_zero, List.set_cons_succ] at hP
 generalize hput1 : (((((x1.setCell ⟨w.heap.size + 1, 0, none⟩ (.int .u64 0)).setCell ⟨w.heap.size + 1, 1, none⟩ (.string ⟨#[]⟩)).setCell ⟨w.heap.size + 1, 2, none⟩ (.bool false)).setCell ⟨w.heap.size + 1, 3, none⟩ (.int .u64 0)).setCell ⟨w.heap.size + 1, 4, none⟩ (.string ⟨#[]⟩)) = x2 at hP
 have hB1 := hP.fc
 simp only [fcG, cellsF, neK, and_true, ne_eq, Nat.zero_add, Nat.reduceAdd] at hB1
 replace hL0 := hP
 go_wp2_with fail
 exact bodyPost_ret (v := .tuple #[.agg #[.int .u64 0, .string ⟨#[]⟩, .bool false, .int .u64 0, .string ⟨#[]⟩], .int .i64 3]) (by simp [results, Tryz.results101, go_sem, hB1]) rfl ⟨rfl, hL0.bl⟩
set_option maxHeartbeats 4000000 in
set_option maxRecDepth 100000 in
theorem rnd_sgn_up (a : Rat) (n k : Int) (HS : ∀ w, Calls Tryz.prog 41 #[fracV a] w fun xe w' => xe = .returned (.int .i64 k) ∧ Below w.heap.size w w') (h1 : decide (n < 0) = false) (h2 : decide (100 < n) = false) (h3 : decide (k < 0) = true) (w : World) :
  Calls Tryz.prog 101 #[fracV a, .int .i64 n, .func (.func 103) #[] #[]] w fun xe w' => xe = .returned (.tuple #[.agg #[.int .u64 0, .string ⟨#[]⟩, .bool false, .int .u64 0, .string ⟨#[]⟩], .int .i64 1]) ∧ Below w.heap.size w w' := by
 have hL0 : GL w w [] := GL.start w
 replace HS := Lib.hid HS
 replace hL0 := ((hL0.new rfl [.int .u64 ((zl a.num : Nat) : Int), .string (zh a.num), .bool (zs a.num), .int .u64 ((lo (fe a) : Nat) : Int), .string (hs (fe a))] 34).new (K := w.heap.size + 1) (szA _ _) [.int .u64 0, .string ⟨#[]⟩, .bool false, .int .u64 0, .string ⟨#[]⟩] 34)
 generalize hweq : ((w.alloc (.cells #[.int .u64 ((zl a.num : Nat) : Int), .string (zh a.num), .bool (zs a.num), .int .u64 ((lo (fe a) : Nat) : Int), .string (hs (fe a))] 34)).alloc (.cells #[.int .u64 0, .string ⟨#[]⟩, .bool false, .int .u64 0, .string ⟨#[]⟩] 34)) = x1 at hL0
 go_enter Tryz.func101, Tryz.ntmps101
 have hN0 := cells_of _ 0 [] rfl (hL0.get _ _ (List.mem_cons_of_mem _ List.mem_cons_self))
 simp only [cellsF, and_true, Nat.zero_add, Nat.reduceAdd] at hN0
 go_wp2_with fail
 clear hN0
 with_reducible refine Calls.mono (HS.out _) ?_
 rintro e x2 ⟨rfl, hb⟩
 replace hL0 := hL0.call hb
 clear hb hweq
 have hA := hL0.fc
 simp only [fcG, cellsF, neK, and_true, ne_eq, Nat.zero_add, Nat.reduceAdd] at hA
 have hP := hL0.put 0 (w.heap.size + 1) _ rfl [.int .u64 0, .string ⟨#[]⟩, .bool false, .int .u64 0, .string ⟨#[]⟩] rfl
 simp only [setAll, List.set_cons_zero, List.set_cons_succ] at hP
 generalize hput1 : (((((x2.setCell ⟨w.heap.size + 1, 0, none⟩ (.int .u64 0)).setCell ⟨w.heap.size + 1, 1, none⟩ (.string ⟨#[]⟩)).setCell ⟨w.heap.size + 1, 2, none⟩ (.bool false)).setCell ⟨w.heap.size + 1, 3, none⟩ (.int .u64 0)).setCell ⟨w.heap.size + 1, 4, none⟩ (.string ⟨#[]⟩)) = x3 at hP
 have hB1 := hP.fc
 simp only [fcG, cellsF, neK, and_true, ne_eq, Nat.zero_add, Nat.reduceAdd] at hB1
 replace hL0 := hP
 go_wp2_with fail
 exact bodyPost_ret (v := .tuple #[.agg #[.int .u64 0, .string ⟨#[]⟩, .bool false, .int .u64 0, .string ⟨#[]⟩], .int .i64 1]) (by simp [results, Tryz.results101, go_sem, hB1]) rfl ⟨rfl, hL0.bl⟩
set_option maxHeartbeats 4000000 in
set_option maxRecDepth 100000 in
theorem rnd_ok_up (a m s b : Rat) (n k z c : Int) (u v r : Nat) (HS : ∀ w, Calls Tryz.prog 41 #[fracV a] w fun xe w' => xe = .returned (.int .i64 k) ∧ Below w.heap.size w w') (HT : ∀ w, Calls Tryz.prog 172 #[.int .i64 n] w fun xe w' => xe = .returned (natV u) ∧ Below w.heap.size w w') (HM : ∀ w, Calls Tryz.prog 91 #[natV u, natV u] w fun xe w' => xe = .returned (natV v) ∧ Below w.heap.size w w') (HF : ∀ w, Calls Tryz.prog 173 #[natV v] w fun xe w' => xe = .returned (fracV m) ∧ Below w.heap.size w w') (HP : ∀ w, Calls Tryz.prog 28 #[fracV a, fracV m] w fun xe w' => xe = .returned (fracV s) ∧ Below w.heap.size w w') (HD : ∀ w, Calls Tryz.prog 103 #[fracV s] w fun xe w' => xe = .returned (natV r) ∧ Below w.heap.size w w') (HW : ∀ w, Calls Tryz.prog 112 #[natV r] w fun xe w' => xe = .returned (intV z) ∧ Below w.heap.size w w') (HR : ∀ w, Calls Tryz.prog 76 #[intV z, natV u] w fun xe w' => xe = .returned (.tuple #[fracV b, .int .i64 c]) ∧ Below w.heap.size w w') (h1 : decide (n < 0) = false) (h2 : decide (100 < n) = false) (h3 : decide (k < 0) = false) (w : World) :
  Calls Tryz.prog 101 #[fracV a, .int .i64 n, .func (.func 103) #[] #[]] w fun xe w' => xe = .returned (.tuple #[fracV b, .int .i64 c]) ∧ Below w.heap.size w w' := by
 have hL0 : GL w w [] := GL.start w
 replace HS := Lib.hid HS
 replace HT := Lib.hid HT
 replace HM := Lib.hid HM
 replace HF := Lib.hid HF
 replace HP := Lib.hid HP
 replace HD := Lib.hid HD
 replace HW := Lib.hid HW
 replace HR := Lib.hid HR
 replace hL0 := ((hL0.new rfl [.int .u64 ((zl a.num : Nat) : Int), .string (zh a.num), .bool (zs a.num), .int .u64 ((lo (fe a) : Nat) : Int), .string (hs (fe a))] 34).new (K := w.heap.size + 1) (szA _ _) [.int .u64 0, .string ⟨#[]⟩, .bool false, .int .u64 0, .string ⟨#[]⟩] 34)
 generalize hweq : ((w.alloc (.cells #[.int .u64 ((zl a.num : Nat) : Int), .string (zh a.num), .bool (zs a.num), .int .u64 ((lo (fe a) : Nat) : Int), .string (hs (fe a))] 34)).alloc (.cells #[.int .u64 0, .string ⟨#[]⟩, .bool false, .int .u64 0, .string ⟨#[]⟩] 34)) = x1 at hL0
 go_enter Tryz.func101, Tryz.ntmps101
 have hN0 := cells_of _ 0 [] rfl (hL0.get _ _ (List.mem_cons_of_mem _ List.mem_cons_self))
 simp only [cellsF, and_true, Nat.zero_add, Nat.reduceAdd] at hN0
 go_wp2_with fail
 clear hN0
 with_reducible refine Calls.mono (HS.out _) ?_
 rintro e x2 ⟨rfl, hb⟩
 replace hL0 := hL0.call hb
 clear hb hweq
 go_wp2_with fail
 with_reducible refine Calls.mono (HT.out _) ?_
 rintro e x3 ⟨rfl, hb⟩
 replace hL0 := hL0.call hb
 clear hb
 replace hL0 := (hL0.new rfl [.int .u64 ((lo u : Nat) : Int), .string (hs u)] 30)
 generalize hweq : (x3.alloc (.cells #[.int .u64 ((lo u : Nat) : Int), .string (hs u)] 30)) = x4 at hL0
 go_upto_region 8 with fail
 clear hweq
 refine region_gh (by kernel_rfl) (by kernel_rfl) ?_
 refine lex_seg (gl := []) 7 (by kernel_rfl) ?_
 intro α iα F hF1 hF2
 have hq := GL.seg hF1 hL0
 simp only [fcC, cellsC, and_true, Nat.zero_add, Nat.reduceAdd] at hq
 simp only [List.take_succ_cons, List.take_zero, List.drop_succ_cons, List.drop_zero, List.take_nil, List.drop_nil]
 repeat (go_big_quiet_step (first | fail | (go_at_call 91; with_reducible exact seg_call hF2 HM.out _) | (go_at_call 173; with_reducible exact seg_call hF2 HF.out _) | (go_at_call 28; with_reducible exact seg_call hF2 HP.out _)))
 refine wpQuiet_nil ?_
 clear hq hF1 hF2 iα F α
 refine lex_new [.int .u64 0, .string ⟨#[]⟩, .bool false, .int .u64 0, .string ⟨#[]⟩] 9 142 142 rfl rfl (of_decide_eq_true (by kernel_rfl)) (by kernel_rfl) rfl new_rad ?_
 simp only [Act.put, List.setIfInBounds_toArray, List.set_cons_succ, List.set_cons_zero]
 refine lex_put [.int .u64 ((zl s.num : Nat) : Int), .string (zh s.num), .bool (zs s.num), .int .u64 ((lo (fe s) : Nat) : Int), .string (hs (fe s))] [.int .u64 0, .string ⟨#[]⟩, .bool false, .int .u64 0, .string ⟨#[]⟩] 9 142 (.tmp 31) rfl (by kernel_rfl) (by simp [toG, upd]) rfl (fun w k h => put_rad _ _ _ _ _ _ _ _ _ _ w k h) ?_
 simp only [Act.put]
 refine lexG_nil ?_
 intro κ x5 hS
 replace hL0 := hL0.ghs hS [(9, [.int .u64 ((zl s.num : Nat) : Int), .string (zh s.num), .bool (zs s.num), .int .u64 ((lo (fe s) : Nat) : Int), .string (hs (fe s))])] (by simp) (by intro p hp; simp only [List.mem_cons, List.not_mem_nil, or_false] at hp; rcases hp with rfl <;> exact ⟨_, by simp only [toG, upd]; rfl⟩)
 simp only [List.map_cons, List.map_nil, List.cons_append, List.nil_append] at hL0
 simp only [over_toG, over_nil, Act.put, List.setIfInBounds_toArray, List.set_cons_succ, List.set_cons_zero]
 clear hS
 generalize κ 9 = k5_9 at *
 go_upto_region 9 with fail
 obtain ⟨α, iα, F, hF1, hF2⟩ := cls x5
 have hq0 := cls_box hF1 hL0 _ _ List.mem_cons_self
 simp only [cellsC, and_true, Nat.zero_add, Nat.reduceAdd] at hq0
 have hq1 := cls_box hF1 hL0 _ _ (List.mem_cons_of_mem _ List.mem_cons_self)
 simp only [cellsC, and_true, Nat.zero_add, Nat.reduceAdd] at hq1
 refine region_qs 8 (C := fun w' => ∃ x, w' = F x) (by kernel_rfl) (by kernel_rfl) (cls_drew hF2) ?_
 simp only [List.take_succ_cons, List.take_zero, List.drop_succ_cons, List.drop_zero, List.take_nil, List.drop_nil]
 repeat (go_big_quiet_step (first | fail | (go_at_call 103; with_reducible exact cls_call hF1 hF2 HD.out _) | (go_at_call 112; with_reducible exact cls_call hF1 hF2 HW.out _) | (go_at_call 76; with_reducible exact cls_call hF1 hF2 HR.out _)))
 refine wpQuiet_nil ?_
 rintro wq ⟨xq, rfl⟩
 replace hL0 := hL0.call (hF1 xq)
 clear  hq0 hq1 hF2
 generalize F xq = x6 at hL0 ⊢
 clear hF1 xq iα F α
 have hA := hL0.fc
 simp only [fcG, cellsF, neK, and_true, ne_eq, Nat.zero_add, Nat.reduceAdd] at hA
 have hP := hL0.put 2 (w.heap.size + 1) _ rfl [.int .u64 ((zl b.num : Nat) : Int), .string (zh b.num), .bool (zs b.num), .int .u64 ((lo (fe b) : Nat) : Int), .string (hs (fe b))] rfl
 simp only [setAll, List.set_cons_zero, List.set_cons_succ] at hP
 generalize hput1 : (((((x6.setCell ⟨w.heap.size + 1, 0, none⟩ (.int .u64 ((zl b.num : Nat) : Int))).setCell ⟨w.heap.size + 1, 1, none⟩ (.string (zh b.num))).setCell ⟨w.heap.size + 1, 2, none⟩ (.bool (zs b.num))).setCell ⟨w.heap.size + 1, 3, none⟩ (.int .u64 ((lo (fe b) : Nat) : Int))).setCell ⟨w.heap.size + 1, 4, none⟩ (.string (hs (fe b)))) = x7 at hP
 have hB1 := hP.fc
 simp only [fcG, cellsF, neK, and_true, ne_eq, Nat.zero_add, Nat.reduceAdd] at hB1
 replace hL0 := hP
 go_wp2_with fail
 exact bodyPost_ret (v := .tuple #[.agg #[.int .u64 ((zl b.num : Nat) : Int), .string (zh b.num), .bool (zs b.num), .int .u64 ((lo (fe b) : Nat) : Int), .string (hs (fe b))], .int .i64 c]) (by simp [results, Tryz.results101, go_sem, hB1]) rfl ⟨rfl, hL0.bl⟩
set_option maxHeartbeats 4000000 in
set_option maxRecDepth 100000 in
theorem below_w (a b : Rat) (n c : Int) (HR : ∀ w, Calls Tryz.prog 101 #[fracV a, .int .i64 n, .func (.func 102) #[] #[]] w fun xe w' => xe = .returned (.tuple #[fracV b, .int .i64 c]) ∧ Below w.heap.size w w') (w : World) :
  Calls Tryz.prog 36 #[fracV a, .int .i64 n] w fun xe w' => xe = .returned (.tuple #[fracV b, .int .i64 c]) ∧ Below w.heap.size w w' := by
 have hL0 : GL w w [] := GL.start w
 replace HR := Lib.hid HR
 replace hL0 := ((hL0.new rfl [.int .u64 ((zl a.num : Nat) : Int), .string (zh a.num), .bool (zs a.num), .int .u64 ((lo (fe a) : Nat) : Int), .string (hs (fe a))] 34).new (K := w.heap.size + 1) (szA _ _) [.int .u64 0, .string ⟨#[]⟩, .bool false, .int .u64 0, .string ⟨#[]⟩] 34)
 generalize hweq : ((w.alloc (.cells #[.int .u64 ((zl a.num : Nat) : Int), .string (zh a.num), .bool (zs a.num), .int .u64 ((lo (fe a) : Nat) : Int), .string (hs (fe a))] 34)).alloc (.cells #[.int .u64 0, .string ⟨#[]⟩, .bool false, .int .u64 0, .string ⟨#[]⟩] 34)) = x1 at hL0
 go_enter Tryz.func36, Tryz.ntmps36
 have hN0 := cells_of _ 0 [] rfl (hL0.get _ _ (List.mem_cons_of_mem _ List.mem_cons_self))
 simp only [cellsF, and_true, Nat.zero_add, Nat.reduceAdd] at hN0
 go_wp2_with fail
 clear hN0
 with_reducible refine Calls.mono (HR.out _) ?_
 rintro e x2 ⟨rfl, hb⟩
 replace hL0 := hL0.call hb
 clear hb hweq
 have hA := hL0.fc
 simp only [fcG, cellsF, neK, and_true, ne_eq, Nat.zero_add, Nat.reduceAdd] at hA
 have hP := hL0.put 0 (w.heap.size + 1) _ rfl [.int .u64 ((zl b.num : Nat) : Int), .string (zh b.num), .bool (zs b.num), .int .u64 ((lo (fe b) : Nat) : Int), .string (hs (fe b))] rfl
 simp only [setAll, List.set_cons_zero, List.set_cons_succ] at hP
 generalize hput1 : (((((x2.setCell ⟨w.heap.size + 1, 0, none⟩ (.int .u64 ((zl b.num : Nat) : Int))).setCell ⟨w.heap.size + 1, 1, none⟩ (.string (zh b.num))).setCell ⟨w.heap.size + 1, 2, none⟩ (.bool (zs b.num))).setCell ⟨w.heap.size + 1, 3, none⟩ (.int .u64 ((lo (fe b) : Nat) : Int))).setCell ⟨w.heap.size + 1, 4, none⟩ (.string (hs (fe b)))) = x3 at hP
 have hB1 := hP.fc
 simp only [fcG, cellsF, neK, and_true, ne_eq, Nat.zero_add, Nat.reduceAdd] at hB1
 replace hL0 := hP
 go_wp2_with fail
 exact bodyPost_ret (v := .tuple #[.agg #[.int .u64 ((zl b.num : Nat) : Int), .string (zh b.num), .bool (zs b.num), .int .u64 ((lo (fe b) : Nat) : Int), .string (hs (fe b))], .int .i64 c]) (by simp [results, Tryz.results36, go_sem, hB1]) rfl ⟨rfl, hL0.bl⟩
set_option maxHeartbeats 4000000 in
set_option maxRecDepth 100000 in
theorem above_w (a b : Rat) (n c : Int) (HR : ∀ w, Calls Tryz.prog 101 #[fracV a, .int .i64 n, .func (.func 103) #[] #[]] w fun xe w' => xe = .returned (.tuple #[fracV b, .int .i64 c]) ∧ Below w.heap.size w w') (w : World) :
  Calls Tryz.prog 37 #[fracV a, .int .i64 n] w fun xe w' => xe = .returned (.tuple #[fracV b, .int .i64 c]) ∧ Below w.heap.size w w' := by
 have hL0 : GL w w [] := GL.start w
 replace HR := Lib.hid HR
 replace hL0 := ((hL0.new rfl [.int .u64 ((zl a.num : Nat) : Int), .string (zh a.num), .bool (zs a.num), .int .u64 ((lo (fe a) : Nat) : Int), .string (hs (fe a))] 34).new (K := w.heap.size + 1) (szA _ _) [.int .u64 0, .string ⟨#[]⟩, .bool false, .int .u64 0, .string ⟨#[]⟩] 34)
 generalize hweq : ((w.alloc (.cells #[.int .u64 ((zl a.num : Nat) : Int), .string (zh a.num), .bool (zs a.num), .int .u64 ((lo (fe a) : Nat) : Int), .string (hs (fe a))] 34)).alloc (.cells #[.int .u64 0, .string ⟨#[]⟩, .bool false, .int .u64 0, .string ⟨#[]⟩] 34)) = x1 at hL0
 go_enter Tryz.func37, Tryz.ntmps37
 have hN0 := cells_of _ 0 [] rfl (hL0.get _ _ (List.mem_cons_of_mem _ List.mem_cons_self))
 simp only [cellsF, and_true, Nat.zero_add, Nat.reduceAdd] at hN0
 go_wp2_with fail
 clear hN0
 with_reducible refine Calls.mono (HR.out _) ?_
 rintro e x2 ⟨rfl, hb⟩
 replace hL0 := hL0.call hb
 clear hb hweq
 have hA := hL0.fc
 simp only [fcG, cellsF, neK, and_true, ne_eq, Nat.zero_add, Nat.reduceAdd] at hA
 have hP := hL0.put 0 (w.heap.size + 1) _ rfl [.int .u64 ((zl b.num : Nat) : Int), .string (zh b.num), .bool (zs b.num), .int .u64 ((lo (fe b) : Nat) : Int), .string (hs (fe b))] rfl
 simp only [setAll, List.set_cons_zero, List.set_cons_succ] at hP
 generalize hput1 : (((((x2.setCell ⟨w.heap.size + 1, 0, none⟩ (.int .u64 ((zl b.num : Nat) : Int))).setCell ⟨w.heap.size + 1, 1, none⟩ (.string (zh b.num))).setCell ⟨w.heap.size + 1, 2, none⟩ (.bool (zs b.num))).setCell ⟨w.heap.size + 1, 3, none⟩ (.int .u64 ((lo (fe b) : Nat) : Int))).setCell ⟨w.heap.size + 1, 4, none⟩ (.string (hs (fe b)))) = x3 at hP
 have hB1 := hP.fc
 simp only [fcG, cellsF, neK, and_true, ne_eq, Nat.zero_add, Nat.reduceAdd] at hB1
 replace hL0 := hP
 go_wp2_with fail
 exact bodyPost_ret (v := .tuple #[.agg #[.int .u64 ((zl b.num : Nat) : Int), .string (zh b.num), .bool (zs b.num), .int .u64 ((lo (fe b) : Nat) : Int), .string (hs (fe b))], .int .i64 c]) (by simp [results, Tryz.results37, go_sem, hB1]) rfl ⟨rfl, hL0.bl⟩
set_option maxHeartbeats 4000000 in
set_option maxRecDepth 100000 in
theorem exact_yes (q r : Rat) (z y c : Int) (a s d t : Nat) (HN : ∀ w, Calls Tryz.prog 114 #[fracV q] w fun xe w' => xe = .returned (intV z) ∧ Below w.heap.size w w') (HA : ∀ w, Calls Tryz.prog 78 #[intV z] w fun xe w' => xe = .returned (natV a) ∧ Below w.heap.size w w') (HS : ∀ w, Calls Tryz.prog 113 #[natV a] w fun xe w' => xe = .returned (natV s) ∧ Below w.heap.size w w') (HW : ∀ w, Calls Tryz.prog 112 #[natV s] w fun xe w' => xe = .returned (intV y) ∧ Below w.heap.size w w') (HD : ∀ w, Calls Tryz.prog 62 #[fracV q] w fun xe w' => xe = .returned (natV d) ∧ Below w.heap.size w w') (HE : ∀ w, Calls Tryz.prog 113 #[natV d] w fun xe w' => xe = .returned (natV t) ∧ Below w.heap.size w w') (HF : ∀ w, Calls Tryz.prog 76 #[intV y, natV t] w fun xe w' => xe = .returned (.tuple #[fracV r, .int .i64 c]) ∧ Below w.heap.size w w') (HQ : ∀ w, Calls Tryz.prog 42 #[fracV r] w fun xe w' => xe = .returned (fracV q) ∧ Below w.heap.size w w') (w : World) :
  Calls Tryz.prog 43 #[fracV q] w fun xe w' => xe = .returned (.tuple #[fracV r, .bool true]) ∧ Below w.heap.size w w' := by
 have hL0 : GL w w [] := GL.start w
 replace HN := Lib.hid HN
 replace HA := Lib.hid HA
 replace HS := Lib.hid HS
 replace HW := Lib.hid HW
 replace HD := Lib.hid HD
 replace HE := Lib.hid HE
 replace HF := Lib.hid HF
 replace HQ := Lib.hid HQ
 replace hL0 := ((hL0.new rfl [.int .u64 ((zl q.num : Nat) : Int), .string (zh q.num), .bool (zs q.num), .int .u64 ((lo (fe q) : Nat) : Int), .string (hs (fe q))] 34).new (K := w.heap.size + 1) (szA _ _) [.int .u64 0, .string ⟨#[]⟩, .bool false, .int .u64 0, .string ⟨#[]⟩] 34)
 generalize hweq : ((w.alloc (.cells #[.int .u64 ((zl q.num : Nat) : Int), .string (zh q.num), .bool (zs q.num), .int .u64 ((lo (fe q) : Nat) : Int), .string (hs (fe q))] 34)).alloc (.cells #[.int .u64 0, .string ⟨#[]⟩, .bool false, .int .u64 0, .string ⟨#[]⟩] 34)) = x1 at hL0
 go_enter Tryz.func43, Tryz.ntmps43
 go_upto_region 1 with fail
 clear hweq
 refine region_gh (by kernel_rfl) (by kernel_rfl) ?_
 refine lex_seg (gl := []) 12 (by kernel_rfl) ?_
 intro α iα F hF1 hF2
 have hq := GL.seg hF1 hL0
 simp only [fcC, cellsC, and_true, Nat.zero_add, Nat.reduceAdd] at hq
 simp only [List.take_succ_cons, List.take_zero, List.drop_succ_cons, List.drop_zero, List.take_nil, List.drop_nil]
 repeat (go_big_quiet_step (first | fail | (go_at_call 114; with_reducible exact seg_call hF2 HN.out _) | (go_at_call 78; with_reducible exact seg_call hF2 HA.out _) | (go_at_call 113; with_reducible exact seg_call hF2 HS.out _) | (go_at_call 112; with_reducible exact seg_call hF2 HW.out _) | (go_at_call 62; with_reducible exact seg_call hF2 HD.out _) | (go_at_call 113; with_reducible exact seg_call hF2 HE.out _) | (go_at_call 76; with_reducible exact seg_call hF2 HF.out _)))
 refine wpQuiet_nil ?_
 clear hq hF1 hF2 iα F α
 refine lex_new [.int .u64 0, .string ⟨#[]⟩, .bool false, .int .u64 0, .string ⟨#[]⟩] 4 34 34 rfl rfl (of_decide_eq_true (by kernel_rfl)) (by kernel_rfl) rfl new_frac ?_
 simp only [Act.put, List.setIfInBounds_toArray, List.set_cons_succ, List.set_cons_zero]
 refine lex_put [.int .u64 ((zl r.num : Nat) : Int), .string (zh r.num), .bool (zs r.num), .int .u64 ((lo (fe r) : Nat) : Int), .string (hs (fe r))] [.int .u64 0, .string ⟨#[]⟩, .bool false, .int .u64 0, .string ⟨#[]⟩] 4 34 (.tmp 16) rfl (by kernel_rfl) (by simp [toG, upd]) rfl (fun w k h => put_frac _ _ _ _ _ _ _ _ _ _ w k h) ?_
 simp only [Act.put]
 refine lex_seg (gl := [(4, [.int .u64 ((zl r.num : Nat) : Int), .string (zh r.num), .bool (zs r.num), .int .u64 ((lo (fe r) : Nat) : Int), .string (hs (fe r))], true), (4, [.int .u64 0, .string ⟨#[]⟩, .bool false, .int .u64 0, .string ⟨#[]⟩], false)]) 1 (by kernel_rfl) ?_
 intro α iα F hF1 hF2
 have hq := GL.seg hF1 hL0
 simp only [fcC, cellsC, and_true, Nat.zero_add, Nat.reduceAdd] at hq
 simp only [List.take_succ_cons, List.take_zero, List.drop_succ_cons, List.drop_zero, List.take_nil, List.drop_nil]
 repeat (go_big_quiet_step (first | fail | (go_at_call 114; with_reducible exact seg_call hF2 HN.out _) | (go_at_call 78; with_reducible exact seg_call hF2 HA.out _) | (go_at_call 113; with_reducible exact seg_call hF2 HS.out _) | (go_at_call 112; with_reducible exact seg_call hF2 HW.out _) | (go_at_call 62; with_reducible exact seg_call hF2 HD.out _) | (go_at_call 113; with_reducible exact seg_call hF2 HE.out _) | (go_at_call 76; with_reducible exact seg_call hF2 HF.out _)))
 refine wpQuiet_nil ?_
 clear hq hF1 hF2 iα F α
 refine lexG_nil ?_
 intro κ x2 hS
 replace hL0 := hL0.ghs hS [(4, [.int .u64 ((zl r.num : Nat) : Int), .string (zh r.num), .bool (zs r.num), .int .u64 ((lo (fe r) : Nat) : Int), .string (hs (fe r))])] (by simp) (by intro p hp; simp only [List.mem_cons, List.not_mem_nil, or_false] at hp; rcases hp with rfl <;> exact ⟨_, by simp only [toG, upd]; rfl⟩)
 simp only [List.map_cons, List.map_nil, List.cons_append, List.nil_append] at hL0
 simp only [over_toG, over_nil, Act.put, List.setIfInBounds_toArray, List.set_cons_succ, List.set_cons_zero]
 clear hS
 generalize κ 4 = k2_4 at *
 go_upto_region 2 with fail
 obtain ⟨α, iα, F, hF1, hF2⟩ := cls x2
 have hq0 := cls_box hF1 hL0 _ _ List.mem_cons_self
 simp only [cellsC, and_true, Nat.zero_add, Nat.reduceAdd] at hq0
 have hq1 := cls_box hF1 hL0 _ _ (List.mem_cons_of_mem _ (List.mem_cons_of_mem _ List.mem_cons_self))
 simp only [cellsC, and_true, Nat.zero_add, Nat.reduceAdd] at hq1
 refine region_qs 4 (C := fun w' => ∃ x, w' = F x) (by kernel_rfl) (by kernel_rfl) (cls_drew hF2) ?_
 simp only [List.take_succ_cons, List.take_zero, List.drop_succ_cons, List.drop_zero, List.take_nil, List.drop_nil]
 repeat (go_big_quiet_step (first | fail | (go_at_call 42; with_reducible exact cls_call hF1 hF2 HQ.out _)))
 refine wpQuiet_nil ?_
 rintro wq ⟨xq, rfl⟩
 replace hL0 := hL0.call (hF1 xq)
 clear  hq0 hq1 hF2
 generalize F xq = x3 at hL0 ⊢
 clear hF1 xq iα F α
 have hA := hL0.fc
 simp only [fcG, cellsF, neK, and_true, ne_eq, Nat.zero_add, Nat.reduceAdd] at hA
 have hP := hL0.put 1 (w.heap.size + 1) _ rfl [.int .u64 ((zl r.num : Nat) : Int), .string (zh r.num), .bool (zs r.num), .int .u64 ((lo (fe r) : Nat) : Int), .string (hs (fe r))] rfl
 simp only [setAll, List.set_cons_zero, List.set_cons_succ] at hP
 generalize hput1 : (((((x3.setCell ⟨w.heap.size + 1, 0, none⟩ (.int .u64 ((zl r.num : Nat) : Int))).setCell ⟨w.heap.size + 1, 1, none⟩ (.string (zh r.num))).setCell ⟨w.heap.size + 1, 2, none⟩ (.bool (zs r.num))).setCell ⟨w.heap.size + 1, 3, none⟩ (.int .u64 ((lo (fe r) : Nat) : Int))).setCell ⟨w.heap.size + 1, 4, none⟩ (.string (hs (fe r)))) = x4 at hP
 have hB1 := hP.fc
 simp only [fcG, cellsF, neK, and_true, ne_eq, Nat.zero_add, Nat.reduceAdd] at hB1
 replace hL0 := hP
 go_wp2_with fail
 exact bodyPost_ret (v := .tuple #[.agg #[.int .u64 ((zl r.num : Nat) : Int), .string (zh r.num), .bool (zs r.num), .int .u64 ((lo (fe r) : Nat) : Int), .string (hs (fe r))], .bool true]) (by simp [results, Tryz.results43, go_sem, hB1]) rfl ⟨rfl, hL0.bl⟩
set_option maxHeartbeats 4000000 in
set_option maxRecDepth 100000 in
theorem exact_no (q r p : Rat) (z y c : Int) (a s d t : Nat) (HN : ∀ w, Calls Tryz.prog 114 #[fracV q] w fun xe w' => xe = .returned (intV z) ∧ Below w.heap.size w w') (HA : ∀ w, Calls Tryz.prog 78 #[intV z] w fun xe w' => xe = .returned (natV a) ∧ Below w.heap.size w w') (HS : ∀ w, Calls Tryz.prog 113 #[natV a] w fun xe w' => xe = .returned (natV s) ∧ Below w.heap.size w w') (HW : ∀ w, Calls Tryz.prog 112 #[natV s] w fun xe w' => xe = .returned (intV y) ∧ Below w.heap.size w w') (HD : ∀ w, Calls Tryz.prog 62 #[fracV q] w fun xe w' => xe = .returned (natV d) ∧ Below w.heap.size w w') (HE : ∀ w, Calls Tryz.prog 113 #[natV d] w fun xe w' => xe = .returned (natV t) ∧ Below w.heap.size w w') (HF : ∀ w, Calls Tryz.prog 76 #[intV y, natV t] w fun xe w' => xe = .returned (.tuple #[fracV r, .int .i64 c]) ∧ Below w.heap.size w w') (HQ : ∀ w, Calls Tryz.prog 42 #[fracV r] w fun xe w' => xe = .returned (fracV p) ∧ Below w.heap.size w w') (hne : p ≠ q) (w : World) :
  Calls Tryz.prog 43 #[fracV q] w fun xe w' => xe = .returned (.tuple #[.agg #[.int .u64 0, .string ⟨#[]⟩, .bool false, .int .u64 0, .string ⟨#[]⟩], .bool false]) ∧ Below w.heap.size w w' := by
 have hL0 : GL w w [] := GL.start w
 replace HN := Lib.hid HN
 replace HA := Lib.hid HA
 replace HS := Lib.hid HS
 replace HW := Lib.hid HW
 replace HD := Lib.hid HD
 replace HE := Lib.hid HE
 replace HF := Lib.hid HF
 replace HQ := Lib.hid HQ
 have hz := ne_fr hne
 clear hne
 rcases hz with e0 | ⟨e0, e1⟩ | ⟨e0, e1, e2⟩ | ⟨e0, e1, e2, e3⟩ | ⟨e0, e1, e2, e3, e4⟩
 all_goals (
  replace hL0 := ((hL0.new rfl [.int .u64 ((zl q.num : Nat) : Int), .string (zh q.num), .bool (zs q.num), .int .u64 ((lo (fe q) : Nat) : Int), .string (hs (fe q))] 34).new (K := w.heap.size + 1) (szA _ _) [.int .u64 0, .string ⟨#[]⟩, .bool false, .int .u64 0, .string ⟨#[]⟩] 34)
  generalize hweq : ((w.alloc (.cells #[.int .u64 ((zl q.num : Nat) : Int), .string (zh q.num), .bool (zs q.num), .int .u64 ((lo (fe q) : Nat) : Int), .string (hs (fe q))] 34)).alloc (.cells #[.int .u64 0, .string ⟨#[]⟩, .bool false, .int .u64 0, .string ⟨#[]⟩] 34)) = x1 at hL0
  go_enter Tryz.func43, Tryz.ntmps43
  go_upto_region 1 with fail
  clear hweq
  refine region_gh (by kernel_rfl) (by kernel_rfl) ?_
  refine lex_seg (gl := []) 12 (by kernel_rfl) ?_
  intro α iα F hF1 hF2
  have hq := GL.seg hF1 hL0
  simp only [fcC, cellsC, and_true, Nat.zero_add, Nat.reduceAdd] at hq
  simp only [List.take_succ_cons, List.take_zero, List.drop_succ_cons, List.drop_zero, List.take_nil, List.drop_nil]
  repeat (go_big_quiet_step (first | fail | (go_at_call 114; with_reducible exact seg_call hF2 HN.out _) | (go_at_call 78; with_reducible exact seg_call hF2 HA.out _) | (go_at_call 113; with_reducible exact seg_call hF2 HS.out _) | (go_at_call 112; with_reducible exact seg_call hF2 HW.out _) | (go_at_call 62; with_reducible exact seg_call hF2 HD.out _) | (go_at_call 113; with_reducible exact seg_call hF2 HE.out _) | (go_at_call 76; with_reducible exact seg_call hF2 HF.out _)))
  refine wpQuiet_nil ?_
  clear hq hF1 hF2 iα F α
  refine lex_new [.int .u64 0, .string ⟨#[]⟩, .bool false, .int .u64 0, .string ⟨#[]⟩] 4 34 34 rfl rfl (of_decide_eq_true (by kernel_rfl)) (by kernel_rfl) rfl new_frac ?_
  simp only [Act.put, List.setIfInBounds_toArray, List.set_cons_succ, List.set_cons_zero]
  refine lex_put [.int .u64 ((zl r.num : Nat) : Int), .string (zh r.num), .bool (zs r.num), .int .u64 ((lo (fe r) : Nat) : Int), .string (hs (fe r))] [.int .u64 0, .string ⟨#[]⟩, .bool false, .int .u64 0, .string ⟨#[]⟩] 4 34 (.tmp 16) rfl (by kernel_rfl) (by simp [toG, upd]) rfl (fun w k h => put_frac _ _ _ _ _ _ _ _ _ _ w k h) ?_
  simp only [Act.put]
  refine lex_seg (gl := [(4, [.int .u64 ((zl r.num : Nat) : Int), .string (zh r.num), .bool (zs r.num), .int .u64 ((lo (fe r) : Nat) : Int), .string (hs (fe r))], true), (4, [.int .u64 0, .string ⟨#[]⟩, .bool false, .int .u64 0, .string ⟨#[]⟩], false)]) 1 (by kernel_rfl) ?_
  intro α iα F hF1 hF2
  have hq := GL.seg hF1 hL0
  simp only [fcC, cellsC, and_true, Nat.zero_add, Nat.reduceAdd] at hq
  simp only [List.take_succ_cons, List.take_zero, List.drop_succ_cons, List.drop_zero, List.take_nil, List.drop_nil]
  repeat (go_big_quiet_step (first | fail | (go_at_call 114; with_reducible exact seg_call hF2 HN.out _) | (go_at_call 78; with_reducible exact seg_call hF2 HA.out _) | (go_at_call 113; with_reducible exact seg_call hF2 HS.out _) | (go_at_call 112; with_reducible exact seg_call hF2 HW.out _) | (go_at_call 62; with_reducible exact seg_call hF2 HD.out _) | (go_at_call 113; with_reducible exact seg_call hF2 HE.out _) | (go_at_call 76; with_reducible exact seg_call hF2 HF.out _)))
  refine wpQuiet_nil ?_
  clear hq hF1 hF2 iα F α
  refine lexG_nil ?_
  intro κ x2 hS
  replace hL0 := hL0.ghs hS [(4, [.int .u64 ((zl r.num : Nat) : Int), .string (zh r.num), .bool (zs r.num), .int .u64 ((lo (fe r) : Nat) : Int), .string (hs (fe r))])] (by simp) (by intro p hp; simp only [List.mem_cons, List.not_mem_nil, or_false] at hp; rcases hp with rfl <;> exact ⟨_, by simp only [toG, upd]; rfl⟩)
  simp only [List.map_cons, List.map_nil, List.cons_append, List.nil_append] at hL0
  simp only [over_toG, over_nil, Act.put, List.setIfInBounds_toArray, List.set_cons_succ, List.set_cons_zero]
  clear hS
  generalize κ 4 = k2_4 at *
  go_upto_region 2 with fail
  obtain ⟨α, iα, F, hF1, hF2⟩ := cls x2
  have hq0 := cls_box hF1 hL0 _ _ List.mem_cons_self
  simp only [cellsC, and_true, Nat.zero_add, Nat.reduceAdd] at hq0
  have hq1 := cls_box hF1 hL0 _ _ (List.mem_cons_of_mem _ (List.mem_cons_of_mem _ List.mem_cons_self))
  simp only [cellsC, and_true, Nat.zero_add, Nat.reduceAdd] at hq1
  refine region_qs 4 (C := fun w' => ∃ x, w' = F x) (by kernel_rfl) (by kernel_rfl) (cls_drew hF2) ?_
  simp only [List.take_succ_cons, List.take_zero, List.drop_succ_cons, List.drop_zero, List.take_nil, List.drop_nil]
  repeat (go_big_quiet_step (first | fail | (go_at_call 42; with_reducible exact cls_call hF1 hF2 HQ.out _)))
  refine wpQuiet_nil ?_
  rintro wq ⟨xq, rfl⟩
  replace hL0 := hL0.call (hF1 xq)
  clear  hq0 hq1 hF2
  generalize F xq = x3 at hL0 ⊢
  clear hF1 xq iα F α
  have hA := hL0.fc
  simp only [fcG, cellsF, neK, and_true, ne_eq, Nat.zero_add, Nat.reduceAdd] at hA
  have hP := hL0.put 1 (w.heap.size + 1) _ rfl [.int .u64 0, .string ⟨#[]⟩, .bool false, .int .u64 0, .string ⟨#[]⟩] rfl
  simp only [setAll, List.set_cons_zero, List.set_cons_succ] at hP
  generalize hput1 : (((((x3.setCell ⟨w.heap.size + 1, 0, none⟩ (.int .u64 0)).setCell ⟨w.heap.size + 1, 1, none⟩ (.string ⟨#[]⟩)).setCell ⟨w.heap.size + 1, 2, none⟩ (.bool false)).setCell ⟨w.heap.size + 1, 3, none⟩ (.int .u64 0)).setCell ⟨w.heap.size + 1, 4, none⟩ (.string ⟨#[]⟩)) = x4 at hP
  have hB1 := hP.fc
  simp only [fcG, cellsF, neK, and_true, ne_eq, Nat.zero_add, Nat.reduceAdd] at hB1
  replace hL0 := hP
  go_wp2_with fail
  exact bodyPost_ret (v := .tuple #[.agg #[.int .u64 0, .string ⟨#[]⟩, .bool false, .int .u64 0, .string ⟨#[]⟩], .bool false]) (by simp [results, Tryz.results43, go_sem, hB1]) rfl ⟨rfl, hL0.bl⟩)
end Go.Proofs.YtdkjckiialnpnaaGreatDoor
namespace Go.Proofs.YtdkjckiialnpnaaGreatDoor
open Go.RowKit
attribute [local irreducible] lo hs sm s64 c64 d64 b64 mh ml pd pc qd qc val hiB str cmpI srD lz nb isq zl zh zs fe
/-- A slice's fractions. -/
structure FS (w : World) (g : Nat) (qs : List Rat) : Prop where
 cell : ∀ i (h : i < qs.length), w.cell? ⟨g, i * 5, none⟩ = some (.int .u64 ((zl qs[i].num : Nat) : Int)) ∧ w.cell? ⟨g, i * 5 + 1, none⟩ = some (.string (zh qs[i].num)) ∧ w.cell? ⟨g, i * 5 + 2, none⟩ = some (.bool (zs qs[i].num)) ∧
  w.cell? ⟨g, i * 5 + 3, none⟩ = some (.int .u64 ((lo (fe qs[i]) : Nat) : Int)) ∧ w.cell? ⟨g, i * 5 + 4, none⟩ = some (.string (hs (fe qs[i])))
 lt : g < w.heap.size
theorem FS.below {w w' : World} {g : Nat} {qs : List Rat} (h : FS w g qs) (hb : Below w.heap.size w w') : FS w' g qs := by
 have hs := hb.size
 have hl := h.lt
 refine ⟨fun i hi => ?_, by omega⟩
 obtain ⟨h0, h1, h2, h3, h4⟩ := h.cell i hi
 exact ⟨(hb.cell (p := ⟨g, i * 5, none⟩) hl).trans h0, (hb.cell (p := ⟨g, i * 5 + 1, none⟩) hl).trans h1, (hb.cell (p := ⟨g, i * 5 + 2, none⟩) hl).trans h2, (hb.cell (p := ⟨g, i * 5 + 3, none⟩) hl).trans h3, (hb.cell (p := ⟨g, i * 5 + 4, none⟩) hl).trans h4⟩
def SlQ (w : World) (v : Value) (qs : List Rat) : Prop := (∃ ao c, v = .slice ao 0 c ∧ qs = []) ∨ ∃ g c, v = .slice (some ⟨g, 0, none⟩) qs.length c ∧ FS w g qs
theorem SlQ.below {w w' : World} {v : Value} {qs : List Rat} (h : SlQ w v qs) (hb : Below w.heap.size w w') : SlQ w' v qs := by
 rcases h with h | ⟨g, c, h1, h2⟩
 ·exact .inl h
 ·exact .inr ⟨g, c, h1, h2.below hb⟩
theorem SlQ.keeps (v : Value) (qs : List Rat) : Keeps (fun w => SlQ w v qs) := fun _ _ hb h => h.below hb
theorem fe_zero : fe 0 = 0 := fe_one rfl
def gtQ (p q : Rat) : Bool := decide (q < p)
theorem cmpQ_gt (p q : Rat) : decide (0 < cmpQ p q) = gtQ p q := by
 unfold cmpQ gtQ
 by_cases h : p < q
 ·rw [if_pos h, decide_eq_false (p := q < p) (by grind)]; rfl
 ·rw [if_neg h]
  by_cases h' : p = q
  ·rw [if_pos h', decide_eq_false (p := q < p) (by grind)]; rfl
  ·rw [if_neg h', decide_eq_true (p := q < p) (by grind)]; rfl
end Go.Proofs.YtdkjckiialnpnaaGreatDoor
namespace Go.Proofs.YtdkjckiialnpnaaGreatDoor
open Go.RowKit
attribute [local irreducible] lo hs sm s64 c64 d64 b64 mh ml pd pc qd qc val hiB str cmpI srD lz nb isq zl zh zs
theorem dec_sgnQ (q : Rat) : decide (sgnQ q < 0) = decide (q.num < 0) := by
 have : sgnQ q < 0 ↔ q.num < 0 := by rw [sgnQ_num]; split <;> (try split) <;> omega
 simp only [this]
/-- A fraction's text. -/
def qtxt (q : Rat) : ByteArray := if q.den = 1 then ztxt q.num else ztxt q.num ++ (ByteArray.mk #[47]) ++ txt q.den
theorem ztxt_small {z : Int} {k : Nat} (hk : 0 < k) (h : dI z ≤ k) : (ztxt z).size ≤ 20 * k + 1 := by
 have h1 := txt_small (n := z.natAbs) hk h
 unfold ztxt
 split
 ·rw [ByteArray.size_append]
  have : (ByteArray.mk #[45]).size = 1 := rfl
  omega
 ·omega
theorem textF (q : Rat) (k : Nat) (hq : Sz q k) (hk : k ≤ 100000) (w : World) (htab : Tab w) : Calls Tryz.prog 110 #[fracV q] w fun x w' => x = .returned (.string (qtxt q)) ∧ Below w.heap.size w w' := by
 have hT := fun w h => textI q.num (Nat.le_trans hq.1 (by omega)) w h
 unfold qtxt
 by_cases h : q.den = 1
 ·rw [if_pos h, show fracV q = frV q.num 0 by unfold fracV; rw [fe_one h]]
  exact ftext_whole q.num _ (fun w => by have := whole_raw q.num 0 w; rwa [decide_eq_true rfl] at this) hT w htab
 ·rw [if_neg h, show fracV q = frV q.num q.den by unfold fracV; rw [fe_ne h]]
  have s1 := ztxt_small (k := 100000) (by omega) (Nat.le_trans hq.1 hk)
  have s2 := txt_small (n := q.den) (k := 100000) (by omega) (Nat.le_trans hq.2 hk)
  exact ftext_part q.num q.den _ _ (fun w => by have := whole_raw q.num q.den w; rwa [decide_eq_false q.den_nz] at this) hT (fun w h => text_any q.den (Nat.le_trans hq.2 (by omega)) w h) (by omega) (by omega) w htab
end Go.Proofs.YtdkjckiialnpnaaGreatDoor
namespace Go.Proofs.YtdkjckiialnpnaaGreatDoor
open Go.RowKit
attribute [local irreducible] lo hs sm s64 c64 d64 b64 mh ml pd pc qd qc val hiB str cmpI srD lz nb isq zl zh zs fe
set_option maxHeartbeats 4000000 in
set_option maxRecDepth 100000 in
theorem rtext_w (q : Rat) (s : ByteArray) (HT : ∀ w, Tab w → Calls Tryz.prog 110 #[fracV q] w fun xe w' => xe = .returned (.string s) ∧ Below w.heap.size w w') (w : World) (htab : Tab w) :
  Calls Tryz.prog 99 #[fracV q, .string s] w fun xe w' => xe = .returned (.bool true) ∧ Below w.heap.size w w' := by
 have hL0 : GL w w [] := GL.start w
 replace HT := Lib.hid HT
 replace hL0 := (hL0.new rfl [.int .u64 ((zl q.num : Nat) : Int), .string (zh q.num), .bool (zs q.num), .int .u64 ((lo (fe q) : Nat) : Int), .string (hs (fe q))] 34)
 generalize hweq : (w.alloc (.cells #[.int .u64 ((zl q.num : Nat) : Int), .string (zh q.num), .bool (zs q.num), .int .u64 ((lo (fe q) : Nat) : Int), .string (hs (fe q))] 34)) = x1 at hL0
 go_enter Tryz.func99, Tryz.ntmps99
 have hN0 := cells_of _ 0 [] rfl (hL0.get _ _ List.mem_cons_self)
 simp only [cellsF, and_true, Nat.zero_add, Nat.reduceAdd] at hN0
 go_wp2_with fail
 clear hN0
 with_reducible refine Calls.mono (HT.out _ (htab.below hL0.bl)) ?_
 rintro e x2 ⟨rfl, hb⟩
 replace hL0 := hL0.call hb
 clear hb hweq
 go_wp2_with fail
 exact bodyPost_ret (v := .bool true) (by simp [results, Tryz.results99, go_sem]) rfl ⟨rfl, hL0.bl⟩
set_option maxHeartbeats 4000000 in
set_option maxRecDepth 100000 in
theorem rof_w (i j c : Int) (q : Rat) (HF : ∀ w, Calls Tryz.prog 32 #[.int .i64 i, .int .i64 j] w fun xe w' => xe = .returned (.tuple #[fracV q, .int .i64 c]) ∧ Below w.heap.size w w') (w : World) :
  Calls Tryz.prog 97 #[.int .i64 i, .int .i64 j] w fun xe w' => xe = .returned (fracV q) ∧ Below w.heap.size w w' := by
 have hL0 : GL w w [] := GL.start w
 replace HF := Lib.hid HF
 replace hL0 := (hL0.new rfl [.int .u64 0, .string ⟨#[]⟩, .bool false, .int .u64 0, .string ⟨#[]⟩] 34)
 generalize hweq : (w.alloc (.cells #[.int .u64 0, .string ⟨#[]⟩, .bool false, .int .u64 0, .string ⟨#[]⟩] 34)) = x1 at hL0
 go_enter Tryz.func97, Tryz.ntmps97
 go_wp2_with fail
 with_reducible refine Calls.mono (HF.out _) ?_
 rintro e x2 ⟨rfl, hb⟩
 replace hL0 := hL0.call hb
 clear hb hweq
 replace hL0 := (hL0.new rfl [.int .u64 ((zl q.num : Nat) : Int), .string (zh q.num), .bool (zs q.num), .int .u64 ((lo (fe q) : Nat) : Int), .string (hs (fe q))] 34)
 generalize hweq : (x2.alloc (.cells #[.int .u64 ((zl q.num : Nat) : Int), .string (zh q.num), .bool (zs q.num), .int .u64 ((lo (fe q) : Nat) : Int), .string (hs (fe q))] 34)) = x3 at hL0
 have hA := hL0.fc
 simp only [fcG, cellsF, neK, and_true, ne_eq, Nat.zero_add, Nat.reduceAdd] at hA
 have hP := hL0.put 1 (w.heap.size) _ rfl [.int .u64 ((zl q.num : Nat) : Int), .string (zh q.num), .bool (zs q.num), .int .u64 ((lo (fe q) : Nat) : Int), .string (hs (fe q))] rfl
 simp only [setAll, List.set_cons_zero, List.set_cons_succ] at hP
 generalize hput1 : (((((x3.setCell ⟨w.heap.size, 0, none⟩ (.int .u64 ((zl q.num : Nat) : Int))).setCell ⟨w.heap.size, 1, none⟩ (.string (zh q.num))).setCell ⟨w.heap.size, 2, none⟩ (.bool (zs q.num))).setCell ⟨w.heap.size, 3, none⟩ (.int .u64 ((lo (fe q) : Nat) : Int))).setCell ⟨w.heap.size, 4, none⟩ (.string (hs (fe q)))) = x4 at hP
 have hB1 := hP.fc
 simp only [fcG, cellsF, neK, and_true, ne_eq, Nat.zero_add, Nat.reduceAdd] at hB1
 replace hL0 := hP
 go_wp2_with fail
 exact bodyPost_ret (v := .agg #[.int .u64 ((zl q.num : Nat) : Int), .string (zh q.num), .bool (zs q.num), .int .u64 ((lo (fe q) : Nat) : Int), .string (hs (fe q))]) (by simp [results, Tryz.results97, go_sem, hB1]) rfl ⟨rfl, hL0.bl⟩
set_option maxHeartbeats 4000000 in
set_option maxRecDepth 100000 in
theorem rboth_w (q x y : Rat) (n c d : Int) (s t : ByteArray) (HB : ∀ w, Calls Tryz.prog 36 #[fracV q, .int .i64 n] w fun xe w' => xe = .returned (.tuple #[fracV x, .int .i64 c]) ∧ Below w.heap.size w w') (HA : ∀ w, Calls Tryz.prog 37 #[fracV q, .int .i64 n] w fun xe w' => xe = .returned (.tuple #[fracV y, .int .i64 d]) ∧ Below w.heap.size w w') (HT : ∀ w, Tab w → Calls Tryz.prog 110 #[fracV x] w fun xe w' => xe = .returned (.string s) ∧ Below w.heap.size w w') (HU : ∀ w, Tab w → Calls Tryz.prog 110 #[fracV y] w fun xe w' => xe = .returned (.string t) ∧ Below w.heap.size w w') (h1 : ((s.size : Nat) : Int) ≤ 20000000) (h2 : ((t.size : Nat) : Int) ≤ 20000000) (w : World) (htab : Tab w) :
  Calls Tryz.prog 98 #[fracV q, .int .i64 n] w fun xe w' => xe = .returned (.string ((s ++ (ByteArray.mk #[32])) ++ t)) ∧ Below w.heap.size w w' := by
 have hL0 : GL w w [] := GL.start w
 replace HB := Lib.hid HB
 replace HA := Lib.hid HA
 replace HT := Lib.hid HT
 replace HU := Lib.hid HU
 replace hL0 := (hL0.new rfl [.int .u64 ((zl q.num : Nat) : Int), .string (zh q.num), .bool (zs q.num), .int .u64 ((lo (fe q) : Nat) : Int), .string (hs (fe q))] 34)
 generalize hweq : (w.alloc (.cells #[.int .u64 ((zl q.num : Nat) : Int), .string (zh q.num), .bool (zs q.num), .int .u64 ((lo (fe q) : Nat) : Int), .string (hs (fe q))] 34)) = x1 at hL0
 go_enter Tryz.func98, Tryz.ntmps98
 have hN0 := cells_of _ 0 [] rfl (hL0.get _ _ List.mem_cons_self)
 simp only [cellsF, and_true, Nat.zero_add, Nat.reduceAdd] at hN0
 go_wp2_with fail
 clear hN0
 with_reducible refine Calls.mono (HB.out _) ?_
 rintro e x2 ⟨rfl, hb⟩
 replace hL0 := hL0.call hb
 clear hb hweq
 replace hL0 := (hL0.new rfl [.int .u64 ((zl x.num : Nat) : Int), .string (zh x.num), .bool (zs x.num), .int .u64 ((lo (fe x) : Nat) : Int), .string (hs (fe x))] 34)
 generalize hweq : (x2.alloc (.cells #[.int .u64 ((zl x.num : Nat) : Int), .string (zh x.num), .bool (zs x.num), .int .u64 ((lo (fe x) : Nat) : Int), .string (hs (fe x))] 34)) = x3 at hL0
 have hN0 := cells_of _ 0 [] rfl (hL0.get _ _ (List.mem_cons_of_mem _ List.mem_cons_self))
 simp only [cellsF, and_true, Nat.zero_add, Nat.reduceAdd] at hN0
 go_wp2_with fail
 clear hN0
 with_reducible refine Calls.mono (HA.out _) ?_
 rintro e x4 ⟨rfl, hb⟩
 replace hL0 := hL0.call hb
 clear hb hweq
 replace hL0 := (hL0.new rfl [.int .u64 ((zl y.num : Nat) : Int), .string (zh y.num), .bool (zs y.num), .int .u64 ((lo (fe y) : Nat) : Int), .string (hs (fe y))] 34)
 generalize hweq : (x4.alloc (.cells #[.int .u64 ((zl y.num : Nat) : Int), .string (zh y.num), .bool (zs y.num), .int .u64 ((lo (fe y) : Nat) : Int), .string (hs (fe y))] 34)) = x5 at hL0
 go_upto_region 3 with fail
 have ht := htab.below hL0.bl
 clear hweq
 obtain ⟨α, iα, F, hF1, hF2⟩ := cls x5
 have hq0 := cls_box hF1 hL0 _ _ List.mem_cons_self
 simp only [cellsC, and_true, Nat.zero_add, Nat.reduceAdd] at hq0
 have hq1 := cls_box hF1 hL0 _ _ (List.mem_cons_of_mem _ List.mem_cons_self)
 simp only [cellsC, and_true, Nat.zero_add, Nat.reduceAdd] at hq1
 refine region_qs 7 (C := fun w' => ∃ x, w' = F x) (by kernel_rfl) (by kernel_rfl) (cls_drew hF2) ?_
 simp only [List.take_succ_cons, List.take_zero, List.drop_succ_cons, List.drop_zero, List.take_nil, List.drop_nil]
 repeat (go_big_quiet_step (first | fail | (go_at_call 110; with_reducible exact cls_callT hF1 hF2 ht HT.out _) | (go_at_call 110; with_reducible exact cls_callT hF1 hF2 ht HU.out _)))
 refine wpQuiet_nil ?_
 rintro wq ⟨xq, rfl⟩
 replace hL0 := hL0.call (hF1 xq)
 clear  hq0 hq1 hF2
 generalize F xq = x6 at hL0 ⊢
 clear hF1 xq iα F α
 clear ht
 go_wp2_with fail
 exact bodyPost_ret (v := .string ((s ++ (ByteArray.mk #[32])) ++ t)) (by simp [results, Tryz.results98, go_sem]) rfl ⟨rfl, hL0.bl⟩
set_option maxHeartbeats 4000000 in
set_option maxRecDepth 100000 in
theorem rworks_w (qt tw zr nn mf ra rb rc rd : Rat) (F4 : ∀ w, Calls Tryz.prog 97 #[.int .i64 1, .int .i64 4] w fun xe w' => xe = .returned (fracV qt) ∧ Below w.heap.size w w') (V2 : ∀ w, Calls Tryz.prog 29 #[.int .i64 2] w fun xe w' => xe = .returned (fracV tw) ∧ Below w.heap.size w w') (KT : World → Prop) (hKT : Keeps KT) (B1 : ∀ w, KT w → Calls Tryz.prog 98 #[fracV tw, .int .i64 0] w fun xe w' => xe = .returned (.string (ByteArray.mk #[49, 32, 50])) ∧ Below w.heap.size w w') (B2 : ∀ w, KT w → Calls Tryz.prog 98 #[fracV tw, .int .i64 3] w fun xe w' => xe = .returned (.string (ByteArray.mk #[49, 49, 47, 56, 32, 51, 47, 50])) ∧ Below w.heap.size w w') (B3 : ∀ w, KT w → Calls Tryz.prog 98 #[fracV qt, .int .i64 1] w fun xe w' => xe = .returned (.string (ByteArray.mk #[49, 47, 50, 32, 49, 47, 50])) ∧ Below w.heap.size w w') (B4 : ∀ w, KT w → Calls Tryz.prog 98 #[fracV qt, .int .i64 0] w fun xe w' => xe = .returned (.string (ByteArray.mk #[48, 32, 49])) ∧ Below w.heap.size w w') (V0 : ∀ w, Calls Tryz.prog 29 #[.int .i64 0] w fun xe w' => xe = .returned (fracV zr) ∧ Below w.heap.size w w') (B5 : ∀ w, KT w → Calls Tryz.prog 98 #[fracV zr, .int .i64 5] w fun xe w' => xe = .returned (.string (ByteArray.mk #[48, 32, 48])) ∧ Below w.heap.size w w') (F9 : ∀ w, Calls Tryz.prog 97 #[.int .i64 9, .int .i64 4] w fun xe w' => xe = .returned (fracV nn) ∧ Below w.heap.size w w') (X1 : ∀ w, Calls Tryz.prog 43 #[fracV nn] w fun xe w' => xe = .returned (.tuple #[fracV ra, .bool true]) ∧ Below w.heap.size w w') (X2 : ∀ w, Calls Tryz.prog 43 #[fracV tw] w fun xe w' => xe = .returned (.tuple #[fracV rb, .bool false]) ∧ Below w.heap.size w w') (X3 : ∀ w, Calls Tryz.prog 43 #[fracV zr] w fun xe w' => xe = .returned (.tuple #[fracV rc, .bool true]) ∧ Below w.heap.size w w') (V4 : ∀ w, Calls Tryz.prog 29 #[.int .i64 (-4)] w fun xe w' => xe = .returned (fracV mf) ∧ Below w.heap.size w w') (X4 : ∀ w, Calls Tryz.prog 43 #[fracV mf] w fun xe w' => xe = .returned (.tuple #[fracV rd, .bool false]) ∧ Below w.heap.size w w') (T1 : ∀ w, KT w → Calls Tryz.prog 99 #[fracV ra, .string (ByteArray.mk #[51, 47, 50])] w fun xe w' => xe = .returned (.bool true) ∧ Below w.heap.size w w') (T2 : ∀ w, KT w → Calls Tryz.prog 99 #[fracV rc, .string (ByteArray.mk #[48])] w fun xe w' => xe = .returned (.bool true) ∧ Below w.heap.size w w') (O10 : ∀ w, Calls Tryz.prog 100 #[.int .i64 1, .int .i64 0, .slice none 0 0] w fun xe w' => xe = .returned (.int .i64 1) ∧ Below w.heap.size w w') (O11_4 : ∀ (g : Nat) (w : World), Hd w g [.int .i64 4] → Calls Tryz.prog 100 #[.int .i64 1, .int .i64 1, .slice (some ⟨g, 0, none⟩) 1 1] w fun xe w' => xe = .returned (.int .i64 0) ∧ Below w.heap.size w w') (O23_5 : ∀ (g : Nat) (w : World), Hd w g [.int .i64 5] → Calls Tryz.prog 100 #[.int .i64 2, .int .i64 3, .slice (some ⟨g, 0, none⟩) 1 1] w fun xe w' => xe = .returned (.int .i64 1) ∧ Below w.heap.size w w') (O23_10 : ∀ (g : Nat) (w : World), Hd w g [.int .i64 10] → Calls Tryz.prog 100 #[.int .i64 2, .int .i64 3, .slice (some ⟨g, 0, none⟩) 1 1] w fun xe w' => xe = .returned (.int .i64 (-1)) ∧ Below w.heap.size w w') (O22_8 : ∀ (g : Nat) (w : World), Hd w g [.int .i64 8] → Calls Tryz.prog 100 #[.int .i64 2, .int .i64 2, .slice (some ⟨g, 0, none⟩) 1 1] w fun xe w' => xe = .returned (.int .i64 0) ∧ Below w.heap.size w w') (w : World) (kKT : KT w) :
  Calls Tryz.prog 35 #[] w fun xe w' => xe = .returned (.bool true) ∧ Below w.heap.size w w' := by
 have hL0 : GL w w [] := GL.start w
 replace F4 := Lib.hid F4
 replace V2 := Lib.hid V2
 replace hKT := Lib.hid hKT
 replace B1 := Lib.hid B1
 replace B2 := Lib.hid B2
 replace B3 := Lib.hid B3
 replace B4 := Lib.hid B4
 replace V0 := Lib.hid V0
 replace B5 := Lib.hid B5
 replace F9 := Lib.hid F9
 replace X1 := Lib.hid X1
 replace X2 := Lib.hid X2
 replace X3 := Lib.hid X3
 replace V4 := Lib.hid V4
 replace X4 := Lib.hid X4
 replace T1 := Lib.hid T1
 replace T2 := Lib.hid T2
 replace O10 := Lib.hid O10
 replace O11_4 := Lib.hid O11_4
 replace O23_5 := Lib.hid O23_5
 replace O23_10 := Lib.hid O23_10
 replace O22_8 := Lib.hid O22_8
 go_enter Tryz.func35, Tryz.ntmps35
 go_wp2_with fail
 with_reducible refine Calls.mono (F4.out _) ?_
 rintro e x1 ⟨rfl, hb⟩
 replace hL0 := hL0.call hb
 clear hb
 replace hL0 := (hL0.new rfl [.int .u64 ((zl qt.num : Nat) : Int), .string (zh qt.num), .bool (zs qt.num), .int .u64 ((lo (fe qt) : Nat) : Int), .string (hs (fe qt))] 34)
 generalize hweq : (x1.alloc (.cells #[.int .u64 ((zl qt.num : Nat) : Int), .string (zh qt.num), .bool (zs qt.num), .int .u64 ((lo (fe qt) : Nat) : Int), .string (hs (fe qt))] 34)) = x2 at hL0
 go_wp2_with fail
 with_reducible refine Calls.mono (V2.out _) ?_
 rintro e x3 ⟨rfl, hb⟩
 replace hL0 := hL0.call hb
 clear hb hweq
 go_wp2_with fail
 with_reducible refine Calls.mono (B1.out _ (hKT.out.at hL0.bl kKT)) ?_
 rintro e x4 ⟨rfl, hb⟩
 replace hL0 := hL0.call hb
 clear hb
 go_wp2_with fail
 with_reducible refine Calls.mono (V2.out _) ?_
 rintro e x5 ⟨rfl, hb⟩
 replace hL0 := hL0.call hb
 clear hb
 go_wp2_with fail
 with_reducible refine Calls.mono (B2.out _ (hKT.out.at hL0.bl kKT)) ?_
 rintro e x6 ⟨rfl, hb⟩
 replace hL0 := hL0.call hb
 clear hb
 have hN0 := cells_of _ 0 [] rfl (hL0.get _ _ List.mem_cons_self)
 simp only [cellsF, and_true, Nat.zero_add, Nat.reduceAdd] at hN0
 go_wp2_with fail
 clear hN0
 with_reducible refine Calls.mono (B3.out _ (hKT.out.at hL0.bl kKT)) ?_
 rintro e x7 ⟨rfl, hb⟩
 replace hL0 := hL0.call hb
 clear hb
 have hN0 := cells_of _ 0 [] rfl (hL0.get _ _ List.mem_cons_self)
 simp only [cellsF, and_true, Nat.zero_add, Nat.reduceAdd] at hN0
 go_wp2_with fail
 clear hN0
 with_reducible refine Calls.mono (B4.out _ (hKT.out.at hL0.bl kKT)) ?_
 rintro e x8 ⟨rfl, hb⟩
 replace hL0 := hL0.call hb
 clear hb
 go_wp2_with fail
 with_reducible refine Calls.mono (V0.out _) ?_
 rintro e x9 ⟨rfl, hb⟩
 replace hL0 := hL0.call hb
 clear hb
 go_wp2_with fail
 with_reducible refine Calls.mono (B5.out _ (hKT.out.at hL0.bl kKT)) ?_
 rintro e x10 ⟨rfl, hb⟩
 replace hL0 := hL0.call hb
 clear hb
 go_wp2_with fail
 with_reducible refine Calls.mono (F9.out _) ?_
 rintro e x11 ⟨rfl, hb⟩
 replace hL0 := hL0.call hb
 clear hb
 go_wp2_with fail
 with_reducible refine Calls.mono (X1.out _) ?_
 rintro e x12 ⟨rfl, hb⟩
 replace hL0 := hL0.call hb
 clear hb
 replace hL0 := (hL0.new rfl [.int .u64 ((zl ra.num : Nat) : Int), .string (zh ra.num), .bool (zs ra.num), .int .u64 ((lo (fe ra) : Nat) : Int), .string (hs (fe ra))] 34)
 generalize hweq : (x12.alloc (.cells #[.int .u64 ((zl ra.num : Nat) : Int), .string (zh ra.num), .bool (zs ra.num), .int .u64 ((lo (fe ra) : Nat) : Int), .string (hs (fe ra))] 34)) = x13 at hL0
 go_wp2_with fail
 with_reducible refine Calls.mono (V2.out _) ?_
 rintro e x14 ⟨rfl, hb⟩
 replace hL0 := hL0.call hb
 clear hb hweq
 go_wp2_with fail
 with_reducible refine Calls.mono (X2.out _) ?_
 rintro e x15 ⟨rfl, hb⟩
 replace hL0 := hL0.call hb
 clear hb
 replace hL0 := (hL0.new rfl [.int .u64 ((zl rb.num : Nat) : Int), .string (zh rb.num), .bool (zs rb.num), .int .u64 ((lo (fe rb) : Nat) : Int), .string (hs (fe rb))] 34)
 generalize hweq : (x15.alloc (.cells #[.int .u64 ((zl rb.num : Nat) : Int), .string (zh rb.num), .bool (zs rb.num), .int .u64 ((lo (fe rb) : Nat) : Int), .string (hs (fe rb))] 34)) = x16 at hL0
 go_wp2_with fail
 with_reducible refine Calls.mono (V0.out _) ?_
 rintro e x17 ⟨rfl, hb⟩
 replace hL0 := hL0.call hb
 clear hb hweq
 go_wp2_with fail
 with_reducible refine Calls.mono (X3.out _) ?_
 rintro e x18 ⟨rfl, hb⟩
 replace hL0 := hL0.call hb
 clear hb
 replace hL0 := (hL0.new rfl [.int .u64 ((zl rc.num : Nat) : Int), .string (zh rc.num), .bool (zs rc.num), .int .u64 ((lo (fe rc) : Nat) : Int), .string (hs (fe rc))] 34)
 generalize hweq : (x18.alloc (.cells #[.int .u64 ((zl rc.num : Nat) : Int), .string (zh rc.num), .bool (zs rc.num), .int .u64 ((lo (fe rc) : Nat) : Int), .string (hs (fe rc))] 34)) = x19 at hL0
 go_wp2_with fail
 with_reducible refine Calls.mono (V4.out _) ?_
 rintro e x20 ⟨rfl, hb⟩
 replace hL0 := hL0.call hb
 clear hb hweq
 go_wp2_with fail
 with_reducible refine Calls.mono (X4.out _) ?_
 rintro e x21 ⟨rfl, hb⟩
 replace hL0 := hL0.call hb
 clear hb
 replace hL0 := (hL0.new rfl [.int .u64 ((zl rd.num : Nat) : Int), .string (zh rd.num), .bool (zs rd.num), .int .u64 ((lo (fe rd) : Nat) : Int), .string (hs (fe rd))] 34)
 generalize hweq : (x21.alloc (.cells #[.int .u64 ((zl rd.num : Nat) : Int), .string (zh rd.num), .bool (zs rd.num), .int .u64 ((lo (fe rd) : Nat) : Int), .string (hs (fe rd))] 34)) = x22 at hL0
 have hN0 := cells_of _ 0 [] rfl (hL0.get _ _ (List.mem_cons_of_mem _ (List.mem_cons_of_mem _ (List.mem_cons_of_mem _ List.mem_cons_self))))
 simp only [cellsF, and_true, Nat.zero_add, Nat.reduceAdd] at hN0
 go_wp2_with fail
 clear hN0
 with_reducible refine Calls.mono (T1.out _ (hKT.out.at hL0.bl kKT)) ?_
 rintro e x23 ⟨rfl, hb⟩
 replace hL0 := hL0.call hb
 clear hb hweq
 have hN0 := cells_of _ 0 [] rfl (hL0.get _ _ (List.mem_cons_of_mem _ List.mem_cons_self))
 simp only [cellsF, and_true, Nat.zero_add, Nat.reduceAdd] at hN0
 go_wp2_with fail
 clear hN0
 with_reducible refine Calls.mono (T2.out _ (hKT.out.at hL0.bl kKT)) ?_
 rintro e x24 ⟨rfl, hb⟩
 replace hL0 := hL0.call hb
 clear hb
 replace hL0 := (hL0.new rfl [.int .i64 4] 2)
 generalize hweq : (x24.alloc (.cells #[.int .i64 4] 2)) = x25 at hL0
 go_wp2_with fail
 with_reducible refine Calls.mono (O11_4.out _ _ (hL0.get _ _ List.mem_cons_self)) ?_
 rintro e x26 ⟨rfl, hb⟩
 replace hL0 := hL0.call hb
 clear hb hweq
 replace hL0 := (hL0.new rfl [.int .i64 5] 2)
 generalize hweq : (x26.alloc (.cells #[.int .i64 5] 2)) = x27 at hL0
 go_wp2_with fail
 with_reducible refine Calls.mono (O23_5.out _ _ (hL0.get _ _ List.mem_cons_self)) ?_
 rintro e x28 ⟨rfl, hb⟩
 replace hL0 := hL0.call hb
 clear hb hweq
 replace hL0 := (hL0.new rfl [.int .i64 10] 2)
 generalize hweq : (x28.alloc (.cells #[.int .i64 10] 2)) = x29 at hL0
 go_wp2_with fail
 with_reducible refine Calls.mono (O23_10.out _ _ (hL0.get _ _ List.mem_cons_self)) ?_
 rintro e x30 ⟨rfl, hb⟩
 replace hL0 := hL0.call hb
 clear hb hweq
 go_wp2_with fail
 with_reducible refine Calls.mono (O10.out _) ?_
 rintro e x31 ⟨rfl, hb⟩
 replace hL0 := hL0.call hb
 clear hb
 replace hL0 := (hL0.new rfl [.int .i64 8] 2)
 generalize hweq : (x31.alloc (.cells #[.int .i64 8] 2)) = x32 at hL0
 go_wp2_with fail
 with_reducible refine Calls.mono (O22_8.out _ _ (hL0.get _ _ List.mem_cons_self)) ?_
 rintro e x33 ⟨rfl, hb⟩
 replace hL0 := hL0.call hb
 clear hb hweq
 go_wp2_with fail
 exact bodyPost_ret (v := .bool true) (by simp [results, Tryz.results35, go_sem]) rfl ⟨rfl, hL0.bl⟩
end Go.Proofs.YtdkjckiialnpnaaGreatDoor
namespace Go.Proofs.YtdkjckiialnpnaaGreatDoor
open Go.RowKit
/-- 2^p as a fraction, and its inverse. -/
def twoQ (p : Nat) : Rat := ((2 ^ p : Nat) : Rat)
def stepR (p : Nat) : Rat := 1 / twoQ p
theorem twoQ_pos (p : Nat) : 0 < twoQ p := by unfold twoQ; exact Rat.natCast_pos.2 (Nat.pow_pos (by decide))
theorem twoQ_ne (p : Nat) : twoQ p ≠ 0 := fun e => by have := twoQ_pos p; rw [e] at this; exact absurd this (by decide)
theorem stepR_pos (p : Nat) : 0 < stepR p := by unfold stepR; rw [Rat.div_def, Rat.one_mul]; exact Rat.inv_pos.2 (twoQ_pos p)
theorem stepR_mul (p : Nat) : stepR p * twoQ p = 1 := by unfold stepR; exact Rat.div_mul_cancel (twoQ_ne p)
/-- The integer below the root of x; the one that is not below it. -/
def rtL (x : Rat) : Nat := isq x.floor.natAbs
def rtH (x : Rat) : Nat := if ((rtL x : Nat) : Rat) * ((rtL x : Nat) : Rat) = x then rtL x else rtL x + 1
theorem floor_nn {x : Rat} (h : 0 ≤ x) : 0 ≤ x.floor := Rat.le_floor_iff.2 (by simpa using h)
theorem rtL_le {x : Rat} (h : 0 ≤ x) : ((rtL x : Nat) : Rat) * ((rtL x : Nat) : Rat) ≤ x := by
 have h1 := (isq_spec x.floor.natAbs).1
 have h2 : ((rtL x * rtL x : Nat) : Int) ≤ x.floor := by have := floor_nn h; unfold rtL; omega
 have h3 := Rat.intCast_le_intCast.2 h2
 refine Rat.le_trans ?_ (Rat.floor_le x)
 rw [← Rat.natCast_mul]
 exact h3
end Go.Proofs.YtdkjckiialnpnaaGreatDoor
namespace Go.Proofs.YtdkjckiialnpnaaGreatDoor
open Go.RowKit
def scaleR (p : Nat) (a : Rat) : Rat := a * (twoQ p * twoQ p)
/-- The greatest multiple of 2^-p that is at most the root of a; the least one that is at least it. -/
def below (p : Nat) (a : Rat) : Rat := ((rtL (scaleR p a) : Nat) : Rat) * stepR p
def above (p : Nat) (a : Rat) : Rat := ((rtH (scaleR p a) : Nat) : Rat) * stepR p
theorem scale_nn (p : Nat) {a : Rat} (h : 0 ≤ a) : 0 ≤ scaleR p a := Rat.mul_nonneg h (Rat.mul_nonneg (Rat.le_of_lt (twoQ_pos p)) (Rat.le_of_lt (twoQ_pos p)))
end Go.Proofs.YtdkjckiialnpnaaGreatDoor
namespace Go.Proofs.YtdkjckiialnpnaaGreatDoor
open Go.RowKit
/-- The only fraction that can be the root of q. -/
def rootQ (q : Rat) : Rat := mkRat (isq q.num.natAbs) (isq q.den)
theorem isq_sq (n : Nat) : isq (n * n) = n := (isq_uniq (Nat.le_refl _) (Nat.mul_lt_mul_of_lt_of_lt (Nat.lt_succ_self n) (Nat.lt_succ_self n))).symm
theorem isq_pos {n : Nat} (h : 0 < n) : 0 < isq n := by
 have := (isq_spec n).2
 rcases Nat.eq_zero_or_pos (isq n) with e | e
 ·rw [e] at this; omega
 ·exact e
theorem num_sq (s : Rat) : (s * s).num = s.num * s.num ∧ (s * s).den = s.den * s.den := by
 have hc : Nat.Coprime (s.num * s.num).natAbs (s.den * s.den) := by
  rw [Int.natAbs_mul]
  exact Nat.Coprime.mul_left (Nat.Coprime.mul_right s.reduced s.reduced) (Nat.Coprime.mul_right s.reduced s.reduced)
 have hg : Nat.gcd (s.num * s.num).natAbs (s.den * s.den) = 1 := hc
 rw [Rat.mul_def]
 refine ⟨?_, ?_⟩
 ·rw [Rat.normalize_eq]; simp only [hg]; simp
 ·rw [Rat.normalize_eq]; simp only [hg]; simp
theorem rootQ_sq (s : Rat) : rootQ (s * s) = absQ s := by
 obtain ⟨h1, h2⟩ := num_sq s
 unfold rootQ
 rw [h1, h2, Int.natAbs_mul, isq_sq, isq_sq]
 unfold absQ
 split
 ·rename_i h
  have hn : s.num < 0 := by
   rcases Int.lt_or_le s.num 0 with e | e
   ·exact e
   ·exact absurd (Rat.num_nonneg.1 e) (by grind)
  rw [show ((s.num.natAbs : Nat) : Int) = -s.num by omega, ← Rat.neg_mkRat, Rat.mkRat_self]
 ·rename_i h
  have hn : 0 ≤ s.num := Rat.num_nonneg.2 (by grind)
  rw [show ((s.num.natAbs : Nat) : Int) = s.num by omega, Rat.mkRat_self]
theorem abs_sq (s : Rat) : absQ s * absQ s = s * s := by unfold absQ; split <;> grind
theorem absQ_nn (s : Rat) : 0 ≤ absQ s := by unfold absQ; split <;> grind
/-- The root is found where there is one. -/
theorem rootQ_is {q s : Rat} (h : s * s = q) : rootQ q * rootQ q = q ∧ rootQ q = absQ s := by
 subst h
 exact ⟨by rw [rootQ_sq, abs_sq], rootQ_sq s⟩
end Go.Proofs.YtdkjckiialnpnaaGreatDoor
namespace Go.Proofs.YtdkjckiialnpnaaGreatDoor
open Go.RowKit
theorem floor_d {q : Rat} {k : Nat} (h : Sz q k) : dI q.floor ≤ k := by rw [rfloor]; exact Nat.le_trans (dI_mono (Int.natAbs_ediv_le_natAbs _ _)) h.1
theorem two_d {p : Nat} (h : p ≤ 100) : (digs (2 ^ p)).length ≤ 2 := by
 refine digs_length_iff.2 (Nat.lt_of_le_of_lt (Nat.pow_le_pow_right (by decide) h) ?_)
 unfold Bs; decide +kernel
theorem nat_sz {n k : Nat} (h : (digs n).length ≤ k) (hk : 0 < k) : Sz ((n : Nat) : Rat) k := Sz.int (z := ((n : Nat) : Int)) (by rw [dI_nat]; exact h) hk
theorem two_sz {p : Nat} (h : p ≤ 100) : Sz (twoQ p) 2 := nat_sz (two_d h) (by decide)
theorem isq_le (n : Nat) : isq n ≤ n := Nat.le_trans (Nat.le_mul_self _) (isq_spec n).1
theorem rtL_d {x : Rat} {k : Nat} (h : Sz x k) : (digs (rtL x)).length ≤ k := by
 unfold rtL
 exact Nat.le_trans (digs_mono (isq_le _)) (floor_d h)
theorem rtH_d {x : Rat} {k : Nat} (h : Sz x k) : (digs (rtH x)).length ≤ k + 1 := by
 have h1 := dI_add (x := ((rtL x : Nat) : Int)) (y := 1) (k := k + 1) (by rw [dI_nat]; exact Nat.le_trans (rtL_d h) (by omega)) (Nat.le_trans (dI_lit (by decide)) (by omega))
 unfold rtH
 split
 ·exact Nat.le_trans (rtL_d h) (by omega)
 ·have h2 := digs_length_iff.1 (rtL_d h)
  refine digs_length_iff.2 ?_
  have h3 : Bs ^ k < Bs ^ (k + 1) := Nat.pow_lt_pow_right (by unfold Bs; decide) (by omega)
  omega
theorem scale_sz {a : Rat} {k p : Nat} (h : Sz a k) (hp : p ≤ 100) : Sz (scaleR p a) (k + 4) := by
 unfold scaleR
 exact h.mul ((two_sz hp).mul (two_sz hp))
theorem below_eq (p : Nat) (a : Rat) : below p a = ((rtL (scaleR p a) : Nat) : Rat) / twoQ p := by unfold below stepR; rw [Rat.div_def, Rat.div_def, Rat.one_mul]
theorem above_eq (p : Nat) (a : Rat) : above p a = ((rtH (scaleR p a) : Nat) : Rat) / twoQ p := by unfold above stepR; rw [Rat.div_def, Rat.div_def, Rat.one_mul]
theorem below_sz {a : Rat} {k p : Nat} (h : Sz a k) (hp : p ≤ 100) : Sz (below p a) (k + 6) := by
 rw [below_eq]
 exact (nat_sz (rtL_d (scale_sz h hp)) (by omega)).div (two_sz hp) (twoQ_ne p)
theorem above_sz {a : Rat} {k p : Nat} (h : Sz a k) (hp : p ≤ 100) : Sz (above p a) (k + 7) := by
 rw [above_eq]
 exact (nat_sz (rtH_d (scale_sz h hp)) (by omega)).div (two_sz hp) (twoQ_ne p)
theorem rootQ_sz {q : Rat} {k : Nat} (h : Sz q k) : Sz (rootQ q) k := by
 unfold rootQ
 refine Sz.mk ?_ (Nat.le_trans (digs_mono (isq_le _)) h.2) (Nat.pos_iff_ne_zero.1 (isq_pos q.den_pos))
 rw [dI_nat]
 exact Nat.le_trans (digs_mono (isq_le _)) h.1
end Go.Proofs.YtdkjckiialnpnaaGreatDoor
namespace Go.Proofs.YtdkjckiialnpnaaGreatDoor
open Go.RowKit
theorem frV_q0' : fracV 0 = .agg #[.int .u64 0, .string ⟨#[]⟩, .bool false, .int .u64 0, .string ⟨#[]⟩] := frV_00
theorem two_o (w : World) : Calls Tryz.prog 63 #[.int .u64 2] w fun e w' => e = .returned (natV 2) ∧ Below w.heap.size w w' := of_val 2 2 rfl (by unfold Bs; omega) w
theorem nb_two : nb 2 ≤ 2 := by
 obtain ⟨k, h1, h2, -⟩ := nb_spec (n := 2) (by decide)
 rw [h1]
 rcases Nat.lt_or_ge k 2 with g | g
 ·omega
 ·exfalso
  have := Nat.pow_le_pow_right (show 0 < 2 by omega) g
  omega
theorem twosR (n : Nat) (h : n ≤ 100) (w : World) : Calls Tryz.prog 172 #[.int .i64 (n : Int)] w fun e w' => e = .returned (natV (2 ^ n)) ∧ Below w.heap.size w w' :=
 twos_w n 0 (2 ^ n) two_o (fun w => pow_ok 2 n (by omega) (by
  rcases Nat.eq_zero_or_pos n with g | g
  ·exact .inl g
  ·refine .inr (Nat.le_trans nb_two ((Nat.le_div_iff_mul_le g).2 (by omega)))) (by have := two_d (p := 1) (by omega); exact Nat.le_trans this (by omega)) w) w
theorem rwholeR (n : Nat) (w : World) : Calls Tryz.prog 112 #[natV n] w fun e w' => e = .returned (intV (n : Int)) ∧ Below w.heap.size w w' := rwhole_w n n (fun w => fromI false n n rfl w) w
theorem fractionR (n : Nat) (hl : (digs n).length ≤ 100000) (w : World) : Calls Tryz.prog 173 #[natV n] w fun e w' => e = .returned (fracV (n : Rat)) ∧ Below w.heap.size w w' := by
 have h := fun w => fromF (n : Int) 1 (by omega) (by rw [dI_nat]; omega) (by have := two_d (p := 0) (by omega); exact Nat.le_trans this (by omega)) w
 rw [show mkRat (n : Int) 1 = (n : Rat) by first | (rw [Rat.mkRat_one]; exact Rat.intCast_natCast n) | (rw [Rat.mkRat_one]; rfl) | (rw [Rat.mkRat_eq_div]; simp)] at h
 exact fraction_w n n 0 (n : Rat) (rwholeR n) one_o h w
theorem sqrtR (a : Nat) (hl : (digs a).length ≤ 1000000000) (w : World) : Calls Tryz.prog 113 #[natV a] w fun e w' => e = .returned (natV (isq a)) ∧ Below w.heap.size w w' := by
 rcases Nat.eq_zero_or_pos a with rfl | g
 ·exact sqrt_zero w
 ·exact sqrt_pos a g hl w
theorem rdownR (q : Rat) (k : Nat) (hq : Sz q k) (hk : k ≤ 10000) (w : World) : Calls Tryz.prog 102 #[fracV q] w fun e w' => e = .returned (natV (rtL q)) ∧ Below w.heap.size w w' :=
 rdown_w q q.floor q.floor.natAbs (rtL q) (floorF q k hq (by omega)) (absI _) (sqrtR _ (Nat.le_trans (floor_d hq) (by omega))) w
theorem rupR (q : Rat) (k : Nat) (hq : Sz q k) (hk : k ≤ 10000) (w : World) : Calls Tryz.prog 103 #[fracV q] w fun e w' => e = .returned (natV (rtH q)) ∧ Below w.heap.size w w' := by
 have hd := rtL_d hq
 have HQ := fun w => squareF (rtL q : Rat) (k + 1) (nat_sz (Nat.le_trans hd (by omega)) (by omega)) (by omega) w
 by_cases h : ((rtL q : Nat) : Rat) * ((rtL q : Nat) : Rat) = q
 ·rw [h] at HQ
  have e : rtH q = rtL q := by unfold rtH; rw [if_pos h]
  rw [e]
  exact rup_same q (rtL q : Rat) (rtL q) (rdownR q k hq hk) (fractionR _ (by omega)) HQ w
 ·have e : rtH q = rtL q + 1 := by unfold rtH; rw [if_neg h]
  rw [e]
  exact rup_next q (rtL q : Rat) _ (rtL q) (rtL q + 1) (rdownR q k hq hk) (fractionR _ (by omega)) HQ one_o (fun w => add_any (rtL q) 1 (by omega) (by have := two_d (p := 0) (by omega); exact Nat.le_trans this (by omega)) w) h w
/-- What the functions that bound a root answer. -/
def rtC (n : Int) (a : Rat) : Int := if n < 0 then 1 else if 100 < n then 3 else if a < 0 then 1 else 0
def rtV (r : Nat → Rat → Rat) (n : Int) (a : Rat) : Rat := if rtC n a = 0 then r n.toNat a else 0
theorem rtC_cases (n : Int) (a : Rat) : (n < 0 ∧ rtC n a = 1) ∨ (0 ≤ n ∧ 100 < n ∧ rtC n a = 3) ∨ (0 ≤ n ∧ n ≤ 100 ∧ a < 0 ∧ rtC n a = 1) ∨ (0 ≤ n ∧ n ≤ 100 ∧ 0 ≤ a ∧ rtC n a = 0) := by
 unfold rtC
 by_cases h1 : n < 0
 ·exact .inl ⟨h1, if_pos h1⟩
 ·rw [if_neg h1]
  by_cases h2 : 100 < n
  ·exact .inr (.inl ⟨by omega, h2, if_pos h2⟩)
  ·rw [if_neg h2]
   by_cases h3 : a < 0
   ·exact .inr (.inr (.inl ⟨by omega, by omega, h3, if_pos h3⟩))
   ·exact .inr (.inr (.inr ⟨by omega, by omega, by grind, if_neg h3⟩))
theorem sgn_neg' {a : Rat} : decide (sgnQ a < 0) = decide (a < 0) := by
 rw [dec_sgnQ]
 have := num_neg_iff a
 by_cases h : a < 0
 ·rw [decide_eq_true h, decide_eq_true (this.2 h)]
 ·rw [decide_eq_false h, decide_eq_false (fun g => h (this.1 g))]
theorem rounded_down (a : Rat) (n : Int) (k : Nat) (ha : Sz a k) (hk : k ≤ 1000) (w : World) :
  Calls Tryz.prog 101 #[fracV a, .int .i64 n, .func (.func 102) #[] #[]] w fun e w' => e = .returned (.tuple #[fracV (rtV below n a), .int .i64 (rtC n a)]) ∧ Below w.heap.size w w' := by
 rcases rtC_cases n a with ⟨h1, hc⟩ | ⟨h0, h1, hc⟩ | ⟨h0, h1, h2, hc⟩ | ⟨h0, h1, h2, hc⟩
 ·have e : rtV below n a = 0 := by unfold rtV; rw [if_neg (by omega)]
  have := rnd_neg_down a n (decide_eq_true h1) w
  rw [hc, e, frV_q0']; exact this
 ·have e : rtV below n a = 0 := by unfold rtV; rw [if_neg (by omega)]
  have := rnd_big_down a n (decide_eq_false (by omega)) (decide_eq_true h1) w
  rw [hc, e, frV_q0']; exact this
 ·have e : rtV below n a = 0 := by unfold rtV; rw [if_neg (by omega)]
  have := rnd_sgn_down a n (sgnQ a) (signF a) (decide_eq_false (by omega)) (decide_eq_false (by omega)) (by rw [sgn_neg']; exact decide_eq_true h2) w
  rw [hc, e, frV_q0']; exact this
 ·obtain ⟨p, rfl⟩ : ∃ p : Nat, n = (p : Int) := ⟨n.toNat, by omega⟩
  have hp : p ≤ 100 := by omega
  have e : rtV below (p : Int) a = below p a := by unfold rtV; rw [if_pos hc, Int.toNat_natCast]
  have hs := scale_sz ha hp
  have hd := rtL_d hs
  have d2 := two_d hp
  have HR := fun w => fromF ((rtL (scaleR p a) : Nat) : Int) (2 ^ p) (Nat.pos_iff_ne_zero.1 (Nat.two_pow_pos p)) (by rw [dI_nat]; omega) (by omega) w
  rw [show mkRat ((rtL (scaleR p a) : Nat) : Int) (2 ^ p) = below p a by rw [below_eq, Rat.mkRat_eq_div]; show ((((rtL (scaleR p a) : Nat) : Int)) : Rat) / _ = _; rw [Rat.intCast_natCast]; rfl] at HR
  have HM := fun w => mul_any (2 ^ p) (2 ^ p) (by omega) (by omega) w
  have HF := fun w => fractionR (2 ^ p * 2 ^ p) (Nat.le_trans (digs_mul_le d2 d2) (by omega)) w
  have HP := fun w => mulF a ((2 ^ p * 2 ^ p : Nat) : Rat) (k + 4) (ha.mono (by omega)) (nat_sz (Nat.le_trans (digs_mul_le d2 d2) (by omega)) (by omega)) (by omega) w
  rw [show a * ((2 ^ p * 2 ^ p : Nat) : Rat) = scaleR p a by unfold scaleR twoQ; rw [Rat.natCast_mul]] at HP
  rw [hc, e]
  exact rnd_ok_down a _ (scaleR p a) (below p a) p (sgnQ a) _ 0 (2 ^ p) (2 ^ p * 2 ^ p) (rtL (scaleR p a)) (signF a) (twosR p hp) HM HF HP (rdownR _ _ hs (by omega)) (rwholeR _) HR (decide_eq_false (by omega)) (decide_eq_false (by omega)) (by rw [sgn_neg']; exact decide_eq_false (by grind)) w
theorem rounded_up (a : Rat) (n : Int) (k : Nat) (ha : Sz a k) (hk : k ≤ 1000) (w : World) :
  Calls Tryz.prog 101 #[fracV a, .int .i64 n, .func (.func 103) #[] #[]] w fun e w' => e = .returned (.tuple #[fracV (rtV above n a), .int .i64 (rtC n a)]) ∧ Below w.heap.size w w' := by
 rcases rtC_cases n a with ⟨h1, hc⟩ | ⟨h0, h1, hc⟩ | ⟨h0, h1, h2, hc⟩ | ⟨h0, h1, h2, hc⟩
 ·have e : rtV above n a = 0 := by unfold rtV; rw [if_neg (by omega)]
  have := rnd_neg_up a n (decide_eq_true h1) w
  rw [hc, e, frV_q0']; exact this
 ·have e : rtV above n a = 0 := by unfold rtV; rw [if_neg (by omega)]
  have := rnd_big_up a n (decide_eq_false (by omega)) (decide_eq_true h1) w
  rw [hc, e, frV_q0']; exact this
 ·have e : rtV above n a = 0 := by unfold rtV; rw [if_neg (by omega)]
  have := rnd_sgn_up a n (sgnQ a) (signF a) (decide_eq_false (by omega)) (decide_eq_false (by omega)) (by rw [sgn_neg']; exact decide_eq_true h2) w
  rw [hc, e, frV_q0']; exact this
 ·obtain ⟨p, rfl⟩ : ∃ p : Nat, n = (p : Int) := ⟨n.toNat, by omega⟩
  have hp : p ≤ 100 := by omega
  have e : rtV above (p : Int) a = above p a := by unfold rtV; rw [if_pos hc, Int.toNat_natCast]
  have hs := scale_sz ha hp
  have hd := rtH_d hs
  have d2 := two_d hp
  have HR := fun w => fromF ((rtH (scaleR p a) : Nat) : Int) (2 ^ p) (Nat.pos_iff_ne_zero.1 (Nat.two_pow_pos p)) (by rw [dI_nat]; omega) (by omega) w
  rw [show mkRat ((rtH (scaleR p a) : Nat) : Int) (2 ^ p) = above p a by rw [above_eq, Rat.mkRat_eq_div]; show ((((rtH (scaleR p a) : Nat) : Int)) : Rat) / _ = _; rw [Rat.intCast_natCast]; rfl] at HR
  have HM := fun w => mul_any (2 ^ p) (2 ^ p) (by omega) (by omega) w
  have HF := fun w => fractionR (2 ^ p * 2 ^ p) (Nat.le_trans (digs_mul_le d2 d2) (by omega)) w
  have HP := fun w => mulF a ((2 ^ p * 2 ^ p : Nat) : Rat) (k + 4) (ha.mono (by omega)) (nat_sz (Nat.le_trans (digs_mul_le d2 d2) (by omega)) (by omega)) (by omega) w
  rw [show a * ((2 ^ p * 2 ^ p : Nat) : Rat) = scaleR p a by unfold scaleR twoQ; rw [Rat.natCast_mul]] at HP
  rw [hc, e]
  exact rnd_ok_up a _ (scaleR p a) (above p a) p (sgnQ a) _ 0 (2 ^ p) (2 ^ p * 2 ^ p) (rtH (scaleR p a)) (signF a) (twosR p hp) HM HF HP (rupR _ _ hs (by omega)) (rwholeR _) HR (decide_eq_false (by omega)) (decide_eq_false (by omega)) (by rw [sgn_neg']; exact decide_eq_false (by grind)) w
theorem belowR (a : Rat) (n : Int) (k : Nat) (ha : Sz a k) (hk : k ≤ 1000) (w : World) :
  Calls Tryz.prog 36 #[fracV a, .int .i64 n] w fun e w' => e = .returned (.tuple #[fracV (rtV below n a), .int .i64 (rtC n a)]) ∧ Below w.heap.size w w' := below_w a _ n _ (rounded_down a n k ha hk) w
theorem aboveR (a : Rat) (n : Int) (k : Nat) (ha : Sz a k) (hk : k ≤ 1000) (w : World) :
  Calls Tryz.prog 37 #[fracV a, .int .i64 n] w fun e w' => e = .returned (.tuple #[fracV (rtV above n a), .int .i64 (rtC n a)]) ∧ Below w.heap.size w w' := above_w a _ n _ (rounded_up a n k ha hk) w
theorem rtV_ok (r : Nat → Rat → Rat) {p : Nat} {a : Rat} (hp : p ≤ 100) (ha : 0 ≤ a) : rtV r (p : Int) a = r p a ∧ rtC (p : Int) a = 0 := by
 have h : rtC (p : Int) a = 0 := by unfold rtC; rw [if_neg (by omega), if_neg (by omega), if_neg (by grind)]
 exact ⟨by unfold rtV; rw [if_pos h, Int.toNat_natCast], h⟩
/-- What Exact answers. -/
def exB (q : Rat) : Bool := decide (rootQ q * rootQ q = q)
def exV (q : Rat) : Rat := if rootQ q * rootQ q = q then rootQ q else 0
theorem exactR (q : Rat) (k : Nat) (hq : Sz q k) (hk : k ≤ 1000) (w : World) :
  Calls Tryz.prog 43 #[fracV q] w fun e w' => e = .returned (.tuple #[fracV (exV q), .bool (exB q)]) ∧ Below w.heap.size w w' := by
 have hn := hq.n
 have hd := hq.d
 have h1 : (digs (isq q.num.natAbs)).length ≤ k := Nat.le_trans (digs_mono (isq_le _)) hn
 have h2 : (digs (isq q.den)).length ≤ k := Nat.le_trans (digs_mono (isq_le _)) hd
 have hF := fun w => fromF ((isq q.num.natAbs : Nat) : Int) (isq q.den) (Nat.pos_iff_ne_zero.1 (isq_pos q.den_pos)) (by rw [dI_nat]; omega) (by omega) w
 rw [show mkRat ((isq q.num.natAbs : Nat) : Int) (isq q.den) = rootQ q from rfl] at hF
 have hQ := fun w => squareF (rootQ q) k (rootQ_sz hq) (by omega) w
 have hS := fun w => sqrtR q.num.natAbs (Nat.le_trans hn (by omega)) w
 have hE := fun w => sqrtR q.den (by omega) w
 by_cases h : rootQ q * rootQ q = q
 ·rw [show exV q = rootQ q by unfold exV; rw [if_pos h], show exB q = true from decide_eq_true h]
  rw [h] at hQ
  exact exact_yes q (rootQ q) q.num _ 0 _ _ _ _ (numF q) (absI q.num) hS (rwholeR _) (denF q) hE hF hQ w
 ·rw [show exV q = 0 by unfold exV; rw [if_neg h], show exB q = false from decide_eq_false h, frV_q0']
  exact exact_no q (rootQ q) _ q.num _ 0 _ _ _ _ (numF q) (absI q.num) hS (rwholeR _) (denF q) hE hF hQ h w
end Go.Proofs.YtdkjckiialnpnaaGreatDoor
namespace Go.Proofs.YtdkjckiialnpnaaGreatDoor
open Go.RowKit
attribute [local irreducible] lo hs sm s64 c64 d64 b64 mh ml pd pc qd qc val hiB str cmpI srD lz nb isq zl zh zs fe
theorem GL.join {w x y : World} {L M : List (Nat × List Value)} (h : GL w x L) (g : GL x y M) : GL w y (M ++ L) := by
 have h2 := h.call g.bl
 refine ⟨h2.bl, fun p hp => ?_, ?_⟩
 ·rcases List.mem_append.1 hp with hp | hp
  ·exact ⟨Nat.le_trans h.bl.size (g.all p hp).1, (g.all p hp).2⟩
  ·exact h2.all p hp
 ·rw [List.map_append, List.nodup_append]
  refine ⟨g.nd, h.nd, fun a ha b hb => ?_⟩
  obtain ⟨p, hp, rfl⟩ := List.mem_map.1 ha
  obtain ⟨q, hq, rfl⟩ := List.mem_map.1 hb
  have h3 := (g.all p hp).1
  have h4 := (h.all q hq).2.lt
  omega
theorem zero_cells : ([.int .u64 ((zl ((0 : Rat)).num : Nat) : Int), .string (zh ((0 : Rat)).num), .bool (zs ((0 : Rat)).num), .int .u64 ((lo (fe (0 : Rat)) : Nat) : Int), .string (hs (fe (0 : Rat)))] : List Value) = ([.int .u64 0, .string ⟨#[]⟩, .bool false, .int .u64 0, .string ⟨#[]⟩] : List Value) := by
 rw [fe_zero, (show (0 : Rat).num = 0 from rfl), (z0).1, (z0).2.1, (z0).2.2, lo_small Bs_pos, hs_small Bs_pos]; rfl
/-- The sum, from the left. -/
def qsum (l : List Rat) : Rat := l.foldl (· + ·) 0
theorem qsum_snoc (l : List Rat) (a : Rat) : qsum (l ++ [a]) = qsum l + a := by unfold qsum; rw [List.foldl_append]; rfl
theorem qsum_sz {k : Nat} : ∀ (l : List Rat) (m : Nat) (s : Rat), Sz s m → (∀ q ∈ l, Sz q k) → Sz (l.foldl (· + ·) s) (m + l.length * (k + 1)) := by
 intro l
 induction l with
 | nil => intro m s hs _; simpa using hs
 | cons a l ih =>
  intro m s hs hl
  have h := ih (m + k + 1) (s + a) (hs.add (hl a (by simp))) (fun q hq => hl q (by simp [hq]))
  rw [List.foldl_cons, List.length_cons, Nat.succ_mul]
  exact h.mono (by omega)
set_option maxHeartbeats 4000000 in
set_option maxRecDepth 100000 in
theorem total_add (w0 : World) (t : Nat) (q a r : Rat) (HA : RT 33 #[fracV q, fracV a] (fracV r)) (w : World) (hL0 : GL w0 w [(t, [.int .u64 ((zl q.num : Nat) : Int), .string (zh q.num), .bool (zs q.num), .int .u64 ((lo (fe q) : Nat) : Int), .string (hs (fe q))])]) :
  Calls Tryz.prog 116 #[.pointer (some ⟨t, 0, none⟩), fracV a] w fun xe w' => xe = .returned (.tuple #[]) ∧ GL w0 w' [(t, [.int .u64 ((zl r.num : Nat) : Int), .string (zh r.num), .bool (zs r.num), .int .u64 ((lo (fe r) : Nat) : Int), .string (hs (fe r))])] := by
 replace HA := Lib.hid HA
 replace hL0 := (hL0.new rfl [.int .u64 ((zl a.num : Nat) : Int), .string (zh a.num), .bool (zs a.num), .int .u64 ((lo (fe a) : Nat) : Int), .string (hs (fe a))] 34)
 generalize hweq : (w.alloc (.cells #[.int .u64 ((zl a.num : Nat) : Int), .string (zh a.num), .bool (zs a.num), .int .u64 ((lo (fe a) : Nat) : Int), .string (hs (fe a))] 34)) = x1 at hL0
 go_enter Tryz.func116, Tryz.ntmps116
 go_upto_region 1 with fail
 clear hweq
 obtain ⟨α, iα, F, hF1, hF2⟩ := cls x1
 have hq0 := cls_box hF1 hL0 _ _ List.mem_cons_self
 simp only [cellsC, and_true, Nat.zero_add, Nat.reduceAdd] at hq0
 have hq1 := cls_box hF1 hL0 _ _ (List.mem_cons_of_mem _ List.mem_cons_self)
 simp only [cellsC, and_true, Nat.zero_add, Nat.reduceAdd] at hq1
 refine region_qs 9 (C := fun w' => ∃ x, w' = F x) (by kernel_rfl) (by kernel_rfl) (cls_drew hF2) ?_
 simp only [List.take_succ_cons, List.take_zero, List.drop_succ_cons, List.drop_zero, List.take_nil, List.drop_nil]
 repeat (go_big_quiet_step (first | fail | (go_at_call 33; with_reducible exact cls_call hF1 hF2 HA.out _)))
 refine wpQuiet_nil ?_
 rintro wq ⟨xq, rfl⟩
 replace hL0 := hL0.call (hF1 xq)
 clear  hq0 hq1 hF2
 generalize F xq = x2 at hL0 ⊢
 clear hF1 xq iα F α
 have hA := hL0.fc
 simp only [fcG, cellsF, neK, and_true, ne_eq, Nat.zero_add, Nat.reduceAdd] at hA
 have hP := hL0.put 1 (t) _ rfl [.int .u64 ((zl r.num : Nat) : Int), .string (zh r.num), .bool (zs r.num), .int .u64 ((lo (fe r) : Nat) : Int), .string (hs (fe r))] rfl
 simp only [setAll, List.set_cons_zero, List.set_cons_succ] at hP
 generalize hput1 : (((((x2.setCell ⟨t, 0, none⟩ (.int .u64 ((zl r.num : Nat) : Int))).setCell ⟨t, 1, none⟩ (.string (zh r.num))).setCell ⟨t, 2, none⟩ (.bool (zs r.num))).setCell ⟨t, 3, none⟩ (.int .u64 ((lo (fe r) : Nat) : Int))).setCell ⟨t, 4, none⟩ (.string (hs (fe r)))) = x3 at hP
 have hB1 := hP.fc
 simp only [fcG, cellsF, neK, and_true, ne_eq, Nat.zero_add, Nat.reduceAdd] at hB1
 replace hL0 := hP
 go_wp2_with fail
 go_end0
 exact ⟨rfl, hL0.weak (List.Sublist.cons _ (List.Sublist.refl _))⟩
set_option maxHeartbeats 4000000 in
set_option maxRecDepth 100000 in
theorem each_add (w0 : World) (t : Nat) (ao : Option Addr) (n c : Nat) (qs : List Rat) (q : Rat) (hq0 : q = 0) (hn : (0 < n → ∃ g, ao = some ⟨g, 0, none⟩ ∧ FS w0 g qs) ∧ qs.length = n ∧ n ≤ 1000000)
  (HA : ∀ (q a : Rat) (i : Nat), a ∈ qs → q = qsum (qs.take i) → ∀ w, GL w0 w [(t, [.int .u64 ((zl q.num : Nat) : Int), .string (zh q.num), .bool (zs q.num), .int .u64 ((lo (fe q) : Nat) : Int), .string (hs (fe q))])] → Calls Tryz.prog 116 #[.pointer (some ⟨t, 0, none⟩), fracV a] w fun xe w' => xe = .returned (.tuple #[]) ∧ GL w0 w' [(t, [.int .u64 ((zl (q + a).num : Nat) : Int), .string (zh (q + a).num), .bool (zs (q + a).num), .int .u64 ((lo (fe (q + a)) : Nat) : Int), .string (hs (fe (q + a)))])])
  (w : World) (hL0 : GL w0 w [(t, [.int .u64 ((zl q.num : Nat) : Int), .string (zh q.num), .bool (zs q.num), .int .u64 ((lo (fe q) : Nat) : Int), .string (hs (fe q))])]) :
  Calls Tryz.prog 115 #[.slice ao n c, .func (.func 116) #[.pointer (some ⟨t, 0, none⟩)] #[]] w fun xe w' => xe = .returned (.tuple #[]) ∧ GL w0 w' [(t, [.int .u64 ((zl (qsum qs).num : Nat) : Int), .string (zh (qsum qs).num), .bool (zs (qsum qs).num), .int .u64 ((lo (fe (qsum qs)) : Nat) : Int), .string (hs (fe (qsum qs)))])] := by
 replace HA := Lib.hid HA
 have hle := hn.2.2
 have hcell := Lib.hid hn.1
 have hlen := hn.2.1
 clear hn
 go_enter Tryz.func115, Tryz.ntmps115
 have hA := hL0.fc
 simp only [fcG, cellsF, neK, and_true, ne_eq, Nat.zero_add, Nat.reduceAdd] at hA
 go_wp2_with fail
 clear hA
 go_loopw [8] (fun z wr => ∃ (i : Nat) (zi : Int) (q : Rat), i ≤ n ∧ z = .int .i64 zi ∧ zi = (i : Int) ∧ q = qsum (qs.take i) ∧ GL w0 wr [(t, [.int .u64 ((zl q.num : Nat) : Int), .string (zh q.num), .bool (zs q.num), .int .u64 ((lo (fe q) : Nat) : Int), .string (hs (fe q))])]) (fun z _ => n - (intOf z).toNat)
 case atStart => exact ⟨0, _, _, Nat.zero_le _, rfl, rfl, by rw [hq0]; rfl, hL0⟩
 case round =>
  clear hL0 hq0 q
  obtain ⟨i, zi, q, hi, rfl, hzi, hq, hL0⟩ := hrel
  rcases Nat.lt_or_ge i n with hin | hin
  ·obtain ⟨g, rfl, hfs⟩ := hcell.out (by omega)
   subst hzi
   have hf := (hfs.below hL0.bl).cell i (by omega)
   have k1 : (i : Int) < (n : Int) := by omega
   have k0 : (0 : Int) ≤ (i : Int) := Int.natCast_nonneg _
   obtain ⟨a, ha⟩ : ∃ a, a = qs[i]'(by omega) := ⟨_, rfl⟩
   rw [← ha] at hf
   have hmem : a ∈ qs := by rw [ha]; exact List.getElem_mem _
   have htk : qs.take (i + 1) = qs.take i ++ [a] := by rw [List.take_succ_eq_append_getElem (by omega), ha]
   clear ha
   obtain ⟨f0, f1, f2, f3, f4⟩ := hf
   have HA1 := Lib.hid (HA.out q a i hmem hq)
   replace htk := Lib.hid htk
   replace hq := Lib.hid hq
   clear hmem
   replace hL0 := (hL0.new rfl [.int .u64 ((zl a.num : Nat) : Int), .string (zh a.num), .bool (zs a.num), .int .u64 ((lo (fe a) : Nat) : Int), .string (hs (fe a))] 34)
   generalize hweq : (wr.alloc (.cells #[.int .u64 ((zl a.num : Nat) : Int), .string (zh a.num), .bool (zs a.num), .int .u64 ((lo (fe a) : Nat) : Int), .string (hs (fe a))] 34)) = x1 at hL0
   have hN0 := cells_of _ 0 [] rfl (hL0.get _ _ List.mem_cons_self)
   simp only [cellsF, and_true, Nat.zero_add, Nat.reduceAdd] at hN0
   go_wp2_with fail
   clear hN0
   with_reducible refine Calls.mono (HA1.out _ (hL0.weak (List.Sublist.cons _ (List.Sublist.refl _)))) ?_
   rintro e x9 ⟨rfl, hG⟩
   clear hL0 hweq f0 f1 f2 f3 f4
   go_wp2_with fail
   go_roundw
   case rel => exact ⟨i + 1, _, _, by omega, by first | rfl | go_num, by omega, by rw [htk.out, qsum_snoc, ← hq.out], hG⟩
   case measure => simp [intOf]; omega
  ·obtain rfl : i = n := by omega
   subst hzi
   have k1 : ¬ (i : Int) < (i : Int) := by omega
   have hqq := hq.trans (congrArg qsum (List.take_of_length_le (Nat.le_of_eq hlen)))
   subst hqq
   clear hq
   go_wp2_with fail
   go_end0
   exact ⟨rfl, hL0⟩
set_option maxHeartbeats 4000000 in
set_option maxRecDepth 100000 in
theorem sum_w (ao : Option Addr) (n c : Nat) (qs : List Rat) (hn0 : n ≤ 1000000)
  (HE : ∀ (w0 : World) (t : Nat), (0 < n → ∃ g, ao = some ⟨g, 0, none⟩ ∧ FS w0 g qs) ∧ qs.length = n ∧ n ≤ 1000000 → ∀ w, GL w0 w [(t, [.int .u64 ((zl ((0 : Rat)).num : Nat) : Int), .string (zh ((0 : Rat)).num), .bool (zs ((0 : Rat)).num), .int .u64 ((lo (fe (0 : Rat)) : Nat) : Int), .string (hs (fe (0 : Rat)))])] → Calls Tryz.prog 115 #[.slice ao n c, .func (.func 116) #[.pointer (some ⟨t, 0, none⟩)] #[]] w fun xe w' => xe = .returned (.tuple #[]) ∧ GL w0 w' [(t, [.int .u64 ((zl (qsum qs).num : Nat) : Int), .string (zh (qsum qs).num), .bool (zs (qsum qs).num), .int .u64 ((lo (fe (qsum qs)) : Nat) : Int), .string (hs (fe (qsum qs)))])])
  (w : World) (hn : (0 < n → ∃ g, ao = some ⟨g, 0, none⟩ ∧ FS w g qs) ∧ qs.length = n ∧ n ≤ 1000000) :
  Calls Tryz.prog 45 #[.slice ao n c] w fun xe w' => xe = .returned (fracV (qsum qs)) ∧ Below w.heap.size w w' := by
 have hL0 : GL w w [] := GL.start w
 generalize qsum qs = s at *
 replace HE := Lib.hid HE
 have hn2 := Lib.hid hn.2
 have hcell := Lib.hid hn.1
 clear hn
 replace hL0 := (hL0.new rfl [.int .u64 0, .string ⟨#[]⟩, .bool false, .int .u64 0, .string ⟨#[]⟩] 34)
 generalize hweq : (w.alloc (.cells #[.int .u64 0, .string ⟨#[]⟩, .bool false, .int .u64 0, .string ⟨#[]⟩] 34)) = x1 at hL0
 have hG : GL x1 x1 [] := GL.start x1
 replace hG := hG.new rfl [.int .u64 0, .string ⟨#[]⟩, .bool false, .int .u64 0, .string ⟨#[]⟩] 155
 generalize hweq2 : x1.alloc (.cells #[.int .u64 0, .string ⟨#[]⟩, .bool false, .int .u64 0, .string ⟨#[]⟩] 155) = x2 at hG
 go_enter Tryz.func45, Tryz.ntmps45
 go_wp2_with fail
 rw [← zero_cells] at hG
 have hc2 : 0 < n → ∃ g, ao = some ⟨g, 0, none⟩ ∧ FS x1 g qs := fun h => by obtain ⟨g, h1, h2⟩ := hcell.out h; exact ⟨g, h1, h2.below hL0.bl⟩
 with_reducible refine Calls.mono (HE.out x1 x1.heap.size ⟨hc2, hn2.out⟩ x2 hG) ?_
 rintro e x3 ⟨rfl, hE⟩
 replace hL0 := hL0.join hE
 simp only [List.cons_append, List.nil_append] at hL0
 clear hE hG hweq hweq2 hc2 hcell hn2 HE
 generalize x1.heap.size = t at *
 have hA := hL0.fc
 simp only [fcG, cellsF, neK, and_true, ne_eq, Nat.zero_add, Nat.reduceAdd] at hA
 have hP := hL0.put 1 (w.heap.size) _ rfl [.int .u64 ((zl s.num : Nat) : Int), .string (zh s.num), .bool (zs s.num), .int .u64 ((lo (fe s) : Nat) : Int), .string (hs (fe s))] rfl
 simp only [setAll, List.set_cons_zero, List.set_cons_succ] at hP
 generalize hput1 : (((((x3.setCell ⟨w.heap.size, 0, none⟩ (.int .u64 ((zl s.num : Nat) : Int))).setCell ⟨w.heap.size, 1, none⟩ (.string (zh s.num))).setCell ⟨w.heap.size, 2, none⟩ (.bool (zs s.num))).setCell ⟨w.heap.size, 3, none⟩ (.int .u64 ((lo (fe s) : Nat) : Int))).setCell ⟨w.heap.size, 4, none⟩ (.string (hs (fe s)))) = x2 at hP
 have hB1 := hP.fc
 simp only [fcG, cellsF, neK, and_true, ne_eq, Nat.zero_add, Nat.reduceAdd] at hB1
 replace hL0 := hP
 go_wp2_with fail
 exact bodyPost_ret (v := fracV s) (by simp [results, Tryz.results45, go_sem, hB1]) rfl ⟨rfl, hL0.bl⟩
theorem slq_parts' {w : World} {ao : Option Addr} {n c : Nat} {qs : List Rat} (h : SlQ w (.slice ao n c) qs) (hl : qs.length ≤ 1000000) : (0 < n → ∃ g, ao = some ⟨g, 0, none⟩ ∧ FS w g qs) ∧ qs.length = n ∧ n ≤ 1000000 := by
 rcases h with ⟨ao, c, h1, rfl⟩ | ⟨g, c, h1, h2⟩
 ·simp only [Value.slice.injEq] at h1
  obtain ⟨-, rfl, -⟩ := h1
  exact ⟨fun h => absurd h (by omega), rfl, by omega⟩
 ·simp only [Value.slice.injEq] at h1
  obtain ⟨rfl, rfl, -⟩ := h1
  exact ⟨fun _ => ⟨g, rfl, h2⟩, rfl, hl⟩
theorem sumF (ao : Option Addr) (n c : Nat) (qs : List Rat) (k : Nat) (hk : k ≤ 10) (hl : qs.length ≤ 1000) (hs : ∀ q ∈ qs, Sz q k) (w : World) (h : SlQ w (.slice ao n c) qs) :
  Calls Tryz.prog 45 #[.slice ao n c] w fun xe w' => xe = .returned (fracV (qsum qs)) ∧ Below w.heap.size w w' := by
 have hp := slq_parts' h (by omega)
 refine sum_w ao n c qs hp.2.2 (fun w0 t hn w hG => each_add w0 t ao n c qs 0 rfl hn (fun q a i ha hq w hG => total_add w0 t q a (q + a) (fun w => addF q a 20000 ?_ ((hs a ha).mono (by omega)) (by omega) w) w hG) w hG) w hp
 rw [hq]
 have h0 : Sz 0 1 := ⟨digs_length_iff.2 (by unfold Bs; decide), digs_length_iff.2 (by unfold Bs; decide)⟩
 have hz := qsum_sz (qs.take i) 1 0 h0 (fun q hq => hs q (List.mem_of_mem_take hq))
 refine hz.mono ?_
 rw [List.length_take]
 have h1 : min i qs.length * (k + 1) ≤ 1000 * 11 := Nat.mul_le_mul (by omega) (by omega)
 omega
end Go.Proofs.YtdkjckiialnpnaaGreatDoor
namespace Go.Proofs.YtdkjckiialnpnaaGreatDoor
open Go.RowKit
attribute [local irreducible] lo hs sm s64 c64 d64 b64 mh ml pd pc qd qc val hiB str cmpI srD lz nb isq zl zh zs
theorem szc (q : Rat) (h1 : q.num.natAbs < 18446744073709551616) (h2 : q.den < 18446744073709551616) : Sz q 1 :=
 ⟨digs_length_iff.2 (by rw [Nat.pow_one]; exact h1), digs_length_iff.2 (by rw [Nat.pow_one]; exact h2)⟩
theorem txt1 (d : Nat) (h : d < 10) : txt d = ⟨#[dch d]⟩ := by unfold txt; rw [dec_small h]
theorem zt_pos (d : Nat) (h : d < 10) : ztxt (d : Int) = ⟨#[dch d]⟩ := by unfold ztxt; rw [if_neg (by omega), Int.natAbs_natCast, txt1 d h]
theorem qt_int {q : Rat} {z : Int} (h1 : q.den = 1) (h2 : q.num = z) : qtxt q = ztxt z := by unfold qtxt; rw [if_pos h1, h2]
theorem qt_part {q : Rat} {z : Int} {d : Nat} (h1 : q.den = d) (hd : d ≠ 1) (h2 : q.num = z) : qtxt q = ztxt z ++ ByteArray.mk #[47] ++ txt d := by unfold qtxt; rw [if_neg (by rw [h1]; exact hd), h1, h2]
/-- The variable of package bytealg that strings.Cut looks at. -/
def MaxL (w : World) : Prop := ∃ m, w.cell? ⟨3, 0, none⟩ = some (.int .i64 m)
theorem MaxL.keeps : Keeps MaxL := fun w w' hb ⟨m, h⟩ => ⟨m, by
 have hl := World.block_lt_of_cell? w _ h
 exact (hb.cell (p := ⟨3, 0, none⟩) hl).trans h⟩
end Go.Proofs.YtdkjckiialnpnaaGreatDoor
namespace Go.Proofs.YtdkjckiialnpnaaGreatDoor
open Go.RowKit
attribute [local irreducible] lo hs sm s64 c64 d64 b64 mh ml pd pc qd qc val hiB str cmpI srD lz nb isq zl zh zs
/-- A fraction's cells; those of a list. -/
def frC (q : Rat) : List Value := [.int .u64 ((zl q.num : Nat) : Int), .string (zh q.num), .bool (zs q.num), .int .u64 ((lo (fe q) : Nat) : Int), .string (hs (fe q))]
def frCs (l : List Rat) : List Value := l.flatMap frC
theorem frCs_nil : frCs [] = [] := rfl
theorem frC_length (q : Rat) : (frC q).length = 5 := rfl
theorem frCs_get : ∀ (l : List Rat) (i j : Nat) (h : i < l.length), j < 5 → (frCs l)[i * 5 + j]? = (frC l[i])[j]?
 | q :: l, 0, j, h, hj => by
  unfold frCs
  rw [List.flatMap_cons, Nat.zero_mul, Nat.zero_add, List.getElem?_append_left (by rw [frC_length]; exact hj)]; rfl
 | q :: l, i + 1, j, h, hj => by
  have hi : i < l.length := by simpa using h
  have ih := frCs_get l i j hi hj
  unfold frCs at ih ⊢
  rw [List.flatMap_cons, List.getElem?_append_right (by rw [frC_length]; omega), frC_length, show (i + 1) * 5 + j - 5 = i * 5 + j by omega, ih]
  rfl
theorem frC_one : ∀ (q : Rat), ∀ u ∈ frC q, u.oneCell' = true := by
 intro q u hu
 unfold frC at hu
 simp only [List.mem_cons, List.not_mem_nil, or_false] at hu
 rcases hu with rfl | rfl | rfl | rfl | rfl <;> rfl
theorem add0 (g j : Nat) : (⟨g, 0, none⟩ : Addr).add j = ⟨g, j, none⟩ := by
 unfold Addr.add
 by_cases h : j = 0
 ·subst h; simp
 ·simp [h]
theorem own_cells {w : World} {B n : Nat} {v : Value} {l : List Rat} {g : Nat} {c : Nat} (h : w.ownsRow B 34 5 v n (frCs l)) (hv : v = .slice (some ⟨g, 0, none⟩) n c) (j : Nat) (u : Value) (hu : (frCs l)[j]? = some u) : w.cell? ⟨g, j, none⟩ = some u := by
 have := World.ownsRow.cells h (g := g) (by rw [hv]; rfl) j u hu
 rw [add0] at this
 exact this
theorem own_fs {w : World} {B n g c : Nat} {v : Value} {l : List Rat} (h : w.ownsRow B 34 5 v n (frCs l)) (hv : v = .slice (some ⟨g, 0, none⟩) n c) : FS w g l := by
 have hc := own_cells h hv
 refine ⟨fun i hi => ?_, (h.lt g (by rw [hv]; rfl)).2⟩
 have e := fun j hj => frCs_get l i j hi hj
 exact ⟨hc _ _ (by have := e 0 (by omega); rw [Nat.add_zero] at this; exact this), hc _ _ (e 1 (by omega)), hc _ _ (e 2 (by omega)), hc _ _ (e 3 (by omega)), hc _ _ (e 4 (by omega))⟩
theorem own_slq {w : World} {B n : Nat} {v : Value} {l : List Rat} (h : w.ownsRow B 34 5 v n (frCs l)) (hn : n = l.length) : SlQ w v l := by
 rcases h.2 with ⟨h1, h2⟩ | ⟨g, cap, cur, h1, h2, h3, h4, h5, h6, h7⟩
 ·exact .inl ⟨none, 0, h1, List.eq_nil_of_length_eq_zero (by omega)⟩
 ·exact .inr ⟨g, cap, by rw [h1, hn], own_fs h h1⟩
theorem own_below {w w' : World} {B n : Nat} {v : Value} {l : List Rat} (h : w.ownsRow B 34 5 v n (frCs l)) (hb : Below w.heap.size w w') : w'.ownsRow B 34 5 v n (frCs l) := by
 refine ⟨h.1, ?_⟩
 rcases h.2 with h1 | ⟨g, cap, cur, h1, h2, h3, h4⟩
 ·exact .inl h1
 ·refine .inr ⟨g, cap, cur, h1, h2, ?_, h4⟩
  have hg := (h.lt g (by rw [h1]; rfl)).2
  rw [hb.block g hg]; exact h3
theorem GL.belowB {w W W' : World} {L : List (Nat × List Value)} {B : Nat} (h : GL w W L) (hb : Below B W W') (hB : ∀ p ∈ L, p.1 < B) (hw : w.heap.size ≤ B) : GL w W' L := by
 refine ⟨h.bl.trans (hb.mono hw), fun p hp => ⟨(h.all p hp).1, ?_⟩, h.nd⟩
 have hd := (h.all p hp).2
 have hk := hB p hp
 have hbl := hb.block p.1 hk
 refine ⟨fun i hi => (World.cell?_of_block (a := ⟨p.1, i, none⟩) hbl).trans (hd.cell i hi), fun i => ?_, Nat.lt_of_lt_of_le hd.lt hb.size, ?_⟩
 ·have := hd.frz i
  unfold World.frozen? at this ⊢
  simp only at this ⊢
  rw [hbl]; exact this
 ·obtain ⟨arr, t, h1, h2⟩ := hd.row
  exact ⟨arr, t, by rw [hbl]; exact h1, h2⟩
end Go.Proofs.YtdkjckiialnpnaaGreatDoor
namespace Go.Proofs.YtdkjckiialnpnaaGreatDoor
open Go.RowKit
attribute [local irreducible] lo hs sm s64 c64 d64 b64 mh ml pd pc qd qc val hiB str cmpI srD lz nb isq zl zh zs fe
set_option maxHeartbeats 4000000 in
set_option maxRecDepth 100000 in
theorem order_a (ao : Option Addr) (n c : Nat) (a b s : Rat) (i : Int) (KS : World → Prop) (hKS : Keeps KS) (HL : ∀ w, KS w → Calls Tryz.prog 45 #[.slice ao n c] w fun xe w' => xe = .returned (fracV s) ∧ Below w.heap.size w w') (SA : ∀ w, Calls Tryz.prog 41 #[fracV a] w fun xe w' => xe = .returned (.int .i64 i) ∧ Below w.heap.size w w') (h1 : decide (i < 0) = true) (w : World) (kKS : KS w) :
  Calls Tryz.prog 44 #[fracV a, fracV b, .slice ao n c] w fun xe w' => xe = .returned (.tuple #[.int .i64 0, .int .i64 1]) ∧ Below w.heap.size w w' := by
 have hL0 : GL w w [] := GL.start w
 replace hKS := Lib.hid hKS
 replace HL := Lib.hid HL
 replace SA := Lib.hid SA
 replace hL0 := ((hL0.new rfl [.int .u64 ((zl a.num : Nat) : Int), .string (zh a.num), .bool (zs a.num), .int .u64 ((lo (fe a) : Nat) : Int), .string (hs (fe a))] 34).new (K := w.heap.size + 1) (szA _ _) [.int .u64 ((zl b.num : Nat) : Int), .string (zh b.num), .bool (zs b.num), .int .u64 ((lo (fe b) : Nat) : Int), .string (hs (fe b))] 34)
 generalize hweq : ((w.alloc (.cells #[.int .u64 ((zl a.num : Nat) : Int), .string (zh a.num), .bool (zs a.num), .int .u64 ((lo (fe a) : Nat) : Int), .string (hs (fe a))] 34)).alloc (.cells #[.int .u64 ((zl b.num : Nat) : Int), .string (zh b.num), .bool (zs b.num), .int .u64 ((lo (fe b) : Nat) : Int), .string (hs (fe b))] 34)) = x1 at hL0
 go_enter Tryz.func44, Tryz.ntmps44
 go_wp2_with fail
 with_reducible refine Calls.mono (HL.out _ (hKS.out.at hL0.bl kKS)) ?_
 rintro e x2 ⟨rfl, hb⟩
 replace hL0 := hL0.call hb
 clear hb hweq
 replace hL0 := (hL0.new rfl [.int .u64 ((zl s.num : Nat) : Int), .string (zh s.num), .bool (zs s.num), .int .u64 ((lo (fe s) : Nat) : Int), .string (hs (fe s))] 34)
 generalize hweq : (x2.alloc (.cells #[.int .u64 ((zl s.num : Nat) : Int), .string (zh s.num), .bool (zs s.num), .int .u64 ((lo (fe s) : Nat) : Int), .string (hs (fe s))] 34)) = x3 at hL0
 have hN0 := cells_of _ 0 [] rfl (hL0.get _ _ (List.mem_cons_of_mem _ (List.mem_cons_of_mem _ List.mem_cons_self)))
 simp only [cellsF, and_true, Nat.zero_add, Nat.reduceAdd] at hN0
 go_wp2_with fail
 clear hN0
 with_reducible refine Calls.mono (SA.out _) ?_
 rintro e x4 ⟨rfl, hb⟩
 replace hL0 := hL0.call hb
 clear hb hweq
 go_wp2_with fail
 exact bodyPost_ret (v := .tuple #[.int .i64 0, .int .i64 1]) (by simp [results, Tryz.results44, go_sem]) rfl ⟨rfl, hL0.bl⟩
set_option maxHeartbeats 4000000 in
set_option maxRecDepth 100000 in
theorem order_b (ao : Option Addr) (n c : Nat) (a b s : Rat) (i j : Int) (KS : World → Prop) (hKS : Keeps KS) (HL : ∀ w, KS w → Calls Tryz.prog 45 #[.slice ao n c] w fun xe w' => xe = .returned (fracV s) ∧ Below w.heap.size w w') (SA : ∀ w, Calls Tryz.prog 41 #[fracV a] w fun xe w' => xe = .returned (.int .i64 i) ∧ Below w.heap.size w w') (SB : ∀ w, Calls Tryz.prog 41 #[fracV b] w fun xe w' => xe = .returned (.int .i64 j) ∧ Below w.heap.size w w') (h1 : decide (i < 0) = false) (h2 : decide (j < 0) = true) (w : World) (kKS : KS w) :
  Calls Tryz.prog 44 #[fracV a, fracV b, .slice ao n c] w fun xe w' => xe = .returned (.tuple #[.int .i64 0, .int .i64 1]) ∧ Below w.heap.size w w' := by
 have hL0 : GL w w [] := GL.start w
 replace hKS := Lib.hid hKS
 replace HL := Lib.hid HL
 replace SA := Lib.hid SA
 replace SB := Lib.hid SB
 replace hL0 := ((hL0.new rfl [.int .u64 ((zl a.num : Nat) : Int), .string (zh a.num), .bool (zs a.num), .int .u64 ((lo (fe a) : Nat) : Int), .string (hs (fe a))] 34).new (K := w.heap.size + 1) (szA _ _) [.int .u64 ((zl b.num : Nat) : Int), .string (zh b.num), .bool (zs b.num), .int .u64 ((lo (fe b) : Nat) : Int), .string (hs (fe b))] 34)
 generalize hweq : ((w.alloc (.cells #[.int .u64 ((zl a.num : Nat) : Int), .string (zh a.num), .bool (zs a.num), .int .u64 ((lo (fe a) : Nat) : Int), .string (hs (fe a))] 34)).alloc (.cells #[.int .u64 ((zl b.num : Nat) : Int), .string (zh b.num), .bool (zs b.num), .int .u64 ((lo (fe b) : Nat) : Int), .string (hs (fe b))] 34)) = x1 at hL0
 go_enter Tryz.func44, Tryz.ntmps44
 go_wp2_with fail
 with_reducible refine Calls.mono (HL.out _ (hKS.out.at hL0.bl kKS)) ?_
 rintro e x2 ⟨rfl, hb⟩
 replace hL0 := hL0.call hb
 clear hb hweq
 replace hL0 := (hL0.new rfl [.int .u64 ((zl s.num : Nat) : Int), .string (zh s.num), .bool (zs s.num), .int .u64 ((lo (fe s) : Nat) : Int), .string (hs (fe s))] 34)
 generalize hweq : (x2.alloc (.cells #[.int .u64 ((zl s.num : Nat) : Int), .string (zh s.num), .bool (zs s.num), .int .u64 ((lo (fe s) : Nat) : Int), .string (hs (fe s))] 34)) = x3 at hL0
 have hN0 := cells_of _ 0 [] rfl (hL0.get _ _ (List.mem_cons_of_mem _ (List.mem_cons_of_mem _ List.mem_cons_self)))
 simp only [cellsF, and_true, Nat.zero_add, Nat.reduceAdd] at hN0
 go_wp2_with fail
 clear hN0
 with_reducible refine Calls.mono (SA.out _) ?_
 rintro e x4 ⟨rfl, hb⟩
 replace hL0 := hL0.call hb
 clear hb hweq
 have hN0 := cells_of _ 0 [] rfl (hL0.get _ _ (List.mem_cons_of_mem _ List.mem_cons_self))
 simp only [cellsF, and_true, Nat.zero_add, Nat.reduceAdd] at hN0
 go_wp2_with fail
 clear hN0
 with_reducible refine Calls.mono (SB.out _) ?_
 rintro e x5 ⟨rfl, hb⟩
 replace hL0 := hL0.call hb
 clear hb
 go_wp2_with fail
 exact bodyPost_ret (v := .tuple #[.int .i64 0, .int .i64 1]) (by simp [results, Tryz.results44, go_sem]) rfl ⟨rfl, hL0.bl⟩
set_option maxHeartbeats 4000000 in
set_option maxRecDepth 100000 in
theorem order_s (ao : Option Addr) (n c : Nat) (a b s : Rat) (i j k : Int) (KS : World → Prop) (hKS : Keeps KS) (HL : ∀ w, KS w → Calls Tryz.prog 45 #[.slice ao n c] w fun xe w' => xe = .returned (fracV s) ∧ Below w.heap.size w w') (SA : ∀ w, Calls Tryz.prog 41 #[fracV a] w fun xe w' => xe = .returned (.int .i64 i) ∧ Below w.heap.size w w') (SB : ∀ w, Calls Tryz.prog 41 #[fracV b] w fun xe w' => xe = .returned (.int .i64 j) ∧ Below w.heap.size w w') (SS : ∀ w, Calls Tryz.prog 41 #[fracV s] w fun xe w' => xe = .returned (.int .i64 k) ∧ Below w.heap.size w w') (h1 : decide (i < 0) = false) (h2 : decide (j < 0) = false) (h3 : decide (k < 0) = true) (w : World) (kKS : KS w) :
  Calls Tryz.prog 44 #[fracV a, fracV b, .slice ao n c] w fun xe w' => xe = .returned (.tuple #[.int .i64 0, .int .i64 1]) ∧ Below w.heap.size w w' := by
 have hL0 : GL w w [] := GL.start w
 replace hKS := Lib.hid hKS
 replace HL := Lib.hid HL
 replace SA := Lib.hid SA
 replace SB := Lib.hid SB
 replace SS := Lib.hid SS
 replace hL0 := ((hL0.new rfl [.int .u64 ((zl a.num : Nat) : Int), .string (zh a.num), .bool (zs a.num), .int .u64 ((lo (fe a) : Nat) : Int), .string (hs (fe a))] 34).new (K := w.heap.size + 1) (szA _ _) [.int .u64 ((zl b.num : Nat) : Int), .string (zh b.num), .bool (zs b.num), .int .u64 ((lo (fe b) : Nat) : Int), .string (hs (fe b))] 34)
 generalize hweq : ((w.alloc (.cells #[.int .u64 ((zl a.num : Nat) : Int), .string (zh a.num), .bool (zs a.num), .int .u64 ((lo (fe a) : Nat) : Int), .string (hs (fe a))] 34)).alloc (.cells #[.int .u64 ((zl b.num : Nat) : Int), .string (zh b.num), .bool (zs b.num), .int .u64 ((lo (fe b) : Nat) : Int), .string (hs (fe b))] 34)) = x1 at hL0
 go_enter Tryz.func44, Tryz.ntmps44
 go_wp2_with fail
 with_reducible refine Calls.mono (HL.out _ (hKS.out.at hL0.bl kKS)) ?_
 rintro e x2 ⟨rfl, hb⟩
 replace hL0 := hL0.call hb
 clear hb hweq
 replace hL0 := (hL0.new rfl [.int .u64 ((zl s.num : Nat) : Int), .string (zh s.num), .bool (zs s.num), .int .u64 ((lo (fe s) : Nat) : Int), .string (hs (fe s))] 34)
 generalize hweq : (x2.alloc (.cells #[.int .u64 ((zl s.num : Nat) : Int), .string (zh s.num), .bool (zs s.num), .int .u64 ((lo (fe s) : Nat) : Int), .string (hs (fe s))] 34)) = x3 at hL0
 have hN0 := cells_of _ 0 [] rfl (hL0.get _ _ (List.mem_cons_of_mem _ (List.mem_cons_of_mem _ List.mem_cons_self)))
 simp only [cellsF, and_true, Nat.zero_add, Nat.reduceAdd] at hN0
 go_wp2_with fail
 clear hN0
 with_reducible refine Calls.mono (SA.out _) ?_
 rintro e x4 ⟨rfl, hb⟩
 replace hL0 := hL0.call hb
 clear hb hweq
 have hN0 := cells_of _ 0 [] rfl (hL0.get _ _ (List.mem_cons_of_mem _ List.mem_cons_self))
 simp only [cellsF, and_true, Nat.zero_add, Nat.reduceAdd] at hN0
 go_wp2_with fail
 clear hN0
 with_reducible refine Calls.mono (SB.out _) ?_
 rintro e x5 ⟨rfl, hb⟩
 replace hL0 := hL0.call hb
 clear hb
 have hN0 := cells_of _ 0 [] rfl (hL0.get _ _ List.mem_cons_self)
 simp only [cellsF, and_true, Nat.zero_add, Nat.reduceAdd] at hN0
 go_wp2_with fail
 clear hN0
 with_reducible refine Calls.mono (SS.out _) ?_
 rintro e x6 ⟨rfl, hb⟩
 replace hL0 := hL0.call hb
 clear hb
 go_wp2_with fail
 exact bodyPost_ret (v := .tuple #[.int .i64 0, .int .i64 1]) (by simp [results, Tryz.results44, go_sem]) rfl ⟨rfl, hL0.bl⟩
set_option maxHeartbeats 4000000 in
set_option maxRecDepth 100000 in
theorem order_gt (ao : Option Addr) (n c : Nat) (a b s t r : Rat) (i j k l : Int) (KS : World → Prop) (hKS : Keeps KS) (HL : ∀ w, KS w → Calls Tryz.prog 45 #[.slice ao n c] w fun xe w' => xe = .returned (fracV s) ∧ Below w.heap.size w w') (SA : ∀ w, Calls Tryz.prog 41 #[fracV a] w fun xe w' => xe = .returned (.int .i64 i) ∧ Below w.heap.size w w') (SB : ∀ w, Calls Tryz.prog 41 #[fracV b] w fun xe w' => xe = .returned (.int .i64 j) ∧ Below w.heap.size w w') (SS : ∀ w, Calls Tryz.prog 41 #[fracV s] w fun xe w' => xe = .returned (.int .i64 k) ∧ Below w.heap.size w w') (HA : ∀ w, Calls Tryz.prog 33 #[fracV a, fracV b] w fun xe w' => xe = .returned (fracV t) ∧ Below w.heap.size w w') (HB : ∀ w, Calls Tryz.prog 27 #[fracV s, fracV t] w fun xe w' => xe = .returned (fracV r) ∧ Below w.heap.size w w') (SR : ∀ w, Calls Tryz.prog 41 #[fracV r] w fun xe w' => xe = .returned (.int .i64 l) ∧ Below w.heap.size w w') (h1 : decide (i < 0) = false) (h2 : decide (j < 0) = false) (h3 : decide (k < 0) = false) (h4 : decide (l < 0) = true) (w : World) (kKS : KS w) :
  Calls Tryz.prog 44 #[fracV a, fracV b, .slice ao n c] w fun xe w' => xe = .returned (.tuple #[.int .i64 1, .int .i64 0]) ∧ Below w.heap.size w w' := by
 have hL0 : GL w w [] := GL.start w
 replace hKS := Lib.hid hKS
 replace HL := Lib.hid HL
 replace SA := Lib.hid SA
 replace SB := Lib.hid SB
 replace SS := Lib.hid SS
 replace HA := Lib.hid HA
 replace HB := Lib.hid HB
 replace SR := Lib.hid SR
 replace hL0 := ((hL0.new rfl [.int .u64 ((zl a.num : Nat) : Int), .string (zh a.num), .bool (zs a.num), .int .u64 ((lo (fe a) : Nat) : Int), .string (hs (fe a))] 34).new (K := w.heap.size + 1) (szA _ _) [.int .u64 ((zl b.num : Nat) : Int), .string (zh b.num), .bool (zs b.num), .int .u64 ((lo (fe b) : Nat) : Int), .string (hs (fe b))] 34)
 generalize hweq : ((w.alloc (.cells #[.int .u64 ((zl a.num : Nat) : Int), .string (zh a.num), .bool (zs a.num), .int .u64 ((lo (fe a) : Nat) : Int), .string (hs (fe a))] 34)).alloc (.cells #[.int .u64 ((zl b.num : Nat) : Int), .string (zh b.num), .bool (zs b.num), .int .u64 ((lo (fe b) : Nat) : Int), .string (hs (fe b))] 34)) = x1 at hL0
 go_enter Tryz.func44, Tryz.ntmps44
 go_wp2_with fail
 with_reducible refine Calls.mono (HL.out _ (hKS.out.at hL0.bl kKS)) ?_
 rintro e x2 ⟨rfl, hb⟩
 replace hL0 := hL0.call hb
 clear hb hweq
 replace hL0 := (hL0.new rfl [.int .u64 ((zl s.num : Nat) : Int), .string (zh s.num), .bool (zs s.num), .int .u64 ((lo (fe s) : Nat) : Int), .string (hs (fe s))] 34)
 generalize hweq : (x2.alloc (.cells #[.int .u64 ((zl s.num : Nat) : Int), .string (zh s.num), .bool (zs s.num), .int .u64 ((lo (fe s) : Nat) : Int), .string (hs (fe s))] 34)) = x3 at hL0
 have hN0 := cells_of _ 0 [] rfl (hL0.get _ _ (List.mem_cons_of_mem _ (List.mem_cons_of_mem _ List.mem_cons_self)))
 simp only [cellsF, and_true, Nat.zero_add, Nat.reduceAdd] at hN0
 go_wp2_with fail
 clear hN0
 with_reducible refine Calls.mono (SA.out _) ?_
 rintro e x4 ⟨rfl, hb⟩
 replace hL0 := hL0.call hb
 clear hb hweq
 have hN0 := cells_of _ 0 [] rfl (hL0.get _ _ (List.mem_cons_of_mem _ List.mem_cons_self))
 simp only [cellsF, and_true, Nat.zero_add, Nat.reduceAdd] at hN0
 go_wp2_with fail
 clear hN0
 with_reducible refine Calls.mono (SB.out _) ?_
 rintro e x5 ⟨rfl, hb⟩
 replace hL0 := hL0.call hb
 clear hb
 have hN0 := cells_of _ 0 [] rfl (hL0.get _ _ List.mem_cons_self)
 simp only [cellsF, and_true, Nat.zero_add, Nat.reduceAdd] at hN0
 go_wp2_with fail
 clear hN0
 with_reducible refine Calls.mono (SS.out _) ?_
 rintro e x6 ⟨rfl, hb⟩
 replace hL0 := hL0.call hb
 clear hb
 go_upto_region 4 with fail
 refine region_gh (by kernel_rfl) (by kernel_rfl) ?_
 refine lex_seg (gl := []) 5 (by kernel_rfl) ?_
 intro α iα F hF1 hF2
 have hq := GL.seg hF1 hL0
 simp only [fcC, cellsC, and_true, Nat.zero_add, Nat.reduceAdd] at hq
 simp only [List.take_succ_cons, List.take_zero, List.drop_succ_cons, List.drop_zero, List.take_nil, List.drop_nil]
 repeat (go_big_quiet_step (first | fail | (go_at_call 33; with_reducible exact seg_call hF2 HA.out _) | (go_at_call 27; with_reducible exact seg_call hF2 HB.out _)))
 refine wpQuiet_nil ?_
 clear hq hF1 hF2 iα F α
 refine lex_new [.int .u64 0, .string ⟨#[]⟩, .bool false, .int .u64 0, .string ⟨#[]⟩] 9 34 34 rfl rfl (of_decide_eq_true (by kernel_rfl)) (by kernel_rfl) rfl new_frac ?_
 simp only [Act.put, List.setIfInBounds_toArray, List.set_cons_succ, List.set_cons_zero]
 refine lex_put [.int .u64 ((zl r.num : Nat) : Int), .string (zh r.num), .bool (zs r.num), .int .u64 ((lo (fe r) : Nat) : Int), .string (hs (fe r))] [.int .u64 0, .string ⟨#[]⟩, .bool false, .int .u64 0, .string ⟨#[]⟩] 9 34 (.tmp 29) rfl (by kernel_rfl) (by simp [toG, upd]) rfl (fun w k h => put_frac _ _ _ _ _ _ _ _ _ _ w k h) ?_
 simp only [Act.put]
 refine lexG_nil ?_
 intro κ x7 hS
 replace hL0 := hL0.ghs hS [(9, [.int .u64 ((zl r.num : Nat) : Int), .string (zh r.num), .bool (zs r.num), .int .u64 ((lo (fe r) : Nat) : Int), .string (hs (fe r))])] (by simp) (by intro p hp; simp only [List.mem_cons, List.not_mem_nil, or_false] at hp; rcases hp with rfl <;> exact ⟨_, by simp only [toG, upd]; rfl⟩)
 simp only [List.map_cons, List.map_nil, List.cons_append, List.nil_append] at hL0
 simp only [over_toG, over_nil, Act.put, List.setIfInBounds_toArray, List.set_cons_succ, List.set_cons_zero]
 clear hS
 generalize κ 9 = k7_9 at *
 have hN0 := cells_of _ 0 [] rfl (hL0.get _ _ List.mem_cons_self)
 simp only [cellsF, and_true, Nat.zero_add, Nat.reduceAdd] at hN0
 go_wp2_with fail
 clear hN0
 with_reducible refine Calls.mono (SR.out _) ?_
 rintro e x8 ⟨rfl, hb⟩
 replace hL0 := hL0.call hb
 clear hb
 go_wp2_with fail
 exact bodyPost_ret (v := .tuple #[.int .i64 1, .int .i64 0]) (by simp [results, Tryz.results44, go_sem]) rfl ⟨rfl, hL0.bl⟩
set_option maxHeartbeats 4000000 in
set_option maxRecDepth 100000 in
theorem order_cmp (ao : Option Addr) (n c : Nat) (a b s t r f m x y : Rat) (i j k l o : Int) (KS : World → Prop) (hKS : Keeps KS) (HL : ∀ w, KS w → Calls Tryz.prog 45 #[.slice ao n c] w fun xe w' => xe = .returned (fracV s) ∧ Below w.heap.size w w') (SA : ∀ w, Calls Tryz.prog 41 #[fracV a] w fun xe w' => xe = .returned (.int .i64 i) ∧ Below w.heap.size w w') (SB : ∀ w, Calls Tryz.prog 41 #[fracV b] w fun xe w' => xe = .returned (.int .i64 j) ∧ Below w.heap.size w w') (SS : ∀ w, Calls Tryz.prog 41 #[fracV s] w fun xe w' => xe = .returned (.int .i64 k) ∧ Below w.heap.size w w') (HA : ∀ w, Calls Tryz.prog 33 #[fracV a, fracV b] w fun xe w' => xe = .returned (fracV t) ∧ Below w.heap.size w w') (HB : ∀ w, Calls Tryz.prog 27 #[fracV s, fracV t] w fun xe w' => xe = .returned (fracV r) ∧ Below w.heap.size w w') (SR : ∀ w, Calls Tryz.prog 41 #[fracV r] w fun xe w' => xe = .returned (.int .i64 l) ∧ Below w.heap.size w w') (HI : ∀ w, Calls Tryz.prog 29 #[.int .i64 4] w fun xe w' => xe = .returned (fracV f) ∧ Below w.heap.size w w') (HM : ∀ w, Calls Tryz.prog 28 #[fracV a, fracV b] w fun xe w' => xe = .returned (fracV m) ∧ Below w.heap.size w w') (HN : ∀ w, Calls Tryz.prog 28 #[fracV f, fracV m] w fun xe w' => xe = .returned (fracV x) ∧ Below w.heap.size w w') (HQ : ∀ w, Calls Tryz.prog 42 #[fracV r] w fun xe w' => xe = .returned (fracV y) ∧ Below w.heap.size w w') (HC : ∀ w, Calls Tryz.prog 26 #[fracV x, fracV y] w fun xe w' => xe = .returned (.int .i64 o) ∧ Below w.heap.size w w') (h1 : decide (i < 0) = false) (h2 : decide (j < 0) = false) (h3 : decide (k < 0) = false) (h4 : decide (l < 0) = false) (w : World) (kKS : KS w) :
  Calls Tryz.prog 44 #[fracV a, fracV b, .slice ao n c] w fun xe w' => xe = .returned (.tuple #[.int .i64 o, .int .i64 0]) ∧ Below w.heap.size w w' := by
 have hL0 : GL w w [] := GL.start w
 replace hKS := Lib.hid hKS
 replace HL := Lib.hid HL
 replace SA := Lib.hid SA
 replace SB := Lib.hid SB
 replace SS := Lib.hid SS
 replace HA := Lib.hid HA
 replace HB := Lib.hid HB
 replace SR := Lib.hid SR
 replace HI := Lib.hid HI
 replace HM := Lib.hid HM
 replace HN := Lib.hid HN
 replace HQ := Lib.hid HQ
 replace HC := Lib.hid HC
 replace hL0 := ((hL0.new rfl [.int .u64 ((zl a.num : Nat) : Int), .string (zh a.num), .bool (zs a.num), .int .u64 ((lo (fe a) : Nat) : Int), .string (hs (fe a))] 34).new (K := w.heap.size + 1) (szA _ _) [.int .u64 ((zl b.num : Nat) : Int), .string (zh b.num), .bool (zs b.num), .int .u64 ((lo (fe b) : Nat) : Int), .string (hs (fe b))] 34)
 generalize hweq : ((w.alloc (.cells #[.int .u64 ((zl a.num : Nat) : Int), .string (zh a.num), .bool (zs a.num), .int .u64 ((lo (fe a) : Nat) : Int), .string (hs (fe a))] 34)).alloc (.cells #[.int .u64 ((zl b.num : Nat) : Int), .string (zh b.num), .bool (zs b.num), .int .u64 ((lo (fe b) : Nat) : Int), .string (hs (fe b))] 34)) = x1 at hL0
 go_enter Tryz.func44, Tryz.ntmps44
 go_wp2_with fail
 with_reducible refine Calls.mono (HL.out _ (hKS.out.at hL0.bl kKS)) ?_
 rintro e x2 ⟨rfl, hb⟩
 replace hL0 := hL0.call hb
 clear hb hweq
 replace hL0 := (hL0.new rfl [.int .u64 ((zl s.num : Nat) : Int), .string (zh s.num), .bool (zs s.num), .int .u64 ((lo (fe s) : Nat) : Int), .string (hs (fe s))] 34)
 generalize hweq : (x2.alloc (.cells #[.int .u64 ((zl s.num : Nat) : Int), .string (zh s.num), .bool (zs s.num), .int .u64 ((lo (fe s) : Nat) : Int), .string (hs (fe s))] 34)) = x3 at hL0
 have hN0 := cells_of _ 0 [] rfl (hL0.get _ _ (List.mem_cons_of_mem _ (List.mem_cons_of_mem _ List.mem_cons_self)))
 simp only [cellsF, and_true, Nat.zero_add, Nat.reduceAdd] at hN0
 go_wp2_with fail
 clear hN0
 with_reducible refine Calls.mono (SA.out _) ?_
 rintro e x4 ⟨rfl, hb⟩
 replace hL0 := hL0.call hb
 clear hb hweq
 have hN0 := cells_of _ 0 [] rfl (hL0.get _ _ (List.mem_cons_of_mem _ List.mem_cons_self))
 simp only [cellsF, and_true, Nat.zero_add, Nat.reduceAdd] at hN0
 go_wp2_with fail
 clear hN0
 with_reducible refine Calls.mono (SB.out _) ?_
 rintro e x5 ⟨rfl, hb⟩
 replace hL0 := hL0.call hb
 clear hb
 have hN0 := cells_of _ 0 [] rfl (hL0.get _ _ List.mem_cons_self)
 simp only [cellsF, and_true, Nat.zero_add, Nat.reduceAdd] at hN0
 go_wp2_with fail
 clear hN0
 with_reducible refine Calls.mono (SS.out _) ?_
 rintro e x6 ⟨rfl, hb⟩
 replace hL0 := hL0.call hb
 clear hb
 go_upto_region 4 with fail
 refine region_gh (by kernel_rfl) (by kernel_rfl) ?_
 refine lex_seg (gl := []) 5 (by kernel_rfl) ?_
 intro α iα F hF1 hF2
 have hq := GL.seg hF1 hL0
 simp only [fcC, cellsC, and_true, Nat.zero_add, Nat.reduceAdd] at hq
 simp only [List.take_succ_cons, List.take_zero, List.drop_succ_cons, List.drop_zero, List.take_nil, List.drop_nil]
 repeat (go_big_quiet_step (first | fail | (go_at_call 33; with_reducible exact seg_call hF2 HA.out _) | (go_at_call 27; with_reducible exact seg_call hF2 HB.out _)))
 refine wpQuiet_nil ?_
 clear hq hF1 hF2 iα F α
 refine lex_new [.int .u64 0, .string ⟨#[]⟩, .bool false, .int .u64 0, .string ⟨#[]⟩] 9 34 34 rfl rfl (of_decide_eq_true (by kernel_rfl)) (by kernel_rfl) rfl new_frac ?_
 simp only [Act.put, List.setIfInBounds_toArray, List.set_cons_succ, List.set_cons_zero]
 refine lex_put [.int .u64 ((zl r.num : Nat) : Int), .string (zh r.num), .bool (zs r.num), .int .u64 ((lo (fe r) : Nat) : Int), .string (hs (fe r))] [.int .u64 0, .string ⟨#[]⟩, .bool false, .int .u64 0, .string ⟨#[]⟩] 9 34 (.tmp 29) rfl (by kernel_rfl) (by simp [toG, upd]) rfl (fun w k h => put_frac _ _ _ _ _ _ _ _ _ _ w k h) ?_
 simp only [Act.put]
 refine lexG_nil ?_
 intro κ x7 hS
 replace hL0 := hL0.ghs hS [(9, [.int .u64 ((zl r.num : Nat) : Int), .string (zh r.num), .bool (zs r.num), .int .u64 ((lo (fe r) : Nat) : Int), .string (hs (fe r))])] (by simp) (by intro p hp; simp only [List.mem_cons, List.not_mem_nil, or_false] at hp; rcases hp with rfl <;> exact ⟨_, by simp only [toG, upd]; rfl⟩)
 simp only [List.map_cons, List.map_nil, List.cons_append, List.nil_append] at hL0
 simp only [over_toG, over_nil, Act.put, List.setIfInBounds_toArray, List.set_cons_succ, List.set_cons_zero]
 clear hS
 generalize κ 9 = k7_9 at *
 have hN0 := cells_of _ 0 [] rfl (hL0.get _ _ List.mem_cons_self)
 simp only [cellsF, and_true, Nat.zero_add, Nat.reduceAdd] at hN0
 go_wp2_with fail
 clear hN0
 with_reducible refine Calls.mono (SR.out _) ?_
 rintro e x8 ⟨rfl, hb⟩
 replace hL0 := hL0.call hb
 clear hb
 go_upto_region 7 with fail
 obtain ⟨α, iα, F, hF1, hF2⟩ := cls x8
 have hq0 := cls_box hF1 hL0 _ _ List.mem_cons_self
 simp only [cellsC, and_true, Nat.zero_add, Nat.reduceAdd] at hq0
 have hq1 := cls_box hF1 hL0 _ _ (List.mem_cons_of_mem _ (List.mem_cons_of_mem _ List.mem_cons_self))
 simp only [cellsC, and_true, Nat.zero_add, Nat.reduceAdd] at hq1
 have hq2 := cls_box hF1 hL0 _ _ (List.mem_cons_of_mem _ (List.mem_cons_of_mem _ (List.mem_cons_of_mem _ List.mem_cons_self)))
 simp only [cellsC, and_true, Nat.zero_add, Nat.reduceAdd] at hq2
 refine region_qs 10 (C := fun w' => ∃ x, w' = F x) (by kernel_rfl) (by kernel_rfl) (cls_drew hF2) ?_
 simp only [List.take_succ_cons, List.take_zero, List.drop_succ_cons, List.drop_zero, List.take_nil, List.drop_nil]
 repeat (go_big_quiet_step (first | fail | (go_at_call 29; with_reducible exact cls_call hF1 hF2 HI.out _) | (go_at_call 28; with_reducible exact cls_call hF1 hF2 HM.out _) | (go_at_call 28; with_reducible exact cls_call hF1 hF2 HN.out _) | (go_at_call 42; with_reducible exact cls_call hF1 hF2 HQ.out _) | (go_at_call 26; with_reducible exact cls_call hF1 hF2 HC.out _)))
 refine wpQuiet_nil ?_
 rintro wq ⟨xq, rfl⟩
 replace hL0 := hL0.call (hF1 xq)
 clear  hq0 hq1 hq2 hF2
 generalize F xq = x9 at hL0 ⊢
 clear hF1 xq iα F α
 go_wp2_with fail
 exact bodyPost_ret (v := .tuple #[.int .i64 o, .int .i64 0]) (by simp [results, Tryz.results44, go_sem]) rfl ⟨rfl, hL0.bl⟩
theorem infoR : (Tryz.prog.info? 34).map (fun i => (i.zero, i.size, i.bytes)) = some (some (.agg #[.int .u64 0, .string ⟨#[]⟩, .bool false, .int .u64 0, .string ⟨#[]⟩]), 5, 56) := by kernel_rfl
theorem hd_newsR {w : World} {k : Nat} {c : List Value} (h : Hd w k c) : ∀ (j : Nat) (u : Value), c[j]? = some u → w.cell? ((⟨k, 0, none⟩ : Addr).add j) = some u := by
 intro j u hu
 obtain ⟨hj, he⟩ := List.getElem?_eq_some_iff.1 hu
 rw [add0, h.cell j hj, he]
set_option maxHeartbeats 4000000 in
set_option maxRecDepth 100000 in
theorem ordered_nil (a b c : Int) (p r : Rat) (HA : ∀ w, Calls Tryz.prog 29 #[.int .i64 a] w fun xe w' => xe = .returned (fracV p) ∧ Below w.heap.size w w') (HB : ∀ w, Calls Tryz.prog 29 #[.int .i64 b] w fun xe w' => xe = .returned (fracV r) ∧ Below w.heap.size w w')
  (HO : ∀ w, Calls Tryz.prog 44 #[fracV p, fracV r, .slice none 0 0] w fun xe w' => xe = .returned (.tuple #[.int .i64 c, .int .i64 0]) ∧ Below w.heap.size w w') (w : World) :
  Calls Tryz.prog 100 #[.int .i64 a, .int .i64 b, .slice none 0 0] w fun xe w' => xe = .returned (.int .i64 c) ∧ Below w.heap.size w w' := by
 replace HA := Lib.hid HA
 replace HB := Lib.hid HB
 replace HO := Lib.hid HO
 go_enter Tryz.func100, Tryz.ntmps100
 go_wp2_with fail
 go_loopw [7, 8] (fun v z wr => v = .slice none 0 0 ∧ z = .int .i64 0 ∧ wr = w) (fun _ _ _ => 0)
 case atStart => exact ⟨rfl, rfl, rfl⟩
 case round =>
  obtain ⟨rfl, rfl, rfl⟩ := hrel
  go_wp2_with fail
  with_reducible refine Calls.mono (HA.out _) ?_
  rintro e x1 ⟨rfl, b1⟩
  go_wp2_with fail
  with_reducible refine Calls.mono (HB.out _) ?_
  rintro e x2 ⟨rfl, b2⟩
  replace b1 := b1.trans (b2.mono b1.size)
  clear b2
  go_wp2_with fail
  with_reducible refine Calls.mono (HO.out _) ?_
  rintro e x3 ⟨rfl, b3⟩
  replace b1 := b1.trans (b3.mono b1.size)
  clear b3
  go_wp2_with fail
  go_ret
  exact ⟨rfl, b1⟩
set_option maxHeartbeats 4000000 in
set_option maxRecDepth 100000 in
theorem ordered_one (a b k c : Int) (p r q : Rat) (HA : ∀ w, Calls Tryz.prog 29 #[.int .i64 a] w fun xe w' => xe = .returned (fracV p) ∧ Below w.heap.size w w') (HB : ∀ w, Calls Tryz.prog 29 #[.int .i64 b] w fun xe w' => xe = .returned (fracV r) ∧ Below w.heap.size w w')
  (HK : ∀ w, Calls Tryz.prog 29 #[.int .i64 k] w fun xe w' => xe = .returned (fracV q) ∧ Below w.heap.size w w')
  (HO : ∀ v w, SlQ w v [q] → Calls Tryz.prog 44 #[fracV p, fracV r, v] w fun xe w' => xe = .returned (.tuple #[.int .i64 c, .int .i64 0]) ∧ Below w.heap.size w w') (g : Nat) (w : World) (hg : Hd w g [.int .i64 k]) :
  Calls Tryz.prog 100 #[.int .i64 a, .int .i64 b, .slice (some ⟨g, 0, none⟩) 1 1] w fun xe w' => xe = .returned (.int .i64 c) ∧ Below w.heap.size w w' := by
 obtain ⟨iF, hi, hz0, hz1, hz2⟩ := info_parts infoR
 replace hz0 := Lib.hid hz0
 replace hi := Lib.hid hi
 replace hz1 := Lib.hid hz1
 replace hz2 := Lib.hid hz2
 replace HA := Lib.hid HA
 replace HB := Lib.hid HB
 replace HK := Lib.hid HK
 replace HO := Lib.hid HO
 have hc0 : w.cell? ⟨g, 0, none⟩ = some (.int .i64 k) := hg.cell 0 (show 0 < 1 by decide)
 have hgl := hg.lt
 clear hg
 replace hc0 := Lib.hid hc0
 go_enter Tryz.func100, Tryz.ntmps100
 go_wp2_with fail
 go_loopw [7, 8] (fun v z wr => ∃ (i : Nat) (zi : Int), i ≤ 1 ∧ z = .int .i64 zi ∧ zi = (i : Int) ∧ wr.ownsRow w.heap.size 34 5 v i (frCs (([q] : List Rat).take i)) ∧ GL w wr []) (fun _ z _ => 1 - (intOf z).toNat)
 case atStart => exact ⟨0, _, Nat.zero_le _, rfl, rfl, by rw [List.take_zero, frCs_nil]; exact World.ownsRow_nil _ _ _ _, GL.start w⟩
 case round =>
  obtain ⟨i, zi, hi1, rfl, hzi, hown, hL0⟩ := hrel
  have hc1 : wr.cell? ⟨g, 0, none⟩ = some (.int .i64 k) := (hL0.bl.cell (p := ⟨g, 0, none⟩) hgl).trans hc0.out
  rcases Nat.lt_or_ge i 1 with hin | hin
  ·obtain rfl : i = 0 := by omega
   subst hzi
   go_wp2_with fail
   with_reducible refine Calls.mono (HK.out _) ?_
   rintro e x2 ⟨rfl, hb⟩
   have hown2 := own_below hown hb
   replace hL0 := hL0.call hb
   clear hb hown hc1
   replace hL0 := hL0.new rfl [.int .u64 ((zl q.num : Nat) : Int), .string (zh q.num), .bool (zs q.num), .int .u64 ((lo (fe q) : Nat) : Int), .string (hs (fe q))] 34
   generalize hweq : x2.alloc (.cells #[.int .u64 ((zl q.num : Nat) : Int), .string (zh q.num), .bool (zs q.num), .int .u64 ((lo (fe q) : Nat) : Int), .string (hs (fe q))] 34) = x3 at hL0
   have hown3 := own_below hown2 (show Below x2.heap.size x2 x3 by rw [← hweq]; exact (Below.refl _ _).alloc (Nat.le_refl _) _)
   clear hown2
   have hnw := hd_newsR (hL0.get _ _ List.mem_cons_self)
   have hszx := hL0.bl.size
   replace hnw := Lib.hid hnw
   replace hown3 := Lib.hid hown3
   replace hszx := Lib.hid hszx
   have hne : ∀ u ∈ ([.int .u64 ((zl q.num : Nat) : Int), .string (zh q.num), .bool (zs q.num), .int .u64 ((lo (fe q) : Nat) : Int), .string (hs (fe q))] : List Value), u.oneCell' = true := frC_one q
   replace hne := Lib.hid hne
   go_wp2_with (at_builtin; refine wpList_append_own _ rfl _ _ 81 rfl w.heap.size 34 iF (.agg #[.int .u64 0, .string ⟨#[]⟩, .bool false, .int .u64 0, .string ⟨#[]⟩]) 5 56 Tryz.underlying81 hi.out hz0.out hz1.out hz2.out rfl (by decide) _ _ _ rfl hown3.out ⟨x2.heap.size, 0, none⟩ 1 1 [.int .u64 ((zl q.num : Nat) : Int), .string (zh q.num), .bool (zs q.num), .int .u64 ((lo (fe q) : Nat) : Int), .string (hs (fe q))] rfl rfl hnw.out hne.out (by unfold maxLen; omega) (by omega) hszx.out ?_)
   intro v' w1 hown' hgrow _
   have hown4 : w1.ownsRow w.heap.size 34 5 v' 1 (frCs (([q] : List Rat).take 1)) := by rw [show frCs (([q] : List Rat).take 1) = frCs (([q] : List Rat).take 0) ++ frC q by simp [frCs]]; exact hown'
   have hb4 : Below w.heap.size x3 w1 := (Below.refl w.heap.size x3).grown hgrow hszx.out (fun j hj => (hown3.out.lt j hj).1)
   replace hL0 := (hL0.weak (List.nil_sublist _)).belowB hb4 (fun p hp => by cases hp) (Nat.le_refl _)
   clear hown' hgrow hb4 hown3 hnw hne hweq hszx
   replace hown4 := Lib.hid hown4
   go_wp2_with fail
   go_roundw
   case rel => exact ⟨1, _, by omega, by first | rfl | go_num, by omega, hown4.out, hL0⟩
   case measure => simp [intOf] <;> omega
  ·obtain rfl : i = 1 := by omega
   subst hzi
   have hS := own_slq hown rfl
   rw [List.take_of_length_le (by simp)] at hS
   replace hS := Lib.hid hS
   have hb1 := hL0.bl
   clear hown hc1 hL0
   go_wp2_with fail
   with_reducible refine Calls.mono (HA.out _) ?_
   rintro e x1 ⟨rfl, b1⟩
   replace hS := Lib.hid (hS.out.below b1)
   replace hb1 := hb1.trans (b1.mono hb1.size)
   clear b1
   go_wp2_with fail
   with_reducible refine Calls.mono (HB.out _) ?_
   rintro e x2 ⟨rfl, b2⟩
   replace hS := Lib.hid (hS.out.below b2)
   replace hb1 := hb1.trans (b2.mono hb1.size)
   clear b2
   go_wp2_with fail
   with_reducible refine Calls.mono (HO.out _ _ hS.out) ?_
   rintro e x3 ⟨rfl, b3⟩
   replace hb1 := hb1.trans (b3.mono hb1.size)
   clear b3
   go_wp2_with fail
   go_ret
   exact ⟨rfl, hb1⟩
end Go.Proofs.YtdkjckiialnpnaaGreatDoor
namespace Go.Proofs.YtdkjckiialnpnaaGreatDoor
open Go.RowKit
/-- What Order returns where all numbers are not negative. -/
def ordQ (a b s : Rat) : Int := if s - (a + b) < 0 then 1 else cmpQ (((4 : Int) : Rat) * (a * b)) ((s - (a + b)) * (s - (a + b)))
end Go.Proofs.YtdkjckiialnpnaaGreatDoor
namespace Go.Proofs.YtdkjckiialnpnaaGreatDoor
open Go.RowKit
def ordC (a b s : Rat) : Int := if a < 0 ∨ b < 0 ∨ s < 0 then 1 else 0
def ordV (a b s : Rat) : Int := if a < 0 ∨ b < 0 ∨ s < 0 then 0 else ordQ a b s
theorem four_i (w : World) : Calls Tryz.prog 29 #[.int .i64 4] w fun x w' => x = .returned (fracV ((4 : Int) : Rat)) ∧ Below w.heap.size w w' := intF 4 (by decide) (by decide) w
theorem four_sz : Sz ((4 : Int) : Rat) 1 := szc _ (by decide) (by decide)
theorem orderR (a b : Rat) (ao : Option Addr) (n c : Nat) (qs : List Rat) (k : Nat) (ha : Sz a k) (hb : Sz b k) (hk : k ≤ 1000) (hl : qs.length ≤ 1000) (hs : ∀ q ∈ qs, Sz q 10) (hz : Sz (qsum qs) k) (w : World) (h : SlQ w (.slice ao n c) qs) :
  Calls Tryz.prog 44 #[fracV a, fracV b, .slice ao n c] w fun xe w' => xe = .returned (.tuple #[.int .i64 (ordV a b (qsum qs)), .int .i64 (ordC a b (qsum qs))]) ∧ Below w.heap.size w w' := by
 have HL : ∀ w, SlQ w (.slice ao n c) qs → _ := fun w h => sumF ao n c qs 10 (by omega) hl hs w h
 generalize qsum qs = s at *
 have KK := SlQ.keeps (.slice ao n c) qs
 by_cases h1 : a < 0
 ·rw [show ordV a b s = 0 by unfold ordV; rw [if_pos (.inl h1)], show ordC a b s = 1 by unfold ordC; rw [if_pos (.inl h1)]]
  exact order_a ao n c a b s _ _ KK HL (signF a) (by rw [sgn_neg']; exact decide_eq_true h1) w h
 by_cases h2 : b < 0
 ·rw [show ordV a b s = 0 by unfold ordV; rw [if_pos (.inr (.inl h2))], show ordC a b s = 1 by unfold ordC; rw [if_pos (.inr (.inl h2))]]
  exact order_b ao n c a b s _ _ _ KK HL (signF a) (signF b) (by rw [sgn_neg']; exact decide_eq_false h1) (by rw [sgn_neg']; exact decide_eq_true h2) w h
 by_cases h3 : s < 0
 ·rw [show ordV a b s = 0 by unfold ordV; rw [if_pos (.inr (.inr h3))], show ordC a b s = 1 by unfold ordC; rw [if_pos (.inr (.inr h3))]]
  exact order_s ao n c a b s _ _ _ _ KK HL (signF a) (signF b) (signF s) (by rw [sgn_neg']; exact decide_eq_false h1) (by rw [sgn_neg']; exact decide_eq_false h2) (by rw [sgn_neg']; exact decide_eq_true h3) w h
 have hno : ¬ (a < 0 ∨ b < 0 ∨ s < 0) := by rintro (g | g | g) <;> contradiction
 rw [show ordV a b s = ordQ a b s by unfold ordV; rw [if_neg hno], show ordC a b s = 0 by unfold ordC; rw [if_neg hno]]
 have hA := fun w => addF a b k ha hb (by omega) w
 have hB := fun w => subF s (a + b) (k + k + 1) (hz.mono (by omega)) (ha.add hb) (by omega) w
 have sr : Sz (s - (a + b)) (k + (k + k + 1) + 1) := hz.sub (ha.add hb)
 by_cases h4 : s - (a + b) < 0
 ·rw [show ordQ a b s = 1 by unfold ordQ; rw [if_pos h4]]
  exact order_gt ao n c a b s (a + b) (s - (a + b)) _ _ _ _ _ KK HL (signF a) (signF b) (signF s) hA hB (signF _) (by rw [sgn_neg']; exact decide_eq_false h1) (by rw [sgn_neg']; exact decide_eq_false h2) (by rw [sgn_neg']; exact decide_eq_false h3) (by rw [sgn_neg']; exact decide_eq_true h4) w h
 ·rw [show ordQ a b s = cmpQ (((4 : Int) : Rat) * (a * b)) ((s - (a + b)) * (s - (a + b))) by unfold ordQ; rw [if_neg h4]]
  exact order_cmp ao n c a b s (a + b) (s - (a + b)) _ (a * b) (((4 : Int) : Rat) * (a * b)) ((s - (a + b)) * (s - (a + b))) _ _ _ _ _ _ KK HL (signF a) (signF b) (signF s) hA hB (signF _) four_i (fun w => mulF a b k ha hb (by omega) w) (fun w => mulF _ _ (k + k + 1) (four_sz.mono (by omega)) ((ha.mul hb).mono (by omega)) (by omega) w)
   (fun w => squareF _ _ sr (by omega) w) (fun w => cmpF _ _ (8 * k + 8) ((four_sz.mul (ha.mul hb)).mono (by omega)) ((sr.mul sr).mono (by omega)) (by omega) w)
   (by rw [sgn_neg']; exact decide_eq_false h1) (by rw [sgn_neg']; exact decide_eq_false h2) (by rw [sgn_neg']; exact decide_eq_false h3) (by rw [sgn_neg']; exact decide_eq_false h4) w h
theorem ofR (n d : Int) (a1 : -9223372036854775808 ≤ n) (a2 : n < 9223372036854775808) (b1 : -9223372036854775808 ≤ d) (b2 : d < 9223372036854775808) (h0 : d ≠ 0) (w : World) :
  Calls Tryz.prog 97 #[.int .i64 n, .int .i64 d] w fun x w' => x = .returned (fracV ((n : Rat) / (d : Rat))) ∧ Below w.heap.size w w' := rof_w n d 0 _ (ofF n d a1 a2 b1 b2 h0) w
theorem below_ex {p m k : Nat} {q x : Rat} (hm : (scaleR p q).floor.natAbs = m) (h1 : k * k ≤ m) (h2 : m < (k + 1) * (k + 1)) (hx : ((k : Nat) : Rat) * stepR p = x) : below p q = x := by
 unfold below rtL; rw [hm, ← isq_uniq h1 h2]; exact hx
theorem above_same {p m k : Nat} {q x : Rat} (hm : (scaleR p q).floor.natAbs = m) (h1 : k * k ≤ m) (h2 : m < (k + 1) * (k + 1)) (hs : ((k : Nat) : Rat) * ((k : Nat) : Rat) = scaleR p q) (hx : ((k : Nat) : Rat) * stepR p = x) : above p q = x := by
 have e : rtL (scaleR p q) = k := by unfold rtL; rw [hm, ← isq_uniq h1 h2]
 unfold above rtH; rw [e, if_pos hs]; exact hx
theorem above_next {p m k : Nat} {q x : Rat} (hm : (scaleR p q).floor.natAbs = m) (h1 : k * k ≤ m) (h2 : m < (k + 1) * (k + 1)) (hs : ¬ ((k : Nat) : Rat) * ((k : Nat) : Rat) = scaleR p q) (hx : ((k + 1 : Nat) : Rat) * stepR p = x) : above p q = x := by
 have e : rtL (scaleR p q) = k := by unfold rtL; rw [hm, ← isq_uniq h1 h2]
 unfold above rtH; rw [e, if_neg hs]; exact hx
theorem both_ex {q x y : Rat} {p : Nat} {s t r : ByteArray} (hp : p ≤ 100) (h0 : 0 ≤ q) (hq : Sz q 1) (hx : below p q = x) (hy : above p q = y) (hs : qtxt x = s) (ht : qtxt y = t) (h1 : s.size ≤ 100) (h2 : t.size ≤ 100) (hr : s ++ ByteArray.mk #[32] ++ t = r) :
  ∀ w, Tab w → Calls Tryz.prog 98 #[fracV q, .int .i64 (p : Int)] w fun xe w' => xe = .returned (.string r) ∧ Below w.heap.size w w' := by
 intro w htab
 have hB := fun w => belowR q p 1 hq (by omega) w
 have hA := fun w => aboveR q p 1 hq (by omega) w
 rw [(rtV_ok below hp h0).1, (rtV_ok below hp h0).2, hx] at hB
 rw [(rtV_ok above hp h0).1, (rtV_ok above hp h0).2, hy] at hA
 have sx := below_sz hq hp
 have sy := above_sz hq hp
 rw [hx] at sx
 rw [hy] at sy
 have hT := fun w htab => textF x _ sx (by omega) w htab
 have hU := fun w htab => textF y _ sy (by omega) w htab
 rw [hs] at hT
 rw [ht] at hU
 rw [← hr]
 exact rboth_w q x y p 0 0 s t hB hA hT hU (by omega) (by omega) w htab
theorem text_ex {q : Rat} {s : ByteArray} (k : Nat) (hq : Sz q k) (hk : k ≤ 1000) (hs : qtxt q = s) : ∀ w, Tab w → Calls Tryz.prog 99 #[fracV q, .string s] w fun xe w' => xe = .returned (.bool true) ∧ Below w.heap.size w w' := by
 intro w htab
 have hT := fun w htab => textF q k hq (by omega) w htab
 rw [hs] at hT
 exact rtext_w q s hT w htab
theorem exact_ex {q r : Rat} (hq : Sz q 1) (h : r * r = q) (h0 : absQ r = r) : ∀ w, Calls Tryz.prog 43 #[fracV q] w fun e w' => e = .returned (.tuple #[fracV r, .bool true]) ∧ Below w.heap.size w w' := by
 intro w
 have hx := rootQ_is h
 have := exactR q 1 hq (by omega) w
 rwa [show exV q = r by unfold exV; rw [if_pos hx.1, hx.2, h0], show exB q = true from decide_eq_true hx.1] at this
theorem exact_no_ex {q : Rat} {m d x y : Nat} (hq : Sz q 1) (hm : q.num.natAbs = m) (hd : q.den = d) (h1 : x * x ≤ m) (h2 : m < (x + 1) * (x + 1)) (h3 : y * y ≤ d) (h4 : d < (y + 1) * (y + 1)) (hne : ¬ mkRat x y * mkRat x y = q) : ∀ w, Calls Tryz.prog 43 #[fracV q] w fun e w' => e = .returned (.tuple #[fracV 0, .bool false]) ∧ Below w.heap.size w w' := by
 intro w
 have e : rootQ q = mkRat x y := by unfold rootQ; rw [hm, hd, ← isq_uniq h1 h2, ← isq_uniq h3 h4]
 have hn : ¬ rootQ q * rootQ q = q := by rw [e]; exact hne
 have := exactR q 1 hq (by omega) w
 rwa [show exV q = 0 by unfold exV; rw [if_neg hn], show exB q = false from decide_eq_false hn] at this
theorem int_ex (z : Int) (h1 : -9223372036854775808 ≤ z) (h2 : z < 9223372036854775808) : ∀ w, Calls Tryz.prog 29 #[.int .i64 z] w fun x w' => x = .returned (fracV (z : Rat)) ∧ Below w.heap.size w w' := fun w => intF z h1 h2 w
theorem qsum_nil : qsum [] = 0 := rfl
theorem qsum_one (q : Rat) : qsum [q] = q := by show 0 + q = q; exact Rat.zero_add q
theorem order_ex {a b : Int} {q : Rat} {c : Int} (ha : Sz (a : Rat) 1) (hb : Sz (b : Rat) 1) (hq : Sz q 1) (h : ordV (a : Rat) (b : Rat) q = c) (h0 : ordC (a : Rat) (b : Rat) q = 0) : ∀ v w, SlQ w v [q] → Calls Tryz.prog 44 #[fracV (a : Rat), fracV (b : Rat), v] w fun xe w' => xe = .returned (.tuple #[.int .i64 c, .int .i64 0]) ∧ Below w.heap.size w w' := by
 intro v w hS
 have hv : ∃ ao n cc, v = .slice ao n cc := by
  rcases hS with ⟨ao, cc, e, _⟩ | ⟨g, cc, e, _⟩
  ·exact ⟨_, _, _, e⟩
  ·exact ⟨_, _, _, e⟩
 obtain ⟨ao, n, cc, rfl⟩ := hv
 have := orderR (a : Rat) (b : Rat) ao n cc [q] 1 ha hb (by omega) (by simp) (fun x hx => by rw [show x = q by simpa using hx]; exact hq.mono (by omega)) (by rw [qsum_one]; exact hq) w hS
 rwa [qsum_one, h, h0] at this
theorem q_abs {r : Rat} (h : 0 ≤ r) : absQ r = r := by unfold absQ; split <;> grind
theorem t_11_8 : qtxt (mkRat 11 8) = ByteArray.mk #[49, 49, 47, 56] := by
 rw [qt_part (d := 8) (z := 11) (by decide +kernel) (by decide) (by decide +kernel), txt1 8 (by decide)]
 unfold ztxt
 rw [if_neg (by omega), show ((11 : Int).natAbs) = 11 from rfl]
 unfold txt
 rw [show Lib.decDigits 11 = [49, 49] by decide +kernel]; rfl
theorem t_3_2 : qtxt (mkRat 3 2) = ByteArray.mk #[51, 47, 50] := by
 rw [qt_part (d := 2) (z := 3) (by decide +kernel) (by decide) (by decide +kernel), txt1 2 (by decide), show ztxt (3 : Int) = _ from zt_pos 3 (by decide)]; rfl
theorem t_1_2 : qtxt (mkRat 1 2) = ByteArray.mk #[49, 47, 50] := by
 rw [qt_part (d := 2) (z := 1) (by decide +kernel) (by decide) (by decide +kernel), txt1 2 (by decide), show ztxt (1 : Int) = _ from zt_pos 1 (by decide)]; rfl
theorem t_1 : qtxt (1 : Rat) = ByteArray.mk #[49] := (qt_int (z := 1) (by decide +kernel) (by decide +kernel)).trans (zt_pos 1 (by decide))
theorem t_2 : qtxt (2 : Rat) = ByteArray.mk #[50] := (qt_int (z := 2) (by decide +kernel) (by decide +kernel)).trans (zt_pos 2 (by decide))
theorem t_0 : qtxt (0 : Rat) = ByteArray.mk #[48] := (qt_int (z := 0) (by decide +kernel) (by decide +kernel)).trans (zt_pos 0 (by decide))
theorem rworksR (w : World) (htab : Tab w) : Calls Tryz.prog 35 #[] w fun e w' => e = .returned (.bool true) ∧ Below w.heap.size w w' := by
 have F4 := fun w => ofR 1 4 (by decide) (by decide) (by decide) (by decide) (by decide) w
 rw [show ((1 : Int) : Rat) / ((4 : Int) : Rat) = mkRat 1 4 by rw [← of_val_q 1 4 (by decide)]; rfl] at F4
 have F9 := fun w => ofR 9 4 (by decide) (by decide) (by decide) (by decide) (by decide) w
 rw [show ((9 : Int) : Rat) / ((4 : Int) : Rat) = mkRat 9 4 by rw [← of_val_q 9 4 (by decide)]; rfl] at F9
 have S {z : Int} (h : z.natAbs < 18446744073709551616 := by decide) : Sz (z : Rat) 1 := szc _ h (by show 1 < _; decide)
 exact rworks_w (mkRat 1 4) ((2 : Int) : Rat) ((0 : Int) : Rat) (mkRat 9 4) ((-4 : Int) : Rat) (mkRat 3 2) 0 0 0 F4 (int_ex 2 (by decide) (by decide)) Tab Keeps.tab
  (both_ex (p := 0) (x := 1) (y := 2) (by decide) (by decide) S (below_ex (m := 2) (k := 1) (by decide +kernel) (by decide) (by decide) (by decide +kernel)) (above_next (m := 2) (k := 1) (by decide +kernel) (by decide) (by decide) (by decide +kernel) (by decide +kernel)) t_1 t_2 (by decide) (by decide) rfl)
  (both_ex (p := 3) (x := mkRat 11 8) (y := mkRat 3 2) (by decide) (by decide) S (below_ex (m := 128) (k := 11) (by decide +kernel) (by decide) (by decide) (by decide +kernel)) (above_next (m := 128) (k := 11) (by decide +kernel) (by decide) (by decide) (by decide +kernel) (by decide +kernel)) t_11_8 t_3_2 (by decide) (by decide) rfl)
  (both_ex (p := 1) (x := mkRat 1 2) (y := mkRat 1 2) (by decide) (by decide +kernel) (szc _ (by decide +kernel) (by decide +kernel)) (below_ex (m := 1) (k := 1) (by decide +kernel) (by decide) (by decide) (by decide +kernel)) (above_same (m := 1) (k := 1) (by decide +kernel) (by decide) (by decide) (by decide +kernel) (by decide +kernel)) t_1_2 t_1_2 (by decide) (by decide) rfl)
  (both_ex (p := 0) (x := 0) (y := 1) (by decide) (by decide +kernel) (szc _ (by decide +kernel) (by decide +kernel)) (below_ex (m := 0) (k := 0) (by decide +kernel) (by decide) (by decide) (by decide +kernel)) (above_next (m := 0) (k := 0) (by decide +kernel) (by decide) (by decide) (by decide +kernel) (by decide +kernel)) t_0 t_1 (by decide) (by decide) rfl)
  (int_ex 0 (by decide) (by decide))
  (both_ex (p := 5) (x := 0) (y := 0) (by decide) (by decide) S (below_ex (m := 0) (k := 0) (by decide +kernel) (by decide) (by decide) (by decide +kernel)) (above_same (m := 0) (k := 0) (by decide +kernel) (by decide) (by decide) (by decide +kernel) (by decide +kernel)) t_0 t_0 (by decide) (by decide) rfl)
  F9 (exact_ex (szc _ (by decide +kernel) (by decide +kernel)) (by decide +kernel) (q_abs (by decide +kernel)))
  (exact_no_ex (m := 2) (d := 1) (x := 1) (y := 1) S (by decide) (by decide) (by decide) (by decide) (by decide) (by decide) (by decide +kernel))
  (exact_ex S (by decide +kernel) (q_abs (by decide +kernel))) (int_ex (-4) (by decide) (by decide))
  (exact_no_ex (m := 4) (d := 1) (x := 2) (y := 1) S (by decide) (by decide) (by decide) (by decide) (by decide) (by decide) (by decide +kernel))
  (text_ex 1 (szc _ (by decide +kernel) (by decide +kernel)) (by decide) t_3_2) (text_ex 1 (szc _ (by decide +kernel) (by decide +kernel)) (by decide) t_0)
  (fun w => ordered_nil 1 0 1 _ _ (int_ex 1 (by decide) (by decide)) (int_ex 0 (by decide) (by decide)) (fun w => by
   have := orderR ((1 : Int) : Rat) ((0 : Int) : Rat) none 0 0 [] 1 S S (by omega) (by simp) (fun x hx => by cases hx) (by rw [qsum_nil]; exact szc _ (by decide) (by decide)) w (.inl ⟨none, 0, rfl, rfl⟩)
   rwa [qsum_nil, show ordV ((1 : Int) : Rat) ((0 : Int) : Rat) 0 = 1 by decide +kernel, show ordC ((1 : Int) : Rat) ((0 : Int) : Rat) 0 = 0 by decide +kernel] at this) w)
  (fun g w hg => ordered_one 1 1 4 0 _ _ _ (int_ex 1 (by decide) (by decide)) (int_ex 1 (by decide) (by decide)) (int_ex 4 (by decide) (by decide)) (order_ex S S S (by decide +kernel) (by decide +kernel)) g w hg)
  (fun g w hg => ordered_one 2 3 5 1 _ _ _ (int_ex 2 (by decide) (by decide)) (int_ex 3 (by decide) (by decide)) (int_ex 5 (by decide) (by decide)) (order_ex S S S (by decide +kernel) (by decide +kernel)) g w hg)
  (fun g w hg => ordered_one 2 3 10 (-1) _ _ _ (int_ex 2 (by decide) (by decide)) (int_ex 3 (by decide) (by decide)) (int_ex 10 (by decide) (by decide)) (order_ex S S S (by decide +kernel) (by decide +kernel)) g w hg)
  (fun g w hg => ordered_one 2 2 8 0 _ _ _ (int_ex 2 (by decide) (by decide)) (int_ex 2 (by decide) (by decide)) (int_ex 8 (by decide) (by decide)) (order_ex S S S (by decide +kernel) (by decide +kernel)) g w hg)
  w htab
end Go.Proofs.YtdkjckiialnpnaaGreatDoor
namespace Go.Proofs.YtdkjckiialnpnaaGreatDoor
open Go.RowKit
section
variable {P : Program} {ops : Array Oper} {C : World → Prop}
/-- How many of the first n have not come up. -/
def left (n : Nat) (listed : Array Bool) : Nat := (List.range n).countP fun i => !listed.getD i false
end
end Go.Proofs.YtdkjckiialnpnaaGreatDoor
namespace Go.Proofs.YtdkjckiialnpnaaGreatDoor
open Go.RowKit
theorem cm_le {x y : Rat} (h : x ≤ y) : decide (0 < cmpQ x y) = false := by
 rw [cmpQ_gt]; exact decide_eq_false (by grind)
theorem absR_sz {q : Rat} {k : Nat} (h : Sz q k) : Sz (absQ q) k := by
 unfold absQ; split
 ·exact h.neg
 ·exact h
end Go.Proofs.YtdkjckiialnpnaaGreatDoor
namespace Go.Proofs.YtdkjckiialnpnaaGreatDoor
open Go.ChangeShapes Go.WideShapes Go.ChangeAt Go.RowKit
theorem own : ownKnob Tryz.prog.godebug = none := by kernel_rfl
theorem laidOut : laidOutB Tryz.prog = true := by kernel_rfl
theorem cells24 : Tryz.prog.cellsOf 28 = 1 := by kernel_rfl
/-- The variables that every row of this layer lists. -/
def laidAll : List (String × DataW Unit) := [("math/bits.deBruijn32tab", Rows.laid_math_bits_deBruijn32tab), ("math/bits.deBruijn64tab", Rows.laid_math_bits_deBruijn64tab), ("internal/strconv.uint64pow10", Rows.laid_internal_strconv_uint64pow10)]
theorem gPow : Tryz.prog.globalNamed "internal/strconv.uint64pow10" = some 4 := by kernel_rfl
theorem gPowType : (Tryz.prog.globals[4]?).map (·.type) = some 289 := by kernel_rfl
theorem cells20 : Tryz.prog.cellsOf 289 = 20 := by kernel_rfl
theorem tab_of {W : World} (h : laidMetH Tryz.prog laidAll W) : Tab W := by
 have h1 := laidMetH.filter (fun x => x.1 == "internal/strconv.uint64pow10") h
 have e : laidAll.filter (fun x => x.1 == "internal/strconv.uint64pow10") = [("internal/strconv.uint64pow10", Rows.laid_internal_strconv_uint64pow10)] := by kernel_rfl
 rw [e, MakeChecks.laidMetH_plain _ _ _ (by kernel_rfl)] at h1
 exact Lib.tabIs_of_head (rest := []) gPow gPowType Tryz.underlying289 Tryz.underlying28 cells24 cells20 (show laidMet Tryz.prog (("internal/strconv.uint64pow10", Lib.tabData .u64 Lib.pow10Tab) :: []) W from h1)
end Go.Proofs.YtdkjckiialnpnaaGreatDoor
