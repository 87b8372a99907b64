/-
  The law answers true at every input, and leaves its arguments as they were: a part of the proof. CONDITIONS: the package-level tables start as the program's text lays them (the card ties them).
-/
import Derived.Test.YtdmoadfnogdfnaaGreatDoorZca
import Derived.Test.YtdmoadfnogdfnaaGreatDoorTie
import Derived.Test.YtdmoadfnogdfnaaGreatDoorCards
set_option linter.unusedVariables false
set_option linter.unusedSimpArgs false
namespace Go.Proofs.YtdmoadfnogdfnaaGreatDoor
open Go.RowKit
attribute [local irreducible] lo hs sm s64 c64 d64 b64 mh ml pd pc qd qc val hiB str cmpI srD lz nb isq decB
set_option maxHeartbeats 4000000 in
set_option maxRecDepth 100000 in
theorem abs_any (s : Bool) (m : Nat) (w : World) :
  Calls Tryz.prog 40 #[zV s m] w fun e w' => e = .returned (natV m) ∧ Below w.heap.size w w' := by
 have hL0 : GL w w [] := GL.start w
 replace hL0 := ((hL0.new rfl [.int .u64 ((lo m : Nat) : Int), .string (hs m), .bool s] 39).new (K := w.heap.size + 1) (szA _ _) [.int .u64 0, .string ⟨#[]⟩] 32)
 generalize hweq : ((w.alloc (.cells #[.int .u64 ((lo m : Nat) : Int), .string (hs m), .bool s] 39)).alloc (.cells #[.int .u64 0, .string ⟨#[]⟩] 32)) = x1 at hL0
 go_enter Tryz.func40, Tryz.ntmps40
 have hA := hL0.fc
 simp only [fcG, cellsF, neK, and_true, ne_eq, Nat.zero_add, Nat.reduceAdd] at hA
 have hP := hL0.put 0 (w.heap.size + 1) _ rfl [.int .u64 ((lo m : Nat) : Int), .string (hs m)] rfl
 simp only [setAll, List.set_cons_zero, List.set_cons_succ] at hP
 generalize hput1 : ((x1.setCell ⟨w.heap.size + 1, 0, none⟩ (.int .u64 ((lo m : Nat) : Int))).setCell ⟨w.heap.size + 1, 1, none⟩ (.string (hs m))) = x2 at hP
 have hB1 := hP.fc
 simp only [fcG, cellsF, neK, and_true, ne_eq, Nat.zero_add, Nat.reduceAdd] at hB1
 replace hL0 := hP
 go_wp2_with fail
 exact bodyPost_ret (v := natV m) (by simp [results, Tryz.results40, go_sem, hB1]) rfl ⟨rfl, hL0.bl⟩
set_option maxHeartbeats 4000000 in
set_option maxRecDepth 100000 in
theorem neg_true (m : Nat) (w : World) :
  Calls Tryz.prog 34 #[zV true m] w fun e w' => e = .returned (zV false m) ∧ Below w.heap.size w w' := by
 have hL0 : GL w w [] := GL.start w
 have HF := Lib.hid (fun w => from_any false m w)
 simp only [Bool.false_and] at HF
 replace hL0 := ((hL0.new rfl [.int .u64 ((lo m : Nat) : Int), .string (hs m), .bool true] 39).new (K := w.heap.size + 1) (szA _ _) [.int .u64 0, .string ⟨#[]⟩, .bool false] 39)
 generalize hweq : ((w.alloc (.cells #[.int .u64 ((lo m : Nat) : Int), .string (hs m), .bool true] 39)).alloc (.cells #[.int .u64 0, .string ⟨#[]⟩, .bool false] 39)) = x1 at hL0
 go_enter Tryz.func34, Tryz.ntmps34
 have hA := hL0.fc
 simp only [fcG, cellsF, neK, and_true, ne_eq, Nat.zero_add, Nat.reduceAdd] at hA
 go_wp2_with fail
 clear hA
 with_reducible refine Calls.mono (HF.out _) ?_
 rintro e x2 ⟨rfl, hb⟩
 replace hL0 := hL0.call hb
 clear hb hweq
 have hA := hL0.fc
 simp only [fcG, cellsF, neK, and_true, ne_eq, Nat.zero_add, Nat.reduceAdd] at hA
 have hP := hL0.put 0 (w.heap.size + 1) _ rfl [.int .u64 ((lo m : Nat) : Int), .string (hs m), .bool false] rfl
 simp only [setAll, List.set_cons_zero, List.set_cons_succ] at hP
 generalize hput1 : (((x2.setCell ⟨w.heap.size + 1, 0, none⟩ (.int .u64 ((lo m : Nat) : Int))).setCell ⟨w.heap.size + 1, 1, none⟩ (.string (hs m))).setCell ⟨w.heap.size + 1, 2, none⟩ (.bool false)) = x3 at hP
 have hB1 := hP.fc
 simp only [fcG, cellsF, neK, and_true, ne_eq, Nat.zero_add, Nat.reduceAdd] at hB1
 replace hL0 := hP
 go_wp2_with fail
 exact bodyPost_ret (v := zV false m) (by simp [results, Tryz.results34, go_sem, hB1]) rfl ⟨rfl, hL0.bl⟩
set_option maxHeartbeats 4000000 in
set_option maxRecDepth 100000 in
theorem neg_false (m : Nat) (w : World) :
  Calls Tryz.prog 34 #[zV false m] w fun e w' => e = .returned (zV (decide (m ≠ 0)) m) ∧ Below w.heap.size w w' := by
 have hL0 : GL w w [] := GL.start w
 have HF := Lib.hid (fun w => from_any true m w)
 simp only [Bool.true_and] at HF
 obtain ⟨d, hd⟩ : ∃ d, d = decide (m ≠ 0) := ⟨_, rfl⟩
 rw [← hd] at HF ⊢
 clear hd
 replace hL0 := ((hL0.new rfl [.int .u64 ((lo m : Nat) : Int), .string (hs m), .bool false] 39).new (K := w.heap.size + 1) (szA _ _) [.int .u64 0, .string ⟨#[]⟩, .bool false] 39)
 generalize hweq : ((w.alloc (.cells #[.int .u64 ((lo m : Nat) : Int), .string (hs m), .bool false] 39)).alloc (.cells #[.int .u64 0, .string ⟨#[]⟩, .bool false] 39)) = x1 at hL0
 go_enter Tryz.func34, Tryz.ntmps34
 have hA := hL0.fc
 simp only [fcG, cellsF, neK, and_true, ne_eq, Nat.zero_add, Nat.reduceAdd] at hA
 go_wp2_with fail
 clear hA
 with_reducible refine Calls.mono (HF.out _) ?_
 rintro e x2 ⟨rfl, hb⟩
 replace hL0 := hL0.call hb
 clear hb hweq
 have hA := hL0.fc
 simp only [fcG, cellsF, neK, and_true, ne_eq, Nat.zero_add, Nat.reduceAdd] at hA
 have hP := hL0.put 0 (w.heap.size + 1) _ rfl [.int .u64 ((lo m : Nat) : Int), .string (hs m), .bool d] rfl
 simp only [setAll, List.set_cons_zero, List.set_cons_succ] at hP
 generalize hput1 : (((x2.setCell ⟨w.heap.size + 1, 0, none⟩ (.int .u64 ((lo m : Nat) : Int))).setCell ⟨w.heap.size + 1, 1, none⟩ (.string (hs m))).setCell ⟨w.heap.size + 1, 2, none⟩ (.bool d)) = x3 at hP
 have hB1 := hP.fc
 simp only [fcG, cellsF, neK, and_true, ne_eq, Nat.zero_add, Nat.reduceAdd] at hB1
 replace hL0 := hP
 go_wp2_with fail
 exact bodyPost_ret (v := zV d m) (by simp [results, Tryz.results34, go_sem, hB1]) rfl ⟨rfl, hL0.bl⟩
end Go.Proofs.YtdmoadfnogdfnaaGreatDoor
namespace Go.Proofs.YtdmoadfnogdfnaaGreatDoor
open Go.RowKit
attribute [local irreducible] lo hs sm s64 c64 d64 b64 mh ml pd pc qd qc val hiB str cmpI srD lz nb isq decB
set_option maxHeartbeats 4000000 in
set_option maxRecDepth 100000 in
theorem icmp_true_true (m n : Nat) (w : World) :
  Calls Tryz.prog 38 #[zV true m, zV true n] w fun e w' => e = .returned (.int .i64 (cmpI n m)) ∧ Below w.heap.size w w' := by
 have hL0 : GL w w [] := GL.start w
 replace hL0 := ((hL0.new rfl [.int .u64 ((lo m : Nat) : Int), .string (hs m), .bool true] 39).new (K := w.heap.size + 1) (szA _ _) [.int .u64 ((lo n : Nat) : Int), .string (hs n), .bool true] 39)
 generalize hweq : ((w.alloc (.cells #[.int .u64 ((lo m : Nat) : Int), .string (hs m), .bool true] 39)).alloc (.cells #[.int .u64 ((lo n : Nat) : Int), .string (hs n), .bool true] 39)) = x1 at hL0
 have HC := Lib.hid (fun w => cmp_any n m w)
 go_enter Tryz.func38, Tryz.ntmps38
 have hA := hL0.fc
 simp only [fcG, cellsF, neK, and_true, ne_eq, Nat.zero_add, Nat.reduceAdd] at hA
 go_wp2_with fail
 clear hA
 with_reducible refine Calls.mono (HC.out _) ?_
 rintro e x2 ⟨rfl, hb⟩
 replace hL0 := hL0.call hb
 clear hb hweq
 have hA := hL0.fc
 simp only [fcG, cellsF, neK, and_true, ne_eq, Nat.zero_add, Nat.reduceAdd] at hA
 go_wp2_with fail
 exact bodyPost_ret (v := .int .i64 (cmpI n m)) (by simp [results, Tryz.results38, go_sem, hA]) rfl ⟨rfl, hL0.bl⟩
set_option maxHeartbeats 4000000 in
set_option maxRecDepth 100000 in
theorem icmp_true_false (m n : Nat) (w : World) :
  Calls Tryz.prog 38 #[zV true m, zV false n] w fun e w' => e = .returned (.int .i64 (-1)) ∧ Below w.heap.size w w' := by
 have hL0 : GL w w [] := GL.start w
 replace hL0 := ((hL0.new rfl [.int .u64 ((lo m : Nat) : Int), .string (hs m), .bool true] 39).new (K := w.heap.size + 1) (szA _ _) [.int .u64 ((lo n : Nat) : Int), .string (hs n), .bool false] 39)
 generalize hweq : ((w.alloc (.cells #[.int .u64 ((lo m : Nat) : Int), .string (hs m), .bool true] 39)).alloc (.cells #[.int .u64 ((lo n : Nat) : Int), .string (hs n), .bool false] 39)) = x1 at hL0
 go_enter Tryz.func38, Tryz.ntmps38
 have hA := hL0.fc
 simp only [fcG, cellsF, neK, and_true, ne_eq, Nat.zero_add, Nat.reduceAdd] at hA
 go_wp2_with fail
 exact bodyPost_ret (v := .int .i64 (-1)) (by simp [results, Tryz.results38, go_sem, hA]) rfl ⟨rfl, hL0.bl⟩
set_option maxHeartbeats 4000000 in
set_option maxRecDepth 100000 in
theorem icmp_false_true (m n : Nat) (w : World) :
  Calls Tryz.prog 38 #[zV false m, zV true n] w fun e w' => e = .returned (.int .i64 (1)) ∧ Below w.heap.size w w' := by
 have hL0 : GL w w [] := GL.start w
 replace hL0 := ((hL0.new rfl [.int .u64 ((lo m : Nat) : Int), .string (hs m), .bool false] 39).new (K := w.heap.size + 1) (szA _ _) [.int .u64 ((lo n : Nat) : Int), .string (hs n), .bool true] 39)
 generalize hweq : ((w.alloc (.cells #[.int .u64 ((lo m : Nat) : Int), .string (hs m), .bool false] 39)).alloc (.cells #[.int .u64 ((lo n : Nat) : Int), .string (hs n), .bool true] 39)) = x1 at hL0
 go_enter Tryz.func38, Tryz.ntmps38
 have hA := hL0.fc
 simp only [fcG, cellsF, neK, and_true, ne_eq, Nat.zero_add, Nat.reduceAdd] at hA
 go_wp2_with fail
 exact bodyPost_ret (v := .int .i64 (1)) (by simp [results, Tryz.results38, go_sem, hA]) rfl ⟨rfl, hL0.bl⟩
set_option maxHeartbeats 4000000 in
set_option maxRecDepth 100000 in
theorem icmp_false_false (m n : Nat) (w : World) :
  Calls Tryz.prog 38 #[zV false m, zV false n] w fun e w' => e = .returned (.int .i64 (cmpI m n)) ∧ Below w.heap.size w w' := by
 have hL0 : GL w w [] := GL.start w
 replace hL0 := ((hL0.new rfl [.int .u64 ((lo m : Nat) : Int), .string (hs m), .bool false] 39).new (K := w.heap.size + 1) (szA _ _) [.int .u64 ((lo n : Nat) : Int), .string (hs n), .bool false] 39)
 generalize hweq : ((w.alloc (.cells #[.int .u64 ((lo m : Nat) : Int), .string (hs m), .bool false] 39)).alloc (.cells #[.int .u64 ((lo n : Nat) : Int), .string (hs n), .bool false] 39)) = x1 at hL0
 have HC := Lib.hid (fun w => cmp_any m n w)
 go_enter Tryz.func38, Tryz.ntmps38
 have hA := hL0.fc
 simp only [fcG, cellsF, neK, and_true, ne_eq, Nat.zero_add, Nat.reduceAdd] at hA
 go_wp2_with fail
 clear hA
 with_reducible refine Calls.mono (HC.out _) ?_
 rintro e x2 ⟨rfl, hb⟩
 replace hL0 := hL0.call hb
 clear hb hweq
 have hA := hL0.fc
 simp only [fcG, cellsF, neK, and_true, ne_eq, Nat.zero_add, Nat.reduceAdd] at hA
 go_wp2_with fail
 exact bodyPost_ret (v := .int .i64 (cmpI m n)) (by simp [results, Tryz.results38, go_sem, hA]) rfl ⟨rfl, hL0.bl⟩
end Go.Proofs.YtdmoadfnogdfnaaGreatDoor
namespace Go.Proofs.YtdmoadfnogdfnaaGreatDoor
open Go.RowKit
attribute [local irreducible] lo hs sm s64 c64 d64 b64 mh ml pd pc qd qc val hiB str cmpI srD lz nb isq decB
set_option maxHeartbeats 4000000 in
set_option maxRecDepth 100000 in
theorem byadd_true_true (m n k : Nat) (u : Bool) (H : ∀ w, Calls Tryz.prog 125 #[zV true m, natV n] w fun e w' => e = .returned (zV u k) ∧ Below w.heap.size w w') (w : World) :
  Calls Tryz.prog 124 #[zV true m, zV true n, .func (.func 125) #[] #[], .func (.func 126) #[] #[]] w fun e w' => e = .returned (zV u k) ∧ Below w.heap.size w w' := by
 have hL0 : GL w w [] := GL.start w
 replace H := Lib.hid H
 replace hL0 := (((hL0.new rfl [.int .u64 ((lo m : Nat) : Int), .string (hs m), .bool true] 39).new (K := w.heap.size + 1) (szA _ _) [.int .u64 ((lo n : Nat) : Int), .string (hs n), .bool true] 39).new (K := w.heap.size + 1 + 1) (by simp only [World.size_alloc]) [.int .u64 0, .string ⟨#[]⟩, .bool false] 39)
 generalize hweq : (((w.alloc (.cells #[.int .u64 ((lo m : Nat) : Int), .string (hs m), .bool true] 39)).alloc (.cells #[.int .u64 ((lo n : Nat) : Int), .string (hs n), .bool true] 39)).alloc (.cells #[.int .u64 0, .string ⟨#[]⟩, .bool false] 39)) = x1 at hL0
 go_enter Tryz.func124, Tryz.ntmps124
 have hA := hL0.fc
 simp only [fcG, cellsF, neK, and_true, ne_eq, Nat.zero_add, Nat.reduceAdd] at hA
 go_wp2_with fail
 clear hA
 with_reducible refine Calls.mono (H.out _) ?_
 rintro e x2 ⟨rfl, hb⟩
 replace hL0 := hL0.call hb
 clear hb hweq
 have hA := hL0.fc
 simp only [fcG, cellsF, neK, and_true, ne_eq, Nat.zero_add, Nat.reduceAdd] at hA
 have hP := hL0.put 0 (w.heap.size + 1 + 1) _ rfl [.int .u64 ((lo k : Nat) : Int), .string (hs k), .bool u] rfl
 simp only [setAll, List.set_cons_zero, List.set_cons_succ] at hP
 generalize hput1 : (((x2.setCell ⟨w.heap.size + 1 + 1, 0, none⟩ (.int .u64 ((lo k : Nat) : Int))).setCell ⟨w.heap.size + 1 + 1, 1, none⟩ (.string (hs k))).setCell ⟨w.heap.size + 1 + 1, 2, none⟩ (.bool u)) = x3 at hP
 have hB1 := hP.fc
 simp only [fcG, cellsF, neK, and_true, ne_eq, Nat.zero_add, Nat.reduceAdd] at hB1
 replace hL0 := hP
 go_wp2_with fail
 exact bodyPost_ret (v := zV u k) (by simp [results, Tryz.results124, go_sem, hB1]) rfl ⟨rfl, hL0.bl⟩
set_option maxHeartbeats 4000000 in
set_option maxRecDepth 100000 in
theorem byadd_true_false (m n k : Nat) (u : Bool) (H : ∀ w, Calls Tryz.prog 126 #[zV true m, natV n] w fun e w' => e = .returned (zV u k) ∧ Below w.heap.size w w') (w : World) :
  Calls Tryz.prog 124 #[zV true m, zV false n, .func (.func 125) #[] #[], .func (.func 126) #[] #[]] w fun e w' => e = .returned (zV u k) ∧ Below w.heap.size w w' := by
 have hL0 : GL w w [] := GL.start w
 replace H := Lib.hid H
 replace hL0 := (((hL0.new rfl [.int .u64 ((lo m : Nat) : Int), .string (hs m), .bool true] 39).new (K := w.heap.size + 1) (szA _ _) [.int .u64 ((lo n : Nat) : Int), .string (hs n), .bool false] 39).new (K := w.heap.size + 1 + 1) (by simp only [World.size_alloc]) [.int .u64 0, .string ⟨#[]⟩, .bool false] 39)
 generalize hweq : (((w.alloc (.cells #[.int .u64 ((lo m : Nat) : Int), .string (hs m), .bool true] 39)).alloc (.cells #[.int .u64 ((lo n : Nat) : Int), .string (hs n), .bool false] 39)).alloc (.cells #[.int .u64 0, .string ⟨#[]⟩, .bool false] 39)) = x1 at hL0
 go_enter Tryz.func124, Tryz.ntmps124
 have hA := hL0.fc
 simp only [fcG, cellsF, neK, and_true, ne_eq, Nat.zero_add, Nat.reduceAdd] at hA
 go_wp2_with fail
 clear hA
 with_reducible refine Calls.mono (H.out _) ?_
 rintro e x2 ⟨rfl, hb⟩
 replace hL0 := hL0.call hb
 clear hb hweq
 have hA := hL0.fc
 simp only [fcG, cellsF, neK, and_true, ne_eq, Nat.zero_add, Nat.reduceAdd] at hA
 have hP := hL0.put 0 (w.heap.size + 1 + 1) _ rfl [.int .u64 ((lo k : Nat) : Int), .string (hs k), .bool u] rfl
 simp only [setAll, List.set_cons_zero, List.set_cons_succ] at hP
 generalize hput1 : (((x2.setCell ⟨w.heap.size + 1 + 1, 0, none⟩ (.int .u64 ((lo k : Nat) : Int))).setCell ⟨w.heap.size + 1 + 1, 1, none⟩ (.string (hs k))).setCell ⟨w.heap.size + 1 + 1, 2, none⟩ (.bool u)) = x3 at hP
 have hB1 := hP.fc
 simp only [fcG, cellsF, neK, and_true, ne_eq, Nat.zero_add, Nat.reduceAdd] at hB1
 replace hL0 := hP
 go_wp2_with fail
 exact bodyPost_ret (v := zV u k) (by simp [results, Tryz.results124, go_sem, hB1]) rfl ⟨rfl, hL0.bl⟩
set_option maxHeartbeats 4000000 in
set_option maxRecDepth 100000 in
theorem byadd_false_true (m n k : Nat) (u : Bool) (H : ∀ w, Calls Tryz.prog 126 #[zV false m, natV n] w fun e w' => e = .returned (zV u k) ∧ Below w.heap.size w w') (w : World) :
  Calls Tryz.prog 124 #[zV false m, zV true n, .func (.func 125) #[] #[], .func (.func 126) #[] #[]] w fun e w' => e = .returned (zV u k) ∧ Below w.heap.size w w' := by
 have hL0 : GL w w [] := GL.start w
 replace H := Lib.hid H
 replace hL0 := (((hL0.new rfl [.int .u64 ((lo m : Nat) : Int), .string (hs m), .bool false] 39).new (K := w.heap.size + 1) (szA _ _) [.int .u64 ((lo n : Nat) : Int), .string (hs n), .bool true] 39).new (K := w.heap.size + 1 + 1) (by simp only [World.size_alloc]) [.int .u64 0, .string ⟨#[]⟩, .bool false] 39)
 generalize hweq : (((w.alloc (.cells #[.int .u64 ((lo m : Nat) : Int), .string (hs m), .bool false] 39)).alloc (.cells #[.int .u64 ((lo n : Nat) : Int), .string (hs n), .bool true] 39)).alloc (.cells #[.int .u64 0, .string ⟨#[]⟩, .bool false] 39)) = x1 at hL0
 go_enter Tryz.func124, Tryz.ntmps124
 have hA := hL0.fc
 simp only [fcG, cellsF, neK, and_true, ne_eq, Nat.zero_add, Nat.reduceAdd] at hA
 go_wp2_with fail
 clear hA
 with_reducible refine Calls.mono (H.out _) ?_
 rintro e x2 ⟨rfl, hb⟩
 replace hL0 := hL0.call hb
 clear hb hweq
 have hA := hL0.fc
 simp only [fcG, cellsF, neK, and_true, ne_eq, Nat.zero_add, Nat.reduceAdd] at hA
 have hP := hL0.put 0 (w.heap.size + 1 + 1) _ rfl [.int .u64 ((lo k : Nat) : Int), .string (hs k), .bool u] rfl
 simp only [setAll, List.set_cons_zero, List.set_cons_succ] at hP
 generalize hput1 : (((x2.setCell ⟨w.heap.size + 1 + 1, 0, none⟩ (.int .u64 ((lo k : Nat) : Int))).setCell ⟨w.heap.size + 1 + 1, 1, none⟩ (.string (hs k))).setCell ⟨w.heap.size + 1 + 1, 2, none⟩ (.bool u)) = x3 at hP
 have hB1 := hP.fc
 simp only [fcG, cellsF, neK, and_true, ne_eq, Nat.zero_add, Nat.reduceAdd] at hB1
 replace hL0 := hP
 go_wp2_with fail
 exact bodyPost_ret (v := zV u k) (by simp [results, Tryz.results124, go_sem, hB1]) rfl ⟨rfl, hL0.bl⟩
set_option maxHeartbeats 4000000 in
set_option maxRecDepth 100000 in
theorem byadd_false_false (m n k : Nat) (u : Bool) (H : ∀ w, Calls Tryz.prog 125 #[zV false m, natV n] w fun e w' => e = .returned (zV u k) ∧ Below w.heap.size w w') (w : World) :
  Calls Tryz.prog 124 #[zV false m, zV false n, .func (.func 125) #[] #[], .func (.func 126) #[] #[]] w fun e w' => e = .returned (zV u k) ∧ Below w.heap.size w w' := by
 have hL0 : GL w w [] := GL.start w
 replace H := Lib.hid H
 replace hL0 := (((hL0.new rfl [.int .u64 ((lo m : Nat) : Int), .string (hs m), .bool false] 39).new (K := w.heap.size + 1) (szA _ _) [.int .u64 ((lo n : Nat) : Int), .string (hs n), .bool false] 39).new (K := w.heap.size + 1 + 1) (by simp only [World.size_alloc]) [.int .u64 0, .string ⟨#[]⟩, .bool false] 39)
 generalize hweq : (((w.alloc (.cells #[.int .u64 ((lo m : Nat) : Int), .string (hs m), .bool false] 39)).alloc (.cells #[.int .u64 ((lo n : Nat) : Int), .string (hs n), .bool false] 39)).alloc (.cells #[.int .u64 0, .string ⟨#[]⟩, .bool false] 39)) = x1 at hL0
 go_enter Tryz.func124, Tryz.ntmps124
 have hA := hL0.fc
 simp only [fcG, cellsF, neK, and_true, ne_eq, Nat.zero_add, Nat.reduceAdd] at hA
 go_wp2_with fail
 clear hA
 with_reducible refine Calls.mono (H.out _) ?_
 rintro e x2 ⟨rfl, hb⟩
 replace hL0 := hL0.call hb
 clear hb hweq
 have hA := hL0.fc
 simp only [fcG, cellsF, neK, and_true, ne_eq, Nat.zero_add, Nat.reduceAdd] at hA
 have hP := hL0.put 0 (w.heap.size + 1 + 1) _ rfl [.int .u64 ((lo k : Nat) : Int), .string (hs k), .bool u] rfl
 simp only [setAll, List.set_cons_zero, List.set_cons_succ] at hP
 generalize hput1 : (((x2.setCell ⟨w.heap.size + 1 + 1, 0, none⟩ (.int .u64 ((lo k : Nat) : Int))).setCell ⟨w.heap.size + 1 + 1, 1, none⟩ (.string (hs k))).setCell ⟨w.heap.size + 1 + 1, 2, none⟩ (.bool u)) = x3 at hP
 have hB1 := hP.fc
 simp only [fcG, cellsF, neK, and_true, ne_eq, Nat.zero_add, Nat.reduceAdd] at hB1
 replace hL0 := hP
 go_wp2_with fail
 exact bodyPost_ret (v := zV u k) (by simp [results, Tryz.results124, go_sem, hB1]) rfl ⟨rfl, hL0.bl⟩
set_option maxHeartbeats 4000000 in
set_option maxRecDepth 100000 in
theorem iadd (s t u : Bool) (m n k : Nat) (H : ∀ w, Calls Tryz.prog 124 #[zV s m, zV t n, .func (.func 125) #[] #[], .func (.func 126) #[] #[]] w fun e w' => e = .returned (zV u k) ∧ Below w.heap.size w w') (w : World) :
  Calls Tryz.prog 28 #[zV s m, zV t n] w fun e w' => e = .returned (zV u k) ∧ Below w.heap.size w w' := by
 have hL0 : GL w w [] := GL.start w
 replace H := Lib.hid H
 replace hL0 := (((hL0.new rfl [.int .u64 ((lo m : Nat) : Int), .string (hs m), .bool s] 39).new (K := w.heap.size + 1) (szA _ _) [.int .u64 ((lo n : Nat) : Int), .string (hs n), .bool t] 39).new (K := w.heap.size + 1 + 1) (by simp only [World.size_alloc]) [.int .u64 0, .string ⟨#[]⟩, .bool false] 39)
 generalize hweq : (((w.alloc (.cells #[.int .u64 ((lo m : Nat) : Int), .string (hs m), .bool s] 39)).alloc (.cells #[.int .u64 ((lo n : Nat) : Int), .string (hs n), .bool t] 39)).alloc (.cells #[.int .u64 0, .string ⟨#[]⟩, .bool false] 39)) = x1 at hL0
 go_enter Tryz.func28, Tryz.ntmps28
 have hA := hL0.fc
 simp only [fcG, cellsF, neK, and_true, ne_eq, Nat.zero_add, Nat.reduceAdd] at hA
 go_wp2_with fail
 clear hA
 with_reducible refine Calls.mono (H.out _) ?_
 rintro e x2 ⟨rfl, hb⟩
 replace hL0 := hL0.call hb
 clear hb hweq
 have hA := hL0.fc
 simp only [fcG, cellsF, neK, and_true, ne_eq, Nat.zero_add, Nat.reduceAdd] at hA
 have hP := hL0.put 0 (w.heap.size + 1 + 1) _ rfl [.int .u64 ((lo k : Nat) : Int), .string (hs k), .bool u] rfl
 simp only [setAll, List.set_cons_zero, List.set_cons_succ] at hP
 generalize hput1 : (((x2.setCell ⟨w.heap.size + 1 + 1, 0, none⟩ (.int .u64 ((lo k : Nat) : Int))).setCell ⟨w.heap.size + 1 + 1, 1, none⟩ (.string (hs k))).setCell ⟨w.heap.size + 1 + 1, 2, none⟩ (.bool u)) = x3 at hP
 have hB1 := hP.fc
 simp only [fcG, cellsF, neK, and_true, ne_eq, Nat.zero_add, Nat.reduceAdd] at hB1
 replace hL0 := hP
 go_wp2_with fail
 exact bodyPost_ret (v := zV u k) (by simp [results, Tryz.results28, go_sem, hB1]) rfl ⟨rfl, hL0.bl⟩
end Go.Proofs.YtdmoadfnogdfnaaGreatDoor
namespace Go.Proofs.YtdmoadfnogdfnaaGreatDoor
open Go.RowKit
attribute [local irreducible] lo hs sm s64 c64 d64 b64 mh ml pd pc qd qc val hiB str cmpI srD lz nb isq decB
end Go.Proofs.YtdmoadfnogdfnaaGreatDoor
namespace Go.Proofs.YtdmoadfnogdfnaaGreatDoor
open Go.RowKit
attribute [local irreducible] lo hs
theorem absI (z : Int) (w : World) : Calls Tryz.prog 40 #[intV z] w fun e w' => e = .returned (natV z.natAbs) ∧ Below w.heap.size w w' := abs_any _ _ w
theorem negI (z : Int) (w : World) : Calls Tryz.prog 34 #[intV z] w fun e w' => e = .returned (intV (-z)) ∧ Below w.heap.size w w' := by
 rcases int_cases z with ⟨m, rfl, h⟩ | ⟨m, h0, rfl, h⟩ <;> rw [h]
 ·rw [res_m (z := -(m : Int)) rfl]; exact neg_false m w
 ·rw [res_f (z := -(-(m : Int))) (k := m) (by omega)]; exact neg_true m w
def cmpZ (x y : Int) : Int := if x < y then -1 else if x = y then 0 else 1
theorem cmpII (x y : Int) (w : World) : Calls Tryz.prog 38 #[intV x, intV y] w fun e w' => e = .returned (.int .i64 (cmpZ x y)) ∧ Below w.heap.size w w' := by
 rcases int_cases x with ⟨m, rfl, hx⟩ | ⟨m, hm, rfl, hx⟩ <;> rcases int_cases y with ⟨n, rfl, hy⟩ | ⟨n, hn, rfl, hy⟩ <;> rw [hx, hy]
 ·rw [show cmpZ (m : Int) (n : Int) = cmpI m n by unfold cmpZ cmpI; split <;> split <;> (try split) <;> (try split) <;> omega]; exact icmp_false_false m n w
 ·rw [show cmpZ (m : Int) (-(n : Int)) = 1 by unfold cmpZ; rw [if_neg (by omega), if_neg (by omega)]]; exact icmp_false_true m n w
 ·rw [show cmpZ (-(m : Int)) (n : Int) = -1 by unfold cmpZ; rw [if_pos (by omega)]]; exact icmp_true_false m n w
 ·rw [show cmpZ (-(m : Int)) (-(n : Int)) = cmpI n m by unfold cmpZ cmpI; split <;> split <;> (try split) <;> (try split) <;> omega]; exact icmp_true_true m n w
theorem addI (x y : Int) (hx : dI x ≤ 1000000000) (hy : dI y ≤ 1000000000) (w : World) : Calls Tryz.prog 28 #[intV x, intV y] w fun e w' => e = .returned (intV (x + y)) ∧ Below w.heap.size w w' := by
 rcases int_cases x with ⟨m, rfl, ex⟩ | ⟨m, hm, rfl, ex⟩ <;> rcases int_cases y with ⟨n, rfl, ey⟩ | ⟨n, hn, rfl, ey⟩ <;> rw [ex, ey] <;> simp only [dI_neg, dI_nat] at hx hy
 ·rw [res_f (k := m + n) (by omega)]; exact iadd _ _ _ m n _ (byadd_false_false m n _ _ (out_false m n hx hy)) w
 ·rcases Nat.lt_or_ge m n with h | h
  ·rw [res_m (k := n - m) (by omega)]; exact iadd _ _ _ m n _ (byadd_false_true m n _ _ (in_false_lt m n h hx hy)) w
  ·rw [res_f (k := m - n) (by omega)]; exact iadd _ _ _ m n _ (byadd_false_true m n _ _ (in_false_ge m n h hx hy)) w
 ·rcases Nat.lt_or_ge m n with h | h
  ·rw [res_f (k := n - m) (by omega)]; exact iadd _ _ _ m n _ (byadd_true_false m n _ _ (in_true_lt m n h hx hy)) w
  ·rw [res_m (k := m - n) (by omega)]; exact iadd _ _ _ m n _ (byadd_true_false m n _ _ (in_true_ge m n h hx hy)) w
 ·rw [res_m (k := m + n) (by omega)]; exact iadd _ _ _ m n _ (byadd_true_true m n _ _ (out_true m n hx hy)) w
end Go.Proofs.YtdmoadfnogdfnaaGreatDoor
namespace Go.Proofs.YtdmoadfnogdfnaaGreatDoor
open Go.RowKit
attribute [local irreducible] lo hs
end Go.Proofs.YtdmoadfnogdfnaaGreatDoor
namespace Go.Proofs.YtdmoadfnogdfnaaGreatDoor
open Go.RowKit Go.Proofs.YtdmoadfnogdfnaaGreatDoor.Rx
theorem tyAt_yes {P : Program} {ops : Array Oper} {o : Oper} {a : Act} {w : World} {T : Value → World → Prop} (hg : Region.wanted o (yielded ops a.tmps) = true) (h : tyUpon P w T ((execOp a.eval o).run P w)) : TyAt P ops o a w T := by
 unfold TyAt
 rw [if_pos hg]; exact h
end Go.Proofs.YtdmoadfnogdfnaaGreatDoor
namespace Go.Proofs.YtdmoadfnogdfnaaGreatDoor
open Go.RowKit Go.Proofs.YtdmoadfnogdfnaaGreatDoor.Rx
attribute [local irreducible] lo hs sm s64 c64 d64 b64 mh ml pd pc qd qc val hiB str cmpI srD lz nb isq decB zl zh zs dval tln
set_option maxHeartbeats 4000000 in
set_option maxRecDepth 100000 in
theorem rzcmp_w (x y d c : Int) (HB : ∀ (p0 p1 : Value) (w : World), RZ w p0 x → RZ w p1 y → Calls Tryz.prog 31 #[p0, p1] w fun e w' => ∃ pv, e = .returned pv ∧ RZ w' pv d ∧ Below w.heap.size w w') (HS : ∀ (p0 : Value) (w : World), RZ w p0 d → Calls Tryz.prog 37 #[p0] w fun e w' => e = .returned (.int .i64 c) ∧ Below w.heap.size w w') (p0 : Value) (p1 : Value) (w : World) (r0 : RZ w p0 x) (r1 : RZ w p1 y) :
  Calls Tryz.prog 26 #[p0, p1] w fun e w' => e = .returned (.int .i64 c) ∧ Below w.heap.size w w' := by
 obtain ⟨a0, c0, rfl⟩ := rz_form r0
 have f0 := Lib.hid (rz_rn r0)
 clear r0
 obtain ⟨a1, c1, rfl⟩ := rz_form r1
 have f1 := Lib.hid (rz_rn r1)
 clear r1
 replace HB := Lib.hid HB
 replace HS := Lib.hid HS
 have hL0 : GL w w [] := GL.start w
 have hS : SS w [] := SS.nil w
 replace hS := ((hS.new (.cells #[.bool (zs x), .slice a0 (tln x.natAbs) c0] 44)).new (.cells #[.bool (zs y), .slice a1 (tln y.natAbs) c1] 44))
 replace hL0 := ((hL0.new rfl [.bool (zs x), .slice a0 (tln x.natAbs) c0] 44).new (K := w.heap.size + 1) (szA _ _) [.bool (zs y), .slice a1 (tln y.natAbs) c1] 44)
 generalize hweq : ((w.alloc (.cells #[.bool (zs x), .slice a0 (tln x.natAbs) c0] 44)).alloc (.cells #[.bool (zs y), .slice a1 (tln y.natAbs) c1] 44)) = x1 at hL0 hS
 go_enter Tryz.func26, Tryz.ntmps26
 have hN0 := cells_of _ 0 [] rfl (hL0.get _ _ List.mem_cons_self)
 simp only [cellsF, and_true, Nat.zero_add, Nat.reduceAdd] at hN0
 have hN1 := cells_of _ 0 [] rfl (hL0.get _ _ (List.mem_cons_of_mem _ List.mem_cons_self))
 simp only [cellsF, and_true, Nat.zero_add, Nat.reduceAdd] at hN1
 go_wp2_with fail
 clear hN0 hN1
 with_reducible refine Calls.mono (HB.out (.agg #[.bool (zs x), .slice a0 (tln x.natAbs) c0]) (.agg #[.bool (zs y), .slice a1 (tln y.natAbs) c1]) _ (rz_of (Sl.below f0.out hL0.bl)) (rz_of (Sl.below f1.out hL0.bl))) ?_
 rintro e x2 ⟨v0, rfl, q0, hb⟩
 replace hL0 := hL0.call hb
 replace hS := hS.call hb
 clear hb hweq
 obtain ⟨g1, d1, rfl⟩ := rz_form q0
 replace hS := hS.cons (rz_rn q0)
 clear q0
 go_wp2_with fail
 with_reducible refine Calls.mono (HS.out (.agg #[.bool (zs d), .slice g1 (tln d.natAbs) d1]) _ (rz_of (hS.get List.mem_cons_self))) ?_
 rintro e x3 ⟨rfl, hb⟩
 replace hL0 := hL0.call hb
 replace hS := hS.call hb
 clear hb
 go_wp2_with fail
 exact bodyPost_ret (v := .int .i64 c) (by simp [results, Tryz.results26, go_sem]) rfl ⟨rfl, hL0.bl⟩
end Go.Proofs.YtdmoadfnogdfnaaGreatDoor
namespace Go.Proofs.YtdmoadfnogdfnaaGreatDoor
open Go.RowKit Go.Proofs.YtdmoadfnogdfnaaGreatDoor.Rx
attribute [local irreducible] lo hs sm s64 c64 d64 b64 mh ml pd pc qd qc val hiB str cmpI srD lz nb isq decB zl zh dval txt
theorem rzcmpI (x y : Int) (lx : (Rx.td x.natAbs).length ≤ 1000) (ly : (Rx.td y.natAbs).length ≤ 1000) (v1 v2 : Value) (w : World) (h1 : RZ w v1 x) (h2 : RZ w v2 y) :
  Calls Tryz.prog 26 #[v1, v2] w fun e w' => e = .returned (.int .i64 (sgn (x - y))) ∧ Below w.heap.size w w' :=
 rzcmp_w x y (x - y) _ (fun a b w ha hb => rzsubI a b x y (by omega) (by omega) w ha hb) (rzsignI _) v1 v2 w h1 h2
end Go.Proofs.YtdmoadfnogdfnaaGreatDoor
namespace Go.Proofs.YtdmoadfnogdfnaaGreatDoor
open Go.RowKit Go.Proofs.YtdmoadfnogdfnaaGreatDoor.Rx
attribute [local irreducible] lo hs sm s64 c64 d64 b64 mh ml pd pc qd qc val hiB str cmpI srD lz nb isq decB zl zh zs dval tln ztxt txt
set_option maxHeartbeats 4000000 in
set_option maxRecDepth 100000 in
theorem isums_big (sx sy : Bool) (ax ay : Option Addr) (nx cx ny cy : Nat) (KT : World → Prop) (hKT : Keeps KT) (HW : RK KT 23 #[] (.bool true)) (hfew : decide (nx ≤ 16 ∧ ny ≤ 16) = false) (w : World) (kKT : KT w) :
  Calls Tryz.prog 4 #[.agg #[.bool sx, .slice ax nx cx], .agg #[.bool sy, .slice ay ny cy]] w fun e w' => e = .returned (.bool true) ∧ Below w.heap.size w w' := by
 replace hKT := Lib.hid hKT
 replace HW := Lib.hid HW
 have hL0 : GL w w [] := GL.start w
 have hS : SS w [] := SS.nil w
 replace hS := (((hS.new (.cells #[.bool sx, .slice ax nx cx] 36)).new (.cells #[.bool sy, .slice ay ny cy] 36)).new (.cells #[.bool sx, .slice ax nx cx, .bool sy, .slice ay ny cy] 36))
 replace hL0 := (((hL0.new rfl [.bool sx, .slice ax nx cx] 36).new (K := w.heap.size + 1) (szA _ _) [.bool sy, .slice ay ny cy] 36).new (K := w.heap.size + 1 + 1) (by simp only [World.size_alloc]) [.bool sx, .slice ax nx cx, .bool sy, .slice ay ny cy] 36)
 generalize hweq : (((w.alloc (.cells #[.bool sx, .slice ax nx cx] 36)).alloc (.cells #[.bool sy, .slice ay ny cy] 36)).alloc (.cells #[.bool sx, .slice ax nx cx, .bool sy, .slice ay ny cy] 36)) = x1 at hL0 hS
 go_enter Tryz.func4, Tryz.ntmps4
 have hN0 := cells_of _ 0 [] rfl (hL0.get _ _ (List.mem_cons_of_mem _ List.mem_cons_self))
 simp only [cellsF, and_true, Nat.zero_add, Nat.reduceAdd] at hN0
 have hN1 := cells_of _ 0 [] rfl (hL0.get _ _ (List.mem_cons_of_mem _ (List.mem_cons_of_mem _ List.mem_cons_self)))
 simp only [cellsF, and_true, Nat.zero_add, Nat.reduceAdd] at hN1
 have HFw := few2 16 16 rfl (by omega) (hL0.get _ _ List.mem_cons_self)
 rw [hfew] at HFw
 replace HFw := Lib.hid HFw
 go_wp2_with fail
 with_reducible refine Calls.mono (HFw.out) ?_
 rintro e x2 ⟨rfl, rfl⟩
 clear HFw
 clear hN0 hN1
 go_wp2_with fail
 with_reducible refine Calls.mono (HW.out _ (hKT.out.at (hL0.bl) kKT)) ?_
 rintro e x3 ⟨rfl, hb⟩
 replace hL0 := hL0.call hb
 replace hS := hS.call hb
 clear hb hweq
 go_wp2_with fail
 exact bodyPost_ret (v := .bool true) (by simp [results, Tryz.results4, go_sem]) rfl ⟨rfl, hL0.bl⟩
set_option maxHeartbeats 4000000 in
set_option maxRecDepth 100000 in
theorem isums_eq (sx sy : Bool) (ax ay : Option Addr) (nx cx ny cy : Nat) (a r d m n j : Int) (k : Nat) (t : ByteArray) (Kx : World → Prop) (hKx : Keeps Kx) (GX : RK Kx 24 #[.agg #[.bool sx, .slice ax nx cx]] (intV a)) (Ky : World → Prop) (hKy : Keeps Ky) (GY : RK Ky 24 #[.agg #[.bool sy, .slice ay ny cy]] (intV a)) (RX : ∀ (w : World), Kx w → Calls Tryz.prog 25 #[.agg #[.bool sx, .slice ax nx cx]] w fun e w' => ∃ pv, e = .returned pv ∧ RZ w' pv a ∧ Below w.heap.size w w') (RY : ∀ (w : World), Ky w → Calls Tryz.prog 25 #[.agg #[.bool sy, .slice ay ny cy]] w fun e w' => ∃ pv, e = .returned pv ∧ RZ w' pv a ∧ Below w.heap.size w w') (HC : ∀ (p0 p1 : Value) (w : World), RZ w p0 a → RZ w p1 a → Calls Tryz.prog 26 #[p0, p1] w fun e w' => e = .returned (.int .i64 0) ∧ Below w.heap.size w w') (KT : World → Prop) (hKT : Keeps KT) (H0 : ∀ (p1 : Value) (w : World), KT w → RZ w p1 a → Calls Tryz.prog 27 #[intV a, p1] w fun e w' => e = .returned (.bool true) ∧ Below w.heap.size w w') (HA : RT 28 #[intV a, intV a] (intV r)) (HA2 : ∀ (p0 p1 : Value) (w : World), RZ w p0 a → RZ w p1 a → Calls Tryz.prog 29 #[p0, p1] w fun e w' => ∃ pv, e = .returned pv ∧ RZ w' pv r ∧ Below w.heap.size w w') (H1 : ∀ (p1 : Value) (w : World), KT w → RZ w p1 r → Calls Tryz.prog 27 #[intV r, p1] w fun e w' => e = .returned (.bool true) ∧ Below w.heap.size w w') (HB : RT 30 #[intV a, intV a] (intV d)) (HB2 : ∀ (p0 p1 : Value) (w : World), RZ w p0 a → RZ w p1 a → Calls Tryz.prog 31 #[p0, p1] w fun e w' => ∃ pv, e = .returned pv ∧ RZ w' pv d ∧ Below w.heap.size w w') (H2 : ∀ (p1 : Value) (w : World), KT w → RZ w p1 d → Calls Tryz.prog 27 #[intV d, p1] w fun e w' => e = .returned (.bool true) ∧ Below w.heap.size w w') (HM : RT 32 #[intV a, intV a] (intV m)) (HM2 : ∀ (p0 p1 : Value) (w : World), RZ w p0 a → RZ w p1 a → Calls Tryz.prog 33 #[p0, p1] w fun e w' => ∃ pv, e = .returned pv ∧ RZ w' pv m ∧ Below w.heap.size w w') (H3 : ∀ (p1 : Value) (w : World), KT w → RZ w p1 m → Calls Tryz.prog 27 #[intV m, p1] w fun e w' => e = .returned (.bool true) ∧ Below w.heap.size w w') (HN : RT 34 #[intV a] (intV n)) (HN2 : ∀ (p0 : Value) (w : World), RZ w p0 a → Calls Tryz.prog 35 #[p0] w fun e w' => ∃ pv, e = .returned pv ∧ RZ w' pv n ∧ Below w.heap.size w w') (H4 : ∀ (p1 : Value) (w : World), KT w → RZ w p1 n → Calls Tryz.prog 27 #[intV n, p1] w fun e w' => e = .returned (.bool true) ∧ Below w.heap.size w w') (HS : RT 36 #[intV a] (.int .i64 j)) (HS2 : ∀ (p0 : Value) (w : World), RZ w p0 a → Calls Tryz.prog 37 #[p0] w fun e w' => e = .returned (.int .i64 j) ∧ Below w.heap.size w w') (HC2 : RT 38 #[intV a, intV a] (.int .i64 0)) (HX : RT 40 #[intV a] (natV k)) (HT : RK KT 39 #[natV k] (.string t)) (HT2 : ∀ (p0 : Value) (w : World), Rn w p0 a.natAbs → Calls Tryz.prog 41 #[p0] w fun e w' => e = .returned (.string t) ∧ Below w.heap.size w w') (HW : RK KT 23 #[] (.bool true)) (hfew : decide (nx ≤ 16 ∧ ny ≤ 16) = true) (w : World) (kKx : Kx w) (kKy : Ky w) (kKT : KT w) :
  Calls Tryz.prog 4 #[.agg #[.bool sx, .slice ax nx cx], .agg #[.bool sy, .slice ay ny cy]] w fun e w' => e = .returned (.bool true) ∧ Below w.heap.size w w' := by
 replace hKx := Lib.hid hKx
 replace GX := Lib.hid GX
 replace hKy := Lib.hid hKy
 replace GY := Lib.hid GY
 replace RX := Lib.hid RX
 replace RY := Lib.hid RY
 replace HC := Lib.hid HC
 replace hKT := Lib.hid hKT
 replace H0 := Lib.hid H0
 replace HA := Lib.hid HA
 replace HA2 := Lib.hid HA2
 replace H1 := Lib.hid H1
 replace HB := Lib.hid HB
 replace HB2 := Lib.hid HB2
 replace H2 := Lib.hid H2
 replace HM := Lib.hid HM
 replace HM2 := Lib.hid HM2
 replace H3 := Lib.hid H3
 replace HN := Lib.hid HN
 replace HN2 := Lib.hid HN2
 replace H4 := Lib.hid H4
 replace HS := Lib.hid HS
 replace HS2 := Lib.hid HS2
 replace HC2 := Lib.hid HC2
 replace HX := Lib.hid HX
 replace HT := Lib.hid HT
 replace HT2 := Lib.hid HT2
 replace HW := Lib.hid HW
 have hL0 : GL w w [] := GL.start w
 have hS : SS w [] := SS.nil w
 replace hS := (((hS.new (.cells #[.bool sx, .slice ax nx cx] 36)).new (.cells #[.bool sy, .slice ay ny cy] 36)).new (.cells #[.bool sx, .slice ax nx cx, .bool sy, .slice ay ny cy] 36))
 replace hL0 := (((hL0.new rfl [.bool sx, .slice ax nx cx] 36).new (K := w.heap.size + 1) (szA _ _) [.bool sy, .slice ay ny cy] 36).new (K := w.heap.size + 1 + 1) (by simp only [World.size_alloc]) [.bool sx, .slice ax nx cx, .bool sy, .slice ay ny cy] 36)
 generalize hweq : (((w.alloc (.cells #[.bool sx, .slice ax nx cx] 36)).alloc (.cells #[.bool sy, .slice ay ny cy] 36)).alloc (.cells #[.bool sx, .slice ax nx cx, .bool sy, .slice ay ny cy] 36)) = x1 at hL0 hS
 go_enter Tryz.func4, Tryz.ntmps4
 have hN0 := cells_of _ 0 [] rfl (hL0.get _ _ (List.mem_cons_of_mem _ List.mem_cons_self))
 simp only [cellsF, and_true, Nat.zero_add, Nat.reduceAdd] at hN0
 have hN1 := cells_of _ 0 [] rfl (hL0.get _ _ (List.mem_cons_of_mem _ (List.mem_cons_of_mem _ List.mem_cons_self)))
 simp only [cellsF, and_true, Nat.zero_add, Nat.reduceAdd] at hN1
 have HFw := few2 16 16 rfl (by omega) (hL0.get _ _ List.mem_cons_self)
 rw [hfew] at HFw
 replace HFw := Lib.hid HFw
 go_wp2_with fail
 with_reducible refine Calls.mono (HFw.out) ?_
 rintro e x2 ⟨rfl, rfl⟩
 clear HFw
 clear hN0 hN1
 go_upto_region 3 with fail
 clear hweq
 refine region_tal 12 [EV (.agg #[.bool sx, .slice ax nx cx]), EV (intV a), EV (.agg #[.bool sy, .slice ay ny cy]), EV (intV a), EV (.agg #[.bool sx, .slice ax nx cx]), PZ a, EV (.agg #[.bool sy, .slice ay ny cy]), PZ a, NewB x2.heap.size [.int .u64 0, .string ⟨#[]⟩, .bool false], NewB x2.heap.size [.int .u64 0, .string ⟨#[]⟩, .bool false], NewB x2.heap.size [.bool false, .slice none 0 0], NewB x2.heap.size [.bool false, .slice none 0 0]] [8, 9, 10, 11] (by kernel_rfl) (by kernel_rfl) ?_ ?_ ?_ ?_ ?_
 ·exact stays_cons (stays_eq _) (stays_cons (stays_eq _) (stays_cons (stays_eq _) (stays_cons (stays_eq _) (stays_cons (stays_eq _) (stays_cons (stays_rz _) (stays_cons (stays_eq _) (stays_cons (stays_rz _) (stays_cons (stays_new _ _) (stays_cons (stays_new _ _) (stays_cons (stays_new _ _) (stays_cons (stays_new _ _) (stays_nil))))))))))))
 ·simp only [List.take_succ_cons, List.take_zero, hopsR, and_true]
  refine ⟨?_, ?_, ?_, ?_, ?_, ?_, ?_, ?_, ?_, ?_, ?_, ?_⟩ <;> intro fv w1 hb1 hp
  all_goals (simp only [putsV, Act.put, List.setIfInBounds_toArray, List.set_cons_succ, List.set_cons_zero, Nat.zero_add, Nat.reduceAdd])
  ·refine tyAt_none rfl ?_
   have hc := (hL0.call (below_drew hb1)).fc
   simp only [fcG, cellsF, neK, and_true, ne_eq, Nat.zero_add, Nat.reduceAdd] at hc
   simp [tyUpon, execOp, go_sem, Act.eval, hc, Below.refl]
  ·have h0 : EV _ (fv 0) w1 := hp 0 (LC (by kernel_rfl))
   refine tyAt_none rfl ?_
   refine ty_call (f := 24) (args := #[.agg #[.bool sx, .slice ax nx cx]]) (by simp [execOp, go_sem, Act.eval, h0]) ?_
   exact (GX.out w1 (hKx.out.at ((hL0.call (below_drew hb1)).bl) kKx)).mono fun e w2 ⟨h1, h2⟩ => ⟨_, h1, rfl, h2⟩
  ·refine tyAt_none rfl ?_
   have hc := (hL0.call (below_drew hb1)).fc
   simp only [fcG, cellsF, neK, and_true, ne_eq, Nat.zero_add, Nat.reduceAdd] at hc
   simp [tyUpon, execOp, go_sem, Act.eval, hc, Below.refl]
  ·have h2 : EV _ (fv 2) w1 := hp 2 (LC (by kernel_rfl))
   refine tyAt_none rfl ?_
   refine ty_call (f := 24) (args := #[.agg #[.bool sy, .slice ay ny cy]]) (by simp [execOp, go_sem, Act.eval, h2]) ?_
   exact (GY.out w1 (hKy.out.at ((hL0.call (below_drew hb1)).bl) kKy)).mono fun e w2 ⟨h1, h2⟩ => ⟨_, h1, rfl, h2⟩
  ·refine tyAt_none rfl ?_
   have hc := (hL0.call (below_drew hb1)).fc
   simp only [fcG, cellsF, neK, and_true, ne_eq, Nat.zero_add, Nat.reduceAdd] at hc
   simp [tyUpon, execOp, go_sem, Act.eval, hc, Below.refl]
  ·have h4 : EV _ (fv 4) w1 := hp 4 (LC (by kernel_rfl))
   refine tyAt_none rfl ?_
   refine ty_call (f := 25) (args := #[.agg #[.bool sx, .slice ax nx cx]]) (by simp [execOp, go_sem, Act.eval, h4]) ?_
   exact (RX.out w1 (hKx.out.at ((hL0.call (below_drew hb1)).bl) kKx)).mono fun e w2 ⟨pv, h1, h2, h3⟩ => ⟨pv, h1, h2, h3⟩
  ·refine tyAt_none rfl ?_
   have hc := (hL0.call (below_drew hb1)).fc
   simp only [fcG, cellsF, neK, and_true, ne_eq, Nat.zero_add, Nat.reduceAdd] at hc
   simp [tyUpon, execOp, go_sem, Act.eval, hc, Below.refl]
  ·have h6 : EV _ (fv 6) w1 := hp 6 (LC (by kernel_rfl))
   refine tyAt_none rfl ?_
   refine ty_call (f := 25) (args := #[.agg #[.bool sy, .slice ay ny cy]]) (by simp [execOp, go_sem, Act.eval, h6]) ?_
   exact (RY.out w1 (hKy.out.at ((hL0.call (below_drew hb1)).bl) kKy)).mono fun e w2 ⟨pv, h1, h2, h3⟩ => ⟨pv, h1, h2, h3⟩
  ·exact tyAt_new rfl rfl new_int (below_drew hb1).size
  ·exact tyAt_new rfl rfl new_int (below_drew hb1).size
  ·exact tyAt_new rfl rfl new_rz (below_drew hb1).size
  ·exact tyAt_new rfl rfl new_rz (below_drew hb1).size
 ·intro j hj u w2 hT
  simp only [List.contains_iff_mem, List.mem_cons, List.not_mem_nil, or_false] at hj
  rcases hj with rfl | rfl | rfl | rfl <;> exact NewB.ptr hT
 ·exact ⟨⟨_, _, _, _, rfl, rfl, rfl, new_int⟩, ⟨_, _, _, _, rfl, rfl, rfl, new_int⟩, ⟨_, _, _, _, rfl, rfl, rfl, new_rz⟩, ⟨_, _, _, _, rfl, rfl, rfl, new_rz⟩, trivial⟩
 ·intro fv x3 hb1 hv hne
  have e0 : fv 0 = _ := hv 0 (by omega)
  have e1 : fv 1 = _ := hv 1 (by omega)
  have e2 : fv 2 = _ := hv 2 (by omega)
  have e3 : fv 3 = _ := hv 3 (by omega)
  have e4 : fv 4 = _ := hv 4 (by omega)
  have q5 : RZ x3 (fv 5) a := hv 5 (by omega)
  obtain ⟨g1, d1, e5⟩ := rz_form q5
  rw [e5] at q5
  have e6 : fv 6 = _ := hv 6 (by omega)
  have q7 : RZ x3 (fv 7) a := hv 7 (by omega)
  obtain ⟨g2, d2, e7⟩ := rz_form q7
  rw [e7] at q7
  obtain ⟨kb8, e8, n8, m8⟩ : NewB x2.heap.size [.int .u64 0, .string ⟨#[]⟩, .bool false] (fv 8) x3 := hv 8 (by omega)
  obtain ⟨kb9, e9, n9, m9⟩ : NewB x2.heap.size [.int .u64 0, .string ⟨#[]⟩, .bool false] (fv 9) x3 := hv 9 (by omega)
  obtain ⟨kb10, e10, n10, m10⟩ : NewB x2.heap.size [.bool false, .slice none 0 0] (fv 10) x3 := hv 10 (by omega)
  obtain ⟨kb11, e11, n11, m11⟩ : NewB x2.heap.size [.bool false, .slice none 0 0] (fv 11) x3 := hv 11 (by omega)
  simp only [List.take_succ_cons, List.take_zero, putsV, Act.put, List.setIfInBounds_toArray, List.set_cons_succ, List.set_cons_zero, List.drop_succ_cons, List.drop_zero, Nat.zero_add, Nat.reduceAdd, e0, e1, e2, e3, e4, e5, e6, e7, e8, e9, e10, e11]
  have hx0 := hL0
  replace hL0 := hL0.call (below_drew hb1)
  replace hS := hS.call (below_drew hb1)
  replace hL0 := GL.tnew (M := []) hL0 hx0 n8 m8 (fun p hp => by cases hp)
  replace hL0 := GL.tnew (M := [(kb8, [.int .u64 0, .string ⟨#[]⟩, .bool false])]) hL0 hx0 n9 m9 (by intro p hp; simp only [List.mem_cons, List.not_mem_nil, or_false] at hp; rcases hp with rfl; exact ptr_ne e8 e9 (hne 8 9 (by omega) (by omega) (by omega) rfl rfl))
  replace hL0 := GL.tnew (M := [(kb9, [.int .u64 0, .string ⟨#[]⟩, .bool false]), (kb8, [.int .u64 0, .string ⟨#[]⟩, .bool false])]) hL0 hx0 n10 m10 (by intro p hp; simp only [List.mem_cons, List.not_mem_nil, or_false] at hp; rcases hp with rfl | rfl; exact ptr_ne e9 e10 (hne 9 10 (by omega) (by omega) (by omega) rfl rfl); exact ptr_ne e8 e10 (hne 8 10 (by omega) (by omega) (by omega) rfl rfl))
  replace hL0 := GL.tnew (M := [(kb10, [.bool false, .slice none 0 0]), (kb9, [.int .u64 0, .string ⟨#[]⟩, .bool false]), (kb8, [.int .u64 0, .string ⟨#[]⟩, .bool false])]) hL0 hx0 n11 m11 (by intro p hp; simp only [List.mem_cons, List.not_mem_nil, or_false] at hp; rcases hp with rfl | rfl | rfl; exact ptr_ne e10 e11 (hne 10 11 (by omega) (by omega) (by omega) rfl rfl); exact ptr_ne e9 e11 (hne 9 11 (by omega) (by omega) (by omega) rfl rfl); exact ptr_ne e8 e11 (hne 8 11 (by omega) (by omega) (by omega) rfl rfl))
  simp only [List.cons_append, List.nil_append] at hL0
  replace hS := hS.cons (rz_rn q5)
  replace hS := hS.cons (rz_rn q7)
  clear e0 e1 e2 e3 e4 e5 e6 e7 e8 e9 e10 e11 hb1 hv hne hx0 n8 m8 n9 m9 n10 m10 n11 m11 q5 q7 fv
  have hS1 := hS.put ((((Upd.refl kb8 x3).setCell 0 (.int .u64 ((zl a : Nat) : Int))).setCell 1 (.string (zh a))).setCell 2 (.bool (zs a))) (hL0.get _ _ (List.mem_cons_of_mem _ (List.mem_cons_of_mem _ (List.mem_cons_of_mem _ List.mem_cons_self)))) (by intro v hv n; simp only [List.mem_cons, List.not_mem_nil, or_false] at hv; rcases hv with rfl | rfl | rfl <;> simp)
  have hA := hL0.fc
  simp only [fcG, cellsF, neK, and_true, ne_eq, Nat.zero_add, Nat.reduceAdd] at hA
  have hP := hL0.put 3 (kb8) _ rfl [.int .u64 ((zl a : Nat) : Int), .string (zh a), .bool (zs a)] rfl
  simp only [setAll, List.set_cons_zero, List.set_cons_succ] at hP
  generalize hput1 : (((x3.setCell ⟨kb8, 0, none⟩ (.int .u64 ((zl a : Nat) : Int))).setCell ⟨kb8, 1, none⟩ (.string (zh a))).setCell ⟨kb8, 2, none⟩ (.bool (zs a))) = x4 at hP hS1
  have hB1 := hP.fc
  simp only [fcG, cellsF, neK, and_true, ne_eq, Nat.zero_add, Nat.reduceAdd] at hB1
  replace hL0 := hP
  replace hS := hS1
  clear hS1
  have hS1 := hS.put ((((Upd.refl kb9 x4).setCell 0 (.int .u64 ((zl a : Nat) : Int))).setCell 1 (.string (zh a))).setCell 2 (.bool (zs a))) (hL0.get _ _ (List.mem_cons_of_mem _ (List.mem_cons_of_mem _ List.mem_cons_self))) (by intro v hv n; simp only [List.mem_cons, List.not_mem_nil, or_false] at hv; rcases hv with rfl | rfl | rfl <;> simp)
  have hP := hL0.put 2 (kb9) _ rfl [.int .u64 ((zl a : Nat) : Int), .string (zh a), .bool (zs a)] rfl
  simp only [setAll, List.set_cons_zero, List.set_cons_succ] at hP
  generalize hput2 : (((x4.setCell ⟨kb9, 0, none⟩ (.int .u64 ((zl a : Nat) : Int))).setCell ⟨kb9, 1, none⟩ (.string (zh a))).setCell ⟨kb9, 2, none⟩ (.bool (zs a))) = x5 at hP hS1
  have hB2 := hP.fc
  simp only [fcG, cellsF, neK, and_true, ne_eq, Nat.zero_add, Nat.reduceAdd] at hB2
  replace hL0 := hP
  replace hS := hS1
  clear hS1
  have hS1 := hS.put (((Upd.refl kb10 x5).setCell 0 (.bool (zs a))).setCell 1 (.slice g1 (tln a.natAbs) d1)) (hL0.get _ _ (List.mem_cons_of_mem _ List.mem_cons_self)) (by intro v hv n; simp only [List.mem_cons, List.not_mem_nil, or_false] at hv; rcases hv with rfl | rfl <;> simp)
  have hP := hL0.put 1 (kb10) _ rfl [.bool (zs a), .slice g1 (tln a.natAbs) d1] rfl
  simp only [setAll, List.set_cons_zero, List.set_cons_succ] at hP
  generalize hput3 : ((x5.setCell ⟨kb10, 0, none⟩ (.bool (zs a))).setCell ⟨kb10, 1, none⟩ (.slice g1 (tln a.natAbs) d1)) = x6 at hP hS1
  have hB3 := hP.fc
  simp only [fcG, cellsF, neK, and_true, ne_eq, Nat.zero_add, Nat.reduceAdd] at hB3
  replace hL0 := hP
  replace hS := hS1
  clear hS1
  have hS1 := hS.put (((Upd.refl kb11 x6).setCell 0 (.bool (zs a))).setCell 1 (.slice g2 (tln a.natAbs) d2)) (hL0.get _ _ List.mem_cons_self) (by intro v hv n; simp only [List.mem_cons, List.not_mem_nil, or_false] at hv; rcases hv with rfl | rfl <;> simp)
  have hP := hL0.put 0 (kb11) _ rfl [.bool (zs a), .slice g2 (tln a.natAbs) d2] rfl
  simp only [setAll, List.set_cons_zero, List.set_cons_succ] at hP
  generalize hput4 : ((x6.setCell ⟨kb11, 0, none⟩ (.bool (zs a))).setCell ⟨kb11, 1, none⟩ (.slice g2 (tln a.natAbs) d2)) = x7 at hP hS1
  have hB4 := hP.fc
  simp only [fcG, cellsF, neK, and_true, ne_eq, Nat.zero_add, Nat.reduceAdd] at hB4
  replace hL0 := hP
  replace hS := hS1
  clear hS1
  go_wp2_with fail
  clear hA
  with_reducible refine Calls.mono (HC.out (.agg #[.bool (zs a), .slice g1 (tln a.natAbs) d1]) (.agg #[.bool (zs a), .slice g2 (tln a.natAbs) d2]) _ (rz_of (hS.get (List.mem_cons_of_mem _ List.mem_cons_self))) (rz_of (hS.get List.mem_cons_self))) ?_
  rintro e x8 ⟨rfl, hb⟩
  replace hL0 := hL0.call hb
  replace hS := hS.call hb
  clear hb hput1 hB1 hput2 hB2 hput3 hB3 hput4 hB4
  go_upto_region 5 with fail
  simp only [List.append]
  refine region_tl 72 [EV (intV a), EV (.agg #[.bool (zs a), .slice g1 (tln a.natAbs) d1]), EV (.bool true), EV (.bool true), EV (intV a), EV (intV a), EV (intV r), EV (.agg #[.bool (zs a), .slice g1 (tln a.natAbs) d1]), EV (.agg #[.bool (zs a), .slice g2 (tln a.natAbs) d2]), PZ r, EV (.bool true), EV (.bool true), EV (.bool true), EV (intV a), EV (intV a), EV (intV d), EV (.agg #[.bool (zs a), .slice g1 (tln a.natAbs) d1]), EV (.agg #[.bool (zs a), .slice g2 (tln a.natAbs) d2]), PZ d, EV (.bool true), EV (.bool true), EV (.bool true), EV (intV a), EV (intV a), EV (intV m), EV (.agg #[.bool (zs a), .slice g1 (tln a.natAbs) d1]), EV (.agg #[.bool (zs a), .slice g2 (tln a.natAbs) d2]), PZ m, EV (.bool true), EV (.bool true), EV (.bool true), EV (intV a), EV (intV n), EV (.agg #[.bool (zs a), .slice g1 (tln a.natAbs) d1]), PZ n, EV (.bool true), EV (.bool true), EV (.bool true), EV (intV a), EV (.int .i64 j), EV (.agg #[.bool (zs a), .slice g1 (tln a.natAbs) d1]), EV (.int .i64 j), EV (.bool true), EV (.bool true), EV (.bool true), EV (intV a), EV (intV a), EV (.int .i64 0), EV (.int .i64 0), EV (.bool true), EV (.bool true), EV (.bool true), EV (intV a), EV (intV a), EV (.bool true), EV (.int .i64 0), EV (.bool true), EV (.bool true), EV (.bool true), EV (.bool true), EV (intV a), EV (natV k), EV (.string t), EV (.pointer (some ⟨kb10, 1, none⟩)), EV (.slice g1 (tln a.natAbs) d1), EV (.string t), EV (.bool true), EV (.bool true), EV (.bool true), EV (.bool true), EV (.bool true), EV (.bool true)] (by kernel_rfl) (by kernel_rfl) ?_ ?_ ?_
  ·exact stays_cons (stays_eq _) (stays_cons (stays_eq _) (stays_cons (stays_eq _) (stays_cons (stays_eq _) (stays_cons (stays_eq _) (stays_cons (stays_eq _) (stays_cons (stays_eq _) (stays_cons (stays_eq _) (stays_cons (stays_eq _) (stays_cons (stays_rz _) (stays_cons (stays_eq _) (stays_cons (stays_eq _) (stays_cons (stays_eq _) (stays_cons (stays_eq _) (stays_cons (stays_eq _) (stays_cons (stays_eq _) (stays_cons (stays_eq _) (stays_cons (stays_eq _) (stays_cons (stays_rz _) (stays_cons (stays_eq _) (stays_cons (stays_eq _) (stays_cons (stays_eq _) (stays_cons (stays_eq _) (stays_cons (stays_eq _) (stays_cons (stays_eq _) (stays_cons (stays_eq _) (stays_cons (stays_eq _) (stays_cons (stays_rz _) (stays_cons (stays_eq _) (stays_cons (stays_eq _) (stays_cons (stays_eq _) (stays_cons (stays_eq _) (stays_cons (stays_eq _) (stays_cons (stays_eq _) (stays_cons (stays_rz _) (stays_cons (stays_eq _) (stays_cons (stays_eq _) (stays_cons (stays_eq _) (stays_cons (stays_eq _) (stays_cons (stays_eq _) (stays_cons (stays_eq _) (stays_cons (stays_eq _) (stays_cons (stays_eq _) (stays_cons (stays_eq _) (stays_cons (stays_eq _) (stays_cons (stays_eq _) (stays_cons (stays_eq _) (stays_cons (stays_eq _) (stays_cons (stays_eq _) (stays_cons (stays_eq _) (stays_cons (stays_eq _) (stays_cons (stays_eq _) (stays_cons (stays_eq _) (stays_cons (stays_eq _) (stays_cons (stays_eq _) (stays_cons (stays_eq _) (stays_cons (stays_eq _) (stays_cons (stays_eq _) (stays_cons (stays_eq _) (stays_cons (stays_eq _) (stays_cons (stays_eq _) (stays_cons (stays_eq _) (stays_cons (stays_eq _) (stays_cons (stays_eq _) (stays_cons (stays_eq _) (stays_cons (stays_eq _) (stays_cons (stays_eq _) (stays_cons (stays_eq _) (stays_cons (stays_eq _) (stays_cons (stays_eq _) (stays_cons (stays_eq _) (stays_cons (stays_eq _) (stays_nil))))))))))))))))))))))))))))))))))))))))))))))))))))))))))))))))))))))))
  ·simp only [List.take_succ_cons, List.take_zero, hopsR, and_true]
   refine ⟨?_, ?_, ?_, ?_, ?_, ?_, ?_, ?_, ?_, ?_, ?_, ?_, ?_, ?_, ?_, ?_, ?_, ?_, ?_, ?_, ?_, ?_, ?_, ?_, ?_, ?_, ?_, ?_, ?_, ?_, ?_, ?_, ?_, ?_, ?_, ?_, ?_, ?_, ?_, ?_, ?_, ?_, ?_, ?_, ?_, ?_, ?_, ?_, ?_, ?_, ?_, ?_, ?_, ?_, ?_, ?_, ?_, ?_, ?_, ?_, ?_, ?_, ?_, ?_, ?_, ?_, ?_, ?_, ?_, ?_, ?_, ?_⟩ <;> intro fv w1 hb1 hp
   all_goals (simp only [putsV, Act.put, List.setIfInBounds_toArray, List.set_cons_succ, List.set_cons_zero, Nat.zero_add, Nat.reduceAdd])
   ·refine tyAt_none rfl ?_
    have hc := (hL0.call (below_drew hb1)).fc
    simp only [fcG, cellsF, neK, and_true, ne_eq, Nat.zero_add, Nat.reduceAdd] at hc
    simp [tyUpon, execOp, go_sem, Act.eval, hc, Below.refl]
   ·refine tyAt_none rfl ?_
    have hc := (hL0.call (below_drew hb1)).fc
    simp only [fcG, cellsF, neK, and_true, ne_eq, Nat.zero_add, Nat.reduceAdd] at hc
    simp [tyUpon, execOp, go_sem, Act.eval, hc, Below.refl]
   ·have h0 : EV _ (fv 0) w1 := hp 0 (LC (by kernel_rfl))
    have h1 : EV _ (fv 1) w1 := hp 1 (LC (by kernel_rfl))
    refine tyAt_none rfl ?_
    refine ty_call (f := 27) (args := #[intV a, .agg #[.bool (zs a), .slice g1 (tln a.natAbs) d1]]) (by simp [execOp, go_sem, Act.eval, h0, h1]) ?_
    exact (H0.out (.agg #[.bool (zs a), .slice g1 (tln a.natAbs) d1]) w1 (hKT.out.at ((hL0.call (below_drew hb1)).bl) kKT) (rz_of (Sl.below (hS.get (List.mem_cons_of_mem _ List.mem_cons_self)) (below_drew hb1)))).mono fun e w2 ⟨h1, h2⟩ => ⟨_, h1, rfl, h2⟩
   ·have h2 : EV _ (fv 2) w1 := hp 2 (LC (by kernel_rfl))
    refine tyAt_none rfl ?_
    simp [tyUpon, execOp, go_sem, Act.eval, h2, Below.refl]
   ·have h3 : EV _ (fv 3) w1 := hp 3 (LC (by kernel_rfl))
    refine tyAt_yes (by simp [Region.wanted, yielded, h3]) ?_
    have hc := (hL0.call (below_drew hb1)).fc
    simp only [fcG, cellsF, neK, and_true, ne_eq, Nat.zero_add, Nat.reduceAdd] at hc
    simp [tyUpon, execOp, go_sem, Act.eval, hc, h3, Below.refl]
   ·have h3 : EV _ (fv 3) w1 := hp 3 (LC (by kernel_rfl))
    refine tyAt_yes (by simp [Region.wanted, yielded, h3]) ?_
    have hc := (hL0.call (below_drew hb1)).fc
    simp only [fcG, cellsF, neK, and_true, ne_eq, Nat.zero_add, Nat.reduceAdd] at hc
    simp [tyUpon, execOp, go_sem, Act.eval, hc, h3, Below.refl]
   ·have h4 : EV _ (fv 4) w1 := hp 4 (LC (by kernel_rfl))
    have h5 : EV _ (fv 5) w1 := hp 5 (LC (by kernel_rfl))
    have h3 : EV _ (fv 3) w1 := hp 3 (LC (by kernel_rfl))
    refine tyAt_yes (by simp [Region.wanted, yielded, h4, h5, h3]) ?_
    refine ty_call (f := 28) (args := #[intV a, intV a]) (by simp [execOp, go_sem, Act.eval, h4, h5, h3]) ?_
    exact (HA.out w1).mono fun e w2 ⟨h1, h2⟩ => ⟨_, h1, rfl, h2⟩
   ·have h3 : EV _ (fv 3) w1 := hp 3 (LC (by kernel_rfl))
    refine tyAt_yes (by simp [Region.wanted, yielded, h3]) ?_
    have hc := (hL0.call (below_drew hb1)).fc
    simp only [fcG, cellsF, neK, and_true, ne_eq, Nat.zero_add, Nat.reduceAdd] at hc
    simp [tyUpon, execOp, go_sem, Act.eval, hc, h3, Below.refl]
   ·have h3 : EV _ (fv 3) w1 := hp 3 (LC (by kernel_rfl))
    refine tyAt_yes (by simp [Region.wanted, yielded, h3]) ?_
    have hc := (hL0.call (below_drew hb1)).fc
    simp only [fcG, cellsF, neK, and_true, ne_eq, Nat.zero_add, Nat.reduceAdd] at hc
    simp [tyUpon, execOp, go_sem, Act.eval, hc, h3, Below.refl]
   ·have h7 : EV _ (fv 7) w1 := hp 7 (LC (by kernel_rfl))
    have h8 : EV _ (fv 8) w1 := hp 8 (LC (by kernel_rfl))
    have h3 : EV _ (fv 3) w1 := hp 3 (LC (by kernel_rfl))
    refine tyAt_yes (by simp [Region.wanted, yielded, h7, h8, h3]) ?_
    refine ty_call (f := 29) (args := #[.agg #[.bool (zs a), .slice g1 (tln a.natAbs) d1], .agg #[.bool (zs a), .slice g2 (tln a.natAbs) d2]]) (by simp [execOp, go_sem, Act.eval, h7, h8, h3]) ?_
    exact (HA2.out (.agg #[.bool (zs a), .slice g1 (tln a.natAbs) d1]) (.agg #[.bool (zs a), .slice g2 (tln a.natAbs) d2]) w1 (rz_of (Sl.below (hS.get (List.mem_cons_of_mem _ List.mem_cons_self)) (below_drew hb1))) (rz_of (Sl.below (hS.get List.mem_cons_self) (below_drew hb1)))).mono fun e w2 ⟨pv, h1, h2, h3⟩ => ⟨pv, h1, h2, h3⟩
   ·have h6 : EV _ (fv 6) w1 := hp 6 (LC (by kernel_rfl))
    have h9 : PZ _ (fv 9) w1 := hp 9 (LC (by kernel_rfl))
    have h3 : EV _ (fv 3) w1 := hp 3 (LC (by kernel_rfl))
    refine tyAt_yes (by simp [Region.wanted, yielded, h6, h3]) ?_
    refine ty_call (f := 27) (args := #[intV r, fv 9]) (by simp [execOp, go_sem, Act.eval, h6, h3]) ?_
    exact (H1.out (fv 9) w1 (hKT.out.at ((hL0.call (below_drew hb1)).bl) kKT) h9).mono fun e w2 ⟨h1, h2⟩ => ⟨_, h1, rfl, h2⟩
   ·have h3 : EV _ (fv 3) w1 := hp 3 (LC (by kernel_rfl))
    have h10 : EV _ (fv 10) w1 := hp 10 (LC (by kernel_rfl))
    refine tyAt_none rfl ?_
    simp [tyUpon, execOp, go_sem, Act.eval, h3, h10, Below.refl]
   ·have h11 : EV _ (fv 11) w1 := hp 11 (LC (by kernel_rfl))
    refine tyAt_none rfl ?_
    simp [tyUpon, execOp, go_sem, Act.eval, h11, Below.refl]
   ·have h12 : EV _ (fv 12) w1 := hp 12 (LC (by kernel_rfl))
    refine tyAt_yes (by simp [Region.wanted, yielded, h12]) ?_
    have hc := (hL0.call (below_drew hb1)).fc
    simp only [fcG, cellsF, neK, and_true, ne_eq, Nat.zero_add, Nat.reduceAdd] at hc
    simp [tyUpon, execOp, go_sem, Act.eval, hc, h12, Below.refl]
   ·have h12 : EV _ (fv 12) w1 := hp 12 (LC (by kernel_rfl))
    refine tyAt_yes (by simp [Region.wanted, yielded, h12]) ?_
    have hc := (hL0.call (below_drew hb1)).fc
    simp only [fcG, cellsF, neK, and_true, ne_eq, Nat.zero_add, Nat.reduceAdd] at hc
    simp [tyUpon, execOp, go_sem, Act.eval, hc, h12, Below.refl]
   ·have h13 : EV _ (fv 13) w1 := hp 13 (LC (by kernel_rfl))
    have h14 : EV _ (fv 14) w1 := hp 14 (LC (by kernel_rfl))
    have h12 : EV _ (fv 12) w1 := hp 12 (LC (by kernel_rfl))
    refine tyAt_yes (by simp [Region.wanted, yielded, h13, h14, h12]) ?_
    refine ty_call (f := 30) (args := #[intV a, intV a]) (by simp [execOp, go_sem, Act.eval, h13, h14, h12]) ?_
    exact (HB.out w1).mono fun e w2 ⟨h1, h2⟩ => ⟨_, h1, rfl, h2⟩
   ·have h12 : EV _ (fv 12) w1 := hp 12 (LC (by kernel_rfl))
    refine tyAt_yes (by simp [Region.wanted, yielded, h12]) ?_
    have hc := (hL0.call (below_drew hb1)).fc
    simp only [fcG, cellsF, neK, and_true, ne_eq, Nat.zero_add, Nat.reduceAdd] at hc
    simp [tyUpon, execOp, go_sem, Act.eval, hc, h12, Below.refl]
   ·have h12 : EV _ (fv 12) w1 := hp 12 (LC (by kernel_rfl))
    refine tyAt_yes (by simp [Region.wanted, yielded, h12]) ?_
    have hc := (hL0.call (below_drew hb1)).fc
    simp only [fcG, cellsF, neK, and_true, ne_eq, Nat.zero_add, Nat.reduceAdd] at hc
    simp [tyUpon, execOp, go_sem, Act.eval, hc, h12, Below.refl]
   ·have h16 : EV _ (fv 16) w1 := hp 16 (LC (by kernel_rfl))
    have h17 : EV _ (fv 17) w1 := hp 17 (LC (by kernel_rfl))
    have h12 : EV _ (fv 12) w1 := hp 12 (LC (by kernel_rfl))
    refine tyAt_yes (by simp [Region.wanted, yielded, h16, h17, h12]) ?_
    refine ty_call (f := 31) (args := #[.agg #[.bool (zs a), .slice g1 (tln a.natAbs) d1], .agg #[.bool (zs a), .slice g2 (tln a.natAbs) d2]]) (by simp [execOp, go_sem, Act.eval, h16, h17, h12]) ?_
    exact (HB2.out (.agg #[.bool (zs a), .slice g1 (tln a.natAbs) d1]) (.agg #[.bool (zs a), .slice g2 (tln a.natAbs) d2]) w1 (rz_of (Sl.below (hS.get (List.mem_cons_of_mem _ List.mem_cons_self)) (below_drew hb1))) (rz_of (Sl.below (hS.get List.mem_cons_self) (below_drew hb1)))).mono fun e w2 ⟨pv, h1, h2, h3⟩ => ⟨pv, h1, h2, h3⟩
   ·have h15 : EV _ (fv 15) w1 := hp 15 (LC (by kernel_rfl))
    have h18 : PZ _ (fv 18) w1 := hp 18 (LC (by kernel_rfl))
    have h12 : EV _ (fv 12) w1 := hp 12 (LC (by kernel_rfl))
    refine tyAt_yes (by simp [Region.wanted, yielded, h15, h12]) ?_
    refine ty_call (f := 27) (args := #[intV d, fv 18]) (by simp [execOp, go_sem, Act.eval, h15, h12]) ?_
    exact (H2.out (fv 18) w1 (hKT.out.at ((hL0.call (below_drew hb1)).bl) kKT) h18).mono fun e w2 ⟨h1, h2⟩ => ⟨_, h1, rfl, h2⟩
   ·have h12 : EV _ (fv 12) w1 := hp 12 (LC (by kernel_rfl))
    have h19 : EV _ (fv 19) w1 := hp 19 (LC (by kernel_rfl))
    refine tyAt_none rfl ?_
    simp [tyUpon, execOp, go_sem, Act.eval, h12, h19, Below.refl]
   ·have h20 : EV _ (fv 20) w1 := hp 20 (LC (by kernel_rfl))
    refine tyAt_none rfl ?_
    simp [tyUpon, execOp, go_sem, Act.eval, h20, Below.refl]
   ·have h21 : EV _ (fv 21) w1 := hp 21 (LC (by kernel_rfl))
    refine tyAt_yes (by simp [Region.wanted, yielded, h21]) ?_
    have hc := (hL0.call (below_drew hb1)).fc
    simp only [fcG, cellsF, neK, and_true, ne_eq, Nat.zero_add, Nat.reduceAdd] at hc
    simp [tyUpon, execOp, go_sem, Act.eval, hc, h21, Below.refl]
   ·have h21 : EV _ (fv 21) w1 := hp 21 (LC (by kernel_rfl))
    refine tyAt_yes (by simp [Region.wanted, yielded, h21]) ?_
    have hc := (hL0.call (below_drew hb1)).fc
    simp only [fcG, cellsF, neK, and_true, ne_eq, Nat.zero_add, Nat.reduceAdd] at hc
    simp [tyUpon, execOp, go_sem, Act.eval, hc, h21, Below.refl]
   ·have h22 : EV _ (fv 22) w1 := hp 22 (LC (by kernel_rfl))
    have h23 : EV _ (fv 23) w1 := hp 23 (LC (by kernel_rfl))
    have h21 : EV _ (fv 21) w1 := hp 21 (LC (by kernel_rfl))
    refine tyAt_yes (by simp [Region.wanted, yielded, h22, h23, h21]) ?_
    refine ty_call (f := 32) (args := #[intV a, intV a]) (by simp [execOp, go_sem, Act.eval, h22, h23, h21]) ?_
    exact (HM.out w1).mono fun e w2 ⟨h1, h2⟩ => ⟨_, h1, rfl, h2⟩
   ·have h21 : EV _ (fv 21) w1 := hp 21 (LC (by kernel_rfl))
    refine tyAt_yes (by simp [Region.wanted, yielded, h21]) ?_
    have hc := (hL0.call (below_drew hb1)).fc
    simp only [fcG, cellsF, neK, and_true, ne_eq, Nat.zero_add, Nat.reduceAdd] at hc
    simp [tyUpon, execOp, go_sem, Act.eval, hc, h21, Below.refl]
   ·have h21 : EV _ (fv 21) w1 := hp 21 (LC (by kernel_rfl))
    refine tyAt_yes (by simp [Region.wanted, yielded, h21]) ?_
    have hc := (hL0.call (below_drew hb1)).fc
    simp only [fcG, cellsF, neK, and_true, ne_eq, Nat.zero_add, Nat.reduceAdd] at hc
    simp [tyUpon, execOp, go_sem, Act.eval, hc, h21, Below.refl]
   ·have h25 : EV _ (fv 25) w1 := hp 25 (LC (by kernel_rfl))
    have h26 : EV _ (fv 26) w1 := hp 26 (LC (by kernel_rfl))
    have h21 : EV _ (fv 21) w1 := hp 21 (LC (by kernel_rfl))
    refine tyAt_yes (by simp [Region.wanted, yielded, h25, h26, h21]) ?_
    refine ty_call (f := 33) (args := #[.agg #[.bool (zs a), .slice g1 (tln a.natAbs) d1], .agg #[.bool (zs a), .slice g2 (tln a.natAbs) d2]]) (by simp [execOp, go_sem, Act.eval, h25, h26, h21]) ?_
    exact (HM2.out (.agg #[.bool (zs a), .slice g1 (tln a.natAbs) d1]) (.agg #[.bool (zs a), .slice g2 (tln a.natAbs) d2]) w1 (rz_of (Sl.below (hS.get (List.mem_cons_of_mem _ List.mem_cons_self)) (below_drew hb1))) (rz_of (Sl.below (hS.get List.mem_cons_self) (below_drew hb1)))).mono fun e w2 ⟨pv, h1, h2, h3⟩ => ⟨pv, h1, h2, h3⟩
   ·have h24 : EV _ (fv 24) w1 := hp 24 (LC (by kernel_rfl))
    have h27 : PZ _ (fv 27) w1 := hp 27 (LC (by kernel_rfl))
    have h21 : EV _ (fv 21) w1 := hp 21 (LC (by kernel_rfl))
    refine tyAt_yes (by simp [Region.wanted, yielded, h24, h21]) ?_
    refine ty_call (f := 27) (args := #[intV m, fv 27]) (by simp [execOp, go_sem, Act.eval, h24, h21]) ?_
    exact (H3.out (fv 27) w1 (hKT.out.at ((hL0.call (below_drew hb1)).bl) kKT) h27).mono fun e w2 ⟨h1, h2⟩ => ⟨_, h1, rfl, h2⟩
   ·have h21 : EV _ (fv 21) w1 := hp 21 (LC (by kernel_rfl))
    have h28 : EV _ (fv 28) w1 := hp 28 (LC (by kernel_rfl))
    refine tyAt_none rfl ?_
    simp [tyUpon, execOp, go_sem, Act.eval, h21, h28, Below.refl]
   ·have h29 : EV _ (fv 29) w1 := hp 29 (LC (by kernel_rfl))
    refine tyAt_none rfl ?_
    simp [tyUpon, execOp, go_sem, Act.eval, h29, Below.refl]
   ·have h30 : EV _ (fv 30) w1 := hp 30 (LC (by kernel_rfl))
    refine tyAt_yes (by simp [Region.wanted, yielded, h30]) ?_
    have hc := (hL0.call (below_drew hb1)).fc
    simp only [fcG, cellsF, neK, and_true, ne_eq, Nat.zero_add, Nat.reduceAdd] at hc
    simp [tyUpon, execOp, go_sem, Act.eval, hc, h30, Below.refl]
   ·have h31 : EV _ (fv 31) w1 := hp 31 (LC (by kernel_rfl))
    have h30 : EV _ (fv 30) w1 := hp 30 (LC (by kernel_rfl))
    refine tyAt_yes (by simp [Region.wanted, yielded, h31, h30]) ?_
    refine ty_call (f := 34) (args := #[intV a]) (by simp [execOp, go_sem, Act.eval, h31, h30]) ?_
    exact (HN.out w1).mono fun e w2 ⟨h1, h2⟩ => ⟨_, h1, rfl, h2⟩
   ·have h30 : EV _ (fv 30) w1 := hp 30 (LC (by kernel_rfl))
    refine tyAt_yes (by simp [Region.wanted, yielded, h30]) ?_
    have hc := (hL0.call (below_drew hb1)).fc
    simp only [fcG, cellsF, neK, and_true, ne_eq, Nat.zero_add, Nat.reduceAdd] at hc
    simp [tyUpon, execOp, go_sem, Act.eval, hc, h30, Below.refl]
   ·have h33 : EV _ (fv 33) w1 := hp 33 (LC (by kernel_rfl))
    have h30 : EV _ (fv 30) w1 := hp 30 (LC (by kernel_rfl))
    refine tyAt_yes (by simp [Region.wanted, yielded, h33, h30]) ?_
    refine ty_call (f := 35) (args := #[.agg #[.bool (zs a), .slice g1 (tln a.natAbs) d1]]) (by simp [execOp, go_sem, Act.eval, h33, h30]) ?_
    exact (HN2.out (.agg #[.bool (zs a), .slice g1 (tln a.natAbs) d1]) w1 (rz_of (Sl.below (hS.get (List.mem_cons_of_mem _ List.mem_cons_self)) (below_drew hb1)))).mono fun e w2 ⟨pv, h1, h2, h3⟩ => ⟨pv, h1, h2, h3⟩
   ·have h32 : EV _ (fv 32) w1 := hp 32 (LC (by kernel_rfl))
    have h34 : PZ _ (fv 34) w1 := hp 34 (LC (by kernel_rfl))
    have h30 : EV _ (fv 30) w1 := hp 30 (LC (by kernel_rfl))
    refine tyAt_yes (by simp [Region.wanted, yielded, h32, h30]) ?_
    refine ty_call (f := 27) (args := #[intV n, fv 34]) (by simp [execOp, go_sem, Act.eval, h32, h30]) ?_
    exact (H4.out (fv 34) w1 (hKT.out.at ((hL0.call (below_drew hb1)).bl) kKT) h34).mono fun e w2 ⟨h1, h2⟩ => ⟨_, h1, rfl, h2⟩
   ·have h30 : EV _ (fv 30) w1 := hp 30 (LC (by kernel_rfl))
    have h35 : EV _ (fv 35) w1 := hp 35 (LC (by kernel_rfl))
    refine tyAt_none rfl ?_
    simp [tyUpon, execOp, go_sem, Act.eval, h30, h35, Below.refl]
   ·have h36 : EV _ (fv 36) w1 := hp 36 (LC (by kernel_rfl))
    refine tyAt_none rfl ?_
    simp [tyUpon, execOp, go_sem, Act.eval, h36, Below.refl]
   ·have h37 : EV _ (fv 37) w1 := hp 37 (LC (by kernel_rfl))
    refine tyAt_yes (by simp [Region.wanted, yielded, h37]) ?_
    have hc := (hL0.call (below_drew hb1)).fc
    simp only [fcG, cellsF, neK, and_true, ne_eq, Nat.zero_add, Nat.reduceAdd] at hc
    simp [tyUpon, execOp, go_sem, Act.eval, hc, h37, Below.refl]
   ·have h38 : EV _ (fv 38) w1 := hp 38 (LC (by kernel_rfl))
    have h37 : EV _ (fv 37) w1 := hp 37 (LC (by kernel_rfl))
    refine tyAt_yes (by simp [Region.wanted, yielded, h38, h37]) ?_
    refine ty_call (f := 36) (args := #[intV a]) (by simp [execOp, go_sem, Act.eval, h38, h37]) ?_
    exact (HS.out w1).mono fun e w2 ⟨h1, h2⟩ => ⟨_, h1, rfl, h2⟩
   ·have h37 : EV _ (fv 37) w1 := hp 37 (LC (by kernel_rfl))
    refine tyAt_yes (by simp [Region.wanted, yielded, h37]) ?_
    have hc := (hL0.call (below_drew hb1)).fc
    simp only [fcG, cellsF, neK, and_true, ne_eq, Nat.zero_add, Nat.reduceAdd] at hc
    simp [tyUpon, execOp, go_sem, Act.eval, hc, h37, Below.refl]
   ·have h40 : EV _ (fv 40) w1 := hp 40 (LC (by kernel_rfl))
    have h37 : EV _ (fv 37) w1 := hp 37 (LC (by kernel_rfl))
    refine tyAt_yes (by simp [Region.wanted, yielded, h40, h37]) ?_
    refine ty_call (f := 37) (args := #[.agg #[.bool (zs a), .slice g1 (tln a.natAbs) d1]]) (by simp [execOp, go_sem, Act.eval, h40, h37]) ?_
    exact (HS2.out (.agg #[.bool (zs a), .slice g1 (tln a.natAbs) d1]) w1 (rz_of (Sl.below (hS.get (List.mem_cons_of_mem _ List.mem_cons_self)) (below_drew hb1)))).mono fun e w2 ⟨h1, h2⟩ => ⟨_, h1, rfl, h2⟩
   ·have h39 : EV _ (fv 39) w1 := hp 39 (LC (by kernel_rfl))
    have h41 : EV _ (fv 41) w1 := hp 41 (LC (by kernel_rfl))
    have h37 : EV _ (fv 37) w1 := hp 37 (LC (by kernel_rfl))
    refine tyAt_yes (by simp [Region.wanted, yielded, h39, h41, h37]) ?_
    simp [tyUpon, execOp, go_sem, Act.eval, h39, h41, h37, Below.refl]
   ·have h37 : EV _ (fv 37) w1 := hp 37 (LC (by kernel_rfl))
    have h42 : EV _ (fv 42) w1 := hp 42 (LC (by kernel_rfl))
    refine tyAt_none rfl ?_
    simp [tyUpon, execOp, go_sem, Act.eval, h37, h42, Below.refl]
   ·have h43 : EV _ (fv 43) w1 := hp 43 (LC (by kernel_rfl))
    refine tyAt_none rfl ?_
    simp [tyUpon, execOp, go_sem, Act.eval, h43, Below.refl]
   ·have h44 : EV _ (fv 44) w1 := hp 44 (LC (by kernel_rfl))
    refine tyAt_yes (by simp [Region.wanted, yielded, h44]) ?_
    have hc := (hL0.call (below_drew hb1)).fc
    simp only [fcG, cellsF, neK, and_true, ne_eq, Nat.zero_add, Nat.reduceAdd] at hc
    simp [tyUpon, execOp, go_sem, Act.eval, hc, h44, Below.refl]
   ·have h44 : EV _ (fv 44) w1 := hp 44 (LC (by kernel_rfl))
    refine tyAt_yes (by simp [Region.wanted, yielded, h44]) ?_
    have hc := (hL0.call (below_drew hb1)).fc
    simp only [fcG, cellsF, neK, and_true, ne_eq, Nat.zero_add, Nat.reduceAdd] at hc
    simp [tyUpon, execOp, go_sem, Act.eval, hc, h44, Below.refl]
   ·have h45 : EV _ (fv 45) w1 := hp 45 (LC (by kernel_rfl))
    have h46 : EV _ (fv 46) w1 := hp 46 (LC (by kernel_rfl))
    have h44 : EV _ (fv 44) w1 := hp 44 (LC (by kernel_rfl))
    refine tyAt_yes (by simp [Region.wanted, yielded, h45, h46, h44]) ?_
    refine ty_call (f := 38) (args := #[intV a, intV a]) (by simp [execOp, go_sem, Act.eval, h45, h46, h44]) ?_
    exact (HC2.out w1).mono fun e w2 ⟨h1, h2⟩ => ⟨_, h1, rfl, h2⟩
   ·have h44 : EV _ (fv 44) w1 := hp 44 (LC (by kernel_rfl))
    refine tyAt_yes (by simp [Region.wanted, yielded, h44]) ?_
    simp [tyUpon, execOp, go_sem, Act.eval, h44, Below.refl]
   ·have h47 : EV _ (fv 47) w1 := hp 47 (LC (by kernel_rfl))
    have h48 : EV _ (fv 48) w1 := hp 48 (LC (by kernel_rfl))
    have h44 : EV _ (fv 44) w1 := hp 44 (LC (by kernel_rfl))
    refine tyAt_yes (by simp [Region.wanted, yielded, h47, h48, h44]) ?_
    simp [tyUpon, execOp, go_sem, Act.eval, h47, h48, h44, Below.refl]
   ·have h44 : EV _ (fv 44) w1 := hp 44 (LC (by kernel_rfl))
    have h49 : EV _ (fv 49) w1 := hp 49 (LC (by kernel_rfl))
    refine tyAt_none rfl ?_
    simp [tyUpon, execOp, go_sem, Act.eval, h44, h49, Below.refl]
   ·have h50 : EV _ (fv 50) w1 := hp 50 (LC (by kernel_rfl))
    refine tyAt_none rfl ?_
    simp [tyUpon, execOp, go_sem, Act.eval, h50, Below.refl]
   ·have h51 : EV _ (fv 51) w1 := hp 51 (LC (by kernel_rfl))
    refine tyAt_yes (by simp [Region.wanted, yielded, h51]) ?_
    have hc := (hL0.call (below_drew hb1)).fc
    simp only [fcG, cellsF, neK, and_true, ne_eq, Nat.zero_add, Nat.reduceAdd] at hc
    simp [tyUpon, execOp, go_sem, Act.eval, hc, h51, Below.refl]
   ·have h51 : EV _ (fv 51) w1 := hp 51 (LC (by kernel_rfl))
    refine tyAt_yes (by simp [Region.wanted, yielded, h51]) ?_
    have hc := (hL0.call (below_drew hb1)).fc
    simp only [fcG, cellsF, neK, and_true, ne_eq, Nat.zero_add, Nat.reduceAdd] at hc
    simp [tyUpon, execOp, go_sem, Act.eval, hc, h51, Below.refl]
   ·have h52 : EV _ (fv 52) w1 := hp 52 (LC (by kernel_rfl))
    have h53 : EV _ (fv 53) w1 := hp 53 (LC (by kernel_rfl))
    have h51 : EV _ (fv 51) w1 := hp 51 (LC (by kernel_rfl))
    refine tyAt_yes (by simp [Region.wanted, yielded, h52, h53, h51]) ?_
    simp [tyUpon, execOp, go_sem, Act.eval, h52, h53, h51, Below.refl]
   ·have h51 : EV _ (fv 51) w1 := hp 51 (LC (by kernel_rfl))
    refine tyAt_yes (by simp [Region.wanted, yielded, h51]) ?_
    simp [tyUpon, execOp, go_sem, Act.eval, h51, Below.refl]
   ·have h55 : EV _ (fv 55) w1 := hp 55 (LC (by kernel_rfl))
    have h51 : EV _ (fv 51) w1 := hp 51 (LC (by kernel_rfl))
    refine tyAt_yes (by simp [Region.wanted, yielded, h55, h51]) ?_
    simp [tyUpon, execOp, go_sem, Act.eval, h55, h51, Below.refl]
   ·have h54 : EV _ (fv 54) w1 := hp 54 (LC (by kernel_rfl))
    have h56 : EV _ (fv 56) w1 := hp 56 (LC (by kernel_rfl))
    have h51 : EV _ (fv 51) w1 := hp 51 (LC (by kernel_rfl))
    refine tyAt_yes (by simp [Region.wanted, yielded, h54, h56, h51]) ?_
    simp [tyUpon, execOp, go_sem, Act.eval, h54, h56, h51, Below.refl]
   ·have h51 : EV _ (fv 51) w1 := hp 51 (LC (by kernel_rfl))
    have h57 : EV _ (fv 57) w1 := hp 57 (LC (by kernel_rfl))
    refine tyAt_none rfl ?_
    simp [tyUpon, execOp, go_sem, Act.eval, h51, h57, Below.refl]
   ·have h58 : EV _ (fv 58) w1 := hp 58 (LC (by kernel_rfl))
    refine tyAt_none rfl ?_
    simp [tyUpon, execOp, go_sem, Act.eval, h58, Below.refl]
   ·have h59 : EV _ (fv 59) w1 := hp 59 (LC (by kernel_rfl))
    refine tyAt_yes (by simp [Region.wanted, yielded, h59]) ?_
    have hc := (hL0.call (below_drew hb1)).fc
    simp only [fcG, cellsF, neK, and_true, ne_eq, Nat.zero_add, Nat.reduceAdd] at hc
    simp [tyUpon, execOp, go_sem, Act.eval, hc, h59, Below.refl]
   ·have h60 : EV _ (fv 60) w1 := hp 60 (LC (by kernel_rfl))
    have h59 : EV _ (fv 59) w1 := hp 59 (LC (by kernel_rfl))
    refine tyAt_yes (by simp [Region.wanted, yielded, h60, h59]) ?_
    refine ty_call (f := 40) (args := #[intV a]) (by simp [execOp, go_sem, Act.eval, h60, h59]) ?_
    exact (HX.out w1).mono fun e w2 ⟨h1, h2⟩ => ⟨_, h1, rfl, h2⟩
   ·have h61 : EV _ (fv 61) w1 := hp 61 (LC (by kernel_rfl))
    have h59 : EV _ (fv 59) w1 := hp 59 (LC (by kernel_rfl))
    refine tyAt_yes (by simp [Region.wanted, yielded, h61, h59]) ?_
    refine ty_call (f := 39) (args := #[natV k]) (by simp [execOp, go_sem, Act.eval, h61, h59]) ?_
    exact (HT.out w1 (hKT.out.at ((hL0.call (below_drew hb1)).bl) kKT)).mono fun e w2 ⟨h1, h2⟩ => ⟨_, h1, rfl, h2⟩
   ·have h59 : EV _ (fv 59) w1 := hp 59 (LC (by kernel_rfl))
    refine tyAt_yes (by simp [Region.wanted, yielded, h59]) ?_
    simp [tyUpon, execOp, go_sem, Act.eval, h59, Below.refl]
   ·have h63 : EV _ (fv 63) w1 := hp 63 (LC (by kernel_rfl))
    have h59 : EV _ (fv 59) w1 := hp 59 (LC (by kernel_rfl))
    refine tyAt_yes (by simp [Region.wanted, yielded, h63, h59]) ?_
    have hc := (hL0.call (below_drew hb1)).fc
    simp only [fcG, cellsF, neK, and_true, ne_eq, Nat.zero_add, Nat.reduceAdd] at hc
    simp [tyUpon, execOp, go_sem, Act.eval, hc, h63, h59, Below.refl]
   ·have h64 : EV _ (fv 64) w1 := hp 64 (LC (by kernel_rfl))
    have h59 : EV _ (fv 59) w1 := hp 59 (LC (by kernel_rfl))
    refine tyAt_yes (by simp [Region.wanted, yielded, h64, h59]) ?_
    refine ty_call (f := 41) (args := #[.slice g1 (tln a.natAbs) d1]) (by simp [execOp, go_sem, Act.eval, h64, h59]) ?_
    exact (HT2.out (.slice g1 (tln a.natAbs) d1) w1 (Sl.below (hS.get (List.mem_cons_of_mem _ List.mem_cons_self)) (below_drew hb1))).mono fun e w2 ⟨h1, h2⟩ => ⟨_, h1, rfl, h2⟩
   ·have h62 : EV _ (fv 62) w1 := hp 62 (LC (by kernel_rfl))
    have h65 : EV _ (fv 65) w1 := hp 65 (LC (by kernel_rfl))
    have h59 : EV _ (fv 59) w1 := hp 59 (LC (by kernel_rfl))
    refine tyAt_yes (by simp [Region.wanted, yielded, h62, h65, h59]) ?_
    simp [tyUpon, execOp, go_sem, Act.eval, h62, h65, h59, Below.refl]
   ·have h59 : EV _ (fv 59) w1 := hp 59 (LC (by kernel_rfl))
    have h66 : EV _ (fv 66) w1 := hp 66 (LC (by kernel_rfl))
    refine tyAt_none rfl ?_
    simp [tyUpon, execOp, go_sem, Act.eval, h59, h66, Below.refl]
   ·have h67 : EV _ (fv 67) w1 := hp 67 (LC (by kernel_rfl))
    refine tyAt_none rfl ?_
    simp [tyUpon, execOp, go_sem, Act.eval, h67, Below.refl]
   ·have h68 : EV _ (fv 68) w1 := hp 68 (LC (by kernel_rfl))
    refine tyAt_yes (by simp [Region.wanted, yielded, h68]) ?_
    refine ty_call (f := 23) (args := #[]) (by simp [execOp, go_sem, Act.eval, h68]) ?_
    exact (HW.out w1 (hKT.out.at ((hL0.call (below_drew hb1)).bl) kKT)).mono fun e w2 ⟨h1, h2⟩ => ⟨_, h1, rfl, h2⟩
   ·have h68 : EV _ (fv 68) w1 := hp 68 (LC (by kernel_rfl))
    have h69 : EV _ (fv 69) w1 := hp 69 (LC (by kernel_rfl))
    refine tyAt_none rfl ?_
    simp [tyUpon, execOp, go_sem, Act.eval, h68, h69, Below.refl]
   ·have h70 : EV _ (fv 70) w1 := hp 70 (LC (by kernel_rfl))
    refine tyAt_none rfl ?_
    simp [tyUpon, execOp, go_sem, Act.eval, h70, Below.refl]
  ·intro fv x9 hb1 hv
   have e0 : fv 0 = _ := hv 0 (by omega)
   have e1 : fv 1 = _ := hv 1 (by omega)
   have e2 : fv 2 = _ := hv 2 (by omega)
   have e3 : fv 3 = _ := hv 3 (by omega)
   have e4 : fv 4 = _ := hv 4 (by omega)
   have e5 : fv 5 = _ := hv 5 (by omega)
   have e6 : fv 6 = _ := hv 6 (by omega)
   have e7 : fv 7 = _ := hv 7 (by omega)
   have e8 : fv 8 = _ := hv 8 (by omega)
   have q9 : RZ x9 (fv 9) r := hv 9 (by omega)
   obtain ⟨g3, d3, e9⟩ := rz_form q9
   rw [e9] at q9
   have e10 : fv 10 = _ := hv 10 (by omega)
   have e11 : fv 11 = _ := hv 11 (by omega)
   have e12 : fv 12 = _ := hv 12 (by omega)
   have e13 : fv 13 = _ := hv 13 (by omega)
   have e14 : fv 14 = _ := hv 14 (by omega)
   have e15 : fv 15 = _ := hv 15 (by omega)
   have e16 : fv 16 = _ := hv 16 (by omega)
   have e17 : fv 17 = _ := hv 17 (by omega)
   have q18 : RZ x9 (fv 18) d := hv 18 (by omega)
   obtain ⟨g4, d4, e18⟩ := rz_form q18
   rw [e18] at q18
   have e19 : fv 19 = _ := hv 19 (by omega)
   have e20 : fv 20 = _ := hv 20 (by omega)
   have e21 : fv 21 = _ := hv 21 (by omega)
   have e22 : fv 22 = _ := hv 22 (by omega)
   have e23 : fv 23 = _ := hv 23 (by omega)
   have e24 : fv 24 = _ := hv 24 (by omega)
   have e25 : fv 25 = _ := hv 25 (by omega)
   have e26 : fv 26 = _ := hv 26 (by omega)
   have q27 : RZ x9 (fv 27) m := hv 27 (by omega)
   obtain ⟨g5, d5, e27⟩ := rz_form q27
   rw [e27] at q27
   have e28 : fv 28 = _ := hv 28 (by omega)
   have e29 : fv 29 = _ := hv 29 (by omega)
   have e30 : fv 30 = _ := hv 30 (by omega)
   have e31 : fv 31 = _ := hv 31 (by omega)
   have e32 : fv 32 = _ := hv 32 (by omega)
   have e33 : fv 33 = _ := hv 33 (by omega)
   have q34 : RZ x9 (fv 34) n := hv 34 (by omega)
   obtain ⟨g6, d6, e34⟩ := rz_form q34
   rw [e34] at q34
   have e35 : fv 35 = _ := hv 35 (by omega)
   have e36 : fv 36 = _ := hv 36 (by omega)
   have e37 : fv 37 = _ := hv 37 (by omega)
   have e38 : fv 38 = _ := hv 38 (by omega)
   have e39 : fv 39 = _ := hv 39 (by omega)
   have e40 : fv 40 = _ := hv 40 (by omega)
   have e41 : fv 41 = _ := hv 41 (by omega)
   have e42 : fv 42 = _ := hv 42 (by omega)
   have e43 : fv 43 = _ := hv 43 (by omega)
   have e44 : fv 44 = _ := hv 44 (by omega)
   have e45 : fv 45 = _ := hv 45 (by omega)
   have e46 : fv 46 = _ := hv 46 (by omega)
   have e47 : fv 47 = _ := hv 47 (by omega)
   have e48 : fv 48 = _ := hv 48 (by omega)
   have e49 : fv 49 = _ := hv 49 (by omega)
   have e50 : fv 50 = _ := hv 50 (by omega)
   have e51 : fv 51 = _ := hv 51 (by omega)
   have e52 : fv 52 = _ := hv 52 (by omega)
   have e53 : fv 53 = _ := hv 53 (by omega)
   have e54 : fv 54 = _ := hv 54 (by omega)
   have e55 : fv 55 = _ := hv 55 (by omega)
   have e56 : fv 56 = _ := hv 56 (by omega)
   have e57 : fv 57 = _ := hv 57 (by omega)
   have e58 : fv 58 = _ := hv 58 (by omega)
   have e59 : fv 59 = _ := hv 59 (by omega)
   have e60 : fv 60 = _ := hv 60 (by omega)
   have e61 : fv 61 = _ := hv 61 (by omega)
   have e62 : fv 62 = _ := hv 62 (by omega)
   have e63 : fv 63 = _ := hv 63 (by omega)
   have e64 : fv 64 = _ := hv 64 (by omega)
   have e65 : fv 65 = _ := hv 65 (by omega)
   have e66 : fv 66 = _ := hv 66 (by omega)
   have e67 : fv 67 = _ := hv 67 (by omega)
   have e68 : fv 68 = _ := hv 68 (by omega)
   have e69 : fv 69 = _ := hv 69 (by omega)
   have e70 : fv 70 = _ := hv 70 (by omega)
   have e71 : fv 71 = _ := hv 71 (by omega)
   simp only [List.take_succ_cons, List.take_zero, putsV, Act.put, List.setIfInBounds_toArray, List.set_cons_succ, List.set_cons_zero, List.drop_succ_cons, List.drop_zero, Nat.zero_add, Nat.reduceAdd, e0, e1, e2, e3, e4, e5, e6, e7, e8, e9, e10, e11, e12, e13, e14, e15, e16, e17, e18, e19, e20, e21, e22, e23, e24, e25, e26, e27, e28, e29, e30, e31, e32, e33, e34, e35, e36, e37, e38, e39, e40, e41, e42, e43, e44, e45, e46, e47, e48, e49, e50, e51, e52, e53, e54, e55, e56, e57, e58, e59, e60, e61, e62, e63, e64, e65, e66, e67, e68, e69, e70, e71]
   replace hL0 := hL0.call (below_drew hb1)
   replace hS := hS.call (below_drew hb1)
   replace hS := hS.cons (rz_rn q9)
   replace hS := hS.cons (rz_rn q18)
   replace hS := hS.cons (rz_rn q27)
   replace hS := hS.cons (rz_rn q34)
   clear e0 e1 e2 e3 e4 e5 e6 e7 e8 e9 e10 e11 e12 e13 e14 e15 e16 e17 e18 e19 e20 e21 e22 e23 e24 e25 e26 e27 e28 e29 e30 e31 e32 e33 e34 e35 e36 e37 e38 e39 e40 e41 e42 e43 e44 e45 e46 e47 e48 e49 e50 e51 e52 e53 e54 e55 e56 e57 e58 e59 e60 e61 e62 e63 e64 e65 e66 e67 e68 e69 e70 e71 hb1 hv q9 q18 q27 q34 fv
   go_wp2_with fail
   exact bodyPost_ret (v := .bool true) (by simp [results, Tryz.results4, go_sem]) rfl ⟨rfl, hL0.bl⟩
end Go.Proofs.YtdmoadfnogdfnaaGreatDoor
namespace Go.Proofs.YtdmoadfnogdfnaaGreatDoor
open Go.RowKit Go.Proofs.YtdmoadfnogdfnaaGreatDoor.Rx
attribute [local irreducible] lo hs sm s64 c64 d64 b64 mh ml pd pc qd qc val hiB str cmpI srD lz nb isq decB zl zh zs dval tln ztxt txt
set_option maxHeartbeats 4000000 in
set_option maxRecDepth 100000 in
theorem isums_ne (sx sy : Bool) (ax ay : Option Addr) (nx cx ny cy : Nat) (a b r d m n i j : Int) (k : Nat) (t : ByteArray) (Kx : World → Prop) (hKx : Keeps Kx) (GX : RK Kx 24 #[.agg #[.bool sx, .slice ax nx cx]] (intV a)) (Ky : World → Prop) (hKy : Keeps Ky) (GY : RK Ky 24 #[.agg #[.bool sy, .slice ay ny cy]] (intV b)) (RX : ∀ (w : World), Kx w → Calls Tryz.prog 25 #[.agg #[.bool sx, .slice ax nx cx]] w fun e w' => ∃ pv, e = .returned pv ∧ RZ w' pv a ∧ Below w.heap.size w w') (RY : ∀ (w : World), Ky w → Calls Tryz.prog 25 #[.agg #[.bool sy, .slice ay ny cy]] w fun e w' => ∃ pv, e = .returned pv ∧ RZ w' pv b ∧ Below w.heap.size w w') (HC : ∀ (p0 p1 : Value) (w : World), RZ w p0 a → RZ w p1 b → Calls Tryz.prog 26 #[p0, p1] w fun e w' => e = .returned (.int .i64 i) ∧ Below w.heap.size w w') (KT : World → Prop) (hKT : Keeps KT) (H0 : ∀ (p1 : Value) (w : World), KT w → RZ w p1 a → Calls Tryz.prog 27 #[intV a, p1] w fun e w' => e = .returned (.bool true) ∧ Below w.heap.size w w') (HA : RT 28 #[intV a, intV b] (intV r)) (HA2 : ∀ (p0 p1 : Value) (w : World), RZ w p0 a → RZ w p1 b → Calls Tryz.prog 29 #[p0, p1] w fun e w' => ∃ pv, e = .returned pv ∧ RZ w' pv r ∧ Below w.heap.size w w') (H1 : ∀ (p1 : Value) (w : World), KT w → RZ w p1 r → Calls Tryz.prog 27 #[intV r, p1] w fun e w' => e = .returned (.bool true) ∧ Below w.heap.size w w') (HB : RT 30 #[intV a, intV b] (intV d)) (HB2 : ∀ (p0 p1 : Value) (w : World), RZ w p0 a → RZ w p1 b → Calls Tryz.prog 31 #[p0, p1] w fun e w' => ∃ pv, e = .returned pv ∧ RZ w' pv d ∧ Below w.heap.size w w') (H2 : ∀ (p1 : Value) (w : World), KT w → RZ w p1 d → Calls Tryz.prog 27 #[intV d, p1] w fun e w' => e = .returned (.bool true) ∧ Below w.heap.size w w') (HM : RT 32 #[intV a, intV b] (intV m)) (HM2 : ∀ (p0 p1 : Value) (w : World), RZ w p0 a → RZ w p1 b → Calls Tryz.prog 33 #[p0, p1] w fun e w' => ∃ pv, e = .returned pv ∧ RZ w' pv m ∧ Below w.heap.size w w') (H3 : ∀ (p1 : Value) (w : World), KT w → RZ w p1 m → Calls Tryz.prog 27 #[intV m, p1] w fun e w' => e = .returned (.bool true) ∧ Below w.heap.size w w') (HN : RT 34 #[intV a] (intV n)) (HN2 : ∀ (p0 : Value) (w : World), RZ w p0 a → Calls Tryz.prog 35 #[p0] w fun e w' => ∃ pv, e = .returned pv ∧ RZ w' pv n ∧ Below w.heap.size w w') (H4 : ∀ (p1 : Value) (w : World), KT w → RZ w p1 n → Calls Tryz.prog 27 #[intV n, p1] w fun e w' => e = .returned (.bool true) ∧ Below w.heap.size w w') (HS : RT 36 #[intV a] (.int .i64 j)) (HS2 : ∀ (p0 : Value) (w : World), RZ w p0 a → Calls Tryz.prog 37 #[p0] w fun e w' => e = .returned (.int .i64 j) ∧ Below w.heap.size w w') (HC2 : RT 38 #[intV a, intV b] (.int .i64 i)) (HX : RT 40 #[intV a] (natV k)) (HT : RK KT 39 #[natV k] (.string t)) (HT2 : ∀ (p0 : Value) (w : World), Rn w p0 a.natAbs → Calls Tryz.prog 41 #[p0] w fun e w' => e = .returned (.string t) ∧ Below w.heap.size w w') (HW : RK KT 23 #[] (.bool true)) (hfew : decide (nx ≤ 16 ∧ ny ≤ 16) = true) (hne : a ≠ b) (hi : (i == 0) = false) (w : World) (kKx : Kx w) (kKy : Ky w) (kKT : KT w) :
  Calls Tryz.prog 4 #[.agg #[.bool sx, .slice ax nx cx], .agg #[.bool sy, .slice ay ny cy]] w fun e w' => e = .returned (.bool true) ∧ Below w.heap.size w w' := by
 replace hKx := Lib.hid hKx
 replace GX := Lib.hid GX
 replace hKy := Lib.hid hKy
 replace GY := Lib.hid GY
 replace RX := Lib.hid RX
 replace RY := Lib.hid RY
 replace HC := Lib.hid HC
 replace hKT := Lib.hid hKT
 replace H0 := Lib.hid H0
 replace HA := Lib.hid HA
 replace HA2 := Lib.hid HA2
 replace H1 := Lib.hid H1
 replace HB := Lib.hid HB
 replace HB2 := Lib.hid HB2
 replace H2 := Lib.hid H2
 replace HM := Lib.hid HM
 replace HM2 := Lib.hid HM2
 replace H3 := Lib.hid H3
 replace HN := Lib.hid HN
 replace HN2 := Lib.hid HN2
 replace H4 := Lib.hid H4
 replace HS := Lib.hid HS
 replace HS2 := Lib.hid HS2
 replace HC2 := Lib.hid HC2
 replace HX := Lib.hid HX
 replace HT := Lib.hid HT
 replace HT2 := Lib.hid HT2
 replace HW := Lib.hid HW
 have hL0 : GL w w [] := GL.start w
 have hS : SS w [] := SS.nil w
 replace hne := Lib.hid hne
 replace hS := (((hS.new (.cells #[.bool sx, .slice ax nx cx] 36)).new (.cells #[.bool sy, .slice ay ny cy] 36)).new (.cells #[.bool sx, .slice ax nx cx, .bool sy, .slice ay ny cy] 36))
 replace hL0 := (((hL0.new rfl [.bool sx, .slice ax nx cx] 36).new (K := w.heap.size + 1) (szA _ _) [.bool sy, .slice ay ny cy] 36).new (K := w.heap.size + 1 + 1) (by simp only [World.size_alloc]) [.bool sx, .slice ax nx cx, .bool sy, .slice ay ny cy] 36)
 generalize hweq : (((w.alloc (.cells #[.bool sx, .slice ax nx cx] 36)).alloc (.cells #[.bool sy, .slice ay ny cy] 36)).alloc (.cells #[.bool sx, .slice ax nx cx, .bool sy, .slice ay ny cy] 36)) = x1 at hL0 hS
 go_enter Tryz.func4, Tryz.ntmps4
 have hN0 := cells_of _ 0 [] rfl (hL0.get _ _ (List.mem_cons_of_mem _ List.mem_cons_self))
 simp only [cellsF, and_true, Nat.zero_add, Nat.reduceAdd] at hN0
 have hN1 := cells_of _ 0 [] rfl (hL0.get _ _ (List.mem_cons_of_mem _ (List.mem_cons_of_mem _ List.mem_cons_self)))
 simp only [cellsF, and_true, Nat.zero_add, Nat.reduceAdd] at hN1
 have HFw := few2 16 16 rfl (by omega) (hL0.get _ _ List.mem_cons_self)
 rw [hfew] at HFw
 replace HFw := Lib.hid HFw
 go_wp2_with fail
 with_reducible refine Calls.mono (HFw.out) ?_
 rintro e x2 ⟨rfl, rfl⟩
 clear HFw
 clear hN0 hN1
 go_upto_region 3 with fail
 clear hweq
 refine region_tal 12 [EV (.agg #[.bool sx, .slice ax nx cx]), EV (intV a), EV (.agg #[.bool sy, .slice ay ny cy]), EV (intV b), EV (.agg #[.bool sx, .slice ax nx cx]), PZ a, EV (.agg #[.bool sy, .slice ay ny cy]), PZ b, NewB x2.heap.size [.int .u64 0, .string ⟨#[]⟩, .bool false], NewB x2.heap.size [.int .u64 0, .string ⟨#[]⟩, .bool false], NewB x2.heap.size [.bool false, .slice none 0 0], NewB x2.heap.size [.bool false, .slice none 0 0]] [8, 9, 10, 11] (by kernel_rfl) (by kernel_rfl) ?_ ?_ ?_ ?_ ?_
 ·exact stays_cons (stays_eq _) (stays_cons (stays_eq _) (stays_cons (stays_eq _) (stays_cons (stays_eq _) (stays_cons (stays_eq _) (stays_cons (stays_rz _) (stays_cons (stays_eq _) (stays_cons (stays_rz _) (stays_cons (stays_new _ _) (stays_cons (stays_new _ _) (stays_cons (stays_new _ _) (stays_cons (stays_new _ _) (stays_nil))))))))))))
 ·simp only [List.take_succ_cons, List.take_zero, hopsR, and_true]
  refine ⟨?_, ?_, ?_, ?_, ?_, ?_, ?_, ?_, ?_, ?_, ?_, ?_⟩ <;> intro fv w1 hb1 hp
  all_goals (simp only [putsV, Act.put, List.setIfInBounds_toArray, List.set_cons_succ, List.set_cons_zero, Nat.zero_add, Nat.reduceAdd])
  ·refine tyAt_none rfl ?_
   have hc := (hL0.call (below_drew hb1)).fc
   simp only [fcG, cellsF, neK, and_true, ne_eq, Nat.zero_add, Nat.reduceAdd] at hc
   simp [tyUpon, execOp, go_sem, Act.eval, hc, (beq_eq_false_iff_ne.1 hi), Below.refl]
  ·have h0 : EV _ (fv 0) w1 := hp 0 (LC (by kernel_rfl))
   refine tyAt_none rfl ?_
   refine ty_call (f := 24) (args := #[.agg #[.bool sx, .slice ax nx cx]]) (by simp [execOp, go_sem, Act.eval, h0]) ?_
   exact (GX.out w1 (hKx.out.at ((hL0.call (below_drew hb1)).bl) kKx)).mono fun e w2 ⟨h1, h2⟩ => ⟨_, h1, rfl, h2⟩
  ·refine tyAt_none rfl ?_
   have hc := (hL0.call (below_drew hb1)).fc
   simp only [fcG, cellsF, neK, and_true, ne_eq, Nat.zero_add, Nat.reduceAdd] at hc
   simp [tyUpon, execOp, go_sem, Act.eval, hc, (beq_eq_false_iff_ne.1 hi), Below.refl]
  ·have h2 : EV _ (fv 2) w1 := hp 2 (LC (by kernel_rfl))
   refine tyAt_none rfl ?_
   refine ty_call (f := 24) (args := #[.agg #[.bool sy, .slice ay ny cy]]) (by simp [execOp, go_sem, Act.eval, h2]) ?_
   exact (GY.out w1 (hKy.out.at ((hL0.call (below_drew hb1)).bl) kKy)).mono fun e w2 ⟨h1, h2⟩ => ⟨_, h1, rfl, h2⟩
  ·refine tyAt_none rfl ?_
   have hc := (hL0.call (below_drew hb1)).fc
   simp only [fcG, cellsF, neK, and_true, ne_eq, Nat.zero_add, Nat.reduceAdd] at hc
   simp [tyUpon, execOp, go_sem, Act.eval, hc, (beq_eq_false_iff_ne.1 hi), Below.refl]
  ·have h4 : EV _ (fv 4) w1 := hp 4 (LC (by kernel_rfl))
   refine tyAt_none rfl ?_
   refine ty_call (f := 25) (args := #[.agg #[.bool sx, .slice ax nx cx]]) (by simp [execOp, go_sem, Act.eval, h4]) ?_
   exact (RX.out w1 (hKx.out.at ((hL0.call (below_drew hb1)).bl) kKx)).mono fun e w2 ⟨pv, h1, h2, h3⟩ => ⟨pv, h1, h2, h3⟩
  ·refine tyAt_none rfl ?_
   have hc := (hL0.call (below_drew hb1)).fc
   simp only [fcG, cellsF, neK, and_true, ne_eq, Nat.zero_add, Nat.reduceAdd] at hc
   simp [tyUpon, execOp, go_sem, Act.eval, hc, (beq_eq_false_iff_ne.1 hi), Below.refl]
  ·have h6 : EV _ (fv 6) w1 := hp 6 (LC (by kernel_rfl))
   refine tyAt_none rfl ?_
   refine ty_call (f := 25) (args := #[.agg #[.bool sy, .slice ay ny cy]]) (by simp [execOp, go_sem, Act.eval, h6]) ?_
   exact (RY.out w1 (hKy.out.at ((hL0.call (below_drew hb1)).bl) kKy)).mono fun e w2 ⟨pv, h1, h2, h3⟩ => ⟨pv, h1, h2, h3⟩
  ·exact tyAt_new rfl rfl new_int (below_drew hb1).size
  ·exact tyAt_new rfl rfl new_int (below_drew hb1).size
  ·exact tyAt_new rfl rfl new_rz (below_drew hb1).size
  ·exact tyAt_new rfl rfl new_rz (below_drew hb1).size
 ·intro j hj u w2 hT
  simp only [List.contains_iff_mem, List.mem_cons, List.not_mem_nil, or_false] at hj
  rcases hj with rfl | rfl | rfl | rfl <;> exact NewB.ptr hT
 ·exact ⟨⟨_, _, _, _, rfl, rfl, rfl, new_int⟩, ⟨_, _, _, _, rfl, rfl, rfl, new_int⟩, ⟨_, _, _, _, rfl, rfl, rfl, new_rz⟩, ⟨_, _, _, _, rfl, rfl, rfl, new_rz⟩, trivial⟩
 ·intro fv x3 hb1 hv hne
  have e0 : fv 0 = _ := hv 0 (by omega)
  have e1 : fv 1 = _ := hv 1 (by omega)
  have e2 : fv 2 = _ := hv 2 (by omega)
  have e3 : fv 3 = _ := hv 3 (by omega)
  have e4 : fv 4 = _ := hv 4 (by omega)
  have q5 : RZ x3 (fv 5) a := hv 5 (by omega)
  obtain ⟨g1, d1, e5⟩ := rz_form q5
  rw [e5] at q5
  have e6 : fv 6 = _ := hv 6 (by omega)
  have q7 : RZ x3 (fv 7) b := hv 7 (by omega)
  obtain ⟨g2, d2, e7⟩ := rz_form q7
  rw [e7] at q7
  obtain ⟨kb8, e8, n8, m8⟩ : NewB x2.heap.size [.int .u64 0, .string ⟨#[]⟩, .bool false] (fv 8) x3 := hv 8 (by omega)
  obtain ⟨kb9, e9, n9, m9⟩ : NewB x2.heap.size [.int .u64 0, .string ⟨#[]⟩, .bool false] (fv 9) x3 := hv 9 (by omega)
  obtain ⟨kb10, e10, n10, m10⟩ : NewB x2.heap.size [.bool false, .slice none 0 0] (fv 10) x3 := hv 10 (by omega)
  obtain ⟨kb11, e11, n11, m11⟩ : NewB x2.heap.size [.bool false, .slice none 0 0] (fv 11) x3 := hv 11 (by omega)
  simp only [List.take_succ_cons, List.take_zero, putsV, Act.put, List.setIfInBounds_toArray, List.set_cons_succ, List.set_cons_zero, List.drop_succ_cons, List.drop_zero, Nat.zero_add, Nat.reduceAdd, e0, e1, e2, e3, e4, e5, e6, e7, e8, e9, e10, e11]
  have hx0 := hL0
  replace hL0 := hL0.call (below_drew hb1)
  replace hS := hS.call (below_drew hb1)
  replace hL0 := GL.tnew (M := []) hL0 hx0 n8 m8 (fun p hp => by cases hp)
  replace hL0 := GL.tnew (M := [(kb8, [.int .u64 0, .string ⟨#[]⟩, .bool false])]) hL0 hx0 n9 m9 (by intro p hp; simp only [List.mem_cons, List.not_mem_nil, or_false] at hp; rcases hp with rfl; exact ptr_ne e8 e9 (hne 8 9 (by omega) (by omega) (by omega) rfl rfl))
  replace hL0 := GL.tnew (M := [(kb9, [.int .u64 0, .string ⟨#[]⟩, .bool false]), (kb8, [.int .u64 0, .string ⟨#[]⟩, .bool false])]) hL0 hx0 n10 m10 (by intro p hp; simp only [List.mem_cons, List.not_mem_nil, or_false] at hp; rcases hp with rfl | rfl; exact ptr_ne e9 e10 (hne 9 10 (by omega) (by omega) (by omega) rfl rfl); exact ptr_ne e8 e10 (hne 8 10 (by omega) (by omega) (by omega) rfl rfl))
  replace hL0 := GL.tnew (M := [(kb10, [.bool false, .slice none 0 0]), (kb9, [.int .u64 0, .string ⟨#[]⟩, .bool false]), (kb8, [.int .u64 0, .string ⟨#[]⟩, .bool false])]) hL0 hx0 n11 m11 (by intro p hp; simp only [List.mem_cons, List.not_mem_nil, or_false] at hp; rcases hp with rfl | rfl | rfl; exact ptr_ne e10 e11 (hne 10 11 (by omega) (by omega) (by omega) rfl rfl); exact ptr_ne e9 e11 (hne 9 11 (by omega) (by omega) (by omega) rfl rfl); exact ptr_ne e8 e11 (hne 8 11 (by omega) (by omega) (by omega) rfl rfl))
  simp only [List.cons_append, List.nil_append] at hL0
  replace hS := hS.cons (rz_rn q5)
  replace hS := hS.cons (rz_rn q7)
  clear e0 e1 e2 e3 e4 e5 e6 e7 e8 e9 e10 e11 hb1 hv hne hx0 n8 m8 n9 m9 n10 m10 n11 m11 q5 q7 fv
  have hS1 := hS.put ((((Upd.refl kb8 x3).setCell 0 (.int .u64 ((zl a : Nat) : Int))).setCell 1 (.string (zh a))).setCell 2 (.bool (zs a))) (hL0.get _ _ (List.mem_cons_of_mem _ (List.mem_cons_of_mem _ (List.mem_cons_of_mem _ List.mem_cons_self)))) (by intro v hv n; simp only [List.mem_cons, List.not_mem_nil, or_false] at hv; rcases hv with rfl | rfl | rfl <;> simp)
  have hA := hL0.fc
  simp only [fcG, cellsF, neK, and_true, ne_eq, Nat.zero_add, Nat.reduceAdd] at hA
  have hP := hL0.put 3 (kb8) _ rfl [.int .u64 ((zl a : Nat) : Int), .string (zh a), .bool (zs a)] rfl
  simp only [setAll, List.set_cons_zero, List.set_cons_succ] at hP
  generalize hput1 : (((x3.setCell ⟨kb8, 0, none⟩ (.int .u64 ((zl a : Nat) : Int))).setCell ⟨kb8, 1, none⟩ (.string (zh a))).setCell ⟨kb8, 2, none⟩ (.bool (zs a))) = x4 at hP hS1
  have hB1 := hP.fc
  simp only [fcG, cellsF, neK, and_true, ne_eq, Nat.zero_add, Nat.reduceAdd] at hB1
  replace hL0 := hP
  replace hS := hS1
  clear hS1
  have hS1 := hS.put ((((Upd.refl kb9 x4).setCell 0 (.int .u64 ((zl b : Nat) : Int))).setCell 1 (.string (zh b))).setCell 2 (.bool (zs b))) (hL0.get _ _ (List.mem_cons_of_mem _ (List.mem_cons_of_mem _ List.mem_cons_self))) (by intro v hv n; simp only [List.mem_cons, List.not_mem_nil, or_false] at hv; rcases hv with rfl | rfl | rfl <;> simp)
  have hP := hL0.put 2 (kb9) _ rfl [.int .u64 ((zl b : Nat) : Int), .string (zh b), .bool (zs b)] rfl
  simp only [setAll, List.set_cons_zero, List.set_cons_succ] at hP
  generalize hput2 : (((x4.setCell ⟨kb9, 0, none⟩ (.int .u64 ((zl b : Nat) : Int))).setCell ⟨kb9, 1, none⟩ (.string (zh b))).setCell ⟨kb9, 2, none⟩ (.bool (zs b))) = x5 at hP hS1
  have hB2 := hP.fc
  simp only [fcG, cellsF, neK, and_true, ne_eq, Nat.zero_add, Nat.reduceAdd] at hB2
  replace hL0 := hP
  replace hS := hS1
  clear hS1
  have hS1 := hS.put (((Upd.refl kb10 x5).setCell 0 (.bool (zs a))).setCell 1 (.slice g1 (tln a.natAbs) d1)) (hL0.get _ _ (List.mem_cons_of_mem _ List.mem_cons_self)) (by intro v hv n; simp only [List.mem_cons, List.not_mem_nil, or_false] at hv; rcases hv with rfl | rfl <;> simp)
  have hP := hL0.put 1 (kb10) _ rfl [.bool (zs a), .slice g1 (tln a.natAbs) d1] rfl
  simp only [setAll, List.set_cons_zero, List.set_cons_succ] at hP
  generalize hput3 : ((x5.setCell ⟨kb10, 0, none⟩ (.bool (zs a))).setCell ⟨kb10, 1, none⟩ (.slice g1 (tln a.natAbs) d1)) = x6 at hP hS1
  have hB3 := hP.fc
  simp only [fcG, cellsF, neK, and_true, ne_eq, Nat.zero_add, Nat.reduceAdd] at hB3
  replace hL0 := hP
  replace hS := hS1
  clear hS1
  have hS1 := hS.put (((Upd.refl kb11 x6).setCell 0 (.bool (zs b))).setCell 1 (.slice g2 (tln b.natAbs) d2)) (hL0.get _ _ List.mem_cons_self) (by intro v hv n; simp only [List.mem_cons, List.not_mem_nil, or_false] at hv; rcases hv with rfl | rfl <;> simp)
  have hP := hL0.put 0 (kb11) _ rfl [.bool (zs b), .slice g2 (tln b.natAbs) d2] rfl
  simp only [setAll, List.set_cons_zero, List.set_cons_succ] at hP
  generalize hput4 : ((x6.setCell ⟨kb11, 0, none⟩ (.bool (zs b))).setCell ⟨kb11, 1, none⟩ (.slice g2 (tln b.natAbs) d2)) = x7 at hP hS1
  have hB4 := hP.fc
  simp only [fcG, cellsF, neK, and_true, ne_eq, Nat.zero_add, Nat.reduceAdd] at hB4
  replace hL0 := hP
  replace hS := hS1
  clear hS1
  go_wp2_with fail
  clear hA
  with_reducible refine Calls.mono (HC.out (.agg #[.bool (zs a), .slice g1 (tln a.natAbs) d1]) (.agg #[.bool (zs b), .slice g2 (tln b.natAbs) d2]) _ (rz_of (hS.get (List.mem_cons_of_mem _ List.mem_cons_self))) (rz_of (hS.get List.mem_cons_self))) ?_
  rintro e x8 ⟨rfl, hb⟩
  replace hL0 := hL0.call hb
  replace hS := hS.call hb
  clear hb hput1 hB1 hput2 hB2 hput3 hB3 hput4 hB4
  go_upto_region 5 with fail
  simp only [List.append]
  refine region_tl 72 [EV (intV a), EV (.agg #[.bool (zs a), .slice g1 (tln a.natAbs) d1]), EV (.bool true), EV (.bool true), EV (intV a), EV (intV b), EV (intV r), EV (.agg #[.bool (zs a), .slice g1 (tln a.natAbs) d1]), EV (.agg #[.bool (zs b), .slice g2 (tln b.natAbs) d2]), PZ r, EV (.bool true), EV (.bool true), EV (.bool true), EV (intV a), EV (intV b), EV (intV d), EV (.agg #[.bool (zs a), .slice g1 (tln a.natAbs) d1]), EV (.agg #[.bool (zs b), .slice g2 (tln b.natAbs) d2]), PZ d, EV (.bool true), EV (.bool true), EV (.bool true), EV (intV a), EV (intV b), EV (intV m), EV (.agg #[.bool (zs a), .slice g1 (tln a.natAbs) d1]), EV (.agg #[.bool (zs b), .slice g2 (tln b.natAbs) d2]), PZ m, EV (.bool true), EV (.bool true), EV (.bool true), EV (intV a), EV (intV n), EV (.agg #[.bool (zs a), .slice g1 (tln a.natAbs) d1]), PZ n, EV (.bool true), EV (.bool true), EV (.bool true), EV (intV a), EV (.int .i64 j), EV (.agg #[.bool (zs a), .slice g1 (tln a.natAbs) d1]), EV (.int .i64 j), EV (.bool true), EV (.bool true), EV (.bool true), EV (intV a), EV (intV b), EV (.int .i64 i), EV (.int .i64 i), EV (.bool true), EV (.bool true), EV (.bool true), EV (intV a), EV (intV b), EV (.bool false), EV (.int .i64 i), EV (.bool false), EV (.bool true), EV (.bool true), EV (.bool true), EV (intV a), EV (natV k), EV (.string t), EV (.pointer (some ⟨kb10, 1, none⟩)), EV (.slice g1 (tln a.natAbs) d1), EV (.string t), EV (.bool true), EV (.bool true), EV (.bool true), EV (.bool true), EV (.bool true), EV (.bool true)] (by kernel_rfl) (by kernel_rfl) ?_ ?_ ?_
  ·exact stays_cons (stays_eq _) (stays_cons (stays_eq _) (stays_cons (stays_eq _) (stays_cons (stays_eq _) (stays_cons (stays_eq _) (stays_cons (stays_eq _) (stays_cons (stays_eq _) (stays_cons (stays_eq _) (stays_cons (stays_eq _) (stays_cons (stays_rz _) (stays_cons (stays_eq _) (stays_cons (stays_eq _) (stays_cons (stays_eq _) (stays_cons (stays_eq _) (stays_cons (stays_eq _) (stays_cons (stays_eq _) (stays_cons (stays_eq _) (stays_cons (stays_eq _) (stays_cons (stays_rz _) (stays_cons (stays_eq _) (stays_cons (stays_eq _) (stays_cons (stays_eq _) (stays_cons (stays_eq _) (stays_cons (stays_eq _) (stays_cons (stays_eq _) (stays_cons (stays_eq _) (stays_cons (stays_eq _) (stays_cons (stays_rz _) (stays_cons (stays_eq _) (stays_cons (stays_eq _) (stays_cons (stays_eq _) (stays_cons (stays_eq _) (stays_cons (stays_eq _) (stays_cons (stays_eq _) (stays_cons (stays_rz _) (stays_cons (stays_eq _) (stays_cons (stays_eq _) (stays_cons (stays_eq _) (stays_cons (stays_eq _) (stays_cons (stays_eq _) (stays_cons (stays_eq _) (stays_cons (stays_eq _) (stays_cons (stays_eq _) (stays_cons (stays_eq _) (stays_cons (stays_eq _) (stays_cons (stays_eq _) (stays_cons (stays_eq _) (stays_cons (stays_eq _) (stays_cons (stays_eq _) (stays_cons (stays_eq _) (stays_cons (stays_eq _) (stays_cons (stays_eq _) (stays_cons (stays_eq _) (stays_cons (stays_eq _) (stays_cons (stays_eq _) (stays_cons (stays_eq _) (stays_cons (stays_eq _) (stays_cons (stays_eq _) (stays_cons (stays_eq _) (stays_cons (stays_eq _) (stays_cons (stays_eq _) (stays_cons (stays_eq _) (stays_cons (stays_eq _) (stays_cons (stays_eq _) (stays_cons (stays_eq _) (stays_cons (stays_eq _) (stays_cons (stays_eq _) (stays_cons (stays_eq _) (stays_cons (stays_eq _) (stays_cons (stays_eq _) (stays_cons (stays_eq _) (stays_cons (stays_eq _) (stays_nil))))))))))))))))))))))))))))))))))))))))))))))))))))))))))))))))))))))))
  ·simp only [List.take_succ_cons, List.take_zero, hopsR, and_true]
   refine ⟨?_, ?_, ?_, ?_, ?_, ?_, ?_, ?_, ?_, ?_, ?_, ?_, ?_, ?_, ?_, ?_, ?_, ?_, ?_, ?_, ?_, ?_, ?_, ?_, ?_, ?_, ?_, ?_, ?_, ?_, ?_, ?_, ?_, ?_, ?_, ?_, ?_, ?_, ?_, ?_, ?_, ?_, ?_, ?_, ?_, ?_, ?_, ?_, ?_, ?_, ?_, ?_, ?_, ?_, ?_, ?_, ?_, ?_, ?_, ?_, ?_, ?_, ?_, ?_, ?_, ?_, ?_, ?_, ?_, ?_, ?_, ?_⟩ <;> intro fv w1 hb1 hp
   all_goals (simp only [putsV, Act.put, List.setIfInBounds_toArray, List.set_cons_succ, List.set_cons_zero, Nat.zero_add, Nat.reduceAdd])
   ·refine tyAt_none rfl ?_
    have hc := (hL0.call (below_drew hb1)).fc
    simp only [fcG, cellsF, neK, and_true, ne_eq, Nat.zero_add, Nat.reduceAdd] at hc
    simp [tyUpon, execOp, go_sem, Act.eval, hc, (beq_eq_false_iff_ne.1 hi), Below.refl]
   ·refine tyAt_none rfl ?_
    have hc := (hL0.call (below_drew hb1)).fc
    simp only [fcG, cellsF, neK, and_true, ne_eq, Nat.zero_add, Nat.reduceAdd] at hc
    simp [tyUpon, execOp, go_sem, Act.eval, hc, (beq_eq_false_iff_ne.1 hi), Below.refl]
   ·have h0 : EV _ (fv 0) w1 := hp 0 (LC (by kernel_rfl))
    have h1 : EV _ (fv 1) w1 := hp 1 (LC (by kernel_rfl))
    refine tyAt_none rfl ?_
    refine ty_call (f := 27) (args := #[intV a, .agg #[.bool (zs a), .slice g1 (tln a.natAbs) d1]]) (by simp [execOp, go_sem, Act.eval, h0, h1]) ?_
    exact (H0.out (.agg #[.bool (zs a), .slice g1 (tln a.natAbs) d1]) w1 (hKT.out.at ((hL0.call (below_drew hb1)).bl) kKT) (rz_of (Sl.below (hS.get (List.mem_cons_of_mem _ List.mem_cons_self)) (below_drew hb1)))).mono fun e w2 ⟨h1, h2⟩ => ⟨_, h1, rfl, h2⟩
   ·have h2 : EV _ (fv 2) w1 := hp 2 (LC (by kernel_rfl))
    refine tyAt_none rfl ?_
    simp [tyUpon, execOp, go_sem, Act.eval, h2, (beq_eq_false_iff_ne.1 hi), Below.refl]
   ·have h3 : EV _ (fv 3) w1 := hp 3 (LC (by kernel_rfl))
    refine tyAt_yes (by simp [Region.wanted, yielded, h3]) ?_
    have hc := (hL0.call (below_drew hb1)).fc
    simp only [fcG, cellsF, neK, and_true, ne_eq, Nat.zero_add, Nat.reduceAdd] at hc
    simp [tyUpon, execOp, go_sem, Act.eval, hc, h3, (beq_eq_false_iff_ne.1 hi), Below.refl]
   ·have h3 : EV _ (fv 3) w1 := hp 3 (LC (by kernel_rfl))
    refine tyAt_yes (by simp [Region.wanted, yielded, h3]) ?_
    have hc := (hL0.call (below_drew hb1)).fc
    simp only [fcG, cellsF, neK, and_true, ne_eq, Nat.zero_add, Nat.reduceAdd] at hc
    simp [tyUpon, execOp, go_sem, Act.eval, hc, h3, (beq_eq_false_iff_ne.1 hi), Below.refl]
   ·have h4 : EV _ (fv 4) w1 := hp 4 (LC (by kernel_rfl))
    have h5 : EV _ (fv 5) w1 := hp 5 (LC (by kernel_rfl))
    have h3 : EV _ (fv 3) w1 := hp 3 (LC (by kernel_rfl))
    refine tyAt_yes (by simp [Region.wanted, yielded, h4, h5, h3]) ?_
    refine ty_call (f := 28) (args := #[intV a, intV b]) (by simp [execOp, go_sem, Act.eval, h4, h5, h3]) ?_
    exact (HA.out w1).mono fun e w2 ⟨h1, h2⟩ => ⟨_, h1, rfl, h2⟩
   ·have h3 : EV _ (fv 3) w1 := hp 3 (LC (by kernel_rfl))
    refine tyAt_yes (by simp [Region.wanted, yielded, h3]) ?_
    have hc := (hL0.call (below_drew hb1)).fc
    simp only [fcG, cellsF, neK, and_true, ne_eq, Nat.zero_add, Nat.reduceAdd] at hc
    simp [tyUpon, execOp, go_sem, Act.eval, hc, h3, (beq_eq_false_iff_ne.1 hi), Below.refl]
   ·have h3 : EV _ (fv 3) w1 := hp 3 (LC (by kernel_rfl))
    refine tyAt_yes (by simp [Region.wanted, yielded, h3]) ?_
    have hc := (hL0.call (below_drew hb1)).fc
    simp only [fcG, cellsF, neK, and_true, ne_eq, Nat.zero_add, Nat.reduceAdd] at hc
    simp [tyUpon, execOp, go_sem, Act.eval, hc, h3, (beq_eq_false_iff_ne.1 hi), Below.refl]
   ·have h7 : EV _ (fv 7) w1 := hp 7 (LC (by kernel_rfl))
    have h8 : EV _ (fv 8) w1 := hp 8 (LC (by kernel_rfl))
    have h3 : EV _ (fv 3) w1 := hp 3 (LC (by kernel_rfl))
    refine tyAt_yes (by simp [Region.wanted, yielded, h7, h8, h3]) ?_
    refine ty_call (f := 29) (args := #[.agg #[.bool (zs a), .slice g1 (tln a.natAbs) d1], .agg #[.bool (zs b), .slice g2 (tln b.natAbs) d2]]) (by simp [execOp, go_sem, Act.eval, h7, h8, h3]) ?_
    exact (HA2.out (.agg #[.bool (zs a), .slice g1 (tln a.natAbs) d1]) (.agg #[.bool (zs b), .slice g2 (tln b.natAbs) d2]) w1 (rz_of (Sl.below (hS.get (List.mem_cons_of_mem _ List.mem_cons_self)) (below_drew hb1))) (rz_of (Sl.below (hS.get List.mem_cons_self) (below_drew hb1)))).mono fun e w2 ⟨pv, h1, h2, h3⟩ => ⟨pv, h1, h2, h3⟩
   ·have h6 : EV _ (fv 6) w1 := hp 6 (LC (by kernel_rfl))
    have h9 : PZ _ (fv 9) w1 := hp 9 (LC (by kernel_rfl))
    have h3 : EV _ (fv 3) w1 := hp 3 (LC (by kernel_rfl))
    refine tyAt_yes (by simp [Region.wanted, yielded, h6, h3]) ?_
    refine ty_call (f := 27) (args := #[intV r, fv 9]) (by simp [execOp, go_sem, Act.eval, h6, h3]) ?_
    exact (H1.out (fv 9) w1 (hKT.out.at ((hL0.call (below_drew hb1)).bl) kKT) h9).mono fun e w2 ⟨h1, h2⟩ => ⟨_, h1, rfl, h2⟩
   ·have h3 : EV _ (fv 3) w1 := hp 3 (LC (by kernel_rfl))
    have h10 : EV _ (fv 10) w1 := hp 10 (LC (by kernel_rfl))
    refine tyAt_none rfl ?_
    simp [tyUpon, execOp, go_sem, Act.eval, h3, h10, (beq_eq_false_iff_ne.1 hi), Below.refl]
   ·have h11 : EV _ (fv 11) w1 := hp 11 (LC (by kernel_rfl))
    refine tyAt_none rfl ?_
    simp [tyUpon, execOp, go_sem, Act.eval, h11, (beq_eq_false_iff_ne.1 hi), Below.refl]
   ·have h12 : EV _ (fv 12) w1 := hp 12 (LC (by kernel_rfl))
    refine tyAt_yes (by simp [Region.wanted, yielded, h12]) ?_
    have hc := (hL0.call (below_drew hb1)).fc
    simp only [fcG, cellsF, neK, and_true, ne_eq, Nat.zero_add, Nat.reduceAdd] at hc
    simp [tyUpon, execOp, go_sem, Act.eval, hc, h12, (beq_eq_false_iff_ne.1 hi), Below.refl]
   ·have h12 : EV _ (fv 12) w1 := hp 12 (LC (by kernel_rfl))
    refine tyAt_yes (by simp [Region.wanted, yielded, h12]) ?_
    have hc := (hL0.call (below_drew hb1)).fc
    simp only [fcG, cellsF, neK, and_true, ne_eq, Nat.zero_add, Nat.reduceAdd] at hc
    simp [tyUpon, execOp, go_sem, Act.eval, hc, h12, (beq_eq_false_iff_ne.1 hi), Below.refl]
   ·have h13 : EV _ (fv 13) w1 := hp 13 (LC (by kernel_rfl))
    have h14 : EV _ (fv 14) w1 := hp 14 (LC (by kernel_rfl))
    have h12 : EV _ (fv 12) w1 := hp 12 (LC (by kernel_rfl))
    refine tyAt_yes (by simp [Region.wanted, yielded, h13, h14, h12]) ?_
    refine ty_call (f := 30) (args := #[intV a, intV b]) (by simp [execOp, go_sem, Act.eval, h13, h14, h12]) ?_
    exact (HB.out w1).mono fun e w2 ⟨h1, h2⟩ => ⟨_, h1, rfl, h2⟩
   ·have h12 : EV _ (fv 12) w1 := hp 12 (LC (by kernel_rfl))
    refine tyAt_yes (by simp [Region.wanted, yielded, h12]) ?_
    have hc := (hL0.call (below_drew hb1)).fc
    simp only [fcG, cellsF, neK, and_true, ne_eq, Nat.zero_add, Nat.reduceAdd] at hc
    simp [tyUpon, execOp, go_sem, Act.eval, hc, h12, (beq_eq_false_iff_ne.1 hi), Below.refl]
   ·have h12 : EV _ (fv 12) w1 := hp 12 (LC (by kernel_rfl))
    refine tyAt_yes (by simp [Region.wanted, yielded, h12]) ?_
    have hc := (hL0.call (below_drew hb1)).fc
    simp only [fcG, cellsF, neK, and_true, ne_eq, Nat.zero_add, Nat.reduceAdd] at hc
    simp [tyUpon, execOp, go_sem, Act.eval, hc, h12, (beq_eq_false_iff_ne.1 hi), Below.refl]
   ·have h16 : EV _ (fv 16) w1 := hp 16 (LC (by kernel_rfl))
    have h17 : EV _ (fv 17) w1 := hp 17 (LC (by kernel_rfl))
    have h12 : EV _ (fv 12) w1 := hp 12 (LC (by kernel_rfl))
    refine tyAt_yes (by simp [Region.wanted, yielded, h16, h17, h12]) ?_
    refine ty_call (f := 31) (args := #[.agg #[.bool (zs a), .slice g1 (tln a.natAbs) d1], .agg #[.bool (zs b), .slice g2 (tln b.natAbs) d2]]) (by simp [execOp, go_sem, Act.eval, h16, h17, h12]) ?_
    exact (HB2.out (.agg #[.bool (zs a), .slice g1 (tln a.natAbs) d1]) (.agg #[.bool (zs b), .slice g2 (tln b.natAbs) d2]) w1 (rz_of (Sl.below (hS.get (List.mem_cons_of_mem _ List.mem_cons_self)) (below_drew hb1))) (rz_of (Sl.below (hS.get List.mem_cons_self) (below_drew hb1)))).mono fun e w2 ⟨pv, h1, h2, h3⟩ => ⟨pv, h1, h2, h3⟩
   ·have h15 : EV _ (fv 15) w1 := hp 15 (LC (by kernel_rfl))
    have h18 : PZ _ (fv 18) w1 := hp 18 (LC (by kernel_rfl))
    have h12 : EV _ (fv 12) w1 := hp 12 (LC (by kernel_rfl))
    refine tyAt_yes (by simp [Region.wanted, yielded, h15, h12]) ?_
    refine ty_call (f := 27) (args := #[intV d, fv 18]) (by simp [execOp, go_sem, Act.eval, h15, h12]) ?_
    exact (H2.out (fv 18) w1 (hKT.out.at ((hL0.call (below_drew hb1)).bl) kKT) h18).mono fun e w2 ⟨h1, h2⟩ => ⟨_, h1, rfl, h2⟩
   ·have h12 : EV _ (fv 12) w1 := hp 12 (LC (by kernel_rfl))
    have h19 : EV _ (fv 19) w1 := hp 19 (LC (by kernel_rfl))
    refine tyAt_none rfl ?_
    simp [tyUpon, execOp, go_sem, Act.eval, h12, h19, (beq_eq_false_iff_ne.1 hi), Below.refl]
   ·have h20 : EV _ (fv 20) w1 := hp 20 (LC (by kernel_rfl))
    refine tyAt_none rfl ?_
    simp [tyUpon, execOp, go_sem, Act.eval, h20, (beq_eq_false_iff_ne.1 hi), Below.refl]
   ·have h21 : EV _ (fv 21) w1 := hp 21 (LC (by kernel_rfl))
    refine tyAt_yes (by simp [Region.wanted, yielded, h21]) ?_
    have hc := (hL0.call (below_drew hb1)).fc
    simp only [fcG, cellsF, neK, and_true, ne_eq, Nat.zero_add, Nat.reduceAdd] at hc
    simp [tyUpon, execOp, go_sem, Act.eval, hc, h21, (beq_eq_false_iff_ne.1 hi), Below.refl]
   ·have h21 : EV _ (fv 21) w1 := hp 21 (LC (by kernel_rfl))
    refine tyAt_yes (by simp [Region.wanted, yielded, h21]) ?_
    have hc := (hL0.call (below_drew hb1)).fc
    simp only [fcG, cellsF, neK, and_true, ne_eq, Nat.zero_add, Nat.reduceAdd] at hc
    simp [tyUpon, execOp, go_sem, Act.eval, hc, h21, (beq_eq_false_iff_ne.1 hi), Below.refl]
   ·have h22 : EV _ (fv 22) w1 := hp 22 (LC (by kernel_rfl))
    have h23 : EV _ (fv 23) w1 := hp 23 (LC (by kernel_rfl))
    have h21 : EV _ (fv 21) w1 := hp 21 (LC (by kernel_rfl))
    refine tyAt_yes (by simp [Region.wanted, yielded, h22, h23, h21]) ?_
    refine ty_call (f := 32) (args := #[intV a, intV b]) (by simp [execOp, go_sem, Act.eval, h22, h23, h21]) ?_
    exact (HM.out w1).mono fun e w2 ⟨h1, h2⟩ => ⟨_, h1, rfl, h2⟩
   ·have h21 : EV _ (fv 21) w1 := hp 21 (LC (by kernel_rfl))
    refine tyAt_yes (by simp [Region.wanted, yielded, h21]) ?_
    have hc := (hL0.call (below_drew hb1)).fc
    simp only [fcG, cellsF, neK, and_true, ne_eq, Nat.zero_add, Nat.reduceAdd] at hc
    simp [tyUpon, execOp, go_sem, Act.eval, hc, h21, (beq_eq_false_iff_ne.1 hi), Below.refl]
   ·have h21 : EV _ (fv 21) w1 := hp 21 (LC (by kernel_rfl))
    refine tyAt_yes (by simp [Region.wanted, yielded, h21]) ?_
    have hc := (hL0.call (below_drew hb1)).fc
    simp only [fcG, cellsF, neK, and_true, ne_eq, Nat.zero_add, Nat.reduceAdd] at hc
    simp [tyUpon, execOp, go_sem, Act.eval, hc, h21, (beq_eq_false_iff_ne.1 hi), Below.refl]
   ·have h25 : EV _ (fv 25) w1 := hp 25 (LC (by kernel_rfl))
    have h26 : EV _ (fv 26) w1 := hp 26 (LC (by kernel_rfl))
    have h21 : EV _ (fv 21) w1 := hp 21 (LC (by kernel_rfl))
    refine tyAt_yes (by simp [Region.wanted, yielded, h25, h26, h21]) ?_
    refine ty_call (f := 33) (args := #[.agg #[.bool (zs a), .slice g1 (tln a.natAbs) d1], .agg #[.bool (zs b), .slice g2 (tln b.natAbs) d2]]) (by simp [execOp, go_sem, Act.eval, h25, h26, h21]) ?_
    exact (HM2.out (.agg #[.bool (zs a), .slice g1 (tln a.natAbs) d1]) (.agg #[.bool (zs b), .slice g2 (tln b.natAbs) d2]) w1 (rz_of (Sl.below (hS.get (List.mem_cons_of_mem _ List.mem_cons_self)) (below_drew hb1))) (rz_of (Sl.below (hS.get List.mem_cons_self) (below_drew hb1)))).mono fun e w2 ⟨pv, h1, h2, h3⟩ => ⟨pv, h1, h2, h3⟩
   ·have h24 : EV _ (fv 24) w1 := hp 24 (LC (by kernel_rfl))
    have h27 : PZ _ (fv 27) w1 := hp 27 (LC (by kernel_rfl))
    have h21 : EV _ (fv 21) w1 := hp 21 (LC (by kernel_rfl))
    refine tyAt_yes (by simp [Region.wanted, yielded, h24, h21]) ?_
    refine ty_call (f := 27) (args := #[intV m, fv 27]) (by simp [execOp, go_sem, Act.eval, h24, h21]) ?_
    exact (H3.out (fv 27) w1 (hKT.out.at ((hL0.call (below_drew hb1)).bl) kKT) h27).mono fun e w2 ⟨h1, h2⟩ => ⟨_, h1, rfl, h2⟩
   ·have h21 : EV _ (fv 21) w1 := hp 21 (LC (by kernel_rfl))
    have h28 : EV _ (fv 28) w1 := hp 28 (LC (by kernel_rfl))
    refine tyAt_none rfl ?_
    simp [tyUpon, execOp, go_sem, Act.eval, h21, h28, (beq_eq_false_iff_ne.1 hi), Below.refl]
   ·have h29 : EV _ (fv 29) w1 := hp 29 (LC (by kernel_rfl))
    refine tyAt_none rfl ?_
    simp [tyUpon, execOp, go_sem, Act.eval, h29, (beq_eq_false_iff_ne.1 hi), Below.refl]
   ·have h30 : EV _ (fv 30) w1 := hp 30 (LC (by kernel_rfl))
    refine tyAt_yes (by simp [Region.wanted, yielded, h30]) ?_
    have hc := (hL0.call (below_drew hb1)).fc
    simp only [fcG, cellsF, neK, and_true, ne_eq, Nat.zero_add, Nat.reduceAdd] at hc
    simp [tyUpon, execOp, go_sem, Act.eval, hc, h30, (beq_eq_false_iff_ne.1 hi), Below.refl]
   ·have h31 : EV _ (fv 31) w1 := hp 31 (LC (by kernel_rfl))
    have h30 : EV _ (fv 30) w1 := hp 30 (LC (by kernel_rfl))
    refine tyAt_yes (by simp [Region.wanted, yielded, h31, h30]) ?_
    refine ty_call (f := 34) (args := #[intV a]) (by simp [execOp, go_sem, Act.eval, h31, h30]) ?_
    exact (HN.out w1).mono fun e w2 ⟨h1, h2⟩ => ⟨_, h1, rfl, h2⟩
   ·have h30 : EV _ (fv 30) w1 := hp 30 (LC (by kernel_rfl))
    refine tyAt_yes (by simp [Region.wanted, yielded, h30]) ?_
    have hc := (hL0.call (below_drew hb1)).fc
    simp only [fcG, cellsF, neK, and_true, ne_eq, Nat.zero_add, Nat.reduceAdd] at hc
    simp [tyUpon, execOp, go_sem, Act.eval, hc, h30, (beq_eq_false_iff_ne.1 hi), Below.refl]
   ·have h33 : EV _ (fv 33) w1 := hp 33 (LC (by kernel_rfl))
    have h30 : EV _ (fv 30) w1 := hp 30 (LC (by kernel_rfl))
    refine tyAt_yes (by simp [Region.wanted, yielded, h33, h30]) ?_
    refine ty_call (f := 35) (args := #[.agg #[.bool (zs a), .slice g1 (tln a.natAbs) d1]]) (by simp [execOp, go_sem, Act.eval, h33, h30]) ?_
    exact (HN2.out (.agg #[.bool (zs a), .slice g1 (tln a.natAbs) d1]) w1 (rz_of (Sl.below (hS.get (List.mem_cons_of_mem _ List.mem_cons_self)) (below_drew hb1)))).mono fun e w2 ⟨pv, h1, h2, h3⟩ => ⟨pv, h1, h2, h3⟩
   ·have h32 : EV _ (fv 32) w1 := hp 32 (LC (by kernel_rfl))
    have h34 : PZ _ (fv 34) w1 := hp 34 (LC (by kernel_rfl))
    have h30 : EV _ (fv 30) w1 := hp 30 (LC (by kernel_rfl))
    refine tyAt_yes (by simp [Region.wanted, yielded, h32, h30]) ?_
    refine ty_call (f := 27) (args := #[intV n, fv 34]) (by simp [execOp, go_sem, Act.eval, h32, h30]) ?_
    exact (H4.out (fv 34) w1 (hKT.out.at ((hL0.call (below_drew hb1)).bl) kKT) h34).mono fun e w2 ⟨h1, h2⟩ => ⟨_, h1, rfl, h2⟩
   ·have h30 : EV _ (fv 30) w1 := hp 30 (LC (by kernel_rfl))
    have h35 : EV _ (fv 35) w1 := hp 35 (LC (by kernel_rfl))
    refine tyAt_none rfl ?_
    simp [tyUpon, execOp, go_sem, Act.eval, h30, h35, (beq_eq_false_iff_ne.1 hi), Below.refl]
   ·have h36 : EV _ (fv 36) w1 := hp 36 (LC (by kernel_rfl))
    refine tyAt_none rfl ?_
    simp [tyUpon, execOp, go_sem, Act.eval, h36, (beq_eq_false_iff_ne.1 hi), Below.refl]
   ·have h37 : EV _ (fv 37) w1 := hp 37 (LC (by kernel_rfl))
    refine tyAt_yes (by simp [Region.wanted, yielded, h37]) ?_
    have hc := (hL0.call (below_drew hb1)).fc
    simp only [fcG, cellsF, neK, and_true, ne_eq, Nat.zero_add, Nat.reduceAdd] at hc
    simp [tyUpon, execOp, go_sem, Act.eval, hc, h37, (beq_eq_false_iff_ne.1 hi), Below.refl]
   ·have h38 : EV _ (fv 38) w1 := hp 38 (LC (by kernel_rfl))
    have h37 : EV _ (fv 37) w1 := hp 37 (LC (by kernel_rfl))
    refine tyAt_yes (by simp [Region.wanted, yielded, h38, h37]) ?_
    refine ty_call (f := 36) (args := #[intV a]) (by simp [execOp, go_sem, Act.eval, h38, h37]) ?_
    exact (HS.out w1).mono fun e w2 ⟨h1, h2⟩ => ⟨_, h1, rfl, h2⟩
   ·have h37 : EV _ (fv 37) w1 := hp 37 (LC (by kernel_rfl))
    refine tyAt_yes (by simp [Region.wanted, yielded, h37]) ?_
    have hc := (hL0.call (below_drew hb1)).fc
    simp only [fcG, cellsF, neK, and_true, ne_eq, Nat.zero_add, Nat.reduceAdd] at hc
    simp [tyUpon, execOp, go_sem, Act.eval, hc, h37, (beq_eq_false_iff_ne.1 hi), Below.refl]
   ·have h40 : EV _ (fv 40) w1 := hp 40 (LC (by kernel_rfl))
    have h37 : EV _ (fv 37) w1 := hp 37 (LC (by kernel_rfl))
    refine tyAt_yes (by simp [Region.wanted, yielded, h40, h37]) ?_
    refine ty_call (f := 37) (args := #[.agg #[.bool (zs a), .slice g1 (tln a.natAbs) d1]]) (by simp [execOp, go_sem, Act.eval, h40, h37]) ?_
    exact (HS2.out (.agg #[.bool (zs a), .slice g1 (tln a.natAbs) d1]) w1 (rz_of (Sl.below (hS.get (List.mem_cons_of_mem _ List.mem_cons_self)) (below_drew hb1)))).mono fun e w2 ⟨h1, h2⟩ => ⟨_, h1, rfl, h2⟩
   ·have h39 : EV _ (fv 39) w1 := hp 39 (LC (by kernel_rfl))
    have h41 : EV _ (fv 41) w1 := hp 41 (LC (by kernel_rfl))
    have h37 : EV _ (fv 37) w1 := hp 37 (LC (by kernel_rfl))
    refine tyAt_yes (by simp [Region.wanted, yielded, h39, h41, h37]) ?_
    simp [tyUpon, execOp, go_sem, Act.eval, h39, h41, h37, (beq_eq_false_iff_ne.1 hi), Below.refl]
   ·have h37 : EV _ (fv 37) w1 := hp 37 (LC (by kernel_rfl))
    have h42 : EV _ (fv 42) w1 := hp 42 (LC (by kernel_rfl))
    refine tyAt_none rfl ?_
    simp [tyUpon, execOp, go_sem, Act.eval, h37, h42, (beq_eq_false_iff_ne.1 hi), Below.refl]
   ·have h43 : EV _ (fv 43) w1 := hp 43 (LC (by kernel_rfl))
    refine tyAt_none rfl ?_
    simp [tyUpon, execOp, go_sem, Act.eval, h43, (beq_eq_false_iff_ne.1 hi), Below.refl]
   ·have h44 : EV _ (fv 44) w1 := hp 44 (LC (by kernel_rfl))
    refine tyAt_yes (by simp [Region.wanted, yielded, h44]) ?_
    have hc := (hL0.call (below_drew hb1)).fc
    simp only [fcG, cellsF, neK, and_true, ne_eq, Nat.zero_add, Nat.reduceAdd] at hc
    simp [tyUpon, execOp, go_sem, Act.eval, hc, h44, (beq_eq_false_iff_ne.1 hi), Below.refl]
   ·have h44 : EV _ (fv 44) w1 := hp 44 (LC (by kernel_rfl))
    refine tyAt_yes (by simp [Region.wanted, yielded, h44]) ?_
    have hc := (hL0.call (below_drew hb1)).fc
    simp only [fcG, cellsF, neK, and_true, ne_eq, Nat.zero_add, Nat.reduceAdd] at hc
    simp [tyUpon, execOp, go_sem, Act.eval, hc, h44, (beq_eq_false_iff_ne.1 hi), Below.refl]
   ·have h45 : EV _ (fv 45) w1 := hp 45 (LC (by kernel_rfl))
    have h46 : EV _ (fv 46) w1 := hp 46 (LC (by kernel_rfl))
    have h44 : EV _ (fv 44) w1 := hp 44 (LC (by kernel_rfl))
    refine tyAt_yes (by simp [Region.wanted, yielded, h45, h46, h44]) ?_
    refine ty_call (f := 38) (args := #[intV a, intV b]) (by simp [execOp, go_sem, Act.eval, h45, h46, h44]) ?_
    exact (HC2.out w1).mono fun e w2 ⟨h1, h2⟩ => ⟨_, h1, rfl, h2⟩
   ·have h44 : EV _ (fv 44) w1 := hp 44 (LC (by kernel_rfl))
    refine tyAt_yes (by simp [Region.wanted, yielded, h44]) ?_
    simp [tyUpon, execOp, go_sem, Act.eval, h44, (beq_eq_false_iff_ne.1 hi), Below.refl]
   ·have h47 : EV _ (fv 47) w1 := hp 47 (LC (by kernel_rfl))
    have h48 : EV _ (fv 48) w1 := hp 48 (LC (by kernel_rfl))
    have h44 : EV _ (fv 44) w1 := hp 44 (LC (by kernel_rfl))
    refine tyAt_yes (by simp [Region.wanted, yielded, h47, h48, h44]) ?_
    simp [tyUpon, execOp, go_sem, Act.eval, h47, h48, h44, (beq_eq_false_iff_ne.1 hi), Below.refl]
   ·have h44 : EV _ (fv 44) w1 := hp 44 (LC (by kernel_rfl))
    have h49 : EV _ (fv 49) w1 := hp 49 (LC (by kernel_rfl))
    refine tyAt_none rfl ?_
    simp [tyUpon, execOp, go_sem, Act.eval, h44, h49, (beq_eq_false_iff_ne.1 hi), Below.refl]
   ·have h50 : EV _ (fv 50) w1 := hp 50 (LC (by kernel_rfl))
    refine tyAt_none rfl ?_
    simp [tyUpon, execOp, go_sem, Act.eval, h50, (beq_eq_false_iff_ne.1 hi), Below.refl]
   ·have h51 : EV _ (fv 51) w1 := hp 51 (LC (by kernel_rfl))
    refine tyAt_yes (by simp [Region.wanted, yielded, h51]) ?_
    have hc := (hL0.call (below_drew hb1)).fc
    simp only [fcG, cellsF, neK, and_true, ne_eq, Nat.zero_add, Nat.reduceAdd] at hc
    simp [tyUpon, execOp, go_sem, Act.eval, hc, h51, (beq_eq_false_iff_ne.1 hi), Below.refl]
   ·have h51 : EV _ (fv 51) w1 := hp 51 (LC (by kernel_rfl))
    refine tyAt_yes (by simp [Region.wanted, yielded, h51]) ?_
    have hc := (hL0.call (below_drew hb1)).fc
    simp only [fcG, cellsF, neK, and_true, ne_eq, Nat.zero_add, Nat.reduceAdd] at hc
    simp [tyUpon, execOp, go_sem, Act.eval, hc, h51, (beq_eq_false_iff_ne.1 hi), Below.refl]
   ·have h52 : EV _ (fv 52) w1 := hp 52 (LC (by kernel_rfl))
    have h53 : EV _ (fv 53) w1 := hp 53 (LC (by kernel_rfl))
    have h51 : EV _ (fv 51) w1 := hp 51 (LC (by kernel_rfl))
    refine tyAt_yes (by simp [Region.wanted, yielded, h52, h53, h51]) ?_
    rcases ne_int hne.out with hz | hz | hz <;> simp [tyUpon, execOp, go_sem, Act.eval, h52, h53, h51, (beq_eq_false_iff_ne.1 hi), hz, Below.refl]
   ·have h51 : EV _ (fv 51) w1 := hp 51 (LC (by kernel_rfl))
    refine tyAt_yes (by simp [Region.wanted, yielded, h51]) ?_
    simp [tyUpon, execOp, go_sem, Act.eval, h51, (beq_eq_false_iff_ne.1 hi), Below.refl]
   ·have h55 : EV _ (fv 55) w1 := hp 55 (LC (by kernel_rfl))
    have h51 : EV _ (fv 51) w1 := hp 51 (LC (by kernel_rfl))
    refine tyAt_yes (by simp [Region.wanted, yielded, h55, h51]) ?_
    simp [tyUpon, execOp, go_sem, Act.eval, h55, h51, (beq_eq_false_iff_ne.1 hi), Below.refl]
   ·have h54 : EV _ (fv 54) w1 := hp 54 (LC (by kernel_rfl))
    have h56 : EV _ (fv 56) w1 := hp 56 (LC (by kernel_rfl))
    have h51 : EV _ (fv 51) w1 := hp 51 (LC (by kernel_rfl))
    refine tyAt_yes (by simp [Region.wanted, yielded, h54, h56, h51]) ?_
    simp [tyUpon, execOp, go_sem, Act.eval, h54, h56, h51, (beq_eq_false_iff_ne.1 hi), Below.refl]
   ·have h51 : EV _ (fv 51) w1 := hp 51 (LC (by kernel_rfl))
    have h57 : EV _ (fv 57) w1 := hp 57 (LC (by kernel_rfl))
    refine tyAt_none rfl ?_
    simp [tyUpon, execOp, go_sem, Act.eval, h51, h57, (beq_eq_false_iff_ne.1 hi), Below.refl]
   ·have h58 : EV _ (fv 58) w1 := hp 58 (LC (by kernel_rfl))
    refine tyAt_none rfl ?_
    simp [tyUpon, execOp, go_sem, Act.eval, h58, (beq_eq_false_iff_ne.1 hi), Below.refl]
   ·have h59 : EV _ (fv 59) w1 := hp 59 (LC (by kernel_rfl))
    refine tyAt_yes (by simp [Region.wanted, yielded, h59]) ?_
    have hc := (hL0.call (below_drew hb1)).fc
    simp only [fcG, cellsF, neK, and_true, ne_eq, Nat.zero_add, Nat.reduceAdd] at hc
    simp [tyUpon, execOp, go_sem, Act.eval, hc, h59, (beq_eq_false_iff_ne.1 hi), Below.refl]
   ·have h60 : EV _ (fv 60) w1 := hp 60 (LC (by kernel_rfl))
    have h59 : EV _ (fv 59) w1 := hp 59 (LC (by kernel_rfl))
    refine tyAt_yes (by simp [Region.wanted, yielded, h60, h59]) ?_
    refine ty_call (f := 40) (args := #[intV a]) (by simp [execOp, go_sem, Act.eval, h60, h59]) ?_
    exact (HX.out w1).mono fun e w2 ⟨h1, h2⟩ => ⟨_, h1, rfl, h2⟩
   ·have h61 : EV _ (fv 61) w1 := hp 61 (LC (by kernel_rfl))
    have h59 : EV _ (fv 59) w1 := hp 59 (LC (by kernel_rfl))
    refine tyAt_yes (by simp [Region.wanted, yielded, h61, h59]) ?_
    refine ty_call (f := 39) (args := #[natV k]) (by simp [execOp, go_sem, Act.eval, h61, h59]) ?_
    exact (HT.out w1 (hKT.out.at ((hL0.call (below_drew hb1)).bl) kKT)).mono fun e w2 ⟨h1, h2⟩ => ⟨_, h1, rfl, h2⟩
   ·have h59 : EV _ (fv 59) w1 := hp 59 (LC (by kernel_rfl))
    refine tyAt_yes (by simp [Region.wanted, yielded, h59]) ?_
    simp [tyUpon, execOp, go_sem, Act.eval, h59, (beq_eq_false_iff_ne.1 hi), Below.refl]
   ·have h63 : EV _ (fv 63) w1 := hp 63 (LC (by kernel_rfl))
    have h59 : EV _ (fv 59) w1 := hp 59 (LC (by kernel_rfl))
    refine tyAt_yes (by simp [Region.wanted, yielded, h63, h59]) ?_
    have hc := (hL0.call (below_drew hb1)).fc
    simp only [fcG, cellsF, neK, and_true, ne_eq, Nat.zero_add, Nat.reduceAdd] at hc
    simp [tyUpon, execOp, go_sem, Act.eval, hc, h63, h59, (beq_eq_false_iff_ne.1 hi), Below.refl]
   ·have h64 : EV _ (fv 64) w1 := hp 64 (LC (by kernel_rfl))
    have h59 : EV _ (fv 59) w1 := hp 59 (LC (by kernel_rfl))
    refine tyAt_yes (by simp [Region.wanted, yielded, h64, h59]) ?_
    refine ty_call (f := 41) (args := #[.slice g1 (tln a.natAbs) d1]) (by simp [execOp, go_sem, Act.eval, h64, h59]) ?_
    exact (HT2.out (.slice g1 (tln a.natAbs) d1) w1 (Sl.below (hS.get (List.mem_cons_of_mem _ List.mem_cons_self)) (below_drew hb1))).mono fun e w2 ⟨h1, h2⟩ => ⟨_, h1, rfl, h2⟩
   ·have h62 : EV _ (fv 62) w1 := hp 62 (LC (by kernel_rfl))
    have h65 : EV _ (fv 65) w1 := hp 65 (LC (by kernel_rfl))
    have h59 : EV _ (fv 59) w1 := hp 59 (LC (by kernel_rfl))
    refine tyAt_yes (by simp [Region.wanted, yielded, h62, h65, h59]) ?_
    simp [tyUpon, execOp, go_sem, Act.eval, h62, h65, h59, (beq_eq_false_iff_ne.1 hi), Below.refl]
   ·have h59 : EV _ (fv 59) w1 := hp 59 (LC (by kernel_rfl))
    have h66 : EV _ (fv 66) w1 := hp 66 (LC (by kernel_rfl))
    refine tyAt_none rfl ?_
    simp [tyUpon, execOp, go_sem, Act.eval, h59, h66, (beq_eq_false_iff_ne.1 hi), Below.refl]
   ·have h67 : EV _ (fv 67) w1 := hp 67 (LC (by kernel_rfl))
    refine tyAt_none rfl ?_
    simp [tyUpon, execOp, go_sem, Act.eval, h67, (beq_eq_false_iff_ne.1 hi), Below.refl]
   ·have h68 : EV _ (fv 68) w1 := hp 68 (LC (by kernel_rfl))
    refine tyAt_yes (by simp [Region.wanted, yielded, h68]) ?_
    refine ty_call (f := 23) (args := #[]) (by simp [execOp, go_sem, Act.eval, h68]) ?_
    exact (HW.out w1 (hKT.out.at ((hL0.call (below_drew hb1)).bl) kKT)).mono fun e w2 ⟨h1, h2⟩ => ⟨_, h1, rfl, h2⟩
   ·have h68 : EV _ (fv 68) w1 := hp 68 (LC (by kernel_rfl))
    have h69 : EV _ (fv 69) w1 := hp 69 (LC (by kernel_rfl))
    refine tyAt_none rfl ?_
    simp [tyUpon, execOp, go_sem, Act.eval, h68, h69, (beq_eq_false_iff_ne.1 hi), Below.refl]
   ·have h70 : EV _ (fv 70) w1 := hp 70 (LC (by kernel_rfl))
    refine tyAt_none rfl ?_
    simp [tyUpon, execOp, go_sem, Act.eval, h70, (beq_eq_false_iff_ne.1 hi), Below.refl]
  ·intro fv x9 hb1 hv
   have e0 : fv 0 = _ := hv 0 (by omega)
   have e1 : fv 1 = _ := hv 1 (by omega)
   have e2 : fv 2 = _ := hv 2 (by omega)
   have e3 : fv 3 = _ := hv 3 (by omega)
   have e4 : fv 4 = _ := hv 4 (by omega)
   have e5 : fv 5 = _ := hv 5 (by omega)
   have e6 : fv 6 = _ := hv 6 (by omega)
   have e7 : fv 7 = _ := hv 7 (by omega)
   have e8 : fv 8 = _ := hv 8 (by omega)
   have q9 : RZ x9 (fv 9) r := hv 9 (by omega)
   obtain ⟨g3, d3, e9⟩ := rz_form q9
   rw [e9] at q9
   have e10 : fv 10 = _ := hv 10 (by omega)
   have e11 : fv 11 = _ := hv 11 (by omega)
   have e12 : fv 12 = _ := hv 12 (by omega)
   have e13 : fv 13 = _ := hv 13 (by omega)
   have e14 : fv 14 = _ := hv 14 (by omega)
   have e15 : fv 15 = _ := hv 15 (by omega)
   have e16 : fv 16 = _ := hv 16 (by omega)
   have e17 : fv 17 = _ := hv 17 (by omega)
   have q18 : RZ x9 (fv 18) d := hv 18 (by omega)
   obtain ⟨g4, d4, e18⟩ := rz_form q18
   rw [e18] at q18
   have e19 : fv 19 = _ := hv 19 (by omega)
   have e20 : fv 20 = _ := hv 20 (by omega)
   have e21 : fv 21 = _ := hv 21 (by omega)
   have e22 : fv 22 = _ := hv 22 (by omega)
   have e23 : fv 23 = _ := hv 23 (by omega)
   have e24 : fv 24 = _ := hv 24 (by omega)
   have e25 : fv 25 = _ := hv 25 (by omega)
   have e26 : fv 26 = _ := hv 26 (by omega)
   have q27 : RZ x9 (fv 27) m := hv 27 (by omega)
   obtain ⟨g5, d5, e27⟩ := rz_form q27
   rw [e27] at q27
   have e28 : fv 28 = _ := hv 28 (by omega)
   have e29 : fv 29 = _ := hv 29 (by omega)
   have e30 : fv 30 = _ := hv 30 (by omega)
   have e31 : fv 31 = _ := hv 31 (by omega)
   have e32 : fv 32 = _ := hv 32 (by omega)
   have e33 : fv 33 = _ := hv 33 (by omega)
   have q34 : RZ x9 (fv 34) n := hv 34 (by omega)
   obtain ⟨g6, d6, e34⟩ := rz_form q34
   rw [e34] at q34
   have e35 : fv 35 = _ := hv 35 (by omega)
   have e36 : fv 36 = _ := hv 36 (by omega)
   have e37 : fv 37 = _ := hv 37 (by omega)
   have e38 : fv 38 = _ := hv 38 (by omega)
   have e39 : fv 39 = _ := hv 39 (by omega)
   have e40 : fv 40 = _ := hv 40 (by omega)
   have e41 : fv 41 = _ := hv 41 (by omega)
   have e42 : fv 42 = _ := hv 42 (by omega)
   have e43 : fv 43 = _ := hv 43 (by omega)
   have e44 : fv 44 = _ := hv 44 (by omega)
   have e45 : fv 45 = _ := hv 45 (by omega)
   have e46 : fv 46 = _ := hv 46 (by omega)
   have e47 : fv 47 = _ := hv 47 (by omega)
   have e48 : fv 48 = _ := hv 48 (by omega)
   have e49 : fv 49 = _ := hv 49 (by omega)
   have e50 : fv 50 = _ := hv 50 (by omega)
   have e51 : fv 51 = _ := hv 51 (by omega)
   have e52 : fv 52 = _ := hv 52 (by omega)
   have e53 : fv 53 = _ := hv 53 (by omega)
   have e54 : fv 54 = _ := hv 54 (by omega)
   have e55 : fv 55 = _ := hv 55 (by omega)
   have e56 : fv 56 = _ := hv 56 (by omega)
   have e57 : fv 57 = _ := hv 57 (by omega)
   have e58 : fv 58 = _ := hv 58 (by omega)
   have e59 : fv 59 = _ := hv 59 (by omega)
   have e60 : fv 60 = _ := hv 60 (by omega)
   have e61 : fv 61 = _ := hv 61 (by omega)
   have e62 : fv 62 = _ := hv 62 (by omega)
   have e63 : fv 63 = _ := hv 63 (by omega)
   have e64 : fv 64 = _ := hv 64 (by omega)
   have e65 : fv 65 = _ := hv 65 (by omega)
   have e66 : fv 66 = _ := hv 66 (by omega)
   have e67 : fv 67 = _ := hv 67 (by omega)
   have e68 : fv 68 = _ := hv 68 (by omega)
   have e69 : fv 69 = _ := hv 69 (by omega)
   have e70 : fv 70 = _ := hv 70 (by omega)
   have e71 : fv 71 = _ := hv 71 (by omega)
   simp only [List.take_succ_cons, List.take_zero, putsV, Act.put, List.setIfInBounds_toArray, List.set_cons_succ, List.set_cons_zero, List.drop_succ_cons, List.drop_zero, Nat.zero_add, Nat.reduceAdd, e0, e1, e2, e3, e4, e5, e6, e7, e8, e9, e10, e11, e12, e13, e14, e15, e16, e17, e18, e19, e20, e21, e22, e23, e24, e25, e26, e27, e28, e29, e30, e31, e32, e33, e34, e35, e36, e37, e38, e39, e40, e41, e42, e43, e44, e45, e46, e47, e48, e49, e50, e51, e52, e53, e54, e55, e56, e57, e58, e59, e60, e61, e62, e63, e64, e65, e66, e67, e68, e69, e70, e71]
   replace hL0 := hL0.call (below_drew hb1)
   replace hS := hS.call (below_drew hb1)
   replace hS := hS.cons (rz_rn q9)
   replace hS := hS.cons (rz_rn q18)
   replace hS := hS.cons (rz_rn q27)
   replace hS := hS.cons (rz_rn q34)
   clear e0 e1 e2 e3 e4 e5 e6 e7 e8 e9 e10 e11 e12 e13 e14 e15 e16 e17 e18 e19 e20 e21 e22 e23 e24 e25 e26 e27 e28 e29 e30 e31 e32 e33 e34 e35 e36 e37 e38 e39 e40 e41 e42 e43 e44 e45 e46 e47 e48 e49 e50 e51 e52 e53 e54 e55 e56 e57 e58 e59 e60 e61 e62 e63 e64 e65 e66 e67 e68 e69 e70 e71 hb1 hv q9 q18 q27 q34 fv
   go_wp2_with fail
   exact bodyPost_ret (v := .bool true) (by simp [results, Tryz.results4, go_sem]) rfl ⟨rfl, hL0.bl⟩
end Go.Proofs.YtdmoadfnogdfnaaGreatDoor
namespace Go.Proofs.YtdmoadfnogdfnaaGreatDoor
open Go.RowKit Go.Proofs.YtdmoadfnogdfnaaGreatDoor.Rx
attribute [local irreducible] lo hs sm s64 c64 d64 b64 mh ml pd pc qd qc val hiB str cmpI srD lz nb isq decB zl zh dval txt
theorem cmpZ_sgn (x y : Int) : cmpZ x y = sgn (x - y) := by
 unfold cmpZ sgn
 rcases Int.lt_trichotomy x y with h | h | h
 ·rw [if_pos h, if_pos (by omega)]
 ·subst h; simp
 ·rw [if_neg (by omega), if_neg (by omega), if_neg (by omega), if_neg (by omega)]
theorem isums_any (sx sy : Bool) (ax ay : Option Addr) (nx cx ny cy : Nat) (lx ly : List Nat) (w : World) (htab : Tab w) (hwx : Ws w (.slice ax nx cx) lx) (hwy : Ws w (.slice ay ny cy) ly) :
  Calls Tryz.prog 4 #[.agg #[.bool sx, .slice ax nx cx], .agg #[.bool sy, .slice ay ny cy]] w fun e w' => e = .returned (.bool true) ∧ Below w.heap.size w w' := by
 have e1 := hwx.len
 have e2 := hwy.len
 by_cases h : nx ≤ 16 ∧ ny ≤ 16
 ·obtain ⟨h1, h2⟩ := h
  have d1 : dI (zmade sx lx) ≤ 16 := Nat.le_trans (zmade_dI hwx.lt) (by omega)
  have d2 : dI (zmade sy ly) ≤ 16 := Nat.le_trans (zmade_dI hwy.lt) (by omega)
  have GX := fun w h => zof_any sx ax nx cx lx (by omega) w h
  have GY := fun w h => zof_any sy ay ny cy ly (by omega) w h
  have RX := fun w h => zref_any sx ax nx cx lx (by omega) w h
  have RY := fun w h => zref_any sy ay ny cy ly (by omega) w h
  generalize zmade sx lx = a at *
  generalize zmade sy ly = b at *
  have t1 := dI_td d1
  have t2 := dI_td d2
  have hf : decide (nx ≤ 16 ∧ ny ≤ 16) = true := decide_eq_true ⟨h1, h2⟩
  have dn : dI (-a) ≤ 16 := by rw [dI_neg]; exact d1
  have da : (digs a.natAbs).length ≤ 16 := d1
  have HC := fun p0 p1 w h0 h1 => rzcmpI a b (by omega) (by omega) p0 p1 w h0 h1
  have HC2 := fun w => cmpII a b w
  rw [cmpZ_sgn] at HC2
  by_cases he : a = b
  ·subst he
   rw [Int.sub_self] at HC2 HC
   exact isums_eq sx sy ax ay nx cx ny cy a (a + a) (a - a) (a * a) (-a) (sgn a) a.natAbs (txt a.natAbs)
    _ (Keeps.ws _ lx) GX _ (Keeps.ws _ ly) GY RX RY HC Tab Keeps.tab (zsame a d1 (by omega))
    (addI a a (by omega) (by omega)) (fun p0 p1 w h0 h1 => rzaddI p0 p1 a a (by omega) (by omega) w h0 h1) (zsame _ (dI_add d1 d1) (by omega))
    (subI a a (by omega) (by omega)) (fun p0 p1 w h0 h1 => rzsubI p0 p1 a a (by omega) (by omega) w h0 h1) (zsame _ (dI_sub d1 d1) (by omega))
    (mulI a a (by omega) (by omega)) (fun p0 p1 w h0 h1 => rzmulI p0 p1 a a (by omega) (by omega) w h0 h1) (zsame _ (dI_mul d1 d1) (by omega))
    (negI a) (fun p0 w h0 => rznegI p0 a w h0) (zsame _ dn (by omega))
    (signI a) (rzsignI a) HC2 (absI a) (fun w ht => text_any _ (by omega) w ht) (fun p0 w h0 => rtext_any p0 _ (by omega) w h0) (fun w ht => zworks_any w ht) hf w hwx hwy htab
  ·exact isums_ne sx sy ax ay nx cx ny cy a b (a + b) (a - b) (a * b) (-a) (sgn (a - b)) (sgn a) a.natAbs (txt a.natAbs)
    _ (Keeps.ws _ lx) GX _ (Keeps.ws _ ly) GY RX RY HC Tab Keeps.tab (zsame a d1 (by omega))
    (addI a b (by omega) (by omega)) (fun p0 p1 w h0 h1 => rzaddI p0 p1 a b (by omega) (by omega) w h0 h1) (zsame _ (dI_add d1 d2) (by omega))
    (subI a b (by omega) (by omega)) (fun p0 p1 w h0 h1 => rzsubI p0 p1 a b (by omega) (by omega) w h0 h1) (zsame _ (dI_sub d1 d2) (by omega))
    (mulI a b (by omega) (by omega)) (fun p0 p1 w h0 h1 => rzmulI p0 p1 a b (by omega) (by omega) w h0 h1) (zsame _ (dI_mul d1 d2) (by omega))
    (negI a) (fun p0 w h0 => rznegI p0 a w h0) (zsame _ dn (by omega))
    (signI a) (rzsignI a) HC2 (absI a) (fun w ht => text_any _ (by omega) w ht) (fun p0 w h0 => rtext_any p0 _ (by omega) w h0) (fun w ht => zworks_any w ht) hf he
    (beq_eq_false_iff_ne.2 (by unfold sgn; split <;> (try split) <;> omega)) w hwx hwy htab
 ·exact isums_big sx sy ax ay nx cx ny cy Tab Keeps.tab (fun w ht => zworks_any w ht) (decide_eq_false h) w htab
end Go.Proofs.YtdmoadfnogdfnaaGreatDoor
namespace Go.Proofs.YtdmoadfnogdfnaaGreatDoor
open Go.ChangeShapes Go.WideShapes Go.ChangeAt Go.RowKit
theorem laidOut : laidOutB Tryz.prog = true := by kernel_rfl
theorem cells62 : Tryz.prog.cellsOf 22 = 1 := by kernel_rfl
theorem wide_u32 {n : Int} (h : (Lit.int .u32 n).wf = true) : 0 ≤ n ∧ n ≤ 4294967295 := bounds_u32 h
end Go.Proofs.YtdmoadfnogdfnaaGreatDoor
namespace Go.Proofs.YtdmoadfnogdfnaaGreatDoor
open Go.ChangeShapes Go.WideShapes Go.ChangeAt Go.RowKit Go.Joins
theorem cellsZ : Tryz.prog.cellsOf 36 = 2 := by kernel_rfl
theorem ws_of_trod {H : Type} {enc : TypeId × Value → H} {W : World} {v : Value} {y : DataW H × List MemPlace} {fuel : Nat} (hf : DataW.trod enc Tryz.prog W 0 (fun _ => true) true fuel 23 [v] = some y) : ∃ a n c l, v = .slice a n c ∧ Ws W v l := by
 rcases open_ints Tryz.underlying23 Tryz.underlying22 cells62 hf with ⟨hcs, hx⟩ | ⟨a, len', cap', zs, hcs, _, hl, hm, hz, hx, hcell, hwz⟩
 ·simp only [List.cons.injEq, and_true] at hcs
  subst hcs
  exact ⟨none, 0, 0, [], rfl, .inl ⟨_, _, rfl, rfl⟩⟩
 ·simp only [List.cons.injEq, and_true] at hcs
  subst hcs
  simp only [if_true] at hz
  refine ⟨some a, len', cap', ?_⟩
  by_cases h0 : len' = 0
  ·subst h0
   exact ⟨[], rfl, .inl ⟨_, _, rfl, rfl⟩⟩
  ·have hll : ((zs.take len').map Int.toNat).length = len' := by simp; omega
   refine ⟨(zs.take len').map Int.toNat, rfl, .inr ⟨a, cap', by rw [hll], ?_, ?_, ?_⟩⟩
   ·intro x hx
    obtain ⟨z, hz1, rfl⟩ := List.mem_map.1 hx
    have := wide_u32 (hwz z (List.mem_of_mem_take hz1))
    omega
   ·intro i hi
    rw [hll] at hi
    have hi2 : i < zs.length := by omega
    have e := hcell i hi2
    rw [show zs.getD i 0 = zs[i] by simp [List.getD, hi2]] at e
    have hw := wide_u32 (hwz zs[i] (List.getElem_mem hi2))
    rw [e]
    simp only [List.getElem_map, List.getElem_take]
    rw [Int.toNat_of_nonneg hw.1]
   ·have e := hcell 0 (by omega)
    have := World.block_lt_of_cell? W _ e
    rw [show (a.add 0).block = a.block from by unfold Addr.add; split <;> rfl] at this
    exact this
set_option maxRecDepth 100000 in
theorem z_of {H : Type} {enc : TypeId × Value → H} {W : World} {base : Nat} {v : Value} {d : DataW H} {p : List MemPlace} (hv : Value.okWide Tryz.prog W .any base 36 v)
  (h : DataW.Trod enc Tryz.prog W 0 (fun _ => true) true 36 v d p) : ∃ s a n c l, v = .agg #[.bool s, .slice a n c] ∧ Ws W (.slice a n c) l := by
 obtain ⟨v0, v1, y0, y1, m, rfl, rfl, rfl, h0, h1⟩ := open_agg2 Tryz.underlying36 (by kernel_rfl) cellsZ hv h
 obtain ⟨s, e0, -⟩ := DataW.trod_bool Tryz.underlying4 h0
 obtain ⟨a, n, c, l, rfl, hw⟩ := ws_of_trod h1
 simp only [List.cons.injEq, and_true] at e0
 subst e0
 exact ⟨s, a, n, c, l, rfl, hw⟩
end Go.Proofs.YtdmoadfnogdfnaaGreatDoor
namespace Go.Proofs.YtdmoadfnogdfnaaGreatDoor.intsSums
open Go.ChangeShapes Go.WideShapes Go.ChangeAt Go.RowKit
set_option maxRecDepth 100000 in
theorem contract (H : Type) (enc : TypeId × Value → H) (W : World) (base : Nat) (args : Array Value) (ds gs : List (DataW H)) (before : List MemPlace)
  (hval : ∀ (j : Nat) t v, Tryz.f4.params[j]? = some t → args[j]? = some v → Value.okWide Tryz.prog W .any base t v)
  (hW : DataW.Whole enc Tryz.prog Tryz.f4.params.toList Rows.intsSumsSpec.vars false W args.toList ds gs before) (hL : laidMetH Tryz.prog Rows.intsSumsRow.laid W) :
  Calls Tryz.prog 4 args W fun e W' => ∃ v, e = .returned v ∧ Rows.intsSumsSpec.post enc Tryz.prog Tryz.f4 false true false false W args v W' := by
 have hW' := hW
 obtain ⟨p, q, hA0, hV, rfl, _, _⟩ := hW
 have hA : DataW.TrodAll enc Tryz.prog W 0 (fun _ => true) true Tryz.f4.params.toList args.toList ds p := hA0
 rw [Tryz.params4] at hA hval
 obtain ⟨v0, v1, d0, d1, p0, p1, rfl, rfl, rfl, h0, h1⟩ := trodAll_two hA
 obtain ⟨rfl, rfl⟩ := trodVars_none hV
 clear hA0
 simp only [List.append_nil] at hW'
 have hlt : ∀ x ∈ p0 ++ p1, x.block < W.heap.size := fun x hx => by simpa using hW'.lt x hx
 have l0 : ∀ x ∈ p0, x.block < W.heap.size := fun x hx => hlt x (by simp [hx])
 obtain ⟨s0, a0, n0, c0, x0, rfl, w0⟩ := z_of (hval 0 36 v0 rfl rfl) h0
 have l1 : ∀ x ∈ p1, x.block < W.heap.size := fun x hx => hlt x (by simp [hx])
 obtain ⟨s1, a1, n1, c1, x1, rfl, w1⟩ := z_of (hval 1 36 v1 rfl rfl) h1
 refine (isums_any s0 s1 a0 a1 n0 c0 n1 c1 x0 x1 W (tab_of hL) w0 w1).mono fun e W' ⟨he, hb⟩ => ?_
 subst he
 refine ⟨_, rfl, _, _, _, [], ?pl, [], hW', ?_, ?_, rfl, hb.frame _, fun h => by cases h⟩
 rotate_left
 ·exact trodAll_mk1 (shut_bool Tryz.underlying4 _)
 ·exact trodAll_mk2 (Below.trod laidOut (by kernel_rfl) (of_decide_eq_true (by kernel_rfl)) h0 hb l0) (Below.trod laidOut (by kernel_rfl) (of_decide_eq_true (by kernel_rfl)) h1 hb l1)
/-- A world for the witness: the settled one, the tables as their initialisers lay them. -/
noncomputable def laidWorld (os : Os) : World := World.laidAll Tryz.prog os Rows.intsSumsRow.laid
theorem laid_met (os : Os) : laidMet Tryz.prog Rows.intsSumsRow.laid ((laidWorld os).forCall (fun _ _ => 0) ⟨#[], #[.agg #[.bool false, .slice none 0 0], .agg #[.bool false, .slice none 0 0]], []⟩).memory :=
 laidMet_laidAll _ (by kernel_rfl) (by kernel_rfl)
theorem reads (os : Os) {H : Type} (enc : TypeId × Value → H) : ∃ places, DataW.whole enc Tryz.prog ((laidWorld os).forCall (fun _ _ => 0) ⟨#[], #[.agg #[.bool false, .slice none 0 0], .agg #[.bool false, .slice none 0 0]], []⟩).memory Tryz.f4.params.toList Rows.intsSumsSpec.vars false (#[.agg #[.bool false, .slice none 0 0], .agg #[.bool false, .slice none 0 0]] : Array Value).toList 8 = some ([.agg [.lit (.bool false), .nil], .agg [.lit (.bool false), .nil]], [], places) :=
 ⟨[], by kernel_rfl⟩
set_option maxRecDepth 100000 in
theorem lifted (os : Os) (started : os.Started) (H : Type) (enc : TypeId × Value → H) (F : Stop.Interp) :
  ReturnsInHanded {} Tryz.checked os 4 .any ((OpenSpec.ofChange Rows.intsSumsSpec).preRow enc Tryz.prog Tryz.f4 Rows.intsSumsRow.domain false Rows.intsSumsRow.laid) (((OpenSpec.ofChange Rows.intsSumsSpec).at F).post enc Tryz.prog Tryz.f4 false true false false) := by
 obtain ⟨places, hx⟩ := reads os enc
 refine returnsInHanded_of_row (C := Tryz.checked) (s := OpenSpec.ofChange Rows.intsSumsSpec) own started (by kernel_rfl) Tryz.func4
  (witness_row_at (enc := enc) (C := Tryz.checked) false (laidWorld os) #[.agg #[.bool false, .slice none 0 0], .agg #[.bool false, .slice none 0 0]] (World.laidAll_os _ _ _) (by kernel_rfl) (by kernel_rfl) (by kernel_rfl)
   (OpenSpec.preRow_of_cond 8 hx (by kernel_rfl) (fun k hk => by cases hk) (by kernel_rfl) (laid_met os))) ?_
 intro W base args ds gs before hval hW _ _ _ hL _ _
 exact contract H enc W base args ds gs before hval hW hL
theorem said : Rows.IntsSumsSaid :=
 OpenClaim.holds_of_cond 4 Tryz.f4 rfl rfl rfl rfl rfl rfl rfl ⟨rfl, rfl, rfl, rfl, rfl⟩ rfl rfl rfl rfl rfl (by kernel_rfl) Tryz.func4 (by kernel_rfl)
  (of_decide_eq_true (by kernel_rfl)) (by unfold Func.isWrapper; first | (rw [if_pos (by decide +kernel)]; kernel_rfl) | (rw [if_neg (by decide +kernel)]; exact ⟨rfl, rfl⟩))
  (fun os started H enc _ F => by rw [OpenClaim.pre_eq_preRow]; exact lifted os started H enc F)
theorem plain (f : FuncId) (fn : Func) (hf : Tryz.pinned.checked.prog.funcNamed "gusset/gussetlaw02.IntsSums" = some f) (hfn : Tryz.pinned.checked.prog.funcs[f]? = some fn) :
  false = Tryz.pinned.checked.prog.looks [] ∧ ∀ (j : Nat) t, fn.params[j]? = some t → Tryz.pinned.checked.prog.wantsStandIn t = false := by
 obtain rfl : f = 4 := Option.some.inj ((show Tryz.prog.funcNamed "gusset/gussetlaw02.IntsSums" = some 4 by kernel_rfl).symm.trans hf) |>.symm
 obtain rfl : fn = Tryz.f4 := (Option.some.inj (Tryz.func4.symm.trans hfn)).symm
 refine ⟨by kernel_rfl, fun j t ht => ?_⟩
 rw [Tryz.params4] at ht
 have hm := Array.mem_of_getElem? ht
 simp only [List.mem_toArray, List.mem_cons, List.not_mem_nil, or_false] at hm
 rcases hm with rfl | rfl
 ·exact (show Tryz.prog.wantsStandIn 36 = false by kernel_rfl)
 ·exact (show Tryz.prog.wantsStandIn 36 = false by kernel_rfl)
end Go.Proofs.YtdmoadfnogdfnaaGreatDoor.intsSums
namespace Go.Proofs.YtdmoadfnogdfnaaGreatDoor
open Go.ChangeShapes Go.WideShapes Go.ChangeAt Go.RowKit
/-- THE CARD -/
theorem intsSumsProved : Rows.IntsSumsCardSaid :=
 Claim7.holds_tied_plain_at .later [] _ _ _ _ intsSums.said (fun _ h => by cases h) (by kernel_rfl) (fun _ h => by cases h) intsSums_row_tie rfl ⟨rfl, rfl⟩ (by kernel_rfl) rfl intsSums.plain (by kernel_rfl)
end Go.Proofs.YtdmoadfnogdfnaaGreatDoor
