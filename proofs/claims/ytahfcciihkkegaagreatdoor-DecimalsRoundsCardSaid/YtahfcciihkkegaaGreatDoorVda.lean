/-
  The law answers true at every input, and leaves its arguments as they were: a part of the proof. CONDITIONS: the package-level tables start as the program's text lays them (the card ties them).
-/
import Derived.Test.YtahfcciihkkegaaGreatDoorZad
import Derived.Test.YtahfcciihkkegaaGreatDoorRows
set_option linter.unusedVariables false
set_option linter.unusedSimpArgs false
namespace Go.Proofs.YtahfcciihkkegaaGreatDoor
open Go.RowKit
/-- No int lies in a box that holds none. -/
theorem Hd.no_int {w : World} {k : Nat} {c : List Value} (h : Hd w k c) (hc : ∀ v ∈ c, ∀ n, v ≠ .int .i64 n) {a : Addr} {n : Int} (hx : w.cell? a = some (.int .i64 n)) : a.block ≠ k := by
 intro e
 obtain ⟨arr, t, h1, h2⟩ := h.row
 unfold World.cell? at hx
 rw [e, h1] at hx
 simp only at hx
 split at hx
 ·cases hx
 ·rename_i hs
  have ho : a.off < c.length := by
   have := (Array.getElem?_eq_some_iff.1 hx).1
   omega
  have h3 := h.cell a.off ho
  unfold World.cell? at h3
  simp only [h1] at h3
  rw [if_neg (by simp)] at h3
  rw [hx] at h3
  exact hc c[a.off] (List.getElem_mem ho) n (Option.some.inj h3).symm
end Go.Proofs.YtahfcciihkkegaaGreatDoor
namespace Go.Proofs.YtahfcciihkkegaaGreatDoor
open Go.RowKit
attribute [local irreducible] lo hs sm s64 c64 d64 b64 mh ml pd pc qd qc val hiB str cmpI srD lz nb isq decB
set_option maxHeartbeats 4000000 in
set_option maxRecDepth 100000 in
theorem byadd_true_true (m n k : Nat) (u : Bool) (H : ∀ w, Calls Tryz.prog 145 #[zV true m, natV n] w fun e w' => e = .returned (zV u k) ∧ Below w.heap.size w w') (w : World) :
  Calls Tryz.prog 143 #[zV true m, zV true n, .func (.func 145) #[] #[], .func (.func 144) #[] #[]] w fun e w' => e = .returned (zV u k) ∧ Below w.heap.size w w' := by
 have hL0 : GL w w [] := GL.start w
 replace H := Lib.hid H
 replace hL0 := (((hL0.new rfl [.int .u64 ((lo m : Nat) : Int), .string (hs m), .bool true] 32).new (K := w.heap.size + 1) (szA _ _) [.int .u64 ((lo n : Nat) : Int), .string (hs n), .bool true] 32).new (K := w.heap.size + 1 + 1) (by simp only [World.size_alloc]) [.int .u64 0, .string ⟨#[]⟩, .bool false] 32)
 generalize hweq : (((w.alloc (.cells #[.int .u64 ((lo m : Nat) : Int), .string (hs m), .bool true] 32)).alloc (.cells #[.int .u64 ((lo n : Nat) : Int), .string (hs n), .bool true] 32)).alloc (.cells #[.int .u64 0, .string ⟨#[]⟩, .bool false] 32)) = x1 at hL0
 go_enter Tryz.func143, Tryz.ntmps143
 have hA := hL0.fc
 simp only [fcG, cellsF, neK, and_true, ne_eq, Nat.zero_add, Nat.reduceAdd] at hA
 go_wp2_with fail
 clear hA
 with_reducible refine Calls.mono (H.out _) ?_
 rintro e x2 ⟨rfl, hb⟩
 replace hL0 := hL0.call hb
 clear hb hweq
 have hA := hL0.fc
 simp only [fcG, cellsF, neK, and_true, ne_eq, Nat.zero_add, Nat.reduceAdd] at hA
 have hP := hL0.put 0 (w.heap.size + 1 + 1) _ rfl [.int .u64 ((lo k : Nat) : Int), .string (hs k), .bool u] rfl
 simp only [setAll, List.set_cons_zero, List.set_cons_succ] at hP
 generalize hput1 : (((x2.setCell ⟨w.heap.size + 1 + 1, 0, none⟩ (.int .u64 ((lo k : Nat) : Int))).setCell ⟨w.heap.size + 1 + 1, 1, none⟩ (.string (hs k))).setCell ⟨w.heap.size + 1 + 1, 2, none⟩ (.bool u)) = x3 at hP
 have hB1 := hP.fc
 simp only [fcG, cellsF, neK, and_true, ne_eq, Nat.zero_add, Nat.reduceAdd] at hB1
 replace hL0 := hP
 go_wp2_with fail
 exact bodyPost_ret (v := zV u k) (by simp [results, Tryz.results143, go_sem, hB1]) rfl ⟨rfl, hL0.bl⟩
set_option maxHeartbeats 4000000 in
set_option maxRecDepth 100000 in
theorem byadd_true_false (m n k : Nat) (u : Bool) (H : ∀ w, Calls Tryz.prog 144 #[zV true m, natV n] w fun e w' => e = .returned (zV u k) ∧ Below w.heap.size w w') (w : World) :
  Calls Tryz.prog 143 #[zV true m, zV false n, .func (.func 145) #[] #[], .func (.func 144) #[] #[]] w fun e w' => e = .returned (zV u k) ∧ Below w.heap.size w w' := by
 have hL0 : GL w w [] := GL.start w
 replace H := Lib.hid H
 replace hL0 := (((hL0.new rfl [.int .u64 ((lo m : Nat) : Int), .string (hs m), .bool true] 32).new (K := w.heap.size + 1) (szA _ _) [.int .u64 ((lo n : Nat) : Int), .string (hs n), .bool false] 32).new (K := w.heap.size + 1 + 1) (by simp only [World.size_alloc]) [.int .u64 0, .string ⟨#[]⟩, .bool false] 32)
 generalize hweq : (((w.alloc (.cells #[.int .u64 ((lo m : Nat) : Int), .string (hs m), .bool true] 32)).alloc (.cells #[.int .u64 ((lo n : Nat) : Int), .string (hs n), .bool false] 32)).alloc (.cells #[.int .u64 0, .string ⟨#[]⟩, .bool false] 32)) = x1 at hL0
 go_enter Tryz.func143, Tryz.ntmps143
 have hA := hL0.fc
 simp only [fcG, cellsF, neK, and_true, ne_eq, Nat.zero_add, Nat.reduceAdd] at hA
 go_wp2_with fail
 clear hA
 with_reducible refine Calls.mono (H.out _) ?_
 rintro e x2 ⟨rfl, hb⟩
 replace hL0 := hL0.call hb
 clear hb hweq
 have hA := hL0.fc
 simp only [fcG, cellsF, neK, and_true, ne_eq, Nat.zero_add, Nat.reduceAdd] at hA
 have hP := hL0.put 0 (w.heap.size + 1 + 1) _ rfl [.int .u64 ((lo k : Nat) : Int), .string (hs k), .bool u] rfl
 simp only [setAll, List.set_cons_zero, List.set_cons_succ] at hP
 generalize hput1 : (((x2.setCell ⟨w.heap.size + 1 + 1, 0, none⟩ (.int .u64 ((lo k : Nat) : Int))).setCell ⟨w.heap.size + 1 + 1, 1, none⟩ (.string (hs k))).setCell ⟨w.heap.size + 1 + 1, 2, none⟩ (.bool u)) = x3 at hP
 have hB1 := hP.fc
 simp only [fcG, cellsF, neK, and_true, ne_eq, Nat.zero_add, Nat.reduceAdd] at hB1
 replace hL0 := hP
 go_wp2_with fail
 exact bodyPost_ret (v := zV u k) (by simp [results, Tryz.results143, go_sem, hB1]) rfl ⟨rfl, hL0.bl⟩
set_option maxHeartbeats 4000000 in
set_option maxRecDepth 100000 in
theorem byadd_false_true (m n k : Nat) (u : Bool) (H : ∀ w, Calls Tryz.prog 144 #[zV false m, natV n] w fun e w' => e = .returned (zV u k) ∧ Below w.heap.size w w') (w : World) :
  Calls Tryz.prog 143 #[zV false m, zV true n, .func (.func 145) #[] #[], .func (.func 144) #[] #[]] w fun e w' => e = .returned (zV u k) ∧ Below w.heap.size w w' := by
 have hL0 : GL w w [] := GL.start w
 replace H := Lib.hid H
 replace hL0 := (((hL0.new rfl [.int .u64 ((lo m : Nat) : Int), .string (hs m), .bool false] 32).new (K := w.heap.size + 1) (szA _ _) [.int .u64 ((lo n : Nat) : Int), .string (hs n), .bool true] 32).new (K := w.heap.size + 1 + 1) (by simp only [World.size_alloc]) [.int .u64 0, .string ⟨#[]⟩, .bool false] 32)
 generalize hweq : (((w.alloc (.cells #[.int .u64 ((lo m : Nat) : Int), .string (hs m), .bool false] 32)).alloc (.cells #[.int .u64 ((lo n : Nat) : Int), .string (hs n), .bool true] 32)).alloc (.cells #[.int .u64 0, .string ⟨#[]⟩, .bool false] 32)) = x1 at hL0
 go_enter Tryz.func143, Tryz.ntmps143
 have hA := hL0.fc
 simp only [fcG, cellsF, neK, and_true, ne_eq, Nat.zero_add, Nat.reduceAdd] at hA
 go_wp2_with fail
 clear hA
 with_reducible refine Calls.mono (H.out _) ?_
 rintro e x2 ⟨rfl, hb⟩
 replace hL0 := hL0.call hb
 clear hb hweq
 have hA := hL0.fc
 simp only [fcG, cellsF, neK, and_true, ne_eq, Nat.zero_add, Nat.reduceAdd] at hA
 have hP := hL0.put 0 (w.heap.size + 1 + 1) _ rfl [.int .u64 ((lo k : Nat) : Int), .string (hs k), .bool u] rfl
 simp only [setAll, List.set_cons_zero, List.set_cons_succ] at hP
 generalize hput1 : (((x2.setCell ⟨w.heap.size + 1 + 1, 0, none⟩ (.int .u64 ((lo k : Nat) : Int))).setCell ⟨w.heap.size + 1 + 1, 1, none⟩ (.string (hs k))).setCell ⟨w.heap.size + 1 + 1, 2, none⟩ (.bool u)) = x3 at hP
 have hB1 := hP.fc
 simp only [fcG, cellsF, neK, and_true, ne_eq, Nat.zero_add, Nat.reduceAdd] at hB1
 replace hL0 := hP
 go_wp2_with fail
 exact bodyPost_ret (v := zV u k) (by simp [results, Tryz.results143, go_sem, hB1]) rfl ⟨rfl, hL0.bl⟩
set_option maxHeartbeats 4000000 in
set_option maxRecDepth 100000 in
theorem byadd_false_false (m n k : Nat) (u : Bool) (H : ∀ w, Calls Tryz.prog 145 #[zV false m, natV n] w fun e w' => e = .returned (zV u k) ∧ Below w.heap.size w w') (w : World) :
  Calls Tryz.prog 143 #[zV false m, zV false n, .func (.func 145) #[] #[], .func (.func 144) #[] #[]] w fun e w' => e = .returned (zV u k) ∧ Below w.heap.size w w' := by
 have hL0 : GL w w [] := GL.start w
 replace H := Lib.hid H
 replace hL0 := (((hL0.new rfl [.int .u64 ((lo m : Nat) : Int), .string (hs m), .bool false] 32).new (K := w.heap.size + 1) (szA _ _) [.int .u64 ((lo n : Nat) : Int), .string (hs n), .bool false] 32).new (K := w.heap.size + 1 + 1) (by simp only [World.size_alloc]) [.int .u64 0, .string ⟨#[]⟩, .bool false] 32)
 generalize hweq : (((w.alloc (.cells #[.int .u64 ((lo m : Nat) : Int), .string (hs m), .bool false] 32)).alloc (.cells #[.int .u64 ((lo n : Nat) : Int), .string (hs n), .bool false] 32)).alloc (.cells #[.int .u64 0, .string ⟨#[]⟩, .bool false] 32)) = x1 at hL0
 go_enter Tryz.func143, Tryz.ntmps143
 have hA := hL0.fc
 simp only [fcG, cellsF, neK, and_true, ne_eq, Nat.zero_add, Nat.reduceAdd] at hA
 go_wp2_with fail
 clear hA
 with_reducible refine Calls.mono (H.out _) ?_
 rintro e x2 ⟨rfl, hb⟩
 replace hL0 := hL0.call hb
 clear hb hweq
 have hA := hL0.fc
 simp only [fcG, cellsF, neK, and_true, ne_eq, Nat.zero_add, Nat.reduceAdd] at hA
 have hP := hL0.put 0 (w.heap.size + 1 + 1) _ rfl [.int .u64 ((lo k : Nat) : Int), .string (hs k), .bool u] rfl
 simp only [setAll, List.set_cons_zero, List.set_cons_succ] at hP
 generalize hput1 : (((x2.setCell ⟨w.heap.size + 1 + 1, 0, none⟩ (.int .u64 ((lo k : Nat) : Int))).setCell ⟨w.heap.size + 1 + 1, 1, none⟩ (.string (hs k))).setCell ⟨w.heap.size + 1 + 1, 2, none⟩ (.bool u)) = x3 at hP
 have hB1 := hP.fc
 simp only [fcG, cellsF, neK, and_true, ne_eq, Nat.zero_add, Nat.reduceAdd] at hB1
 replace hL0 := hP
 go_wp2_with fail
 exact bodyPost_ret (v := zV u k) (by simp [results, Tryz.results143, go_sem, hB1]) rfl ⟨rfl, hL0.bl⟩
set_option maxHeartbeats 4000000 in
set_option maxRecDepth 100000 in
theorem iadd (s t u : Bool) (m n k : Nat) (H : ∀ w, Calls Tryz.prog 143 #[zV s m, zV t n, .func (.func 145) #[] #[], .func (.func 144) #[] #[]] w fun e w' => e = .returned (zV u k) ∧ Below w.heap.size w w') (w : World) :
  Calls Tryz.prog 96 #[zV s m, zV t n] w fun e w' => e = .returned (zV u k) ∧ Below w.heap.size w w' := by
 have hL0 : GL w w [] := GL.start w
 replace H := Lib.hid H
 replace hL0 := (((hL0.new rfl [.int .u64 ((lo m : Nat) : Int), .string (hs m), .bool s] 32).new (K := w.heap.size + 1) (szA _ _) [.int .u64 ((lo n : Nat) : Int), .string (hs n), .bool t] 32).new (K := w.heap.size + 1 + 1) (by simp only [World.size_alloc]) [.int .u64 0, .string ⟨#[]⟩, .bool false] 32)
 generalize hweq : (((w.alloc (.cells #[.int .u64 ((lo m : Nat) : Int), .string (hs m), .bool s] 32)).alloc (.cells #[.int .u64 ((lo n : Nat) : Int), .string (hs n), .bool t] 32)).alloc (.cells #[.int .u64 0, .string ⟨#[]⟩, .bool false] 32)) = x1 at hL0
 go_enter Tryz.func96, Tryz.ntmps96
 have hA := hL0.fc
 simp only [fcG, cellsF, neK, and_true, ne_eq, Nat.zero_add, Nat.reduceAdd] at hA
 go_wp2_with fail
 clear hA
 with_reducible refine Calls.mono (H.out _) ?_
 rintro e x2 ⟨rfl, hb⟩
 replace hL0 := hL0.call hb
 clear hb hweq
 have hA := hL0.fc
 simp only [fcG, cellsF, neK, and_true, ne_eq, Nat.zero_add, Nat.reduceAdd] at hA
 have hP := hL0.put 0 (w.heap.size + 1 + 1) _ rfl [.int .u64 ((lo k : Nat) : Int), .string (hs k), .bool u] rfl
 simp only [setAll, List.set_cons_zero, List.set_cons_succ] at hP
 generalize hput1 : (((x2.setCell ⟨w.heap.size + 1 + 1, 0, none⟩ (.int .u64 ((lo k : Nat) : Int))).setCell ⟨w.heap.size + 1 + 1, 1, none⟩ (.string (hs k))).setCell ⟨w.heap.size + 1 + 1, 2, none⟩ (.bool u)) = x3 at hP
 have hB1 := hP.fc
 simp only [fcG, cellsF, neK, and_true, ne_eq, Nat.zero_add, Nat.reduceAdd] at hB1
 replace hL0 := hP
 go_wp2_with fail
 exact bodyPost_ret (v := zV u k) (by simp [results, Tryz.results96, go_sem, hB1]) rfl ⟨rfl, hL0.bl⟩
end Go.Proofs.YtahfcciihkkegaaGreatDoor
namespace Go.Proofs.YtahfcciihkkegaaGreatDoor
open Go.RowKit
attribute [local irreducible] lo hs sm s64 c64 d64 b64 mh ml pd pc qd qc val hiB str cmpI srD lz nb isq decB
end Go.Proofs.YtahfcciihkkegaaGreatDoor
namespace Go.Proofs.YtahfcciihkkegaaGreatDoor
open Go.RowKit
attribute [local irreducible] lo hs
theorem addI (x y : Int) (hx : dI x ≤ 1000000000) (hy : dI y ≤ 1000000000) (w : World) : Calls Tryz.prog 96 #[intV x, intV y] w fun e w' => e = .returned (intV (x + y)) ∧ Below w.heap.size w w' := by
 rcases int_cases x with ⟨m, rfl, ex⟩ | ⟨m, hm, rfl, ex⟩ <;> rcases int_cases y with ⟨n, rfl, ey⟩ | ⟨n, hn, rfl, ey⟩ <;> rw [ex, ey] <;> simp only [dI_neg, dI_nat] at hx hy
 ·rw [res_f (k := m + n) (by omega)]; exact iadd _ _ _ m n _ (byadd_false_false m n _ _ (out_false m n hx hy)) w
 ·rcases Nat.lt_or_ge m n with h | h
  ·rw [res_m (k := n - m) (by omega)]; exact iadd _ _ _ m n _ (byadd_false_true m n _ _ (in_false_lt m n h hx hy)) w
  ·rw [res_f (k := m - n) (by omega)]; exact iadd _ _ _ m n _ (byadd_false_true m n _ _ (in_false_ge m n h hx hy)) w
 ·rcases Nat.lt_or_ge m n with h | h
  ·rw [res_f (k := n - m) (by omega)]; exact iadd _ _ _ m n _ (byadd_true_false m n _ _ (in_true_lt m n h hx hy)) w
  ·rw [res_m (k := m - n) (by omega)]; exact iadd _ _ _ m n _ (byadd_true_false m n _ _ (in_true_ge m n h hx hy)) w
 ·rw [res_m (k := m + n) (by omega)]; exact iadd _ _ _ m n _ (byadd_true_true m n _ _ (out_true m n hx hy)) w
end Go.Proofs.YtahfcciihkkegaaGreatDoor
namespace Go.Proofs.YtahfcciihkkegaaGreatDoor
open Go.RowKit
attribute [local irreducible] lo hs
end Go.Proofs.YtahfcciihkkegaaGreatDoor
namespace Go.Proofs.YtahfcciihkkegaaGreatDoor
open Go.RowKit
theorem rinv_parts {a : Rat} (h : a ≠ 0) : (a⁻¹).num = (if a.num < 0 then -(a.den : Int) else (a.den : Int)) ∧ (a⁻¹).den = a.num.natAbs := by
 have h0 : a.num ≠ 0 := fun e => h (Rat.num_eq_zero.1 e)
 rw [Rat.num_inv, Rat.den_inv, if_neg h0]
 refine ⟨?_, rfl⟩
 split
 ·rename_i h1; rw [Int.sign_eq_neg_one_of_neg h1]; omega
 ·rw [Int.sign_eq_one_of_pos (by omega)]; omega
theorem den_one {a : Rat} : a.den = 1 ↔ a = (a.num : Rat) := by
 constructor
 ·intro h; exact Rat.ext rfl h
 ·intro h; rw [h]; rfl
def sgnQ (a : Rat) : Int := if a < 0 then -1 else if a = 0 then 0 else 1
theorem sgnQ_num (a : Rat) : sgnQ a = if a.num < 0 then -1 else if a.num = 0 then 0 else 1 := by
 unfold sgnQ
 have h1 : a < 0 ↔ a.num < 0 := by rw [← Rat.not_le, ← Rat.num_nonneg]; omega
 have h2 : a = 0 ↔ a.num = 0 := Rat.num_eq_zero.symm
 simp only [h1, h2]
theorem Sz.inv {q : Rat} {k : Nat} (h : Sz q k) (h0 : q ≠ 0) : Sz q⁻¹ k := by
 obtain ⟨h1, h2⟩ := rinv_parts h0
 refine ⟨?_, by rw [h2]; exact h.1⟩
 rw [h1]
 split
 ·rw [dI_neg, dI_nat]; exact h.2
 ·rw [dI_nat]; exact h.2
theorem Sz.div {p q : Rat} {k m : Nat} (hp : Sz p k) (hq : Sz q m) (h0 : q ≠ 0) : Sz (p / q) (k + m) := by
 rw [Rat.div_def]; exact hp.mul (hq.inv h0)
end Go.Proofs.YtahfcciihkkegaaGreatDoor
namespace Go.Proofs.YtahfcciihkkegaaGreatDoor
open Go.RowKit
attribute [local irreducible] lo hs sm s64 c64 d64 b64 mh ml pd pc qd qc val hiB str cmpI srD lz nb isq decB zl zh zs
end Go.Proofs.YtahfcciihkkegaaGreatDoor
namespace Go.Proofs.YtahfcciihkkegaaGreatDoor
open Go.RowKit
attribute [local irreducible] lo hs sm s64 c64 d64 b64 mh ml pd pc qd qc val hiB str cmpI srD lz nb isq decB zl zh zs dval
theorem dI_small {z : Int} (h : z.natAbs < Bs) : dI z ≤ 1 := digs_length_iff.2 (by rw [Nat.pow_one]; exact h)
theorem dI_lit {z : Int} (h : z.natAbs < 18446744073709551616) : dI z ≤ 1 := dI_small (by unfold Bs; exact h)
end Go.Proofs.YtahfcciihkkegaaGreatDoor
namespace Go.Proofs.YtahfcciihkkegaaGreatDoor
open Go.RowKit
attribute [local irreducible] lo hs zl zh zs
end Go.Proofs.YtahfcciihkkegaaGreatDoor
namespace Go.Proofs.YtahfcciihkkegaaGreatDoor
open Go.RowKit
attribute [local irreducible] lo hs sm s64 c64 d64 b64 mh ml pd pc qd qc val hiB str cmpI srD lz nb isq decB zl zh zs
set_option maxHeartbeats 4000000 in
set_option maxRecDepth 100000 in
theorem fsign_w (n s : Int) (e : Nat) (HS : RT 92 #[intV n] (.int .i64 s)) (w : World) :
  Calls Tryz.prog 34 #[frV n e] w fun xe w' => xe = .returned (.int .i64 s) ∧ Below w.heap.size w w' := by
 have hL0 : GL w w [] := GL.start w
 replace HS := Lib.hid HS
 replace hL0 := (hL0.new rfl [.int .u64 ((zl n : Nat) : Int), .string (zh n), .bool (zs n), .int .u64 ((lo e : Nat) : Int), .string (hs e)] 34)
 generalize hweq : (w.alloc (.cells #[.int .u64 ((zl n : Nat) : Int), .string (zh n), .bool (zs n), .int .u64 ((lo e : Nat) : Int), .string (hs e)] 34)) = x1 at hL0
 go_enter Tryz.func34, Tryz.ntmps34
 have hN0 := cells_of _ 0 [] rfl (hL0.get _ _ List.mem_cons_self)
 simp only [cellsF, and_true, Nat.zero_add, Nat.reduceAdd] at hN0
 go_wp2_with fail
 clear hN0
 with_reducible refine Calls.mono (HS.out _) ?_
 rintro e x2 ⟨rfl, hb⟩
 replace hL0 := hL0.call hb
 clear hb hweq
 go_wp2_with fail
 exact bodyPost_ret (v := .int .i64 s) (by simp [results, Tryz.results34, go_sem]) rfl ⟨rfl, hL0.bl⟩
end Go.Proofs.YtahfcciihkkegaaGreatDoor
namespace Go.Proofs.YtahfcciihkkegaaGreatDoor
open Go.RowKit
attribute [local irreducible] lo hs sm s64 c64 d64 b64 mh ml pd pc qd qc val hiB str cmpI srD lz nb isq decB zl zh zs
set_option maxHeartbeats 4000000 in
set_option maxRecDepth 100000 in
theorem fcombine_add (m n x y s u z : Int) (d e p0 q0 g p q r t v f : Nat) (HD : RT 75 #[frV m d] (natV p0)) (HE : RT 75 #[frV n e] (natV q0)) (HG : RT 136 #[natV p0, natV q0] (natV g)) (HP : RT 142 #[natV p0, natV g] (natV p)) (HQ : RT 142 #[natV q0, natV g] (natV q)) (HS : RT 85 #[intV m, natV q] (intV x)) (HT : RT 85 #[intV n, natV p] (intV y)) (HB : RT 96 #[intV x, intV y] (intV s)) (HC : RT 88 #[intV s, natV g] (.tuple #[intV u, natV r])) (HU : RT 68 #[natV p, natV q] (natV t)) (HV : RT 68 #[natV t, natV r] (natV v)) (HL : RT 89 #[intV u, natV v] (frV z f)) (w : World) :
  Calls Tryz.prog 86 #[frV m d, frV n e, .func (.func 96) #[] #[]] w fun xe w' => xe = .returned (frV z f) ∧ Below w.heap.size w w' := by
 have hL0 : GL w w [] := GL.start w
 replace HD := Lib.hid HD
 replace HE := Lib.hid HE
 replace HG := Lib.hid HG
 replace HP := Lib.hid HP
 replace HQ := Lib.hid HQ
 replace HS := Lib.hid HS
 replace HT := Lib.hid HT
 replace HB := Lib.hid HB
 replace HC := Lib.hid HC
 replace HU := Lib.hid HU
 replace HV := Lib.hid HV
 replace HL := Lib.hid HL
 replace hL0 := (((hL0.new rfl [.int .u64 ((zl m : Nat) : Int), .string (zh m), .bool (zs m), .int .u64 ((lo d : Nat) : Int), .string (hs d)] 34).new (K := w.heap.size + 1) (szA _ _) [.int .u64 ((zl n : Nat) : Int), .string (zh n), .bool (zs n), .int .u64 ((lo e : Nat) : Int), .string (hs e)] 34).new (K := w.heap.size + 1 + 1) (by simp only [World.size_alloc]) [.int .u64 0, .string ⟨#[]⟩, .bool false, .int .u64 0, .string ⟨#[]⟩] 34)
 generalize hweq : (((w.alloc (.cells #[.int .u64 ((zl m : Nat) : Int), .string (zh m), .bool (zs m), .int .u64 ((lo d : Nat) : Int), .string (hs d)] 34)).alloc (.cells #[.int .u64 ((zl n : Nat) : Int), .string (zh n), .bool (zs n), .int .u64 ((lo e : Nat) : Int), .string (hs e)] 34)).alloc (.cells #[.int .u64 0, .string ⟨#[]⟩, .bool false, .int .u64 0, .string ⟨#[]⟩] 34)) = x1 at hL0
 go_enter Tryz.func86, Tryz.ntmps86
 go_upto_region 1 with fail
 clear hweq
 refine region_gh (by kernel_rfl) (by kernel_rfl) ?_
 refine lex_seg (gl := []) 5 (by kernel_rfl) ?_
 intro α iα F hF1 hF2
 have hq := GL.seg hF1 hL0
 simp only [fcC, cellsC, and_true, Nat.zero_add, Nat.reduceAdd] at hq
 simp only [List.take_succ_cons, List.take_zero, List.drop_succ_cons, List.drop_zero, List.take_nil, List.drop_nil]
 repeat (go_big_quiet_step (first | fail | (go_at_call 75; with_reducible exact seg_call hF2 HD.out _) | (go_at_call 75; with_reducible exact seg_call hF2 HE.out _) | (go_at_call 136; with_reducible exact seg_call hF2 HG.out _)))
 refine wpQuiet_nil ?_
 clear hq hF1 hF2 iα F α
 refine lex_new [.int .u64 0, .string ⟨#[]⟩] 7 30 30 rfl rfl (of_decide_eq_true (by kernel_rfl)) (by kernel_rfl) rfl new_natc ?_
 simp only [Act.put, List.setIfInBounds_toArray, List.set_cons_succ, List.set_cons_zero]
 refine lex_put [.int .u64 ((lo g : Nat) : Int), .string (hs g)] [.int .u64 0, .string ⟨#[]⟩] 7 30 (.tmp 16) rfl (by kernel_rfl) (by simp [toG, upd]) rfl (fun w k h => put_natc _ _ _ _ w k h) ?_
 simp only [Act.put]
 refine lexG_nil ?_
 intro κ x2 hS
 replace hL0 := hL0.ghs hS [(7, [.int .u64 ((lo g : Nat) : Int), .string (hs g)])] (by simp) (by intro p hp; simp only [List.mem_cons, List.not_mem_nil, or_false] at hp; rcases hp with rfl <;> exact ⟨_, by simp only [toG, upd]; rfl⟩)
 simp only [List.map_cons, List.map_nil, List.cons_append, List.nil_append] at hL0
 simp only [over_toG, over_nil, Act.put, List.setIfInBounds_toArray, List.set_cons_succ, List.set_cons_zero]
 clear hS
 generalize κ 7 = k2_7 at *
 go_upto_region 2 with fail
 refine region_gh (by kernel_rfl) (by kernel_rfl) ?_
 refine lex_seg (gl := []) 8 (by kernel_rfl) ?_
 intro α iα F hF1 hF2
 have hq := GL.seg hF1 hL0
 simp only [fcC, cellsC, and_true, Nat.zero_add, Nat.reduceAdd] at hq
 simp only [List.take_succ_cons, List.take_zero, List.drop_succ_cons, List.drop_zero, List.take_nil, List.drop_nil]
 repeat (go_big_quiet_step (first | fail | (go_at_call 75; with_reducible exact seg_call hF2 HD.out _) | (go_at_call 142; with_reducible exact seg_call hF2 HP.out _) | (go_at_call 75; with_reducible exact seg_call hF2 HE.out _) | (go_at_call 142; with_reducible exact seg_call hF2 HQ.out _)))
 refine wpQuiet_nil ?_
 clear hq hF1 hF2 iα F α
 refine lex_new [.int .u64 0, .string ⟨#[]⟩] 8 30 30 rfl rfl (of_decide_eq_true (by kernel_rfl)) (by kernel_rfl) rfl new_natc ?_
 simp only [Act.put, List.setIfInBounds_toArray, List.set_cons_succ, List.set_cons_zero]
 refine lex_new [.int .u64 0, .string ⟨#[]⟩] 9 30 30 rfl rfl (of_decide_eq_true (by kernel_rfl)) (by kernel_rfl) rfl new_natc ?_
 simp only [Act.put, List.setIfInBounds_toArray, List.set_cons_succ, List.set_cons_zero]
 refine lex_put [.int .u64 ((lo p : Nat) : Int), .string (hs p)] [.int .u64 0, .string ⟨#[]⟩] 8 30 (.tmp 20) rfl (by kernel_rfl) (by simp [toG, upd]) rfl (fun w k h => put_natc _ _ _ _ w k h) ?_
 simp only [Act.put]
 refine lex_put [.int .u64 ((lo q : Nat) : Int), .string (hs q)] [.int .u64 0, .string ⟨#[]⟩] 9 30 (.tmp 24) rfl (by kernel_rfl) (by simp [toG, upd]) rfl (fun w k h => put_natc _ _ _ _ w k h) ?_
 simp only [Act.put]
 refine lexG_nil ?_
 intro κ x3 hS
 replace hL0 := hL0.ghs hS [(9, [.int .u64 ((lo q : Nat) : Int), .string (hs q)]), (8, [.int .u64 ((lo p : Nat) : Int), .string (hs p)])] (by simp) (by intro p hp; simp only [List.mem_cons, List.not_mem_nil, or_false] at hp; rcases hp with rfl | rfl <;> exact ⟨_, by simp only [toG, upd]; rfl⟩)
 simp only [List.map_cons, List.map_nil, List.cons_append, List.nil_append] at hL0
 simp only [over_toG, over_nil, Act.put, List.setIfInBounds_toArray, List.set_cons_succ, List.set_cons_zero]
 clear hS
 generalize κ 9 = k3_9 at *
 generalize κ 8 = k3_8 at *
 go_upto_region 3 with fail
 refine region_gh (by kernel_rfl) (by kernel_rfl) ?_
 refine lex_seg (gl := []) 15 (by kernel_rfl) ?_
 intro α iα F hF1 hF2
 have hq := GL.seg hF1 hL0
 simp only [fcC, cellsC, and_true, Nat.zero_add, Nat.reduceAdd] at hq
 simp only [List.take_succ_cons, List.take_zero, List.drop_succ_cons, List.drop_zero, List.take_nil, List.drop_nil]
 repeat (go_big_quiet_step (first | fail | (go_at_call 85; with_reducible exact seg_call hF2 HS.out _) | (go_at_call 85; with_reducible exact seg_call hF2 HT.out _) | (go_at_call 96; with_reducible exact seg_call hF2 HB.out _) | (go_at_call 88; with_reducible exact seg_call hF2 HC.out _)))
 refine wpQuiet_nil ?_
 clear hq hF1 hF2 iα F α
 refine lex_new [.int .u64 0, .string ⟨#[]⟩, .bool false] 10 32 32 rfl rfl (of_decide_eq_true (by kernel_rfl)) (by kernel_rfl) rfl new_int ?_
 simp only [Act.put, List.setIfInBounds_toArray, List.set_cons_succ, List.set_cons_zero]
 refine lex_new [.int .u64 0, .string ⟨#[]⟩] 11 30 30 rfl rfl (of_decide_eq_true (by kernel_rfl)) (by kernel_rfl) rfl new_natc ?_
 simp only [Act.put, List.setIfInBounds_toArray, List.set_cons_succ, List.set_cons_zero]
 refine lex_put [.int .u64 ((zl u : Nat) : Int), .string (zh u), .bool (zs u)] [.int .u64 0, .string ⟨#[]⟩, .bool false] 10 32 (.tmp 38) rfl (by kernel_rfl) (by simp [toG, upd]) rfl (fun w k h => put_int _ _ _ _ _ _ w k h) ?_
 simp only [Act.put]
 refine lex_put [.int .u64 ((lo r : Nat) : Int), .string (hs r)] [.int .u64 0, .string ⟨#[]⟩] 11 30 (.tmp 39) rfl (by kernel_rfl) (by simp [toG, upd]) rfl (fun w k h => put_natc _ _ _ _ w k h) ?_
 simp only [Act.put]
 refine lexG_nil ?_
 intro κ x4 hS
 replace hL0 := hL0.ghs hS [(11, [.int .u64 ((lo r : Nat) : Int), .string (hs r)]), (10, [.int .u64 ((zl u : Nat) : Int), .string (zh u), .bool (zs u)])] (by simp) (by intro p hp; simp only [List.mem_cons, List.not_mem_nil, or_false] at hp; rcases hp with rfl | rfl <;> exact ⟨_, by simp only [toG, upd]; rfl⟩)
 simp only [List.map_cons, List.map_nil, List.cons_append, List.nil_append] at hL0
 simp only [over_toG, over_nil, Act.put, List.setIfInBounds_toArray, List.set_cons_succ, List.set_cons_zero]
 clear hS
 generalize κ 11 = k4_11 at *
 generalize κ 10 = k4_10 at *
 go_upto_region 4 with fail
 obtain ⟨α, iα, F, hF1, hF2⟩ := cls x4
 have hq0 := cls_box hF1 hL0 _ _ List.mem_cons_self
 simp only [cellsC, and_true, Nat.zero_add, Nat.reduceAdd] at hq0
 have hq1 := cls_box hF1 hL0 _ _ (List.mem_cons_of_mem _ List.mem_cons_self)
 simp only [cellsC, and_true, Nat.zero_add, Nat.reduceAdd] at hq1
 have hq2 := cls_box hF1 hL0 _ _ (List.mem_cons_of_mem _ (List.mem_cons_of_mem _ List.mem_cons_self))
 simp only [cellsC, and_true, Nat.zero_add, Nat.reduceAdd] at hq2
 have hq3 := cls_box hF1 hL0 _ _ (List.mem_cons_of_mem _ (List.mem_cons_of_mem _ (List.mem_cons_of_mem _ List.mem_cons_self)))
 simp only [cellsC, and_true, Nat.zero_add, Nat.reduceAdd] at hq3
 refine region_qs 7 (C := fun w' => ∃ x, w' = F x) (by kernel_rfl) (by kernel_rfl) (cls_drew hF2) ?_
 simp only [List.take_succ_cons, List.take_zero, List.drop_succ_cons, List.drop_zero, List.take_nil, List.drop_nil]
 repeat (go_big_quiet_step (first | fail | (go_at_call 68; with_reducible exact cls_call hF1 hF2 HU.out _) | (go_at_call 68; with_reducible exact cls_call hF1 hF2 HV.out _) | (go_at_call 89; with_reducible exact cls_call hF1 hF2 HL.out _)))
 refine wpQuiet_nil ?_
 rintro wq ⟨xq, rfl⟩
 replace hL0 := hL0.call (hF1 xq)
 clear  hq0 hq1 hq2 hq3 hF2
 generalize F xq = x5 at hL0 ⊢
 clear hF1 xq iα F α
 have hA := hL0.fc
 simp only [fcG, cellsF, neK, and_true, ne_eq, Nat.zero_add, Nat.reduceAdd] at hA
 have hP := hL0.put 5 (w.heap.size + 1 + 1) _ rfl [.int .u64 ((zl z : Nat) : Int), .string (zh z), .bool (zs z), .int .u64 ((lo f : Nat) : Int), .string (hs f)] rfl
 simp only [setAll, List.set_cons_zero, List.set_cons_succ] at hP
 generalize hput1 : (((((x5.setCell ⟨w.heap.size + 1 + 1, 0, none⟩ (.int .u64 ((zl z : Nat) : Int))).setCell ⟨w.heap.size + 1 + 1, 1, none⟩ (.string (zh z))).setCell ⟨w.heap.size + 1 + 1, 2, none⟩ (.bool (zs z))).setCell ⟨w.heap.size + 1 + 1, 3, none⟩ (.int .u64 ((lo f : Nat) : Int))).setCell ⟨w.heap.size + 1 + 1, 4, none⟩ (.string (hs f))) = x6 at hP
 have hB1 := hP.fc
 simp only [fcG, cellsF, neK, and_true, ne_eq, Nat.zero_add, Nat.reduceAdd] at hB1
 replace hL0 := hP
 go_wp2_with fail
 exact bodyPost_ret (v := frV z f) (by simp [results, Tryz.results86, go_sem, hB1]) rfl ⟨rfl, hL0.bl⟩
set_option maxHeartbeats 4000000 in
set_option maxRecDepth 100000 in
theorem fadd_w (m n z : Int) (d e f : Nat) (HC : RT 86 #[frV m d, frV n e, .func (.func 96) #[] #[]] (frV z f)) (w : World) :
  Calls Tryz.prog 38 #[frV m d, frV n e] w fun xe w' => xe = .returned (frV z f) ∧ Below w.heap.size w w' := by
 have hL0 : GL w w [] := GL.start w
 replace HC := Lib.hid HC
 replace hL0 := (((hL0.new rfl [.int .u64 ((zl m : Nat) : Int), .string (zh m), .bool (zs m), .int .u64 ((lo d : Nat) : Int), .string (hs d)] 34).new (K := w.heap.size + 1) (szA _ _) [.int .u64 ((zl n : Nat) : Int), .string (zh n), .bool (zs n), .int .u64 ((lo e : Nat) : Int), .string (hs e)] 34).new (K := w.heap.size + 1 + 1) (by simp only [World.size_alloc]) [.int .u64 0, .string ⟨#[]⟩, .bool false, .int .u64 0, .string ⟨#[]⟩] 34)
 generalize hweq : (((w.alloc (.cells #[.int .u64 ((zl m : Nat) : Int), .string (zh m), .bool (zs m), .int .u64 ((lo d : Nat) : Int), .string (hs d)] 34)).alloc (.cells #[.int .u64 ((zl n : Nat) : Int), .string (zh n), .bool (zs n), .int .u64 ((lo e : Nat) : Int), .string (hs e)] 34)).alloc (.cells #[.int .u64 0, .string ⟨#[]⟩, .bool false, .int .u64 0, .string ⟨#[]⟩] 34)) = x1 at hL0
 go_enter Tryz.func38, Tryz.ntmps38
 have hN0 := cells_of _ 0 [] rfl (hL0.get _ _ (List.mem_cons_of_mem _ List.mem_cons_self))
 simp only [cellsF, and_true, Nat.zero_add, Nat.reduceAdd] at hN0
 have hN1 := cells_of _ 0 [] rfl (hL0.get _ _ (List.mem_cons_of_mem _ (List.mem_cons_of_mem _ List.mem_cons_self)))
 simp only [cellsF, and_true, Nat.zero_add, Nat.reduceAdd] at hN1
 go_wp2_with fail
 clear hN0 hN1
 with_reducible refine Calls.mono (HC.out _) ?_
 rintro e x2 ⟨rfl, hb⟩
 replace hL0 := hL0.call hb
 clear hb hweq
 have hA := hL0.fc
 simp only [fcG, cellsF, neK, and_true, ne_eq, Nat.zero_add, Nat.reduceAdd] at hA
 have hP := hL0.put 0 (w.heap.size + 1 + 1) _ rfl [.int .u64 ((zl z : Nat) : Int), .string (zh z), .bool (zs z), .int .u64 ((lo f : Nat) : Int), .string (hs f)] rfl
 simp only [setAll, List.set_cons_zero, List.set_cons_succ] at hP
 generalize hput1 : (((((x2.setCell ⟨w.heap.size + 1 + 1, 0, none⟩ (.int .u64 ((zl z : Nat) : Int))).setCell ⟨w.heap.size + 1 + 1, 1, none⟩ (.string (zh z))).setCell ⟨w.heap.size + 1 + 1, 2, none⟩ (.bool (zs z))).setCell ⟨w.heap.size + 1 + 1, 3, none⟩ (.int .u64 ((lo f : Nat) : Int))).setCell ⟨w.heap.size + 1 + 1, 4, none⟩ (.string (hs f))) = x3 at hP
 have hB1 := hP.fc
 simp only [fcG, cellsF, neK, and_true, ne_eq, Nat.zero_add, Nat.reduceAdd] at hB1
 replace hL0 := hP
 go_wp2_with fail
 exact bodyPost_ret (v := frV z f) (by simp [results, Tryz.results38, go_sem, hB1]) rfl ⟨rfl, hL0.bl⟩
end Go.Proofs.YtahfcciihkkegaaGreatDoor
namespace Go.Proofs.YtahfcciihkkegaaGreatDoor
open Go.RowKit
attribute [local irreducible] lo hs sm s64 c64 d64 b64 mh ml pd pc qd qc val hiB str cmpI srD lz nb isq decB zl zh zs
set_option maxHeartbeats 4000000 in
set_option maxRecDepth 100000 in
theorem fpower_pos (n s z u : Int) (e a d x y f : Nat) (k : Int) (HA : RT 50 #[intV n] (natV a)) (HP : RT 99 #[natV a, .int .i64 k] (.tuple #[natV x, .int .i64 0])) (HD : RT 75 #[frV n e] (natV d)) (HQ : RT 99 #[natV d, .int .i64 k] (.tuple #[natV y, .int .i64 0])) (HS : RT 34 #[frV n e] (.int .i64 s)) (HF : RT 69 #[.bool false, natV x] (intV z)) (HL : RT 89 #[intV z, natV y] (frV u f)) (hsg : decide (s < 0) = false) (w : World) :
  Calls Tryz.prog 140 #[frV n e, .int .i64 k] w fun xe w' => xe = .returned (.tuple #[frV u f, .int .i64 0]) ∧ Below w.heap.size w w' := by
 have hL0 : GL w w [] := GL.start w
 replace HA := Lib.hid HA
 replace HP := Lib.hid HP
 replace HD := Lib.hid HD
 replace HQ := Lib.hid HQ
 replace HS := Lib.hid HS
 replace HF := Lib.hid HF
 replace HL := Lib.hid HL
 replace hL0 := ((hL0.new rfl [.int .u64 ((zl n : Nat) : Int), .string (zh n), .bool (zs n), .int .u64 ((lo e : Nat) : Int), .string (hs e)] 34).new (K := w.heap.size + 1) (szA _ _) [.int .u64 0, .string ⟨#[]⟩, .bool false, .int .u64 0, .string ⟨#[]⟩] 34)
 generalize hweq : ((w.alloc (.cells #[.int .u64 ((zl n : Nat) : Int), .string (zh n), .bool (zs n), .int .u64 ((lo e : Nat) : Int), .string (hs e)] 34)).alloc (.cells #[.int .u64 0, .string ⟨#[]⟩, .bool false, .int .u64 0, .string ⟨#[]⟩] 34)) = x1 at hL0
 go_enter Tryz.func140, Tryz.ntmps140
 have hN0 := cells_of _ 0 [] rfl (hL0.get _ _ (List.mem_cons_of_mem _ List.mem_cons_self))
 simp only [cellsF, and_true, Nat.zero_add, Nat.reduceAdd] at hN0
 go_wp2_with fail
 clear hN0
 with_reducible refine Calls.mono (HA.out _) ?_
 rintro e x2 ⟨rfl, hb⟩
 replace hL0 := hL0.call hb
 clear hb hweq
 go_wp2_with fail
 with_reducible refine Calls.mono (HP.out _) ?_
 rintro e x3 ⟨rfl, hb⟩
 replace hL0 := hL0.call hb
 clear hb
 replace hL0 := (hL0.new rfl [.int .u64 ((lo x : Nat) : Int), .string (hs x)] 30)
 generalize hweq : (x3.alloc (.cells #[.int .u64 ((lo x : Nat) : Int), .string (hs x)] 30)) = x4 at hL0
 have hN0 := cells_of _ 0 [] rfl (hL0.get _ _ (List.mem_cons_of_mem _ (List.mem_cons_of_mem _ List.mem_cons_self)))
 simp only [cellsF, and_true, Nat.zero_add, Nat.reduceAdd] at hN0
 go_wp2_with fail
 clear hN0
 with_reducible refine Calls.mono (HD.out _) ?_
 rintro e x5 ⟨rfl, hb⟩
 replace hL0 := hL0.call hb
 clear hb hweq
 go_wp2_with fail
 with_reducible refine Calls.mono (HQ.out _) ?_
 rintro e x6 ⟨rfl, hb⟩
 replace hL0 := hL0.call hb
 clear hb
 replace hL0 := (hL0.new rfl [.int .u64 ((lo y : Nat) : Int), .string (hs y)] 30)
 generalize hweq : (x6.alloc (.cells #[.int .u64 ((lo y : Nat) : Int), .string (hs y)] 30)) = x7 at hL0
 go_upto_region 7 with fail
 clear hweq
 obtain ⟨α, iα, F, hF1, hF2⟩ := cls x7
 have hq0 := cls_box hF1 hL0 _ _ List.mem_cons_self
 simp only [cellsC, and_true, Nat.zero_add, Nat.reduceAdd] at hq0
 have hq1 := cls_box hF1 hL0 _ _ (List.mem_cons_of_mem _ List.mem_cons_self)
 simp only [cellsC, and_true, Nat.zero_add, Nat.reduceAdd] at hq1
 have hq2 := cls_box hF1 hL0 _ _ (List.mem_cons_of_mem _ (List.mem_cons_of_mem _ (List.mem_cons_of_mem _ List.mem_cons_self)))
 simp only [cellsC, and_true, Nat.zero_add, Nat.reduceAdd] at hq2
 refine region_qs 12 (C := fun w' => ∃ x, w' = F x) (by kernel_rfl) (by kernel_rfl) (cls_drew hF2) ?_
 simp only [List.take_succ_cons, List.take_zero, List.drop_succ_cons, List.drop_zero, List.take_nil, List.drop_nil]
 repeat (go_big_quiet_step (first | fail | (go_at_call 34; with_reducible exact cls_call hF1 hF2 HS.out _) | (go_at_call 69; with_reducible exact cls_call hF1 hF2 HF.out _) | (go_at_call 89; with_reducible exact cls_call hF1 hF2 HL.out _)))
 refine wpQuiet_nil ?_
 rintro wq ⟨xq, rfl⟩
 replace hL0 := hL0.call (hF1 xq)
 clear  hq0 hq1 hq2 hF2
 generalize F xq = x8 at hL0 ⊢
 clear hF1 xq iα F α
 have hA := hL0.fc
 simp only [fcG, cellsF, neK, and_true, ne_eq, Nat.zero_add, Nat.reduceAdd] at hA
 have hP := hL0.put 2 (w.heap.size + 1) _ rfl [.int .u64 ((zl u : Nat) : Int), .string (zh u), .bool (zs u), .int .u64 ((lo f : Nat) : Int), .string (hs f)] rfl
 simp only [setAll, List.set_cons_zero, List.set_cons_succ] at hP
 generalize hput1 : (((((x8.setCell ⟨w.heap.size + 1, 0, none⟩ (.int .u64 ((zl u : Nat) : Int))).setCell ⟨w.heap.size + 1, 1, none⟩ (.string (zh u))).setCell ⟨w.heap.size + 1, 2, none⟩ (.bool (zs u))).setCell ⟨w.heap.size + 1, 3, none⟩ (.int .u64 ((lo f : Nat) : Int))).setCell ⟨w.heap.size + 1, 4, none⟩ (.string (hs f))) = x9 at hP
 have hB1 := hP.fc
 simp only [fcG, cellsF, neK, and_true, ne_eq, Nat.zero_add, Nat.reduceAdd] at hB1
 replace hL0 := hP
 go_wp2_with fail
 exact bodyPost_ret (v := .tuple #[frV u f, .int .i64 0]) (by simp [results, Tryz.results140, go_sem, hB1]) rfl ⟨rfl, hL0.bl⟩
set_option maxHeartbeats 4000000 in
set_option maxRecDepth 100000 in
theorem fpower_odd (n s z u : Int) (e a d x y f : Nat) (k : Int) (HA : RT 50 #[intV n] (natV a)) (HP : RT 99 #[natV a, .int .i64 k] (.tuple #[natV x, .int .i64 0])) (HD : RT 75 #[frV n e] (natV d)) (HQ : RT 99 #[natV d, .int .i64 k] (.tuple #[natV y, .int .i64 0])) (HS : RT 34 #[frV n e] (.int .i64 s)) (HF : RT 69 #[.bool true, natV x] (intV z)) (HL : RT 89 #[intV z, natV y] (frV u f)) (hsg : decide (s < 0) = true) (hk : (k.tmod 2 == 1) = true) (w : World) :
  Calls Tryz.prog 140 #[frV n e, .int .i64 k] w fun xe w' => xe = .returned (.tuple #[frV u f, .int .i64 0]) ∧ Below w.heap.size w w' := by
 have hL0 : GL w w [] := GL.start w
 replace HA := Lib.hid HA
 replace HP := Lib.hid HP
 replace HD := Lib.hid HD
 replace HQ := Lib.hid HQ
 replace HS := Lib.hid HS
 replace HF := Lib.hid HF
 replace HL := Lib.hid HL
 replace hL0 := ((hL0.new rfl [.int .u64 ((zl n : Nat) : Int), .string (zh n), .bool (zs n), .int .u64 ((lo e : Nat) : Int), .string (hs e)] 34).new (K := w.heap.size + 1) (szA _ _) [.int .u64 0, .string ⟨#[]⟩, .bool false, .int .u64 0, .string ⟨#[]⟩] 34)
 generalize hweq : ((w.alloc (.cells #[.int .u64 ((zl n : Nat) : Int), .string (zh n), .bool (zs n), .int .u64 ((lo e : Nat) : Int), .string (hs e)] 34)).alloc (.cells #[.int .u64 0, .string ⟨#[]⟩, .bool false, .int .u64 0, .string ⟨#[]⟩] 34)) = x1 at hL0
 go_enter Tryz.func140, Tryz.ntmps140
 have hN0 := cells_of _ 0 [] rfl (hL0.get _ _ (List.mem_cons_of_mem _ List.mem_cons_self))
 simp only [cellsF, and_true, Nat.zero_add, Nat.reduceAdd] at hN0
 go_wp2_with fail
 clear hN0
 with_reducible refine Calls.mono (HA.out _) ?_
 rintro e x2 ⟨rfl, hb⟩
 replace hL0 := hL0.call hb
 clear hb hweq
 go_wp2_with fail
 with_reducible refine Calls.mono (HP.out _) ?_
 rintro e x3 ⟨rfl, hb⟩
 replace hL0 := hL0.call hb
 clear hb
 replace hL0 := (hL0.new rfl [.int .u64 ((lo x : Nat) : Int), .string (hs x)] 30)
 generalize hweq : (x3.alloc (.cells #[.int .u64 ((lo x : Nat) : Int), .string (hs x)] 30)) = x4 at hL0
 have hN0 := cells_of _ 0 [] rfl (hL0.get _ _ (List.mem_cons_of_mem _ (List.mem_cons_of_mem _ List.mem_cons_self)))
 simp only [cellsF, and_true, Nat.zero_add, Nat.reduceAdd] at hN0
 go_wp2_with fail
 clear hN0
 with_reducible refine Calls.mono (HD.out _) ?_
 rintro e x5 ⟨rfl, hb⟩
 replace hL0 := hL0.call hb
 clear hb hweq
 go_wp2_with fail
 with_reducible refine Calls.mono (HQ.out _) ?_
 rintro e x6 ⟨rfl, hb⟩
 replace hL0 := hL0.call hb
 clear hb
 replace hL0 := (hL0.new rfl [.int .u64 ((lo y : Nat) : Int), .string (hs y)] 30)
 generalize hweq : (x6.alloc (.cells #[.int .u64 ((lo y : Nat) : Int), .string (hs y)] 30)) = x7 at hL0
 go_upto_region 7 with fail
 clear hweq
 obtain ⟨α, iα, F, hF1, hF2⟩ := cls x7
 have hq0 := cls_box hF1 hL0 _ _ List.mem_cons_self
 simp only [cellsC, and_true, Nat.zero_add, Nat.reduceAdd] at hq0
 have hq1 := cls_box hF1 hL0 _ _ (List.mem_cons_of_mem _ List.mem_cons_self)
 simp only [cellsC, and_true, Nat.zero_add, Nat.reduceAdd] at hq1
 have hq2 := cls_box hF1 hL0 _ _ (List.mem_cons_of_mem _ (List.mem_cons_of_mem _ (List.mem_cons_of_mem _ List.mem_cons_self)))
 simp only [cellsC, and_true, Nat.zero_add, Nat.reduceAdd] at hq2
 refine region_qs 12 (C := fun w' => ∃ x, w' = F x) (by kernel_rfl) (by kernel_rfl) (cls_drew hF2) ?_
 simp only [List.take_succ_cons, List.take_zero, List.drop_succ_cons, List.drop_zero, List.take_nil, List.drop_nil]
 repeat (go_big_quiet_step (first | fail | (go_at_call 34; with_reducible exact cls_call hF1 hF2 HS.out _) | (go_at_call 69; with_reducible exact cls_call hF1 hF2 HF.out _) | (go_at_call 89; with_reducible exact cls_call hF1 hF2 HL.out _)))
 refine wpQuiet_nil ?_
 rintro wq ⟨xq, rfl⟩
 replace hL0 := hL0.call (hF1 xq)
 clear  hq0 hq1 hq2 hF2
 generalize F xq = x8 at hL0 ⊢
 clear hF1 xq iα F α
 have hA := hL0.fc
 simp only [fcG, cellsF, neK, and_true, ne_eq, Nat.zero_add, Nat.reduceAdd] at hA
 have hP := hL0.put 2 (w.heap.size + 1) _ rfl [.int .u64 ((zl u : Nat) : Int), .string (zh u), .bool (zs u), .int .u64 ((lo f : Nat) : Int), .string (hs f)] rfl
 simp only [setAll, List.set_cons_zero, List.set_cons_succ] at hP
 generalize hput1 : (((((x8.setCell ⟨w.heap.size + 1, 0, none⟩ (.int .u64 ((zl u : Nat) : Int))).setCell ⟨w.heap.size + 1, 1, none⟩ (.string (zh u))).setCell ⟨w.heap.size + 1, 2, none⟩ (.bool (zs u))).setCell ⟨w.heap.size + 1, 3, none⟩ (.int .u64 ((lo f : Nat) : Int))).setCell ⟨w.heap.size + 1, 4, none⟩ (.string (hs f))) = x9 at hP
 have hB1 := hP.fc
 simp only [fcG, cellsF, neK, and_true, ne_eq, Nat.zero_add, Nat.reduceAdd] at hB1
 replace hL0 := hP
 go_wp2_with fail
 exact bodyPost_ret (v := .tuple #[frV u f, .int .i64 0]) (by simp [results, Tryz.results140, go_sem, hB1]) rfl ⟨rfl, hL0.bl⟩
set_option maxHeartbeats 4000000 in
set_option maxRecDepth 100000 in
theorem fpower_even (n s z u : Int) (e a d x y f : Nat) (k : Int) (HA : RT 50 #[intV n] (natV a)) (HP : RT 99 #[natV a, .int .i64 k] (.tuple #[natV x, .int .i64 0])) (HD : RT 75 #[frV n e] (natV d)) (HQ : RT 99 #[natV d, .int .i64 k] (.tuple #[natV y, .int .i64 0])) (HS : RT 34 #[frV n e] (.int .i64 s)) (HF : RT 69 #[.bool false, natV x] (intV z)) (HL : RT 89 #[intV z, natV y] (frV u f)) (hsg : decide (s < 0) = true) (hk : (k.tmod 2 == 1) = false) (w : World) :
  Calls Tryz.prog 140 #[frV n e, .int .i64 k] w fun xe w' => xe = .returned (.tuple #[frV u f, .int .i64 0]) ∧ Below w.heap.size w w' := by
 have hL0 : GL w w [] := GL.start w
 replace HA := Lib.hid HA
 replace HP := Lib.hid HP
 replace HD := Lib.hid HD
 replace HQ := Lib.hid HQ
 replace HS := Lib.hid HS
 replace HF := Lib.hid HF
 replace HL := Lib.hid HL
 replace hL0 := ((hL0.new rfl [.int .u64 ((zl n : Nat) : Int), .string (zh n), .bool (zs n), .int .u64 ((lo e : Nat) : Int), .string (hs e)] 34).new (K := w.heap.size + 1) (szA _ _) [.int .u64 0, .string ⟨#[]⟩, .bool false, .int .u64 0, .string ⟨#[]⟩] 34)
 generalize hweq : ((w.alloc (.cells #[.int .u64 ((zl n : Nat) : Int), .string (zh n), .bool (zs n), .int .u64 ((lo e : Nat) : Int), .string (hs e)] 34)).alloc (.cells #[.int .u64 0, .string ⟨#[]⟩, .bool false, .int .u64 0, .string ⟨#[]⟩] 34)) = x1 at hL0
 go_enter Tryz.func140, Tryz.ntmps140
 have hN0 := cells_of _ 0 [] rfl (hL0.get _ _ (List.mem_cons_of_mem _ List.mem_cons_self))
 simp only [cellsF, and_true, Nat.zero_add, Nat.reduceAdd] at hN0
 go_wp2_with fail
 clear hN0
 with_reducible refine Calls.mono (HA.out _) ?_
 rintro e x2 ⟨rfl, hb⟩
 replace hL0 := hL0.call hb
 clear hb hweq
 go_wp2_with fail
 with_reducible refine Calls.mono (HP.out _) ?_
 rintro e x3 ⟨rfl, hb⟩
 replace hL0 := hL0.call hb
 clear hb
 replace hL0 := (hL0.new rfl [.int .u64 ((lo x : Nat) : Int), .string (hs x)] 30)
 generalize hweq : (x3.alloc (.cells #[.int .u64 ((lo x : Nat) : Int), .string (hs x)] 30)) = x4 at hL0
 have hN0 := cells_of _ 0 [] rfl (hL0.get _ _ (List.mem_cons_of_mem _ (List.mem_cons_of_mem _ List.mem_cons_self)))
 simp only [cellsF, and_true, Nat.zero_add, Nat.reduceAdd] at hN0
 go_wp2_with fail
 clear hN0
 with_reducible refine Calls.mono (HD.out _) ?_
 rintro e x5 ⟨rfl, hb⟩
 replace hL0 := hL0.call hb
 clear hb hweq
 go_wp2_with fail
 with_reducible refine Calls.mono (HQ.out _) ?_
 rintro e x6 ⟨rfl, hb⟩
 replace hL0 := hL0.call hb
 clear hb
 replace hL0 := (hL0.new rfl [.int .u64 ((lo y : Nat) : Int), .string (hs y)] 30)
 generalize hweq : (x6.alloc (.cells #[.int .u64 ((lo y : Nat) : Int), .string (hs y)] 30)) = x7 at hL0
 go_upto_region 7 with fail
 clear hweq
 obtain ⟨α, iα, F, hF1, hF2⟩ := cls x7
 have hq0 := cls_box hF1 hL0 _ _ List.mem_cons_self
 simp only [cellsC, and_true, Nat.zero_add, Nat.reduceAdd] at hq0
 have hq1 := cls_box hF1 hL0 _ _ (List.mem_cons_of_mem _ List.mem_cons_self)
 simp only [cellsC, and_true, Nat.zero_add, Nat.reduceAdd] at hq1
 have hq2 := cls_box hF1 hL0 _ _ (List.mem_cons_of_mem _ (List.mem_cons_of_mem _ (List.mem_cons_of_mem _ List.mem_cons_self)))
 simp only [cellsC, and_true, Nat.zero_add, Nat.reduceAdd] at hq2
 refine region_qs 12 (C := fun w' => ∃ x, w' = F x) (by kernel_rfl) (by kernel_rfl) (cls_drew hF2) ?_
 simp only [List.take_succ_cons, List.take_zero, List.drop_succ_cons, List.drop_zero, List.take_nil, List.drop_nil]
 repeat (go_big_quiet_step (first | fail | (go_at_call 34; with_reducible exact cls_call hF1 hF2 HS.out _) | (go_at_call 69; with_reducible exact cls_call hF1 hF2 HF.out _) | (go_at_call 89; with_reducible exact cls_call hF1 hF2 HL.out _)))
 refine wpQuiet_nil ?_
 rintro wq ⟨xq, rfl⟩
 replace hL0 := hL0.call (hF1 xq)
 clear  hq0 hq1 hq2 hF2
 generalize F xq = x8 at hL0 ⊢
 clear hF1 xq iα F α
 have hA := hL0.fc
 simp only [fcG, cellsF, neK, and_true, ne_eq, Nat.zero_add, Nat.reduceAdd] at hA
 have hP := hL0.put 2 (w.heap.size + 1) _ rfl [.int .u64 ((zl u : Nat) : Int), .string (zh u), .bool (zs u), .int .u64 ((lo f : Nat) : Int), .string (hs f)] rfl
 simp only [setAll, List.set_cons_zero, List.set_cons_succ] at hP
 generalize hput1 : (((((x8.setCell ⟨w.heap.size + 1, 0, none⟩ (.int .u64 ((zl u : Nat) : Int))).setCell ⟨w.heap.size + 1, 1, none⟩ (.string (zh u))).setCell ⟨w.heap.size + 1, 2, none⟩ (.bool (zs u))).setCell ⟨w.heap.size + 1, 3, none⟩ (.int .u64 ((lo f : Nat) : Int))).setCell ⟨w.heap.size + 1, 4, none⟩ (.string (hs f))) = x9 at hP
 have hB1 := hP.fc
 simp only [fcG, cellsF, neK, and_true, ne_eq, Nat.zero_add, Nat.reduceAdd] at hB1
 replace hL0 := hP
 go_wp2_with fail
 exact bodyPost_ret (v := .tuple #[frV u f, .int .i64 0]) (by simp [results, Tryz.results140, go_sem, hB1]) rfl ⟨rfl, hL0.bl⟩
set_option maxHeartbeats 4000000 in
set_option maxRecDepth 100000 in
theorem fpow_pos (n m c : Int) (e f : Nat) (k : Int) (HP : RT 140 #[frV n e, .int .i64 k] (.tuple #[frV m f, .int .i64 c])) (hk : decide (k < -4096) = false) (hl : decide (4096 < k) = false) (h0 : decide (0 ≤ k) = true) (w : World) :
  Calls Tryz.prog 82 #[frV n e, .int .i64 k] w fun xe w' => xe = .returned (.tuple #[frV m f, .int .i64 c]) ∧ Below w.heap.size w w' := by
 have hL0 : GL w w [] := GL.start w
 replace HP := Lib.hid HP
 replace hL0 := ((hL0.new rfl [.int .u64 ((zl n : Nat) : Int), .string (zh n), .bool (zs n), .int .u64 ((lo e : Nat) : Int), .string (hs e)] 34).new (K := w.heap.size + 1) (szA _ _) [.int .u64 0, .string ⟨#[]⟩, .bool false, .int .u64 0, .string ⟨#[]⟩] 34)
 generalize hweq : ((w.alloc (.cells #[.int .u64 ((zl n : Nat) : Int), .string (zh n), .bool (zs n), .int .u64 ((lo e : Nat) : Int), .string (hs e)] 34)).alloc (.cells #[.int .u64 0, .string ⟨#[]⟩, .bool false, .int .u64 0, .string ⟨#[]⟩] 34)) = x1 at hL0
 go_enter Tryz.func82, Tryz.ntmps82
 have hN0 := cells_of _ 0 [] rfl (hL0.get _ _ (List.mem_cons_of_mem _ List.mem_cons_self))
 simp only [cellsF, and_true, Nat.zero_add, Nat.reduceAdd] at hN0
 go_wp2_with fail
 clear hN0
 with_reducible refine Calls.mono (HP.out _) ?_
 rintro e x2 ⟨rfl, hb⟩
 replace hL0 := hL0.call hb
 clear hb hweq
 have hA := hL0.fc
 simp only [fcG, cellsF, neK, and_true, ne_eq, Nat.zero_add, Nat.reduceAdd] at hA
 have hP := hL0.put 0 (w.heap.size + 1) _ rfl [.int .u64 ((zl m : Nat) : Int), .string (zh m), .bool (zs m), .int .u64 ((lo f : Nat) : Int), .string (hs f)] rfl
 simp only [setAll, List.set_cons_zero, List.set_cons_succ] at hP
 generalize hput1 : (((((x2.setCell ⟨w.heap.size + 1, 0, none⟩ (.int .u64 ((zl m : Nat) : Int))).setCell ⟨w.heap.size + 1, 1, none⟩ (.string (zh m))).setCell ⟨w.heap.size + 1, 2, none⟩ (.bool (zs m))).setCell ⟨w.heap.size + 1, 3, none⟩ (.int .u64 ((lo f : Nat) : Int))).setCell ⟨w.heap.size + 1, 4, none⟩ (.string (hs f))) = x3 at hP
 have hB1 := hP.fc
 simp only [fcG, cellsF, neK, and_true, ne_eq, Nat.zero_add, Nat.reduceAdd] at hB1
 replace hL0 := hP
 go_wp2_with fail
 exact bodyPost_ret (v := .tuple #[frV m f, .int .i64 c]) (by simp [results, Tryz.results82, go_sem, hB1]) rfl ⟨rfl, hL0.bl⟩
end Go.Proofs.YtahfcciihkkegaaGreatDoor
namespace Go.Proofs.YtahfcciihkkegaaGreatDoor
open Go.RowKit
attribute [local irreducible] lo hs sm s64 c64 d64 b64 mh ml pd pc qd qc val hiB str cmpI srD lz nb isq decB zl zh zs
theorem wholeF (q : Rat) (w : World) : Calls Tryz.prog 28 #[fracV q] w fun x w' => x = .returned (.bool (decide (q.den = 1))) ∧ Below w.heap.size w w' := by
 have h := whole_raw q.num (fe q) w
 have e : (fe q = 0) = (q.den = 1) := by
  unfold fe
  have := q.den_nz
  split <;> simp_all
 rw [decide_eq_decide.2 (Iff.of_eq e)] at h
 exact h
end Go.Proofs.YtahfcciihkkegaaGreatDoor
namespace Go.Proofs.YtahfcciihkkegaaGreatDoor
open Go.RowKit
attribute [local irreducible] lo hs sm s64 c64 d64 b64 mh ml pd pc qd qc val hiB str cmpI srD lz nb isq decB zl zh zs
theorem signF (q : Rat) (w : World) : Calls Tryz.prog 34 #[fracV q] w fun x w' => x = .returned (.int .i64 (sgnQ q)) ∧ Below w.heap.size w w' := by
 rw [sgnQ_num]; exact fsign_w q.num (sgn q.num) (fe q) (fun w => signI q.num w) w
theorem addF (p q : Rat) (k : Nat) (hp : Sz p k) (hq : Sz q k) (hk : k ≤ 10000000) (w : World) : Calls Tryz.prog 38 #[fracV p, fracV q] w fun x w' => x = .returned (fracV (p + q)) ∧ Below w.heap.size w w' := by
 obtain ⟨h1, h2⟩ := radd_parts p q
 have hg : Nat.gcd p.den q.den ≠ 0 := fun e => p.den_nz (Nat.gcd_eq_zero_iff.1 e).1
 have l1 : (digs (p.den / Nat.gcd p.den q.den)).length ≤ k := ndiv_digs hp.2
 have l2 : (digs (q.den / Nat.gcd p.den q.den)).length ≤ k := ndiv_digs hq.2
 have l3 : (digs (Nat.gcd p.den q.den)).length ≤ k := Nat.le_trans (digs_mono (Nat.gcd_le_left _ p.den_pos)) hp.2
 have lx : dI (p.num * ((q.den / Nat.gcd p.den q.den : Nat) : Int)) ≤ k + k := dI_mul hp.1 (by rw [dI_nat]; exact l2)
 have ly : dI (q.num * ((p.den / Nat.gcd p.den q.den : Nat) : Int)) ≤ k + k := dI_mul hq.1 (by rw [dI_nat]; exact l1)
 have ls := dI_add lx ly
 refine fadd_w p.num q.num _ (fe p) (fe q) _ ?_ w
 exact fcombine_add p.num q.num _ _ _ _ _ (fe p) (fe q) p.den q.den _ _ _ _ _ _ _ (denF p) (denF q) (fun w => gcd_any _ _ (Nat.le_trans hp.2 (by omega)) (Nat.le_trans hq.2 (by omega)) w)
  (pon_raw _ _ hg (Nat.le_trans hp.2 (by omega))) (pon_raw _ _ hg (Nat.le_trans hq.2 (by omega))) (times_raw _ _ (Nat.le_trans hp.1 (by omega)) (by omega)) (times_raw _ _ (Nat.le_trans hq.1 (by omega)) (by omega))
  (fun w => addI _ _ (by omega) (by omega) w) (cancel_raw _ _ hg (by omega) (by omega)) (fun w => mul_any _ _ (by omega) (by omega) w)
  (fun w => mul_any _ _ (Nat.le_trans (digs_mul_le l1 l2) (by omega)) (Nat.le_trans (ndiv_digs l3) (by omega)) w) (fun w => lowestF h1 h2 w)
end Go.Proofs.YtahfcciihkkegaaGreatDoor
namespace Go.Proofs.YtahfcciihkkegaaGreatDoor
open Go.RowKit
attribute [local irreducible] lo hs sm s64 c64 d64 b64 mh ml pd pc qd qc val hiB str cmpI srD lz nb isq decB zl zh zs
theorem int_pow_sgn (z : Int) : ∀ k : Nat, z ^ k = if (decide (z < 0) && decide (k % 2 = 1)) = true then -((z.natAbs ^ k : Nat) : Int) else ((z.natAbs ^ k : Nat) : Int)
 | 0 => by simp
 | k + 1 => by
  rw [Int.pow_succ, int_pow_sgn z k, Nat.pow_succ]
  by_cases h : z < 0
  ·rw [decide_eq_true h, Bool.true_and, Bool.true_and]
   have e : z = -(z.natAbs : Int) := by omega
   rcases Nat.mod_two_eq_zero_or_one k with hk | hk
   ·rw [decide_eq_false (p := k % 2 = 1) (by omega), decide_eq_true (p := (k + 1) % 2 = 1) (by omega), if_neg Bool.false_ne_true, if_pos rfl]
    conv => lhs; rw [e]
    rw [Int.mul_neg, Int.natAbs_neg, Int.natAbs_natCast, Int.natCast_mul]
   ·rw [decide_eq_true hk, decide_eq_false (p := (k + 1) % 2 = 1) (by omega), if_neg Bool.false_ne_true, if_pos rfl]
    conv => lhs; rw [e]
    rw [Int.neg_mul_neg, Int.natAbs_neg, Int.natAbs_natCast, Int.natCast_mul]
  ·rw [decide_eq_false h, Bool.false_and, Bool.false_and, if_neg Bool.false_ne_true, if_neg Bool.false_ne_true]
   have e : z = (z.natAbs : Int) := by omega
   conv => lhs; rw [e]
   rw [Int.natAbs_natCast, Int.natCast_mul]
theorem odd_tmod (k : Nat) : (((k : Int).tmod 2) == 1) = decide (k % 2 = 1) := by
 rw [show (2 : Int) = ((2 : Nat) : Int) from rfl, ← Int.ofNat_tmod]
 by_cases h : k % 2 = 1
 ·rw [h, decide_eq_true rfl]; rfl
 ·rw [show k % 2 = 0 by omega]; rfl
theorem dec_sgnQ (q : Rat) : decide (sgnQ q < 0) = decide (q.num < 0) := by
 have : sgnQ q < 0 ↔ q.num < 0 := by rw [sgnQ_num]; split <;> (try split) <;> omega
 simp only [this]
theorem powerF (q : Rat) (k : Nat) (hk : k ≤ 4096) (hn : k = 0 ∨ nb q.num.natAbs ≤ 262144 / k) (hd : k = 0 ∨ nb q.den ≤ 262144 / k) (m : Nat) (hq : Sz q m) (hm : m ≤ 100000000) (w : World) :
  Calls Tryz.prog 140 #[fracV q, .int .i64 (k : Int)] w fun x w' => x = .returned (.tuple #[fracV (q ^ k), .int .i64 0]) ∧ Below w.heap.size w w' := by
 have hs := dec_sgnQ q
 have hP := fun w => pow_ok q.num.natAbs k hk hn (Nat.le_trans hq.1 (by omega)) w
 have hQ := fun w => pow_ok q.den k hk hd (Nat.le_trans hq.2 (by omega)) w
 have hF := fun w => fromI (decide (q.num < 0) && decide (k % 2 = 1)) (q.num.natAbs ^ k) (q.num ^ k) (int_pow_sgn q.num k) w
 have hL := fun w => lowestF (Rat.num_pow q k) (Rat.den_pow q k) w
 by_cases h : q.num < 0
 ·rw [decide_eq_true h] at hs hF
  rw [Bool.true_and] at hF
  by_cases ho : k % 2 = 1
  ·rw [decide_eq_true ho] at hF
   exact fpower_odd q.num _ _ _ (fe q) _ q.den _ _ _ _ (fun w => absI q.num w) hP (denF q) hQ (signF q) hF hL hs (by rw [odd_tmod, decide_eq_true ho]) w
  ·rw [decide_eq_false ho] at hF
   exact fpower_even q.num _ _ _ (fe q) _ q.den _ _ _ _ (fun w => absI q.num w) hP (denF q) hQ (signF q) hF hL hs (by rw [odd_tmod, decide_eq_false ho]) w
 ·rw [decide_eq_false h] at hs hF
  rw [Bool.false_and] at hF
  exact fpower_pos q.num _ _ _ (fe q) _ q.den _ _ _ _ (fun w => absI q.num w) hP (denF q) hQ (signF q) hF hL hs w
theorem powF_pos (q : Rat) (k : Nat) (hk : k ≤ 4096) (p : Rat) (c : Int) (HP : ∀ w, Calls Tryz.prog 140 #[fracV q, .int .i64 (k : Int)] w fun x w' => x = .returned (.tuple #[fracV p, .int .i64 c]) ∧ Below w.heap.size w w') (w : World) :
  Calls Tryz.prog 82 #[fracV q, .int .i64 (k : Int)] w fun x w' => x = .returned (.tuple #[fracV p, .int .i64 c]) ∧ Below w.heap.size w w' :=
 fpow_pos q.num p.num c (fe q) (fe p) k HP (decide_eq_false (by omega)) (decide_eq_false (by omega)) (decide_eq_true (by omega)) w
end Go.Proofs.YtahfcciihkkegaaGreatDoor
namespace Go.Proofs.YtahfcciihkkegaaGreatDoor
open Go.RowKit
theorem nsucc (k : Nat) : ((k + 1 : Nat) : Rat) = (k : Rat) + 1 := by rw [Rat.natCast_add]; rfl
end Go.Proofs.YtahfcciihkkegaaGreatDoor
namespace Go.Proofs.YtahfcciihkkegaaGreatDoor
open Go.RowKit
theorem mod_same {d a b : Nat} (h : a ≤ b) : a % d = b % d ↔ d ∣ b - a := by
 constructor
 ·intro e
  exact Nat.dvd_of_mod_eq_zero (Nat.sub_mod_eq_zero_of_mod_eq e.symm)
 ·rintro ⟨q, e⟩
  have : b = a + d * q := by omega
  rw [this, Nat.add_mul_mod_self_left]
/-- The remainder behind n steps is 1 exactly for a multiple of the period. -/
theorem rest_one {d n : Nat} (h : 1 < d) : 10 ^ n % d = 1 ↔ d ∣ 10 ^ n - 1 := by
 have hp : 1 ≤ 10 ^ n := Nat.pow_pos (by decide)
 have e := mod_same (d := d) hp
 rw [Nat.mod_eq_of_lt h] at e
 rw [← e]
 exact ⟨Eq.symm, Eq.symm⟩
end Go.Proofs.YtahfcciihkkegaaGreatDoor
namespace Go.Proofs.YtahfcciihkkegaaGreatDoor
open Go.RowKit
/-- There is an answer for every denominator. -/
theorem cycA_ex (D : Nat) : ∃ m n c, CycA D m n c := by
 by_cases h : ∃ i, i ≤ 100 ∧ Nat.gcd (Eden D i) 10 = 1
 ·obtain ⟨i, hi, hg⟩ := h
  obtain ⟨k, hk, hone, hbef⟩ := least (fun i => Nat.gcd (Eden D i) 10 = 1) i hg
  have hl : Lead D k := ⟨hone, hbef⟩
  by_cases h1 : Eden D k = 1
  ·exact ⟨_, _, _, .inl ⟨k, hl, by omega, h1, rfl, rfl, rfl⟩⟩
  ·by_cases h2 : ∃ j, 1 ≤ j ∧ k + j ≤ 100 ∧ 10 ^ j % Eden D k = 1
   ·obtain ⟨j, j1, j2, j3⟩ := h2
    obtain ⟨t, ht, ⟨t1, t2⟩, t3⟩ := least (fun j => 1 ≤ j ∧ 10 ^ j % Eden D k = 1) j ⟨j1, j3⟩
    exact ⟨_, _, _, .inr (.inl ⟨k, t, hl, by omega, h1, t1, by omega, t2, fun i a b c => t3 i b ⟨a, c⟩, rfl, rfl, rfl⟩)⟩
   ·exact ⟨_, _, _, .inr (.inr (.inl ⟨k, hl, by omega, h1, fun i a b c => h2 ⟨i, a, b, c⟩, rfl, rfl, rfl⟩))⟩
 ·exact ⟨0, 0, 3, .inr (.inr (.inr ⟨fun i hi hg => h ⟨i, hi, hg⟩, rfl, rfl, rfl⟩))⟩
end Go.Proofs.YtahfcciihkkegaaGreatDoor
namespace Go.Proofs.YtahfcciihkkegaaGreatDoor
open Go.RowKit
open Go.Lib (decDigits)
theorem w64w (x : Int) (h1 : -9223372036854775808 ≤ x) (h2 : x < 9223372036854775808) : wrap64 x = x := by unfold wrap64; omega
attribute [local irreducible] decT toI rnd tenQ tailT
end Go.Proofs.YtahfcciihkkegaaGreatDoor
namespace Go.Proofs.YtahfcciihkkegaaGreatDoor
open Go.ChangeShapes Go.WideShapes Go.ChangeAt Go.RowKit Go.Joins
set_option maxRecDepth 100000 in
theorem cellsQ : Tryz.prog.cellsOf 58 = 2 := by kernel_rfl
set_option maxRecDepth 100000 in
theorem q_of {H : Type} {enc : TypeId × Value → H} {W : World} {base : Nat} {v : Value} {d : DataW H} {p : List MemPlace} (hv : Value.okWide Tryz.prog W .any base 58 v)
  (h : DataW.Trod enc Tryz.prog W 0 (fun _ => true) true 58 v d p) : ∃ n e : Int, v = .agg #[.int .i64 n, .int .u32 e] ∧ (-9223372036854775808 ≤ n ∧ n < 9223372036854775808) ∧ (0 ≤ e ∧ e < 4294967296) := by
 obtain ⟨v0, v1, y0, y1, m, rfl, rfl, rfl, h0, h1⟩ := open_agg2 Tryz.underlying58 (by kernel_rfl) cellsQ hv h
 obtain ⟨n, e0, -, f0⟩ := DataW.trod_int Tryz.underlying2 h0
 obtain ⟨e, e1, -, f1⟩ := DataW.trod_int Tryz.underlying56 h1
 simp only [List.cons.injEq, and_true] at e0 e1
 subst e0 e1
 have b0 := bounds_i64 f0
 have b1 := bounds_u32 f1
 exact ⟨n, e, rfl, by omega, by omega⟩
end Go.Proofs.YtahfcciihkkegaaGreatDoor
namespace Go.Proofs.YtahfcciihkkegaaGreatDoor.Rx
open Go.RowKit
/-- The number that digits spell. -/
def tv : List Nat → Nat
 | [] => 0
 | d :: l => d + 10000 * tv l
theorem tv_nil : tv [] = 0 := rfl
/-- The digits of a number. -/
def td (n : Nat) : List Nat := if h : n = 0 then [] else n % 10000 :: td (n / 10000)
theorem td_zero : td 0 = [] := by rw [td, dif_pos rfl]
theorem td_pos {n : Nat} (h : n ≠ 0) : td n = n % 10000 :: td (n / 10000) := by rw [td, dif_neg h]
theorem td_lt (n : Nat) : ∀ d ∈ td n, d < 10000 := by
 induction n using Nat.strongRecOn with
 | _ n ih =>
  by_cases h : n = 0
  ·rw [h, td_zero]; intro d hd; cases hd
  ·rw [td_pos h]
   intro d hd
   rcases List.mem_cons.1 hd with rfl | hd
   ·omega
   ·exact ih (n / 10000) (by omega) d hd
theorem td_nil {n : Nat} : td n = [] ↔ n = 0 := by
 by_cases h : n = 0
 ·rw [h, td_zero]; simp
 ·rw [td_pos h]; simp [h]
theorem tv_append (l m : List Nat) : tv (l ++ m) = tv l + 10000 ^ l.length * tv m := by
 induction l with
 | nil => simp [tv]
 | cons d l ih => rw [List.cons_append, tv, ih, tv, List.length_cons, Nat.pow_succ, Nat.mul_add, Nat.mul_comm _ 10000, Nat.mul_assoc]; omega
theorem tv_lt {l : List Nat} (h : ∀ d ∈ l, d < 10000) : tv l < 10000 ^ l.length := by
 induction l with
 | nil => exact Nat.one_pos
 | cons d l ih =>
  have h1 := ih fun x hx => h x (List.mem_cons_of_mem _ hx)
  have h2 := h d List.mem_cons_self
  rw [tv, List.length_cons, Nat.pow_succ]
  omega
theorem tv_zeros (k : Nat) : tv (List.replicate k 0) = 0 := by
 induction k with
 | zero => rfl
 | succ k ih => rw [List.replicate_succ, tv, ih]
/-- Digits are those of their number, and zeros behind them. -/
theorem td_tv {l : List Nat} (h : ∀ d ∈ l, d < 10000) : ∃ z, l = td (tv l) ++ List.replicate z 0 := by
 induction l with
 | nil => exact ⟨0, by rw [tv, td_zero]; rfl⟩
 | cons d l ih =>
  obtain ⟨z, hz⟩ := ih fun x hx => h x (List.mem_cons_of_mem _ hx)
  have hd := h d List.mem_cons_self
  rw [tv]
  by_cases h0 : d + 10000 * tv l = 0
  ·have h1 : tv l = 0 := by omega
   rw [h1, td_zero, List.nil_append] at hz
   refine ⟨z + 1, ?_⟩
   rw [h0, td_zero, List.nil_append, List.replicate_succ, ← hz, show d = 0 by omega]
  ·refine ⟨z, ?_⟩
   rw [td_pos h0, show (d + 10000 * tv l) % 10000 = d by omega, show (d + 10000 * tv l) / 10000 = tv l by omega, List.cons_append, ← hz]
theorem td_length {n k : Nat} : (td n).length ≤ k ↔ n < 10000 ^ k := by
 induction k generalizing n with
 | zero =>
  rw [Nat.pow_zero]
  constructor
  ·intro h; have := td_nil.1 (List.eq_nil_of_length_eq_zero (l := td n) (by omega)); omega
  ·intro h; rw [show n = 0 by omega, td_zero]; exact Nat.le_refl _
 | succ k ih =>
  by_cases h : n = 0
  ·rw [h, td_zero]; exact ⟨fun _ => Nat.pow_pos (by omega), fun _ => Nat.zero_le _⟩
  ·rw [td_pos h, List.length_cons, Nat.pow_succ]
   have := ih (n := n / 10000)
   constructor
   ·intro h1; have := this.1 (by omega); omega
   ·intro h1; have := this.2 (by omega); omega
theorem tv_snoc (l : List Nat) (d : Nat) : tv (l ++ [d]) = tv l + 10000 ^ l.length * d := by rw [tv_append]; simp [tv]
theorem tv_take_getElem {l : List Nat} {k : Nat} (h : k < l.length) : tv (l.take (k + 1)) = tv (l.take k) + 10000 ^ k * l[k] := by
 rw [List.take_succ_eq_append_getElem h, tv_snoc, List.length_take, Nat.min_eq_left (Nat.le_of_lt h)]
theorem td_last {n : Nat} (h : td n ≠ []) : (td n).getLast h ≠ 0 := by
 induction n using Nat.strongRecOn with
 | _ n ih =>
  have h0 : n ≠ 0 := fun e => h (td_nil.2 e)
  by_cases h1 : n / 10000 = 0
  ·simp only [td_pos h0, h1, td_zero, List.getLast_singleton]; omega
  ·have h2 : td (n / 10000) ≠ [] := fun e => h1 (td_nil.1 e)
   have := ih (n / 10000) (by omega) h2
   simp only [td_pos h0]
   rwa [List.getLast_cons h2]
/-- A digit, or 0 behind the last one. -/
def dg (l : List Nat) (i : Nat) : Nat := l.getD i 0
theorem dg_lt {l : List Nat} (h : ∀ d ∈ l, d < 10000) (i : Nat) : dg l i < 10000 := by
 unfold dg
 rcases Nat.lt_or_ge i l.length with hi | hi
 ·simp [hi]; exact h _ (List.getElem_mem hi)
 ·simp [hi]
theorem dg_in {l : List Nat} {i : Nat} (h : i < l.length) : dg l i = l[i] := by unfold dg; simp [h]
theorem dg_out {l : List Nat} {i : Nat} (h : l.length ≤ i) : dg l i = 0 := by unfold dg; simp [h]
theorem tv_take (l : List Nat) (k : Nat) : tv (l.take (k + 1)) = tv (l.take k) + 10000 ^ k * dg l k := by
 rcases Nat.lt_or_ge k l.length with h | h
 ·rw [tv_take_getElem h, dg_in h]
 ·rw [dg_out h, List.take_of_length_le (by omega), List.take_of_length_le h]; omega
/-- A slice of ints that can be read. -/
structure Sd (w : World) (a : Addr) (l : List Nat) : Prop where
 cell : ∀ (i : Nat) (h : i < l.length), w.cell? (a.add i) = some (.int .i64 ((l[i] : Nat) : Int))
 blk : a.block < w.heap.size
theorem addB (a : Addr) (i : Nat) : (a.add i).block = a.block := by unfold Addr.add; split <;> rfl
theorem Sd.below {w w' : World} {a : Addr} {l : List Nat} (h : Sd w a l) (hb : Below w.heap.size w w') : Sd w' a l :=
 ⟨fun i hi => (hb.cell (p := a.add i) (by rw [addB]; exact h.blk)).trans (h.cell i hi), Nat.lt_of_lt_of_le h.blk hb.size⟩
theorem Sd.left {w : World} {a : Addr} {l m : List Nat} (h : Sd w a (l ++ m)) : Sd w a l :=
 ⟨fun i hi => by rw [h.cell i (by rw [List.length_append]; omega), List.getElem_append_left hi], h.blk⟩
def Sl (w : World) (v : Value) (l : List Nat) : Prop := (∃ ao c, v = .slice ao 0 c ∧ l = [] ∧ (ao = none → c = 0)) ∨ ∃ a c, v = .slice (some a) l.length c ∧ l.length ≤ c ∧ Sd w a l
theorem Sl.below {w w' : World} {v : Value} {l : List Nat} (h : Sl w v l) (hb : Below w.heap.size w w') : Sl w' v l := by
 rcases h with h | ⟨a, c, h1, h2, h3⟩
 ·exact .inl h
 ·exact .inr ⟨a, c, h1, h2, h3.below hb⟩
theorem Sl.form {w : World} {v : Value} {l : List Nat} (h : Sl w v l) : ∃ ao c, v = .slice ao l.length c := by
 rcases h with ⟨ao, c, rfl, rfl, -⟩ | ⟨a, c, rfl, _⟩
 ·exact ⟨_, _, rfl⟩
 ·exact ⟨_, _, rfl⟩
theorem Sl.nil (w : World) : Sl w (.slice none 0 0) [] := .inl ⟨_, _, rfl, rfl, fun _ => rfl⟩
theorem Sl.drew {w : World} {v : Value} {l : List Nat} (h : Sl w v l) : Sl w.drew v l := by
 rcases h with h | ⟨a, c, h1, h2, h3⟩
 ·exact .inl h
 ·exact .inr ⟨a, c, h1, h2, h3.cell, h3.blk⟩
abbrev iv (d : Nat) : Value := .int .i64 (d : Int)
end Go.Proofs.YtahfcciihkkegaaGreatDoor.Rx
namespace Go.Proofs.YtahfcciihkkegaaGreatDoor.Rx
open Go.RowKit
attribute [local irreducible] tv dg
def lenOf : Value → Nat | .slice _ n _ => n | _ => 0
theorem trim_nil (ao : Option Addr) (c : Nat) (w : World) :
  Calls Tryz.prog 138 #[.slice ao 0 c] w fun e w' => e = .returned (.slice ao 0 c) ∧ w = w' := by
 go_enter Tryz.func138, Tryz.ntmps138
 go_wp2_with fail
 go_loopw [0] (fun v wr => v = .slice ao 0 c ∧ wr = w) (fun v _ => lenOf v)
 case atStart => exact ⟨rfl, rfl⟩
 case round =>
  obtain ⟨rfl, rfl⟩ := hrel
  go_wp2_with fail
  go_ret
  exact ⟨rfl, rfl⟩
theorem trim_row (a : Addr) (c m z : Nat) (l : List Nat) (hm : l.length = m) (hc : m + z ≤ c) (hB : m + z < 9223372036854775807) (hlast : ∀ h : l ≠ [], l.getLast h ≠ 0) (w : World) (h : Sd w a (l ++ List.replicate z 0)) :
  Calls Tryz.prog 138 #[.slice (some a) (m + z) c] w fun e w' => e = .returned (.slice (some a) m c) ∧ w = w' := by
 have hz : ∀ k, k < z → w.cell? (a.add (m + k)) = some (.int .i64 0) := fun k hk => by
  rw [h.cell (m + k) (by simp; omega), List.getElem_append_right (by omega)]; simp
 have hl : ∀ p, m = p + 1 → ∃ d : Nat, d ≠ 0 ∧ w.cell? (a.add p) = some (.int .i64 (d : Int)) := fun p hp => by
  have hne : l ≠ [] := fun e => by rw [e] at hm; simp at hm; omega
  refine ⟨l.getLast hne, hlast hne, ?_⟩
  rw [h.cell p (by simp; omega), List.getElem_append_left (by omega), List.getLast_eq_getElem hne]
  simp [hm, hp]
 clear h hlast hm
 replace hz := Lib.hid hz
 replace hl := Lib.hid hl
 go_enter Tryz.func138, Tryz.ntmps138
 go_wp2_with fail
 go_loopw [0] (fun v wr => ∃ k, k ≤ z ∧ v = .slice (some a) (m + k) c ∧ wr = w) (fun v _ => lenOf v)
 case atStart => exact ⟨z, Nat.le_refl _, rfl, rfl⟩
 case round =>
  obtain ⟨k, hk, rfl, rfl⟩ := hrel
  cases k with
  | zero =>
   rw [Nat.add_zero]
   cases m with
   | zero =>
    go_wp2_with fail
    go_ret
    exact ⟨rfl, rfl⟩
   | succ p =>
    obtain ⟨d, hd, hcell⟩ := hl.out p rfl
    have hd1 : ((d : Int) == 0) = false := beq_eq_false_iff_ne.2 (by omega)
    go_wp2_with fail
    go_ret
    exact ⟨rfl, rfl⟩
  | succ j =>
   have hcell := hz.out j (by omega)
   rw [show m + (j + 1) = (m + j) + 1 from by omega]
   obtain ⟨q, hq⟩ : ∃ q, q = m + j := ⟨_, rfl⟩
   rw [← hq] at hcell ⊢
   have hqc : q + 1 ≤ c := by omega
   have hqB : q + 1 < 9223372036854775807 := by omega
   replace hq := Lib.hid hq
   go_wp2_with fail
   go_roundw
   case rel => exact ⟨j, by omega, by rw [hq.out], trivial⟩
   case measure => simp [lenOf]
/-- trim: the digits of a number. -/
theorem trim_any (v : Value) (l : List Nat) (hd : ∀ d ∈ l, d < 10000) (hB : l.length < 9223372036854775807) (w : World) (h : Sl w v l) :
  Calls Tryz.prog 138 #[v] w fun e w' => ∃ v', e = .returned v' ∧ Sl w v' (td (tv l)) ∧ w = w' := by
 obtain ⟨z, hz⟩ := td_tv hd
 rcases h with ⟨ao, c, rfl, rfl, hc0⟩ | ⟨a, c, rfl, h2, h3⟩
 ·refine (trim_nil ao c w).mono ?_
  rintro e w' ⟨rfl, rfl⟩
  exact ⟨_, rfl, .inl ⟨ao, c, rfl, by rw [tv_nil, td_zero], hc0⟩, rfl⟩
 ·have hlen : l.length = (td (tv l)).length + z := by
   have := congrArg List.length hz
   rwa [List.length_append, List.length_replicate] at this
  rw [hz] at h3
  rw [hlen] at h2 hB ⊢
  refine (trim_row a c _ z (td (tv l)) rfl h2 hB (fun h => td_last h) w h3).mono ?_
  rintro e w' ⟨rfl, rfl⟩
  exact ⟨_, rfl, .inr ⟨a, c, rfl, by omega, h3.left⟩, rfl⟩
end Go.Proofs.YtahfcciihkkegaaGreatDoor.Rx
namespace Go.Proofs.YtahfcciihkkegaaGreatDoor.Rx
open Go.RowKit
attribute [local irreducible] tv dg
/-- What the digits so far spell, with what is left. -/
theorem td_step {n k : Nat} (hk : k < (td n).length) : n / 10000 ^ k ≠ 0 ∧ (td n)[k] = n / 10000 ^ k % 10000 := by
 induction k generalizing n with
 | zero =>
  have h0 : n ≠ 0 := fun e => by rw [e, td_zero] at hk; exact absurd hk (by simp)
  simp only [Nat.pow_zero, Nat.div_one]
  refine ⟨h0, ?_⟩
  simp only [td_pos h0, List.getElem_cons_zero]
 | succ k ih =>
  have h0 : n ≠ 0 := fun e => by rw [e, td_zero] at hk; exact absurd hk (by simp)
  have hk' : k < (td (n / 10000)).length := by rw [td_pos h0, List.length_cons] at hk; omega
  have := ih hk'
  rw [Nat.div_div_eq_div_mul, Nat.mul_comm, ← Nat.pow_succ] at this
  refine ⟨this.1, ?_⟩
  simp only [td_pos h0, List.getElem_cons_succ]
  exact this.2
theorem td_end {n k : Nat} (hk : (td n).length ≤ k) : n / 10000 ^ k = 0 := Nat.div_eq_of_lt (td_length.1 hk)
end Go.Proofs.YtahfcciihkkegaaGreatDoor.Rx
namespace Go.Proofs.YtahfcciihkkegaaGreatDoor.Rx
open Go.RowKit
attribute [local irreducible] tv dg
/-- What Add's rounds keep. -/
structure AddS (A B S : List Nat) (i c : Nat) : Prop where
 len : S.length = i
 lt : ∀ d ∈ S, d < 10000
 car : c ≤ 1
 eq : tv S + 10000 ^ i * c = tv (A.take i) + tv (B.take i)
theorem AddS.step {A B S : List Nat} {i c : Nat} (h : AddS A B S i c) (hA : ∀ d ∈ A, d < 10000) (hB : ∀ d ∈ B, d < 10000) :
  AddS A B (S ++ [(dg A i + dg B i + c) % 10000]) (i + 1) ((dg A i + dg B i + c) / 10000) := by
 have h1 := dg_lt hA i
 have h2 := dg_lt hB i
 have h3 := h.car
 refine ⟨by rw [List.length_append, h.len]; rfl, fun d hd => ?_, by omega, ?_⟩
 ·rcases List.mem_append.1 hd with hd | hd
  ·exact h.lt d hd
  ·rw [List.mem_singleton.1 hd]; omega
 ·rw [tv_snoc, h.len, tv_take, tv_take, Nat.pow_succ]
  have h4 := h.eq
  generalize dg A i = x at *
  generalize dg B i = y at *
  have h5 : (x + y + c) % 10000 + 10000 * ((x + y + c) / 10000) = x + y + c := by omega
  have h6 : 10000 ^ i * ((x + y + c) % 10000) + 10000 ^ i * 10000 * ((x + y + c) / 10000) = 10000 ^ i * x + 10000 ^ i * y + 10000 ^ i * c := by
   rw [Nat.mul_assoc, ← Nat.mul_add, h5, Nat.mul_add, Nat.mul_add]
  generalize 10000 ^ i * ((x + y + c) % 10000) = p at *
  generalize 10000 ^ i * 10000 * ((x + y + c) / 10000) = q at *
  omega
end Go.Proofs.YtahfcciihkkegaaGreatDoor.Rx
namespace Go.Proofs.YtahfcciihkkegaaGreatDoor.Rx
open Go.RowKit
attribute [local irreducible] tv dg
/-- Block g holds just these ints. -/
def IB (w : World) (g : Nat) (l : List Nat) : Prop := w.heap[g]? = some (.cells (l.map iv).toArray 3 (0, 0))
section
variable {w w' : World} {g : Nat} {l : List Nat}
theorem IB.lt (h : IB w g l) : g < w.heap.size := (Array.getElem?_eq_some_iff.1 h).1
theorem IB.cell (h : IB w g l) (i : Nat) (hi : i < l.length) : w.cell? ⟨g, i, none⟩ = some (.int .i64 ((l[i] : Nat) : Int)) := by
 rw [cell_of_row w g i _ _ _ h]; simp [hi]
theorem IB.frozen (h : IB w g l) (i : Nat) : w.frozen? ⟨g, i, none⟩ = false := frozen_of_row w g i _ _ h
theorem IB.set (h : IB w g l) (i : Nat) (d : Nat) : IB (w.setCell ⟨g, i, none⟩ (.int .i64 (d : Int))) g (l.set i d) := by
 unfold IB at *
 rw [heap_setCell_same w g i _ _ _ h]
 congr 2
 rw [List.map_set]; simp
theorem IB.keep (h : IB w g l) (hk : w'.heap[g]? = w.heap[g]?) : IB w' g l := hk.trans h
theorem IB.below {B : Nat} (h : IB w g l) (hb : Below B w w') (hg : g < B) : IB w' g l := h.keep (hb.block g hg)
theorem IB.drewN (h : IB w g l) (n : Nat) : IB (w.drewN n) g l := h
end
/-- Zeros, as make lays them. -/
def zobjI (n : Nat) : Obj := .cells ((List.replicate n 0).map iv).toArray 3
theorem IB.zeros (w : World) (n : Nat) : IB (w.alloc (zobjI n)) w.heap.size (List.replicate n 0) := heap_alloc_new w _
theorem tv_set {l : List Nat} {j : Nat} (h : j < l.length) (d : Nat) : tv (l.set j d) + 10000 ^ j * l[j] = tv l + 10000 ^ j * d := by
 induction l generalizing j with
 | nil => exact absurd h (by simp)
 | cons x l ih =>
  cases j with
  | zero => simp only [List.set_cons_zero, List.getElem_cons_zero, tv, Nat.pow_zero, Nat.one_mul]; omega
  | succ j =>
   have hj : j < l.length := by simpa using h
   have := ih (j := j) hj
   simp only [List.set_cons_succ, List.getElem_cons_succ, tv, Nat.pow_succ]
   rw [Nat.mul_comm (10000 ^ j) 10000, Nat.mul_assoc, Nat.mul_assoc]
   generalize 10000 ^ j * l[j] = p at *
   generalize 10000 ^ j * d = q at *
   omega
/-- What Mul's inner rounds keep. -/
structure MulS (A B X : List Nat) (i k c : Nat) : Prop where
 len : X.length = A.length + B.length
 lt : ∀ d ∈ X, d < 10000
 car : c < 10000
 eq : tv X + 10000 ^ (i + k) * c = tv (A.take i) * tv B + 10000 ^ i * (dg A i * tv (B.take k))
theorem MulS.step {A B X : List Nat} {i k c : Nat} (h : MulS A B X i k c) (hA : ∀ d ∈ A, d < 10000) (hB : ∀ d ∈ B, d < 10000) (hj : i + k < X.length) {s : Nat} (hs : s = X[i + k] + dg A i * dg B k + c) :
  s < 100000000 ∧ MulS A B (X.set (i + k) (s % 10000)) i (k + 1) (s / 10000) := by
 have h1 := dg_lt hA i
 have h2 := dg_lt hB k
 have h3 := h.car
 have hx := h.lt _ (List.getElem_mem hj)
 have hp : dg A i * dg B k ≤ 9999 * 9999 := Nat.mul_le_mul (by omega) (by omega)
 have hs1 : s < 100000000 := by omega
 refine ⟨hs1, by rw [List.length_set]; exact h.len, fun d hd => ?_, by omega, ?_⟩
 ·rcases List.mem_or_eq_of_mem_set hd with hd | hd
  ·exact h.lt d hd
  ·omega
 ·have e1 := tv_set hj (s % 10000)
  have e2 := h.eq
  rw [tv_take, ← Nat.add_assoc, Nat.pow_succ]
  have e3 : s % 10000 + 10000 * (s / 10000) = X[i + k] + dg A i * dg B k + c := by omega
  have e4 : 10000 ^ (i + k) * (s % 10000) + 10000 ^ (i + k) * 10000 * (s / 10000) = 10000 ^ (i + k) * X[i + k] + 10000 ^ (i + k) * (dg A i * dg B k) + 10000 ^ (i + k) * c := by
   rw [Nat.mul_assoc, ← Nat.mul_add, e3, Nat.mul_add, Nat.mul_add]
  have e5 : 10000 ^ i * (dg A i * (tv (B.take k) + 10000 ^ k * dg B k)) = 10000 ^ i * (dg A i * tv (B.take k)) + 10000 ^ (i + k) * (dg A i * dg B k) := by
   rw [Nat.mul_add, Nat.mul_add, Nat.pow_add, Nat.mul_left_comm (dg A i), Nat.mul_assoc (10000 ^ i)]
  rw [e5]
  generalize 10000 ^ (i + k) * (s % 10000) = p1 at *
  generalize 10000 ^ (i + k) * 10000 * (s / 10000) = p2 at *
  generalize 10000 ^ (i + k) * X[i + k] = p3 at *
  generalize 10000 ^ (i + k) * (dg A i * dg B k) = p4 at *
  generalize 10000 ^ (i + k) * c = p5 at *
  generalize 10000 ^ i * (dg A i * tv (B.take k)) = p6 at *
  generalize tv (A.take i) * tv B = p7 at *
  generalize tv (X.set (i + k) (s % 10000)) = p8 at *
  generalize tv X = p9 at *
  omega
/-- Behind b's digits one carry may be left, and no more. -/
theorem MulS.carry {A B X : List Nat} {i k c : Nat} (h : MulS A B X i k c) (hA : ∀ d ∈ A, d < 10000) (hB : ∀ d ∈ B, d < 10000) (hi : i < A.length) (hk : B.length + 1 ≤ k) : c = 0 := by
 rcases Nat.eq_zero_or_pos c with h0 | h0
 ·exact h0
 ·have e := h.eq
  have e2 : tv (A.take i) * tv B + 10000 ^ i * (dg A i * tv (B.take k)) = tv (A.take (i + 1)) * tv B := by
   rw [List.take_of_length_le (l := B) (by omega), tv_take, Nat.add_mul, Nat.mul_assoc]
  have e3 : tv (A.take (i + 1)) < 10000 ^ (i + 1) := by
   have := tv_lt (l := A.take (i + 1)) fun d hd => hA d (List.mem_of_mem_take hd)
   rwa [List.length_take, Nat.min_eq_left (by omega)] at this
  have e4 := tv_lt hB
  have e5 : tv (A.take (i + 1)) * tv B < 10000 ^ (i + 1) * 10000 ^ B.length := Nat.lt_of_le_of_lt (Nat.mul_le_mul_left _ (Nat.le_of_lt e4)) (Nat.mul_lt_mul_of_pos_right e3 (Nat.pow_pos (by omega)))
  rw [← Nat.pow_add] at e5
  have e6 : 10000 ^ (i + 1 + B.length) ≤ 10000 ^ (i + k) := Nat.pow_le_pow_right (by omega) (by omega)
  have e7 : 10000 ^ (i + k) ≤ 10000 ^ (i + k) * c := Nat.le_mul_of_pos_right _ h0
  omega
theorem MulS.done {A B X : List Nat} {i k : Nat} (h : MulS A B X i k 0) (hk : B.length ≤ k) : MulS A B X (i + 1) 0 0 := by
 refine ⟨h.len, h.lt, by omega, ?_⟩
 have e := h.eq
 rw [List.take_of_length_le hk] at e
 rw [List.take_zero, tv_take, Nat.add_mul, Nat.mul_assoc]
 rw [Nat.mul_zero, Nat.add_zero] at e ⊢
 rw [e]
 have : tv [] = 0 := by unfold tv; rfl
 rw [this, Nat.mul_zero, Nat.mul_zero, Nat.add_zero]
theorem MulS.start (A B : List Nat) : MulS A B (List.replicate (A.length + B.length) 0) 0 0 0 := by
 refine ⟨List.length_replicate, fun d hd => by rw [(List.mem_replicate.1 hd).2]; omega, by omega, ?_⟩
 have : tv [] = 0 := by unfold tv; rfl
 rw [tv_zeros, List.take_zero, List.take_zero, this]
 simp
end Go.Proofs.YtahfcciihkkegaaGreatDoor.Rx
namespace Go.Proofs.YtahfcciihkkegaaGreatDoor.Rx
open Go.RowKit
attribute [local irreducible] tv dg
/-- A slice that holds a number's digits. -/
abbrev Rn (w : World) (v : Value) (n : Nat) : Prop := Sl w v (td n)
end Go.Proofs.YtahfcciihkkegaaGreatDoor.Rx
namespace Go.Proofs.YtahfcciihkkegaaGreatDoor.Rx
open Go.RowKit
attribute [local irreducible] tv dg cmpI
end Go.Proofs.YtahfcciihkkegaaGreatDoor.Rx
namespace Go.Proofs.YtahfcciihkkegaaGreatDoor.Rx
open Go.RowKit
attribute [local irreducible] tv dg cmpI
/-- What Sub's rounds keep. -/
structure SubS (A B S : List Nat) (i c : Nat) : Prop where
 len : S.length = i
 lt : ∀ d ∈ S, d < 10000
 car : c ≤ 1
 eq : tv (A.take i) + 10000 ^ i * c = tv S + tv (B.take i)
theorem SubS.step {A B S : List Nat} {i c d c' : Nat} (h : SubS A B S i c) (hd : d < 10000) (hc : c' ≤ 1) (he : d + dg B i + c = dg A i + 10000 * c') : SubS A B (S ++ [d]) (i + 1) c' := by
 refine ⟨by rw [List.length_append, h.len]; rfl, fun x hx => ?_, hc, ?_⟩
 ·rcases List.mem_append.1 hx with hx | hx
  ·exact h.lt x hx
  ·rw [List.mem_singleton.1 hx]; exact hd
 ·rw [tv_snoc, h.len, tv_take, tv_take, Nat.pow_succ]
  have h4 := h.eq
  have h6 : 10000 ^ i * d + 10000 ^ i * dg B i + 10000 ^ i * c = 10000 ^ i * dg A i + 10000 ^ i * 10000 * c' := by
   rw [Nat.mul_assoc, ← Nat.mul_add, ← Nat.mul_add, ← Nat.mul_add, he]
  generalize 10000 ^ i * d = p1 at *
  generalize 10000 ^ i * dg B i = p2 at *
  generalize 10000 ^ i * c = p3 at *
  generalize 10000 ^ i * dg A i = p4 at *
  generalize 10000 ^ i * 10000 * c' = p5 at *
  omega
theorem SubS.done {A B S : List Nat} {c : Nat} (h : SubS A B S A.length c) (hB : B.length ≤ A.length) (hle : tv B ≤ tv A) : tv S = tv A - tv B := by
 have e := h.eq
 rw [List.take_of_length_le (Nat.le_refl _), List.take_of_length_le hB] at e
 have h1 := tv_lt h.lt
 rw [h.len] at h1
 have hc := h.car
 rcases Nat.eq_zero_or_pos c with h0 | h0
 ·rw [h0, Nat.mul_zero] at e; omega
 ·rw [show c = 1 by omega, Nat.mul_one] at e; omega
end Go.Proofs.YtahfcciihkkegaaGreatDoor.Rx
namespace Go.Proofs.YtahfcciihkkegaaGreatDoor.Rx
open Go.RowKit
open Go.Lib (decDigits)
attribute [local irreducible] tv dg cmpI
/-- What Text has written behind digit i. -/
def TS (n i : Nat) (T : List UInt8) : Prop := (i < (td n).length ∧ decDigits n = decDigits (n / 10000 ^ i) ++ T) ∨ (i = (td n).length ∧ T = decDigits n)
theorem TS.start {n : Nat} (h : 0 < (td n).length) : TS n 0 [] := .inl ⟨h, by simp⟩
theorem TS.step {n i : Nat} {T : List UInt8} (h : TS n i T) (hl : i < (td n).length) (hi : i + 1 < (td n).length) : TS n (i + 1) (pad 4 ((td n)[i]'hl) ++ T) := by
 rcases h with ⟨h1, h2⟩ | ⟨h1, h2⟩
 ·refine .inl ⟨hi, ?_⟩
  have hd := (td_step h1).2
  have hq := (td_step hi).1
  have e : n / 10000 ^ i = n / 10000 ^ (i + 1) * 10 ^ 4 + (td n)[i] := by
   rw [hd, Nat.pow_succ, ← Nat.div_div_eq_div_mul]
   show _ = _ * 10000 + _
   omega
  have hlt : (td n)[i] < 10 ^ 4 := td_lt n _ (List.getElem_mem _)
  have := dec_mul_add 4 (n / 10000 ^ (i + 1)) ((td n)[i]) (by omega) hlt
  rw [h2, e, this, List.append_assoc]
 ·omega
theorem TS.last {n i : Nat} {T : List UInt8} (h : TS n i T) (hl : i < (td n).length) (hi : i + 1 = (td n).length) : 0 < (td n)[i]'hl ∧ TS n (i + 1) (decDigits ((td n)[i]'hl) ++ T) := by
 rcases h with ⟨h1, h2⟩ | ⟨h1, h2⟩
 ·have hd := td_step h1
  have h0 : n / 10000 ^ (i + 1) = 0 := td_end (by omega)
  have e : n / 10000 ^ i = (td n)[i] := by
   rw [hd.2]
   rw [Nat.pow_succ, ← Nat.div_div_eq_div_mul] at h0
   omega
  refine ⟨by rw [← e]; omega, .inr ⟨hi, ?_⟩⟩
  rw [h2, e]
 ·omega
theorem TS.len {n i : Nat} {T : List UInt8} (h : TS n i T) : T.length ≤ (decDigits n).length := by
 rcases h with ⟨h1, h2⟩ | ⟨h1, h2⟩
 ·rw [h2, List.length_append]; omega
 ·rw [h2]; exact Nat.le_refl _
end Go.Proofs.YtahfcciihkkegaaGreatDoor.Rx
namespace Go.Proofs.YtahfcciihkkegaaGreatDoor.Rx
open Go.RowKit
attribute [local irreducible] lo hs tv dg cmpI txt decB
end Go.Proofs.YtahfcciihkkegaaGreatDoor.Rx
namespace Go.Proofs.YtahfcciihkkegaaGreatDoor.Rx
open Go.RowKit
attribute [local irreducible] tv dg cmpI txt decB
/-- What is appended, chunk by chunk. -/
structure PS (l : List UInt8) (S : List Nat) (t e : Nat) : Prop where
 len : S.length = t
 lt : ∀ d ∈ S, d < 10000
 pos : e = l.length - 4 * t
 eq : tv S + 10000 ^ t * dval (l.take e) = dval l
theorem PS.step {l : List UInt8} {S : List Nat} {t e : Nat} (h : PS l S t e) (hd : ∀ c ∈ l, isDig c) (he : 0 < e) :
  dval ((l.drop (e - 4)).take (e - (e - 4))) < 10000 ∧ PS l (S ++ [dval ((l.drop (e - 4)).take (e - (e - 4)))]) (t + 1) (e - 4) := by
 have hle : e ≤ l.length := by have := h.pos; omega
 have hch : ((l.drop (e - 4)).take (e - (e - 4))).length = e - (e - 4) := by rw [List.length_take, List.length_drop]; omega
 have hlt : dval ((l.drop (e - 4)).take (e - (e - 4))) < 10000 := by
  have h1 := dval_lt (l := (l.drop (e - 4)).take (e - (e - 4))) fun c hc => hd c (List.mem_of_mem_drop (List.mem_of_mem_take hc))
  rw [hch] at h1
  exact Nat.lt_of_lt_of_le h1 (Nat.le_trans (Nat.pow_le_pow_right (by omega) (show e - (e - 4) ≤ 4 by omega)) (by decide))
 refine ⟨hlt, by rw [List.length_append, h.len]; rfl, fun d hx => ?_, by have := h.pos; omega, ?_⟩
 ·rcases List.mem_append.1 hx with hx | hx
  ·exact h.lt d hx
  ·rw [List.mem_singleton.1 hx]; exact hlt
 ·have e1 : l.take e = l.take (e - 4) ++ (l.drop (e - 4)).take (e - (e - 4)) := by
   have := List.take_add (l := l) (i := e - 4) (j := e - (e - 4))
   rw [show e - 4 + (e - (e - 4)) = e by omega] at this
   exact this
  have e2 := h.eq
  rw [e1, dval_append, hch] at e2
  rw [tv_snoc, h.len, Nat.pow_succ]
  generalize dval ((l.drop (e - 4)).take (e - (e - 4))) = d at *
  rcases Nat.lt_or_ge e 4 with h4 | h4
  ·have h0 : dval (l.take (e - 4)) = 0 := by rw [show e - 4 = 0 by omega, List.take_zero, dval_nil]
   rw [h0, Nat.zero_mul, Nat.zero_add] at e2
   rw [h0, Nat.mul_zero]; omega
  ·rw [show e - (e - 4) = 4 by omega] at e2
   rw [Nat.mul_add, Nat.mul_comm (dval _) (10 ^ 4), ← Nat.mul_assoc, show (10 : Nat) ^ 4 = 10000 by rfl] at e2
   omega
theorem PS.start (l : List UInt8) : PS l [] 0 l.length := ⟨rfl, (fun d hd => by cases hd), by omega, by rw [tv_nil, List.take_length]; simp⟩
end Go.Proofs.YtahfcciihkkegaaGreatDoor.Rx
namespace Go.Proofs.YtahfcciihkkegaaGreatDoor
open Go.RowKit Go.Proofs.YtahfcciihkkegaaGreatDoor.Rx
attribute [local irreducible] lo hs sm s64 c64 d64 b64 mh ml pd pc qd qc val hiB str cmpI srD lz nb isq decB dval
theorem sl_upd {w w' : World} {k : Nat} {c : List Value} {v : Value} {l : List Nat} (h : Sl w v l) (hu : Upd k w w') (hd : Hd w k c) (hc : ∀ v ∈ c, ∀ n, v ≠ .int .i64 n) : Sl w' v l := by
 rcases h with h | ⟨a, c1, h1, h2, h3⟩
 ·exact .inl h
 ·refine .inr ⟨a, c1, h1, h2, fun i hi => ?_, by rw [hu.size]; exact h3.blk⟩
  have hx := h3.cell i hi
  exact (World.cell?_of_block (w := w) (hu.block _ (hd.no_int hc hx))).trans hx
end Go.Proofs.YtahfcciihkkegaaGreatDoor
namespace Go.Proofs.YtahfcciihkkegaaGreatDoor
open Go.RowKit
section
variable {P : Program} {ops : Array Oper} {C : World → Prop}
/-- How many of the first n have not come up. -/
def left (n : Nat) (listed : Array Bool) : Nat := (List.range n).countP fun i => !listed.getD i false
end
end Go.Proofs.YtahfcciihkkegaaGreatDoor
namespace Go.Proofs.YtahfcciihkkegaaGreatDoor
open Go.RowKit Go.Proofs.YtahfcciihkkegaaGreatDoor.Rx
/-- A struct of the reference that stands for an integer. -/
def RZ (w : World) (v : Value) (z : Int) : Prop := ∃ u, v = .agg #[.bool (decide (z < 0)), u] ∧ Rn w u z.natAbs
theorem RZ.below {w w' : World} {v : Value} {z : Int} (h : RZ w v z) (hb : Below w.heap.size w w') : RZ w' v z := by
 obtain ⟨u, h1, h2⟩ := h
 exact ⟨u, h1, Sl.below h2 hb⟩
theorem RZ.of {w : World} {b : Bool} {u : Value} {n : Nat} {z : Int} (h : Rn w u n) (hb : b = decide (z < 0)) (hn : n = z.natAbs) : RZ w (.agg #[.bool b, u]) z := ⟨u, by rw [hb], by rw [← hn]; exact h⟩
end Go.Proofs.YtahfcciihkkegaaGreatDoor
namespace Go.Proofs.YtahfcciihkkegaaGreatDoor
open Go.RowKit Go.Proofs.YtahfcciihkkegaaGreatDoor.Rx
/-- The slices of digits that a call has got hold of. -/
def SS (W : World) (S : List (Value × Nat)) : Prop := ∀ p ∈ S, Rn W p.1 p.2
theorem SS.nil (W : World) : SS W [] := fun p hp => by cases hp
theorem SS.call {W W' : World} {S : List (Value × Nat)} (h : SS W S) (hb : Below W.heap.size W W') : SS W' S := fun p hp => Sl.below (h p hp) hb
theorem SS.new {W : World} {S : List (Value × Nat)} (h : SS W S) (o : Obj) : SS (W.alloc o) S := h.call ((Below.refl _ _).alloc (Nat.le_refl _) o)
theorem SS.cons {W : World} {S : List (Value × Nat)} (h : SS W S) {v : Value} {n : Nat} (hv : Rn W v n) : SS W ((v, n) :: S) := fun p hp => by
 rcases List.mem_cons.1 hp with rfl | hp
 ·exact hv
 ·exact h p hp
theorem SS.put {W W' : World} {S : List (Value × Nat)} (h : SS W S) {k : Nat} {c : List Value} (hu : Upd k W W') (hd : Hd W k c) (hc : ∀ v ∈ c, ∀ n, v ≠ .int .i64 n) : SS W' S := fun p hp => sl_upd (h p hp) hu hd hc
theorem SS.drew {W : World} {S : List (Value × Nat)} (h : SS W S) : SS W.drew S := fun p hp => Sl.drew (h p hp)
theorem SS.get {W : World} {S : List (Value × Nat)} (h : SS W S) {v : Value} {n : Nat} (hm : (v, n) ∈ S) : Rn W v n := h _ hm
end Go.Proofs.YtahfcciihkkegaaGreatDoor
namespace Go.Proofs.YtahfcciihkkegaaGreatDoor
open Go.RowKit
theorem nb_oneD : nb 1 ≤ 2 := by
 obtain ⟨k, h1, h2, -⟩ := nb_spec (n := 1) (by decide)
 rw [h1]
 rcases Nat.lt_or_ge k 2 with g | g
 ·omega
 ·exfalso
  have := Nat.pow_le_pow_right (show 0 < 2 by omega) g
  omega
end Go.Proofs.YtahfcciihkkegaaGreatDoor
namespace Go.Proofs.YtahfcciihkkegaaGreatDoor
open Go.RowKit
attribute [local irreducible] lo hs sm s64 c64 d64 b64 mh ml pd pc qd qc val hiB str cmpI srD lz nb isq decB zl zh zs fe
set_option maxHeartbeats 4000000 in
set_option maxRecDepth 100000 in
theorem lround_end (m n : Int) (b : Bool) (q tn t1 a1 : Rat) (I1 : ∀ w, Calls Tryz.prog 32 #[.int .i64 10] w fun xe w' => xe = .returned (fracV tn) ∧ Below w.heap.size w w') (P1 : ∀ w, Calls Tryz.prog 82 #[fracV tn, .int .i64 m] w fun xe w' => xe = .returned (.tuple #[fracV t1, .int .i64 0]) ∧ Below w.heap.size w w') (M1 : ∀ w, Calls Tryz.prog 31 #[fracV q, fracV t1] w fun xe w' => xe = .returned (fracV a1) ∧ Below w.heap.size w w') (W1 : ∀ w, Calls Tryz.prog 28 #[fracV a1] w fun xe w' => xe = .returned (.bool b) ∧ Below w.heap.size w w') (g : decide (0 < n) = false) (w : World) :
  Calls Tryz.prog 39 #[fracV q, .int .i64 m, .int .i64 n] w fun xe w' => xe = .returned (.bool b) ∧ Below w.heap.size w w' := by
 have hL0 : GL w w [] := GL.start w
 replace I1 := Lib.hid I1
 replace P1 := Lib.hid P1
 replace M1 := Lib.hid M1
 replace W1 := Lib.hid W1
 replace hL0 := (hL0.new rfl [.int .u64 ((zl q.num : Nat) : Int), .string (zh q.num), .bool (zs q.num), .int .u64 ((lo (fe q) : Nat) : Int), .string (hs (fe q))] 34)
 generalize hweq : (w.alloc (.cells #[.int .u64 ((zl q.num : Nat) : Int), .string (zh q.num), .bool (zs q.num), .int .u64 ((lo (fe q) : Nat) : Int), .string (hs (fe q))] 34)) = x1 at hL0
 go_enter Tryz.func39, Tryz.ntmps39
 go_wp2_with fail
 with_reducible refine Calls.mono (I1.out _) ?_
 rintro e x2 ⟨rfl, hb⟩
 replace hL0 := hL0.call hb
 clear hb hweq
 go_wp2_with fail
 with_reducible refine Calls.mono (P1.out _) ?_
 rintro e x3 ⟨rfl, hb⟩
 replace hL0 := hL0.call hb
 clear hb
 replace hL0 := (hL0.new rfl [.int .u64 ((zl t1.num : Nat) : Int), .string (zh t1.num), .bool (zs t1.num), .int .u64 ((lo (fe t1) : Nat) : Int), .string (hs (fe t1))] 34)
 generalize hweq : (x3.alloc (.cells #[.int .u64 ((zl t1.num : Nat) : Int), .string (zh t1.num), .bool (zs t1.num), .int .u64 ((lo (fe t1) : Nat) : Int), .string (hs (fe t1))] 34)) = x4 at hL0
 have hN0 := cells_of _ 0 [] rfl (hL0.get _ _ List.mem_cons_self)
 simp only [cellsF, and_true, Nat.zero_add, Nat.reduceAdd] at hN0
 have hN1 := cells_of _ 0 [] rfl (hL0.get _ _ (List.mem_cons_of_mem _ List.mem_cons_self))
 simp only [cellsF, and_true, Nat.zero_add, Nat.reduceAdd] at hN1
 go_wp2_with fail
 clear hN0 hN1
 with_reducible refine Calls.mono (M1.out _) ?_
 rintro e x5 ⟨rfl, hb⟩
 replace hL0 := hL0.call hb
 clear hb hweq
 have hA := hL0.fc
 simp only [fcG, cellsF, neK, and_true, ne_eq, Nat.zero_add, Nat.reduceAdd] at hA
 have hP := hL0.put 1 (w.heap.size) _ rfl [.int .u64 ((zl a1.num : Nat) : Int), .string (zh a1.num), .bool (zs a1.num), .int .u64 ((lo (fe a1) : Nat) : Int), .string (hs (fe a1))] rfl
 simp only [setAll, List.set_cons_zero, List.set_cons_succ] at hP
 generalize hput1 : (((((x5.setCell ⟨w.heap.size, 0, none⟩ (.int .u64 ((zl a1.num : Nat) : Int))).setCell ⟨w.heap.size, 1, none⟩ (.string (zh a1.num))).setCell ⟨w.heap.size, 2, none⟩ (.bool (zs a1.num))).setCell ⟨w.heap.size, 3, none⟩ (.int .u64 ((lo (fe a1) : Nat) : Int))).setCell ⟨w.heap.size, 4, none⟩ (.string (hs (fe a1)))) = x6 at hP
 have hB1 := hP.fc
 simp only [fcG, cellsF, neK, and_true, ne_eq, Nat.zero_add, Nat.reduceAdd] at hB1
 replace hL0 := hP
 go_wp2_with fail
 clear hA
 with_reducible refine Calls.mono (W1.out _) ?_
 rintro e x7 ⟨rfl, hb⟩
 replace hL0 := hL0.call hb
 clear hb hput1 hB1
 go_wp2_with fail
 exact bodyPost_ret (v := .bool b) (by simp [results, Tryz.results39, go_sem]) rfl ⟨rfl, hL0.bl⟩
set_option maxHeartbeats 4000000 in
set_option maxRecDepth 100000 in
theorem lround_per (m n : Int) (b : Bool) (q tn t1 a1 t2 o1 s1 a2 : Rat) (I1 : ∀ w, Calls Tryz.prog 32 #[.int .i64 10] w fun xe w' => xe = .returned (fracV tn) ∧ Below w.heap.size w w') (P1 : ∀ w, Calls Tryz.prog 82 #[fracV tn, .int .i64 m] w fun xe w' => xe = .returned (.tuple #[fracV t1, .int .i64 0]) ∧ Below w.heap.size w w') (M1 : ∀ w, Calls Tryz.prog 31 #[fracV q, fracV t1] w fun xe w' => xe = .returned (fracV a1) ∧ Below w.heap.size w w') (P2 : ∀ w, Calls Tryz.prog 82 #[fracV tn, .int .i64 n] w fun xe w' => xe = .returned (.tuple #[fracV t2, .int .i64 0]) ∧ Below w.heap.size w w') (I2 : ∀ w, Calls Tryz.prog 32 #[.int .i64 1] w fun xe w' => xe = .returned (fracV o1) ∧ Below w.heap.size w w') (S1 : ∀ w, Calls Tryz.prog 30 #[fracV t2, fracV o1] w fun xe w' => xe = .returned (fracV s1) ∧ Below w.heap.size w w') (M2 : ∀ w, Calls Tryz.prog 31 #[fracV a1, fracV s1] w fun xe w' => xe = .returned (fracV a2) ∧ Below w.heap.size w w') (W1 : ∀ w, Calls Tryz.prog 28 #[fracV a2] w fun xe w' => xe = .returned (.bool b) ∧ Below w.heap.size w w') (g : decide (0 < n) = true) (w : World) :
  Calls Tryz.prog 39 #[fracV q, .int .i64 m, .int .i64 n] w fun xe w' => xe = .returned (.bool b) ∧ Below w.heap.size w w' := by
 have hL0 : GL w w [] := GL.start w
 replace I1 := Lib.hid I1
 replace P1 := Lib.hid P1
 replace M1 := Lib.hid M1
 replace P2 := Lib.hid P2
 replace I2 := Lib.hid I2
 replace S1 := Lib.hid S1
 replace M2 := Lib.hid M2
 replace W1 := Lib.hid W1
 replace hL0 := (hL0.new rfl [.int .u64 ((zl q.num : Nat) : Int), .string (zh q.num), .bool (zs q.num), .int .u64 ((lo (fe q) : Nat) : Int), .string (hs (fe q))] 34)
 generalize hweq : (w.alloc (.cells #[.int .u64 ((zl q.num : Nat) : Int), .string (zh q.num), .bool (zs q.num), .int .u64 ((lo (fe q) : Nat) : Int), .string (hs (fe q))] 34)) = x1 at hL0
 go_enter Tryz.func39, Tryz.ntmps39
 go_wp2_with fail
 with_reducible refine Calls.mono (I1.out _) ?_
 rintro e x2 ⟨rfl, hb⟩
 replace hL0 := hL0.call hb
 clear hb hweq
 go_wp2_with fail
 with_reducible refine Calls.mono (P1.out _) ?_
 rintro e x3 ⟨rfl, hb⟩
 replace hL0 := hL0.call hb
 clear hb
 replace hL0 := (hL0.new rfl [.int .u64 ((zl t1.num : Nat) : Int), .string (zh t1.num), .bool (zs t1.num), .int .u64 ((lo (fe t1) : Nat) : Int), .string (hs (fe t1))] 34)
 generalize hweq : (x3.alloc (.cells #[.int .u64 ((zl t1.num : Nat) : Int), .string (zh t1.num), .bool (zs t1.num), .int .u64 ((lo (fe t1) : Nat) : Int), .string (hs (fe t1))] 34)) = x4 at hL0
 have hN0 := cells_of _ 0 [] rfl (hL0.get _ _ List.mem_cons_self)
 simp only [cellsF, and_true, Nat.zero_add, Nat.reduceAdd] at hN0
 have hN1 := cells_of _ 0 [] rfl (hL0.get _ _ (List.mem_cons_of_mem _ List.mem_cons_self))
 simp only [cellsF, and_true, Nat.zero_add, Nat.reduceAdd] at hN1
 go_wp2_with fail
 clear hN0 hN1
 with_reducible refine Calls.mono (M1.out _) ?_
 rintro e x5 ⟨rfl, hb⟩
 replace hL0 := hL0.call hb
 clear hb hweq
 have hA := hL0.fc
 simp only [fcG, cellsF, neK, and_true, ne_eq, Nat.zero_add, Nat.reduceAdd] at hA
 have hP := hL0.put 1 (w.heap.size) _ rfl [.int .u64 ((zl a1.num : Nat) : Int), .string (zh a1.num), .bool (zs a1.num), .int .u64 ((lo (fe a1) : Nat) : Int), .string (hs (fe a1))] rfl
 simp only [setAll, List.set_cons_zero, List.set_cons_succ] at hP
 generalize hput1 : (((((x5.setCell ⟨w.heap.size, 0, none⟩ (.int .u64 ((zl a1.num : Nat) : Int))).setCell ⟨w.heap.size, 1, none⟩ (.string (zh a1.num))).setCell ⟨w.heap.size, 2, none⟩ (.bool (zs a1.num))).setCell ⟨w.heap.size, 3, none⟩ (.int .u64 ((lo (fe a1) : Nat) : Int))).setCell ⟨w.heap.size, 4, none⟩ (.string (hs (fe a1)))) = x6 at hP
 have hB1 := hP.fc
 simp only [fcG, cellsF, neK, and_true, ne_eq, Nat.zero_add, Nat.reduceAdd] at hB1
 replace hL0 := hP
 go_wp2_with fail
 clear hA
 with_reducible refine Calls.mono (I1.out _) ?_
 rintro e x7 ⟨rfl, hb⟩
 replace hL0 := hL0.call hb
 clear hb hput1 hB1
 go_wp2_with fail
 with_reducible refine Calls.mono (P2.out _) ?_
 rintro e x8 ⟨rfl, hb⟩
 replace hL0 := hL0.call hb
 clear hb
 replace hL0 := (hL0.new rfl [.int .u64 ((zl t2.num : Nat) : Int), .string (zh t2.num), .bool (zs t2.num), .int .u64 ((lo (fe t2) : Nat) : Int), .string (hs (fe t2))] 34)
 generalize hweq : (x8.alloc (.cells #[.int .u64 ((zl t2.num : Nat) : Int), .string (zh t2.num), .bool (zs t2.num), .int .u64 ((lo (fe t2) : Nat) : Int), .string (hs (fe t2))] 34)) = x9 at hL0
 go_upto_region 5 with fail
 clear hweq
 obtain ⟨α, iα, F, hF1, hF2⟩ := cls x9
 have hq0 := cls_box hF1 hL0 _ _ List.mem_cons_self
 simp only [cellsC, and_true, Nat.zero_add, Nat.reduceAdd] at hq0
 have hq1 := cls_box hF1 hL0 _ _ (List.mem_cons_of_mem _ (List.mem_cons_of_mem _ List.mem_cons_self))
 simp only [cellsC, and_true, Nat.zero_add, Nat.reduceAdd] at hq1
 refine region_qs 5 (C := fun w' => ∃ x, w' = F x) (by kernel_rfl) (by kernel_rfl) (cls_drew hF2) ?_
 simp only [List.take_succ_cons, List.take_zero, List.drop_succ_cons, List.drop_zero, List.take_nil, List.drop_nil]
 repeat (go_big_quiet_step (first | fail | (go_at_call 32; with_reducible exact cls_call hF1 hF2 I2.out _) | (go_at_call 30; with_reducible exact cls_call hF1 hF2 S1.out _) | (go_at_call 31; with_reducible exact cls_call hF1 hF2 M2.out _)))
 refine wpQuiet_nil ?_
 rintro wq ⟨xq, rfl⟩
 replace hL0 := hL0.call (hF1 xq)
 clear  hq0 hq1 hF2
 generalize F xq = x10 at hL0 ⊢
 clear hF1 xq iα F α
 have hA := hL0.fc
 simp only [fcG, cellsF, neK, and_true, ne_eq, Nat.zero_add, Nat.reduceAdd] at hA
 have hP := hL0.put 2 (w.heap.size) _ rfl [.int .u64 ((zl a2.num : Nat) : Int), .string (zh a2.num), .bool (zs a2.num), .int .u64 ((lo (fe a2) : Nat) : Int), .string (hs (fe a2))] rfl
 simp only [setAll, List.set_cons_zero, List.set_cons_succ] at hP
 generalize hput2 : (((((x10.setCell ⟨w.heap.size, 0, none⟩ (.int .u64 ((zl a2.num : Nat) : Int))).setCell ⟨w.heap.size, 1, none⟩ (.string (zh a2.num))).setCell ⟨w.heap.size, 2, none⟩ (.bool (zs a2.num))).setCell ⟨w.heap.size, 3, none⟩ (.int .u64 ((lo (fe a2) : Nat) : Int))).setCell ⟨w.heap.size, 4, none⟩ (.string (hs (fe a2)))) = x11 at hP
 have hB2 := hP.fc
 simp only [fcG, cellsF, neK, and_true, ne_eq, Nat.zero_add, Nat.reduceAdd] at hB2
 replace hL0 := hP
 go_wp2_with fail
 clear hA
 with_reducible refine Calls.mono (W1.out _) ?_
 rintro e x12 ⟨rfl, hb⟩
 replace hL0 := hL0.call hb
 clear hb hput2 hB2
 go_wp2_with fail
 exact bodyPost_ret (v := .bool b) (by simp [results, Tryz.results39, go_sem]) rfl ⟨rfl, hL0.bl⟩
set_option maxHeartbeats 4000000 in
set_option maxRecDepth 100000 in
theorem drounds_lim (nx dx k16 d1 d2 c0 : Int) (q z s g : Rat) (HO : ∀ w, Calls Tryz.prog 37 #[.int .i64 nx, .int .i64 d2] w fun xe w' => xe = .returned (.tuple #[fracV q, .int .i64 c0]) ∧ Below w.heap.size w w') (Y1 : ∀ w, Calls Tryz.prog 21 #[fracV q] w fun xe w' => xe = .returned (.tuple #[.int .i64 0, .int .i64 0, .int .i64 3]) ∧ Below w.heap.size w w') (I1 : ∀ w, Calls Tryz.prog 32 #[.int .i64 k16] w fun xe w' => xe = .returned (fracV z) ∧ Below w.heap.size w w') (A1 : ∀ w, Calls Tryz.prog 38 #[fracV q, fracV z] w fun xe w' => xe = .returned (fracV s) ∧ Below w.heap.size w w') (Y2 : ∀ w, Calls Tryz.prog 21 #[fracV s] w fun xe w' => xe = .returned (.tuple #[.int .i64 0, .int .i64 0, .int .i64 3]) ∧ Below w.heap.size w w') (N1 : ∀ w, Calls Tryz.prog 36 #[fracV q] w fun xe w' => xe = .returned (fracV g) ∧ Below w.heap.size w w') (Y3 : ∀ w, Calls Tryz.prog 21 #[fracV g] w fun xe w' => xe = .returned (.tuple #[.int .i64 0, .int .i64 0, .int .i64 3]) ∧ Below w.heap.size w w') (KT : World → Prop) (hKT : Keeps KT) (HW : ∀ w, KT w → Calls Tryz.prog 11 #[] w fun xe w' => xe = .returned (.bool true) ∧ Below w.heap.size w w') (e1 : dx.tmod 200 = d1) (e2 : IntKind.i64.wrap d1 = d1) (e3 : d1 + 1 = d2) (e4 : IntKind.i64.wrap d2 = d2) (e5 : IntKind.i64.wrap k16 = k16) (w : World) (kKT : KT w) :
  Calls Tryz.prog 9 #[.agg #[.int .i64 nx, .int .u32 dx], .int .i16 k16] w fun xe w' => xe = .returned (.bool true) ∧ Below w.heap.size w w' := by
 have hL0 : GL w w [] := GL.start w
 replace HO := Lib.hid HO
 replace Y1 := Lib.hid Y1
 replace I1 := Lib.hid I1
 replace A1 := Lib.hid A1
 replace Y2 := Lib.hid Y2
 replace N1 := Lib.hid N1
 replace Y3 := Lib.hid Y3
 replace hKT := Lib.hid hKT
 replace HW := Lib.hid HW
 replace hL0 := (hL0.new rfl [.int .i64 nx, .int .u32 dx] 58)
 generalize hweq : (w.alloc (.cells #[.int .i64 nx, .int .u32 dx] 58)) = x1 at hL0
 go_enter Tryz.func9, Tryz.ntmps9
 have hN0 := cells_of _ 0 [] rfl (hL0.get _ _ List.mem_cons_self)
 simp only [cellsF, and_true, Nat.zero_add, Nat.reduceAdd] at hN0
 go_wp2_with fail
 clear hN0
 with_reducible refine Calls.mono (HO.out _) ?_
 rintro e x2 ⟨rfl, hb⟩
 replace hL0 := hL0.call hb
 clear hb hweq
 replace hL0 := (hL0.new rfl [.int .u64 ((zl q.num : Nat) : Int), .string (zh q.num), .bool (zs q.num), .int .u64 ((lo (fe q) : Nat) : Int), .string (hs (fe q))] 34)
 generalize hweq : (x2.alloc (.cells #[.int .u64 ((zl q.num : Nat) : Int), .string (zh q.num), .bool (zs q.num), .int .u64 ((lo (fe q) : Nat) : Int), .string (hs (fe q))] 34)) = x3 at hL0
 have hN0 := cells_of _ 0 [] rfl (hL0.get _ _ List.mem_cons_self)
 simp only [cellsF, and_true, Nat.zero_add, Nat.reduceAdd] at hN0
 go_wp2_with fail
 clear hN0
 with_reducible refine Calls.mono (Y1.out _) ?_
 rintro e x4 ⟨rfl, hb⟩
 replace hL0 := hL0.call hb
 clear hb hweq
 go_upto_region 3 with fail
 obtain ⟨α, iα, F, hF1, hF2⟩ := cls x4
 have hq0 := cls_box hF1 hL0 _ _ List.mem_cons_self
 simp only [cellsC, and_true, Nat.zero_add, Nat.reduceAdd] at hq0
 refine region_qs 13 (C := fun w' => ∃ x, w' = F x) (by kernel_rfl) (by kernel_rfl) (cls_drew hF2) ?_
 simp only [List.take_succ_cons, List.take_zero, List.drop_succ_cons, List.drop_zero, List.take_nil, List.drop_nil]
 repeat (go_big_quiet_step (first | fail | (go_at_call 32; with_reducible exact cls_call hF1 hF2 I1.out _) | (go_at_call 38; with_reducible exact cls_call hF1 hF2 A1.out _) | (go_at_call 21; with_reducible exact cls_call hF1 hF2 Y2.out _)))
 refine wpQuiet_nil ?_
 rintro wq ⟨xq, rfl⟩
 replace hL0 := hL0.call (hF1 xq)
 clear  hq0 hF2
 generalize F xq = x5 at hL0 ⊢
 clear hF1 xq iα F α
 have hN0 := cells_of _ 0 [] rfl (hL0.get _ _ List.mem_cons_self)
 simp only [cellsF, and_true, Nat.zero_add, Nat.reduceAdd] at hN0
 go_wp2_with fail
 clear hN0
 with_reducible refine Calls.mono (N1.out _) ?_
 rintro e x6 ⟨rfl, hb⟩
 replace hL0 := hL0.call hb
 clear hb
 go_wp2_with fail
 with_reducible refine Calls.mono (Y3.out _) ?_
 rintro e x7 ⟨rfl, hb⟩
 replace hL0 := hL0.call hb
 clear hb
 go_wp2_with fail
 with_reducible refine Calls.mono (HW.out _ (hKT.out.at hL0.bl kKT)) ?_
 rintro e x8 ⟨rfl, hb⟩
 replace hL0 := hL0.call hb
 clear hb
 go_wp2_with fail
 exact bodyPost_ret (v := .bool true) (by simp [results, Tryz.results9, go_sem]) rfl ⟨rfl, hL0.bl⟩
set_option maxHeartbeats 4000000 in
set_option maxRecDepth 100000 in
theorem drounds_z (nx dx k16 d1 d2 c0 : Int) (q z s g : Rat) (HO : ∀ w, Calls Tryz.prog 37 #[.int .i64 nx, .int .i64 d2] w fun xe w' => xe = .returned (.tuple #[fracV q, .int .i64 c0]) ∧ Below w.heap.size w w') (Y1 : ∀ w, Calls Tryz.prog 21 #[fracV q] w fun xe w' => xe = .returned (.tuple #[.int .i64 0, .int .i64 0, .int .i64 0]) ∧ Below w.heap.size w w') (I1 : ∀ w, Calls Tryz.prog 32 #[.int .i64 k16] w fun xe w' => xe = .returned (fracV z) ∧ Below w.heap.size w w') (A1 : ∀ w, Calls Tryz.prog 38 #[fracV q, fracV z] w fun xe w' => xe = .returned (fracV s) ∧ Below w.heap.size w w') (Y2 : ∀ w, Calls Tryz.prog 21 #[fracV s] w fun xe w' => xe = .returned (.tuple #[.int .i64 0, .int .i64 0, .int .i64 0]) ∧ Below w.heap.size w w') (N1 : ∀ w, Calls Tryz.prog 36 #[fracV q] w fun xe w' => xe = .returned (fracV g) ∧ Below w.heap.size w w') (Y3 : ∀ w, Calls Tryz.prog 21 #[fracV g] w fun xe w' => xe = .returned (.tuple #[.int .i64 0, .int .i64 0, .int .i64 0]) ∧ Below w.heap.size w w') (R1 : ∀ w, Calls Tryz.prog 39 #[fracV q, .int .i64 0, .int .i64 0] w fun xe w' => xe = .returned (.bool true) ∧ Below w.heap.size w w') (KT : World → Prop) (hKT : Keeps KT) (HW : ∀ w, KT w → Calls Tryz.prog 11 #[] w fun xe w' => xe = .returned (.bool true) ∧ Below w.heap.size w w') (e1 : dx.tmod 200 = d1) (e2 : IntKind.i64.wrap d1 = d1) (e3 : d1 + 1 = d2) (e4 : IntKind.i64.wrap d2 = d2) (e5 : IntKind.i64.wrap k16 = k16) (w : World) (kKT : KT w) :
  Calls Tryz.prog 9 #[.agg #[.int .i64 nx, .int .u32 dx], .int .i16 k16] w fun e w' => e = .returned (.bool true) ∧ Below w.heap.size w w' := by
 replace HO := Lib.hid HO
 replace Y1 := Lib.hid Y1
 replace I1 := Lib.hid I1
 replace A1 := Lib.hid A1
 replace Y2 := Lib.hid Y2
 replace N1 := Lib.hid N1
 replace Y3 := Lib.hid Y3
 replace R1 := Lib.hid R1
 replace hKT := Lib.hid hKT
 replace HW := Lib.hid HW
 have hL0 : GL w w [] := GL.start w
 have hS : SS w [] := SS.nil w
 replace hS := (hS.new (.cells #[.int .i64 nx, .int .u32 dx] 58))
 replace hL0 := (hL0.new rfl [.int .i64 nx, .int .u32 dx] 58)
 generalize hweq : (w.alloc (.cells #[.int .i64 nx, .int .u32 dx] 58)) = x1 at hL0 hS
 go_enter Tryz.func9, Tryz.ntmps9
 have hN0 := cells_of _ 0 [] rfl (hL0.get _ _ List.mem_cons_self)
 simp only [cellsF, and_true, Nat.zero_add, Nat.reduceAdd] at hN0
 go_wp2_with fail
 clear hN0
 with_reducible refine Calls.mono (HO.out _) ?_
 rintro e x2 ⟨rfl, hb⟩
 replace hL0 := hL0.call hb
 replace hS := hS.call hb
 clear hb hweq
 replace hS := (hS.new (.cells #[.int .u64 ((zl q.num : Nat) : Int), .string (zh q.num), .bool (zs q.num), .int .u64 ((lo (fe q) : Nat) : Int), .string (hs (fe q))] 34))
 replace hL0 := (hL0.new rfl [.int .u64 ((zl q.num : Nat) : Int), .string (zh q.num), .bool (zs q.num), .int .u64 ((lo (fe q) : Nat) : Int), .string (hs (fe q))] 34)
 generalize hweq : (x2.alloc (.cells #[.int .u64 ((zl q.num : Nat) : Int), .string (zh q.num), .bool (zs q.num), .int .u64 ((lo (fe q) : Nat) : Int), .string (hs (fe q))] 34)) = x3 at hL0 hS
 have hN0 := cells_of _ 0 [] rfl (hL0.get _ _ List.mem_cons_self)
 simp only [cellsF, and_true, Nat.zero_add, Nat.reduceAdd] at hN0
 go_wp2_with fail
 clear hN0
 with_reducible refine Calls.mono (Y1.out _) ?_
 rintro e x4 ⟨rfl, hb⟩
 replace hL0 := hL0.call hb
 replace hS := hS.call hb
 clear hb hweq
 go_upto_region 3 with fail
 obtain ⟨α, iα, F, hF1, hF2⟩ := cls x4
 have hq0 := cls_box hF1 hL0 _ _ List.mem_cons_self
 simp only [cellsC, and_true, Nat.zero_add, Nat.reduceAdd] at hq0
 refine region_qs 13 (C := fun w' => ∃ x, w' = F x) (by kernel_rfl) (by kernel_rfl) (cls_drew hF2) ?_
 simp only [List.take_succ_cons, List.take_zero, List.drop_succ_cons, List.drop_zero, List.take_nil, List.drop_nil]
 repeat (go_big_quiet_step (first | fail | (go_at_call 32; with_reducible exact cls_call hF1 hF2 I1.out _) | (go_at_call 38; with_reducible exact cls_call hF1 hF2 A1.out _) | (go_at_call 21; with_reducible exact cls_call hF1 hF2 Y2.out _)))
 refine wpQuiet_nil ?_
 rintro wq ⟨xq, rfl⟩
 replace hL0 := hL0.call (hF1 xq)
 replace hS := hS.call (hF1 xq)
 clear  hq0 hF2
 generalize F xq = x5 at hL0 hS ⊢
 clear hF1 xq iα F α
 have hN0 := cells_of _ 0 [] rfl (hL0.get _ _ List.mem_cons_self)
 simp only [cellsF, and_true, Nat.zero_add, Nat.reduceAdd] at hN0
 go_wp2_with fail
 clear hN0
 with_reducible refine Calls.mono (N1.out _) ?_
 rintro e x6 ⟨rfl, hb⟩
 replace hL0 := hL0.call hb
 replace hS := hS.call hb
 clear hb
 go_wp2_with fail
 with_reducible refine Calls.mono (Y3.out _) ?_
 rintro e x7 ⟨rfl, hb⟩
 replace hL0 := hL0.call hb
 replace hS := hS.call hb
 clear hb
 have hN0 := cells_of _ 0 [] rfl (hL0.get _ _ List.mem_cons_self)
 simp only [cellsF, and_true, Nat.zero_add, Nat.reduceAdd] at hN0
 go_wp2_with fail
 clear hN0
 with_reducible refine Calls.mono (R1.out _) ?_
 rintro e x8 ⟨rfl, hb⟩
 replace hL0 := hL0.call hb
 replace hS := hS.call hb
 clear hb
 go_wp2_with fail
 go_loopg [16] 0 (fun gk iv wr => iv = .int .i64 1 ∧ GL w wr [(x2.heap.size, [.int .u64 ((zl q.num : Nat) : Int), .string (zh q.num), .bool (zs q.num), .int .u64 ((lo (fe q) : Nat) : Int), .string (hs (fe q))]), (w.heap.size, [.int .i64 nx, .int .u32 dx])])
 case atStart => exact ⟨by first | rfl | go_num, hL0⟩
 case round =>
  clear hL0 hS
  obtain ⟨rfl, hL0⟩ := hrel
  have hS := SS.nil wr
  go_wp2_with fail
  with_reducible refine Calls.mono (HW.out _ (hKT.out.at hL0.bl kKT)) ?_
  rintro e x9 ⟨rfl, hb⟩
  replace hL0 := hL0.call hb
  replace hS := hS.call hb
  clear hb
  go_wp2_with fail
  exact bodyPost_ret (v := .bool true) (by simp [results, Tryz.results9, go_sem]) rfl ⟨rfl, hL0.bl⟩
set_option maxHeartbeats 4000000 in
set_option maxRecDepth 100000 in
theorem drounds_m (nx dx k16 d1 d2 c0 : Int) (q z s g : Rat) (m : Nat) (m1 : Int) (HO : ∀ w, Calls Tryz.prog 37 #[.int .i64 nx, .int .i64 d2] w fun xe w' => xe = .returned (.tuple #[fracV q, .int .i64 c0]) ∧ Below w.heap.size w w') (Y1 : ∀ w, Calls Tryz.prog 21 #[fracV q] w fun xe w' => xe = .returned (.tuple #[.int .i64 (m : Int), .int .i64 0, .int .i64 0]) ∧ Below w.heap.size w w') (I1 : ∀ w, Calls Tryz.prog 32 #[.int .i64 k16] w fun xe w' => xe = .returned (fracV z) ∧ Below w.heap.size w w') (A1 : ∀ w, Calls Tryz.prog 38 #[fracV q, fracV z] w fun xe w' => xe = .returned (fracV s) ∧ Below w.heap.size w w') (Y2 : ∀ w, Calls Tryz.prog 21 #[fracV s] w fun xe w' => xe = .returned (.tuple #[.int .i64 (m : Int), .int .i64 0, .int .i64 0]) ∧ Below w.heap.size w w') (N1 : ∀ w, Calls Tryz.prog 36 #[fracV q] w fun xe w' => xe = .returned (fracV g) ∧ Below w.heap.size w w') (Y3 : ∀ w, Calls Tryz.prog 21 #[fracV g] w fun xe w' => xe = .returned (.tuple #[.int .i64 (m : Int), .int .i64 0, .int .i64 0]) ∧ Below w.heap.size w w') (R1 : ∀ w, Calls Tryz.prog 39 #[fracV q, .int .i64 (m : Int), .int .i64 0] w fun xe w' => xe = .returned (.bool true) ∧ Below w.heap.size w w') (R2 : ∀ w, Calls Tryz.prog 39 #[fracV q, .int .i64 m1, .int .i64 0] w fun xe w' => xe = .returned (.bool false) ∧ Below w.heap.size w w') (KT : World → Prop) (hKT : Keeps KT) (HW : ∀ w, KT w → Calls Tryz.prog 11 #[] w fun xe w' => xe = .returned (.bool true) ∧ Below w.heap.size w w') (e1 : dx.tmod 200 = d1) (e2 : IntKind.i64.wrap d1 = d1) (e3 : d1 + 1 = d2) (e4 : IntKind.i64.wrap d2 = d2) (e5 : IntKind.i64.wrap k16 = k16) (f1 : decide (0 < (m : Int)) = true) (f1n : decide (0 < m) = true) (f2 : (m : Int) - 1 = m1) (f3 : IntKind.i64.wrap m1 = m1) (f4 : wrap64 m1 = m1) (w : World) (kKT : KT w) :
  Calls Tryz.prog 9 #[.agg #[.int .i64 nx, .int .u32 dx], .int .i16 k16] w fun e w' => e = .returned (.bool true) ∧ Below w.heap.size w w' := by
 replace HO := Lib.hid HO
 replace Y1 := Lib.hid Y1
 replace I1 := Lib.hid I1
 replace A1 := Lib.hid A1
 replace Y2 := Lib.hid Y2
 replace N1 := Lib.hid N1
 replace Y3 := Lib.hid Y3
 replace R1 := Lib.hid R1
 replace R2 := Lib.hid R2
 replace hKT := Lib.hid hKT
 replace HW := Lib.hid HW
 have hL0 : GL w w [] := GL.start w
 have hS : SS w [] := SS.nil w
 replace hS := (hS.new (.cells #[.int .i64 nx, .int .u32 dx] 58))
 replace hL0 := (hL0.new rfl [.int .i64 nx, .int .u32 dx] 58)
 generalize hweq : (w.alloc (.cells #[.int .i64 nx, .int .u32 dx] 58)) = x1 at hL0 hS
 go_enter Tryz.func9, Tryz.ntmps9
 have hN0 := cells_of _ 0 [] rfl (hL0.get _ _ List.mem_cons_self)
 simp only [cellsF, and_true, Nat.zero_add, Nat.reduceAdd] at hN0
 go_wp2_with fail
 clear hN0
 with_reducible refine Calls.mono (HO.out _) ?_
 rintro e x2 ⟨rfl, hb⟩
 replace hL0 := hL0.call hb
 replace hS := hS.call hb
 clear hb hweq
 replace hS := (hS.new (.cells #[.int .u64 ((zl q.num : Nat) : Int), .string (zh q.num), .bool (zs q.num), .int .u64 ((lo (fe q) : Nat) : Int), .string (hs (fe q))] 34))
 replace hL0 := (hL0.new rfl [.int .u64 ((zl q.num : Nat) : Int), .string (zh q.num), .bool (zs q.num), .int .u64 ((lo (fe q) : Nat) : Int), .string (hs (fe q))] 34)
 generalize hweq : (x2.alloc (.cells #[.int .u64 ((zl q.num : Nat) : Int), .string (zh q.num), .bool (zs q.num), .int .u64 ((lo (fe q) : Nat) : Int), .string (hs (fe q))] 34)) = x3 at hL0 hS
 have hN0 := cells_of _ 0 [] rfl (hL0.get _ _ List.mem_cons_self)
 simp only [cellsF, and_true, Nat.zero_add, Nat.reduceAdd] at hN0
 go_wp2_with fail
 clear hN0
 with_reducible refine Calls.mono (Y1.out _) ?_
 rintro e x4 ⟨rfl, hb⟩
 replace hL0 := hL0.call hb
 replace hS := hS.call hb
 clear hb hweq
 go_upto_region 3 with fail
 obtain ⟨α, iα, F, hF1, hF2⟩ := cls x4
 have hq0 := cls_box hF1 hL0 _ _ List.mem_cons_self
 simp only [cellsC, and_true, Nat.zero_add, Nat.reduceAdd] at hq0
 refine region_qs 13 (C := fun w' => ∃ x, w' = F x) (by kernel_rfl) (by kernel_rfl) (cls_drew hF2) ?_
 simp only [List.take_succ_cons, List.take_zero, List.drop_succ_cons, List.drop_zero, List.take_nil, List.drop_nil]
 repeat (go_big_quiet_step (first | fail | (go_at_call 32; with_reducible exact cls_call hF1 hF2 I1.out _) | (go_at_call 38; with_reducible exact cls_call hF1 hF2 A1.out _) | (go_at_call 21; with_reducible exact cls_call hF1 hF2 Y2.out _)))
 refine wpQuiet_nil ?_
 rintro wq ⟨xq, rfl⟩
 replace hL0 := hL0.call (hF1 xq)
 replace hS := hS.call (hF1 xq)
 clear  hq0 hF2
 generalize F xq = x5 at hL0 hS ⊢
 clear hF1 xq iα F α
 have hN0 := cells_of _ 0 [] rfl (hL0.get _ _ List.mem_cons_self)
 simp only [cellsF, and_true, Nat.zero_add, Nat.reduceAdd] at hN0
 go_wp2_with fail
 clear hN0
 with_reducible refine Calls.mono (N1.out _) ?_
 rintro e x6 ⟨rfl, hb⟩
 replace hL0 := hL0.call hb
 replace hS := hS.call hb
 clear hb
 go_wp2_with fail
 with_reducible refine Calls.mono (Y3.out _) ?_
 rintro e x7 ⟨rfl, hb⟩
 replace hL0 := hL0.call hb
 replace hS := hS.call hb
 clear hb
 have hN0 := cells_of _ 0 [] rfl (hL0.get _ _ List.mem_cons_self)
 simp only [cellsF, and_true, Nat.zero_add, Nat.reduceAdd] at hN0
 go_wp2_with fail
 clear hN0
 with_reducible refine Calls.mono (R1.out _) ?_
 rintro e x8 ⟨rfl, hb⟩
 replace hL0 := hL0.call hb
 replace hS := hS.call hb
 clear hb
 have hN0 := cells_of _ 0 [] rfl (hL0.get _ _ List.mem_cons_self)
 simp only [cellsF, and_true, Nat.zero_add, Nat.reduceAdd] at hN0
 go_wp2_with fail
 clear hN0
 with_reducible refine Calls.mono (R2.out _) ?_
 rintro e x9 ⟨rfl, hb⟩
 replace hL0 := hL0.call hb
 replace hS := hS.call hb
 clear hb
 go_wp2_with fail
 go_loopg [16] 0 (fun gk iv wr => iv = .int .i64 1 ∧ GL w wr [(x2.heap.size, [.int .u64 ((zl q.num : Nat) : Int), .string (zh q.num), .bool (zs q.num), .int .u64 ((lo (fe q) : Nat) : Int), .string (hs (fe q))]), (w.heap.size, [.int .i64 nx, .int .u32 dx])])
 case atStart => exact ⟨by first | rfl | go_num, hL0⟩
 case round =>
  clear hL0 hS
  obtain ⟨rfl, hL0⟩ := hrel
  have hS := SS.nil wr
  go_wp2_with fail
  with_reducible refine Calls.mono (HW.out _ (hKT.out.at hL0.bl kKT)) ?_
  rintro e x10 ⟨rfl, hb⟩
  replace hL0 := hL0.call hb
  replace hS := hS.call hb
  clear hb
  go_wp2_with fail
  exact bodyPost_ret (v := .bool true) (by simp [results, Tryz.results9, go_sem]) rfl ⟨rfl, hL0.bl⟩
set_option maxHeartbeats 4000000 in
set_option maxRecDepth 100000 in
theorem drounds_n (nx dx k16 d1 d2 c0 : Int) (q z s g : Rat) (n : Nat) (HO : ∀ w, Calls Tryz.prog 37 #[.int .i64 nx, .int .i64 d2] w fun xe w' => xe = .returned (.tuple #[fracV q, .int .i64 c0]) ∧ Below w.heap.size w w') (Y1 : ∀ w, Calls Tryz.prog 21 #[fracV q] w fun xe w' => xe = .returned (.tuple #[.int .i64 0, .int .i64 (n : Int), .int .i64 0]) ∧ Below w.heap.size w w') (I1 : ∀ w, Calls Tryz.prog 32 #[.int .i64 k16] w fun xe w' => xe = .returned (fracV z) ∧ Below w.heap.size w w') (A1 : ∀ w, Calls Tryz.prog 38 #[fracV q, fracV z] w fun xe w' => xe = .returned (fracV s) ∧ Below w.heap.size w w') (Y2 : ∀ w, Calls Tryz.prog 21 #[fracV s] w fun xe w' => xe = .returned (.tuple #[.int .i64 0, .int .i64 (n : Int), .int .i64 0]) ∧ Below w.heap.size w w') (N1 : ∀ w, Calls Tryz.prog 36 #[fracV q] w fun xe w' => xe = .returned (fracV g) ∧ Below w.heap.size w w') (Y3 : ∀ w, Calls Tryz.prog 21 #[fracV g] w fun xe w' => xe = .returned (.tuple #[.int .i64 0, .int .i64 (n : Int), .int .i64 0]) ∧ Below w.heap.size w w') (R1 : ∀ w, Calls Tryz.prog 39 #[fracV q, .int .i64 0, .int .i64 (n : Int)] w fun xe w' => xe = .returned (.bool true) ∧ Below w.heap.size w w') (R3 : ∀ w, Calls Tryz.prog 39 #[fracV q, .int .i64 0, .int .i64 0] w fun xe w' => xe = .returned (.bool false) ∧ Below w.heap.size w w') (KT : World → Prop) (hKT : Keeps KT) (HW : ∀ w, KT w → Calls Tryz.prog 11 #[] w fun xe w' => xe = .returned (.bool true) ∧ Below w.heap.size w w') (e1 : dx.tmod 200 = d1) (e2 : IntKind.i64.wrap d1 = d1) (e3 : d1 + 1 = d2) (e4 : IntKind.i64.wrap d2 = d2) (e5 : IntKind.i64.wrap k16 = k16) (f5 : ((n : Int) == 0) = false) (f6 : (n == 0) = false) (f7 : ¬ n = 0) (hn100 : n ≤ 100) (HI : ∀ i : Nat, 1 ≤ i → i < n → ∀ w, Calls Tryz.prog 39 #[fracV q, .int .i64 0, .int .i64 (i : Int)] w fun xe w' => xe = .returned (.bool false) ∧ Below w.heap.size w w') (w : World) (kKT : KT w) :
  Calls Tryz.prog 9 #[.agg #[.int .i64 nx, .int .u32 dx], .int .i16 k16] w fun e w' => e = .returned (.bool true) ∧ Below w.heap.size w w' := by
 replace HO := Lib.hid HO
 replace Y1 := Lib.hid Y1
 replace I1 := Lib.hid I1
 replace A1 := Lib.hid A1
 replace Y2 := Lib.hid Y2
 replace N1 := Lib.hid N1
 replace Y3 := Lib.hid Y3
 replace R1 := Lib.hid R1
 replace R3 := Lib.hid R3
 replace hKT := Lib.hid hKT
 replace HW := Lib.hid HW
 have hL0 : GL w w [] := GL.start w
 have hS : SS w [] := SS.nil w
 replace HI := Lib.hid HI
 replace hS := (hS.new (.cells #[.int .i64 nx, .int .u32 dx] 58))
 replace hL0 := (hL0.new rfl [.int .i64 nx, .int .u32 dx] 58)
 generalize hweq : (w.alloc (.cells #[.int .i64 nx, .int .u32 dx] 58)) = x1 at hL0 hS
 go_enter Tryz.func9, Tryz.ntmps9
 have hN0 := cells_of _ 0 [] rfl (hL0.get _ _ List.mem_cons_self)
 simp only [cellsF, and_true, Nat.zero_add, Nat.reduceAdd] at hN0
 go_wp2_with fail
 clear hN0
 with_reducible refine Calls.mono (HO.out _) ?_
 rintro e x2 ⟨rfl, hb⟩
 replace hL0 := hL0.call hb
 replace hS := hS.call hb
 clear hb hweq
 replace hS := (hS.new (.cells #[.int .u64 ((zl q.num : Nat) : Int), .string (zh q.num), .bool (zs q.num), .int .u64 ((lo (fe q) : Nat) : Int), .string (hs (fe q))] 34))
 replace hL0 := (hL0.new rfl [.int .u64 ((zl q.num : Nat) : Int), .string (zh q.num), .bool (zs q.num), .int .u64 ((lo (fe q) : Nat) : Int), .string (hs (fe q))] 34)
 generalize hweq : (x2.alloc (.cells #[.int .u64 ((zl q.num : Nat) : Int), .string (zh q.num), .bool (zs q.num), .int .u64 ((lo (fe q) : Nat) : Int), .string (hs (fe q))] 34)) = x3 at hL0 hS
 have hN0 := cells_of _ 0 [] rfl (hL0.get _ _ List.mem_cons_self)
 simp only [cellsF, and_true, Nat.zero_add, Nat.reduceAdd] at hN0
 go_wp2_with fail
 clear hN0
 with_reducible refine Calls.mono (Y1.out _) ?_
 rintro e x4 ⟨rfl, hb⟩
 replace hL0 := hL0.call hb
 replace hS := hS.call hb
 clear hb hweq
 go_upto_region 3 with fail
 obtain ⟨α, iα, F, hF1, hF2⟩ := cls x4
 have hq0 := cls_box hF1 hL0 _ _ List.mem_cons_self
 simp only [cellsC, and_true, Nat.zero_add, Nat.reduceAdd] at hq0
 refine region_qs 13 (C := fun w' => ∃ x, w' = F x) (by kernel_rfl) (by kernel_rfl) (cls_drew hF2) ?_
 simp only [List.take_succ_cons, List.take_zero, List.drop_succ_cons, List.drop_zero, List.take_nil, List.drop_nil]
 repeat (go_big_quiet_step (first | fail | (go_at_call 32; with_reducible exact cls_call hF1 hF2 I1.out _) | (go_at_call 38; with_reducible exact cls_call hF1 hF2 A1.out _) | (go_at_call 21; with_reducible exact cls_call hF1 hF2 Y2.out _)))
 refine wpQuiet_nil ?_
 rintro wq ⟨xq, rfl⟩
 replace hL0 := hL0.call (hF1 xq)
 replace hS := hS.call (hF1 xq)
 clear  hq0 hF2
 generalize F xq = x5 at hL0 hS ⊢
 clear hF1 xq iα F α
 have hN0 := cells_of _ 0 [] rfl (hL0.get _ _ List.mem_cons_self)
 simp only [cellsF, and_true, Nat.zero_add, Nat.reduceAdd] at hN0
 go_wp2_with fail
 clear hN0
 with_reducible refine Calls.mono (N1.out _) ?_
 rintro e x6 ⟨rfl, hb⟩
 replace hL0 := hL0.call hb
 replace hS := hS.call hb
 clear hb
 go_wp2_with fail
 with_reducible refine Calls.mono (Y3.out _) ?_
 rintro e x7 ⟨rfl, hb⟩
 replace hL0 := hL0.call hb
 replace hS := hS.call hb
 clear hb
 have hN0 := cells_of _ 0 [] rfl (hL0.get _ _ List.mem_cons_self)
 simp only [cellsF, and_true, Nat.zero_add, Nat.reduceAdd] at hN0
 go_wp2_with fail
 clear hN0
 with_reducible refine Calls.mono (R1.out _) ?_
 rintro e x8 ⟨rfl, hb⟩
 replace hL0 := hL0.call hb
 replace hS := hS.call hb
 clear hb
 go_wp2_with fail
 go_loopg [16] (n - 1) (fun gk iv wr => ∃ (i : Nat), 1 ≤ i ∧ i + gk = n ∧ iv = .int .i64 (i : Int) ∧ GL w wr [(x2.heap.size, [.int .u64 ((zl q.num : Nat) : Int), .string (zh q.num), .bool (zs q.num), .int .u64 ((lo (fe q) : Nat) : Int), .string (hs (fe q))]), (w.heap.size, [.int .i64 nx, .int .u32 dx])])
 case atStart => exact ⟨1, Nat.le_refl _, by omega, by first | rfl | go_num, hL0⟩
 case round =>
  clear hL0 hS
  obtain ⟨i, hi1, hik, rfl, hL0⟩ := hrel
  have hS := SS.nil wr
  by_cases hin : i < n
  ·have k1 : (i : Int) < (n : Int) := by omega
   have kb : (i : Int) ≤ 1000000 := by omega
   have HI1 := Lib.hid (HI.out i hi1 hin)
   clear hin hi1
   have hN0 := cells_of _ 0 [] rfl (hL0.get _ _ List.mem_cons_self)
   simp only [cellsF, and_true, Nat.zero_add, Nat.reduceAdd] at hN0
   go_wp2_with fail
   clear hN0
   with_reducible refine Calls.mono (HI1.out _) ?_
   rintro e x9 ⟨rfl, hb⟩
   replace hL0 := hL0.call hb
   replace hS := hS.call hb
   clear hb
   go_wp2_with fail
   go_roundg (gk - 1)
   case measure => omega
   case rel => exact ⟨i + 1, by omega, by omega, by first | rfl | go_num, hL0⟩
  ·have k1 : ¬ (i : Int) < (n : Int) := by omega
   have hN0 := cells_of _ 0 [] rfl (hL0.get _ _ List.mem_cons_self)
   simp only [cellsF, and_true, Nat.zero_add, Nat.reduceAdd] at hN0
   go_wp2_with fail
   clear hN0
   with_reducible refine Calls.mono (R3.out _) ?_
   rintro e x9 ⟨rfl, hb⟩
   replace hL0 := hL0.call hb
   replace hS := hS.call hb
   clear hb
   go_wp2_with fail
   with_reducible refine Calls.mono (HW.out _ (hKT.out.at hL0.bl kKT)) ?_
   rintro e x10 ⟨rfl, hb⟩
   replace hL0 := hL0.call hb
   replace hS := hS.call hb
   clear hb
   go_wp2_with fail
   exact bodyPost_ret (v := .bool true) (by simp [results, Tryz.results9, go_sem]) rfl ⟨rfl, hL0.bl⟩
set_option maxHeartbeats 4000000 in
set_option maxRecDepth 100000 in
theorem drounds_mn (nx dx k16 d1 d2 c0 : Int) (q z s g : Rat) (m : Nat) (m1 : Int) (n : Nat) (HO : ∀ w, Calls Tryz.prog 37 #[.int .i64 nx, .int .i64 d2] w fun xe w' => xe = .returned (.tuple #[fracV q, .int .i64 c0]) ∧ Below w.heap.size w w') (Y1 : ∀ w, Calls Tryz.prog 21 #[fracV q] w fun xe w' => xe = .returned (.tuple #[.int .i64 (m : Int), .int .i64 (n : Int), .int .i64 0]) ∧ Below w.heap.size w w') (I1 : ∀ w, Calls Tryz.prog 32 #[.int .i64 k16] w fun xe w' => xe = .returned (fracV z) ∧ Below w.heap.size w w') (A1 : ∀ w, Calls Tryz.prog 38 #[fracV q, fracV z] w fun xe w' => xe = .returned (fracV s) ∧ Below w.heap.size w w') (Y2 : ∀ w, Calls Tryz.prog 21 #[fracV s] w fun xe w' => xe = .returned (.tuple #[.int .i64 (m : Int), .int .i64 (n : Int), .int .i64 0]) ∧ Below w.heap.size w w') (N1 : ∀ w, Calls Tryz.prog 36 #[fracV q] w fun xe w' => xe = .returned (fracV g) ∧ Below w.heap.size w w') (Y3 : ∀ w, Calls Tryz.prog 21 #[fracV g] w fun xe w' => xe = .returned (.tuple #[.int .i64 (m : Int), .int .i64 (n : Int), .int .i64 0]) ∧ Below w.heap.size w w') (R1 : ∀ w, Calls Tryz.prog 39 #[fracV q, .int .i64 (m : Int), .int .i64 (n : Int)] w fun xe w' => xe = .returned (.bool true) ∧ Below w.heap.size w w') (R2 : ∀ w, Calls Tryz.prog 39 #[fracV q, .int .i64 m1, .int .i64 (n : Int)] w fun xe w' => xe = .returned (.bool false) ∧ Below w.heap.size w w') (R3 : ∀ w, Calls Tryz.prog 39 #[fracV q, .int .i64 (m : Int), .int .i64 0] w fun xe w' => xe = .returned (.bool false) ∧ Below w.heap.size w w') (KT : World → Prop) (hKT : Keeps KT) (HW : ∀ w, KT w → Calls Tryz.prog 11 #[] w fun xe w' => xe = .returned (.bool true) ∧ Below w.heap.size w w') (e1 : dx.tmod 200 = d1) (e2 : IntKind.i64.wrap d1 = d1) (e3 : d1 + 1 = d2) (e4 : IntKind.i64.wrap d2 = d2) (e5 : IntKind.i64.wrap k16 = k16) (f1 : decide (0 < (m : Int)) = true) (f1n : decide (0 < m) = true) (f2 : (m : Int) - 1 = m1) (f3 : IntKind.i64.wrap m1 = m1) (f4 : wrap64 m1 = m1) (f5 : ((n : Int) == 0) = false) (f6 : (n == 0) = false) (f7 : ¬ n = 0) (hn100 : n ≤ 100) (HI : ∀ i : Nat, 1 ≤ i → i < n → ∀ w, Calls Tryz.prog 39 #[fracV q, .int .i64 (m : Int), .int .i64 (i : Int)] w fun xe w' => xe = .returned (.bool false) ∧ Below w.heap.size w w') (w : World) (kKT : KT w) :
  Calls Tryz.prog 9 #[.agg #[.int .i64 nx, .int .u32 dx], .int .i16 k16] w fun e w' => e = .returned (.bool true) ∧ Below w.heap.size w w' := by
 replace HO := Lib.hid HO
 replace Y1 := Lib.hid Y1
 replace I1 := Lib.hid I1
 replace A1 := Lib.hid A1
 replace Y2 := Lib.hid Y2
 replace N1 := Lib.hid N1
 replace Y3 := Lib.hid Y3
 replace R1 := Lib.hid R1
 replace R2 := Lib.hid R2
 replace R3 := Lib.hid R3
 replace hKT := Lib.hid hKT
 replace HW := Lib.hid HW
 have hL0 : GL w w [] := GL.start w
 have hS : SS w [] := SS.nil w
 replace HI := Lib.hid HI
 replace hS := (hS.new (.cells #[.int .i64 nx, .int .u32 dx] 58))
 replace hL0 := (hL0.new rfl [.int .i64 nx, .int .u32 dx] 58)
 generalize hweq : (w.alloc (.cells #[.int .i64 nx, .int .u32 dx] 58)) = x1 at hL0 hS
 go_enter Tryz.func9, Tryz.ntmps9
 have hN0 := cells_of _ 0 [] rfl (hL0.get _ _ List.mem_cons_self)
 simp only [cellsF, and_true, Nat.zero_add, Nat.reduceAdd] at hN0
 go_wp2_with fail
 clear hN0
 with_reducible refine Calls.mono (HO.out _) ?_
 rintro e x2 ⟨rfl, hb⟩
 replace hL0 := hL0.call hb
 replace hS := hS.call hb
 clear hb hweq
 replace hS := (hS.new (.cells #[.int .u64 ((zl q.num : Nat) : Int), .string (zh q.num), .bool (zs q.num), .int .u64 ((lo (fe q) : Nat) : Int), .string (hs (fe q))] 34))
 replace hL0 := (hL0.new rfl [.int .u64 ((zl q.num : Nat) : Int), .string (zh q.num), .bool (zs q.num), .int .u64 ((lo (fe q) : Nat) : Int), .string (hs (fe q))] 34)
 generalize hweq : (x2.alloc (.cells #[.int .u64 ((zl q.num : Nat) : Int), .string (zh q.num), .bool (zs q.num), .int .u64 ((lo (fe q) : Nat) : Int), .string (hs (fe q))] 34)) = x3 at hL0 hS
 have hN0 := cells_of _ 0 [] rfl (hL0.get _ _ List.mem_cons_self)
 simp only [cellsF, and_true, Nat.zero_add, Nat.reduceAdd] at hN0
 go_wp2_with fail
 clear hN0
 with_reducible refine Calls.mono (Y1.out _) ?_
 rintro e x4 ⟨rfl, hb⟩
 replace hL0 := hL0.call hb
 replace hS := hS.call hb
 clear hb hweq
 go_upto_region 3 with fail
 obtain ⟨α, iα, F, hF1, hF2⟩ := cls x4
 have hq0 := cls_box hF1 hL0 _ _ List.mem_cons_self
 simp only [cellsC, and_true, Nat.zero_add, Nat.reduceAdd] at hq0
 refine region_qs 13 (C := fun w' => ∃ x, w' = F x) (by kernel_rfl) (by kernel_rfl) (cls_drew hF2) ?_
 simp only [List.take_succ_cons, List.take_zero, List.drop_succ_cons, List.drop_zero, List.take_nil, List.drop_nil]
 repeat (go_big_quiet_step (first | fail | (go_at_call 32; with_reducible exact cls_call hF1 hF2 I1.out _) | (go_at_call 38; with_reducible exact cls_call hF1 hF2 A1.out _) | (go_at_call 21; with_reducible exact cls_call hF1 hF2 Y2.out _)))
 refine wpQuiet_nil ?_
 rintro wq ⟨xq, rfl⟩
 replace hL0 := hL0.call (hF1 xq)
 replace hS := hS.call (hF1 xq)
 clear  hq0 hF2
 generalize F xq = x5 at hL0 hS ⊢
 clear hF1 xq iα F α
 have hN0 := cells_of _ 0 [] rfl (hL0.get _ _ List.mem_cons_self)
 simp only [cellsF, and_true, Nat.zero_add, Nat.reduceAdd] at hN0
 go_wp2_with fail
 clear hN0
 with_reducible refine Calls.mono (N1.out _) ?_
 rintro e x6 ⟨rfl, hb⟩
 replace hL0 := hL0.call hb
 replace hS := hS.call hb
 clear hb
 go_wp2_with fail
 with_reducible refine Calls.mono (Y3.out _) ?_
 rintro e x7 ⟨rfl, hb⟩
 replace hL0 := hL0.call hb
 replace hS := hS.call hb
 clear hb
 have hN0 := cells_of _ 0 [] rfl (hL0.get _ _ List.mem_cons_self)
 simp only [cellsF, and_true, Nat.zero_add, Nat.reduceAdd] at hN0
 go_wp2_with fail
 clear hN0
 with_reducible refine Calls.mono (R1.out _) ?_
 rintro e x8 ⟨rfl, hb⟩
 replace hL0 := hL0.call hb
 replace hS := hS.call hb
 clear hb
 have hN0 := cells_of _ 0 [] rfl (hL0.get _ _ List.mem_cons_self)
 simp only [cellsF, and_true, Nat.zero_add, Nat.reduceAdd] at hN0
 go_wp2_with fail
 clear hN0
 with_reducible refine Calls.mono (R2.out _) ?_
 rintro e x9 ⟨rfl, hb⟩
 replace hL0 := hL0.call hb
 replace hS := hS.call hb
 clear hb
 go_wp2_with fail
 go_loopg [16] (n - 1) (fun gk iv wr => ∃ (i : Nat), 1 ≤ i ∧ i + gk = n ∧ iv = .int .i64 (i : Int) ∧ GL w wr [(x2.heap.size, [.int .u64 ((zl q.num : Nat) : Int), .string (zh q.num), .bool (zs q.num), .int .u64 ((lo (fe q) : Nat) : Int), .string (hs (fe q))]), (w.heap.size, [.int .i64 nx, .int .u32 dx])])
 case atStart => exact ⟨1, Nat.le_refl _, by omega, by first | rfl | go_num, hL0⟩
 case round =>
  clear hL0 hS
  obtain ⟨i, hi1, hik, rfl, hL0⟩ := hrel
  have hS := SS.nil wr
  by_cases hin : i < n
  ·have k1 : (i : Int) < (n : Int) := by omega
   have kb : (i : Int) ≤ 1000000 := by omega
   have HI1 := Lib.hid (HI.out i hi1 hin)
   clear hin hi1
   have hN0 := cells_of _ 0 [] rfl (hL0.get _ _ List.mem_cons_self)
   simp only [cellsF, and_true, Nat.zero_add, Nat.reduceAdd] at hN0
   go_wp2_with fail
   clear hN0
   with_reducible refine Calls.mono (HI1.out _) ?_
   rintro e x10 ⟨rfl, hb⟩
   replace hL0 := hL0.call hb
   replace hS := hS.call hb
   clear hb
   go_wp2_with fail
   go_roundg (gk - 1)
   case measure => omega
   case rel => exact ⟨i + 1, by omega, by omega, by first | rfl | go_num, hL0⟩
  ·have k1 : ¬ (i : Int) < (n : Int) := by omega
   have hN0 := cells_of _ 0 [] rfl (hL0.get _ _ List.mem_cons_self)
   simp only [cellsF, and_true, Nat.zero_add, Nat.reduceAdd] at hN0
   go_wp2_with fail
   clear hN0
   with_reducible refine Calls.mono (R3.out _) ?_
   rintro e x10 ⟨rfl, hb⟩
   replace hL0 := hL0.call hb
   replace hS := hS.call hb
   clear hb
   go_wp2_with fail
   with_reducible refine Calls.mono (HW.out _ (hKT.out.at hL0.bl kKT)) ?_
   rintro e x11 ⟨rfl, hb⟩
   replace hL0 := hL0.call hb
   replace hS := hS.call hb
   clear hb
   go_wp2_with fail
   exact bodyPost_ret (v := .bool true) (by simp [results, Tryz.results9, go_sem]) rfl ⟨rfl, hL0.bl⟩
end Go.Proofs.YtahfcciihkkegaaGreatDoor
namespace Go.Proofs.YtahfcciihkkegaaGreatDoor
open Go.RowKit
theorem mul_den (q : Rat) : q * ((q.den : Nat) : Rat) = (q.num : Rat) := by
 have h := Rat.mkRat_eq_div q.num q.den
 rw [Rat.mkRat_self] at h
 have h0 : ((q.den : Nat) : Rat) ≠ 0 := fun e => by have := Rat.natCast_pos.2 q.den_pos; rw [e] at this; exact absurd this (by decide)
 conv => lhs; arg 1; rw [h]
 exact Rat.div_mul_cancel h0
theorem den_times (q : Rat) (c : Nat) : (q * ((c : Nat) : Rat)).den = 1 ↔ q.den ∣ c := by
 have hq : q * ((q.den : Nat) : Rat) = (q.num : Rat) := mul_den q
 constructor
 ·intro h
  have e := den_one.1 h
  generalize (q * ((c : Nat) : Rat)).num = z at e
  have e2 : ((q.num * (c : Int) : Int) : Rat) = ((z * (q.den : Int) : Int) : Rat) := by
   rw [Rat.intCast_mul, Rat.intCast_mul, ← hq]
   have : (((c : Nat) : Int) : Rat) = ((c : Nat) : Rat) := rfl
   have : (((q.den : Nat) : Int) : Rat) = ((q.den : Nat) : Rat) := rfl
   grind
  have e3 : q.num * (c : Int) = z * (q.den : Int) := Rat.intCast_inj.1 e2
  have e4 : q.num.natAbs * c = z.natAbs * q.den := by
   have := congrArg Int.natAbs e3
   simpa [Int.natAbs_mul] using this
  exact (Nat.Coprime.symm q.reduced).dvd_of_dvd_mul_left ⟨z.natAbs, by rw [e4, Nat.mul_comm]⟩
 ·rintro ⟨t, rfl⟩
  have : q * ((q.den * t : Nat) : Rat) = ((q.num * (t : Int) : Int) : Rat) := by
   rw [Rat.natCast_mul, ← Rat.mul_assoc, hq, Rat.intCast_mul]; rfl
  rw [this]; rfl
theorem den_plus (q : Rat) (z : Int) : (q + (z : Rat)).den = q.den := by
 have key : ∀ (q : Rat) (z : Int), (q + (z : Rat)).den ∣ q.den := by
  intro q z
  rw [← den_times]
  have e : (q + (z : Rat)) * ((q.den : Nat) : Rat) = ((q.num + z * (q.den : Int) : Int) : Rat) := by
   have hq : q * ((q.den : Nat) : Rat) = (q.num : Rat) := mul_den q
   rw [Rat.intCast_add, Rat.intCast_mul, ← hq]
   have : (((q.den : Nat) : Int) : Rat) = ((q.den : Nat) : Rat) := rfl
   grind
  rw [e]; rfl
 refine Nat.dvd_antisymm (key q z) ?_
 have h := key (q + (z : Rat)) (-z)
 rwa [Rat.intCast_neg, show q + (z : Rat) + -(z : Rat) = q by grind] at h
theorem tenQ_nat (p : Nat) : tenQ p = ((10 ^ p : Nat) : Rat) := rfl
/-- A number times 10^m, and times 10^n - 1, is an integer. -/
theorem round_ends (q : Rat) (m : Nat) : (q * tenQ m).den = 1 ↔ q.den ∣ 10 ^ m := den_times q _
theorem round_nines (q : Rat) (m n : Nat) : (q * tenQ m * (tenQ n - 1)).den = 1 ↔ q.den ∣ 10 ^ m * (10 ^ n - 1) := by
 have hp : 1 ≤ 10 ^ n := Nat.pow_pos (by decide)
 have e : tenQ n - 1 = ((10 ^ n - 1 : Nat) : Rat) := by
  have : ((10 ^ n - 1 + 1 : Nat) : Rat) = ((10 ^ n - 1 : Nat) : Rat) + 1 := nsucc _
  rw [Nat.sub_add_cancel hp] at this
  unfold tenQ
  rw [this]; grind
 rw [e, Rat.mul_assoc, tenQ_nat, ← Rat.natCast_mul]
 exact den_times q _
end Go.Proofs.YtahfcciihkkegaaGreatDoor
namespace Go.Proofs.YtahfcciihkkegaaGreatDoor
open Go.RowKit
theorem ten_powQ (p : Nat) : ((10 : Int) : Rat) ^ p = tenQ p := by
 induction p with
 | zero => rw [Rat.pow_zero]; unfold tenQ; rfl
 | succ p ih => rw [Rat.pow_succ, ih]; unfold tenQ; rw [Nat.pow_succ, Rat.natCast_mul]; rfl
theorem s10 : Sz ((10 : Int) : Rat) 1 := Sz.int (dI_lit (by decide)) (by decide)
theorem powTen (p : Nat) (hp : p ≤ 100) (w : World) : Calls Tryz.prog 82 #[fracV ((10 : Int) : Rat), .int .i64 (p : Int)] w fun x w' => x = .returned (.tuple #[fracV (tenQ p), .int .i64 0]) ∧ Below w.heap.size w w' := by
 have n1 : nb ((10 : Int) : Rat).num.natAbs ≤ 4 := by rw [Rat.num_intCast]; exact nb_ten
 have n2 : nb ((10 : Int) : Rat).den ≤ 4 := by rw [Rat.den_intCast]; exact Nat.le_trans nb_oneD (by decide)
 have hq : ∀ x, x ≤ 4 → p = 0 ∨ x ≤ 262144 / p := fun x hx => by
  rcases Nat.eq_zero_or_pos p with g | g
  ·exact .inl g
  ·exact .inr (Nat.le_trans hx ((Nat.le_div_iff_mul_le g).2 (by omega)))
 have hP := fun w => powF_pos ((10 : Int) : Rat) p (by omega) _ 0 (fun w => powerF ((10 : Int) : Rat) p (by omega) (hq _ n1) (hq _ n2) 1 s10 (by omega) w) w
 rw [ten_powQ] at hP
 exact hP w
/-- The law's helper: does the denominator divide? -/
def rdP (D m n : Nat) : Prop := if n = 0 then D ∣ 10 ^ m else D ∣ 10 ^ m * (10 ^ n - 1)
instance (D m n : Nat) : Decidable (rdP D m n) := by unfold rdP; exact inferInstance
theorem roundL (q : Rat) (m n : Nat) (hm : m ≤ 100) (hn : n ≤ 100) (sq : Sz q 2) (w : World) :
  Calls Tryz.prog 39 #[fracV q, .int .i64 (m : Int), .int .i64 (n : Int)] w fun x w' => x = .returned (.bool (decide (rdP q.den m n))) ∧ Below w.heap.size w w' := by
 have I1 := fun w => intF 10 (by decide) (by decide) w
 have P1 := powTen m hm
 have st := ten_sz hm
 have M1 := fun w => mulF q (tenQ m) 6 (sq.mono (by omega)) st (by omega) w
 have s1 := sq.mul st
 rcases Nat.eq_zero_or_pos n with h0 | h0
 ·subst h0
  have W1 := wholeF (q * tenQ m)
  rw [show decide ((q * tenQ m).den = 1) = decide (rdP q.den m 0) from decide_eq_decide.2 (by rw [round_ends]; unfold rdP; rw [if_pos rfl])] at W1
  exact lround_end m 0 _ q _ _ _ I1 P1 M1 W1 (by decide) w
 ·have P2 := powTen n hn
  have I2 := fun w => intF 1 (by decide) (by decide) w
  have s1' : Sz ((1 : Int) : Rat) 1 := Sz.int (dI_lit (by decide)) (by decide)
  have S1 := fun w => subF (tenQ n) ((1 : Int) : Rat) 6 (ten_sz hn) (s1'.mono (by omega)) (by omega) w
  have s2 := (ten_sz hn).sub s1'
  have M2 := fun w => mulF (q * tenQ m) (tenQ n - ((1 : Int) : Rat)) 8 s1 s2 (by omega) w
  have W1 := wholeF (q * tenQ m * (tenQ n - ((1 : Int) : Rat)))
  rw [show decide ((q * tenQ m * (tenQ n - ((1 : Int) : Rat))).den = 1) = decide (rdP q.den m n) from decide_eq_decide.2 (by rw [show ((1 : Int) : Rat) = 1 from rfl, round_nines]; unfold rdP; rw [if_neg (by omega)])] at W1
  exact lround_per m n _ q _ _ _ _ _ _ _ I1 P1 M1 P2 I2 S1 M2 W1 (decide_eq_true (by omega)) w
/-- What Cycle answers has the property, and is least. -/
theorem cyc_least (D : Nat) (h0 : 0 < D) (m n c : Int) (h : CycA D m n c) : (m = 0 ∧ n = 0 ∧ c = 3) ∨
  ∃ k j : Nat, m = k ∧ n = j ∧ c = 0 ∧ k ≤ 100 ∧ j ≤ 100 ∧ rdP D k j ∧ (∀ i, i < k → ¬ rdP D i j) ∧ (∀ i, 1 ≤ i → i < j → ¬ rdP D k i) ∧ (0 < j → ¬ rdP D k 0) := by
 rcases h with ⟨k, hl, hk, h1, rfl, rfl, rfl⟩ | ⟨k, j, hl, hk, h1, hj, hkj, hr, hb, rfl, rfl, rfl⟩ | ⟨k, hl, hk, h1, hb, rfl, rfl, rfl⟩ | ⟨hb, rfl, rfl, rfl⟩
 ·refine .inr ⟨k, 0, rfl, rfl, rfl, hk, by omega, ?_, ?_, fun i a b => by omega, fun a => by omega⟩
  ·unfold rdP; rw [if_pos rfl]; exact (Lead.ends h0 hl k).2 ⟨Nat.le_refl _, h1⟩
  ·intro i hi h; unfold rdP at h; rw [if_pos rfl] at h
   have := ((Lead.ends h0 hl i).1 h).1; omega
 ·have h1' : 1 < Eden D k := by have := Eden_pos h0 k; omega
  refine .inr ⟨k, j, rfl, rfl, rfl, hk, by omega, ?_, ?_, ?_, ?_⟩
  ·unfold rdP; rw [if_neg (by omega)]; exact (Lead.round h0 hl k j (by omega)).2 ⟨Nat.le_refl _, (rest_one h1').1 hr⟩
  ·intro i hi h; unfold rdP at h; rw [if_neg (by omega)] at h
   have := ((Lead.round h0 hl i j (by omega)).1 h).1; omega
  ·intro i a b h; unfold rdP at h; rw [if_neg (by omega)] at h
   exact hb i a b ((rest_one h1').2 ((Lead.round h0 hl k i (by omega)).1 h).2)
  ·intro _ h; unfold rdP at h; rw [if_pos rfl] at h
   exact h1 ((Lead.ends h0 hl k).1 h).2
 ·exact .inl ⟨rfl, rfl, rfl⟩
 ·exact .inl ⟨rfl, rfl, rfl⟩
theorem neg_den (q : Rat) : (-q).den = q.den := rfl
attribute [local irreducible] tenQ rdP CycA
set_option maxHeartbeats 8000000 in
theorem drounds_any (nx dx k16 : Int) (hn : -9223372036854775808 ≤ nx ∧ nx < 9223372036854775808) (hd : 0 ≤ dx ∧ dx < 4294967296) (hk : -32768 ≤ k16 ∧ k16 < 32768) (w : World) (hw : KD w) :
  Calls Tryz.prog 9 #[.agg #[.int .i64 nx, .int .u32 dx], .int .i16 k16] w fun xe w' => xe = .returned (.bool true) ∧ Below w.heap.size w w' := by
 have hdm : dx.tmod 200 = dx % 200 := Int.tmod_eq_emod_of_nonneg hd.1
 obtain ⟨d, hd2⟩ : ∃ d, d = dx % 200 := ⟨_, rfl⟩
 have d0 : 0 ≤ d := by omega
 have d1 : d < 200 := by omega
 rw [← hd2] at hdm
 have w1 := i64w d (by omega) (by omega)
 have w2 := i64w (d + 1) (by omega) (by omega)
 have w3 := i64w k16 (by omega) (by omega)
 have HO := fun w => ofF nx (d + 1) hn.1 hn.2 (by omega) (by omega) (by omega) w
 have hne : ((d + 1 : Int) : Rat) ≠ 0 := fun e => by
  have := Rat.intCast_eq_zero_iff.1 e
  omega
 have sq : Sz (((nx : Int) : Rat) / ((d + 1 : Int) : Rat)) 2 := Sz.div (Sz.int (i64_dI hn.1 hn.2) (Nat.le_refl 1)) (Sz.int (i64_dI (by omega) (by omega)) (Nat.le_refl 1)) hne
 generalize ((nx : Int) : Rat) / ((d + 1 : Int) : Rat) = q at *
 have I1 := fun w => intF k16 (by omega) (by omega) w
 have sk : Sz ((k16 : Int) : Rat) 1 := Sz.int (i64_dI (by omega) (by omega)) (Nat.le_refl 1)
 have A1 := fun w => addF q ((k16 : Int) : Rat) 2 sq (sk.mono (by omega)) (by omega) w
 have sA := sq.add sk
 have N1 := negF q
 obtain ⟨m, n, c, hc⟩ := cycA_ex q.den
 have Y1 := fun w => cycD q 2 sq (by omega) m n c hc w
 have Y2 := fun w => cycD (q + ((k16 : Int) : Rat)) 4 sA (by omega) m n c (by rw [den_plus]; exact hc) w
 have Y3 := fun w => cycD (-q) 2 sq.neg (by omega) m n c (by rw [neg_den]; exact hc) w
 have R := fun (i j : Nat) (hi : i ≤ 100) (hj : j ≤ 100) => roundL q i j hi hj sq
 rcases cyc_least q.den q.den_pos m n c hc with ⟨rfl, rfl, rfl⟩ | ⟨k, j, rfl, rfl, rfl, hk1, hj1, r1, r2, r3, r4⟩
 ·exact drounds_lim nx dx k16 d (d + 1) _ q _ _ _ HO Y1 I1 A1 Y2 N1 Y3 KD KD.keeps dworks_any hdm w1 rfl w2 w3 w hw
 ·have R1 := R k j hk1 hj1
  rw [decide_eq_true r1] at R1
  have RI : ∀ i : Nat, 1 ≤ i → i < j → ∀ w, Calls Tryz.prog 39 #[fracV q, .int .i64 (k : Int), .int .i64 (i : Int)] w fun xe w' => xe = .returned (.bool false) ∧ Below w.heap.size w w' := fun i a b w => by
   have h := R k i hk1 (by omega) w
   rw [decide_eq_false (r3 i a b)] at h; exact h
  have R3 : 0 < j → ∀ w, Calls Tryz.prog 39 #[fracV q, .int .i64 (k : Int), .int .i64 0] w fun xe w' => xe = .returned (.bool false) ∧ Below w.heap.size w w' := fun h w => by
   have h1 := R k 0 hk1 (by omega) w
   rw [decide_eq_false (r4 h)] at h1; exact h1
  have R2 : 0 < k → ∀ w, Calls Tryz.prog 39 #[fracV q, .int .i64 ((k - 1 : Nat) : Int), .int .i64 (j : Int)] w fun xe w' => xe = .returned (.bool false) ∧ Below w.heap.size w w' := fun h w => by
   have h1 := R (k - 1) j (by omega) hj1 w
   rw [decide_eq_false (r2 (k - 1) (by omega))] at h1; exact h1
  have mk : 0 < k → decide (0 < (k : Int)) = true ∧ decide (0 < k) = true ∧ (k : Int) - 1 = ((k - 1 : Nat) : Int) ∧ IntKind.i64.wrap ((k - 1 : Nat) : Int) = ((k - 1 : Nat) : Int) ∧ wrap64 ((k - 1 : Nat) : Int) = ((k - 1 : Nat) : Int) := fun h =>
   ⟨decide_eq_true (by omega), decide_eq_true h, by omega, i64w _ (by omega) (by omega), w64w _ (by omega) (by omega)⟩
  have mj : 0 < j → ((j : Int) == 0) = false ∧ (j == 0) = false ∧ ¬ j = 0 := fun h => ⟨beq_eq_false_iff_ne.2 (by omega), beq_eq_false_iff_ne.2 (by omega), by omega⟩
  rcases Nat.eq_zero_or_pos k with hk0 | hk0 <;> rcases Nat.eq_zero_or_pos j with hj0 | hj0
  ·subst hk0; subst hj0
   exact drounds_z nx dx k16 d (d + 1) _ q _ _ _ HO Y1 I1 A1 Y2 N1 Y3 R1 KD KD.keeps dworks_any hdm w1 rfl w2 w3 w hw
  ·subst hk0
   obtain ⟨a1, a2, a3⟩ := mj hj0
   exact drounds_n nx dx k16 d (d + 1) _ q _ _ _ j HO Y1 I1 A1 Y2 N1 Y3 R1 (R3 hj0) KD KD.keeps dworks_any hdm w1 rfl w2 w3 a1 a2 a3 hj1 RI w hw
  ·subst hj0
   obtain ⟨b1, b2, b3, b4, b5⟩ := mk hk0
   exact drounds_m nx dx k16 d (d + 1) _ q _ _ _ k _ HO Y1 I1 A1 Y2 N1 Y3 R1 (R2 hk0) KD KD.keeps dworks_any hdm w1 rfl w2 w3 b1 b2 b3 b4 b5 w hw
  ·obtain ⟨a1, a2, a3⟩ := mj hj0
   obtain ⟨b1, b2, b3, b4, b5⟩ := mk hk0
   exact drounds_mn nx dx k16 d (d + 1) _ q _ _ _ k _ j HO Y1 I1 A1 Y2 N1 Y3 R1 (R2 hk0) (R3 hj0) KD KD.keeps dworks_any hdm w1 rfl w2 w3 b1 b2 b3 b4 b5 a1 a2 a3 hj1 RI w hw
end Go.Proofs.YtahfcciihkkegaaGreatDoor
