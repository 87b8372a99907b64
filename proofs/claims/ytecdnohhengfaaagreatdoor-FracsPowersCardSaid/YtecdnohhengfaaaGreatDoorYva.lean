/-
  Layer 3, law: FracsPowers.
-/
import Derived.Test.YtecdnohhengfaaaGreatDoorYe
import Derived.ChangeMaps5
set_option linter.unusedVariables false
set_option linter.unusedSimpArgs false
namespace Go.Proofs.YtecdnohhengfaaaGreatDoor
open Go.RowKit
attribute [local irreducible] lo hs sm s64 c64 d64 b64 mh ml pd pc qd qc val hiB str cmpI srD lz nb isq decB zl zh zs

set_option maxHeartbeats 4000000 in
set_option maxRecDepth 100000 in
theorem qof_zero (n x c : Int) (f : Nat) (HF : ∀ w, Calls Tryz.prog 93 #[.int .i64 n, .int .i64 1] w fun xe w' => xe = .returned (.tuple #[frV x f, .int .i64 c]) ∧ Below w.heap.size w w') (hmx : max (0 : Int) 1 = 1) (w : World) :
    Calls Tryz.prog 99 #[.agg #[.int .i64 n, .int .u32 0]] w fun xe w' => xe = .returned (frV x f) ∧ Below w.heap.size w w' := by
  have hL0 : GL w w [] := GL.start w
  replace HF := Lib.hid HF
  replace hL0 := ((hL0.new rfl [.int .i64 n, .int .u32 0] 120).new (K := w.heap.size + 1) (szA _ _) [.int .u64 0, .string ⟨#[]⟩, .bool false, .int .u64 0, .string ⟨#[]⟩] 79)
  generalize hweq : ((w.alloc (.cells #[.int .i64 n, .int .u32 0] 120)).alloc (.cells #[.int .u64 0, .string ⟨#[]⟩, .bool false, .int .u64 0, .string ⟨#[]⟩] 79)) = x1 at hL0
  go_enter Tryz.func99, Tryz.ntmps99
  have hN0 := cells_of _ 0 [] rfl (hL0.get _ _ (List.mem_cons_of_mem _ List.mem_cons_self))
  simp only [cellsF, and_true, Nat.zero_add, Nat.reduceAdd] at hN0
  go_wp2_with fail
  clear hN0
  with_reducible refine Calls.mono (HF.out _) ?_
  rintro e x2 ⟨rfl, hb⟩
  replace hL0 := hL0.call hb
  clear hb hweq
  replace hL0 := (hL0.new rfl [.int .u64 ((zl x : Nat) : Int), .string (zh x), .bool (zs x), .int .u64 ((lo f : Nat) : Int), .string (hs f)] 79)
  generalize hweq : (x2.alloc (.cells #[.int .u64 ((zl x : Nat) : Int), .string (zh x), .bool (zs x), .int .u64 ((lo f : Nat) : Int), .string (hs f)] 79)) = x3 at hL0
  have hA := hL0.fc
  simp only [fcG, cellsF, neK, and_true, ne_eq, Nat.zero_add, Nat.reduceAdd] at hA
  have hP := hL0.put 1 (w.heap.size + 1) _ rfl [.int .u64 ((zl x : Nat) : Int), .string (zh x), .bool (zs x), .int .u64 ((lo f : Nat) : Int), .string (hs f)] rfl
  simp only [setAll, List.set_cons_zero, List.set_cons_succ] at hP
  generalize hput1 : (((((x3.setCell ⟨w.heap.size + 1, 0, none⟩ (.int .u64 ((zl x : Nat) : Int))).setCell ⟨w.heap.size + 1, 1, none⟩ (.string (zh x))).setCell ⟨w.heap.size + 1, 2, none⟩ (.bool (zs x))).setCell ⟨w.heap.size + 1, 3, none⟩ (.int .u64 ((lo f : Nat) : Int))).setCell ⟨w.heap.size + 1, 4, none⟩ (.string (hs f))) = x4 at hP
  have hB1 := hP.fc
  simp only [fcG, cellsF, neK, and_true, ne_eq, Nat.zero_add, Nat.reduceAdd] at hB1
  replace hL0 := hP
  go_wp2_with fail
  exact bodyPost_ret (v := .agg #[.int .u64 ((zl x : Nat) : Int), .string (zh x), .bool (zs x), .int .u64 ((lo f : Nat) : Int), .string (hs f)]) (by simp [results, Tryz.results99, go_sem, hB1]) rfl ⟨rfl, hL0.bl⟩

set_option maxHeartbeats 4000000 in
set_option maxRecDepth 100000 in
theorem qof_pos (n d x c : Int) (f : Nat) (HF : ∀ w, Calls Tryz.prog 93 #[.int .i64 n, .int .i64 d] w fun xe w' => xe = .returned (.tuple #[frV x f, .int .i64 c]) ∧ Below w.heap.size w w') (h1 : max d 1 = d) (hw : IntKind.i64.wrap d = d) (w : World) :
    Calls Tryz.prog 99 #[.agg #[.int .i64 n, .int .u32 d]] w fun xe w' => xe = .returned (frV x f) ∧ Below w.heap.size w w' := by
  have hL0 : GL w w [] := GL.start w
  replace HF := Lib.hid HF
  replace hL0 := ((hL0.new rfl [.int .i64 n, .int .u32 d] 120).new (K := w.heap.size + 1) (szA _ _) [.int .u64 0, .string ⟨#[]⟩, .bool false, .int .u64 0, .string ⟨#[]⟩] 79)
  generalize hweq : ((w.alloc (.cells #[.int .i64 n, .int .u32 d] 120)).alloc (.cells #[.int .u64 0, .string ⟨#[]⟩, .bool false, .int .u64 0, .string ⟨#[]⟩] 79)) = x1 at hL0
  go_enter Tryz.func99, Tryz.ntmps99
  have hN0 := cells_of _ 0 [] rfl (hL0.get _ _ (List.mem_cons_of_mem _ List.mem_cons_self))
  simp only [cellsF, and_true, Nat.zero_add, Nat.reduceAdd] at hN0
  go_wp2_with fail
  clear hN0
  with_reducible refine Calls.mono (HF.out _) ?_
  rintro e x2 ⟨rfl, hb⟩
  replace hL0 := hL0.call hb
  clear hb hweq
  replace hL0 := (hL0.new rfl [.int .u64 ((zl x : Nat) : Int), .string (zh x), .bool (zs x), .int .u64 ((lo f : Nat) : Int), .string (hs f)] 79)
  generalize hweq : (x2.alloc (.cells #[.int .u64 ((zl x : Nat) : Int), .string (zh x), .bool (zs x), .int .u64 ((lo f : Nat) : Int), .string (hs f)] 79)) = x3 at hL0
  have hA := hL0.fc
  simp only [fcG, cellsF, neK, and_true, ne_eq, Nat.zero_add, Nat.reduceAdd] at hA
  have hP := hL0.put 1 (w.heap.size + 1) _ rfl [.int .u64 ((zl x : Nat) : Int), .string (zh x), .bool (zs x), .int .u64 ((lo f : Nat) : Int), .string (hs f)] rfl
  simp only [setAll, List.set_cons_zero, List.set_cons_succ] at hP
  generalize hput1 : (((((x3.setCell ⟨w.heap.size + 1, 0, none⟩ (.int .u64 ((zl x : Nat) : Int))).setCell ⟨w.heap.size + 1, 1, none⟩ (.string (zh x))).setCell ⟨w.heap.size + 1, 2, none⟩ (.bool (zs x))).setCell ⟨w.heap.size + 1, 3, none⟩ (.int .u64 ((lo f : Nat) : Int))).setCell ⟨w.heap.size + 1, 4, none⟩ (.string (hs f))) = x4 at hP
  have hB1 := hP.fc
  simp only [fcG, cellsF, neK, and_true, ne_eq, Nat.zero_add, Nat.reduceAdd] at hB1
  replace hL0 := hP
  go_wp2_with fail
  exact bodyPost_ret (v := .agg #[.int .u64 ((zl x : Nat) : Int), .string (zh x), .bool (zs x), .int .u64 ((lo f : Nat) : Int), .string (hs f)]) (by simp [results, Tryz.results99, go_sem, hB1]) rfl ⟨rfl, hL0.bl⟩

theorem qof_any (n d : Int) (a1 : -9223372036854775808 ≤ n) (a2 : n < 9223372036854775808) (b1 : 0 ≤ d) (b2 : d < 4294967296) (w : World) :
    Calls Tryz.prog 99 #[.agg #[.int .i64 n, .int .u32 d]] w fun xe w' => xe = .returned (fracV (qmade n d.toNat)) ∧ Below w.heap.size w w' := by
  by_cases h : d = 0
  · subst h
    have e : (n : Rat) / ((1 : Int) : Rat) = qmade n 0 := by rw [← of_val_q n 1 (by decide)]; rfl
    have hF := fun w => ofF n 1 a1 a2 (by decide) (by decide) (by decide) w
    rw [e] at hF
    exact qof_zero n _ _ _ hF (by decide) w
  · have e : (n : Rat) / (d : Rat) = qmade n d.toNat := by
      rw [← of_val_q n d h]
      unfold qmade
      rw [if_neg (by omega), if_neg (by omega), show d.natAbs = d.toNat by omega]
    have hF := fun w => ofF n d a1 a2 (by omega) (by omega) h w
    rw [e] at hF
    exact qof_pos n d _ _ _ hF (by omega) (IntWalk.i64_in _ (by omega)) w
theorem inv_zpow (a : Rat) (m : Int) (hm : m < 0) : ((1 : Int) : Rat) / (a ^ m.natAbs) = a ^ m := by
  rw [zpow_of_neg a (l := m.natAbs) (by omega), rinv_pow, Rat.div_def]
  exact Rat.one_mul _

set_option maxHeartbeats 16000000 in
set_option maxRecDepth 100000 in
theorem fpowers_0_w  (a : Rat) (n : Int) (d : Int) (m : Int) (k : Int) (r1 : Rat) (HQ : ∀ w, Calls Tryz.prog 99 #[.agg #[.int .i64 n, .int .u32 d]] w fun xe w' => xe = .returned (fracV a) ∧ Below w.heap.size w w') (HS : ∀ i : Nat, i < 20 → ∀ s t : Rat, s = a ^ i → t = a ^ (i + 1) → ∀ w, Calls Tryz.prog 68 #[fracV s, fracV a] w fun xe w' => xe = .returned (fracV t) ∧ Below w.heap.size w w') (H1 : ∀ w, Calls Tryz.prog 98 #[fracV a, .int .i64 m] w fun xe w' => xe = .returned (.tuple #[.agg #[.int .u64 0, .string ⟨#[]⟩, .bool false, .int .u64 0, .string ⟨#[]⟩], .int .i64 1]) ∧ Below w.heap.size w w') (KW : World → Prop) (hKW : Keeps KW) (HW : ∀ w, KW w → Calls Tryz.prog 57 #[] w fun xe w' => xe = .returned (.bool true) ∧ Below w.heap.size w w') (hone : r1 = 1) (hd2 : decide (m < (-4096)) = true) (hd3 : decide ((-4096) ≤ m) = false) (w : World) (kKW : KW w) :
    Calls Tryz.prog 13 #[.agg #[.int .i64 n, .int .u32 d], .int .i64 m, .int .i64 k] w fun xe w' => xe = .returned (.bool true) ∧ Below w.heap.size w w' := by
  have hL0 : GL w w [] := GL.start w
  replace HQ := Lib.hid HQ
  replace HS := Lib.hid HS
  replace H1 := Lib.hid H1
  replace hKW := Lib.hid hKW
  replace HW := Lib.hid HW
  replace hone := Lib.hid hone
  replace hL0 := (hL0.new rfl [.int .i64 n, .int .u32 d] 120)
  generalize hweq : (w.alloc (.cells #[.int .i64 n, .int .u32 d] 120)) = x1 at hL0
  go_enter Tryz.func13, Tryz.ntmps13
  have hN0 := cells_of _ 0 [] rfl (hL0.get _ _ List.mem_cons_self)
  simp only [cellsF, and_true, Nat.zero_add, Nat.reduceAdd] at hN0
  go_wp2_with fail
  clear hN0
  with_reducible refine Calls.mono (HQ.out _) ?_
  rintro e x2 ⟨rfl, hb⟩
  replace hL0 := hL0.call hb
  clear hb hweq
  replace hL0 := (hL0.new rfl [.int .u64 ((zl a.num : Nat) : Int), .string (zh a.num), .bool (zs a.num), .int .u64 ((lo (fe a) : Nat) : Int), .string (hs (fe a))] 79)
  generalize hweq : (x2.alloc (.cells #[.int .u64 ((zl a.num : Nat) : Int), .string (zh a.num), .bool (zs a.num), .int .u64 ((lo (fe a) : Nat) : Int), .string (hs (fe a))] 79)) = x3 at hL0
  have hN0 := cells_of _ 0 [] rfl (hL0.get _ _ List.mem_cons_self)
  simp only [cellsF, and_true, Nat.zero_add, Nat.reduceAdd] at hN0
  go_wp2_with fail
  clear hN0
  with_reducible refine Calls.mono (H1.out _) ?_
  rintro e x4 ⟨rfl, hb⟩
  replace hL0 := hL0.call hb
  clear hb hweq
  replace hL0 := (hL0.new rfl [.int .u64 0, .string ⟨#[]⟩, .bool false, .int .u64 0, .string ⟨#[]⟩] 79)
  generalize hweq : (x4.alloc (.cells #[.int .u64 0, .string ⟨#[]⟩, .bool false, .int .u64 0, .string ⟨#[]⟩] 79)) = x5 at hL0
  have hA := hL0.fc
  simp only [fcG, cellsF, neK, and_true, ne_eq, Nat.zero_add, Nat.reduceAdd] at hA
  have hP := hL0.put 0 (x4.heap.size) _ rfl [.int .u64 0, .string ⟨#[]⟩, .bool false, .int .u64 0, .string ⟨#[]⟩] rfl
  simp only [setAll, List.set_cons_zero, List.set_cons_succ] at hP
  generalize hput1 : (((((x5.setCell ⟨x4.heap.size, 0, none⟩ (.int .u64 0)).setCell ⟨x4.heap.size, 1, none⟩ (.string ⟨#[]⟩)).setCell ⟨x4.heap.size, 2, none⟩ (.bool false)).setCell ⟨x4.heap.size, 3, none⟩ (.int .u64 0)).setCell ⟨x4.heap.size, 4, none⟩ (.string ⟨#[]⟩)) = x6 at hP
  have hB1 := hP.fc
  simp only [fcG, cellsF, neK, and_true, ne_eq, Nat.zero_add, Nat.reduceAdd] at hB1
  replace hL0 := hP
  go_wp2_with fail
  clear hA
  with_reducible refine Calls.mono (HW.out _ (hKW.out.at hL0.bl kKW)) ?_
  rintro e x7 ⟨rfl, hb⟩
  replace hL0 := hL0.call hb
  clear hb hweq hput1 hB1
  go_wp2_with fail
  exact bodyPost_ret (v := .bool true) (by simp [results, Tryz.results13, go_sem]) rfl ⟨rfl, hL0.bl⟩

theorem fpowers_0 (n d m k : Int) (ln : -9223372036854775808 ≤ n) (hn : n < 9223372036854775808) (ld : 0 ≤ d) (hdd : d < 4294967296) (lm : -9223372036854775808 ≤ m) (hmm : m < 9223372036854775808) (lk : -9223372036854775808 ≤ k) (hkk : k < 9223372036854775808) (p0 : m < -4096) (w : World) (htab : Tab w) (hm : MaxL w) :
    Calls Tryz.prog 13 #[.agg #[.int .i64 n, .int .u32 d], .int .i64 m, .int .i64 k] w fun xe w' => xe = .returned (.bool true) ∧ Below w.heap.size w w' := by
  have HQ := fun w => qof_any n d ln hn ld hdd w
  have Sa := qmade_sz n d.toNat ln hn (by omega)
  have NB := (qmade_nb n d.toNat ln hn (by omega))
  generalize qmade n d.toNat = a at *
  have HS : ∀ i : Nat, i < 20 → ∀ s t : Rat, s = a ^ i → t = a ^ (i + 1) → ∀ w, Calls Tryz.prog 68 #[fracV s, fracV a] w fun xe w' => xe = .returned (fracV t) ∧ Below w.heap.size w w' := fun i hi s t hs ht w => by
    have h := mulF (a ^ i) a 21 ((Sa.pow i).mono (by omega)) (Sa.mono (by omega)) (by omega) w
    rw [← Rat.pow_succ, ← hs, ← ht] at h
    exact h
  have H1 := fun w => powZ_arg a m (by omega) w
  have HW := fun w (h : Tab w ∧ MaxL w) => fworks_any w h.1 h.2
  exact fpowers_0_w a n d m k ((1 : Int) : Rat) HQ HS H1 _ (Keeps.and Keeps.tab MaxL.keeps) HW rfl (by first | exact decide_eq_true (by omega) | exact decide_eq_false (by omega)) (by first | exact decide_eq_true (by omega) | exact decide_eq_false (by omega)) w ⟨htab, hm⟩

set_option maxHeartbeats 16000000 in
set_option maxRecDepth 100000 in
theorem fpowers_1_w  (a : Rat) (n : Int) (d : Int) (m : Int) (k : Int) (r1 : Rat) (HQ : ∀ w, Calls Tryz.prog 99 #[.agg #[.int .i64 n, .int .u32 d]] w fun xe w' => xe = .returned (fracV a) ∧ Below w.heap.size w w') (HS : ∀ i : Nat, i < 20 → ∀ s t : Rat, s = a ^ i → t = a ^ (i + 1) → ∀ w, Calls Tryz.prog 68 #[fracV s, fracV a] w fun xe w' => xe = .returned (fracV t) ∧ Below w.heap.size w w') (H1 : ∀ w, Calls Tryz.prog 98 #[fracV a, .int .i64 m] w fun xe w' => xe = .returned (.tuple #[.agg #[.int .u64 0, .string ⟨#[]⟩, .bool false, .int .u64 0, .string ⟨#[]⟩], .int .i64 1]) ∧ Below w.heap.size w w') (KW : World → Prop) (hKW : Keeps KW) (HW : ∀ w, KW w → Calls Tryz.prog 57 #[] w fun xe w' => xe = .returned (.bool true) ∧ Below w.heap.size w w') (hone : r1 = 1) (hd2 : decide (m < (-4096)) = false) (hd3 : decide ((-4096) ≤ m) = true) (hd4 : decide (4096 < m) = true) (hd5 : decide (m ≤ 4096) = false) (w : World) (kKW : KW w) :
    Calls Tryz.prog 13 #[.agg #[.int .i64 n, .int .u32 d], .int .i64 m, .int .i64 k] w fun xe w' => xe = .returned (.bool true) ∧ Below w.heap.size w w' := by
  have hL0 : GL w w [] := GL.start w
  replace HQ := Lib.hid HQ
  replace HS := Lib.hid HS
  replace H1 := Lib.hid H1
  replace hKW := Lib.hid hKW
  replace HW := Lib.hid HW
  replace hone := Lib.hid hone
  replace hL0 := (hL0.new rfl [.int .i64 n, .int .u32 d] 120)
  generalize hweq : (w.alloc (.cells #[.int .i64 n, .int .u32 d] 120)) = x1 at hL0
  go_enter Tryz.func13, Tryz.ntmps13
  have hN0 := cells_of _ 0 [] rfl (hL0.get _ _ List.mem_cons_self)
  simp only [cellsF, and_true, Nat.zero_add, Nat.reduceAdd] at hN0
  go_wp2_with fail
  clear hN0
  with_reducible refine Calls.mono (HQ.out _) ?_
  rintro e x2 ⟨rfl, hb⟩
  replace hL0 := hL0.call hb
  clear hb hweq
  replace hL0 := (hL0.new rfl [.int .u64 ((zl a.num : Nat) : Int), .string (zh a.num), .bool (zs a.num), .int .u64 ((lo (fe a) : Nat) : Int), .string (hs (fe a))] 79)
  generalize hweq : (x2.alloc (.cells #[.int .u64 ((zl a.num : Nat) : Int), .string (zh a.num), .bool (zs a.num), .int .u64 ((lo (fe a) : Nat) : Int), .string (hs (fe a))] 79)) = x3 at hL0
  have hN0 := cells_of _ 0 [] rfl (hL0.get _ _ List.mem_cons_self)
  simp only [cellsF, and_true, Nat.zero_add, Nat.reduceAdd] at hN0
  go_wp2_with fail
  clear hN0
  with_reducible refine Calls.mono (H1.out _) ?_
  rintro e x4 ⟨rfl, hb⟩
  replace hL0 := hL0.call hb
  clear hb hweq
  replace hL0 := (hL0.new rfl [.int .u64 0, .string ⟨#[]⟩, .bool false, .int .u64 0, .string ⟨#[]⟩] 79)
  generalize hweq : (x4.alloc (.cells #[.int .u64 0, .string ⟨#[]⟩, .bool false, .int .u64 0, .string ⟨#[]⟩] 79)) = x5 at hL0
  have hA := hL0.fc
  simp only [fcG, cellsF, neK, and_true, ne_eq, Nat.zero_add, Nat.reduceAdd] at hA
  have hP := hL0.put 0 (x4.heap.size) _ rfl [.int .u64 0, .string ⟨#[]⟩, .bool false, .int .u64 0, .string ⟨#[]⟩] rfl
  simp only [setAll, List.set_cons_zero, List.set_cons_succ] at hP
  generalize hput1 : (((((x5.setCell ⟨x4.heap.size, 0, none⟩ (.int .u64 0)).setCell ⟨x4.heap.size, 1, none⟩ (.string ⟨#[]⟩)).setCell ⟨x4.heap.size, 2, none⟩ (.bool false)).setCell ⟨x4.heap.size, 3, none⟩ (.int .u64 0)).setCell ⟨x4.heap.size, 4, none⟩ (.string ⟨#[]⟩)) = x6 at hP
  have hB1 := hP.fc
  simp only [fcG, cellsF, neK, and_true, ne_eq, Nat.zero_add, Nat.reduceAdd] at hB1
  replace hL0 := hP
  go_wp2_with fail
  clear hA
  with_reducible refine Calls.mono (HW.out _ (hKW.out.at hL0.bl kKW)) ?_
  rintro e x7 ⟨rfl, hb⟩
  replace hL0 := hL0.call hb
  clear hb hweq hput1 hB1
  go_wp2_with fail
  exact bodyPost_ret (v := .bool true) (by simp [results, Tryz.results13, go_sem]) rfl ⟨rfl, hL0.bl⟩

theorem fpowers_1 (n d m k : Int) (ln : -9223372036854775808 ≤ n) (hn : n < 9223372036854775808) (ld : 0 ≤ d) (hdd : d < 4294967296) (lm : -9223372036854775808 ≤ m) (hmm : m < 9223372036854775808) (lk : -9223372036854775808 ≤ k) (hkk : k < 9223372036854775808) (p0 : ¬ m < -4096) (p1 : 4096 < m) (w : World) (htab : Tab w) (hm : MaxL w) :
    Calls Tryz.prog 13 #[.agg #[.int .i64 n, .int .u32 d], .int .i64 m, .int .i64 k] w fun xe w' => xe = .returned (.bool true) ∧ Below w.heap.size w w' := by
  have HQ := fun w => qof_any n d ln hn ld hdd w
  have Sa := qmade_sz n d.toNat ln hn (by omega)
  have NB := (qmade_nb n d.toNat ln hn (by omega))
  generalize qmade n d.toNat = a at *
  have HS : ∀ i : Nat, i < 20 → ∀ s t : Rat, s = a ^ i → t = a ^ (i + 1) → ∀ w, Calls Tryz.prog 68 #[fracV s, fracV a] w fun xe w' => xe = .returned (fracV t) ∧ Below w.heap.size w w' := fun i hi s t hs ht w => by
    have h := mulF (a ^ i) a 21 ((Sa.pow i).mono (by omega)) (Sa.mono (by omega)) (by omega) w
    rw [← Rat.pow_succ, ← hs, ← ht] at h
    exact h
  have H1 := fun w => powZ_arg a m (by omega) w
  have HW := fun w (h : Tab w ∧ MaxL w) => fworks_any w h.1 h.2
  exact fpowers_1_w a n d m k ((1 : Int) : Rat) HQ HS H1 _ (Keeps.and Keeps.tab MaxL.keeps) HW rfl (by first | exact decide_eq_true (by omega) | exact decide_eq_false (by omega)) (by first | exact decide_eq_true (by omega) | exact decide_eq_false (by omega)) (by first | exact decide_eq_true (by omega) | exact decide_eq_false (by omega)) (by first | exact decide_eq_true (by omega) | exact decide_eq_false (by omega)) w ⟨htab, hm⟩

set_option maxHeartbeats 16000000 in
set_option maxRecDepth 100000 in
theorem fpowers_2_w  (a : Rat) (n : Int) (d : Int) (m : Int) (k : Int) (r1 : Rat) (HQ : ∀ w, Calls Tryz.prog 99 #[.agg #[.int .i64 n, .int .u32 d]] w fun xe w' => xe = .returned (fracV a) ∧ Below w.heap.size w w') (HS : ∀ i : Nat, i < 20 → ∀ s t : Rat, s = a ^ i → t = a ^ (i + 1) → ∀ w, Calls Tryz.prog 68 #[fracV s, fracV a] w fun xe w' => xe = .returned (fracV t) ∧ Below w.heap.size w w') (KW : World → Prop) (hKW : Keeps KW) (HW : ∀ w, KW w → Calls Tryz.prog 57 #[] w fun xe w' => xe = .returned (.bool true) ∧ Below w.heap.size w w') (hone : r1 = 1) (hd2 : decide (m < (-4096)) = false) (hd3 : decide ((-4096) ≤ m) = true) (hd4 : decide (4096 < m) = false) (hd5 : decide (m ≤ 4096) = true) (hd6 : decide (m < (-20)) = true) (hd7 : decide ((-20) ≤ m) = false) (hd8 : decide (n < (-9)) = true) (hd9 : decide ((-9) ≤ n) = false) (w : World) (kKW : KW w) :
    Calls Tryz.prog 13 #[.agg #[.int .i64 n, .int .u32 d], .int .i64 m, .int .i64 k] w fun xe w' => xe = .returned (.bool true) ∧ Below w.heap.size w w' := by
  have hL0 : GL w w [] := GL.start w
  replace HQ := Lib.hid HQ
  replace HS := Lib.hid HS
  replace hKW := Lib.hid hKW
  replace HW := Lib.hid HW
  replace hone := Lib.hid hone
  replace hL0 := (hL0.new rfl [.int .i64 n, .int .u32 d] 120)
  generalize hweq : (w.alloc (.cells #[.int .i64 n, .int .u32 d] 120)) = x1 at hL0
  go_enter Tryz.func13, Tryz.ntmps13
  have hN0 := cells_of _ 0 [] rfl (hL0.get _ _ List.mem_cons_self)
  simp only [cellsF, and_true, Nat.zero_add, Nat.reduceAdd] at hN0
  go_wp2_with fail
  clear hN0
  with_reducible refine Calls.mono (HW.out _ (hKW.out.at hL0.bl kKW)) ?_
  rintro e x2 ⟨rfl, hb⟩
  replace hL0 := hL0.call hb
  clear hb hweq
  go_wp2_with fail
  exact bodyPost_ret (v := .bool true) (by simp [results, Tryz.results13, go_sem]) rfl ⟨rfl, hL0.bl⟩

theorem fpowers_2 (n d m k : Int) (ln : -9223372036854775808 ≤ n) (hn : n < 9223372036854775808) (ld : 0 ≤ d) (hdd : d < 4294967296) (lm : -9223372036854775808 ≤ m) (hmm : m < 9223372036854775808) (lk : -9223372036854775808 ≤ k) (hkk : k < 9223372036854775808) (p0 : ¬ m < -4096) (p1 : ¬ 4096 < m) (p2 : m < -20) (p3 : n < -9) (w : World) (htab : Tab w) (hm : MaxL w) :
    Calls Tryz.prog 13 #[.agg #[.int .i64 n, .int .u32 d], .int .i64 m, .int .i64 k] w fun xe w' => xe = .returned (.bool true) ∧ Below w.heap.size w w' := by
  have HQ := fun w => qof_any n d ln hn ld hdd w
  have Sa := qmade_sz n d.toNat ln hn (by omega)
  have NB := (qmade_nb n d.toNat ln hn (by omega))
  generalize qmade n d.toNat = a at *
  have HS : ∀ i : Nat, i < 20 → ∀ s t : Rat, s = a ^ i → t = a ^ (i + 1) → ∀ w, Calls Tryz.prog 68 #[fracV s, fracV a] w fun xe w' => xe = .returned (fracV t) ∧ Below w.heap.size w w' := fun i hi s t hs ht w => by
    have h := mulF (a ^ i) a 21 ((Sa.pow i).mono (by omega)) (Sa.mono (by omega)) (by omega) w
    rw [← Rat.pow_succ, ← hs, ← ht] at h
    exact h
  have HW := fun w (h : Tab w ∧ MaxL w) => fworks_any w h.1 h.2
  exact fpowers_2_w a n d m k ((1 : Int) : Rat) HQ HS _ (Keeps.and Keeps.tab MaxL.keeps) HW rfl (by first | exact decide_eq_true (by omega) | exact decide_eq_false (by omega)) (by first | exact decide_eq_true (by omega) | exact decide_eq_false (by omega)) (by first | exact decide_eq_true (by omega) | exact decide_eq_false (by omega)) (by first | exact decide_eq_true (by omega) | exact decide_eq_false (by omega)) (by first | exact decide_eq_true (by omega) | exact decide_eq_false (by omega)) (by first | exact decide_eq_true (by omega) | exact decide_eq_false (by omega)) (by first | exact decide_eq_true (by omega) | exact decide_eq_false (by omega)) (by first | exact decide_eq_true (by omega) | exact decide_eq_false (by omega)) w ⟨htab, hm⟩

set_option maxHeartbeats 16000000 in
set_option maxRecDepth 100000 in
theorem fpowers_3_w  (a : Rat) (n : Int) (d : Int) (m : Int) (k : Int) (r1 : Rat) (HQ : ∀ w, Calls Tryz.prog 99 #[.agg #[.int .i64 n, .int .u32 d]] w fun xe w' => xe = .returned (fracV a) ∧ Below w.heap.size w w') (HS : ∀ i : Nat, i < 20 → ∀ s t : Rat, s = a ^ i → t = a ^ (i + 1) → ∀ w, Calls Tryz.prog 68 #[fracV s, fracV a] w fun xe w' => xe = .returned (fracV t) ∧ Below w.heap.size w w') (KW : World → Prop) (hKW : Keeps KW) (HW : ∀ w, KW w → Calls Tryz.prog 57 #[] w fun xe w' => xe = .returned (.bool true) ∧ Below w.heap.size w w') (hone : r1 = 1) (hd2 : decide (m < (-4096)) = false) (hd3 : decide ((-4096) ≤ m) = true) (hd4 : decide (4096 < m) = false) (hd5 : decide (m ≤ 4096) = true) (hd6 : decide (m < (-20)) = false) (hd7 : decide ((-20) ≤ m) = true) (hd8 : decide (20 < m) = true) (hd9 : decide (m ≤ 20) = false) (hd10 : decide (n < (-9)) = true) (hd11 : decide ((-9) ≤ n) = false) (w : World) (kKW : KW w) :
    Calls Tryz.prog 13 #[.agg #[.int .i64 n, .int .u32 d], .int .i64 m, .int .i64 k] w fun xe w' => xe = .returned (.bool true) ∧ Below w.heap.size w w' := by
  have hL0 : GL w w [] := GL.start w
  replace HQ := Lib.hid HQ
  replace HS := Lib.hid HS
  replace hKW := Lib.hid hKW
  replace HW := Lib.hid HW
  replace hone := Lib.hid hone
  replace hL0 := (hL0.new rfl [.int .i64 n, .int .u32 d] 120)
  generalize hweq : (w.alloc (.cells #[.int .i64 n, .int .u32 d] 120)) = x1 at hL0
  go_enter Tryz.func13, Tryz.ntmps13
  have hN0 := cells_of _ 0 [] rfl (hL0.get _ _ List.mem_cons_self)
  simp only [cellsF, and_true, Nat.zero_add, Nat.reduceAdd] at hN0
  go_wp2_with fail
  clear hN0
  with_reducible refine Calls.mono (HW.out _ (hKW.out.at hL0.bl kKW)) ?_
  rintro e x2 ⟨rfl, hb⟩
  replace hL0 := hL0.call hb
  clear hb hweq
  go_wp2_with fail
  exact bodyPost_ret (v := .bool true) (by simp [results, Tryz.results13, go_sem]) rfl ⟨rfl, hL0.bl⟩

theorem fpowers_3 (n d m k : Int) (ln : -9223372036854775808 ≤ n) (hn : n < 9223372036854775808) (ld : 0 ≤ d) (hdd : d < 4294967296) (lm : -9223372036854775808 ≤ m) (hmm : m < 9223372036854775808) (lk : -9223372036854775808 ≤ k) (hkk : k < 9223372036854775808) (p0 : ¬ m < -4096) (p1 : ¬ 4096 < m) (p2 : ¬ m < -20) (p3 : 20 < m) (p4 : n < -9) (w : World) (htab : Tab w) (hm : MaxL w) :
    Calls Tryz.prog 13 #[.agg #[.int .i64 n, .int .u32 d], .int .i64 m, .int .i64 k] w fun xe w' => xe = .returned (.bool true) ∧ Below w.heap.size w w' := by
  have HQ := fun w => qof_any n d ln hn ld hdd w
  have Sa := qmade_sz n d.toNat ln hn (by omega)
  have NB := (qmade_nb n d.toNat ln hn (by omega))
  generalize qmade n d.toNat = a at *
  have HS : ∀ i : Nat, i < 20 → ∀ s t : Rat, s = a ^ i → t = a ^ (i + 1) → ∀ w, Calls Tryz.prog 68 #[fracV s, fracV a] w fun xe w' => xe = .returned (fracV t) ∧ Below w.heap.size w w' := fun i hi s t hs ht w => by
    have h := mulF (a ^ i) a 21 ((Sa.pow i).mono (by omega)) (Sa.mono (by omega)) (by omega) w
    rw [← Rat.pow_succ, ← hs, ← ht] at h
    exact h
  have HW := fun w (h : Tab w ∧ MaxL w) => fworks_any w h.1 h.2
  exact fpowers_3_w a n d m k ((1 : Int) : Rat) HQ HS _ (Keeps.and Keeps.tab MaxL.keeps) HW rfl (by first | exact decide_eq_true (by omega) | exact decide_eq_false (by omega)) (by first | exact decide_eq_true (by omega) | exact decide_eq_false (by omega)) (by first | exact decide_eq_true (by omega) | exact decide_eq_false (by omega)) (by first | exact decide_eq_true (by omega) | exact decide_eq_false (by omega)) (by first | exact decide_eq_true (by omega) | exact decide_eq_false (by omega)) (by first | exact decide_eq_true (by omega) | exact decide_eq_false (by omega)) (by first | exact decide_eq_true (by omega) | exact decide_eq_false (by omega)) (by first | exact decide_eq_true (by omega) | exact decide_eq_false (by omega)) (by first | exact decide_eq_true (by omega) | exact decide_eq_false (by omega)) (by first | exact decide_eq_true (by omega) | exact decide_eq_false (by omega)) w ⟨htab, hm⟩

set_option maxHeartbeats 16000000 in
set_option maxRecDepth 100000 in
theorem fpowers_4_w  (a : Rat) (n : Int) (d : Int) (m : Int) (k : Int) (r1 : Rat) (i1 : Int) (HQ : ∀ w, Calls Tryz.prog 99 #[.agg #[.int .i64 n, .int .u32 d]] w fun xe w' => xe = .returned (fracV a) ∧ Below w.heap.size w w') (HS : ∀ i : Nat, i < 20 → ∀ s t : Rat, s = a ^ i → t = a ^ (i + 1) → ∀ w, Calls Tryz.prog 68 #[fracV s, fracV a] w fun xe w' => xe = .returned (fracV t) ∧ Below w.heap.size w w') (H1 : ∀ w, Calls Tryz.prog 98 #[fracV a, .int .i64 m] w fun xe w' => xe = .returned (.tuple #[.agg #[.int .u64 0, .string ⟨#[]⟩, .bool false, .int .u64 0, .string ⟨#[]⟩], .int .i64 5]) ∧ Below w.heap.size w w') (H2 : ∀ w, Calls Tryz.prog 75 #[fracV a] w fun xe w' => xe = .returned (.int .i64 i1) ∧ Below w.heap.size w w') (KW : World → Prop) (hKW : Keeps KW) (HW : ∀ w, KW w → Calls Tryz.prog 57 #[] w fun xe w' => xe = .returned (.bool true) ∧ Below w.heap.size w w') (hone : r1 = 1) (hd2 : decide (m < (-4096)) = false) (hd3 : decide ((-4096) ≤ m) = true) (hd4 : decide (4096 < m) = false) (hd5 : decide (m ≤ 4096) = true) (hd6 : decide (m < (-20)) = false) (hd7 : decide ((-20) ≤ m) = true) (hd8 : decide (20 < m) = false) (hd9 : decide (m ≤ 20) = true) (hd10 : (i1 == 0) = true) (hd11 : (i1 != 0) = false) (hd12 : decide (m < 0) = true) (hd13 : decide (0 ≤ m) = false) (w : World) (kKW : KW w) :
    Calls Tryz.prog 13 #[.agg #[.int .i64 n, .int .u32 d], .int .i64 m, .int .i64 k] w fun xe w' => xe = .returned (.bool true) ∧ Below w.heap.size w w' := by
  have hL0 : GL w w [] := GL.start w
  replace HQ := Lib.hid HQ
  replace HS := Lib.hid HS
  replace H1 := Lib.hid H1
  replace H2 := Lib.hid H2
  replace hKW := Lib.hid hKW
  replace HW := Lib.hid HW
  replace hone := Lib.hid hone
  replace hL0 := (hL0.new rfl [.int .i64 n, .int .u32 d] 120)
  generalize hweq : (w.alloc (.cells #[.int .i64 n, .int .u32 d] 120)) = x1 at hL0
  go_enter Tryz.func13, Tryz.ntmps13
  have hN0 := cells_of _ 0 [] rfl (hL0.get _ _ List.mem_cons_self)
  simp only [cellsF, and_true, Nat.zero_add, Nat.reduceAdd] at hN0
  go_wp2_with fail
  clear hN0
  with_reducible refine Calls.mono (HQ.out _) ?_
  rintro e x2 ⟨rfl, hb⟩
  replace hL0 := hL0.call hb
  clear hb hweq
  replace hL0 := (hL0.new rfl [.int .u64 ((zl a.num : Nat) : Int), .string (zh a.num), .bool (zs a.num), .int .u64 ((lo (fe a) : Nat) : Int), .string (hs (fe a))] 79)
  generalize hweq : (x2.alloc (.cells #[.int .u64 ((zl a.num : Nat) : Int), .string (zh a.num), .bool (zs a.num), .int .u64 ((lo (fe a) : Nat) : Int), .string (hs (fe a))] 79)) = x3 at hL0
  have hN0 := cells_of _ 0 [] rfl (hL0.get _ _ List.mem_cons_self)
  simp only [cellsF, and_true, Nat.zero_add, Nat.reduceAdd] at hN0
  go_wp2_with fail
  clear hN0
  with_reducible refine Calls.mono (H1.out _) ?_
  rintro e x4 ⟨rfl, hb⟩
  replace hL0 := hL0.call hb
  clear hb hweq
  replace hL0 := (hL0.new rfl [.int .u64 0, .string ⟨#[]⟩, .bool false, .int .u64 0, .string ⟨#[]⟩] 79)
  generalize hweq : (x4.alloc (.cells #[.int .u64 0, .string ⟨#[]⟩, .bool false, .int .u64 0, .string ⟨#[]⟩] 79)) = x5 at hL0
  have hA := hL0.fc
  simp only [fcG, cellsF, neK, and_true, ne_eq, Nat.zero_add, Nat.reduceAdd] at hA
  have hP := hL0.put 0 (x4.heap.size) _ rfl [.int .u64 0, .string ⟨#[]⟩, .bool false, .int .u64 0, .string ⟨#[]⟩] rfl
  simp only [setAll, List.set_cons_zero, List.set_cons_succ] at hP
  generalize hput1 : (((((x5.setCell ⟨x4.heap.size, 0, none⟩ (.int .u64 0)).setCell ⟨x4.heap.size, 1, none⟩ (.string ⟨#[]⟩)).setCell ⟨x4.heap.size, 2, none⟩ (.bool false)).setCell ⟨x4.heap.size, 3, none⟩ (.int .u64 0)).setCell ⟨x4.heap.size, 4, none⟩ (.string ⟨#[]⟩)) = x6 at hP
  have hB1 := hP.fc
  simp only [fcG, cellsF, neK, and_true, ne_eq, Nat.zero_add, Nat.reduceAdd] at hB1
  replace hL0 := hP
  go_wp2_with fail
  clear hA
  with_reducible refine Calls.mono (H2.out _) ?_
  rintro e x7 ⟨rfl, hb⟩
  replace hL0 := hL0.call hb
  clear hb hweq hput1 hB1
  have hN0 := cells_of _ 0 [] rfl (hL0.get _ _ List.mem_cons_self)
  simp only [cellsF, and_true, Nat.zero_add, Nat.reduceAdd] at hN0
  go_wp2_with fail
  clear hN0
  with_reducible refine Calls.mono (HW.out _ (hKW.out.at hL0.bl kKW)) ?_
  rintro e x8 ⟨rfl, hb⟩
  replace hL0 := hL0.call hb
  clear hb
  go_wp2_with fail
  exact bodyPost_ret (v := .bool true) (by simp [results, Tryz.results13, go_sem]) rfl ⟨rfl, hL0.bl⟩

theorem fpowers_4 (n d m k : Int) (ln : -9223372036854775808 ≤ n) (hn : n < 9223372036854775808) (ld : 0 ≤ d) (hdd : d < 4294967296) (lm : -9223372036854775808 ≤ m) (hmm : m < 9223372036854775808) (lk : -9223372036854775808 ≤ k) (hkk : k < 9223372036854775808) (p0 : ¬ m < -4096) (p1 : ¬ 4096 < m) (p2 : ¬ m < -20) (p3 : ¬ 20 < m) (p4 : m < 0) (hz : qmade n d.toNat = 0) (w : World) (htab : Tab w) (hm : MaxL w) :
    Calls Tryz.prog 13 #[.agg #[.int .i64 n, .int .u32 d], .int .i64 m, .int .i64 k] w fun xe w' => xe = .returned (.bool true) ∧ Below w.heap.size w w' := by
  have HQ := fun w => qof_any n d ln hn ld hdd w
  have Sa := qmade_sz n d.toNat ln hn (by omega)
  have NB := (qmade_nb n d.toNat ln hn (by omega))
  generalize qmade n d.toNat = a at *
  have HS : ∀ i : Nat, i < 20 → ∀ s t : Rat, s = a ^ i → t = a ^ (i + 1) → ∀ w, Calls Tryz.prog 68 #[fracV s, fracV a] w fun xe w' => xe = .returned (fracV t) ∧ Below w.heap.size w w' := fun i hi s t hs ht w => by
    have h := mulF (a ^ i) a 21 ((Sa.pow i).mono (by omega)) (Sa.mono (by omega)) (by omega) w
    rw [← Rat.pow_succ, ← hs, ← ht] at h
    exact h
  have H1 := fun w => powZ_zero a hz m (by omega) (by omega) w
  have H2 := fun w => signF a w
  have HW := fun w (h : Tab w ∧ MaxL w) => fworks_any w h.1 h.2
  exact fpowers_4_w a n d m k ((1 : Int) : Rat) (sgnQ a) HQ HS H1 H2 _ (Keeps.and Keeps.tab MaxL.keeps) HW rfl (by first | exact decide_eq_true (by omega) | exact decide_eq_false (by omega)) (by first | exact decide_eq_true (by omega) | exact decide_eq_false (by omega)) (by first | exact decide_eq_true (by omega) | exact decide_eq_false (by omega)) (by first | exact decide_eq_true (by omega) | exact decide_eq_false (by omega)) (by first | exact decide_eq_true (by omega) | exact decide_eq_false (by omega)) (by first | exact decide_eq_true (by omega) | exact decide_eq_false (by omega)) (by first | exact decide_eq_true (by omega) | exact decide_eq_false (by omega)) (by first | exact decide_eq_true (by omega) | exact decide_eq_false (by omega)) (by first | (rw [sgnQ_eq0]; simp [hz]) | (rw [bne, sgnQ_eq0]; simp [hz])) (by first | (rw [sgnQ_eq0]; simp [hz]) | (rw [bne, sgnQ_eq0]; simp [hz])) (by first | exact decide_eq_true (by omega) | exact decide_eq_false (by omega)) (by first | exact decide_eq_true (by omega) | exact decide_eq_false (by omega)) w ⟨htab, hm⟩

set_option maxHeartbeats 16000000 in
set_option maxRecDepth 100000 in
theorem fpowers_5_w  (a : Rat) (n : Int) (d : Int) (m : Int) (k : Int) (r1 : Rat) (r2 : Rat) (i1 : Int) (HQ : ∀ w, Calls Tryz.prog 99 #[.agg #[.int .i64 n, .int .u32 d]] w fun xe w' => xe = .returned (fracV a) ∧ Below w.heap.size w w') (HS : ∀ i : Nat, i < 20 → ∀ s t : Rat, s = a ^ i → t = a ^ (i + 1) → ∀ w, Calls Tryz.prog 68 #[fracV s, fracV a] w fun xe w' => xe = .returned (fracV t) ∧ Below w.heap.size w w') (H1 : ∀ w, Calls Tryz.prog 98 #[fracV a, .int .i64 m] w fun xe w' => xe = .returned (.tuple #[fracV r2, .int .i64 0]) ∧ Below w.heap.size w w') (H2 : ∀ w, Calls Tryz.prog 75 #[fracV a] w fun xe w' => xe = .returned (.int .i64 i1) ∧ Below w.heap.size w w') (KW : World → Prop) (hKW : Keeps KW) (HW : ∀ w, KW w → Calls Tryz.prog 57 #[] w fun xe w' => xe = .returned (.bool true) ∧ Below w.heap.size w w') (hone : r1 = 1) (hd2 : decide (m < (-4096)) = false) (hd3 : decide ((-4096) ≤ m) = true) (hd4 : decide (4096 < m) = false) (hd5 : decide (m ≤ 4096) = true) (hd6 : decide (m < (-20)) = false) (hd7 : decide ((-20) ≤ m) = true) (hd8 : decide (20 < m) = false) (hd9 : decide (m ≤ 20) = true) (hd10 : (i1 == 0) = true) (hd11 : (i1 != 0) = false) (hd12 : decide (m < 0) = false) (hd13 : decide (0 ≤ m) = true) (hd14 : decide (k < (-20)) = true) (hd15 : decide ((-20) ≤ k) = false) (w : World) (kKW : KW w) :
    Calls Tryz.prog 13 #[.agg #[.int .i64 n, .int .u32 d], .int .i64 m, .int .i64 k] w fun xe w' => xe = .returned (.bool true) ∧ Below w.heap.size w w' := by
  have hL0 : GL w w [] := GL.start w
  replace HQ := Lib.hid HQ
  replace HS := Lib.hid HS
  replace H1 := Lib.hid H1
  replace H2 := Lib.hid H2
  replace hKW := Lib.hid hKW
  replace HW := Lib.hid HW
  replace hone := Lib.hid hone
  replace hL0 := (hL0.new rfl [.int .i64 n, .int .u32 d] 120)
  generalize hweq : (w.alloc (.cells #[.int .i64 n, .int .u32 d] 120)) = x1 at hL0
  go_enter Tryz.func13, Tryz.ntmps13
  have hN0 := cells_of _ 0 [] rfl (hL0.get _ _ List.mem_cons_self)
  simp only [cellsF, and_true, Nat.zero_add, Nat.reduceAdd] at hN0
  go_wp2_with fail
  clear hN0
  with_reducible refine Calls.mono (HQ.out _) ?_
  rintro e x2 ⟨rfl, hb⟩
  replace hL0 := hL0.call hb
  clear hb hweq
  replace hL0 := (hL0.new rfl [.int .u64 ((zl a.num : Nat) : Int), .string (zh a.num), .bool (zs a.num), .int .u64 ((lo (fe a) : Nat) : Int), .string (hs (fe a))] 79)
  generalize hweq : (x2.alloc (.cells #[.int .u64 ((zl a.num : Nat) : Int), .string (zh a.num), .bool (zs a.num), .int .u64 ((lo (fe a) : Nat) : Int), .string (hs (fe a))] 79)) = x3 at hL0
  have hN0 := cells_of _ 0 [] rfl (hL0.get _ _ List.mem_cons_self)
  simp only [cellsF, and_true, Nat.zero_add, Nat.reduceAdd] at hN0
  go_wp2_with fail
  clear hN0
  with_reducible refine Calls.mono (H1.out _) ?_
  rintro e x4 ⟨rfl, hb⟩
  replace hL0 := hL0.call hb
  clear hb hweq
  replace hL0 := (hL0.new rfl [.int .u64 ((zl r2.num : Nat) : Int), .string (zh r2.num), .bool (zs r2.num), .int .u64 ((lo (fe r2) : Nat) : Int), .string (hs (fe r2))] 79)
  generalize hweq : (x4.alloc (.cells #[.int .u64 ((zl r2.num : Nat) : Int), .string (zh r2.num), .bool (zs r2.num), .int .u64 ((lo (fe r2) : Nat) : Int), .string (hs (fe r2))] 79)) = x5 at hL0
  have hN0 := cells_of _ 0 [] rfl (hL0.get _ _ (List.mem_cons_of_mem _ List.mem_cons_self))
  simp only [cellsF, and_true, Nat.zero_add, Nat.reduceAdd] at hN0
  go_wp2_with fail
  clear hN0
  with_reducible refine Calls.mono (H2.out _) ?_
  rintro e x6 ⟨rfl, hb⟩
  replace hL0 := hL0.call hb
  clear hb hweq
  go_wp2_with fail
  with_reducible refine Calls.mono (HW.out _ (hKW.out.at hL0.bl kKW)) ?_
  rintro e x7 ⟨rfl, hb⟩
  replace hL0 := hL0.call hb
  clear hb
  go_wp2_with fail
  exact bodyPost_ret (v := .bool true) (by simp [results, Tryz.results13, go_sem]) rfl ⟨rfl, hL0.bl⟩

theorem fpowers_5 (n d m k : Int) (ln : -9223372036854775808 ≤ n) (hn : n < 9223372036854775808) (ld : 0 ≤ d) (hdd : d < 4294967296) (lm : -9223372036854775808 ≤ m) (hmm : m < 9223372036854775808) (lk : -9223372036854775808 ≤ k) (hkk : k < 9223372036854775808) (p0 : ¬ m < -4096) (p1 : ¬ 4096 < m) (p2 : ¬ m < -20) (p3 : ¬ 20 < m) (p4 : ¬ m < 0) (hz : qmade n d.toNat = 0) (p6 : k < -20) (w : World) (htab : Tab w) (hm : MaxL w) :
    Calls Tryz.prog 13 #[.agg #[.int .i64 n, .int .u32 d], .int .i64 m, .int .i64 k] w fun xe w' => xe = .returned (.bool true) ∧ Below w.heap.size w w' := by
  have HQ := fun w => qof_any n d ln hn ld hdd w
  have Sa := qmade_sz n d.toNat ln hn (by omega)
  have NB := (qmade_nb n d.toNat ln hn (by omega))
  generalize qmade n d.toNat = a at *
  have HS : ∀ i : Nat, i < 20 → ∀ s t : Rat, s = a ^ i → t = a ^ (i + 1) → ∀ w, Calls Tryz.prog 68 #[fracV s, fracV a] w fun xe w' => xe = .returned (fracV t) ∧ Below w.heap.size w w' := fun i hi s t hs ht w => by
    have h := mulF (a ^ i) a 21 ((Sa.pow i).mono (by omega)) (Sa.mono (by omega)) (by omega) w
    rw [← Rat.pow_succ, ← hs, ← ht] at h
    exact h
  have Sr2 := Sa.zpow (m := m) (by first | exact .inr (by omega) | exact .inl hz) (by omega)
  have H1 := fun w => powZ a m (by first | exact .inr (by omega) | exact .inl hz) (by omega) 64 (by rcases Nat.eq_zero_or_pos ((m : Int)).natAbs with h | h; exact .inl h; exact .inr ((Nat.le_div_iff_mul_le h).2 (by omega))) NB.1 NB.2 (Sa.mono (by omega)) w
  have H2 := fun w => signF a w
  have HW := fun w (h : Tab w ∧ MaxL w) => fworks_any w h.1 h.2
  exact fpowers_5_w a n d m k ((1 : Int) : Rat) (a ^ m) (sgnQ a) HQ HS H1 H2 _ (Keeps.and Keeps.tab MaxL.keeps) HW rfl (by first | exact decide_eq_true (by omega) | exact decide_eq_false (by omega)) (by first | exact decide_eq_true (by omega) | exact decide_eq_false (by omega)) (by first | exact decide_eq_true (by omega) | exact decide_eq_false (by omega)) (by first | exact decide_eq_true (by omega) | exact decide_eq_false (by omega)) (by first | exact decide_eq_true (by omega) | exact decide_eq_false (by omega)) (by first | exact decide_eq_true (by omega) | exact decide_eq_false (by omega)) (by first | exact decide_eq_true (by omega) | exact decide_eq_false (by omega)) (by first | exact decide_eq_true (by omega) | exact decide_eq_false (by omega)) (by first | (rw [sgnQ_eq0]; simp [hz]) | (rw [bne, sgnQ_eq0]; simp [hz])) (by first | (rw [sgnQ_eq0]; simp [hz]) | (rw [bne, sgnQ_eq0]; simp [hz])) (by first | exact decide_eq_true (by omega) | exact decide_eq_false (by omega)) (by first | exact decide_eq_true (by omega) | exact decide_eq_false (by omega)) (by first | exact decide_eq_true (by omega) | exact decide_eq_false (by omega)) (by first | exact decide_eq_true (by omega) | exact decide_eq_false (by omega)) w ⟨htab, hm⟩

set_option maxHeartbeats 16000000 in
set_option maxRecDepth 100000 in
theorem fpowers_6_w  (a : Rat) (n : Int) (d : Int) (m : Int) (k : Int) (r1 : Rat) (r2 : Rat) (i1 : Int) (HQ : ∀ w, Calls Tryz.prog 99 #[.agg #[.int .i64 n, .int .u32 d]] w fun xe w' => xe = .returned (fracV a) ∧ Below w.heap.size w w') (HS : ∀ i : Nat, i < 20 → ∀ s t : Rat, s = a ^ i → t = a ^ (i + 1) → ∀ w, Calls Tryz.prog 68 #[fracV s, fracV a] w fun xe w' => xe = .returned (fracV t) ∧ Below w.heap.size w w') (H1 : ∀ w, Calls Tryz.prog 98 #[fracV a, .int .i64 m] w fun xe w' => xe = .returned (.tuple #[fracV r2, .int .i64 0]) ∧ Below w.heap.size w w') (H2 : ∀ w, Calls Tryz.prog 75 #[fracV a] w fun xe w' => xe = .returned (.int .i64 i1) ∧ Below w.heap.size w w') (KW : World → Prop) (hKW : Keeps KW) (HW : ∀ w, KW w → Calls Tryz.prog 57 #[] w fun xe w' => xe = .returned (.bool true) ∧ Below w.heap.size w w') (hone : r1 = 1) (hd2 : decide (m < (-4096)) = false) (hd3 : decide ((-4096) ≤ m) = true) (hd4 : decide (4096 < m) = false) (hd5 : decide (m ≤ 4096) = true) (hd6 : decide (m < (-20)) = false) (hd7 : decide ((-20) ≤ m) = true) (hd8 : decide (20 < m) = false) (hd9 : decide (m ≤ 20) = true) (hd10 : (i1 == 0) = false) (hd11 : (i1 != 0) = true) (hd12 : decide (k < (-20)) = true) (hd13 : decide ((-20) ≤ k) = false) (w : World) (kKW : KW w) :
    Calls Tryz.prog 13 #[.agg #[.int .i64 n, .int .u32 d], .int .i64 m, .int .i64 k] w fun xe w' => xe = .returned (.bool true) ∧ Below w.heap.size w w' := by
  have hL0 : GL w w [] := GL.start w
  replace HQ := Lib.hid HQ
  replace HS := Lib.hid HS
  replace H1 := Lib.hid H1
  replace H2 := Lib.hid H2
  replace hKW := Lib.hid hKW
  replace HW := Lib.hid HW
  replace hone := Lib.hid hone
  replace hL0 := (hL0.new rfl [.int .i64 n, .int .u32 d] 120)
  generalize hweq : (w.alloc (.cells #[.int .i64 n, .int .u32 d] 120)) = x1 at hL0
  go_enter Tryz.func13, Tryz.ntmps13
  have hN0 := cells_of _ 0 [] rfl (hL0.get _ _ List.mem_cons_self)
  simp only [cellsF, and_true, Nat.zero_add, Nat.reduceAdd] at hN0
  go_wp2_with fail
  clear hN0
  with_reducible refine Calls.mono (HQ.out _) ?_
  rintro e x2 ⟨rfl, hb⟩
  replace hL0 := hL0.call hb
  clear hb hweq
  replace hL0 := (hL0.new rfl [.int .u64 ((zl a.num : Nat) : Int), .string (zh a.num), .bool (zs a.num), .int .u64 ((lo (fe a) : Nat) : Int), .string (hs (fe a))] 79)
  generalize hweq : (x2.alloc (.cells #[.int .u64 ((zl a.num : Nat) : Int), .string (zh a.num), .bool (zs a.num), .int .u64 ((lo (fe a) : Nat) : Int), .string (hs (fe a))] 79)) = x3 at hL0
  have hN0 := cells_of _ 0 [] rfl (hL0.get _ _ List.mem_cons_self)
  simp only [cellsF, and_true, Nat.zero_add, Nat.reduceAdd] at hN0
  go_wp2_with fail
  clear hN0
  with_reducible refine Calls.mono (H1.out _) ?_
  rintro e x4 ⟨rfl, hb⟩
  replace hL0 := hL0.call hb
  clear hb hweq
  replace hL0 := (hL0.new rfl [.int .u64 ((zl r2.num : Nat) : Int), .string (zh r2.num), .bool (zs r2.num), .int .u64 ((lo (fe r2) : Nat) : Int), .string (hs (fe r2))] 79)
  generalize hweq : (x4.alloc (.cells #[.int .u64 ((zl r2.num : Nat) : Int), .string (zh r2.num), .bool (zs r2.num), .int .u64 ((lo (fe r2) : Nat) : Int), .string (hs (fe r2))] 79)) = x5 at hL0
  have hN0 := cells_of _ 0 [] rfl (hL0.get _ _ (List.mem_cons_of_mem _ List.mem_cons_self))
  simp only [cellsF, and_true, Nat.zero_add, Nat.reduceAdd] at hN0
  go_wp2_with fail
  clear hN0
  with_reducible refine Calls.mono (H2.out _) ?_
  rintro e x6 ⟨rfl, hb⟩
  replace hL0 := hL0.call hb
  clear hb hweq
  go_wp2_with fail
  with_reducible refine Calls.mono (HW.out _ (hKW.out.at hL0.bl kKW)) ?_
  rintro e x7 ⟨rfl, hb⟩
  replace hL0 := hL0.call hb
  clear hb
  go_wp2_with fail
  exact bodyPost_ret (v := .bool true) (by simp [results, Tryz.results13, go_sem]) rfl ⟨rfl, hL0.bl⟩

theorem fpowers_6 (n d m k : Int) (ln : -9223372036854775808 ≤ n) (hn : n < 9223372036854775808) (ld : 0 ≤ d) (hdd : d < 4294967296) (lm : -9223372036854775808 ≤ m) (hmm : m < 9223372036854775808) (lk : -9223372036854775808 ≤ k) (hkk : k < 9223372036854775808) (p0 : ¬ m < -4096) (p1 : ¬ 4096 < m) (p2 : ¬ m < -20) (p3 : ¬ 20 < m) (p4 : ¬ m < 0) (hz : qmade n d.toNat ≠ 0) (p6 : k < -20) (w : World) (htab : Tab w) (hm : MaxL w) :
    Calls Tryz.prog 13 #[.agg #[.int .i64 n, .int .u32 d], .int .i64 m, .int .i64 k] w fun xe w' => xe = .returned (.bool true) ∧ Below w.heap.size w w' := by
  have HQ := fun w => qof_any n d ln hn ld hdd w
  have Sa := qmade_sz n d.toNat ln hn (by omega)
  have NB := (qmade_nb n d.toNat ln hn (by omega))
  generalize qmade n d.toNat = a at *
  have HS : ∀ i : Nat, i < 20 → ∀ s t : Rat, s = a ^ i → t = a ^ (i + 1) → ∀ w, Calls Tryz.prog 68 #[fracV s, fracV a] w fun xe w' => xe = .returned (fracV t) ∧ Below w.heap.size w w' := fun i hi s t hs ht w => by
    have h := mulF (a ^ i) a 21 ((Sa.pow i).mono (by omega)) (Sa.mono (by omega)) (by omega) w
    rw [← Rat.pow_succ, ← hs, ← ht] at h
    exact h
  have Sr2 := Sa.zpow (m := m) (by first | exact .inr (by omega) | exact .inl hz) (by omega)
  have H1 := fun w => powZ a m (by first | exact .inr (by omega) | exact .inl hz) (by omega) 64 (by rcases Nat.eq_zero_or_pos ((m : Int)).natAbs with h | h; exact .inl h; exact .inr ((Nat.le_div_iff_mul_le h).2 (by omega))) NB.1 NB.2 (Sa.mono (by omega)) w
  have H2 := fun w => signF a w
  have HW := fun w (h : Tab w ∧ MaxL w) => fworks_any w h.1 h.2
  exact fpowers_6_w a n d m k ((1 : Int) : Rat) (a ^ m) (sgnQ a) HQ HS H1 H2 _ (Keeps.and Keeps.tab MaxL.keeps) HW rfl (by first | exact decide_eq_true (by omega) | exact decide_eq_false (by omega)) (by first | exact decide_eq_true (by omega) | exact decide_eq_false (by omega)) (by first | exact decide_eq_true (by omega) | exact decide_eq_false (by omega)) (by first | exact decide_eq_true (by omega) | exact decide_eq_false (by omega)) (by first | exact decide_eq_true (by omega) | exact decide_eq_false (by omega)) (by first | exact decide_eq_true (by omega) | exact decide_eq_false (by omega)) (by first | exact decide_eq_true (by omega) | exact decide_eq_false (by omega)) (by first | exact decide_eq_true (by omega) | exact decide_eq_false (by omega)) (by first | (rw [sgnQ_eq0]; simp [hz]) | (rw [bne, sgnQ_eq0]; simp [hz])) (by first | (rw [sgnQ_eq0]; simp [hz]) | (rw [bne, sgnQ_eq0]; simp [hz])) (by first | exact decide_eq_true (by omega) | exact decide_eq_false (by omega)) (by first | exact decide_eq_true (by omega) | exact decide_eq_false (by omega)) w ⟨htab, hm⟩

set_option maxHeartbeats 16000000 in
set_option maxRecDepth 100000 in
theorem fpowers_7_w  (a : Rat) (n : Int) (d : Int) (m : Int) (k : Int) (r1 : Rat) (r2 : Rat) (i1 : Int) (HQ : ∀ w, Calls Tryz.prog 99 #[.agg #[.int .i64 n, .int .u32 d]] w fun xe w' => xe = .returned (fracV a) ∧ Below w.heap.size w w') (HS : ∀ i : Nat, i < 20 → ∀ s t : Rat, s = a ^ i → t = a ^ (i + 1) → ∀ w, Calls Tryz.prog 68 #[fracV s, fracV a] w fun xe w' => xe = .returned (fracV t) ∧ Below w.heap.size w w') (H1 : ∀ w, Calls Tryz.prog 98 #[fracV a, .int .i64 m] w fun xe w' => xe = .returned (.tuple #[fracV r2, .int .i64 0]) ∧ Below w.heap.size w w') (H2 : ∀ w, Calls Tryz.prog 75 #[fracV a] w fun xe w' => xe = .returned (.int .i64 i1) ∧ Below w.heap.size w w') (KW : World → Prop) (hKW : Keeps KW) (HW : ∀ w, KW w → Calls Tryz.prog 57 #[] w fun xe w' => xe = .returned (.bool true) ∧ Below w.heap.size w w') (hone : r1 = 1) (hd2 : decide (m < (-4096)) = false) (hd3 : decide ((-4096) ≤ m) = true) (hd4 : decide (4096 < m) = false) (hd5 : decide (m ≤ 4096) = true) (hd6 : decide (m < (-20)) = false) (hd7 : decide ((-20) ≤ m) = true) (hd8 : decide (20 < m) = false) (hd9 : decide (m ≤ 20) = true) (hd10 : (i1 == 0) = false) (hd11 : (i1 != 0) = true) (hd12 : decide (k < (-20)) = false) (hd13 : decide ((-20) ≤ k) = true) (hd14 : decide (20 < k) = true) (hd15 : decide (k ≤ 20) = false) (w : World) (kKW : KW w) :
    Calls Tryz.prog 13 #[.agg #[.int .i64 n, .int .u32 d], .int .i64 m, .int .i64 k] w fun xe w' => xe = .returned (.bool true) ∧ Below w.heap.size w w' := by
  have hL0 : GL w w [] := GL.start w
  replace HQ := Lib.hid HQ
  replace HS := Lib.hid HS
  replace H1 := Lib.hid H1
  replace H2 := Lib.hid H2
  replace hKW := Lib.hid hKW
  replace HW := Lib.hid HW
  replace hone := Lib.hid hone
  replace hL0 := (hL0.new rfl [.int .i64 n, .int .u32 d] 120)
  generalize hweq : (w.alloc (.cells #[.int .i64 n, .int .u32 d] 120)) = x1 at hL0
  go_enter Tryz.func13, Tryz.ntmps13
  have hN0 := cells_of _ 0 [] rfl (hL0.get _ _ List.mem_cons_self)
  simp only [cellsF, and_true, Nat.zero_add, Nat.reduceAdd] at hN0
  go_wp2_with fail
  clear hN0
  with_reducible refine Calls.mono (HQ.out _) ?_
  rintro e x2 ⟨rfl, hb⟩
  replace hL0 := hL0.call hb
  clear hb hweq
  replace hL0 := (hL0.new rfl [.int .u64 ((zl a.num : Nat) : Int), .string (zh a.num), .bool (zs a.num), .int .u64 ((lo (fe a) : Nat) : Int), .string (hs (fe a))] 79)
  generalize hweq : (x2.alloc (.cells #[.int .u64 ((zl a.num : Nat) : Int), .string (zh a.num), .bool (zs a.num), .int .u64 ((lo (fe a) : Nat) : Int), .string (hs (fe a))] 79)) = x3 at hL0
  have hN0 := cells_of _ 0 [] rfl (hL0.get _ _ List.mem_cons_self)
  simp only [cellsF, and_true, Nat.zero_add, Nat.reduceAdd] at hN0
  go_wp2_with fail
  clear hN0
  with_reducible refine Calls.mono (H1.out _) ?_
  rintro e x4 ⟨rfl, hb⟩
  replace hL0 := hL0.call hb
  clear hb hweq
  replace hL0 := (hL0.new rfl [.int .u64 ((zl r2.num : Nat) : Int), .string (zh r2.num), .bool (zs r2.num), .int .u64 ((lo (fe r2) : Nat) : Int), .string (hs (fe r2))] 79)
  generalize hweq : (x4.alloc (.cells #[.int .u64 ((zl r2.num : Nat) : Int), .string (zh r2.num), .bool (zs r2.num), .int .u64 ((lo (fe r2) : Nat) : Int), .string (hs (fe r2))] 79)) = x5 at hL0
  have hN0 := cells_of _ 0 [] rfl (hL0.get _ _ (List.mem_cons_of_mem _ List.mem_cons_self))
  simp only [cellsF, and_true, Nat.zero_add, Nat.reduceAdd] at hN0
  go_wp2_with fail
  clear hN0
  with_reducible refine Calls.mono (H2.out _) ?_
  rintro e x6 ⟨rfl, hb⟩
  replace hL0 := hL0.call hb
  clear hb hweq
  go_wp2_with fail
  with_reducible refine Calls.mono (HW.out _ (hKW.out.at hL0.bl kKW)) ?_
  rintro e x7 ⟨rfl, hb⟩
  replace hL0 := hL0.call hb
  clear hb
  go_wp2_with fail
  exact bodyPost_ret (v := .bool true) (by simp [results, Tryz.results13, go_sem]) rfl ⟨rfl, hL0.bl⟩

theorem fpowers_7 (n d m k : Int) (ln : -9223372036854775808 ≤ n) (hn : n < 9223372036854775808) (ld : 0 ≤ d) (hdd : d < 4294967296) (lm : -9223372036854775808 ≤ m) (hmm : m < 9223372036854775808) (lk : -9223372036854775808 ≤ k) (hkk : k < 9223372036854775808) (p0 : ¬ m < -4096) (p1 : ¬ 4096 < m) (p2 : ¬ m < -20) (p3 : ¬ 20 < m) (p4 : ¬ m < 0) (hz : qmade n d.toNat ≠ 0) (p6 : ¬ k < -20) (p7 : 20 < k) (w : World) (htab : Tab w) (hm : MaxL w) :
    Calls Tryz.prog 13 #[.agg #[.int .i64 n, .int .u32 d], .int .i64 m, .int .i64 k] w fun xe w' => xe = .returned (.bool true) ∧ Below w.heap.size w w' := by
  have HQ := fun w => qof_any n d ln hn ld hdd w
  have Sa := qmade_sz n d.toNat ln hn (by omega)
  have NB := (qmade_nb n d.toNat ln hn (by omega))
  generalize qmade n d.toNat = a at *
  have HS : ∀ i : Nat, i < 20 → ∀ s t : Rat, s = a ^ i → t = a ^ (i + 1) → ∀ w, Calls Tryz.prog 68 #[fracV s, fracV a] w fun xe w' => xe = .returned (fracV t) ∧ Below w.heap.size w w' := fun i hi s t hs ht w => by
    have h := mulF (a ^ i) a 21 ((Sa.pow i).mono (by omega)) (Sa.mono (by omega)) (by omega) w
    rw [← Rat.pow_succ, ← hs, ← ht] at h
    exact h
  have Sr2 := Sa.zpow (m := m) (by first | exact .inr (by omega) | exact .inl hz) (by omega)
  have H1 := fun w => powZ a m (by first | exact .inr (by omega) | exact .inl hz) (by omega) 64 (by rcases Nat.eq_zero_or_pos ((m : Int)).natAbs with h | h; exact .inl h; exact .inr ((Nat.le_div_iff_mul_le h).2 (by omega))) NB.1 NB.2 (Sa.mono (by omega)) w
  have H2 := fun w => signF a w
  have HW := fun w (h : Tab w ∧ MaxL w) => fworks_any w h.1 h.2
  exact fpowers_7_w a n d m k ((1 : Int) : Rat) (a ^ m) (sgnQ a) HQ HS H1 H2 _ (Keeps.and Keeps.tab MaxL.keeps) HW rfl (by first | exact decide_eq_true (by omega) | exact decide_eq_false (by omega)) (by first | exact decide_eq_true (by omega) | exact decide_eq_false (by omega)) (by first | exact decide_eq_true (by omega) | exact decide_eq_false (by omega)) (by first | exact decide_eq_true (by omega) | exact decide_eq_false (by omega)) (by first | exact decide_eq_true (by omega) | exact decide_eq_false (by omega)) (by first | exact decide_eq_true (by omega) | exact decide_eq_false (by omega)) (by first | exact decide_eq_true (by omega) | exact decide_eq_false (by omega)) (by first | exact decide_eq_true (by omega) | exact decide_eq_false (by omega)) (by first | (rw [sgnQ_eq0]; simp [hz]) | (rw [bne, sgnQ_eq0]; simp [hz])) (by first | (rw [sgnQ_eq0]; simp [hz]) | (rw [bne, sgnQ_eq0]; simp [hz])) (by first | exact decide_eq_true (by omega) | exact decide_eq_false (by omega)) (by first | exact decide_eq_true (by omega) | exact decide_eq_false (by omega)) (by first | exact decide_eq_true (by omega) | exact decide_eq_false (by omega)) (by first | exact decide_eq_true (by omega) | exact decide_eq_false (by omega)) w ⟨htab, hm⟩

set_option maxHeartbeats 16000000 in
set_option maxRecDepth 100000 in
theorem fpowers_8_w  (a : Rat) (n : Int) (d : Int) (m : Int) (k : Int) (r1 : Rat) (r2 : Rat) (i1 : Int) (r3 : Rat) (t : Int) (r4 : Rat) (mn : Int) (L : Nat) (HQ : ∀ w, Calls Tryz.prog 99 #[.agg #[.int .i64 n, .int .u32 d]] w fun xe w' => xe = .returned (fracV a) ∧ Below w.heap.size w w') (HS : ∀ i : Nat, i < 20 → ∀ s t : Rat, s = a ^ i → t = a ^ (i + 1) → ∀ w, Calls Tryz.prog 68 #[fracV s, fracV a] w fun xe w' => xe = .returned (fracV t) ∧ Below w.heap.size w w') (H1 : ∀ w, Calls Tryz.prog 98 #[fracV a, .int .i64 m] w fun xe w' => xe = .returned (.tuple #[fracV r2, .int .i64 0]) ∧ Below w.heap.size w w') (H2 : ∀ w, Calls Tryz.prog 75 #[fracV a] w fun xe w' => xe = .returned (.int .i64 i1) ∧ Below w.heap.size w w') (H3 : ∀ w, Calls Tryz.prog 98 #[fracV a, .int .i64 k] w fun xe w' => xe = .returned (.tuple #[fracV r3, .int .i64 0]) ∧ Below w.heap.size w w') (H4 : ∀ w, Calls Tryz.prog 98 #[fracV a, .int .i64 t] w fun xe w' => xe = .returned (.tuple #[fracV r4, .int .i64 0]) ∧ Below w.heap.size w w') (H5 : ∀ w, Calls Tryz.prog 94 #[.int .i64 1] w fun xe w' => xe = .returned (fracV r1) ∧ Below w.heap.size w w') (H6 : ∀ w, Calls Tryz.prog 68 #[fracV r2, fracV r3] w fun xe w' => xe = .returned (fracV r4) ∧ Below w.heap.size w w') (KW : World → Prop) (hKW : Keeps KW) (HW : ∀ w, KW w → Calls Tryz.prog 57 #[] w fun xe w' => xe = .returned (.bool true) ∧ Below w.heap.size w w') (hone : r1 = 1) (hd2 : decide (m < (-4096)) = false) (hd3 : decide ((-4096) ≤ m) = true) (hd4 : decide (4096 < m) = false) (hd5 : decide (m ≤ 4096) = true) (hd6 : decide (m < (-20)) = false) (hd7 : decide ((-20) ≤ m) = true) (hd8 : decide (20 < m) = false) (hd9 : decide (m ≤ 20) = true) (hd10 : (i1 == 0) = false) (hd11 : (i1 != 0) = true) (hd12 : decide (k < (-20)) = false) (hd13 : decide ((-20) ≤ k) = true) (hd14 : decide (20 < k) = false) (hd15 : decide (k ≤ 20) = true) (hdt : IntKind.i64.wrap (m + k) = t) (hdn : IntKind.i64.wrap (-m) = mn) (hmx : max m mn = m) (hL : m = (L : Int)) (hL2 : L ≤ 20) (hps : r2 = a ^ L) (hd22 : decide (m < 0) = false) (hd23 : decide (0 ≤ m) = true) (w : World) (kKW : KW w) :
    Calls Tryz.prog 13 #[.agg #[.int .i64 n, .int .u32 d], .int .i64 m, .int .i64 k] w fun xe w' => xe = .returned (.bool true) ∧ Below w.heap.size w w' := by
  have hL0 : GL w w [] := GL.start w
  replace HQ := Lib.hid HQ
  replace HS := Lib.hid HS
  replace H1 := Lib.hid H1
  replace H2 := Lib.hid H2
  replace H3 := Lib.hid H3
  replace H4 := Lib.hid H4
  replace H5 := Lib.hid H5
  replace H6 := Lib.hid H6
  replace hKW := Lib.hid hKW
  replace HW := Lib.hid HW
  replace hone := Lib.hid hone
  replace hL := Lib.hid hL
  replace hL2 := Lib.hid hL2
  replace hps := Lib.hid hps
  replace hL0 := (hL0.new rfl [.int .i64 n, .int .u32 d] 120)
  generalize hweq : (w.alloc (.cells #[.int .i64 n, .int .u32 d] 120)) = x1 at hL0
  go_enter Tryz.func13, Tryz.ntmps13
  have hN0 := cells_of _ 0 [] rfl (hL0.get _ _ List.mem_cons_self)
  simp only [cellsF, and_true, Nat.zero_add, Nat.reduceAdd] at hN0
  go_wp2_with fail
  clear hN0
  with_reducible refine Calls.mono (HQ.out _) ?_
  rintro e x2 ⟨rfl, hb⟩
  replace hL0 := hL0.call hb
  clear hb hweq
  replace hL0 := (hL0.new rfl [.int .u64 ((zl a.num : Nat) : Int), .string (zh a.num), .bool (zs a.num), .int .u64 ((lo (fe a) : Nat) : Int), .string (hs (fe a))] 79)
  generalize hweq : (x2.alloc (.cells #[.int .u64 ((zl a.num : Nat) : Int), .string (zh a.num), .bool (zs a.num), .int .u64 ((lo (fe a) : Nat) : Int), .string (hs (fe a))] 79)) = x3 at hL0
  have hN0 := cells_of _ 0 [] rfl (hL0.get _ _ List.mem_cons_self)
  simp only [cellsF, and_true, Nat.zero_add, Nat.reduceAdd] at hN0
  go_wp2_with fail
  clear hN0
  with_reducible refine Calls.mono (H1.out _) ?_
  rintro e x4 ⟨rfl, hb⟩
  replace hL0 := hL0.call hb
  clear hb hweq
  replace hL0 := (hL0.new rfl [.int .u64 ((zl r2.num : Nat) : Int), .string (zh r2.num), .bool (zs r2.num), .int .u64 ((lo (fe r2) : Nat) : Int), .string (hs (fe r2))] 79)
  generalize hweq : (x4.alloc (.cells #[.int .u64 ((zl r2.num : Nat) : Int), .string (zh r2.num), .bool (zs r2.num), .int .u64 ((lo (fe r2) : Nat) : Int), .string (hs (fe r2))] 79)) = x5 at hL0
  have hN0 := cells_of _ 0 [] rfl (hL0.get _ _ (List.mem_cons_of_mem _ List.mem_cons_self))
  simp only [cellsF, and_true, Nat.zero_add, Nat.reduceAdd] at hN0
  go_wp2_with fail
  clear hN0
  with_reducible refine Calls.mono (H2.out _) ?_
  rintro e x6 ⟨rfl, hb⟩
  replace hL0 := hL0.call hb
  clear hb hweq
  have hN0 := cells_of _ 0 [] rfl (hL0.get _ _ (List.mem_cons_of_mem _ List.mem_cons_self))
  simp only [cellsF, and_true, Nat.zero_add, Nat.reduceAdd] at hN0
  go_wp2_with fail
  clear hN0
  with_reducible refine Calls.mono (H2.out _) ?_
  rintro e x7 ⟨rfl, hb⟩
  replace hL0 := hL0.call hb
  clear hb
  have hN0 := cells_of _ 0 [] rfl (hL0.get _ _ (List.mem_cons_of_mem _ List.mem_cons_self))
  simp only [cellsF, and_true, Nat.zero_add, Nat.reduceAdd] at hN0
  go_wp2_with fail
  clear hN0
  with_reducible refine Calls.mono (H3.out _) ?_
  rintro e x8 ⟨rfl, hb⟩
  replace hL0 := hL0.call hb
  clear hb
  replace hL0 := (hL0.new rfl [.int .u64 ((zl r3.num : Nat) : Int), .string (zh r3.num), .bool (zs r3.num), .int .u64 ((lo (fe r3) : Nat) : Int), .string (hs (fe r3))] 79)
  generalize hweq : (x8.alloc (.cells #[.int .u64 ((zl r3.num : Nat) : Int), .string (zh r3.num), .bool (zs r3.num), .int .u64 ((lo (fe r3) : Nat) : Int), .string (hs (fe r3))] 79)) = x9 at hL0
  have hN0 := cells_of _ 0 [] rfl (hL0.get _ _ (List.mem_cons_of_mem _ (List.mem_cons_of_mem _ List.mem_cons_self)))
  simp only [cellsF, and_true, Nat.zero_add, Nat.reduceAdd] at hN0
  go_wp2_with fail
  clear hN0
  with_reducible refine Calls.mono (H4.out _) ?_
  rintro e x10 ⟨rfl, hb⟩
  replace hL0 := hL0.call hb
  clear hb hweq
  replace hL0 := (hL0.new rfl [.int .u64 ((zl r4.num : Nat) : Int), .string (zh r4.num), .bool (zs r4.num), .int .u64 ((lo (fe r4) : Nat) : Int), .string (hs (fe r4))] 79)
  generalize hweq : (x10.alloc (.cells #[.int .u64 ((zl r4.num : Nat) : Int), .string (zh r4.num), .bool (zs r4.num), .int .u64 ((lo (fe r4) : Nat) : Int), .string (hs (fe r4))] 79)) = x11 at hL0
  go_wp2_with fail
  with_reducible refine Calls.mono (H5.out _) ?_
  rintro e x12 ⟨rfl, hb⟩
  replace hL0 := hL0.call hb
  clear hb hweq
  replace hL0 := (hL0.new rfl [.int .u64 ((zl r1.num : Nat) : Int), .string (zh r1.num), .bool (zs r1.num), .int .u64 ((lo (fe r1) : Nat) : Int), .string (hs (fe r1))] 79)
  generalize hweq : (x12.alloc (.cells #[.int .u64 ((zl r1.num : Nat) : Int), .string (zh r1.num), .bool (zs r1.num), .int .u64 ((lo (fe r1) : Nat) : Int), .string (hs (fe r1))] 79)) = x13 at hL0
  go_wp2_with fail
  clear hweq
  go_loopw [15] (fun z wr => ∃ i : Nat, i ≤ L ∧ z = .int .i64 (i : Int) ∧ ∃ sv : Rat, sv = a ^ i ∧ GL w wr [(x12.heap.size, [.int .u64 ((zl sv.num : Nat) : Int), .string (zh sv.num), .bool (zs sv.num), .int .u64 ((lo (fe sv) : Nat) : Int), .string (hs (fe sv))]), (x10.heap.size, [.int .u64 ((zl r4.num : Nat) : Int), .string (zh r4.num), .bool (zs r4.num), .int .u64 ((lo (fe r4) : Nat) : Int), .string (hs (fe r4))]), (x8.heap.size, [.int .u64 ((zl r3.num : Nat) : Int), .string (zh r3.num), .bool (zs r3.num), .int .u64 ((lo (fe r3) : Nat) : Int), .string (hs (fe r3))]), (x4.heap.size, [.int .u64 ((zl r2.num : Nat) : Int), .string (zh r2.num), .bool (zs r2.num), .int .u64 ((lo (fe r2) : Nat) : Int), .string (hs (fe r2))]), (x2.heap.size, [.int .u64 ((zl a.num : Nat) : Int), .string (zh a.num), .bool (zs a.num), .int .u64 ((lo (fe a) : Nat) : Int), .string (hs (fe a))]), (w.heap.size, [.int .i64 n, .int .u32 d])]) (fun z _ => L - (intOf z).toNat)
  case atStart => exact ⟨0, Nat.zero_le _, rfl, r1, by rw [hone.out, Rat.pow_zero], hL0⟩
  case round =>
    clear hL0
    obtain ⟨i, hi, rfl, sv, hsv, hL0⟩ := hrel
    rcases Nat.lt_or_ge i L with hin | hin
    · skip
      have k1 : decide ((i : Int) < m) = true := decide_eq_true (by have := hL.out; omega)
      obtain ⟨sw, hsw⟩ : ∃ sw : Rat, sw = a ^ (i + 1) := ⟨_, rfl⟩
      have HM := Lib.hid (HS.out i (by have := hL2.out; omega) sv sw hsv hsw)
      replace hsw := Lib.hid hsw
      replace hsv := Lib.hid hsv
      have hi20 : i < 20 := by have := hL2.out; omega
      have k2 : (i : Int) < m := by have := hL.out; omega
      have hN0 := cells_of _ 0 [] rfl (hL0.get _ _ List.mem_cons_self)
      simp only [cellsF, and_true, Nat.zero_add, Nat.reduceAdd] at hN0
      have hN1 := cells_of _ 0 [] rfl (hL0.get _ _ (List.mem_cons_of_mem _ (List.mem_cons_of_mem _ (List.mem_cons_of_mem _ (List.mem_cons_of_mem _ List.mem_cons_self)))))
      simp only [cellsF, and_true, Nat.zero_add, Nat.reduceAdd] at hN1
      go_wp2_with fail
      clear hN0 hN1
      with_reducible refine Calls.mono (HM.out _) ?_
      rintro e x14 ⟨rfl, hb⟩
      replace hL0 := hL0.call hb
      clear hb
      have hA := hL0.fc
      simp only [fcG, cellsF, neK, and_true, ne_eq, Nat.zero_add, Nat.reduceAdd] at hA
      have hP := hL0.put 0 (x12.heap.size) _ rfl [.int .u64 ((zl sw.num : Nat) : Int), .string (zh sw.num), .bool (zs sw.num), .int .u64 ((lo (fe sw) : Nat) : Int), .string (hs (fe sw))] rfl
      simp only [setAll, List.set_cons_zero, List.set_cons_succ] at hP
      generalize hput1 : (((((x14.setCell ⟨x12.heap.size, 0, none⟩ (.int .u64 ((zl sw.num : Nat) : Int))).setCell ⟨x12.heap.size, 1, none⟩ (.string (zh sw.num))).setCell ⟨x12.heap.size, 2, none⟩ (.bool (zs sw.num))).setCell ⟨x12.heap.size, 3, none⟩ (.int .u64 ((lo (fe sw) : Nat) : Int))).setCell ⟨x12.heap.size, 4, none⟩ (.string (hs (fe sw)))) = x15 at hP
      have hB1 := hP.fc
      simp only [fcG, cellsF, neK, and_true, ne_eq, Nat.zero_add, Nat.reduceAdd] at hB1
      replace hL0 := hP
      go_wp2_with fail
      go_roundw
      case rel => exact ⟨i + 1, by omega, by first | rfl | go_num, sw, hsw.out, hL0⟩
      case measure => simp [intOf]; omega
    · obtain rfl : i = L := by omega
      have k1 : decide ((i : Int) < m) = false := decide_eq_false (by have := hL.out; omega)
      have k2 : ¬ (i : Int) < m := by have := hL.out; omega
      have hsv2 : sv = r2 := hsv.trans hps.out.symm
      clear hsv HS hL hL2 hi hin hone
      subst sv
      go_upto_region 22 with fail
      have kKW1 := hKW.out.at hL0.bl kKW
      obtain ⟨α, iα, F, hF1, hF2⟩ := cls wr
      have hq0 := cls_box hF1 hL0 _ _ List.mem_cons_self
      simp only [cellsC, and_true, Nat.zero_add, Nat.reduceAdd] at hq0
      have hq1 := cls_box hF1 hL0 _ _ (List.mem_cons_of_mem _ List.mem_cons_self)
      simp only [cellsC, and_true, Nat.zero_add, Nat.reduceAdd] at hq1
      have hq2 := cls_box hF1 hL0 _ _ (List.mem_cons_of_mem _ (List.mem_cons_of_mem _ List.mem_cons_self))
      simp only [cellsC, and_true, Nat.zero_add, Nat.reduceAdd] at hq2
      have hq3 := cls_box hF1 hL0 _ _ (List.mem_cons_of_mem _ (List.mem_cons_of_mem _ (List.mem_cons_of_mem _ List.mem_cons_self)))
      simp only [cellsC, and_true, Nat.zero_add, Nat.reduceAdd] at hq3
      refine region_qs 18 (C := fun w' => ∃ x, w' = F x) (by kernel_rfl) (by kernel_rfl) (cls_drew hF2) ?_
      simp only [List.take_succ_cons, List.take_zero, List.drop_succ_cons, List.drop_zero, List.take_nil, List.drop_nil]
      repeat (go_big_quiet_step (first | fail | (go_at_call 68; with_reducible exact cls_call hF1 hF2 H6.out _) | (go_at_call 57; with_reducible exact cls_callK hKW.out hF1 hF2 kKW1 HW.out _)))
      refine wpQuiet_nil ?_
      rintro wq ⟨xq, rfl⟩
      replace hL0 := hL0.call (hF1 xq)
      clear  hq0 hq1 hq2 hq3 hF2
      generalize F xq = x16 at hL0 ⊢
      clear hF1 xq iα F α
      clear kKW1
      go_wp2_with fail
      exact bodyPost_ret (v := .bool true) (by simp [results, Tryz.results13, go_sem]) rfl ⟨rfl, hL0.bl⟩

theorem fpowers_8 (n d m k : Int) (ln : -9223372036854775808 ≤ n) (hn : n < 9223372036854775808) (ld : 0 ≤ d) (hdd : d < 4294967296) (lm : -9223372036854775808 ≤ m) (hmm : m < 9223372036854775808) (lk : -9223372036854775808 ≤ k) (hkk : k < 9223372036854775808) (p0 : ¬ m < -4096) (p1 : ¬ 4096 < m) (p2 : ¬ m < -20) (p3 : ¬ 20 < m) (p4 : ¬ m < 0) (hz : qmade n d.toNat ≠ 0) (p6 : ¬ k < -20) (p7 : ¬ 20 < k) (p8 : k < 0) (p9 : m + k < 0) (w : World) (htab : Tab w) (hm : MaxL w) :
    Calls Tryz.prog 13 #[.agg #[.int .i64 n, .int .u32 d], .int .i64 m, .int .i64 k] w fun xe w' => xe = .returned (.bool true) ∧ Below w.heap.size w w' := by
  have HQ := fun w => qof_any n d ln hn ld hdd w
  have Sa := qmade_sz n d.toNat ln hn (by omega)
  have NB := (qmade_nb n d.toNat ln hn (by omega))
  generalize qmade n d.toNat = a at *
  have HS : ∀ i : Nat, i < 20 → ∀ s t : Rat, s = a ^ i → t = a ^ (i + 1) → ∀ w, Calls Tryz.prog 68 #[fracV s, fracV a] w fun xe w' => xe = .returned (fracV t) ∧ Below w.heap.size w w' := fun i hi s t hs ht w => by
    have h := mulF (a ^ i) a 21 ((Sa.pow i).mono (by omega)) (Sa.mono (by omega)) (by omega) w
    rw [← Rat.pow_succ, ← hs, ← ht] at h
    exact h
  have Sps : Sz (a ^ m.natAbs) 41 := (Sa.pow _).mono (by omega)
  have HPS : a ^ m = a ^ m.natAbs := by rw [show a ^ m = a ^ ((m.natAbs : Nat) : Int) by congr 1; omega]; rfl
  have Sr2 := Sa.zpow (m := m) (by first | exact .inr (by omega) | exact .inl hz) (by omega)
  have H1 := fun w => powZ a m (by first | exact .inr (by omega) | exact .inl hz) (by omega) 64 (by rcases Nat.eq_zero_or_pos ((m : Int)).natAbs with h | h; exact .inl h; exact .inr ((Nat.le_div_iff_mul_le h).2 (by omega))) NB.1 NB.2 (Sa.mono (by omega)) w
  have H2 := fun w => signF a w
  have Sr3 := Sa.zpow (m := k) (by first | exact .inr (by omega) | exact .inl hz) (by omega)
  have H3 := fun w => powZ a k (by first | exact .inr (by omega) | exact .inl hz) (by omega) 64 (by rcases Nat.eq_zero_or_pos ((k : Int)).natAbs with h | h; exact .inl h; exact .inr ((Nat.le_div_iff_mul_le h).2 (by omega))) NB.1 NB.2 (Sa.mono (by omega)) w
  have Sr4 := Sa.zpow (m := (m + k)) (by first | exact .inr (by omega) | exact .inl hz) (by omega)
  have H4 := fun w => powZ a (m + k) (by first | exact .inr (by omega) | exact .inl hz) (by omega) 64 (by rcases Nat.eq_zero_or_pos (((m + k) : Int)).natAbs with h | h; exact .inl h; exact .inr ((Nat.le_div_iff_mul_le h).2 (by omega))) NB.1 NB.2 (Sa.mono (by omega)) w
  have H5 := fun w => intF (1) (by decide) (by decide) w
  have H6 := fun w => mulF (a ^ m) (a ^ k) 41 (Sr2.mono (by omega)) (Sr3.mono (by omega)) (by omega) w
  rw [zpow_sum a m k (by first | exact .inr ⟨by omega, by omega⟩ | exact .inl hz)] at H6
  have HW := fun w (h : Tab w ∧ MaxL w) => fworks_any w h.1 h.2
  exact fpowers_8_w a n d m k ((1 : Int) : Rat) (a ^ m) (sgnQ a) (a ^ k) (m + k) (a ^ (m + k)) (-m) m.natAbs HQ HS H1 H2 H3 H4 H5 H6 _ (Keeps.and Keeps.tab MaxL.keeps) HW rfl (by first | exact decide_eq_true (by omega) | exact decide_eq_false (by omega)) (by first | exact decide_eq_true (by omega) | exact decide_eq_false (by omega)) (by first | exact decide_eq_true (by omega) | exact decide_eq_false (by omega)) (by first | exact decide_eq_true (by omega) | exact decide_eq_false (by omega)) (by first | exact decide_eq_true (by omega) | exact decide_eq_false (by omega)) (by first | exact decide_eq_true (by omega) | exact decide_eq_false (by omega)) (by first | exact decide_eq_true (by omega) | exact decide_eq_false (by omega)) (by first | exact decide_eq_true (by omega) | exact decide_eq_false (by omega)) (by first | (rw [sgnQ_eq0]; simp [hz]) | (rw [bne, sgnQ_eq0]; simp [hz])) (by first | (rw [sgnQ_eq0]; simp [hz]) | (rw [bne, sgnQ_eq0]; simp [hz])) (by first | exact decide_eq_true (by omega) | exact decide_eq_false (by omega)) (by first | exact decide_eq_true (by omega) | exact decide_eq_false (by omega)) (by first | exact decide_eq_true (by omega) | exact decide_eq_false (by omega)) (by first | exact decide_eq_true (by omega) | exact decide_eq_false (by omega)) (IntWalk.i64_in _ (by omega)) (IntWalk.i64_in _ (by omega)) (by omega) (by omega) (by omega) HPS (by first | exact decide_eq_true (by omega) | exact decide_eq_false (by omega)) (by first | exact decide_eq_true (by omega) | exact decide_eq_false (by omega)) w ⟨htab, hm⟩

set_option maxHeartbeats 16000000 in
set_option maxRecDepth 100000 in
theorem fpowers_9_w  (a : Rat) (n : Int) (d : Int) (m : Int) (k : Int) (r1 : Rat) (r2 : Rat) (i1 : Int) (r3 : Rat) (t : Int) (r4 : Rat) (mn : Int) (L : Nat) (HQ : ∀ w, Calls Tryz.prog 99 #[.agg #[.int .i64 n, .int .u32 d]] w fun xe w' => xe = .returned (fracV a) ∧ Below w.heap.size w w') (HS : ∀ i : Nat, i < 20 → ∀ s t : Rat, s = a ^ i → t = a ^ (i + 1) → ∀ w, Calls Tryz.prog 68 #[fracV s, fracV a] w fun xe w' => xe = .returned (fracV t) ∧ Below w.heap.size w w') (H1 : ∀ w, Calls Tryz.prog 98 #[fracV a, .int .i64 m] w fun xe w' => xe = .returned (.tuple #[fracV r2, .int .i64 0]) ∧ Below w.heap.size w w') (H2 : ∀ w, Calls Tryz.prog 75 #[fracV a] w fun xe w' => xe = .returned (.int .i64 i1) ∧ Below w.heap.size w w') (H3 : ∀ w, Calls Tryz.prog 98 #[fracV a, .int .i64 k] w fun xe w' => xe = .returned (.tuple #[fracV r3, .int .i64 0]) ∧ Below w.heap.size w w') (H4 : ∀ w, Calls Tryz.prog 98 #[fracV a, .int .i64 t] w fun xe w' => xe = .returned (.tuple #[fracV r4, .int .i64 0]) ∧ Below w.heap.size w w') (H5 : ∀ w, Calls Tryz.prog 94 #[.int .i64 1] w fun xe w' => xe = .returned (fracV r1) ∧ Below w.heap.size w w') (H6 : ∀ w, Calls Tryz.prog 68 #[fracV r2, fracV r3] w fun xe w' => xe = .returned (fracV r4) ∧ Below w.heap.size w w') (KW : World → Prop) (hKW : Keeps KW) (HW : ∀ w, KW w → Calls Tryz.prog 57 #[] w fun xe w' => xe = .returned (.bool true) ∧ Below w.heap.size w w') (hone : r1 = 1) (hd2 : decide (m < (-4096)) = false) (hd3 : decide ((-4096) ≤ m) = true) (hd4 : decide (4096 < m) = false) (hd5 : decide (m ≤ 4096) = true) (hd6 : decide (m < (-20)) = false) (hd7 : decide ((-20) ≤ m) = true) (hd8 : decide (20 < m) = false) (hd9 : decide (m ≤ 20) = true) (hd10 : (i1 == 0) = false) (hd11 : (i1 != 0) = true) (hd12 : decide (k < (-20)) = false) (hd13 : decide ((-20) ≤ k) = true) (hd14 : decide (20 < k) = false) (hd15 : decide (k ≤ 20) = true) (hdt : IntKind.i64.wrap (m + k) = t) (hdn : IntKind.i64.wrap (-m) = mn) (hmx : max m mn = m) (hL : m = (L : Int)) (hL2 : L ≤ 20) (hps : r2 = a ^ L) (hd22 : decide (m < 0) = false) (hd23 : decide (0 ≤ m) = true) (w : World) (kKW : KW w) :
    Calls Tryz.prog 13 #[.agg #[.int .i64 n, .int .u32 d], .int .i64 m, .int .i64 k] w fun xe w' => xe = .returned (.bool true) ∧ Below w.heap.size w w' := by
  have hL0 : GL w w [] := GL.start w
  replace HQ := Lib.hid HQ
  replace HS := Lib.hid HS
  replace H1 := Lib.hid H1
  replace H2 := Lib.hid H2
  replace H3 := Lib.hid H3
  replace H4 := Lib.hid H4
  replace H5 := Lib.hid H5
  replace H6 := Lib.hid H6
  replace hKW := Lib.hid hKW
  replace HW := Lib.hid HW
  replace hone := Lib.hid hone
  replace hL := Lib.hid hL
  replace hL2 := Lib.hid hL2
  replace hps := Lib.hid hps
  replace hL0 := (hL0.new rfl [.int .i64 n, .int .u32 d] 120)
  generalize hweq : (w.alloc (.cells #[.int .i64 n, .int .u32 d] 120)) = x1 at hL0
  go_enter Tryz.func13, Tryz.ntmps13
  have hN0 := cells_of _ 0 [] rfl (hL0.get _ _ List.mem_cons_self)
  simp only [cellsF, and_true, Nat.zero_add, Nat.reduceAdd] at hN0
  go_wp2_with fail
  clear hN0
  with_reducible refine Calls.mono (HQ.out _) ?_
  rintro e x2 ⟨rfl, hb⟩
  replace hL0 := hL0.call hb
  clear hb hweq
  replace hL0 := (hL0.new rfl [.int .u64 ((zl a.num : Nat) : Int), .string (zh a.num), .bool (zs a.num), .int .u64 ((lo (fe a) : Nat) : Int), .string (hs (fe a))] 79)
  generalize hweq : (x2.alloc (.cells #[.int .u64 ((zl a.num : Nat) : Int), .string (zh a.num), .bool (zs a.num), .int .u64 ((lo (fe a) : Nat) : Int), .string (hs (fe a))] 79)) = x3 at hL0
  have hN0 := cells_of _ 0 [] rfl (hL0.get _ _ List.mem_cons_self)
  simp only [cellsF, and_true, Nat.zero_add, Nat.reduceAdd] at hN0
  go_wp2_with fail
  clear hN0
  with_reducible refine Calls.mono (H1.out _) ?_
  rintro e x4 ⟨rfl, hb⟩
  replace hL0 := hL0.call hb
  clear hb hweq
  replace hL0 := (hL0.new rfl [.int .u64 ((zl r2.num : Nat) : Int), .string (zh r2.num), .bool (zs r2.num), .int .u64 ((lo (fe r2) : Nat) : Int), .string (hs (fe r2))] 79)
  generalize hweq : (x4.alloc (.cells #[.int .u64 ((zl r2.num : Nat) : Int), .string (zh r2.num), .bool (zs r2.num), .int .u64 ((lo (fe r2) : Nat) : Int), .string (hs (fe r2))] 79)) = x5 at hL0
  have hN0 := cells_of _ 0 [] rfl (hL0.get _ _ (List.mem_cons_of_mem _ List.mem_cons_self))
  simp only [cellsF, and_true, Nat.zero_add, Nat.reduceAdd] at hN0
  go_wp2_with fail
  clear hN0
  with_reducible refine Calls.mono (H2.out _) ?_
  rintro e x6 ⟨rfl, hb⟩
  replace hL0 := hL0.call hb
  clear hb hweq
  have hN0 := cells_of _ 0 [] rfl (hL0.get _ _ (List.mem_cons_of_mem _ List.mem_cons_self))
  simp only [cellsF, and_true, Nat.zero_add, Nat.reduceAdd] at hN0
  go_wp2_with fail
  clear hN0
  with_reducible refine Calls.mono (H2.out _) ?_
  rintro e x7 ⟨rfl, hb⟩
  replace hL0 := hL0.call hb
  clear hb
  have hN0 := cells_of _ 0 [] rfl (hL0.get _ _ (List.mem_cons_of_mem _ List.mem_cons_self))
  simp only [cellsF, and_true, Nat.zero_add, Nat.reduceAdd] at hN0
  go_wp2_with fail
  clear hN0
  with_reducible refine Calls.mono (H3.out _) ?_
  rintro e x8 ⟨rfl, hb⟩
  replace hL0 := hL0.call hb
  clear hb
  replace hL0 := (hL0.new rfl [.int .u64 ((zl r3.num : Nat) : Int), .string (zh r3.num), .bool (zs r3.num), .int .u64 ((lo (fe r3) : Nat) : Int), .string (hs (fe r3))] 79)
  generalize hweq : (x8.alloc (.cells #[.int .u64 ((zl r3.num : Nat) : Int), .string (zh r3.num), .bool (zs r3.num), .int .u64 ((lo (fe r3) : Nat) : Int), .string (hs (fe r3))] 79)) = x9 at hL0
  have hN0 := cells_of _ 0 [] rfl (hL0.get _ _ (List.mem_cons_of_mem _ (List.mem_cons_of_mem _ List.mem_cons_self)))
  simp only [cellsF, and_true, Nat.zero_add, Nat.reduceAdd] at hN0
  go_wp2_with fail
  clear hN0
  with_reducible refine Calls.mono (H4.out _) ?_
  rintro e x10 ⟨rfl, hb⟩
  replace hL0 := hL0.call hb
  clear hb hweq
  replace hL0 := (hL0.new rfl [.int .u64 ((zl r4.num : Nat) : Int), .string (zh r4.num), .bool (zs r4.num), .int .u64 ((lo (fe r4) : Nat) : Int), .string (hs (fe r4))] 79)
  generalize hweq : (x10.alloc (.cells #[.int .u64 ((zl r4.num : Nat) : Int), .string (zh r4.num), .bool (zs r4.num), .int .u64 ((lo (fe r4) : Nat) : Int), .string (hs (fe r4))] 79)) = x11 at hL0
  go_wp2_with fail
  with_reducible refine Calls.mono (H5.out _) ?_
  rintro e x12 ⟨rfl, hb⟩
  replace hL0 := hL0.call hb
  clear hb hweq
  replace hL0 := (hL0.new rfl [.int .u64 ((zl r1.num : Nat) : Int), .string (zh r1.num), .bool (zs r1.num), .int .u64 ((lo (fe r1) : Nat) : Int), .string (hs (fe r1))] 79)
  generalize hweq : (x12.alloc (.cells #[.int .u64 ((zl r1.num : Nat) : Int), .string (zh r1.num), .bool (zs r1.num), .int .u64 ((lo (fe r1) : Nat) : Int), .string (hs (fe r1))] 79)) = x13 at hL0
  go_wp2_with fail
  clear hweq
  go_loopw [15] (fun z wr => ∃ i : Nat, i ≤ L ∧ z = .int .i64 (i : Int) ∧ ∃ sv : Rat, sv = a ^ i ∧ GL w wr [(x12.heap.size, [.int .u64 ((zl sv.num : Nat) : Int), .string (zh sv.num), .bool (zs sv.num), .int .u64 ((lo (fe sv) : Nat) : Int), .string (hs (fe sv))]), (x10.heap.size, [.int .u64 ((zl r4.num : Nat) : Int), .string (zh r4.num), .bool (zs r4.num), .int .u64 ((lo (fe r4) : Nat) : Int), .string (hs (fe r4))]), (x8.heap.size, [.int .u64 ((zl r3.num : Nat) : Int), .string (zh r3.num), .bool (zs r3.num), .int .u64 ((lo (fe r3) : Nat) : Int), .string (hs (fe r3))]), (x4.heap.size, [.int .u64 ((zl r2.num : Nat) : Int), .string (zh r2.num), .bool (zs r2.num), .int .u64 ((lo (fe r2) : Nat) : Int), .string (hs (fe r2))]), (x2.heap.size, [.int .u64 ((zl a.num : Nat) : Int), .string (zh a.num), .bool (zs a.num), .int .u64 ((lo (fe a) : Nat) : Int), .string (hs (fe a))]), (w.heap.size, [.int .i64 n, .int .u32 d])]) (fun z _ => L - (intOf z).toNat)
  case atStart => exact ⟨0, Nat.zero_le _, rfl, r1, by rw [hone.out, Rat.pow_zero], hL0⟩
  case round =>
    clear hL0
    obtain ⟨i, hi, rfl, sv, hsv, hL0⟩ := hrel
    rcases Nat.lt_or_ge i L with hin | hin
    · skip
      have k1 : decide ((i : Int) < m) = true := decide_eq_true (by have := hL.out; omega)
      obtain ⟨sw, hsw⟩ : ∃ sw : Rat, sw = a ^ (i + 1) := ⟨_, rfl⟩
      have HM := Lib.hid (HS.out i (by have := hL2.out; omega) sv sw hsv hsw)
      replace hsw := Lib.hid hsw
      replace hsv := Lib.hid hsv
      have hi20 : i < 20 := by have := hL2.out; omega
      have k2 : (i : Int) < m := by have := hL.out; omega
      have hN0 := cells_of _ 0 [] rfl (hL0.get _ _ List.mem_cons_self)
      simp only [cellsF, and_true, Nat.zero_add, Nat.reduceAdd] at hN0
      have hN1 := cells_of _ 0 [] rfl (hL0.get _ _ (List.mem_cons_of_mem _ (List.mem_cons_of_mem _ (List.mem_cons_of_mem _ (List.mem_cons_of_mem _ List.mem_cons_self)))))
      simp only [cellsF, and_true, Nat.zero_add, Nat.reduceAdd] at hN1
      go_wp2_with fail
      clear hN0 hN1
      with_reducible refine Calls.mono (HM.out _) ?_
      rintro e x14 ⟨rfl, hb⟩
      replace hL0 := hL0.call hb
      clear hb
      have hA := hL0.fc
      simp only [fcG, cellsF, neK, and_true, ne_eq, Nat.zero_add, Nat.reduceAdd] at hA
      have hP := hL0.put 0 (x12.heap.size) _ rfl [.int .u64 ((zl sw.num : Nat) : Int), .string (zh sw.num), .bool (zs sw.num), .int .u64 ((lo (fe sw) : Nat) : Int), .string (hs (fe sw))] rfl
      simp only [setAll, List.set_cons_zero, List.set_cons_succ] at hP
      generalize hput1 : (((((x14.setCell ⟨x12.heap.size, 0, none⟩ (.int .u64 ((zl sw.num : Nat) : Int))).setCell ⟨x12.heap.size, 1, none⟩ (.string (zh sw.num))).setCell ⟨x12.heap.size, 2, none⟩ (.bool (zs sw.num))).setCell ⟨x12.heap.size, 3, none⟩ (.int .u64 ((lo (fe sw) : Nat) : Int))).setCell ⟨x12.heap.size, 4, none⟩ (.string (hs (fe sw)))) = x15 at hP
      have hB1 := hP.fc
      simp only [fcG, cellsF, neK, and_true, ne_eq, Nat.zero_add, Nat.reduceAdd] at hB1
      replace hL0 := hP
      go_wp2_with fail
      go_roundw
      case rel => exact ⟨i + 1, by omega, by first | rfl | go_num, sw, hsw.out, hL0⟩
      case measure => simp [intOf]; omega
    · obtain rfl : i = L := by omega
      have k1 : decide ((i : Int) < m) = false := decide_eq_false (by have := hL.out; omega)
      have k2 : ¬ (i : Int) < m := by have := hL.out; omega
      have hsv2 : sv = r2 := hsv.trans hps.out.symm
      clear hsv HS hL hL2 hi hin hone
      subst sv
      go_upto_region 22 with fail
      have kKW1 := hKW.out.at hL0.bl kKW
      obtain ⟨α, iα, F, hF1, hF2⟩ := cls wr
      have hq0 := cls_box hF1 hL0 _ _ List.mem_cons_self
      simp only [cellsC, and_true, Nat.zero_add, Nat.reduceAdd] at hq0
      have hq1 := cls_box hF1 hL0 _ _ (List.mem_cons_of_mem _ List.mem_cons_self)
      simp only [cellsC, and_true, Nat.zero_add, Nat.reduceAdd] at hq1
      have hq2 := cls_box hF1 hL0 _ _ (List.mem_cons_of_mem _ (List.mem_cons_of_mem _ List.mem_cons_self))
      simp only [cellsC, and_true, Nat.zero_add, Nat.reduceAdd] at hq2
      have hq3 := cls_box hF1 hL0 _ _ (List.mem_cons_of_mem _ (List.mem_cons_of_mem _ (List.mem_cons_of_mem _ List.mem_cons_self)))
      simp only [cellsC, and_true, Nat.zero_add, Nat.reduceAdd] at hq3
      refine region_qs 18 (C := fun w' => ∃ x, w' = F x) (by kernel_rfl) (by kernel_rfl) (cls_drew hF2) ?_
      simp only [List.take_succ_cons, List.take_zero, List.drop_succ_cons, List.drop_zero, List.take_nil, List.drop_nil]
      repeat (go_big_quiet_step (first | fail | (go_at_call 68; with_reducible exact cls_call hF1 hF2 H6.out _) | (go_at_call 57; with_reducible exact cls_callK hKW.out hF1 hF2 kKW1 HW.out _)))
      refine wpQuiet_nil ?_
      rintro wq ⟨xq, rfl⟩
      replace hL0 := hL0.call (hF1 xq)
      clear  hq0 hq1 hq2 hq3 hF2
      generalize F xq = x16 at hL0 ⊢
      clear hF1 xq iα F α
      clear kKW1
      go_wp2_with fail
      exact bodyPost_ret (v := .bool true) (by simp [results, Tryz.results13, go_sem]) rfl ⟨rfl, hL0.bl⟩

theorem fpowers_9 (n d m k : Int) (ln : -9223372036854775808 ≤ n) (hn : n < 9223372036854775808) (ld : 0 ≤ d) (hdd : d < 4294967296) (lm : -9223372036854775808 ≤ m) (hmm : m < 9223372036854775808) (lk : -9223372036854775808 ≤ k) (hkk : k < 9223372036854775808) (p0 : ¬ m < -4096) (p1 : ¬ 4096 < m) (p2 : ¬ m < -20) (p3 : ¬ 20 < m) (p4 : ¬ m < 0) (hz : qmade n d.toNat ≠ 0) (p6 : ¬ k < -20) (p7 : ¬ 20 < k) (p8 : ¬ k < 0) (w : World) (htab : Tab w) (hm : MaxL w) :
    Calls Tryz.prog 13 #[.agg #[.int .i64 n, .int .u32 d], .int .i64 m, .int .i64 k] w fun xe w' => xe = .returned (.bool true) ∧ Below w.heap.size w w' := by
  have HQ := fun w => qof_any n d ln hn ld hdd w
  have Sa := qmade_sz n d.toNat ln hn (by omega)
  have NB := (qmade_nb n d.toNat ln hn (by omega))
  generalize qmade n d.toNat = a at *
  have HS : ∀ i : Nat, i < 20 → ∀ s t : Rat, s = a ^ i → t = a ^ (i + 1) → ∀ w, Calls Tryz.prog 68 #[fracV s, fracV a] w fun xe w' => xe = .returned (fracV t) ∧ Below w.heap.size w w' := fun i hi s t hs ht w => by
    have h := mulF (a ^ i) a 21 ((Sa.pow i).mono (by omega)) (Sa.mono (by omega)) (by omega) w
    rw [← Rat.pow_succ, ← hs, ← ht] at h
    exact h
  have Sps : Sz (a ^ m.natAbs) 41 := (Sa.pow _).mono (by omega)
  have HPS : a ^ m = a ^ m.natAbs := by rw [show a ^ m = a ^ ((m.natAbs : Nat) : Int) by congr 1; omega]; rfl
  have Sr2 := Sa.zpow (m := m) (by first | exact .inr (by omega) | exact .inl hz) (by omega)
  have H1 := fun w => powZ a m (by first | exact .inr (by omega) | exact .inl hz) (by omega) 64 (by rcases Nat.eq_zero_or_pos ((m : Int)).natAbs with h | h; exact .inl h; exact .inr ((Nat.le_div_iff_mul_le h).2 (by omega))) NB.1 NB.2 (Sa.mono (by omega)) w
  have H2 := fun w => signF a w
  have Sr3 := Sa.zpow (m := k) (by first | exact .inr (by omega) | exact .inl hz) (by omega)
  have H3 := fun w => powZ a k (by first | exact .inr (by omega) | exact .inl hz) (by omega) 64 (by rcases Nat.eq_zero_or_pos ((k : Int)).natAbs with h | h; exact .inl h; exact .inr ((Nat.le_div_iff_mul_le h).2 (by omega))) NB.1 NB.2 (Sa.mono (by omega)) w
  have Sr4 := Sa.zpow (m := (m + k)) (by first | exact .inr (by omega) | exact .inl hz) (by omega)
  have H4 := fun w => powZ a (m + k) (by first | exact .inr (by omega) | exact .inl hz) (by omega) 64 (by rcases Nat.eq_zero_or_pos (((m + k) : Int)).natAbs with h | h; exact .inl h; exact .inr ((Nat.le_div_iff_mul_le h).2 (by omega))) NB.1 NB.2 (Sa.mono (by omega)) w
  have H5 := fun w => intF (1) (by decide) (by decide) w
  have H6 := fun w => mulF (a ^ m) (a ^ k) 41 (Sr2.mono (by omega)) (Sr3.mono (by omega)) (by omega) w
  rw [zpow_sum a m k (by first | exact .inr ⟨by omega, by omega⟩ | exact .inl hz)] at H6
  have HW := fun w (h : Tab w ∧ MaxL w) => fworks_any w h.1 h.2
  exact fpowers_9_w a n d m k ((1 : Int) : Rat) (a ^ m) (sgnQ a) (a ^ k) (m + k) (a ^ (m + k)) (-m) m.natAbs HQ HS H1 H2 H3 H4 H5 H6 _ (Keeps.and Keeps.tab MaxL.keeps) HW rfl (by first | exact decide_eq_true (by omega) | exact decide_eq_false (by omega)) (by first | exact decide_eq_true (by omega) | exact decide_eq_false (by omega)) (by first | exact decide_eq_true (by omega) | exact decide_eq_false (by omega)) (by first | exact decide_eq_true (by omega) | exact decide_eq_false (by omega)) (by first | exact decide_eq_true (by omega) | exact decide_eq_false (by omega)) (by first | exact decide_eq_true (by omega) | exact decide_eq_false (by omega)) (by first | exact decide_eq_true (by omega) | exact decide_eq_false (by omega)) (by first | exact decide_eq_true (by omega) | exact decide_eq_false (by omega)) (by first | (rw [sgnQ_eq0]; simp [hz]) | (rw [bne, sgnQ_eq0]; simp [hz])) (by first | (rw [sgnQ_eq0]; simp [hz]) | (rw [bne, sgnQ_eq0]; simp [hz])) (by first | exact decide_eq_true (by omega) | exact decide_eq_false (by omega)) (by first | exact decide_eq_true (by omega) | exact decide_eq_false (by omega)) (by first | exact decide_eq_true (by omega) | exact decide_eq_false (by omega)) (by first | exact decide_eq_true (by omega) | exact decide_eq_false (by omega)) (IntWalk.i64_in _ (by omega)) (IntWalk.i64_in _ (by omega)) (by omega) (by omega) (by omega) HPS (by first | exact decide_eq_true (by omega) | exact decide_eq_false (by omega)) (by first | exact decide_eq_true (by omega) | exact decide_eq_false (by omega)) w ⟨htab, hm⟩

set_option maxHeartbeats 16000000 in
set_option maxRecDepth 100000 in
theorem fpowers_10_w  (a : Rat) (n : Int) (d : Int) (m : Int) (k : Int) (r1 : Rat) (r2 : Rat) (i1 : Int) (r3 : Rat) (t : Int) (r4 : Rat) (mn : Int) (L : Nat) (HQ : ∀ w, Calls Tryz.prog 99 #[.agg #[.int .i64 n, .int .u32 d]] w fun xe w' => xe = .returned (fracV a) ∧ Below w.heap.size w w') (HS : ∀ i : Nat, i < 20 → ∀ s t : Rat, s = a ^ i → t = a ^ (i + 1) → ∀ w, Calls Tryz.prog 68 #[fracV s, fracV a] w fun xe w' => xe = .returned (fracV t) ∧ Below w.heap.size w w') (H1 : ∀ w, Calls Tryz.prog 98 #[fracV a, .int .i64 m] w fun xe w' => xe = .returned (.tuple #[fracV r2, .int .i64 0]) ∧ Below w.heap.size w w') (H2 : ∀ w, Calls Tryz.prog 75 #[fracV a] w fun xe w' => xe = .returned (.int .i64 i1) ∧ Below w.heap.size w w') (H3 : ∀ w, Calls Tryz.prog 98 #[fracV a, .int .i64 k] w fun xe w' => xe = .returned (.tuple #[fracV r3, .int .i64 0]) ∧ Below w.heap.size w w') (H4 : ∀ w, Calls Tryz.prog 98 #[fracV a, .int .i64 t] w fun xe w' => xe = .returned (.tuple #[fracV r4, .int .i64 0]) ∧ Below w.heap.size w w') (H5 : ∀ w, Calls Tryz.prog 94 #[.int .i64 1] w fun xe w' => xe = .returned (fracV r1) ∧ Below w.heap.size w w') (H6 : ∀ w, Calls Tryz.prog 68 #[fracV r2, fracV r3] w fun xe w' => xe = .returned (fracV r4) ∧ Below w.heap.size w w') (KW : World → Prop) (hKW : Keeps KW) (HW : ∀ w, KW w → Calls Tryz.prog 57 #[] w fun xe w' => xe = .returned (.bool true) ∧ Below w.heap.size w w') (hone : r1 = 1) (hd2 : decide (m < (-4096)) = false) (hd3 : decide ((-4096) ≤ m) = true) (hd4 : decide (4096 < m) = false) (hd5 : decide (m ≤ 4096) = true) (hd6 : decide (m < (-20)) = false) (hd7 : decide ((-20) ≤ m) = true) (hd8 : decide (20 < m) = false) (hd9 : decide (m ≤ 20) = true) (hd10 : (i1 == 0) = false) (hd11 : (i1 != 0) = true) (hd12 : decide (k < (-20)) = false) (hd13 : decide ((-20) ≤ k) = true) (hd14 : decide (20 < k) = false) (hd15 : decide (k ≤ 20) = true) (hdt : IntKind.i64.wrap (m + k) = t) (hdn : IntKind.i64.wrap (-m) = mn) (hmx : max m mn = m) (hL : m = (L : Int)) (hL2 : L ≤ 20) (hps : r2 = a ^ L) (hd22 : decide (m < 0) = false) (hd23 : decide (0 ≤ m) = true) (w : World) (kKW : KW w) :
    Calls Tryz.prog 13 #[.agg #[.int .i64 n, .int .u32 d], .int .i64 m, .int .i64 k] w fun xe w' => xe = .returned (.bool true) ∧ Below w.heap.size w w' := by
  have hL0 : GL w w [] := GL.start w
  replace HQ := Lib.hid HQ
  replace HS := Lib.hid HS
  replace H1 := Lib.hid H1
  replace H2 := Lib.hid H2
  replace H3 := Lib.hid H3
  replace H4 := Lib.hid H4
  replace H5 := Lib.hid H5
  replace H6 := Lib.hid H6
  replace hKW := Lib.hid hKW
  replace HW := Lib.hid HW
  replace hone := Lib.hid hone
  replace hL := Lib.hid hL
  replace hL2 := Lib.hid hL2
  replace hps := Lib.hid hps
  replace hL0 := (hL0.new rfl [.int .i64 n, .int .u32 d] 120)
  generalize hweq : (w.alloc (.cells #[.int .i64 n, .int .u32 d] 120)) = x1 at hL0
  go_enter Tryz.func13, Tryz.ntmps13
  have hN0 := cells_of _ 0 [] rfl (hL0.get _ _ List.mem_cons_self)
  simp only [cellsF, and_true, Nat.zero_add, Nat.reduceAdd] at hN0
  go_wp2_with fail
  clear hN0
  with_reducible refine Calls.mono (HQ.out _) ?_
  rintro e x2 ⟨rfl, hb⟩
  replace hL0 := hL0.call hb
  clear hb hweq
  replace hL0 := (hL0.new rfl [.int .u64 ((zl a.num : Nat) : Int), .string (zh a.num), .bool (zs a.num), .int .u64 ((lo (fe a) : Nat) : Int), .string (hs (fe a))] 79)
  generalize hweq : (x2.alloc (.cells #[.int .u64 ((zl a.num : Nat) : Int), .string (zh a.num), .bool (zs a.num), .int .u64 ((lo (fe a) : Nat) : Int), .string (hs (fe a))] 79)) = x3 at hL0
  have hN0 := cells_of _ 0 [] rfl (hL0.get _ _ List.mem_cons_self)
  simp only [cellsF, and_true, Nat.zero_add, Nat.reduceAdd] at hN0
  go_wp2_with fail
  clear hN0
  with_reducible refine Calls.mono (H1.out _) ?_
  rintro e x4 ⟨rfl, hb⟩
  replace hL0 := hL0.call hb
  clear hb hweq
  replace hL0 := (hL0.new rfl [.int .u64 ((zl r2.num : Nat) : Int), .string (zh r2.num), .bool (zs r2.num), .int .u64 ((lo (fe r2) : Nat) : Int), .string (hs (fe r2))] 79)
  generalize hweq : (x4.alloc (.cells #[.int .u64 ((zl r2.num : Nat) : Int), .string (zh r2.num), .bool (zs r2.num), .int .u64 ((lo (fe r2) : Nat) : Int), .string (hs (fe r2))] 79)) = x5 at hL0
  have hN0 := cells_of _ 0 [] rfl (hL0.get _ _ (List.mem_cons_of_mem _ List.mem_cons_self))
  simp only [cellsF, and_true, Nat.zero_add, Nat.reduceAdd] at hN0
  go_wp2_with fail
  clear hN0
  with_reducible refine Calls.mono (H2.out _) ?_
  rintro e x6 ⟨rfl, hb⟩
  replace hL0 := hL0.call hb
  clear hb hweq
  have hN0 := cells_of _ 0 [] rfl (hL0.get _ _ (List.mem_cons_of_mem _ List.mem_cons_self))
  simp only [cellsF, and_true, Nat.zero_add, Nat.reduceAdd] at hN0
  go_wp2_with fail
  clear hN0
  with_reducible refine Calls.mono (H2.out _) ?_
  rintro e x7 ⟨rfl, hb⟩
  replace hL0 := hL0.call hb
  clear hb
  have hN0 := cells_of _ 0 [] rfl (hL0.get _ _ (List.mem_cons_of_mem _ List.mem_cons_self))
  simp only [cellsF, and_true, Nat.zero_add, Nat.reduceAdd] at hN0
  go_wp2_with fail
  clear hN0
  with_reducible refine Calls.mono (H3.out _) ?_
  rintro e x8 ⟨rfl, hb⟩
  replace hL0 := hL0.call hb
  clear hb
  replace hL0 := (hL0.new rfl [.int .u64 ((zl r3.num : Nat) : Int), .string (zh r3.num), .bool (zs r3.num), .int .u64 ((lo (fe r3) : Nat) : Int), .string (hs (fe r3))] 79)
  generalize hweq : (x8.alloc (.cells #[.int .u64 ((zl r3.num : Nat) : Int), .string (zh r3.num), .bool (zs r3.num), .int .u64 ((lo (fe r3) : Nat) : Int), .string (hs (fe r3))] 79)) = x9 at hL0
  have hN0 := cells_of _ 0 [] rfl (hL0.get _ _ (List.mem_cons_of_mem _ (List.mem_cons_of_mem _ List.mem_cons_self)))
  simp only [cellsF, and_true, Nat.zero_add, Nat.reduceAdd] at hN0
  go_wp2_with fail
  clear hN0
  with_reducible refine Calls.mono (H4.out _) ?_
  rintro e x10 ⟨rfl, hb⟩
  replace hL0 := hL0.call hb
  clear hb hweq
  replace hL0 := (hL0.new rfl [.int .u64 ((zl r4.num : Nat) : Int), .string (zh r4.num), .bool (zs r4.num), .int .u64 ((lo (fe r4) : Nat) : Int), .string (hs (fe r4))] 79)
  generalize hweq : (x10.alloc (.cells #[.int .u64 ((zl r4.num : Nat) : Int), .string (zh r4.num), .bool (zs r4.num), .int .u64 ((lo (fe r4) : Nat) : Int), .string (hs (fe r4))] 79)) = x11 at hL0
  go_wp2_with fail
  with_reducible refine Calls.mono (H5.out _) ?_
  rintro e x12 ⟨rfl, hb⟩
  replace hL0 := hL0.call hb
  clear hb hweq
  replace hL0 := (hL0.new rfl [.int .u64 ((zl r1.num : Nat) : Int), .string (zh r1.num), .bool (zs r1.num), .int .u64 ((lo (fe r1) : Nat) : Int), .string (hs (fe r1))] 79)
  generalize hweq : (x12.alloc (.cells #[.int .u64 ((zl r1.num : Nat) : Int), .string (zh r1.num), .bool (zs r1.num), .int .u64 ((lo (fe r1) : Nat) : Int), .string (hs (fe r1))] 79)) = x13 at hL0
  go_wp2_with fail
  clear hweq
  go_loopw [15] (fun z wr => ∃ i : Nat, i ≤ L ∧ z = .int .i64 (i : Int) ∧ ∃ sv : Rat, sv = a ^ i ∧ GL w wr [(x12.heap.size, [.int .u64 ((zl sv.num : Nat) : Int), .string (zh sv.num), .bool (zs sv.num), .int .u64 ((lo (fe sv) : Nat) : Int), .string (hs (fe sv))]), (x10.heap.size, [.int .u64 ((zl r4.num : Nat) : Int), .string (zh r4.num), .bool (zs r4.num), .int .u64 ((lo (fe r4) : Nat) : Int), .string (hs (fe r4))]), (x8.heap.size, [.int .u64 ((zl r3.num : Nat) : Int), .string (zh r3.num), .bool (zs r3.num), .int .u64 ((lo (fe r3) : Nat) : Int), .string (hs (fe r3))]), (x4.heap.size, [.int .u64 ((zl r2.num : Nat) : Int), .string (zh r2.num), .bool (zs r2.num), .int .u64 ((lo (fe r2) : Nat) : Int), .string (hs (fe r2))]), (x2.heap.size, [.int .u64 ((zl a.num : Nat) : Int), .string (zh a.num), .bool (zs a.num), .int .u64 ((lo (fe a) : Nat) : Int), .string (hs (fe a))]), (w.heap.size, [.int .i64 n, .int .u32 d])]) (fun z _ => L - (intOf z).toNat)
  case atStart => exact ⟨0, Nat.zero_le _, rfl, r1, by rw [hone.out, Rat.pow_zero], hL0⟩
  case round =>
    clear hL0
    obtain ⟨i, hi, rfl, sv, hsv, hL0⟩ := hrel
    rcases Nat.lt_or_ge i L with hin | hin
    · skip
      have k1 : decide ((i : Int) < m) = true := decide_eq_true (by have := hL.out; omega)
      obtain ⟨sw, hsw⟩ : ∃ sw : Rat, sw = a ^ (i + 1) := ⟨_, rfl⟩
      have HM := Lib.hid (HS.out i (by have := hL2.out; omega) sv sw hsv hsw)
      replace hsw := Lib.hid hsw
      replace hsv := Lib.hid hsv
      have hi20 : i < 20 := by have := hL2.out; omega
      have k2 : (i : Int) < m := by have := hL.out; omega
      have hN0 := cells_of _ 0 [] rfl (hL0.get _ _ List.mem_cons_self)
      simp only [cellsF, and_true, Nat.zero_add, Nat.reduceAdd] at hN0
      have hN1 := cells_of _ 0 [] rfl (hL0.get _ _ (List.mem_cons_of_mem _ (List.mem_cons_of_mem _ (List.mem_cons_of_mem _ (List.mem_cons_of_mem _ List.mem_cons_self)))))
      simp only [cellsF, and_true, Nat.zero_add, Nat.reduceAdd] at hN1
      go_wp2_with fail
      clear hN0 hN1
      with_reducible refine Calls.mono (HM.out _) ?_
      rintro e x14 ⟨rfl, hb⟩
      replace hL0 := hL0.call hb
      clear hb
      have hA := hL0.fc
      simp only [fcG, cellsF, neK, and_true, ne_eq, Nat.zero_add, Nat.reduceAdd] at hA
      have hP := hL0.put 0 (x12.heap.size) _ rfl [.int .u64 ((zl sw.num : Nat) : Int), .string (zh sw.num), .bool (zs sw.num), .int .u64 ((lo (fe sw) : Nat) : Int), .string (hs (fe sw))] rfl
      simp only [setAll, List.set_cons_zero, List.set_cons_succ] at hP
      generalize hput1 : (((((x14.setCell ⟨x12.heap.size, 0, none⟩ (.int .u64 ((zl sw.num : Nat) : Int))).setCell ⟨x12.heap.size, 1, none⟩ (.string (zh sw.num))).setCell ⟨x12.heap.size, 2, none⟩ (.bool (zs sw.num))).setCell ⟨x12.heap.size, 3, none⟩ (.int .u64 ((lo (fe sw) : Nat) : Int))).setCell ⟨x12.heap.size, 4, none⟩ (.string (hs (fe sw)))) = x15 at hP
      have hB1 := hP.fc
      simp only [fcG, cellsF, neK, and_true, ne_eq, Nat.zero_add, Nat.reduceAdd] at hB1
      replace hL0 := hP
      go_wp2_with fail
      go_roundw
      case rel => exact ⟨i + 1, by omega, by first | rfl | go_num, sw, hsw.out, hL0⟩
      case measure => simp [intOf]; omega
    · obtain rfl : i = L := by omega
      have k1 : decide ((i : Int) < m) = false := decide_eq_false (by have := hL.out; omega)
      have k2 : ¬ (i : Int) < m := by have := hL.out; omega
      have hsv2 : sv = r2 := hsv.trans hps.out.symm
      clear hsv HS hL hL2 hi hin hone
      subst sv
      go_upto_region 22 with fail
      have kKW1 := hKW.out.at hL0.bl kKW
      obtain ⟨α, iα, F, hF1, hF2⟩ := cls wr
      have hq0 := cls_box hF1 hL0 _ _ List.mem_cons_self
      simp only [cellsC, and_true, Nat.zero_add, Nat.reduceAdd] at hq0
      have hq1 := cls_box hF1 hL0 _ _ (List.mem_cons_of_mem _ List.mem_cons_self)
      simp only [cellsC, and_true, Nat.zero_add, Nat.reduceAdd] at hq1
      have hq2 := cls_box hF1 hL0 _ _ (List.mem_cons_of_mem _ (List.mem_cons_of_mem _ List.mem_cons_self))
      simp only [cellsC, and_true, Nat.zero_add, Nat.reduceAdd] at hq2
      have hq3 := cls_box hF1 hL0 _ _ (List.mem_cons_of_mem _ (List.mem_cons_of_mem _ (List.mem_cons_of_mem _ List.mem_cons_self)))
      simp only [cellsC, and_true, Nat.zero_add, Nat.reduceAdd] at hq3
      refine region_qs 18 (C := fun w' => ∃ x, w' = F x) (by kernel_rfl) (by kernel_rfl) (cls_drew hF2) ?_
      simp only [List.take_succ_cons, List.take_zero, List.drop_succ_cons, List.drop_zero, List.take_nil, List.drop_nil]
      repeat (go_big_quiet_step (first | fail | (go_at_call 68; with_reducible exact cls_call hF1 hF2 H6.out _) | (go_at_call 57; with_reducible exact cls_callK hKW.out hF1 hF2 kKW1 HW.out _)))
      refine wpQuiet_nil ?_
      rintro wq ⟨xq, rfl⟩
      replace hL0 := hL0.call (hF1 xq)
      clear  hq0 hq1 hq2 hq3 hF2
      generalize F xq = x16 at hL0 ⊢
      clear hF1 xq iα F α
      clear kKW1
      go_wp2_with fail
      exact bodyPost_ret (v := .bool true) (by simp [results, Tryz.results13, go_sem]) rfl ⟨rfl, hL0.bl⟩

theorem fpowers_10 (n d m k : Int) (ln : -9223372036854775808 ≤ n) (hn : n < 9223372036854775808) (ld : 0 ≤ d) (hdd : d < 4294967296) (lm : -9223372036854775808 ≤ m) (hmm : m < 9223372036854775808) (lk : -9223372036854775808 ≤ k) (hkk : k < 9223372036854775808) (p0 : ¬ m < -4096) (p1 : ¬ 4096 < m) (p2 : ¬ m < -20) (p3 : ¬ 20 < m) (p4 : ¬ m < 0) (hz : qmade n d.toNat ≠ 0) (p6 : ¬ k < -20) (p7 : ¬ 20 < k) (p8 : k < 0) (p9 : ¬ m + k < 0) (w : World) (htab : Tab w) (hm : MaxL w) :
    Calls Tryz.prog 13 #[.agg #[.int .i64 n, .int .u32 d], .int .i64 m, .int .i64 k] w fun xe w' => xe = .returned (.bool true) ∧ Below w.heap.size w w' := by
  have HQ := fun w => qof_any n d ln hn ld hdd w
  have Sa := qmade_sz n d.toNat ln hn (by omega)
  have NB := (qmade_nb n d.toNat ln hn (by omega))
  generalize qmade n d.toNat = a at *
  have HS : ∀ i : Nat, i < 20 → ∀ s t : Rat, s = a ^ i → t = a ^ (i + 1) → ∀ w, Calls Tryz.prog 68 #[fracV s, fracV a] w fun xe w' => xe = .returned (fracV t) ∧ Below w.heap.size w w' := fun i hi s t hs ht w => by
    have h := mulF (a ^ i) a 21 ((Sa.pow i).mono (by omega)) (Sa.mono (by omega)) (by omega) w
    rw [← Rat.pow_succ, ← hs, ← ht] at h
    exact h
  have Sps : Sz (a ^ m.natAbs) 41 := (Sa.pow _).mono (by omega)
  have HPS : a ^ m = a ^ m.natAbs := by rw [show a ^ m = a ^ ((m.natAbs : Nat) : Int) by congr 1; omega]; rfl
  have Sr2 := Sa.zpow (m := m) (by first | exact .inr (by omega) | exact .inl hz) (by omega)
  have H1 := fun w => powZ a m (by first | exact .inr (by omega) | exact .inl hz) (by omega) 64 (by rcases Nat.eq_zero_or_pos ((m : Int)).natAbs with h | h; exact .inl h; exact .inr ((Nat.le_div_iff_mul_le h).2 (by omega))) NB.1 NB.2 (Sa.mono (by omega)) w
  have H2 := fun w => signF a w
  have Sr3 := Sa.zpow (m := k) (by first | exact .inr (by omega) | exact .inl hz) (by omega)
  have H3 := fun w => powZ a k (by first | exact .inr (by omega) | exact .inl hz) (by omega) 64 (by rcases Nat.eq_zero_or_pos ((k : Int)).natAbs with h | h; exact .inl h; exact .inr ((Nat.le_div_iff_mul_le h).2 (by omega))) NB.1 NB.2 (Sa.mono (by omega)) w
  have Sr4 := Sa.zpow (m := (m + k)) (by first | exact .inr (by omega) | exact .inl hz) (by omega)
  have H4 := fun w => powZ a (m + k) (by first | exact .inr (by omega) | exact .inl hz) (by omega) 64 (by rcases Nat.eq_zero_or_pos (((m + k) : Int)).natAbs with h | h; exact .inl h; exact .inr ((Nat.le_div_iff_mul_le h).2 (by omega))) NB.1 NB.2 (Sa.mono (by omega)) w
  have H5 := fun w => intF (1) (by decide) (by decide) w
  have H6 := fun w => mulF (a ^ m) (a ^ k) 41 (Sr2.mono (by omega)) (Sr3.mono (by omega)) (by omega) w
  rw [zpow_sum a m k (by first | exact .inr ⟨by omega, by omega⟩ | exact .inl hz)] at H6
  have HW := fun w (h : Tab w ∧ MaxL w) => fworks_any w h.1 h.2
  exact fpowers_10_w a n d m k ((1 : Int) : Rat) (a ^ m) (sgnQ a) (a ^ k) (m + k) (a ^ (m + k)) (-m) m.natAbs HQ HS H1 H2 H3 H4 H5 H6 _ (Keeps.and Keeps.tab MaxL.keeps) HW rfl (by first | exact decide_eq_true (by omega) | exact decide_eq_false (by omega)) (by first | exact decide_eq_true (by omega) | exact decide_eq_false (by omega)) (by first | exact decide_eq_true (by omega) | exact decide_eq_false (by omega)) (by first | exact decide_eq_true (by omega) | exact decide_eq_false (by omega)) (by first | exact decide_eq_true (by omega) | exact decide_eq_false (by omega)) (by first | exact decide_eq_true (by omega) | exact decide_eq_false (by omega)) (by first | exact decide_eq_true (by omega) | exact decide_eq_false (by omega)) (by first | exact decide_eq_true (by omega) | exact decide_eq_false (by omega)) (by first | (rw [sgnQ_eq0]; simp [hz]) | (rw [bne, sgnQ_eq0]; simp [hz])) (by first | (rw [sgnQ_eq0]; simp [hz]) | (rw [bne, sgnQ_eq0]; simp [hz])) (by first | exact decide_eq_true (by omega) | exact decide_eq_false (by omega)) (by first | exact decide_eq_true (by omega) | exact decide_eq_false (by omega)) (by first | exact decide_eq_true (by omega) | exact decide_eq_false (by omega)) (by first | exact decide_eq_true (by omega) | exact decide_eq_false (by omega)) (IntWalk.i64_in _ (by omega)) (IntWalk.i64_in _ (by omega)) (by omega) (by omega) (by omega) HPS (by first | exact decide_eq_true (by omega) | exact decide_eq_false (by omega)) (by first | exact decide_eq_true (by omega) | exact decide_eq_false (by omega)) w ⟨htab, hm⟩

set_option maxHeartbeats 16000000 in
set_option maxRecDepth 100000 in
theorem fpowers_11_w  (a : Rat) (n : Int) (d : Int) (m : Int) (k : Int) (r1 : Rat) (r2 : Rat) (i1 : Int) (HQ : ∀ w, Calls Tryz.prog 99 #[.agg #[.int .i64 n, .int .u32 d]] w fun xe w' => xe = .returned (fracV a) ∧ Below w.heap.size w w') (HS : ∀ i : Nat, i < 20 → ∀ s t : Rat, s = a ^ i → t = a ^ (i + 1) → ∀ w, Calls Tryz.prog 68 #[fracV s, fracV a] w fun xe w' => xe = .returned (fracV t) ∧ Below w.heap.size w w') (H1 : ∀ w, Calls Tryz.prog 98 #[fracV a, .int .i64 m] w fun xe w' => xe = .returned (.tuple #[fracV r2, .int .i64 0]) ∧ Below w.heap.size w w') (H2 : ∀ w, Calls Tryz.prog 75 #[fracV a] w fun xe w' => xe = .returned (.int .i64 i1) ∧ Below w.heap.size w w') (KW : World → Prop) (hKW : Keeps KW) (HW : ∀ w, KW w → Calls Tryz.prog 57 #[] w fun xe w' => xe = .returned (.bool true) ∧ Below w.heap.size w w') (hone : r1 = 1) (hd2 : decide (m < (-4096)) = false) (hd3 : decide ((-4096) ≤ m) = true) (hd4 : decide (4096 < m) = false) (hd5 : decide (m ≤ 4096) = true) (hd6 : decide (m < (-20)) = false) (hd7 : decide ((-20) ≤ m) = true) (hd8 : decide (20 < m) = false) (hd9 : decide (m ≤ 20) = true) (hd10 : (i1 == 0) = true) (hd11 : (i1 != 0) = false) (hd12 : decide (m < 0) = false) (hd13 : decide (0 ≤ m) = true) (hd14 : decide (k < (-20)) = false) (hd15 : decide ((-20) ≤ k) = true) (hd16 : decide (20 < k) = true) (hd17 : decide (k ≤ 20) = false) (w : World) (kKW : KW w) :
    Calls Tryz.prog 13 #[.agg #[.int .i64 n, .int .u32 d], .int .i64 m, .int .i64 k] w fun xe w' => xe = .returned (.bool true) ∧ Below w.heap.size w w' := by
  have hL0 : GL w w [] := GL.start w
  replace HQ := Lib.hid HQ
  replace HS := Lib.hid HS
  replace H1 := Lib.hid H1
  replace H2 := Lib.hid H2
  replace hKW := Lib.hid hKW
  replace HW := Lib.hid HW
  replace hone := Lib.hid hone
  replace hL0 := (hL0.new rfl [.int .i64 n, .int .u32 d] 120)
  generalize hweq : (w.alloc (.cells #[.int .i64 n, .int .u32 d] 120)) = x1 at hL0
  go_enter Tryz.func13, Tryz.ntmps13
  have hN0 := cells_of _ 0 [] rfl (hL0.get _ _ List.mem_cons_self)
  simp only [cellsF, and_true, Nat.zero_add, Nat.reduceAdd] at hN0
  go_wp2_with fail
  clear hN0
  with_reducible refine Calls.mono (HQ.out _) ?_
  rintro e x2 ⟨rfl, hb⟩
  replace hL0 := hL0.call hb
  clear hb hweq
  replace hL0 := (hL0.new rfl [.int .u64 ((zl a.num : Nat) : Int), .string (zh a.num), .bool (zs a.num), .int .u64 ((lo (fe a) : Nat) : Int), .string (hs (fe a))] 79)
  generalize hweq : (x2.alloc (.cells #[.int .u64 ((zl a.num : Nat) : Int), .string (zh a.num), .bool (zs a.num), .int .u64 ((lo (fe a) : Nat) : Int), .string (hs (fe a))] 79)) = x3 at hL0
  have hN0 := cells_of _ 0 [] rfl (hL0.get _ _ List.mem_cons_self)
  simp only [cellsF, and_true, Nat.zero_add, Nat.reduceAdd] at hN0
  go_wp2_with fail
  clear hN0
  with_reducible refine Calls.mono (H1.out _) ?_
  rintro e x4 ⟨rfl, hb⟩
  replace hL0 := hL0.call hb
  clear hb hweq
  replace hL0 := (hL0.new rfl [.int .u64 ((zl r2.num : Nat) : Int), .string (zh r2.num), .bool (zs r2.num), .int .u64 ((lo (fe r2) : Nat) : Int), .string (hs (fe r2))] 79)
  generalize hweq : (x4.alloc (.cells #[.int .u64 ((zl r2.num : Nat) : Int), .string (zh r2.num), .bool (zs r2.num), .int .u64 ((lo (fe r2) : Nat) : Int), .string (hs (fe r2))] 79)) = x5 at hL0
  have hN0 := cells_of _ 0 [] rfl (hL0.get _ _ (List.mem_cons_of_mem _ List.mem_cons_self))
  simp only [cellsF, and_true, Nat.zero_add, Nat.reduceAdd] at hN0
  go_wp2_with fail
  clear hN0
  with_reducible refine Calls.mono (H2.out _) ?_
  rintro e x6 ⟨rfl, hb⟩
  replace hL0 := hL0.call hb
  clear hb hweq
  go_wp2_with fail
  with_reducible refine Calls.mono (HW.out _ (hKW.out.at hL0.bl kKW)) ?_
  rintro e x7 ⟨rfl, hb⟩
  replace hL0 := hL0.call hb
  clear hb
  go_wp2_with fail
  exact bodyPost_ret (v := .bool true) (by simp [results, Tryz.results13, go_sem]) rfl ⟨rfl, hL0.bl⟩

theorem fpowers_11 (n d m k : Int) (ln : -9223372036854775808 ≤ n) (hn : n < 9223372036854775808) (ld : 0 ≤ d) (hdd : d < 4294967296) (lm : -9223372036854775808 ≤ m) (hmm : m < 9223372036854775808) (lk : -9223372036854775808 ≤ k) (hkk : k < 9223372036854775808) (p0 : ¬ m < -4096) (p1 : ¬ 4096 < m) (p2 : ¬ m < -20) (p3 : ¬ 20 < m) (p4 : ¬ m < 0) (hz : qmade n d.toNat = 0) (p6 : ¬ k < -20) (p7 : 20 < k) (w : World) (htab : Tab w) (hm : MaxL w) :
    Calls Tryz.prog 13 #[.agg #[.int .i64 n, .int .u32 d], .int .i64 m, .int .i64 k] w fun xe w' => xe = .returned (.bool true) ∧ Below w.heap.size w w' := by
  have HQ := fun w => qof_any n d ln hn ld hdd w
  have Sa := qmade_sz n d.toNat ln hn (by omega)
  have NB := (qmade_nb n d.toNat ln hn (by omega))
  generalize qmade n d.toNat = a at *
  have HS : ∀ i : Nat, i < 20 → ∀ s t : Rat, s = a ^ i → t = a ^ (i + 1) → ∀ w, Calls Tryz.prog 68 #[fracV s, fracV a] w fun xe w' => xe = .returned (fracV t) ∧ Below w.heap.size w w' := fun i hi s t hs ht w => by
    have h := mulF (a ^ i) a 21 ((Sa.pow i).mono (by omega)) (Sa.mono (by omega)) (by omega) w
    rw [← Rat.pow_succ, ← hs, ← ht] at h
    exact h
  have Sr2 := Sa.zpow (m := m) (by first | exact .inr (by omega) | exact .inl hz) (by omega)
  have H1 := fun w => powZ a m (by first | exact .inr (by omega) | exact .inl hz) (by omega) 64 (by rcases Nat.eq_zero_or_pos ((m : Int)).natAbs with h | h; exact .inl h; exact .inr ((Nat.le_div_iff_mul_le h).2 (by omega))) NB.1 NB.2 (Sa.mono (by omega)) w
  have H2 := fun w => signF a w
  have HW := fun w (h : Tab w ∧ MaxL w) => fworks_any w h.1 h.2
  exact fpowers_11_w a n d m k ((1 : Int) : Rat) (a ^ m) (sgnQ a) HQ HS H1 H2 _ (Keeps.and Keeps.tab MaxL.keeps) HW rfl (by first | exact decide_eq_true (by omega) | exact decide_eq_false (by omega)) (by first | exact decide_eq_true (by omega) | exact decide_eq_false (by omega)) (by first | exact decide_eq_true (by omega) | exact decide_eq_false (by omega)) (by first | exact decide_eq_true (by omega) | exact decide_eq_false (by omega)) (by first | exact decide_eq_true (by omega) | exact decide_eq_false (by omega)) (by first | exact decide_eq_true (by omega) | exact decide_eq_false (by omega)) (by first | exact decide_eq_true (by omega) | exact decide_eq_false (by omega)) (by first | exact decide_eq_true (by omega) | exact decide_eq_false (by omega)) (by first | (rw [sgnQ_eq0]; simp [hz]) | (rw [bne, sgnQ_eq0]; simp [hz])) (by first | (rw [sgnQ_eq0]; simp [hz]) | (rw [bne, sgnQ_eq0]; simp [hz])) (by first | exact decide_eq_true (by omega) | exact decide_eq_false (by omega)) (by first | exact decide_eq_true (by omega) | exact decide_eq_false (by omega)) (by first | exact decide_eq_true (by omega) | exact decide_eq_false (by omega)) (by first | exact decide_eq_true (by omega) | exact decide_eq_false (by omega)) (by first | exact decide_eq_true (by omega) | exact decide_eq_false (by omega)) (by first | exact decide_eq_true (by omega) | exact decide_eq_false (by omega)) w ⟨htab, hm⟩

set_option maxHeartbeats 16000000 in
set_option maxRecDepth 100000 in
theorem fpowers_12_w  (a : Rat) (n : Int) (d : Int) (m : Int) (k : Int) (r1 : Rat) (r2 : Rat) (i1 : Int) (HQ : ∀ w, Calls Tryz.prog 99 #[.agg #[.int .i64 n, .int .u32 d]] w fun xe w' => xe = .returned (fracV a) ∧ Below w.heap.size w w') (HS : ∀ i : Nat, i < 20 → ∀ s t : Rat, s = a ^ i → t = a ^ (i + 1) → ∀ w, Calls Tryz.prog 68 #[fracV s, fracV a] w fun xe w' => xe = .returned (fracV t) ∧ Below w.heap.size w w') (H1 : ∀ w, Calls Tryz.prog 98 #[fracV a, .int .i64 m] w fun xe w' => xe = .returned (.tuple #[fracV r2, .int .i64 0]) ∧ Below w.heap.size w w') (H2 : ∀ w, Calls Tryz.prog 75 #[fracV a] w fun xe w' => xe = .returned (.int .i64 i1) ∧ Below w.heap.size w w') (KW : World → Prop) (hKW : Keeps KW) (HW : ∀ w, KW w → Calls Tryz.prog 57 #[] w fun xe w' => xe = .returned (.bool true) ∧ Below w.heap.size w w') (hone : r1 = 1) (hd2 : decide (m < (-4096)) = false) (hd3 : decide ((-4096) ≤ m) = true) (hd4 : decide (4096 < m) = false) (hd5 : decide (m ≤ 4096) = true) (hd6 : decide (m < (-20)) = false) (hd7 : decide ((-20) ≤ m) = true) (hd8 : decide (20 < m) = false) (hd9 : decide (m ≤ 20) = true) (hd10 : (i1 == 0) = true) (hd11 : (i1 != 0) = false) (hd12 : decide (m < 0) = false) (hd13 : decide (0 ≤ m) = true) (hd14 : decide (k < (-20)) = false) (hd15 : decide ((-20) ≤ k) = true) (hd16 : decide (20 < k) = false) (hd17 : decide (k ≤ 20) = true) (hd18 : decide (k < 0) = true) (hd19 : decide (0 ≤ k) = false) (w : World) (kKW : KW w) :
    Calls Tryz.prog 13 #[.agg #[.int .i64 n, .int .u32 d], .int .i64 m, .int .i64 k] w fun xe w' => xe = .returned (.bool true) ∧ Below w.heap.size w w' := by
  have hL0 : GL w w [] := GL.start w
  replace HQ := Lib.hid HQ
  replace HS := Lib.hid HS
  replace H1 := Lib.hid H1
  replace H2 := Lib.hid H2
  replace hKW := Lib.hid hKW
  replace HW := Lib.hid HW
  replace hone := Lib.hid hone
  replace hL0 := (hL0.new rfl [.int .i64 n, .int .u32 d] 120)
  generalize hweq : (w.alloc (.cells #[.int .i64 n, .int .u32 d] 120)) = x1 at hL0
  go_enter Tryz.func13, Tryz.ntmps13
  have hN0 := cells_of _ 0 [] rfl (hL0.get _ _ List.mem_cons_self)
  simp only [cellsF, and_true, Nat.zero_add, Nat.reduceAdd] at hN0
  go_wp2_with fail
  clear hN0
  with_reducible refine Calls.mono (HQ.out _) ?_
  rintro e x2 ⟨rfl, hb⟩
  replace hL0 := hL0.call hb
  clear hb hweq
  replace hL0 := (hL0.new rfl [.int .u64 ((zl a.num : Nat) : Int), .string (zh a.num), .bool (zs a.num), .int .u64 ((lo (fe a) : Nat) : Int), .string (hs (fe a))] 79)
  generalize hweq : (x2.alloc (.cells #[.int .u64 ((zl a.num : Nat) : Int), .string (zh a.num), .bool (zs a.num), .int .u64 ((lo (fe a) : Nat) : Int), .string (hs (fe a))] 79)) = x3 at hL0
  have hN0 := cells_of _ 0 [] rfl (hL0.get _ _ List.mem_cons_self)
  simp only [cellsF, and_true, Nat.zero_add, Nat.reduceAdd] at hN0
  go_wp2_with fail
  clear hN0
  with_reducible refine Calls.mono (H1.out _) ?_
  rintro e x4 ⟨rfl, hb⟩
  replace hL0 := hL0.call hb
  clear hb hweq
  replace hL0 := (hL0.new rfl [.int .u64 ((zl r2.num : Nat) : Int), .string (zh r2.num), .bool (zs r2.num), .int .u64 ((lo (fe r2) : Nat) : Int), .string (hs (fe r2))] 79)
  generalize hweq : (x4.alloc (.cells #[.int .u64 ((zl r2.num : Nat) : Int), .string (zh r2.num), .bool (zs r2.num), .int .u64 ((lo (fe r2) : Nat) : Int), .string (hs (fe r2))] 79)) = x5 at hL0
  have hN0 := cells_of _ 0 [] rfl (hL0.get _ _ (List.mem_cons_of_mem _ List.mem_cons_self))
  simp only [cellsF, and_true, Nat.zero_add, Nat.reduceAdd] at hN0
  go_wp2_with fail
  clear hN0
  with_reducible refine Calls.mono (H2.out _) ?_
  rintro e x6 ⟨rfl, hb⟩
  replace hL0 := hL0.call hb
  clear hb hweq
  have hN0 := cells_of _ 0 [] rfl (hL0.get _ _ (List.mem_cons_of_mem _ List.mem_cons_self))
  simp only [cellsF, and_true, Nat.zero_add, Nat.reduceAdd] at hN0
  go_wp2_with fail
  clear hN0
  with_reducible refine Calls.mono (H2.out _) ?_
  rintro e x7 ⟨rfl, hb⟩
  replace hL0 := hL0.call hb
  clear hb
  go_wp2_with fail
  with_reducible refine Calls.mono (HW.out _ (hKW.out.at hL0.bl kKW)) ?_
  rintro e x8 ⟨rfl, hb⟩
  replace hL0 := hL0.call hb
  clear hb
  go_wp2_with fail
  exact bodyPost_ret (v := .bool true) (by simp [results, Tryz.results13, go_sem]) rfl ⟨rfl, hL0.bl⟩

theorem fpowers_12 (n d m k : Int) (ln : -9223372036854775808 ≤ n) (hn : n < 9223372036854775808) (ld : 0 ≤ d) (hdd : d < 4294967296) (lm : -9223372036854775808 ≤ m) (hmm : m < 9223372036854775808) (lk : -9223372036854775808 ≤ k) (hkk : k < 9223372036854775808) (p0 : ¬ m < -4096) (p1 : ¬ 4096 < m) (p2 : ¬ m < -20) (p3 : ¬ 20 < m) (p4 : ¬ m < 0) (hz : qmade n d.toNat = 0) (p6 : ¬ k < -20) (p7 : ¬ 20 < k) (p8 : k < 0) (w : World) (htab : Tab w) (hm : MaxL w) :
    Calls Tryz.prog 13 #[.agg #[.int .i64 n, .int .u32 d], .int .i64 m, .int .i64 k] w fun xe w' => xe = .returned (.bool true) ∧ Below w.heap.size w w' := by
  have HQ := fun w => qof_any n d ln hn ld hdd w
  have Sa := qmade_sz n d.toNat ln hn (by omega)
  have NB := (qmade_nb n d.toNat ln hn (by omega))
  generalize qmade n d.toNat = a at *
  have HS : ∀ i : Nat, i < 20 → ∀ s t : Rat, s = a ^ i → t = a ^ (i + 1) → ∀ w, Calls Tryz.prog 68 #[fracV s, fracV a] w fun xe w' => xe = .returned (fracV t) ∧ Below w.heap.size w w' := fun i hi s t hs ht w => by
    have h := mulF (a ^ i) a 21 ((Sa.pow i).mono (by omega)) (Sa.mono (by omega)) (by omega) w
    rw [← Rat.pow_succ, ← hs, ← ht] at h
    exact h
  have Sr2 := Sa.zpow (m := m) (by first | exact .inr (by omega) | exact .inl hz) (by omega)
  have H1 := fun w => powZ a m (by first | exact .inr (by omega) | exact .inl hz) (by omega) 64 (by rcases Nat.eq_zero_or_pos ((m : Int)).natAbs with h | h; exact .inl h; exact .inr ((Nat.le_div_iff_mul_le h).2 (by omega))) NB.1 NB.2 (Sa.mono (by omega)) w
  have H2 := fun w => signF a w
  have HW := fun w (h : Tab w ∧ MaxL w) => fworks_any w h.1 h.2
  exact fpowers_12_w a n d m k ((1 : Int) : Rat) (a ^ m) (sgnQ a) HQ HS H1 H2 _ (Keeps.and Keeps.tab MaxL.keeps) HW rfl (by first | exact decide_eq_true (by omega) | exact decide_eq_false (by omega)) (by first | exact decide_eq_true (by omega) | exact decide_eq_false (by omega)) (by first | exact decide_eq_true (by omega) | exact decide_eq_false (by omega)) (by first | exact decide_eq_true (by omega) | exact decide_eq_false (by omega)) (by first | exact decide_eq_true (by omega) | exact decide_eq_false (by omega)) (by first | exact decide_eq_true (by omega) | exact decide_eq_false (by omega)) (by first | exact decide_eq_true (by omega) | exact decide_eq_false (by omega)) (by first | exact decide_eq_true (by omega) | exact decide_eq_false (by omega)) (by first | (rw [sgnQ_eq0]; simp [hz]) | (rw [bne, sgnQ_eq0]; simp [hz])) (by first | (rw [sgnQ_eq0]; simp [hz]) | (rw [bne, sgnQ_eq0]; simp [hz])) (by first | exact decide_eq_true (by omega) | exact decide_eq_false (by omega)) (by first | exact decide_eq_true (by omega) | exact decide_eq_false (by omega)) (by first | exact decide_eq_true (by omega) | exact decide_eq_false (by omega)) (by first | exact decide_eq_true (by omega) | exact decide_eq_false (by omega)) (by first | exact decide_eq_true (by omega) | exact decide_eq_false (by omega)) (by first | exact decide_eq_true (by omega) | exact decide_eq_false (by omega)) (by first | exact decide_eq_true (by omega) | exact decide_eq_false (by omega)) (by first | exact decide_eq_true (by omega) | exact decide_eq_false (by omega)) w ⟨htab, hm⟩

set_option maxHeartbeats 16000000 in
set_option maxRecDepth 100000 in
theorem fpowers_13_w  (a : Rat) (n : Int) (d : Int) (m : Int) (k : Int) (r1 : Rat) (r2 : Rat) (i1 : Int) (t : Int) (r3 : Rat) (r4 : Rat) (mn : Int) (L : Nat) (HQ : ∀ w, Calls Tryz.prog 99 #[.agg #[.int .i64 n, .int .u32 d]] w fun xe w' => xe = .returned (fracV a) ∧ Below w.heap.size w w') (HS : ∀ i : Nat, i < 20 → ∀ s t : Rat, s = a ^ i → t = a ^ (i + 1) → ∀ w, Calls Tryz.prog 68 #[fracV s, fracV a] w fun xe w' => xe = .returned (fracV t) ∧ Below w.heap.size w w') (H1 : ∀ w, Calls Tryz.prog 98 #[fracV a, .int .i64 m] w fun xe w' => xe = .returned (.tuple #[fracV r2, .int .i64 0]) ∧ Below w.heap.size w w') (H2 : ∀ w, Calls Tryz.prog 75 #[fracV a] w fun xe w' => xe = .returned (.int .i64 i1) ∧ Below w.heap.size w w') (H3 : ∀ w, Calls Tryz.prog 98 #[fracV a, .int .i64 k] w fun xe w' => xe = .returned (.tuple #[fracV r3, .int .i64 0]) ∧ Below w.heap.size w w') (H4 : ∀ w, Calls Tryz.prog 98 #[fracV a, .int .i64 t] w fun xe w' => xe = .returned (.tuple #[fracV r4, .int .i64 0]) ∧ Below w.heap.size w w') (H5 : ∀ w, Calls Tryz.prog 94 #[.int .i64 1] w fun xe w' => xe = .returned (fracV r1) ∧ Below w.heap.size w w') (H6 : ∀ w, Calls Tryz.prog 68 #[fracV r2, fracV r3] w fun xe w' => xe = .returned (fracV r4) ∧ Below w.heap.size w w') (KW : World → Prop) (hKW : Keeps KW) (HW : ∀ w, KW w → Calls Tryz.prog 57 #[] w fun xe w' => xe = .returned (.bool true) ∧ Below w.heap.size w w') (hone : r1 = 1) (hd2 : decide (m < (-4096)) = false) (hd3 : decide ((-4096) ≤ m) = true) (hd4 : decide (4096 < m) = false) (hd5 : decide (m ≤ 4096) = true) (hd6 : decide (m < (-20)) = false) (hd7 : decide ((-20) ≤ m) = true) (hd8 : decide (20 < m) = false) (hd9 : decide (m ≤ 20) = true) (hd10 : (i1 == 0) = true) (hd11 : (i1 != 0) = false) (hd12 : decide (m < 0) = false) (hd13 : decide (0 ≤ m) = true) (hd14 : decide (k < (-20)) = false) (hd15 : decide ((-20) ≤ k) = true) (hd16 : decide (20 < k) = false) (hd17 : decide (k ≤ 20) = true) (hd18 : decide (k < 0) = false) (hd19 : decide (0 ≤ k) = true) (hdt : IntKind.i64.wrap (m + k) = t) (hd21 : decide (t < 0) = false) (hd22 : decide (0 ≤ t) = true) (hdn : IntKind.i64.wrap (-m) = mn) (hmx : max m mn = m) (hL : m = (L : Int)) (hL2 : L ≤ 20) (hps : r2 = a ^ L) (w : World) (kKW : KW w) :
    Calls Tryz.prog 13 #[.agg #[.int .i64 n, .int .u32 d], .int .i64 m, .int .i64 k] w fun xe w' => xe = .returned (.bool true) ∧ Below w.heap.size w w' := by
  have hL0 : GL w w [] := GL.start w
  replace HQ := Lib.hid HQ
  replace HS := Lib.hid HS
  replace H1 := Lib.hid H1
  replace H2 := Lib.hid H2
  replace H3 := Lib.hid H3
  replace H4 := Lib.hid H4
  replace H5 := Lib.hid H5
  replace H6 := Lib.hid H6
  replace hKW := Lib.hid hKW
  replace HW := Lib.hid HW
  replace hone := Lib.hid hone
  replace hL := Lib.hid hL
  replace hL2 := Lib.hid hL2
  replace hps := Lib.hid hps
  replace hL0 := (hL0.new rfl [.int .i64 n, .int .u32 d] 120)
  generalize hweq : (w.alloc (.cells #[.int .i64 n, .int .u32 d] 120)) = x1 at hL0
  go_enter Tryz.func13, Tryz.ntmps13
  have hN0 := cells_of _ 0 [] rfl (hL0.get _ _ List.mem_cons_self)
  simp only [cellsF, and_true, Nat.zero_add, Nat.reduceAdd] at hN0
  go_wp2_with fail
  clear hN0
  with_reducible refine Calls.mono (HQ.out _) ?_
  rintro e x2 ⟨rfl, hb⟩
  replace hL0 := hL0.call hb
  clear hb hweq
  replace hL0 := (hL0.new rfl [.int .u64 ((zl a.num : Nat) : Int), .string (zh a.num), .bool (zs a.num), .int .u64 ((lo (fe a) : Nat) : Int), .string (hs (fe a))] 79)
  generalize hweq : (x2.alloc (.cells #[.int .u64 ((zl a.num : Nat) : Int), .string (zh a.num), .bool (zs a.num), .int .u64 ((lo (fe a) : Nat) : Int), .string (hs (fe a))] 79)) = x3 at hL0
  have hN0 := cells_of _ 0 [] rfl (hL0.get _ _ List.mem_cons_self)
  simp only [cellsF, and_true, Nat.zero_add, Nat.reduceAdd] at hN0
  go_wp2_with fail
  clear hN0
  with_reducible refine Calls.mono (H1.out _) ?_
  rintro e x4 ⟨rfl, hb⟩
  replace hL0 := hL0.call hb
  clear hb hweq
  replace hL0 := (hL0.new rfl [.int .u64 ((zl r2.num : Nat) : Int), .string (zh r2.num), .bool (zs r2.num), .int .u64 ((lo (fe r2) : Nat) : Int), .string (hs (fe r2))] 79)
  generalize hweq : (x4.alloc (.cells #[.int .u64 ((zl r2.num : Nat) : Int), .string (zh r2.num), .bool (zs r2.num), .int .u64 ((lo (fe r2) : Nat) : Int), .string (hs (fe r2))] 79)) = x5 at hL0
  have hN0 := cells_of _ 0 [] rfl (hL0.get _ _ (List.mem_cons_of_mem _ List.mem_cons_self))
  simp only [cellsF, and_true, Nat.zero_add, Nat.reduceAdd] at hN0
  go_wp2_with fail
  clear hN0
  with_reducible refine Calls.mono (H2.out _) ?_
  rintro e x6 ⟨rfl, hb⟩
  replace hL0 := hL0.call hb
  clear hb hweq
  have hN0 := cells_of _ 0 [] rfl (hL0.get _ _ (List.mem_cons_of_mem _ List.mem_cons_self))
  simp only [cellsF, and_true, Nat.zero_add, Nat.reduceAdd] at hN0
  go_wp2_with fail
  clear hN0
  with_reducible refine Calls.mono (H2.out _) ?_
  rintro e x7 ⟨rfl, hb⟩
  replace hL0 := hL0.call hb
  clear hb
  have hN0 := cells_of _ 0 [] rfl (hL0.get _ _ (List.mem_cons_of_mem _ List.mem_cons_self))
  simp only [cellsF, and_true, Nat.zero_add, Nat.reduceAdd] at hN0
  go_wp2_with fail
  clear hN0
  with_reducible refine Calls.mono (H3.out _) ?_
  rintro e x8 ⟨rfl, hb⟩
  replace hL0 := hL0.call hb
  clear hb
  replace hL0 := (hL0.new rfl [.int .u64 ((zl r3.num : Nat) : Int), .string (zh r3.num), .bool (zs r3.num), .int .u64 ((lo (fe r3) : Nat) : Int), .string (hs (fe r3))] 79)
  generalize hweq : (x8.alloc (.cells #[.int .u64 ((zl r3.num : Nat) : Int), .string (zh r3.num), .bool (zs r3.num), .int .u64 ((lo (fe r3) : Nat) : Int), .string (hs (fe r3))] 79)) = x9 at hL0
  have hN0 := cells_of _ 0 [] rfl (hL0.get _ _ (List.mem_cons_of_mem _ (List.mem_cons_of_mem _ List.mem_cons_self)))
  simp only [cellsF, and_true, Nat.zero_add, Nat.reduceAdd] at hN0
  go_wp2_with fail
  clear hN0
  with_reducible refine Calls.mono (H4.out _) ?_
  rintro e x10 ⟨rfl, hb⟩
  replace hL0 := hL0.call hb
  clear hb hweq
  replace hL0 := (hL0.new rfl [.int .u64 ((zl r4.num : Nat) : Int), .string (zh r4.num), .bool (zs r4.num), .int .u64 ((lo (fe r4) : Nat) : Int), .string (hs (fe r4))] 79)
  generalize hweq : (x10.alloc (.cells #[.int .u64 ((zl r4.num : Nat) : Int), .string (zh r4.num), .bool (zs r4.num), .int .u64 ((lo (fe r4) : Nat) : Int), .string (hs (fe r4))] 79)) = x11 at hL0
  go_wp2_with fail
  with_reducible refine Calls.mono (H5.out _) ?_
  rintro e x12 ⟨rfl, hb⟩
  replace hL0 := hL0.call hb
  clear hb hweq
  replace hL0 := (hL0.new rfl [.int .u64 ((zl r1.num : Nat) : Int), .string (zh r1.num), .bool (zs r1.num), .int .u64 ((lo (fe r1) : Nat) : Int), .string (hs (fe r1))] 79)
  generalize hweq : (x12.alloc (.cells #[.int .u64 ((zl r1.num : Nat) : Int), .string (zh r1.num), .bool (zs r1.num), .int .u64 ((lo (fe r1) : Nat) : Int), .string (hs (fe r1))] 79)) = x13 at hL0
  go_wp2_with fail
  clear hweq
  go_loopw [15] (fun z wr => ∃ i : Nat, i ≤ L ∧ z = .int .i64 (i : Int) ∧ ∃ sv : Rat, sv = a ^ i ∧ GL w wr [(x12.heap.size, [.int .u64 ((zl sv.num : Nat) : Int), .string (zh sv.num), .bool (zs sv.num), .int .u64 ((lo (fe sv) : Nat) : Int), .string (hs (fe sv))]), (x10.heap.size, [.int .u64 ((zl r4.num : Nat) : Int), .string (zh r4.num), .bool (zs r4.num), .int .u64 ((lo (fe r4) : Nat) : Int), .string (hs (fe r4))]), (x8.heap.size, [.int .u64 ((zl r3.num : Nat) : Int), .string (zh r3.num), .bool (zs r3.num), .int .u64 ((lo (fe r3) : Nat) : Int), .string (hs (fe r3))]), (x4.heap.size, [.int .u64 ((zl r2.num : Nat) : Int), .string (zh r2.num), .bool (zs r2.num), .int .u64 ((lo (fe r2) : Nat) : Int), .string (hs (fe r2))]), (x2.heap.size, [.int .u64 ((zl a.num : Nat) : Int), .string (zh a.num), .bool (zs a.num), .int .u64 ((lo (fe a) : Nat) : Int), .string (hs (fe a))]), (w.heap.size, [.int .i64 n, .int .u32 d])]) (fun z _ => L - (intOf z).toNat)
  case atStart => exact ⟨0, Nat.zero_le _, rfl, r1, by rw [hone.out, Rat.pow_zero], hL0⟩
  case round =>
    clear hL0
    obtain ⟨i, hi, rfl, sv, hsv, hL0⟩ := hrel
    rcases Nat.lt_or_ge i L with hin | hin
    · skip
      have k1 : decide ((i : Int) < m) = true := decide_eq_true (by have := hL.out; omega)
      obtain ⟨sw, hsw⟩ : ∃ sw : Rat, sw = a ^ (i + 1) := ⟨_, rfl⟩
      have HM := Lib.hid (HS.out i (by have := hL2.out; omega) sv sw hsv hsw)
      replace hsw := Lib.hid hsw
      replace hsv := Lib.hid hsv
      have hi20 : i < 20 := by have := hL2.out; omega
      have k2 : (i : Int) < m := by have := hL.out; omega
      have hN0 := cells_of _ 0 [] rfl (hL0.get _ _ List.mem_cons_self)
      simp only [cellsF, and_true, Nat.zero_add, Nat.reduceAdd] at hN0
      have hN1 := cells_of _ 0 [] rfl (hL0.get _ _ (List.mem_cons_of_mem _ (List.mem_cons_of_mem _ (List.mem_cons_of_mem _ (List.mem_cons_of_mem _ List.mem_cons_self)))))
      simp only [cellsF, and_true, Nat.zero_add, Nat.reduceAdd] at hN1
      go_wp2_with fail
      clear hN0 hN1
      with_reducible refine Calls.mono (HM.out _) ?_
      rintro e x14 ⟨rfl, hb⟩
      replace hL0 := hL0.call hb
      clear hb
      have hA := hL0.fc
      simp only [fcG, cellsF, neK, and_true, ne_eq, Nat.zero_add, Nat.reduceAdd] at hA
      have hP := hL0.put 0 (x12.heap.size) _ rfl [.int .u64 ((zl sw.num : Nat) : Int), .string (zh sw.num), .bool (zs sw.num), .int .u64 ((lo (fe sw) : Nat) : Int), .string (hs (fe sw))] rfl
      simp only [setAll, List.set_cons_zero, List.set_cons_succ] at hP
      generalize hput1 : (((((x14.setCell ⟨x12.heap.size, 0, none⟩ (.int .u64 ((zl sw.num : Nat) : Int))).setCell ⟨x12.heap.size, 1, none⟩ (.string (zh sw.num))).setCell ⟨x12.heap.size, 2, none⟩ (.bool (zs sw.num))).setCell ⟨x12.heap.size, 3, none⟩ (.int .u64 ((lo (fe sw) : Nat) : Int))).setCell ⟨x12.heap.size, 4, none⟩ (.string (hs (fe sw)))) = x15 at hP
      have hB1 := hP.fc
      simp only [fcG, cellsF, neK, and_true, ne_eq, Nat.zero_add, Nat.reduceAdd] at hB1
      replace hL0 := hP
      go_wp2_with fail
      go_roundw
      case rel => exact ⟨i + 1, by omega, by first | rfl | go_num, sw, hsw.out, hL0⟩
      case measure => simp [intOf]; omega
    · obtain rfl : i = L := by omega
      have k1 : decide ((i : Int) < m) = false := decide_eq_false (by have := hL.out; omega)
      have k2 : ¬ (i : Int) < m := by have := hL.out; omega
      have hsv2 : sv = r2 := hsv.trans hps.out.symm
      clear hsv HS hL hL2 hi hin hone
      subst sv
      go_upto_region 22 with fail
      have kKW1 := hKW.out.at hL0.bl kKW
      obtain ⟨α, iα, F, hF1, hF2⟩ := cls wr
      have hq0 := cls_box hF1 hL0 _ _ List.mem_cons_self
      simp only [cellsC, and_true, Nat.zero_add, Nat.reduceAdd] at hq0
      have hq1 := cls_box hF1 hL0 _ _ (List.mem_cons_of_mem _ List.mem_cons_self)
      simp only [cellsC, and_true, Nat.zero_add, Nat.reduceAdd] at hq1
      have hq2 := cls_box hF1 hL0 _ _ (List.mem_cons_of_mem _ (List.mem_cons_of_mem _ List.mem_cons_self))
      simp only [cellsC, and_true, Nat.zero_add, Nat.reduceAdd] at hq2
      have hq3 := cls_box hF1 hL0 _ _ (List.mem_cons_of_mem _ (List.mem_cons_of_mem _ (List.mem_cons_of_mem _ List.mem_cons_self)))
      simp only [cellsC, and_true, Nat.zero_add, Nat.reduceAdd] at hq3
      refine region_qs 18 (C := fun w' => ∃ x, w' = F x) (by kernel_rfl) (by kernel_rfl) (cls_drew hF2) ?_
      simp only [List.take_succ_cons, List.take_zero, List.drop_succ_cons, List.drop_zero, List.take_nil, List.drop_nil]
      repeat (go_big_quiet_step (first | fail | (go_at_call 68; with_reducible exact cls_call hF1 hF2 H6.out _) | (go_at_call 57; with_reducible exact cls_callK hKW.out hF1 hF2 kKW1 HW.out _)))
      refine wpQuiet_nil ?_
      rintro wq ⟨xq, rfl⟩
      replace hL0 := hL0.call (hF1 xq)
      clear  hq0 hq1 hq2 hq3 hF2
      generalize F xq = x16 at hL0 ⊢
      clear hF1 xq iα F α
      clear kKW1
      go_wp2_with fail
      exact bodyPost_ret (v := .bool true) (by simp [results, Tryz.results13, go_sem]) rfl ⟨rfl, hL0.bl⟩

theorem fpowers_13 (n d m k : Int) (ln : -9223372036854775808 ≤ n) (hn : n < 9223372036854775808) (ld : 0 ≤ d) (hdd : d < 4294967296) (lm : -9223372036854775808 ≤ m) (hmm : m < 9223372036854775808) (lk : -9223372036854775808 ≤ k) (hkk : k < 9223372036854775808) (p0 : ¬ m < -4096) (p1 : ¬ 4096 < m) (p2 : ¬ m < -20) (p3 : ¬ 20 < m) (p4 : ¬ m < 0) (hz : qmade n d.toNat = 0) (p6 : ¬ k < -20) (p7 : ¬ 20 < k) (p8 : ¬ k < 0) (w : World) (htab : Tab w) (hm : MaxL w) :
    Calls Tryz.prog 13 #[.agg #[.int .i64 n, .int .u32 d], .int .i64 m, .int .i64 k] w fun xe w' => xe = .returned (.bool true) ∧ Below w.heap.size w w' := by
  have HQ := fun w => qof_any n d ln hn ld hdd w
  have Sa := qmade_sz n d.toNat ln hn (by omega)
  have NB := (qmade_nb n d.toNat ln hn (by omega))
  generalize qmade n d.toNat = a at *
  have HS : ∀ i : Nat, i < 20 → ∀ s t : Rat, s = a ^ i → t = a ^ (i + 1) → ∀ w, Calls Tryz.prog 68 #[fracV s, fracV a] w fun xe w' => xe = .returned (fracV t) ∧ Below w.heap.size w w' := fun i hi s t hs ht w => by
    have h := mulF (a ^ i) a 21 ((Sa.pow i).mono (by omega)) (Sa.mono (by omega)) (by omega) w
    rw [← Rat.pow_succ, ← hs, ← ht] at h
    exact h
  have Sps : Sz (a ^ m.natAbs) 41 := (Sa.pow _).mono (by omega)
  have HPS : a ^ m = a ^ m.natAbs := by rw [show a ^ m = a ^ ((m.natAbs : Nat) : Int) by congr 1; omega]; rfl
  have Sr2 := Sa.zpow (m := m) (by first | exact .inr (by omega) | exact .inl hz) (by omega)
  have H1 := fun w => powZ a m (by first | exact .inr (by omega) | exact .inl hz) (by omega) 64 (by rcases Nat.eq_zero_or_pos ((m : Int)).natAbs with h | h; exact .inl h; exact .inr ((Nat.le_div_iff_mul_le h).2 (by omega))) NB.1 NB.2 (Sa.mono (by omega)) w
  have H2 := fun w => signF a w
  have Sr3 := Sa.zpow (m := k) (by first | exact .inr (by omega) | exact .inl hz) (by omega)
  have H3 := fun w => powZ a k (by first | exact .inr (by omega) | exact .inl hz) (by omega) 64 (by rcases Nat.eq_zero_or_pos ((k : Int)).natAbs with h | h; exact .inl h; exact .inr ((Nat.le_div_iff_mul_le h).2 (by omega))) NB.1 NB.2 (Sa.mono (by omega)) w
  have Sr4 := Sa.zpow (m := (m + k)) (by first | exact .inr (by omega) | exact .inl hz) (by omega)
  have H4 := fun w => powZ a (m + k) (by first | exact .inr (by omega) | exact .inl hz) (by omega) 64 (by rcases Nat.eq_zero_or_pos (((m + k) : Int)).natAbs with h | h; exact .inl h; exact .inr ((Nat.le_div_iff_mul_le h).2 (by omega))) NB.1 NB.2 (Sa.mono (by omega)) w
  have H5 := fun w => intF (1) (by decide) (by decide) w
  have H6 := fun w => mulF (a ^ m) (a ^ k) 41 (Sr2.mono (by omega)) (Sr3.mono (by omega)) (by omega) w
  rw [zpow_sum a m k (by first | exact .inr ⟨by omega, by omega⟩ | exact .inl hz)] at H6
  have HW := fun w (h : Tab w ∧ MaxL w) => fworks_any w h.1 h.2
  exact fpowers_13_w a n d m k ((1 : Int) : Rat) (a ^ m) (sgnQ a) (m + k) (a ^ k) (a ^ (m + k)) (-m) m.natAbs HQ HS H1 H2 H3 H4 H5 H6 _ (Keeps.and Keeps.tab MaxL.keeps) HW rfl (by first | exact decide_eq_true (by omega) | exact decide_eq_false (by omega)) (by first | exact decide_eq_true (by omega) | exact decide_eq_false (by omega)) (by first | exact decide_eq_true (by omega) | exact decide_eq_false (by omega)) (by first | exact decide_eq_true (by omega) | exact decide_eq_false (by omega)) (by first | exact decide_eq_true (by omega) | exact decide_eq_false (by omega)) (by first | exact decide_eq_true (by omega) | exact decide_eq_false (by omega)) (by first | exact decide_eq_true (by omega) | exact decide_eq_false (by omega)) (by first | exact decide_eq_true (by omega) | exact decide_eq_false (by omega)) (by first | (rw [sgnQ_eq0]; simp [hz]) | (rw [bne, sgnQ_eq0]; simp [hz])) (by first | (rw [sgnQ_eq0]; simp [hz]) | (rw [bne, sgnQ_eq0]; simp [hz])) (by first | exact decide_eq_true (by omega) | exact decide_eq_false (by omega)) (by first | exact decide_eq_true (by omega) | exact decide_eq_false (by omega)) (by first | exact decide_eq_true (by omega) | exact decide_eq_false (by omega)) (by first | exact decide_eq_true (by omega) | exact decide_eq_false (by omega)) (by first | exact decide_eq_true (by omega) | exact decide_eq_false (by omega)) (by first | exact decide_eq_true (by omega) | exact decide_eq_false (by omega)) (by first | exact decide_eq_true (by omega) | exact decide_eq_false (by omega)) (by first | exact decide_eq_true (by omega) | exact decide_eq_false (by omega)) (IntWalk.i64_in _ (by omega)) (by first | exact decide_eq_true (by omega) | exact decide_eq_false (by omega)) (by first | exact decide_eq_true (by omega) | exact decide_eq_false (by omega)) (IntWalk.i64_in _ (by omega)) (by omega) (by omega) (by omega) HPS w ⟨htab, hm⟩

set_option maxHeartbeats 16000000 in
set_option maxRecDepth 100000 in
theorem fpowers_14_w  (a : Rat) (n : Int) (d : Int) (m : Int) (k : Int) (r1 : Rat) (r2 : Rat) (i1 : Int) (HQ : ∀ w, Calls Tryz.prog 99 #[.agg #[.int .i64 n, .int .u32 d]] w fun xe w' => xe = .returned (fracV a) ∧ Below w.heap.size w w') (HS : ∀ i : Nat, i < 20 → ∀ s t : Rat, s = a ^ i → t = a ^ (i + 1) → ∀ w, Calls Tryz.prog 68 #[fracV s, fracV a] w fun xe w' => xe = .returned (fracV t) ∧ Below w.heap.size w w') (H1 : ∀ w, Calls Tryz.prog 98 #[fracV a, .int .i64 m] w fun xe w' => xe = .returned (.tuple #[fracV r2, .int .i64 0]) ∧ Below w.heap.size w w') (H2 : ∀ w, Calls Tryz.prog 75 #[fracV a] w fun xe w' => xe = .returned (.int .i64 i1) ∧ Below w.heap.size w w') (KW : World → Prop) (hKW : Keeps KW) (HW : ∀ w, KW w → Calls Tryz.prog 57 #[] w fun xe w' => xe = .returned (.bool true) ∧ Below w.heap.size w w') (hone : r1 = 1) (hd2 : decide (m < (-4096)) = false) (hd3 : decide ((-4096) ≤ m) = true) (hd4 : decide (4096 < m) = false) (hd5 : decide (m ≤ 4096) = true) (hd6 : decide (m < (-20)) = false) (hd7 : decide ((-20) ≤ m) = true) (hd8 : decide (20 < m) = false) (hd9 : decide (m ≤ 20) = true) (hd10 : (i1 == 0) = false) (hd11 : (i1 != 0) = true) (hd12 : decide (k < (-20)) = true) (hd13 : decide ((-20) ≤ k) = false) (w : World) (kKW : KW w) :
    Calls Tryz.prog 13 #[.agg #[.int .i64 n, .int .u32 d], .int .i64 m, .int .i64 k] w fun xe w' => xe = .returned (.bool true) ∧ Below w.heap.size w w' := by
  have hL0 : GL w w [] := GL.start w
  replace HQ := Lib.hid HQ
  replace HS := Lib.hid HS
  replace H1 := Lib.hid H1
  replace H2 := Lib.hid H2
  replace hKW := Lib.hid hKW
  replace HW := Lib.hid HW
  replace hone := Lib.hid hone
  replace hL0 := (hL0.new rfl [.int .i64 n, .int .u32 d] 120)
  generalize hweq : (w.alloc (.cells #[.int .i64 n, .int .u32 d] 120)) = x1 at hL0
  go_enter Tryz.func13, Tryz.ntmps13
  have hN0 := cells_of _ 0 [] rfl (hL0.get _ _ List.mem_cons_self)
  simp only [cellsF, and_true, Nat.zero_add, Nat.reduceAdd] at hN0
  go_wp2_with fail
  clear hN0
  with_reducible refine Calls.mono (HQ.out _) ?_
  rintro e x2 ⟨rfl, hb⟩
  replace hL0 := hL0.call hb
  clear hb hweq
  replace hL0 := (hL0.new rfl [.int .u64 ((zl a.num : Nat) : Int), .string (zh a.num), .bool (zs a.num), .int .u64 ((lo (fe a) : Nat) : Int), .string (hs (fe a))] 79)
  generalize hweq : (x2.alloc (.cells #[.int .u64 ((zl a.num : Nat) : Int), .string (zh a.num), .bool (zs a.num), .int .u64 ((lo (fe a) : Nat) : Int), .string (hs (fe a))] 79)) = x3 at hL0
  have hN0 := cells_of _ 0 [] rfl (hL0.get _ _ List.mem_cons_self)
  simp only [cellsF, and_true, Nat.zero_add, Nat.reduceAdd] at hN0
  go_wp2_with fail
  clear hN0
  with_reducible refine Calls.mono (H1.out _) ?_
  rintro e x4 ⟨rfl, hb⟩
  replace hL0 := hL0.call hb
  clear hb hweq
  replace hL0 := (hL0.new rfl [.int .u64 ((zl r2.num : Nat) : Int), .string (zh r2.num), .bool (zs r2.num), .int .u64 ((lo (fe r2) : Nat) : Int), .string (hs (fe r2))] 79)
  generalize hweq : (x4.alloc (.cells #[.int .u64 ((zl r2.num : Nat) : Int), .string (zh r2.num), .bool (zs r2.num), .int .u64 ((lo (fe r2) : Nat) : Int), .string (hs (fe r2))] 79)) = x5 at hL0
  have hN0 := cells_of _ 0 [] rfl (hL0.get _ _ (List.mem_cons_of_mem _ List.mem_cons_self))
  simp only [cellsF, and_true, Nat.zero_add, Nat.reduceAdd] at hN0
  go_wp2_with fail
  clear hN0
  with_reducible refine Calls.mono (H2.out _) ?_
  rintro e x6 ⟨rfl, hb⟩
  replace hL0 := hL0.call hb
  clear hb hweq
  go_wp2_with fail
  with_reducible refine Calls.mono (HW.out _ (hKW.out.at hL0.bl kKW)) ?_
  rintro e x7 ⟨rfl, hb⟩
  replace hL0 := hL0.call hb
  clear hb
  go_wp2_with fail
  exact bodyPost_ret (v := .bool true) (by simp [results, Tryz.results13, go_sem]) rfl ⟨rfl, hL0.bl⟩

theorem fpowers_14 (n d m k : Int) (ln : -9223372036854775808 ≤ n) (hn : n < 9223372036854775808) (ld : 0 ≤ d) (hdd : d < 4294967296) (lm : -9223372036854775808 ≤ m) (hmm : m < 9223372036854775808) (lk : -9223372036854775808 ≤ k) (hkk : k < 9223372036854775808) (p0 : ¬ m < -4096) (p1 : ¬ 4096 < m) (p2 : ¬ m < -20) (p3 : ¬ 20 < m) (p4 : m < 0) (hz : qmade n d.toNat ≠ 0) (p6 : k < -20) (w : World) (htab : Tab w) (hm : MaxL w) :
    Calls Tryz.prog 13 #[.agg #[.int .i64 n, .int .u32 d], .int .i64 m, .int .i64 k] w fun xe w' => xe = .returned (.bool true) ∧ Below w.heap.size w w' := by
  have HQ := fun w => qof_any n d ln hn ld hdd w
  have Sa := qmade_sz n d.toNat ln hn (by omega)
  have NB := (qmade_nb n d.toNat ln hn (by omega))
  generalize qmade n d.toNat = a at *
  have HS : ∀ i : Nat, i < 20 → ∀ s t : Rat, s = a ^ i → t = a ^ (i + 1) → ∀ w, Calls Tryz.prog 68 #[fracV s, fracV a] w fun xe w' => xe = .returned (fracV t) ∧ Below w.heap.size w w' := fun i hi s t hs ht w => by
    have h := mulF (a ^ i) a 21 ((Sa.pow i).mono (by omega)) (Sa.mono (by omega)) (by omega) w
    rw [← Rat.pow_succ, ← hs, ← ht] at h
    exact h
  have Sr2 := Sa.zpow (m := m) (by first | exact .inr (by omega) | exact .inl hz) (by omega)
  have H1 := fun w => powZ a m (by first | exact .inr (by omega) | exact .inl hz) (by omega) 64 (by rcases Nat.eq_zero_or_pos ((m : Int)).natAbs with h | h; exact .inl h; exact .inr ((Nat.le_div_iff_mul_le h).2 (by omega))) NB.1 NB.2 (Sa.mono (by omega)) w
  have H2 := fun w => signF a w
  have HW := fun w (h : Tab w ∧ MaxL w) => fworks_any w h.1 h.2
  exact fpowers_14_w a n d m k ((1 : Int) : Rat) (a ^ m) (sgnQ a) HQ HS H1 H2 _ (Keeps.and Keeps.tab MaxL.keeps) HW rfl (by first | exact decide_eq_true (by omega) | exact decide_eq_false (by omega)) (by first | exact decide_eq_true (by omega) | exact decide_eq_false (by omega)) (by first | exact decide_eq_true (by omega) | exact decide_eq_false (by omega)) (by first | exact decide_eq_true (by omega) | exact decide_eq_false (by omega)) (by first | exact decide_eq_true (by omega) | exact decide_eq_false (by omega)) (by first | exact decide_eq_true (by omega) | exact decide_eq_false (by omega)) (by first | exact decide_eq_true (by omega) | exact decide_eq_false (by omega)) (by first | exact decide_eq_true (by omega) | exact decide_eq_false (by omega)) (by first | (rw [sgnQ_eq0]; simp [hz]) | (rw [bne, sgnQ_eq0]; simp [hz])) (by first | (rw [sgnQ_eq0]; simp [hz]) | (rw [bne, sgnQ_eq0]; simp [hz])) (by first | exact decide_eq_true (by omega) | exact decide_eq_false (by omega)) (by first | exact decide_eq_true (by omega) | exact decide_eq_false (by omega)) w ⟨htab, hm⟩

set_option maxHeartbeats 16000000 in
set_option maxRecDepth 100000 in
theorem fpowers_15_w  (a : Rat) (n : Int) (d : Int) (m : Int) (k : Int) (r1 : Rat) (r2 : Rat) (i1 : Int) (HQ : ∀ w, Calls Tryz.prog 99 #[.agg #[.int .i64 n, .int .u32 d]] w fun xe w' => xe = .returned (fracV a) ∧ Below w.heap.size w w') (HS : ∀ i : Nat, i < 20 → ∀ s t : Rat, s = a ^ i → t = a ^ (i + 1) → ∀ w, Calls Tryz.prog 68 #[fracV s, fracV a] w fun xe w' => xe = .returned (fracV t) ∧ Below w.heap.size w w') (H1 : ∀ w, Calls Tryz.prog 98 #[fracV a, .int .i64 m] w fun xe w' => xe = .returned (.tuple #[fracV r2, .int .i64 0]) ∧ Below w.heap.size w w') (H2 : ∀ w, Calls Tryz.prog 75 #[fracV a] w fun xe w' => xe = .returned (.int .i64 i1) ∧ Below w.heap.size w w') (KW : World → Prop) (hKW : Keeps KW) (HW : ∀ w, KW w → Calls Tryz.prog 57 #[] w fun xe w' => xe = .returned (.bool true) ∧ Below w.heap.size w w') (hone : r1 = 1) (hd2 : decide (m < (-4096)) = false) (hd3 : decide ((-4096) ≤ m) = true) (hd4 : decide (4096 < m) = false) (hd5 : decide (m ≤ 4096) = true) (hd6 : decide (m < (-20)) = false) (hd7 : decide ((-20) ≤ m) = true) (hd8 : decide (20 < m) = false) (hd9 : decide (m ≤ 20) = true) (hd10 : (i1 == 0) = false) (hd11 : (i1 != 0) = true) (hd12 : decide (k < (-20)) = false) (hd13 : decide ((-20) ≤ k) = true) (hd14 : decide (20 < k) = true) (hd15 : decide (k ≤ 20) = false) (w : World) (kKW : KW w) :
    Calls Tryz.prog 13 #[.agg #[.int .i64 n, .int .u32 d], .int .i64 m, .int .i64 k] w fun xe w' => xe = .returned (.bool true) ∧ Below w.heap.size w w' := by
  have hL0 : GL w w [] := GL.start w
  replace HQ := Lib.hid HQ
  replace HS := Lib.hid HS
  replace H1 := Lib.hid H1
  replace H2 := Lib.hid H2
  replace hKW := Lib.hid hKW
  replace HW := Lib.hid HW
  replace hone := Lib.hid hone
  replace hL0 := (hL0.new rfl [.int .i64 n, .int .u32 d] 120)
  generalize hweq : (w.alloc (.cells #[.int .i64 n, .int .u32 d] 120)) = x1 at hL0
  go_enter Tryz.func13, Tryz.ntmps13
  have hN0 := cells_of _ 0 [] rfl (hL0.get _ _ List.mem_cons_self)
  simp only [cellsF, and_true, Nat.zero_add, Nat.reduceAdd] at hN0
  go_wp2_with fail
  clear hN0
  with_reducible refine Calls.mono (HQ.out _) ?_
  rintro e x2 ⟨rfl, hb⟩
  replace hL0 := hL0.call hb
  clear hb hweq
  replace hL0 := (hL0.new rfl [.int .u64 ((zl a.num : Nat) : Int), .string (zh a.num), .bool (zs a.num), .int .u64 ((lo (fe a) : Nat) : Int), .string (hs (fe a))] 79)
  generalize hweq : (x2.alloc (.cells #[.int .u64 ((zl a.num : Nat) : Int), .string (zh a.num), .bool (zs a.num), .int .u64 ((lo (fe a) : Nat) : Int), .string (hs (fe a))] 79)) = x3 at hL0
  have hN0 := cells_of _ 0 [] rfl (hL0.get _ _ List.mem_cons_self)
  simp only [cellsF, and_true, Nat.zero_add, Nat.reduceAdd] at hN0
  go_wp2_with fail
  clear hN0
  with_reducible refine Calls.mono (H1.out _) ?_
  rintro e x4 ⟨rfl, hb⟩
  replace hL0 := hL0.call hb
  clear hb hweq
  replace hL0 := (hL0.new rfl [.int .u64 ((zl r2.num : Nat) : Int), .string (zh r2.num), .bool (zs r2.num), .int .u64 ((lo (fe r2) : Nat) : Int), .string (hs (fe r2))] 79)
  generalize hweq : (x4.alloc (.cells #[.int .u64 ((zl r2.num : Nat) : Int), .string (zh r2.num), .bool (zs r2.num), .int .u64 ((lo (fe r2) : Nat) : Int), .string (hs (fe r2))] 79)) = x5 at hL0
  have hN0 := cells_of _ 0 [] rfl (hL0.get _ _ (List.mem_cons_of_mem _ List.mem_cons_self))
  simp only [cellsF, and_true, Nat.zero_add, Nat.reduceAdd] at hN0
  go_wp2_with fail
  clear hN0
  with_reducible refine Calls.mono (H2.out _) ?_
  rintro e x6 ⟨rfl, hb⟩
  replace hL0 := hL0.call hb
  clear hb hweq
  go_wp2_with fail
  with_reducible refine Calls.mono (HW.out _ (hKW.out.at hL0.bl kKW)) ?_
  rintro e x7 ⟨rfl, hb⟩
  replace hL0 := hL0.call hb
  clear hb
  go_wp2_with fail
  exact bodyPost_ret (v := .bool true) (by simp [results, Tryz.results13, go_sem]) rfl ⟨rfl, hL0.bl⟩

theorem fpowers_15 (n d m k : Int) (ln : -9223372036854775808 ≤ n) (hn : n < 9223372036854775808) (ld : 0 ≤ d) (hdd : d < 4294967296) (lm : -9223372036854775808 ≤ m) (hmm : m < 9223372036854775808) (lk : -9223372036854775808 ≤ k) (hkk : k < 9223372036854775808) (p0 : ¬ m < -4096) (p1 : ¬ 4096 < m) (p2 : ¬ m < -20) (p3 : ¬ 20 < m) (p4 : m < 0) (hz : qmade n d.toNat ≠ 0) (p6 : ¬ k < -20) (p7 : 20 < k) (w : World) (htab : Tab w) (hm : MaxL w) :
    Calls Tryz.prog 13 #[.agg #[.int .i64 n, .int .u32 d], .int .i64 m, .int .i64 k] w fun xe w' => xe = .returned (.bool true) ∧ Below w.heap.size w w' := by
  have HQ := fun w => qof_any n d ln hn ld hdd w
  have Sa := qmade_sz n d.toNat ln hn (by omega)
  have NB := (qmade_nb n d.toNat ln hn (by omega))
  generalize qmade n d.toNat = a at *
  have HS : ∀ i : Nat, i < 20 → ∀ s t : Rat, s = a ^ i → t = a ^ (i + 1) → ∀ w, Calls Tryz.prog 68 #[fracV s, fracV a] w fun xe w' => xe = .returned (fracV t) ∧ Below w.heap.size w w' := fun i hi s t hs ht w => by
    have h := mulF (a ^ i) a 21 ((Sa.pow i).mono (by omega)) (Sa.mono (by omega)) (by omega) w
    rw [← Rat.pow_succ, ← hs, ← ht] at h
    exact h
  have Sr2 := Sa.zpow (m := m) (by first | exact .inr (by omega) | exact .inl hz) (by omega)
  have H1 := fun w => powZ a m (by first | exact .inr (by omega) | exact .inl hz) (by omega) 64 (by rcases Nat.eq_zero_or_pos ((m : Int)).natAbs with h | h; exact .inl h; exact .inr ((Nat.le_div_iff_mul_le h).2 (by omega))) NB.1 NB.2 (Sa.mono (by omega)) w
  have H2 := fun w => signF a w
  have HW := fun w (h : Tab w ∧ MaxL w) => fworks_any w h.1 h.2
  exact fpowers_15_w a n d m k ((1 : Int) : Rat) (a ^ m) (sgnQ a) HQ HS H1 H2 _ (Keeps.and Keeps.tab MaxL.keeps) HW rfl (by first | exact decide_eq_true (by omega) | exact decide_eq_false (by omega)) (by first | exact decide_eq_true (by omega) | exact decide_eq_false (by omega)) (by first | exact decide_eq_true (by omega) | exact decide_eq_false (by omega)) (by first | exact decide_eq_true (by omega) | exact decide_eq_false (by omega)) (by first | exact decide_eq_true (by omega) | exact decide_eq_false (by omega)) (by first | exact decide_eq_true (by omega) | exact decide_eq_false (by omega)) (by first | exact decide_eq_true (by omega) | exact decide_eq_false (by omega)) (by first | exact decide_eq_true (by omega) | exact decide_eq_false (by omega)) (by first | (rw [sgnQ_eq0]; simp [hz]) | (rw [bne, sgnQ_eq0]; simp [hz])) (by first | (rw [sgnQ_eq0]; simp [hz]) | (rw [bne, sgnQ_eq0]; simp [hz])) (by first | exact decide_eq_true (by omega) | exact decide_eq_false (by omega)) (by first | exact decide_eq_true (by omega) | exact decide_eq_false (by omega)) (by first | exact decide_eq_true (by omega) | exact decide_eq_false (by omega)) (by first | exact decide_eq_true (by omega) | exact decide_eq_false (by omega)) w ⟨htab, hm⟩

set_option maxHeartbeats 16000000 in
set_option maxRecDepth 100000 in
theorem fpowers_16_w  (a : Rat) (n : Int) (d : Int) (m : Int) (k : Int) (r1 : Rat) (r2 : Rat) (i1 : Int) (r3 : Rat) (t : Int) (r4 : Rat) (mn : Int) (L : Nat) (ps : Rat) (HQ : ∀ w, Calls Tryz.prog 99 #[.agg #[.int .i64 n, .int .u32 d]] w fun xe w' => xe = .returned (fracV a) ∧ Below w.heap.size w w') (HS : ∀ i : Nat, i < 20 → ∀ s t : Rat, s = a ^ i → t = a ^ (i + 1) → ∀ w, Calls Tryz.prog 68 #[fracV s, fracV a] w fun xe w' => xe = .returned (fracV t) ∧ Below w.heap.size w w') (H1 : ∀ w, Calls Tryz.prog 98 #[fracV a, .int .i64 m] w fun xe w' => xe = .returned (.tuple #[fracV r2, .int .i64 0]) ∧ Below w.heap.size w w') (H2 : ∀ w, Calls Tryz.prog 75 #[fracV a] w fun xe w' => xe = .returned (.int .i64 i1) ∧ Below w.heap.size w w') (H3 : ∀ w, Calls Tryz.prog 98 #[fracV a, .int .i64 k] w fun xe w' => xe = .returned (.tuple #[fracV r3, .int .i64 0]) ∧ Below w.heap.size w w') (H4 : ∀ w, Calls Tryz.prog 98 #[fracV a, .int .i64 t] w fun xe w' => xe = .returned (.tuple #[fracV r4, .int .i64 0]) ∧ Below w.heap.size w w') (H5 : ∀ w, Calls Tryz.prog 94 #[.int .i64 1] w fun xe w' => xe = .returned (fracV r1) ∧ Below w.heap.size w w') (H6 : ∀ w, Calls Tryz.prog 61 #[fracV r1, fracV ps] w fun xe w' => xe = .returned (.tuple #[fracV r2, .int .i64 0]) ∧ Below w.heap.size w w') (H7 : ∀ w, Calls Tryz.prog 68 #[fracV r2, fracV r3] w fun xe w' => xe = .returned (fracV r4) ∧ Below w.heap.size w w') (KW : World → Prop) (hKW : Keeps KW) (HW : ∀ w, KW w → Calls Tryz.prog 57 #[] w fun xe w' => xe = .returned (.bool true) ∧ Below w.heap.size w w') (hone : r1 = 1) (hd2 : decide (m < (-4096)) = false) (hd3 : decide ((-4096) ≤ m) = true) (hd4 : decide (4096 < m) = false) (hd5 : decide (m ≤ 4096) = true) (hd6 : decide (m < (-20)) = false) (hd7 : decide ((-20) ≤ m) = true) (hd8 : decide (20 < m) = false) (hd9 : decide (m ≤ 20) = true) (hd10 : (i1 == 0) = false) (hd11 : (i1 != 0) = true) (hd12 : decide (k < (-20)) = false) (hd13 : decide ((-20) ≤ k) = true) (hd14 : decide (20 < k) = false) (hd15 : decide (k ≤ 20) = true) (hdt : IntKind.i64.wrap (m + k) = t) (hdn : IntKind.i64.wrap (-m) = mn) (hmx : max m mn = mn) (hL : mn = (L : Int)) (hL2 : L ≤ 20) (hps : ps = a ^ L) (hd22 : decide (m < 0) = true) (hd23 : decide (0 ≤ m) = false) (w : World) (kKW : KW w) :
    Calls Tryz.prog 13 #[.agg #[.int .i64 n, .int .u32 d], .int .i64 m, .int .i64 k] w fun xe w' => xe = .returned (.bool true) ∧ Below w.heap.size w w' := by
  have hL0 : GL w w [] := GL.start w
  replace HQ := Lib.hid HQ
  replace HS := Lib.hid HS
  replace H1 := Lib.hid H1
  replace H2 := Lib.hid H2
  replace H3 := Lib.hid H3
  replace H4 := Lib.hid H4
  replace H5 := Lib.hid H5
  replace H6 := Lib.hid H6
  replace H7 := Lib.hid H7
  replace hKW := Lib.hid hKW
  replace HW := Lib.hid HW
  replace hone := Lib.hid hone
  replace hL := Lib.hid hL
  replace hL2 := Lib.hid hL2
  replace hps := Lib.hid hps
  replace hL0 := (hL0.new rfl [.int .i64 n, .int .u32 d] 120)
  generalize hweq : (w.alloc (.cells #[.int .i64 n, .int .u32 d] 120)) = x1 at hL0
  go_enter Tryz.func13, Tryz.ntmps13
  have hN0 := cells_of _ 0 [] rfl (hL0.get _ _ List.mem_cons_self)
  simp only [cellsF, and_true, Nat.zero_add, Nat.reduceAdd] at hN0
  go_wp2_with fail
  clear hN0
  with_reducible refine Calls.mono (HQ.out _) ?_
  rintro e x2 ⟨rfl, hb⟩
  replace hL0 := hL0.call hb
  clear hb hweq
  replace hL0 := (hL0.new rfl [.int .u64 ((zl a.num : Nat) : Int), .string (zh a.num), .bool (zs a.num), .int .u64 ((lo (fe a) : Nat) : Int), .string (hs (fe a))] 79)
  generalize hweq : (x2.alloc (.cells #[.int .u64 ((zl a.num : Nat) : Int), .string (zh a.num), .bool (zs a.num), .int .u64 ((lo (fe a) : Nat) : Int), .string (hs (fe a))] 79)) = x3 at hL0
  have hN0 := cells_of _ 0 [] rfl (hL0.get _ _ List.mem_cons_self)
  simp only [cellsF, and_true, Nat.zero_add, Nat.reduceAdd] at hN0
  go_wp2_with fail
  clear hN0
  with_reducible refine Calls.mono (H1.out _) ?_
  rintro e x4 ⟨rfl, hb⟩
  replace hL0 := hL0.call hb
  clear hb hweq
  replace hL0 := (hL0.new rfl [.int .u64 ((zl r2.num : Nat) : Int), .string (zh r2.num), .bool (zs r2.num), .int .u64 ((lo (fe r2) : Nat) : Int), .string (hs (fe r2))] 79)
  generalize hweq : (x4.alloc (.cells #[.int .u64 ((zl r2.num : Nat) : Int), .string (zh r2.num), .bool (zs r2.num), .int .u64 ((lo (fe r2) : Nat) : Int), .string (hs (fe r2))] 79)) = x5 at hL0
  have hN0 := cells_of _ 0 [] rfl (hL0.get _ _ (List.mem_cons_of_mem _ List.mem_cons_self))
  simp only [cellsF, and_true, Nat.zero_add, Nat.reduceAdd] at hN0
  go_wp2_with fail
  clear hN0
  with_reducible refine Calls.mono (H2.out _) ?_
  rintro e x6 ⟨rfl, hb⟩
  replace hL0 := hL0.call hb
  clear hb hweq
  have hN0 := cells_of _ 0 [] rfl (hL0.get _ _ (List.mem_cons_of_mem _ List.mem_cons_self))
  simp only [cellsF, and_true, Nat.zero_add, Nat.reduceAdd] at hN0
  go_wp2_with fail
  clear hN0
  with_reducible refine Calls.mono (H2.out _) ?_
  rintro e x7 ⟨rfl, hb⟩
  replace hL0 := hL0.call hb
  clear hb
  have hN0 := cells_of _ 0 [] rfl (hL0.get _ _ (List.mem_cons_of_mem _ List.mem_cons_self))
  simp only [cellsF, and_true, Nat.zero_add, Nat.reduceAdd] at hN0
  go_wp2_with fail
  clear hN0
  with_reducible refine Calls.mono (H3.out _) ?_
  rintro e x8 ⟨rfl, hb⟩
  replace hL0 := hL0.call hb
  clear hb
  replace hL0 := (hL0.new rfl [.int .u64 ((zl r3.num : Nat) : Int), .string (zh r3.num), .bool (zs r3.num), .int .u64 ((lo (fe r3) : Nat) : Int), .string (hs (fe r3))] 79)
  generalize hweq : (x8.alloc (.cells #[.int .u64 ((zl r3.num : Nat) : Int), .string (zh r3.num), .bool (zs r3.num), .int .u64 ((lo (fe r3) : Nat) : Int), .string (hs (fe r3))] 79)) = x9 at hL0
  have hN0 := cells_of _ 0 [] rfl (hL0.get _ _ (List.mem_cons_of_mem _ (List.mem_cons_of_mem _ List.mem_cons_self)))
  simp only [cellsF, and_true, Nat.zero_add, Nat.reduceAdd] at hN0
  go_wp2_with fail
  clear hN0
  with_reducible refine Calls.mono (H4.out _) ?_
  rintro e x10 ⟨rfl, hb⟩
  replace hL0 := hL0.call hb
  clear hb hweq
  replace hL0 := (hL0.new rfl [.int .u64 ((zl r4.num : Nat) : Int), .string (zh r4.num), .bool (zs r4.num), .int .u64 ((lo (fe r4) : Nat) : Int), .string (hs (fe r4))] 79)
  generalize hweq : (x10.alloc (.cells #[.int .u64 ((zl r4.num : Nat) : Int), .string (zh r4.num), .bool (zs r4.num), .int .u64 ((lo (fe r4) : Nat) : Int), .string (hs (fe r4))] 79)) = x11 at hL0
  go_wp2_with fail
  with_reducible refine Calls.mono (H5.out _) ?_
  rintro e x12 ⟨rfl, hb⟩
  replace hL0 := hL0.call hb
  clear hb hweq
  replace hL0 := (hL0.new rfl [.int .u64 ((zl r1.num : Nat) : Int), .string (zh r1.num), .bool (zs r1.num), .int .u64 ((lo (fe r1) : Nat) : Int), .string (hs (fe r1))] 79)
  generalize hweq : (x12.alloc (.cells #[.int .u64 ((zl r1.num : Nat) : Int), .string (zh r1.num), .bool (zs r1.num), .int .u64 ((lo (fe r1) : Nat) : Int), .string (hs (fe r1))] 79)) = x13 at hL0
  go_wp2_with fail
  clear hweq
  go_loopw [15] (fun z wr => ∃ i : Nat, i ≤ L ∧ z = .int .i64 (i : Int) ∧ ∃ sv : Rat, sv = a ^ i ∧ GL w wr [(x12.heap.size, [.int .u64 ((zl sv.num : Nat) : Int), .string (zh sv.num), .bool (zs sv.num), .int .u64 ((lo (fe sv) : Nat) : Int), .string (hs (fe sv))]), (x10.heap.size, [.int .u64 ((zl r4.num : Nat) : Int), .string (zh r4.num), .bool (zs r4.num), .int .u64 ((lo (fe r4) : Nat) : Int), .string (hs (fe r4))]), (x8.heap.size, [.int .u64 ((zl r3.num : Nat) : Int), .string (zh r3.num), .bool (zs r3.num), .int .u64 ((lo (fe r3) : Nat) : Int), .string (hs (fe r3))]), (x4.heap.size, [.int .u64 ((zl r2.num : Nat) : Int), .string (zh r2.num), .bool (zs r2.num), .int .u64 ((lo (fe r2) : Nat) : Int), .string (hs (fe r2))]), (x2.heap.size, [.int .u64 ((zl a.num : Nat) : Int), .string (zh a.num), .bool (zs a.num), .int .u64 ((lo (fe a) : Nat) : Int), .string (hs (fe a))]), (w.heap.size, [.int .i64 n, .int .u32 d])]) (fun z _ => L - (intOf z).toNat)
  case atStart => exact ⟨0, Nat.zero_le _, rfl, r1, by rw [hone.out, Rat.pow_zero], hL0⟩
  case round =>
    clear hL0
    obtain ⟨i, hi, rfl, sv, hsv, hL0⟩ := hrel
    rcases Nat.lt_or_ge i L with hin | hin
    · skip
      have k1 : decide ((i : Int) < mn) = true := decide_eq_true (by have := hL.out; omega)
      obtain ⟨sw, hsw⟩ : ∃ sw : Rat, sw = a ^ (i + 1) := ⟨_, rfl⟩
      have HM := Lib.hid (HS.out i (by have := hL2.out; omega) sv sw hsv hsw)
      replace hsw := Lib.hid hsw
      replace hsv := Lib.hid hsv
      have hi20 : i < 20 := by have := hL2.out; omega
      have k2 : (i : Int) < mn := by have := hL.out; omega
      have hN0 := cells_of _ 0 [] rfl (hL0.get _ _ List.mem_cons_self)
      simp only [cellsF, and_true, Nat.zero_add, Nat.reduceAdd] at hN0
      have hN1 := cells_of _ 0 [] rfl (hL0.get _ _ (List.mem_cons_of_mem _ (List.mem_cons_of_mem _ (List.mem_cons_of_mem _ (List.mem_cons_of_mem _ List.mem_cons_self)))))
      simp only [cellsF, and_true, Nat.zero_add, Nat.reduceAdd] at hN1
      go_wp2_with fail
      clear hN0 hN1
      with_reducible refine Calls.mono (HM.out _) ?_
      rintro e x14 ⟨rfl, hb⟩
      replace hL0 := hL0.call hb
      clear hb
      have hA := hL0.fc
      simp only [fcG, cellsF, neK, and_true, ne_eq, Nat.zero_add, Nat.reduceAdd] at hA
      have hP := hL0.put 0 (x12.heap.size) _ rfl [.int .u64 ((zl sw.num : Nat) : Int), .string (zh sw.num), .bool (zs sw.num), .int .u64 ((lo (fe sw) : Nat) : Int), .string (hs (fe sw))] rfl
      simp only [setAll, List.set_cons_zero, List.set_cons_succ] at hP
      generalize hput1 : (((((x14.setCell ⟨x12.heap.size, 0, none⟩ (.int .u64 ((zl sw.num : Nat) : Int))).setCell ⟨x12.heap.size, 1, none⟩ (.string (zh sw.num))).setCell ⟨x12.heap.size, 2, none⟩ (.bool (zs sw.num))).setCell ⟨x12.heap.size, 3, none⟩ (.int .u64 ((lo (fe sw) : Nat) : Int))).setCell ⟨x12.heap.size, 4, none⟩ (.string (hs (fe sw)))) = x15 at hP
      have hB1 := hP.fc
      simp only [fcG, cellsF, neK, and_true, ne_eq, Nat.zero_add, Nat.reduceAdd] at hB1
      replace hL0 := hP
      go_wp2_with fail
      go_roundw
      case rel => exact ⟨i + 1, by omega, by first | rfl | go_num, sw, hsw.out, hL0⟩
      case measure => simp [intOf]; omega
    · obtain rfl : i = L := by omega
      have k1 : decide ((i : Int) < mn) = false := decide_eq_false (by have := hL.out; omega)
      have k2 : ¬ (i : Int) < mn := by have := hL.out; omega
      have hsv2 : sv = ps := hsv.trans hps.out.symm
      clear hsv HS hL hL2 hi hin hone
      subst sv
      go_upto_region 21 with fail
      obtain ⟨α, iα, F, hF1, hF2⟩ := cls wr
      have hq0 := cls_box hF1 hL0 _ _ List.mem_cons_self
      simp only [cellsC, and_true, Nat.zero_add, Nat.reduceAdd] at hq0
      refine region_qa 4 (C := fun w' => ∃ x, w' = F x) (by kernel_rfl) (by kernel_rfl) (cls_drew hF2) ?_
      simp only [List.take_succ_cons, List.take_zero, List.drop_succ_cons, List.drop_zero, List.take_nil, List.drop_nil]
      repeat (go_big_quiet_step (first | fail | (go_at_call 94; with_reducible exact cls_call hF1 hF2 H5.out _) | (go_at_call 61; with_reducible exact cls_call hF1 hF2 H6.out _)))
      refine wpQuiet_nil ?_
      rintro wq ⟨xq, rfl⟩
      replace hL0 := hL0.call (hF1 xq)
      clear  hq0 hF2
      generalize F xq = x16 at hL0 ⊢
      clear hF1 xq iα F α
      refine any_pure (i := 4) (m := 2) _ (.agg #[.int .u64 ((zl r2.num : Nat) : Int), .string (zh r2.num), .bool (zs r2.num), .int .u64 ((lo (fe r2) : Nat) : Int), .string (hs (fe r2))]) rfl rfl (by kernel_rfl) (fun _ _ _ h => h) (fun w => by simp [execOp, go_sem]) ?_
      refine any_pure (i := 5) (m := 1) _ (.int .i64 0) rfl rfl (by kernel_rfl) (fun _ _ _ h => h) (fun w => by simp [execOp, go_sem]) ?_
      refine any_seq 6 rfl (by kernel_rfl) ?_
      simp only [List.take_succ_cons, List.take_zero, List.drop_succ_cons, List.drop_zero, List.take_nil, List.drop_nil]
      have hA := hL0.fc
      simp only [fcG, cellsF, neK, and_true, ne_eq, Nat.zero_add, Nat.reduceAdd] at hA
      have hP := hL0.put 0 (x12.heap.size) _ rfl [.int .u64 ((zl r2.num : Nat) : Int), .string (zh r2.num), .bool (zs r2.num), .int .u64 ((lo (fe r2) : Nat) : Int), .string (hs (fe r2))] rfl
      simp only [setAll, List.set_cons_zero, List.set_cons_succ] at hP
      generalize hput2 : (((((x16.setCell ⟨x12.heap.size, 0, none⟩ (.int .u64 ((zl r2.num : Nat) : Int))).setCell ⟨x12.heap.size, 1, none⟩ (.string (zh r2.num))).setCell ⟨x12.heap.size, 2, none⟩ (.bool (zs r2.num))).setCell ⟨x12.heap.size, 3, none⟩ (.int .u64 ((lo (fe r2) : Nat) : Int))).setCell ⟨x12.heap.size, 4, none⟩ (.string (hs (fe r2)))) = x17 at hP
      have hB2 := hP.fc
      simp only [fcG, cellsF, neK, and_true, ne_eq, Nat.zero_add, Nat.reduceAdd] at hB2
      replace hL0 := hP
      go_upto_region 22 with fail
      have kKW1 := hKW.out.at hL0.bl kKW
      clear hA
      clear hput2 hB2
      obtain ⟨α, iα, F, hF1, hF2⟩ := cls x17
      have hq0 := cls_box hF1 hL0 _ _ List.mem_cons_self
      simp only [cellsC, and_true, Nat.zero_add, Nat.reduceAdd] at hq0
      have hq1 := cls_box hF1 hL0 _ _ (List.mem_cons_of_mem _ List.mem_cons_self)
      simp only [cellsC, and_true, Nat.zero_add, Nat.reduceAdd] at hq1
      have hq2 := cls_box hF1 hL0 _ _ (List.mem_cons_of_mem _ (List.mem_cons_of_mem _ List.mem_cons_self))
      simp only [cellsC, and_true, Nat.zero_add, Nat.reduceAdd] at hq2
      have hq3 := cls_box hF1 hL0 _ _ (List.mem_cons_of_mem _ (List.mem_cons_of_mem _ (List.mem_cons_of_mem _ List.mem_cons_self)))
      simp only [cellsC, and_true, Nat.zero_add, Nat.reduceAdd] at hq3
      refine region_qs 18 (C := fun w' => ∃ x, w' = F x) (by kernel_rfl) (by kernel_rfl) (cls_drew hF2) ?_
      simp only [List.take_succ_cons, List.take_zero, List.drop_succ_cons, List.drop_zero, List.take_nil, List.drop_nil]
      repeat (go_big_quiet_step (first | fail | (go_at_call 68; with_reducible exact cls_call hF1 hF2 H7.out _) | (go_at_call 57; with_reducible exact cls_callK hKW.out hF1 hF2 kKW1 HW.out _)))
      refine wpQuiet_nil ?_
      rintro wq ⟨xq, rfl⟩
      replace hL0 := hL0.call (hF1 xq)
      clear  hq0 hq1 hq2 hq3 hF2
      generalize F xq = x18 at hL0 ⊢
      clear hF1 xq iα F α
      clear kKW1
      go_wp2_with fail
      exact bodyPost_ret (v := .bool true) (by simp [results, Tryz.results13, go_sem]) rfl ⟨rfl, hL0.bl⟩

theorem fpowers_16 (n d m k : Int) (ln : -9223372036854775808 ≤ n) (hn : n < 9223372036854775808) (ld : 0 ≤ d) (hdd : d < 4294967296) (lm : -9223372036854775808 ≤ m) (hmm : m < 9223372036854775808) (lk : -9223372036854775808 ≤ k) (hkk : k < 9223372036854775808) (p0 : ¬ m < -4096) (p1 : ¬ 4096 < m) (p2 : ¬ m < -20) (p3 : ¬ 20 < m) (p4 : m < 0) (hz : qmade n d.toNat ≠ 0) (p6 : ¬ k < -20) (p7 : ¬ 20 < k) (p8 : k < 0) (w : World) (htab : Tab w) (hm : MaxL w) :
    Calls Tryz.prog 13 #[.agg #[.int .i64 n, .int .u32 d], .int .i64 m, .int .i64 k] w fun xe w' => xe = .returned (.bool true) ∧ Below w.heap.size w w' := by
  have HQ := fun w => qof_any n d ln hn ld hdd w
  have Sa := qmade_sz n d.toNat ln hn (by omega)
  have NB := (qmade_nb n d.toNat ln hn (by omega))
  generalize qmade n d.toNat = a at *
  have HS : ∀ i : Nat, i < 20 → ∀ s t : Rat, s = a ^ i → t = a ^ (i + 1) → ∀ w, Calls Tryz.prog 68 #[fracV s, fracV a] w fun xe w' => xe = .returned (fracV t) ∧ Below w.heap.size w w' := fun i hi s t hs ht w => by
    have h := mulF (a ^ i) a 21 ((Sa.pow i).mono (by omega)) (Sa.mono (by omega)) (by omega) w
    rw [← Rat.pow_succ, ← hs, ← ht] at h
    exact h
  have Sps : Sz (a ^ m.natAbs) 41 := (Sa.pow _).mono (by omega)
  have HPS : a ^ m.natAbs = a ^ m.natAbs := rfl
  have Sr2 := Sa.zpow (m := m) (by first | exact .inr (by omega) | exact .inl hz) (by omega)
  have H1 := fun w => powZ a m (by first | exact .inr (by omega) | exact .inl hz) (by omega) 64 (by rcases Nat.eq_zero_or_pos ((m : Int)).natAbs with h | h; exact .inl h; exact .inr ((Nat.le_div_iff_mul_le h).2 (by omega))) NB.1 NB.2 (Sa.mono (by omega)) w
  have H2 := fun w => signF a w
  have Sr3 := Sa.zpow (m := k) (by first | exact .inr (by omega) | exact .inl hz) (by omega)
  have H3 := fun w => powZ a k (by first | exact .inr (by omega) | exact .inl hz) (by omega) 64 (by rcases Nat.eq_zero_or_pos ((k : Int)).natAbs with h | h; exact .inl h; exact .inr ((Nat.le_div_iff_mul_le h).2 (by omega))) NB.1 NB.2 (Sa.mono (by omega)) w
  have Sr4 := Sa.zpow (m := (m + k)) (by first | exact .inr (by omega) | exact .inl hz) (by omega)
  have H4 := fun w => powZ a (m + k) (by first | exact .inr (by omega) | exact .inl hz) (by omega) 64 (by rcases Nat.eq_zero_or_pos (((m + k) : Int)).natAbs with h | h; exact .inl h; exact .inr ((Nat.le_div_iff_mul_le h).2 (by omega))) NB.1 NB.2 (Sa.mono (by omega)) w
  have H5 := fun w => intF (1) (by decide) (by decide) w
  have H6 := fun w => divF ((1 : Int) : Rat) (a ^ m.natAbs) 41 ((szc ((1 : Int) : Rat) (by decide +kernel) (by decide +kernel)).mono (by omega)) (Sps.mono (by omega)) (by omega) (rpow_ne hz m.natAbs) w
  rw [show ((1 : Int) : Rat) / (a ^ m.natAbs) = (a ^ m) from inv_zpow a m (by omega)] at H6
  have H7 := fun w => mulF (a ^ m) (a ^ k) 41 (Sr2.mono (by omega)) (Sr3.mono (by omega)) (by omega) w
  rw [zpow_sum a m k (by first | exact .inr ⟨by omega, by omega⟩ | exact .inl hz)] at H7
  have HW := fun w (h : Tab w ∧ MaxL w) => fworks_any w h.1 h.2
  exact fpowers_16_w a n d m k ((1 : Int) : Rat) (a ^ m) (sgnQ a) (a ^ k) (m + k) (a ^ (m + k)) (-m) m.natAbs (a ^ m.natAbs) HQ HS H1 H2 H3 H4 H5 H6 H7 _ (Keeps.and Keeps.tab MaxL.keeps) HW rfl (by first | exact decide_eq_true (by omega) | exact decide_eq_false (by omega)) (by first | exact decide_eq_true (by omega) | exact decide_eq_false (by omega)) (by first | exact decide_eq_true (by omega) | exact decide_eq_false (by omega)) (by first | exact decide_eq_true (by omega) | exact decide_eq_false (by omega)) (by first | exact decide_eq_true (by omega) | exact decide_eq_false (by omega)) (by first | exact decide_eq_true (by omega) | exact decide_eq_false (by omega)) (by first | exact decide_eq_true (by omega) | exact decide_eq_false (by omega)) (by first | exact decide_eq_true (by omega) | exact decide_eq_false (by omega)) (by first | (rw [sgnQ_eq0]; simp [hz]) | (rw [bne, sgnQ_eq0]; simp [hz])) (by first | (rw [sgnQ_eq0]; simp [hz]) | (rw [bne, sgnQ_eq0]; simp [hz])) (by first | exact decide_eq_true (by omega) | exact decide_eq_false (by omega)) (by first | exact decide_eq_true (by omega) | exact decide_eq_false (by omega)) (by first | exact decide_eq_true (by omega) | exact decide_eq_false (by omega)) (by first | exact decide_eq_true (by omega) | exact decide_eq_false (by omega)) (IntWalk.i64_in _ (by omega)) (IntWalk.i64_in _ (by omega)) (by omega) (by omega) (by omega) HPS (by first | exact decide_eq_true (by omega) | exact decide_eq_false (by omega)) (by first | exact decide_eq_true (by omega) | exact decide_eq_false (by omega)) w ⟨htab, hm⟩

set_option maxHeartbeats 16000000 in
set_option maxRecDepth 100000 in
theorem fpowers_17_w  (a : Rat) (n : Int) (d : Int) (m : Int) (k : Int) (r1 : Rat) (r2 : Rat) (i1 : Int) (r3 : Rat) (t : Int) (r4 : Rat) (mn : Int) (L : Nat) (ps : Rat) (HQ : ∀ w, Calls Tryz.prog 99 #[.agg #[.int .i64 n, .int .u32 d]] w fun xe w' => xe = .returned (fracV a) ∧ Below w.heap.size w w') (HS : ∀ i : Nat, i < 20 → ∀ s t : Rat, s = a ^ i → t = a ^ (i + 1) → ∀ w, Calls Tryz.prog 68 #[fracV s, fracV a] w fun xe w' => xe = .returned (fracV t) ∧ Below w.heap.size w w') (H1 : ∀ w, Calls Tryz.prog 98 #[fracV a, .int .i64 m] w fun xe w' => xe = .returned (.tuple #[fracV r2, .int .i64 0]) ∧ Below w.heap.size w w') (H2 : ∀ w, Calls Tryz.prog 75 #[fracV a] w fun xe w' => xe = .returned (.int .i64 i1) ∧ Below w.heap.size w w') (H3 : ∀ w, Calls Tryz.prog 98 #[fracV a, .int .i64 k] w fun xe w' => xe = .returned (.tuple #[fracV r3, .int .i64 0]) ∧ Below w.heap.size w w') (H4 : ∀ w, Calls Tryz.prog 98 #[fracV a, .int .i64 t] w fun xe w' => xe = .returned (.tuple #[fracV r4, .int .i64 0]) ∧ Below w.heap.size w w') (H5 : ∀ w, Calls Tryz.prog 94 #[.int .i64 1] w fun xe w' => xe = .returned (fracV r1) ∧ Below w.heap.size w w') (H6 : ∀ w, Calls Tryz.prog 61 #[fracV r1, fracV ps] w fun xe w' => xe = .returned (.tuple #[fracV r2, .int .i64 0]) ∧ Below w.heap.size w w') (H7 : ∀ w, Calls Tryz.prog 68 #[fracV r2, fracV r3] w fun xe w' => xe = .returned (fracV r4) ∧ Below w.heap.size w w') (KW : World → Prop) (hKW : Keeps KW) (HW : ∀ w, KW w → Calls Tryz.prog 57 #[] w fun xe w' => xe = .returned (.bool true) ∧ Below w.heap.size w w') (hone : r1 = 1) (hd2 : decide (m < (-4096)) = false) (hd3 : decide ((-4096) ≤ m) = true) (hd4 : decide (4096 < m) = false) (hd5 : decide (m ≤ 4096) = true) (hd6 : decide (m < (-20)) = false) (hd7 : decide ((-20) ≤ m) = true) (hd8 : decide (20 < m) = false) (hd9 : decide (m ≤ 20) = true) (hd10 : (i1 == 0) = false) (hd11 : (i1 != 0) = true) (hd12 : decide (k < (-20)) = false) (hd13 : decide ((-20) ≤ k) = true) (hd14 : decide (20 < k) = false) (hd15 : decide (k ≤ 20) = true) (hdt : IntKind.i64.wrap (m + k) = t) (hdn : IntKind.i64.wrap (-m) = mn) (hmx : max m mn = mn) (hL : mn = (L : Int)) (hL2 : L ≤ 20) (hps : ps = a ^ L) (hd22 : decide (m < 0) = true) (hd23 : decide (0 ≤ m) = false) (w : World) (kKW : KW w) :
    Calls Tryz.prog 13 #[.agg #[.int .i64 n, .int .u32 d], .int .i64 m, .int .i64 k] w fun xe w' => xe = .returned (.bool true) ∧ Below w.heap.size w w' := by
  have hL0 : GL w w [] := GL.start w
  replace HQ := Lib.hid HQ
  replace HS := Lib.hid HS
  replace H1 := Lib.hid H1
  replace H2 := Lib.hid H2
  replace H3 := Lib.hid H3
  replace H4 := Lib.hid H4
  replace H5 := Lib.hid H5
  replace H6 := Lib.hid H6
  replace H7 := Lib.hid H7
  replace hKW := Lib.hid hKW
  replace HW := Lib.hid HW
  replace hone := Lib.hid hone
  replace hL := Lib.hid hL
  replace hL2 := Lib.hid hL2
  replace hps := Lib.hid hps
  replace hL0 := (hL0.new rfl [.int .i64 n, .int .u32 d] 120)
  generalize hweq : (w.alloc (.cells #[.int .i64 n, .int .u32 d] 120)) = x1 at hL0
  go_enter Tryz.func13, Tryz.ntmps13
  have hN0 := cells_of _ 0 [] rfl (hL0.get _ _ List.mem_cons_self)
  simp only [cellsF, and_true, Nat.zero_add, Nat.reduceAdd] at hN0
  go_wp2_with fail
  clear hN0
  with_reducible refine Calls.mono (HQ.out _) ?_
  rintro e x2 ⟨rfl, hb⟩
  replace hL0 := hL0.call hb
  clear hb hweq
  replace hL0 := (hL0.new rfl [.int .u64 ((zl a.num : Nat) : Int), .string (zh a.num), .bool (zs a.num), .int .u64 ((lo (fe a) : Nat) : Int), .string (hs (fe a))] 79)
  generalize hweq : (x2.alloc (.cells #[.int .u64 ((zl a.num : Nat) : Int), .string (zh a.num), .bool (zs a.num), .int .u64 ((lo (fe a) : Nat) : Int), .string (hs (fe a))] 79)) = x3 at hL0
  have hN0 := cells_of _ 0 [] rfl (hL0.get _ _ List.mem_cons_self)
  simp only [cellsF, and_true, Nat.zero_add, Nat.reduceAdd] at hN0
  go_wp2_with fail
  clear hN0
  with_reducible refine Calls.mono (H1.out _) ?_
  rintro e x4 ⟨rfl, hb⟩
  replace hL0 := hL0.call hb
  clear hb hweq
  replace hL0 := (hL0.new rfl [.int .u64 ((zl r2.num : Nat) : Int), .string (zh r2.num), .bool (zs r2.num), .int .u64 ((lo (fe r2) : Nat) : Int), .string (hs (fe r2))] 79)
  generalize hweq : (x4.alloc (.cells #[.int .u64 ((zl r2.num : Nat) : Int), .string (zh r2.num), .bool (zs r2.num), .int .u64 ((lo (fe r2) : Nat) : Int), .string (hs (fe r2))] 79)) = x5 at hL0
  have hN0 := cells_of _ 0 [] rfl (hL0.get _ _ (List.mem_cons_of_mem _ List.mem_cons_self))
  simp only [cellsF, and_true, Nat.zero_add, Nat.reduceAdd] at hN0
  go_wp2_with fail
  clear hN0
  with_reducible refine Calls.mono (H2.out _) ?_
  rintro e x6 ⟨rfl, hb⟩
  replace hL0 := hL0.call hb
  clear hb hweq
  have hN0 := cells_of _ 0 [] rfl (hL0.get _ _ (List.mem_cons_of_mem _ List.mem_cons_self))
  simp only [cellsF, and_true, Nat.zero_add, Nat.reduceAdd] at hN0
  go_wp2_with fail
  clear hN0
  with_reducible refine Calls.mono (H2.out _) ?_
  rintro e x7 ⟨rfl, hb⟩
  replace hL0 := hL0.call hb
  clear hb
  have hN0 := cells_of _ 0 [] rfl (hL0.get _ _ (List.mem_cons_of_mem _ List.mem_cons_self))
  simp only [cellsF, and_true, Nat.zero_add, Nat.reduceAdd] at hN0
  go_wp2_with fail
  clear hN0
  with_reducible refine Calls.mono (H3.out _) ?_
  rintro e x8 ⟨rfl, hb⟩
  replace hL0 := hL0.call hb
  clear hb
  replace hL0 := (hL0.new rfl [.int .u64 ((zl r3.num : Nat) : Int), .string (zh r3.num), .bool (zs r3.num), .int .u64 ((lo (fe r3) : Nat) : Int), .string (hs (fe r3))] 79)
  generalize hweq : (x8.alloc (.cells #[.int .u64 ((zl r3.num : Nat) : Int), .string (zh r3.num), .bool (zs r3.num), .int .u64 ((lo (fe r3) : Nat) : Int), .string (hs (fe r3))] 79)) = x9 at hL0
  have hN0 := cells_of _ 0 [] rfl (hL0.get _ _ (List.mem_cons_of_mem _ (List.mem_cons_of_mem _ List.mem_cons_self)))
  simp only [cellsF, and_true, Nat.zero_add, Nat.reduceAdd] at hN0
  go_wp2_with fail
  clear hN0
  with_reducible refine Calls.mono (H4.out _) ?_
  rintro e x10 ⟨rfl, hb⟩
  replace hL0 := hL0.call hb
  clear hb hweq
  replace hL0 := (hL0.new rfl [.int .u64 ((zl r4.num : Nat) : Int), .string (zh r4.num), .bool (zs r4.num), .int .u64 ((lo (fe r4) : Nat) : Int), .string (hs (fe r4))] 79)
  generalize hweq : (x10.alloc (.cells #[.int .u64 ((zl r4.num : Nat) : Int), .string (zh r4.num), .bool (zs r4.num), .int .u64 ((lo (fe r4) : Nat) : Int), .string (hs (fe r4))] 79)) = x11 at hL0
  go_wp2_with fail
  with_reducible refine Calls.mono (H5.out _) ?_
  rintro e x12 ⟨rfl, hb⟩
  replace hL0 := hL0.call hb
  clear hb hweq
  replace hL0 := (hL0.new rfl [.int .u64 ((zl r1.num : Nat) : Int), .string (zh r1.num), .bool (zs r1.num), .int .u64 ((lo (fe r1) : Nat) : Int), .string (hs (fe r1))] 79)
  generalize hweq : (x12.alloc (.cells #[.int .u64 ((zl r1.num : Nat) : Int), .string (zh r1.num), .bool (zs r1.num), .int .u64 ((lo (fe r1) : Nat) : Int), .string (hs (fe r1))] 79)) = x13 at hL0
  go_wp2_with fail
  clear hweq
  go_loopw [15] (fun z wr => ∃ i : Nat, i ≤ L ∧ z = .int .i64 (i : Int) ∧ ∃ sv : Rat, sv = a ^ i ∧ GL w wr [(x12.heap.size, [.int .u64 ((zl sv.num : Nat) : Int), .string (zh sv.num), .bool (zs sv.num), .int .u64 ((lo (fe sv) : Nat) : Int), .string (hs (fe sv))]), (x10.heap.size, [.int .u64 ((zl r4.num : Nat) : Int), .string (zh r4.num), .bool (zs r4.num), .int .u64 ((lo (fe r4) : Nat) : Int), .string (hs (fe r4))]), (x8.heap.size, [.int .u64 ((zl r3.num : Nat) : Int), .string (zh r3.num), .bool (zs r3.num), .int .u64 ((lo (fe r3) : Nat) : Int), .string (hs (fe r3))]), (x4.heap.size, [.int .u64 ((zl r2.num : Nat) : Int), .string (zh r2.num), .bool (zs r2.num), .int .u64 ((lo (fe r2) : Nat) : Int), .string (hs (fe r2))]), (x2.heap.size, [.int .u64 ((zl a.num : Nat) : Int), .string (zh a.num), .bool (zs a.num), .int .u64 ((lo (fe a) : Nat) : Int), .string (hs (fe a))]), (w.heap.size, [.int .i64 n, .int .u32 d])]) (fun z _ => L - (intOf z).toNat)
  case atStart => exact ⟨0, Nat.zero_le _, rfl, r1, by rw [hone.out, Rat.pow_zero], hL0⟩
  case round =>
    clear hL0
    obtain ⟨i, hi, rfl, sv, hsv, hL0⟩ := hrel
    rcases Nat.lt_or_ge i L with hin | hin
    · skip
      have k1 : decide ((i : Int) < mn) = true := decide_eq_true (by have := hL.out; omega)
      obtain ⟨sw, hsw⟩ : ∃ sw : Rat, sw = a ^ (i + 1) := ⟨_, rfl⟩
      have HM := Lib.hid (HS.out i (by have := hL2.out; omega) sv sw hsv hsw)
      replace hsw := Lib.hid hsw
      replace hsv := Lib.hid hsv
      have hi20 : i < 20 := by have := hL2.out; omega
      have k2 : (i : Int) < mn := by have := hL.out; omega
      have hN0 := cells_of _ 0 [] rfl (hL0.get _ _ List.mem_cons_self)
      simp only [cellsF, and_true, Nat.zero_add, Nat.reduceAdd] at hN0
      have hN1 := cells_of _ 0 [] rfl (hL0.get _ _ (List.mem_cons_of_mem _ (List.mem_cons_of_mem _ (List.mem_cons_of_mem _ (List.mem_cons_of_mem _ List.mem_cons_self)))))
      simp only [cellsF, and_true, Nat.zero_add, Nat.reduceAdd] at hN1
      go_wp2_with fail
      clear hN0 hN1
      with_reducible refine Calls.mono (HM.out _) ?_
      rintro e x14 ⟨rfl, hb⟩
      replace hL0 := hL0.call hb
      clear hb
      have hA := hL0.fc
      simp only [fcG, cellsF, neK, and_true, ne_eq, Nat.zero_add, Nat.reduceAdd] at hA
      have hP := hL0.put 0 (x12.heap.size) _ rfl [.int .u64 ((zl sw.num : Nat) : Int), .string (zh sw.num), .bool (zs sw.num), .int .u64 ((lo (fe sw) : Nat) : Int), .string (hs (fe sw))] rfl
      simp only [setAll, List.set_cons_zero, List.set_cons_succ] at hP
      generalize hput1 : (((((x14.setCell ⟨x12.heap.size, 0, none⟩ (.int .u64 ((zl sw.num : Nat) : Int))).setCell ⟨x12.heap.size, 1, none⟩ (.string (zh sw.num))).setCell ⟨x12.heap.size, 2, none⟩ (.bool (zs sw.num))).setCell ⟨x12.heap.size, 3, none⟩ (.int .u64 ((lo (fe sw) : Nat) : Int))).setCell ⟨x12.heap.size, 4, none⟩ (.string (hs (fe sw)))) = x15 at hP
      have hB1 := hP.fc
      simp only [fcG, cellsF, neK, and_true, ne_eq, Nat.zero_add, Nat.reduceAdd] at hB1
      replace hL0 := hP
      go_wp2_with fail
      go_roundw
      case rel => exact ⟨i + 1, by omega, by first | rfl | go_num, sw, hsw.out, hL0⟩
      case measure => simp [intOf]; omega
    · obtain rfl : i = L := by omega
      have k1 : decide ((i : Int) < mn) = false := decide_eq_false (by have := hL.out; omega)
      have k2 : ¬ (i : Int) < mn := by have := hL.out; omega
      have hsv2 : sv = ps := hsv.trans hps.out.symm
      clear hsv HS hL hL2 hi hin hone
      subst sv
      go_upto_region 21 with fail
      obtain ⟨α, iα, F, hF1, hF2⟩ := cls wr
      have hq0 := cls_box hF1 hL0 _ _ List.mem_cons_self
      simp only [cellsC, and_true, Nat.zero_add, Nat.reduceAdd] at hq0
      refine region_qa 4 (C := fun w' => ∃ x, w' = F x) (by kernel_rfl) (by kernel_rfl) (cls_drew hF2) ?_
      simp only [List.take_succ_cons, List.take_zero, List.drop_succ_cons, List.drop_zero, List.take_nil, List.drop_nil]
      repeat (go_big_quiet_step (first | fail | (go_at_call 94; with_reducible exact cls_call hF1 hF2 H5.out _) | (go_at_call 61; with_reducible exact cls_call hF1 hF2 H6.out _)))
      refine wpQuiet_nil ?_
      rintro wq ⟨xq, rfl⟩
      replace hL0 := hL0.call (hF1 xq)
      clear  hq0 hF2
      generalize F xq = x16 at hL0 ⊢
      clear hF1 xq iα F α
      refine any_pure (i := 4) (m := 2) _ (.agg #[.int .u64 ((zl r2.num : Nat) : Int), .string (zh r2.num), .bool (zs r2.num), .int .u64 ((lo (fe r2) : Nat) : Int), .string (hs (fe r2))]) rfl rfl (by kernel_rfl) (fun _ _ _ h => h) (fun w => by simp [execOp, go_sem]) ?_
      refine any_pure (i := 5) (m := 1) _ (.int .i64 0) rfl rfl (by kernel_rfl) (fun _ _ _ h => h) (fun w => by simp [execOp, go_sem]) ?_
      refine any_seq 6 rfl (by kernel_rfl) ?_
      simp only [List.take_succ_cons, List.take_zero, List.drop_succ_cons, List.drop_zero, List.take_nil, List.drop_nil]
      have hA := hL0.fc
      simp only [fcG, cellsF, neK, and_true, ne_eq, Nat.zero_add, Nat.reduceAdd] at hA
      have hP := hL0.put 0 (x12.heap.size) _ rfl [.int .u64 ((zl r2.num : Nat) : Int), .string (zh r2.num), .bool (zs r2.num), .int .u64 ((lo (fe r2) : Nat) : Int), .string (hs (fe r2))] rfl
      simp only [setAll, List.set_cons_zero, List.set_cons_succ] at hP
      generalize hput2 : (((((x16.setCell ⟨x12.heap.size, 0, none⟩ (.int .u64 ((zl r2.num : Nat) : Int))).setCell ⟨x12.heap.size, 1, none⟩ (.string (zh r2.num))).setCell ⟨x12.heap.size, 2, none⟩ (.bool (zs r2.num))).setCell ⟨x12.heap.size, 3, none⟩ (.int .u64 ((lo (fe r2) : Nat) : Int))).setCell ⟨x12.heap.size, 4, none⟩ (.string (hs (fe r2)))) = x17 at hP
      have hB2 := hP.fc
      simp only [fcG, cellsF, neK, and_true, ne_eq, Nat.zero_add, Nat.reduceAdd] at hB2
      replace hL0 := hP
      go_upto_region 22 with fail
      have kKW1 := hKW.out.at hL0.bl kKW
      clear hA
      clear hput2 hB2
      obtain ⟨α, iα, F, hF1, hF2⟩ := cls x17
      have hq0 := cls_box hF1 hL0 _ _ List.mem_cons_self
      simp only [cellsC, and_true, Nat.zero_add, Nat.reduceAdd] at hq0
      have hq1 := cls_box hF1 hL0 _ _ (List.mem_cons_of_mem _ List.mem_cons_self)
      simp only [cellsC, and_true, Nat.zero_add, Nat.reduceAdd] at hq1
      have hq2 := cls_box hF1 hL0 _ _ (List.mem_cons_of_mem _ (List.mem_cons_of_mem _ List.mem_cons_self))
      simp only [cellsC, and_true, Nat.zero_add, Nat.reduceAdd] at hq2
      have hq3 := cls_box hF1 hL0 _ _ (List.mem_cons_of_mem _ (List.mem_cons_of_mem _ (List.mem_cons_of_mem _ List.mem_cons_self)))
      simp only [cellsC, and_true, Nat.zero_add, Nat.reduceAdd] at hq3
      refine region_qs 18 (C := fun w' => ∃ x, w' = F x) (by kernel_rfl) (by kernel_rfl) (cls_drew hF2) ?_
      simp only [List.take_succ_cons, List.take_zero, List.drop_succ_cons, List.drop_zero, List.take_nil, List.drop_nil]
      repeat (go_big_quiet_step (first | fail | (go_at_call 68; with_reducible exact cls_call hF1 hF2 H7.out _) | (go_at_call 57; with_reducible exact cls_callK hKW.out hF1 hF2 kKW1 HW.out _)))
      refine wpQuiet_nil ?_
      rintro wq ⟨xq, rfl⟩
      replace hL0 := hL0.call (hF1 xq)
      clear  hq0 hq1 hq2 hq3 hF2
      generalize F xq = x18 at hL0 ⊢
      clear hF1 xq iα F α
      clear kKW1
      go_wp2_with fail
      exact bodyPost_ret (v := .bool true) (by simp [results, Tryz.results13, go_sem]) rfl ⟨rfl, hL0.bl⟩

theorem fpowers_17 (n d m k : Int) (ln : -9223372036854775808 ≤ n) (hn : n < 9223372036854775808) (ld : 0 ≤ d) (hdd : d < 4294967296) (lm : -9223372036854775808 ≤ m) (hmm : m < 9223372036854775808) (lk : -9223372036854775808 ≤ k) (hkk : k < 9223372036854775808) (p0 : ¬ m < -4096) (p1 : ¬ 4096 < m) (p2 : ¬ m < -20) (p3 : ¬ 20 < m) (p4 : m < 0) (hz : qmade n d.toNat ≠ 0) (p6 : ¬ k < -20) (p7 : ¬ 20 < k) (p8 : ¬ k < 0) (p9 : m + k < 0) (w : World) (htab : Tab w) (hm : MaxL w) :
    Calls Tryz.prog 13 #[.agg #[.int .i64 n, .int .u32 d], .int .i64 m, .int .i64 k] w fun xe w' => xe = .returned (.bool true) ∧ Below w.heap.size w w' := by
  have HQ := fun w => qof_any n d ln hn ld hdd w
  have Sa := qmade_sz n d.toNat ln hn (by omega)
  have NB := (qmade_nb n d.toNat ln hn (by omega))
  generalize qmade n d.toNat = a at *
  have HS : ∀ i : Nat, i < 20 → ∀ s t : Rat, s = a ^ i → t = a ^ (i + 1) → ∀ w, Calls Tryz.prog 68 #[fracV s, fracV a] w fun xe w' => xe = .returned (fracV t) ∧ Below w.heap.size w w' := fun i hi s t hs ht w => by
    have h := mulF (a ^ i) a 21 ((Sa.pow i).mono (by omega)) (Sa.mono (by omega)) (by omega) w
    rw [← Rat.pow_succ, ← hs, ← ht] at h
    exact h
  have Sps : Sz (a ^ m.natAbs) 41 := (Sa.pow _).mono (by omega)
  have HPS : a ^ m.natAbs = a ^ m.natAbs := rfl
  have Sr2 := Sa.zpow (m := m) (by first | exact .inr (by omega) | exact .inl hz) (by omega)
  have H1 := fun w => powZ a m (by first | exact .inr (by omega) | exact .inl hz) (by omega) 64 (by rcases Nat.eq_zero_or_pos ((m : Int)).natAbs with h | h; exact .inl h; exact .inr ((Nat.le_div_iff_mul_le h).2 (by omega))) NB.1 NB.2 (Sa.mono (by omega)) w
  have H2 := fun w => signF a w
  have Sr3 := Sa.zpow (m := k) (by first | exact .inr (by omega) | exact .inl hz) (by omega)
  have H3 := fun w => powZ a k (by first | exact .inr (by omega) | exact .inl hz) (by omega) 64 (by rcases Nat.eq_zero_or_pos ((k : Int)).natAbs with h | h; exact .inl h; exact .inr ((Nat.le_div_iff_mul_le h).2 (by omega))) NB.1 NB.2 (Sa.mono (by omega)) w
  have Sr4 := Sa.zpow (m := (m + k)) (by first | exact .inr (by omega) | exact .inl hz) (by omega)
  have H4 := fun w => powZ a (m + k) (by first | exact .inr (by omega) | exact .inl hz) (by omega) 64 (by rcases Nat.eq_zero_or_pos (((m + k) : Int)).natAbs with h | h; exact .inl h; exact .inr ((Nat.le_div_iff_mul_le h).2 (by omega))) NB.1 NB.2 (Sa.mono (by omega)) w
  have H5 := fun w => intF (1) (by decide) (by decide) w
  have H6 := fun w => divF ((1 : Int) : Rat) (a ^ m.natAbs) 41 ((szc ((1 : Int) : Rat) (by decide +kernel) (by decide +kernel)).mono (by omega)) (Sps.mono (by omega)) (by omega) (rpow_ne hz m.natAbs) w
  rw [show ((1 : Int) : Rat) / (a ^ m.natAbs) = (a ^ m) from inv_zpow a m (by omega)] at H6
  have H7 := fun w => mulF (a ^ m) (a ^ k) 41 (Sr2.mono (by omega)) (Sr3.mono (by omega)) (by omega) w
  rw [zpow_sum a m k (by first | exact .inr ⟨by omega, by omega⟩ | exact .inl hz)] at H7
  have HW := fun w (h : Tab w ∧ MaxL w) => fworks_any w h.1 h.2
  exact fpowers_17_w a n d m k ((1 : Int) : Rat) (a ^ m) (sgnQ a) (a ^ k) (m + k) (a ^ (m + k)) (-m) m.natAbs (a ^ m.natAbs) HQ HS H1 H2 H3 H4 H5 H6 H7 _ (Keeps.and Keeps.tab MaxL.keeps) HW rfl (by first | exact decide_eq_true (by omega) | exact decide_eq_false (by omega)) (by first | exact decide_eq_true (by omega) | exact decide_eq_false (by omega)) (by first | exact decide_eq_true (by omega) | exact decide_eq_false (by omega)) (by first | exact decide_eq_true (by omega) | exact decide_eq_false (by omega)) (by first | exact decide_eq_true (by omega) | exact decide_eq_false (by omega)) (by first | exact decide_eq_true (by omega) | exact decide_eq_false (by omega)) (by first | exact decide_eq_true (by omega) | exact decide_eq_false (by omega)) (by first | exact decide_eq_true (by omega) | exact decide_eq_false (by omega)) (by first | (rw [sgnQ_eq0]; simp [hz]) | (rw [bne, sgnQ_eq0]; simp [hz])) (by first | (rw [sgnQ_eq0]; simp [hz]) | (rw [bne, sgnQ_eq0]; simp [hz])) (by first | exact decide_eq_true (by omega) | exact decide_eq_false (by omega)) (by first | exact decide_eq_true (by omega) | exact decide_eq_false (by omega)) (by first | exact decide_eq_true (by omega) | exact decide_eq_false (by omega)) (by first | exact decide_eq_true (by omega) | exact decide_eq_false (by omega)) (IntWalk.i64_in _ (by omega)) (IntWalk.i64_in _ (by omega)) (by omega) (by omega) (by omega) HPS (by first | exact decide_eq_true (by omega) | exact decide_eq_false (by omega)) (by first | exact decide_eq_true (by omega) | exact decide_eq_false (by omega)) w ⟨htab, hm⟩

set_option maxHeartbeats 16000000 in
set_option maxRecDepth 100000 in
theorem fpowers_18_w  (a : Rat) (n : Int) (d : Int) (m : Int) (k : Int) (r1 : Rat) (r2 : Rat) (i1 : Int) (r3 : Rat) (t : Int) (r4 : Rat) (mn : Int) (L : Nat) (ps : Rat) (HQ : ∀ w, Calls Tryz.prog 99 #[.agg #[.int .i64 n, .int .u32 d]] w fun xe w' => xe = .returned (fracV a) ∧ Below w.heap.size w w') (HS : ∀ i : Nat, i < 20 → ∀ s t : Rat, s = a ^ i → t = a ^ (i + 1) → ∀ w, Calls Tryz.prog 68 #[fracV s, fracV a] w fun xe w' => xe = .returned (fracV t) ∧ Below w.heap.size w w') (H1 : ∀ w, Calls Tryz.prog 98 #[fracV a, .int .i64 m] w fun xe w' => xe = .returned (.tuple #[fracV r2, .int .i64 0]) ∧ Below w.heap.size w w') (H2 : ∀ w, Calls Tryz.prog 75 #[fracV a] w fun xe w' => xe = .returned (.int .i64 i1) ∧ Below w.heap.size w w') (H3 : ∀ w, Calls Tryz.prog 98 #[fracV a, .int .i64 k] w fun xe w' => xe = .returned (.tuple #[fracV r3, .int .i64 0]) ∧ Below w.heap.size w w') (H4 : ∀ w, Calls Tryz.prog 98 #[fracV a, .int .i64 t] w fun xe w' => xe = .returned (.tuple #[fracV r4, .int .i64 0]) ∧ Below w.heap.size w w') (H5 : ∀ w, Calls Tryz.prog 94 #[.int .i64 1] w fun xe w' => xe = .returned (fracV r1) ∧ Below w.heap.size w w') (H6 : ∀ w, Calls Tryz.prog 61 #[fracV r1, fracV ps] w fun xe w' => xe = .returned (.tuple #[fracV r2, .int .i64 0]) ∧ Below w.heap.size w w') (H7 : ∀ w, Calls Tryz.prog 68 #[fracV r2, fracV r3] w fun xe w' => xe = .returned (fracV r4) ∧ Below w.heap.size w w') (KW : World → Prop) (hKW : Keeps KW) (HW : ∀ w, KW w → Calls Tryz.prog 57 #[] w fun xe w' => xe = .returned (.bool true) ∧ Below w.heap.size w w') (hone : r1 = 1) (hd2 : decide (m < (-4096)) = false) (hd3 : decide ((-4096) ≤ m) = true) (hd4 : decide (4096 < m) = false) (hd5 : decide (m ≤ 4096) = true) (hd6 : decide (m < (-20)) = false) (hd7 : decide ((-20) ≤ m) = true) (hd8 : decide (20 < m) = false) (hd9 : decide (m ≤ 20) = true) (hd10 : (i1 == 0) = false) (hd11 : (i1 != 0) = true) (hd12 : decide (k < (-20)) = false) (hd13 : decide ((-20) ≤ k) = true) (hd14 : decide (20 < k) = false) (hd15 : decide (k ≤ 20) = true) (hdt : IntKind.i64.wrap (m + k) = t) (hdn : IntKind.i64.wrap (-m) = mn) (hmx : max m mn = mn) (hL : mn = (L : Int)) (hL2 : L ≤ 20) (hps : ps = a ^ L) (hd22 : decide (m < 0) = true) (hd23 : decide (0 ≤ m) = false) (w : World) (kKW : KW w) :
    Calls Tryz.prog 13 #[.agg #[.int .i64 n, .int .u32 d], .int .i64 m, .int .i64 k] w fun xe w' => xe = .returned (.bool true) ∧ Below w.heap.size w w' := by
  have hL0 : GL w w [] := GL.start w
  replace HQ := Lib.hid HQ
  replace HS := Lib.hid HS
  replace H1 := Lib.hid H1
  replace H2 := Lib.hid H2
  replace H3 := Lib.hid H3
  replace H4 := Lib.hid H4
  replace H5 := Lib.hid H5
  replace H6 := Lib.hid H6
  replace H7 := Lib.hid H7
  replace hKW := Lib.hid hKW
  replace HW := Lib.hid HW
  replace hone := Lib.hid hone
  replace hL := Lib.hid hL
  replace hL2 := Lib.hid hL2
  replace hps := Lib.hid hps
  replace hL0 := (hL0.new rfl [.int .i64 n, .int .u32 d] 120)
  generalize hweq : (w.alloc (.cells #[.int .i64 n, .int .u32 d] 120)) = x1 at hL0
  go_enter Tryz.func13, Tryz.ntmps13
  have hN0 := cells_of _ 0 [] rfl (hL0.get _ _ List.mem_cons_self)
  simp only [cellsF, and_true, Nat.zero_add, Nat.reduceAdd] at hN0
  go_wp2_with fail
  clear hN0
  with_reducible refine Calls.mono (HQ.out _) ?_
  rintro e x2 ⟨rfl, hb⟩
  replace hL0 := hL0.call hb
  clear hb hweq
  replace hL0 := (hL0.new rfl [.int .u64 ((zl a.num : Nat) : Int), .string (zh a.num), .bool (zs a.num), .int .u64 ((lo (fe a) : Nat) : Int), .string (hs (fe a))] 79)
  generalize hweq : (x2.alloc (.cells #[.int .u64 ((zl a.num : Nat) : Int), .string (zh a.num), .bool (zs a.num), .int .u64 ((lo (fe a) : Nat) : Int), .string (hs (fe a))] 79)) = x3 at hL0
  have hN0 := cells_of _ 0 [] rfl (hL0.get _ _ List.mem_cons_self)
  simp only [cellsF, and_true, Nat.zero_add, Nat.reduceAdd] at hN0
  go_wp2_with fail
  clear hN0
  with_reducible refine Calls.mono (H1.out _) ?_
  rintro e x4 ⟨rfl, hb⟩
  replace hL0 := hL0.call hb
  clear hb hweq
  replace hL0 := (hL0.new rfl [.int .u64 ((zl r2.num : Nat) : Int), .string (zh r2.num), .bool (zs r2.num), .int .u64 ((lo (fe r2) : Nat) : Int), .string (hs (fe r2))] 79)
  generalize hweq : (x4.alloc (.cells #[.int .u64 ((zl r2.num : Nat) : Int), .string (zh r2.num), .bool (zs r2.num), .int .u64 ((lo (fe r2) : Nat) : Int), .string (hs (fe r2))] 79)) = x5 at hL0
  have hN0 := cells_of _ 0 [] rfl (hL0.get _ _ (List.mem_cons_of_mem _ List.mem_cons_self))
  simp only [cellsF, and_true, Nat.zero_add, Nat.reduceAdd] at hN0
  go_wp2_with fail
  clear hN0
  with_reducible refine Calls.mono (H2.out _) ?_
  rintro e x6 ⟨rfl, hb⟩
  replace hL0 := hL0.call hb
  clear hb hweq
  have hN0 := cells_of _ 0 [] rfl (hL0.get _ _ (List.mem_cons_of_mem _ List.mem_cons_self))
  simp only [cellsF, and_true, Nat.zero_add, Nat.reduceAdd] at hN0
  go_wp2_with fail
  clear hN0
  with_reducible refine Calls.mono (H2.out _) ?_
  rintro e x7 ⟨rfl, hb⟩
  replace hL0 := hL0.call hb
  clear hb
  have hN0 := cells_of _ 0 [] rfl (hL0.get _ _ (List.mem_cons_of_mem _ List.mem_cons_self))
  simp only [cellsF, and_true, Nat.zero_add, Nat.reduceAdd] at hN0
  go_wp2_with fail
  clear hN0
  with_reducible refine Calls.mono (H3.out _) ?_
  rintro e x8 ⟨rfl, hb⟩
  replace hL0 := hL0.call hb
  clear hb
  replace hL0 := (hL0.new rfl [.int .u64 ((zl r3.num : Nat) : Int), .string (zh r3.num), .bool (zs r3.num), .int .u64 ((lo (fe r3) : Nat) : Int), .string (hs (fe r3))] 79)
  generalize hweq : (x8.alloc (.cells #[.int .u64 ((zl r3.num : Nat) : Int), .string (zh r3.num), .bool (zs r3.num), .int .u64 ((lo (fe r3) : Nat) : Int), .string (hs (fe r3))] 79)) = x9 at hL0
  have hN0 := cells_of _ 0 [] rfl (hL0.get _ _ (List.mem_cons_of_mem _ (List.mem_cons_of_mem _ List.mem_cons_self)))
  simp only [cellsF, and_true, Nat.zero_add, Nat.reduceAdd] at hN0
  go_wp2_with fail
  clear hN0
  with_reducible refine Calls.mono (H4.out _) ?_
  rintro e x10 ⟨rfl, hb⟩
  replace hL0 := hL0.call hb
  clear hb hweq
  replace hL0 := (hL0.new rfl [.int .u64 ((zl r4.num : Nat) : Int), .string (zh r4.num), .bool (zs r4.num), .int .u64 ((lo (fe r4) : Nat) : Int), .string (hs (fe r4))] 79)
  generalize hweq : (x10.alloc (.cells #[.int .u64 ((zl r4.num : Nat) : Int), .string (zh r4.num), .bool (zs r4.num), .int .u64 ((lo (fe r4) : Nat) : Int), .string (hs (fe r4))] 79)) = x11 at hL0
  go_wp2_with fail
  with_reducible refine Calls.mono (H5.out _) ?_
  rintro e x12 ⟨rfl, hb⟩
  replace hL0 := hL0.call hb
  clear hb hweq
  replace hL0 := (hL0.new rfl [.int .u64 ((zl r1.num : Nat) : Int), .string (zh r1.num), .bool (zs r1.num), .int .u64 ((lo (fe r1) : Nat) : Int), .string (hs (fe r1))] 79)
  generalize hweq : (x12.alloc (.cells #[.int .u64 ((zl r1.num : Nat) : Int), .string (zh r1.num), .bool (zs r1.num), .int .u64 ((lo (fe r1) : Nat) : Int), .string (hs (fe r1))] 79)) = x13 at hL0
  go_wp2_with fail
  clear hweq
  go_loopw [15] (fun z wr => ∃ i : Nat, i ≤ L ∧ z = .int .i64 (i : Int) ∧ ∃ sv : Rat, sv = a ^ i ∧ GL w wr [(x12.heap.size, [.int .u64 ((zl sv.num : Nat) : Int), .string (zh sv.num), .bool (zs sv.num), .int .u64 ((lo (fe sv) : Nat) : Int), .string (hs (fe sv))]), (x10.heap.size, [.int .u64 ((zl r4.num : Nat) : Int), .string (zh r4.num), .bool (zs r4.num), .int .u64 ((lo (fe r4) : Nat) : Int), .string (hs (fe r4))]), (x8.heap.size, [.int .u64 ((zl r3.num : Nat) : Int), .string (zh r3.num), .bool (zs r3.num), .int .u64 ((lo (fe r3) : Nat) : Int), .string (hs (fe r3))]), (x4.heap.size, [.int .u64 ((zl r2.num : Nat) : Int), .string (zh r2.num), .bool (zs r2.num), .int .u64 ((lo (fe r2) : Nat) : Int), .string (hs (fe r2))]), (x2.heap.size, [.int .u64 ((zl a.num : Nat) : Int), .string (zh a.num), .bool (zs a.num), .int .u64 ((lo (fe a) : Nat) : Int), .string (hs (fe a))]), (w.heap.size, [.int .i64 n, .int .u32 d])]) (fun z _ => L - (intOf z).toNat)
  case atStart => exact ⟨0, Nat.zero_le _, rfl, r1, by rw [hone.out, Rat.pow_zero], hL0⟩
  case round =>
    clear hL0
    obtain ⟨i, hi, rfl, sv, hsv, hL0⟩ := hrel
    rcases Nat.lt_or_ge i L with hin | hin
    · skip
      have k1 : decide ((i : Int) < mn) = true := decide_eq_true (by have := hL.out; omega)
      obtain ⟨sw, hsw⟩ : ∃ sw : Rat, sw = a ^ (i + 1) := ⟨_, rfl⟩
      have HM := Lib.hid (HS.out i (by have := hL2.out; omega) sv sw hsv hsw)
      replace hsw := Lib.hid hsw
      replace hsv := Lib.hid hsv
      have hi20 : i < 20 := by have := hL2.out; omega
      have k2 : (i : Int) < mn := by have := hL.out; omega
      have hN0 := cells_of _ 0 [] rfl (hL0.get _ _ List.mem_cons_self)
      simp only [cellsF, and_true, Nat.zero_add, Nat.reduceAdd] at hN0
      have hN1 := cells_of _ 0 [] rfl (hL0.get _ _ (List.mem_cons_of_mem _ (List.mem_cons_of_mem _ (List.mem_cons_of_mem _ (List.mem_cons_of_mem _ List.mem_cons_self)))))
      simp only [cellsF, and_true, Nat.zero_add, Nat.reduceAdd] at hN1
      go_wp2_with fail
      clear hN0 hN1
      with_reducible refine Calls.mono (HM.out _) ?_
      rintro e x14 ⟨rfl, hb⟩
      replace hL0 := hL0.call hb
      clear hb
      have hA := hL0.fc
      simp only [fcG, cellsF, neK, and_true, ne_eq, Nat.zero_add, Nat.reduceAdd] at hA
      have hP := hL0.put 0 (x12.heap.size) _ rfl [.int .u64 ((zl sw.num : Nat) : Int), .string (zh sw.num), .bool (zs sw.num), .int .u64 ((lo (fe sw) : Nat) : Int), .string (hs (fe sw))] rfl
      simp only [setAll, List.set_cons_zero, List.set_cons_succ] at hP
      generalize hput1 : (((((x14.setCell ⟨x12.heap.size, 0, none⟩ (.int .u64 ((zl sw.num : Nat) : Int))).setCell ⟨x12.heap.size, 1, none⟩ (.string (zh sw.num))).setCell ⟨x12.heap.size, 2, none⟩ (.bool (zs sw.num))).setCell ⟨x12.heap.size, 3, none⟩ (.int .u64 ((lo (fe sw) : Nat) : Int))).setCell ⟨x12.heap.size, 4, none⟩ (.string (hs (fe sw)))) = x15 at hP
      have hB1 := hP.fc
      simp only [fcG, cellsF, neK, and_true, ne_eq, Nat.zero_add, Nat.reduceAdd] at hB1
      replace hL0 := hP
      go_wp2_with fail
      go_roundw
      case rel => exact ⟨i + 1, by omega, by first | rfl | go_num, sw, hsw.out, hL0⟩
      case measure => simp [intOf]; omega
    · obtain rfl : i = L := by omega
      have k1 : decide ((i : Int) < mn) = false := decide_eq_false (by have := hL.out; omega)
      have k2 : ¬ (i : Int) < mn := by have := hL.out; omega
      have hsv2 : sv = ps := hsv.trans hps.out.symm
      clear hsv HS hL hL2 hi hin hone
      subst sv
      go_upto_region 21 with fail
      obtain ⟨α, iα, F, hF1, hF2⟩ := cls wr
      have hq0 := cls_box hF1 hL0 _ _ List.mem_cons_self
      simp only [cellsC, and_true, Nat.zero_add, Nat.reduceAdd] at hq0
      refine region_qa 4 (C := fun w' => ∃ x, w' = F x) (by kernel_rfl) (by kernel_rfl) (cls_drew hF2) ?_
      simp only [List.take_succ_cons, List.take_zero, List.drop_succ_cons, List.drop_zero, List.take_nil, List.drop_nil]
      repeat (go_big_quiet_step (first | fail | (go_at_call 94; with_reducible exact cls_call hF1 hF2 H5.out _) | (go_at_call 61; with_reducible exact cls_call hF1 hF2 H6.out _)))
      refine wpQuiet_nil ?_
      rintro wq ⟨xq, rfl⟩
      replace hL0 := hL0.call (hF1 xq)
      clear  hq0 hF2
      generalize F xq = x16 at hL0 ⊢
      clear hF1 xq iα F α
      refine any_pure (i := 4) (m := 2) _ (.agg #[.int .u64 ((zl r2.num : Nat) : Int), .string (zh r2.num), .bool (zs r2.num), .int .u64 ((lo (fe r2) : Nat) : Int), .string (hs (fe r2))]) rfl rfl (by kernel_rfl) (fun _ _ _ h => h) (fun w => by simp [execOp, go_sem]) ?_
      refine any_pure (i := 5) (m := 1) _ (.int .i64 0) rfl rfl (by kernel_rfl) (fun _ _ _ h => h) (fun w => by simp [execOp, go_sem]) ?_
      refine any_seq 6 rfl (by kernel_rfl) ?_
      simp only [List.take_succ_cons, List.take_zero, List.drop_succ_cons, List.drop_zero, List.take_nil, List.drop_nil]
      have hA := hL0.fc
      simp only [fcG, cellsF, neK, and_true, ne_eq, Nat.zero_add, Nat.reduceAdd] at hA
      have hP := hL0.put 0 (x12.heap.size) _ rfl [.int .u64 ((zl r2.num : Nat) : Int), .string (zh r2.num), .bool (zs r2.num), .int .u64 ((lo (fe r2) : Nat) : Int), .string (hs (fe r2))] rfl
      simp only [setAll, List.set_cons_zero, List.set_cons_succ] at hP
      generalize hput2 : (((((x16.setCell ⟨x12.heap.size, 0, none⟩ (.int .u64 ((zl r2.num : Nat) : Int))).setCell ⟨x12.heap.size, 1, none⟩ (.string (zh r2.num))).setCell ⟨x12.heap.size, 2, none⟩ (.bool (zs r2.num))).setCell ⟨x12.heap.size, 3, none⟩ (.int .u64 ((lo (fe r2) : Nat) : Int))).setCell ⟨x12.heap.size, 4, none⟩ (.string (hs (fe r2)))) = x17 at hP
      have hB2 := hP.fc
      simp only [fcG, cellsF, neK, and_true, ne_eq, Nat.zero_add, Nat.reduceAdd] at hB2
      replace hL0 := hP
      go_upto_region 22 with fail
      have kKW1 := hKW.out.at hL0.bl kKW
      clear hA
      clear hput2 hB2
      obtain ⟨α, iα, F, hF1, hF2⟩ := cls x17
      have hq0 := cls_box hF1 hL0 _ _ List.mem_cons_self
      simp only [cellsC, and_true, Nat.zero_add, Nat.reduceAdd] at hq0
      have hq1 := cls_box hF1 hL0 _ _ (List.mem_cons_of_mem _ List.mem_cons_self)
      simp only [cellsC, and_true, Nat.zero_add, Nat.reduceAdd] at hq1
      have hq2 := cls_box hF1 hL0 _ _ (List.mem_cons_of_mem _ (List.mem_cons_of_mem _ List.mem_cons_self))
      simp only [cellsC, and_true, Nat.zero_add, Nat.reduceAdd] at hq2
      have hq3 := cls_box hF1 hL0 _ _ (List.mem_cons_of_mem _ (List.mem_cons_of_mem _ (List.mem_cons_of_mem _ List.mem_cons_self)))
      simp only [cellsC, and_true, Nat.zero_add, Nat.reduceAdd] at hq3
      refine region_qs 18 (C := fun w' => ∃ x, w' = F x) (by kernel_rfl) (by kernel_rfl) (cls_drew hF2) ?_
      simp only [List.take_succ_cons, List.take_zero, List.drop_succ_cons, List.drop_zero, List.take_nil, List.drop_nil]
      repeat (go_big_quiet_step (first | fail | (go_at_call 68; with_reducible exact cls_call hF1 hF2 H7.out _) | (go_at_call 57; with_reducible exact cls_callK hKW.out hF1 hF2 kKW1 HW.out _)))
      refine wpQuiet_nil ?_
      rintro wq ⟨xq, rfl⟩
      replace hL0 := hL0.call (hF1 xq)
      clear  hq0 hq1 hq2 hq3 hF2
      generalize F xq = x18 at hL0 ⊢
      clear hF1 xq iα F α
      clear kKW1
      go_wp2_with fail
      exact bodyPost_ret (v := .bool true) (by simp [results, Tryz.results13, go_sem]) rfl ⟨rfl, hL0.bl⟩

theorem fpowers_18 (n d m k : Int) (ln : -9223372036854775808 ≤ n) (hn : n < 9223372036854775808) (ld : 0 ≤ d) (hdd : d < 4294967296) (lm : -9223372036854775808 ≤ m) (hmm : m < 9223372036854775808) (lk : -9223372036854775808 ≤ k) (hkk : k < 9223372036854775808) (p0 : ¬ m < -4096) (p1 : ¬ 4096 < m) (p2 : ¬ m < -20) (p3 : ¬ 20 < m) (p4 : m < 0) (hz : qmade n d.toNat ≠ 0) (p6 : ¬ k < -20) (p7 : ¬ 20 < k) (p8 : ¬ k < 0) (p9 : ¬ m + k < 0) (w : World) (htab : Tab w) (hm : MaxL w) :
    Calls Tryz.prog 13 #[.agg #[.int .i64 n, .int .u32 d], .int .i64 m, .int .i64 k] w fun xe w' => xe = .returned (.bool true) ∧ Below w.heap.size w w' := by
  have HQ := fun w => qof_any n d ln hn ld hdd w
  have Sa := qmade_sz n d.toNat ln hn (by omega)
  have NB := (qmade_nb n d.toNat ln hn (by omega))
  generalize qmade n d.toNat = a at *
  have HS : ∀ i : Nat, i < 20 → ∀ s t : Rat, s = a ^ i → t = a ^ (i + 1) → ∀ w, Calls Tryz.prog 68 #[fracV s, fracV a] w fun xe w' => xe = .returned (fracV t) ∧ Below w.heap.size w w' := fun i hi s t hs ht w => by
    have h := mulF (a ^ i) a 21 ((Sa.pow i).mono (by omega)) (Sa.mono (by omega)) (by omega) w
    rw [← Rat.pow_succ, ← hs, ← ht] at h
    exact h
  have Sps : Sz (a ^ m.natAbs) 41 := (Sa.pow _).mono (by omega)
  have HPS : a ^ m.natAbs = a ^ m.natAbs := rfl
  have Sr2 := Sa.zpow (m := m) (by first | exact .inr (by omega) | exact .inl hz) (by omega)
  have H1 := fun w => powZ a m (by first | exact .inr (by omega) | exact .inl hz) (by omega) 64 (by rcases Nat.eq_zero_or_pos ((m : Int)).natAbs with h | h; exact .inl h; exact .inr ((Nat.le_div_iff_mul_le h).2 (by omega))) NB.1 NB.2 (Sa.mono (by omega)) w
  have H2 := fun w => signF a w
  have Sr3 := Sa.zpow (m := k) (by first | exact .inr (by omega) | exact .inl hz) (by omega)
  have H3 := fun w => powZ a k (by first | exact .inr (by omega) | exact .inl hz) (by omega) 64 (by rcases Nat.eq_zero_or_pos ((k : Int)).natAbs with h | h; exact .inl h; exact .inr ((Nat.le_div_iff_mul_le h).2 (by omega))) NB.1 NB.2 (Sa.mono (by omega)) w
  have Sr4 := Sa.zpow (m := (m + k)) (by first | exact .inr (by omega) | exact .inl hz) (by omega)
  have H4 := fun w => powZ a (m + k) (by first | exact .inr (by omega) | exact .inl hz) (by omega) 64 (by rcases Nat.eq_zero_or_pos (((m + k) : Int)).natAbs with h | h; exact .inl h; exact .inr ((Nat.le_div_iff_mul_le h).2 (by omega))) NB.1 NB.2 (Sa.mono (by omega)) w
  have H5 := fun w => intF (1) (by decide) (by decide) w
  have H6 := fun w => divF ((1 : Int) : Rat) (a ^ m.natAbs) 41 ((szc ((1 : Int) : Rat) (by decide +kernel) (by decide +kernel)).mono (by omega)) (Sps.mono (by omega)) (by omega) (rpow_ne hz m.natAbs) w
  rw [show ((1 : Int) : Rat) / (a ^ m.natAbs) = (a ^ m) from inv_zpow a m (by omega)] at H6
  have H7 := fun w => mulF (a ^ m) (a ^ k) 41 (Sr2.mono (by omega)) (Sr3.mono (by omega)) (by omega) w
  rw [zpow_sum a m k (by first | exact .inr ⟨by omega, by omega⟩ | exact .inl hz)] at H7
  have HW := fun w (h : Tab w ∧ MaxL w) => fworks_any w h.1 h.2
  exact fpowers_18_w a n d m k ((1 : Int) : Rat) (a ^ m) (sgnQ a) (a ^ k) (m + k) (a ^ (m + k)) (-m) m.natAbs (a ^ m.natAbs) HQ HS H1 H2 H3 H4 H5 H6 H7 _ (Keeps.and Keeps.tab MaxL.keeps) HW rfl (by first | exact decide_eq_true (by omega) | exact decide_eq_false (by omega)) (by first | exact decide_eq_true (by omega) | exact decide_eq_false (by omega)) (by first | exact decide_eq_true (by omega) | exact decide_eq_false (by omega)) (by first | exact decide_eq_true (by omega) | exact decide_eq_false (by omega)) (by first | exact decide_eq_true (by omega) | exact decide_eq_false (by omega)) (by first | exact decide_eq_true (by omega) | exact decide_eq_false (by omega)) (by first | exact decide_eq_true (by omega) | exact decide_eq_false (by omega)) (by first | exact decide_eq_true (by omega) | exact decide_eq_false (by omega)) (by first | (rw [sgnQ_eq0]; simp [hz]) | (rw [bne, sgnQ_eq0]; simp [hz])) (by first | (rw [sgnQ_eq0]; simp [hz]) | (rw [bne, sgnQ_eq0]; simp [hz])) (by first | exact decide_eq_true (by omega) | exact decide_eq_false (by omega)) (by first | exact decide_eq_true (by omega) | exact decide_eq_false (by omega)) (by first | exact decide_eq_true (by omega) | exact decide_eq_false (by omega)) (by first | exact decide_eq_true (by omega) | exact decide_eq_false (by omega)) (IntWalk.i64_in _ (by omega)) (IntWalk.i64_in _ (by omega)) (by omega) (by omega) (by omega) HPS (by first | exact decide_eq_true (by omega) | exact decide_eq_false (by omega)) (by first | exact decide_eq_true (by omega) | exact decide_eq_false (by omega)) w ⟨htab, hm⟩

set_option maxHeartbeats 16000000 in
set_option maxRecDepth 100000 in
theorem fpowers_19_w  (a : Rat) (n : Int) (d : Int) (m : Int) (k : Int) (r1 : Rat) (HQ : ∀ w, Calls Tryz.prog 99 #[.agg #[.int .i64 n, .int .u32 d]] w fun xe w' => xe = .returned (fracV a) ∧ Below w.heap.size w w') (HS : ∀ i : Nat, i < 20 → ∀ s t : Rat, s = a ^ i → t = a ^ (i + 1) → ∀ w, Calls Tryz.prog 68 #[fracV s, fracV a] w fun xe w' => xe = .returned (fracV t) ∧ Below w.heap.size w w') (KW : World → Prop) (hKW : Keeps KW) (HW : ∀ w, KW w → Calls Tryz.prog 57 #[] w fun xe w' => xe = .returned (.bool true) ∧ Below w.heap.size w w') (hone : r1 = 1) (hd2 : decide (m < (-4096)) = false) (hd3 : decide ((-4096) ≤ m) = true) (hd4 : decide (4096 < m) = false) (hd5 : decide (m ≤ 4096) = true) (hd6 : decide (m < (-20)) = false) (hd7 : decide ((-20) ≤ m) = true) (hd8 : decide (20 < m) = true) (hd9 : decide (m ≤ 20) = false) (hd10 : decide (n < (-9)) = false) (hd11 : decide ((-9) ≤ n) = true) (hd12 : decide (9 < n) = true) (hd13 : decide (n ≤ 9) = false) (w : World) (kKW : KW w) :
    Calls Tryz.prog 13 #[.agg #[.int .i64 n, .int .u32 d], .int .i64 m, .int .i64 k] w fun xe w' => xe = .returned (.bool true) ∧ Below w.heap.size w w' := by
  have hL0 : GL w w [] := GL.start w
  replace HQ := Lib.hid HQ
  replace HS := Lib.hid HS
  replace hKW := Lib.hid hKW
  replace HW := Lib.hid HW
  replace hone := Lib.hid hone
  replace hL0 := (hL0.new rfl [.int .i64 n, .int .u32 d] 120)
  generalize hweq : (w.alloc (.cells #[.int .i64 n, .int .u32 d] 120)) = x1 at hL0
  go_enter Tryz.func13, Tryz.ntmps13
  have hN0 := cells_of _ 0 [] rfl (hL0.get _ _ List.mem_cons_self)
  simp only [cellsF, and_true, Nat.zero_add, Nat.reduceAdd] at hN0
  go_wp2_with fail
  clear hN0
  with_reducible refine Calls.mono (HW.out _ (hKW.out.at hL0.bl kKW)) ?_
  rintro e x2 ⟨rfl, hb⟩
  replace hL0 := hL0.call hb
  clear hb hweq
  go_wp2_with fail
  exact bodyPost_ret (v := .bool true) (by simp [results, Tryz.results13, go_sem]) rfl ⟨rfl, hL0.bl⟩

theorem fpowers_19 (n d m k : Int) (ln : -9223372036854775808 ≤ n) (hn : n < 9223372036854775808) (ld : 0 ≤ d) (hdd : d < 4294967296) (lm : -9223372036854775808 ≤ m) (hmm : m < 9223372036854775808) (lk : -9223372036854775808 ≤ k) (hkk : k < 9223372036854775808) (p0 : ¬ m < -4096) (p1 : ¬ 4096 < m) (p2 : ¬ m < -20) (p3 : 20 < m) (p4 : ¬ n < -9) (p5 : 9 < n) (w : World) (htab : Tab w) (hm : MaxL w) :
    Calls Tryz.prog 13 #[.agg #[.int .i64 n, .int .u32 d], .int .i64 m, .int .i64 k] w fun xe w' => xe = .returned (.bool true) ∧ Below w.heap.size w w' := by
  have HQ := fun w => qof_any n d ln hn ld hdd w
  have Sa := qmade_sz n d.toNat ln hn (by omega)
  have NB := (qmade_nb n d.toNat ln hn (by omega))
  generalize qmade n d.toNat = a at *
  have HS : ∀ i : Nat, i < 20 → ∀ s t : Rat, s = a ^ i → t = a ^ (i + 1) → ∀ w, Calls Tryz.prog 68 #[fracV s, fracV a] w fun xe w' => xe = .returned (fracV t) ∧ Below w.heap.size w w' := fun i hi s t hs ht w => by
    have h := mulF (a ^ i) a 21 ((Sa.pow i).mono (by omega)) (Sa.mono (by omega)) (by omega) w
    rw [← Rat.pow_succ, ← hs, ← ht] at h
    exact h
  have HW := fun w (h : Tab w ∧ MaxL w) => fworks_any w h.1 h.2
  exact fpowers_19_w a n d m k ((1 : Int) : Rat) HQ HS _ (Keeps.and Keeps.tab MaxL.keeps) HW rfl (by first | exact decide_eq_true (by omega) | exact decide_eq_false (by omega)) (by first | exact decide_eq_true (by omega) | exact decide_eq_false (by omega)) (by first | exact decide_eq_true (by omega) | exact decide_eq_false (by omega)) (by first | exact decide_eq_true (by omega) | exact decide_eq_false (by omega)) (by first | exact decide_eq_true (by omega) | exact decide_eq_false (by omega)) (by first | exact decide_eq_true (by omega) | exact decide_eq_false (by omega)) (by first | exact decide_eq_true (by omega) | exact decide_eq_false (by omega)) (by first | exact decide_eq_true (by omega) | exact decide_eq_false (by omega)) (by first | exact decide_eq_true (by omega) | exact decide_eq_false (by omega)) (by first | exact decide_eq_true (by omega) | exact decide_eq_false (by omega)) (by first | exact decide_eq_true (by omega) | exact decide_eq_false (by omega)) (by first | exact decide_eq_true (by omega) | exact decide_eq_false (by omega)) w ⟨htab, hm⟩

set_option maxHeartbeats 16000000 in
set_option maxRecDepth 100000 in
theorem fpowers_20_w  (a : Rat) (n : Int) (d : Int) (m : Int) (k : Int) (r1 : Rat) (HQ : ∀ w, Calls Tryz.prog 99 #[.agg #[.int .i64 n, .int .u32 d]] w fun xe w' => xe = .returned (fracV a) ∧ Below w.heap.size w w') (HS : ∀ i : Nat, i < 20 → ∀ s t : Rat, s = a ^ i → t = a ^ (i + 1) → ∀ w, Calls Tryz.prog 68 #[fracV s, fracV a] w fun xe w' => xe = .returned (fracV t) ∧ Below w.heap.size w w') (KW : World → Prop) (hKW : Keeps KW) (HW : ∀ w, KW w → Calls Tryz.prog 57 #[] w fun xe w' => xe = .returned (.bool true) ∧ Below w.heap.size w w') (hone : r1 = 1) (hd2 : decide (m < (-4096)) = false) (hd3 : decide ((-4096) ≤ m) = true) (hd4 : decide (4096 < m) = false) (hd5 : decide (m ≤ 4096) = true) (hd6 : decide (m < (-20)) = false) (hd7 : decide ((-20) ≤ m) = true) (hd8 : decide (20 < m) = true) (hd9 : decide (m ≤ 20) = false) (hd10 : decide (n < (-9)) = false) (hd11 : decide ((-9) ≤ n) = true) (hd12 : decide (9 < n) = false) (hd13 : decide (n ≤ 9) = true) (hd14 : decide (9 < d) = true) (hd15 : decide (d ≤ 9) = false) (w : World) (kKW : KW w) :
    Calls Tryz.prog 13 #[.agg #[.int .i64 n, .int .u32 d], .int .i64 m, .int .i64 k] w fun xe w' => xe = .returned (.bool true) ∧ Below w.heap.size w w' := by
  have hL0 : GL w w [] := GL.start w
  replace HQ := Lib.hid HQ
  replace HS := Lib.hid HS
  replace hKW := Lib.hid hKW
  replace HW := Lib.hid HW
  replace hone := Lib.hid hone
  replace hL0 := (hL0.new rfl [.int .i64 n, .int .u32 d] 120)
  generalize hweq : (w.alloc (.cells #[.int .i64 n, .int .u32 d] 120)) = x1 at hL0
  go_enter Tryz.func13, Tryz.ntmps13
  have hN0 := cells_of _ 0 [] rfl (hL0.get _ _ List.mem_cons_self)
  simp only [cellsF, and_true, Nat.zero_add, Nat.reduceAdd] at hN0
  go_wp2_with fail
  clear hN0
  with_reducible refine Calls.mono (HW.out _ (hKW.out.at hL0.bl kKW)) ?_
  rintro e x2 ⟨rfl, hb⟩
  replace hL0 := hL0.call hb
  clear hb hweq
  go_wp2_with fail
  exact bodyPost_ret (v := .bool true) (by simp [results, Tryz.results13, go_sem]) rfl ⟨rfl, hL0.bl⟩

theorem fpowers_20 (n d m k : Int) (ln : -9223372036854775808 ≤ n) (hn : n < 9223372036854775808) (ld : 0 ≤ d) (hdd : d < 4294967296) (lm : -9223372036854775808 ≤ m) (hmm : m < 9223372036854775808) (lk : -9223372036854775808 ≤ k) (hkk : k < 9223372036854775808) (p0 : ¬ m < -4096) (p1 : ¬ 4096 < m) (p2 : ¬ m < -20) (p3 : 20 < m) (p4 : ¬ n < -9) (p5 : ¬ 9 < n) (p6 : 9 < d) (w : World) (htab : Tab w) (hm : MaxL w) :
    Calls Tryz.prog 13 #[.agg #[.int .i64 n, .int .u32 d], .int .i64 m, .int .i64 k] w fun xe w' => xe = .returned (.bool true) ∧ Below w.heap.size w w' := by
  have HQ := fun w => qof_any n d ln hn ld hdd w
  have Sa := qmade_sz n d.toNat ln hn (by omega)
  have NB := (qmade_nb n d.toNat ln hn (by omega))
  generalize qmade n d.toNat = a at *
  have HS : ∀ i : Nat, i < 20 → ∀ s t : Rat, s = a ^ i → t = a ^ (i + 1) → ∀ w, Calls Tryz.prog 68 #[fracV s, fracV a] w fun xe w' => xe = .returned (fracV t) ∧ Below w.heap.size w w' := fun i hi s t hs ht w => by
    have h := mulF (a ^ i) a 21 ((Sa.pow i).mono (by omega)) (Sa.mono (by omega)) (by omega) w
    rw [← Rat.pow_succ, ← hs, ← ht] at h
    exact h
  have HW := fun w (h : Tab w ∧ MaxL w) => fworks_any w h.1 h.2
  exact fpowers_20_w a n d m k ((1 : Int) : Rat) HQ HS _ (Keeps.and Keeps.tab MaxL.keeps) HW rfl (by first | exact decide_eq_true (by omega) | exact decide_eq_false (by omega)) (by first | exact decide_eq_true (by omega) | exact decide_eq_false (by omega)) (by first | exact decide_eq_true (by omega) | exact decide_eq_false (by omega)) (by first | exact decide_eq_true (by omega) | exact decide_eq_false (by omega)) (by first | exact decide_eq_true (by omega) | exact decide_eq_false (by omega)) (by first | exact decide_eq_true (by omega) | exact decide_eq_false (by omega)) (by first | exact decide_eq_true (by omega) | exact decide_eq_false (by omega)) (by first | exact decide_eq_true (by omega) | exact decide_eq_false (by omega)) (by first | exact decide_eq_true (by omega) | exact decide_eq_false (by omega)) (by first | exact decide_eq_true (by omega) | exact decide_eq_false (by omega)) (by first | exact decide_eq_true (by omega) | exact decide_eq_false (by omega)) (by first | exact decide_eq_true (by omega) | exact decide_eq_false (by omega)) (by first | exact decide_eq_true (by omega) | exact decide_eq_false (by omega)) (by first | exact decide_eq_true (by omega) | exact decide_eq_false (by omega)) w ⟨htab, hm⟩

set_option maxHeartbeats 16000000 in
set_option maxRecDepth 100000 in
theorem fpowers_21_w  (a : Rat) (n : Int) (d : Int) (m : Int) (k : Int) (r1 : Rat) (r2 : Rat) (i1 : Int) (HQ : ∀ w, Calls Tryz.prog 99 #[.agg #[.int .i64 n, .int .u32 d]] w fun xe w' => xe = .returned (fracV a) ∧ Below w.heap.size w w') (HS : ∀ i : Nat, i < 20 → ∀ s t : Rat, s = a ^ i → t = a ^ (i + 1) → ∀ w, Calls Tryz.prog 68 #[fracV s, fracV a] w fun xe w' => xe = .returned (fracV t) ∧ Below w.heap.size w w') (H1 : ∀ w, Calls Tryz.prog 98 #[fracV a, .int .i64 m] w fun xe w' => xe = .returned (.tuple #[fracV r2, .int .i64 0]) ∧ Below w.heap.size w w') (H2 : ∀ w, Calls Tryz.prog 75 #[fracV a] w fun xe w' => xe = .returned (.int .i64 i1) ∧ Below w.heap.size w w') (KW : World → Prop) (hKW : Keeps KW) (HW : ∀ w, KW w → Calls Tryz.prog 57 #[] w fun xe w' => xe = .returned (.bool true) ∧ Below w.heap.size w w') (hone : r1 = 1) (hd2 : decide (m < (-4096)) = false) (hd3 : decide ((-4096) ≤ m) = true) (hd4 : decide (4096 < m) = false) (hd5 : decide (m ≤ 4096) = true) (hd6 : decide (m < (-20)) = false) (hd7 : decide ((-20) ≤ m) = true) (hd8 : decide (20 < m) = true) (hd9 : decide (m ≤ 20) = false) (hd10 : decide (n < (-9)) = false) (hd11 : decide ((-9) ≤ n) = true) (hd12 : decide (9 < n) = false) (hd13 : decide (n ≤ 9) = true) (hd14 : decide (9 < d) = false) (hd15 : decide (d ≤ 9) = true) (hd16 : (i1 == 0) = true) (hd17 : (i1 != 0) = false) (hd18 : decide (m < 0) = false) (hd19 : decide (0 ≤ m) = true) (w : World) (kKW : KW w) :
    Calls Tryz.prog 13 #[.agg #[.int .i64 n, .int .u32 d], .int .i64 m, .int .i64 k] w fun xe w' => xe = .returned (.bool true) ∧ Below w.heap.size w w' := by
  have hL0 : GL w w [] := GL.start w
  replace HQ := Lib.hid HQ
  replace HS := Lib.hid HS
  replace H1 := Lib.hid H1
  replace H2 := Lib.hid H2
  replace hKW := Lib.hid hKW
  replace HW := Lib.hid HW
  replace hone := Lib.hid hone
  replace hL0 := (hL0.new rfl [.int .i64 n, .int .u32 d] 120)
  generalize hweq : (w.alloc (.cells #[.int .i64 n, .int .u32 d] 120)) = x1 at hL0
  go_enter Tryz.func13, Tryz.ntmps13
  have hN0 := cells_of _ 0 [] rfl (hL0.get _ _ List.mem_cons_self)
  simp only [cellsF, and_true, Nat.zero_add, Nat.reduceAdd] at hN0
  go_wp2_with fail
  clear hN0
  with_reducible refine Calls.mono (HQ.out _) ?_
  rintro e x2 ⟨rfl, hb⟩
  replace hL0 := hL0.call hb
  clear hb hweq
  replace hL0 := (hL0.new rfl [.int .u64 ((zl a.num : Nat) : Int), .string (zh a.num), .bool (zs a.num), .int .u64 ((lo (fe a) : Nat) : Int), .string (hs (fe a))] 79)
  generalize hweq : (x2.alloc (.cells #[.int .u64 ((zl a.num : Nat) : Int), .string (zh a.num), .bool (zs a.num), .int .u64 ((lo (fe a) : Nat) : Int), .string (hs (fe a))] 79)) = x3 at hL0
  have hN0 := cells_of _ 0 [] rfl (hL0.get _ _ List.mem_cons_self)
  simp only [cellsF, and_true, Nat.zero_add, Nat.reduceAdd] at hN0
  go_wp2_with fail
  clear hN0
  with_reducible refine Calls.mono (H1.out _) ?_
  rintro e x4 ⟨rfl, hb⟩
  replace hL0 := hL0.call hb
  clear hb hweq
  replace hL0 := (hL0.new rfl [.int .u64 ((zl r2.num : Nat) : Int), .string (zh r2.num), .bool (zs r2.num), .int .u64 ((lo (fe r2) : Nat) : Int), .string (hs (fe r2))] 79)
  generalize hweq : (x4.alloc (.cells #[.int .u64 ((zl r2.num : Nat) : Int), .string (zh r2.num), .bool (zs r2.num), .int .u64 ((lo (fe r2) : Nat) : Int), .string (hs (fe r2))] 79)) = x5 at hL0
  have hN0 := cells_of _ 0 [] rfl (hL0.get _ _ (List.mem_cons_of_mem _ List.mem_cons_self))
  simp only [cellsF, and_true, Nat.zero_add, Nat.reduceAdd] at hN0
  go_wp2_with fail
  clear hN0
  with_reducible refine Calls.mono (H2.out _) ?_
  rintro e x6 ⟨rfl, hb⟩
  replace hL0 := hL0.call hb
  clear hb hweq
  go_wp2_with fail
  with_reducible refine Calls.mono (HW.out _ (hKW.out.at hL0.bl kKW)) ?_
  rintro e x7 ⟨rfl, hb⟩
  replace hL0 := hL0.call hb
  clear hb
  go_wp2_with fail
  exact bodyPost_ret (v := .bool true) (by simp [results, Tryz.results13, go_sem]) rfl ⟨rfl, hL0.bl⟩

theorem fpowers_21 (n d m k : Int) (ln : -9223372036854775808 ≤ n) (hn : n < 9223372036854775808) (ld : 0 ≤ d) (hdd : d < 4294967296) (lm : -9223372036854775808 ≤ m) (hmm : m < 9223372036854775808) (lk : -9223372036854775808 ≤ k) (hkk : k < 9223372036854775808) (p0 : ¬ m < -4096) (p1 : ¬ 4096 < m) (p2 : ¬ m < -20) (p3 : 20 < m) (p4 : ¬ n < -9) (p5 : ¬ 9 < n) (p6 : ¬ 9 < d) (hz : qmade n d.toNat = 0) (w : World) (htab : Tab w) (hm : MaxL w) :
    Calls Tryz.prog 13 #[.agg #[.int .i64 n, .int .u32 d], .int .i64 m, .int .i64 k] w fun xe w' => xe = .returned (.bool true) ∧ Below w.heap.size w w' := by
  have HQ := fun w => qof_any n d ln hn ld hdd w
  have Sa := qmade_sz n d.toNat ln hn (by omega)
  have NB := (qmade_nb4 n d.toNat (by omega) (by omega) (by omega))
  generalize qmade n d.toNat = a at *
  have HS : ∀ i : Nat, i < 20 → ∀ s t : Rat, s = a ^ i → t = a ^ (i + 1) → ∀ w, Calls Tryz.prog 68 #[fracV s, fracV a] w fun xe w' => xe = .returned (fracV t) ∧ Below w.heap.size w w' := fun i hi s t hs ht w => by
    have h := mulF (a ^ i) a 21 ((Sa.pow i).mono (by omega)) (Sa.mono (by omega)) (by omega) w
    rw [← Rat.pow_succ, ← hs, ← ht] at h
    exact h
  have Sr2 := trivial
  have H1 := fun w => powZ a m (by first | exact .inr (by omega) | exact .inl hz) (by omega) 4 (by rcases Nat.eq_zero_or_pos ((m : Int)).natAbs with h | h; exact .inl h; exact .inr ((Nat.le_div_iff_mul_le h).2 (by omega))) NB.1 NB.2 (Sa.mono (by omega)) w
  have H2 := fun w => signF a w
  have HW := fun w (h : Tab w ∧ MaxL w) => fworks_any w h.1 h.2
  exact fpowers_21_w a n d m k ((1 : Int) : Rat) (a ^ m) (sgnQ a) HQ HS H1 H2 _ (Keeps.and Keeps.tab MaxL.keeps) HW rfl (by first | exact decide_eq_true (by omega) | exact decide_eq_false (by omega)) (by first | exact decide_eq_true (by omega) | exact decide_eq_false (by omega)) (by first | exact decide_eq_true (by omega) | exact decide_eq_false (by omega)) (by first | exact decide_eq_true (by omega) | exact decide_eq_false (by omega)) (by first | exact decide_eq_true (by omega) | exact decide_eq_false (by omega)) (by first | exact decide_eq_true (by omega) | exact decide_eq_false (by omega)) (by first | exact decide_eq_true (by omega) | exact decide_eq_false (by omega)) (by first | exact decide_eq_true (by omega) | exact decide_eq_false (by omega)) (by first | exact decide_eq_true (by omega) | exact decide_eq_false (by omega)) (by first | exact decide_eq_true (by omega) | exact decide_eq_false (by omega)) (by first | exact decide_eq_true (by omega) | exact decide_eq_false (by omega)) (by first | exact decide_eq_true (by omega) | exact decide_eq_false (by omega)) (by first | exact decide_eq_true (by omega) | exact decide_eq_false (by omega)) (by first | exact decide_eq_true (by omega) | exact decide_eq_false (by omega)) (by first | (rw [sgnQ_eq0]; simp [hz]) | (rw [bne, sgnQ_eq0]; simp [hz])) (by first | (rw [sgnQ_eq0]; simp [hz]) | (rw [bne, sgnQ_eq0]; simp [hz])) (by first | exact decide_eq_true (by omega) | exact decide_eq_false (by omega)) (by first | exact decide_eq_true (by omega) | exact decide_eq_false (by omega)) w ⟨htab, hm⟩

set_option maxHeartbeats 16000000 in
set_option maxRecDepth 100000 in
theorem fpowers_22_w  (a : Rat) (n : Int) (d : Int) (m : Int) (k : Int) (r1 : Rat) (r2 : Rat) (i1 : Int) (HQ : ∀ w, Calls Tryz.prog 99 #[.agg #[.int .i64 n, .int .u32 d]] w fun xe w' => xe = .returned (fracV a) ∧ Below w.heap.size w w') (HS : ∀ i : Nat, i < 20 → ∀ s t : Rat, s = a ^ i → t = a ^ (i + 1) → ∀ w, Calls Tryz.prog 68 #[fracV s, fracV a] w fun xe w' => xe = .returned (fracV t) ∧ Below w.heap.size w w') (H1 : ∀ w, Calls Tryz.prog 98 #[fracV a, .int .i64 m] w fun xe w' => xe = .returned (.tuple #[fracV r2, .int .i64 0]) ∧ Below w.heap.size w w') (H2 : ∀ w, Calls Tryz.prog 75 #[fracV a] w fun xe w' => xe = .returned (.int .i64 i1) ∧ Below w.heap.size w w') (KW : World → Prop) (hKW : Keeps KW) (HW : ∀ w, KW w → Calls Tryz.prog 57 #[] w fun xe w' => xe = .returned (.bool true) ∧ Below w.heap.size w w') (hone : r1 = 1) (hd2 : decide (m < (-4096)) = false) (hd3 : decide ((-4096) ≤ m) = true) (hd4 : decide (4096 < m) = false) (hd5 : decide (m ≤ 4096) = true) (hd6 : decide (m < (-20)) = false) (hd7 : decide ((-20) ≤ m) = true) (hd8 : decide (20 < m) = true) (hd9 : decide (m ≤ 20) = false) (hd10 : decide (n < (-9)) = false) (hd11 : decide ((-9) ≤ n) = true) (hd12 : decide (9 < n) = false) (hd13 : decide (n ≤ 9) = true) (hd14 : decide (9 < d) = false) (hd15 : decide (d ≤ 9) = true) (hd16 : (i1 == 0) = false) (hd17 : (i1 != 0) = true) (w : World) (kKW : KW w) :
    Calls Tryz.prog 13 #[.agg #[.int .i64 n, .int .u32 d], .int .i64 m, .int .i64 k] w fun xe w' => xe = .returned (.bool true) ∧ Below w.heap.size w w' := by
  have hL0 : GL w w [] := GL.start w
  replace HQ := Lib.hid HQ
  replace HS := Lib.hid HS
  replace H1 := Lib.hid H1
  replace H2 := Lib.hid H2
  replace hKW := Lib.hid hKW
  replace HW := Lib.hid HW
  replace hone := Lib.hid hone
  replace hL0 := (hL0.new rfl [.int .i64 n, .int .u32 d] 120)
  generalize hweq : (w.alloc (.cells #[.int .i64 n, .int .u32 d] 120)) = x1 at hL0
  go_enter Tryz.func13, Tryz.ntmps13
  have hN0 := cells_of _ 0 [] rfl (hL0.get _ _ List.mem_cons_self)
  simp only [cellsF, and_true, Nat.zero_add, Nat.reduceAdd] at hN0
  go_wp2_with fail
  clear hN0
  with_reducible refine Calls.mono (HQ.out _) ?_
  rintro e x2 ⟨rfl, hb⟩
  replace hL0 := hL0.call hb
  clear hb hweq
  replace hL0 := (hL0.new rfl [.int .u64 ((zl a.num : Nat) : Int), .string (zh a.num), .bool (zs a.num), .int .u64 ((lo (fe a) : Nat) : Int), .string (hs (fe a))] 79)
  generalize hweq : (x2.alloc (.cells #[.int .u64 ((zl a.num : Nat) : Int), .string (zh a.num), .bool (zs a.num), .int .u64 ((lo (fe a) : Nat) : Int), .string (hs (fe a))] 79)) = x3 at hL0
  have hN0 := cells_of _ 0 [] rfl (hL0.get _ _ List.mem_cons_self)
  simp only [cellsF, and_true, Nat.zero_add, Nat.reduceAdd] at hN0
  go_wp2_with fail
  clear hN0
  with_reducible refine Calls.mono (H1.out _) ?_
  rintro e x4 ⟨rfl, hb⟩
  replace hL0 := hL0.call hb
  clear hb hweq
  replace hL0 := (hL0.new rfl [.int .u64 ((zl r2.num : Nat) : Int), .string (zh r2.num), .bool (zs r2.num), .int .u64 ((lo (fe r2) : Nat) : Int), .string (hs (fe r2))] 79)
  generalize hweq : (x4.alloc (.cells #[.int .u64 ((zl r2.num : Nat) : Int), .string (zh r2.num), .bool (zs r2.num), .int .u64 ((lo (fe r2) : Nat) : Int), .string (hs (fe r2))] 79)) = x5 at hL0
  have hN0 := cells_of _ 0 [] rfl (hL0.get _ _ (List.mem_cons_of_mem _ List.mem_cons_self))
  simp only [cellsF, and_true, Nat.zero_add, Nat.reduceAdd] at hN0
  go_wp2_with fail
  clear hN0
  with_reducible refine Calls.mono (H2.out _) ?_
  rintro e x6 ⟨rfl, hb⟩
  replace hL0 := hL0.call hb
  clear hb hweq
  go_wp2_with fail
  with_reducible refine Calls.mono (HW.out _ (hKW.out.at hL0.bl kKW)) ?_
  rintro e x7 ⟨rfl, hb⟩
  replace hL0 := hL0.call hb
  clear hb
  go_wp2_with fail
  exact bodyPost_ret (v := .bool true) (by simp [results, Tryz.results13, go_sem]) rfl ⟨rfl, hL0.bl⟩

theorem fpowers_22 (n d m k : Int) (ln : -9223372036854775808 ≤ n) (hn : n < 9223372036854775808) (ld : 0 ≤ d) (hdd : d < 4294967296) (lm : -9223372036854775808 ≤ m) (hmm : m < 9223372036854775808) (lk : -9223372036854775808 ≤ k) (hkk : k < 9223372036854775808) (p0 : ¬ m < -4096) (p1 : ¬ 4096 < m) (p2 : ¬ m < -20) (p3 : 20 < m) (p4 : ¬ n < -9) (p5 : ¬ 9 < n) (p6 : ¬ 9 < d) (hz : qmade n d.toNat ≠ 0) (w : World) (htab : Tab w) (hm : MaxL w) :
    Calls Tryz.prog 13 #[.agg #[.int .i64 n, .int .u32 d], .int .i64 m, .int .i64 k] w fun xe w' => xe = .returned (.bool true) ∧ Below w.heap.size w w' := by
  have HQ := fun w => qof_any n d ln hn ld hdd w
  have Sa := qmade_sz n d.toNat ln hn (by omega)
  have NB := (qmade_nb4 n d.toNat (by omega) (by omega) (by omega))
  generalize qmade n d.toNat = a at *
  have HS : ∀ i : Nat, i < 20 → ∀ s t : Rat, s = a ^ i → t = a ^ (i + 1) → ∀ w, Calls Tryz.prog 68 #[fracV s, fracV a] w fun xe w' => xe = .returned (fracV t) ∧ Below w.heap.size w w' := fun i hi s t hs ht w => by
    have h := mulF (a ^ i) a 21 ((Sa.pow i).mono (by omega)) (Sa.mono (by omega)) (by omega) w
    rw [← Rat.pow_succ, ← hs, ← ht] at h
    exact h
  have Sr2 := trivial
  have H1 := fun w => powZ a m (by first | exact .inr (by omega) | exact .inl hz) (by omega) 4 (by rcases Nat.eq_zero_or_pos ((m : Int)).natAbs with h | h; exact .inl h; exact .inr ((Nat.le_div_iff_mul_le h).2 (by omega))) NB.1 NB.2 (Sa.mono (by omega)) w
  have H2 := fun w => signF a w
  have HW := fun w (h : Tab w ∧ MaxL w) => fworks_any w h.1 h.2
  exact fpowers_22_w a n d m k ((1 : Int) : Rat) (a ^ m) (sgnQ a) HQ HS H1 H2 _ (Keeps.and Keeps.tab MaxL.keeps) HW rfl (by first | exact decide_eq_true (by omega) | exact decide_eq_false (by omega)) (by first | exact decide_eq_true (by omega) | exact decide_eq_false (by omega)) (by first | exact decide_eq_true (by omega) | exact decide_eq_false (by omega)) (by first | exact decide_eq_true (by omega) | exact decide_eq_false (by omega)) (by first | exact decide_eq_true (by omega) | exact decide_eq_false (by omega)) (by first | exact decide_eq_true (by omega) | exact decide_eq_false (by omega)) (by first | exact decide_eq_true (by omega) | exact decide_eq_false (by omega)) (by first | exact decide_eq_true (by omega) | exact decide_eq_false (by omega)) (by first | exact decide_eq_true (by omega) | exact decide_eq_false (by omega)) (by first | exact decide_eq_true (by omega) | exact decide_eq_false (by omega)) (by first | exact decide_eq_true (by omega) | exact decide_eq_false (by omega)) (by first | exact decide_eq_true (by omega) | exact decide_eq_false (by omega)) (by first | exact decide_eq_true (by omega) | exact decide_eq_false (by omega)) (by first | exact decide_eq_true (by omega) | exact decide_eq_false (by omega)) (by first | (rw [sgnQ_eq0]; simp [hz]) | (rw [bne, sgnQ_eq0]; simp [hz])) (by first | (rw [sgnQ_eq0]; simp [hz]) | (rw [bne, sgnQ_eq0]; simp [hz])) w ⟨htab, hm⟩

set_option maxHeartbeats 16000000 in
set_option maxRecDepth 100000 in
theorem fpowers_23_w  (a : Rat) (n : Int) (d : Int) (m : Int) (k : Int) (r1 : Rat) (HQ : ∀ w, Calls Tryz.prog 99 #[.agg #[.int .i64 n, .int .u32 d]] w fun xe w' => xe = .returned (fracV a) ∧ Below w.heap.size w w') (HS : ∀ i : Nat, i < 20 → ∀ s t : Rat, s = a ^ i → t = a ^ (i + 1) → ∀ w, Calls Tryz.prog 68 #[fracV s, fracV a] w fun xe w' => xe = .returned (fracV t) ∧ Below w.heap.size w w') (KW : World → Prop) (hKW : Keeps KW) (HW : ∀ w, KW w → Calls Tryz.prog 57 #[] w fun xe w' => xe = .returned (.bool true) ∧ Below w.heap.size w w') (hone : r1 = 1) (hd2 : decide (m < (-4096)) = false) (hd3 : decide ((-4096) ≤ m) = true) (hd4 : decide (4096 < m) = false) (hd5 : decide (m ≤ 4096) = true) (hd6 : decide (m < (-20)) = true) (hd7 : decide ((-20) ≤ m) = false) (hd8 : decide (n < (-9)) = false) (hd9 : decide ((-9) ≤ n) = true) (hd10 : decide (9 < n) = true) (hd11 : decide (n ≤ 9) = false) (w : World) (kKW : KW w) :
    Calls Tryz.prog 13 #[.agg #[.int .i64 n, .int .u32 d], .int .i64 m, .int .i64 k] w fun xe w' => xe = .returned (.bool true) ∧ Below w.heap.size w w' := by
  have hL0 : GL w w [] := GL.start w
  replace HQ := Lib.hid HQ
  replace HS := Lib.hid HS
  replace hKW := Lib.hid hKW
  replace HW := Lib.hid HW
  replace hone := Lib.hid hone
  replace hL0 := (hL0.new rfl [.int .i64 n, .int .u32 d] 120)
  generalize hweq : (w.alloc (.cells #[.int .i64 n, .int .u32 d] 120)) = x1 at hL0
  go_enter Tryz.func13, Tryz.ntmps13
  have hN0 := cells_of _ 0 [] rfl (hL0.get _ _ List.mem_cons_self)
  simp only [cellsF, and_true, Nat.zero_add, Nat.reduceAdd] at hN0
  go_wp2_with fail
  clear hN0
  with_reducible refine Calls.mono (HW.out _ (hKW.out.at hL0.bl kKW)) ?_
  rintro e x2 ⟨rfl, hb⟩
  replace hL0 := hL0.call hb
  clear hb hweq
  go_wp2_with fail
  exact bodyPost_ret (v := .bool true) (by simp [results, Tryz.results13, go_sem]) rfl ⟨rfl, hL0.bl⟩

theorem fpowers_23 (n d m k : Int) (ln : -9223372036854775808 ≤ n) (hn : n < 9223372036854775808) (ld : 0 ≤ d) (hdd : d < 4294967296) (lm : -9223372036854775808 ≤ m) (hmm : m < 9223372036854775808) (lk : -9223372036854775808 ≤ k) (hkk : k < 9223372036854775808) (p0 : ¬ m < -4096) (p1 : ¬ 4096 < m) (p2 : m < -20) (p3 : ¬ n < -9) (p4 : 9 < n) (w : World) (htab : Tab w) (hm : MaxL w) :
    Calls Tryz.prog 13 #[.agg #[.int .i64 n, .int .u32 d], .int .i64 m, .int .i64 k] w fun xe w' => xe = .returned (.bool true) ∧ Below w.heap.size w w' := by
  have HQ := fun w => qof_any n d ln hn ld hdd w
  have Sa := qmade_sz n d.toNat ln hn (by omega)
  have NB := (qmade_nb n d.toNat ln hn (by omega))
  generalize qmade n d.toNat = a at *
  have HS : ∀ i : Nat, i < 20 → ∀ s t : Rat, s = a ^ i → t = a ^ (i + 1) → ∀ w, Calls Tryz.prog 68 #[fracV s, fracV a] w fun xe w' => xe = .returned (fracV t) ∧ Below w.heap.size w w' := fun i hi s t hs ht w => by
    have h := mulF (a ^ i) a 21 ((Sa.pow i).mono (by omega)) (Sa.mono (by omega)) (by omega) w
    rw [← Rat.pow_succ, ← hs, ← ht] at h
    exact h
  have HW := fun w (h : Tab w ∧ MaxL w) => fworks_any w h.1 h.2
  exact fpowers_23_w a n d m k ((1 : Int) : Rat) HQ HS _ (Keeps.and Keeps.tab MaxL.keeps) HW rfl (by first | exact decide_eq_true (by omega) | exact decide_eq_false (by omega)) (by first | exact decide_eq_true (by omega) | exact decide_eq_false (by omega)) (by first | exact decide_eq_true (by omega) | exact decide_eq_false (by omega)) (by first | exact decide_eq_true (by omega) | exact decide_eq_false (by omega)) (by first | exact decide_eq_true (by omega) | exact decide_eq_false (by omega)) (by first | exact decide_eq_true (by omega) | exact decide_eq_false (by omega)) (by first | exact decide_eq_true (by omega) | exact decide_eq_false (by omega)) (by first | exact decide_eq_true (by omega) | exact decide_eq_false (by omega)) (by first | exact decide_eq_true (by omega) | exact decide_eq_false (by omega)) (by first | exact decide_eq_true (by omega) | exact decide_eq_false (by omega)) w ⟨htab, hm⟩

set_option maxHeartbeats 16000000 in
set_option maxRecDepth 100000 in
theorem fpowers_24_w  (a : Rat) (n : Int) (d : Int) (m : Int) (k : Int) (r1 : Rat) (HQ : ∀ w, Calls Tryz.prog 99 #[.agg #[.int .i64 n, .int .u32 d]] w fun xe w' => xe = .returned (fracV a) ∧ Below w.heap.size w w') (HS : ∀ i : Nat, i < 20 → ∀ s t : Rat, s = a ^ i → t = a ^ (i + 1) → ∀ w, Calls Tryz.prog 68 #[fracV s, fracV a] w fun xe w' => xe = .returned (fracV t) ∧ Below w.heap.size w w') (KW : World → Prop) (hKW : Keeps KW) (HW : ∀ w, KW w → Calls Tryz.prog 57 #[] w fun xe w' => xe = .returned (.bool true) ∧ Below w.heap.size w w') (hone : r1 = 1) (hd2 : decide (m < (-4096)) = false) (hd3 : decide ((-4096) ≤ m) = true) (hd4 : decide (4096 < m) = false) (hd5 : decide (m ≤ 4096) = true) (hd6 : decide (m < (-20)) = true) (hd7 : decide ((-20) ≤ m) = false) (hd8 : decide (n < (-9)) = false) (hd9 : decide ((-9) ≤ n) = true) (hd10 : decide (9 < n) = false) (hd11 : decide (n ≤ 9) = true) (hd12 : decide (9 < d) = true) (hd13 : decide (d ≤ 9) = false) (w : World) (kKW : KW w) :
    Calls Tryz.prog 13 #[.agg #[.int .i64 n, .int .u32 d], .int .i64 m, .int .i64 k] w fun xe w' => xe = .returned (.bool true) ∧ Below w.heap.size w w' := by
  have hL0 : GL w w [] := GL.start w
  replace HQ := Lib.hid HQ
  replace HS := Lib.hid HS
  replace hKW := Lib.hid hKW
  replace HW := Lib.hid HW
  replace hone := Lib.hid hone
  replace hL0 := (hL0.new rfl [.int .i64 n, .int .u32 d] 120)
  generalize hweq : (w.alloc (.cells #[.int .i64 n, .int .u32 d] 120)) = x1 at hL0
  go_enter Tryz.func13, Tryz.ntmps13
  have hN0 := cells_of _ 0 [] rfl (hL0.get _ _ List.mem_cons_self)
  simp only [cellsF, and_true, Nat.zero_add, Nat.reduceAdd] at hN0
  go_wp2_with fail
  clear hN0
  with_reducible refine Calls.mono (HW.out _ (hKW.out.at hL0.bl kKW)) ?_
  rintro e x2 ⟨rfl, hb⟩
  replace hL0 := hL0.call hb
  clear hb hweq
  go_wp2_with fail
  exact bodyPost_ret (v := .bool true) (by simp [results, Tryz.results13, go_sem]) rfl ⟨rfl, hL0.bl⟩

theorem fpowers_24 (n d m k : Int) (ln : -9223372036854775808 ≤ n) (hn : n < 9223372036854775808) (ld : 0 ≤ d) (hdd : d < 4294967296) (lm : -9223372036854775808 ≤ m) (hmm : m < 9223372036854775808) (lk : -9223372036854775808 ≤ k) (hkk : k < 9223372036854775808) (p0 : ¬ m < -4096) (p1 : ¬ 4096 < m) (p2 : m < -20) (p3 : ¬ n < -9) (p4 : ¬ 9 < n) (p5 : 9 < d) (w : World) (htab : Tab w) (hm : MaxL w) :
    Calls Tryz.prog 13 #[.agg #[.int .i64 n, .int .u32 d], .int .i64 m, .int .i64 k] w fun xe w' => xe = .returned (.bool true) ∧ Below w.heap.size w w' := by
  have HQ := fun w => qof_any n d ln hn ld hdd w
  have Sa := qmade_sz n d.toNat ln hn (by omega)
  have NB := (qmade_nb n d.toNat ln hn (by omega))
  generalize qmade n d.toNat = a at *
  have HS : ∀ i : Nat, i < 20 → ∀ s t : Rat, s = a ^ i → t = a ^ (i + 1) → ∀ w, Calls Tryz.prog 68 #[fracV s, fracV a] w fun xe w' => xe = .returned (fracV t) ∧ Below w.heap.size w w' := fun i hi s t hs ht w => by
    have h := mulF (a ^ i) a 21 ((Sa.pow i).mono (by omega)) (Sa.mono (by omega)) (by omega) w
    rw [← Rat.pow_succ, ← hs, ← ht] at h
    exact h
  have HW := fun w (h : Tab w ∧ MaxL w) => fworks_any w h.1 h.2
  exact fpowers_24_w a n d m k ((1 : Int) : Rat) HQ HS _ (Keeps.and Keeps.tab MaxL.keeps) HW rfl (by first | exact decide_eq_true (by omega) | exact decide_eq_false (by omega)) (by first | exact decide_eq_true (by omega) | exact decide_eq_false (by omega)) (by first | exact decide_eq_true (by omega) | exact decide_eq_false (by omega)) (by first | exact decide_eq_true (by omega) | exact decide_eq_false (by omega)) (by first | exact decide_eq_true (by omega) | exact decide_eq_false (by omega)) (by first | exact decide_eq_true (by omega) | exact decide_eq_false (by omega)) (by first | exact decide_eq_true (by omega) | exact decide_eq_false (by omega)) (by first | exact decide_eq_true (by omega) | exact decide_eq_false (by omega)) (by first | exact decide_eq_true (by omega) | exact decide_eq_false (by omega)) (by first | exact decide_eq_true (by omega) | exact decide_eq_false (by omega)) (by first | exact decide_eq_true (by omega) | exact decide_eq_false (by omega)) (by first | exact decide_eq_true (by omega) | exact decide_eq_false (by omega)) w ⟨htab, hm⟩

set_option maxHeartbeats 16000000 in
set_option maxRecDepth 100000 in
theorem fpowers_25_w  (a : Rat) (n : Int) (d : Int) (m : Int) (k : Int) (r1 : Rat) (i1 : Int) (HQ : ∀ w, Calls Tryz.prog 99 #[.agg #[.int .i64 n, .int .u32 d]] w fun xe w' => xe = .returned (fracV a) ∧ Below w.heap.size w w') (HS : ∀ i : Nat, i < 20 → ∀ s t : Rat, s = a ^ i → t = a ^ (i + 1) → ∀ w, Calls Tryz.prog 68 #[fracV s, fracV a] w fun xe w' => xe = .returned (fracV t) ∧ Below w.heap.size w w') (H1 : ∀ w, Calls Tryz.prog 98 #[fracV a, .int .i64 m] w fun xe w' => xe = .returned (.tuple #[.agg #[.int .u64 0, .string ⟨#[]⟩, .bool false, .int .u64 0, .string ⟨#[]⟩], .int .i64 5]) ∧ Below w.heap.size w w') (H2 : ∀ w, Calls Tryz.prog 75 #[fracV a] w fun xe w' => xe = .returned (.int .i64 i1) ∧ Below w.heap.size w w') (KW : World → Prop) (hKW : Keeps KW) (HW : ∀ w, KW w → Calls Tryz.prog 57 #[] w fun xe w' => xe = .returned (.bool true) ∧ Below w.heap.size w w') (hone : r1 = 1) (hd2 : decide (m < (-4096)) = false) (hd3 : decide ((-4096) ≤ m) = true) (hd4 : decide (4096 < m) = false) (hd5 : decide (m ≤ 4096) = true) (hd6 : decide (m < (-20)) = true) (hd7 : decide ((-20) ≤ m) = false) (hd8 : decide (n < (-9)) = false) (hd9 : decide ((-9) ≤ n) = true) (hd10 : decide (9 < n) = false) (hd11 : decide (n ≤ 9) = true) (hd12 : decide (9 < d) = false) (hd13 : decide (d ≤ 9) = true) (hd14 : (i1 == 0) = true) (hd15 : (i1 != 0) = false) (hd16 : decide (m < 0) = true) (hd17 : decide (0 ≤ m) = false) (w : World) (kKW : KW w) :
    Calls Tryz.prog 13 #[.agg #[.int .i64 n, .int .u32 d], .int .i64 m, .int .i64 k] w fun xe w' => xe = .returned (.bool true) ∧ Below w.heap.size w w' := by
  have hL0 : GL w w [] := GL.start w
  replace HQ := Lib.hid HQ
  replace HS := Lib.hid HS
  replace H1 := Lib.hid H1
  replace H2 := Lib.hid H2
  replace hKW := Lib.hid hKW
  replace HW := Lib.hid HW
  replace hone := Lib.hid hone
  replace hL0 := (hL0.new rfl [.int .i64 n, .int .u32 d] 120)
  generalize hweq : (w.alloc (.cells #[.int .i64 n, .int .u32 d] 120)) = x1 at hL0
  go_enter Tryz.func13, Tryz.ntmps13
  have hN0 := cells_of _ 0 [] rfl (hL0.get _ _ List.mem_cons_self)
  simp only [cellsF, and_true, Nat.zero_add, Nat.reduceAdd] at hN0
  go_wp2_with fail
  clear hN0
  with_reducible refine Calls.mono (HQ.out _) ?_
  rintro e x2 ⟨rfl, hb⟩
  replace hL0 := hL0.call hb
  clear hb hweq
  replace hL0 := (hL0.new rfl [.int .u64 ((zl a.num : Nat) : Int), .string (zh a.num), .bool (zs a.num), .int .u64 ((lo (fe a) : Nat) : Int), .string (hs (fe a))] 79)
  generalize hweq : (x2.alloc (.cells #[.int .u64 ((zl a.num : Nat) : Int), .string (zh a.num), .bool (zs a.num), .int .u64 ((lo (fe a) : Nat) : Int), .string (hs (fe a))] 79)) = x3 at hL0
  have hN0 := cells_of _ 0 [] rfl (hL0.get _ _ List.mem_cons_self)
  simp only [cellsF, and_true, Nat.zero_add, Nat.reduceAdd] at hN0
  go_wp2_with fail
  clear hN0
  with_reducible refine Calls.mono (H1.out _) ?_
  rintro e x4 ⟨rfl, hb⟩
  replace hL0 := hL0.call hb
  clear hb hweq
  replace hL0 := (hL0.new rfl [.int .u64 0, .string ⟨#[]⟩, .bool false, .int .u64 0, .string ⟨#[]⟩] 79)
  generalize hweq : (x4.alloc (.cells #[.int .u64 0, .string ⟨#[]⟩, .bool false, .int .u64 0, .string ⟨#[]⟩] 79)) = x5 at hL0
  have hA := hL0.fc
  simp only [fcG, cellsF, neK, and_true, ne_eq, Nat.zero_add, Nat.reduceAdd] at hA
  have hP := hL0.put 0 (x4.heap.size) _ rfl [.int .u64 0, .string ⟨#[]⟩, .bool false, .int .u64 0, .string ⟨#[]⟩] rfl
  simp only [setAll, List.set_cons_zero, List.set_cons_succ] at hP
  generalize hput1 : (((((x5.setCell ⟨x4.heap.size, 0, none⟩ (.int .u64 0)).setCell ⟨x4.heap.size, 1, none⟩ (.string ⟨#[]⟩)).setCell ⟨x4.heap.size, 2, none⟩ (.bool false)).setCell ⟨x4.heap.size, 3, none⟩ (.int .u64 0)).setCell ⟨x4.heap.size, 4, none⟩ (.string ⟨#[]⟩)) = x6 at hP
  have hB1 := hP.fc
  simp only [fcG, cellsF, neK, and_true, ne_eq, Nat.zero_add, Nat.reduceAdd] at hB1
  replace hL0 := hP
  go_wp2_with fail
  clear hA
  with_reducible refine Calls.mono (H2.out _) ?_
  rintro e x7 ⟨rfl, hb⟩
  replace hL0 := hL0.call hb
  clear hb hweq hput1 hB1
  have hN0 := cells_of _ 0 [] rfl (hL0.get _ _ List.mem_cons_self)
  simp only [cellsF, and_true, Nat.zero_add, Nat.reduceAdd] at hN0
  go_wp2_with fail
  clear hN0
  with_reducible refine Calls.mono (HW.out _ (hKW.out.at hL0.bl kKW)) ?_
  rintro e x8 ⟨rfl, hb⟩
  replace hL0 := hL0.call hb
  clear hb
  go_wp2_with fail
  exact bodyPost_ret (v := .bool true) (by simp [results, Tryz.results13, go_sem]) rfl ⟨rfl, hL0.bl⟩

theorem fpowers_25 (n d m k : Int) (ln : -9223372036854775808 ≤ n) (hn : n < 9223372036854775808) (ld : 0 ≤ d) (hdd : d < 4294967296) (lm : -9223372036854775808 ≤ m) (hmm : m < 9223372036854775808) (lk : -9223372036854775808 ≤ k) (hkk : k < 9223372036854775808) (p0 : ¬ m < -4096) (p1 : ¬ 4096 < m) (p2 : m < -20) (p3 : ¬ n < -9) (p4 : ¬ 9 < n) (p5 : ¬ 9 < d) (hz : qmade n d.toNat = 0) (w : World) (htab : Tab w) (hm : MaxL w) :
    Calls Tryz.prog 13 #[.agg #[.int .i64 n, .int .u32 d], .int .i64 m, .int .i64 k] w fun xe w' => xe = .returned (.bool true) ∧ Below w.heap.size w w' := by
  have HQ := fun w => qof_any n d ln hn ld hdd w
  have Sa := qmade_sz n d.toNat ln hn (by omega)
  have NB := (qmade_nb n d.toNat ln hn (by omega))
  generalize qmade n d.toNat = a at *
  have HS : ∀ i : Nat, i < 20 → ∀ s t : Rat, s = a ^ i → t = a ^ (i + 1) → ∀ w, Calls Tryz.prog 68 #[fracV s, fracV a] w fun xe w' => xe = .returned (fracV t) ∧ Below w.heap.size w w' := fun i hi s t hs ht w => by
    have h := mulF (a ^ i) a 21 ((Sa.pow i).mono (by omega)) (Sa.mono (by omega)) (by omega) w
    rw [← Rat.pow_succ, ← hs, ← ht] at h
    exact h
  have H1 := fun w => powZ_zero a hz m (by omega) (by omega) w
  have H2 := fun w => signF a w
  have HW := fun w (h : Tab w ∧ MaxL w) => fworks_any w h.1 h.2
  exact fpowers_25_w a n d m k ((1 : Int) : Rat) (sgnQ a) HQ HS H1 H2 _ (Keeps.and Keeps.tab MaxL.keeps) HW rfl (by first | exact decide_eq_true (by omega) | exact decide_eq_false (by omega)) (by first | exact decide_eq_true (by omega) | exact decide_eq_false (by omega)) (by first | exact decide_eq_true (by omega) | exact decide_eq_false (by omega)) (by first | exact decide_eq_true (by omega) | exact decide_eq_false (by omega)) (by first | exact decide_eq_true (by omega) | exact decide_eq_false (by omega)) (by first | exact decide_eq_true (by omega) | exact decide_eq_false (by omega)) (by first | exact decide_eq_true (by omega) | exact decide_eq_false (by omega)) (by first | exact decide_eq_true (by omega) | exact decide_eq_false (by omega)) (by first | exact decide_eq_true (by omega) | exact decide_eq_false (by omega)) (by first | exact decide_eq_true (by omega) | exact decide_eq_false (by omega)) (by first | exact decide_eq_true (by omega) | exact decide_eq_false (by omega)) (by first | exact decide_eq_true (by omega) | exact decide_eq_false (by omega)) (by first | (rw [sgnQ_eq0]; simp [hz]) | (rw [bne, sgnQ_eq0]; simp [hz])) (by first | (rw [sgnQ_eq0]; simp [hz]) | (rw [bne, sgnQ_eq0]; simp [hz])) (by first | exact decide_eq_true (by omega) | exact decide_eq_false (by omega)) (by first | exact decide_eq_true (by omega) | exact decide_eq_false (by omega)) w ⟨htab, hm⟩

set_option maxHeartbeats 16000000 in
set_option maxRecDepth 100000 in
theorem fpowers_26_w  (a : Rat) (n : Int) (d : Int) (m : Int) (k : Int) (r1 : Rat) (r2 : Rat) (i1 : Int) (HQ : ∀ w, Calls Tryz.prog 99 #[.agg #[.int .i64 n, .int .u32 d]] w fun xe w' => xe = .returned (fracV a) ∧ Below w.heap.size w w') (HS : ∀ i : Nat, i < 20 → ∀ s t : Rat, s = a ^ i → t = a ^ (i + 1) → ∀ w, Calls Tryz.prog 68 #[fracV s, fracV a] w fun xe w' => xe = .returned (fracV t) ∧ Below w.heap.size w w') (H1 : ∀ w, Calls Tryz.prog 98 #[fracV a, .int .i64 m] w fun xe w' => xe = .returned (.tuple #[fracV r2, .int .i64 0]) ∧ Below w.heap.size w w') (H2 : ∀ w, Calls Tryz.prog 75 #[fracV a] w fun xe w' => xe = .returned (.int .i64 i1) ∧ Below w.heap.size w w') (KW : World → Prop) (hKW : Keeps KW) (HW : ∀ w, KW w → Calls Tryz.prog 57 #[] w fun xe w' => xe = .returned (.bool true) ∧ Below w.heap.size w w') (hone : r1 = 1) (hd2 : decide (m < (-4096)) = false) (hd3 : decide ((-4096) ≤ m) = true) (hd4 : decide (4096 < m) = false) (hd5 : decide (m ≤ 4096) = true) (hd6 : decide (m < (-20)) = true) (hd7 : decide ((-20) ≤ m) = false) (hd8 : decide (n < (-9)) = false) (hd9 : decide ((-9) ≤ n) = true) (hd10 : decide (9 < n) = false) (hd11 : decide (n ≤ 9) = true) (hd12 : decide (9 < d) = false) (hd13 : decide (d ≤ 9) = true) (hd14 : (i1 == 0) = false) (hd15 : (i1 != 0) = true) (w : World) (kKW : KW w) :
    Calls Tryz.prog 13 #[.agg #[.int .i64 n, .int .u32 d], .int .i64 m, .int .i64 k] w fun xe w' => xe = .returned (.bool true) ∧ Below w.heap.size w w' := by
  have hL0 : GL w w [] := GL.start w
  replace HQ := Lib.hid HQ
  replace HS := Lib.hid HS
  replace H1 := Lib.hid H1
  replace H2 := Lib.hid H2
  replace hKW := Lib.hid hKW
  replace HW := Lib.hid HW
  replace hone := Lib.hid hone
  replace hL0 := (hL0.new rfl [.int .i64 n, .int .u32 d] 120)
  generalize hweq : (w.alloc (.cells #[.int .i64 n, .int .u32 d] 120)) = x1 at hL0
  go_enter Tryz.func13, Tryz.ntmps13
  have hN0 := cells_of _ 0 [] rfl (hL0.get _ _ List.mem_cons_self)
  simp only [cellsF, and_true, Nat.zero_add, Nat.reduceAdd] at hN0
  go_wp2_with fail
  clear hN0
  with_reducible refine Calls.mono (HQ.out _) ?_
  rintro e x2 ⟨rfl, hb⟩
  replace hL0 := hL0.call hb
  clear hb hweq
  replace hL0 := (hL0.new rfl [.int .u64 ((zl a.num : Nat) : Int), .string (zh a.num), .bool (zs a.num), .int .u64 ((lo (fe a) : Nat) : Int), .string (hs (fe a))] 79)
  generalize hweq : (x2.alloc (.cells #[.int .u64 ((zl a.num : Nat) : Int), .string (zh a.num), .bool (zs a.num), .int .u64 ((lo (fe a) : Nat) : Int), .string (hs (fe a))] 79)) = x3 at hL0
  have hN0 := cells_of _ 0 [] rfl (hL0.get _ _ List.mem_cons_self)
  simp only [cellsF, and_true, Nat.zero_add, Nat.reduceAdd] at hN0
  go_wp2_with fail
  clear hN0
  with_reducible refine Calls.mono (H1.out _) ?_
  rintro e x4 ⟨rfl, hb⟩
  replace hL0 := hL0.call hb
  clear hb hweq
  replace hL0 := (hL0.new rfl [.int .u64 ((zl r2.num : Nat) : Int), .string (zh r2.num), .bool (zs r2.num), .int .u64 ((lo (fe r2) : Nat) : Int), .string (hs (fe r2))] 79)
  generalize hweq : (x4.alloc (.cells #[.int .u64 ((zl r2.num : Nat) : Int), .string (zh r2.num), .bool (zs r2.num), .int .u64 ((lo (fe r2) : Nat) : Int), .string (hs (fe r2))] 79)) = x5 at hL0
  have hN0 := cells_of _ 0 [] rfl (hL0.get _ _ (List.mem_cons_of_mem _ List.mem_cons_self))
  simp only [cellsF, and_true, Nat.zero_add, Nat.reduceAdd] at hN0
  go_wp2_with fail
  clear hN0
  with_reducible refine Calls.mono (H2.out _) ?_
  rintro e x6 ⟨rfl, hb⟩
  replace hL0 := hL0.call hb
  clear hb hweq
  go_wp2_with fail
  with_reducible refine Calls.mono (HW.out _ (hKW.out.at hL0.bl kKW)) ?_
  rintro e x7 ⟨rfl, hb⟩
  replace hL0 := hL0.call hb
  clear hb
  go_wp2_with fail
  exact bodyPost_ret (v := .bool true) (by simp [results, Tryz.results13, go_sem]) rfl ⟨rfl, hL0.bl⟩

theorem fpowers_26 (n d m k : Int) (ln : -9223372036854775808 ≤ n) (hn : n < 9223372036854775808) (ld : 0 ≤ d) (hdd : d < 4294967296) (lm : -9223372036854775808 ≤ m) (hmm : m < 9223372036854775808) (lk : -9223372036854775808 ≤ k) (hkk : k < 9223372036854775808) (p0 : ¬ m < -4096) (p1 : ¬ 4096 < m) (p2 : m < -20) (p3 : ¬ n < -9) (p4 : ¬ 9 < n) (p5 : ¬ 9 < d) (hz : qmade n d.toNat ≠ 0) (w : World) (htab : Tab w) (hm : MaxL w) :
    Calls Tryz.prog 13 #[.agg #[.int .i64 n, .int .u32 d], .int .i64 m, .int .i64 k] w fun xe w' => xe = .returned (.bool true) ∧ Below w.heap.size w w' := by
  have HQ := fun w => qof_any n d ln hn ld hdd w
  have Sa := qmade_sz n d.toNat ln hn (by omega)
  have NB := (qmade_nb4 n d.toNat (by omega) (by omega) (by omega))
  generalize qmade n d.toNat = a at *
  have HS : ∀ i : Nat, i < 20 → ∀ s t : Rat, s = a ^ i → t = a ^ (i + 1) → ∀ w, Calls Tryz.prog 68 #[fracV s, fracV a] w fun xe w' => xe = .returned (fracV t) ∧ Below w.heap.size w w' := fun i hi s t hs ht w => by
    have h := mulF (a ^ i) a 21 ((Sa.pow i).mono (by omega)) (Sa.mono (by omega)) (by omega) w
    rw [← Rat.pow_succ, ← hs, ← ht] at h
    exact h
  have Sr2 := trivial
  have H1 := fun w => powZ a m (by first | exact .inr (by omega) | exact .inl hz) (by omega) 4 (by rcases Nat.eq_zero_or_pos ((m : Int)).natAbs with h | h; exact .inl h; exact .inr ((Nat.le_div_iff_mul_le h).2 (by omega))) NB.1 NB.2 (Sa.mono (by omega)) w
  have H2 := fun w => signF a w
  have HW := fun w (h : Tab w ∧ MaxL w) => fworks_any w h.1 h.2
  exact fpowers_26_w a n d m k ((1 : Int) : Rat) (a ^ m) (sgnQ a) HQ HS H1 H2 _ (Keeps.and Keeps.tab MaxL.keeps) HW rfl (by first | exact decide_eq_true (by omega) | exact decide_eq_false (by omega)) (by first | exact decide_eq_true (by omega) | exact decide_eq_false (by omega)) (by first | exact decide_eq_true (by omega) | exact decide_eq_false (by omega)) (by first | exact decide_eq_true (by omega) | exact decide_eq_false (by omega)) (by first | exact decide_eq_true (by omega) | exact decide_eq_false (by omega)) (by first | exact decide_eq_true (by omega) | exact decide_eq_false (by omega)) (by first | exact decide_eq_true (by omega) | exact decide_eq_false (by omega)) (by first | exact decide_eq_true (by omega) | exact decide_eq_false (by omega)) (by first | exact decide_eq_true (by omega) | exact decide_eq_false (by omega)) (by first | exact decide_eq_true (by omega) | exact decide_eq_false (by omega)) (by first | exact decide_eq_true (by omega) | exact decide_eq_false (by omega)) (by first | exact decide_eq_true (by omega) | exact decide_eq_false (by omega)) (by first | (rw [sgnQ_eq0]; simp [hz]) | (rw [bne, sgnQ_eq0]; simp [hz])) (by first | (rw [sgnQ_eq0]; simp [hz]) | (rw [bne, sgnQ_eq0]; simp [hz])) w ⟨htab, hm⟩

theorem fpowers_any (n d m k : Int) (ln : -9223372036854775808 ≤ n) (hn : n < 9223372036854775808) (ld : 0 ≤ d) (hdd : d < 4294967296) (lm : -9223372036854775808 ≤ m) (hmm : m < 9223372036854775808) (lk : -9223372036854775808 ≤ k) (hkk : k < 9223372036854775808) (w : World) (htab : Tab w) (hm : MaxL w) :
    Calls Tryz.prog 13 #[.agg #[.int .i64 n, .int .u32 d], .int .i64 m, .int .i64 k] w fun xe w' => xe = .returned (.bool true) ∧ Below w.heap.size w w' := by
  by_cases p0 : m < -4096
  · exact fpowers_0 n d m k ln hn ld hdd lm hmm lk hkk p0 w htab hm
  · by_cases p1 : 4096 < m
    · exact fpowers_1 n d m k ln hn ld hdd lm hmm lk hkk p0 p1 w htab hm
    · by_cases p2 : m < -20
      · by_cases p3 : n < -9
        · exact fpowers_2 n d m k ln hn ld hdd lm hmm lk hkk p0 p1 p2 p3 w htab hm
        · by_cases p4 : 9 < n
          · exact fpowers_23 n d m k ln hn ld hdd lm hmm lk hkk p0 p1 p2 p3 p4 w htab hm
          · by_cases p5 : 9 < d
            · exact fpowers_24 n d m k ln hn ld hdd lm hmm lk hkk p0 p1 p2 p3 p4 p5 w htab hm
            · by_cases hz : qmade n d.toNat = 0
              · exact fpowers_25 n d m k ln hn ld hdd lm hmm lk hkk p0 p1 p2 p3 p4 p5 hz w htab hm
              · exact fpowers_26 n d m k ln hn ld hdd lm hmm lk hkk p0 p1 p2 p3 p4 p5 hz w htab hm
      · by_cases p3 : 20 < m
        · by_cases p4 : n < -9
          · exact fpowers_3 n d m k ln hn ld hdd lm hmm lk hkk p0 p1 p2 p3 p4 w htab hm
          · by_cases p5 : 9 < n
            · exact fpowers_19 n d m k ln hn ld hdd lm hmm lk hkk p0 p1 p2 p3 p4 p5 w htab hm
            · by_cases p6 : 9 < d
              · exact fpowers_20 n d m k ln hn ld hdd lm hmm lk hkk p0 p1 p2 p3 p4 p5 p6 w htab hm
              · by_cases hz : qmade n d.toNat = 0
                · exact fpowers_21 n d m k ln hn ld hdd lm hmm lk hkk p0 p1 p2 p3 p4 p5 p6 hz w htab hm
                · exact fpowers_22 n d m k ln hn ld hdd lm hmm lk hkk p0 p1 p2 p3 p4 p5 p6 hz w htab hm
        · by_cases p4 : m < 0
          · by_cases hz : qmade n d.toNat = 0
            · exact fpowers_4 n d m k ln hn ld hdd lm hmm lk hkk p0 p1 p2 p3 p4 hz w htab hm
            · by_cases p6 : k < -20
              · exact fpowers_14 n d m k ln hn ld hdd lm hmm lk hkk p0 p1 p2 p3 p4 hz p6 w htab hm
              · by_cases p7 : 20 < k
                · exact fpowers_15 n d m k ln hn ld hdd lm hmm lk hkk p0 p1 p2 p3 p4 hz p6 p7 w htab hm
                · by_cases p8 : k < 0
                  · exact fpowers_16 n d m k ln hn ld hdd lm hmm lk hkk p0 p1 p2 p3 p4 hz p6 p7 p8 w htab hm
                  · by_cases p9 : m + k < 0
                    · exact fpowers_17 n d m k ln hn ld hdd lm hmm lk hkk p0 p1 p2 p3 p4 hz p6 p7 p8 p9 w htab hm
                    · exact fpowers_18 n d m k ln hn ld hdd lm hmm lk hkk p0 p1 p2 p3 p4 hz p6 p7 p8 p9 w htab hm
          · by_cases hz : qmade n d.toNat = 0
            · by_cases p6 : k < -20
              · exact fpowers_5 n d m k ln hn ld hdd lm hmm lk hkk p0 p1 p2 p3 p4 hz p6 w htab hm
              · by_cases p7 : 20 < k
                · exact fpowers_11 n d m k ln hn ld hdd lm hmm lk hkk p0 p1 p2 p3 p4 hz p6 p7 w htab hm
                · by_cases p8 : k < 0
                  · exact fpowers_12 n d m k ln hn ld hdd lm hmm lk hkk p0 p1 p2 p3 p4 hz p6 p7 p8 w htab hm
                  · exact fpowers_13 n d m k ln hn ld hdd lm hmm lk hkk p0 p1 p2 p3 p4 hz p6 p7 p8 w htab hm
            · by_cases p6 : k < -20
              · exact fpowers_6 n d m k ln hn ld hdd lm hmm lk hkk p0 p1 p2 p3 p4 hz p6 w htab hm
              · by_cases p7 : 20 < k
                · exact fpowers_7 n d m k ln hn ld hdd lm hmm lk hkk p0 p1 p2 p3 p4 hz p6 p7 w htab hm
                · by_cases p8 : k < 0
                  · by_cases p9 : m + k < 0
                    · exact fpowers_8 n d m k ln hn ld hdd lm hmm lk hkk p0 p1 p2 p3 p4 hz p6 p7 p8 p9 w htab hm
                    · exact fpowers_10 n d m k ln hn ld hdd lm hmm lk hkk p0 p1 p2 p3 p4 hz p6 p7 p8 p9 w htab hm
                  · exact fpowers_9 n d m k ln hn ld hdd lm hmm lk hkk p0 p1 p2 p3 p4 hz p6 p7 p8 w htab hm

end Go.Proofs.YtecdnohhengfaaaGreatDoor

/-
  The law FracsPowers answers true at every input, and leaves its arguments as they were. CONDITIONS: the package-level tables start as the program's text lays them (the card ties them).
-/
namespace Go.Proofs.YtecdnohhengfaaaGreatDoor.fracsPowers
open Go.ChangeShapes Go.WideShapes Go.ChangeAt Go.RowKit

set_option maxRecDepth 100000 in
theorem contract (H : Type) (enc : TypeId × Value → H) (W : World) (base : Nat) (args : Array Value) (ds gs : List (DataW H)) (before : List MemPlace)
    (hval : ∀ (j : Nat) t v, Tryz.f13.params[j]? = some t → args[j]? = some v → Value.okWide Tryz.prog W .any base t v)
    (hW : DataW.Whole enc Tryz.prog Tryz.f13.params.toList Rows.fracsPowersSpec.vars false W args.toList ds gs before) (hL : laidMetH Tryz.prog Rows.fracsPowersRow.laid W) (hSh : W.ShapedOpen Tryz.prog) :
    Calls Tryz.prog 13 args W fun e W' => ∃ v, e = .returned v ∧ Rows.fracsPowersSpec.post enc Tryz.prog Tryz.f13 false true false false W args v W' := by
  have hW' := hW
  obtain ⟨p, q, hA0, hV, rfl, _, _⟩ := hW
  have hA : DataW.TrodAll enc Tryz.prog W 0 (fun _ => true) true Tryz.f13.params.toList args.toList ds p := hA0
  rw [Tryz.params13] at hA hval
  obtain ⟨v0, v1, v2, e0, e1, e2, p0, p1, p2, rfl, rfl, rfl, h0, h1, h2⟩ := trodAll_three hA
  obtain ⟨rfl, rfl⟩ := trodVars_none hV
  clear hA0
  simp only [List.append_nil] at hW'
  have hlt : ∀ x ∈ p0 ++ p1 ++ p2, x.block < W.heap.size := fun x hx => by simpa using hW'.lt x hx
  have t0 : ∀ x ∈ p0, x.block < W.heap.size := fun x hx => hlt x (by simp [hx])
  obtain ⟨n0, d0, rfl, b0, g0⟩ := q_of (hval 0 120 v0 rfl rfl) h0
  obtain ⟨z1, rfl, rfl, rfl, f1⟩ := open_int Tryz.underlying3 (hval 1 3 v1 rfl rfl) h1
  have b1 := bounds_i64 f1
  obtain ⟨z2, rfl, rfl, rfl, f2⟩ := open_int Tryz.underlying3 (hval 2 3 v2 rfl rfl) h2
  have b2 := bounds_i64 f2
  refine (fpowers_any n0 d0 z1 z2 b0.1 b0.2 g0.1 g0.2 (by omega) (by omega) (by omega) (by omega) W (tab_of hL) (maxL_of hSh)).mono fun e W' ⟨he, hb⟩ => ?_
  subst he
  refine ⟨_, rfl, _, _, _, [], ?pl, [], hW', ?_, ?_, rfl, hb.frame _, fun h => by cases h⟩
  rotate_left
  · exact trodAll_mk1 (shut_bool Tryz.underlying4 _)
  · exact trodAll_mk3 (Below.trod laidOut (by kernel_rfl) (of_decide_eq_true (by kernel_rfl)) h0 hb t0) (shut_int Tryz.underlying3 f1) (shut_int Tryz.underlying3 f2)

/-- A world for the witness: the settled one, the tables as their initialisers lay them. -/
noncomputable def laidWorld (os : Os) : World := World.laidAll Tryz.prog os Rows.fracsPowersRow.laid
theorem laid_met (os : Os) : laidMet Tryz.prog Rows.fracsPowersRow.laid ((laidWorld os).forCall (fun _ _ => 0) ⟨#[], #[.agg #[.int .i64 0, .int .u32 0], .int .i64 0, .int .i64 0], []⟩).memory :=
  laidMet_laidAll _ (by kernel_rfl) (by kernel_rfl)
theorem reads (os : Os) {H : Type} (enc : TypeId × Value → H) : ∃ places, DataW.whole enc Tryz.prog ((laidWorld os).forCall (fun _ _ => 0) ⟨#[], #[.agg #[.int .i64 0, .int .u32 0], .int .i64 0, .int .i64 0], []⟩).memory Tryz.f13.params.toList Rows.fracsPowersSpec.vars false (#[.agg #[.int .i64 0, .int .u32 0], .int .i64 0, .int .i64 0] : Array Value).toList 8 = some ([.agg [.lit (.int .i64 0), .lit (.int .u32 0)], .lit (.int .i64 0), .lit (.int .i64 0)], [], places) :=
  ⟨[], by kernel_rfl⟩

set_option maxRecDepth 100000 in
theorem lifted (os : Os) (started : os.Started) (H : Type) (enc : TypeId × Value → H) (F : Stop.Interp) :
    ReturnsInHanded {} Tryz.checked os 13 .any ((OpenSpec.ofChange Rows.fracsPowersSpec).preRow enc Tryz.prog Tryz.f13 Rows.fracsPowersRow.domain false Rows.fracsPowersRow.laid) (((OpenSpec.ofChange Rows.fracsPowersSpec).at F).post enc Tryz.prog Tryz.f13 false true false false) := by
  obtain ⟨places, hx⟩ := reads os enc
  refine returnsInHanded_of_row (C := Tryz.checked) (s := OpenSpec.ofChange Rows.fracsPowersSpec) own started (by kernel_rfl) Tryz.func13
    (witness_row_at (enc := enc) (C := Tryz.checked) false (laidWorld os) #[.agg #[.int .i64 0, .int .u32 0], .int .i64 0, .int .i64 0] (World.laidAll_os _ _ _) (by kernel_rfl) (by kernel_rfl) (by kernel_rfl)
      (OpenSpec.preRow_of_cond 8 hx (by kernel_rfl) (fun k hk => by cases hk) (by kernel_rfl) (laid_met os))) ?_
  intro W base args ds gs before hval hW _ _ _ hL hSh _
  exact contract H enc W base args ds gs before hval hW hL hSh

theorem said : Rows.FracsPowersSaid :=
  OpenClaim.holds_of_cond 13 Tryz.f13 rfl rfl rfl rfl rfl rfl rfl ⟨rfl, rfl, rfl, rfl, rfl⟩ rfl rfl rfl rfl rfl (by kernel_rfl) Tryz.func13 (by kernel_rfl)
    (of_decide_eq_true (by kernel_rfl)) (by unfold Func.isWrapper; first | (rw [if_pos (by decide +kernel)]; kernel_rfl) | (rw [if_neg (by decide +kernel)]; exact ⟨rfl, rfl⟩))
    (fun os started H enc _ F => by rw [OpenClaim.pre_eq_preRow]; exact lifted os started H enc F)

theorem plain (f : FuncId) (fn : Func) (hf : Tryz.pinned.checked.prog.funcNamed "gusset/gussetlaw03.FracsPowers" = some f) (hfn : Tryz.pinned.checked.prog.funcs[f]? = some fn) :
    false = Tryz.pinned.checked.prog.looks [] ∧ ∀ (j : Nat) t, fn.params[j]? = some t → Tryz.pinned.checked.prog.wantsStandIn t = false := by
  obtain rfl : f = 13 := Option.some.inj ((show Tryz.prog.funcNamed "gusset/gussetlaw03.FracsPowers" = some 13 by kernel_rfl).symm.trans hf) |>.symm
  obtain rfl : fn = Tryz.f13 := (Option.some.inj (Tryz.func13.symm.trans hfn)).symm
  refine ⟨by kernel_rfl, fun j t ht => ?_⟩
  rw [Tryz.params13] at ht
  have hm := Array.mem_of_getElem? ht
  simp only [List.mem_toArray, List.mem_cons, List.not_mem_nil, or_false] at hm
  rcases hm with rfl | rfl | rfl
  · exact (show Tryz.prog.wantsStandIn 120 = false by kernel_rfl)
  · exact (show Tryz.prog.wantsStandIn 3 = false by kernel_rfl)
  · exact (show Tryz.prog.wantsStandIn 3 = false by kernel_rfl)
end Go.Proofs.YtecdnohhengfaaaGreatDoor.fracsPowers

namespace Go.Proofs.YtecdnohhengfaaaGreatDoor
open Go.ChangeShapes Go.WideShapes Go.ChangeAt Go.RowKit
/-- THE CARD -/
theorem fracsPowersProved : Rows.FracsPowersCardSaid :=
  Claim7.holds_tied_plain_at .later [] _ _ _ _ fracsPowers.said (fun _ h => by cases h) (by kernel_rfl) (fun _ h => by cases h) fracsPowers_row_tie rfl ⟨rfl, rfl⟩ (by kernel_rfl) rfl fracsPowers.plain (by kernel_rfl)
end Go.Proofs.YtecdnohhengfaaaGreatDoor
