/-
  Layer 2, the reference: From, Text, Parse.
-/
import Derived.Test.YthehcjfmokabfaaDoorGl
import Derived.Test.YthehcjfmokabfaaDoorRz
set_option linter.unusedVariables false
set_option linter.unusedSimpArgs false
namespace Go.Proofs.YthehcjfmokabfaaDoor
open Go.RowKit Go.Proofs.YthehcjfmokabfaaDoor.Rx
attribute [local irreducible] lo hs sm s64 c64 d64 b64 mh ml pd pc qd qc val hiB str cmpI srD lz nb isq decB dval

theorem sl_upd {w w' : World} {k : Nat} {c : List Value} {v : Value} {l : List Nat} (h : Sl w v l) (hu : Upd k w w') (hd : Hd w k c) (hc : ∀ v ∈ c, ∀ n, v ≠ .int .i64 n) : Sl w' v l := by
  rcases h with h | ⟨a, c1, h1, h2, h3⟩
  · exact .inl h
  · refine .inr ⟨a, c1, h1, h2, fun i hi => ?_, by rw [hu.size]; exact h3.blk⟩
    have hx := h3.cell i hi
    exact (World.cell?_of_block (w := w) (hu.block _ (hd.no_int hc hx))).trans hx

set_option maxHeartbeats 4000000 in
set_option maxRecDepth 100000 in
theorem rfrom_false (a : Option Addr) (n c : Nat)  (w : World) :
    Calls Tryd.prog 33 #[.bool false, .slice a n c] w fun e w' => e = .returned (.agg #[.bool false, .slice a n c]) ∧ Below w.heap.size w w' := by
  have hL0 : GL w w [] := GL.start w
  replace hL0 := (hL0.new rfl [.bool false, .slice none 0 0] 34)
  generalize hweq : (w.alloc (.cells #[.bool false, .slice none 0 0] 34)) = x1 at hL0
  go_enter Tryd.func33, Tryd.ntmps33
  have hA := hL0.fc
  simp only [fcG, cellsF, neK, and_true, ne_eq, Nat.zero_add, Nat.reduceAdd] at hA
  have hP := hL0.put 0 (w.heap.size) _ rfl [.bool false, .slice a n c] rfl
  simp only [setAll, List.set_cons_zero, List.set_cons_succ] at hP
  generalize hput1 : ((x1.setCell ⟨w.heap.size, 0, none⟩ (.bool false)).setCell ⟨w.heap.size, 1, none⟩ (.slice a n c)) = x2 at hP
  have hB1 := hP.fc
  simp only [fcG, cellsF, neK, and_true, ne_eq, Nat.zero_add, Nat.reduceAdd] at hB1
  replace hL0 := hP
  go_wp2_with fail
  exact bodyPost_ret (v := .agg #[.bool false, .slice a n c]) (by simp [results, Tryd.results33, go_sem, hB1]) rfl ⟨rfl, hL0.bl⟩

set_option maxHeartbeats 4000000 in
set_option maxRecDepth 100000 in
theorem rfrom_zero (a : Option Addr) (n c : Nat) (h : n = 0) (w : World) :
    Calls Tryd.prog 33 #[.bool true, .slice a n c] w fun e w' => e = .returned (.agg #[.bool false, .slice a n c]) ∧ Below w.heap.size w w' := by
  have hL0 : GL w w [] := GL.start w
  subst h
  replace hL0 := (hL0.new rfl [.bool false, .slice none 0 0] 34)
  generalize hweq : (w.alloc (.cells #[.bool false, .slice none 0 0] 34)) = x1 at hL0
  go_enter Tryd.func33, Tryd.ntmps33
  have hA := hL0.fc
  simp only [fcG, cellsF, neK, and_true, ne_eq, Nat.zero_add, Nat.reduceAdd] at hA
  have hP := hL0.put 0 (w.heap.size) _ rfl [.bool false, .slice a 0 c] rfl
  simp only [setAll, List.set_cons_zero, List.set_cons_succ] at hP
  generalize hput1 : ((x1.setCell ⟨w.heap.size, 0, none⟩ (.bool false)).setCell ⟨w.heap.size, 1, none⟩ (.slice a 0 c)) = x2 at hP
  have hB1 := hP.fc
  simp only [fcG, cellsF, neK, and_true, ne_eq, Nat.zero_add, Nat.reduceAdd] at hB1
  replace hL0 := hP
  go_wp2_with fail
  exact bodyPost_ret (v := .agg #[.bool false, .slice a 0 c]) (by simp [results, Tryd.results33, go_sem, hB1]) rfl ⟨rfl, hL0.bl⟩

set_option maxHeartbeats 4000000 in
set_option maxRecDepth 100000 in
theorem rfrom_true (a : Option Addr) (n c : Nat) (h : 0 < n) (w : World) :
    Calls Tryd.prog 33 #[.bool true, .slice a n c] w fun e w' => e = .returned (.agg #[.bool true, .slice a n c]) ∧ Below w.heap.size w w' := by
  have hL0 : GL w w [] := GL.start w
  have f1 : decide ((0 : Int) < (n : Int)) = true := decide_eq_true (by omega)
  have f2 : decide (0 < n) = true := decide_eq_true h
  clear h
  replace hL0 := (hL0.new rfl [.bool false, .slice none 0 0] 34)
  generalize hweq : (w.alloc (.cells #[.bool false, .slice none 0 0] 34)) = x1 at hL0
  go_enter Tryd.func33, Tryd.ntmps33
  have hA := hL0.fc
  simp only [fcG, cellsF, neK, and_true, ne_eq, Nat.zero_add, Nat.reduceAdd] at hA
  have hP := hL0.put 0 (w.heap.size) _ rfl [.bool true, .slice a n c] rfl
  simp only [setAll, List.set_cons_zero, List.set_cons_succ] at hP
  generalize hput1 : ((x1.setCell ⟨w.heap.size, 0, none⟩ (.bool true)).setCell ⟨w.heap.size, 1, none⟩ (.slice a n c)) = x2 at hP
  have hB1 := hP.fc
  simp only [fcG, cellsF, neK, and_true, ne_eq, Nat.zero_add, Nat.reduceAdd] at hB1
  replace hL0 := hP
  go_wp2_with fail
  exact bodyPost_ret (v := .agg #[.bool true, .slice a n c]) (by simp [results, Tryd.results33, go_sem, hB1]) rfl ⟨rfl, hL0.bl⟩

theorem td_len_zero (n : Nat) : (td n).length = 0 ↔ n = 0 := by
  constructor
  · intro h
    have h1 := tv_td n
    rw [List.length_eq_zero_iff.1 h] at h1
    exact h1.symm
  · rintro rfl; rw [td_zero]; rfl
theorem rfrom_any (s : Bool) (v : Value) (n : Nat) (w : World) (hv : Rn w v n) : Calls Tryd.prog 33 #[.bool s, v] w fun e w' => e = .returned (.agg #[.bool (s && decide (n ≠ 0)), v]) ∧ Below w.heap.size w w' := by
  obtain ⟨ao, c, rfl⟩ := hv.form
  have hz : (td n).length = 0 ↔ n = 0 := td_len_zero n
  cases s with
  | false => exact rfrom_false ao _ c w
  | true =>
    by_cases h : n = 0
    · rw [Bool.true_and, decide_eq_false (by simpa using h)]; exact rfrom_zero ao _ c (hz.2 h) w
    · rw [Bool.true_and, decide_eq_true h]; exact rfrom_true ao _ c (by omega) w

set_option maxHeartbeats 4000000 in
set_option maxRecDepth 100000 in
theorem rztext_false (v : Value) (n : Nat) (hl : (td n).length ≤ 1000000) (w : World) (hv : Rn w v n) :
    Calls Tryd.prog 12 #[.agg #[.bool false, v]] w fun e w' => e = .returned (.string (txt n)) ∧ Below w.heap.size w w' := by
  have hL0 : GL w w [] := GL.start w
  have HT := Lib.hid (fun w h => rtext_any v n hl w h)
  obtain ⟨ao, c, rfl⟩ := hv.form
  generalize hlen : (td n).length = k at *
  replace hlen := Lib.hid hlen
  clear hl
  generalize txt n = t at *
  replace hL0 := (hL0.new rfl [.bool false, .slice ao k c] 34)
  generalize hweq : (w.alloc (.cells #[.bool false, .slice ao k c] 34)) = x1 at hL0
  replace hv := Lib.hid (hv.below hL0.bl)
  go_enter Tryd.func12, Tryd.ntmps12
  have hA := hL0.fc
  simp only [fcG, cellsF, neK, and_true, ne_eq, Nat.zero_add, Nat.reduceAdd] at hA
  go_wp2_with fail
  clear hA
  with_reducible refine Calls.mono (HT.out _ hv.out) ?_
  rintro e x2 ⟨rfl, hb⟩
  replace hL0 := hL0.call hb
  clear hb hweq
  have hA := hL0.fc
  simp only [fcG, cellsF, neK, and_true, ne_eq, Nat.zero_add, Nat.reduceAdd] at hA
  go_wp2_with fail
  exact bodyPost_ret (v := .string t) (by simp [results, Tryd.results12, go_sem, hA]) rfl ⟨rfl, hL0.bl⟩

set_option maxHeartbeats 4000000 in
set_option maxRecDepth 100000 in
theorem rztext_true (v : Value) (n : Nat) (hl : (td n).length ≤ 1000000) (w : World) (hv : Rn w v n) :
    Calls Tryd.prog 12 #[.agg #[.bool true, v]] w fun e w' => e = .returned (.string (ByteArray.mk #[45] ++ txt n)) ∧ Below w.heap.size w w' := by
  have hL0 : GL w w [] := GL.start w
  have HT := Lib.hid (fun w h => rtext_any v n hl w h)
  obtain ⟨ao, c, rfl⟩ := hv.form
  have hts : ((txt n).size : Int) ≤ 4000000 := by have := (dec_td hl (by omega)); show ((Lib.decDigits n).length : Int) ≤ _; omega
  generalize hlen : (td n).length = k at *
  replace hlen := Lib.hid hlen
  clear hl
  generalize txt n = t at *
  replace hL0 := (hL0.new rfl [.bool true, .slice ao k c] 34)
  generalize hweq : (w.alloc (.cells #[.bool true, .slice ao k c] 34)) = x1 at hL0
  replace hv := Lib.hid (hv.below hL0.bl)
  go_enter Tryd.func12, Tryd.ntmps12
  have hA := hL0.fc
  simp only [fcG, cellsF, neK, and_true, ne_eq, Nat.zero_add, Nat.reduceAdd] at hA
  go_wp2_with fail
  clear hA
  with_reducible refine Calls.mono (HT.out _ hv.out) ?_
  rintro e x2 ⟨rfl, hb⟩
  replace hL0 := hL0.call hb
  clear hb hweq
  have hA := hL0.fc
  simp only [fcG, cellsF, neK, and_true, ne_eq, Nat.zero_add, Nat.reduceAdd] at hA
  go_wp2_with fail
  exact bodyPost_ret (v := .string (ByteArray.mk #[45] ++ t)) (by simp [results, Tryd.results12, go_sem, hA]) rfl ⟨rfl, hL0.bl⟩

theorem rparse_dec (l : List UInt8) (h : l.length ≤ 4096) (hd : isDec l) (w : World) :
    Calls Tryd.prog 32 #[.string (st l)] w fun e w' => (∃ v, e = .returned (.tuple #[v, .int .i64 0]) ∧ Rn w' v (dval l)) ∧ Below w.heap.size w w' :=
  (rparse_any l h w).mono fun e w' ⟨h1, h2⟩ => ⟨h1.elim (fun h => h.2) (fun h => absurd hd h.1), h2⟩
theorem rparse_form (l : List UInt8) (h : l.length ≤ 4096) (hd : ¬ isDec l) (w : World) :
    Calls Tryd.prog 32 #[.string (st l)] w fun e w' => e = .returned (.tuple #[.slice none 0 0, .int .i64 4]) ∧ Below w.heap.size w w' :=
  (rparse_any l h w).mono fun e w' ⟨h1, h2⟩ => ⟨h1.elim (fun h => absurd h.1 hd) (fun h => h.2), h2⟩

theorem st_drop1 (r : List UInt8) : (st (45 :: r)).extract 1 (st (45 :: r)).size = st r := by rw [st_drop]; rfl

set_option maxHeartbeats 4000000 in
set_option maxRecDepth 100000 in
theorem rzn_long (r : List UInt8) (h : 4096 < r.length) (hl : r.length ≤ 1000000) (w : World) :
    Calls Tryd.prog 10 #[.string (st (45 :: r))] w fun e w' => e = .returned (.tuple #[.agg #[.bool false, .slice none 0 0], .int .i64 3]) ∧ Below w.heap.size w w' := by
  have hL0 : GL w w [] := GL.start w
  have HP := Lib.hid (fun w => rparse_long r h hl w)
  have g1 : ((st (45 :: r)).size : Int) = (r.length : Int) + 1 := by rw [st_size]; simp
  have g3 : decide ((0 : Int) < ((st (45 :: r)).size : Int)) = true := decide_eq_true (by omega)
  have g4 : decide (0 < (st (45 :: r)).size) = true := decide_eq_true (by omega)
  have g7 : (0 : Int) < ((st (45 :: r)).size : Int) := by omega
  have g8 : 0 < (st (45 :: r)).size := by omega
  have g5 := st_drop1 r
  have g9 : (1 : Int) ≤ ((st (45 :: r)).size : Int) := by omega
  clear h hl
  obtain ⟨s0, hs0⟩ : ∃ s0, s0 = st (45 :: r) := ⟨_, rfl⟩
  rw [← hs0]
  simp only [← hs0] at g1 g3 g4 g7 g8 g5 g9
  have g0 : s0[0]'g8 = 45 := by subst hs0; rfl
  clear hs0
  generalize st r = s at *
  clear g1
  replace hL0 := (hL0.new rfl [.bool false, .slice none 0 0] 34)
  generalize hweq : (w.alloc (.cells #[.bool false, .slice none 0 0] 34)) = x1 at hL0
  go_enter Tryd.func10, Tryd.ntmps10
  have hA := hL0.fc
  simp only [fcG, cellsF, neK, and_true, ne_eq, Nat.zero_add, Nat.reduceAdd] at hA
  go_wp2_with fail
  clear hA
  with_reducible refine Calls.mono (HP.out _) ?_
  rintro e x2 ⟨rfl, hb⟩
  replace hL0 := hL0.call hb
  clear hb hweq
  have hA := hL0.fc
  simp only [fcG, cellsF, neK, and_true, ne_eq, Nat.zero_add, Nat.reduceAdd] at hA
  have hP := hL0.put 0 (w.heap.size) _ rfl [.bool false, .slice none 0 0] rfl
  simp only [setAll, List.set_cons_zero, List.set_cons_succ] at hP
  generalize hput1 : ((x2.setCell ⟨w.heap.size, 0, none⟩ (.bool false)).setCell ⟨w.heap.size, 1, none⟩ (.slice none 0 0)) = x3 at hP
  have hB1 := hP.fc
  simp only [fcG, cellsF, neK, and_true, ne_eq, Nat.zero_add, Nat.reduceAdd] at hB1
  replace hL0 := hP
  go_wp2_with fail
  exact bodyPost_ret (v := .tuple #[.agg #[.bool false, .slice none 0 0], .int .i64 3]) (by simp [results, Tryd.results10, go_sem, hB1]) rfl ⟨rfl, hL0.bl⟩

set_option maxHeartbeats 4000000 in
set_option maxRecDepth 100000 in
theorem rzn_form (r : List UInt8) (h : r.length ≤ 4096) (hd : ¬ isDec r) (w : World) :
    Calls Tryd.prog 10 #[.string (st (45 :: r))] w fun e w' => e = .returned (.tuple #[.agg #[.bool false, .slice none 0 0], .int .i64 4]) ∧ Below w.heap.size w w' := by
  have hL0 : GL w w [] := GL.start w
  have HP := Lib.hid (fun w => rparse_form r h hd w)
  have g1 : ((st (45 :: r)).size : Int) = (r.length : Int) + 1 := by rw [st_size]; simp
  have g3 : decide ((0 : Int) < ((st (45 :: r)).size : Int)) = true := decide_eq_true (by omega)
  have g4 : decide (0 < (st (45 :: r)).size) = true := decide_eq_true (by omega)
  have g7 : (0 : Int) < ((st (45 :: r)).size : Int) := by omega
  have g8 : 0 < (st (45 :: r)).size := by omega
  have g5 := st_drop1 r
  have g9 : (1 : Int) ≤ ((st (45 :: r)).size : Int) := by omega
  clear h hd
  obtain ⟨s0, hs0⟩ : ∃ s0, s0 = st (45 :: r) := ⟨_, rfl⟩
  rw [← hs0]
  simp only [← hs0] at g1 g3 g4 g7 g8 g5 g9
  have g0 : s0[0]'g8 = 45 := by subst hs0; rfl
  clear hs0
  generalize st r = s at *
  clear g1
  replace hL0 := (hL0.new rfl [.bool false, .slice none 0 0] 34)
  generalize hweq : (w.alloc (.cells #[.bool false, .slice none 0 0] 34)) = x1 at hL0
  go_enter Tryd.func10, Tryd.ntmps10
  have hA := hL0.fc
  simp only [fcG, cellsF, neK, and_true, ne_eq, Nat.zero_add, Nat.reduceAdd] at hA
  go_wp2_with fail
  clear hA
  with_reducible refine Calls.mono (HP.out _) ?_
  rintro e x2 ⟨rfl, hb⟩
  replace hL0 := hL0.call hb
  clear hb hweq
  have hA := hL0.fc
  simp only [fcG, cellsF, neK, and_true, ne_eq, Nat.zero_add, Nat.reduceAdd] at hA
  have hP := hL0.put 0 (w.heap.size) _ rfl [.bool false, .slice none 0 0] rfl
  simp only [setAll, List.set_cons_zero, List.set_cons_succ] at hP
  generalize hput1 : ((x2.setCell ⟨w.heap.size, 0, none⟩ (.bool false)).setCell ⟨w.heap.size, 1, none⟩ (.slice none 0 0)) = x3 at hP
  have hB1 := hP.fc
  simp only [fcG, cellsF, neK, and_true, ne_eq, Nat.zero_add, Nat.reduceAdd] at hB1
  replace hL0 := hP
  go_wp2_with fail
  exact bodyPost_ret (v := .tuple #[.agg #[.bool false, .slice none 0 0], .int .i64 4]) (by simp [results, Tryd.results10, go_sem, hB1]) rfl ⟨rfl, hL0.bl⟩

set_option maxHeartbeats 4000000 in
set_option maxRecDepth 100000 in
theorem rzn_zero (r : List UInt8) (h : r.length ≤ 4096) (hd : isDec r) (hz : dval r = 0) (w : World) :
    Calls Tryd.prog 10 #[.string (st (45 :: r))] w fun e w' => e = .returned (.tuple #[.agg #[.bool false, .slice none 0 0], .int .i64 4]) ∧ Below w.heap.size w w' := by
  have hL0 : GL w w [] := GL.start w
  have HP := Lib.hid (fun w => rparse_dec r h hd w)
  have g1 : ((st (45 :: r)).size : Int) = (r.length : Int) + 1 := by rw [st_size]; simp
  have g3 : decide ((0 : Int) < ((st (45 :: r)).size : Int)) = true := decide_eq_true (by omega)
  have g4 : decide (0 < (st (45 :: r)).size) = true := decide_eq_true (by omega)
  have g7 : (0 : Int) < ((st (45 :: r)).size : Int) := by omega
  have g8 : 0 < (st (45 :: r)).size := by omega
  have g5 := st_drop1 r
  have g9 : (1 : Int) ≤ ((st (45 :: r)).size : Int) := by omega
  rw [hz] at HP
  clear h hd hz
  obtain ⟨s0, hs0⟩ : ∃ s0, s0 = st (45 :: r) := ⟨_, rfl⟩
  rw [← hs0]
  simp only [← hs0] at g1 g3 g4 g7 g8 g5 g9
  have g0 : s0[0]'g8 = 45 := by subst hs0; rfl
  clear hs0
  generalize st r = s at *
  clear g1
  replace hL0 := (hL0.new rfl [.bool false, .slice none 0 0] 34)
  generalize hweq : (w.alloc (.cells #[.bool false, .slice none 0 0] 34)) = x1 at hL0
  go_enter Tryd.func10, Tryd.ntmps10
  have hA := hL0.fc
  simp only [fcG, cellsF, neK, and_true, ne_eq, Nat.zero_add, Nat.reduceAdd] at hA
  go_wp2_with fail
  clear hA
  with_reducible refine Calls.mono (HP.out _) ?_
  rintro e x2 ⟨⟨v, rfl, hv⟩, hb⟩
  replace hL0 := hL0.call hb
  clear hb hweq
  obtain ⟨ao, c, rfl⟩ := hv.form
  rw [(td_len_zero 0).2 rfl] at hv ⊢
  have hA := hL0.fc
  simp only [fcG, cellsF, neK, and_true, ne_eq, Nat.zero_add, Nat.reduceAdd] at hA
  have hP := hL0.put 0 (w.heap.size) _ rfl [.bool false, .slice none 0 0] rfl
  simp only [setAll, List.set_cons_zero, List.set_cons_succ] at hP
  generalize hput1 : ((x2.setCell ⟨w.heap.size, 0, none⟩ (.bool false)).setCell ⟨w.heap.size, 1, none⟩ (.slice none 0 0)) = x3 at hP
  have hB1 := hP.fc
  simp only [fcG, cellsF, neK, and_true, ne_eq, Nat.zero_add, Nat.reduceAdd] at hB1
  replace hL0 := hP
  go_wp2_with fail
  exact bodyPost_ret (v := .tuple #[.agg #[.bool false, .slice none 0 0], .int .i64 4]) (by simp [results, Tryd.results10, go_sem, hB1]) rfl ⟨rfl, hL0.bl⟩

set_option maxHeartbeats 4000000 in
set_option maxRecDepth 100000 in
theorem rzn_ok (r : List UInt8) (h : r.length ≤ 4096) (hd : isDec r) (hz : dval r ≠ 0) (w : World) :
    Calls Tryd.prog 10 #[.string (st (45 :: r))] w fun e w' => (∃ v, e = .returned (.tuple #[.agg #[.bool true, v], .int .i64 0]) ∧ Rn w' v (dval r)) ∧ Below w.heap.size w w' := by
  have hL0 : GL w w [] := GL.start w
  have HP := Lib.hid (fun w => rparse_dec r h hd w)
  have g1 : ((st (45 :: r)).size : Int) = (r.length : Int) + 1 := by rw [st_size]; simp
  have g3 : decide ((0 : Int) < ((st (45 :: r)).size : Int)) = true := decide_eq_true (by omega)
  have g4 : decide (0 < (st (45 :: r)).size) = true := decide_eq_true (by omega)
  have g7 : (0 : Int) < ((st (45 :: r)).size : Int) := by omega
  have g8 : 0 < (st (45 :: r)).size := by omega
  have g5 := st_drop1 r
  have g9 : (1 : Int) ≤ ((st (45 :: r)).size : Int) := by omega
  generalize hzz : dval r = n at *
  replace hzz := Lib.hid hzz
  replace hz := Lib.hid hz
  clear h hd
  obtain ⟨s0, hs0⟩ : ∃ s0, s0 = st (45 :: r) := ⟨_, rfl⟩
  rw [← hs0]
  simp only [← hs0] at g1 g3 g4 g7 g8 g5 g9
  have g0 : s0[0]'g8 = 45 := by subst hs0; rfl
  clear hs0
  generalize st r = s at *
  clear g1
  replace hL0 := (hL0.new rfl [.bool false, .slice none 0 0] 34)
  generalize hweq : (w.alloc (.cells #[.bool false, .slice none 0 0] 34)) = x1 at hL0
  go_enter Tryd.func10, Tryd.ntmps10
  have hA := hL0.fc
  simp only [fcG, cellsF, neK, and_true, ne_eq, Nat.zero_add, Nat.reduceAdd] at hA
  go_wp2_with fail
  clear hA
  with_reducible refine Calls.mono (HP.out _) ?_
  rintro e x2 ⟨⟨v, rfl, hv⟩, hb⟩
  replace hL0 := hL0.call hb
  clear hb hweq
  obtain ⟨ao, c, rfl⟩ := hv.form
  have f1 : (((td n).length : Int) == 0) = false := beq_eq_false_iff_ne.2 (fun e => hz.out ((td_len_zero n).1 (by omega)))
  have HF := fun w h => rfrom_any true (.slice ao (td n).length c) n w h
  rw [Bool.true_and, decide_eq_true hz.out] at HF
  generalize (td n).length = k at *
  replace HF := Lib.hid HF
  replace hv := Lib.hid hv
  have hA := hL0.fc
  simp only [fcG, cellsF, neK, and_true, ne_eq, Nat.zero_add, Nat.reduceAdd] at hA
  go_wp2_with fail
  clear hA
  with_reducible refine Calls.mono (HF.out _ hv.out) ?_
  rintro e x3 ⟨rfl, hb⟩
  replace hL0 := hL0.call hb
  replace hv := Lib.hid (hv.out.below hb)
  clear hb
  have hA := hL0.fc
  simp only [fcG, cellsF, neK, and_true, ne_eq, Nat.zero_add, Nat.reduceAdd] at hA
  have hHd := hL0.get _ _ List.mem_cons_self
  have hP := hL0.put 0 (w.heap.size) _ rfl [.bool true, .slice ao k c] rfl
  simp only [setAll, List.set_cons_zero, List.set_cons_succ] at hP
  generalize hput1 : ((x3.setCell ⟨w.heap.size, 0, none⟩ (.bool true)).setCell ⟨w.heap.size, 1, none⟩ (.slice ao k c)) = x4 at hP
  have hB1 := hP.fc
  simp only [fcG, cellsF, neK, and_true, ne_eq, Nat.zero_add, Nat.reduceAdd] at hB1
  replace hL0 := hP
  have hvF := sl_upd hv.out (show Upd (w.heap.size) x3 x4 by rw [← hput1]; exact ((Upd.refl _ _).setCell 0 _).setCell 1 _) hHd (by intro v hv n; simp only [List.mem_cons, List.not_mem_nil, or_false] at hv; rcases hv with rfl | rfl <;> simp)
  go_wp2_with fail
  exact bodyPost_ret (v := .tuple #[.agg #[.bool true, .slice ao k c], .int .i64 0]) (by simp [results, Tryd.results10, go_sem, hB1]) rfl ⟨⟨_, rfl, by first | exact hvF | (rw [hzz.out]; exact hvF)⟩, hL0.bl⟩

set_option maxHeartbeats 4000000 in
set_option maxRecDepth 100000 in
theorem rzp_long (r : List UInt8) (y : UInt8) (hh : y ≠ 45) (h : 4096 < (y :: r).length) (hl : (y :: r).length ≤ 1000000) (w : World) :
    Calls Tryd.prog 10 #[.string (st (y :: r))] w fun e w' => e = .returned (.tuple #[.agg #[.bool false, .slice none 0 0], .int .i64 3]) ∧ Below w.heap.size w w' := by
  have hL0 : GL w w [] := GL.start w
  have HP := Lib.hid (fun w => rparse_long (y :: r) h hl w)
  have g1 : ((st (y :: r)).size : Int) = (r.length : Int) + 1 := by rw [st_size]; simp
  have g3 : decide ((0 : Int) < ((st (y :: r)).size : Int)) = true := decide_eq_true (by omega)
  have g4 : decide (0 < (st (y :: r)).size) = true := decide_eq_true (by omega)
  have g7 : (0 : Int) < ((st (y :: r)).size : Int) := by omega
  have g8 : 0 < (st (y :: r)).size := by omega
  have g6 : (((y.toNat : Nat) : Int) == 45) = false := beq_eq_false_iff_ne.2 (fun e => hh (UInt8.toNat_inj.1 (by have : y.toNat = 45 := (by omega); rw [this]; rfl)))
  have g6' : (y == 45) = false := beq_eq_false_iff_ne.2 hh
  clear h hl hh
  obtain ⟨s0, hs0⟩ : ∃ s0, s0 = st (y :: r) := ⟨_, rfl⟩
  rw [← hs0]
  simp only [← hs0] at g1 g3 g4 g7 g8 HP
  have g0 : s0[0]'g8 = y := by subst hs0; rfl
  clear hs0
  clear g1
  replace hL0 := (hL0.new rfl [.bool false, .slice none 0 0] 34)
  generalize hweq : (w.alloc (.cells #[.bool false, .slice none 0 0] 34)) = x1 at hL0
  go_enter Tryd.func10, Tryd.ntmps10
  have hA := hL0.fc
  simp only [fcG, cellsF, neK, and_true, ne_eq, Nat.zero_add, Nat.reduceAdd] at hA
  go_wp2_with fail
  clear hA
  with_reducible refine Calls.mono (HP.out _) ?_
  rintro e x2 ⟨rfl, hb⟩
  replace hL0 := hL0.call hb
  clear hb hweq
  have hA := hL0.fc
  simp only [fcG, cellsF, neK, and_true, ne_eq, Nat.zero_add, Nat.reduceAdd] at hA
  have hP := hL0.put 0 (w.heap.size) _ rfl [.bool false, .slice none 0 0] rfl
  simp only [setAll, List.set_cons_zero, List.set_cons_succ] at hP
  generalize hput1 : ((x2.setCell ⟨w.heap.size, 0, none⟩ (.bool false)).setCell ⟨w.heap.size, 1, none⟩ (.slice none 0 0)) = x3 at hP
  have hB1 := hP.fc
  simp only [fcG, cellsF, neK, and_true, ne_eq, Nat.zero_add, Nat.reduceAdd] at hB1
  replace hL0 := hP
  go_wp2_with fail
  exact bodyPost_ret (v := .tuple #[.agg #[.bool false, .slice none 0 0], .int .i64 3]) (by simp [results, Tryd.results10, go_sem, hB1]) rfl ⟨rfl, hL0.bl⟩

set_option maxHeartbeats 4000000 in
set_option maxRecDepth 100000 in
theorem rzp_form (r : List UInt8) (y : UInt8) (hh : y ≠ 45) (h : (y :: r).length ≤ 4096) (hd : ¬ isDec (y :: r)) (w : World) :
    Calls Tryd.prog 10 #[.string (st (y :: r))] w fun e w' => e = .returned (.tuple #[.agg #[.bool false, .slice none 0 0], .int .i64 4]) ∧ Below w.heap.size w w' := by
  have hL0 : GL w w [] := GL.start w
  have HP := Lib.hid (fun w => rparse_form (y :: r) h hd w)
  have g1 : ((st (y :: r)).size : Int) = (r.length : Int) + 1 := by rw [st_size]; simp
  have g3 : decide ((0 : Int) < ((st (y :: r)).size : Int)) = true := decide_eq_true (by omega)
  have g4 : decide (0 < (st (y :: r)).size) = true := decide_eq_true (by omega)
  have g7 : (0 : Int) < ((st (y :: r)).size : Int) := by omega
  have g8 : 0 < (st (y :: r)).size := by omega
  have g6 : (((y.toNat : Nat) : Int) == 45) = false := beq_eq_false_iff_ne.2 (fun e => hh (UInt8.toNat_inj.1 (by have : y.toNat = 45 := (by omega); rw [this]; rfl)))
  have g6' : (y == 45) = false := beq_eq_false_iff_ne.2 hh
  clear h hd hh
  obtain ⟨s0, hs0⟩ : ∃ s0, s0 = st (y :: r) := ⟨_, rfl⟩
  rw [← hs0]
  simp only [← hs0] at g1 g3 g4 g7 g8 HP
  have g0 : s0[0]'g8 = y := by subst hs0; rfl
  clear hs0
  clear g1
  replace hL0 := (hL0.new rfl [.bool false, .slice none 0 0] 34)
  generalize hweq : (w.alloc (.cells #[.bool false, .slice none 0 0] 34)) = x1 at hL0
  go_enter Tryd.func10, Tryd.ntmps10
  have hA := hL0.fc
  simp only [fcG, cellsF, neK, and_true, ne_eq, Nat.zero_add, Nat.reduceAdd] at hA
  go_wp2_with fail
  clear hA
  with_reducible refine Calls.mono (HP.out _) ?_
  rintro e x2 ⟨rfl, hb⟩
  replace hL0 := hL0.call hb
  clear hb hweq
  have hA := hL0.fc
  simp only [fcG, cellsF, neK, and_true, ne_eq, Nat.zero_add, Nat.reduceAdd] at hA
  have hP := hL0.put 0 (w.heap.size) _ rfl [.bool false, .slice none 0 0] rfl
  simp only [setAll, List.set_cons_zero, List.set_cons_succ] at hP
  generalize hput1 : ((x2.setCell ⟨w.heap.size, 0, none⟩ (.bool false)).setCell ⟨w.heap.size, 1, none⟩ (.slice none 0 0)) = x3 at hP
  have hB1 := hP.fc
  simp only [fcG, cellsF, neK, and_true, ne_eq, Nat.zero_add, Nat.reduceAdd] at hB1
  replace hL0 := hP
  go_wp2_with fail
  exact bodyPost_ret (v := .tuple #[.agg #[.bool false, .slice none 0 0], .int .i64 4]) (by simp [results, Tryd.results10, go_sem, hB1]) rfl ⟨rfl, hL0.bl⟩

set_option maxHeartbeats 4000000 in
set_option maxRecDepth 100000 in
theorem rzp_ok (r : List UInt8) (y : UInt8) (hh : y ≠ 45) (h : (y :: r).length ≤ 4096) (hd : isDec (y :: r)) (w : World) :
    Calls Tryd.prog 10 #[.string (st (y :: r))] w fun e w' => (∃ v, e = .returned (.tuple #[.agg #[.bool false, v], .int .i64 0]) ∧ Rn w' v (dval (y :: r))) ∧ Below w.heap.size w w' := by
  have hL0 : GL w w [] := GL.start w
  have HP := Lib.hid (fun w => rparse_dec (y :: r) h hd w)
  have g1 : ((st (y :: r)).size : Int) = (r.length : Int) + 1 := by rw [st_size]; simp
  have g3 : decide ((0 : Int) < ((st (y :: r)).size : Int)) = true := decide_eq_true (by omega)
  have g4 : decide (0 < (st (y :: r)).size) = true := decide_eq_true (by omega)
  have g7 : (0 : Int) < ((st (y :: r)).size : Int) := by omega
  have g8 : 0 < (st (y :: r)).size := by omega
  have g6 : (((y.toNat : Nat) : Int) == 45) = false := beq_eq_false_iff_ne.2 (fun e => hh (UInt8.toNat_inj.1 (by have : y.toNat = 45 := (by omega); rw [this]; rfl)))
  have g6' : (y == 45) = false := beq_eq_false_iff_ne.2 hh
  generalize hzz : dval (y :: r) = n at *
  replace hzz := Lib.hid hzz
  clear h hd hh
  obtain ⟨s0, hs0⟩ : ∃ s0, s0 = st (y :: r) := ⟨_, rfl⟩
  rw [← hs0]
  simp only [← hs0] at g1 g3 g4 g7 g8 HP
  have g0 : s0[0]'g8 = y := by subst hs0; rfl
  clear hs0
  clear g1
  replace hL0 := (hL0.new rfl [.bool false, .slice none 0 0] 34)
  generalize hweq : (w.alloc (.cells #[.bool false, .slice none 0 0] 34)) = x1 at hL0
  go_enter Tryd.func10, Tryd.ntmps10
  have hA := hL0.fc
  simp only [fcG, cellsF, neK, and_true, ne_eq, Nat.zero_add, Nat.reduceAdd] at hA
  go_wp2_with fail
  clear hA
  with_reducible refine Calls.mono (HP.out _) ?_
  rintro e x2 ⟨⟨v, rfl, hv⟩, hb⟩
  replace hL0 := hL0.call hb
  clear hb hweq
  obtain ⟨ao, c, rfl⟩ := hv.form
  have HF := fun w h => rfrom_any false (.slice ao (td n).length c) n w h
  simp only [Bool.false_and] at HF
  generalize (td n).length = k at *
  replace HF := Lib.hid HF
  replace hv := Lib.hid hv
  have hA := hL0.fc
  simp only [fcG, cellsF, neK, and_true, ne_eq, Nat.zero_add, Nat.reduceAdd] at hA
  go_wp2_with fail
  clear hA
  with_reducible refine Calls.mono (HF.out _ hv.out) ?_
  rintro e x3 ⟨rfl, hb⟩
  replace hL0 := hL0.call hb
  replace hv := Lib.hid (hv.out.below hb)
  clear hb
  have hA := hL0.fc
  simp only [fcG, cellsF, neK, and_true, ne_eq, Nat.zero_add, Nat.reduceAdd] at hA
  have hHd := hL0.get _ _ List.mem_cons_self
  have hP := hL0.put 0 (w.heap.size) _ rfl [.bool false, .slice ao k c] rfl
  simp only [setAll, List.set_cons_zero, List.set_cons_succ] at hP
  generalize hput1 : ((x3.setCell ⟨w.heap.size, 0, none⟩ (.bool false)).setCell ⟨w.heap.size, 1, none⟩ (.slice ao k c)) = x4 at hP
  have hB1 := hP.fc
  simp only [fcG, cellsF, neK, and_true, ne_eq, Nat.zero_add, Nat.reduceAdd] at hB1
  replace hL0 := hP
  have hvF := sl_upd hv.out (show Upd (w.heap.size) x3 x4 by rw [← hput1]; exact ((Upd.refl _ _).setCell 0 _).setCell 1 _) hHd (by intro v hv n; simp only [List.mem_cons, List.not_mem_nil, or_false] at hv; rcases hv with rfl | rfl <;> simp)
  go_wp2_with fail
  exact bodyPost_ret (v := .tuple #[.agg #[.bool false, .slice ao k c], .int .i64 0]) (by simp [results, Tryd.results10, go_sem, hB1]) rfl ⟨⟨_, rfl, by first | exact hvF | (rw [hzz.out]; exact hvF)⟩, hL0.bl⟩

set_option maxHeartbeats 4000000 in
set_option maxRecDepth 100000 in
theorem rz_nil  (w : World) :
    Calls Tryd.prog 10 #[.string (st [])] w fun e w' => e = .returned (.tuple #[.agg #[.bool false, .slice none 0 0], .int .i64 4]) ∧ Below w.heap.size w w' := by
  have hL0 : GL w w [] := GL.start w
  have HP := Lib.hid (fun w => rparse_form [] (by decide) (isDec_no (by decide)) w)
  have g3 : decide ((0 : Int) < ((st []).size : Int)) = false := rfl
  have g4 : decide (0 < (st []).size) = false := rfl
  obtain ⟨s0, hs0⟩ : ∃ s0, s0 = st [] := ⟨_, rfl⟩
  rw [← hs0]
  simp only [← hs0] at g3 g4 HP
  clear hs0
  replace hL0 := (hL0.new rfl [.bool false, .slice none 0 0] 34)
  generalize hweq : (w.alloc (.cells #[.bool false, .slice none 0 0] 34)) = x1 at hL0
  go_enter Tryd.func10, Tryd.ntmps10
  have hA := hL0.fc
  simp only [fcG, cellsF, neK, and_true, ne_eq, Nat.zero_add, Nat.reduceAdd] at hA
  go_wp2_with fail
  clear hA
  with_reducible refine Calls.mono (HP.out _) ?_
  rintro e x2 ⟨rfl, hb⟩
  replace hL0 := hL0.call hb
  clear hb hweq
  have hA := hL0.fc
  simp only [fcG, cellsF, neK, and_true, ne_eq, Nat.zero_add, Nat.reduceAdd] at hA
  have hP := hL0.put 0 (w.heap.size) _ rfl [.bool false, .slice none 0 0] rfl
  simp only [setAll, List.set_cons_zero, List.set_cons_succ] at hP
  generalize hput1 : ((x2.setCell ⟨w.heap.size, 0, none⟩ (.bool false)).setCell ⟨w.heap.size, 1, none⟩ (.slice none 0 0)) = x3 at hP
  have hB1 := hP.fc
  simp only [fcG, cellsF, neK, and_true, ne_eq, Nat.zero_add, Nat.reduceAdd] at hB1
  replace hL0 := hP
  go_wp2_with fail
  exact bodyPost_ret (v := .tuple #[.agg #[.bool false, .slice none 0 0], .int .i64 4]) (by simp [results, Tryd.results10, go_sem, hB1]) rfl ⟨rfl, hL0.bl⟩

end Go.Proofs.YthehcjfmokabfaaDoor
