/-
  Layer 2, law: IntsReads.
-/
import Derived.Test.YthehcjfmokabfaaDoorIl
import Derived.Test.YthehcjfmokabfaaDoorIs
set_option linter.unusedVariables false
set_option linter.unusedSimpArgs false
namespace Go.Proofs.YthehcjfmokabfaaDoor
open Go.RowKit Go.Proofs.YthehcjfmokabfaaDoor.Rx
attribute [local irreducible] lo hs sm s64 c64 d64 b64 mh ml pd pc qd qc val hiB str cmpI srD lz nb isq decB zl zh zs

set_option maxHeartbeats 4000000 in
set_option maxRecDepth 100000 in
theorem ireads_big (s : ByteArray) (hs : 4200 < s.size) (w : World) (htab : Tab w) :
    Calls Tryd.prog 3 #[.string s] w fun e w' => e = .returned (.bool true) ∧ Below w.heap.size w w' := by
  have hL0 : GL w w [] := GL.start w
  have HW := Lib.hid (fun w h => zworks_any w h)
  have f1 : decide ((4200 : Int) < ((s.size : Nat) : Int)) = true := decide_eq_true (by omega)
  have f2 : decide (4200 < s.size) = true := decide_eq_true (by omega)
  clear hs
  go_enter Tryd.func3, Tryd.ntmps3
  go_wp2_with fail
  with_reducible refine Calls.mono (HW.out _ (htab.below hL0.bl)) ?_
  rintro e x1 ⟨rfl, hb⟩
  replace hL0 := hL0.call hb
  clear hb
  go_wp2_with fail
  exact bodyPost_ret (v := .bool true) (by simp [results, Tryd.results3, go_sem]) rfl ⟨rfl, hL0.bl⟩

set_option maxHeartbeats 4000000 in
set_option maxRecDepth 100000 in
theorem ireads_3 (s : ByteArray) (hs : s.size ≤ 4200) (b0 : Bool) (a0 : Option Addr) (n0 c0 : Nat) (HP : ∀ w, Calls Tryd.prog 9 #[.string s] w fun e w' => e = .returned (.tuple #[intV 0, .int .i64 3]) ∧ Below w.heap.size w w') (HR : ∀ w, Calls Tryd.prog 10 #[.string s] w fun e w' => e = .returned (.tuple #[.agg #[.bool b0, .slice a0 n0 c0], .int .i64 3]) ∧ Below w.heap.size w w') (w : World) (htab : Tab w) :
    Calls Tryd.prog 3 #[.string s] w fun e w' => e = .returned (.bool true) ∧ Below w.heap.size w w' := by
  have hL0 : GL w w [] := GL.start w
  have HW := Lib.hid (fun w h => zworks_any w h)
  have HI := Lib.hid (fun w => is_eq 0 (by decide) (by decide) w)
  replace HP := Lib.hid HP
  replace HR := Lib.hid HR
  have f1 : decide ((4200 : Int) < ((s.size : Nat) : Int)) = false := decide_eq_false (by omega)
  have f2 : decide (4200 < s.size) = false := decide_eq_false (by omega)
  clear hs
  go_enter Tryd.func3, Tryd.ntmps3
  go_wp2_with fail
  with_reducible refine Calls.mono (HP.out _) ?_
  rintro e x1 ⟨rfl, hb⟩
  replace hL0 := hL0.call hb
  clear hb
  replace hL0 := (hL0.new rfl [.int .u64 ((zl 0 : Nat) : Int), .string (zh 0), .bool (zs 0)] 27)
  generalize hweq : (x1.alloc (.cells #[.int .u64 ((zl 0 : Nat) : Int), .string (zh 0), .bool (zs 0)] 27)) = x2 at hL0
  go_wp2_with fail
  with_reducible refine Calls.mono (HR.out _) ?_
  rintro e x3 ⟨rfl, hb⟩
  replace hL0 := hL0.call hb
  clear hb hweq
  replace hL0 := (hL0.new rfl [.bool b0, .slice a0 n0 c0] 34)
  generalize hweq : (x3.alloc (.cells #[.bool b0, .slice a0 n0 c0] 34)) = x4 at hL0
  have hN0 := cells_of _ 0 [] rfl (hL0.get _ _ (List.mem_cons_of_mem _ List.mem_cons_self))
  simp only [cellsF, and_true, Nat.zero_add, Nat.reduceAdd] at hN0
  go_wp2_with fail
  clear hN0
  with_reducible refine Calls.mono (HI.out _) ?_
  rintro e x5 ⟨rfl, hb⟩
  replace hL0 := hL0.call hb
  clear hb hweq
  go_wp2_with fail
  with_reducible refine Calls.mono (HW.out _ (htab.below hL0.bl)) ?_
  rintro e x6 ⟨rfl, hb⟩
  replace hL0 := hL0.call hb
  clear hb
  go_wp2_with fail
  exact bodyPost_ret (v := .bool true) (by simp [results, Tryd.results3, go_sem]) rfl ⟨rfl, hL0.bl⟩

set_option maxHeartbeats 4000000 in
set_option maxRecDepth 100000 in
theorem ireads_4 (s : ByteArray) (hs : s.size ≤ 4200) (b0 : Bool) (a0 : Option Addr) (n0 c0 : Nat) (HP : ∀ w, Calls Tryd.prog 9 #[.string s] w fun e w' => e = .returned (.tuple #[intV 0, .int .i64 4]) ∧ Below w.heap.size w w') (HR : ∀ w, Calls Tryd.prog 10 #[.string s] w fun e w' => e = .returned (.tuple #[.agg #[.bool b0, .slice a0 n0 c0], .int .i64 4]) ∧ Below w.heap.size w w') (w : World) (htab : Tab w) :
    Calls Tryd.prog 3 #[.string s] w fun e w' => e = .returned (.bool true) ∧ Below w.heap.size w w' := by
  have hL0 : GL w w [] := GL.start w
  have HW := Lib.hid (fun w h => zworks_any w h)
  have HI := Lib.hid (fun w => is_eq 0 (by decide) (by decide) w)
  replace HP := Lib.hid HP
  replace HR := Lib.hid HR
  have f1 : decide ((4200 : Int) < ((s.size : Nat) : Int)) = false := decide_eq_false (by omega)
  have f2 : decide (4200 < s.size) = false := decide_eq_false (by omega)
  clear hs
  go_enter Tryd.func3, Tryd.ntmps3
  go_wp2_with fail
  with_reducible refine Calls.mono (HP.out _) ?_
  rintro e x1 ⟨rfl, hb⟩
  replace hL0 := hL0.call hb
  clear hb
  replace hL0 := (hL0.new rfl [.int .u64 ((zl 0 : Nat) : Int), .string (zh 0), .bool (zs 0)] 27)
  generalize hweq : (x1.alloc (.cells #[.int .u64 ((zl 0 : Nat) : Int), .string (zh 0), .bool (zs 0)] 27)) = x2 at hL0
  go_wp2_with fail
  with_reducible refine Calls.mono (HR.out _) ?_
  rintro e x3 ⟨rfl, hb⟩
  replace hL0 := hL0.call hb
  clear hb hweq
  replace hL0 := (hL0.new rfl [.bool b0, .slice a0 n0 c0] 34)
  generalize hweq : (x3.alloc (.cells #[.bool b0, .slice a0 n0 c0] 34)) = x4 at hL0
  have hN0 := cells_of _ 0 [] rfl (hL0.get _ _ (List.mem_cons_of_mem _ List.mem_cons_self))
  simp only [cellsF, and_true, Nat.zero_add, Nat.reduceAdd] at hN0
  go_wp2_with fail
  clear hN0
  with_reducible refine Calls.mono (HI.out _) ?_
  rintro e x5 ⟨rfl, hb⟩
  replace hL0 := hL0.call hb
  clear hb hweq
  go_wp2_with fail
  with_reducible refine Calls.mono (HW.out _ (htab.below hL0.bl)) ?_
  rintro e x6 ⟨rfl, hb⟩
  replace hL0 := hL0.call hb
  clear hb
  go_wp2_with fail
  exact bodyPost_ret (v := .bool true) (by simp [results, Tryd.results3, go_sem]) rfl ⟨rfl, hL0.bl⟩

set_option maxHeartbeats 4000000 in
set_option maxRecDepth 100000 in
theorem ireads_ok (s : ByteArray) (hs : s.size ≤ 4200) (z : Int) (n : Nat) (b : Bool) (HP : ∀ w, Calls Tryd.prog 9 #[.string s] w fun e w' => e = .returned (.tuple #[intV z, .int .i64 0]) ∧ Below w.heap.size w w') (HR : ∀ w, Calls Tryd.prog 10 #[.string s] w fun e w' => (∃ v, e = .returned (.tuple #[.agg #[.bool b, v], .int .i64 0]) ∧ Rn w' v n) ∧ Below w.heap.size w w') (HT : ∀ w, Tab w → Calls Tryd.prog 11 #[intV z] w fun e w' => e = .returned (.string s) ∧ Below w.heap.size w w') (HX : ∀ v w, Rn w v n → Calls Tryd.prog 12 #[.agg #[.bool b, v]] w fun e w' => e = .returned (.string s) ∧ Below w.heap.size w w') (w : World) (htab : Tab w) :
    Calls Tryd.prog 3 #[.string s] w fun e w' => e = .returned (.bool true) ∧ Below w.heap.size w w' := by
  have hL0 : GL w w [] := GL.start w
  have HW := Lib.hid (fun w h => zworks_any w h)
  replace HP := Lib.hid HP
  replace HR := Lib.hid HR
  replace HT := Lib.hid HT
  replace HX := Lib.hid HX
  have f1 : decide ((4200 : Int) < ((s.size : Nat) : Int)) = false := decide_eq_false (by omega)
  have f2 : decide (4200 < s.size) = false := decide_eq_false (by omega)
  clear hs
  go_enter Tryd.func3, Tryd.ntmps3
  go_wp2_with fail
  with_reducible refine Calls.mono (HP.out _) ?_
  rintro e x1 ⟨rfl, hb⟩
  replace hL0 := hL0.call hb
  clear hb
  replace hL0 := (hL0.new rfl [.int .u64 ((zl z : Nat) : Int), .string (zh z), .bool (zs z)] 27)
  generalize hweq : (x1.alloc (.cells #[.int .u64 ((zl z : Nat) : Int), .string (zh z), .bool (zs z)] 27)) = x2 at hL0
  go_wp2_with fail
  with_reducible refine Calls.mono (HR.out _) ?_
  rintro e x3 ⟨⟨v, rfl, hv⟩, hb⟩
  replace hL0 := hL0.call hb
  clear hb hweq
  obtain ⟨ao, c, rfl⟩ := hv.form
  generalize (td n).length = k at *
  replace hL0 := (hL0.new rfl [.bool b, .slice ao k c] 34)
  generalize hweq : (x3.alloc (.cells #[.bool b, .slice ao k c] 34)) = x4 at hL0
  have hv1 := Lib.hid (hv.below (show Below x3.heap.size x3 x4 by rw [← hweq]; exact (Below.refl x3.heap.size x3).alloc (Nat.le_refl _) _))
  clear hv
  have hN0 := cells_of _ 0 [] rfl (hL0.get _ _ (List.mem_cons_of_mem _ List.mem_cons_self))
  simp only [cellsF, and_true, Nat.zero_add, Nat.reduceAdd] at hN0
  go_wp2_with fail
  clear hN0
  with_reducible refine Calls.mono (HT.out _ (htab.below hL0.bl)) ?_
  rintro e x5 ⟨rfl, hb⟩
  replace hL0 := hL0.call hb
  have hv2 := Lib.hid (hv1.out.below hb)
  clear hb hweq hv1
  have hN0 := cells_of _ 0 [] rfl (hL0.get _ _ List.mem_cons_self)
  simp only [cellsF, and_true, Nat.zero_add, Nat.reduceAdd] at hN0
  go_wp2_with fail
  clear hN0
  with_reducible refine Calls.mono (HX.out _ _ hv2.out) ?_
  rintro e x6 ⟨rfl, hb⟩
  replace hL0 := hL0.call hb
  clear hb
  go_wp2_with fail
  with_reducible refine Calls.mono (HW.out _ (htab.below hL0.bl)) ?_
  rintro e x7 ⟨rfl, hb⟩
  replace hL0 := hL0.call hb
  clear hb
  go_wp2_with fail
  exact bodyPost_ret (v := .bool true) (by simp [results, Tryd.results3, go_sem]) rfl ⟨rfl, hL0.bl⟩

theorem dval_dig {l : List UInt8} (hd : isDec l) (h : l.length ≤ 4200) : (digs (dval l)).length ≤ 1000000 ∧ (td (dval l)).length ≤ 1000000 := by
  obtain ⟨K, hK⟩ : ∃ K, K = 1000000 := ⟨_, rfl⟩
  rw [← hK]
  have h1 : dval l < 10 ^ K := Nat.lt_of_lt_of_le (dval_lt hd.1) (Nat.pow_le_pow_right (by omega) (by omega))
  exact ⟨digs_length_iff.2 (Nat.lt_of_lt_of_le h1 (Nat.pow_le_pow_left (show 10 ≤ Bs by unfold Bs; omega) K)), td_length.2 (Nat.lt_of_lt_of_le h1 (Nat.pow_le_pow_left (show 10 ≤ 10000 by omega) K))⟩
theorem mk45 (r : List UInt8) : ByteArray.mk #[45] ++ st r = st (45 :: r) := by
  apply ByteArray.ext; rw [ByteArray.data_append]; simp [st]
theorem txt_st (n : Nat) : txt n = st (Lib.decDigits n) := rfl
theorem ireads_any (s : ByteArray) (w : World) (htab : Tab w) :
    Calls Tryd.prog 3 #[.string s] w fun e w' => e = .returned (.bool true) ∧ Below w.heap.size w w' := by
  obtain ⟨l, rfl⟩ : ∃ l, s = st l := ⟨s.data.toList, by cases s; rfl⟩
  rcases Nat.lt_or_ge 4200 l.length with h1 | h1
  · exact ireads_big (st l) (by rw [st_size]; exact h1) w htab
  have hs : (st l).size ≤ 4200 := by rw [st_size]; exact h1
  cases l with
  | nil => exact ireads_4 _ hs false none 0 0 (fun w => iparse_p_form [] (by decide) (isDec_no (by decide)) (by simp) w) (fun w => rz_nil w) w htab
  | cons y r =>
    by_cases hy : y = 45
    · subst hy
      have hr : r.length ≤ 4199 := by simp at h1; omega
      rcases Nat.lt_or_ge 4096 r.length with h2 | h2
      · exact ireads_3 _ hs false none 0 0 (fun w => iparse_n_long r h2 (by omega) w) (fun w => rzn_long r h2 (by omega) w) w htab
      by_cases hd : isDec r
      · by_cases hz : dval r = 0
        · exact ireads_4 _ hs false none 0 0 (fun w => iparse_n_zero r h2 hd hz w) (fun w => rzn_zero r h2 hd hz w) w htab
        · obtain ⟨d1, d2⟩ := dval_dig hd (by omega)
          have e1 : ztxt (-((dval r : Nat) : Int)) = st (45 :: r) := by rw [ztxt_st, if_pos (by omega), Int.natAbs_neg, Int.natAbs_natCast, dec_dval hd]
          refine ireads_ok _ hs _ (dval r) true (fun w => iparse_n_ok r h2 hd hz w) (fun w => rzn_ok r h2 hd hz w) (fun w h => ?_) (fun v w h => ?_) w htab
          · have := textI (-((dval r : Nat) : Int)) (by rw [dI_neg, dI_nat]; exact d1) w h
            rwa [e1] at this
          · have := rztext_true v (dval r) d2 w h
            rwa [txt_st, dec_dval hd, mk45] at this
      · exact ireads_4 _ hs false none 0 0 (fun w => iparse_n_form r h2 hd w) (fun w => rzn_form r h2 hd w) w htab
    · have hh : (y :: r).head? ≠ some 45 := by simpa using hy
      rcases Nat.lt_or_ge 4096 (y :: r).length with h2 | h2
      · exact ireads_3 _ hs false none 0 0 (fun w => iparse_p_long (y :: r) h2 (by omega) hh w) (fun w => rzp_long r y hy h2 (by omega) w) w htab
      by_cases hd : isDec (y :: r)
      · obtain ⟨d1, d2⟩ := dval_dig hd (by omega)
        have e1 : ztxt ((dval (y :: r) : Nat) : Int) = st (y :: r) := by rw [ztxt_st, if_neg (by omega), Int.natAbs_natCast, dec_dval hd]
        refine ireads_ok _ hs _ (dval (y :: r)) false (fun w => iparse_p_ok (y :: r) h2 hd hh w) (fun w => rzp_ok r y hy h2 hd w) (fun w h => ?_) (fun v w h => ?_) w htab
        · have := textI ((dval (y :: r) : Nat) : Int) (by rw [dI_nat]; exact d1) w h
          rwa [e1] at this
        · have := rztext_false v (dval (y :: r)) d2 w h
          rwa [txt_st, dec_dval hd] at this
      · exact ireads_4 _ hs false none 0 0 (fun w => iparse_p_form (y :: r) h2 hd hh w) (fun w => rzp_form r y hy h2 hd w) w htab

end Go.Proofs.YthehcjfmokabfaaDoor
