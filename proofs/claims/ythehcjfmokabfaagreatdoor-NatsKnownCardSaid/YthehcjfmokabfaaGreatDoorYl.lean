/-
  Layer 1, law B: works.
-/
import Derived.Test.YthehcjfmokabfaaGreatDoorYk
set_option linter.unusedVariables false
set_option linter.unusedSimpArgs false
namespace Go.Proofs.YthehcjfmokabfaaGreatDoor
open Go.RowKit
attribute [local irreducible] lo hs sm s64 c64 d64 b64 mh ml pd pc qd qc val hiB str cmpI srD lz nb isq decB

/-- The text, without more, of a number that a decimal form spells. -/
theorem text_lit (n : Nat) (l : List UInt8) (hd : isDec l) (hv : dval l = n) (hl : (digs n).length ≤ 1000000) (w : World) (htab : Tab w) :
    Calls Tryz.prog 34 #[natV n] w fun e w' => e = .returned (.string ⟨l.toArray⟩) ∧ Below w.heap.size w w' := by
  have h := text_any n hl w htab
  have e : txt n = ⟨l.toArray⟩ := by unfold txt; rw [← hv, dec_dval hd]
  rw [e] at h
  exact h

theorem sm_digs {n k : Nat} (h : n < Bs ^ k) : (digs n).length ≤ k := digs_length_iff.2 h

set_option maxHeartbeats 16000000 in
set_option maxRecDepth 100000 in
theorem works_any (w : World) (htab : Tab w) :
    Calls Tryz.prog 16 #[] w fun e w' => e = .returned (.bool true) ∧ Below w.heap.size w w' := by
  obtain ⟨m, h_m⟩ : ∃ n, n = 18446744073709551615 := ⟨_, rfl⟩
  obtain ⟨ten, h_ten⟩ : ∃ n, n = 100000000000000000000 := ⟨_, rfl⟩
  obtain ⟨q, h_q⟩ : ∃ n, n = 14285714285714285714 := ⟨_, rfl⟩
  obtain ⟨two, h_two⟩ : ∃ n, n = 1180591620717411303424 := ⟨_, rfl⟩
  obtain ⟨six, h_six⟩ : ∃ n, n = 3656158440062976 := ⟨_, rfl⟩
  obtain ⟨less, h_less⟩ : ∃ n, n = 99999999999999999999 := ⟨_, rfl⟩
  obtain ⟨mm, h_mm⟩ : ∃ n, n = 340282366920938463426481119284349108225 := ⟨_, rfl⟩
  obtain ⟨m1, h_m1⟩ : ∃ n, n = 18446744073709551616 := ⟨_, rfl⟩
  obtain ⟨rt, h_rt⟩ : ∃ n, n = 9999999999 := ⟨_, rfl⟩
  have O1 := Lib.hid (fun w => of_val 18446744073709551615 m (by rw [h_m]; rfl) (by rw [h_m]; unfold Bs; omega) w)
  have O2 := Lib.hid (fun w => of_val 10 10 rfl (by unfold Bs; omega) w)
  have P2 := Lib.hid (fun w => pow_ok 10 20 (by omega) (.inr (Nat.le_trans (nb_le64 (by unfold Bs; omega)) (by decide))) (Nat.le_trans (sm_digs (k := 1) (by unfold Bs; decide)) (by omega)) w)
  rw [show 10 ^ 20 = ten by rw [h_ten]] at P2
  have O3 := Lib.hid (fun w => of_val 7 7 rfl (by unfold Bs; omega) w)
  have D3 := Lib.hid (fun w => div_pos ten 7 (by omega) (by rw [h_ten]; exact (Nat.le_trans (sm_digs (k := 2) (by unfold Bs; decide)) (by omega))) w)
  rw [show ten / 7 = q by rw [h_ten, h_q], show ten % 7 = 2 by rw [h_ten]] at D3
  have O4 := Lib.hid (fun w => of_val 2 2 rfl (by unfold Bs; omega) w)
  have P4 := Lib.hid (fun w => pow_ok 2 70 (by omega) (.inr (Nat.le_trans (nb_le64 (by unfold Bs; omega)) (by decide))) (Nat.le_trans (sm_digs (k := 1) (by unfold Bs; decide)) (by omega)) w)
  rw [show 2 ^ 70 = two by rw [h_two]] at P4
  have O5 := Lib.hid (fun w => of_val 6 6 rfl (by unfold Bs; omega) w)
  have P5 := Lib.hid (fun w => pow_ok 6 20 (by omega) (.inr (Nat.le_trans (nb_le64 (by unfold Bs; omega)) (by decide))) (Nat.le_trans (sm_digs (k := 1) (by unfold Bs; decide)) (by omega)) w)
  rw [show 6 ^ 20 = six by rw [h_six]] at P5
  have O6 := Lib.hid (fun w => of_val 1 1 rfl (by unfold Bs; omega) w)
  have S6 := Lib.hid (fun w => sub_ge ten 1 (by rw [h_ten]; omega) (by rw [h_ten]; exact (Nat.le_trans (sm_digs (k := 2) (by unfold Bs; decide)) (by omega))) w)
  rw [show ten - 1 = less by rw [h_ten, h_less]] at S6
  have O7a := Lib.hid (fun w => of_val 3 3 rfl (by unfold Bs; omega) w)
  have O7b := Lib.hid (fun w => of_val 5 5 rfl (by unfold Bs; omega) w)
  have S7 := Lib.hid (fun w => sub_lt 3 5 (by omega) w)
  have O8 := Lib.hid (fun w => of_val 5 5 rfl (by unfold Bs; omega) w)
  have D8 := fun w => div_zero 5 w
  rw [natV_zero] at D8
  replace D8 := Lib.hid D8
  have P9 : ∀ w, Calls Tryz.prog 67 #[.agg #[.int .u64 0, .string ⟨#[]⟩], .int .i64 0] w fun e w' => e = .returned (.tuple #[natV 1, .int .i64 0]) ∧ Below w.heap.size w w' := fun w => by
    rw [← natV_zero]; exact pow_ok 0 0 (by omega) (.inl rfl) (Nat.le_trans (sm_digs (k := 1) (by unfold Bs; decide)) (by omega)) w
  replace P9 := Lib.hid P9
  have O10 := Lib.hid (fun w => of_val 2 2 rfl (by unfold Bs; omega) w)
  have P10 := fun w => pow_neg 2 (-1) (by omega) w
  rw [natV_zero] at P10
  replace P10 := Lib.hid P10
  have M11 := Lib.hid (fun w => mul_any m m (by rw [h_m]; exact (Nat.le_trans (sm_digs (k := 1) (by unfold Bs; decide)) (by omega))) (by rw [h_m]; exact (Nat.le_trans (sm_digs (k := 1) (by unfold Bs; decide)) (by omega))) w)
  rw [show m * m = mm by rw [h_m, h_mm]] at M11
  have T11a := Lib.hid (fun w ht => text_lit mm [51, 52, 48, 50, 56, 50, 51, 54, 54, 57, 50, 48, 57, 51, 56, 52, 54, 51, 52, 50, 54, 52, 56, 49, 49, 49, 57, 50, 56, 52, 51, 52, 57, 49, 48, 56, 50, 50, 53] (isDec_yes (by decide +kernel)) (by rw [h_mm]; decide +kernel) (by rw [h_mm]; exact (Nat.le_trans (sm_digs (k := 2) (by unfold Bs; decide)) (by omega))) w ht)
  have T11b := Lib.hid (fun w ht => text_lit q [49, 52, 50, 56, 53, 55, 49, 52, 50, 56, 53, 55, 49, 52, 50, 56, 53, 55, 49, 52] (isDec_yes (by decide +kernel)) (by rw [h_q]; decide +kernel) (by rw [h_q]; exact (Nat.le_trans (sm_digs (k := 1) (by unfold Bs; decide)) (by omega))) w ht)
  have O11a := Lib.hid (fun w => of_val 2 2 rfl (by unfold Bs; omega) w)
  have G11 := Lib.hid (fun w => gcd_any two six (by rw [h_two]; exact (Nat.le_trans (sm_digs (k := 2) (by unfold Bs; decide)) (by omega))) (by rw [h_six]; exact (Nat.le_trans (sm_digs (k := 1) (by unfold Bs; decide)) (by omega))) w)
  rw [show Nat.gcd two six = 1048576 by rw [h_two, h_six]; decide] at G11
  have O11b := Lib.hid (fun w => of_val 1048576 1048576 rfl (by unfold Bs; omega) w)
  have Q11 := Lib.hid (fun w => sqrt_pos less (by rw [h_less]; omega) (by rw [h_less]; exact (Nat.le_trans (sm_digs (k := 2) (by unfold Bs; decide)) (by omega))) w)
  rw [show isq less = rt from (isq_uniq (by rw [h_rt, h_less]; decide) (by rw [h_rt, h_less]; decide)).symm] at Q11
  have O11c := Lib.hid (fun w => of_val 9999999999 rt (by rw [h_rt]; rfl) (by rw [h_rt]; unfold Bs; omega) w)
  have O11d := Lib.hid (fun w => of_val 1 1 rfl (by unfold Bs; omega) w)
  have A11 := Lib.hid (fun w => add_any m 1 (by rw [h_m]; exact (Nat.le_trans (sm_digs (k := 1) (by unfold Bs; decide)) (by omega))) (Nat.le_trans (sm_digs (k := 1) (by unfold Bs; decide)) (by omega)) w)
  rw [show m + 1 = m1 by rw [h_m, h_m1]] at A11
  have B11 := Lib.hid (fun w => bits_any m1 (by rw [h_m1]; exact (Nat.le_trans (sm_digs (k := 2) (by unfold Bs; decide)) (by omega))) w)
  rw [show nb m1 = 65 from nb_of (by rw [h_m1]; decide) (by rw [h_m1]; decide)] at B11
  have R13 := fun w => parse_form [48, 48] (by decide) (isDec_no (by decide +kernel)) w
  rw [natV_zero] at R13
  have h0 : st [48, 48] = ⟨#[48, 48]⟩ := rfl
  rw [h0] at R13
  clear h0
  replace R13 := Lib.hid R13
  have R14 := fun w => parse_form [] (by decide) (isDec_no (by decide +kernel)) w
  rw [natV_zero] at R14
  have h0 : st [] = ⟨#[]⟩ := rfl
  rw [h0] at R14
  clear h0
  replace R14 := Lib.hid R14
  have R15 := fun w => parse_form [45, 49] (by decide) (isDec_no (by decide +kernel)) w
  rw [natV_zero] at R15
  have h0 : st [45, 49] = ⟨#[45, 49]⟩ := rfl
  rw [h0] at R15
  clear h0
  replace R15 := Lib.hid R15
  have R16 := Lib.hid (fun w => parse_ok [49, 50] (by decide) (isDec_yes (by decide +kernel)) w)
  rw [show dval [49, 50] = 12 by decide, show st [49, 50] = ⟨#[49, 50]⟩ from rfl] at R16
  have O17a := Lib.hid (fun w => of_val 1 1 rfl (by unfold Bs; omega) w)
  have O17b := Lib.hid (fun w => of_val 12 12 rfl (by unfold Bs; omega) w)
  clear h_m h_ten h_q h_two h_six h_less h_mm h_m1 h_rt
  have hL0 : NL w w [] := NL.start w
  go_enter Tryz.func16, Tryz.ntmps16
  go_wp2_with fail
  with_reducible refine Calls.mono (O1.out _) ?_
  rintro e x1 ⟨rfl, hb⟩
  replace hL0 := hL0.call hb
  clear hb O1
  replace hL0 := hL0.new rfl m 32
  generalize hweq : x1.alloc (.cells #[.int .u64 ((lo m : Nat) : Int), .string (hs m)] 32) = x2 at hL0
  go_wp2_with fail
  with_reducible refine Calls.mono (O2.out _) ?_
  rintro e x3 ⟨rfl, hb⟩
  replace hL0 := hL0.call hb
  clear hb O2 hweq
  go_wp2_with fail
  with_reducible refine Calls.mono (P2.out _) ?_
  rintro e x4 ⟨rfl, hb⟩
  replace hL0 := hL0.call hb
  clear hb P2
  replace hL0 := hL0.new rfl ten 32
  generalize hweq : x4.alloc (.cells #[.int .u64 ((lo ten : Nat) : Int), .string (hs ten)] 32) = x5 at hL0
  go_upto_region 3 with fail
  go_cut [4, 5, 6] from 4 to 42 (fun t4 t5 t6 wx => ∃ k4 k5, t4 = .pointer (some ⟨k4, 0, none⟩) ∧ t5 = .pointer (some ⟨k5, 0, none⟩) ∧ t6 = .bool true ∧ NL w wx [(k5, 2), (k4, q), (x4.heap.size, ten), (x1.heap.size, m)])
  case first =>
    clear hweq
    have hR := NL.start x5
    have hnw : ∀ (W : World) (v0 v1 : Value) (t : TypeId), (W.alloc (.cells #[v0, v1] t)).cell? ⟨W.heap.size, 0, none⟩ = some v0 ∧ (W.alloc (.cells #[v0, v1] t)).cell? ⟨W.heap.size, 1, none⟩ = some v1 ∧ ∀ j, (W.alloc (.cells #[v0, v1] t)).frozen? ⟨W.heap.size, j, none⟩ = false := nw_all
    have hs0 : [(x4.heap.size, ten)] ⊆ [(x4.heap.size, ten), (x1.heap.size, m)] := by simp
    go_region_held3 (fun w' => w'.cell? ⟨x4.heap.size, 0, none⟩ = some (.int .u64 ((lo ten : Nat) : Int)) ∧ w'.cell? ⟨x4.heap.size, 1, none⟩ = some (.string (hs ten)))
      ((apply (NL.keep (w0 := x5) (C := [(x4.heap.size, ten)]) hL0 hs0); (first | ((repeat (first | (with_reducible exact szAD _ _) | (with_reducible exact szA _ _) | (with_reducible exact szD _) | (with_reducible exact rfl) | assumption | (with_reducible apply NL.drew) | (with_reducible apply NL.new0) | (with_reducible apply NL.new) | (with_reducible apply NL.put0) | (with_reducible apply NL.put1))); done) | ((with_reducible apply NL.put1); (repeat (first | (with_reducible exact szAD _ _) | (with_reducible exact szA _ _) | (with_reducible exact szD _) | (with_reducible exact rfl) | assumption | (with_reducible apply NL.drew) | (with_reducible apply NL.new0) | (with_reducible apply NL.new) | (with_reducible apply NL.put0) | (with_reducible apply NL.put1))); done))))
      (first
        | (go_at_call 65; ((with_reducible refine Calls.mono (O3.out _) ?_); rintro e wc0 ⟨rfl, hbc0⟩; have hLc0 := NL.call (w0 := x5) (by (first | ((repeat (first | (with_reducible exact szAD _ _) | (with_reducible exact szA _ _) | (with_reducible exact szD _) | (with_reducible exact rfl) | assumption | (with_reducible apply NL.drew) | (with_reducible apply NL.new0) | (with_reducible apply NL.new) | (with_reducible apply NL.put0) | (with_reducible apply NL.put1))); done) | ((with_reducible apply NL.put1); (repeat (first | (with_reducible exact szAD _ _) | (with_reducible exact szA _ _) | (with_reducible exact szD _) | (with_reducible exact rfl) | assumption | (with_reducible apply NL.drew) | (with_reducible apply NL.new0) | (with_reducible apply NL.new) | (with_reducible apply NL.put0) | (with_reducible apply NL.put1))); done))) hbc0; have hAc0 := hLc0.fc; simp only [fc, ne, and_true, ne_eq, not_false_eq_true] at hAc0))
        | (go_at_call 57; ((with_reducible refine Calls.mono (D3.out _) ?_); rintro e wc1 ⟨rfl, hbc1⟩; have hLc1 := NL.call (w0 := x5) (by (first | ((repeat (first | (with_reducible exact szAD _ _) | (with_reducible exact szA _ _) | (with_reducible exact szD _) | (with_reducible exact rfl) | assumption | (with_reducible apply NL.drew) | (with_reducible apply NL.new0) | (with_reducible apply NL.new) | (with_reducible apply NL.put0) | (with_reducible apply NL.put1))); done) | ((with_reducible apply NL.put1); (repeat (first | (with_reducible exact szAD _ _) | (with_reducible exact szA _ _) | (with_reducible exact szD _) | (with_reducible exact rfl) | assumption | (with_reducible apply NL.drew) | (with_reducible apply NL.new0) | (with_reducible apply NL.new) | (with_reducible apply NL.put0) | (with_reducible apply NL.put1))); done))) hbc1; have hAc1 := hLc1.fc; simp only [fc, ne, and_true, ne_eq, not_false_eq_true] at hAc1)))
    all_goals (
      go_wp2_with fail
      go_meet
      exact ⟨_, _, rfl, rfl, rfl, by first | exact NL.join (L := [_, _]) hL0 (by (first | ((repeat (first | (with_reducible exact szAD _ _) | (with_reducible exact szA _ _) | (with_reducible exact szD _) | (with_reducible exact rfl) | assumption | (with_reducible apply NL.drew) | (with_reducible apply NL.new0) | (with_reducible apply NL.new) | (with_reducible apply NL.put0) | (with_reducible apply NL.put1))); done) | ((with_reducible apply NL.put1); (repeat (first | (with_reducible exact szAD _ _) | (with_reducible exact szA _ _) | (with_reducible exact szD _) | (with_reducible exact rfl) | assumption | (with_reducible apply NL.drew) | (with_reducible apply NL.new0) | (with_reducible apply NL.new) | (with_reducible apply NL.put0) | (with_reducible apply NL.put1))); done))) | exact NL.join (L := [_, _]) hL0 (NL.swap (by (first | ((repeat (first | (with_reducible exact szAD _ _) | (with_reducible exact szA _ _) | (with_reducible exact szD _) | (with_reducible exact rfl) | assumption | (with_reducible apply NL.drew) | (with_reducible apply NL.new0) | (with_reducible apply NL.new) | (with_reducible apply NL.put0) | (with_reducible apply NL.put1))); done) | ((with_reducible apply NL.put1); (repeat (first | (with_reducible exact szAD _ _) | (with_reducible exact szA _ _) | (with_reducible exact szD _) | (with_reducible exact rfl) | assumption | (with_reducible apply NL.drew) | (with_reducible apply NL.new0) | (with_reducible apply NL.new) | (with_reducible apply NL.put0) | (with_reducible apply NL.put1))); done))))⟩)
  case rest =>
    clear hL0 O3 D3
    obtain ⟨k4, k5, rfl, rfl, rfl, hL0⟩ := hcut
    go_wp2_with fail
    with_reducible refine Calls.mono (O4.out _) ?_
    rintro e x6 ⟨rfl, hb⟩
    replace hL0 := hL0.call hb
    clear hb O4
    go_wp2_with fail
    with_reducible refine Calls.mono (P4.out _) ?_
    rintro e x7 ⟨rfl, hb⟩
    replace hL0 := hL0.call hb
    clear hb P4
    replace hL0 := hL0.new rfl two 32
    generalize hweq : x7.alloc (.cells #[.int .u64 ((lo two : Nat) : Int), .string (hs two)] 32) = x8 at hL0
    go_wp2_with fail
    with_reducible refine Calls.mono (O5.out _) ?_
    rintro e x9 ⟨rfl, hb⟩
    replace hL0 := hL0.call hb
    clear hb O5 hweq
    go_wp2_with fail
    with_reducible refine Calls.mono (P5.out _) ?_
    rintro e x10 ⟨rfl, hb⟩
    replace hL0 := hL0.call hb
    clear hb P5
    replace hL0 := hL0.new rfl six 32
    generalize hweq : x10.alloc (.cells #[.int .u64 ((lo six : Nat) : Int), .string (hs six)] 32) = x11 at hL0
    go_upto_region 6 with fail
    go_cut [11, 12] from 11 to 58 (fun t11 t12 wx => ∃ k11, t11 = .pointer (some ⟨k11, 0, none⟩) ∧ t12 = .bool true ∧ NL w wx [(k11, less), (x10.heap.size, six), (x7.heap.size, two), (k5, 2), (k4, q), (x4.heap.size, ten), (x1.heap.size, m)])
    case first =>
      clear hweq
      have hR := NL.start x11
      have hnw : ∀ (W : World) (v0 v1 : Value) (t : TypeId), (W.alloc (.cells #[v0, v1] t)).cell? ⟨W.heap.size, 0, none⟩ = some v0 ∧ (W.alloc (.cells #[v0, v1] t)).cell? ⟨W.heap.size, 1, none⟩ = some v1 ∧ ∀ j, (W.alloc (.cells #[v0, v1] t)).frozen? ⟨W.heap.size, j, none⟩ = false := nw_all
      have hs0 : [(x4.heap.size, ten)] ⊆ [(x10.heap.size, six), (x7.heap.size, two), (k5, 2), (k4, q), (x4.heap.size, ten), (x1.heap.size, m)] := by simp
      go_region_held3 (fun w' => w'.cell? ⟨x4.heap.size, 0, none⟩ = some (.int .u64 ((lo ten : Nat) : Int)) ∧ w'.cell? ⟨x4.heap.size, 1, none⟩ = some (.string (hs ten)))
        ((apply (NL.keep (w0 := x11) (C := [(x4.heap.size, ten)]) hL0 hs0); (first | ((repeat (first | (with_reducible exact szAD _ _) | (with_reducible exact szA _ _) | (with_reducible exact szD _) | (with_reducible exact rfl) | assumption | (with_reducible apply NL.drew) | (with_reducible apply NL.new0) | (with_reducible apply NL.new) | (with_reducible apply NL.put0) | (with_reducible apply NL.put1))); done) | ((with_reducible apply NL.put1); (repeat (first | (with_reducible exact szAD _ _) | (with_reducible exact szA _ _) | (with_reducible exact szD _) | (with_reducible exact rfl) | assumption | (with_reducible apply NL.drew) | (with_reducible apply NL.new0) | (with_reducible apply NL.new) | (with_reducible apply NL.put0) | (with_reducible apply NL.put1))); done))))
        (first
          | (go_at_call 65; ((with_reducible refine Calls.mono (O6.out _) ?_); rintro e wc0 ⟨rfl, hbc0⟩; have hLc0 := NL.call (w0 := x11) (by (first | ((repeat (first | (with_reducible exact szAD _ _) | (with_reducible exact szA _ _) | (with_reducible exact szD _) | (with_reducible exact rfl) | assumption | (with_reducible apply NL.drew) | (with_reducible apply NL.new0) | (with_reducible apply NL.new) | (with_reducible apply NL.put0) | (with_reducible apply NL.put1))); done) | ((with_reducible apply NL.put1); (repeat (first | (with_reducible exact szAD _ _) | (with_reducible exact szA _ _) | (with_reducible exact szD _) | (with_reducible exact rfl) | assumption | (with_reducible apply NL.drew) | (with_reducible apply NL.new0) | (with_reducible apply NL.new) | (with_reducible apply NL.put0) | (with_reducible apply NL.put1))); done))) hbc0; have hAc0 := hLc0.fc; simp only [fc, ne, and_true, ne_eq, not_false_eq_true] at hAc0))
          | (go_at_call 51; ((with_reducible refine Calls.mono (S6.out _) ?_); rintro e wc1 ⟨rfl, hbc1⟩; have hLc1 := NL.call (w0 := x11) (by (first | ((repeat (first | (with_reducible exact szAD _ _) | (with_reducible exact szA _ _) | (with_reducible exact szD _) | (with_reducible exact rfl) | assumption | (with_reducible apply NL.drew) | (with_reducible apply NL.new0) | (with_reducible apply NL.new) | (with_reducible apply NL.put0) | (with_reducible apply NL.put1))); done) | ((with_reducible apply NL.put1); (repeat (first | (with_reducible exact szAD _ _) | (with_reducible exact szA _ _) | (with_reducible exact szD _) | (with_reducible exact rfl) | assumption | (with_reducible apply NL.drew) | (with_reducible apply NL.new0) | (with_reducible apply NL.new) | (with_reducible apply NL.put0) | (with_reducible apply NL.put1))); done))) hbc1; have hAc1 := hLc1.fc; simp only [fc, ne, and_true, ne_eq, not_false_eq_true] at hAc1)))
      all_goals (
        go_wp2_with fail
        go_meet
        exact ⟨_, rfl, rfl, NL.join (L := [_]) hL0 (by (first | ((repeat (first | (with_reducible exact szAD _ _) | (with_reducible exact szA _ _) | (with_reducible exact szD _) | (with_reducible exact rfl) | assumption | (with_reducible apply NL.drew) | (with_reducible apply NL.new0) | (with_reducible apply NL.new) | (with_reducible apply NL.put0) | (with_reducible apply NL.put1))); done) | ((with_reducible apply NL.put1); (repeat (first | (with_reducible exact szAD _ _) | (with_reducible exact szA _ _) | (with_reducible exact szD _) | (with_reducible exact rfl) | assumption | (with_reducible apply NL.drew) | (with_reducible apply NL.new0) | (with_reducible apply NL.new) | (with_reducible apply NL.put0) | (with_reducible apply NL.put1))); done)))⟩)
    case rest =>
      clear hL0 O6 S6
      obtain ⟨k11, rfl, rfl, hL0⟩ := hcut
      go_wp2_with fail
      with_reducible refine Calls.mono (O7a.out _) ?_
      rintro e x12 ⟨rfl, hb⟩
      replace hL0 := hL0.call hb
      clear hb O7a
      go_wp2_with fail
      with_reducible refine Calls.mono (O7b.out _) ?_
      rintro e x13 ⟨rfl, hb⟩
      replace hL0 := hL0.call hb
      clear hb O7b
      go_wp2_with fail
      with_reducible refine Calls.mono (S7.out _) ?_
      rintro e x14 ⟨rfl, hb⟩
      replace hL0 := hL0.call hb
      clear hb S7
      replace hL0 := hL0.new rfl 0 32
      generalize hweq : x14.alloc (.cells #[.int .u64 ((lo 0 : Nat) : Int), .string (hs 0)] 32) = x15 at hL0
      go_wp2_with fail
      with_reducible refine Calls.mono (O8.out _) ?_
      rintro e x16 ⟨rfl, hb⟩
      replace hL0 := hL0.call hb
      clear hb O8 hweq
      go_wp2_with fail
      with_reducible refine Calls.mono (D8.out _) ?_
      rintro e x17 ⟨rfl, hb⟩
      replace hL0 := hL0.call hb
      clear hb D8
      replace hL0 := (hL0.new0 rfl 32).new0 (szA _ _) 32
      go_wp2_with fail
      with_reducible refine Calls.mono (P9.out _) ?_
      rintro e x19 ⟨rfl, hb⟩
      replace hL0 := hL0.call hb
      clear hb P9
      replace hL0 := hL0.new rfl 1 32
      generalize hweq : x19.alloc (.cells #[.int .u64 ((lo 1 : Nat) : Int), .string (hs 1)] 32) = x20 at hL0
      go_wp2_with fail
      with_reducible refine Calls.mono (O10.out _) ?_
      rintro e x21 ⟨rfl, hb⟩
      replace hL0 := hL0.call hb
      clear hb O10 hweq
      go_wp2_with fail
      with_reducible refine Calls.mono (P10.out _) ?_
      rintro e x22 ⟨rfl, hb⟩
      replace hL0 := hL0.call hb
      clear hb P10
      replace hL0 := hL0.new0 rfl 32
      go_upto_region 11 with fail
      generalize hz20 : (x22.alloc (.cells #[.int .u64 0, .string ⟨#[]⟩] 32)) = wz at hL0 ⊢
      clear hz20
      go_cut [120] from 82 to 120 (fun t120 wx => t120 = .bool false ∧ NL w wx [(x22.heap.size, 0), (x19.heap.size, 1), (x17.heap.size + 1, 0), (x17.heap.size, 0), (x14.heap.size, 0), (k11, less), (x10.heap.size, six), (x7.heap.size, two), (k5, 2), (k4, q), (x4.heap.size, ten), (x1.heap.size, m)])
      case first =>
        have htB : Tab wz := htab.below hL0.bl
        have hR := NL.start wz
        have hs0 : [(x1.heap.size, m), (k4, q), (k5, 2), (x7.heap.size, two), (x10.heap.size, six), (k11, less)] ⊆ [(x22.heap.size, 0), (x19.heap.size, 1), (x17.heap.size + 1, 0), (x17.heap.size, 0), (x14.heap.size, 0), (k11, less), (x10.heap.size, six), (x7.heap.size, two), (k5, 2), (k4, q), (x4.heap.size, ten), (x1.heap.size, m)] := by simp
        go_region_held3 (fun w' => w'.cell? ⟨x1.heap.size, 0, none⟩ = some (.int .u64 ((lo m : Nat) : Int)) ∧ w'.cell? ⟨x1.heap.size, 1, none⟩ = some (.string (hs m)) ∧ w'.cell? ⟨k4, 0, none⟩ = some (.int .u64 ((lo q : Nat) : Int)) ∧ w'.cell? ⟨k4, 1, none⟩ = some (.string (hs q)) ∧ w'.cell? ⟨k5, 0, none⟩ = some (.int .u64 ((lo 2 : Nat) : Int)) ∧ w'.cell? ⟨k5, 1, none⟩ = some (.string (hs 2)) ∧ w'.cell? ⟨x7.heap.size, 0, none⟩ = some (.int .u64 ((lo two : Nat) : Int)) ∧ w'.cell? ⟨x7.heap.size, 1, none⟩ = some (.string (hs two)) ∧ w'.cell? ⟨x10.heap.size, 0, none⟩ = some (.int .u64 ((lo six : Nat) : Int)) ∧ w'.cell? ⟨x10.heap.size, 1, none⟩ = some (.string (hs six)) ∧ w'.cell? ⟨k11, 0, none⟩ = some (.int .u64 ((lo less : Nat) : Int)) ∧ w'.cell? ⟨k11, 1, none⟩ = some (.string (hs less)))
          ((apply (NL.keep (w0 := wz) (C := [(x1.heap.size, m), (k4, q), (k5, 2), (x7.heap.size, two), (x10.heap.size, six), (k11, less)]) hL0 hs0); (first | ((repeat (first | (with_reducible exact szAD _ _) | (with_reducible exact szA _ _) | (with_reducible exact szD _) | (with_reducible exact rfl) | assumption | (with_reducible apply NL.drew) | (with_reducible apply NL.new0) | (with_reducible apply NL.new) | (with_reducible apply NL.put0) | (with_reducible apply NL.put1))); done) | ((with_reducible apply NL.put1); (repeat (first | (with_reducible exact szAD _ _) | (with_reducible exact szA _ _) | (with_reducible exact szD _) | (with_reducible exact rfl) | assumption | (with_reducible apply NL.drew) | (with_reducible apply NL.new0) | (with_reducible apply NL.new) | (with_reducible apply NL.put0) | (with_reducible apply NL.put1))); done))))
          (first
            | (go_at_call 58; ((with_reducible refine Calls.mono (M11.out _) ?_); rintro e wd0 ⟨rfl, hbd0⟩; have hLd0 := NL.call (w0 := wz) (by (first | ((repeat (first | (with_reducible exact szAD _ _) | (with_reducible exact szA _ _) | (with_reducible exact szD _) | (with_reducible exact rfl) | assumption | (with_reducible apply NL.drew) | (with_reducible apply NL.new0) | (with_reducible apply NL.new) | (with_reducible apply NL.put0) | (with_reducible apply NL.put1))); done) | ((with_reducible apply NL.put1); (repeat (first | (with_reducible exact szAD _ _) | (with_reducible exact szA _ _) | (with_reducible exact szD _) | (with_reducible exact rfl) | assumption | (with_reducible apply NL.drew) | (with_reducible apply NL.new0) | (with_reducible apply NL.new) | (with_reducible apply NL.put0) | (with_reducible apply NL.put1))); done))) hbd0; have hAd0 := hLd0.fc; simp only [fc, ne, and_true, ne_eq, not_false_eq_true] at hAd0))
            | (go_at_call 34; ((with_reducible refine Calls.mono (T11a.out _ (htB.below (NL.bl (w0 := wz) (by (first | ((repeat (first | (with_reducible exact szAD _ _) | (with_reducible exact szA _ _) | (with_reducible exact szD _) | (with_reducible exact rfl) | assumption | (with_reducible apply NL.drew) | (with_reducible apply NL.new0) | (with_reducible apply NL.new) | (with_reducible apply NL.put0) | (with_reducible apply NL.put1))); done) | ((with_reducible apply NL.put1); (repeat (first | (with_reducible exact szAD _ _) | (with_reducible exact szA _ _) | (with_reducible exact szD _) | (with_reducible exact rfl) | assumption | (with_reducible apply NL.drew) | (with_reducible apply NL.new0) | (with_reducible apply NL.new) | (with_reducible apply NL.put0) | (with_reducible apply NL.put1))); done)))))) ?_); rintro e wd1 ⟨rfl, hbd1⟩; have hLd1 := NL.call (w0 := wz) (by (first | ((repeat (first | (with_reducible exact szAD _ _) | (with_reducible exact szA _ _) | (with_reducible exact szD _) | (with_reducible exact rfl) | assumption | (with_reducible apply NL.drew) | (with_reducible apply NL.new0) | (with_reducible apply NL.new) | (with_reducible apply NL.put0) | (with_reducible apply NL.put1))); done) | ((with_reducible apply NL.put1); (repeat (first | (with_reducible exact szAD _ _) | (with_reducible exact szA _ _) | (with_reducible exact szD _) | (with_reducible exact rfl) | assumption | (with_reducible apply NL.drew) | (with_reducible apply NL.new0) | (with_reducible apply NL.new) | (with_reducible apply NL.put0) | (with_reducible apply NL.put1))); done))) hbd1; have hAd1 := hLd1.fc; simp only [fc, ne, and_true, ne_eq, not_false_eq_true] at hAd1))
            | (go_at_call 34; ((with_reducible refine Calls.mono (T11b.out _ (htB.below (NL.bl (w0 := wz) (by (first | ((repeat (first | (with_reducible exact szAD _ _) | (with_reducible exact szA _ _) | (with_reducible exact szD _) | (with_reducible exact rfl) | assumption | (with_reducible apply NL.drew) | (with_reducible apply NL.new0) | (with_reducible apply NL.new) | (with_reducible apply NL.put0) | (with_reducible apply NL.put1))); done) | ((with_reducible apply NL.put1); (repeat (first | (with_reducible exact szAD _ _) | (with_reducible exact szA _ _) | (with_reducible exact szD _) | (with_reducible exact rfl) | assumption | (with_reducible apply NL.drew) | (with_reducible apply NL.new0) | (with_reducible apply NL.new) | (with_reducible apply NL.put0) | (with_reducible apply NL.put1))); done)))))) ?_); rintro e wd2 ⟨rfl, hbd2⟩; have hLd2 := NL.call (w0 := wz) (by (first | ((repeat (first | (with_reducible exact szAD _ _) | (with_reducible exact szA _ _) | (with_reducible exact szD _) | (with_reducible exact rfl) | assumption | (with_reducible apply NL.drew) | (with_reducible apply NL.new0) | (with_reducible apply NL.new) | (with_reducible apply NL.put0) | (with_reducible apply NL.put1))); done) | ((with_reducible apply NL.put1); (repeat (first | (with_reducible exact szAD _ _) | (with_reducible exact szA _ _) | (with_reducible exact szD _) | (with_reducible exact rfl) | assumption | (with_reducible apply NL.drew) | (with_reducible apply NL.new0) | (with_reducible apply NL.new) | (with_reducible apply NL.put0) | (with_reducible apply NL.put1))); done))) hbd2; have hAd2 := hLd2.fc; simp only [fc, ne, and_true, ne_eq, not_false_eq_true] at hAd2))
            | (go_at_call 65; ((with_reducible refine Calls.mono (O11a.out _) ?_); rintro e wd3 ⟨rfl, hbd3⟩; have hLd3 := NL.call (w0 := wz) (by (first | ((repeat (first | (with_reducible exact szAD _ _) | (with_reducible exact szA _ _) | (with_reducible exact szD _) | (with_reducible exact rfl) | assumption | (with_reducible apply NL.drew) | (with_reducible apply NL.new0) | (with_reducible apply NL.new) | (with_reducible apply NL.put0) | (with_reducible apply NL.put1))); done) | ((with_reducible apply NL.put1); (repeat (first | (with_reducible exact szAD _ _) | (with_reducible exact szA _ _) | (with_reducible exact szD _) | (with_reducible exact rfl) | assumption | (with_reducible apply NL.drew) | (with_reducible apply NL.new0) | (with_reducible apply NL.new) | (with_reducible apply NL.put0) | (with_reducible apply NL.put1))); done))) hbd3; have hAd3 := hLd3.fc; simp only [fc, ne, and_true, ne_eq, not_false_eq_true] at hAd3))
            | (go_at_call 60; ((with_reducible refine Calls.mono (G11.out _) ?_); rintro e wd4 ⟨rfl, hbd4⟩; have hLd4 := NL.call (w0 := wz) (by (first | ((repeat (first | (with_reducible exact szAD _ _) | (with_reducible exact szA _ _) | (with_reducible exact szD _) | (with_reducible exact rfl) | assumption | (with_reducible apply NL.drew) | (with_reducible apply NL.new0) | (with_reducible apply NL.new) | (with_reducible apply NL.put0) | (with_reducible apply NL.put1))); done) | ((with_reducible apply NL.put1); (repeat (first | (with_reducible exact szAD _ _) | (with_reducible exact szA _ _) | (with_reducible exact szD _) | (with_reducible exact rfl) | assumption | (with_reducible apply NL.drew) | (with_reducible apply NL.new0) | (with_reducible apply NL.new) | (with_reducible apply NL.put0) | (with_reducible apply NL.put1))); done))) hbd4; have hAd4 := hLd4.fc; simp only [fc, ne, and_true, ne_eq, not_false_eq_true] at hAd4))
            | (go_at_call 65; ((with_reducible refine Calls.mono (O11b.out _) ?_); rintro e wd5 ⟨rfl, hbd5⟩; have hLd5 := NL.call (w0 := wz) (by (first | ((repeat (first | (with_reducible exact szAD _ _) | (with_reducible exact szA _ _) | (with_reducible exact szD _) | (with_reducible exact rfl) | assumption | (with_reducible apply NL.drew) | (with_reducible apply NL.new0) | (with_reducible apply NL.new) | (with_reducible apply NL.put0) | (with_reducible apply NL.put1))); done) | ((with_reducible apply NL.put1); (repeat (first | (with_reducible exact szAD _ _) | (with_reducible exact szA _ _) | (with_reducible exact szD _) | (with_reducible exact rfl) | assumption | (with_reducible apply NL.drew) | (with_reducible apply NL.new0) | (with_reducible apply NL.new) | (with_reducible apply NL.put0) | (with_reducible apply NL.put1))); done))) hbd5; have hAd5 := hLd5.fc; simp only [fc, ne, and_true, ne_eq, not_false_eq_true] at hAd5))
            | (go_at_call 64; ((with_reducible refine Calls.mono (Q11.out _) ?_); rintro e wd6 ⟨rfl, hbd6⟩; have hLd6 := NL.call (w0 := wz) (by (first | ((repeat (first | (with_reducible exact szAD _ _) | (with_reducible exact szA _ _) | (with_reducible exact szD _) | (with_reducible exact rfl) | assumption | (with_reducible apply NL.drew) | (with_reducible apply NL.new0) | (with_reducible apply NL.new) | (with_reducible apply NL.put0) | (with_reducible apply NL.put1))); done) | ((with_reducible apply NL.put1); (repeat (first | (with_reducible exact szAD _ _) | (with_reducible exact szA _ _) | (with_reducible exact szD _) | (with_reducible exact rfl) | assumption | (with_reducible apply NL.drew) | (with_reducible apply NL.new0) | (with_reducible apply NL.new) | (with_reducible apply NL.put0) | (with_reducible apply NL.put1))); done))) hbd6; have hAd6 := hLd6.fc; simp only [fc, ne, and_true, ne_eq, not_false_eq_true] at hAd6))
            | (go_at_call 65; ((with_reducible refine Calls.mono (O11c.out _) ?_); rintro e wd7 ⟨rfl, hbd7⟩; have hLd7 := NL.call (w0 := wz) (by (first | ((repeat (first | (with_reducible exact szAD _ _) | (with_reducible exact szA _ _) | (with_reducible exact szD _) | (with_reducible exact rfl) | assumption | (with_reducible apply NL.drew) | (with_reducible apply NL.new0) | (with_reducible apply NL.new) | (with_reducible apply NL.put0) | (with_reducible apply NL.put1))); done) | ((with_reducible apply NL.put1); (repeat (first | (with_reducible exact szAD _ _) | (with_reducible exact szA _ _) | (with_reducible exact szD _) | (with_reducible exact rfl) | assumption | (with_reducible apply NL.drew) | (with_reducible apply NL.new0) | (with_reducible apply NL.new) | (with_reducible apply NL.put0) | (with_reducible apply NL.put1))); done))) hbd7; have hAd7 := hLd7.fc; simp only [fc, ne, and_true, ne_eq, not_false_eq_true] at hAd7))
            | (go_at_call 65; ((with_reducible refine Calls.mono (O11d.out _) ?_); rintro e wd8 ⟨rfl, hbd8⟩; have hLd8 := NL.call (w0 := wz) (by (first | ((repeat (first | (with_reducible exact szAD _ _) | (with_reducible exact szA _ _) | (with_reducible exact szD _) | (with_reducible exact rfl) | assumption | (with_reducible apply NL.drew) | (with_reducible apply NL.new0) | (with_reducible apply NL.new) | (with_reducible apply NL.put0) | (with_reducible apply NL.put1))); done) | ((with_reducible apply NL.put1); (repeat (first | (with_reducible exact szAD _ _) | (with_reducible exact szA _ _) | (with_reducible exact szD _) | (with_reducible exact rfl) | assumption | (with_reducible apply NL.drew) | (with_reducible apply NL.new0) | (with_reducible apply NL.new) | (with_reducible apply NL.put0) | (with_reducible apply NL.put1))); done))) hbd8; have hAd8 := hLd8.fc; simp only [fc, ne, and_true, ne_eq, not_false_eq_true] at hAd8))
            | (go_at_call 53; ((with_reducible refine Calls.mono (A11.out _) ?_); rintro e wd9 ⟨rfl, hbd9⟩; have hLd9 := NL.call (w0 := wz) (by (first | ((repeat (first | (with_reducible exact szAD _ _) | (with_reducible exact szA _ _) | (with_reducible exact szD _) | (with_reducible exact rfl) | assumption | (with_reducible apply NL.drew) | (with_reducible apply NL.new0) | (with_reducible apply NL.new) | (with_reducible apply NL.put0) | (with_reducible apply NL.put1))); done) | ((with_reducible apply NL.put1); (repeat (first | (with_reducible exact szAD _ _) | (with_reducible exact szA _ _) | (with_reducible exact szD _) | (with_reducible exact rfl) | assumption | (with_reducible apply NL.drew) | (with_reducible apply NL.new0) | (with_reducible apply NL.new) | (with_reducible apply NL.put0) | (with_reducible apply NL.put1))); done))) hbd9; have hAd9 := hLd9.fc; simp only [fc, ne, and_true, ne_eq, not_false_eq_true] at hAd9))
            | (go_at_call 66; ((with_reducible refine Calls.mono (B11.out _) ?_); rintro e wda ⟨rfl, hbda⟩; have hLda := NL.call (w0 := wz) (by (first | ((repeat (first | (with_reducible exact szAD _ _) | (with_reducible exact szA _ _) | (with_reducible exact szD _) | (with_reducible exact rfl) | assumption | (with_reducible apply NL.drew) | (with_reducible apply NL.new0) | (with_reducible apply NL.new) | (with_reducible apply NL.put0) | (with_reducible apply NL.put1))); done) | ((with_reducible apply NL.put1); (repeat (first | (with_reducible exact szAD _ _) | (with_reducible exact szA _ _) | (with_reducible exact szD _) | (with_reducible exact rfl) | assumption | (with_reducible apply NL.drew) | (with_reducible apply NL.new0) | (with_reducible apply NL.new) | (with_reducible apply NL.put0) | (with_reducible apply NL.put1))); done))) hbda; have hAda := hLda.fc; simp only [fc, ne, and_true, ne_eq, not_false_eq_true] at hAda)))
        all_goals (
          go_wp2_with fail
          go_meet
          exact ⟨rfl, NL.join (L := []) hL0 (by (first | ((repeat (first | (with_reducible exact szAD _ _) | (with_reducible exact szA _ _) | (with_reducible exact szD _) | (with_reducible exact rfl) | assumption | (with_reducible apply NL.drew) | (with_reducible apply NL.new0) | (with_reducible apply NL.new) | (with_reducible apply NL.put0) | (with_reducible apply NL.put1))); done) | ((with_reducible apply NL.put1); (repeat (first | (with_reducible exact szAD _ _) | (with_reducible exact szA _ _) | (with_reducible exact szD _) | (with_reducible exact rfl) | assumption | (with_reducible apply NL.drew) | (with_reducible apply NL.new0) | (with_reducible apply NL.new) | (with_reducible apply NL.put0) | (with_reducible apply NL.put1))); done)))⟩)
      case rest =>
        clear hL0 M11 T11a T11b O11a G11 O11b Q11 O11c O11d A11 B11
        obtain ⟨rfl, hL0⟩ := hcut
        go_wp2_with fail
        with_reducible refine Calls.mono (R13.out _) ?_
        rintro e x24 ⟨rfl, hb⟩
        replace hL0 := hL0.call hb
        clear hb R13
        replace hL0 := hL0.new0 rfl 32
        go_wp2_with fail
        with_reducible refine Calls.mono (R14.out _) ?_
        rintro e x26 ⟨rfl, hb⟩
        replace hL0 := hL0.call hb
        clear hb R14
        replace hL0 := hL0.new0 rfl 32
        go_wp2_with fail
        with_reducible refine Calls.mono (R15.out _) ?_
        rintro e x28 ⟨rfl, hb⟩
        replace hL0 := hL0.call hb
        clear hb R15
        replace hL0 := hL0.new0 rfl 32
        go_wp2_with fail
        with_reducible refine Calls.mono (R16.out _) ?_
        rintro e x30 ⟨rfl, hb⟩
        replace hL0 := hL0.call hb
        clear hb R16
        replace hL0 := hL0.new rfl 12 32
        generalize hweq : x30.alloc (.cells #[.int .u64 ((lo 12 : Nat) : Int), .string (hs 12)] 32) = x31 at hL0
        go_wp2_with fail
        clear hweq
        have hR := NL.start x31
        have hs0 : [(x19.heap.size, 1), (x30.heap.size, 12)] ⊆ [(x30.heap.size, 12), (x28.heap.size, 0), (x26.heap.size, 0), (x24.heap.size, 0), (x22.heap.size, 0), (x19.heap.size, 1), (x17.heap.size + 1, 0), (x17.heap.size, 0), (x14.heap.size, 0), (k11, less), (x10.heap.size, six), (x7.heap.size, two), (k5, 2), (k4, q), (x4.heap.size, ten), (x1.heap.size, m)] := by simp
        go_region_held3 (fun w' => w'.cell? ⟨x19.heap.size, 0, none⟩ = some (.int .u64 ((lo 1 : Nat) : Int)) ∧ w'.cell? ⟨x19.heap.size, 1, none⟩ = some (.string (hs 1)) ∧ w'.cell? ⟨x30.heap.size, 0, none⟩ = some (.int .u64 ((lo 12 : Nat) : Int)) ∧ w'.cell? ⟨x30.heap.size, 1, none⟩ = some (.string (hs 12)))
          ((apply (NL.keep (w0 := x31) (C := [(x19.heap.size, 1), (x30.heap.size, 12)]) hL0 hs0); (first | ((repeat (first | (with_reducible exact szAD _ _) | (with_reducible exact szA _ _) | (with_reducible exact szD _) | (with_reducible exact rfl) | assumption | (with_reducible apply NL.drew) | (with_reducible apply NL.new0) | (with_reducible apply NL.new) | (with_reducible apply NL.put0) | (with_reducible apply NL.put1))); done) | ((with_reducible apply NL.put1); (repeat (first | (with_reducible exact szAD _ _) | (with_reducible exact szA _ _) | (with_reducible exact szD _) | (with_reducible exact rfl) | assumption | (with_reducible apply NL.drew) | (with_reducible apply NL.new0) | (with_reducible apply NL.new) | (with_reducible apply NL.put0) | (with_reducible apply NL.put1))); done))))
          (first
            | (go_at_call 65; ((with_reducible refine Calls.mono (O17a.out _) ?_); rintro e we0 ⟨rfl, hbe0⟩; have hLe0 := NL.call (w0 := x31) (by (first | ((repeat (first | (with_reducible exact szAD _ _) | (with_reducible exact szA _ _) | (with_reducible exact szD _) | (with_reducible exact rfl) | assumption | (with_reducible apply NL.drew) | (with_reducible apply NL.new0) | (with_reducible apply NL.new) | (with_reducible apply NL.put0) | (with_reducible apply NL.put1))); done) | ((with_reducible apply NL.put1); (repeat (first | (with_reducible exact szAD _ _) | (with_reducible exact szA _ _) | (with_reducible exact szD _) | (with_reducible exact rfl) | assumption | (with_reducible apply NL.drew) | (with_reducible apply NL.new0) | (with_reducible apply NL.new) | (with_reducible apply NL.put0) | (with_reducible apply NL.put1))); done))) hbe0; have hAe0 := hLe0.fc; simp only [fc, ne, and_true, ne_eq, not_false_eq_true] at hAe0))
            | (go_at_call 65; ((with_reducible refine Calls.mono (O17b.out _) ?_); rintro e we1 ⟨rfl, hbe1⟩; have hLe1 := NL.call (w0 := x31) (by (first | ((repeat (first | (with_reducible exact szAD _ _) | (with_reducible exact szA _ _) | (with_reducible exact szD _) | (with_reducible exact rfl) | assumption | (with_reducible apply NL.drew) | (with_reducible apply NL.new0) | (with_reducible apply NL.new) | (with_reducible apply NL.put0) | (with_reducible apply NL.put1))); done) | ((with_reducible apply NL.put1); (repeat (first | (with_reducible exact szAD _ _) | (with_reducible exact szA _ _) | (with_reducible exact szD _) | (with_reducible exact rfl) | assumption | (with_reducible apply NL.drew) | (with_reducible apply NL.new0) | (with_reducible apply NL.new) | (with_reducible apply NL.put0) | (with_reducible apply NL.put1))); done))) hbe1; have hAe1 := hLe1.fc; simp only [fc, ne, and_true, ne_eq, not_false_eq_true] at hAe1)))
        all_goals (
          go_wp2_with fail
          exact bodyPost_ret (v := .bool true) (by simp [results, Tryz.results16, go_sem]) rfl ⟨rfl, (NL.join (L := []) hL0 (by (first | ((repeat (first | (with_reducible exact szAD _ _) | (with_reducible exact szA _ _) | (with_reducible exact szD _) | (with_reducible exact rfl) | assumption | (with_reducible apply NL.drew) | (with_reducible apply NL.new0) | (with_reducible apply NL.new) | (with_reducible apply NL.put0) | (with_reducible apply NL.put1))); done) | ((with_reducible apply NL.put1); (repeat (first | (with_reducible exact szAD _ _) | (with_reducible exact szA _ _) | (with_reducible exact szD _) | (with_reducible exact rfl) | assumption | (with_reducible apply NL.drew) | (with_reducible apply NL.new0) | (with_reducible apply NL.new) | (with_reducible apply NL.put0) | (with_reducible apply NL.put1))); done)))).bl⟩)
end Go.Proofs.YthehcjfmokabfaaGreatDoor
