/-
  Layer 2, law: IntsSmall.
-/
import Derived.Test.YthehcjfmokabfaaDoorIl
import Derived.Deep.CutRange
set_option linter.unusedVariables false
set_option linter.unusedSimpArgs false
namespace Go.Proofs.YthehcjfmokabfaaDoor
open Go.RowKit
attribute [local irreducible] lo hs sm s64 c64 d64 b64 mh ml pd pc qd qc val hiB str cmpI srD lz nb isq decB zl zh zs dval

theorem in64_mul {m n : Int} (h1 : -2147483648 < m) (h2 : m < 2147483648) (h3 : -2147483648 < n) (h4 : n < 2147483648) : in64 (m * n) = true := by
  have h : (m * n).natAbs ≤ 2147483647 * 2147483647 := by rw [Int.natAbs_mul]; exact Nat.mul_le_mul (by omega) (by omega)
  exact decide_eq_true ⟨by omega, by omega⟩
theorem div_out {m n : Int} (h0 : n ≠ 0) (h1 : -9223372036854775808 ≤ m) (h2 : m ≤ 9223372036854775807) (h : in64 (m / n) = false) : m = -9223372036854775808 ∧ n = -1 := by
  have hn := of_decide_eq_false h
  have ha := Int.natAbs_ediv_le_natAbs m n
  have hb : m / n = 9223372036854775808 ∧ m = -9223372036854775808 := by omega
  refine ⟨hb.2, ?_⟩
  have e := Int.mul_ediv_add_emod m n
  have e1 := Int.emod_nonneg m h0
  have e2 := Int.emod_lt m h0
  rw [hb.1] at e
  omega
theorem wrap_div {m n : Int} (h0 : n ≠ 0) (h1 : -9223372036854775808 ≤ m) (h2 : m ≤ 9223372036854775807) : IntKind.i64.wrap (IntKind.i64.wrap (m / n * n) + m % n) = m := by
  have e := Int.mul_ediv_add_emod m n
  rw [Int.mul_comm] at e
  generalize m / n * n = x at *
  generalize m % n = r at *
  rw [IntKind.wrap_i64, IntKind.wrap_i64]
  omega

set_option maxHeartbeats 16000000 in
set_option maxRecDepth 100000 in
theorem ismall_any (m n : Int) (m1 : -9223372036854775808 ≤ m) (m2 : m ≤ 9223372036854775807) (n1 : -9223372036854775808 ≤ n) (n2 : n ≤ 9223372036854775807) (w : World) (htab : Tab w) :
    Calls Tryd.prog 6 #[.int .i64 m, .int .i64 n] w fun e w' => e = .returned (.bool true) ∧ Below w.heap.size w w' := by
  have hL0 : GL w w [] := GL.start w
  have Om := Lib.hid (fun w => ofI m m1 (by omega) w)
  have On := Lib.hid (fun w => ofI n n1 (by omega) w)
  have dm : dI m ≤ 2 := Nat.le_trans (dI_small (by unfold Bs; omega)) (by omega)
  have dn : dI n ≤ 2 := Nat.le_trans (dI_small (by unfold Bs; omega)) (by omega)
  have im : in64 m = true := decide_eq_true ⟨m1, m2⟩
  have Im := fun w => i64I m w
  rw [im, if_pos rfl] at Im
  replace Im := Lib.hid Im
  have Cmn := Lib.hid (fun w => cmpII m n w)
  have Amn := Lib.hid (fun w => addI m n (by omega) (by omega) w)
  have Ia := Lib.hid (fun w => i64I (m + n) w)
  have Mmn := Lib.hid (fun w => mulI m n (by omega) (by omega) w)
  have Ip := Lib.hid (fun w => i64I (m * n) w)
  have HW := Lib.hid (fun w h => zworks_any w h)
  have hmul : -2147483648 < m → m < 2147483648 → -2147483648 < n → n < 2147483648 → in64 (m * n) = true := in64_mul
  replace hmul := Lib.hid hmul
  have D0 := Lib.hid (fun (w : World) (h : n = 0) => show Calls Tryd.prog 23 #[intV m, intV n] w (fun e w' => e = .returned (.tuple #[intV 0, intV 0, .bool false]) ∧ Below w.heap.size w w') from by rw [h]; exact div0I m w)
  have D1 := Lib.hid (fun (w : World) (h : n ≠ 0) => divI m n h (by omega) (by omega) w)
  have Iq := Lib.hid (fun w => i64I (m / n) w)
  have Ir := Lib.hid (fun (w : World) (h : n ≠ 0) => show Calls Tryd.prog 28 #[intV (m % n)] w (fun e w' => e = .returned (.tuple #[.int .i64 (m % n), .bool true]) ∧ Below w.heap.size w w') from by have h1 := Int.emod_nonneg m h; have h2 := Int.emod_lt m h; have := i64I (m % n) w; rw [show in64 (m % n) = true from decide_eq_true ⟨by omega, by omega⟩, if_pos rfl] at this; exact this)
  have hdo := Lib.hid (fun h h' => div_out (m := m) (n := n) h m1 m2 h')
  have hwd := Lib.hid (fun h => wrap_div (m := m) (n := n) h m1 m2)
  have hr0 := Lib.hid (fun h => Int.emod_nonneg m (b := n) h)
  replace m1 := Lib.hid m1
  replace m2 := Lib.hid m2
  replace n1 := Lib.hid n1
  replace n2 := Lib.hid n2
  clear dm dn im
  go_enter Tryd.func6, Tryd.ntmps6
  go_wp2_with fail
  with_reducible refine Calls.mono (Om.out _) ?_
  rintro e x1 ⟨rfl, hb⟩
  replace hL0 := hL0.call hb
  clear hb
  go_wp2_with fail
  with_reducible refine Calls.mono (On.out _) ?_
  rintro e x2 ⟨rfl, hb⟩
  replace hL0 := hL0.call hb
  clear hb
  replace hL0 := ((hL0.new rfl [.int .u64 ((zl m : Nat) : Int), .string (zh m), .bool (zs m)] 27).new (K := x2.heap.size + 1) (szA _ _) [.int .u64 ((zl n : Nat) : Int), .string (zh n), .bool (zs n)] 27)
  generalize hweq : ((x2.alloc (.cells #[.int .u64 ((zl m : Nat) : Int), .string (zh m), .bool (zs m)] 27)).alloc (.cells #[.int .u64 ((zl n : Nat) : Int), .string (zh n), .bool (zs n)] 27)) = x3 at hL0
  have hN0 := cells_of _ 0 [] rfl (hL0.get _ _ (List.mem_cons_of_mem _ List.mem_cons_self))
  simp only [cellsF, and_true, Nat.zero_add, Nat.reduceAdd] at hN0
  go_wp2_with fail
  clear hN0
  with_reducible refine Calls.mono (Im.out _) ?_
  rintro e x4 ⟨rfl, hb⟩
  replace hL0 := hL0.call hb
  clear hb hweq
  go_upto_region 3 with fail
  go_cut [54] from 29 to 54 (fun z wx => z = .bool false ∧ GL w wx [(x2.heap.size + 1, [.int .u64 ((zl n : Nat) : Int), .string (zh n), .bool (zs n)]), (x2.heap.size, [.int .u64 ((zl m : Nat) : Int), .string (zh m), .bool (zs m)])])
  case first =>
    rcases Int.lt_trichotomy m n with h | h | h
    · have c1 : cmpZ m n = -1 := if_pos h
      have CC := fun w => Cmn.out w
      rw [c1] at CC
      replace CC := Lib.hid CC
      have c2 : decide (m < n) = true := decide_eq_true h
      have c3 : (m == n) = false := beq_eq_false_iff_ne.2 (by omega)
      have c4 : decide (m = n) = false := decide_eq_false (by omega)
      have e := ne_int (x := m) (y := n) (by omega)
      clear h c1
      rcases e with e0 | ⟨e0, e1⟩ | ⟨e0, e1, e2⟩
      all_goals (
        have hN0 := cells_of _ 0 [] rfl (hL0.get _ _ (List.mem_cons_of_mem _ List.mem_cons_self))
        simp only [cellsF, and_true, Nat.zero_add, Nat.reduceAdd] at hN0
        have hN1 := cells_of _ 0 [] rfl (hL0.get _ _ List.mem_cons_self)
        simp only [cellsF, and_true, Nat.zero_add, Nat.reduceAdd] at hN1
        go_wp2_with fail
        clear hN0 hN1
        with_reducible refine Calls.mono (CC.out _) ?_
        rintro e x5 ⟨rfl, hb⟩
        replace hL0 := hL0.call hb
        clear hb
        go_wp2_with fail
        go_meet
        exact ⟨rfl, hL0⟩)
    · subst h
      have c1 : cmpZ m m = 0 := by unfold cmpZ; rw [if_neg (by omega), if_pos rfl]
      have CC := fun w => Cmn.out w
      rw [c1] at CC
      replace CC := Lib.hid CC
      have c2 : decide (m < m) = false := decide_eq_false (by omega)
      have hN0 := cells_of _ 0 [] rfl (hL0.get _ _ (List.mem_cons_of_mem _ List.mem_cons_self))
      simp only [cellsF, and_true, Nat.zero_add, Nat.reduceAdd] at hN0
      have hN1 := cells_of _ 0 [] rfl (hL0.get _ _ List.mem_cons_self)
      simp only [cellsF, and_true, Nat.zero_add, Nat.reduceAdd] at hN1
      go_wp2_with fail
      clear hN0 hN1
      with_reducible refine Calls.mono (CC.out _) ?_
      rintro e x6 ⟨rfl, hb⟩
      replace hL0 := hL0.call hb
      clear hb
      go_wp2_with fail
      go_meet
      exact ⟨rfl, hL0⟩
    · have c1 : cmpZ m n = 1 := by unfold cmpZ; rw [if_neg (by omega), if_neg (by omega)]
      have CC := fun w => Cmn.out w
      rw [c1] at CC
      replace CC := Lib.hid CC
      have c2 : decide (m < n) = false := decide_eq_false (by omega)
      have c3 : (m == n) = false := beq_eq_false_iff_ne.2 (by omega)
      have c4 : decide (m = n) = false := decide_eq_false (by omega)
      have e := ne_int (x := m) (y := n) (by omega)
      clear h c1
      rcases e with e0 | ⟨e0, e1⟩ | ⟨e0, e1, e2⟩
      all_goals (
        have hN0 := cells_of _ 0 [] rfl (hL0.get _ _ (List.mem_cons_of_mem _ List.mem_cons_self))
        simp only [cellsF, and_true, Nat.zero_add, Nat.reduceAdd] at hN0
        have hN1 := cells_of _ 0 [] rfl (hL0.get _ _ List.mem_cons_self)
        simp only [cellsF, and_true, Nat.zero_add, Nat.reduceAdd] at hN1
        go_wp2_with fail
        clear hN0 hN1
        with_reducible refine Calls.mono (CC.out _) ?_
        rintro e x7 ⟨rfl, hb⟩
        replace hL0 := hL0.call hb
        clear hb
        go_wp2_with fail
        go_meet
        exact ⟨rfl, hL0⟩)
  case rest =>
    clear hL0
    obtain ⟨rfl, hL0⟩ := hcut
    have ia := Ia.out
    have ip := Ip.out
    clear Ia Ip Cmn Im
    obtain ⟨one, h1⟩ : ∃ one, one = in64 (m + n) := ⟨_, rfl⟩
    obtain ⟨s, hs⟩ : ∃ s, s = if in64 (m + n) = true then m + n else 0 := ⟨_, rfl⟩
    rw [← hs, ← h1] at ia
    obtain ⟨two, h2⟩ : ∃ two, two = in64 (m * n) := ⟨_, rfl⟩
    obtain ⟨p, hp⟩ : ∃ p, p = if in64 (m * n) = true then m * n else 0 := ⟨_, rfl⟩
    rw [← hp, ← h2] at ip
    rw [← h1] at hs
    rw [← h2] at hp
    replace ia := Lib.hid ia
    replace ip := Lib.hid ip
    replace h1 := Lib.hid h1
    replace h2 := Lib.hid h2
    replace hs := Lib.hid hs
    replace hp := Lib.hid hp
    generalize hq : m / n = q at *
    generalize hr : m % n = r at *
    clear hq hr
    generalize hmn : m + n = mn at *
    replace hmn := Lib.hid hmn
    obtain ⟨pp, hpp⟩ : ∃ pp, pp = m * n := ⟨_, rfl⟩
    have hN0 := cells_of _ 0 [] rfl (hL0.get _ _ (List.mem_cons_of_mem _ List.mem_cons_self))
    simp only [cellsF, and_true, Nat.zero_add, Nat.reduceAdd] at hN0
    have hN1 := cells_of _ 0 [] rfl (hL0.get _ _ List.mem_cons_self)
    simp only [cellsF, and_true, Nat.zero_add, Nat.reduceAdd] at hN1
    go_wp2_with fail
    clear hN0 hN1
    with_reducible refine Calls.mono (Amn.out _) ?_
    rintro e x8 ⟨rfl, hb⟩
    replace hL0 := hL0.call hb
    clear hb
    go_wp2_with fail
    with_reducible refine Calls.mono (ia.out _) ?_
    rintro e x9 ⟨rfl, hb⟩
    replace hL0 := hL0.call hb
    clear hb
    have hN0 := cells_of _ 0 [] rfl (hL0.get _ _ (List.mem_cons_of_mem _ List.mem_cons_self))
    simp only [cellsF, and_true, Nat.zero_add, Nat.reduceAdd] at hN0
    have hN1 := cells_of _ 0 [] rfl (hL0.get _ _ List.mem_cons_self)
    simp only [cellsF, and_true, Nat.zero_add, Nat.reduceAdd] at hN1
    go_wp2_with fail
    clear hN0 hN1
    with_reducible refine Calls.mono (Mmn.out _) ?_
    rintro e x10 ⟨rfl, hb⟩
    replace hL0 := hL0.call hb
    clear hb
    go_wp2_with fail
    with_reducible refine Calls.mono (ip.out _) ?_
    rintro e x11 ⟨rfl, hb⟩
    replace hL0 := hL0.call hb
    clear hb
    clear Amn Mmn ia ip
    go_upto_region 7 with fail
    go_cut [114] from 69 to 114 (fun z wx => z = .bool false ∧ GL w wx [(x2.heap.size + 1, [.int .u64 ((zl n : Nat) : Int), .string (zh n), .bool (zs n)]), (x2.heap.size, [.int .u64 ((zl m : Nat) : Int), .string (zh m), .bool (zs m)])])
    case first =>
      have m1' := m1.out
      have m2' := m2.out
      have n1' := n1.out
      have n2' := n2.out
      have hs' := hs.out
      have h1' := h1.out
      have hmn' := hmn.out
      cases one with
      | true =>
        have h3 := of_decide_eq_true h1'.symm
        rw [if_pos rfl] at hs'
        have hW : IntKind.i64.wrap (m + n) = s := by rw [hs', ← hmn']; exact IntWalk.i64_in _ (by omega)
        rcases Int.lt_trichotomy m 0 with hm | hm | hm <;> rcases Int.lt_trichotomy n 0 with hn | hn | hn
        · have c1 : decide (0 < m) = false := decide_eq_false (by omega)
          have c2 : decide (m < 0) = true := decide_eq_true hm
          have c3 : decide (0 < n) = false := decide_eq_false (by omega)
          have c4 : decide (n < 0) = true := decide_eq_true hn
          have c5 : decide (0 ≤ s) = false := decide_eq_false (by omega)
          clear hm hn h3 m1' m2' n1' n2' hs' h1' hmn'
          go_wp2_with fail
          go_meet
          exact ⟨rfl, hL0⟩
        · have c1 : decide (0 < m) = false := decide_eq_false (by omega)
          have c2 : decide (m < 0) = true := decide_eq_true hm
          have c3 : decide (0 < n) = false := decide_eq_false (by omega)
          have c4 : decide (n < 0) = false := decide_eq_false (by omega)
          clear hm hn h3 m1' m2' n1' n2' hs' h1' hmn'
          go_wp2_with fail
          go_meet
          exact ⟨rfl, hL0⟩
        · have c1 : decide (0 < m) = false := decide_eq_false (by omega)
          have c2 : decide (m < 0) = true := decide_eq_true hm
          have c3 : decide (0 < n) = true := decide_eq_true hn
          have c4 : decide (n < 0) = false := decide_eq_false (by omega)
          clear hm hn h3 m1' m2' n1' n2' hs' h1' hmn'
          go_wp2_with fail
          go_meet
          exact ⟨rfl, hL0⟩
        · have c1 : decide (0 < m) = false := decide_eq_false (by omega)
          have c2 : decide (m < 0) = false := decide_eq_false (by omega)
          have c3 : decide (0 < n) = false := decide_eq_false (by omega)
          have c4 : decide (n < 0) = true := decide_eq_true hn
          clear hm hn h3 m1' m2' n1' n2' hs' h1' hmn'
          go_wp2_with fail
          go_meet
          exact ⟨rfl, hL0⟩
        · have c1 : decide (0 < m) = false := decide_eq_false (by omega)
          have c2 : decide (m < 0) = false := decide_eq_false (by omega)
          have c3 : decide (0 < n) = false := decide_eq_false (by omega)
          have c4 : decide (n < 0) = false := decide_eq_false (by omega)
          clear hm hn h3 m1' m2' n1' n2' hs' h1' hmn'
          go_wp2_with fail
          go_meet
          exact ⟨rfl, hL0⟩
        · have c1 : decide (0 < m) = false := decide_eq_false (by omega)
          have c2 : decide (m < 0) = false := decide_eq_false (by omega)
          have c3 : decide (0 < n) = true := decide_eq_true hn
          have c4 : decide (n < 0) = false := decide_eq_false (by omega)
          clear hm hn h3 m1' m2' n1' n2' hs' h1' hmn'
          go_wp2_with fail
          go_meet
          exact ⟨rfl, hL0⟩
        · have c1 : decide (0 < m) = true := decide_eq_true hm
          have c2 : decide (m < 0) = false := decide_eq_false (by omega)
          have c3 : decide (0 < n) = false := decide_eq_false (by omega)
          have c4 : decide (n < 0) = true := decide_eq_true hn
          clear hm hn h3 m1' m2' n1' n2' hs' h1' hmn'
          go_wp2_with fail
          go_meet
          exact ⟨rfl, hL0⟩
        · have c1 : decide (0 < m) = true := decide_eq_true hm
          have c2 : decide (m < 0) = false := decide_eq_false (by omega)
          have c3 : decide (0 < n) = false := decide_eq_false (by omega)
          have c4 : decide (n < 0) = false := decide_eq_false (by omega)
          clear hm hn h3 m1' m2' n1' n2' hs' h1' hmn'
          go_wp2_with fail
          go_meet
          exact ⟨rfl, hL0⟩
        · have c1 : decide (0 < m) = true := decide_eq_true hm
          have c2 : decide (m < 0) = false := decide_eq_false (by omega)
          have c3 : decide (0 < n) = true := decide_eq_true hn
          have c4 : decide (n < 0) = false := decide_eq_false (by omega)
          have c5 : decide (s < 0) = false := decide_eq_false (by omega)
          clear hm hn h3 m1' m2' n1' n2' hs' h1' hmn'
          go_wp2_with fail
          go_meet
          exact ⟨rfl, hL0⟩
      | false =>
        have h3 := of_decide_eq_false h1'.symm
        rw [if_neg Bool.false_ne_true] at hs'
        subst hs'
        obtain ⟨W, hW⟩ : ∃ W, IntKind.i64.wrap (m + n) = W := ⟨_, rfl⟩
        have hWv := hW
        rw [IntKind.wrap_i64] at hWv
        rcases Int.lt_trichotomy m 0 with hm | hm | hm <;> rcases Int.lt_trichotomy n 0 with hn | hn | hn
        · have c1 : decide (0 < m) = false := decide_eq_false (by omega)
          have c2 : decide (m < 0) = true := decide_eq_true hm
          have c3 : decide (0 < n) = false := decide_eq_false (by omega)
          have c4 : decide (n < 0) = true := decide_eq_true hn
          have c5 : decide (0 ≤ W) = true := decide_eq_true (by omega)
          clear hm hn h3 m1' m2' n1' n2' h1' hmn' hWv
          go_wp2_with fail
          go_meet
          exact ⟨rfl, hL0⟩
        · exfalso; omega
        · exfalso; omega
        · exfalso; omega
        · exfalso; omega
        · exfalso; omega
        · exfalso; omega
        · exfalso; omega
        · have c1 : decide (0 < m) = true := decide_eq_true hm
          have c2 : decide (m < 0) = false := decide_eq_false (by omega)
          have c3 : decide (0 < n) = true := decide_eq_true hn
          have c4 : decide (n < 0) = false := decide_eq_false (by omega)
          have c5 : decide (W < 0) = true := decide_eq_true (by omega)
          clear hm hn h3 m1' m2' n1' n2' h1' hmn' hWv
          go_wp2_with fail
          go_meet
          exact ⟨rfl, hL0⟩
    case rest =>
      clear hL0
      obtain ⟨rfl, hL0⟩ := hcut
      go_upto_region 9 with fail
      go_cut [150] from 115 to 150 (fun z wx => z = .bool false ∧ GL w wx [(x2.heap.size + 1, [.int .u64 ((zl n : Nat) : Int), .string (zh n), .bool (zs n)]), (x2.heap.size, [.int .u64 ((zl m : Nat) : Int), .string (zh m), .bool (zs m)])])
      case first =>
        have hp' := hp.out
        have h2' := h2.out
        have hmu := hmul.out
        cases two with
        | true =>
          have h3 := of_decide_eq_true h2'.symm
          rw [if_pos rfl] at hp'
          have hW : IntKind.i64.wrap (m * n) = p := by rw [hp']; exact IntWalk.i64_in _ (by omega)
          clear h3 hp' h2' hmu
          by_cases r0 : -2147483648 < m
          rotate_left
          · skip
            have c0 : decide (-2147483648 < m) = false := decide_eq_false r0
            clear r0
            go_wp2_with fail
            go_meet
            exact ⟨rfl, hL0⟩
          by_cases r1 : m < 2147483648
          rotate_left
          · skip
            have c0 : decide (-2147483648 < m) = true := decide_eq_true r0
            have c1 : decide (m < 2147483648) = false := decide_eq_false r1
            clear r0 r1
            go_wp2_with fail
            go_meet
            exact ⟨rfl, hL0⟩
          by_cases r2 : -2147483648 < n
          rotate_left
          · skip
            have c0 : decide (-2147483648 < m) = true := decide_eq_true r0
            have c1 : decide (m < 2147483648) = true := decide_eq_true r1
            have c2 : decide (-2147483648 < n) = false := decide_eq_false r2
            clear r0 r1 r2
            go_wp2_with fail
            go_meet
            exact ⟨rfl, hL0⟩
          by_cases r3 : n < 2147483648
          rotate_left
          · skip
            have c0 : decide (-2147483648 < m) = true := decide_eq_true r0
            have c1 : decide (m < 2147483648) = true := decide_eq_true r1
            have c2 : decide (-2147483648 < n) = true := decide_eq_true r2
            have c3 : decide (n < 2147483648) = false := decide_eq_false r3
            clear r0 r1 r2 r3
            go_wp2_with fail
            go_meet
            exact ⟨rfl, hL0⟩
          · skip
            have c0 : decide (-2147483648 < m) = true := decide_eq_true r0
            have c1 : decide (m < 2147483648) = true := decide_eq_true r1
            have c2 : decide (-2147483648 < n) = true := decide_eq_true r2
            have c3 : decide (n < 2147483648) = true := decide_eq_true r3
            clear r0 r1 r2 r3
            go_wp2_with fail
            go_meet
            exact ⟨rfl, hL0⟩
        | false =>
          rw [if_neg Bool.false_ne_true] at hp'
          subst hp'
          by_cases r0 : -2147483648 < m
          rotate_left
          · skip
            have c0 : decide (-2147483648 < m) = false := decide_eq_false r0
            clear r0 hmu h2'
            go_wp2_with fail
            go_meet
            exact ⟨rfl, hL0⟩
          by_cases r1 : m < 2147483648
          rotate_left
          · skip
            have c0 : decide (-2147483648 < m) = true := decide_eq_true r0
            have c1 : decide (m < 2147483648) = false := decide_eq_false r1
            clear r0 r1 hmu h2'
            go_wp2_with fail
            go_meet
            exact ⟨rfl, hL0⟩
          by_cases r2 : -2147483648 < n
          rotate_left
          · skip
            have c0 : decide (-2147483648 < m) = true := decide_eq_true r0
            have c1 : decide (m < 2147483648) = true := decide_eq_true r1
            have c2 : decide (-2147483648 < n) = false := decide_eq_false r2
            clear r0 r1 r2 hmu h2'
            go_wp2_with fail
            go_meet
            exact ⟨rfl, hL0⟩
          by_cases r3 : n < 2147483648
          rotate_left
          · skip
            have c0 : decide (-2147483648 < m) = true := decide_eq_true r0
            have c1 : decide (m < 2147483648) = true := decide_eq_true r1
            have c2 : decide (-2147483648 < n) = true := decide_eq_true r2
            have c3 : decide (n < 2147483648) = false := decide_eq_false r3
            clear r0 r1 r2 r3 hmu h2'
            go_wp2_with fail
            go_meet
            exact ⟨rfl, hL0⟩
          · exact absurd (hmu r0 r1 r2 r3) (by rw [← h2']; exact Bool.false_ne_true)
      case rest =>
        clear hL0
        obtain ⟨rfl, hL0⟩ := hcut
        clear hp h2 hs h1 hmul hmn
        by_cases hn : n = 0
        · have D := fun w => D0.out w hn
          replace D := Lib.hid D
          have c1 : (n == 0) = true := by rw [hn]; rfl
          have c2 : decide (n = 0) = true := decide_eq_true hn
          clear D0 D1 Iq Ir hdo hwd hr0 hn
          have hN0 := cells_of _ 0 [] rfl (hL0.get _ _ (List.mem_cons_of_mem _ List.mem_cons_self))
          simp only [cellsF, and_true, Nat.zero_add, Nat.reduceAdd] at hN0
          have hN1 := cells_of _ 0 [] rfl (hL0.get _ _ List.mem_cons_self)
          simp only [cellsF, and_true, Nat.zero_add, Nat.reduceAdd] at hN1
          go_wp2_with fail
          clear hN0 hN1
          with_reducible refine Calls.mono (D.out _) ?_
          rintro e x12 ⟨rfl, hb⟩
          replace hL0 := hL0.call hb
          clear hb
          replace hL0 := ((hL0.new rfl [.int .u64 ((zl 0 : Nat) : Int), .string (zh 0), .bool (zs 0)] 27).new (K := x12.heap.size + 1) (szA _ _) [.int .u64 ((zl 0 : Nat) : Int), .string (zh 0), .bool (zs 0)] 27)
          generalize hweq : ((x12.alloc (.cells #[.int .u64 ((zl 0 : Nat) : Int), .string (zh 0), .bool (zs 0)] 27)).alloc (.cells #[.int .u64 ((zl 0 : Nat) : Int), .string (zh 0), .bool (zs 0)] 27)) = x13 at hL0
          go_wp2_with fail
          with_reducible refine Calls.mono (HW.out _ (htab.below hL0.bl)) ?_
          rintro e x14 ⟨rfl, hb⟩
          replace hL0 := hL0.call hb
          clear hb hweq
          go_wp2_with fail
          exact bodyPost_ret (v := .bool true) (by simp [results, Tryd.results6, go_sem]) rfl ⟨rfl, hL0.bl⟩
        · have D := fun w => D1.out w hn
          replace D := Lib.hid D
          have R := fun w => Ir.out w hn
          replace R := Lib.hid R
          have c1 : (n == 0) = false := beq_eq_false_iff_ne.2 hn
          have c2 : decide (n = 0) = false := decide_eq_false hn
          have c3 : decide (0 ≤ r) = true := decide_eq_true (hr0.out hn)
          have hd' := hdo.out hn
          have hw' := hwd.out hn
          have iq := Iq.out
          generalize hth : in64 q = three at *
          clear D0 D1 Iq Ir hdo hwd hr0 hn
          replace iq := Lib.hid iq
          replace D := Lib.hid D.out
          obtain ⟨X, hX⟩ : ∃ X, IntKind.i64.wrap (q * n) = X := ⟨_, rfl⟩
          rw [hX] at hw'
          cases three with
          | true =>
            have iq' := iq.out
            simp only [if_true] at iq'
            clear hd'
            replace iq' := Lib.hid iq'
            clear iq
            have hN0 := cells_of _ 0 [] rfl (hL0.get _ _ (List.mem_cons_of_mem _ List.mem_cons_self))
            simp only [cellsF, and_true, Nat.zero_add, Nat.reduceAdd] at hN0
            have hN1 := cells_of _ 0 [] rfl (hL0.get _ _ List.mem_cons_self)
            simp only [cellsF, and_true, Nat.zero_add, Nat.reduceAdd] at hN1
            go_wp2_with fail
            clear hN0 hN1
            with_reducible refine Calls.mono (D.out _) ?_
            rintro e x15 ⟨rfl, hb⟩
            replace hL0 := hL0.call hb
            clear hb
            replace hL0 := ((hL0.new rfl [.int .u64 ((zl q : Nat) : Int), .string (zh q), .bool (zs q)] 27).new (K := x15.heap.size + 1) (szA _ _) [.int .u64 ((zl r : Nat) : Int), .string (zh r), .bool (zs r)] 27)
            generalize hweq : ((x15.alloc (.cells #[.int .u64 ((zl q : Nat) : Int), .string (zh q), .bool (zs q)] 27)).alloc (.cells #[.int .u64 ((zl r : Nat) : Int), .string (zh r), .bool (zs r)] 27)) = x16 at hL0
            have hN0 := cells_of _ 0 [] rfl (hL0.get _ _ (List.mem_cons_of_mem _ List.mem_cons_self))
            simp only [cellsF, and_true, Nat.zero_add, Nat.reduceAdd] at hN0
            go_wp2_with fail
            clear hN0
            with_reducible refine Calls.mono (iq'.out _) ?_
            rintro e x17 ⟨rfl, hb⟩
            replace hL0 := hL0.call hb
            clear hb hweq
            have hN0 := cells_of _ 0 [] rfl (hL0.get _ _ List.mem_cons_self)
            simp only [cellsF, and_true, Nat.zero_add, Nat.reduceAdd] at hN0
            go_wp2_with fail
            clear hN0
            with_reducible refine Calls.mono (R.out _) ?_
            rintro e x18 ⟨rfl, hb⟩
            replace hL0 := hL0.call hb
            clear hb
            go_wp2_with fail
            with_reducible refine Calls.mono (HW.out _ (htab.below hL0.bl)) ?_
            rintro e x19 ⟨rfl, hb⟩
            replace hL0 := hL0.call hb
            clear hb
            go_wp2_with fail
            exact bodyPost_ret (v := .bool true) (by simp [results, Tryd.results6, go_sem]) rfl ⟨rfl, hL0.bl⟩
          | false =>
            have iq' := iq.out
            simp only [Bool.false_eq_true, if_false] at iq'
            obtain ⟨em, en⟩ := hd' rfl
            have c4 : (m == -9223372036854775808) = true := by rw [em]; rfl
            have c5 : (n == -1) = true := by rw [en]; rfl
            have c6 : decide (m = -9223372036854775808) = true := decide_eq_true em
            have c7 : decide (n = -1) = true := decide_eq_true en
            clear hd' hw' hX em en
            replace iq' := Lib.hid iq'
            clear iq
            have hN0 := cells_of _ 0 [] rfl (hL0.get _ _ (List.mem_cons_of_mem _ List.mem_cons_self))
            simp only [cellsF, and_true, Nat.zero_add, Nat.reduceAdd] at hN0
            have hN1 := cells_of _ 0 [] rfl (hL0.get _ _ List.mem_cons_self)
            simp only [cellsF, and_true, Nat.zero_add, Nat.reduceAdd] at hN1
            go_wp2_with fail
            clear hN0 hN1
            with_reducible refine Calls.mono (D.out _) ?_
            rintro e x20 ⟨rfl, hb⟩
            replace hL0 := hL0.call hb
            clear hb
            replace hL0 := ((hL0.new rfl [.int .u64 ((zl q : Nat) : Int), .string (zh q), .bool (zs q)] 27).new (K := x20.heap.size + 1) (szA _ _) [.int .u64 ((zl r : Nat) : Int), .string (zh r), .bool (zs r)] 27)
            generalize hweq : ((x20.alloc (.cells #[.int .u64 ((zl q : Nat) : Int), .string (zh q), .bool (zs q)] 27)).alloc (.cells #[.int .u64 ((zl r : Nat) : Int), .string (zh r), .bool (zs r)] 27)) = x21 at hL0
            have hN0 := cells_of _ 0 [] rfl (hL0.get _ _ (List.mem_cons_of_mem _ List.mem_cons_self))
            simp only [cellsF, and_true, Nat.zero_add, Nat.reduceAdd] at hN0
            go_wp2_with fail
            clear hN0
            with_reducible refine Calls.mono (iq'.out _) ?_
            rintro e x22 ⟨rfl, hb⟩
            replace hL0 := hL0.call hb
            clear hb hweq
            have hN0 := cells_of _ 0 [] rfl (hL0.get _ _ List.mem_cons_self)
            simp only [cellsF, and_true, Nat.zero_add, Nat.reduceAdd] at hN0
            go_wp2_with fail
            clear hN0
            with_reducible refine Calls.mono (R.out _) ?_
            rintro e x23 ⟨rfl, hb⟩
            replace hL0 := hL0.call hb
            clear hb
            go_wp2_with fail
            with_reducible refine Calls.mono (HW.out _ (htab.below hL0.bl)) ?_
            rintro e x24 ⟨rfl, hb⟩
            replace hL0 := hL0.call hb
            clear hb
            go_wp2_with fail
            exact bodyPost_ret (v := .bool true) (by simp [results, Tryd.results6, go_sem]) rfl ⟨rfl, hL0.bl⟩

theorem ismall_two (m : Int) (hm : -9223372036854775808 ≤ m ∧ m ≤ 9223372036854775807) (n : Int) (hn : -9223372036854775808 ≤ n ∧ n ≤ 9223372036854775807) (w : World) (htab : Tab w) :
    Calls Tryd.prog 6 #[.int .i64 m, .int .i64 n] w fun e w' => e = .returned (.bool true) ∧ Below w.heap.size w w' := ismall_any m n hm.1 hm.2 hn.1 hn.2 w htab
end Go.Proofs.YthehcjfmokabfaaDoor
