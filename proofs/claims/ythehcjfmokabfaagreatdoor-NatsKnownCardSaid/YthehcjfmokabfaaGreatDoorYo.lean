/-
  Layer 1, law F: NatsTexts.
-/
import Derived.Test.YthehcjfmokabfaaGreatDoorYm
import Derived.Test.YthehcjfmokabfaaGreatDoorYn
import Derived.Still
import Derived.Deep.Quiet
import Derived.BigQuiet
set_option linter.unusedVariables false
set_option linter.unusedSimpArgs false
namespace Go.Proofs.YthehcjfmokabfaaGreatDoor
open Go.RowKit
attribute [local irreducible] lo hs sm s64 c64 d64 b64 mh ml pd pc qd qc val hiB str cmpI srD lz nb isq decB

theorem txt_size (a : Nat) : (txt a).size = (Lib.decDigits a).length := rfl
theorem txt_list (a : Nat) : (txt a).toList = Lib.decDigits a := by unfold txt; rw [ByteArray.toList_eq]
theorem txt_st (a : Nat) : txt a = st (Lib.decDigits a) := rfl
theorem natV_ne {a b : Nat} (h : a ≠ b) : ((((lo a : Nat) : Int) == ((lo b : Nat) : Int)) = false) ∨ ((((lo a : Nat) : Int) == ((lo b : Nat) : Int)) = true ∧ ((hs a).toList == (hs b).toList) = false) := by
  by_cases hl : lo a = lo b
  · right
    refine ⟨by rw [hl]; simp, ?_⟩
    rw [hs_eq, decide_eq_false]
    intro hq
    apply h
    unfold lo at hl
    rw [← Nat.div_add_mod a Bs, ← Nat.div_add_mod b Bs, hl, hq]
  · left
    exact beq_eq_false_iff_ne.2 (by omega)
theorem txt_irr (a : Nat) : Op.bytesLess (txt a).toList (txt a).toList = false := by
  rw [less_eq, txt_list, dec_less rfl]; simp
/-- What the law's test looks at. -/
theorem txt_cases (a b : Nat) :
    (a = b) ∨
    (a ≠ b ∧ ((txt a).toList == (txt b).toList) = false ∧
      (((decide (((txt b).size : Int) < ((txt a).size : Int)) = false ∧ decide ((txt b).size < (txt a).size) = false) ∧ (((txt a).size : Int) == ((txt b).size : Int)) = false ∧ ((txt a).size == (txt b).size) = false) ∨
       ((decide (((txt b).size : Int) < ((txt a).size : Int)) = true ∧ decide ((txt b).size < (txt a).size) = true) ∧ ((((txt a).size : Int) == ((txt b).size : Int)) = false ∧ ((txt a).size == (txt b).size) = false) ∧ cmpI a b = 1) ∨
       ((decide (((txt b).size : Int) < ((txt a).size : Int)) = false ∧ decide ((txt b).size < (txt a).size) = false) ∧ ((((txt a).size : Int) == ((txt b).size : Int)) = true ∧ ((txt a).size == (txt b).size) = true) ∧
          ((Op.bytesLess (txt a).toList (txt b).toList = true ∧ cmpI a b = -1) ∨ (Op.bytesLess (txt a).toList (txt b).toList = false ∧ cmpI a b = 1))))) := by
  by_cases h : a = b
  · exact .inl h
  · right
    have hne : ((txt a).toList == (txt b).toList) = false := by
      rw [txt_list, txt_list, beq_eq_false_iff_ne]
      exact fun e => h (dec_inj e)
    refine ⟨h, hne, ?_⟩
    simp only [txt_size, less_eq, txt_list]
    rcases Nat.lt_trichotomy (Lib.decDigits a).length (Lib.decDigits b).length with hl | hl | hl
    · exact .inl ⟨⟨decide_eq_false (by omega), decide_eq_false (by omega)⟩, beq_eq_false_iff_ne.2 (by omega), beq_eq_false_iff_ne.2 (by omega)⟩
    · refine .inr (.inr ⟨⟨decide_eq_false (by omega), decide_eq_false (by omega)⟩, ⟨beq_iff_eq.2 (by omega), beq_iff_eq.2 (by omega)⟩, ?_⟩)
      rw [dec_less hl]
      rcases Nat.lt_trichotomy a b with h1 | h1 | h1
      · exact .inl ⟨decide_eq_true h1, cmpI_lt h1⟩
      · exact absurd h1 h
      · exact .inr ⟨decide_eq_false (by omega), cmpI_gt h1⟩
    · refine .inr (.inl ⟨⟨decide_eq_true (by omega), decide_eq_true (by omega)⟩, ⟨beq_eq_false_iff_ne.2 (by omega), beq_eq_false_iff_ne.2 (by omega)⟩, cmpI_gt ?_⟩)
      rcases Nat.lt_or_ge b a with h1 | h1
      · exact h1
      · have := dec_len_mono h1; omega
theorem sqrt_all (a : Nat) (hla : (digs a).length ≤ 1000000000) (w : World) : Calls Tryz.prog 64 #[natV a] w fun e w' => e = .returned (natV (isq a)) ∧ Below w.heap.size w w' := by
  rcases Nat.eq_zero_or_pos a with rfl | h
  · exact sqrt_zero w
  · exact sqrt_pos a h hla w

set_option maxHeartbeats 4000000 in
set_option maxRecDepth 100000 in
theorem texts_big (ax ay : Option Addr) (cx cy nx ny : Nat) (h : 20 < nx ∨ 20 < ny) (w : World) (htab : Tab w) :
    Calls Tryz.prog 10 #[.slice ax nx cx, .slice ay ny cy] w fun e w' => e = .returned (.bool true) ∧ Below w.heap.size w w' := by
  have HW := Lib.hid (works_any w htab)
  have key : (decide ((20 : Int) < (nx : Int)) = true) ∨ (decide ((20 : Int) < (nx : Int)) = false ∧ decide ((20 : Int) < (ny : Int)) = true) := by
    by_cases h0 : 20 < nx
    · exact .inl (decide_eq_true (by omega))
    · exact .inr (⟨decide_eq_false (by omega), decide_eq_true (by omega)⟩)
  clear h
  rcases key with k0 | ⟨k0, k1⟩
  all_goals (
    go_enter Tryz.func10, Tryz.ntmps10
    go_wp2_with fail
    with_reducible refine Calls.mono HW.out ?_
    rintro e w1 ⟨rfl, hb⟩
    go_wp2_with fail
    exact bodyPost_ret (v := .bool true) (by simp [results, Tryz.results10, go_sem]) rfl ⟨rfl, hb⟩)

set_option maxHeartbeats 16000000 in
set_option maxRecDepth 100000 in
theorem texts_small (vx vy : Value) (lx ly : List Nat) (w : World) (htab : Tab w) (hx : Ws w vx lx) (hy : Ws w vy ly) (nx : lx.length ≤ 20) (ny : ly.length ≤ 20) :
    Calls Tryz.prog 10 #[vx, vy] w fun e w' => e = .returned (.bool true) ∧ Below w.heap.size w w' := by
  have MX := fun w h => made_any vx lx (by omega) w h
  have MY := fun w h => made_any vy ly (by omega) w h
  obtain ⟨ax, cx, ex⟩ := hx.form
  obtain ⟨ay, cy, ey⟩ := hy.form
  have dx := Nat.le_trans (made_digs hx.lt) nx
  have dy := Nat.le_trans (made_digs hy.lt) ny
  subst ex ey
  have kx : decide ((20 : Int) < (lx.length : Int)) = false := decide_eq_false (by omega)
  have ky : decide ((20 : Int) < (ly.length : Int)) = false := decide_eq_false (by omega)
  generalize made lx = a at *
  generalize made ly = b at *
  replace hx := Lib.hid hx
  replace MX := Lib.hid MX
  replace hy := Lib.hid hy
  replace MY := Lib.hid MY
  generalize lx.length = Nx at *
  generalize ly.length = Ny at *
  have Ta := fun w ht => text_any a (by omega) w ht
  have Tb := fun w ht => text_any b (by omega) w ht
  have Pa := fun w => parse_ok (Lib.decDigits a) (Nat.le_trans (dec_len_bound dx (by omega)) (by omega)) (dec_isDec a) w
  rw [dval_dec] at Pa
  rw [← txt_st] at Pa
  have key := txt_cases a b
  obtain ⟨r, hr⟩ : ∃ r, r = isq a := ⟨_, rfl⟩
  obtain ⟨hr1, hr2⟩ := isq_spec a
  have Qa := fun w => sqrt_all a (by omega) w
  rw [← hr] at hr1 hr2 Qa
  clear hr
  have hra : r ≤ a := Nat.le_trans (Nat.le_mul_self r) hr1
  have dr : (digs r).length ≤ 20 := Nat.le_trans (digs_mono hra) dx
  have O1 := fun w => of_val 1 1 rfl (by unfold Bs; omega) w
  have Ar := fun w => add_any r 1 (by omega) (Nat.le_trans (sm_digs (k := 1) (by unfold Bs; decide)) (by omega)) w
  have dr1 : (digs (r + 1)).length ≤ 21 := digs_add_le dr (Nat.le_trans (sm_digs (k := 1) (by unfold Bs; decide)) (by omega))
  have Mr := fun w => mul_any r r (by omega) (by omega) w
  have Mr1 := fun w => mul_any (r + 1) (r + 1) (by omega) (by omega) w
  have Cr := fun w => cmp_any (r * r) a w
  have Cr1 := fun w => cmp_any ((r + 1) * (r + 1)) a w
  have c1 : decide (0 < cmpI (r * r) a) = false := decide_eq_false (by unfold cmpI; split <;> (try split) <;> omega)
  have c2 : decide (cmpI ((r + 1) * (r + 1)) a ≤ 0) = false := decide_eq_false (by rw [cmpI_gt hr2]; omega)
  have Ba := fun w => bits_any a (by omega) w
  have hn := nb_len dx
  have hn1 := nb_lt a
  have hn2 : 0 < a → 0 < nb a ∧ 2 ^ (nb a - 1) ≤ a := fun h => by obtain ⟨k, h1, h2, -⟩ := nb_spec (n := a) (by omega); rw [h1, Nat.add_sub_cancel]; exact ⟨by omega, h2⟩
  obtain ⟨n, hnn⟩ : ∃ n, n = nb a := ⟨_, rfl⟩
  rw [← hnn] at hn hn1 hn2 Ba
  have O2 := fun w => of_val 2 2 rfl (by unfold Bs; omega) w
  have h262 : ∀ k, k ≤ 4096 → k = 0 ∨ nb 2 ≤ 262144 / k := fun k hk => by
    rcases Nat.eq_zero_or_pos k with h | h
    · exact .inl h
    · exact .inr (Nat.le_trans (nb_le64 (by unfold Bs; omega)) ((Nat.le_div_iff_mul_le h).2 (by omega)))
  have P2 := fun w => pow_ok 2 n (by omega) (h262 n (by omega)) (Nat.le_trans (sm_digs (k := 1) (by unfold Bs; decide)) (by omega)) w
  have C2 := fun w => cmp_any a (2 ^ n) w
  have c3 : decide (0 ≤ cmpI a (2 ^ n)) = false := decide_eq_false (by rw [cmpI_lt hn1]; omega)
  have fin : (n = 0 ∧ a = 0) ∨ (∃ m, n = m + 1 ∧ 2 ^ m ≤ a) := by
    rcases Nat.eq_zero_or_pos a with h | h
    · exact .inl ⟨by rw [hnn, h, nb_zero], h⟩
    · obtain ⟨h1, h2⟩ := hn2 h
      exact .inr ⟨n - 1, by omega, h2⟩
  have P3 := fun m w => fun (h : m < n) => pow_ok 2 m (by omega) (h262 m (by omega)) (Nat.le_trans (sm_digs (k := 1) (by unfold Bs; decide)) (by omega)) w
  have hnl : n ≤ 4096 := by omega
  clear hn hn1 hn2 hnn h262 hr1 hr2 hra dr dr1
  generalize r * r = rr at *
  generalize (r + 1) * (r + 1) = ss at *
  generalize r + 1 = r1 at *
  generalize hpn : 2 ^ n = pn at *
  clear hpn
  generalize hsa : txt a = sa at *
  generalize hsb : txt b = sb at *
  replace hsa := Lib.hid hsa
  replace hsb := Lib.hid hsb
  replace Ta := Lib.hid Ta
  replace Tb := Lib.hid Tb
  replace Pa := Lib.hid Pa
  replace Qa := Lib.hid Qa
  replace O1 := Lib.hid O1
  replace Ar := Lib.hid Ar
  replace Mr := Lib.hid Mr
  replace Mr1 := Lib.hid Mr1
  replace Cr := Lib.hid Cr
  replace Cr1 := Lib.hid Cr1
  replace Ba := Lib.hid Ba
  replace O2 := Lib.hid O2
  replace P2 := Lib.hid P2
  replace C2 := Lib.hid C2
  replace c1 := Lib.hid c1
  replace c2 := Lib.hid c2
  replace c3 := Lib.hid c3
  replace fin := Lib.hid fin
  replace P3 := Lib.hid P3
  replace key := Lib.hid key
  replace hnl := Lib.hid hnl
  have hL0 : NL w w [] := NL.start w
  go_enter Tryz.func10, Tryz.ntmps10
  go_wp2_with fail
  with_reducible refine Calls.mono (MX.out _ hx.out) ?_
  rintro e x1 ⟨rfl, hb⟩
  replace hL0 := hL0.call hb
  clear hb MX
  go_wp2_with fail
  with_reducible refine Calls.mono (MY.out _ (hy.out.below hL0.bl)) ?_
  rintro e x2 ⟨rfl, hb⟩
  replace hL0 := hL0.call hb
  clear hb MY
  replace hL0 := ((hL0.new rfl a 32).new (szA _ _) b 32)
  generalize hweq : ((x2.alloc (.cells #[.int .u64 ((lo a : Nat) : Int), .string (hs a)] 32)).alloc (.cells #[.int .u64 ((lo b : Nat) : Int), .string (hs b)] 32)) = x3 at hL0
  go_upto_region 4 with fail
  clear hweq
  refine region_gh (by kernel_rfl) (by kernel_rfl) ?_
  refine lex_seg (gl := []) 6 (by kernel_rfl) ?_
  intro α iα F hF1 hF2
  obtain ⟨q1, s1⟩ := seg_get hF1 hL0 (x2.heap.size) a (by (repeat (first | with_reducible exact List.mem_cons_self | with_reducible refine List.mem_cons_of_mem _ ?_)))
  obtain ⟨q2, s2⟩ := seg_get hF1 hL0 (x2.heap.size + 1) b (by (repeat (first | with_reducible exact List.mem_cons_self | with_reducible refine List.mem_cons_of_mem _ ?_)))
  simp only [List.take_succ_cons, List.take_zero, List.drop_succ_cons, List.drop_zero, List.take_nil, List.drop_nil]
  repeat (go_big_quiet_step (first | fail | (go_at_call 34; with_reducible exact seg_callT hF1 hF2 htab hL0 Ta.out _) | (go_at_call 34; with_reducible exact seg_callT hF1 hF2 htab hL0 Tb.out _)))
  refine wpQuiet_nil ?_
  clear q1 s1 q2 s2 hF1 hF2 iα F α
  refine lexG_nil ?_
  intro κ x4 hS
  replace hL0 := hL0.ghs hS [] (by simp) (by intro p hp; cases hp)
  simp only [List.map_cons, List.map_nil, List.cons_append, List.nil_append] at hL0
  simp only [over_toG, over_nil, Act.put, List.setIfInBounds_toArray, List.set_cons_succ, List.set_cons_zero]
  clear hS
  go_wp2_with fail
  with_reducible refine Calls.mono (Pa.out _) ?_
  rintro e x5 ⟨rfl, hb⟩
  replace hL0 := hL0.call hb
  clear hb Pa
  replace hL0 := (hL0.new rfl a 32)
  generalize hweq : (x5.alloc (.cells #[.int .u64 ((lo a : Nat) : Int), .string (hs a)] 32)) = x6 at hL0
  obtain ⟨p3, r3⟩ := hL0.get (x2.heap.size) a (by (repeat (first | with_reducible exact List.mem_cons_self | with_reducible refine List.mem_cons_of_mem _ ?_)))
  obtain ⟨p4, r4⟩ := hL0.get (x2.heap.size + 1) b (by (repeat (first | with_reducible exact List.mem_cons_self | with_reducible refine List.mem_cons_of_mem _ ?_)))
  obtain ⟨p5, r5⟩ := hL0.get (x5.heap.size) a (by (repeat (first | with_reducible exact List.mem_cons_self | with_reducible refine List.mem_cons_of_mem _ ?_)))
  go_upto_region 6 with fail
  clear hweq
  go_cut [85] from 40 to 85 (fun t85 wx => t85 = .bool false ∧ NL w wx [(x5.heap.size, a), (x2.heap.size + 1, b), (x2.heap.size, a)])
  case first =>
    rcases key.out with hab | ⟨hab, ks, kk⟩
    · subst hab
      obtain rfl : sa = sb := by rw [← hsa.out, ← hsb.out]
      have ki := txt_irr a
      rw [hsa.out] at ki
      have Cx := fun w => cmp_any a a w
      rw [cmpI_eq] at Cx
      replace Cx := Lib.hid Cx
      go_wp2_with fail
      with_reducible refine Calls.mono (Cx.out _) ?_
      rintro e x7 ⟨rfl, hb⟩
      replace hL0 := hL0.call hb
      clear hb Cx
      go_wp2_with fail
      go_meet
      exact ⟨rfl, hL0⟩
    · rcases natV_ne hab with h1 | ⟨h1, h2⟩
      all_goals (
        rcases kk with ⟨⟨k1, k5⟩, k2, k6⟩ | ⟨⟨k1, k5⟩, ⟨k2, k6⟩, k3⟩ | ⟨⟨k1, k5⟩, ⟨k2, k6⟩, ⟨k4, k3⟩ | ⟨k4, k3⟩⟩
        · skip
          go_wp2_with fail
          go_meet
          exact ⟨rfl, hL0⟩
        · have Cx := fun w => cmp_any a b w
          rw [k3] at Cx
          replace Cx := Lib.hid Cx
          clear k3
          go_wp2_with fail
          with_reducible refine Calls.mono (Cx.out _) ?_
          rintro e x8 ⟨rfl, hb⟩
          replace hL0 := hL0.call hb
          clear hb Cx
          go_wp2_with fail
          go_meet
          exact ⟨rfl, hL0⟩
        · have Cx := fun w => cmp_any a b w
          rw [k3] at Cx
          replace Cx := Lib.hid Cx
          clear k3
          go_wp2_with fail
          with_reducible refine Calls.mono (Cx.out _) ?_
          rintro e x9 ⟨rfl, hb⟩
          replace hL0 := hL0.call hb
          clear hb Cx
          go_wp2_with fail
          go_meet
          exact ⟨rfl, hL0⟩
        · have Cx := fun w => cmp_any a b w
          rw [k3] at Cx
          replace Cx := Lib.hid Cx
          clear k3
          go_wp2_with fail
          with_reducible refine Calls.mono (Cx.out _) ?_
          rintro e x10 ⟨rfl, hb⟩
          replace hL0 := hL0.call hb
          clear hb Cx
          go_wp2_with fail
          go_meet
          exact ⟨rfl, hL0⟩)
  case rest =>
    clear hL0
    obtain ⟨rfl, hL0⟩ := hcut
    obtain ⟨p6, r6⟩ := hL0.get (x2.heap.size) a (by (repeat (first | with_reducible exact List.mem_cons_self | with_reducible refine List.mem_cons_of_mem _ ?_)))
    go_wp2_with fail
    with_reducible refine Calls.mono (Qa.out _) ?_
    rintro e x11 ⟨rfl, hb⟩
    replace hL0 := hL0.call hb
    clear hb Qa
    replace hL0 := (hL0.new rfl r 32)
    generalize hweq : (x11.alloc (.cells #[.int .u64 ((lo r : Nat) : Int), .string (hs r)] 32)) = x12 at hL0
    go_upto_region 9 with fail
    clear hweq
    refine region_gh (by kernel_rfl) (by kernel_rfl) ?_
    refine lex_seg (gl := []) 3 (by kernel_rfl) ?_
    intro α iα F hF1 hF2
    obtain ⟨q7, s7⟩ := seg_get hF1 hL0 (x11.heap.size) r (by (repeat (first | with_reducible exact List.mem_cons_self | with_reducible refine List.mem_cons_of_mem _ ?_)))
    simp only [List.take_succ_cons, List.take_zero, List.drop_succ_cons, List.drop_zero, List.take_nil, List.drop_nil]
    repeat (go_big_quiet_step (first | fail | (go_at_call 65; with_reducible exact seg_call hF2 O1.out _) | (go_at_call 53; with_reducible exact seg_call hF2 Ar.out _)))
    refine wpQuiet_nil ?_
    clear q7 s7 hF1 hF2 iα F α
    refine lex_new (nc 0) 12 32 32 rfl rfl (of_decide_eq_true (by kernel_rfl)) (by kernel_rfl) rfl new_nat ?_
    simp only [Act.put, List.setIfInBounds_toArray, List.set_cons_succ, List.set_cons_zero]
    refine lex_put (nc r1) (nc 0) 12 32 (.tmp 90) rfl (by kernel_rfl) (by simp [toG, upd]) rfl (fun w k h => put_nat 0 r1 w k h) ?_
    simp only [Act.put]
    refine lexG_nil ?_
    intro κ x13 hS
    replace hL0 := hL0.ghs hS [(12, r1)] (by simp) (by intro p hp; simp only [List.mem_cons, List.not_mem_nil, or_false] at hp; rcases hp with rfl <;> exact ⟨_, by simp only [toG, upd]; rfl⟩)
    simp only [List.map_cons, List.map_nil, List.cons_append, List.nil_append] at hL0
    simp only [over_toG, over_nil, Act.put, List.setIfInBounds_toArray, List.set_cons_succ, List.set_cons_zero]
    clear hS
    generalize κ 12 = k13_12 at *
    obtain ⟨p8, r8⟩ := hL0.get (x2.heap.size) a (by (repeat (first | with_reducible exact List.mem_cons_self | with_reducible refine List.mem_cons_of_mem _ ?_)))
    go_wp2_with fail
    with_reducible refine Calls.mono (Ba.out _) ?_
    rintro e x14 ⟨rfl, hb⟩
    replace hL0 := hL0.call hb
    clear hb Ba
    go_wp2_with fail
    with_reducible refine Calls.mono (O2.out _) ?_
    rintro e x15 ⟨rfl, hb⟩
    replace hL0 := hL0.call hb
    clear hb
    go_wp2_with fail
    with_reducible refine Calls.mono (P2.out _) ?_
    rintro e x16 ⟨rfl, hb⟩
    replace hL0 := hL0.call hb
    clear hb P2
    replace hL0 := (hL0.new rfl pn 32)
    generalize hweq : (x16.alloc (.cells #[.int .u64 ((lo pn : Nat) : Int), .string (hs pn)] 32)) = x17 at hL0
    go_upto_region 12 with fail
    clear hweq
    have c1' := c1.out
    have c2' := c2.out
    have c3' := c3.out
    obtain ⟨α, iα, F, hF1, hF2⟩ := cls x17
    obtain ⟨q9, s9⟩ := cls_get hF1 hL0 (x2.heap.size) a (by (repeat (first | with_reducible exact List.mem_cons_self | with_reducible refine List.mem_cons_of_mem _ ?_)))
    obtain ⟨q10, s10⟩ := cls_get hF1 hL0 (x11.heap.size) r (by (repeat (first | with_reducible exact List.mem_cons_self | with_reducible refine List.mem_cons_of_mem _ ?_)))
    obtain ⟨q11, s11⟩ := cls_get hF1 hL0 (k13_12) r1 (by (repeat (first | with_reducible exact List.mem_cons_self | with_reducible refine List.mem_cons_of_mem _ ?_)))
    obtain ⟨q12, s12⟩ := cls_get hF1 hL0 (x16.heap.size) pn (by (repeat (first | with_reducible exact List.mem_cons_self | with_reducible refine List.mem_cons_of_mem _ ?_)))
    refine region_cls (F := F) (by kernel_rfl) (by kernel_rfl) (cls_drew hF2) ?_
    repeat (go_big_quiet_step (first
      | (go_at_call 58; with_reducible exact cls_call hF1 hF2 Mr.out _)
      | (go_at_call 58; with_reducible exact cls_call hF1 hF2 Mr1.out _)
      | (go_at_call 55; with_reducible exact cls_call hF1 hF2 Cr.out _)
      | (go_at_call 55; with_reducible exact cls_call hF1 hF2 Cr1.out _)
      | (go_at_call 55; with_reducible exact cls_call hF1 hF2 C2.out _)))
    refine wpQuiet_nil ?_
    intro wq hwq
    obtain ⟨xq, rfl⟩ := hwq
    have hLq := hL0.call (hF1 xq)
    generalize F xq = x18 at hLq ⊢
    replace hL0 := hLq
    clear hLq hF1 hF2 q9 s9 q10 s10 q11 s11 q12 s12
    have HW := Lib.hid (fun w h => works_any w h)
    have P3' := P3.out
    clear P3 c1 c2 c3 c1' c2' c3' key hsa hsb Mr Mr1 Cr Cr1 C2 Ta Tb
    rcases fin.out with ⟨rfl, rfl⟩ | ⟨m, rfl, hle⟩
    · have P4 := Lib.hid (fun w => pow_neg 2 (-1) (by omega) w)
      have z1 : (((lo 0 : Nat) : Int) == 0) = true := by rw [lo_zero]; rfl
      have z2 : ((hs 0).toList == []) = true := by rw [hs_zero, ByteArray.toList_eq]; rfl
      clear P3' fin
      obtain ⟨p13, r13⟩ := hL0.get (x2.heap.size) 0 (by (repeat (first | with_reducible exact List.mem_cons_self | with_reducible refine List.mem_cons_of_mem _ ?_)))
      go_wp2_with fail
      with_reducible refine Calls.mono (O2.out _) ?_
      rintro e x19 ⟨rfl, hb⟩
      replace hL0 := hL0.call hb
      clear hb O2
      go_wp2_with fail
      with_reducible refine Calls.mono (P4.out _) ?_
      rintro e x20 ⟨rfl, hb⟩
      replace hL0 := hL0.call hb
      clear hb P4
      replace hL0 := hL0.new rfl 0 32
      generalize hweq : x20.alloc (.cells #[.int .u64 ((lo 0 : Nat) : Int), .string (hs 0)] 32) = x21 at hL0
      obtain ⟨p14, r14⟩ := hL0.get (x20.heap.size) 0 (by (repeat (first | with_reducible exact List.mem_cons_self | with_reducible refine List.mem_cons_of_mem _ ?_)))
      obtain ⟨p15, r15⟩ := hL0.get (x2.heap.size) 0 (by (repeat (first | with_reducible exact List.mem_cons_self | with_reducible refine List.mem_cons_of_mem _ ?_)))
      go_wp2_with fail
      with_reducible refine Calls.mono (HW.out _ (htab.below hL0.bl)) ?_
      rintro e x22 ⟨rfl, hb⟩
      replace hL0 := hL0.call hb
      clear hb HW hweq
      go_wp2_with fail
      exact bodyPost_ret (v := .bool true) (by simp [results, Tryz.results10, go_sem]) rfl ⟨rfl, hL0.bl⟩
    · have P4 := fun w => P3' m w (by omega)
      have C3 := fun w => cmp_any (2 ^ m) a w
      have c5 : decide (cmpI (2 ^ m) a ≤ 0) = true := decide_eq_true (by unfold cmpI; split <;> (try split) <;> omega)
      have c6 : (((m : Int) + 1) == 0) = false := beq_eq_false_iff_ne.2 (by omega)
      have hmB : (m : Int) + 1 ≤ 4096 := by have := hnl.out; omega
      generalize 2 ^ m = qm at *
      replace P4 := Lib.hid P4
      replace C3 := Lib.hid C3
      clear P3' fin hle
      obtain ⟨p16, r16⟩ := hL0.get (x2.heap.size) a (by (repeat (first | with_reducible exact List.mem_cons_self | with_reducible refine List.mem_cons_of_mem _ ?_)))
      go_wp2_with fail
      with_reducible refine Calls.mono (O2.out _) ?_
      rintro e x23 ⟨rfl, hb⟩
      replace hL0 := hL0.call hb
      clear hb O2
      go_wp2_with fail
      with_reducible refine Calls.mono (P4.out _) ?_
      rintro e x24 ⟨rfl, hb⟩
      replace hL0 := hL0.call hb
      clear hb P4
      replace hL0 := (hL0.new rfl qm 32)
      generalize hweq : (x24.alloc (.cells #[.int .u64 ((lo qm : Nat) : Int), .string (hs qm)] 32)) = x25 at hL0
      obtain ⟨p17, r17⟩ := hL0.get (x24.heap.size) qm (by (repeat (first | with_reducible exact List.mem_cons_self | with_reducible refine List.mem_cons_of_mem _ ?_)))
      obtain ⟨p18, r18⟩ := hL0.get (x2.heap.size) a (by (repeat (first | with_reducible exact List.mem_cons_self | with_reducible refine List.mem_cons_of_mem _ ?_)))
      go_wp2_with fail
      with_reducible refine Calls.mono (C3.out _) ?_
      rintro e x26 ⟨rfl, hb⟩
      replace hL0 := hL0.call hb
      clear hb C3 hweq
      go_wp2_with fail
      with_reducible refine Calls.mono (HW.out _ (htab.below hL0.bl)) ?_
      rintro e x27 ⟨rfl, hb⟩
      replace hL0 := hL0.call hb
      clear hb HW
      go_wp2_with fail
      exact bodyPost_ret (v := .bool true) (by simp [results, Tryz.results10, go_sem]) rfl ⟨rfl, hL0.bl⟩

theorem texts_any (vx vy : Value) (lx ly : List Nat) (w : World) (htab : Tab w) (hx : Ws w vx lx) (hy : Ws w vy ly) :
    Calls Tryz.prog 10 #[vx, vy] w fun e w' => e = .returned (.bool true) ∧ Below w.heap.size w w' := by
  by_cases h : 20 < lx.length ∨ 20 < ly.length
  · obtain ⟨ax, cx, rfl⟩ := hx.form
    obtain ⟨ay, cy, rfl⟩ := hy.form
    exact texts_big ax ay cx cy _ _ h w htab
  · exact texts_small vx vy lx ly w htab hx hy (by omega) (by omega)
end Go.Proofs.YthehcjfmokabfaaGreatDoor

/-
  Layer 1, law K: NatsKnown: the numbers that it lays, and its loops, from the other laws' answers.
-/
namespace Go.Proofs.YthehcjfmokabfaaGreatDoor
open Go.RowKit

def wv (d : Nat) : Value := .int .u32 (d : Int)
def obW (l : List Nat) : Obj := .cells (l.map wv).toArray 22
def layAll (w : World) : List (List Nat) → World
  | [] => w
  | l :: r => layAll (w.alloc (obW l)) r
def laidV (B : Nat) : List (List Nat) → List Value
  | [] => []
  | l :: r => .slice (some ⟨B, 0, none⟩) l.length l.length :: laidV (B + 1) r
theorem lay_below (ls : List (List Nat)) (w : World) : Below w.heap.size w (layAll w ls) := by
  induction ls generalizing w with
  | nil => exact Below.refl _ _
  | cons l r ih =>
    have h := ih (w.alloc (obW l))
    have h0 := (Below.refl w.heap.size w).alloc (Nat.le_refl _) (obW l)
    exact h0.trans (h.mono h0.size)
theorem obW_ws (w : World) (l : List Nat) (hl : ∀ x ∈ l, x < 4294967296) : Ws (w.alloc (obW l)) (.slice (some ⟨w.heap.size, 0, none⟩) l.length l.length) l := by
  refine .inr ⟨_, _, rfl, hl, fun i hi => ?_, by rw [World.size_alloc]; exact Nat.lt_succ_self _⟩
  have e : (⟨w.heap.size, 0, none⟩ : Addr).add i = ⟨w.heap.size, i, none⟩ := by
    unfold Addr.add; by_cases h : i = 0
    · subst h; simp
    · simp [h]
  rw [e, cell_of_row _ w.heap.size i _ _ _ (heap_alloc_new w (obW l))]
  simp [wv, hi]
theorem lay_ws (ls : List (List Nat)) (w : World) (h : ∀ l ∈ ls, ∀ x ∈ l, x < 4294967296) : ∀ (j : Nat) (l : List Nat) (v : Value), ls[j]? = some l → (laidV w.heap.size ls)[j]? = some v → Ws (layAll w ls) v l := by
  induction ls generalizing w with
  | nil => intro j l v hj; simp at hj
  | cons l0 r ih =>
    intro j l v hj hv
    cases j with
    | zero =>
      simp [laidV] at hj hv
      subst hj hv
      have h0 := obW_ws w l0 (h l0 List.mem_cons_self)
      exact h0.below (lay_below r (w.alloc (obW l0)))
    | succ j =>
      refine ih (w.alloc (obW l0)) (fun l hl => h l (List.mem_cons_of_mem _ hl)) j l v (by simpa using hj) ?_
      rw [World.size_alloc]
      simpa [laidV] using hv
def endsT : List (List Nat) := [[0], [1], [2], [4294967295], [0, 1], [1, 1], [4294967295, 4294967295], [0, 0, 1], [1, 0, 1], [4294967295, 4294967295, 4294967295], [0, 0, 0, 2147483648], [0, 4294967295, 2147483648], [4294967295, 0, 2147483648], [3, 0, 2147483648, 0, 5], [0, 0, 2147483648, 2147483647]]
def endsV (B : Nat) : List Value := .slice none 0 0 :: laidV B endsT
def endsO (B : Nat) : Obj := .cells (endsV B).toArray 23
def endsW (w : World) : World := (layAll w endsT).alloc (endsO w.heap.size)
theorem lay_size (ls : List (List Nat)) (w : World) : (layAll w ls).heap.size = w.heap.size + ls.length := by
  induction ls generalizing w with
  | nil => rfl
  | cons l r ih => rw [layAll, ih, World.size_alloc, List.length_cons]; omega
theorem ends_below (w : World) : Below w.heap.size w (endsW w) := (lay_below endsT w).alloc (lay_below endsT w).size _
/-- What the loops read. -/
structure Ends (w : World) (g : Nat) (vf : Nat → Value) (lf : Nat → List Nat) : Prop where
  cell : ∀ i, i < 16 → w.cell? ⟨g, i, none⟩ = some (vf i)
  ws : ∀ i, i < 16 → Ws w (vf i) (lf i)
  lt : g < w.heap.size
theorem Ends.below {w w' : World} {g : Nat} {vf : Nat → Value} {lf : Nat → List Nat} (h : Ends w g vf lf) (hb : Below w.heap.size w w') : Ends w' g vf lf :=
  ⟨fun i hi => (hb.cell (p := ⟨g, i, none⟩) h.lt).trans (h.cell i hi), fun i hi => (h.ws i hi).below hb, Nat.lt_of_lt_of_le h.lt hb.size⟩
theorem ends_ok (w : World) : ∃ vf lf, Ends (endsW w) (w.heap.size + 15) vf lf := by
  have hg : (layAll w endsT).heap.size = w.heap.size + 15 := by rw [lay_size]; rfl
  have hlen : (endsV w.heap.size).length = 16 := rfl
  refine ⟨fun i => (endsV w.heap.size).getD i (.slice none 0 0), fun i => ([] :: endsT).getD i [], fun i hi => ?_, fun i hi => ?_, ?_⟩
  · have h := heap_alloc_new (layAll w endsT) (endsO w.heap.size)
    rw [hg] at h
    rw [show endsW w = (layAll w endsT).alloc (endsO w.heap.size) from rfl, cell_of_row _ (w.heap.size + 15) i _ _ _ h]
    simp [hlen, hi]
  · cases i with
    | zero => exact .inl ⟨none, 0, rfl, rfl⟩
    | succ j =>
      have hj : j < endsT.length := by show j < 15; omega
      have hj2 : j < (laidV w.heap.size endsT).length := by show j < 15; omega
      have := lay_ws endsT w (by decide) j (endsT[j]) ((laidV w.heap.size endsT)[j]) (List.getElem?_eq_getElem hj) (List.getElem?_eq_getElem hj2)
      have h1 : (endsV w.heap.size).getD (j + 1) (.slice none 0 0) = (laidV w.heap.size endsT)[j] := by simp [endsV, hj2] <;> rfl
      have h2 : ([] :: endsT).getD (j + 1) [] = endsT[j] := by simp [hj] <;> rfl
      show Ws _ ((endsV w.heap.size).getD (j + 1) (.slice none 0 0)) (([] :: endsT).getD (j + 1) [])
      rw [h1, h2]
      exact this.below ((Below.refl _ _).alloc (Nat.le_refl _) _)
  · show w.heap.size + 15 < ((layAll w endsT).alloc (endsO w.heap.size)).heap.size
    rw [World.size_alloc, hg]; exact Nat.lt_succ_self _
theorem cls_ret {α : Type} {F : α → World} {w0 : World} (h1 : ∀ x, Below w0.heap.size w0 (F x)) (h2 : ∀ W, Below w0.heap.size w0 W → ∃ x, W = F x) {P : Program} {f : FuncId} {args : Array Value} {v : Value} {x : α}
    (h : Calls P f args (F x) fun e w' => e = .returned v ∧ Below (F x).heap.size (F x) w') : Calls P f args (F x) fun e w'' => e = .returned v ∧ ∃ y, w'' = F y :=
  h.mono fun _ _ ⟨he, hb⟩ => ⟨he, h2 _ ((h1 x).trans (hb.mono (h1 x).size))⟩
theorem natV0_ne {d : Nat} (h : d ≠ 0) : (((lo d : Nat) : Int) == 0) = false ∨ ((((lo d : Nat) : Int) == 0) = true ∧ ((hs d).toList == []) = false) := by
  have e := natV_ne h
  rwa [show ((lo 0 : Nat) : Int) = 0 by rw [lo_small Bs_pos]; rfl, show (hs 0).toList = [] by rw [hs_small Bs_pos, ByteArray.toList_eq]] at e
/-- Strings, as they grow. -/
def nine : List UInt8 := [57, 56, 55, 54, 53, 52, 51, 50, 49, 48]
theorem nine_fin : ∀ k : Fin 11, (⟨#[57, 56, 55, 54, 53, 52, 51, 50, 49, 48]⟩ : ByteArray).extract k.val 10 = ⟨(nine.drop k.val).toArray⟩ := by decide +kernel
theorem nine_ext (m : Nat) (h : m ≤ 10) : (⟨#[57, 56, 55, 54, 53, 52, 51, 50, 49, 48]⟩ : ByteArray).extract m 10 = st (nine.drop m) := nine_fin ⟨m, by omega⟩
theorem st_join (l r : List UInt8) : st l ++ st r = st (l ++ r) := by
  apply ByteArray.ext
  rw [ByteArray.data_append]
  simp [st]
theorem nine_dig : ∀ c ∈ nine, isDig c := by
  intro c hc
  simp only [nine, List.mem_cons, List.not_mem_nil, or_false] at hc
  unfold isDig
  rcases hc with rfl | rfl | rfl | rfl | rfl | rfl | rfl | rfl | rfl | rfl <;> decide
theorem nine_next {l : List UInt8} {m : Nat} (hl : l.length < 4096) (hm : m = l.length % 7) (hd : ∀ c ∈ l, isDig c) (h57 : l = [] ∨ l.head? = some 57) :
    (l ++ nine.drop m).length ≤ 4105 ∧ (∀ c ∈ l ++ nine.drop m, isDig c) ∧ (l ++ nine.drop m).head? = some 57 ∧ l.length < (l ++ nine.drop m).length := by
  have hn : (nine.drop m).length = 10 - m := by rw [List.length_drop]; rfl
  refine ⟨by rw [List.length_append]; omega, fun c hc => ?_, ?_, by rw [List.length_append]; omega⟩
  · rcases List.mem_append.1 hc with hc | hc
    · exact hd c hc
    · exact nine_dig c (List.mem_of_mem_drop hc)
  · rcases h57 with rfl | h
    · simp at hm; subst hm; rfl
    · cases l with
      | nil => simp at h
      | cons c r => simpa using h
theorem st_take' (r : List UInt8) (k : Nat) : (st r).extract 0 k = st (r.take k) := by
  apply ByteArray.ext
  rw [ByteArray.data_extract]
  show r.toArray.extract 0 k = (r.take k).toArray
  simp
def isStr : Value → Bool
  | .string _ => true
  | _ => false
theorem strs_ok (w : World) (arr : Array Value) (T : TypeId) (h : arr.all isStr = true) (j : Nat) (hj : j < arr.size) : ∃ s, (w.alloc (.cells arr T)).cell? ⟨w.heap.size, j, none⟩ = some (.string s) := by
  rw [cell_of_row _ w.heap.size j _ _ _ (heap_alloc_new w _)]
  have h1 := (Array.all_eq_true.1 h) j hj
  have h2 : arr[j]? = some arr[j] := Array.getElem?_eq_getElem hj
  generalize arr[j] = v at *
  cases v <;> simp [isStr] at h1
  exact ⟨_, h2⟩
theorem long_dec {l : List UInt8} (hl : 4096 ≤ l.length) (hd : ∀ c ∈ l, isDig c) (h57 : l = [] ∨ l.head? = some 57) : isDec (l.take 4096) ∧ (l.take 4096).length ≤ 4096 ∧ dval (l.take 4096) ≠ 0 := by
  have h1 : ∀ c ∈ l.take 4096, isDig c := fun c hc => hd c (List.mem_of_mem_take hc)
  cases l with
  | nil => simp at hl
  | cons c r =>
    have hc : c = 57 := by
      rcases h57 with h | h
      · cases h
      · simpa using h
    subst hc
    have h0 : List.take 4096 (57 :: r) ≠ [] := by simp
    have h2 : (List.take 4096 (57 :: r)).head? ≠ some 48 := by simp
    exact ⟨⟨h1, .inr ⟨h0, h2⟩⟩, by rw [List.length_take]; omega, Nat.ne_of_gt (dval_pos h1 h0 h2)⟩
end Go.Proofs.YthehcjfmokabfaaGreatDoor

/-
  A quicker look whether the order of the text may be walked for every order.
-/
namespace Go.Proofs.YthehcjfmokabfaaGreatDoor

/-- Every operation waits for earlier ones alone, and what comes behind it waits for it or is apart from it. -/
def fastFrom (md : Region.Mode) (ops : Array Oper) : Nat → List Oper → Bool
  | _, [] => true
  | k, o :: l => (o.after.all fun e => !Region.binds md e || decide (e.on < k)) &&
      (l.all fun oj => (oj.after.any fun e => Region.binds md e && e.on == k) || o.apart ops oj) && fastFrom md ops (k + 1) l
def fastB (md : Region.Mode) (l : List Oper) : Bool := Region.noSelect l.toArray && fastFrom md l.toArray 0 l

def preL (s n : Nat) : Array Bool := ((List.range s).map fun i => decide (i < n)).toArray
theorem preL_get (s n i : Nat) (d : Bool) : (preL s n).getD i d = if i < s then decide (i < n) else d := by
  unfold preL
  by_cases h : i < s
  · simp [h]
  · simp [h]
theorem preL_set (s n : Nat) : (preL s n).setIfInBounds n true = preL s (n + 1) := by
  apply Array.ext
  · simp [preL]
  · intro i h1 h2
    simp only [preL, List.setIfInBounds_toArray, List.getElem_toArray]
    by_cases e : n = i
    · subst e; simp
    · rw [List.getElem_set_ne e]
      simp only [List.getElem_map, List.getElem_range]
      by_cases h : i < n
      · rw [decide_eq_true h, decide_eq_true (by omega)]
      · rw [decide_eq_false h, decide_eq_false (by omega)]
theorem preL_zero (s : Nat) : preL s 0 = Array.replicate s false := by
  apply Array.ext
  · simp [preL]
  · intro i h1 h2; simp [preL]
theorem lexFrom_of_fast {md : Region.Mode} {ops : Array Oper} : ∀ (l : List Oper) (k : Nat), (∀ j, l[j]? = ops[k + j]?) → k + l.length = ops.size → fastFrom md ops k l = true → Region.lexFrom md ops l.length k (preL ops.size k) = true
  | [], k, hl, hs, _ => by
    have : Region.ready md ops (preL ops.size k) = [] := by
      apply List.eq_nil_iff_forall_not_mem.2
      intro j hj
      obtain ⟨h1, o, ho, -⟩ := mem_ready.1 hj
      have hj' : j < ops.size := (Array.getElem?_eq_some_iff.1 ho).1
      rw [preL_get, if_pos hj', decide_eq_true (by simp at hs; omega)] at h1
      cases h1
    simp [Region.lexFrom, this]
  | o :: l, k, hl, hs, h => by
    have h0 : ops[k]? = some o := by simpa using (hl 0).symm
    have hk : k < ops.size := (Array.getElem?_eq_some_iff.1 h0).1
    simp only [fastFrom, Bool.and_eq_true] at h
    obtain ⟨⟨hw, hf⟩, hr⟩ := h
    simp only [List.length_cons, Region.lexFrom, Bool.and_eq_true]
    refine ⟨⟨List.contains_iff_mem.2 (mem_ready.2 ⟨by rw [preL_get, if_pos hk, decide_eq_false (by omega)], o, h0, fun e he hb => ?_⟩), ?_⟩, ?_⟩
    · have h1 := (Array.all_eq_true_iff_forall_mem.1 hw) e he
      simp only [hb, Bool.not_true, Bool.false_or, decide_eq_true_eq] at h1
      rw [preL_get, if_pos (by omega), decide_eq_true h1]
    · simp only [Region.free, h0, List.all_eq_true, List.mem_range]
      intro j hj
      by_cases e : j = k
      · simp [e]
      · by_cases hjk : j < k
        · rw [preL_get, if_pos hj, decide_eq_true hjk]; simp
        · have h2 : l[j - k - 1]? = ops[j]? := by
            have := hl (j - k)
            rw [show k + (j - k) = j by omega] at this
            rw [← this, show j - k = (j - k - 1) + 1 by omega, List.getElem?_cons_succ]
            rfl
          rw [Array.getElem?_eq_getElem hj] at h2
          have h3 := (List.all_eq_true.1 hf) ops[j] (List.mem_of_getElem? h2)
          rw [Array.getElem?_eq_getElem hj]
          simp only [Bool.or_eq_true] at h3 ⊢
          exact .inr h3
    · rw [preL_set]
      exact lexFrom_of_fast l (k + 1) (fun j => by have := hl (j + 1); simpa [Nat.add_assoc, Nat.add_comm 1 j] using this) (by simp at hs; omega) hr
theorem lexB_of_fast {md : Region.Mode} {l : List Oper} (h : fastB md l = true) : Region.lexB md l.toArray = true := by
  simp only [fastB, Bool.and_eq_true] at h
  simp only [Region.lexB, Bool.and_eq_true]
  refine ⟨h.1, ?_⟩
  have := lexFrom_of_fast (md := md) (ops := l.toArray) l 0 (fun j => by simp) (by simp) h.2
  rw [preL_zero] at this
  simpa using this
end Go.Proofs.YthehcjfmokabfaaGreatDoor

/-
  Regions that draw their order, whose first operations only read and call (their callees may make memory), and whose last ones (stores into boxes that were there) stand behind all of those, in one order: ONE walk serves every order.
-/
namespace Go.Proofs.YthehcjfmokabfaaGreatDoor
open Go.RowKit

section
variable {P : Program} {ops : Array Oper} {md : Region.Mode} {C : World → Prop}

def doneN (n : Nat) (listed : Array Bool) : Bool := (List.range n).all fun i => listed.getD i false
theorem doneN_iff {n : Nat} {listed : Array Bool} : doneN n listed = true ↔ ∀ i, i < n → listed.getD i false = true := by
  simp only [doneN, List.all_eq_true, List.mem_range]
theorem unl {listed : Array Bool} {i : Nat} (h : listed.getD i true = false) : listed.getD i false = false := by
  rcases Nat.lt_or_ge i listed.size with h' | h'
  · simpa [h'] using h
  · simp [Array.getElem?_eq_none h'] at h
/-- What has come up has what it waits for behind it. -/
def closedL (md : Region.Mode) (ops : Array Oper) (listed : Array Bool) : Prop := ∀ j o, ops[j]? = some o → listed.getD j false = true → ∀ e ∈ o.after, Region.binds md e = true → listed.getD e.on false = true
theorem closedL.set {listed : Array Bool} {j : Nat} (h : closedL md ops listed) (hj : j ∈ Region.ready md ops listed) : closedL md ops (listed.setIfInBounds j true) := by
  intro k o hk hl e he hb
  by_cases hkj : j = k
  · subst hkj
    obtain ⟨-, o', ho', hall⟩ := mem_ready.1 hj
    rw [hk] at ho'
    obtain rfl := Option.some.inj ho'
    exact getD_set_true (hall e he hb)
  · rw [getD_set_ne false hkj] at hl
    exact getD_set_true (h k o hk hl e he hb)
/-- What an operation waits for. -/
def predsOf (md : Region.Mode) (ops : Array Oper) (i : Nat) : List Nat := match ops[i]? with
  | none => []
  | some o => (o.after.toList.filter fun e => Region.binds md e).map fun e => e.on
def ancOf (md : Region.Mode) (ops : Array Oper) (j : Nat) : List Nat := (List.range ops.size).reverse.foldl (fun S i => if S.contains i then S ++ predsOf md ops i else S) (predsOf md ops j)
theorem preds_listed {listed : Array Bool} (h : closedL md ops listed) {i : Nat} (hi : listed.getD i false = true) : ∀ x ∈ predsOf md ops i, listed.getD x false = true := by
  intro x hx
  unfold predsOf at hx
  cases ho : ops[i]? with
  | none => simp [ho] at hx
  | some o =>
    simp only [ho, List.mem_map, List.mem_filter] at hx
    obtain ⟨e, ⟨he, hb⟩, rfl⟩ := hx
    exact h i o ho hi e (by simpa using he) hb
theorem fold_listed {listed : Array Bool} (h : closedL md ops listed) : ∀ (r S : List Nat), (∀ x ∈ S, listed.getD x false = true) →
    ∀ x ∈ r.foldl (fun S i => if S.contains i then S ++ predsOf md ops i else S) S, listed.getD x false = true
  | [], S, hS => hS
  | i :: r, S, hS => by
    rw [List.foldl_cons]
    refine fold_listed h r _ ?_
    by_cases hc : S.contains i = true
    · rw [if_pos hc]
      intro x hx
      rcases List.mem_append.1 hx with hx | hx
      · exact hS x hx
      · exact preds_listed h (hS i (by simpa using hc)) x hx
    · rw [if_neg hc]; exact hS
/-- The last operations wait for the first n. -/
def barB (md : Region.Mode) (ops : Array Oper) (n : Nat) : Bool := (List.range ops.size).all fun j => decide (j < n) || (List.range n).all fun i => (ancOf md ops j).contains i
theorem bar {n : Nat} {listed : Array Bool} {j : Nat} (hB : barB md ops n = true) (h : closedL md ops listed) (hj : j ∈ Region.ready md ops listed) (hd : doneN n listed = false) : j < n := by
  rcases Nat.lt_or_ge j n with hn | hn
  · exact hn
  · exfalso
    obtain ⟨-, o, ho, hall⟩ := mem_ready.1 hj
    have hjs : j < ops.size := (Array.getElem?_eq_some_iff.1 ho).1
    simp only [barB, List.all_eq_true, List.mem_range, Bool.or_eq_true, decide_eq_true_eq] at hB
    rcases hB j hjs with h1 | h1
    · omega
    · have hp : ∀ x ∈ predsOf md ops j, listed.getD x false = true := by
        intro x hx
        unfold predsOf at hx
        simp only [ho, List.mem_map, List.mem_filter] at hx
        obtain ⟨e, ⟨he, hb⟩, rfl⟩ := hx
        exact hall e (by simpa using he) hb
      have h2 : doneN n listed = true := doneN_iff.2 fun i hi => fold_listed h _ _ hp i (List.contains_iff_mem.1 (h1 i hi))
      rw [h2] at hd; cases hd

/-- Whatever order is picked from here on, till the first n have come up. -/
def wpAnyB (P : Program) (md : Region.Mode) (ops : Array Oper) (C : World → Prop) (n : Nat) (Q : Act → Prop) : Nat → Array Bool → Act → Prop
  | 0, listed, a => doneN n listed = true ∧ Q a
  | fuel + 1, listed, a => doneN n listed = false ∧ Region.ready md ops listed ≠ [] ∧ ∀ i ∈ Region.ready md ops listed, qOp P ops C i (wpAnyB P md ops C n Q fuel (listed.setIfInBounds i true)) a

theorem wpAnyB_first {n : Nat} {Q : Act → Prop} {i : Nat} {oi : Oper} {v : Value} (hi : ops[i]? = some oi) (hin : i < n) (hB : barB md ops n = true) (hsel : ∀ (j : Nat) (o : Oper) cs b, ops[j]? = some o → o.op ≠ .select cs b) :
    ∀ (fuel : Nat) (listed : Array Bool) (a : Act), closedL md ops listed →
      (∀ j oj, ops[j]? = some oj → j ≠ i → listed.getD j true = false → (∀ e ∈ oj.after, Region.binds md e = true → e.on ≠ i) → oi.apart ops oj = true) →
      i ∈ Region.ready md ops listed → YieldsIn P ops C oi v a →
      wpAnyB P md ops C n Q fuel (listed.setIfInBounds i true) (a.put oi.dst v) → wpAnyB P md ops C n Q (fuel + 1) listed a := by
  intro fuel
  induction fuel with
  | zero =>
    intro listed a hc _ hr hy H
    have hiu := (mem_ready.1 hr).1
    have hnd : doneN n listed = false := Bool.eq_false_iff.2 fun h => by have := doneN_iff.1 h i hin; rw [unl hiu] at this; cases this
    refine ⟨hnd, List.ne_nil_of_mem hr, fun j hj => ?_⟩
    by_cases hji : j = i
    · subst hji; exact hy.qOp hi H
    · have hjn := bar hB hc hj hnd
      have h1 := doneN_iff.1 H.1 j hjn
      rw [getD_set_ne false (fun e => hji e.symm), unl (mem_ready.1 hj).1] at h1
      cases h1
  | succ fuel ih =>
    intro listed a hc hfree hr hy H
    have hiu := (mem_ready.1 hr).1
    have hnd : doneN n listed = false := Bool.eq_false_iff.2 fun h => by have := doneN_iff.1 h i hin; rw [unl hiu] at this; cases this
    refine ⟨hnd, List.ne_nil_of_mem hr, fun j hj => ?_⟩
    by_cases hji : j = i
    · subst hji; exact hy.qOp hi H
    · have h1 := H.2.2 j (ready_mono hj hji)
      obtain ⟨hjun, oj, hoj, hall⟩ := mem_ready.1 hj
      have hnot : ∀ e ∈ oj.after, Region.binds md e = true → e.on ≠ i := fun e he hb heq => by
        have h1 := hall e he hb
        rw [heq, unl hiu] at h1
        cases h1
      have h2 := qOp_put hoj (hfree j oj hoj hji hjun hnot) (fun cs b => hsel i oi cs b hi) (fun cs b => hsel j oj cs b hoj) hy h1
      have hfree' : ∀ k ok, ops[k]? = some ok → k ≠ i → (listed.setIfInBounds j true).getD k true = false →
          (∀ e ∈ ok.after, Region.binds md e = true → e.on ≠ i) → oi.apart ops ok = true := fun k ok hk hki hun hno => by
        refine hfree k ok hk hki ?_ hno
        by_cases hjk : j = k
        · subst hjk; exact hjun
        · rw [getD_set_ne true hjk] at hun; exact hun
      refine qOp_mono (fun a' h3 => ih (listed.setIfInBounds j true) a' (hc.set hj) hfree' (ready_mono hr (Ne.symm hji)) h3.1 ?_) h2
      rw [Array.setIfInBounds_comm _ _ hji]
      exact h3.2

def lexTo (md : Region.Mode) (ops : Array Oper) (n : Nat) : Nat → Nat → Array Bool → Bool
  | 0, _, listed => doneN n listed
  | fuel + 1, k, listed => (Region.ready md ops listed).contains k && Region.free md ops listed k && decide (k < n) && lexTo md ops n fuel (k + 1) (listed.setIfInBounds k true)

theorem wpAnyB_lex {n : Nat} {Q : Act → Prop} (hs : Region.noSelect ops = true) (hB : barB md ops n = true) : ∀ (l : List Oper) (k : Nat) (listed : Array Bool) (a : Act), (∀ j, j < l.length → l[j]? = ops[k + j]?) → closedL md ops listed →
    lexTo md ops n l.length k listed = true → wpQuiet P ops C Q l a → wpAnyB P md ops C n Q l.length listed a
  | [], _, _, _, _, _, hL, h => ⟨hL, h⟩
  | o :: l, k, listed, a, hl, hc, hL, h => by
    have h0 : ops[k]? = some o := by simpa using (hl 0 (by simp)).symm
    simp only [List.length_cons, lexTo, Bool.and_eq_true, decide_eq_true_eq] at hL
    obtain ⟨⟨⟨hr, hf⟩, hk⟩, hL'⟩ := hL
    have hr' : k ∈ Region.ready md ops listed := by simpa using hr
    have hq : qOp P ops C k (wpQuiet P ops C Q l) a := by unfold qOp; simp only [h0]; exact h
    obtain ⟨v, hy, hK⟩ := yieldsIn_of_qOp h0 hq
    exact wpAnyB_first h0 hk hB (Region.noSelect_spec hs) l.length listed a hc (Region.free_spec h0 hf) hr' hy
      (wpAnyB_lex hs hB l (k + 1) _ _ (fun j hj => by have := hl (j + 1) (by rw [List.length_cons]; omega); simpa [Nat.add_assoc, Nat.add_comm 1 j] using this) (hc.set hr') hL' hK)

/-- The first n have come up, and no other. -/
def canonL (s n : Nat) : Array Bool := ((List.range s).map fun i => decide (i < n)).toArray
def sufL (n : Nat) (ops : Array Oper) (listed : Array Bool) : Prop := listed.size = ops.size ∧ ∀ j, n ≤ j → j < ops.size → listed.getD j true = false
theorem canon_of {n : Nat} {listed : Array Bool} (h : sufL n ops listed) (hd : doneN n listed = true) : listed = canonL ops.size n := by
  apply Array.ext
  · simp [canonL, h.1]
  · intro i h1 h2
    have hs : i < ops.size := h.1 ▸ h1
    simp only [canonL, List.getElem_toArray, List.getElem_map, List.getElem_range]
    by_cases hi : i < n
    · have := doneN_iff.1 hd i hi
      simpa [h1, hi] using this
    · have := h.2 i (by omega) hs
      simpa [h1, hi] using this

theorem wpAny_of_B {n m : Nat} {Q : Act → Prop} {Q' : Exit → Act → World → Prop} (hB : barB md ops n = true) (hQ : ∀ a w, C w → Q a → wpAny P md ops Q' m (canonL ops.size n) a w) :
    ∀ (fuel : Nat) (listed : Array Bool) (a : Act) (w : World), C w → closedL md ops listed → sufL n ops listed → wpAnyB P md ops C n Q fuel listed a → wpAny P md ops Q' (m + fuel) listed a w
  | 0, listed, a, w, hw, hc, hu, h => by rw [canon_of hu h.1]; exact hQ a w hw h.2
  | fuel + 1, listed, a, w, hw, hc, hu, h => ⟨fun h0 => absurd h0 h.2.1, fun i hi => by
      have hin := bar hB hc hi h.1
      refine wpOp_of_qOp hw (fun a' w' hw' hh => wpAny_of_B hB hQ fuel _ a' w' hw' (hc.set hi) ⟨by simpa using hu.1, fun j hj hjs => ?_⟩ hh) (h.2.2 i hi)
      rw [getD_set_ne true (by omega)]; exact hu.2 j hj hjs⟩

theorem wpQuiet_mono {Q Q' : Act → Prop} (h : ∀ a, Q a → Q' a) : ∀ (l : List Oper) (a : Act), wpQuiet P ops C Q l a → wpQuiet P ops C Q' l a
  | [], a, hh => h a hh
  | o :: l, a, hh => by
    simp only [wpQuiet] at hh ⊢
    split
    · rename_i hw
      simp only [hw, if_true] at hh
      exact Oper.quiet_mono (fun a' => wpQuiet_mono h l a') hh
    · rename_i hw
      simp only [hw] at hh
      exact wpQuiet_mono h l _ hh

/-- One order only. -/
def seqB (md : Region.Mode) (ops : Array Oper) : Nat → Nat → Array Bool → Bool
  | 0, _, listed => (Region.ready md ops listed).isEmpty
  | fuel + 1, k, listed => Region.ready md ops listed == [k] && seqB md ops fuel (k + 1) (listed.setIfInBounds k true)
theorem wpAny_of_seq {Q' : Exit → Act → World → Prop} : ∀ (l : List Oper) (k : Nat) (listed : Array Bool) (a : Act) (w : World), (∀ j, j < l.length → l[j]? = ops[k + j]?) → seqB md ops l.length k listed = true →
    wpList P ops Q' l a w → wpAny P md ops Q' l.length listed a w
  | [], _, _, _, _, _, hS, h => ⟨by simpa [seqB] using hS, h⟩
  | o :: l, k, listed, a, w, hl, hS, h => by
    have h0 : ops[k]? = some o := by simpa using (hl 0 (by simp)).symm
    simp only [List.length_cons, seqB, Bool.and_eq_true, beq_iff_eq] at hS
    obtain ⟨hr, hS'⟩ := hS
    have ih := fun a w => wpAny_of_seq (Q' := Q') l (k + 1) (listed.setIfInBounds k true) a w (fun j hj => by have := hl (j + 1) (by rw [List.length_cons]; omega); simpa [Nat.add_assoc, Nat.add_comm 1 j] using this) hS'
    rw [List.length_cons]
    unfold wpAny
    refine ⟨fun h1 => absurd h1 (by rw [hr]; simp), fun i hi => ?_⟩
    rw [hr] at hi
    obtain rfl := List.mem_singleton.1 hi
    unfold wpOp
    simp only [h0]
    simp only [wpList] at h
    split
    · rename_i hw
      simp only [hw, if_true] at h
      rcases h with h | h
      · exact .inl (Oper.wp_mono ih h)
      · exact .inr h
    · rename_i hw
      simp only [hw] at h
      exact ih _ _ h

def qaB (n : Nat) (l : List Oper) : Bool :=
  Region.noSelect l.toArray && decide (n ≤ l.length) && barB .any l.toArray n && lexTo .any l.toArray n n 0 (Array.replicate l.length false)
/-- **First what only reads and calls, in any order; then the others, in any order of theirs.** -/
theorem region_qa (n : Nat) {id : Nat} {Q : Exit → Act → World → Prop} {a : Act} {w : World} {l : List Oper} (hm : P.follows .mixedOrders = true) (hB : qaB n l = true) (hC : C w.drew)
    (h : wpQuiet P l.toArray C (fun a' => ∀ w', C w' → wpAny P .any l.toArray Q (l.length - n) (canonL l.length n) a' w') (l.take n) a) : (Code.region id l.toArray true).wp P Q a w := by
  simp only [qaB, Bool.and_eq_true, decide_eq_true_eq] at hB
  obtain ⟨⟨⟨hs, hn⟩, hb⟩, hl⟩ := hB
  refine wp_region_any hm ?_
  have hlen : (l.take n).length = n := by rw [List.length_take]; omega
  have h0 : closedL .any l.toArray (Array.replicate l.length false) := fun j o _ hl => by
    rcases Nat.lt_or_ge j l.length with h' | h' <;> simp [h'] at hl
  have h1 := wpAnyB_lex (md := .any) (n := n) hs hb (l.take n) 0 (Array.replicate l.length false) a (fun j hj => by rw [hlen] at hj; simp [List.getElem?_take, hj]) h0 (by rw [hlen]; exact hl) h
  rw [hlen] at h1
  have h2 := wpAny_of_B (m := l.length - n) (Q' := Q) hb (fun a' w' hw' hh => by simpa using hh w' hw') n (Array.replicate l.length false) a w.drew hC h0 ⟨by simp, fun j _ hj => by simp at hj; simp [hj]⟩ h1
  rw [Nat.sub_add_cancel hn] at h2
  simpa using h2

def qsB (n : Nat) (l : List Oper) : Bool := qaB n l && seqB .any l.toArray (l.length - n) n (canonL l.length n)

/-- **First what only reads and calls, in any order; then the stores.** -/
theorem region_qs (n : Nat) {id : Nat} {Q : Exit → Act → World → Prop} {a : Act} {w : World} {l : List Oper} (hm : P.follows .mixedOrders = true) (hB : qsB n l = true) (hC : C w.drew)
    (h : wpQuiet P l.toArray C (fun a' => ∀ w', C w' → wpList P l.toArray Q (l.drop n) a' w') (l.take n) a) : (Code.region id l.toArray true).wp P Q a w := by
  simp only [qsB, Bool.and_eq_true] at hB
  refine region_qa n hm hB.1 hC ?_
  refine wpQuiet_mono (fun a' hh w' hw' => ?_) _ _ h
  have h3 := wpAny_of_seq (md := .any) (P := P) (Q' := Q) (l.drop n) n (canonL l.length n) a' w' (fun j hj => by simp [List.getElem?_drop]) (by rw [List.length_drop]; exact hB.2) (hh w' hw')
  rw [List.length_drop] at h3
  exact h3
/-- One pure operation ahead. -/
theorem any_pure {i m : Nat} {listed : Array Bool} {l : List Oper} {Q : Exit → Act → World → Prop} {a : Act} {w : World} (oi : Oper) (v : Value) (hi : l.toArray[i]? = some oi) (hg : oi.guard = none)
    (hB : (Region.noSelect l.toArray && Region.free .any l.toArray listed i && (Region.ready .any l.toArray listed).contains i) = true)
    (hQ : ∀ c a w, Q (.panic c) (a.put oi.dst v) w → Q (.panic c) a w) (hy : ∀ w, (execOp a.eval oi).run P w = .ok (.value v) w)
    (h : wpAny P .any l.toArray Q m (listed.setIfInBounds i true) (a.put oi.dst v) w) : wpAny P .any l.toArray Q (m + 1) listed a w := by
  simp only [Bool.and_eq_true] at hB
  exact wpAny_take hi hB.1.1 hB.1.2 hB.2 hQ (.inl ⟨by unfold Region.wanted; rw [hg], hy⟩) h
theorem any_seq (k : Nat) {m : Nat} {listed : Array Bool} {l : List Oper} {Q : Exit → Act → World → Prop} {a : Act} {w : World} (hm : (l.drop k).length = m) (hB : seqB .any l.toArray m k listed = true)
    (h : wpList P l.toArray Q (l.drop k) a w) : wpAny P .any l.toArray Q m listed a w := by
  subst hm
  exact wpAny_of_seq (md := .any) (P := P) (Q' := Q) (l.drop k) k listed a w (fun j hj => by simp [List.getElem?_drop]) hB h
end
end Go.Proofs.YthehcjfmokabfaaGreatDoor
