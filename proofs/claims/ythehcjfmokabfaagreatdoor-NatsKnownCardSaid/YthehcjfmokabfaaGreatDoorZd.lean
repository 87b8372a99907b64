/-
  Layer 1, law E: NatsRings.
-/
import Derived.Test.YthehcjfmokabfaaGreatDoorZc
import Derived.WalkKit
import Derived.Lib.Hide
import Derived.Test.YthehcjfmokabfaaGreatDoorRows
import Derived.Test.YthehcjfmokabfaaGreatDoorZa
import Derived.BigQuiet
import Derived.BigGuard
import Derived.BigRegion
set_option linter.unusedVariables false
set_option linter.unusedSimpArgs false
namespace Go.Proofs.YthehcjfmokabfaaGreatDoor
open Go.RowKit
attribute [local irreducible] lo hs sm s64 c64 d64 b64 mh ml pd pc qd qc val hiB str cmpI srD lz nb isq decB

theorem cmpI_neg (a b : Nat) : cmpI a b = -cmpI b a := by unfold cmpI; split <;> split <;> (try split) <;> omega
theorem cmpI_way (a b : Nat) : cmpI a b = -1 ∨ cmpI a b = 0 ∨ cmpI a b = 1 := by unfold cmpI; split <;> (try split) <;> simp
theorem cmpI_add (a b c : Nat) : cmpI (a + c) (b + c) = cmpI a b := by unfold cmpI; split <;> split <;> (try split) <;> (try split) <;> omega

set_option maxHeartbeats 4000000 in
set_option maxRecDepth 100000 in
theorem rings_big (ax ay az : Option Addr) (cx cy cz nx ny nz : Nat) (h : 16 < nx ∨ 16 < ny ∨ 16 < nz) (w : World) (htab : Tab w) :
    Calls Tryz.prog 11 #[.slice ax nx cx, .slice ay ny cy, .slice az nz cz] w fun e w' => e = .returned (.bool true) ∧ Below w.heap.size w w' := by
  have HW := Lib.hid (works_any w htab)
  have key : (decide ((16 : Int) < (nx : Int)) = true) ∨ (decide ((16 : Int) < (nx : Int)) = false ∧ decide ((16 : Int) < (ny : Int)) = true) ∨ (decide ((16 : Int) < (nx : Int)) = false ∧ decide ((16 : Int) < (ny : Int)) = false ∧ decide ((16 : Int) < (nz : Int)) = true) := by
    by_cases h0 : 16 < nx
    · exact .inl (decide_eq_true (by omega))
    · skip
      by_cases h1 : 16 < ny
      · exact .inr (.inl ⟨decide_eq_false (by omega), decide_eq_true (by omega)⟩)
      · exact .inr (.inr (⟨decide_eq_false (by omega), decide_eq_false (by omega), decide_eq_true (by omega)⟩))
  clear h
  rcases key with k0 | ⟨k0, k1⟩ | ⟨k0, k1, k2⟩
  all_goals (
    go_enter Tryz.func11, Tryz.ntmps11
    go_wp2_with fail
    with_reducible refine Calls.mono HW.out ?_
    rintro e w1 ⟨rfl, hb⟩
    go_wp2_with fail
    exact bodyPost_ret (v := .bool true) (by simp [results, Tryz.results11, go_sem]) rfl ⟨rfl, hb⟩)

set_option maxHeartbeats 16000000 in
set_option maxRecDepth 100000 in
theorem rings_small (vx vy vz : Value) (lx ly lz : List Nat) (w : World) (htab : Tab w) (hx : Ws w vx lx) (hy : Ws w vy ly) (hz : Ws w vz lz) (nx : lx.length ≤ 16) (ny : ly.length ≤ 16) (nz : lz.length ≤ 16) :
    Calls Tryz.prog 11 #[vx, vy, vz] w fun e w' => e = .returned (.bool true) ∧ Below w.heap.size w w' := by
  have MX := fun w h => made_any vx lx (by omega) w h
  have MY := fun w h => made_any vy ly (by omega) w h
  have MZ := fun w h => made_any vz lz (by omega) w h
  obtain ⟨ax, cx, ex⟩ := hx.form
  obtain ⟨ay, cy, ey⟩ := hy.form
  obtain ⟨az, cz, ez⟩ := hz.form
  have dx := Nat.le_trans (made_digs hx.lt) nx
  have dy := Nat.le_trans (made_digs hy.lt) ny
  have dz := Nat.le_trans (made_digs hz.lt) nz
  subst ex ey ez
  have kx : decide ((16 : Int) < (lx.length : Int)) = false := decide_eq_false (by omega)
  have ky : decide ((16 : Int) < (ly.length : Int)) = false := decide_eq_false (by omega)
  have kz : decide ((16 : Int) < (lz.length : Int)) = false := decide_eq_false (by omega)
  generalize made lx = a at *
  generalize made ly = b at *
  generalize made lz = c at *
  replace hx := Lib.hid hx
  replace MX := Lib.hid MX
  replace hy := Lib.hid hy
  replace MY := Lib.hid MY
  replace hz := Lib.hid hz
  replace MZ := Lib.hid MZ
  generalize lx.length = Nx at *
  generalize ly.length = Ny at *
  generalize lz.length = Nz at *
  obtain ⟨T, hT⟩ : ∃ T, T = 2 ^ 64 := ⟨_, rfl⟩
  have ds : (digs (a + b)).length ≤ 17 := digs_add_le dx dy
  have dp : (digs (a * b)).length ≤ 32 := Nat.le_trans (digs_mul_le dx dy) (by omega)
  have dt : (digs (b + c)).length ≤ 17 := digs_add_le dy dz
  have dr : (digs (b * c)).length ≤ 32 := Nat.le_trans (digs_mul_le dy dz) (by omega)
  have dm : (digs (a * c)).length ≤ 32 := Nat.le_trans (digs_mul_le dx dz) (by omega)
  have de : (digs (a + c)).length ≤ 17 := digs_add_le dx dz
  have Aab := fun w => add_any a b (by omega) (by omega) w
  have S1 := fun w => sub_ge (a + b) b (by omega) (by omega) w
  rw [Nat.add_sub_cancel] at S1
  have Aba := fun w => add_any b a (by omega) (by omega) w
  rw [Nat.add_comm b a] at Aba
  have Mab := fun w => mul_any a b (by omega) (by omega) w
  have Mba := fun w => mul_any b a (by omega) (by omega) w
  rw [Nat.mul_comm b a] at Mba
  have Asc := fun w => add_any (a + b) c (by omega) (by omega) w
  have Abc := fun w => add_any b c (by omega) (by omega) w
  have Aat := fun w => add_any a (b + c) (by omega) (by omega) w
  rw [← Nat.add_assoc] at Aat
  have Mpc := fun w => mul_any (a * b) c (by omega) (by omega) w
  have Mbc := fun w => mul_any b c (by omega) (by omega) w
  have Mar := fun w => mul_any a (b * c) (by omega) (by omega) w
  rw [← Nat.mul_assoc] at Mar
  have Mat := fun w => mul_any a (b + c) (by omega) (by omega) w
  have Mac := fun w => mul_any a c (by omega) (by omega) w
  have Apm := fun w => add_any (a * b) (a * c) (by omega) (by omega) w
  rw [← Nat.mul_add] at Apm
  have A0 := fun w => add_any a 0 (by omega) (by rw [digs_zero]; exact Nat.zero_le _) w
  rw [Nat.add_zero] at A0
  have M1 := fun w => mul_any a 1 (by omega) (Nat.le_trans (sm_digs (k := 1) (by unfold Bs; decide)) (by omega)) w
  rw [Nat.mul_one] at M1
  have M0 := fun w => mul_any a 0 (by omega) (by rw [digs_zero]; exact Nat.zero_le _) w
  rw [Nat.mul_zero] at M0
  have Cab := fun w => cmp_any a b w
  have Cba := fun w => cmp_any b a w
  have Aac := fun w => add_any a c (by omega) (by omega) w
  have Abc2 := fun w => add_any b c (by omega) (by omega) w
  have Cee := fun w => cmp_any (a + c) (b + c) w
  rw [cmpI_add] at Cee
  have O1 := fun w => of_val 1 1 rfl (by unfold Bs; omega) w
  have O2 := fun w => of_val 2 2 rfl (by unfold Bs; omega) w
  have P2 := fun w => pow_ok 2 64 (by omega) (.inr (Nat.le_trans (nb_le64 (by unfold Bs; omega)) (by decide))) (Nat.le_trans (sm_digs (k := 1) (by unfold Bs; decide)) (by omega)) w
  rw [← hT] at P2
  have CT := fun w => cmp_any a T w
  have hTB : T = Bs := by rw [hT]; unfold Bs; rfl
  generalize a + b + c = u at *
  generalize a * b * c = v at *
  generalize a * (b + c) = mt at *
  generalize a + b = s at *
  generalize a * b = p at *
  generalize b + c = t at *
  generalize b * c = r at *
  generalize a * c = m at *
  generalize a + c = ac at *
  have hcw := cmpI_way a b
  obtain ⟨z, hz⟩ : ∃ z, z = cmpI a b := ⟨_, rfl⟩
  have hcb : cmpI b a = -z := by rw [hz, cmpI_neg b a]
  rw [hcb] at Cba
  rw [← hz] at Cab Cee hcw
  clear hz hcb
  replace Aab := Lib.hid Aab
  replace S1 := Lib.hid S1
  replace Aba := Lib.hid Aba
  replace Mab := Lib.hid Mab
  replace Mba := Lib.hid Mba
  replace Asc := Lib.hid Asc
  replace Abc := Lib.hid Abc
  replace Aat := Lib.hid Aat
  replace Mpc := Lib.hid Mpc
  replace Mbc := Lib.hid Mbc
  replace Mar := Lib.hid Mar
  replace Mat := Lib.hid Mat
  replace Mac := Lib.hid Mac
  replace Apm := Lib.hid Apm
  replace A0 := Lib.hid A0
  replace M1 := Lib.hid M1
  replace M0 := Lib.hid M0
  replace Cab := Lib.hid Cab
  replace Cba := Lib.hid Cba
  replace Aac := Lib.hid Aac
  replace Cee := Lib.hid Cee
  replace O1 := Lib.hid O1
  replace O2 := Lib.hid O2
  replace P2 := Lib.hid P2
  replace CT := Lib.hid CT
  replace Abc2 := Lib.hid Abc2
  have HT := Lib.hid hTB
  replace hcw := Lib.hid hcw
  clear hT hTB ds dp dt dr dm de
  have hL0 : NL w w [] := NL.start w
  go_enter Tryz.func11, Tryz.ntmps11
  go_wp2_with fail
  with_reducible refine Calls.mono (MX.out _ hx.out) ?_
  rintro e x1 ⟨rfl, hb⟩
  replace hL0 := hL0.call hb
  clear hb MX
  go_wp2_with fail
  with_reducible refine Calls.mono (MY.out _ (hy.out.below hL0.bl)) ?_
  rintro e x2 ⟨rfl, hb⟩
  replace hL0 := hL0.call hb
  clear hb MY
  go_wp2_with fail
  with_reducible refine Calls.mono (MZ.out _ (hz.out.below hL0.bl)) ?_
  rintro e x3 ⟨rfl, hb⟩
  replace hL0 := hL0.call hb
  clear hb MZ
  replace hL0 := (((hL0.new rfl a 32).new (szA _ _) b 32).new (szA2 _ _ _) c 32)
  generalize hweq : (((x3.alloc (.cells #[.int .u64 ((lo a : Nat) : Int), .string (hs a)] 32)).alloc (.cells #[.int .u64 ((lo b : Nat) : Int), .string (hs b)] 32)).alloc (.cells #[.int .u64 ((lo c : Nat) : Int), .string (hs c)] 32)) = x4 at hL0
  go_upto_region 4 with fail
  clear hweq
  refine region_gh (by kernel_rfl) (by kernel_rfl) ?_
  refine lex_seg (gl := []) 8 (by kernel_rfl) ?_
  intro α iα F hF1 hF2
  obtain ⟨q1, s1⟩ := seg_get hF1 hL0 (x3.heap.size) a (by (repeat (first | with_reducible exact List.mem_cons_self | with_reducible refine List.mem_cons_of_mem _ ?_)))
  obtain ⟨q2, s2⟩ := seg_get hF1 hL0 (x3.heap.size + 1) b (by (repeat (first | with_reducible exact List.mem_cons_self | with_reducible refine List.mem_cons_of_mem _ ?_)))
  simp only [List.take_succ_cons, List.take_zero, List.drop_succ_cons, List.drop_zero, List.take_nil, List.drop_nil]
  repeat (go_big_quiet_step (first | fail | (go_at_call 53; with_reducible exact seg_call hF2 Aab.out _) | (go_at_call 51; with_reducible exact seg_call hF2 S1.out _)))
  refine wpQuiet_nil ?_
  clear q1 s1 q2 s2 hF1 hF2 iα F α
  refine lex_new (nc 0) 10 32 32 rfl rfl (of_decide_eq_true (by kernel_rfl)) (by kernel_rfl) rfl new_nat ?_
  simp only [Act.put, List.setIfInBounds_toArray, List.set_cons_succ, List.set_cons_zero]
  refine lex_put (nc a) (nc 0) 10 32 (.tmp 43) rfl (by kernel_rfl) (by simp [toG, upd]) rfl (fun w k h => put_nat 0 a w k h) ?_
  simp only [Act.put]
  refine lex_seg (gl := [(10, nc a, true), (10, nc 0, false)]) 1 (by kernel_rfl) ?_
  intro α iα F hF1 hF2
  obtain ⟨q3, s3⟩ := seg_get hF1 hL0 (x3.heap.size) a (by (repeat (first | with_reducible exact List.mem_cons_self | with_reducible refine List.mem_cons_of_mem _ ?_)))
  obtain ⟨q4, s4⟩ := seg_get hF1 hL0 (x3.heap.size + 1) b (by (repeat (first | with_reducible exact List.mem_cons_self | with_reducible refine List.mem_cons_of_mem _ ?_)))
  simp only [List.take_succ_cons, List.take_zero, List.drop_succ_cons, List.drop_zero, List.take_nil, List.drop_nil]
  repeat (go_big_quiet_step (first | fail | (go_at_call 53; with_reducible exact seg_call hF2 Aab.out _) | (go_at_call 51; with_reducible exact seg_call hF2 S1.out _)))
  refine wpQuiet_nil ?_
  clear q3 s3 q4 s4 hF1 hF2 iα F α
  refine lexG_nil ?_
  intro κ x5 hS
  replace hL0 := hL0.ghs hS [(10, a)] (by simp) (by intro p hp; simp only [List.mem_cons, List.not_mem_nil, or_false] at hp; rcases hp with rfl <;> exact ⟨_, by simp only [toG, upd]; rfl⟩)
  simp only [List.map_cons, List.map_nil, List.cons_append, List.nil_append] at hL0
  simp only [over_toG, over_nil, Act.put, List.setIfInBounds_toArray, List.set_cons_succ, List.set_cons_zero]
  clear hS
  generalize κ 10 = k5_10 at *
  go_upto_region 5 with fail
  obtain ⟨α, iα, F, hF1, hF2⟩ := cls x5
  obtain ⟨q5, s5⟩ := cls_get hF1 hL0 (x3.heap.size) a (by (repeat (first | with_reducible exact List.mem_cons_self | with_reducible refine List.mem_cons_of_mem _ ?_)))
  obtain ⟨q6, s6⟩ := cls_get hF1 hL0 (x3.heap.size + 1) b (by (repeat (first | with_reducible exact List.mem_cons_self | with_reducible refine List.mem_cons_of_mem _ ?_)))
  obtain ⟨q7, s7⟩ := cls_get hF1 hL0 (x3.heap.size + 1 + 1) c (by (repeat (first | with_reducible exact List.mem_cons_self | with_reducible refine List.mem_cons_of_mem _ ?_)))
  obtain ⟨q8, s8⟩ := cls_get hF1 hL0 (k5_10) a (by (repeat (first | with_reducible exact List.mem_cons_self | with_reducible refine List.mem_cons_of_mem _ ?_)))
  refine region_cls (F := F) (by kernel_rfl) (by kernel_rfl) (cls_drew hF2) ?_
  simp only [List.append]
  repeat (go_big_quiet_step (first
    | (go_at_call 53; with_reducible exact cls_call hF1 hF2 Aab.out _)
    | (go_at_call 53; with_reducible exact cls_call hF1 hF2 Aba.out _)
    | (go_at_call 53; with_reducible exact cls_call hF1 hF2 Asc.out _)
    | (go_at_call 53; with_reducible exact cls_call hF1 hF2 Abc.out _)
    | (go_at_call 53; with_reducible exact cls_call hF1 hF2 Aat.out _)
    | (go_at_call 53; with_reducible exact cls_call hF1 hF2 Apm.out _)
    | (go_at_call 58; with_reducible exact cls_call hF1 hF2 Mab.out _)
    | (go_at_call 58; with_reducible exact cls_call hF1 hF2 Mba.out _)
    | (go_at_call 58; with_reducible exact cls_call hF1 hF2 Mpc.out _)
    | (go_at_call 58; with_reducible exact cls_call hF1 hF2 Mbc.out _)
    | (go_at_call 58; with_reducible exact cls_call hF1 hF2 Mar.out _)
    | (go_at_call 58; with_reducible exact cls_call hF1 hF2 Mat.out _)
    | (go_at_call 58; with_reducible exact cls_call hF1 hF2 Mac.out _)))
  refine wpQuiet_nil ?_
  intro wq hwq
  obtain ⟨xq, rfl⟩ := hwq
  have hLq := hL0.call (hF1 xq)
  generalize F xq = x6 at hLq ⊢
  replace hL0 := hLq
  clear hLq hF1 hF2 q5 s5 q6 s6 q7 s7 q8 s8
  go_upto_region 8 with fail
  replace hL0 := hL0.new0 rfl 32
  generalize hz : x6.alloc (.cells #[.int .u64 0, .string ⟨#[]⟩] 32) = wz at hL0 ⊢
  clear hz
  clear Aab S1 Aba Mab Mba Asc Abc Aat Mpc Mbc Mar Mat Mac Apm
  rcases hcw.out with rfl | rfl | rfl
  all_goals (
    obtain ⟨α, iα, F, hF1, hF2⟩ := cls wz
    obtain ⟨q9, s9⟩ := cls_get hF1 hL0 (x3.heap.size) a (by (repeat (first | with_reducible exact List.mem_cons_self | with_reducible refine List.mem_cons_of_mem _ ?_)))
    obtain ⟨q10, s10⟩ := cls_get hF1 hL0 (x3.heap.size + 1) b (by (repeat (first | with_reducible exact List.mem_cons_self | with_reducible refine List.mem_cons_of_mem _ ?_)))
    obtain ⟨q11, s11⟩ := cls_get hF1 hL0 (x3.heap.size + 1 + 1) c (by (repeat (first | with_reducible exact List.mem_cons_self | with_reducible refine List.mem_cons_of_mem _ ?_)))
    obtain ⟨q12, s12⟩ := cls_get hF1 hL0 (x6.heap.size) 0 (by (repeat (first | with_reducible exact List.mem_cons_self | with_reducible refine List.mem_cons_of_mem _ ?_)))
    refine region_cls (F := F) (by kernel_rfl) (by kernel_rfl) (cls_drew hF2) ?_
    repeat (go_big_quiet_step (first
      | (go_at_call 53; with_reducible exact cls_call hF1 hF2 A0.out _)
      | (go_at_call 53; with_reducible exact cls_call hF1 hF2 Aac.out _)
      | (go_at_call 53; with_reducible exact cls_call hF1 hF2 Abc2.out _)
      | (go_at_call 58; with_reducible exact cls_call hF1 hF2 M1.out _)
      | (go_at_call 58; with_reducible exact cls_call hF1 hF2 M0.out _)
      | (go_at_call 55; with_reducible exact cls_call hF1 hF2 Cab.out _)
      | (go_at_call 55; with_reducible exact cls_call hF1 hF2 Cba.out _)
      | (go_at_call 55; with_reducible exact cls_call hF1 hF2 Cee.out _)
      | (go_at_call 65; with_reducible exact cls_call hF1 hF2 O1.out _)))
    refine wpQuiet_nil ?_
    intro wq hwq
    obtain ⟨xq, rfl⟩ := hwq
    have hLq := hL0.call (hF1 xq)
    generalize F xq = x7 at hLq ⊢
    replace hL0 := hLq
    clear hLq hF1 hF2 q9 s9 q10 s10 q11 s11 q12 s12
    clear A0 M1 M0 Cab Cba Aac Abc2 Cee O1
    rcases Nat.lt_or_ge a Bs with hs | hs
    · have U10 := Lib.hid (fun w => u64_small a hs w)
      have Oa := Lib.hid (fun w => of_any a hs w)
      have c1 : decide (cmpI a T < 0) = true := decide_eq_true (by rw [cmpI_lt (by rw [HT.out]; exact hs)]; omega)
      have HW := Lib.hid (fun w h => works_any w h)
      clear hs HT
      obtain ⟨p13, r13⟩ := hL0.get (x3.heap.size) a (by (repeat (first | with_reducible exact List.mem_cons_self | with_reducible refine List.mem_cons_of_mem _ ?_)))
      go_wp2_with fail
      with_reducible refine Calls.mono (U10.out _) ?_
      rintro e x8 ⟨rfl, hb⟩
      replace hL0 := hL0.call hb
      clear hb U10
      go_wp2_with fail
      with_reducible refine Calls.mono (O2.out _) ?_
      rintro e x9 ⟨rfl, hb⟩
      replace hL0 := hL0.call hb
      clear hb O2
      go_wp2_with fail
      with_reducible refine Calls.mono (P2.out _) ?_
      rintro e x10 ⟨rfl, hb⟩
      replace hL0 := hL0.call hb
      clear hb P2
      replace hL0 := (hL0.new rfl T 32)
      generalize hweq : (x10.alloc (.cells #[.int .u64 ((lo T : Nat) : Int), .string (hs T)] 32)) = x11 at hL0
      go_upto_region 12 with fail
      clear hweq
      have ht0 := htab.below hL0.bl
      obtain ⟨α, iα, F, hF1, hF2⟩ := cls x11
      obtain ⟨q14, s14⟩ := cls_get hF1 hL0 (x3.heap.size) a (by (repeat (first | with_reducible exact List.mem_cons_self | with_reducible refine List.mem_cons_of_mem _ ?_)))
      obtain ⟨q15, s15⟩ := cls_get hF1 hL0 (x10.heap.size) T (by (repeat (first | with_reducible exact List.mem_cons_self | with_reducible refine List.mem_cons_of_mem _ ?_)))
      refine region_cls (F := F) (by kernel_rfl) (by kernel_rfl) (cls_drew hF2) ?_
      repeat (go_big_quiet_step (first
        | (go_at_call 55; with_reducible exact cls_call hF1 hF2 CT.out _)
        | (go_at_call 16; with_reducible exact cls_callT hF1 hF2 ht0 HW.out _)
        | (go_at_call 65; with_reducible exact cls_call hF1 hF2 Oa.out _)))
      refine wpQuiet_nil ?_
      intro wq hwq
      obtain ⟨xq, rfl⟩ := hwq
      have hLq := hL0.call (hF1 xq)
      generalize F xq = x12 at hLq ⊢
      replace hL0 := hLq
      clear hLq hF1 hF2 q14 s14 q15 s15
      go_wp2_with fail
      exact bodyPost_ret (v := .bool true) (by simp [results, Tryz.results11, go_sem]) rfl ⟨rfl, hL0.bl⟩
    · have U10 := Lib.hid (fun w => u64_big a hs w)
      have c1 : decide (cmpI a T < 0) = false := decide_eq_false (by unfold cmpI; rw [if_neg (by rw [HT.out]; omega)]; split <;> omega)
      have HW := Lib.hid (fun w h => works_any w h)
      clear hs HT
      obtain ⟨p16, r16⟩ := hL0.get (x3.heap.size) a (by (repeat (first | with_reducible exact List.mem_cons_self | with_reducible refine List.mem_cons_of_mem _ ?_)))
      go_wp2_with fail
      with_reducible refine Calls.mono (U10.out _) ?_
      rintro e x13 ⟨rfl, hb⟩
      replace hL0 := hL0.call hb
      clear hb U10
      go_wp2_with fail
      with_reducible refine Calls.mono (O2.out _) ?_
      rintro e x14 ⟨rfl, hb⟩
      replace hL0 := hL0.call hb
      clear hb O2
      go_wp2_with fail
      with_reducible refine Calls.mono (P2.out _) ?_
      rintro e x15 ⟨rfl, hb⟩
      replace hL0 := hL0.call hb
      clear hb P2
      replace hL0 := (hL0.new rfl T 32)
      generalize hweq : (x15.alloc (.cells #[.int .u64 ((lo T : Nat) : Int), .string (hs T)] 32)) = x16 at hL0
      go_upto_region 12 with fail
      clear hweq
      have ht0 := htab.below hL0.bl
      obtain ⟨α, iα, F, hF1, hF2⟩ := cls x16
      obtain ⟨q17, s17⟩ := cls_get hF1 hL0 (x3.heap.size) a (by (repeat (first | with_reducible exact List.mem_cons_self | with_reducible refine List.mem_cons_of_mem _ ?_)))
      obtain ⟨q18, s18⟩ := cls_get hF1 hL0 (x15.heap.size) T (by (repeat (first | with_reducible exact List.mem_cons_self | with_reducible refine List.mem_cons_of_mem _ ?_)))
      refine region_cls (F := F) (by kernel_rfl) (by kernel_rfl) (cls_drew hF2) ?_
      repeat (go_big_quiet_step (first
        | (go_at_call 55; with_reducible exact cls_call hF1 hF2 CT.out _)
        | (go_at_call 16; with_reducible exact cls_callT hF1 hF2 ht0 HW.out _)))
      refine wpQuiet_nil ?_
      intro wq hwq
      obtain ⟨xq, rfl⟩ := hwq
      have hLq := hL0.call (hF1 xq)
      generalize F xq = x17 at hLq ⊢
      replace hL0 := hLq
      clear hLq hF1 hF2 q17 s17 q18 s18
      go_wp2_with fail
      exact bodyPost_ret (v := .bool true) (by simp [results, Tryz.results11, go_sem]) rfl ⟨rfl, hL0.bl⟩)

theorem rings_any (vx vy vz : Value) (lx ly lz : List Nat) (w : World) (htab : Tab w) (hx : Ws w vx lx) (hy : Ws w vy ly) (hz : Ws w vz lz) :
    Calls Tryz.prog 11 #[vx, vy, vz] w fun e w' => e = .returned (.bool true) ∧ Below w.heap.size w w' := by
  by_cases h : 16 < lx.length ∨ 16 < ly.length ∨ 16 < lz.length
  · obtain ⟨ax, cx, rfl⟩ := hx.form
    obtain ⟨ay, cy, rfl⟩ := hy.form
    obtain ⟨az, cz, rfl⟩ := hz.form
    exact rings_big ax ay az cx cy cz _ _ _ h w htab
  · exact rings_small vx vy vz lx ly lz w htab hx hy hz (by omega) (by omega) (by omega)
end Go.Proofs.YthehcjfmokabfaaGreatDoor

/-
  The reference of layer 1: numbers by their digits to the base 10000, as mathematics; slices of ints.
-/
namespace Go.Proofs.YthehcjfmokabfaaGreatDoor.Rx
open Go.RowKit

/-- The number that digits spell. -/
def tv : List Nat → Nat
  | [] => 0
  | d :: l => d + 10000 * tv l
theorem tv_cons (d : Nat) (l : List Nat) : tv (d :: l) = d + 10000 * tv l := rfl
theorem tv_nil : tv [] = 0 := rfl
/-- The digits of a number. -/
def td (n : Nat) : List Nat := if h : n = 0 then [] else n % 10000 :: td (n / 10000)
theorem td_zero : td 0 = [] := by rw [td, dif_pos rfl]
theorem td_pos {n : Nat} (h : n ≠ 0) : td n = n % 10000 :: td (n / 10000) := by rw [td, dif_neg h]
theorem tv_td (n : Nat) : tv (td n) = n := by
  induction n using Nat.strongRecOn with
  | _ n ih =>
    by_cases h : n = 0
    · rw [h, td_zero]; rfl
    · rw [td_pos h, tv, ih (n / 10000) (by omega)]; omega
theorem td_lt (n : Nat) : ∀ d ∈ td n, d < 10000 := by
  induction n using Nat.strongRecOn with
  | _ n ih =>
    by_cases h : n = 0
    · rw [h, td_zero]; intro d hd; cases hd
    · rw [td_pos h]
      intro d hd
      rcases List.mem_cons.1 hd with rfl | hd
      · omega
      · exact ih (n / 10000) (by omega) d hd
theorem td_nil {n : Nat} : td n = [] ↔ n = 0 := by
  by_cases h : n = 0
  · rw [h, td_zero]; simp
  · rw [td_pos h]; simp [h]
theorem tv_append (l m : List Nat) : tv (l ++ m) = tv l + 10000 ^ l.length * tv m := by
  induction l with
  | nil => simp [tv]
  | cons d l ih => rw [List.cons_append, tv, ih, tv, List.length_cons, Nat.pow_succ, Nat.mul_add, Nat.mul_comm _ 10000, Nat.mul_assoc]; omega
theorem tv_lt {l : List Nat} (h : ∀ d ∈ l, d < 10000) : tv l < 10000 ^ l.length := by
  induction l with
  | nil => exact Nat.one_pos
  | cons d l ih =>
    have h1 := ih fun x hx => h x (List.mem_cons_of_mem _ hx)
    have h2 := h d List.mem_cons_self
    rw [tv, List.length_cons, Nat.pow_succ]
    omega
theorem tv_zeros (k : Nat) : tv (List.replicate k 0) = 0 := by
  induction k with
  | zero => rfl
  | succ k ih => rw [List.replicate_succ, tv, ih]
/-- Digits are those of their number, and zeros behind them. -/
theorem td_tv {l : List Nat} (h : ∀ d ∈ l, d < 10000) : ∃ z, l = td (tv l) ++ List.replicate z 0 := by
  induction l with
  | nil => exact ⟨0, by rw [tv, td_zero]; rfl⟩
  | cons d l ih =>
    obtain ⟨z, hz⟩ := ih fun x hx => h x (List.mem_cons_of_mem _ hx)
    have hd := h d List.mem_cons_self
    rw [tv]
    by_cases h0 : d + 10000 * tv l = 0
    · have h1 : tv l = 0 := by omega
      rw [h1, td_zero, List.nil_append] at hz
      refine ⟨z + 1, ?_⟩
      rw [h0, td_zero, List.nil_append, List.replicate_succ, ← hz, show d = 0 by omega]
    · refine ⟨z, ?_⟩
      rw [td_pos h0, show (d + 10000 * tv l) % 10000 = d by omega, show (d + 10000 * tv l) / 10000 = tv l by omega, List.cons_append, ← hz]
theorem td_length {n k : Nat} : (td n).length ≤ k ↔ n < 10000 ^ k := by
  induction k generalizing n with
  | zero =>
    rw [Nat.pow_zero]
    constructor
    · intro h; have := td_nil.1 (List.eq_nil_of_length_eq_zero (l := td n) (by omega)); omega
    · intro h; rw [show n = 0 by omega, td_zero]; exact Nat.le_refl _
  | succ k ih =>
    by_cases h : n = 0
    · rw [h, td_zero]; exact ⟨fun _ => Nat.pow_pos (by omega), fun _ => Nat.zero_le _⟩
    · rw [td_pos h, List.length_cons, Nat.pow_succ]
      have := ih (n := n / 10000)
      constructor
      · intro h1; have := this.1 (by omega); omega
      · intro h1; have := this.2 (by omega); omega
theorem td_mono {a b : Nat} (h : a ≤ b) : (td a).length ≤ (td b).length := td_length.2 (Nat.lt_of_le_of_lt h (td_length.1 (Nat.le_refl _)))
theorem tv_snoc (l : List Nat) (d : Nat) : tv (l ++ [d]) = tv l + 10000 ^ l.length * d := by rw [tv_append]; simp [tv]
theorem tv_take_getElem {l : List Nat} {k : Nat} (h : k < l.length) : tv (l.take (k + 1)) = tv (l.take k) + 10000 ^ k * l[k] := by
  rw [List.take_succ_eq_append_getElem h, tv_snoc, List.length_take, Nat.min_eq_left (Nat.le_of_lt h)]
theorem td_last {n : Nat} (h : td n ≠ []) : (td n).getLast h ≠ 0 := by
  induction n using Nat.strongRecOn with
  | _ n ih =>
    have h0 : n ≠ 0 := fun e => h (td_nil.2 e)
    by_cases h1 : n / 10000 = 0
    · simp only [td_pos h0, h1, td_zero, List.getLast_singleton]; omega
    · have h2 : td (n / 10000) ≠ [] := fun e => h1 (td_nil.1 e)
      have := ih (n / 10000) (by omega) h2
      simp only [td_pos h0]
      rwa [List.getLast_cons h2]
/-- A digit, or 0 behind the last one. -/
def dg (l : List Nat) (i : Nat) : Nat := l.getD i 0
theorem dg_lt {l : List Nat} (h : ∀ d ∈ l, d < 10000) (i : Nat) : dg l i < 10000 := by
  unfold dg
  rcases Nat.lt_or_ge i l.length with hi | hi
  · simp [hi]; exact h _ (List.getElem_mem hi)
  · simp [hi]
theorem dg_in {l : List Nat} {i : Nat} (h : i < l.length) : dg l i = l[i] := by unfold dg; simp [h]
theorem dg_out {l : List Nat} {i : Nat} (h : l.length ≤ i) : dg l i = 0 := by unfold dg; simp [h]
theorem tv_take (l : List Nat) (k : Nat) : tv (l.take (k + 1)) = tv (l.take k) + 10000 ^ k * dg l k := by
  rcases Nat.lt_or_ge k l.length with h | h
  · rw [tv_take_getElem h, dg_in h]
  · rw [dg_out h, List.take_of_length_le (by omega), List.take_of_length_le h]; omega

/-- A slice of ints that can be read. -/
structure Sd (w : World) (a : Addr) (l : List Nat) : Prop where
  cell : ∀ (i : Nat) (h : i < l.length), w.cell? (a.add i) = some (.int .i64 ((l[i] : Nat) : Int))
  blk : a.block < w.heap.size
theorem addB (a : Addr) (i : Nat) : (a.add i).block = a.block := by unfold Addr.add; split <;> rfl
theorem Sd.below {w w' : World} {a : Addr} {l : List Nat} (h : Sd w a l) (hb : Below w.heap.size w w') : Sd w' a l :=
  ⟨fun i hi => (hb.cell (p := a.add i) (by rw [addB]; exact h.blk)).trans (h.cell i hi), Nat.lt_of_lt_of_le h.blk hb.size⟩
theorem Sd.left {w : World} {a : Addr} {l m : List Nat} (h : Sd w a (l ++ m)) : Sd w a l :=
  ⟨fun i hi => by rw [h.cell i (by rw [List.length_append]; omega), List.getElem_append_left hi], h.blk⟩
def Sl (w : World) (v : Value) (l : List Nat) : Prop := (∃ ao c, v = .slice ao 0 c ∧ l = [] ∧ (ao = none → c = 0)) ∨ ∃ a c, v = .slice (some a) l.length c ∧ l.length ≤ c ∧ Sd w a l
theorem Sl.below {w w' : World} {v : Value} {l : List Nat} (h : Sl w v l) (hb : Below w.heap.size w w') : Sl w' v l := by
  rcases h with h | ⟨a, c, h1, h2, h3⟩
  · exact .inl h
  · exact .inr ⟨a, c, h1, h2, h3.below hb⟩
theorem Sl.form {w : World} {v : Value} {l : List Nat} (h : Sl w v l) : ∃ ao c, v = .slice ao l.length c := by
  rcases h with ⟨ao, c, rfl, rfl, -⟩ | ⟨a, c, rfl, _⟩
  · exact ⟨_, _, rfl⟩
  · exact ⟨_, _, rfl⟩
theorem Sl.nil (w : World) : Sl w (.slice none 0 0) [] := .inl ⟨_, _, rfl, rfl, fun _ => rfl⟩
theorem Sl.drew {w : World} {v : Value} {l : List Nat} (h : Sl w v l) : Sl w.drew v l := by
  rcases h with h | ⟨a, c, h1, h2, h3⟩
  · exact .inl h
  · exact .inr ⟨a, c, h1, h2, h3.cell, h3.blk⟩
/-- What the walk asks of a slice. -/
theorem Sl.view {w : World} {v : Value} {l : List Nat} (h : Sl w v l) : ∃ ao c, v = .slice ao l.length c ∧ (0 < l.length → ∃ a, ao = some a ∧ l.length ≤ c ∧ Sd w a l) := by
  rcases h with ⟨ao, c, rfl, rfl, -⟩ | ⟨a, c, rfl, h2, h3⟩
  · exact ⟨_, _, rfl, fun h => absurd h (Nat.lt_irrefl 0)⟩
  · exact ⟨_, _, rfl, fun _ => ⟨a, rfl, h2, h3⟩⟩
/-- What an append looks at. -/
theorem Sl.src {w : World} {v : Value} {l : List Nat} (h : Sl w v l) : (v = .slice none 0 0 ∧ l = []) ∨ ∃ ad c, v = .slice (some ad) l.length c ∧ ∀ (j : Nat) (u : Value), (l.map fun (d : Nat) => Value.int .i64 (d : Int))[j]? = some u → w.cell? (ad.add j) = some u := by
  rcases h with ⟨ao, c, rfl, rfl, hc⟩ | ⟨a, c, rfl, _, h3⟩
  · cases ao with
    | none => exact .inl ⟨by rw [hc rfl], rfl⟩
    | some ad => exact .inr ⟨ad, c, rfl, fun j u hu => by simp at hu⟩
  · refine .inr ⟨a, c, rfl, fun j u hu => ?_⟩
    rw [List.getElem?_map] at hu
    obtain ⟨x, hx, rfl⟩ := Option.map_eq_some_iff.1 hu
    obtain ⟨hjl, rfl⟩ := List.getElem?_eq_some_iff.1 hx
    exact h3.cell j hjl
/-- What the call owns can be read. -/
theorem Sl.owned {w : World} {base e : Nat} {v : Value} {n : Nat} {l : List Nat} (h : w.ownsRow base e 1 v n (l.map fun (d : Nat) => Value.int .i64 (d : Int))) (hn : n = l.length) : Sl w v l := by
  subst hn
  have hlt := h.lt
  have hc := fun g hg => World.ownsRow.cells h (g := g) hg
  rcases h.2 with ⟨h', h''⟩ | ⟨g, cap, cur, h', _, hg, hm, hk, hsz, htake⟩
  · exact .inl ⟨none, 0, h', by simpa using h'', fun _ => rfl⟩
  · refine .inr ⟨⟨g, 0, none⟩, cap, h', ?_, fun i hi => ?_, ?_⟩
    · omega
    · have := hc g (by rw [h']; rfl) i (.int .i64 ((l[i] : Nat) : Int)) (by simp [hi])
      exact this
    · exact (hlt g (by rw [h']; rfl)).2
abbrev iv (d : Nat) : Value := .int .i64 (d : Int)
theorem own_next {w : World} {B e k : Nat} {v : Value} {l : List Nat} (h : k < l.length) {x : Int} (hx : x = ((l[k] : Nat) : Int)) (ho : w.ownsRow B e 1 v (k + 1) (List.take k (List.map iv l) ++ [.int .i64 x])) :
    w.ownsRow B e 1 v (k + 1) ((l.take (k + 1)).map iv) := by
  rw [List.take_succ_eq_append_getElem h, List.map_append, List.map_take]
  rw [hx] at ho
  exact ho
theorem own_snoc {w : World} {B e k : Nat} {v : Value} {l : List Nat} {x : Int} {d : Nat} (hx : x = (d : Int)) (ho : w.ownsRow B e 1 v (k + 1) (List.map iv l ++ [.int .i64 x])) : w.ownsRow B e 1 v (k + 1) ((l ++ [d]).map iv) := by
  rw [hx] at ho
  rw [List.map_append]
  exact ho
theorem below_app {B e k : Nat} {w wr w1 : World} {v : Value} {xs : List Value} {o : Obj} (hb : Below B w wr) (hB : B ≤ wr.heap.size) (hown : wr.ownsRow B e 1 v k xs) (hg : (wr.alloc o).grownBy w1 v.ownBlock) : Below B w w1 :=
  (hb.alloc hB o).grown hg (by rw [World.size_alloc]; omega) (fun j hj => (hown.lt j hj).1)
end Go.Proofs.YthehcjfmokabfaaGreatDoor.Rx

/-
  The reference of layer 1, walks A: at, trim, Of, Cmp.
-/
namespace Go.Proofs.YthehcjfmokabfaaGreatDoor.Rx
open Go.RowKit
attribute [local irreducible] tv dg

theorem at_any (v : Value) (l : List Nat) (i : Nat) (hi : i < 9223372036854775808) (hl : l.length < 9223372036854775808) (w : World) (h : Sl w v l) :
    Calls Tryz.prog 98 #[v, .int .i64 (i : Int)] w fun e w' => e = .returned (.int .i64 ((dg l i : Nat) : Int)) ∧ w = w' := by
  obtain ⟨ao, c, rfl, hv⟩ := h.view
  rcases Nat.lt_or_ge i l.length with hlt | hge
  · obtain ⟨a, rfl, -, hs⟩ := hv (by omega)
    have hc := hs.cell i hlt
    have hd := Lib.hid (dg_in hlt)
    obtain ⟨d, hd'⟩ : ∃ d, d = dg l i := ⟨_, rfl⟩
    rw [← hd.out, ← hd'] at hc
    rw [← hd']
    clear hd hd' hv h hs
    generalize l.length = n at *
    have h1 : (i : Int) < (n : Int) := by omega
    go_enter Tryz.func98, Tryz.ntmps98
    go_wp2
    go_ret
    exact ⟨rfl, rfl⟩
  · rw [dg_out hge]
    generalize l.length = n at *
    have h1 : ¬ (i : Int) < (n : Int) := by omega
    go_enter Tryz.func98, Tryz.ntmps98
    go_wp2
    go_ret
    exact ⟨rfl, rfl⟩

def lenOf : Value → Nat | .slice _ n _ => n | _ => 0

theorem trim_nil (ao : Option Addr) (c : Nat) (w : World) :
    Calls Tryz.prog 99 #[.slice ao 0 c] w fun e w' => e = .returned (.slice ao 0 c) ∧ w = w' := by
  go_enter Tryz.func99, Tryz.ntmps99
  go_wp2_with fail
  go_loopw [0] (fun v wr => v = .slice ao 0 c ∧ wr = w) (fun v _ => lenOf v)
  case atStart => exact ⟨rfl, rfl⟩
  case round =>
    obtain ⟨rfl, rfl⟩ := hrel
    go_wp2_with fail
    go_ret
    exact ⟨rfl, rfl⟩

theorem trim_row (a : Addr) (c m z : Nat) (l : List Nat) (hm : l.length = m) (hc : m + z ≤ c) (hB : m + z < 9223372036854775807) (hlast : ∀ h : l ≠ [], l.getLast h ≠ 0) (w : World) (h : Sd w a (l ++ List.replicate z 0)) :
    Calls Tryz.prog 99 #[.slice (some a) (m + z) c] w fun e w' => e = .returned (.slice (some a) m c) ∧ w = w' := by
  have hz : ∀ k, k < z → w.cell? (a.add (m + k)) = some (.int .i64 0) := fun k hk => by
    rw [h.cell (m + k) (by simp; omega), List.getElem_append_right (by omega)]; simp
  have hl : ∀ p, m = p + 1 → ∃ d : Nat, d ≠ 0 ∧ w.cell? (a.add p) = some (.int .i64 (d : Int)) := fun p hp => by
    have hne : l ≠ [] := fun e => by rw [e] at hm; simp at hm; omega
    refine ⟨l.getLast hne, hlast hne, ?_⟩
    rw [h.cell p (by simp; omega), List.getElem_append_left (by omega), List.getLast_eq_getElem hne]
    simp [hm, hp]
  clear h hlast hm
  replace hz := Lib.hid hz
  replace hl := Lib.hid hl
  go_enter Tryz.func99, Tryz.ntmps99
  go_wp2_with fail
  go_loopw [0] (fun v wr => ∃ k, k ≤ z ∧ v = .slice (some a) (m + k) c ∧ wr = w) (fun v _ => lenOf v)
  case atStart => exact ⟨z, Nat.le_refl _, rfl, rfl⟩
  case round =>
    obtain ⟨k, hk, rfl, rfl⟩ := hrel
    cases k with
    | zero =>
      rw [Nat.add_zero]
      cases m with
      | zero =>
        go_wp2_with fail
        go_ret
        exact ⟨rfl, rfl⟩
      | succ p =>
        obtain ⟨d, hd, hcell⟩ := hl.out p rfl
        have hd1 : ((d : Int) == 0) = false := beq_eq_false_iff_ne.2 (by omega)
        go_wp2_with fail
        go_ret
        exact ⟨rfl, rfl⟩
    | succ j =>
      have hcell := hz.out j (by omega)
      rw [show m + (j + 1) = (m + j) + 1 from by omega]
      obtain ⟨q, hq⟩ : ∃ q, q = m + j := ⟨_, rfl⟩
      rw [← hq] at hcell ⊢
      have hqc : q + 1 ≤ c := by omega
      have hqB : q + 1 < 9223372036854775807 := by omega
      replace hq := Lib.hid hq
      go_wp2_with fail
      go_roundw
      case rel => exact ⟨j, by omega, by rw [hq.out], trivial⟩
      case measure => simp [lenOf]

/-- trim: the digits of a number. -/
theorem trim_any (v : Value) (l : List Nat) (hd : ∀ d ∈ l, d < 10000) (hB : l.length < 9223372036854775807) (w : World) (h : Sl w v l) :
    Calls Tryz.prog 99 #[v] w fun e w' => ∃ v', e = .returned v' ∧ Sl w v' (td (tv l)) ∧ w = w' := by
  obtain ⟨z, hz⟩ := td_tv hd
  rcases h with ⟨ao, c, rfl, rfl, hc0⟩ | ⟨a, c, rfl, h2, h3⟩
  · refine (trim_nil ao c w).mono ?_
    rintro e w' ⟨rfl, rfl⟩
    exact ⟨_, rfl, .inl ⟨ao, c, rfl, by rw [tv_nil, td_zero], hc0⟩, rfl⟩
  · have hlen : l.length = (td (tv l)).length + z := by
      have := congrArg List.length hz
      rwa [List.length_append, List.length_replicate] at this
    rw [hz] at h3
    rw [hlen] at h2 hB ⊢
    refine (trim_row a c _ z (td (tv l)) rfl h2 hB (fun h => td_last h) w h3).mono ?_
    rintro e w' ⟨rfl, rfl⟩
    exact ⟨_, rfl, .inr ⟨a, c, rfl, by omega, h3.left⟩, rfl⟩
end Go.Proofs.YthehcjfmokabfaaGreatDoor.Rx

/-
  The reference of layer 1, walks B: Of, Add.
-/
namespace Go.Proofs.YthehcjfmokabfaaGreatDoor.Rx
open Go.RowKit
attribute [local irreducible] tv dg

theorem Tryz.infoI : (Tryz.prog.info? 3).map (fun i => (i.zero, i.size, i.bytes)) = some (some (.int .i64 0), 1, 8) := by kernel_rfl

/-- What the digits so far spell, with what is left. -/
theorem td_step {n k : Nat} (hk : k < (td n).length) : n / 10000 ^ k ≠ 0 ∧ (td n)[k] = n / 10000 ^ k % 10000 := by
  induction k generalizing n with
  | zero =>
    have h0 : n ≠ 0 := fun e => by rw [e, td_zero] at hk; exact absurd hk (by simp)
    simp only [Nat.pow_zero, Nat.div_one]
    refine ⟨h0, ?_⟩
    simp only [td_pos h0, List.getElem_cons_zero]
  | succ k ih =>
    have h0 : n ≠ 0 := fun e => by rw [e, td_zero] at hk; exact absurd hk (by simp)
    have hk' : k < (td (n / 10000)).length := by rw [td_pos h0, List.length_cons] at hk; omega
    have := ih hk'
    rw [Nat.div_div_eq_div_mul, Nat.mul_comm, ← Nat.pow_succ] at this
    refine ⟨this.1, ?_⟩
    simp only [td_pos h0, List.getElem_cons_succ]
    exact this.2
theorem td_end {n k : Nat} (hk : (td n).length ≤ k) : n / 10000 ^ k = 0 := Nat.div_eq_of_lt (td_length.1 hk)

set_option maxHeartbeats 2000000 in
set_option maxRecDepth 100000 in
theorem rof_any (n : Nat) (hn : n < 18446744073709551616) (w : World) :
    Calls Tryz.prog 92 #[.int .u64 (n : Int)] w fun e w' => ∃ v, e = .returned v ∧ Sl w' v (td n) ∧ Below w.heap.size w w' := by
  obtain ⟨i0, hi, hz0, hz1, hz2⟩ := info_parts Tryz.infoI
  have hlen : (td n).length ≤ 5 := td_length.2 (by omega)
  replace hn := Lib.hid hn
  go_enter Tryz.func92, Tryz.ntmps92
  go_wp2_with fail
  go_loopw [0, 3] (fun u v wr => ∃ k : Nat, k ≤ (td n).length ∧ u = .int .u64 ((n / 10000 ^ k : Nat) : Int) ∧ wr.ownsRow w.heap.size 3 1 v k (((td n).take k).map iv) ∧ Below w.heap.size w wr) (fun u _ _ => (intOf u).toNat)
  case atStart => exact ⟨0, Nat.zero_le _, by simp, World.ownsRow_nil _ _ _ _, Below.refl _ _⟩
  case round =>
    obtain ⟨k, hk, rfl, hown, hb⟩ := hrel
    rcases Nat.lt_or_ge k (td n).length with hlt | hge
    · obtain ⟨h1, h2⟩ := td_step hlt
      obtain ⟨q, hq⟩ : ∃ q, q = n / 10000 ^ k := ⟨_, rfl⟩
      have hqn : q ≤ n := by rw [hq]; exact Nat.div_le_self _ _
      rw [← hq] at h1 h2 ⊢
      have hq0 : (0 : Int) < (q : Int) := by omega
      have hqB : (q : Int) ≤ 18446744073709551615 := by have := hn.out; omega
      replace hq := Lib.hid hq
      replace h2 := Lib.hid h2
      replace h1 := Lib.hid h1
      go_wp2_with (at_builtin; refine wpList_append_own _ rfl _ _ 42 rfl w.heap.size 3 i0 (.int .i64 0) 1 8 Tryz.underlying42 hi hz0 hz1 hz2 rfl (by decide) _ _ _ rfl (hown.alloc _) ⟨wr.heap.size, 0, none⟩ 1 1 [.int .i64 ((q : Int) % 10000)] rfl rfl ?c1 ?c2 ?c3 ?c4 ?c5 ?_)
      case c1 =>
        intro j u hj
        match j, hj with
        | 0, hj => simp at hj; subst hj; simp [Addr.add]
      case c2 => intro u hu; simp at hu; subst hu; rfl
      case c3 => unfold maxLen; omega
      case c4 => omega
      case c5 => have := hb.size; simp; omega
      intro v' w1 hown' hgrow _
      have hn' := Lib.hid (own_next hlt (by rw [h2.out]; omega) hown')
      have hb' := Lib.hid (below_app hb hb.size hown hgrow)
      clear hown' hgrow hown hb
      go_wp2_with fail
      go_roundw
      case rel => exact ⟨k + 1, by omega, by rw [Nat.pow_succ, ← Nat.div_div_eq_div_mul, ← hq.out]; first | rfl | go_num, hn'.out, hb'.out⟩
      case measure => simp [intOf]; omega
    · have h0 := td_end hge
      have hke : k = (td n).length := by omega
      rw [hke, List.take_length] at hown
      have hS := Lib.hid (Sl.owned hown rfl)
      rw [h0]
      clear h0 hke hown hge hk
      go_wp2_with fail
      go_ret
      exact ⟨_, rfl, hS.out, hb⟩
end Go.Proofs.YthehcjfmokabfaaGreatDoor.Rx

/-
  The reference of layer 1, walks C: Add.
-/
namespace Go.Proofs.YthehcjfmokabfaaGreatDoor.Rx
open Go.RowKit
attribute [local irreducible] tv dg

/-- What Add's rounds keep. -/
structure AddS (A B S : List Nat) (i c : Nat) : Prop where
  len : S.length = i
  lt : ∀ d ∈ S, d < 10000
  car : c ≤ 1
  eq : tv S + 10000 ^ i * c = tv (A.take i) + tv (B.take i)
theorem AddS.step {A B S : List Nat} {i c : Nat} (h : AddS A B S i c) (hA : ∀ d ∈ A, d < 10000) (hB : ∀ d ∈ B, d < 10000) :
    AddS A B (S ++ [(dg A i + dg B i + c) % 10000]) (i + 1) ((dg A i + dg B i + c) / 10000) := by
  have h1 := dg_lt hA i
  have h2 := dg_lt hB i
  have h3 := h.car
  refine ⟨by rw [List.length_append, h.len]; rfl, fun d hd => ?_, by omega, ?_⟩
  · rcases List.mem_append.1 hd with hd | hd
    · exact h.lt d hd
    · rw [List.mem_singleton.1 hd]; omega
  · rw [tv_snoc, h.len, tv_take, tv_take, Nat.pow_succ]
    have h4 := h.eq
    generalize dg A i = x at *
    generalize dg B i = y at *
    have h5 : (x + y + c) % 10000 + 10000 * ((x + y + c) / 10000) = x + y + c := by omega
    have h6 : 10000 ^ i * ((x + y + c) % 10000) + 10000 ^ i * 10000 * ((x + y + c) / 10000) = 10000 ^ i * x + 10000 ^ i * y + 10000 ^ i * c := by
      rw [Nat.mul_assoc, ← Nat.mul_add, h5, Nat.mul_add, Nat.mul_add]
    generalize 10000 ^ i * ((x + y + c) % 10000) = p at *
    generalize 10000 ^ i * 10000 * ((x + y + c) / 10000) = q at *
    omega

set_option maxHeartbeats 4000000 in
set_option maxRecDepth 100000 in
theorem radd_l (va vb : Value) (A B : List Nat) (hA : ∀ d ∈ A, d < 10000) (hB : ∀ d ∈ B, d < 10000) (lA : A.length ≤ 1000000) (lB : B.length ≤ 1000000) (w : World) (ha : Sl w va A) (hb : Sl w vb B) :
    Calls Tryz.prog 54 #[va, vb] w fun e w' => ∃ v, e = .returned v ∧ Sl w' v (td (tv A + tv B)) ∧ Below w.heap.size w w' := by
  obtain ⟨i0, hi, hz0, hz1, hz2⟩ := info_parts Tryz.infoI
  obtain ⟨aa, ca, ea⟩ := ha.form
  obtain ⟨ab, cb, eb⟩ := hb.form
  subst ea eb
  obtain ⟨n, hn⟩ : ∃ n, n = A.length := ⟨_, rfl⟩
  obtain ⟨m, hm⟩ : ∃ m, m = B.length := ⟨_, rfl⟩
  rw [← hn] at lA ha ⊢
  rw [← hm] at lB hb ⊢
  replace hn := Lib.hid hn
  replace hm := Lib.hid hm
  replace hA := Lib.hid hA
  replace hB := Lib.hid hB
  replace ha := Lib.hid ha
  replace hb := Lib.hid hb
  go_enter Tryz.func54, Tryz.ntmps54
  go_wp2_with fail
  go_loopw [5, 6, 7] (fun v u j wr => ∃ (i c : Nat) (S : List Nat), u = .int .i64 (c : Int) ∧ j = .int .i64 (i : Int) ∧ AddS A B S i c ∧ (i ≤ max n m + 1 ∧ (i = max n m + 1 → c = 0)) ∧ wr.ownsRow w.heap.size 3 1 v i (S.map iv) ∧ Below w.heap.size w wr) (fun _ _ j _ => max n m + 2 - (intOf j).toNat)
  case atStart => exact ⟨0, 0, [], rfl, rfl, ⟨rfl, (fun d hd => by cases hd), Nat.zero_le _, (by rw [List.take_zero, List.take_zero]; show tv [] + 1 * 0 = tv [] + tv []; unfold tv; rfl)⟩, ⟨Nat.zero_le _, fun _ => rfl⟩, World.ownsRow_nil _ _ _ _, Below.refl _ _⟩
  case round =>
    obtain ⟨i, c, S, rfl, rfl, hS, hi2, hown, hbl⟩ := hrel
    have hx := dg_lt hA.out i
    have hy := dg_lt hB.out i
    have hc1 := hS.car
    have hst := Lib.hid (hS.step hA.out hB.out)
    have HA := Lib.hid (fun (wx : World) (hh : Below w.heap.size w wx) => at_any _ A i (by omega) (by rw [← hn.out]; omega) wx (ha.out.below hh))
    have HB := Lib.hid (fun (wx : World) (hh : Below w.heap.size w wx) => at_any _ B i (by omega) (by rw [← hm.out]; omega) wx (hb.out.below hh))
    obtain ⟨x, hxe⟩ : ∃ x, x = dg A i := ⟨_, rfl⟩
    obtain ⟨y, hye⟩ : ∃ y, y = dg B i := ⟨_, rfl⟩
    have hxz := Lib.hid (show n ≤ i → x = 0 from fun h => by rw [hxe]; exact dg_out (by rw [← hn.out]; exact h))
    have hyz := Lib.hid (show m ≤ i → y = 0 from fun h => by rw [hye]; exact dg_out (by rw [← hm.out]; exact h))
    replace hi2 := Lib.hid hi2
    rw [← hxe] at hx hst HA
    rw [← hye] at hy hst HB
    clear hxe hye
    replace hS := Lib.hid hS
    have hi1 := hi2.out.1
    have hcase : ((i : Int) < (n : Int)) ∨ (¬ ((i : Int) < (n : Int)) ∧ (i : Int) < (m : Int)) ∨ (¬ ((i : Int) < (n : Int)) ∧ ¬ ((i : Int) < (m : Int)) ∧ (0 : Int) < (c : Int)) ∨ (¬ ((i : Int) < (n : Int)) ∧ ¬ ((i : Int) < (m : Int)) ∧ c = 0) := by omega
    rcases hcase with k1 | ⟨k1, k2⟩ | ⟨k1, k2, k3⟩ | ⟨k1, k2, rfl⟩
    rotate_left 3
    · have hS' := hS.out
      have hT : tv S = tv A + tv B := by
        have := hS'.eq
        rw [List.take_of_length_le (by rw [← hn.out]; omega), List.take_of_length_le (by rw [← hm.out]; omega)] at this
        omega
      have HT := trim_any u5 S hS'.lt (by rw [hS'.len]; omega) wr (Sl.owned hown hS'.len.symm)
      rw [hT] at HT
      replace HT := Lib.hid HT
      clear hT hS' hown
      have k0 : (0 : Int) = ((0 : Nat) : Int) := rfl
      clear k0
      go_wp2_with fail
      with_reducible refine Calls.mono HT.out ?_
      rintro e w1 ⟨v', rfl, hv, rfl⟩
      replace hv := Lib.hid hv
      go_wp2_with fail
      go_ret
      exact ⟨_, rfl, hv.out, hbl⟩
    all_goals (
      have hib : (i : Int) ≤ 1000002 := by omega
      go_wp2_with fail
      with_reducible refine Calls.mono (HA.out _ hbl) ?_
      rintro e w1 ⟨rfl, rfl⟩
      go_wp2_with fail
      with_reducible refine Calls.mono (HB.out _ hbl) ?_
      rintro e w1 ⟨rfl, rfl⟩
      go_wp2_with (at_builtin; refine wpList_append_own _ rfl _ _ 42 rfl w.heap.size 3 i0 (.int .i64 0) 1 8 Tryz.underlying42 hi hz0 hz1 hz2 rfl (by decide) _ _ _ rfl (hown.alloc _) ⟨wr.heap.size, 0, none⟩ 1 1 [.int .i64 (((x : Int) + (y : Int) + (c : Int)) % 10000)] rfl rfl ?c1 ?c2 ?c3 ?c4 ?c5 ?_)
      case c1 =>
        intro j u hj
        match j, hj with
        | 0, hj => simp at hj; subst hj; simp [Addr.add]
      case c2 => intro u hu; simp at hu; subst hu; rfl
      case c3 => unfold maxLen; omega
      case c4 => omega
      case c5 => have := hbl.size; simp; omega
      intro v' w1 hown' hgrow _
      have hn' := Lib.hid (own_snoc (d := (x + y + c) % 10000) (by omega) hown')
      have hb' := Lib.hid (below_app hbl hbl.size hown hgrow)
      clear hown' hgrow hown hbl
      go_wp2_with fail
      go_roundw
      case rel => exact ⟨i + 1, (x + y + c) / 10000, _, by first | rfl | go_num, by first | rfl | go_num, hst.out, (by have q1 := hxz.out; have q2 := hyz.out; have q3 := hi2.out; omega), hn'.out, hb'.out⟩
      case measure => simp [intOf]; omega)
end Go.Proofs.YthehcjfmokabfaaGreatDoor.Rx

/-
  The reference of layer 1, walks D: blocks of ints; Mul.
-/
namespace Go.Proofs.YthehcjfmokabfaaGreatDoor.Rx
open Go.RowKit
attribute [local irreducible] tv dg

theorem add0 (g i : Nat) : (⟨g, 0, none⟩ : Addr).add i = ⟨g, i, none⟩ := by
  unfold Addr.add
  split <;> simp_all
/-- Block g holds just these ints. -/
def IB (w : World) (g : Nat) (l : List Nat) : Prop := w.heap[g]? = some (.cells (l.map iv).toArray 3 (0, 0))
section
variable {w w' : World} {g : Nat} {l : List Nat}
theorem IB.lt (h : IB w g l) : g < w.heap.size := (Array.getElem?_eq_some_iff.1 h).1
theorem IB.cell (h : IB w g l) (i : Nat) (hi : i < l.length) : w.cell? ⟨g, i, none⟩ = some (.int .i64 ((l[i] : Nat) : Int)) := by
  rw [cell_of_row w g i _ _ _ h]; simp [hi]
theorem IB.frozen (h : IB w g l) (i : Nat) : w.frozen? ⟨g, i, none⟩ = false := frozen_of_row w g i _ _ h
theorem IB.set (h : IB w g l) (i : Nat) (d : Nat) : IB (w.setCell ⟨g, i, none⟩ (.int .i64 (d : Int))) g (l.set i d) := by
  unfold IB at *
  rw [heap_setCell_same w g i _ _ _ h]
  congr 2
  rw [List.map_set]; simp
theorem IB.keep (h : IB w g l) (hk : w'.heap[g]? = w.heap[g]?) : IB w' g l := hk.trans h
theorem IB.below {B : Nat} (h : IB w g l) (hb : Below B w w') (hg : g < B) : IB w' g l := h.keep (hb.block g hg)
theorem IB.drewN (h : IB w g l) (n : Nat) : IB (w.drewN n) g l := h
theorem IB.sl (h : IB w g l) (c : Nat) (hc : l.length ≤ c) : Sl w (.slice (some ⟨g, 0, none⟩) l.length c) l :=
  .inr ⟨⟨g, 0, none⟩, c, rfl, hc, fun i hi => by rw [add0]; exact h.cell i hi, h.lt⟩
end
theorem ibdrew {B : Nat} {a w : World} (h : Below B a w) (n : Nat) : Below B a (w.drewN n) := ⟨h.os, h.tape, h.output, h.size, h.block⟩
/-- Zeros, as make lays them. -/
def zobjI (n : Nat) : Obj := .cells ((List.replicate n 0).map iv).toArray 3
theorem IB.zeros (w : World) (n : Nat) : IB (w.alloc (zobjI n)) w.heap.size (List.replicate n 0) := heap_alloc_new w _
theorem made_zerosI (n : Nat) : madeCells (Value.cells (.int .i64 0)) n = ((List.replicate n 0).map iv).toArray := by
  apply Array.ext'
  rw [show Value.cells (.int .i64 0) = #[.int .i64 0] from rfl, toList_madeCells_one]
  simp
theorem makeN (w : World) (c : Int) (n : Nat) (hc : c = n) (h : n ≤ 17592186044416) :
    (Instr.makeSlice 42 (.int .i64 c) (.int .i64 c)).run Tryz.prog w = .ok (.slice (some ⟨w.heap.size, 0, none⟩) n n) (w.alloc (zobjI n)) := by
  subst hc
  have := run_make (P := Tryz.prog) w 42 3 Tryz.t3 (.int .i64 0) Tryz.underlying42 (by kernel_rfl) (by kernel_rfl) .i64 .i64 (n : Int) (n : Int) (by omega) (Int.le_refl _) (by show ((8 : Nat) : Int) * _ ≤ _; omega) (by omega)
  rw [this]
  simp only [Int.toNat_natCast]
  show Result.ok _ (w.alloc (.cells (madeCells (Value.cells (.int .i64 0)) (n * 1)) _)) = _
  rw [Nat.mul_one, made_zerosI]; rfl

theorem tv_set {l : List Nat} {j : Nat} (h : j < l.length) (d : Nat) : tv (l.set j d) + 10000 ^ j * l[j] = tv l + 10000 ^ j * d := by
  induction l generalizing j with
  | nil => exact absurd h (by simp)
  | cons x l ih =>
    cases j with
    | zero => simp only [List.set_cons_zero, List.getElem_cons_zero, tv, Nat.pow_zero, Nat.one_mul]; omega
    | succ j =>
      have hj : j < l.length := by simpa using h
      have := ih (j := j) hj
      simp only [List.set_cons_succ, List.getElem_cons_succ, tv, Nat.pow_succ]
      rw [Nat.mul_comm (10000 ^ j) 10000, Nat.mul_assoc, Nat.mul_assoc]
      generalize 10000 ^ j * l[j] = p at *
      generalize 10000 ^ j * d = q at *
      omega

/-- What Mul's inner rounds keep. -/
structure MulS (A B X : List Nat) (i k c : Nat) : Prop where
  len : X.length = A.length + B.length
  lt : ∀ d ∈ X, d < 10000
  car : c < 10000
  eq : tv X + 10000 ^ (i + k) * c = tv (A.take i) * tv B + 10000 ^ i * (dg A i * tv (B.take k))
theorem tv_take_le (B : List Nat) (k : Nat) : tv (B.take k) ≤ tv B := by
  have := tv_append (B.take k) (B.drop k)
  rw [List.take_append_drop] at this
  omega
theorem MulS.step {A B X : List Nat} {i k c : Nat} (h : MulS A B X i k c) (hA : ∀ d ∈ A, d < 10000) (hB : ∀ d ∈ B, d < 10000) (hj : i + k < X.length) {s : Nat} (hs : s = X[i + k] + dg A i * dg B k + c) :
    s < 100000000 ∧ MulS A B (X.set (i + k) (s % 10000)) i (k + 1) (s / 10000) := by
  have h1 := dg_lt hA i
  have h2 := dg_lt hB k
  have h3 := h.car
  have hx := h.lt _ (List.getElem_mem hj)
  have hp : dg A i * dg B k ≤ 9999 * 9999 := Nat.mul_le_mul (by omega) (by omega)
  have hs1 : s < 100000000 := by omega
  refine ⟨hs1, by rw [List.length_set]; exact h.len, fun d hd => ?_, by omega, ?_⟩
  · rcases List.mem_or_eq_of_mem_set hd with hd | hd
    · exact h.lt d hd
    · omega
  · have e1 := tv_set hj (s % 10000)
    have e2 := h.eq
    rw [tv_take, ← Nat.add_assoc, Nat.pow_succ]
    have e3 : s % 10000 + 10000 * (s / 10000) = X[i + k] + dg A i * dg B k + c := by omega
    have e4 : 10000 ^ (i + k) * (s % 10000) + 10000 ^ (i + k) * 10000 * (s / 10000) = 10000 ^ (i + k) * X[i + k] + 10000 ^ (i + k) * (dg A i * dg B k) + 10000 ^ (i + k) * c := by
      rw [Nat.mul_assoc, ← Nat.mul_add, e3, Nat.mul_add, Nat.mul_add]
    have e5 : 10000 ^ i * (dg A i * (tv (B.take k) + 10000 ^ k * dg B k)) = 10000 ^ i * (dg A i * tv (B.take k)) + 10000 ^ (i + k) * (dg A i * dg B k) := by
      rw [Nat.mul_add, Nat.mul_add, Nat.pow_add, Nat.mul_left_comm (dg A i), Nat.mul_assoc (10000 ^ i)]
    rw [e5]
    generalize 10000 ^ (i + k) * (s % 10000) = p1 at *
    generalize 10000 ^ (i + k) * 10000 * (s / 10000) = p2 at *
    generalize 10000 ^ (i + k) * X[i + k] = p3 at *
    generalize 10000 ^ (i + k) * (dg A i * dg B k) = p4 at *
    generalize 10000 ^ (i + k) * c = p5 at *
    generalize 10000 ^ i * (dg A i * tv (B.take k)) = p6 at *
    generalize tv (A.take i) * tv B = p7 at *
    generalize tv (X.set (i + k) (s % 10000)) = p8 at *
    generalize tv X = p9 at *
    omega
/-- Behind b's digits one carry may be left, and no more. -/
theorem MulS.carry {A B X : List Nat} {i k c : Nat} (h : MulS A B X i k c) (hA : ∀ d ∈ A, d < 10000) (hB : ∀ d ∈ B, d < 10000) (hi : i < A.length) (hk : B.length + 1 ≤ k) : c = 0 := by
  rcases Nat.eq_zero_or_pos c with h0 | h0
  · exact h0
  · have e := h.eq
    have e2 : tv (A.take i) * tv B + 10000 ^ i * (dg A i * tv (B.take k)) = tv (A.take (i + 1)) * tv B := by
      rw [List.take_of_length_le (l := B) (by omega), tv_take, Nat.add_mul, Nat.mul_assoc]
    have e3 : tv (A.take (i + 1)) < 10000 ^ (i + 1) := by
      have := tv_lt (l := A.take (i + 1)) fun d hd => hA d (List.mem_of_mem_take hd)
      rwa [List.length_take, Nat.min_eq_left (by omega)] at this
    have e4 := tv_lt hB
    have e5 : tv (A.take (i + 1)) * tv B < 10000 ^ (i + 1) * 10000 ^ B.length := Nat.lt_of_le_of_lt (Nat.mul_le_mul_left _ (Nat.le_of_lt e4)) (Nat.mul_lt_mul_of_pos_right e3 (Nat.pow_pos (by omega)))
    rw [← Nat.pow_add] at e5
    have e6 : 10000 ^ (i + 1 + B.length) ≤ 10000 ^ (i + k) := Nat.pow_le_pow_right (by omega) (by omega)
    have e7 : 10000 ^ (i + k) ≤ 10000 ^ (i + k) * c := Nat.le_mul_of_pos_right _ h0
    omega
theorem MulS.done {A B X : List Nat} {i k : Nat} (h : MulS A B X i k 0) (hk : B.length ≤ k) : MulS A B X (i + 1) 0 0 := by
  refine ⟨h.len, h.lt, by omega, ?_⟩
  have e := h.eq
  rw [List.take_of_length_le hk] at e
  rw [List.take_zero, tv_take, Nat.add_mul, Nat.mul_assoc]
  rw [Nat.mul_zero, Nat.add_zero] at e ⊢
  rw [e]
  have : tv [] = 0 := by unfold tv; rfl
  rw [this, Nat.mul_zero, Nat.mul_zero, Nat.add_zero]
theorem MulS.start (A B : List Nat) : MulS A B (List.replicate (A.length + B.length) 0) 0 0 0 := by
  refine ⟨List.length_replicate, fun d hd => by rw [(List.mem_replicate.1 hd).2]; omega, by omega, ?_⟩
  have : tv [] = 0 := by unfold tv; rfl
  rw [tv_zeros, List.take_zero, List.take_zero, this]
  simp

set_option maxHeartbeats 8000000 in
set_option maxRecDepth 100000 in
theorem rmul_l (va vb : Value) (A B : List Nat) (hA : ∀ d ∈ A, d < 10000) (hB : ∀ d ∈ B, d < 10000) (lA : A.length ≤ 1000000) (lB : B.length ≤ 1000000) (w : World) (ha : Sl w va A) (hb : Sl w vb B) :
    Calls Tryz.prog 59 #[va, vb] w fun e w' => ∃ v, e = .returned v ∧ Sl w' v (td (tv A * tv B)) ∧ Below w.heap.size w w' := by
  obtain ⟨aa, ca, ea, hva⟩ := ha.view
  obtain ⟨ab, cb, eb⟩ := hb.form
  subst ea eb
  obtain ⟨n, hn⟩ : ∃ n, n = A.length := ⟨_, rfl⟩
  obtain ⟨m, hm⟩ : ∃ m, m = B.length := ⟨_, rfl⟩
  rw [← hn] at lA ha hva ⊢
  rw [← hm] at lB hb ⊢
  have hst := MulS.start A B
  rw [← hn, ← hm] at hst
  have hmk : ∀ w, (Instr.makeSlice 42 (.int .i64 ((n : Int) + (m : Int))) (.int .i64 ((n : Int) + (m : Int)))).run Tryz.prog w = .ok (.slice (some ⟨w.heap.size, 0, none⟩) (n + m) (n + m)) (w.alloc (zobjI (n + m))) :=
    fun w => makeN w _ (n + m) (by omega) (by omega)
  have hz := Lib.hid (IB.zeros w (n + m))
  replace hst := Lib.hid hst
  replace hn := Lib.hid hn
  replace hm := Lib.hid hm
  replace hA := Lib.hid hA
  replace hB := Lib.hid hB
  replace ha := Lib.hid ha
  replace hb := Lib.hid hb
  replace hva := Lib.hid hva
  obtain ⟨N, hN⟩ : ∃ N, N = n + m := ⟨_, rfl⟩
  rw [← hN] at hmk hz hst
  replace hN := Lib.hid hN
  go_enter Tryz.func59, Tryz.ntmps59
  go_wp2_with fail
  go_loopw [6] (fun j wr => ∃ (i : Nat) (X : List Nat), j = .int .i64 (i : Int) ∧ i ≤ n ∧ MulS A B X i 0 0 ∧ IB wr w.heap.size X ∧ Below w.heap.size w wr) (fun j _ => n - (intOf j).toNat)
  case atStart => exact ⟨0, _, rfl, Nat.zero_le _, hst.out, hz.out, (Below.refl _ _).alloc (Nat.le_refl _) _⟩
  case round =>
    obtain ⟨i, X, rfl, hi, hS, hX, hbl⟩ := hrel
    clear hmk hz hst
    replace hS := Lib.hid hS
    replace hX := Lib.hid hX
    rcases Nat.lt_or_ge i n with hin | hin
    · have k1 : (i : Int) < (n : Int) := by omega
      have hib : (i : Int) ≤ 1000000 := by omega
      obtain ⟨aA, rfl, -, hsd⟩ := hva.out (by omega)
      replace hsd := Lib.hid hsd
      go_wp2_with fail
      go_loopw [7, 8] (fun cv kv wy => ∃ (k c : Nat) (Y : List Nat), cv = .int .i64 (c : Int) ∧ kv = .int .i64 (k : Int) ∧ k ≤ m + 1 ∧ MulS A B Y i k c ∧ IB wy w.heap.size Y ∧ Below w.heap.size w wy) (fun _ kv _ => m + 2 - (intOf kv).toNat)
      case atStart => exact ⟨0, 0, X, rfl, rfl, Nat.zero_le _, hS.out, hX.out, hbl⟩
      case round =>
        obtain ⟨k, c, Y, rfl, rfl, hk, hY, hYb, hbl2⟩ := hrel
        have hc := hY.car
        have hcz := Lib.hid (fun h => hY.carry hA.out hB.out (by rw [← hn.out]; exact hin) (by rw [← hm.out]; exact h))
        have hdn := Lib.hid (show m ≤ k → c = 0 → MulS A B Y (i + 1) 0 0 from fun h1 h2 => by subst h2; exact hY.done (by rw [← hm.out]; exact h1))
        have hcase : ((k : Int) < (m : Int)) ∨ (¬ ((k : Int) < (m : Int)) ∧ (0 : Int) < (c : Int)) ∨ (¬ ((k : Int) < (m : Int)) ∧ c = 0) := by omega
        rcases hcase with k2 | ⟨k2, k3⟩ | ⟨k2, rfl⟩
        rotate_left 2
        · have hd := Lib.hid (hdn.out (by omega) rfl)
          replace hYb := Lib.hid hYb
          clear hY hcz hdn
          go_wp2_with fail
          go_roundw
          case rel => exact ⟨i + 1, Y, by first | rfl | go_num, by omega, hd.out, hYb.out, hbl2⟩
          case measure => simp [intOf]; omega
        all_goals (
          have hkm : k ≤ m := by have := hcz.out; omega
          have hj : i + k < Y.length := by rw [hY.len, ← hn.out, ← hm.out]; omega
          have hyc := hYb.cell (i + k) hj
          have hyf := hYb.frozen (i + k)
          have hac := hsd.out.cell i (by rw [← hn.out]; exact hin)
          have hap : A[i]'(by rw [← hn.out]; exact hin) = dg A i := (dg_in _).symm
          rw [hap] at hac
          obtain ⟨hs1, hs2⟩ := hY.step hA.out hB.out hj rfl
          have hsY := hYb.set (i + k) ((Y[i + k] + dg A i * dg B k + c) % 10000)
          have hy := hY.lt _ (List.getElem_mem hj)
          have hAt : ∀ wx, Below w.heap.size w wx → Calls Tryz.prog 98 #[.slice ab m cb, .int .i64 (k : Int)] wx fun e w' => e = .returned (.int .i64 ((dg B k : Nat) : Int)) ∧ w' = wx :=
            fun wx hh => (at_any _ B k (by omega) (by rw [← hm.out]; omega) wx (hb.out.below hh)).mono fun _ _ h => ⟨h.1, h.2.symm⟩
          have hp := dg_lt hA.out i
          have hq := dg_lt hB.out k
          clear hap
          generalize Y[i + k] = y at *
          generalize dg A i = p at *
          generalize dg B k = q at *
          obtain ⟨z, hz⟩ : ∃ z, z = p * q := ⟨_, rfl⟩
          have hzb : z ≤ 99980001 := by rw [hz]; exact Nat.mul_le_mul (show p ≤ 9999 by omega) (show q ≤ 9999 by omega)
          rw [← hz] at hs1 hs2 hsY
          have hzz : (p : Int) * (q : Int) = (z : Int) := by rw [hz]; rfl
          have hac2 := hac.trans rfl
          have hac4 : wr.cell? (aA.add i) = some (.int .i64 (p : Int)) := (hbl2.cell (p := aA.add i) (by rw [addB]; exact hsd.out.blk)).trans hac
          clear hz hac hac2 hY hYb hcz hdn
          replace hAt := Lib.hid hAt
          replace hs2 := Lib.hid hs2
          replace hsY := Lib.hid hsY
          have hib2 : (k : Int) ≤ 1000001 := by omega
          have hNN : (i : Int) + (k : Int) < (N : Int) := by have := hN.out; omega
          have hNk : (k : Int) < (N : Int) := by omega
          go_wp2_with fail
          go_quiet ((go_at_call 98; exact Calls.quiet_of_same (hAt.out _ (ibdrew hbl2 _))))
          go_wp2_with fail
          go_roundw
          case rel => exact ⟨k + 1, (y + z + c) / 10000, _, by first | rfl | go_num, by first | rfl | go_num, by omega, hs2.out, (by have h := hsY.out; rw [show (((y + z + c) % 10000 : Nat) : Int) = ((y : Int) + (z : Int) + (c : Int)) % 10000 by omega] at h; exact h), ((ibdrew hbl2 nq).setCell (Nat.le_refl _) _)⟩
          case measure => simp [intOf]; omega)
    · have k1 : ¬ (i : Int) < (n : Int) := by omega
      have hie : i = n := by omega
      have hT : tv X = tv A * tv B := by
        have := hS.out.eq
        rw [hie, hn.out, List.take_length, List.take_zero] at this
        have h0 : tv [] = 0 := by unfold tv; rfl
        rw [h0, Nat.mul_zero, Nat.mul_zero, Nat.mul_zero] at this
        omega
      have hl : X.length = N := by rw [hS.out.len, hN.out, hn.out, hm.out]
      have HT := trim_any _ X hS.out.lt (by rw [hl]; have := hN.out; omega) wr (hX.out.sl N (by omega))
      rw [hT, hl] at HT
      replace HT := Lib.hid HT
      clear hT hie
      go_wp2_with fail
      with_reducible refine Calls.mono HT.out ?_
      rintro e w1 ⟨v', rfl, hv, rfl⟩
      replace hv := Lib.hid hv
      go_wp2_with fail
      go_ret
      exact ⟨_, rfl, hv.out, hbl⟩
end Go.Proofs.YthehcjfmokabfaaGreatDoor.Rx

/-
  The reference of layer 1, walks E: numbers; OfWords, Cmp.
-/
namespace Go.Proofs.YthehcjfmokabfaaGreatDoor.Rx
open Go.RowKit
attribute [local irreducible] tv dg

/-- A slice that holds a number's digits. -/
abbrev Rn (w : World) (v : Value) (n : Nat) : Prop := Sl w v (td n)
theorem rn_nil (w : World) : Rn w (.slice none 0 0) 0 := by
  show Sl _ _ (td 0)
  rw [td_zero]; exact Sl.nil _
theorem radd_any (va vb : Value) (a b : Nat) (la : (td a).length ≤ 1000000) (lb : (td b).length ≤ 1000000) (w : World) (ha : Rn w va a) (hb : Rn w vb b) :
    Calls Tryz.prog 54 #[va, vb] w fun e w' => ∃ v, e = .returned v ∧ Rn w' v (a + b) ∧ Below w.heap.size w w' := by
  have := radd_l va vb _ _ (td_lt a) (td_lt b) la lb w ha hb
  rwa [tv_td, tv_td] at this
theorem rmul_any (va vb : Value) (a b : Nat) (la : (td a).length ≤ 1000000) (lb : (td b).length ≤ 1000000) (w : World) (ha : Rn w va a) (hb : Rn w vb b) :
    Calls Tryz.prog 59 #[va, vb] w fun e w' => ∃ v, e = .returned v ∧ Rn w' v (a * b) ∧ Below w.heap.size w w' := by
  have := rmul_l va vb _ _ (td_lt a) (td_lt b) la lb w ha hb
  rwa [tv_td, tv_td] at this
theorem td_add_le {a b k : Nat} (ha : (td a).length ≤ k) (hb : (td b).length ≤ k) : (td (a + b)).length ≤ k + 1 := by
  have h1 := td_length.1 ha
  have h2 := td_length.1 hb
  refine td_length.2 ?_
  rw [Nat.pow_succ]
  omega
theorem td_mul_le {a b k m : Nat} (ha : (td a).length ≤ k) (hb : (td b).length ≤ m) : (td (a * b)).length ≤ k + m := by
  have h1 := td_length.1 ha
  have h2 := td_length.1 hb
  refine td_length.2 ?_
  rw [Nat.pow_add]
  exact Nat.lt_of_le_of_lt (Nat.mul_le_mul_left _ (Nat.le_of_lt h2)) (Nat.mul_lt_mul_of_pos_right h1 (Nat.pow_pos (by omega)))
/-- The reference's digits of a number of few words. -/
theorem td_made {l : List Nat} (h : ∀ x ∈ l, x < 4294967296) : (td (made l)).length ≤ 3 * l.length := by
  refine td_length.2 ?_
  induction l with
  | nil => exact Nat.one_pos
  | cons x l ih =>
    have h1 := ih fun y hy => h y (List.mem_cons_of_mem _ hy)
    have h2 := h x List.mem_cons_self
    rw [made, List.length_cons, Nat.mul_add, Nat.pow_add]
    rw [show (10000 : Nat) ^ (3 * 1) = 1000000000000 by rfl]
    generalize 10000 ^ (3 * l.length) = X at *
    omega

theorem rof_val (z : Int) (d : Nat) (hz : z = (d : Int)) (hd : d < 18446744073709551616) (w : World) :
    Calls Tryz.prog 92 #[.int .u64 z] w fun e w' => ∃ v, e = .returned v ∧ Rn w' v d ∧ Below w.heap.size w w' := by rw [hz]; exact rof_any d hd w

set_option maxHeartbeats 4000000 in
set_option maxRecDepth 100000 in
theorem rofw_row (a : Addr) (cc : Nat) (l : List Nat) (hl : l.length ≤ 1000) (w : World) (hw : Wd w a l) :
    Calls Tryz.prog 49 #[.slice (some a) l.length cc] w fun e w' => ∃ v, e = .returned v ∧ Rn w' v (made l) ∧ Below w.heap.size w w' := by
  obtain ⟨n, hn⟩ : ∃ n, n = l.length := ⟨_, rfl⟩
  rw [← hn] at hl ⊢
  have HW := Lib.hid hw
  have hst : made (l.drop n) = 0 := by rw [List.drop_eq_nil_of_le (by omega)]; rfl
  replace hst := Lib.hid hst
  replace hn := Lib.hid hn
  clear hw
  go_enter Tryz.func49, Tryz.ntmps49
  go_wp2_with fail
  go_loopw [3, 4] (fun v z wr => ∃ (j : Nat), j ≤ n ∧ z = .int .i64 ((j : Int) - 1) ∧ Rn wr v (made (l.drop j)) ∧ Below w.heap.size w wr) (fun _ z _ => (intOf z + 1).toNat)
  case atStart => exact ⟨n, Nat.le_refl _, by first | rfl | go_num, by rw [hst.out]; exact rn_nil _, Below.refl _ _⟩
  case round =>
    obtain ⟨j, hj, rfl, hv, hbl⟩ := hrel
    replace hv := Lib.hid hv
    cases j with
    | zero =>
      rw [List.drop_zero] at hv
      go_wp2_with fail
      go_ret
      exact ⟨_, rfl, hv.out, hbl⟩
    | succ i =>
      have hi : i < l.length := by have := hn.out; omega
      obtain ⟨x, hx⟩ : ∃ x, x = l[i] := ⟨_, rfl⟩
      have hx32 : x < 4294967296 := by rw [hx]; exact HW.out.lt _ (List.getElem_mem hi)
      have hmd : made (l.drop i) = made (l.drop (i + 1)) * 4294967296 + x := by
        rw [List.drop_eq_getElem_cons hi, made, ← hx]; omega
      have hcell : wr.cell? (a.add i) = some (.int .u32 (x : Int)) := by rw [hx]; exact (HW.out.below hbl).cell i hi
      have hlt := fun (y : Nat) (hy : y ∈ l.drop (i + 1)) => HW.out.lt y (List.mem_of_mem_drop hy)
      have htd : (td (made (l.drop (i + 1)))).length ≤ 3000 := Nat.le_trans (td_made hlt) (by rw [List.length_drop]; have := hn.out; omega)
      have htd2 : (td (made (l.drop (i + 1)) * 4294967296)).length ≤ 3003 := td_mul_le htd (show (td 4294967296).length ≤ 3 from td_length.2 (by decide))
      generalize made (l.drop (i + 1)) = m at *
      obtain ⟨C, hC⟩ : ∃ C, C = 4294967296 := ⟨_, rfl⟩
      have O1 := fun w => rof_val 4294967296 C (by rw [hC]; rfl) (by omega) w
      have O2 := fun w => rof_any x (by omega) w
      have M := fun va vb w ha hb => rmul_any va vb m C (by omega) (by have : (td C).length ≤ 3 := by rw [hC]; exact td_length.2 (by decide)
                                                                       omega) w ha hb
      have A := fun va vb w ha hb => radd_any va vb (m * C) x (by rw [hC]; omega) (by have : (td x).length ≤ 3 := td_length.2 (by omega)
                                                                                      omega) w ha hb
      rw [hC, ← hmd, ← hC] at A
      rw [← hC] at hmd
      replace hmd := Lib.hid hmd
      replace O1 := Lib.hid O1
      replace O2 := Lib.hid O2
      replace M := Lib.hid M
      replace A := Lib.hid A
      have hin : (i : Int) < (n : Int) := by have := hn.out; omega
      have hib : (i : Int) ≤ 1000 := by omega
      have hwx : IntKind.u64.wrap (x : Int) = (x : Int) := wrapN _ (by omega)
      have e1 : (((i + 1 : Nat) : Int) - 1) = (i : Int) := by omega
      rw [e1]
      clear hx hC htd htd2 hlt hx32
      go_wp2_with fail
      have hcd : wr.drew.cell? (a.add i) = some (.int .u32 (x : Int)) := hcell
      have hak : (a.add i).block < wr.drew.heap.size := by rw [addB]; exact Nat.lt_of_lt_of_le HW.out.blk hbl.size
      have hv0 := Lib.hid hv.out.drew
      go_region_held3 (fun w' => w'.cell? (a.add i) = some (.int .u32 (x : Int)))
        (first | exact hcd | exact hc1 | exact hc2 | exact hc3 | exact hc4)
        (first
          | (go_at_call 92; ((with_reducible refine Calls.mono (O1.out _) ?_); rintro e w1 ⟨v1, rfl, hv1, hb1⟩; have hc1 := (hb1.cell (p := a.add i) hak).trans hcd; replace hv1 := Lib.hid hv1))
          | (go_at_call 59; ((with_reducible refine Calls.mono (M.out _ _ _ (hv0.out.below hb1) hv1.out) ?_); rintro e w2 ⟨v2, rfl, hv2, hb2⟩; have hc2 := (hb2.cell (p := a.add i) (Nat.lt_of_lt_of_le hak hb1.size)).trans hc1; replace hv2 := Lib.hid hv2))
          | (go_at_call 92; ((with_reducible refine Calls.mono (O2.out _) ?_); rintro e w3 ⟨v3, rfl, hv3, hb3⟩; have hc3 := (hb3.cell (p := a.add i) (Nat.lt_of_lt_of_le hak (Nat.le_trans hb1.size hb2.size))).trans hc2; replace hv3 := Lib.hid hv3))
          | (go_at_call 54; ((with_reducible refine Calls.mono (A.out _ _ _ (hv2.out.below hb3) hv3.out) ?_); rintro e w4 ⟨v4, rfl, hv4, hb4⟩; have hc4 := (hb4.cell (p := a.add i) (Nat.lt_of_lt_of_le hak (Nat.le_trans hb1.size (Nat.le_trans hb2.size hb3.size)))).trans hc3; replace hv4 := Lib.hid hv4)))
      go_wp2_with fail
      go_roundw
      case rel => exact ⟨i, by omega, by first | rfl | go_num, hv4.out, (((hbl.drew.trans (hb1.mono hbl.size)).trans (hb2.mono (Nat.le_trans hbl.size hb1.size))).trans (hb3.mono (Nat.le_trans hbl.size (Nat.le_trans hb1.size hb2.size)))).trans (hb4.mono (Nat.le_trans hbl.size (Nat.le_trans hb1.size (Nat.le_trans hb2.size hb3.size))))⟩
      case measure => simp [intOf]
end Go.Proofs.YthehcjfmokabfaaGreatDoor.Rx

/-
  The reference of layer 1, walks F: OfWords at every slice; Cmp, Sub.
-/
namespace Go.Proofs.YthehcjfmokabfaaGreatDoor.Rx
open Go.RowKit
attribute [local irreducible] tv dg cmpI

theorem rofw_nil (ao : Option Addr) (c : Nat) (w : World) :
    Calls Tryz.prog 49 #[.slice ao 0 c] w fun e w' => ∃ v, e = .returned v ∧ Rn w' v 0 ∧ Below w.heap.size w w' := by
  go_enter Tryz.func49, Tryz.ntmps49
  go_wp2_with fail
  go_loopw [3, 4] (fun v z wr => v = .slice none 0 0 ∧ z = .int .i64 (-1) ∧ wr = w) (fun _ z _ => (intOf z + 1).toNat)
  case atStart => exact ⟨rfl, rfl, rfl⟩
  case round =>
    obtain ⟨rfl, rfl, rfl⟩ := hrel
    go_wp2_with fail
    go_ret
    exact ⟨_, rfl, rn_nil _, Below.refl _ _⟩
theorem rofw_any (v : Value) (l : List Nat) (hl : l.length ≤ 1000) (w : World) (h : Ws w v l) :
    Calls Tryz.prog 49 #[v] w fun e w' => ∃ v, e = .returned v ∧ Rn w' v (made l) ∧ Below w.heap.size w w' := by
  rcases h with ⟨ao, c, rfl, rfl⟩ | ⟨a, c, rfl, h2⟩
  · exact rofw_nil ao c w
  · exact rofw_row a c l hl w h2

/-- Digits from a place on, compared. -/
theorem tv_split {l : List Nat} {i : Nat} (h : i < l.length) : tv l = tv (l.take i) + 10000 ^ i * (l[i] + 10000 * tv (l.drop (i + 1))) := by
  have e := tv_append (l.take i) (l.drop i)
  rw [List.take_append_drop, List.length_take, Nat.min_eq_left (Nat.le_of_lt h), List.drop_eq_getElem_cons h] at e
  rw [e]
  rw [tv_cons]
theorem tv_less {A B : List Nat} {i : Nat} (hA : ∀ d ∈ A, d < 10000) (ha : i < A.length) (hb : i < B.length) (hd : A.drop (i + 1) = B.drop (i + 1)) (h : A[i] < B[i]) : tv A < tv B := by
  rw [tv_split ha, tv_split hb, hd]
  have h1 := tv_lt (l := A.take i) fun d hd => hA d (List.mem_of_mem_take hd)
  rw [List.length_take, Nat.min_eq_left (Nat.le_of_lt ha)] at h1
  have h2 : 10000 ^ i * (A[i] + 10000 * tv (B.drop (i + 1)) + 1) ≤ 10000 ^ i * (B[i] + 10000 * tv (B.drop (i + 1))) := Nat.mul_le_mul_left _ (by omega)
  rw [Nat.mul_add _ _ 1, Nat.mul_one] at h2
  omega

set_option maxHeartbeats 4000000 in
set_option maxRecDepth 100000 in
theorem rcmp_any (va vb : Value) (a b : Nat) (la : (td a).length ≤ 1000000) (lb : (td b).length ≤ 1000000) (w : World) (ha : Rn w va a) (hb : Rn w vb b) :
    Calls Tryz.prog 50 #[va, vb] w fun e w' => e = .returned (.int .i64 (cmpI a b)) ∧ Below w.heap.size w w' := by
  obtain ⟨aa, ca, ea, hva⟩ := ha.view
  obtain ⟨ab, cb, eb, hvb⟩ := hb.view
  subst ea eb
  have hA := td_lt a
  have hB := td_lt b
  have va1 := tv_td a
  have vb1 := tv_td b
  have hlt : (td a).length < (td b).length → cmpI a b = -1 := fun h => cmpI_lt (Nat.lt_of_not_le fun h2 => by have := td_mono h2; omega)
  have hgt : (td b).length < (td a).length → cmpI a b = 1 := fun h => cmpI_gt (Nat.lt_of_not_le fun h2 => by have := td_mono h2; omega)
  have hless : tv (td a) < tv (td b) → cmpI a b = -1 := fun h => cmpI_lt (by rwa [va1, vb1] at h)
  have hmore : tv (td b) < tv (td a) → cmpI a b = 1 := fun h => cmpI_gt (by rwa [va1, vb1] at h)
  have hsame : td a = td b → cmpI a b = 0 := fun h => by rw [show a = b by rw [← va1, ← vb1, h]]; exact cmpI_eq b
  clear va1 vb1 ha hb
  generalize td a = A at *
  generalize td b = B at *
  obtain ⟨n, hn⟩ : ∃ n, n = A.length := ⟨_, rfl⟩
  obtain ⟨m, hm⟩ : ∃ m, m = B.length := ⟨_, rfl⟩
  rw [← hn] at la hlt hgt hva ⊢
  rw [← hm] at lb hlt hgt hvb ⊢
  replace hA := Lib.hid hA
  replace hB := Lib.hid hB
  replace hlt := Lib.hid hlt
  replace hgt := Lib.hid hgt
  replace hless := Lib.hid hless
  replace hmore := Lib.hid hmore
  replace hsame := Lib.hid hsame
  replace hva := Lib.hid hva
  replace hvb := Lib.hid hvb
  replace hn := Lib.hid hn
  replace hm := Lib.hid hm
  rcases Nat.lt_trichotomy n m with h | h | h
  · have k1 : (n : Int) < (m : Int) := by omega
    rw [hlt.out h]
    go_enter Tryz.func50, Tryz.ntmps50
    go_wp2_with fail
    go_ret
    exact ⟨rfl, Below.refl _ _⟩
  · subst h
    go_enter Tryz.func50, Tryz.ntmps50
    go_wp2_with fail
    go_loopw [5] (fun z wr => ∃ j : Nat, j ≤ n ∧ z = .int .i64 ((j : Int) - 1) ∧ A.drop j = B.drop j ∧ Below w.heap.size w wr) (fun z _ => (intOf z + 1).toNat)
    case atStart => exact ⟨n, Nat.le_refl _, by first | rfl | go_num, by rw [List.drop_eq_nil_of_le (by rw [← hn.out]; exact Nat.le_refl _), List.drop_eq_nil_of_le (by rw [← hm.out]; exact Nat.le_refl _)], Below.refl _ _⟩
    case round =>
      obtain ⟨j, hj, rfl, hd, hbl⟩ := hrel
      cases j with
      | zero =>
        rw [List.drop_zero, List.drop_zero] at hd
        have hres := Lib.hid (hsame.out hd)
        clear hd
        go_wp2_with fail
        go_ret
        exact ⟨by rw [hres.out]; rfl, hbl⟩
      | succ i =>
        obtain ⟨aA, rfl, -, sA⟩ := hva.out (by omega)
        obtain ⟨aB, rfl, -, sB⟩ := hvb.out (by omega)
        have iA : i < A.length := by have := hn.out; omega
        have iB : i < B.length := by have := hm.out; omega
        have cA := (sA.below (hbl.mono (Nat.le_refl _))).cell i iA
        have cB := (sB.below (hbl.mono (Nat.le_refl _))).cell i iB
        have q1 := Lib.hid (fun h => tv_less hA.out iA iB hd h)
        have q2 := Lib.hid (fun h => tv_less hB.out iB iA hd.symm h)
        have q3 : A[i] = B[i] → A.drop i = B.drop i := fun h => by rw [List.drop_eq_getElem_cons iA, List.drop_eq_getElem_cons iB, h, hd]
        replace q3 := Lib.hid q3
        have xb := hA.out _ (List.getElem_mem iA)
        have yb := hB.out _ (List.getElem_mem iB)
        clear hd sA sB
        generalize A[i] = x at *
        generalize B[i] = y at *
        have e1 : (((i + 1 : Nat) : Int) - 1) = (i : Int) := by omega
        have hin : (i : Int) < (n : Int) := by omega
        rw [e1]
        rcases Nat.lt_trichotomy x y with h | h | h
        · have k1 : (x : Int) < (y : Int) := by omega
          have hres := hless.out (q1.out h)
          replace hres := Lib.hid hres
          go_wp2_with fail
          go_quiet (fail)
          go_wp2_with fail
          go_ret
          exact ⟨by rw [hres.out]; rfl, by first | exact ibdrew hbl _ | exact ibdrew (ibdrew hbl _) _⟩
        · subst h
          have k1 : ¬ (x : Int) < (x : Int) := by omega
          go_wp2_with fail
          go_quiet (fail)
          go_wp2_with fail
          go_quiet (fail)
          go_wp2_with fail
          go_roundw
          case rel => exact ⟨i, by omega, by first | rfl | go_num, q3.out (by trivial), ibdrew hbl _⟩
          case measure => simp [intOf]
        · have k1 : ¬ (x : Int) < (y : Int) := by omega
          have k2 : (y : Int) < (x : Int) := by omega
          have hres := hmore.out (q2.out h)
          replace hres := Lib.hid hres
          go_wp2_with fail
          go_quiet (fail)
          go_wp2_with fail
          go_quiet (fail)
          go_wp2_with fail
          go_ret
          exact ⟨by rw [hres.out]; rfl, by first | exact ibdrew hbl _ | exact ibdrew (ibdrew hbl _) _⟩
  · have k1 : ¬ (n : Int) < (m : Int) := by omega
    have k2 : (m : Int) < (n : Int) := by omega
    rw [hgt.out h]
    go_enter Tryz.func50, Tryz.ntmps50
    go_wp2_with fail
    go_ret
    exact ⟨rfl, Below.refl _ _⟩
end Go.Proofs.YthehcjfmokabfaaGreatDoor.Rx

/-
  The reference of layer 1, walks G: Sub.
-/
namespace Go.Proofs.YthehcjfmokabfaaGreatDoor.Rx
open Go.RowKit
attribute [local irreducible] tv dg cmpI

theorem cell_new (w : World) (v : Value) (t : TypeId) : (w.alloc (.cells #[v] t)).cell? ⟨w.heap.size, 0, none⟩ = some v := by
  rw [cell_of_row _ _ 0 _ _ _ (heap_alloc_new w _)]; rfl
/-- What Sub's rounds keep. -/
structure SubS (A B S : List Nat) (i c : Nat) : Prop where
  len : S.length = i
  lt : ∀ d ∈ S, d < 10000
  car : c ≤ 1
  eq : tv (A.take i) + 10000 ^ i * c = tv S + tv (B.take i)
theorem SubS.step {A B S : List Nat} {i c d c' : Nat} (h : SubS A B S i c) (hd : d < 10000) (hc : c' ≤ 1) (he : d + dg B i + c = dg A i + 10000 * c') : SubS A B (S ++ [d]) (i + 1) c' := by
  refine ⟨by rw [List.length_append, h.len]; rfl, fun x hx => ?_, hc, ?_⟩
  · rcases List.mem_append.1 hx with hx | hx
    · exact h.lt x hx
    · rw [List.mem_singleton.1 hx]; exact hd
  · rw [tv_snoc, h.len, tv_take, tv_take, Nat.pow_succ]
    have h4 := h.eq
    have h6 : 10000 ^ i * d + 10000 ^ i * dg B i + 10000 ^ i * c = 10000 ^ i * dg A i + 10000 ^ i * 10000 * c' := by
      rw [Nat.mul_assoc, ← Nat.mul_add, ← Nat.mul_add, ← Nat.mul_add, he]
    generalize 10000 ^ i * d = p1 at *
    generalize 10000 ^ i * dg B i = p2 at *
    generalize 10000 ^ i * c = p3 at *
    generalize 10000 ^ i * dg A i = p4 at *
    generalize 10000 ^ i * 10000 * c' = p5 at *
    omega
theorem SubS.done {A B S : List Nat} {c : Nat} (h : SubS A B S A.length c) (hB : B.length ≤ A.length) (hle : tv B ≤ tv A) : tv S = tv A - tv B := by
  have e := h.eq
  rw [List.take_of_length_le (Nat.le_refl _), List.take_of_length_le hB] at e
  have h1 := tv_lt h.lt
  rw [h.len] at h1
  have hc := h.car
  rcases Nat.eq_zero_or_pos c with h0 | h0
  · rw [h0, Nat.mul_zero] at e; omega
  · rw [show c = 1 by omega, Nat.mul_one] at e; omega

set_option maxHeartbeats 4000000 in
set_option maxRecDepth 100000 in
theorem rsub_l (va vb : Value) (A B : List Nat) (hA : ∀ d ∈ A, d < 10000) (hB : ∀ d ∈ B, d < 10000) (lA : A.length ≤ 1000000) (lB : B.length ≤ A.length) (hle : tv B ≤ tv A) (w : World) (ha : Sl w va A) (hb : Sl w vb B) :
    Calls Tryz.prog 56 #[va, vb] w fun e w' => ∃ v, e = .returned v ∧ Sl w' v (td (tv A - tv B)) ∧ Below w.heap.size w w' := by
  obtain ⟨i0, hi, hz0, hz1, hz2⟩ := info_parts Tryz.infoI
  obtain ⟨aa, ca, ea, hva⟩ := ha.view
  obtain ⟨ab, cb, eb⟩ := hb.form
  subst ea eb
  obtain ⟨n, hn⟩ : ∃ n, n = A.length := ⟨_, rfl⟩
  obtain ⟨m, hm⟩ : ∃ m, m = B.length := ⟨_, rfl⟩
  have hfin := fun (S : List Nat) c (h : SubS A B S A.length c) => h.done lB hle
  rw [← hn] at lA hva hfin lB ⊢
  rw [← hm] at lB hb ⊢
  replace hn := Lib.hid hn
  replace hm := Lib.hid hm
  replace hA := Lib.hid hA
  replace hB := Lib.hid hB
  replace hb := Lib.hid hb
  replace hva := Lib.hid hva
  replace hfin := Lib.hid hfin
  clear ha hle
  go_enter Tryz.func56, Tryz.ntmps56
  go_wp2_with fail
  go_loopw [5, 6, 7] (fun v u j wr => ∃ (i c : Nat) (S : List Nat), u = .int .i64 (c : Int) ∧ j = .int .i64 (i : Int) ∧ SubS A B S i c ∧ i ≤ n ∧ wr.ownsRow w.heap.size 3 1 v i (S.map iv) ∧ Below w.heap.size w wr) (fun _ _ j _ => n - (intOf j).toNat)
  case atStart => exact ⟨0, 0, [], rfl, rfl, ⟨rfl, (fun d hd => by cases hd), Nat.zero_le _, (by rw [List.take_zero, List.take_zero, tv_nil])⟩, Nat.zero_le _, World.ownsRow_nil _ _ _ _, Below.refl _ _⟩
  case round =>
    obtain ⟨i, c, S, rfl, rfl, hS, hi2, hown, hbl⟩ := hrel
    rcases Nat.lt_or_ge i n with hin | hin
    · have k1 : (i : Int) < (n : Int) := by omega
      have hib : (i : Int) ≤ 1000000 := by omega
      obtain ⟨aA, rfl, -, sA⟩ := hva.out (by omega)
      have iA : i < A.length := by have := hn.out; omega
      have hcell := (sA.below hbl).cell i iA
      rw [← dg_in iA] at hcell
      have hx := dg_lt hA.out i
      have hy := dg_lt hB.out i
      have hc1 := hS.car
      have HB : ∀ wx, Below w.heap.size w wx → Calls Tryz.prog 98 #[.slice ab m cb, .int .i64 (i : Int)] wx fun e w' => e = .returned (.int .i64 ((dg B i : Nat) : Int)) ∧ w' = wx :=
        fun wx hh => (at_any _ B i (by omega) (by rw [← hm.out]; omega) wx (hb.out.below hh)).mono fun _ _ h => ⟨h.1, h.2.symm⟩
      have hstep := fun (d c' : Nat) h1 h2 h3 => hS.step (d := d) (c' := c') h1 h2 h3
      clear sA hS
      generalize dg A i = x at *
      generalize dg B i = y at *
      replace HB := Lib.hid HB
      replace hstep := Lib.hid hstep
      by_cases hneg : (x : Int) - (y : Int) - (c : Int) < 0
      · have hst := Lib.hid (hstep.out (x + 10000 - y - c) 1 (by omega) (by omega) (by omega))
        go_wp2_with fail
        go_quiet ((go_at_call 98; exact Calls.quiet_of_same (HB.out _ (ibdrew hbl _))))
        have hown2 : (wr.drewN nq).ownsRow w.heap.size 3 1 u5 i (S.map iv) := hown
        go_wp2_with (at_builtin; refine wpList_append_own _ rfl _ _ 42 rfl w.heap.size 3 i0 (.int .i64 0) 1 8 Tryz.underlying42 hi hz0 hz1 hz2 rfl (by decide) _ _ _ rfl (hown2.alloc _) ⟨wr.heap.size, 0, none⟩ 1 1 [.int .i64 ((x : Int) - (y : Int) - (c : Int) + 10000)] rfl rfl ?c1 ?c2 ?c3 ?c4 ?c5 ?_)
        case c1 =>
          intro j u hj
          match j, hj with
          | 0, hj => simp at hj; subst hj; rw [add0]; exact cell_new (wr.drewN nq) _ _
        case c2 => intro u hu; simp at hu; subst hu; rfl
        case c3 => unfold maxLen; omega
        case c4 => omega
        case c5 => have := hbl.size; first | (simp; omega) | (simp; exact this) | (show w.heap.size ≤ _; simp; show w.heap.size ≤ wr.heap.size + 1; omega)
        intro v' w1 hown' hgrow _
        have hn' := Lib.hid (own_snoc (d := x + 10000 - y - c) (by omega) hown')
        have hb' := Lib.hid (below_app (ibdrew hbl nq) hbl.size hown2 hgrow)
        clear hown' hgrow hown hown2 hbl
        go_wp2_with fail
        go_roundw
        case rel => exact ⟨i + 1, 1, _, by first | rfl | go_num, by first | rfl | go_num, hst.out, by omega, hn'.out, hb'.out⟩
        case measure => simp [intOf]; omega
      · have hst := Lib.hid (hstep.out (x - y - c) 0 (by omega) (by omega) (by omega))
        go_wp2_with fail
        go_quiet ((go_at_call 98; exact Calls.quiet_of_same (HB.out _ (ibdrew hbl _))))
        have hown2 : (wr.drewN nq).ownsRow w.heap.size 3 1 u5 i (S.map iv) := hown
        go_wp2_with (at_builtin; refine wpList_append_own _ rfl _ _ 42 rfl w.heap.size 3 i0 (.int .i64 0) 1 8 Tryz.underlying42 hi hz0 hz1 hz2 rfl (by decide) _ _ _ rfl (hown2.alloc _) ⟨wr.heap.size, 0, none⟩ 1 1 [.int .i64 ((x : Int) - (y : Int) - (c : Int))] rfl rfl ?d1 ?d2 ?d3 ?d4 ?d5 ?_)
        case d1 =>
          intro j u hj
          match j, hj with
          | 0, hj => simp at hj; subst hj; rw [add0]; exact cell_new (wr.drewN nq) _ _
        case d2 => intro u hu; simp at hu; subst hu; rfl
        case d3 => unfold maxLen; omega
        case d4 => omega
        case d5 => have := hbl.size; first | (simp; omega) | (simp; exact this) | (show w.heap.size ≤ _; simp; show w.heap.size ≤ wr.heap.size + 1; omega)
        intro v' w1 hown' hgrow _
        have hn' := Lib.hid (own_snoc (d := x - y - c) (by omega) hown')
        have hb' := Lib.hid (below_app (ibdrew hbl nq) hbl.size hown2 hgrow)
        clear hown' hgrow hown hown2 hbl
        go_wp2_with fail
        go_roundw
        case rel => exact ⟨i + 1, 0, _, by first | rfl | go_num, by first | rfl | go_num, hst.out, by omega, hn'.out, hb'.out⟩
        case measure => simp [intOf]; omega
    · have k1 : ¬ (i : Int) < (n : Int) := by omega
      obtain rfl : i = n := by omega
      have hT := hfin.out S c hS
      have HT := trim_any u5 S hS.lt (by rw [hS.len]; omega) wr (Sl.owned hown hS.len.symm)
      rw [hT] at HT
      replace HT := Lib.hid HT
      clear hT hS hown
      go_wp2_with fail
      with_reducible refine Calls.mono HT.out ?_
      rintro e w1 ⟨v', rfl, hv, rfl⟩
      replace hv := Lib.hid hv
      go_wp2_with fail
      go_ret
      exact ⟨_, rfl, hv.out, hbl⟩
theorem rsub_any (va vb : Value) (a b : Nat) (la : (td a).length ≤ 1000000) (hle : b ≤ a) (w : World) (ha : Rn w va a) (hb : Rn w vb b) :
    Calls Tryz.prog 56 #[va, vb] w fun e w' => ∃ v, e = .returned v ∧ Rn w' v (a - b) ∧ Below w.heap.size w w' := by
  have := rsub_l va vb _ _ (td_lt a) (td_lt b) la (td_mono hle) (by rw [tv_td, tv_td]; exact hle) w ha hb
  rwa [tv_td, tv_td] at this
end Go.Proofs.YthehcjfmokabfaaGreatDoor.Rx

/-
  The reference of layer 1, walks H: Text.
-/
namespace Go.Proofs.YthehcjfmokabfaaGreatDoor.Rx
open Go.RowKit
open Go.Lib (decDigits)
attribute [local irreducible] tv dg cmpI

theorem pad_cons : ∀ (k r : Nat), pad (k + 1) r = dch (r / 10 ^ k % 10) :: pad k r
  | 0, r => by rw [pad, pad, Nat.pow_zero, Nat.div_one]; rfl
  | k + 1, r => by
    rw [pad, pad_cons k (r / 10), pad, List.cons_append, Nat.div_div_eq_div_mul, Nat.pow_succ, Nat.mul_comm 10]
theorem enc_dig (q : Nat) : Utf8.encode (48 + (q : Int) % 10) = ⟨#[dch (q % 10)]⟩ := by
  have h1 : Utf8.valid (48 + (q : Int) % 10) = true := by unfold Utf8.valid; simp; omega
  have h2 : (48 + (q : Int) % 10).toNat = 48 + q % 10 := by omega
  unfold Utf8.encode dch
  simp only [h1, if_true, h2]
  rw [if_pos (by omega)]
theorem ba_cons (c : UInt8) (S : List UInt8) : (⟨#[c]⟩ : ByteArray) ++ ⟨S.toArray⟩ = ⟨(c :: S).toArray⟩ := by
  apply ByteArray.ext
  simp [ByteArray.data_append]
theorem pad_dec {k r : Nat} (h1 : r < 10 ^ k) (h2 : k = 0 ∨ 0 < r / 10 ^ (k - 1)) (hr : 0 < r) : pad k r = decDigits r := by
  have hk : 0 < k := by rcases Nat.eq_zero_or_pos k with h | h; · rw [h, Nat.pow_zero] at h1; omega
                        · exact h
  obtain ⟨e1, e2⟩ := pad_eq k r hk h1
  have h3 : 0 < r / 10 ^ (k - 1) := by rcases h2 with h | h; · omega
                                       · exact h
  have h4 : (decDigits r).length = k := by
    refine Nat.le_antisymm e2 (Nat.le_of_not_lt fun hlt => ?_)
    have h5 : 10 ^ (k - 1) ≤ r := by
      rcases Nat.lt_or_ge r (10 ^ (k - 1)) with h | h
      · rw [Nat.div_eq_of_lt h] at h3; omega
      · exact h
    rcases Nat.eq_zero_or_pos (k - 1) with h0 | h0
    · have := dec_length_pos r; omega
    · have := (dec_length_lt h0).1 (show (decDigits r).length ≤ k - 1 by omega); omega
  rw [e1, h4, Nat.sub_self, List.replicate_zero, List.nil_append]

theorem dec_td {n K : Nat} (hl : (td n).length ≤ K) (hK : 0 < K) : (decDigits n).length ≤ 4 * K := by
  refine (dec_length_lt (by omega)).2 ?_
  have := td_length.1 hl
  rwa [show (10000 : Nat) = 10 ^ 4 by rfl, ← Nat.pow_mul] at this
/-- What Text has written behind digit i. -/
def TS (n i : Nat) (T : List UInt8) : Prop := (i < (td n).length ∧ decDigits n = decDigits (n / 10000 ^ i) ++ T) ∨ (i = (td n).length ∧ T = decDigits n)
theorem TS.start {n : Nat} (h : 0 < (td n).length) : TS n 0 [] := .inl ⟨h, by simp⟩
theorem TS.step {n i : Nat} {T : List UInt8} (h : TS n i T) (hl : i < (td n).length) (hi : i + 1 < (td n).length) : TS n (i + 1) (pad 4 ((td n)[i]'hl) ++ T) := by
  rcases h with ⟨h1, h2⟩ | ⟨h1, h2⟩
  · refine .inl ⟨hi, ?_⟩
    have hd := (td_step h1).2
    have hq := (td_step hi).1
    have e : n / 10000 ^ i = n / 10000 ^ (i + 1) * 10 ^ 4 + (td n)[i] := by
      rw [hd, Nat.pow_succ, ← Nat.div_div_eq_div_mul]
      show _ = _ * 10000 + _
      omega
    have hlt : (td n)[i] < 10 ^ 4 := td_lt n _ (List.getElem_mem _)
    have := dec_mul_add 4 (n / 10000 ^ (i + 1)) ((td n)[i]) (by omega) hlt
    rw [h2, e, this, List.append_assoc]
  · omega
theorem TS.last {n i : Nat} {T : List UInt8} (h : TS n i T) (hl : i < (td n).length) (hi : i + 1 = (td n).length) : 0 < (td n)[i]'hl ∧ TS n (i + 1) (decDigits ((td n)[i]'hl) ++ T) := by
  rcases h with ⟨h1, h2⟩ | ⟨h1, h2⟩
  · have hd := td_step h1
    have h0 : n / 10000 ^ (i + 1) = 0 := td_end (by omega)
    have e : n / 10000 ^ i = (td n)[i] := by
      rw [hd.2]
      rw [Nat.pow_succ, ← Nat.div_div_eq_div_mul] at h0
      omega
    refine ⟨by rw [← e]; omega, .inr ⟨hi, ?_⟩⟩
    rw [h2, e]
  · omega
theorem TS.len {n i : Nat} {T : List UInt8} (h : TS n i T) : T.length ≤ (decDigits n).length := by
  rcases h with ⟨h1, h2⟩ | ⟨h1, h2⟩
  · rw [h2, List.length_append]; omega
  · rw [h2]; exact Nat.le_refl _

set_option maxHeartbeats 4000000 in
set_option maxRecDepth 100000 in
theorem rtext_any (v : Value) (n : Nat) (hl : (td n).length ≤ 1000000) (w : World) (hv : Rn w v n) :
    Calls Tryz.prog 36 #[v] w fun e w' => e = .returned (.string (txt n)) ∧ Below w.heap.size w w' := by
  obtain ⟨aa, ca, ea, hva⟩ := hv.view
  subst ea
  have hdl := dec_td hl (by omega)
  obtain ⟨L, hL⟩ : ∃ L, L = (td n).length := ⟨_, rfl⟩
  rw [← hL] at hl hva ⊢
  replace hva := Lib.hid hva
  replace hdl := Lib.hid hdl
  clear hv
  rcases Nat.eq_zero_or_pos L with h0 | h0
  · have hz : n = 0 := td_nil.1 (List.eq_nil_of_length_eq_zero (by rw [← hL]; exact h0))
    have ht : txt n = ⟨#[48]⟩ := by
      unfold txt
      rw [hz, dec_small (by omega)]; rfl
    replace ht := Lib.hid ht
    subst h0
    clear hL hz
    go_enter Tryz.func36, Tryz.ntmps36
    go_wp2_with fail
    go_ret
    exact ⟨by rw [ht.out]; rfl, Below.refl _ _⟩
  · obtain ⟨aA, rfl, -, sA⟩ := hva.out h0
    have hTS := Lib.hid (TS.start (n := n) (by rw [← hL]; exact h0))
    have k1 : ((L : Int) == 0) = false := beq_eq_false_iff_ne.2 (by omega)
    have k1' : (L == 0) = false := beq_eq_false_iff_ne.2 (by omega)
    replace hL := Lib.hid hL
    replace sA := Lib.hid sA
    go_enter Tryz.func36, Tryz.ntmps36
    go_wp2_with fail
    go_loopw [3, 4] (fun s j wr => ∃ (i : Nat) (T : List UInt8), s = .string ⟨T.toArray⟩ ∧ j = .int .i64 (i : Int) ∧ i ≤ L ∧ TS n i T ∧ wr = w) (fun _ j _ => L - (intOf j).toNat)
    case atStart => exact ⟨0, [], rfl, rfl, Nat.zero_le _, hTS.out, rfl⟩
    case round =>
      obtain ⟨i, T, rfl, rfl, hi, hT, rfl⟩ := hrel
      rcases Nat.lt_or_ge i L with hin | hin
      · have k2 : (i : Int) < (L : Int) := by omega
        have hib : (i : Int) ≤ 1000000 := by omega
        have iA : i < (td n).length := by have := hL.out; omega
        have hcell := sA.out.cell i iA
        have hTl := hT.len
        have hdl' := hdl.out
        have hst := hT.step iA
        have hla := hT.last iA
        have hD := td_lt n _ (List.getElem_mem iA)
        clear hT
        obtain ⟨D, hDe⟩ : ∃ D, D = (td n)[i] := ⟨_, rfl⟩
        rw [← hDe] at hcell hD hst hla
        replace hst := Lib.hid hst
        replace hla := Lib.hid hla
        replace hDe := Lib.hid hDe
        go_wp2_with fail
        go_loopw [3, 5, 6] (fun s d j wx => ∃ (k : Nat), s = .string ⟨(pad k D ++ T).toArray⟩ ∧ d = .int .i64 ((D / 10 ^ k : Nat) : Int) ∧ j = .int .i64 (k : Int) ∧ k ≤ 4 ∧ (i + 1 = L → k = 0 ∨ 0 < D / 10 ^ (k - 1)) ∧ wx = wr) (fun _ _ j _ => 4 - (intOf j).toNat)
        case atStart => exact ⟨0, by rw [pad]; rfl, by rw [Nat.pow_zero, Nat.div_one], rfl, Nat.zero_le _, fun _ => .inl rfl, rfl⟩
        case round =>
          obtain ⟨k, rfl, rfl, rfl, hk, hlast, rfl⟩ := hrel
          have hTk : (pad k D ++ T).length ≤ 4000004 := by rw [List.length_append, pad_length]; omega
          have hnext : (pad (k + 1) D ++ T) = dch (D / 10 ^ k % 10) :: (pad k D ++ T) := by rw [pad_cons, List.cons_append]
          have hq : D / 10 ^ (k + 1) = D / 10 ^ k / 10 := by rw [Nat.pow_succ, ← Nat.div_div_eq_div_mul]
          obtain ⟨q, hqe⟩ : ∃ q, q = D / 10 ^ k := ⟨_, rfl⟩
          have hqD : q ≤ D := by rw [hqe]; exact Nat.div_le_self _ _
          rw [← hqe] at hnext hq ⊢
          generalize hSe : pad k D ++ T = S at *
          replace hSe := Lib.hid hSe
          replace hnext := Lib.hid hnext
          replace hq := Lib.hid hq
          replace hqe := Lib.hid hqe
          replace hlast := Lib.hid hlast
          have hcase : (k < 4 ∧ i + 1 < L) ∨ (k < 4 ∧ ¬ (i + 1 < L) ∧ 0 < q) ∨ (k < 4 ∧ ¬ (i + 1 < L) ∧ q = 0) ∨ k = 4 := by omega
          have henc := enc_dig q
          obtain ⟨ch, hch⟩ : ∃ ch, ch = dch (q % 10) := ⟨_, rfl⟩
          rw [← hch] at henc hnext
          replace hch := Lib.hid hch
          have hqB : (q : Int) ≤ 10000 := by omega
          have hsz : (⟨S.toArray⟩ : ByteArray).size = S.length := rfl
          rcases hcase with ⟨c1, c2⟩ | ⟨c1, c2, c3⟩ | ⟨c1, c2, c3⟩ | c1
          · have d1 : (k : Int) < 4 := by omega
            have d2 : (i : Int) + 1 < (L : Int) := by omega
            go_wp2_with fail
            go_roundw
            case rel => exact ⟨k + 1, (by rw [ba_cons, hnext.out]), (by rw [hq.out]; first | rfl | go_num), by first | rfl | go_num, by omega, (fun h => by omega), trivial⟩
            case measure => simp [intOf]; omega
          · have d1 : (k : Int) < 4 := by omega
            have d2 : ¬ (i : Int) + 1 < (L : Int) := by omega
            have d3 : (0 : Int) < (q : Int) := by omega
            go_wp2_with fail
            go_roundw
            case rel => exact ⟨k + 1, (by rw [ba_cons, hnext.out]), (by rw [hq.out]; first | rfl | go_num), by first | rfl | go_num, by omega, (fun h => .inr (by rw [Nat.add_sub_cancel, ← hqe.out]; omega)), trivial⟩
            case measure => simp [intOf]; omega
          · have hdone : TS n (i + 1) S := by
              have hl1 := hla.out (by have := hL.out; omega)
              have hp : pad k D = decDigits D := pad_dec (by have h1 := hqe.out; rw [c3] at h1; rcases Nat.lt_or_ge D (10 ^ k) with h | h; · exact h
                                                             · have := (Nat.le_div_iff_mul_le (Nat.pow_pos (n := k) (show 0 < 10 by omega))).2 (show 1 * 10 ^ k ≤ D by omega); omega) (hlast.out (by omega)) hl1.1
              rw [← hSe.out, hp]
              exact hl1.2
            replace hdone := Lib.hid hdone
            subst c3
            have d1 : (k : Int) < 4 := by omega
            have d2 : ¬ (i : Int) + 1 < (L : Int) := by omega
            go_wp2_with fail
            go_roundw
            case rel => exact ⟨i + 1, S, rfl, by first | rfl | go_num, by omega, hdone.out, by trivial⟩
            case measure => simp [intOf]; omega
          · have hdone : TS n (i + 1) S := by
              subst c1
              by_cases h : i + 1 < L
              · rw [← hSe.out]; exact hst.out (by have := hL.out; omega)
              · have hl1 := hla.out (by have := hL.out; omega)
                have hp : pad 4 D = decDigits D := pad_dec hD (hlast.out (by omega)) hl1.1
                rw [← hSe.out, hp]
                exact hl1.2
            replace hdone := Lib.hid hdone
            subst c1
            go_wp2_with fail
            go_roundw
            case rel => exact ⟨i + 1, S, rfl, by first | rfl | go_num, by omega, hdone.out, by trivial⟩
            case measure => simp [intOf]; omega
      · have k2 : ¬ (i : Int) < (L : Int) := by omega
        have hTe : T = decDigits n := by
          rcases hT with ⟨h1, h2⟩ | ⟨h1, h2⟩
          · have := hL.out; omega
          · exact h2
        have ht : txt n = ⟨T.toArray⟩ := by rw [hTe]; rfl
        replace ht := Lib.hid ht
        clear hT hTe
        go_wp2_with fail
        go_ret
        exact ⟨by rw [ht.out]; rfl, Below.refl _ _⟩
end Go.Proofs.YthehcjfmokabfaaGreatDoor.Rx

/-
  The reference of layer 1 in the laws: same.
-/
namespace Go.Proofs.YthehcjfmokabfaaGreatDoor.Rx
open Go.RowKit
attribute [local irreducible] lo hs tv dg cmpI txt decB

theorem box_alloc (w : World) (n : Nat) : NX (w.alloc (.cells #[.int .u64 ((lo n : Nat) : Int), .string (hs n)] 32)) w.heap.size n := by
  obtain ⟨w1, h1, h2, h3, h4⟩ := boxes1 w (.int .u64 ((lo n : Nat) : Int)) (.string (hs n)) 32
  rw [h1]; exact ⟨h2, h4⟩

set_option maxHeartbeats 2000000 in
set_option maxRecDepth 100000 in
theorem same_any (n : Nat) (v : Value) (hd : (digs n).length ≤ 1000000) (ht : (td n).length ≤ 1000000) (w : World) (htab : Tab w) (hv : Rn w v n) :
    Calls Tryz.prog 52 #[natV n, v] w fun e w' => e = .returned (.bool true) ∧ Below w.heap.size w w' := by
  obtain ⟨w0, hw0, hA, hb0, hsz⟩ := boxes1 w (.int .u64 ((lo n : Nat) : Int)) (.string (hs n)) 32
  obtain ⟨a0, a1, af⟩ := id hA
  have T1 := Lib.hid (fun (wx : World) (hh : Below w.heap.size w wx) => text_any n hd wx (htab.below hh))
  have T2 := Lib.hid (fun (wx : World) (hh : Below w.heap.size w wx) => rtext_any v n ht wx (hv.below hh))
  clear hv htab hA
  go_enter Tryz.func52, Tryz.ntmps52
  go_wp2_with fail
  with_reducible refine Calls.mono (T1.out _ hb0) ?_
  rintro e w1 ⟨rfl, hb1⟩
  have hb01 := hb0.trans (hb1.mono hb0.size)
  go_wp2_with fail
  with_reducible refine Calls.mono (T2.out _ hb01) ?_
  rintro e w2 ⟨rfl, hb2⟩
  have hb02 := hb01.trans (hb2.mono hb01.size)
  clear hb1 hb2 hb01
  go_wp2_with fail
  go_ret
  exact ⟨rfl, hb02⟩
end Go.Proofs.YthehcjfmokabfaaGreatDoor.Rx

/-
  Layer 1, law G: NatsSums.
-/
namespace Go.Proofs.YthehcjfmokabfaaGreatDoor
open Go.RowKit
attribute [local irreducible] lo hs sm s64 c64 d64 b64 mh ml pd pc qd qc val hiB str cmpI srD lz nb isq decB txt

set_option maxHeartbeats 4000000 in
set_option maxRecDepth 100000 in
theorem sums_big (ax ay : Option Addr) (cx cy nx ny : Nat) (h : 24 < nx ∨ 24 < ny) (w : World) (htab : Tab w) :
    Calls Tryz.prog 7 #[.slice ax nx cx, .slice ay ny cy] w fun e w' => e = .returned (.bool true) ∧ Below w.heap.size w w' := by
  have HW := Lib.hid (works_any w htab)
  have key : (decide ((24 : Int) < (nx : Int)) = true) ∨ (decide ((24 : Int) < (nx : Int)) = false ∧ decide ((24 : Int) < (ny : Int)) = true) := by
    by_cases h0 : 24 < nx
    · exact .inl (decide_eq_true (by omega))
    · exact .inr (⟨decide_eq_false (by omega), decide_eq_true (by omega)⟩)
  clear h
  rcases key with k0 | ⟨k0, k1⟩
  all_goals (
    go_enter Tryz.func7, Tryz.ntmps7
    go_wp2_with fail
    with_reducible refine Calls.mono HW.out ?_
    rintro e w1 ⟨rfl, hb⟩
    go_wp2_with fail
    exact bodyPost_ret (v := .bool true) (by simp [results, Tryz.results7, go_sem]) rfl ⟨rfl, hb⟩)

set_option maxHeartbeats 16000000 in
set_option maxRecDepth 100000 in
theorem sums_small (vx vy : Value) (lx ly : List Nat) (w : World) (htab : Tab w) (hx : Ws w vx lx) (hy : Ws w vy ly) (nx : lx.length ≤ 24) (ny : ly.length ≤ 24) :
    Calls Tryz.prog 7 #[vx, vy] w fun e w' => e = .returned (.bool true) ∧ Below w.heap.size w w' := by
  have MX := fun w h => made_any vx lx (by omega) w h
  have MY := fun w h => made_any vy ly (by omega) w h
  obtain ⟨ax, cx, ex⟩ := hx.form
  obtain ⟨ay, cy, ey⟩ := hy.form
  have dx := Nat.le_trans (made_digs hx.lt) nx
  have dy := Nat.le_trans (made_digs hy.lt) ny
  have tx := Nat.le_trans (Rx.td_made hx.lt) (Nat.mul_le_mul_left 3 nx)
  have RX := fun w h => Rx.rofw_any vx lx (by omega) w h
  have ty := Nat.le_trans (Rx.td_made hy.lt) (Nat.mul_le_mul_left 3 ny)
  have RY := fun w h => Rx.rofw_any vy ly (by omega) w h
  subst ex ey
  have kx : decide ((24 : Int) < (lx.length : Int)) = false := decide_eq_false (by omega)
  have ky : decide ((24 : Int) < (ly.length : Int)) = false := decide_eq_false (by omega)
  generalize made lx = a at *
  generalize made ly = b at *
  replace hx := Lib.hid hx
  replace MX := Lib.hid MX
  replace hy := Lib.hid hy
  replace MY := Lib.hid MY
  replace RX := Lib.hid RX
  replace RY := Lib.hid RY
  generalize lx.length = Nx at *
  generalize ly.length = Ny at *
  have ds : (digs (a + b)).length ≤ 25 := digs_add_le dx dy
  have ts : (Rx.td (a + b)).length ≤ 73 := Rx.td_add_le tx ty
  have Aab := fun w => add_any a b (by omega) (by omega) w
  have Rab := fun va vb w ha hb => Rx.radd_any va vb a b (by omega) (by omega) w ha hb
  have Rc := fun va vb w ha hb => Rx.rcmp_any va vb a b (by omega) (by omega) w ha hb
  have Cab := fun w => cmp_any a b w
  have SMa := fun v w ht hv => Rx.same_any a v (by omega) (by omega) w ht hv
  have SMs := fun v w ht hv => Rx.same_any (a + b) v (by omega) (by omega) w ht hv
  generalize a + b = s at *
  replace Aab := Lib.hid Aab
  replace SMa := Lib.hid SMa
  replace SMs := Lib.hid SMs
  replace Rab := Lib.hid Rab
  clear ds ts
  have hL0 : NL w w [] := NL.start w
  rcases Nat.lt_trichotomy a b with hlt | hlt | hlt
  · have hcm := cmpI_lt hlt
    have Sab := fun w => sub_lt a b hlt w
    have hne : a ≠ b := by omega
    rw [hcm] at Cab Rc
    replace Cab := Lib.hid Cab
    replace Rc := Lib.hid Rc
    replace Sab := Lib.hid Sab
    clear hcm hlt
    have hnn := natV_ne hne
    clear hne
    replace hnn := Lib.hid hnn
    go_enter Tryz.func7, Tryz.ntmps7
    go_wp2_with fail
    with_reducible refine Calls.mono (MX.out _ hx.out) ?_
    rintro e x1 ⟨rfl, hb⟩
    replace hL0 := hL0.call hb
    clear hb MX
    go_wp2_with fail
    with_reducible refine Calls.mono (MY.out _ (hy.out.below hL0.bl)) ?_
    rintro e x2 ⟨rfl, hb⟩
    replace hL0 := hL0.call hb
    clear hb MY
    replace hL0 := ((hL0.new rfl a 32).new (szA _ _) b 32)
    generalize hweq : ((x2.alloc (.cells #[.int .u64 ((lo a : Nat) : Int), .string (hs a)] 32)).alloc (.cells #[.int .u64 ((lo b : Nat) : Int), .string (hs b)] 32)) = x3 at hL0
    go_wp2_with fail
    with_reducible refine Calls.mono (RX.out _ (hx.out.below hL0.bl)) ?_
    rintro e x4 ⟨v7, rfl, h7, hb⟩
    replace hL0 := hL0.call hb
    clear hb RX hweq
    replace h7 := Lib.hid h7
    go_wp2_with fail
    with_reducible refine Calls.mono (RY.out _ (hy.out.below hL0.bl)) ?_
    rintro e x5 ⟨v8, rfl, h8, hb⟩
    replace hL0 := hL0.call hb
    replace h7 := Lib.hid (h7.out.below hb)
    clear hb RY
    replace h8 := Lib.hid h8
    go_wp2_with fail
    with_reducible refine Calls.mono (Rc.out _ _ _ h7.out h8.out) ?_
    rintro e x6 ⟨rfl, hb⟩
    replace hL0 := hL0.call hb
    replace h7 := Lib.hid (h7.out.below hb)
    replace h8 := Lib.hid (h8.out.below hb)
    clear hb Rc
    obtain ⟨p1, r1⟩ := hL0.get (x2.heap.size) a (by (repeat (first | with_reducible exact List.mem_cons_self | with_reducible refine List.mem_cons_of_mem _ ?_)))
    obtain ⟨p2, r2⟩ := hL0.get (x2.heap.size + 1) b (by (repeat (first | with_reducible exact List.mem_cons_self | with_reducible refine List.mem_cons_of_mem _ ?_)))
    go_wp2_with fail
    with_reducible refine Calls.mono (Sab.out _) ?_
    rintro e x7 ⟨rfl, hb⟩
    replace hL0 := hL0.call hb
    replace h7 := Lib.hid (h7.out.below hb)
    replace h8 := Lib.hid (h8.out.below hb)
    clear hb Sab
    replace h7 := Lib.hid (h7.out.below (below1 _ (.cells #[.int .u64 ((lo 0 : Nat) : Int), .string (hs 0)] 32)))
    replace h8 := Lib.hid (h8.out.below (below1 _ (.cells #[.int .u64 ((lo 0 : Nat) : Int), .string (hs 0)] 32)))
    replace hL0 := (hL0.new rfl 0 32)
    generalize hweq : (x7.alloc (.cells #[.int .u64 ((lo 0 : Nat) : Int), .string (hs 0)] 32)) = x8 at hL0 h7 h8
    rcases hnn.out with hn1 | ⟨hn1, hn2⟩
    · skip
      obtain ⟨p3, r3⟩ := hL0.get (x2.heap.size) a (by (repeat (first | with_reducible exact List.mem_cons_self | with_reducible refine List.mem_cons_of_mem _ ?_)))
      obtain ⟨p4, r4⟩ := hL0.get (x2.heap.size + 1) b (by (repeat (first | with_reducible exact List.mem_cons_self | with_reducible refine List.mem_cons_of_mem _ ?_)))
      obtain ⟨p5, r5⟩ := hL0.get (x7.heap.size) 0 (by (repeat (first | with_reducible exact List.mem_cons_self | with_reducible refine List.mem_cons_of_mem _ ?_)))
      go_wp2_with fail
      with_reducible refine Calls.mono (SMa.out _ _ (htab.below hL0.bl) h7.out) ?_
      rintro e x9 ⟨rfl, hb⟩
      replace hL0 := hL0.call hb
      replace h7 := Lib.hid (h7.out.below hb)
      replace h8 := Lib.hid (h8.out.below hb)
      clear hb SMa hweq
      obtain ⟨p6, r6⟩ := hL0.get (x2.heap.size) a (by (repeat (first | with_reducible exact List.mem_cons_self | with_reducible refine List.mem_cons_of_mem _ ?_)))
      obtain ⟨p7, r7⟩ := hL0.get (x2.heap.size + 1) b (by (repeat (first | with_reducible exact List.mem_cons_self | with_reducible refine List.mem_cons_of_mem _ ?_)))
      obtain ⟨p8, r8⟩ := hL0.get (x7.heap.size) 0 (by (repeat (first | with_reducible exact List.mem_cons_self | with_reducible refine List.mem_cons_of_mem _ ?_)))
      go_wp2_with fail
      with_reducible refine Calls.mono (Aab.out _) ?_
      rintro e x10 ⟨rfl, hb⟩
      replace hL0 := hL0.call hb
      replace h7 := Lib.hid (h7.out.below hb)
      replace h8 := Lib.hid (h8.out.below hb)
      clear hb Aab
      obtain ⟨p9, r9⟩ := hL0.get (x2.heap.size) a (by (repeat (first | with_reducible exact List.mem_cons_self | with_reducible refine List.mem_cons_of_mem _ ?_)))
      obtain ⟨p10, r10⟩ := hL0.get (x2.heap.size + 1) b (by (repeat (first | with_reducible exact List.mem_cons_self | with_reducible refine List.mem_cons_of_mem _ ?_)))
      obtain ⟨p11, r11⟩ := hL0.get (x7.heap.size) 0 (by (repeat (first | with_reducible exact List.mem_cons_self | with_reducible refine List.mem_cons_of_mem _ ?_)))
      go_wp2_with fail
      with_reducible refine Calls.mono (Rab.out _ _ _ h7.out h8.out) ?_
      rintro e x11 ⟨v48, rfl, h48, hb⟩
      replace hL0 := hL0.call hb
      replace h7 := Lib.hid (h7.out.below hb)
      replace h8 := Lib.hid (h8.out.below hb)
      clear hb Rab
      replace h48 := Lib.hid h48
      obtain ⟨p12, r12⟩ := hL0.get (x2.heap.size) a (by (repeat (first | with_reducible exact List.mem_cons_self | with_reducible refine List.mem_cons_of_mem _ ?_)))
      obtain ⟨p13, r13⟩ := hL0.get (x2.heap.size + 1) b (by (repeat (first | with_reducible exact List.mem_cons_self | with_reducible refine List.mem_cons_of_mem _ ?_)))
      obtain ⟨p14, r14⟩ := hL0.get (x7.heap.size) 0 (by (repeat (first | with_reducible exact List.mem_cons_self | with_reducible refine List.mem_cons_of_mem _ ?_)))
      go_wp2_with fail
      with_reducible refine Calls.mono (SMs.out _ _ (htab.below hL0.bl) h48.out) ?_
      rintro e x12 ⟨rfl, hb⟩
      replace hL0 := hL0.call hb
      replace h7 := Lib.hid (h7.out.below hb)
      replace h8 := Lib.hid (h8.out.below hb)
      clear hb SMs
      clear h48
      obtain ⟨p15, r15⟩ := hL0.get (x2.heap.size) a (by (repeat (first | with_reducible exact List.mem_cons_self | with_reducible refine List.mem_cons_of_mem _ ?_)))
      obtain ⟨p16, r16⟩ := hL0.get (x2.heap.size + 1) b (by (repeat (first | with_reducible exact List.mem_cons_self | with_reducible refine List.mem_cons_of_mem _ ?_)))
      obtain ⟨p17, r17⟩ := hL0.get (x7.heap.size) 0 (by (repeat (first | with_reducible exact List.mem_cons_self | with_reducible refine List.mem_cons_of_mem _ ?_)))
      go_wp2_with fail
      with_reducible refine Calls.mono (Cab.out _) ?_
      rintro e x13 ⟨rfl, hb⟩
      replace hL0 := hL0.call hb
      replace h7 := Lib.hid (h7.out.below hb)
      replace h8 := Lib.hid (h8.out.below hb)
      clear hb Cab
      obtain ⟨p18, r18⟩ := hL0.get (x2.heap.size) a (by (repeat (first | with_reducible exact List.mem_cons_self | with_reducible refine List.mem_cons_of_mem _ ?_)))
      obtain ⟨p19, r19⟩ := hL0.get (x2.heap.size + 1) b (by (repeat (first | with_reducible exact List.mem_cons_self | with_reducible refine List.mem_cons_of_mem _ ?_)))
      obtain ⟨p20, r20⟩ := hL0.get (x7.heap.size) 0 (by (repeat (first | with_reducible exact List.mem_cons_self | with_reducible refine List.mem_cons_of_mem _ ?_)))
      have z1 : (((lo 0 : Nat) : Int) == 0) = true := by rw [lo_zero]; rfl
      have z2 : ((hs 0).toList == []) = true := by rw [hs_zero, ByteArray.toList_eq]; rfl
      go_upto_region 9 with fail
      have ht0 := htab.below hL0.bl
      have HW := Lib.hid (fun w h => works_any w h)
      obtain ⟨α, iα, F, hF1, hF2⟩ := cls x13
      obtain ⟨q21, s21⟩ := cls_get hF1 hL0 (x7.heap.size) 0 (by (repeat (first | with_reducible exact List.mem_cons_self | with_reducible refine List.mem_cons_of_mem _ ?_)))
      refine region_cls (F := F) (by kernel_rfl) (by kernel_rfl) (cls_drew hF2) ?_
      repeat (go_big_quiet_step (first
        | (go_at_call 16; with_reducible exact cls_callT hF1 hF2 ht0 HW.out _)))
      refine wpQuiet_nil ?_
      intro wq hwq
      obtain ⟨xq, rfl⟩ := hwq
      have hLq := hL0.call (hF1 xq)
      generalize F xq = x14 at hLq ⊢
      replace hL0 := hLq
      clear hLq hF1 hF2 q21 s21
      go_wp2_with fail
      exact bodyPost_ret (v := .bool true) (by simp [results, Tryz.results7, go_sem]) rfl ⟨rfl, hL0.bl⟩
    · skip
      obtain ⟨p22, r22⟩ := hL0.get (x2.heap.size) a (by (repeat (first | with_reducible exact List.mem_cons_self | with_reducible refine List.mem_cons_of_mem _ ?_)))
      obtain ⟨p23, r23⟩ := hL0.get (x2.heap.size + 1) b (by (repeat (first | with_reducible exact List.mem_cons_self | with_reducible refine List.mem_cons_of_mem _ ?_)))
      obtain ⟨p24, r24⟩ := hL0.get (x7.heap.size) 0 (by (repeat (first | with_reducible exact List.mem_cons_self | with_reducible refine List.mem_cons_of_mem _ ?_)))
      go_wp2_with fail
      with_reducible refine Calls.mono (SMa.out _ _ (htab.below hL0.bl) h7.out) ?_
      rintro e x15 ⟨rfl, hb⟩
      replace hL0 := hL0.call hb
      replace h7 := Lib.hid (h7.out.below hb)
      replace h8 := Lib.hid (h8.out.below hb)
      clear hb SMa hweq
      obtain ⟨p25, r25⟩ := hL0.get (x2.heap.size) a (by (repeat (first | with_reducible exact List.mem_cons_self | with_reducible refine List.mem_cons_of_mem _ ?_)))
      obtain ⟨p26, r26⟩ := hL0.get (x2.heap.size + 1) b (by (repeat (first | with_reducible exact List.mem_cons_self | with_reducible refine List.mem_cons_of_mem _ ?_)))
      obtain ⟨p27, r27⟩ := hL0.get (x7.heap.size) 0 (by (repeat (first | with_reducible exact List.mem_cons_self | with_reducible refine List.mem_cons_of_mem _ ?_)))
      go_wp2_with fail
      with_reducible refine Calls.mono (Aab.out _) ?_
      rintro e x16 ⟨rfl, hb⟩
      replace hL0 := hL0.call hb
      replace h7 := Lib.hid (h7.out.below hb)
      replace h8 := Lib.hid (h8.out.below hb)
      clear hb Aab
      obtain ⟨p28, r28⟩ := hL0.get (x2.heap.size) a (by (repeat (first | with_reducible exact List.mem_cons_self | with_reducible refine List.mem_cons_of_mem _ ?_)))
      obtain ⟨p29, r29⟩ := hL0.get (x2.heap.size + 1) b (by (repeat (first | with_reducible exact List.mem_cons_self | with_reducible refine List.mem_cons_of_mem _ ?_)))
      obtain ⟨p30, r30⟩ := hL0.get (x7.heap.size) 0 (by (repeat (first | with_reducible exact List.mem_cons_self | with_reducible refine List.mem_cons_of_mem _ ?_)))
      go_wp2_with fail
      with_reducible refine Calls.mono (Rab.out _ _ _ h7.out h8.out) ?_
      rintro e x17 ⟨v48, rfl, h48, hb⟩
      replace hL0 := hL0.call hb
      replace h7 := Lib.hid (h7.out.below hb)
      replace h8 := Lib.hid (h8.out.below hb)
      clear hb Rab
      replace h48 := Lib.hid h48
      obtain ⟨p31, r31⟩ := hL0.get (x2.heap.size) a (by (repeat (first | with_reducible exact List.mem_cons_self | with_reducible refine List.mem_cons_of_mem _ ?_)))
      obtain ⟨p32, r32⟩ := hL0.get (x2.heap.size + 1) b (by (repeat (first | with_reducible exact List.mem_cons_self | with_reducible refine List.mem_cons_of_mem _ ?_)))
      obtain ⟨p33, r33⟩ := hL0.get (x7.heap.size) 0 (by (repeat (first | with_reducible exact List.mem_cons_self | with_reducible refine List.mem_cons_of_mem _ ?_)))
      go_wp2_with fail
      with_reducible refine Calls.mono (SMs.out _ _ (htab.below hL0.bl) h48.out) ?_
      rintro e x18 ⟨rfl, hb⟩
      replace hL0 := hL0.call hb
      replace h7 := Lib.hid (h7.out.below hb)
      replace h8 := Lib.hid (h8.out.below hb)
      clear hb SMs
      clear h48
      obtain ⟨p34, r34⟩ := hL0.get (x2.heap.size) a (by (repeat (first | with_reducible exact List.mem_cons_self | with_reducible refine List.mem_cons_of_mem _ ?_)))
      obtain ⟨p35, r35⟩ := hL0.get (x2.heap.size + 1) b (by (repeat (first | with_reducible exact List.mem_cons_self | with_reducible refine List.mem_cons_of_mem _ ?_)))
      obtain ⟨p36, r36⟩ := hL0.get (x7.heap.size) 0 (by (repeat (first | with_reducible exact List.mem_cons_self | with_reducible refine List.mem_cons_of_mem _ ?_)))
      go_wp2_with fail
      with_reducible refine Calls.mono (Cab.out _) ?_
      rintro e x19 ⟨rfl, hb⟩
      replace hL0 := hL0.call hb
      replace h7 := Lib.hid (h7.out.below hb)
      replace h8 := Lib.hid (h8.out.below hb)
      clear hb Cab
      obtain ⟨p37, r37⟩ := hL0.get (x2.heap.size) a (by (repeat (first | with_reducible exact List.mem_cons_self | with_reducible refine List.mem_cons_of_mem _ ?_)))
      obtain ⟨p38, r38⟩ := hL0.get (x2.heap.size + 1) b (by (repeat (first | with_reducible exact List.mem_cons_self | with_reducible refine List.mem_cons_of_mem _ ?_)))
      obtain ⟨p39, r39⟩ := hL0.get (x7.heap.size) 0 (by (repeat (first | with_reducible exact List.mem_cons_self | with_reducible refine List.mem_cons_of_mem _ ?_)))
      have z1 : (((lo 0 : Nat) : Int) == 0) = true := by rw [lo_zero]; rfl
      have z2 : ((hs 0).toList == []) = true := by rw [hs_zero, ByteArray.toList_eq]; rfl
      go_upto_region 9 with fail
      have ht0 := htab.below hL0.bl
      have HW := Lib.hid (fun w h => works_any w h)
      obtain ⟨α, iα, F, hF1, hF2⟩ := cls x19
      obtain ⟨q40, s40⟩ := cls_get hF1 hL0 (x7.heap.size) 0 (by (repeat (first | with_reducible exact List.mem_cons_self | with_reducible refine List.mem_cons_of_mem _ ?_)))
      refine region_cls (F := F) (by kernel_rfl) (by kernel_rfl) (cls_drew hF2) ?_
      repeat (go_big_quiet_step (first
        | (go_at_call 16; with_reducible exact cls_callT hF1 hF2 ht0 HW.out _)))
      refine wpQuiet_nil ?_
      intro wq hwq
      obtain ⟨xq, rfl⟩ := hwq
      have hLq := hL0.call (hF1 xq)
      generalize F xq = x20 at hLq ⊢
      replace hL0 := hLq
      clear hLq hF1 hF2 q40 s40
      go_wp2_with fail
      exact bodyPost_ret (v := .bool true) (by simp [results, Tryz.results7, go_sem]) rfl ⟨rfl, hL0.bl⟩
  · subst hlt
    have hcm := cmpI_eq a
    have Sab := fun w => sub_ge a a (Nat.le_refl _) (by omega) w
    rw [Nat.sub_self] at Sab
    have RS := fun va vb w ha hb => Rx.rsub_any va vb a a (by omega) (Nat.le_refl _) w ha hb
    rw [Nat.sub_self] at RS
    have SMd := fun v w ht hv => Rx.same_any 0 v (by rw [digs_zero]; exact Nat.zero_le _) (by rw [Rx.td_zero]; exact Nat.zero_le _) w ht hv
    rw [hcm] at Cab Rc
    replace Cab := Lib.hid Cab
    replace Rc := Lib.hid Rc
    replace Sab := Lib.hid Sab
    replace RS := Lib.hid RS
    replace SMd := Lib.hid SMd
    clear hcm
    go_enter Tryz.func7, Tryz.ntmps7
    go_wp2_with fail
    with_reducible refine Calls.mono (MX.out _ hx.out) ?_
    rintro e x1 ⟨rfl, hb⟩
    replace hL0 := hL0.call hb
    clear hb MX
    go_wp2_with fail
    with_reducible refine Calls.mono (MY.out _ (hy.out.below hL0.bl)) ?_
    rintro e x2 ⟨rfl, hb⟩
    replace hL0 := hL0.call hb
    clear hb MY
    replace hL0 := ((hL0.new rfl a 32).new (szA _ _) a 32)
    generalize hweq : ((x2.alloc (.cells #[.int .u64 ((lo a : Nat) : Int), .string (hs a)] 32)).alloc (.cells #[.int .u64 ((lo a : Nat) : Int), .string (hs a)] 32)) = x3 at hL0
    go_wp2_with fail
    with_reducible refine Calls.mono (RX.out _ (hx.out.below hL0.bl)) ?_
    rintro e x4 ⟨v7, rfl, h7, hb⟩
    replace hL0 := hL0.call hb
    clear hb RX hweq
    replace h7 := Lib.hid h7
    go_wp2_with fail
    with_reducible refine Calls.mono (RY.out _ (hy.out.below hL0.bl)) ?_
    rintro e x5 ⟨v8, rfl, h8, hb⟩
    replace hL0 := hL0.call hb
    replace h7 := Lib.hid (h7.out.below hb)
    clear hb RY
    replace h8 := Lib.hid h8
    go_wp2_with fail
    with_reducible refine Calls.mono (Rc.out _ _ _ h7.out h8.out) ?_
    rintro e x6 ⟨rfl, hb⟩
    replace hL0 := hL0.call hb
    replace h7 := Lib.hid (h7.out.below hb)
    replace h8 := Lib.hid (h8.out.below hb)
    clear hb Rc
    obtain ⟨p41, r41⟩ := hL0.get (x2.heap.size) a (by (repeat (first | with_reducible exact List.mem_cons_self | with_reducible refine List.mem_cons_of_mem _ ?_)))
    obtain ⟨p42, r42⟩ := hL0.get (x2.heap.size + 1) a (by (repeat (first | with_reducible exact List.mem_cons_self | with_reducible refine List.mem_cons_of_mem _ ?_)))
    go_wp2_with fail
    with_reducible refine Calls.mono (Sab.out _) ?_
    rintro e x7 ⟨rfl, hb⟩
    replace hL0 := hL0.call hb
    replace h7 := Lib.hid (h7.out.below hb)
    replace h8 := Lib.hid (h8.out.below hb)
    clear hb Sab
    replace h7 := Lib.hid (h7.out.below (below1 _ (.cells #[.int .u64 ((lo 0 : Nat) : Int), .string (hs 0)] 32)))
    replace h8 := Lib.hid (h8.out.below (below1 _ (.cells #[.int .u64 ((lo 0 : Nat) : Int), .string (hs 0)] 32)))
    replace hL0 := (hL0.new rfl 0 32)
    generalize hweq : (x7.alloc (.cells #[.int .u64 ((lo 0 : Nat) : Int), .string (hs 0)] 32)) = x8 at hL0 h7 h8
    obtain ⟨p43, r43⟩ := hL0.get (x2.heap.size) a (by (repeat (first | with_reducible exact List.mem_cons_self | with_reducible refine List.mem_cons_of_mem _ ?_)))
    obtain ⟨p44, r44⟩ := hL0.get (x2.heap.size + 1) a (by (repeat (first | with_reducible exact List.mem_cons_self | with_reducible refine List.mem_cons_of_mem _ ?_)))
    obtain ⟨p45, r45⟩ := hL0.get (x7.heap.size) 0 (by (repeat (first | with_reducible exact List.mem_cons_self | with_reducible refine List.mem_cons_of_mem _ ?_)))
    go_wp2_with fail
    with_reducible refine Calls.mono (SMa.out _ _ (htab.below hL0.bl) h7.out) ?_
    rintro e x9 ⟨rfl, hb⟩
    replace hL0 := hL0.call hb
    replace h7 := Lib.hid (h7.out.below hb)
    replace h8 := Lib.hid (h8.out.below hb)
    clear hb SMa hweq
    obtain ⟨p46, r46⟩ := hL0.get (x2.heap.size) a (by (repeat (first | with_reducible exact List.mem_cons_self | with_reducible refine List.mem_cons_of_mem _ ?_)))
    obtain ⟨p47, r47⟩ := hL0.get (x2.heap.size + 1) a (by (repeat (first | with_reducible exact List.mem_cons_self | with_reducible refine List.mem_cons_of_mem _ ?_)))
    obtain ⟨p48, r48⟩ := hL0.get (x7.heap.size) 0 (by (repeat (first | with_reducible exact List.mem_cons_self | with_reducible refine List.mem_cons_of_mem _ ?_)))
    go_wp2_with fail
    with_reducible refine Calls.mono (Aab.out _) ?_
    rintro e x10 ⟨rfl, hb⟩
    replace hL0 := hL0.call hb
    replace h7 := Lib.hid (h7.out.below hb)
    replace h8 := Lib.hid (h8.out.below hb)
    clear hb Aab
    obtain ⟨p49, r49⟩ := hL0.get (x2.heap.size) a (by (repeat (first | with_reducible exact List.mem_cons_self | with_reducible refine List.mem_cons_of_mem _ ?_)))
    obtain ⟨p50, r50⟩ := hL0.get (x2.heap.size + 1) a (by (repeat (first | with_reducible exact List.mem_cons_self | with_reducible refine List.mem_cons_of_mem _ ?_)))
    obtain ⟨p51, r51⟩ := hL0.get (x7.heap.size) 0 (by (repeat (first | with_reducible exact List.mem_cons_self | with_reducible refine List.mem_cons_of_mem _ ?_)))
    go_wp2_with fail
    with_reducible refine Calls.mono (Rab.out _ _ _ h7.out h8.out) ?_
    rintro e x11 ⟨v48, rfl, h48, hb⟩
    replace hL0 := hL0.call hb
    replace h7 := Lib.hid (h7.out.below hb)
    replace h8 := Lib.hid (h8.out.below hb)
    clear hb Rab
    replace h48 := Lib.hid h48
    obtain ⟨p52, r52⟩ := hL0.get (x2.heap.size) a (by (repeat (first | with_reducible exact List.mem_cons_self | with_reducible refine List.mem_cons_of_mem _ ?_)))
    obtain ⟨p53, r53⟩ := hL0.get (x2.heap.size + 1) a (by (repeat (first | with_reducible exact List.mem_cons_self | with_reducible refine List.mem_cons_of_mem _ ?_)))
    obtain ⟨p54, r54⟩ := hL0.get (x7.heap.size) 0 (by (repeat (first | with_reducible exact List.mem_cons_self | with_reducible refine List.mem_cons_of_mem _ ?_)))
    go_wp2_with fail
    with_reducible refine Calls.mono (SMs.out _ _ (htab.below hL0.bl) h48.out) ?_
    rintro e x12 ⟨rfl, hb⟩
    replace hL0 := hL0.call hb
    replace h7 := Lib.hid (h7.out.below hb)
    replace h8 := Lib.hid (h8.out.below hb)
    clear hb SMs
    clear h48
    obtain ⟨p55, r55⟩ := hL0.get (x2.heap.size) a (by (repeat (first | with_reducible exact List.mem_cons_self | with_reducible refine List.mem_cons_of_mem _ ?_)))
    obtain ⟨p56, r56⟩ := hL0.get (x2.heap.size + 1) a (by (repeat (first | with_reducible exact List.mem_cons_self | with_reducible refine List.mem_cons_of_mem _ ?_)))
    obtain ⟨p57, r57⟩ := hL0.get (x7.heap.size) 0 (by (repeat (first | with_reducible exact List.mem_cons_self | with_reducible refine List.mem_cons_of_mem _ ?_)))
    go_wp2_with fail
    with_reducible refine Calls.mono (Cab.out _) ?_
    rintro e x13 ⟨rfl, hb⟩
    replace hL0 := hL0.call hb
    replace h7 := Lib.hid (h7.out.below hb)
    replace h8 := Lib.hid (h8.out.below hb)
    clear hb Cab
    obtain ⟨p58, r58⟩ := hL0.get (x2.heap.size) a (by (repeat (first | with_reducible exact List.mem_cons_self | with_reducible refine List.mem_cons_of_mem _ ?_)))
    obtain ⟨p59, r59⟩ := hL0.get (x2.heap.size + 1) a (by (repeat (first | with_reducible exact List.mem_cons_self | with_reducible refine List.mem_cons_of_mem _ ?_)))
    obtain ⟨p60, r60⟩ := hL0.get (x7.heap.size) 0 (by (repeat (first | with_reducible exact List.mem_cons_self | with_reducible refine List.mem_cons_of_mem _ ?_)))
    go_upto_region 9 with fail
    have c0 := (hL0.get (x7.heap.size) 0 (by (repeat (first | with_reducible exact List.mem_cons_self | with_reducible refine List.mem_cons_of_mem _ ?_)))).1
    have c1 := (hL0.get (x7.heap.size) 0 (by (repeat (first | with_reducible exact List.mem_cons_self | with_reducible refine List.mem_cons_of_mem _ ?_)))).2
    have hkb : x7.heap.size < x13.drew.heap.size := (hL0.all (x7.heap.size, 0) (by (repeat (first | with_reducible exact List.mem_cons_self | with_reducible refine List.mem_cons_of_mem _ ?_)))).2.lt
    replace c0 : x13.drew.cell? ⟨x7.heap.size, 0, none⟩ = _ := c0
    replace c1 : x13.drew.cell? ⟨x7.heap.size, 1, none⟩ = _ := c1
    have r7 := Lib.hid h7.out.drew
    have r8 := Lib.hid h8.out.drew
    have t0 := (htab.below hL0.bl.drew)
    go_region_held3 (fun w' => w'.cell? ⟨x7.heap.size, 0, none⟩ = some (.int .u64 ((lo 0 : Nat) : Int)) ∧ w'.cell? ⟨x7.heap.size, 1, none⟩ = some (.string (hs 0)))
      (first | exact ⟨c0, c1⟩ | exact ⟨c0a, c1a⟩ | exact ⟨c0b, c1b⟩ | exact ⟨c0c, c1c⟩)
      (first
        | (go_at_call 56; ((with_reducible refine Calls.mono (RS.out _ _ _ r7.out r8.out) ?_); rintro e w1 ⟨v88, rfl, h88, hb1⟩; have c0a := (hb1.cell (p := ⟨x7.heap.size, 0, none⟩) hkb).trans c0; have c1a := (hb1.cell (p := ⟨x7.heap.size, 1, none⟩) hkb).trans c1; replace h88 := Lib.hid h88))
        | (go_at_call 52; ((with_reducible refine Calls.mono (SMd.out _ _ (t0.below hb1) h88.out) ?_); rintro e w2 ⟨rfl, hb2⟩; have c0b := (hb2.cell (p := ⟨x7.heap.size, 0, none⟩) (Nat.lt_of_lt_of_le hkb hb1.size)).trans c0a; have c1b := (hb2.cell (p := ⟨x7.heap.size, 1, none⟩) (Nat.lt_of_lt_of_le hkb hb1.size)).trans c1a))
        | (go_at_call 16; ((with_reducible refine Calls.mono (works_any _ ((t0.below hb1).below hb2)) ?_); rintro e w3 ⟨rfl, hb3⟩; have c0c := (hb3.cell (p := ⟨x7.heap.size, 0, none⟩) (Nat.lt_of_lt_of_le hkb (Nat.le_trans hb1.size hb2.size))).trans c0b; have c1c := (hb3.cell (p := ⟨x7.heap.size, 1, none⟩) (Nat.lt_of_lt_of_le hkb (Nat.le_trans hb1.size hb2.size))).trans c1b)))
    have hB := ((hL0.bl.drew.trans (hb1.mono hL0.bl.size)).trans (hb2.mono (Nat.le_trans hL0.bl.size hb1.size))).trans (hb3.mono (Nat.le_trans hL0.bl.size (Nat.le_trans hb1.size hb2.size)))
    go_wp2_with fail
    exact bodyPost_ret (v := .bool true) (by simp [results, Tryz.results7, go_sem]) rfl ⟨rfl, hB⟩
  · have hcm := cmpI_gt hlt
    have hne : a ≠ b := by omega
    have hle := Nat.le_of_lt hlt
    have Sab := fun w => sub_ge a b hle (by omega) w
    have RS := fun va vb w ha hb => Rx.rsub_any va vb a b (by omega) hle w ha hb
    have SMd := fun v w ht hv => Rx.same_any (a - b) v (Nat.le_trans (digs_mono (Nat.sub_le a b)) (by omega)) (Nat.le_trans (Rx.td_mono (Nat.sub_le a b)) (by omega)) w ht hv
    generalize a - b = d at *
    rw [hcm] at Cab Rc
    replace Cab := Lib.hid Cab
    replace Rc := Lib.hid Rc
    replace Sab := Lib.hid Sab
    replace RS := Lib.hid RS
    replace SMd := Lib.hid SMd
    clear hcm hlt hle
    have hnn := natV_ne hne
    clear hne
    replace hnn := Lib.hid hnn
    go_enter Tryz.func7, Tryz.ntmps7
    go_wp2_with fail
    with_reducible refine Calls.mono (MX.out _ hx.out) ?_
    rintro e x1 ⟨rfl, hb⟩
    replace hL0 := hL0.call hb
    clear hb MX
    go_wp2_with fail
    with_reducible refine Calls.mono (MY.out _ (hy.out.below hL0.bl)) ?_
    rintro e x2 ⟨rfl, hb⟩
    replace hL0 := hL0.call hb
    clear hb MY
    replace hL0 := ((hL0.new rfl a 32).new (szA _ _) b 32)
    generalize hweq : ((x2.alloc (.cells #[.int .u64 ((lo a : Nat) : Int), .string (hs a)] 32)).alloc (.cells #[.int .u64 ((lo b : Nat) : Int), .string (hs b)] 32)) = x3 at hL0
    go_wp2_with fail
    with_reducible refine Calls.mono (RX.out _ (hx.out.below hL0.bl)) ?_
    rintro e x4 ⟨v7, rfl, h7, hb⟩
    replace hL0 := hL0.call hb
    clear hb RX hweq
    replace h7 := Lib.hid h7
    go_wp2_with fail
    with_reducible refine Calls.mono (RY.out _ (hy.out.below hL0.bl)) ?_
    rintro e x5 ⟨v8, rfl, h8, hb⟩
    replace hL0 := hL0.call hb
    replace h7 := Lib.hid (h7.out.below hb)
    clear hb RY
    replace h8 := Lib.hid h8
    go_wp2_with fail
    with_reducible refine Calls.mono (Rc.out _ _ _ h7.out h8.out) ?_
    rintro e x6 ⟨rfl, hb⟩
    replace hL0 := hL0.call hb
    replace h7 := Lib.hid (h7.out.below hb)
    replace h8 := Lib.hid (h8.out.below hb)
    clear hb Rc
    obtain ⟨p61, r61⟩ := hL0.get (x2.heap.size) a (by (repeat (first | with_reducible exact List.mem_cons_self | with_reducible refine List.mem_cons_of_mem _ ?_)))
    obtain ⟨p62, r62⟩ := hL0.get (x2.heap.size + 1) b (by (repeat (first | with_reducible exact List.mem_cons_self | with_reducible refine List.mem_cons_of_mem _ ?_)))
    go_wp2_with fail
    with_reducible refine Calls.mono (Sab.out _) ?_
    rintro e x7 ⟨rfl, hb⟩
    replace hL0 := hL0.call hb
    replace h7 := Lib.hid (h7.out.below hb)
    replace h8 := Lib.hid (h8.out.below hb)
    clear hb Sab
    replace h7 := Lib.hid (h7.out.below (below1 _ (.cells #[.int .u64 ((lo d : Nat) : Int), .string (hs d)] 32)))
    replace h8 := Lib.hid (h8.out.below (below1 _ (.cells #[.int .u64 ((lo d : Nat) : Int), .string (hs d)] 32)))
    replace hL0 := (hL0.new rfl d 32)
    generalize hweq : (x7.alloc (.cells #[.int .u64 ((lo d : Nat) : Int), .string (hs d)] 32)) = x8 at hL0 h7 h8
    rcases hnn.out with hn1 | ⟨hn1, hn2⟩
    · skip
      obtain ⟨p63, r63⟩ := hL0.get (x2.heap.size) a (by (repeat (first | with_reducible exact List.mem_cons_self | with_reducible refine List.mem_cons_of_mem _ ?_)))
      obtain ⟨p64, r64⟩ := hL0.get (x2.heap.size + 1) b (by (repeat (first | with_reducible exact List.mem_cons_self | with_reducible refine List.mem_cons_of_mem _ ?_)))
      obtain ⟨p65, r65⟩ := hL0.get (x7.heap.size) d (by (repeat (first | with_reducible exact List.mem_cons_self | with_reducible refine List.mem_cons_of_mem _ ?_)))
      go_wp2_with fail
      with_reducible refine Calls.mono (SMa.out _ _ (htab.below hL0.bl) h7.out) ?_
      rintro e x9 ⟨rfl, hb⟩
      replace hL0 := hL0.call hb
      replace h7 := Lib.hid (h7.out.below hb)
      replace h8 := Lib.hid (h8.out.below hb)
      clear hb SMa hweq
      obtain ⟨p66, r66⟩ := hL0.get (x2.heap.size) a (by (repeat (first | with_reducible exact List.mem_cons_self | with_reducible refine List.mem_cons_of_mem _ ?_)))
      obtain ⟨p67, r67⟩ := hL0.get (x2.heap.size + 1) b (by (repeat (first | with_reducible exact List.mem_cons_self | with_reducible refine List.mem_cons_of_mem _ ?_)))
      obtain ⟨p68, r68⟩ := hL0.get (x7.heap.size) d (by (repeat (first | with_reducible exact List.mem_cons_self | with_reducible refine List.mem_cons_of_mem _ ?_)))
      go_wp2_with fail
      with_reducible refine Calls.mono (Aab.out _) ?_
      rintro e x10 ⟨rfl, hb⟩
      replace hL0 := hL0.call hb
      replace h7 := Lib.hid (h7.out.below hb)
      replace h8 := Lib.hid (h8.out.below hb)
      clear hb Aab
      obtain ⟨p69, r69⟩ := hL0.get (x2.heap.size) a (by (repeat (first | with_reducible exact List.mem_cons_self | with_reducible refine List.mem_cons_of_mem _ ?_)))
      obtain ⟨p70, r70⟩ := hL0.get (x2.heap.size + 1) b (by (repeat (first | with_reducible exact List.mem_cons_self | with_reducible refine List.mem_cons_of_mem _ ?_)))
      obtain ⟨p71, r71⟩ := hL0.get (x7.heap.size) d (by (repeat (first | with_reducible exact List.mem_cons_self | with_reducible refine List.mem_cons_of_mem _ ?_)))
      go_wp2_with fail
      with_reducible refine Calls.mono (Rab.out _ _ _ h7.out h8.out) ?_
      rintro e x11 ⟨v48, rfl, h48, hb⟩
      replace hL0 := hL0.call hb
      replace h7 := Lib.hid (h7.out.below hb)
      replace h8 := Lib.hid (h8.out.below hb)
      clear hb Rab
      replace h48 := Lib.hid h48
      obtain ⟨p72, r72⟩ := hL0.get (x2.heap.size) a (by (repeat (first | with_reducible exact List.mem_cons_self | with_reducible refine List.mem_cons_of_mem _ ?_)))
      obtain ⟨p73, r73⟩ := hL0.get (x2.heap.size + 1) b (by (repeat (first | with_reducible exact List.mem_cons_self | with_reducible refine List.mem_cons_of_mem _ ?_)))
      obtain ⟨p74, r74⟩ := hL0.get (x7.heap.size) d (by (repeat (first | with_reducible exact List.mem_cons_self | with_reducible refine List.mem_cons_of_mem _ ?_)))
      go_wp2_with fail
      with_reducible refine Calls.mono (SMs.out _ _ (htab.below hL0.bl) h48.out) ?_
      rintro e x12 ⟨rfl, hb⟩
      replace hL0 := hL0.call hb
      replace h7 := Lib.hid (h7.out.below hb)
      replace h8 := Lib.hid (h8.out.below hb)
      clear hb SMs
      clear h48
      obtain ⟨p75, r75⟩ := hL0.get (x2.heap.size) a (by (repeat (first | with_reducible exact List.mem_cons_self | with_reducible refine List.mem_cons_of_mem _ ?_)))
      obtain ⟨p76, r76⟩ := hL0.get (x2.heap.size + 1) b (by (repeat (first | with_reducible exact List.mem_cons_self | with_reducible refine List.mem_cons_of_mem _ ?_)))
      obtain ⟨p77, r77⟩ := hL0.get (x7.heap.size) d (by (repeat (first | with_reducible exact List.mem_cons_self | with_reducible refine List.mem_cons_of_mem _ ?_)))
      go_wp2_with fail
      with_reducible refine Calls.mono (Cab.out _) ?_
      rintro e x13 ⟨rfl, hb⟩
      replace hL0 := hL0.call hb
      replace h7 := Lib.hid (h7.out.below hb)
      replace h8 := Lib.hid (h8.out.below hb)
      clear hb Cab
      obtain ⟨p78, r78⟩ := hL0.get (x2.heap.size) a (by (repeat (first | with_reducible exact List.mem_cons_self | with_reducible refine List.mem_cons_of_mem _ ?_)))
      obtain ⟨p79, r79⟩ := hL0.get (x2.heap.size + 1) b (by (repeat (first | with_reducible exact List.mem_cons_self | with_reducible refine List.mem_cons_of_mem _ ?_)))
      obtain ⟨p80, r80⟩ := hL0.get (x7.heap.size) d (by (repeat (first | with_reducible exact List.mem_cons_self | with_reducible refine List.mem_cons_of_mem _ ?_)))
      go_upto_region 9 with fail
      have c0 := (hL0.get (x7.heap.size) d (by (repeat (first | with_reducible exact List.mem_cons_self | with_reducible refine List.mem_cons_of_mem _ ?_)))).1
      have c1 := (hL0.get (x7.heap.size) d (by (repeat (first | with_reducible exact List.mem_cons_self | with_reducible refine List.mem_cons_of_mem _ ?_)))).2
      have hkb : x7.heap.size < x13.drew.heap.size := (hL0.all (x7.heap.size, d) (by (repeat (first | with_reducible exact List.mem_cons_self | with_reducible refine List.mem_cons_of_mem _ ?_)))).2.lt
      replace c0 : x13.drew.cell? ⟨x7.heap.size, 0, none⟩ = _ := c0
      replace c1 : x13.drew.cell? ⟨x7.heap.size, 1, none⟩ = _ := c1
      have r7 := Lib.hid h7.out.drew
      have r8 := Lib.hid h8.out.drew
      have t0 := (htab.below hL0.bl.drew)
      go_region_held3 (fun w' => w'.cell? ⟨x7.heap.size, 0, none⟩ = some (.int .u64 ((lo d : Nat) : Int)) ∧ w'.cell? ⟨x7.heap.size, 1, none⟩ = some (.string (hs d)))
        (first | exact ⟨c0, c1⟩ | exact ⟨c0a, c1a⟩ | exact ⟨c0b, c1b⟩ | exact ⟨c0c, c1c⟩)
        (first
          | (go_at_call 56; ((with_reducible refine Calls.mono (RS.out _ _ _ r7.out r8.out) ?_); rintro e w1 ⟨v88, rfl, h88, hb1⟩; have c0a := (hb1.cell (p := ⟨x7.heap.size, 0, none⟩) hkb).trans c0; have c1a := (hb1.cell (p := ⟨x7.heap.size, 1, none⟩) hkb).trans c1; replace h88 := Lib.hid h88))
          | (go_at_call 52; ((with_reducible refine Calls.mono (SMd.out _ _ (t0.below hb1) h88.out) ?_); rintro e w2 ⟨rfl, hb2⟩; have c0b := (hb2.cell (p := ⟨x7.heap.size, 0, none⟩) (Nat.lt_of_lt_of_le hkb hb1.size)).trans c0a; have c1b := (hb2.cell (p := ⟨x7.heap.size, 1, none⟩) (Nat.lt_of_lt_of_le hkb hb1.size)).trans c1a))
          | (go_at_call 16; ((with_reducible refine Calls.mono (works_any _ ((t0.below hb1).below hb2)) ?_); rintro e w3 ⟨rfl, hb3⟩; have c0c := (hb3.cell (p := ⟨x7.heap.size, 0, none⟩) (Nat.lt_of_lt_of_le hkb (Nat.le_trans hb1.size hb2.size))).trans c0b; have c1c := (hb3.cell (p := ⟨x7.heap.size, 1, none⟩) (Nat.lt_of_lt_of_le hkb (Nat.le_trans hb1.size hb2.size))).trans c1b)))
      have hB := ((hL0.bl.drew.trans (hb1.mono hL0.bl.size)).trans (hb2.mono (Nat.le_trans hL0.bl.size hb1.size))).trans (hb3.mono (Nat.le_trans hL0.bl.size (Nat.le_trans hb1.size hb2.size)))
      go_wp2_with fail
      exact bodyPost_ret (v := .bool true) (by simp [results, Tryz.results7, go_sem]) rfl ⟨rfl, hB⟩
    · skip
      obtain ⟨p81, r81⟩ := hL0.get (x2.heap.size) a (by (repeat (first | with_reducible exact List.mem_cons_self | with_reducible refine List.mem_cons_of_mem _ ?_)))
      obtain ⟨p82, r82⟩ := hL0.get (x2.heap.size + 1) b (by (repeat (first | with_reducible exact List.mem_cons_self | with_reducible refine List.mem_cons_of_mem _ ?_)))
      obtain ⟨p83, r83⟩ := hL0.get (x7.heap.size) d (by (repeat (first | with_reducible exact List.mem_cons_self | with_reducible refine List.mem_cons_of_mem _ ?_)))
      go_wp2_with fail
      with_reducible refine Calls.mono (SMa.out _ _ (htab.below hL0.bl) h7.out) ?_
      rintro e x14 ⟨rfl, hb⟩
      replace hL0 := hL0.call hb
      replace h7 := Lib.hid (h7.out.below hb)
      replace h8 := Lib.hid (h8.out.below hb)
      clear hb SMa hweq
      obtain ⟨p84, r84⟩ := hL0.get (x2.heap.size) a (by (repeat (first | with_reducible exact List.mem_cons_self | with_reducible refine List.mem_cons_of_mem _ ?_)))
      obtain ⟨p85, r85⟩ := hL0.get (x2.heap.size + 1) b (by (repeat (first | with_reducible exact List.mem_cons_self | with_reducible refine List.mem_cons_of_mem _ ?_)))
      obtain ⟨p86, r86⟩ := hL0.get (x7.heap.size) d (by (repeat (first | with_reducible exact List.mem_cons_self | with_reducible refine List.mem_cons_of_mem _ ?_)))
      go_wp2_with fail
      with_reducible refine Calls.mono (Aab.out _) ?_
      rintro e x15 ⟨rfl, hb⟩
      replace hL0 := hL0.call hb
      replace h7 := Lib.hid (h7.out.below hb)
      replace h8 := Lib.hid (h8.out.below hb)
      clear hb Aab
      obtain ⟨p87, r87⟩ := hL0.get (x2.heap.size) a (by (repeat (first | with_reducible exact List.mem_cons_self | with_reducible refine List.mem_cons_of_mem _ ?_)))
      obtain ⟨p88, r88⟩ := hL0.get (x2.heap.size + 1) b (by (repeat (first | with_reducible exact List.mem_cons_self | with_reducible refine List.mem_cons_of_mem _ ?_)))
      obtain ⟨p89, r89⟩ := hL0.get (x7.heap.size) d (by (repeat (first | with_reducible exact List.mem_cons_self | with_reducible refine List.mem_cons_of_mem _ ?_)))
      go_wp2_with fail
      with_reducible refine Calls.mono (Rab.out _ _ _ h7.out h8.out) ?_
      rintro e x16 ⟨v48, rfl, h48, hb⟩
      replace hL0 := hL0.call hb
      replace h7 := Lib.hid (h7.out.below hb)
      replace h8 := Lib.hid (h8.out.below hb)
      clear hb Rab
      replace h48 := Lib.hid h48
      obtain ⟨p90, r90⟩ := hL0.get (x2.heap.size) a (by (repeat (first | with_reducible exact List.mem_cons_self | with_reducible refine List.mem_cons_of_mem _ ?_)))
      obtain ⟨p91, r91⟩ := hL0.get (x2.heap.size + 1) b (by (repeat (first | with_reducible exact List.mem_cons_self | with_reducible refine List.mem_cons_of_mem _ ?_)))
      obtain ⟨p92, r92⟩ := hL0.get (x7.heap.size) d (by (repeat (first | with_reducible exact List.mem_cons_self | with_reducible refine List.mem_cons_of_mem _ ?_)))
      go_wp2_with fail
      with_reducible refine Calls.mono (SMs.out _ _ (htab.below hL0.bl) h48.out) ?_
      rintro e x17 ⟨rfl, hb⟩
      replace hL0 := hL0.call hb
      replace h7 := Lib.hid (h7.out.below hb)
      replace h8 := Lib.hid (h8.out.below hb)
      clear hb SMs
      clear h48
      obtain ⟨p93, r93⟩ := hL0.get (x2.heap.size) a (by (repeat (first | with_reducible exact List.mem_cons_self | with_reducible refine List.mem_cons_of_mem _ ?_)))
      obtain ⟨p94, r94⟩ := hL0.get (x2.heap.size + 1) b (by (repeat (first | with_reducible exact List.mem_cons_self | with_reducible refine List.mem_cons_of_mem _ ?_)))
      obtain ⟨p95, r95⟩ := hL0.get (x7.heap.size) d (by (repeat (first | with_reducible exact List.mem_cons_self | with_reducible refine List.mem_cons_of_mem _ ?_)))
      go_wp2_with fail
      with_reducible refine Calls.mono (Cab.out _) ?_
      rintro e x18 ⟨rfl, hb⟩
      replace hL0 := hL0.call hb
      replace h7 := Lib.hid (h7.out.below hb)
      replace h8 := Lib.hid (h8.out.below hb)
      clear hb Cab
      obtain ⟨p96, r96⟩ := hL0.get (x2.heap.size) a (by (repeat (first | with_reducible exact List.mem_cons_self | with_reducible refine List.mem_cons_of_mem _ ?_)))
      obtain ⟨p97, r97⟩ := hL0.get (x2.heap.size + 1) b (by (repeat (first | with_reducible exact List.mem_cons_self | with_reducible refine List.mem_cons_of_mem _ ?_)))
      obtain ⟨p98, r98⟩ := hL0.get (x7.heap.size) d (by (repeat (first | with_reducible exact List.mem_cons_self | with_reducible refine List.mem_cons_of_mem _ ?_)))
      go_upto_region 9 with fail
      have c0 := (hL0.get (x7.heap.size) d (by (repeat (first | with_reducible exact List.mem_cons_self | with_reducible refine List.mem_cons_of_mem _ ?_)))).1
      have c1 := (hL0.get (x7.heap.size) d (by (repeat (first | with_reducible exact List.mem_cons_self | with_reducible refine List.mem_cons_of_mem _ ?_)))).2
      have hkb : x7.heap.size < x18.drew.heap.size := (hL0.all (x7.heap.size, d) (by (repeat (first | with_reducible exact List.mem_cons_self | with_reducible refine List.mem_cons_of_mem _ ?_)))).2.lt
      replace c0 : x18.drew.cell? ⟨x7.heap.size, 0, none⟩ = _ := c0
      replace c1 : x18.drew.cell? ⟨x7.heap.size, 1, none⟩ = _ := c1
      have r7 := Lib.hid h7.out.drew
      have r8 := Lib.hid h8.out.drew
      have t0 := (htab.below hL0.bl.drew)
      go_region_held3 (fun w' => w'.cell? ⟨x7.heap.size, 0, none⟩ = some (.int .u64 ((lo d : Nat) : Int)) ∧ w'.cell? ⟨x7.heap.size, 1, none⟩ = some (.string (hs d)))
        (first | exact ⟨c0, c1⟩ | exact ⟨c0a, c1a⟩ | exact ⟨c0b, c1b⟩ | exact ⟨c0c, c1c⟩)
        (first
          | (go_at_call 56; ((with_reducible refine Calls.mono (RS.out _ _ _ r7.out r8.out) ?_); rintro e w1 ⟨v88, rfl, h88, hb1⟩; have c0a := (hb1.cell (p := ⟨x7.heap.size, 0, none⟩) hkb).trans c0; have c1a := (hb1.cell (p := ⟨x7.heap.size, 1, none⟩) hkb).trans c1; replace h88 := Lib.hid h88))
          | (go_at_call 52; ((with_reducible refine Calls.mono (SMd.out _ _ (t0.below hb1) h88.out) ?_); rintro e w2 ⟨rfl, hb2⟩; have c0b := (hb2.cell (p := ⟨x7.heap.size, 0, none⟩) (Nat.lt_of_lt_of_le hkb hb1.size)).trans c0a; have c1b := (hb2.cell (p := ⟨x7.heap.size, 1, none⟩) (Nat.lt_of_lt_of_le hkb hb1.size)).trans c1a))
          | (go_at_call 16; ((with_reducible refine Calls.mono (works_any _ ((t0.below hb1).below hb2)) ?_); rintro e w3 ⟨rfl, hb3⟩; have c0c := (hb3.cell (p := ⟨x7.heap.size, 0, none⟩) (Nat.lt_of_lt_of_le hkb (Nat.le_trans hb1.size hb2.size))).trans c0b; have c1c := (hb3.cell (p := ⟨x7.heap.size, 1, none⟩) (Nat.lt_of_lt_of_le hkb (Nat.le_trans hb1.size hb2.size))).trans c1b)))
      have hB := ((hL0.bl.drew.trans (hb1.mono hL0.bl.size)).trans (hb2.mono (Nat.le_trans hL0.bl.size hb1.size))).trans (hb3.mono (Nat.le_trans hL0.bl.size (Nat.le_trans hb1.size hb2.size)))
      go_wp2_with fail
      exact bodyPost_ret (v := .bool true) (by simp [results, Tryz.results7, go_sem]) rfl ⟨rfl, hB⟩

theorem sums_any (vx vy : Value) (lx ly : List Nat) (w : World) (htab : Tab w) (hx : Ws w vx lx) (hy : Ws w vy ly) :
    Calls Tryz.prog 7 #[vx, vy] w fun e w' => e = .returned (.bool true) ∧ Below w.heap.size w w' := by
  by_cases h : 24 < lx.length ∨ 24 < ly.length
  · obtain ⟨ax, cx, rfl⟩ := hx.form
    obtain ⟨ay, cy, rfl⟩ := hy.form
    exact sums_big ax ay cx cy _ _ h w htab
  · exact sums_small vx vy lx ly w htab hx hy (by omega) (by omega)
end Go.Proofs.YthehcjfmokabfaaGreatDoor

/-
  The reference of layer 1, walks I: Parse.
-/
namespace Go.Proofs.YthehcjfmokabfaaGreatDoor.Rx
open Go.RowKit
attribute [local irreducible] tv dg cmpI txt decB

theorem rparse_long (l : List UInt8) (h : 4096 < l.length) (hl : l.length ≤ 1000000) (w : World) :
    Calls Tryz.prog 72 #[.string (st l)] w fun e w' => e = .returned (.tuple #[.slice none 0 0, .int .i64 3]) ∧ Below w.heap.size w w' := by
  have h1 : decide ((4096 : Int) < ((st l).size : Int)) = true := decide_eq_true (by rw [st_size]; omega)
  have h2 : decide (4096 < (st l).size) = true := decide_eq_true (by rw [st_size]; omega)
  go_enter Tryz.func72, Tryz.ntmps72
  go_wp2_with fail
  exact bodyPost_ret (v := .tuple #[.slice none 0 0, .int .i64 3]) (by simp [results, Tryz.results72, go_sem]) rfl ⟨rfl, Below.refl _ _⟩

theorem app_c1 (w : World) (v : Value) (t : TypeId) : ∀ (j : Nat) (u : Value), [v][j]? = some u → (w.alloc (.cells #[v] t)).cell? ((⟨w.heap.size, 0, none⟩ : Addr).add j) = some u := by
  intro j u hj
  match j, hj with
  | 0, hj => simp at hj; subst hj; simp [Addr.add]
theorem app_c2 (k : IntKind) (x : Int) : ∀ u ∈ [Value.int k x], u.oneCell' = true := by
  intro u hu; simp at hu; subst hu; rfl
/-- What is appended, chunk by chunk. -/
structure PS (l : List UInt8) (S : List Nat) (t e : Nat) : Prop where
  len : S.length = t
  lt : ∀ d ∈ S, d < 10000
  pos : e = l.length - 4 * t
  eq : tv S + 10000 ^ t * dval (l.take e) = dval l
theorem PS.step {l : List UInt8} {S : List Nat} {t e : Nat} (h : PS l S t e) (hd : ∀ c ∈ l, isDig c) (he : 0 < e) :
    dval ((l.drop (e - 4)).take (e - (e - 4))) < 10000 ∧ PS l (S ++ [dval ((l.drop (e - 4)).take (e - (e - 4)))]) (t + 1) (e - 4) := by
  have hle : e ≤ l.length := by have := h.pos; omega
  have hch : ((l.drop (e - 4)).take (e - (e - 4))).length = e - (e - 4) := by rw [List.length_take, List.length_drop]; omega
  have hlt : dval ((l.drop (e - 4)).take (e - (e - 4))) < 10000 := by
    have h1 := dval_lt (l := (l.drop (e - 4)).take (e - (e - 4))) fun c hc => hd c (List.mem_of_mem_drop (List.mem_of_mem_take hc))
    rw [hch] at h1
    exact Nat.lt_of_lt_of_le h1 (Nat.le_trans (Nat.pow_le_pow_right (by omega) (show e - (e - 4) ≤ 4 by omega)) (by decide))
  refine ⟨hlt, by rw [List.length_append, h.len]; rfl, fun d hx => ?_, by have := h.pos; omega, ?_⟩
  · rcases List.mem_append.1 hx with hx | hx
    · exact h.lt d hx
    · rw [List.mem_singleton.1 hx]; exact hlt
  · have e1 : l.take e = l.take (e - 4) ++ (l.drop (e - 4)).take (e - (e - 4)) := by
      have := List.take_add (l := l) (i := e - 4) (j := e - (e - 4))
      rw [show e - 4 + (e - (e - 4)) = e by omega] at this
      exact this
    have e2 := h.eq
    rw [e1, dval_append, hch] at e2
    rw [tv_snoc, h.len, Nat.pow_succ]
    generalize dval ((l.drop (e - 4)).take (e - (e - 4))) = d at *
    rcases Nat.lt_or_ge e 4 with h4 | h4
    · have h0 : dval (l.take (e - 4)) = 0 := by rw [show e - 4 = 0 by omega, List.take_zero, dval_nil]
      rw [h0, Nat.zero_mul, Nat.zero_add] at e2
      rw [h0, Nat.mul_zero]; omega
    · rw [show e - (e - 4) = 4 by omega] at e2
      rw [Nat.mul_add, Nat.mul_comm (dval _) (10 ^ 4), ← Nat.mul_assoc, show (10 : Nat) ^ 4 = 10000 by rfl] at e2
      omega
theorem PS.start (l : List UInt8) : PS l [] 0 l.length := ⟨rfl, (fun d hd => by cases hd), by omega, by rw [tv_nil, List.take_length]; simp⟩

set_option maxHeartbeats 4000000 in
set_option maxRecDepth 100000 in
theorem rparse_any (l : List UInt8) (h : l.length ≤ 4096) (w : World) :
    Calls Tryz.prog 72 #[.string (st l)] w fun e w' =>
      ((isDec l ∧ ∃ v, e = .returned (.tuple #[v, .int .i64 0]) ∧ Rn w' v (dval l)) ∨ (¬ isDec l ∧ e = .returned (.tuple #[.slice none 0 0, .int .i64 4]))) ∧ Below w.heap.size w w' := by
  obtain ⟨i0, hi, hz0, hz1, hz2⟩ := info_parts Tryz.infoI
  have h1 : decide ((4096 : Int) < ((st l).size : Int)) = false := decide_eq_false (by rw [st_size]; omega)
  have h2 : decide (4096 < (st l).size) = false := decide_eq_false (by rw [st_size]; omega)
  have bad : ¬ isDec l → ∀ e, e = Ending.returned (.tuple #[.slice none 0 0, .int .i64 4]) → ∀ w', Below w.heap.size w w' →
      ((isDec l ∧ ∃ v, e = .returned (.tuple #[v, .int .i64 0]) ∧ Rn w' v (dval l)) ∨ (¬ isDec l ∧ e = .returned (.tuple #[.slice none 0 0, .int .i64 4]))) ∧ Below w.heap.size w w' := fun hb e he w' hw => ⟨.inr ⟨hb, he⟩, hw⟩
  have good : isDec l → ∀ e v, e = Ending.returned (.tuple #[v, .int .i64 0]) → ∀ w', Rn w' v (dval l) → Below w.heap.size w w' →
      ((isDec l ∧ ∃ v, e = .returned (.tuple #[v, .int .i64 0]) ∧ Rn w' v (dval l)) ∨ (¬ isDec l ∧ e = .returned (.tuple #[.slice none 0 0, .int .i64 4]))) ∧ Below w.heap.size w w' := fun hb e v he w' hv hw => ⟨.inl ⟨hb, v, he, hv⟩, hw⟩
  replace bad := Lib.hid bad
  replace good := Lib.hid good
  have hcase : l = [] ∨ (∃ m c, l = 48 :: c :: m) ∨ (l ≠ [] ∧ (l = [48] ∨ l.head? ≠ some 48)) := by
    match l with
    | [] => exact .inl rfl
    | [c] =>
      refine .inr (.inr ⟨by simp, ?_⟩)
      by_cases hc : c = 48
      · exact .inl (by rw [hc])
      · exact .inr (by simpa using hc)
    | c :: d :: m =>
      by_cases hc : c = 48
      · exact .inr (.inl ⟨m, d, by rw [hc]⟩)
      · exact .inr (.inr ⟨by simp, .inr (by simpa using hc)⟩)
  rcases hcase with rfl | ⟨m, c, rfl⟩ | ⟨hne, hhd⟩
  · have hb := Lib.hid (bad.out (fun h => by rcases h.2 with h | h; · cases h
                                             · exact h.1 rfl))
    have h3 : (((st []).size : Int) == 0) = true := rfl
    have h4 : ((st []).size == 0) = true := rfl
    go_enter Tryz.func72, Tryz.ntmps72
    go_wp2_with fail
    exact bodyPost_ret (v := .tuple #[.slice none 0 0, .int .i64 4]) (by simp [results, Tryz.results72, go_sem]) rfl (hb.out _ rfl _ (Below.refl _ _))
  · have hb := Lib.hid (bad.out (fun h => by rcases h.2 with h | ⟨-, h⟩; · simp at h
                                             · exact h rfl))
    have hlt : 0 < (st (48 :: c :: m)).size := by rw [st_size]; simp
    have hget : (st (48 :: c :: m))[0]'hlt = 48 := rfl
    have h3 : (((st (48 :: c :: m)).size : Int) == 0) = false := beq_eq_false_iff_ne.2 (by omega)
    have h4 : ((st (48 :: c :: m)).size == 0) = false := beq_eq_false_iff_ne.2 (by omega)
    have h5 : decide ((1 : Int) < ((st (48 :: c :: m)).size : Int)) = true := decide_eq_true (by rw [st_size]; simp; omega)
    have h6 : decide (1 < (st (48 :: c :: m)).size) = true := decide_eq_true (by rw [st_size]; simp)
    generalize st (48 :: c :: m) = s at *
    go_enter Tryz.func72, Tryz.ntmps72
    go_wp2_with fail
    exact bodyPost_ret (v := .tuple #[.slice none 0 0, .int .i64 4]) (by simp [results, Tryz.results72, go_sem]) rfl (hb.out _ rfl _ (Below.refl _ _))
  · have hpos : 0 < l.length := List.length_pos_iff.2 hne
    obtain ⟨n, hn⟩ : ∃ n, n = l.length := ⟨_, rfl⟩
    have hsz : (st l).size = n := by rw [st_size, hn]
    have hlt0 : 0 < (st l).size := by rw [hsz, hn]; exact hpos
    have hfirst : (((((st l)[0]'hlt0).toNat : Int) == 48) = false) ∨ (((((st l)[0]'hlt0).toNat : Int) == 48) = true ∧ decide ((1 : Int) < (n : Int)) = false ∧ decide (1 < n) = false) := by
      rcases hhd with rfl | hh
      · exact .inr ⟨rfl, by rw [hn]; rfl, by rw [hn]; rfl⟩
      · refine .inl (beq_eq_false_iff_ne.2 fun e => hh ?_)
        have h48 : (st l)[0]'hlt0 = 48 := UInt8.toNat_inj.1 (by show _ = 48; omega)
        have h49 : l[0]'hpos = 48 := h48
        rw [List.head?_eq_getElem?, List.getElem?_eq_getElem hpos, h49]
    have h3 : ((n : Int) == 0) = false := beq_eq_false_iff_ne.2 (by omega)
    have h4 : (n == 0) = false := beq_eq_false_iff_ne.2 (by omega)
    have hD : (∀ c ∈ l, isDig c) → isDec l := fun hd => ⟨hd, by rcases hhd with h | h; · exact .inl h
                                                                · exact .inr ⟨hne, h⟩⟩
    have hnd : ∀ c ∈ l, ¬ isDig c → ¬ isDec l := fun c hc hx hh => hx (hh.1 c hc)
    have hcell : ∀ (i : Nat) (hi : i < n), ∃ c, c ∈ l ∧ l.take (i + 1) = l.take i ++ [c] ∧ (st l)[i]'(by rw [hsz]; exact hi) = c ∧ (∀ m, m ≤ i → (l.drop m).take (i + 1 - m) = (l.drop m).take (i - m) ++ [c]) := fun i hi => by
      have hil : i < l.length := by omega
      refine ⟨l[i], List.getElem_mem hil, by rw [List.take_add_one, List.getElem?_eq_getElem hil]; rfl, rfl, fun m hm => ?_⟩
      rw [show i + 1 - m = (i - m) + 1 by omega, List.take_add_one, List.getElem?_drop, show m + (i - m) = i by omega, List.getElem?_eq_getElem hil]; rfl
    have hn4 : n ≤ 4096 := by omega
    have hst := PS.start l
    rw [← hn] at hst
    have hstep := fun S t e (h : PS l S t e) hd he => h.step hd he
    have hend := fun S t (h : PS l S t 0) => h.eq
    rw [hsz] at h1 h2
    generalize st l = s at *
    have HN := Lib.hid hn
    clear hhd hne hn h
    replace hD := Lib.hid hD
    replace hnd := Lib.hid hnd
    replace hcell := Lib.hid hcell
    replace hst := Lib.hid hst
    replace hstep := Lib.hid hstep
    replace hend := Lib.hid hend
    go_enter Tryz.func72, Tryz.ntmps72
    rcases hfirst with hf | ⟨hf, hf2, hf3⟩
    all_goals (
      go_wp2_with fail
      clear hf
      go_loopw [5] (fun z wx => ∃ i : Nat, i ≤ n ∧ z = .int .i64 (i : Int) ∧ (∀ c ∈ l.take i, isDig c) ∧ w = wx) (fun z _ => n - (intOf z).toNat)
      case atStart => exact ⟨0, Nat.zero_le _, rfl, by simp, rfl⟩
      case round =>
        obtain ⟨i, hin, rfl, hd, rfl⟩ := hrel
        rcases Nat.lt_or_eq_of_le hin with hlt | hie
        · obtain ⟨c, hmem, htk, hget, -⟩ := hcell.out i hlt
          have hls : i < s.size := by rw [hsz]; exact hlt
          have k1 : (i : Int) < (n : Int) := by omega
          have hib : (i : Int) ≤ 4096 := by omega
          replace htk := Lib.hid htk
          by_cases hdg : isDig c
          · have g1 : decide ((c.toNat : Int) < 48) = false := decide_eq_false (by unfold isDig at hdg; omega)
            have g2 : decide (57 < (c.toNat : Int)) = false := decide_eq_false (by unfold isDig at hdg; omega)
            have g3 : (48 : Int) ≤ (c.toNat : Int) := by unfold isDig at hdg; omega
            have g4 : (c.toNat : Int) ≤ 57 := by unfold isDig at hdg; omega
            have HC := Lib.hid (⟨hd, hdg⟩ : (∀ c ∈ l.take i, isDig c) ∧ isDig c)
            clear hd hdg hmem
            go_wp2_with fail
            go_roundw
            case rel =>
              refine ⟨i + 1, hlt, rfl, fun x hx => ?_, trivial⟩
              rw [htk.out] at hx
              rcases List.mem_append.1 hx with hx | hx
              · exact HC.out.1 x hx
              · rw [List.mem_singleton.1 hx]; exact HC.out.2
            case measure => simp [intOf]; omega
          · have hb := Lib.hid (bad.out (hnd.out c hmem hdg))
            have g5 : (c.toNat : Int) < 48 ∨ 57 < (c.toNat : Int) := by unfold isDig at hdg; omega
            clear hd hdg hmem
            rcases g5 with g5 | g5
            · have g1 : decide ((c.toNat : Int) < 48) = true := decide_eq_true g5
              go_wp2_with fail
              exact bodyPost_ret (v := .tuple #[.slice none 0 0, .int .i64 4]) (by simp [results, Tryz.results72, go_sem]) rfl (hb.out _ rfl _ (Below.refl _ _))
            · have g1 : decide ((c.toNat : Int) < 48) = false := decide_eq_false (by omega)
              have g2 : decide (57 < (c.toNat : Int)) = true := decide_eq_true g5
              go_wp2_with fail
              exact bodyPost_ret (v := .tuple #[.slice none 0 0, .int .i64 4]) (by simp [results, Tryz.results72, go_sem]) rfl (hb.out _ rfl _ (Below.refl _ _))
        · have k1 : ¬ (i : Int) < (n : Int) := by omega
          have hda : ∀ c ∈ l, isDig c := fun c hc => hd c (by rw [List.take_of_length_le (by have := HN.out; omega)]; exact hc)
          have hok := Lib.hid (good.out (hD.out hda))
          replace hda := Lib.hid hda
          clear hd bad hnd hD hie
          go_wp2_with fail
          go_loopw [4, 6] (fun v z wx => ∃ (t e : Nat) (S : List Nat) (zi : Int), z = .int .i64 zi ∧ (zi = (e : Int) ∨ (zi ≤ 0 ∧ e = 0)) ∧ -4 ≤ zi ∧ e ≤ n ∧ t ≤ n ∧ PS l S t e ∧ wx.ownsRow w.heap.size 3 1 v t (S.map iv) ∧ Below w.heap.size w wx) (fun _ z _ => (intOf z + 4).toNat)
          case atStart => exact ⟨0, n, [], n, rfl, .inl rfl, by omega, Nat.le_refl _, Nat.zero_le _, hst.out, World.ownsRow_nil _ _ _ _, Below.refl _ _⟩
          case round =>
            obtain ⟨t, e, S, zi, rfl, hze, hz4, hen, htn, hS, hown, hbl⟩ := hrel
            rcases Nat.eq_zero_or_pos e with he | he
            · subst he
              have k2 : ¬ (0 : Int) < zi := by omega
              have hT : tv S = dval l := by
                have := hend.out S t hS
                rw [List.take_zero, dval_nil, Nat.mul_zero, Nat.add_zero] at this
                exact this
              have HT := trim_any u4 S hS.lt (by rw [hS.len]; omega) wr (Sl.owned hown hS.len.symm)
              rw [hT] at HT
              replace HT := Lib.hid HT
              clear hT hS hown hze
              go_wp2_with fail
              with_reducible refine Calls.mono HT.out ?_
              rintro e w1 ⟨v', rfl, hv, rfl⟩
              replace hv := Lib.hid hv
              go_wp2_with fail
              exact bodyPost_ret (v := .tuple #[v', .int .i64 0]) (by simp [results, Tryz.results72, go_sem]) rfl (hok.out _ _ rfl _ hv.out hbl)
            · obtain rfl : zi = (e : Int) := by omega
              obtain ⟨hdl, hnx⟩ := hstep.out S t e hS hda.out he
              have k2 : (0 : Int) < (e : Int) := by omega
              have heb : (e : Int) ≤ 4096 := by omega
              have htb : (t : Int) ≤ 4096 := by omega
              replace hnx := Lib.hid hnx
              have htl : t + 1 ≤ n := by have := hS.pos; have := HN.out; omega
              clear hze hS
              obtain ⟨m, hm⟩ : ∃ m, m = e - 4 := ⟨_, rfl⟩
              rw [← hm] at hdl hnx
              have hmx : ((e : Int) - 4 ≤ 0 ∧ m = 0) ∨ (0 < (e : Int) - 4 ∧ (e : Int) - 4 = (m : Int)) := by omega
              replace hm := Lib.hid hm
              have hmax : max (0 : Int) ((e : Int) - 4) = (m : Int) := by omega
              clear hmx
              go_wp2_with fail
              go_loopw [7, 8] (fun dv jv wx => ∃ i : Nat, m ≤ i ∧ i ≤ e ∧ jv = .int .i64 (i : Int) ∧ dv = .int .i64 ((dval ((l.drop m).take (i - m)) : Nat) : Int) ∧ wx.ownsRow w.heap.size 3 1 u4 t (S.map iv) ∧ Below w.heap.size w wx) (fun _ jv _ => e - (intOf jv).toNat)
              case atStart => exact ⟨m, Nat.le_refl _, by have := hm.out; omega, by first | rfl | go_num, by rw [Nat.sub_self, List.take_zero]; rfl, hown, hbl⟩
              case round =>
                obtain ⟨j, hmj, hje, rfl, rfl, hown2, hbl2⟩ := hrel
                rcases Nat.lt_or_ge j e with hlt | hge
                · obtain ⟨c, hmem, -, hget, hpre⟩ := hcell.out j (by omega)
                  have hls : j < s.size := by rw [hsz]; omega
                  have hnext := hpre m hmj
                  have hdg := hda.out c hmem
                  have hnv : dval ((l.drop m).take (j + 1 - m)) = dval ((l.drop m).take (j - m)) * 10 + (c.toNat - 48) := by rw [hnext, dval_snoc]
                  have hDb : dval ((l.drop m).take (j - m)) < 10000 := by
                    have h1 := dval_lt (l := (l.drop m).take (j - m)) fun c hc => hda.out c (List.mem_of_mem_drop (List.mem_of_mem_take hc))
                    exact Nat.lt_of_lt_of_le h1 (Nat.le_trans (Nat.pow_le_pow_right (by omega) (show _ ≤ 4 by rw [List.length_take]; have := hm.out; omega)) (by decide))
                  have g3 : (48 : Int) ≤ (c.toNat : Int) := by unfold isDig at hdg; omega
                  have g4 : (c.toNat : Int) ≤ 57 := by unfold isDig at hdg; omega
                  generalize dval ((l.drop m).take (j - m)) = D at *
                  replace hnv := Lib.hid hnv
                  clear hpre hnext hdg hmem hdl
                  have k3 : (j : Int) < (e : Int) := by omega
                  have hjb : (j : Int) ≤ 4096 := by omega
                  go_wp2_with fail
                  go_roundw
                  case rel => exact ⟨j + 1, by omega, by omega, by first | rfl | go_num, (by rw [hnv.out]; go_num), hown2, hbl2⟩
                  case measure => simp [intOf]; omega
                · obtain rfl : j = e := by omega
                  have k3 : ¬ (j : Int) < (j : Int) := by omega
                  generalize dval ((l.drop m).take (j - m)) = D at *
                  go_wp2_with (at_builtin; refine wpList_append_own _ rfl _ _ 42 rfl w.heap.size 3 i0 (.int .i64 0) 1 8 Tryz.underlying42 hi hz0 hz1 hz2 rfl (by decide) _ _ _ rfl (hown2.alloc _) ⟨wr.heap.size, 0, none⟩ 1 1 [.int .i64 (D : Int)] rfl rfl (app_c1 _ _ _) (app_c2 _ _) (by unfold maxLen; omega) (by omega) (by have := hbl2.size; simp; omega) ?_)
                  intro v' w1 hown' hgrow _
                  have hn' := Lib.hid (own_snoc (d := D) rfl hown')
                  have hb' := Lib.hid (below_app hbl2 hbl2.size hown2 hgrow)
                  clear hown' hgrow hown2 hbl2 hown hbl
                  go_wp2_with fail
                  go_roundw
                  case rel => exact ⟨t + 1, m, _, (j : Int) - 4, by first | rfl | go_num, (by have := hm.out; omega), by omega, (by have := hm.out; omega), htl, hnx.out, hn'.out, hb'.out⟩
                  case measure => simp [intOf]; omega)
end Go.Proofs.YthehcjfmokabfaaGreatDoor.Rx

/-
  Layer 1, law H: NatsReads.
-/
namespace Go.Proofs.YthehcjfmokabfaaGreatDoor
open Go.RowKit
attribute [local irreducible] lo hs sm s64 c64 d64 b64 mh ml pd pc qd qc val hiB str cmpI srD lz nb isq decB txt

theorem dval_digs {l : List UInt8} (h : ∀ c ∈ l, isDig c) : (digs (dval l)).length ≤ l.length :=
  digs_length_iff.2 (Nat.lt_of_lt_of_le (dval_lt h) (Nat.pow_le_pow_left (by unfold Bs; decide) _))
theorem dval_td {l : List UInt8} (h : ∀ c ∈ l, isDig c) : (Rx.td (dval l)).length ≤ l.length :=
  Rx.td_length.2 (Nat.lt_of_lt_of_le (dval_lt h) (Nat.pow_le_pow_left (by decide) _))
theorem dval_txt {l : List UInt8} (h : isDec l) : txt (dval l) = st l := by rw [txt_st, dec_dval h]

set_option maxHeartbeats 4000000 in
set_option maxRecDepth 100000 in
theorem reads_big (l : List UInt8) (h : 4200 < l.length) (w : World) (htab : Tab w) :
    Calls Tryz.prog 14 #[.string (st l)] w fun e w' => e = .returned (.bool true) ∧ Below w.heap.size w w' := by
  have k1 : decide ((4200 : Int) < ((st l).size : Int)) = true := decide_eq_true (by rw [st_size]; omega)
  have k2 : decide (4200 < (st l).size) = true := decide_eq_true (by rw [st_size]; omega)
  have HW := Lib.hid (works_any w htab)
  have hL0 : NL w w [] := NL.start w
  generalize st l = s at *
  go_enter Tryz.func14, Tryz.ntmps14
  go_wp2_with fail
  with_reducible refine Calls.mono HW.out ?_
  rintro e x1 ⟨rfl, hb⟩
  replace hL0 := hL0.call hb
  clear hb HW
  go_wp2_with fail
  exact bodyPost_ret (v := .bool true) (by simp [results, Tryz.results14, go_sem]) rfl ⟨rfl, hL0.bl⟩

set_option maxHeartbeats 4000000 in
set_option maxRecDepth 100000 in
theorem reads_long (l : List UInt8) (h : 4096 < l.length) (h2 : l.length ≤ 4200) (w : World) (htab : Tab w) :
    Calls Tryz.prog 14 #[.string (st l)] w fun e w' => e = .returned (.bool true) ∧ Below w.heap.size w w' := by
  have P := fun w => parse_long l h (by omega) w
  have R := fun w => Rx.rparse_long l h (by omega) w
  have k1 : decide ((4200 : Int) < ((st l).size : Int)) = false := decide_eq_false (by rw [st_size]; omega)
  have k2 : decide (4200 < (st l).size) = false := decide_eq_false (by rw [st_size]; omega)
  generalize st l = s at *
  replace P := Lib.hid P
  replace R := Lib.hid R
  clear h
  have HW := Lib.hid (fun w h => works_any w h)
  have z1 : (((lo 0 : Nat) : Int) == 0) = true := by rw [lo_zero]; rfl
  have z2 : ((hs 0).toList == []) = true := by rw [hs_zero, ByteArray.toList_eq]; rfl
  have hL0 : NL w w [] := NL.start w
  go_enter Tryz.func14, Tryz.ntmps14
  go_wp2_with fail
  with_reducible refine Calls.mono (P.out _) ?_
  rintro e x1 ⟨rfl, hb⟩
  replace hL0 := hL0.call hb
  clear hb P
  replace hL0 := (hL0.new rfl 0 32)
  generalize hweq : (x1.alloc (.cells #[.int .u64 ((lo 0 : Nat) : Int), .string (hs 0)] 32)) = x2 at hL0
  go_wp2_with fail
  with_reducible refine Calls.mono (R.out _) ?_
  rintro e x3 ⟨rfl, hb⟩
  replace hL0 := hL0.call hb
  clear hb R hweq
  obtain ⟨p1, r1⟩ := hL0.get (x1.heap.size) 0 (by (repeat (first | with_reducible exact List.mem_cons_self | with_reducible refine List.mem_cons_of_mem _ ?_)))
  go_wp2_with fail
  with_reducible refine Calls.mono (HW.out _ (htab.below hL0.bl)) ?_
  rintro e x4 ⟨rfl, hb⟩
  replace hL0 := hL0.call hb
  clear hb HW
  go_wp2_with fail
  exact bodyPost_ret (v := .bool true) (by simp [results, Tryz.results14, go_sem]) rfl ⟨rfl, hL0.bl⟩

set_option maxHeartbeats 4000000 in
set_option maxRecDepth 100000 in
theorem reads_bad (l : List UInt8) (h : l.length ≤ 4096) (hd : ¬ isDec l) (w : World) (htab : Tab w) :
    Calls Tryz.prog 14 #[.string (st l)] w fun e w' => e = .returned (.bool true) ∧ Below w.heap.size w w' := by
  have P := fun w => parse_form l h hd w
  have R : ∀ w, Calls Tryz.prog 72 #[.string (st l)] w fun e w' => e = .returned (.tuple #[.slice none 0 0, .int .i64 4]) ∧ Below w.heap.size w w' := fun w => (Rx.rparse_any l h w).mono fun e w' ⟨h1, h2⟩ => by
    rcases h1 with ⟨h1, -⟩ | ⟨-, h1⟩
    · exact absurd h1 hd
    · exact ⟨h1, h2⟩
  have k1 : decide ((4200 : Int) < ((st l).size : Int)) = false := decide_eq_false (by rw [st_size]; omega)
  have k2 : decide (4200 < (st l).size) = false := decide_eq_false (by rw [st_size]; omega)
  generalize st l = s at *
  replace P := Lib.hid P
  replace R := Lib.hid R
  clear h hd
  have HW := Lib.hid (fun w h => works_any w h)
  have z1 : (((lo 0 : Nat) : Int) == 0) = true := by rw [lo_zero]; rfl
  have z2 : ((hs 0).toList == []) = true := by rw [hs_zero, ByteArray.toList_eq]; rfl
  have hL0 : NL w w [] := NL.start w
  go_enter Tryz.func14, Tryz.ntmps14
  go_wp2_with fail
  with_reducible refine Calls.mono (P.out _) ?_
  rintro e x1 ⟨rfl, hb⟩
  replace hL0 := hL0.call hb
  clear hb P
  replace hL0 := (hL0.new rfl 0 32)
  generalize hweq : (x1.alloc (.cells #[.int .u64 ((lo 0 : Nat) : Int), .string (hs 0)] 32)) = x2 at hL0
  go_wp2_with fail
  with_reducible refine Calls.mono (R.out _) ?_
  rintro e x3 ⟨rfl, hb⟩
  replace hL0 := hL0.call hb
  clear hb R hweq
  obtain ⟨p2, r2⟩ := hL0.get (x1.heap.size) 0 (by (repeat (first | with_reducible exact List.mem_cons_self | with_reducible refine List.mem_cons_of_mem _ ?_)))
  go_wp2_with fail
  with_reducible refine Calls.mono (HW.out _ (htab.below hL0.bl)) ?_
  rintro e x4 ⟨rfl, hb⟩
  replace hL0 := hL0.call hb
  clear hb HW
  go_wp2_with fail
  exact bodyPost_ret (v := .bool true) (by simp [results, Tryz.results14, go_sem]) rfl ⟨rfl, hL0.bl⟩

set_option maxHeartbeats 4000000 in
set_option maxRecDepth 100000 in
theorem reads_good (l : List UInt8) (h : l.length ≤ 4096) (hd : isDec l) (w : World) (htab : Tab w) :
    Calls Tryz.prog 14 #[.string (st l)] w fun e w' => e = .returned (.bool true) ∧ Below w.heap.size w w' := by
  have P := fun w => parse_ok l h hd w
  have R : ∀ w, Calls Tryz.prog 72 #[.string (st l)] w fun e w' => ∃ v, e = .returned (.tuple #[v, .int .i64 0]) ∧ Rx.Rn w' v (dval l) ∧ Below w.heap.size w w' := fun w => (Rx.rparse_any l h w).mono fun e w' ⟨h1, h2⟩ => by
    rcases h1 with ⟨-, v, h3, h4⟩ | ⟨h1, -⟩
    · exact ⟨v, h3, h4, h2⟩
    · exact absurd hd h1
  have T := fun w ht => text_any (dval l) (Nat.le_trans (dval_digs hd.1) (by omega)) w ht
  have U := fun v w hv => Rx.rtext_any v (dval l) (Nat.le_trans (dval_td hd.1) (by omega)) w hv
  rw [dval_txt hd] at T U
  have k1 : decide ((4200 : Int) < ((st l).size : Int)) = false := decide_eq_false (by rw [st_size]; omega)
  have k2 : decide (4200 < (st l).size) = false := decide_eq_false (by rw [st_size]; omega)
  generalize dval l = d at *
  generalize st l = s at *
  replace P := Lib.hid P
  replace R := Lib.hid R
  replace T := Lib.hid T
  replace U := Lib.hid U
  clear h hd
  have HW := Lib.hid (fun w h => works_any w h)
  have hL0 : NL w w [] := NL.start w
  go_enter Tryz.func14, Tryz.ntmps14
  go_wp2_with fail
  with_reducible refine Calls.mono (P.out _) ?_
  rintro e x1 ⟨rfl, hb⟩
  replace hL0 := hL0.call hb
  clear hb P
  replace hL0 := (hL0.new rfl d 32)
  generalize hweq : (x1.alloc (.cells #[.int .u64 ((lo d : Nat) : Int), .string (hs d)] 32)) = x2 at hL0
  go_wp2_with fail
  with_reducible refine Calls.mono (R.out _) ?_
  rintro e x3 ⟨v5, rfl, h5, hb⟩
  replace hL0 := hL0.call hb
  clear hb R hweq
  replace h5 := Lib.hid h5
  obtain ⟨p3, r3⟩ := hL0.get (x1.heap.size) d (by (repeat (first | with_reducible exact List.mem_cons_self | with_reducible refine List.mem_cons_of_mem _ ?_)))
  go_wp2_with fail
  with_reducible refine Calls.mono (T.out _ (htab.below hL0.bl)) ?_
  rintro e x4 ⟨rfl, hb⟩
  replace hL0 := hL0.call hb
  replace h5 := Lib.hid (h5.out.below hb)
  clear hb T
  go_wp2_with fail
  with_reducible refine Calls.mono (U.out _ _ h5.out) ?_
  rintro e x5 ⟨rfl, hb⟩
  replace hL0 := hL0.call hb
  replace h5 := Lib.hid (h5.out.below hb)
  clear hb U
  go_wp2_with fail
  with_reducible refine Calls.mono (HW.out _ (htab.below hL0.bl)) ?_
  rintro e x6 ⟨rfl, hb⟩
  replace hL0 := hL0.call hb
  replace h5 := Lib.hid (h5.out.below hb)
  clear hb HW
  go_wp2_with fail
  exact bodyPost_ret (v := .bool true) (by simp [results, Tryz.results14, go_sem]) rfl ⟨rfl, hL0.bl⟩

theorem reads_any (s : ByteArray) (w : World) (htab : Tab w) :
    Calls Tryz.prog 14 #[.string s] w fun e w' => e = .returned (.bool true) ∧ Below w.heap.size w w' := by
  obtain ⟨l, rfl⟩ : ∃ l, s = st l := ⟨s.data.toList, by cases s; rfl⟩
  rcases Nat.lt_or_ge 4200 l.length with h1 | h1
  · exact reads_big l h1 w htab
  · rcases Nat.lt_or_ge 4096 l.length with h2 | h2
    · exact reads_long l h2 h1 w htab
    · by_cases hd : isDec l
      · exact reads_good l h2 hd w htab
      · exact reads_bad l h2 hd w htab
end Go.Proofs.YthehcjfmokabfaaGreatDoor

/-
  The reference of layer 1, walks J: Pow, Bits.
-/
namespace Go.Proofs.YthehcjfmokabfaaGreatDoor.Rx
open Go.RowKit
attribute [local irreducible] tv dg cmpI txt decB nb

theorem td_one : (td 1).length = 1 := by rw [td_pos (by omega), show 1 / 10000 = 0 by rfl, td_zero]; rfl
theorem td_pow_le {a K : Nat} (ha : (td a).length ≤ K) : ∀ i, (td (a ^ i)).length ≤ K * i + 1
  | 0 => by rw [Nat.pow_zero, td_one]; omega
  | i + 1 => by
    have := td_mul_le (td_pow_le ha i) ha
    rw [Nat.pow_succ, Nat.mul_succ]; omega

set_option maxHeartbeats 4000000 in
set_option maxRecDepth 100000 in
theorem rpow_any (v : Value) (a n K : Nat) (hK : (td a).length ≤ K) (hb : K * n + 1 ≤ 1000000) (hK2 : K ≤ 1000000) (hn : n ≤ 1000000) (w : World) (ha : Rn w v a) :
    Calls Tryz.prog 71 #[v, .int .i64 (n : Int)] w fun e w' => ∃ v', e = .returned v' ∧ Rn w' v' (a ^ n) ∧ Below w.heap.size w w' := by
  have O1 := Lib.hid (fun w => rof_val 1 1 rfl (by omega) w)
  have ht := fun i => td_pow_le hK i
  have hbi : ∀ i, i ≤ n → K * i + 1 ≤ 1000000 := fun i hi => Nat.le_trans (Nat.succ_le_succ (Nat.mul_le_mul_left K hi)) hb
  have M := Lib.hid (fun i (hi : i ≤ n) vx w' (hx : Rn w' vx (a ^ i)) (hv : Rn w' v a) => rmul_any vx v (a ^ i) a (Nat.le_trans (ht i) (hbi i hi)) (by omega) w' hx hv)
  replace ha := Lib.hid ha
  clear ht hbi
  go_enter Tryz.func71, Tryz.ntmps71
  go_wp2_with fail
  with_reducible refine Calls.mono (O1.out _) ?_
  rintro e w1 ⟨v1, rfl, hv1, hb1⟩
  have hv1' := Lib.hid hv1
  clear hv1
  go_wp2_with fail
  go_loopw [5, 6] (fun u j wr => ∃ i : Nat, i ≤ n ∧ j = .int .i64 (i : Int) ∧ Rn wr u (a ^ i) ∧ Below w.heap.size w wr) (fun _ j _ => n - (intOf j).toNat)
  case atStart => exact ⟨0, Nat.zero_le _, rfl, by rw [Nat.pow_zero]; exact hv1'.out, hb1⟩
  case round =>
    obtain ⟨i, hi, rfl, hu, hbl⟩ := hrel
    rcases Nat.lt_or_ge i n with hlt | hge
    · have k1 : (i : Int) < (n : Int) := by omega
      have hib : (i : Int) ≤ 1000000 := by omega
      replace hu := Lib.hid hu
      go_wp2_with fail
      with_reducible refine Calls.mono (M.out i hi _ _ hu.out (ha.out.below hbl)) ?_
      rintro e w2 ⟨v2, rfl, hv2, hb2⟩
      replace hv2 := Lib.hid hv2
      go_wp2_with fail
      go_roundw
      case rel => exact ⟨i + 1, hlt, by first | rfl | go_num, by rw [Nat.pow_succ]; exact hv2.out, hbl.trans (hb2.mono hbl.size)⟩
      case measure => simp [intOf]; omega
    · have k1 : ¬ (i : Int) < (n : Int) := by omega
      obtain rfl : i = n := by omega
      replace hu := Lib.hid hu
      go_wp2_with fail
      go_ret
      exact ⟨_, rfl, hu.out, hbl⟩

set_option maxHeartbeats 4000000 in
set_option maxRecDepth 100000 in
theorem rbits_any (v : Value) (a : Nat) (hl : (td a).length ≤ 1000) (hnb : nb a ≤ 1000000) (w : World) (ha : Rn w v a) :
    Calls Tryz.prog 70 #[v] w fun e w' => e = .returned (.int .i64 ((nb a : Nat) : Int)) ∧ Below w.heap.size w w' := by
  have O1 := Lib.hid (fun w => rof_val 1 1 rfl (by omega) w)
  have ht : ∀ i, i ≤ nb a → (td (2 ^ i)).length ≤ 1001 := fun i hi => by
    rcases Nat.eq_zero_or_pos i with h0 | h0
    · rw [h0, Nat.pow_zero, td_one]; omega
    · have hne : a ≠ 0 := fun e => by rw [e, nb_zero] at hi; omega
      obtain ⟨k, h1, h2, -⟩ := nb_spec hne
      have h3 : 2 ^ i ≤ a + a := by
        have : 2 ^ i ≤ 2 ^ (k + 1) := Nat.pow_le_pow_right (by omega) (by omega)
        rw [Nat.pow_succ] at this; omega
      exact Nat.le_trans (td_mono h3) (td_add_le hl hl)
  have A := Lib.hid (fun i (hi : i ≤ nb a) vx w' (hx : Rn w' vx (2 ^ i)) => radd_any vx vx (2 ^ i) (2 ^ i) (Nat.le_trans (ht i hi) (by omega)) (Nat.le_trans (ht i hi) (by omega)) w' hx hx)
  have C := Lib.hid (fun i (hi : i ≤ nb a) vx w' (hx : Rn w' vx (2 ^ i)) (hv : Rn w' v a) => rcmp_any vx v (2 ^ i) a (Nat.le_trans (ht i hi) (by omega)) (by omega) w' hx hv)
  have hlow : ∀ i, i < nb a → 2 ^ i ≤ a := fun i hi => by
    have hne : a ≠ 0 := fun e => by rw [e, nb_zero] at hi; omega
    obtain ⟨k, h1, h2, -⟩ := nb_spec hne
    exact Nat.le_trans (Nat.pow_le_pow_right (by omega) (show i ≤ k by omega)) h2
  have hhigh := nb_lt a
  replace hlow := Lib.hid hlow
  replace hhigh := Lib.hid hhigh
  replace ha := Lib.hid ha
  clear ht
  obtain ⟨n, hn⟩ : ∃ n, n = nb a := ⟨_, rfl⟩
  rw [← hn] at A C hlow hhigh hnb ⊢
  clear hn
  go_enter Tryz.func70, Tryz.ntmps70
  go_wp2_with fail
  with_reducible refine Calls.mono (O1.out _) ?_
  rintro e w1 ⟨v1, rfl, hv1, hb1⟩
  have hv1' := Lib.hid hv1
  clear hv1
  go_wp2_with fail
  go_loopw [3, 4] (fun j u wr => ∃ i : Nat, i ≤ n ∧ j = .int .i64 (i : Int) ∧ Rn wr u (2 ^ i) ∧ Below w.heap.size w wr) (fun j _ _ => n - (intOf j).toNat)
  case atStart => exact ⟨0, Nat.zero_le _, rfl, by rw [Nat.pow_zero]; exact hv1'.out, hb1⟩
  case round =>
    obtain ⟨i, hi, rfl, hu, hbl⟩ := hrel
    replace hu := Lib.hid hu
    have hib : (i : Int) ≤ 1000000 := by omega
    rcases Nat.lt_or_ge i n with hlt | hge
    · have k1 : decide (cmpI (2 ^ i) a ≤ 0) = true := decide_eq_true (by have := hlow.out i hlt; unfold cmpI; split <;> (try split) <;> omega)
      have C1 := Lib.hid (fun vx w' hx hv => C.out i hi vx w' hx hv)
      generalize cmpI (2 ^ i) a = z at *
      go_wp2_with fail
      with_reducible refine Calls.mono (C1.out _ _ hu.out (ha.out.below hbl)) ?_
      rintro e w2 ⟨rfl, hb2⟩
      have hu2 := Lib.hid (hu.out.below hb2)
      have hbl2 := hbl.trans (hb2.mono hbl.size)
      clear hb2
      go_wp2_with fail
      with_reducible refine Calls.mono (A.out i hi _ _ hu2.out) ?_
      rintro e w3 ⟨v3, rfl, hv3, hb3⟩
      replace hv3 := Lib.hid hv3
      go_wp2_with fail
      go_roundw
      case rel => exact ⟨i + 1, hlt, by first | rfl | go_num, by rw [Nat.pow_succ, Nat.mul_two]; exact hv3.out, hbl2.trans (hb3.mono hbl2.size)⟩
      case measure => simp [intOf]; omega
    · obtain rfl : i = n := by omega
      have k1 : decide (cmpI (2 ^ i) a ≤ 0) = false := decide_eq_false (by rw [cmpI_gt hhigh.out]; omega)
      have C1 := Lib.hid (fun vx w' hx hv => C.out i hi vx w' hx hv)
      generalize cmpI (2 ^ i) a = z at *
      go_wp2_with fail
      with_reducible refine Calls.mono (C1.out _ _ hu.out (ha.out.below hbl)) ?_
      rintro e w2 ⟨rfl, hb2⟩
      have hbl2 := hbl.trans (hb2.mono hbl.size)
      clear hb2
      go_wp2_with fail
      go_ret
      exact ⟨rfl, hbl2⟩
end Go.Proofs.YthehcjfmokabfaaGreatDoor.Rx

/-
  The reference of layer 1, walks K: Sqrt.
-/
namespace Go.Proofs.YthehcjfmokabfaaGreatDoor.Rx
open Go.RowKit
attribute [local irreducible] tv dg cmpI txt decB nb isq

/-- What the root's digits so far are good for. -/
structure SqS (a j : Nat) (X : List Nat) : Prop where
  lt : ∀ d ∈ X, d < 10000
  zero : ∀ (k : Nat) (h : k < X.length), k < j → X[k] = 0
  low : tv X * tv X ≤ a
  high : a < (tv X + 10000 ^ j) * (tv X + 10000 ^ j)
theorem SqS.start (a m : Nat) (h : (td a).length ≤ 2 * m) : SqS a m (List.replicate m 0) := by
  refine ⟨fun d hd => by rw [(List.mem_replicate.1 hd).2]; omega, fun k h _ => by simp, by rw [tv_zeros]; omega, ?_⟩
  have := td_length.1 h
  rwa [tv_zeros, Nat.zero_add, ← Nat.pow_add, ← Nat.two_mul]
theorem tv_set0 {X : List Nat} {i : Nat} (h : i < X.length) (h0 : X[i] = 0) (d : Nat) : tv (X.set i d) = tv X + 10000 ^ i * d := by
  have := tv_set h d
  rw [h0, Nat.mul_zero, Nat.add_zero] at this
  exact this
theorem SqS.set {a i : Nat} {X : List Nat} (h : SqS a (i + 1) X) (hi : i < X.length) {d : Nat} (hd : d < 10000) (h1 : (tv X + 10000 ^ i * d) * (tv X + 10000 ^ i * d) ≤ a) (h2 : a < (tv X + 10000 ^ i * (d + 1)) * (tv X + 10000 ^ i * (d + 1))) :
    SqS a i (X.set i d) := by
  have e := tv_set0 hi (h.zero i hi (by omega)) d
  refine ⟨fun x hx => ?_, fun k hk hki => ?_, by rw [e]; exact h1, ?_⟩
  · rcases List.mem_or_eq_of_mem_set hx with hx | hx
    · exact h.lt x hx
    · rw [hx]; exact hd
  · rw [List.getElem_set_ne (by omega)]
    exact h.zero k (by rw [List.length_set] at hk; exact hk) (by omega)
  · rw [e, Nat.add_assoc, ← Nat.mul_succ]
    exact h2
theorem SqS.done {a : Nat} {X : List Nat} (h : SqS a 0 X) : tv X = isq a := isq_uniq h.low (by have := h.high; rwa [Nat.pow_zero] at this)

set_option maxHeartbeats 8000000 in
set_option maxRecDepth 100000 in
theorem rsqrt_any (v : Value) (a : Nat) (hl : (td a).length ≤ 1000) (w : World) (ha : Rn w v a) :
    Calls Tryz.prog 69 #[v] w fun e w' => ∃ v', e = .returned v' ∧ Rn w' v' (isq a) ∧ Below w.heap.size w w' := by
  obtain ⟨i0, hi, hz0, hz1, hz2⟩ := info_parts Tryz.infoI
  obtain ⟨ao, ca, ea⟩ := ha.form
  subst ea
  obtain ⟨L, hL⟩ : ∃ L, L = (td a).length := ⟨_, rfl⟩
  obtain ⟨m, hm⟩ : ∃ m, m = (L + 1) / 2 := ⟨_, rfl⟩
  have hst := SqS.start a m (by omega)
  rw [← hL] at hl ha ⊢
  have hmk : ∀ w, (Instr.makeSlice 42 (.int .i64 (((L : Int) + 1) / 2)) (.int .i64 (((L : Int) + 1) / 2))).run Tryz.prog w = .ok (.slice (some ⟨w.heap.size, 0, none⟩) m m) (w.alloc (zobjI m)) :=
    fun w => makeN w _ m (by omega) (by omega)
  have hz := Lib.hid (IB.zeros w m)
  have hmL : m ≤ 501 := by omega
  have hta : (td a).length ≤ 1000 := by rw [← hL]; exact hl
  replace hst := Lib.hid hst
  replace ha := Lib.hid ha
  replace hL := Lib.hid hL
  replace hm := Lib.hid hm
  replace hta := Lib.hid hta
  go_enter Tryz.func69, Tryz.ntmps69
  go_wp2_with fail
  go_loopw [4] (fun z wr => ∃ (j : Nat) (X : List Nat), z = .int .i64 ((j : Int) - 1) ∧ j ≤ m ∧ X.length = m ∧ SqS a j X ∧ IB wr w.heap.size X ∧ Below w.heap.size w wr) (fun z _ => (intOf z + 1).toNat)
  case atStart => exact ⟨m, _, by first | rfl | go_num, Nat.le_refl _, List.length_replicate, hst.out, hz.out, (Below.refl _ _).alloc (Nat.le_refl _) _⟩
  case round =>
    obtain ⟨j, X, rfl, hj, hXl, hS, hX, hbl⟩ := hrel
    clear hmk hz hst
    cases j with
    | zero =>
      have HT := trim_any _ X hS.lt (by rw [hXl]; omega) wr (hX.sl m (by omega))
      rw [hS.done, hXl] at HT
      replace HT := Lib.hid HT
      clear hS hX hXl
      go_wp2_with fail
      with_reducible refine Calls.mono HT.out ?_
      rintro e w1 ⟨v', rfl, hv, rfl⟩
      replace hv := Lib.hid hv
      go_wp2_with fail
      go_ret
      exact ⟨_, rfl, hv.out, hbl⟩
    | succ i =>
      have him : i < m := by omega
      have e1 : (((i + 1 : Nat) : Int) - 1) = (i : Int) := by omega
      have k1 : (i : Int) < (m : Int) := by omega
      have hib : (i : Int) ≤ 501 := by omega
      rw [e1]
      replace hXl := Lib.hid hXl
      have hlo : (tv X + 10000 ^ i * 0) * (tv X + 10000 ^ i * 0) ≤ a := by rw [Nat.mul_zero, Nat.add_zero]; exact hS.low
      have hhi : a < (tv X + 10000 ^ i * (9999 + 1)) * (tv X + 10000 ^ i * (9999 + 1)) := by have := hS.high; rwa [Nat.pow_succ] at this
      replace hS := Lib.hid hS
      replace hX := Lib.hid hX
      replace hlo := Lib.hid hlo
      replace hhi := Lib.hid hhi
      go_wp2_with fail
      go_loopw [5, 6] (fun lv hv wx => ∃ (l h : Nat), lv = .int .i64 (l : Int) ∧ hv = .int .i64 (h : Int) ∧ l ≤ h ∧ h ≤ 9999 ∧ (tv X + 10000 ^ i * l) * (tv X + 10000 ^ i * l) ≤ a ∧ a < (tv X + 10000 ^ i * (h + 1)) * (tv X + 10000 ^ i * (h + 1)) ∧ IB wx w.heap.size X ∧ Below w.heap.size w wx) (fun lv hv _ => (intOf hv - intOf lv).toNat)
      case atStart => exact ⟨0, 9999, rfl, rfl, by omega, Nat.le_refl _, hlo.out, hhi.out, hX.out, hbl⟩
      case round =>
        obtain ⟨l, h, rfl, rfl, hlh, hh9, hq1, hq2, hXb, hbl2⟩ := hrel
        replace hq1 := Lib.hid hq1
        replace hq2 := Lib.hid hq2
        have hcf := hXb.frozen i
        have hcc := hXb.cell i (by rw [hXl.out]; exact him)
        rcases Nat.lt_or_ge l h with hlt | hge
        · have k2 : (l : Int) < (h : Int) := by omega
          obtain ⟨mid, hmid⟩ : ∃ mid, mid = (l + h + 1) / 2 := ⟨_, rfl⟩
          have hmv : ((l : Int) + (h : Int) + 1) / 2 = (mid : Int) := by omega
          have hm1 : l < mid := by omega
          have hm2 : mid ≤ h := by omega
          replace hmid := Lib.hid hmid
          have hnews : ∀ (j : Nat) (u : Value), (X.map iv)[j]? = some u → (wr.alloc (.cells #[] 3)).cell? ((⟨w.heap.size, 0, none⟩ : Addr).add j) = some u := by
            intro j u hju
            rw [List.getElem?_map] at hju
            obtain ⟨x, hx, rfl⟩ := Option.map_eq_some_iff.1 hju
            obtain ⟨hjl, rfl⟩ := List.getElem?_eq_some_iff.1 hx
            rw [add0, World.cell?_alloc_lt _ _ _ hXb.lt]
            exact hXb.cell j hjl
          have hone : ∀ u ∈ X.map iv, u.oneCell' = true := fun u hu => by
            obtain ⟨x, -, rfl⟩ := List.mem_map.1 hu
            rfl
          have hlen : (X.map iv).length = m * 1 := by rw [List.length_map, hXl.out, Nat.mul_one]
          have hXi0 : X[i]'(by rw [hXl.out]; exact him) = 0 := hS.out.zero i (by rw [hXl.out]; exact him) (by omega)
          have hyv : tv (X.set i mid) = tv X + 10000 ^ i * mid := tv_set0 (by rw [hXl.out]; exact him) hXi0 mid
          have hXm : ∀ d ∈ X.set i mid, d < 10000 := fun x hx => by
            rcases List.mem_or_eq_of_mem_set hx with hx | hx
            · exact hS.out.lt x hx
            · omega
          have hsl : (X.set i mid).length = m := by rw [List.length_set]; exact hXl.out
          have htdy : (td (tv (X.set i mid))).length ≤ m := td_length.2 (by have := tv_lt hXm; rwa [hsl] at this)
          have hmap : (X.map iv).set i (.int .i64 (mid : Int)) = (X.set i mid).map iv := by rw [List.map_set]
          have hci : (X.map iv)[i]? = some (.int .i64 0) := by rw [List.getElem?_map, List.getElem?_eq_getElem (by rw [hXl.out]; exact him), Option.map_some, hXi0]; rfl
          obtain ⟨y, hy⟩ : ∃ y, y = tv X + 10000 ^ i * mid := ⟨_, rfl⟩
          rw [hyv, ← hy] at htdy
          rw [← hy] at hyv
          have T := Lib.hid (fun (g' cap : Nat) (wx : World) (h : Sl wx (.slice (some ⟨g', 0, none⟩) (X.set i mid).length cap) (X.set i mid)) => trim_any (.slice (some ⟨g', 0, none⟩) (X.set i mid).length cap) (X.set i mid) hXm (by rw [hsl]; omega) wx h)
          rw [hyv, hsl] at T
          have M := Lib.hid (fun vx wx (h : Rn wx vx y) => rmul_any vx vx y y (by omega) (by omega) wx h h)
          have C := Lib.hid (fun vx wx (h : Rn wx vx (y * y)) (h2 : Rn wx (.slice ao L ca) a) => rcmp_any vx (.slice ao L ca) (y * y) a (Nat.le_trans (td_mul_le htdy htdy) (by omega)) (Nat.le_trans hta.out (by omega)) wx h h2)
          have hmidy : mid = (mid - 1) + 1 := by omega
          replace hnews := Lib.hid hnews
          replace hone := Lib.hid hone
          replace hlen := Lib.hid hlen
          replace hmap := Lib.hid hmap
          replace hy := Lib.hid hy
          replace hmidy := Lib.hid hmidy
          have hsl' := Lib.hid hsl
          have hlt8 := hXb.lt
          replace hXb := Lib.hid hXb
          clear hXi0 hyv hXm hsl htdy hcf hcc
          replace hci := Lib.hid hci
          replace hmv := Lib.hid hmv
          go_wp2_with (at_builtin; refine wpList_append_own _ rfl _ _ 42 rfl wr.heap.size 3 i0 (.int .i64 0) 1 8 Tryz.underlying42 hi hz0 hz1 hz2 rfl (by decide) _ _ _ rfl (World.ownsRow_made wr #[] 0 (Nat.le_refl _) (Nat.zero_le _) rfl) ⟨w.heap.size, 0, none⟩ m m (X.map iv) rfl hlen.out hnews.out hone.out (by unfold maxLen; omega) (by omega) (by simp) ?_)
          rw [hmv.out]
          intro v' w1 hown' hgrow _
          try simp only [Nat.zero_add, List.nil_append] at hown'
          have hw1 : Below wr.heap.size wr w1 := ((Below.refl _ _).alloc (Nat.le_refl _) _).grown hgrow (by simp) (fun j hj => by simp [Value.ownBlock] at hj; omega)
          rcases hown'.2 with ⟨-, h0⟩ | ⟨g', cap', cur, rfl, hg', -⟩
          · omega
          have hc1 := (hown'.cellAt i (by omega)).trans hci.out
          have hf1 := hown'.frozenAt i
          have hst := (hown'.stored i (.int .i64 (mid : Int))).1
          rw [hmap.out] at hst
          have hsx := Lib.hid (Sl.owned hst hsl'.out.symm)
          have hb1 := hw1.setCell (p := ⟨g', i, none⟩) hg' (.int .i64 (mid : Int))
          generalize hW : w1.setCell ⟨g', i, none⟩ (.int .i64 (mid : Int)) = W at hsx hb1
          clear hst hown' hgrow hw1
          go_wp2_with fail
          with_reducible refine Calls.mono (T.out g' cap' W hsx.out) ?_
          rintro e w2 ⟨v2, rfl, hv2, rfl⟩
          replace hv2 := Lib.hid hv2
          clear hW hc1 hf1
          go_wp2_with fail
          with_reducible refine Calls.mono (M.out _ _ hv2.out) ?_
          rintro e w3 ⟨v3, rfl, hv3, hb3⟩
          replace hv3 := Lib.hid hv3
          have hB3 := hb1.trans (hb3.mono hb1.size)
          have hD3 := hbl2.trans (hB3.mono hbl2.size)
          by_cases hle : y * y ≤ a
          · have k3 : decide (cmpI (y * y) a ≤ 0) = true := decide_eq_true (by unfold cmpI; split <;> (try split) <;> omega)
            have C1 := Lib.hid (fun vx wx h h2 => C.out vx wx h h2)
            replace hle := Lib.hid hle
            generalize cmpI (y * y) a = z at *
            go_wp2_with fail
            with_reducible refine Calls.mono (C1.out _ _ hv3.out (ha.out.below hD3)) ?_
            rintro e w4 ⟨rfl, hb4⟩
            have hB4 := hB3.trans (hb4.mono hB3.size)
            have hD4 := hD3.trans (hb4.mono hD3.size)
            clear hb4 hb3 hB3 hD3 hb1
            go_wp2_with fail
            go_roundw
            case rel => exact ⟨mid, h, rfl, rfl, hm2, hh9, (by rw [← hy.out]; exact hle.out), hq2.out, hXb.out.below hB4 hlt8, hD4⟩
            case measure => simp [intOf]; omega
          · have k3 : decide (cmpI (y * y) a ≤ 0) = false := decide_eq_false (by rw [cmpI_gt (by omega)]; omega)
            have C1 := Lib.hid (fun vx wx h h2 => C.out vx wx h h2)
            replace hle := Lib.hid hle
            generalize cmpI (y * y) a = z at *
            go_wp2_with fail
            with_reducible refine Calls.mono (C1.out _ _ hv3.out (ha.out.below hD3)) ?_
            rintro e w4 ⟨rfl, hb4⟩
            have hB4 := hB3.trans (hb4.mono hB3.size)
            have hD4 := hD3.trans (hb4.mono hD3.size)
            clear hb4 hb3 hB3 hD3 hb1
            go_wp2_with fail
            go_roundw
            case rel => exact ⟨l, mid - 1, rfl, by first | rfl | go_num, by omega, by omega, hq1.out, (by rw [← hmidy.out, ← hy.out]; have := hle.out; omega), hXb.out.below hB4 hlt8, hD4⟩
            case measure => simp [intOf]; omega
        · obtain rfl : l = h := by omega
          have k2 : ¬ (l : Int) < (l : Int) := by omega
          have hnx := Lib.hid (hS.out.set (by rw [hXl.out]; exact him) (by omega) hq1.out hq2.out)
          have hXs := Lib.hid (hXb.set i l)
          clear hXb hq1 hq2
          go_wp2_with fail
          go_roundw
          case rel => exact ⟨i, X.set i l, by first | rfl | go_num, by omega, by rw [List.length_set]; exact hXl.out, hnx.out, hXs.out, hbl2.setCell (Nat.le_refl _) _⟩
          case measure => simp [intOf]
end Go.Proofs.YthehcjfmokabfaaGreatDoor.Rx

/-
  Layer 1, law I: NatsRoots.
-/
namespace Go.Proofs.YthehcjfmokabfaaGreatDoor
open Go.RowKit
attribute [local irreducible] lo hs sm s64 c64 d64 b64 mh ml pd pc qd qc val hiB str cmpI srD lz nb isq decB txt

set_option maxHeartbeats 4000000 in
set_option maxRecDepth 100000 in
theorem roots_big (ax : Option Addr) (cx nx : Nat) (n : Int) (h : 12 < nx) (w : World) (htab : Tab w) :
    Calls Tryz.prog 13 #[.slice ax nx cx, .int .i64 n] w fun e w' => e = .returned (.bool true) ∧ Below w.heap.size w w' := by
  have HW := Lib.hid (works_any w htab)
  have k0 : decide ((12 : Int) < (nx : Int)) = true := decide_eq_true (by omega)
  clear h
  go_enter Tryz.func13, Tryz.ntmps13
  go_wp2_with fail
  with_reducible refine Calls.mono HW.out ?_
  rintro e w1 ⟨rfl, hb⟩
  go_wp2_with fail
  exact bodyPost_ret (v := .bool true) (by simp [results, Tryz.results13, go_sem]) rfl ⟨rfl, hb⟩

theorem digs_pow_le {a K : Nat} (ha : (digs a).length ≤ K) : ∀ i, (digs (a ^ i)).length ≤ K * i + 1
  | 0 => by
    have : (digs 1).length ≤ 1 := digs_length_iff.2 (by rw [Nat.pow_one]; unfold Bs; omega)
    rw [Nat.pow_zero]; omega
  | i + 1 => by
    have := digs_mul_le (digs_pow_le ha i) ha
    rw [Nat.pow_succ, Nat.mul_succ]; omega
theorem roots_cases (n : Int) (b L : Nat) : n < 0 ∨ 4096 < n ∨ (∃ k : Nat, n = (k : Int) ∧ 0 < k ∧ k ≤ 4096 ∧ 262144 < k * b) ∨ (∃ k : Nat, n = (k : Int) ∧ 0 < k ∧ k ≤ 4096 ∧ ¬ 262144 < k * b ∧ (20 < k ∨ (k ≤ 20 ∧ 4 < L))) ∨ (∃ k : Nat, n = (k : Int) ∧ 0 < k ∧ k ≤ 20 ∧ ¬ 262144 < k * b ∧ L ≤ 4) ∨ (n = 0 ∧ 4 < L) ∨ (n = 0 ∧ L ≤ 4) := by
  by_cases h1 : n < 0
  · exact .inl h1
  by_cases h2 : 4096 < n
  · exact .inr (.inl h2)
  by_cases h3 : n = 0
  · subst h3
    by_cases h4 : 4 < L
    · exact .inr (.inr (.inr (.inr (.inr (.inl ⟨rfl, h4⟩)))))
    · exact .inr (.inr (.inr (.inr (.inr (.inr ⟨rfl, by omega⟩)))))
  obtain ⟨k, rfl⟩ := Int.eq_ofNat_of_zero_le (show 0 ≤ n by omega)
  by_cases h4 : 262144 < k * b
  · exact .inr (.inr (.inl ⟨k, rfl, by omega, by omega, h4⟩))
  by_cases h5 : 20 < k
  · exact .inr (.inr (.inr (.inl ⟨k, rfl, by omega, by omega, h4, .inl h5⟩)))
  by_cases h6 : 4 < L
  · exact .inr (.inr (.inr (.inl ⟨k, rfl, by omega, by omega, h4, .inr ⟨by omega, h6⟩⟩)))
  · exact .inr (.inr (.inr (.inr (.inl ⟨k, rfl, by omega, by omega, h4, by omega⟩))))

set_option maxHeartbeats 16000000 in
set_option maxRecDepth 1000000 in
theorem roots_small (vx : Value) (lx : List Nat) (n : Int) (hn63 : n < 9223372036854775808) (w : World) (htab : Tab w) (hx : Ws w vx lx) (nx : lx.length ≤ 12) :
    Calls Tryz.prog 13 #[vx, .int .i64 n] w fun e w' => e = .returned (.bool true) ∧ Below w.heap.size w w' := by
  have MX := fun w h => made_any vx lx (by omega) w h
  have RX := fun w h => Rx.rofw_any vx lx (by omega) w h
  obtain ⟨ax, cx, ex⟩ := hx.form
  have dx := made_digs hx.lt
  have tx := Rx.td_made hx.lt
  subst ex
  have kx : decide ((12 : Int) < (lx.length : Int)) = false := decide_eq_false (by omega)
  generalize made lx = a at *
  replace hx := Lib.hid hx
  replace MX := Lib.hid MX
  replace RX := Lib.hid RX
  generalize lx.length = Nx at *
  have nba := nb_len (Nat.le_trans dx nx)
  obtain ⟨b, hb0⟩ : ∃ b, b = nb a := ⟨_, rfl⟩
  have Q := fun w => sqrt_all a (by omega) w
  have RQ := fun v w hv => Rx.rsqrt_any v a (by omega) w hv
  have hra : isq a ≤ a := Nat.le_trans (Nat.le_mul_self _) (isq_spec a).1
  have SMr := fun v w ht hv => Rx.same_any (isq a) v (Nat.le_trans (digs_mono hra) (by omega)) (Nat.le_trans (Rx.td_mono hra) (by omega)) w ht hv
  have BB := fun w => bits_any a (by omega) w
  have RB := fun v w hv => Rx.rbits_any v a (by omega) (by omega) w hv
  have PO := fun k h1 h2 h3 w => pow_over a k h1 h2 h3 (by omega) w
  have POK := fun k h1 h2 w => pow_ok a k h1 h2 (by omega) w
  have hdp : ∀ k, k ≤ 20 → Nx ≤ 4 → (digs (a ^ k)).length ≤ 81 := fun k hk hN => Nat.le_trans (digs_pow_le (K := 4) (Nat.le_trans dx hN) k) (by omega)
  have RP := fun v k (hk : k ≤ 20) w hv => Rx.rpow_any v a k 36 (by omega) (by omega) (by omega) (by omega) w hv
  have SMp := fun k (hk : k ≤ 20) (hN : Nx ≤ 4) v w ht hv => Rx.same_any (a ^ k) v (Nat.le_trans (hdp k hk hN) (by omega)) (Nat.le_trans (Rx.td_pow_le (K := 36) (by omega) k) (by omega)) w ht hv
  have hcases := roots_cases n b Nx
  rw [← hb0] at BB RB PO POK nba
  clear hb0 hra hdp
  generalize isq a = r at *
  have HW := Lib.hid (fun w h => works_any w h)
  replace hn63 := Lib.hid hn63
  replace Q := Lib.hid Q
  replace RQ := Lib.hid RQ
  replace SMr := Lib.hid SMr
  replace BB := Lib.hid BB
  replace RB := Lib.hid RB
  replace PO := Lib.hid PO
  replace POK := Lib.hid POK
  replace RP := Lib.hid RP
  replace SMp := Lib.hid SMp
  replace dx := Lib.hid dx
  replace tx := Lib.hid tx
  have hL0 : NL w w [] := NL.start w
  rcases hcases with c1 | c1 | ⟨k, rfl, c1, c2, c3⟩ | ⟨k, rfl, c1, c2, c3, c4⟩ | ⟨k, rfl, c1, c2, c3, c4⟩ | ⟨rfl, c4⟩ | ⟨rfl, c4⟩
  · have P := Lib.hid (fun w => pow_neg a n c1 w)
    have d1 : ¬ (0 : Int) < n := by omega
    have d2 : ¬ (20 : Int) < n := by omega
    have d3 : ¬ (0 : Int) ≤ n := by omega
    go_enter Tryz.func13, Tryz.ntmps13
    go_wp2_with fail
    with_reducible refine Calls.mono (MX.out _ (hx.out.below hL0.bl)) ?_
    rintro e x1 ⟨rfl, hb⟩
    replace hL0 := hL0.call hb
    clear hb MX
    go_wp2_with fail
    with_reducible refine Calls.mono (RX.out _ (hx.out.below hL0.bl)) ?_
    rintro e x2 ⟨v6, rfl, h6, hb⟩
    replace hL0 := hL0.call hb
    clear hb RX
    replace h6 := Lib.hid h6
    replace h6 := Lib.hid (h6.out.below (below1 _ (.cells #[.int .u64 ((lo a : Nat) : Int), .string (hs a)] 32)))
    replace hL0 := (hL0.new rfl a 32)
    generalize hweq : (x2.alloc (.cells #[.int .u64 ((lo a : Nat) : Int), .string (hs a)] 32)) = x3 at hL0 h6
    obtain ⟨p1, r1⟩ := hL0.get (x2.heap.size) a (by (repeat (first | with_reducible exact List.mem_cons_self | with_reducible refine List.mem_cons_of_mem _ ?_)))
    go_wp2_with fail
    with_reducible refine Calls.mono (Q.out _) ?_
    rintro e x4 ⟨rfl, hb⟩
    replace hL0 := hL0.call hb
    replace h6 := Lib.hid (h6.out.below hb)
    clear hb Q hweq
    go_wp2_with fail
    with_reducible refine Calls.mono (RQ.out _ _ h6.out) ?_
    rintro e x5 ⟨v21, rfl, h21, hb⟩
    replace hL0 := hL0.call hb
    replace h6 := Lib.hid (h6.out.below hb)
    clear hb RQ
    replace h21 := Lib.hid h21
    go_wp2_with fail
    with_reducible refine Calls.mono (SMr.out _ _ (htab.below hL0.bl) h21.out) ?_
    rintro e x6 ⟨rfl, hb⟩
    replace hL0 := hL0.call hb
    replace h6 := Lib.hid (h6.out.below hb)
    clear hb SMr
    clear h21
    obtain ⟨p2, r2⟩ := hL0.get (x2.heap.size) a (by (repeat (first | with_reducible exact List.mem_cons_self | with_reducible refine List.mem_cons_of_mem _ ?_)))
    go_wp2_with fail
    with_reducible refine Calls.mono (BB.out _) ?_
    rintro e x7 ⟨rfl, hb⟩
    replace hL0 := hL0.call hb
    replace h6 := Lib.hid (h6.out.below hb)
    clear hb BB
    go_wp2_with fail
    with_reducible refine Calls.mono (RB.out _ _ h6.out) ?_
    rintro e x8 ⟨rfl, hb⟩
    replace hL0 := hL0.call hb
    replace h6 := Lib.hid (h6.out.below hb)
    clear hb
    obtain ⟨p3, r3⟩ := hL0.get (x2.heap.size) a (by (repeat (first | with_reducible exact List.mem_cons_self | with_reducible refine List.mem_cons_of_mem _ ?_)))
    go_wp2_with fail
    with_reducible refine Calls.mono (P.out _) ?_
    rintro e x9 ⟨rfl, hb⟩
    replace hL0 := hL0.call hb
    replace h6 := Lib.hid (h6.out.below hb)
    clear hb P
    replace h6 := Lib.hid (h6.out.below (below1 _ (.cells #[.int .u64 ((lo 0 : Nat) : Int), .string (hs 0)] 32)))
    replace hL0 := (hL0.new rfl 0 32)
    generalize hweq : (x9.alloc (.cells #[.int .u64 ((lo 0 : Nat) : Int), .string (hs 0)] 32)) = x10 at hL0 h6
    have z1 : (((lo 0 : Nat) : Int) == 0) = true := by rw [lo_zero]; rfl
    have z2 : ((hs 0).toList == []) = true := by rw [hs_zero, ByteArray.toList_eq]; rfl
    obtain ⟨p4, r4⟩ := hL0.get (x9.heap.size) 0 (by (repeat (first | with_reducible exact List.mem_cons_self | with_reducible refine List.mem_cons_of_mem _ ?_)))
    go_wp2_with fail
    with_reducible refine Calls.mono (HW.out _ (htab.below hL0.bl)) ?_
    rintro e x11 ⟨rfl, hb⟩
    replace hL0 := hL0.call hb
    replace h6 := Lib.hid (h6.out.below hb)
    clear hb HW hweq
    go_wp2_with fail
    exact bodyPost_ret (v := .bool true) (by simp [results, Tryz.results13, go_sem]) rfl ⟨rfl, hL0.bl⟩
  · obtain ⟨k, rfl⟩ := Int.eq_ofNat_of_zero_le (show 0 ≤ n by omega)
    have P := Lib.hid (fun w => pow_great a k (by omega) (by have := hn63.out; omega) w)
    skip
    have bq00 : decide ((0 : Int) < (k : Int)) = true := decide_eq_true (by omega)
    have bq01 : decide (0 < k) = true := decide_eq_true (by omega)
    have bq10 : decide ((k : Int) ≤ (4096 : Int)) = false := decide_eq_false (by omega)
    have bq11 : decide (k ≤ 4096) = false := decide_eq_false (by omega)
    have bq20 : decide ((20 : Int) < (k : Int)) = true := decide_eq_true (by omega)
    have bq21 : decide (20 < k) = true := decide_eq_true (by omega)
    have bq30 : decide ((4096 : Int) < (k : Int)) = true := decide_eq_true (by omega)
    have bq31 : decide (4096 < k) = true := decide_eq_true (by omega)
    replace c1 := Lib.hid c1
    have bz : decide ((k : Int) < 0) = false := decide_eq_false (by omega)
    have bz2 : decide ((0 : Int) ≤ (k : Int)) = true := decide_eq_true (by omega)
    go_enter Tryz.func13, Tryz.ntmps13
    go_wp2_with fail
    with_reducible refine Calls.mono (MX.out _ (hx.out.below hL0.bl)) ?_
    rintro e x1 ⟨rfl, hb⟩
    replace hL0 := hL0.call hb
    clear hb MX
    go_wp2_with fail
    with_reducible refine Calls.mono (RX.out _ (hx.out.below hL0.bl)) ?_
    rintro e x2 ⟨v6, rfl, h6, hb⟩
    replace hL0 := hL0.call hb
    clear hb RX
    replace h6 := Lib.hid h6
    replace h6 := Lib.hid (h6.out.below (below1 _ (.cells #[.int .u64 ((lo a : Nat) : Int), .string (hs a)] 32)))
    replace hL0 := (hL0.new rfl a 32)
    generalize hweq : (x2.alloc (.cells #[.int .u64 ((lo a : Nat) : Int), .string (hs a)] 32)) = x3 at hL0 h6
    obtain ⟨p5, r5⟩ := hL0.get (x2.heap.size) a (by (repeat (first | with_reducible exact List.mem_cons_self | with_reducible refine List.mem_cons_of_mem _ ?_)))
    go_wp2_with fail
    with_reducible refine Calls.mono (Q.out _) ?_
    rintro e x4 ⟨rfl, hb⟩
    replace hL0 := hL0.call hb
    replace h6 := Lib.hid (h6.out.below hb)
    clear hb Q hweq
    go_wp2_with fail
    with_reducible refine Calls.mono (RQ.out _ _ h6.out) ?_
    rintro e x5 ⟨v21, rfl, h21, hb⟩
    replace hL0 := hL0.call hb
    replace h6 := Lib.hid (h6.out.below hb)
    clear hb RQ
    replace h21 := Lib.hid h21
    go_wp2_with fail
    with_reducible refine Calls.mono (SMr.out _ _ (htab.below hL0.bl) h21.out) ?_
    rintro e x6 ⟨rfl, hb⟩
    replace hL0 := hL0.call hb
    replace h6 := Lib.hid (h6.out.below hb)
    clear hb SMr
    clear h21
    obtain ⟨p6, r6⟩ := hL0.get (x2.heap.size) a (by (repeat (first | with_reducible exact List.mem_cons_self | with_reducible refine List.mem_cons_of_mem _ ?_)))
    go_wp2_with fail
    with_reducible refine Calls.mono (BB.out _) ?_
    rintro e x7 ⟨rfl, hb⟩
    replace hL0 := hL0.call hb
    replace h6 := Lib.hid (h6.out.below hb)
    clear hb BB
    go_wp2_with fail
    with_reducible refine Calls.mono (RB.out _ _ h6.out) ?_
    rintro e x8 ⟨rfl, hb⟩
    replace hL0 := hL0.call hb
    replace h6 := Lib.hid (h6.out.below hb)
    clear hb
    obtain ⟨p7, r7⟩ := hL0.get (x2.heap.size) a (by (repeat (first | with_reducible exact List.mem_cons_self | with_reducible refine List.mem_cons_of_mem _ ?_)))
    go_wp2_with fail
    with_reducible refine Calls.mono (P.out _) ?_
    rintro e x9 ⟨rfl, hb⟩
    replace hL0 := hL0.call hb
    replace h6 := Lib.hid (h6.out.below hb)
    clear hb P
    replace h6 := Lib.hid (h6.out.below (below1 _ (.cells #[.int .u64 ((lo 0 : Nat) : Int), .string (hs 0)] 32)))
    replace hL0 := (hL0.new rfl 0 32)
    generalize hweq : (x9.alloc (.cells #[.int .u64 ((lo 0 : Nat) : Int), .string (hs 0)] 32)) = x10 at hL0 h6
    have z1 : (((lo 0 : Nat) : Int) == 0) = true := by rw [lo_zero]; rfl
    have z2 : ((hs 0).toList == []) = true := by rw [hs_zero, ByteArray.toList_eq]; rfl
    obtain ⟨p8, r8⟩ := hL0.get (x9.heap.size) 0 (by (repeat (first | with_reducible exact List.mem_cons_self | with_reducible refine List.mem_cons_of_mem _ ?_)))
    go_wp2_with fail
    with_reducible refine Calls.mono (HW.out _ (htab.below hL0.bl)) ?_
    rintro e x11 ⟨rfl, hb⟩
    replace hL0 := hL0.call hb
    replace h6 := Lib.hid (h6.out.below hb)
    clear hb HW hweq
    go_wp2_with fail
    exact bodyPost_ret (v := .bool true) (by simp [results, Tryz.results13, go_sem]) rfl ⟨rfl, hL0.bl⟩
  · have P := Lib.hid (fun w => PO.out k c1 c2 ((Nat.div_lt_iff_lt_mul c1).2 (by rw [Nat.mul_comm]; exact c3)) w)
    obtain ⟨z, hz⟩ : ∃ z, z = k * b := ⟨_, rfl⟩
    have hzb : z ≤ 3145728 := by rw [hz]; exact Nat.le_trans (Nat.mul_le_mul c2 nba) (by decide)
    have hzz : (k : Int) * (b : Int) = (z : Int) := by rw [hz]; rfl
    rw [← hz] at c3
    clear hz
    have hzb2 : (z : Int) ≤ 3145728 := by omega
    have dz2 : decide (262144 < z) = true := decide_eq_true (by omega)
    have dz : decide ((262144 : Int) < (z : Int)) = true := decide_eq_true (by omega)
    have bq00 : decide ((0 : Int) < (k : Int)) = true := decide_eq_true (by omega)
    have bq01 : decide (0 < k) = true := decide_eq_true (by omega)
    have bq10 : decide ((k : Int) ≤ (4096 : Int)) = true := decide_eq_true (by omega)
    have bq11 : decide (k ≤ 4096) = true := decide_eq_true (by omega)
    have bq20 : decide ((4096 : Int) < (k : Int)) = false := decide_eq_false (by omega)
    have bq21 : decide (4096 < k) = false := decide_eq_false (by omega)
    replace c1 := Lib.hid c1
    replace c2 := Lib.hid c2
    replace c3 := Lib.hid c3
    have bz : decide ((k : Int) < 0) = false := decide_eq_false (by omega)
    have bz2 : decide ((0 : Int) ≤ (k : Int)) = true := decide_eq_true (by omega)
    go_enter Tryz.func13, Tryz.ntmps13
    go_wp2_with fail
    with_reducible refine Calls.mono (MX.out _ (hx.out.below hL0.bl)) ?_
    rintro e x1 ⟨rfl, hb⟩
    replace hL0 := hL0.call hb
    clear hb MX
    go_wp2_with fail
    with_reducible refine Calls.mono (RX.out _ (hx.out.below hL0.bl)) ?_
    rintro e x2 ⟨v6, rfl, h6, hb⟩
    replace hL0 := hL0.call hb
    clear hb RX
    replace h6 := Lib.hid h6
    replace h6 := Lib.hid (h6.out.below (below1 _ (.cells #[.int .u64 ((lo a : Nat) : Int), .string (hs a)] 32)))
    replace hL0 := (hL0.new rfl a 32)
    generalize hweq : (x2.alloc (.cells #[.int .u64 ((lo a : Nat) : Int), .string (hs a)] 32)) = x3 at hL0 h6
    obtain ⟨p9, r9⟩ := hL0.get (x2.heap.size) a (by (repeat (first | with_reducible exact List.mem_cons_self | with_reducible refine List.mem_cons_of_mem _ ?_)))
    go_wp2_with fail
    with_reducible refine Calls.mono (Q.out _) ?_
    rintro e x4 ⟨rfl, hb⟩
    replace hL0 := hL0.call hb
    replace h6 := Lib.hid (h6.out.below hb)
    clear hb Q hweq
    go_wp2_with fail
    with_reducible refine Calls.mono (RQ.out _ _ h6.out) ?_
    rintro e x5 ⟨v21, rfl, h21, hb⟩
    replace hL0 := hL0.call hb
    replace h6 := Lib.hid (h6.out.below hb)
    clear hb RQ
    replace h21 := Lib.hid h21
    go_wp2_with fail
    with_reducible refine Calls.mono (SMr.out _ _ (htab.below hL0.bl) h21.out) ?_
    rintro e x6 ⟨rfl, hb⟩
    replace hL0 := hL0.call hb
    replace h6 := Lib.hid (h6.out.below hb)
    clear hb SMr
    clear h21
    obtain ⟨p10, r10⟩ := hL0.get (x2.heap.size) a (by (repeat (first | with_reducible exact List.mem_cons_self | with_reducible refine List.mem_cons_of_mem _ ?_)))
    go_wp2_with fail
    with_reducible refine Calls.mono (BB.out _) ?_
    rintro e x7 ⟨rfl, hb⟩
    replace hL0 := hL0.call hb
    replace h6 := Lib.hid (h6.out.below hb)
    clear hb BB
    go_wp2_with fail
    with_reducible refine Calls.mono (RB.out _ _ h6.out) ?_
    rintro e x8 ⟨rfl, hb⟩
    replace hL0 := hL0.call hb
    replace h6 := Lib.hid (h6.out.below hb)
    clear hb
    go_wp2_with fail
    with_reducible refine Calls.mono (RB.out _ _ h6.out) ?_
    rintro e x9 ⟨rfl, hb⟩
    replace hL0 := hL0.call hb
    replace h6 := Lib.hid (h6.out.below hb)
    clear hb RB
    obtain ⟨p11, r11⟩ := hL0.get (x2.heap.size) a (by (repeat (first | with_reducible exact List.mem_cons_self | with_reducible refine List.mem_cons_of_mem _ ?_)))
    go_wp2_with fail
    with_reducible refine Calls.mono (P.out _) ?_
    rintro e x10 ⟨rfl, hb⟩
    replace hL0 := hL0.call hb
    replace h6 := Lib.hid (h6.out.below hb)
    clear hb P
    replace h6 := Lib.hid (h6.out.below (below1 _ (.cells #[.int .u64 ((lo 0 : Nat) : Int), .string (hs 0)] 32)))
    replace hL0 := (hL0.new rfl 0 32)
    generalize hweq : (x10.alloc (.cells #[.int .u64 ((lo 0 : Nat) : Int), .string (hs 0)] 32)) = x11 at hL0 h6
    have z1 : (((lo 0 : Nat) : Int) == 0) = true := by rw [lo_zero]; rfl
    have z2 : ((hs 0).toList == []) = true := by rw [hs_zero, ByteArray.toList_eq]; rfl
    obtain ⟨p12, r12⟩ := hL0.get (x10.heap.size) 0 (by (repeat (first | with_reducible exact List.mem_cons_self | with_reducible refine List.mem_cons_of_mem _ ?_)))
    go_wp2_with fail
    with_reducible refine Calls.mono (HW.out _ (htab.below hL0.bl)) ?_
    rintro e x12 ⟨rfl, hb⟩
    replace hL0 := hL0.call hb
    replace h6 := Lib.hid (h6.out.below hb)
    clear hb HW hweq
    go_wp2_with fail
    exact bodyPost_ret (v := .bool true) (by simp [results, Tryz.results13, go_sem]) rfl ⟨rfl, hL0.bl⟩
  · skip
    obtain ⟨z, hz⟩ : ∃ z, z = k * b := ⟨_, rfl⟩
    have hzb : z ≤ 3145728 := by rw [hz]; exact Nat.le_trans (Nat.mul_le_mul c2 nba) (by decide)
    have hzz : (k : Int) * (b : Int) = (z : Int) := by rw [hz]; rfl
    rw [← hz] at c3
    clear hz
    have hzb2 : (z : Int) ≤ 3145728 := by omega
    have dz2 : decide (262144 < z) = false := decide_eq_false (by omega)
    have dz : decide ((262144 : Int) < (z : Int)) = false := decide_eq_false (by omega)
    have bq00 : decide ((0 : Int) < (k : Int)) = true := decide_eq_true (by omega)
    have bq01 : decide (0 < k) = true := decide_eq_true (by omega)
    have bq10 : decide ((k : Int) ≤ (4096 : Int)) = true := decide_eq_true (by omega)
    have bq11 : decide (k ≤ 4096) = true := decide_eq_true (by omega)
    replace c1 := Lib.hid c1
    replace c2 := Lib.hid c2
    replace c3 := Lib.hid c3
    have bz2 : decide ((0 : Int) ≤ (k : Int)) = true := decide_eq_true (by omega)
    rcases c4 with c4 | ⟨c4, c5⟩
    · have d6 : decide ((20 : Int) < (k : Int)) = true := decide_eq_true (by omega)
      have d8 : decide (20 < k) = true := decide_eq_true (by omega)
      replace c4 := Lib.hid c4
      go_enter Tryz.func13, Tryz.ntmps13
      go_wp2_with fail
      with_reducible refine Calls.mono (MX.out _ (hx.out.below hL0.bl)) ?_
      rintro e x1 ⟨rfl, hb⟩
      replace hL0 := hL0.call hb
      clear hb MX
      go_wp2_with fail
      with_reducible refine Calls.mono (RX.out _ (hx.out.below hL0.bl)) ?_
      rintro e x2 ⟨v6, rfl, h6, hb⟩
      replace hL0 := hL0.call hb
      clear hb RX
      replace h6 := Lib.hid h6
      replace h6 := Lib.hid (h6.out.below (below1 _ (.cells #[.int .u64 ((lo a : Nat) : Int), .string (hs a)] 32)))
      replace hL0 := (hL0.new rfl a 32)
      generalize hweq : (x2.alloc (.cells #[.int .u64 ((lo a : Nat) : Int), .string (hs a)] 32)) = x3 at hL0 h6
      obtain ⟨p13, r13⟩ := hL0.get (x2.heap.size) a (by (repeat (first | with_reducible exact List.mem_cons_self | with_reducible refine List.mem_cons_of_mem _ ?_)))
      go_wp2_with fail
      with_reducible refine Calls.mono (Q.out _) ?_
      rintro e x4 ⟨rfl, hb⟩
      replace hL0 := hL0.call hb
      replace h6 := Lib.hid (h6.out.below hb)
      clear hb Q hweq
      go_wp2_with fail
      with_reducible refine Calls.mono (RQ.out _ _ h6.out) ?_
      rintro e x5 ⟨v21, rfl, h21, hb⟩
      replace hL0 := hL0.call hb
      replace h6 := Lib.hid (h6.out.below hb)
      clear hb RQ
      replace h21 := Lib.hid h21
      go_wp2_with fail
      with_reducible refine Calls.mono (SMr.out _ _ (htab.below hL0.bl) h21.out) ?_
      rintro e x6 ⟨rfl, hb⟩
      replace hL0 := hL0.call hb
      replace h6 := Lib.hid (h6.out.below hb)
      clear hb SMr
      clear h21
      obtain ⟨p14, r14⟩ := hL0.get (x2.heap.size) a (by (repeat (first | with_reducible exact List.mem_cons_self | with_reducible refine List.mem_cons_of_mem _ ?_)))
      go_wp2_with fail
      with_reducible refine Calls.mono (BB.out _) ?_
      rintro e x7 ⟨rfl, hb⟩
      replace hL0 := hL0.call hb
      replace h6 := Lib.hid (h6.out.below hb)
      clear hb BB
      go_wp2_with fail
      with_reducible refine Calls.mono (RB.out _ _ h6.out) ?_
      rintro e x8 ⟨rfl, hb⟩
      replace hL0 := hL0.call hb
      replace h6 := Lib.hid (h6.out.below hb)
      clear hb
      go_wp2_with fail
      with_reducible refine Calls.mono (RB.out _ _ h6.out) ?_
      rintro e x9 ⟨rfl, hb⟩
      replace hL0 := hL0.call hb
      replace h6 := Lib.hid (h6.out.below hb)
      clear hb RB
      go_wp2_with fail
      with_reducible refine Calls.mono (HW.out _ (htab.below hL0.bl)) ?_
      rintro e x10 ⟨rfl, hb⟩
      replace hL0 := hL0.call hb
      replace h6 := Lib.hid (h6.out.below hb)
      clear hb HW
      go_wp2_with fail
      exact bodyPost_ret (v := .bool true) (by simp [results, Tryz.results13, go_sem]) rfl ⟨rfl, hL0.bl⟩
    · have d6 : decide ((20 : Int) < (k : Int)) = false := decide_eq_false (by omega)
      have d8 : decide (20 < k) = false := decide_eq_false (by omega)
      have d7 : decide ((4 : Int) < (Nx : Int)) = true := decide_eq_true (by omega)
      have d9 : decide (4 < Nx) = true := decide_eq_true (by omega)
      replace c4 := Lib.hid c4
      replace c5 := Lib.hid c5
      go_enter Tryz.func13, Tryz.ntmps13
      go_wp2_with fail
      with_reducible refine Calls.mono (MX.out _ (hx.out.below hL0.bl)) ?_
      rintro e x1 ⟨rfl, hb⟩
      replace hL0 := hL0.call hb
      clear hb MX
      go_wp2_with fail
      with_reducible refine Calls.mono (RX.out _ (hx.out.below hL0.bl)) ?_
      rintro e x2 ⟨v6, rfl, h6, hb⟩
      replace hL0 := hL0.call hb
      clear hb RX
      replace h6 := Lib.hid h6
      replace h6 := Lib.hid (h6.out.below (below1 _ (.cells #[.int .u64 ((lo a : Nat) : Int), .string (hs a)] 32)))
      replace hL0 := (hL0.new rfl a 32)
      generalize hweq : (x2.alloc (.cells #[.int .u64 ((lo a : Nat) : Int), .string (hs a)] 32)) = x3 at hL0 h6
      obtain ⟨p15, r15⟩ := hL0.get (x2.heap.size) a (by (repeat (first | with_reducible exact List.mem_cons_self | with_reducible refine List.mem_cons_of_mem _ ?_)))
      go_wp2_with fail
      with_reducible refine Calls.mono (Q.out _) ?_
      rintro e x4 ⟨rfl, hb⟩
      replace hL0 := hL0.call hb
      replace h6 := Lib.hid (h6.out.below hb)
      clear hb Q hweq
      go_wp2_with fail
      with_reducible refine Calls.mono (RQ.out _ _ h6.out) ?_
      rintro e x5 ⟨v21, rfl, h21, hb⟩
      replace hL0 := hL0.call hb
      replace h6 := Lib.hid (h6.out.below hb)
      clear hb RQ
      replace h21 := Lib.hid h21
      go_wp2_with fail
      with_reducible refine Calls.mono (SMr.out _ _ (htab.below hL0.bl) h21.out) ?_
      rintro e x6 ⟨rfl, hb⟩
      replace hL0 := hL0.call hb
      replace h6 := Lib.hid (h6.out.below hb)
      clear hb SMr
      clear h21
      obtain ⟨p16, r16⟩ := hL0.get (x2.heap.size) a (by (repeat (first | with_reducible exact List.mem_cons_self | with_reducible refine List.mem_cons_of_mem _ ?_)))
      go_wp2_with fail
      with_reducible refine Calls.mono (BB.out _) ?_
      rintro e x7 ⟨rfl, hb⟩
      replace hL0 := hL0.call hb
      replace h6 := Lib.hid (h6.out.below hb)
      clear hb BB
      go_wp2_with fail
      with_reducible refine Calls.mono (RB.out _ _ h6.out) ?_
      rintro e x8 ⟨rfl, hb⟩
      replace hL0 := hL0.call hb
      replace h6 := Lib.hid (h6.out.below hb)
      clear hb
      go_wp2_with fail
      with_reducible refine Calls.mono (RB.out _ _ h6.out) ?_
      rintro e x9 ⟨rfl, hb⟩
      replace hL0 := hL0.call hb
      replace h6 := Lib.hid (h6.out.below hb)
      clear hb RB
      go_wp2_with fail
      with_reducible refine Calls.mono (HW.out _ (htab.below hL0.bl)) ?_
      rintro e x10 ⟨rfl, hb⟩
      replace hL0 := hL0.call hb
      replace h6 := Lib.hid (h6.out.below hb)
      clear hb HW
      go_wp2_with fail
      exact bodyPost_ret (v := .bool true) (by simp [results, Tryz.results13, go_sem]) rfl ⟨rfl, hL0.bl⟩
  · have P := fun w => POK.out k (by omega) (.inr ((Nat.le_div_iff_mul_le c1).2 (by rw [Nat.mul_comm]; omega))) w
    have RPk := fun v w hv => RP.out v k c2 w hv
    have SMk := fun v w ht hv => SMp.out k c2 c4 v w ht hv
    generalize a ^ k = p at *
    replace P := Lib.hid P
    replace RPk := Lib.hid RPk
    replace SMk := Lib.hid SMk
    clear SMp RP POK PO
    obtain ⟨z, hz⟩ : ∃ z, z = k * b := ⟨_, rfl⟩
    have hzb : z ≤ 3145728 := by rw [hz]; exact Nat.le_trans (Nat.mul_le_mul (show k ≤ 4096 by omega) nba) (by decide)
    have hzz : (k : Int) * (b : Int) = (z : Int) := by rw [hz]; rfl
    rw [← hz] at c3
    clear hz
    have hzb2 : (z : Int) ≤ 3145728 := by omega
    have dz2 : decide (262144 < z) = false := decide_eq_false (by omega)
    have dz : decide ((262144 : Int) < (z : Int)) = false := decide_eq_false (by omega)
    have d7 : decide ((4 : Int) < (Nx : Int)) = false := decide_eq_false (by omega)
    have d9 : decide (4 < Nx) = false := decide_eq_false (by omega)
    have bq00 : decide ((0 : Int) < (k : Int)) = true := decide_eq_true (by omega)
    have bq01 : decide (0 < k) = true := decide_eq_true (by omega)
    have bq10 : decide ((k : Int) ≤ (4096 : Int)) = true := decide_eq_true (by omega)
    have bq11 : decide (k ≤ 4096) = true := decide_eq_true (by omega)
    have bq20 : decide ((20 : Int) < (k : Int)) = false := decide_eq_false (by omega)
    have bq21 : decide (20 < k) = false := decide_eq_false (by omega)
    have bq30 : decide ((4096 : Int) < (k : Int)) = false := decide_eq_false (by omega)
    have bq31 : decide (4096 < k) = false := decide_eq_false (by omega)
    replace c1 := Lib.hid c1
    replace c2 := Lib.hid c2
    replace c3 := Lib.hid c3
    replace c4 := Lib.hid c4
    have bz : decide ((k : Int) < 0) = false := decide_eq_false (by omega)
    have bz2 : decide ((0 : Int) ≤ (k : Int)) = true := decide_eq_true (by omega)
    go_enter Tryz.func13, Tryz.ntmps13
    go_wp2_with fail
    with_reducible refine Calls.mono (MX.out _ (hx.out.below hL0.bl)) ?_
    rintro e x1 ⟨rfl, hb⟩
    replace hL0 := hL0.call hb
    clear hb MX
    go_wp2_with fail
    with_reducible refine Calls.mono (RX.out _ (hx.out.below hL0.bl)) ?_
    rintro e x2 ⟨v6, rfl, h6, hb⟩
    replace hL0 := hL0.call hb
    clear hb RX
    replace h6 := Lib.hid h6
    replace h6 := Lib.hid (h6.out.below (below1 _ (.cells #[.int .u64 ((lo a : Nat) : Int), .string (hs a)] 32)))
    replace hL0 := (hL0.new rfl a 32)
    generalize hweq : (x2.alloc (.cells #[.int .u64 ((lo a : Nat) : Int), .string (hs a)] 32)) = x3 at hL0 h6
    obtain ⟨p17, r17⟩ := hL0.get (x2.heap.size) a (by (repeat (first | with_reducible exact List.mem_cons_self | with_reducible refine List.mem_cons_of_mem _ ?_)))
    go_wp2_with fail
    with_reducible refine Calls.mono (Q.out _) ?_
    rintro e x4 ⟨rfl, hb⟩
    replace hL0 := hL0.call hb
    replace h6 := Lib.hid (h6.out.below hb)
    clear hb Q hweq
    go_wp2_with fail
    with_reducible refine Calls.mono (RQ.out _ _ h6.out) ?_
    rintro e x5 ⟨v21, rfl, h21, hb⟩
    replace hL0 := hL0.call hb
    replace h6 := Lib.hid (h6.out.below hb)
    clear hb RQ
    replace h21 := Lib.hid h21
    go_wp2_with fail
    with_reducible refine Calls.mono (SMr.out _ _ (htab.below hL0.bl) h21.out) ?_
    rintro e x6 ⟨rfl, hb⟩
    replace hL0 := hL0.call hb
    replace h6 := Lib.hid (h6.out.below hb)
    clear hb SMr
    clear h21
    obtain ⟨p18, r18⟩ := hL0.get (x2.heap.size) a (by (repeat (first | with_reducible exact List.mem_cons_self | with_reducible refine List.mem_cons_of_mem _ ?_)))
    go_wp2_with fail
    with_reducible refine Calls.mono (BB.out _) ?_
    rintro e x7 ⟨rfl, hb⟩
    replace hL0 := hL0.call hb
    replace h6 := Lib.hid (h6.out.below hb)
    clear hb BB
    go_wp2_with fail
    with_reducible refine Calls.mono (RB.out _ _ h6.out) ?_
    rintro e x8 ⟨rfl, hb⟩
    replace hL0 := hL0.call hb
    replace h6 := Lib.hid (h6.out.below hb)
    clear hb
    go_wp2_with fail
    with_reducible refine Calls.mono (RB.out _ _ h6.out) ?_
    rintro e x9 ⟨rfl, hb⟩
    replace hL0 := hL0.call hb
    replace h6 := Lib.hid (h6.out.below hb)
    clear hb RB
    obtain ⟨p19, r19⟩ := hL0.get (x2.heap.size) a (by (repeat (first | with_reducible exact List.mem_cons_self | with_reducible refine List.mem_cons_of_mem _ ?_)))
    go_wp2_with fail
    with_reducible refine Calls.mono (P.out _) ?_
    rintro e x10 ⟨rfl, hb⟩
    replace hL0 := hL0.call hb
    replace h6 := Lib.hid (h6.out.below hb)
    clear hb P
    replace h6 := Lib.hid (h6.out.below (below1 _ (.cells #[.int .u64 ((lo p : Nat) : Int), .string (hs p)] 32)))
    replace hL0 := (hL0.new rfl p 32)
    generalize hweq : (x10.alloc (.cells #[.int .u64 ((lo p : Nat) : Int), .string (hs p)] 32)) = x11 at hL0 h6
    go_upto_region 14 with fail
    clear hweq
    have c0 := (hL0.get (x10.heap.size) p (by (repeat (first | with_reducible exact List.mem_cons_self | with_reducible refine List.mem_cons_of_mem _ ?_)))).1
    have e1 := (hL0.get (x10.heap.size) p (by (repeat (first | with_reducible exact List.mem_cons_self | with_reducible refine List.mem_cons_of_mem _ ?_)))).2
    have hkb : x10.heap.size < x11.drew.heap.size := (hL0.all (x10.heap.size, p) (by (repeat (first | with_reducible exact List.mem_cons_self | with_reducible refine List.mem_cons_of_mem _ ?_)))).2.lt
    replace c0 : x11.drew.cell? ⟨x10.heap.size, 0, none⟩ = _ := c0
    replace e1 : x11.drew.cell? ⟨x10.heap.size, 1, none⟩ = _ := e1
    have r6 := Lib.hid h6.out.drew
    have t0 := (htab.below hL0.bl.drew)
    go_region_held3 (fun w' => w'.cell? ⟨x10.heap.size, 0, none⟩ = some (.int .u64 ((lo p : Nat) : Int)) ∧ w'.cell? ⟨x10.heap.size, 1, none⟩ = some (.string (hs p)))
      (first | exact ⟨c0, e1⟩ | exact ⟨c0a, e1a⟩ | exact ⟨c0b, e1b⟩ | exact ⟨c0c, e1c⟩)
      (first
        | (go_at_call 71; ((with_reducible refine Calls.mono (RPk.out _ _ r6.out) ?_); rintro e w1 ⟨v88, rfl, h88, hb1⟩; have c0a := (hb1.cell (p := ⟨x10.heap.size, 0, none⟩) hkb).trans c0; have e1a := (hb1.cell (p := ⟨x10.heap.size, 1, none⟩) hkb).trans e1; replace h88 := Lib.hid h88))
        | (go_at_call 52; ((with_reducible refine Calls.mono (SMk.out _ _ (t0.below hb1) h88.out) ?_); rintro e w2 ⟨rfl, hb2⟩; have c0b := (hb2.cell (p := ⟨x10.heap.size, 0, none⟩) (Nat.lt_of_lt_of_le hkb hb1.size)).trans c0a; have e1b := (hb2.cell (p := ⟨x10.heap.size, 1, none⟩) (Nat.lt_of_lt_of_le hkb hb1.size)).trans e1a))
        | (go_at_call 16; ((with_reducible refine Calls.mono (works_any _ ((t0.below hb1).below hb2)) ?_); rintro e w3 ⟨rfl, hb3⟩; have c0c := (hb3.cell (p := ⟨x10.heap.size, 0, none⟩) (Nat.lt_of_lt_of_le hkb (Nat.le_trans hb1.size hb2.size))).trans c0b; have e1c := (hb3.cell (p := ⟨x10.heap.size, 1, none⟩) (Nat.lt_of_lt_of_le hkb (Nat.le_trans hb1.size hb2.size))).trans e1b)))
    have hB := ((hL0.bl.drew.trans (hb1.mono hL0.bl.size)).trans (hb2.mono (Nat.le_trans hL0.bl.size hb1.size))).trans (hb3.mono (Nat.le_trans hL0.bl.size (Nat.le_trans hb1.size hb2.size)))
    go_wp2_with fail
    exact bodyPost_ret (v := .bool true) (by simp [results, Tryz.results13, go_sem]) rfl ⟨rfl, hB⟩
  · have d7 : decide ((4 : Int) < (Nx : Int)) = true := decide_eq_true (by omega)
    have d9 : decide (4 < Nx) = true := decide_eq_true (by omega)
    replace c4 := Lib.hid c4
    go_enter Tryz.func13, Tryz.ntmps13
    go_wp2_with fail
    with_reducible refine Calls.mono (MX.out _ (hx.out.below hL0.bl)) ?_
    rintro e x1 ⟨rfl, hb⟩
    replace hL0 := hL0.call hb
    clear hb MX
    go_wp2_with fail
    with_reducible refine Calls.mono (RX.out _ (hx.out.below hL0.bl)) ?_
    rintro e x2 ⟨v6, rfl, h6, hb⟩
    replace hL0 := hL0.call hb
    clear hb RX
    replace h6 := Lib.hid h6
    replace h6 := Lib.hid (h6.out.below (below1 _ (.cells #[.int .u64 ((lo a : Nat) : Int), .string (hs a)] 32)))
    replace hL0 := (hL0.new rfl a 32)
    generalize hweq : (x2.alloc (.cells #[.int .u64 ((lo a : Nat) : Int), .string (hs a)] 32)) = x3 at hL0 h6
    obtain ⟨p20, r20⟩ := hL0.get (x2.heap.size) a (by (repeat (first | with_reducible exact List.mem_cons_self | with_reducible refine List.mem_cons_of_mem _ ?_)))
    go_wp2_with fail
    with_reducible refine Calls.mono (Q.out _) ?_
    rintro e x4 ⟨rfl, hb⟩
    replace hL0 := hL0.call hb
    replace h6 := Lib.hid (h6.out.below hb)
    clear hb Q hweq
    go_wp2_with fail
    with_reducible refine Calls.mono (RQ.out _ _ h6.out) ?_
    rintro e x5 ⟨v21, rfl, h21, hb⟩
    replace hL0 := hL0.call hb
    replace h6 := Lib.hid (h6.out.below hb)
    clear hb RQ
    replace h21 := Lib.hid h21
    go_wp2_with fail
    with_reducible refine Calls.mono (SMr.out _ _ (htab.below hL0.bl) h21.out) ?_
    rintro e x6 ⟨rfl, hb⟩
    replace hL0 := hL0.call hb
    replace h6 := Lib.hid (h6.out.below hb)
    clear hb SMr
    clear h21
    obtain ⟨p21, r21⟩ := hL0.get (x2.heap.size) a (by (repeat (first | with_reducible exact List.mem_cons_self | with_reducible refine List.mem_cons_of_mem _ ?_)))
    go_wp2_with fail
    with_reducible refine Calls.mono (BB.out _) ?_
    rintro e x7 ⟨rfl, hb⟩
    replace hL0 := hL0.call hb
    replace h6 := Lib.hid (h6.out.below hb)
    clear hb BB
    go_wp2_with fail
    with_reducible refine Calls.mono (RB.out _ _ h6.out) ?_
    rintro e x8 ⟨rfl, hb⟩
    replace hL0 := hL0.call hb
    replace h6 := Lib.hid (h6.out.below hb)
    clear hb
    go_wp2_with fail
    with_reducible refine Calls.mono (HW.out _ (htab.below hL0.bl)) ?_
    rintro e x9 ⟨rfl, hb⟩
    replace hL0 := hL0.call hb
    replace h6 := Lib.hid (h6.out.below hb)
    clear hb HW
    go_wp2_with fail
    exact bodyPost_ret (v := .bool true) (by simp [results, Tryz.results13, go_sem]) rfl ⟨rfl, hL0.bl⟩
  · have P := fun w => POK.out 0 (by omega) (.inl rfl) w
    have RPk := fun v w hv => RP.out v 0 (by omega) w hv
    have SMk := fun v w ht hv => SMp.out 0 (by omega) c4 v w ht hv
    generalize a ^ 0 = p at *
    replace P := Lib.hid P
    replace RPk := Lib.hid RPk
    replace SMk := Lib.hid SMk
    clear SMp RP POK PO
    have d7 : decide ((4 : Int) < (Nx : Int)) = false := decide_eq_false (by omega)
    have d9 : decide (4 < Nx) = false := decide_eq_false (by omega)
    replace c4 := Lib.hid c4
    go_enter Tryz.func13, Tryz.ntmps13
    go_wp2_with fail
    with_reducible refine Calls.mono (MX.out _ (hx.out.below hL0.bl)) ?_
    rintro e x1 ⟨rfl, hb⟩
    replace hL0 := hL0.call hb
    clear hb MX
    go_wp2_with fail
    with_reducible refine Calls.mono (RX.out _ (hx.out.below hL0.bl)) ?_
    rintro e x2 ⟨v6, rfl, h6, hb⟩
    replace hL0 := hL0.call hb
    clear hb RX
    replace h6 := Lib.hid h6
    replace h6 := Lib.hid (h6.out.below (below1 _ (.cells #[.int .u64 ((lo a : Nat) : Int), .string (hs a)] 32)))
    replace hL0 := (hL0.new rfl a 32)
    generalize hweq : (x2.alloc (.cells #[.int .u64 ((lo a : Nat) : Int), .string (hs a)] 32)) = x3 at hL0 h6
    obtain ⟨p22, r22⟩ := hL0.get (x2.heap.size) a (by (repeat (first | with_reducible exact List.mem_cons_self | with_reducible refine List.mem_cons_of_mem _ ?_)))
    go_wp2_with fail
    with_reducible refine Calls.mono (Q.out _) ?_
    rintro e x4 ⟨rfl, hb⟩
    replace hL0 := hL0.call hb
    replace h6 := Lib.hid (h6.out.below hb)
    clear hb Q hweq
    go_wp2_with fail
    with_reducible refine Calls.mono (RQ.out _ _ h6.out) ?_
    rintro e x5 ⟨v21, rfl, h21, hb⟩
    replace hL0 := hL0.call hb
    replace h6 := Lib.hid (h6.out.below hb)
    clear hb RQ
    replace h21 := Lib.hid h21
    go_wp2_with fail
    with_reducible refine Calls.mono (SMr.out _ _ (htab.below hL0.bl) h21.out) ?_
    rintro e x6 ⟨rfl, hb⟩
    replace hL0 := hL0.call hb
    replace h6 := Lib.hid (h6.out.below hb)
    clear hb SMr
    clear h21
    obtain ⟨p23, r23⟩ := hL0.get (x2.heap.size) a (by (repeat (first | with_reducible exact List.mem_cons_self | with_reducible refine List.mem_cons_of_mem _ ?_)))
    go_wp2_with fail
    with_reducible refine Calls.mono (BB.out _) ?_
    rintro e x7 ⟨rfl, hb⟩
    replace hL0 := hL0.call hb
    replace h6 := Lib.hid (h6.out.below hb)
    clear hb BB
    go_wp2_with fail
    with_reducible refine Calls.mono (RB.out _ _ h6.out) ?_
    rintro e x8 ⟨rfl, hb⟩
    replace hL0 := hL0.call hb
    replace h6 := Lib.hid (h6.out.below hb)
    clear hb
    obtain ⟨p24, r24⟩ := hL0.get (x2.heap.size) a (by (repeat (first | with_reducible exact List.mem_cons_self | with_reducible refine List.mem_cons_of_mem _ ?_)))
    go_wp2_with fail
    with_reducible refine Calls.mono (P.out _) ?_
    rintro e x9 ⟨rfl, hb⟩
    replace hL0 := hL0.call hb
    replace h6 := Lib.hid (h6.out.below hb)
    clear hb P
    replace h6 := Lib.hid (h6.out.below (below1 _ (.cells #[.int .u64 ((lo p : Nat) : Int), .string (hs p)] 32)))
    replace hL0 := (hL0.new rfl p 32)
    generalize hweq : (x9.alloc (.cells #[.int .u64 ((lo p : Nat) : Int), .string (hs p)] 32)) = x10 at hL0 h6
    go_upto_region 14 with fail
    clear hweq
    have c0 := (hL0.get (x9.heap.size) p (by (repeat (first | with_reducible exact List.mem_cons_self | with_reducible refine List.mem_cons_of_mem _ ?_)))).1
    have e1 := (hL0.get (x9.heap.size) p (by (repeat (first | with_reducible exact List.mem_cons_self | with_reducible refine List.mem_cons_of_mem _ ?_)))).2
    have hkb : x9.heap.size < x10.drew.heap.size := (hL0.all (x9.heap.size, p) (by (repeat (first | with_reducible exact List.mem_cons_self | with_reducible refine List.mem_cons_of_mem _ ?_)))).2.lt
    replace c0 : x10.drew.cell? ⟨x9.heap.size, 0, none⟩ = _ := c0
    replace e1 : x10.drew.cell? ⟨x9.heap.size, 1, none⟩ = _ := e1
    have r6 := Lib.hid h6.out.drew
    have t0 := (htab.below hL0.bl.drew)
    go_region_held3 (fun w' => w'.cell? ⟨x9.heap.size, 0, none⟩ = some (.int .u64 ((lo p : Nat) : Int)) ∧ w'.cell? ⟨x9.heap.size, 1, none⟩ = some (.string (hs p)))
      (first | exact ⟨c0, e1⟩ | exact ⟨c0a, e1a⟩ | exact ⟨c0b, e1b⟩ | exact ⟨c0c, e1c⟩)
      (first
        | (go_at_call 71; ((with_reducible refine Calls.mono (RPk.out _ _ r6.out) ?_); rintro e w1 ⟨v88, rfl, h88, hb1⟩; have c0a := (hb1.cell (p := ⟨x9.heap.size, 0, none⟩) hkb).trans c0; have e1a := (hb1.cell (p := ⟨x9.heap.size, 1, none⟩) hkb).trans e1; replace h88 := Lib.hid h88))
        | (go_at_call 52; ((with_reducible refine Calls.mono (SMk.out _ _ (t0.below hb1) h88.out) ?_); rintro e w2 ⟨rfl, hb2⟩; have c0b := (hb2.cell (p := ⟨x9.heap.size, 0, none⟩) (Nat.lt_of_lt_of_le hkb hb1.size)).trans c0a; have e1b := (hb2.cell (p := ⟨x9.heap.size, 1, none⟩) (Nat.lt_of_lt_of_le hkb hb1.size)).trans e1a))
        | (go_at_call 16; ((with_reducible refine Calls.mono (works_any _ ((t0.below hb1).below hb2)) ?_); rintro e w3 ⟨rfl, hb3⟩; have c0c := (hb3.cell (p := ⟨x9.heap.size, 0, none⟩) (Nat.lt_of_lt_of_le hkb (Nat.le_trans hb1.size hb2.size))).trans c0b; have e1c := (hb3.cell (p := ⟨x9.heap.size, 1, none⟩) (Nat.lt_of_lt_of_le hkb (Nat.le_trans hb1.size hb2.size))).trans e1b)))
    have hB := ((hL0.bl.drew.trans (hb1.mono hL0.bl.size)).trans (hb2.mono (Nat.le_trans hL0.bl.size hb1.size))).trans (hb3.mono (Nat.le_trans hL0.bl.size (Nat.le_trans hb1.size hb2.size)))
    go_wp2_with fail
    exact bodyPost_ret (v := .bool true) (by simp [results, Tryz.results13, go_sem]) rfl ⟨rfl, hB⟩

theorem roots_any (vx : Value) (lx : List Nat) (n : Int) (hn63 : n < 9223372036854775808) (w : World) (htab : Tab w) (hx : Ws w vx lx) :
    Calls Tryz.prog 13 #[vx, .int .i64 n] w fun e w' => e = .returned (.bool true) ∧ Below w.heap.size w w' := by
  by_cases h : 12 < lx.length
  · obtain ⟨ax, cx, rfl⟩ := hx.form
    exact roots_big ax cx _ n h w htab
  · exact roots_small vx lx n hn63 w htab hx (by omega)
end Go.Proofs.YthehcjfmokabfaaGreatDoor

/-
  The reference of layer 1, walks L: leading; the step of Div, as mathematics.
-/
namespace Go.Proofs.YthehcjfmokabfaaGreatDoor.Rx
open Go.RowKit
attribute [local irreducible] tv dg cmpI txt decB nb isq

theorem td_drop (n k : Nat) : (td n).drop k = td (n / 10000 ^ k) := by
  induction k generalizing n with
  | zero => simp
  | succ k ih =>
    by_cases h : n = 0
    · rw [h, Nat.zero_div, td_zero]; simp
    · rw [td_pos h, List.drop_succ_cons, ih, Nat.div_div_eq_div_mul, Nat.pow_succ, Nat.mul_comm 10000]

set_option maxHeartbeats 4000000 in
set_option maxRecDepth 100000 in
theorem rleading_any (v : Value) (l : List Nat) (F : Nat) (hd : ∀ d ∈ l, d < 10000) (hF : F ≤ 1000000) (hl : l.length ≤ F + 4) (w : World) (h : Sl w v l) :
    Calls Tryz.prog 108 #[v, .int .i64 (F : Int)] w fun e w' => e = .returned (.int .i64 ((tv (l.drop F) : Nat) : Int)) ∧ w = w' := by
  obtain ⟨ao, c, rfl, hv⟩ := h.view
  obtain ⟨n, hn⟩ : ∃ n, n = l.length := ⟨_, rfl⟩
  rw [← hn] at hl hv ⊢
  have h0 := Lib.hid (show tv (l.drop n) = 0 by rw [List.drop_eq_nil_of_le (by omega), tv_nil])
  replace hn := Lib.hid hn
  replace hv := Lib.hid hv
  replace hd := Lib.hid hd
  clear h
  go_enter Tryz.func108, Tryz.ntmps108
  go_wp2_with fail
  go_loopw [5, 6] (fun s z wr => ∃ j : Nat, j ≤ n ∧ (F ≤ j ∨ j = n) ∧ z = .int .i64 ((j : Int) - 1) ∧ s = .int .i64 ((tv (l.drop j) : Nat) : Int) ∧ w = wr) (fun _ z _ => (intOf z + 1).toNat)
  case atStart => exact ⟨n, Nat.le_refl _, .inr rfl, by first | rfl | go_num, by rw [h0.out]; rfl, rfl⟩
  case round =>
    obtain ⟨j, hj, hFj, rfl, rfl, rfl⟩ := hrel
    rcases Nat.lt_or_ge F j with hlt | hge
    · obtain ⟨i, rfl⟩ : ∃ i, j = i + 1 := ⟨j - 1, by omega⟩
      obtain ⟨a, rfl, -, hs⟩ := hv.out (by omega)
      have hil : i < l.length := by have := hn.out; omega
      have hcell := hs.cell i hil
      have hx := hd.out _ (List.getElem_mem hil)
      have hnext : tv (l.drop i) = l[i] + 10000 * tv (l.drop (i + 1)) := by rw [List.drop_eq_getElem_cons hil, tv_cons]
      have hT : tv (l.drop (i + 1)) < 1000000000000 := by
        have h1 := tv_lt (l := l.drop (i + 1)) fun d hdd => hd.out d (List.mem_of_mem_drop hdd)
        exact Nat.lt_of_lt_of_le h1 (Nat.le_trans (Nat.pow_le_pow_right (by omega) (show _ ≤ 3 by rw [List.length_drop]; have := hn.out; omega)) (by decide))
      have e1 : (((i + 1 : Nat) : Int) - 1) = (i : Int) := by omega
      have k1 : (F : Int) ≤ (i : Int) := by omega
      have k2 : (i : Int) < (n : Int) := by omega
      have hTi : ((tv (l.drop (i + 1)) : Nat) : Int) ≤ 1000000000000 := by omega
      clear hT hs
      generalize l[i] = x at *
      generalize tv (l.drop (i + 1)) = T at *
      replace hnext := Lib.hid hnext
      replace hFj := Lib.hid hFj
      rw [e1]
      go_wp2_with fail
      go_roundw
      case rel => exact ⟨i, by omega, .inl (by omega), by first | rfl | go_num, (by rw [hnext.out]; go_num), by trivial⟩
      case measure => simp [intOf]
    · have hfin : tv (l.drop j) = tv (l.drop F) := by
        rcases hFj with h | h
        · rw [show j = F by omega]
        · rw [List.drop_eq_nil_of_le (by have := hn.out; omega), List.drop_eq_nil_of_le (by have := hn.out; omega)]
      have k1 : ¬ (F : Int) ≤ (j : Int) - 1 := by omega
      replace hfin := Lib.hid hfin
      replace hFj := Lib.hid hFj
      go_wp2_with fail
      go_ret
      exact ⟨by rw [← hfin.out]; rfl, rfl⟩

/-- What Div's rounds keep: the digits from i on are the quotient's, r is what is left. -/
structure DivS (a b : Nat) (A X : List Nat) (i r : Nat) : Prop where
  lt : ∀ d ∈ X, d < 10000
  zero : ∀ (k : Nat) (h : k < X.length), k < i → X[k] = 0
  eq : tv X * b + 10000 ^ i * r + tv (A.take i) = a
  rem : r < b
theorem DivS.step {a b i r : Nat} {A X : List Nat} (h : DivS a b A X (i + 1) r) (hA : ∀ d ∈ A, d < 10000) (hi : i < X.length) {y : Nat} (hy : y = dg A i + 10000 * r) :
    y / b ≤ 9999 ∧ DivS a b A (X.set i (y / b)) i (y - b * (y / b)) := by
  have hb : 0 < b := Nat.lt_of_le_of_lt (Nat.zero_le _) h.rem
  have hx := dg_lt hA i
  have hr := h.rem
  have hq : y / b ≤ 9999 := by
    have h1 : y < 10000 * b := by
      have : 10000 * (r + 1) ≤ 10000 * b := Nat.mul_le_mul_left _ hr
      omega
    have := (Nat.div_lt_iff_lt_mul hb).2 h1
    omega
  have e := tv_set0 hi (h.zero i hi (by omega)) (y / b)
  have hm := Nat.div_add_mod y b
  have hml := Nat.mod_lt y hb
  refine ⟨hq, fun x hx => ?_, fun k hk hki => ?_, ?_, by omega⟩
  · rcases List.mem_or_eq_of_mem_set hx with hx | hx
    · exact h.lt x hx
    · omega
  · rw [List.getElem_set_ne (by omega)]
    exact h.zero k (by rw [List.length_set] at hk; exact hk) (by omega)
  · have e0 := h.eq
    rw [tv_take, Nat.pow_succ] at e0
    rw [e, Nat.add_mul]
    have e1 : 10000 ^ i * (y / b) * b + 10000 ^ i * (y - b * (y / b)) = 10000 ^ i * dg A i + 10000 ^ i * 10000 * r := by
      rw [Nat.mul_assoc, Nat.mul_assoc, ← Nat.mul_add, ← Nat.mul_add, Nat.mul_comm (y / b) b, show b * (y / b) + (y - b * (y / b)) = y by omega, hy]
    generalize tv X * b = p1 at *
    generalize 10000 ^ i * (y / b) * b = p2 at *
    generalize 10000 ^ i * (y - b * (y / b)) = p3 at *
    generalize 10000 ^ i * dg A i = p4 at *
    generalize 10000 ^ i * 10000 * r = p5 at *
    omega
theorem DivS.done {a b r : Nat} {A X : List Nat} (h : DivS a b A X 0 r) : tv X = a / b ∧ r = a % b := by
  have e := h.eq
  rw [Nat.pow_zero, Nat.one_mul, List.take_zero, tv_nil, Nat.add_zero, Nat.mul_comm] at e
  have hb : 0 < b := Nat.lt_of_le_of_lt (Nat.zero_le _) h.rem
  rw [← e]
  exact ⟨by rw [Nat.mul_add_div hb, Nat.div_eq_of_lt h.rem, Nat.add_zero], by rw [Nat.mul_add_mod, Nat.mod_eq_of_lt h.rem]⟩
theorem DivS.start {a b : Nat} (hab : b ≤ a) (hb : 0 < b) : ∃ i, i + (td b).length = (td a).length + 1 ∧ DivS a b (td a) (List.replicate i 0) i (tv ((td a).drop i)) := by
  have hlen := td_mono hab
  have hbl : 0 < (td b).length := by
    rcases Nat.eq_zero_or_pos (td b).length with h | h
    · have := td_nil.1 (List.eq_nil_of_length_eq_zero h); omega
    · exact h
  refine ⟨(td a).length + 1 - (td b).length, by omega, fun d hd => by rw [(List.mem_replicate.1 hd).2]; omega, fun k h _ => by simp, ?_, ?_⟩
  · rw [tv_zeros, Nat.zero_mul, Nat.zero_add]
    have := tv_append ((td a).take ((td a).length + 1 - (td b).length)) ((td a).drop ((td a).length + 1 - (td b).length))
    rw [List.take_append_drop, tv_td, List.length_take, Nat.min_eq_left (by omega)] at this
    omega
  · rw [td_drop, tv_td]
    refine Nat.lt_of_not_le fun h => ?_
    have h1 : (td (a / 10000 ^ ((td a).length + 1 - (td b).length))).length = (td b).length - 1 := by
      rw [← td_drop, List.length_drop]; omega
    have := td_mono h
    omega
/-- The bounds that the leading digits give. -/
theorem lead_low {b y F t : Nat} (ht : t = b / 10000 ^ F) : y / 10000 ^ F / (t + 1) * b ≤ y := by
  have hp : 0 < 10000 ^ F := Nat.pow_pos (by omega)
  have h1 : b < 10000 ^ F * (t + 1) := by
    have := Nat.lt_mul_div_succ b hp
    rwa [← ht] at this
  have h2 : y / 10000 ^ F / (t + 1) * b ≤ y / 10000 ^ F / (t + 1) * (10000 ^ F * (t + 1)) := Nat.mul_le_mul_left _ (Nat.le_of_lt h1)
  have h3 : y / 10000 ^ F / (t + 1) * (t + 1) ≤ y / 10000 ^ F := Nat.div_mul_le_self _ _
  have h4 : y / 10000 ^ F * 10000 ^ F ≤ y := Nat.div_mul_le_self _ _
  have h5 : y / 10000 ^ F / (t + 1) * (10000 ^ F * (t + 1)) = (y / 10000 ^ F / (t + 1) * (t + 1)) * 10000 ^ F := by
    rw [Nat.mul_comm (10000 ^ F), Nat.mul_assoc]
  have h6 : (y / 10000 ^ F / (t + 1) * (t + 1)) * 10000 ^ F ≤ y / 10000 ^ F * 10000 ^ F := Nat.mul_le_mul_right _ h3
  omega
theorem lead_high {b y F t : Nat} (ht : t = b / 10000 ^ F) (ht0 : 0 < t) : y / b ≤ y / 10000 ^ F / t := by
  rw [Nat.div_div_eq_div_mul]
  have h1 : 10000 ^ F * t ≤ b := by rw [ht]; exact Nat.mul_div_le _ _
  exact Nat.div_le_div_left h1 (Nat.mul_pos (Nat.pow_pos (by omega)) ht0)
end Go.Proofs.YthehcjfmokabfaaGreatDoor.Rx
