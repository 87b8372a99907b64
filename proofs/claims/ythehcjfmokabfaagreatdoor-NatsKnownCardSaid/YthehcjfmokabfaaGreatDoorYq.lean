/-
  Layer 1, law E: NatsRings.
-/
import Derived.Test.YthehcjfmokabfaaGreatDoorYm
import Derived.Test.YthehcjfmokabfaaGreatDoorYn
import Derived.WalkKit
import Derived.Lib.Hide
import Derived.Test.YthehcjfmokabfaaGreatDoorRows
import Derived.Test.YthehcjfmokabfaaGreatDoorYa
import Derived.BigQuiet
import Derived.BigGuard
import Derived.BigRegion
set_option linter.unusedVariables false
set_option linter.unusedSimpArgs false
namespace Go.Proofs.YthehcjfmokabfaaGreatDoor
open Go.RowKit
attribute [local irreducible] lo hs sm s64 c64 d64 b64 mh ml pd pc qd qc val hiB str cmpI srD lz nb isq decB

theorem cmpI_neg (a b : Nat) : cmpI a b = -cmpI b a := by unfold cmpI; split <;> split <;> (try split) <;> omega
theorem cmpI_way (a b : Nat) : cmpI a b = -1 ∨ cmpI a b = 0 ∨ cmpI a b = 1 := by unfold cmpI; split <;> (try split) <;> simp
theorem cmpI_add (a b c : Nat) : cmpI (a + c) (b + c) = cmpI a b := by unfold cmpI; split <;> split <;> (try split) <;> (try split) <;> omega

set_option maxHeartbeats 4000000 in
set_option maxRecDepth 100000 in
theorem rings_big (ax ay az : Option Addr) (cx cy cz nx ny nz : Nat) (h : 16 < nx ∨ 16 < ny ∨ 16 < nz) (w : World) (htab : Tab w) :
    Calls Tryz.prog 11 #[.slice ax nx cx, .slice ay ny cy, .slice az nz cz] w fun e w' => e = .returned (.bool true) ∧ Below w.heap.size w w' := by
  have HW := Lib.hid (works_any w htab)
  have key : (decide ((16 : Int) < (nx : Int)) = true) ∨ (decide ((16 : Int) < (nx : Int)) = false ∧ decide ((16 : Int) < (ny : Int)) = true) ∨ (decide ((16 : Int) < (nx : Int)) = false ∧ decide ((16 : Int) < (ny : Int)) = false ∧ decide ((16 : Int) < (nz : Int)) = true) := by
    by_cases h0 : 16 < nx
    · exact .inl (decide_eq_true (by omega))
    · skip
      by_cases h1 : 16 < ny
      · exact .inr (.inl ⟨decide_eq_false (by omega), decide_eq_true (by omega)⟩)
      · exact .inr (.inr (⟨decide_eq_false (by omega), decide_eq_false (by omega), decide_eq_true (by omega)⟩))
  clear h
  rcases key with k0 | ⟨k0, k1⟩ | ⟨k0, k1, k2⟩
  all_goals (
    go_enter Tryz.func11, Tryz.ntmps11
    go_wp2_with fail
    with_reducible refine Calls.mono HW.out ?_
    rintro e w1 ⟨rfl, hb⟩
    go_wp2_with fail
    exact bodyPost_ret (v := .bool true) (by simp [results, Tryz.results11, go_sem]) rfl ⟨rfl, hb⟩)

set_option maxHeartbeats 16000000 in
set_option maxRecDepth 100000 in
theorem rings_small (vx vy vz : Value) (lx ly lz : List Nat) (w : World) (htab : Tab w) (hx : Ws w vx lx) (hy : Ws w vy ly) (hz : Ws w vz lz) (nx : lx.length ≤ 16) (ny : ly.length ≤ 16) (nz : lz.length ≤ 16) :
    Calls Tryz.prog 11 #[vx, vy, vz] w fun e w' => e = .returned (.bool true) ∧ Below w.heap.size w w' := by
  have MX := fun w h => made_any vx lx (by omega) w h
  have MY := fun w h => made_any vy ly (by omega) w h
  have MZ := fun w h => made_any vz lz (by omega) w h
  obtain ⟨ax, cx, ex⟩ := hx.form
  obtain ⟨ay, cy, ey⟩ := hy.form
  obtain ⟨az, cz, ez⟩ := hz.form
  have dx := Nat.le_trans (made_digs hx.lt) nx
  have dy := Nat.le_trans (made_digs hy.lt) ny
  have dz := Nat.le_trans (made_digs hz.lt) nz
  subst ex ey ez
  have kx : decide ((16 : Int) < (lx.length : Int)) = false := decide_eq_false (by omega)
  have ky : decide ((16 : Int) < (ly.length : Int)) = false := decide_eq_false (by omega)
  have kz : decide ((16 : Int) < (lz.length : Int)) = false := decide_eq_false (by omega)
  generalize made lx = a at *
  generalize made ly = b at *
  generalize made lz = c at *
  replace hx := Lib.hid hx
  replace MX := Lib.hid MX
  replace hy := Lib.hid hy
  replace MY := Lib.hid MY
  replace hz := Lib.hid hz
  replace MZ := Lib.hid MZ
  generalize lx.length = Nx at *
  generalize ly.length = Ny at *
  generalize lz.length = Nz at *
  obtain ⟨T, hT⟩ : ∃ T, T = 2 ^ 64 := ⟨_, rfl⟩
  have ds : (digs (a + b)).length ≤ 17 := digs_add_le dx dy
  have dp : (digs (a * b)).length ≤ 32 := Nat.le_trans (digs_mul_le dx dy) (by omega)
  have dt : (digs (b + c)).length ≤ 17 := digs_add_le dy dz
  have dr : (digs (b * c)).length ≤ 32 := Nat.le_trans (digs_mul_le dy dz) (by omega)
  have dm : (digs (a * c)).length ≤ 32 := Nat.le_trans (digs_mul_le dx dz) (by omega)
  have de : (digs (a + c)).length ≤ 17 := digs_add_le dx dz
  have Aab := fun w => add_any a b (by omega) (by omega) w
  have S1 := fun w => sub_ge (a + b) b (by omega) (by omega) w
  rw [Nat.add_sub_cancel] at S1
  have Aba := fun w => add_any b a (by omega) (by omega) w
  rw [Nat.add_comm b a] at Aba
  have Mab := fun w => mul_any a b (by omega) (by omega) w
  have Mba := fun w => mul_any b a (by omega) (by omega) w
  rw [Nat.mul_comm b a] at Mba
  have Asc := fun w => add_any (a + b) c (by omega) (by omega) w
  have Abc := fun w => add_any b c (by omega) (by omega) w
  have Aat := fun w => add_any a (b + c) (by omega) (by omega) w
  rw [← Nat.add_assoc] at Aat
  have Mpc := fun w => mul_any (a * b) c (by omega) (by omega) w
  have Mbc := fun w => mul_any b c (by omega) (by omega) w
  have Mar := fun w => mul_any a (b * c) (by omega) (by omega) w
  rw [← Nat.mul_assoc] at Mar
  have Mat := fun w => mul_any a (b + c) (by omega) (by omega) w
  have Mac := fun w => mul_any a c (by omega) (by omega) w
  have Apm := fun w => add_any (a * b) (a * c) (by omega) (by omega) w
  rw [← Nat.mul_add] at Apm
  have A0 := fun w => add_any a 0 (by omega) (by rw [digs_zero]; exact Nat.zero_le _) w
  rw [Nat.add_zero] at A0
  have M1 := fun w => mul_any a 1 (by omega) (Nat.le_trans (sm_digs (k := 1) (by unfold Bs; decide)) (by omega)) w
  rw [Nat.mul_one] at M1
  have M0 := fun w => mul_any a 0 (by omega) (by rw [digs_zero]; exact Nat.zero_le _) w
  rw [Nat.mul_zero] at M0
  have Cab := fun w => cmp_any a b w
  have Cba := fun w => cmp_any b a w
  have Aac := fun w => add_any a c (by omega) (by omega) w
  have Abc2 := fun w => add_any b c (by omega) (by omega) w
  have Cee := fun w => cmp_any (a + c) (b + c) w
  rw [cmpI_add] at Cee
  have O1 := fun w => of_val 1 1 rfl (by unfold Bs; omega) w
  have O2 := fun w => of_val 2 2 rfl (by unfold Bs; omega) w
  have P2 := fun w => pow_ok 2 64 (by omega) (.inr (Nat.le_trans (nb_le64 (by unfold Bs; omega)) (by decide))) (Nat.le_trans (sm_digs (k := 1) (by unfold Bs; decide)) (by omega)) w
  rw [← hT] at P2
  have CT := fun w => cmp_any a T w
  have hTB : T = Bs := by rw [hT]; unfold Bs; rfl
  generalize a + b + c = u at *
  generalize a * b * c = v at *
  generalize a * (b + c) = mt at *
  generalize a + b = s at *
  generalize a * b = p at *
  generalize b + c = t at *
  generalize b * c = r at *
  generalize a * c = m at *
  generalize a + c = ac at *
  have hcw := cmpI_way a b
  obtain ⟨z, hz⟩ : ∃ z, z = cmpI a b := ⟨_, rfl⟩
  have hcb : cmpI b a = -z := by rw [hz, cmpI_neg b a]
  rw [hcb] at Cba
  rw [← hz] at Cab Cee hcw
  clear hz hcb
  replace Aab := Lib.hid Aab
  replace S1 := Lib.hid S1
  replace Aba := Lib.hid Aba
  replace Mab := Lib.hid Mab
  replace Mba := Lib.hid Mba
  replace Asc := Lib.hid Asc
  replace Abc := Lib.hid Abc
  replace Aat := Lib.hid Aat
  replace Mpc := Lib.hid Mpc
  replace Mbc := Lib.hid Mbc
  replace Mar := Lib.hid Mar
  replace Mat := Lib.hid Mat
  replace Mac := Lib.hid Mac
  replace Apm := Lib.hid Apm
  replace A0 := Lib.hid A0
  replace M1 := Lib.hid M1
  replace M0 := Lib.hid M0
  replace Cab := Lib.hid Cab
  replace Cba := Lib.hid Cba
  replace Aac := Lib.hid Aac
  replace Cee := Lib.hid Cee
  replace O1 := Lib.hid O1
  replace O2 := Lib.hid O2
  replace P2 := Lib.hid P2
  replace CT := Lib.hid CT
  replace Abc2 := Lib.hid Abc2
  have HT := Lib.hid hTB
  replace hcw := Lib.hid hcw
  clear hT hTB ds dp dt dr dm de
  have hL0 : NL w w [] := NL.start w
  go_enter Tryz.func11, Tryz.ntmps11
  go_wp2_with fail
  with_reducible refine Calls.mono (MX.out _ hx.out) ?_
  rintro e x1 ⟨rfl, hb⟩
  replace hL0 := hL0.call hb
  clear hb MX
  go_wp2_with fail
  with_reducible refine Calls.mono (MY.out _ (hy.out.below hL0.bl)) ?_
  rintro e x2 ⟨rfl, hb⟩
  replace hL0 := hL0.call hb
  clear hb MY
  go_wp2_with fail
  with_reducible refine Calls.mono (MZ.out _ (hz.out.below hL0.bl)) ?_
  rintro e x3 ⟨rfl, hb⟩
  replace hL0 := hL0.call hb
  clear hb MZ
  replace hL0 := (((hL0.new rfl a 32).new (szA _ _) b 32).new (szA2 _ _ _) c 32)
  generalize hweq : (((x3.alloc (.cells #[.int .u64 ((lo a : Nat) : Int), .string (hs a)] 32)).alloc (.cells #[.int .u64 ((lo b : Nat) : Int), .string (hs b)] 32)).alloc (.cells #[.int .u64 ((lo c : Nat) : Int), .string (hs c)] 32)) = x4 at hL0
  go_upto_region 4 with fail
  clear hweq
  refine region_gh (by kernel_rfl) (by kernel_rfl) ?_
  refine lex_seg (gl := []) 8 (by kernel_rfl) ?_
  intro α iα F hF1 hF2
  obtain ⟨q1, s1⟩ := seg_get hF1 hL0 (x3.heap.size) a (by (repeat (first | with_reducible exact List.mem_cons_self | with_reducible refine List.mem_cons_of_mem _ ?_)))
  obtain ⟨q2, s2⟩ := seg_get hF1 hL0 (x3.heap.size + 1) b (by (repeat (first | with_reducible exact List.mem_cons_self | with_reducible refine List.mem_cons_of_mem _ ?_)))
  simp only [List.take_succ_cons, List.take_zero, List.drop_succ_cons, List.drop_zero, List.take_nil, List.drop_nil]
  repeat (go_big_quiet_step (first | fail | (go_at_call 53; with_reducible exact seg_call hF2 Aab.out _) | (go_at_call 51; with_reducible exact seg_call hF2 S1.out _)))
  refine wpQuiet_nil ?_
  clear q1 s1 q2 s2 hF1 hF2 iα F α
  refine lex_new (nc 0) 10 32 32 rfl rfl (of_decide_eq_true (by kernel_rfl)) (by kernel_rfl) rfl new_nat ?_
  simp only [Act.put, List.setIfInBounds_toArray, List.set_cons_succ, List.set_cons_zero]
  refine lex_put (nc a) (nc 0) 10 32 (.tmp 43) rfl (by kernel_rfl) (by simp [toG, upd]) rfl (fun w k h => put_nat 0 a w k h) ?_
  simp only [Act.put]
  refine lex_seg (gl := [(10, nc a, true), (10, nc 0, false)]) 1 (by kernel_rfl) ?_
  intro α iα F hF1 hF2
  obtain ⟨q3, s3⟩ := seg_get hF1 hL0 (x3.heap.size) a (by (repeat (first | with_reducible exact List.mem_cons_self | with_reducible refine List.mem_cons_of_mem _ ?_)))
  obtain ⟨q4, s4⟩ := seg_get hF1 hL0 (x3.heap.size + 1) b (by (repeat (first | with_reducible exact List.mem_cons_self | with_reducible refine List.mem_cons_of_mem _ ?_)))
  simp only [List.take_succ_cons, List.take_zero, List.drop_succ_cons, List.drop_zero, List.take_nil, List.drop_nil]
  repeat (go_big_quiet_step (first | fail | (go_at_call 53; with_reducible exact seg_call hF2 Aab.out _) | (go_at_call 51; with_reducible exact seg_call hF2 S1.out _)))
  refine wpQuiet_nil ?_
  clear q3 s3 q4 s4 hF1 hF2 iα F α
  refine lexG_nil ?_
  intro κ x5 hS
  replace hL0 := hL0.ghs hS [(10, a)] (by simp) (by intro p hp; simp only [List.mem_cons, List.not_mem_nil, or_false] at hp; rcases hp with rfl <;> exact ⟨_, by simp only [toG, upd]; rfl⟩)
  simp only [List.map_cons, List.map_nil, List.cons_append, List.nil_append] at hL0
  simp only [over_toG, over_nil, Act.put, List.setIfInBounds_toArray, List.set_cons_succ, List.set_cons_zero]
  clear hS
  generalize κ 10 = k5_10 at *
  go_upto_region 5 with fail
  obtain ⟨α, iα, F, hF1, hF2⟩ := cls x5
  obtain ⟨q5, s5⟩ := cls_get hF1 hL0 (x3.heap.size) a (by (repeat (first | with_reducible exact List.mem_cons_self | with_reducible refine List.mem_cons_of_mem _ ?_)))
  obtain ⟨q6, s6⟩ := cls_get hF1 hL0 (x3.heap.size + 1) b (by (repeat (first | with_reducible exact List.mem_cons_self | with_reducible refine List.mem_cons_of_mem _ ?_)))
  obtain ⟨q7, s7⟩ := cls_get hF1 hL0 (x3.heap.size + 1 + 1) c (by (repeat (first | with_reducible exact List.mem_cons_self | with_reducible refine List.mem_cons_of_mem _ ?_)))
  obtain ⟨q8, s8⟩ := cls_get hF1 hL0 (k5_10) a (by (repeat (first | with_reducible exact List.mem_cons_self | with_reducible refine List.mem_cons_of_mem _ ?_)))
  refine region_cls (F := F) (by kernel_rfl) (by kernel_rfl) (cls_drew hF2) ?_
  simp only [List.append]
  repeat (go_big_quiet_step (first
    | (go_at_call 53; with_reducible exact cls_call hF1 hF2 Aab.out _)
    | (go_at_call 53; with_reducible exact cls_call hF1 hF2 Aba.out _)
    | (go_at_call 53; with_reducible exact cls_call hF1 hF2 Asc.out _)
    | (go_at_call 53; with_reducible exact cls_call hF1 hF2 Abc.out _)
    | (go_at_call 53; with_reducible exact cls_call hF1 hF2 Aat.out _)
    | (go_at_call 53; with_reducible exact cls_call hF1 hF2 Apm.out _)
    | (go_at_call 58; with_reducible exact cls_call hF1 hF2 Mab.out _)
    | (go_at_call 58; with_reducible exact cls_call hF1 hF2 Mba.out _)
    | (go_at_call 58; with_reducible exact cls_call hF1 hF2 Mpc.out _)
    | (go_at_call 58; with_reducible exact cls_call hF1 hF2 Mbc.out _)
    | (go_at_call 58; with_reducible exact cls_call hF1 hF2 Mar.out _)
    | (go_at_call 58; with_reducible exact cls_call hF1 hF2 Mat.out _)
    | (go_at_call 58; with_reducible exact cls_call hF1 hF2 Mac.out _)))
  refine wpQuiet_nil ?_
  intro wq hwq
  obtain ⟨xq, rfl⟩ := hwq
  have hLq := hL0.call (hF1 xq)
  generalize F xq = x6 at hLq ⊢
  replace hL0 := hLq
  clear hLq hF1 hF2 q5 s5 q6 s6 q7 s7 q8 s8
  go_upto_region 8 with fail
  replace hL0 := hL0.new0 rfl 32
  generalize hz : x6.alloc (.cells #[.int .u64 0, .string ⟨#[]⟩] 32) = wz at hL0 ⊢
  clear hz
  clear Aab S1 Aba Mab Mba Asc Abc Aat Mpc Mbc Mar Mat Mac Apm
  rcases hcw.out with rfl | rfl | rfl
  all_goals (
    obtain ⟨α, iα, F, hF1, hF2⟩ := cls wz
    obtain ⟨q9, s9⟩ := cls_get hF1 hL0 (x3.heap.size) a (by (repeat (first | with_reducible exact List.mem_cons_self | with_reducible refine List.mem_cons_of_mem _ ?_)))
    obtain ⟨q10, s10⟩ := cls_get hF1 hL0 (x3.heap.size + 1) b (by (repeat (first | with_reducible exact List.mem_cons_self | with_reducible refine List.mem_cons_of_mem _ ?_)))
    obtain ⟨q11, s11⟩ := cls_get hF1 hL0 (x3.heap.size + 1 + 1) c (by (repeat (first | with_reducible exact List.mem_cons_self | with_reducible refine List.mem_cons_of_mem _ ?_)))
    obtain ⟨q12, s12⟩ := cls_get hF1 hL0 (x6.heap.size) 0 (by (repeat (first | with_reducible exact List.mem_cons_self | with_reducible refine List.mem_cons_of_mem _ ?_)))
    refine region_cls (F := F) (by kernel_rfl) (by kernel_rfl) (cls_drew hF2) ?_
    repeat (go_big_quiet_step (first
      | (go_at_call 53; with_reducible exact cls_call hF1 hF2 A0.out _)
      | (go_at_call 53; with_reducible exact cls_call hF1 hF2 Aac.out _)
      | (go_at_call 53; with_reducible exact cls_call hF1 hF2 Abc2.out _)
      | (go_at_call 58; with_reducible exact cls_call hF1 hF2 M1.out _)
      | (go_at_call 58; with_reducible exact cls_call hF1 hF2 M0.out _)
      | (go_at_call 55; with_reducible exact cls_call hF1 hF2 Cab.out _)
      | (go_at_call 55; with_reducible exact cls_call hF1 hF2 Cba.out _)
      | (go_at_call 55; with_reducible exact cls_call hF1 hF2 Cee.out _)
      | (go_at_call 65; with_reducible exact cls_call hF1 hF2 O1.out _)))
    refine wpQuiet_nil ?_
    intro wq hwq
    obtain ⟨xq, rfl⟩ := hwq
    have hLq := hL0.call (hF1 xq)
    generalize F xq = x7 at hLq ⊢
    replace hL0 := hLq
    clear hLq hF1 hF2 q9 s9 q10 s10 q11 s11 q12 s12
    clear A0 M1 M0 Cab Cba Aac Abc2 Cee O1
    rcases Nat.lt_or_ge a Bs with hs | hs
    · have U10 := Lib.hid (fun w => u64_small a hs w)
      have Oa := Lib.hid (fun w => of_any a hs w)
      have c1 : decide (cmpI a T < 0) = true := decide_eq_true (by rw [cmpI_lt (by rw [HT.out]; exact hs)]; omega)
      have HW := Lib.hid (fun w h => works_any w h)
      clear hs HT
      obtain ⟨p13, r13⟩ := hL0.get (x3.heap.size) a (by (repeat (first | with_reducible exact List.mem_cons_self | with_reducible refine List.mem_cons_of_mem _ ?_)))
      go_wp2_with fail
      with_reducible refine Calls.mono (U10.out _) ?_
      rintro e x8 ⟨rfl, hb⟩
      replace hL0 := hL0.call hb
      clear hb U10
      go_wp2_with fail
      with_reducible refine Calls.mono (O2.out _) ?_
      rintro e x9 ⟨rfl, hb⟩
      replace hL0 := hL0.call hb
      clear hb O2
      go_wp2_with fail
      with_reducible refine Calls.mono (P2.out _) ?_
      rintro e x10 ⟨rfl, hb⟩
      replace hL0 := hL0.call hb
      clear hb P2
      replace hL0 := (hL0.new rfl T 32)
      generalize hweq : (x10.alloc (.cells #[.int .u64 ((lo T : Nat) : Int), .string (hs T)] 32)) = x11 at hL0
      go_upto_region 12 with fail
      clear hweq
      have ht0 := htab.below hL0.bl
      obtain ⟨α, iα, F, hF1, hF2⟩ := cls x11
      obtain ⟨q14, s14⟩ := cls_get hF1 hL0 (x3.heap.size) a (by (repeat (first | with_reducible exact List.mem_cons_self | with_reducible refine List.mem_cons_of_mem _ ?_)))
      obtain ⟨q15, s15⟩ := cls_get hF1 hL0 (x10.heap.size) T (by (repeat (first | with_reducible exact List.mem_cons_self | with_reducible refine List.mem_cons_of_mem _ ?_)))
      refine region_cls (F := F) (by kernel_rfl) (by kernel_rfl) (cls_drew hF2) ?_
      repeat (go_big_quiet_step (first
        | (go_at_call 55; with_reducible exact cls_call hF1 hF2 CT.out _)
        | (go_at_call 16; with_reducible exact cls_callT hF1 hF2 ht0 HW.out _)
        | (go_at_call 65; with_reducible exact cls_call hF1 hF2 Oa.out _)))
      refine wpQuiet_nil ?_
      intro wq hwq
      obtain ⟨xq, rfl⟩ := hwq
      have hLq := hL0.call (hF1 xq)
      generalize F xq = x12 at hLq ⊢
      replace hL0 := hLq
      clear hLq hF1 hF2 q14 s14 q15 s15
      go_wp2_with fail
      exact bodyPost_ret (v := .bool true) (by simp [results, Tryz.results11, go_sem]) rfl ⟨rfl, hL0.bl⟩
    · have U10 := Lib.hid (fun w => u64_big a hs w)
      have c1 : decide (cmpI a T < 0) = false := decide_eq_false (by unfold cmpI; rw [if_neg (by rw [HT.out]; omega)]; split <;> omega)
      have HW := Lib.hid (fun w h => works_any w h)
      clear hs HT
      obtain ⟨p16, r16⟩ := hL0.get (x3.heap.size) a (by (repeat (first | with_reducible exact List.mem_cons_self | with_reducible refine List.mem_cons_of_mem _ ?_)))
      go_wp2_with fail
      with_reducible refine Calls.mono (U10.out _) ?_
      rintro e x13 ⟨rfl, hb⟩
      replace hL0 := hL0.call hb
      clear hb U10
      go_wp2_with fail
      with_reducible refine Calls.mono (O2.out _) ?_
      rintro e x14 ⟨rfl, hb⟩
      replace hL0 := hL0.call hb
      clear hb O2
      go_wp2_with fail
      with_reducible refine Calls.mono (P2.out _) ?_
      rintro e x15 ⟨rfl, hb⟩
      replace hL0 := hL0.call hb
      clear hb P2
      replace hL0 := (hL0.new rfl T 32)
      generalize hweq : (x15.alloc (.cells #[.int .u64 ((lo T : Nat) : Int), .string (hs T)] 32)) = x16 at hL0
      go_upto_region 12 with fail
      clear hweq
      have ht0 := htab.below hL0.bl
      obtain ⟨α, iα, F, hF1, hF2⟩ := cls x16
      obtain ⟨q17, s17⟩ := cls_get hF1 hL0 (x3.heap.size) a (by (repeat (first | with_reducible exact List.mem_cons_self | with_reducible refine List.mem_cons_of_mem _ ?_)))
      obtain ⟨q18, s18⟩ := cls_get hF1 hL0 (x15.heap.size) T (by (repeat (first | with_reducible exact List.mem_cons_self | with_reducible refine List.mem_cons_of_mem _ ?_)))
      refine region_cls (F := F) (by kernel_rfl) (by kernel_rfl) (cls_drew hF2) ?_
      repeat (go_big_quiet_step (first
        | (go_at_call 55; with_reducible exact cls_call hF1 hF2 CT.out _)
        | (go_at_call 16; with_reducible exact cls_callT hF1 hF2 ht0 HW.out _)))
      refine wpQuiet_nil ?_
      intro wq hwq
      obtain ⟨xq, rfl⟩ := hwq
      have hLq := hL0.call (hF1 xq)
      generalize F xq = x17 at hLq ⊢
      replace hL0 := hLq
      clear hLq hF1 hF2 q17 s17 q18 s18
      go_wp2_with fail
      exact bodyPost_ret (v := .bool true) (by simp [results, Tryz.results11, go_sem]) rfl ⟨rfl, hL0.bl⟩)

theorem rings_any (vx vy vz : Value) (lx ly lz : List Nat) (w : World) (htab : Tab w) (hx : Ws w vx lx) (hy : Ws w vy ly) (hz : Ws w vz lz) :
    Calls Tryz.prog 11 #[vx, vy, vz] w fun e w' => e = .returned (.bool true) ∧ Below w.heap.size w w' := by
  by_cases h : 16 < lx.length ∨ 16 < ly.length ∨ 16 < lz.length
  · obtain ⟨ax, cx, rfl⟩ := hx.form
    obtain ⟨ay, cy, rfl⟩ := hy.form
    obtain ⟨az, cz, rfl⟩ := hz.form
    exact rings_big ax ay az cx cy cz _ _ _ h w htab
  · exact rings_small vx vy vz lx ly lz w htab hx hy hz (by omega) (by omega) (by omega)
end Go.Proofs.YthehcjfmokabfaaGreatDoor

/-
  The reference of layer 1: numbers by their digits to the base 10000, as mathematics; slices of ints.
-/
namespace Go.Proofs.YthehcjfmokabfaaGreatDoor.Rx
open Go.RowKit

/-- The number that digits spell. -/
def tv : List Nat → Nat
  | [] => 0
  | d :: l => d + 10000 * tv l
theorem tv_cons (d : Nat) (l : List Nat) : tv (d :: l) = d + 10000 * tv l := rfl
theorem tv_nil : tv [] = 0 := rfl
/-- The digits of a number. -/
def td (n : Nat) : List Nat := if h : n = 0 then [] else n % 10000 :: td (n / 10000)
theorem td_zero : td 0 = [] := by rw [td, dif_pos rfl]
theorem td_pos {n : Nat} (h : n ≠ 0) : td n = n % 10000 :: td (n / 10000) := by rw [td, dif_neg h]
theorem tv_td (n : Nat) : tv (td n) = n := by
  induction n using Nat.strongRecOn with
  | _ n ih =>
    by_cases h : n = 0
    · rw [h, td_zero]; rfl
    · rw [td_pos h, tv, ih (n / 10000) (by omega)]; omega
theorem td_lt (n : Nat) : ∀ d ∈ td n, d < 10000 := by
  induction n using Nat.strongRecOn with
  | _ n ih =>
    by_cases h : n = 0
    · rw [h, td_zero]; intro d hd; cases hd
    · rw [td_pos h]
      intro d hd
      rcases List.mem_cons.1 hd with rfl | hd
      · omega
      · exact ih (n / 10000) (by omega) d hd
theorem td_nil {n : Nat} : td n = [] ↔ n = 0 := by
  by_cases h : n = 0
  · rw [h, td_zero]; simp
  · rw [td_pos h]; simp [h]
theorem tv_append (l m : List Nat) : tv (l ++ m) = tv l + 10000 ^ l.length * tv m := by
  induction l with
  | nil => simp [tv]
  | cons d l ih => rw [List.cons_append, tv, ih, tv, List.length_cons, Nat.pow_succ, Nat.mul_add, Nat.mul_comm _ 10000, Nat.mul_assoc]; omega
theorem tv_lt {l : List Nat} (h : ∀ d ∈ l, d < 10000) : tv l < 10000 ^ l.length := by
  induction l with
  | nil => exact Nat.one_pos
  | cons d l ih =>
    have h1 := ih fun x hx => h x (List.mem_cons_of_mem _ hx)
    have h2 := h d List.mem_cons_self
    rw [tv, List.length_cons, Nat.pow_succ]
    omega
theorem tv_zeros (k : Nat) : tv (List.replicate k 0) = 0 := by
  induction k with
  | zero => rfl
  | succ k ih => rw [List.replicate_succ, tv, ih]
/-- Digits are those of their number, and zeros behind them. -/
theorem td_tv {l : List Nat} (h : ∀ d ∈ l, d < 10000) : ∃ z, l = td (tv l) ++ List.replicate z 0 := by
  induction l with
  | nil => exact ⟨0, by rw [tv, td_zero]; rfl⟩
  | cons d l ih =>
    obtain ⟨z, hz⟩ := ih fun x hx => h x (List.mem_cons_of_mem _ hx)
    have hd := h d List.mem_cons_self
    rw [tv]
    by_cases h0 : d + 10000 * tv l = 0
    · have h1 : tv l = 0 := by omega
      rw [h1, td_zero, List.nil_append] at hz
      refine ⟨z + 1, ?_⟩
      rw [h0, td_zero, List.nil_append, List.replicate_succ, ← hz, show d = 0 by omega]
    · refine ⟨z, ?_⟩
      rw [td_pos h0, show (d + 10000 * tv l) % 10000 = d by omega, show (d + 10000 * tv l) / 10000 = tv l by omega, List.cons_append, ← hz]
theorem td_length {n k : Nat} : (td n).length ≤ k ↔ n < 10000 ^ k := by
  induction k generalizing n with
  | zero =>
    rw [Nat.pow_zero]
    constructor
    · intro h; have := td_nil.1 (List.eq_nil_of_length_eq_zero (l := td n) (by omega)); omega
    · intro h; rw [show n = 0 by omega, td_zero]; exact Nat.le_refl _
  | succ k ih =>
    by_cases h : n = 0
    · rw [h, td_zero]; exact ⟨fun _ => Nat.pow_pos (by omega), fun _ => Nat.zero_le _⟩
    · rw [td_pos h, List.length_cons, Nat.pow_succ]
      have := ih (n := n / 10000)
      constructor
      · intro h1; have := this.1 (by omega); omega
      · intro h1; have := this.2 (by omega); omega
theorem td_mono {a b : Nat} (h : a ≤ b) : (td a).length ≤ (td b).length := td_length.2 (Nat.lt_of_le_of_lt h (td_length.1 (Nat.le_refl _)))
theorem tv_snoc (l : List Nat) (d : Nat) : tv (l ++ [d]) = tv l + 10000 ^ l.length * d := by rw [tv_append]; simp [tv]
theorem tv_take_getElem {l : List Nat} {k : Nat} (h : k < l.length) : tv (l.take (k + 1)) = tv (l.take k) + 10000 ^ k * l[k] := by
  rw [List.take_succ_eq_append_getElem h, tv_snoc, List.length_take, Nat.min_eq_left (Nat.le_of_lt h)]
theorem td_last {n : Nat} (h : td n ≠ []) : (td n).getLast h ≠ 0 := by
  induction n using Nat.strongRecOn with
  | _ n ih =>
    have h0 : n ≠ 0 := fun e => h (td_nil.2 e)
    by_cases h1 : n / 10000 = 0
    · simp only [td_pos h0, h1, td_zero, List.getLast_singleton]; omega
    · have h2 : td (n / 10000) ≠ [] := fun e => h1 (td_nil.1 e)
      have := ih (n / 10000) (by omega) h2
      simp only [td_pos h0]
      rwa [List.getLast_cons h2]
/-- A digit, or 0 behind the last one. -/
def dg (l : List Nat) (i : Nat) : Nat := l.getD i 0
theorem dg_lt {l : List Nat} (h : ∀ d ∈ l, d < 10000) (i : Nat) : dg l i < 10000 := by
  unfold dg
  rcases Nat.lt_or_ge i l.length with hi | hi
  · simp [hi]; exact h _ (List.getElem_mem hi)
  · simp [hi]
theorem dg_in {l : List Nat} {i : Nat} (h : i < l.length) : dg l i = l[i] := by unfold dg; simp [h]
theorem dg_out {l : List Nat} {i : Nat} (h : l.length ≤ i) : dg l i = 0 := by unfold dg; simp [h]
theorem tv_take (l : List Nat) (k : Nat) : tv (l.take (k + 1)) = tv (l.take k) + 10000 ^ k * dg l k := by
  rcases Nat.lt_or_ge k l.length with h | h
  · rw [tv_take_getElem h, dg_in h]
  · rw [dg_out h, List.take_of_length_le (by omega), List.take_of_length_le h]; omega

/-- A slice of ints that can be read. -/
structure Sd (w : World) (a : Addr) (l : List Nat) : Prop where
  cell : ∀ (i : Nat) (h : i < l.length), w.cell? (a.add i) = some (.int .i64 ((l[i] : Nat) : Int))
  blk : a.block < w.heap.size
theorem addB (a : Addr) (i : Nat) : (a.add i).block = a.block := by unfold Addr.add; split <;> rfl
theorem Sd.below {w w' : World} {a : Addr} {l : List Nat} (h : Sd w a l) (hb : Below w.heap.size w w') : Sd w' a l :=
  ⟨fun i hi => (hb.cell (p := a.add i) (by rw [addB]; exact h.blk)).trans (h.cell i hi), Nat.lt_of_lt_of_le h.blk hb.size⟩
theorem Sd.left {w : World} {a : Addr} {l m : List Nat} (h : Sd w a (l ++ m)) : Sd w a l :=
  ⟨fun i hi => by rw [h.cell i (by rw [List.length_append]; omega), List.getElem_append_left hi], h.blk⟩
def Sl (w : World) (v : Value) (l : List Nat) : Prop := (∃ ao c, v = .slice ao 0 c ∧ l = [] ∧ (ao = none → c = 0)) ∨ ∃ a c, v = .slice (some a) l.length c ∧ l.length ≤ c ∧ Sd w a l
theorem Sl.below {w w' : World} {v : Value} {l : List Nat} (h : Sl w v l) (hb : Below w.heap.size w w') : Sl w' v l := by
  rcases h with h | ⟨a, c, h1, h2, h3⟩
  · exact .inl h
  · exact .inr ⟨a, c, h1, h2, h3.below hb⟩
theorem Sl.form {w : World} {v : Value} {l : List Nat} (h : Sl w v l) : ∃ ao c, v = .slice ao l.length c := by
  rcases h with ⟨ao, c, rfl, rfl, -⟩ | ⟨a, c, rfl, _⟩
  · exact ⟨_, _, rfl⟩
  · exact ⟨_, _, rfl⟩
theorem Sl.nil (w : World) : Sl w (.slice none 0 0) [] := .inl ⟨_, _, rfl, rfl, fun _ => rfl⟩
theorem Sl.drew {w : World} {v : Value} {l : List Nat} (h : Sl w v l) : Sl w.drew v l := by
  rcases h with h | ⟨a, c, h1, h2, h3⟩
  · exact .inl h
  · exact .inr ⟨a, c, h1, h2, h3.cell, h3.blk⟩
/-- What the walk asks of a slice. -/
theorem Sl.view {w : World} {v : Value} {l : List Nat} (h : Sl w v l) : ∃ ao c, v = .slice ao l.length c ∧ (0 < l.length → ∃ a, ao = some a ∧ l.length ≤ c ∧ Sd w a l) := by
  rcases h with ⟨ao, c, rfl, rfl, -⟩ | ⟨a, c, rfl, h2, h3⟩
  · exact ⟨_, _, rfl, fun h => absurd h (Nat.lt_irrefl 0)⟩
  · exact ⟨_, _, rfl, fun _ => ⟨a, rfl, h2, h3⟩⟩
/-- What an append looks at. -/
theorem Sl.src {w : World} {v : Value} {l : List Nat} (h : Sl w v l) : (v = .slice none 0 0 ∧ l = []) ∨ ∃ ad c, v = .slice (some ad) l.length c ∧ ∀ (j : Nat) (u : Value), (l.map fun (d : Nat) => Value.int .i64 (d : Int))[j]? = some u → w.cell? (ad.add j) = some u := by
  rcases h with ⟨ao, c, rfl, rfl, hc⟩ | ⟨a, c, rfl, _, h3⟩
  · cases ao with
    | none => exact .inl ⟨by rw [hc rfl], rfl⟩
    | some ad => exact .inr ⟨ad, c, rfl, fun j u hu => by simp at hu⟩
  · refine .inr ⟨a, c, rfl, fun j u hu => ?_⟩
    rw [List.getElem?_map] at hu
    obtain ⟨x, hx, rfl⟩ := Option.map_eq_some_iff.1 hu
    obtain ⟨hjl, rfl⟩ := List.getElem?_eq_some_iff.1 hx
    exact h3.cell j hjl
/-- What the call owns can be read. -/
theorem Sl.owned {w : World} {base e : Nat} {v : Value} {n : Nat} {l : List Nat} (h : w.ownsRow base e 1 v n (l.map fun (d : Nat) => Value.int .i64 (d : Int))) (hn : n = l.length) : Sl w v l := by
  subst hn
  have hlt := h.lt
  have hc := fun g hg => World.ownsRow.cells h (g := g) hg
  rcases h.2 with ⟨h', h''⟩ | ⟨g, cap, cur, h', _, hg, hm, hk, hsz, htake⟩
  · exact .inl ⟨none, 0, h', by simpa using h'', fun _ => rfl⟩
  · refine .inr ⟨⟨g, 0, none⟩, cap, h', ?_, fun i hi => ?_, ?_⟩
    · omega
    · have := hc g (by rw [h']; rfl) i (.int .i64 ((l[i] : Nat) : Int)) (by simp [hi])
      exact this
    · exact (hlt g (by rw [h']; rfl)).2
abbrev iv (d : Nat) : Value := .int .i64 (d : Int)
theorem own_next {w : World} {B e k : Nat} {v : Value} {l : List Nat} (h : k < l.length) {x : Int} (hx : x = ((l[k] : Nat) : Int)) (ho : w.ownsRow B e 1 v (k + 1) (List.take k (List.map iv l) ++ [.int .i64 x])) :
    w.ownsRow B e 1 v (k + 1) ((l.take (k + 1)).map iv) := by
  rw [List.take_succ_eq_append_getElem h, List.map_append, List.map_take]
  rw [hx] at ho
  exact ho
theorem own_snoc {w : World} {B e k : Nat} {v : Value} {l : List Nat} {x : Int} {d : Nat} (hx : x = (d : Int)) (ho : w.ownsRow B e 1 v (k + 1) (List.map iv l ++ [.int .i64 x])) : w.ownsRow B e 1 v (k + 1) ((l ++ [d]).map iv) := by
  rw [hx] at ho
  rw [List.map_append]
  exact ho
theorem below_app {B e k : Nat} {w wr w1 : World} {v : Value} {xs : List Value} {o : Obj} (hb : Below B w wr) (hB : B ≤ wr.heap.size) (hown : wr.ownsRow B e 1 v k xs) (hg : (wr.alloc o).grownBy w1 v.ownBlock) : Below B w w1 :=
  (hb.alloc hB o).grown hg (by rw [World.size_alloc]; omega) (fun j hj => (hown.lt j hj).1)
end Go.Proofs.YthehcjfmokabfaaGreatDoor.Rx

/-
  The reference of layer 1, walks A: at, trim, Of, Cmp.
-/
namespace Go.Proofs.YthehcjfmokabfaaGreatDoor.Rx
open Go.RowKit
attribute [local irreducible] tv dg

theorem at_any (v : Value) (l : List Nat) (i : Nat) (hi : i < 9223372036854775808) (hl : l.length < 9223372036854775808) (w : World) (h : Sl w v l) :
    Calls Tryz.prog 98 #[v, .int .i64 (i : Int)] w fun e w' => e = .returned (.int .i64 ((dg l i : Nat) : Int)) ∧ w = w' := by
  obtain ⟨ao, c, rfl, hv⟩ := h.view
  rcases Nat.lt_or_ge i l.length with hlt | hge
  · obtain ⟨a, rfl, -, hs⟩ := hv (by omega)
    have hc := hs.cell i hlt
    have hd := Lib.hid (dg_in hlt)
    obtain ⟨d, hd'⟩ : ∃ d, d = dg l i := ⟨_, rfl⟩
    rw [← hd.out, ← hd'] at hc
    rw [← hd']
    clear hd hd' hv h hs
    generalize l.length = n at *
    have h1 : (i : Int) < (n : Int) := by omega
    go_enter Tryz.func98, Tryz.ntmps98
    go_wp2
    go_ret
    exact ⟨rfl, rfl⟩
  · rw [dg_out hge]
    generalize l.length = n at *
    have h1 : ¬ (i : Int) < (n : Int) := by omega
    go_enter Tryz.func98, Tryz.ntmps98
    go_wp2
    go_ret
    exact ⟨rfl, rfl⟩

def lenOf : Value → Nat | .slice _ n _ => n | _ => 0

theorem trim_nil (ao : Option Addr) (c : Nat) (w : World) :
    Calls Tryz.prog 99 #[.slice ao 0 c] w fun e w' => e = .returned (.slice ao 0 c) ∧ w = w' := by
  go_enter Tryz.func99, Tryz.ntmps99
  go_wp2_with fail
  go_loopw [0] (fun v wr => v = .slice ao 0 c ∧ wr = w) (fun v _ => lenOf v)
  case atStart => exact ⟨rfl, rfl⟩
  case round =>
    obtain ⟨rfl, rfl⟩ := hrel
    go_wp2_with fail
    go_ret
    exact ⟨rfl, rfl⟩

theorem trim_row (a : Addr) (c m z : Nat) (l : List Nat) (hm : l.length = m) (hc : m + z ≤ c) (hB : m + z < 9223372036854775807) (hlast : ∀ h : l ≠ [], l.getLast h ≠ 0) (w : World) (h : Sd w a (l ++ List.replicate z 0)) :
    Calls Tryz.prog 99 #[.slice (some a) (m + z) c] w fun e w' => e = .returned (.slice (some a) m c) ∧ w = w' := by
  have hz : ∀ k, k < z → w.cell? (a.add (m + k)) = some (.int .i64 0) := fun k hk => by
    rw [h.cell (m + k) (by simp; omega), List.getElem_append_right (by omega)]; simp
  have hl : ∀ p, m = p + 1 → ∃ d : Nat, d ≠ 0 ∧ w.cell? (a.add p) = some (.int .i64 (d : Int)) := fun p hp => by
    have hne : l ≠ [] := fun e => by rw [e] at hm; simp at hm; omega
    refine ⟨l.getLast hne, hlast hne, ?_⟩
    rw [h.cell p (by simp; omega), List.getElem_append_left (by omega), List.getLast_eq_getElem hne]
    simp [hm, hp]
  clear h hlast hm
  replace hz := Lib.hid hz
  replace hl := Lib.hid hl
  go_enter Tryz.func99, Tryz.ntmps99
  go_wp2_with fail
  go_loopw [0] (fun v wr => ∃ k, k ≤ z ∧ v = .slice (some a) (m + k) c ∧ wr = w) (fun v _ => lenOf v)
  case atStart => exact ⟨z, Nat.le_refl _, rfl, rfl⟩
  case round =>
    obtain ⟨k, hk, rfl, rfl⟩ := hrel
    cases k with
    | zero =>
      rw [Nat.add_zero]
      cases m with
      | zero =>
        go_wp2_with fail
        go_ret
        exact ⟨rfl, rfl⟩
      | succ p =>
        obtain ⟨d, hd, hcell⟩ := hl.out p rfl
        have hd1 : ((d : Int) == 0) = false := beq_eq_false_iff_ne.2 (by omega)
        go_wp2_with fail
        go_ret
        exact ⟨rfl, rfl⟩
    | succ j =>
      have hcell := hz.out j (by omega)
      rw [show m + (j + 1) = (m + j) + 1 from by omega]
      obtain ⟨q, hq⟩ : ∃ q, q = m + j := ⟨_, rfl⟩
      rw [← hq] at hcell ⊢
      have hqc : q + 1 ≤ c := by omega
      have hqB : q + 1 < 9223372036854775807 := by omega
      replace hq := Lib.hid hq
      go_wp2_with fail
      go_roundw
      case rel => exact ⟨j, by omega, by rw [hq.out], trivial⟩
      case measure => simp [lenOf]

/-- trim: the digits of a number. -/
theorem trim_any (v : Value) (l : List Nat) (hd : ∀ d ∈ l, d < 10000) (hB : l.length < 9223372036854775807) (w : World) (h : Sl w v l) :
    Calls Tryz.prog 99 #[v] w fun e w' => ∃ v', e = .returned v' ∧ Sl w v' (td (tv l)) ∧ w = w' := by
  obtain ⟨z, hz⟩ := td_tv hd
  rcases h with ⟨ao, c, rfl, rfl, hc0⟩ | ⟨a, c, rfl, h2, h3⟩
  · refine (trim_nil ao c w).mono ?_
    rintro e w' ⟨rfl, rfl⟩
    exact ⟨_, rfl, .inl ⟨ao, c, rfl, by rw [tv_nil, td_zero], hc0⟩, rfl⟩
  · have hlen : l.length = (td (tv l)).length + z := by
      have := congrArg List.length hz
      rwa [List.length_append, List.length_replicate] at this
    rw [hz] at h3
    rw [hlen] at h2 hB ⊢
    refine (trim_row a c _ z (td (tv l)) rfl h2 hB (fun h => td_last h) w h3).mono ?_
    rintro e w' ⟨rfl, rfl⟩
    exact ⟨_, rfl, .inr ⟨a, c, rfl, by omega, h3.left⟩, rfl⟩
end Go.Proofs.YthehcjfmokabfaaGreatDoor.Rx

/-
  The reference of layer 1, walks B: Of, Add.
-/
namespace Go.Proofs.YthehcjfmokabfaaGreatDoor.Rx
open Go.RowKit
attribute [local irreducible] tv dg

theorem Tryz.infoI : (Tryz.prog.info? 3).map (fun i => (i.zero, i.size, i.bytes)) = some (some (.int .i64 0), 1, 8) := by kernel_rfl

/-- What the digits so far spell, with what is left. -/
theorem td_step {n k : Nat} (hk : k < (td n).length) : n / 10000 ^ k ≠ 0 ∧ (td n)[k] = n / 10000 ^ k % 10000 := by
  induction k generalizing n with
  | zero =>
    have h0 : n ≠ 0 := fun e => by rw [e, td_zero] at hk; exact absurd hk (by simp)
    simp only [Nat.pow_zero, Nat.div_one]
    refine ⟨h0, ?_⟩
    simp only [td_pos h0, List.getElem_cons_zero]
  | succ k ih =>
    have h0 : n ≠ 0 := fun e => by rw [e, td_zero] at hk; exact absurd hk (by simp)
    have hk' : k < (td (n / 10000)).length := by rw [td_pos h0, List.length_cons] at hk; omega
    have := ih hk'
    rw [Nat.div_div_eq_div_mul, Nat.mul_comm, ← Nat.pow_succ] at this
    refine ⟨this.1, ?_⟩
    simp only [td_pos h0, List.getElem_cons_succ]
    exact this.2
theorem td_end {n k : Nat} (hk : (td n).length ≤ k) : n / 10000 ^ k = 0 := Nat.div_eq_of_lt (td_length.1 hk)

set_option maxHeartbeats 2000000 in
set_option maxRecDepth 100000 in
theorem rof_any (n : Nat) (hn : n < 18446744073709551616) (w : World) :
    Calls Tryz.prog 92 #[.int .u64 (n : Int)] w fun e w' => ∃ v, e = .returned v ∧ Sl w' v (td n) ∧ Below w.heap.size w w' := by
  obtain ⟨i0, hi, hz0, hz1, hz2⟩ := info_parts Tryz.infoI
  have hlen : (td n).length ≤ 5 := td_length.2 (by omega)
  replace hn := Lib.hid hn
  go_enter Tryz.func92, Tryz.ntmps92
  go_wp2_with fail
  go_loopw [0, 3] (fun u v wr => ∃ k : Nat, k ≤ (td n).length ∧ u = .int .u64 ((n / 10000 ^ k : Nat) : Int) ∧ wr.ownsRow w.heap.size 3 1 v k (((td n).take k).map iv) ∧ Below w.heap.size w wr) (fun u _ _ => (intOf u).toNat)
  case atStart => exact ⟨0, Nat.zero_le _, by simp, World.ownsRow_nil _ _ _ _, Below.refl _ _⟩
  case round =>
    obtain ⟨k, hk, rfl, hown, hb⟩ := hrel
    rcases Nat.lt_or_ge k (td n).length with hlt | hge
    · obtain ⟨h1, h2⟩ := td_step hlt
      obtain ⟨q, hq⟩ : ∃ q, q = n / 10000 ^ k := ⟨_, rfl⟩
      have hqn : q ≤ n := by rw [hq]; exact Nat.div_le_self _ _
      rw [← hq] at h1 h2 ⊢
      have hq0 : (0 : Int) < (q : Int) := by omega
      have hqB : (q : Int) ≤ 18446744073709551615 := by have := hn.out; omega
      replace hq := Lib.hid hq
      replace h2 := Lib.hid h2
      replace h1 := Lib.hid h1
      go_wp2_with (at_builtin; refine wpList_append_own _ rfl _ _ 42 rfl w.heap.size 3 i0 (.int .i64 0) 1 8 Tryz.underlying42 hi hz0 hz1 hz2 rfl (by decide) _ _ _ rfl (hown.alloc _) ⟨wr.heap.size, 0, none⟩ 1 1 [.int .i64 ((q : Int) % 10000)] rfl rfl ?c1 ?c2 ?c3 ?c4 ?c5 ?_)
      case c1 =>
        intro j u hj
        match j, hj with
        | 0, hj => simp at hj; subst hj; simp [Addr.add]
      case c2 => intro u hu; simp at hu; subst hu; rfl
      case c3 => unfold maxLen; omega
      case c4 => omega
      case c5 => have := hb.size; simp; omega
      intro v' w1 hown' hgrow _
      have hn' := Lib.hid (own_next hlt (by rw [h2.out]; omega) hown')
      have hb' := Lib.hid (below_app hb hb.size hown hgrow)
      clear hown' hgrow hown hb
      go_wp2_with fail
      go_roundw
      case rel => exact ⟨k + 1, by omega, by rw [Nat.pow_succ, ← Nat.div_div_eq_div_mul, ← hq.out]; first | rfl | go_num, hn'.out, hb'.out⟩
      case measure => simp [intOf]; omega
    · have h0 := td_end hge
      have hke : k = (td n).length := by omega
      rw [hke, List.take_length] at hown
      have hS := Lib.hid (Sl.owned hown rfl)
      rw [h0]
      clear h0 hke hown hge hk
      go_wp2_with fail
      go_ret
      exact ⟨_, rfl, hS.out, hb⟩
end Go.Proofs.YthehcjfmokabfaaGreatDoor.Rx

/-
  The reference of layer 1, walks C: Add.
-/
namespace Go.Proofs.YthehcjfmokabfaaGreatDoor.Rx
open Go.RowKit
attribute [local irreducible] tv dg

/-- What Add's rounds keep. -/
structure AddS (A B S : List Nat) (i c : Nat) : Prop where
  len : S.length = i
  lt : ∀ d ∈ S, d < 10000
  car : c ≤ 1
  eq : tv S + 10000 ^ i * c = tv (A.take i) + tv (B.take i)
theorem AddS.step {A B S : List Nat} {i c : Nat} (h : AddS A B S i c) (hA : ∀ d ∈ A, d < 10000) (hB : ∀ d ∈ B, d < 10000) :
    AddS A B (S ++ [(dg A i + dg B i + c) % 10000]) (i + 1) ((dg A i + dg B i + c) / 10000) := by
  have h1 := dg_lt hA i
  have h2 := dg_lt hB i
  have h3 := h.car
  refine ⟨by rw [List.length_append, h.len]; rfl, fun d hd => ?_, by omega, ?_⟩
  · rcases List.mem_append.1 hd with hd | hd
    · exact h.lt d hd
    · rw [List.mem_singleton.1 hd]; omega
  · rw [tv_snoc, h.len, tv_take, tv_take, Nat.pow_succ]
    have h4 := h.eq
    generalize dg A i = x at *
    generalize dg B i = y at *
    have h5 : (x + y + c) % 10000 + 10000 * ((x + y + c) / 10000) = x + y + c := by omega
    have h6 : 10000 ^ i * ((x + y + c) % 10000) + 10000 ^ i * 10000 * ((x + y + c) / 10000) = 10000 ^ i * x + 10000 ^ i * y + 10000 ^ i * c := by
      rw [Nat.mul_assoc, ← Nat.mul_add, h5, Nat.mul_add, Nat.mul_add]
    generalize 10000 ^ i * ((x + y + c) % 10000) = p at *
    generalize 10000 ^ i * 10000 * ((x + y + c) / 10000) = q at *
    omega

set_option maxHeartbeats 4000000 in
set_option maxRecDepth 100000 in
theorem radd_l (va vb : Value) (A B : List Nat) (hA : ∀ d ∈ A, d < 10000) (hB : ∀ d ∈ B, d < 10000) (lA : A.length ≤ 1000000) (lB : B.length ≤ 1000000) (w : World) (ha : Sl w va A) (hb : Sl w vb B) :
    Calls Tryz.prog 54 #[va, vb] w fun e w' => ∃ v, e = .returned v ∧ Sl w' v (td (tv A + tv B)) ∧ Below w.heap.size w w' := by
  obtain ⟨i0, hi, hz0, hz1, hz2⟩ := info_parts Tryz.infoI
  obtain ⟨aa, ca, ea⟩ := ha.form
  obtain ⟨ab, cb, eb⟩ := hb.form
  subst ea eb
  obtain ⟨n, hn⟩ : ∃ n, n = A.length := ⟨_, rfl⟩
  obtain ⟨m, hm⟩ : ∃ m, m = B.length := ⟨_, rfl⟩
  rw [← hn] at lA ha ⊢
  rw [← hm] at lB hb ⊢
  replace hn := Lib.hid hn
  replace hm := Lib.hid hm
  replace hA := Lib.hid hA
  replace hB := Lib.hid hB
  replace ha := Lib.hid ha
  replace hb := Lib.hid hb
  go_enter Tryz.func54, Tryz.ntmps54
  go_wp2_with fail
  go_loopw [5, 6, 7] (fun v u j wr => ∃ (i c : Nat) (S : List Nat), u = .int .i64 (c : Int) ∧ j = .int .i64 (i : Int) ∧ AddS A B S i c ∧ (i ≤ max n m + 1 ∧ (i = max n m + 1 → c = 0)) ∧ wr.ownsRow w.heap.size 3 1 v i (S.map iv) ∧ Below w.heap.size w wr) (fun _ _ j _ => max n m + 2 - (intOf j).toNat)
  case atStart => exact ⟨0, 0, [], rfl, rfl, ⟨rfl, (fun d hd => by cases hd), Nat.zero_le _, (by rw [List.take_zero, List.take_zero]; show tv [] + 1 * 0 = tv [] + tv []; unfold tv; rfl)⟩, ⟨Nat.zero_le _, fun _ => rfl⟩, World.ownsRow_nil _ _ _ _, Below.refl _ _⟩
  case round =>
    obtain ⟨i, c, S, rfl, rfl, hS, hi2, hown, hbl⟩ := hrel
    have hx := dg_lt hA.out i
    have hy := dg_lt hB.out i
    have hc1 := hS.car
    have hst := Lib.hid (hS.step hA.out hB.out)
    have HA := Lib.hid (fun (wx : World) (hh : Below w.heap.size w wx) => at_any _ A i (by omega) (by rw [← hn.out]; omega) wx (ha.out.below hh))
    have HB := Lib.hid (fun (wx : World) (hh : Below w.heap.size w wx) => at_any _ B i (by omega) (by rw [← hm.out]; omega) wx (hb.out.below hh))
    obtain ⟨x, hxe⟩ : ∃ x, x = dg A i := ⟨_, rfl⟩
    obtain ⟨y, hye⟩ : ∃ y, y = dg B i := ⟨_, rfl⟩
    have hxz := Lib.hid (show n ≤ i → x = 0 from fun h => by rw [hxe]; exact dg_out (by rw [← hn.out]; exact h))
    have hyz := Lib.hid (show m ≤ i → y = 0 from fun h => by rw [hye]; exact dg_out (by rw [← hm.out]; exact h))
    replace hi2 := Lib.hid hi2
    rw [← hxe] at hx hst HA
    rw [← hye] at hy hst HB
    clear hxe hye
    replace hS := Lib.hid hS
    have hi1 := hi2.out.1
    have hcase : ((i : Int) < (n : Int)) ∨ (¬ ((i : Int) < (n : Int)) ∧ (i : Int) < (m : Int)) ∨ (¬ ((i : Int) < (n : Int)) ∧ ¬ ((i : Int) < (m : Int)) ∧ (0 : Int) < (c : Int)) ∨ (¬ ((i : Int) < (n : Int)) ∧ ¬ ((i : Int) < (m : Int)) ∧ c = 0) := by omega
    rcases hcase with k1 | ⟨k1, k2⟩ | ⟨k1, k2, k3⟩ | ⟨k1, k2, rfl⟩
    rotate_left 3
    · have hS' := hS.out
      have hT : tv S = tv A + tv B := by
        have := hS'.eq
        rw [List.take_of_length_le (by rw [← hn.out]; omega), List.take_of_length_le (by rw [← hm.out]; omega)] at this
        omega
      have HT := trim_any u5 S hS'.lt (by rw [hS'.len]; omega) wr (Sl.owned hown hS'.len.symm)
      rw [hT] at HT
      replace HT := Lib.hid HT
      clear hT hS' hown
      have k0 : (0 : Int) = ((0 : Nat) : Int) := rfl
      clear k0
      go_wp2_with fail
      with_reducible refine Calls.mono HT.out ?_
      rintro e w1 ⟨v', rfl, hv, rfl⟩
      replace hv := Lib.hid hv
      go_wp2_with fail
      go_ret
      exact ⟨_, rfl, hv.out, hbl⟩
    all_goals (
      have hib : (i : Int) ≤ 1000002 := by omega
      go_wp2_with fail
      with_reducible refine Calls.mono (HA.out _ hbl) ?_
      rintro e w1 ⟨rfl, rfl⟩
      go_wp2_with fail
      with_reducible refine Calls.mono (HB.out _ hbl) ?_
      rintro e w1 ⟨rfl, rfl⟩
      go_wp2_with (at_builtin; refine wpList_append_own _ rfl _ _ 42 rfl w.heap.size 3 i0 (.int .i64 0) 1 8 Tryz.underlying42 hi hz0 hz1 hz2 rfl (by decide) _ _ _ rfl (hown.alloc _) ⟨wr.heap.size, 0, none⟩ 1 1 [.int .i64 (((x : Int) + (y : Int) + (c : Int)) % 10000)] rfl rfl ?c1 ?c2 ?c3 ?c4 ?c5 ?_)
      case c1 =>
        intro j u hj
        match j, hj with
        | 0, hj => simp at hj; subst hj; simp [Addr.add]
      case c2 => intro u hu; simp at hu; subst hu; rfl
      case c3 => unfold maxLen; omega
      case c4 => omega
      case c5 => have := hbl.size; simp; omega
      intro v' w1 hown' hgrow _
      have hn' := Lib.hid (own_snoc (d := (x + y + c) % 10000) (by omega) hown')
      have hb' := Lib.hid (below_app hbl hbl.size hown hgrow)
      clear hown' hgrow hown hbl
      go_wp2_with fail
      go_roundw
      case rel => exact ⟨i + 1, (x + y + c) / 10000, _, by first | rfl | go_num, by first | rfl | go_num, hst.out, (by have q1 := hxz.out; have q2 := hyz.out; have q3 := hi2.out; omega), hn'.out, hb'.out⟩
      case measure => simp [intOf]; omega)
end Go.Proofs.YthehcjfmokabfaaGreatDoor.Rx

/-
  The reference of layer 1, walks D: blocks of ints; Mul.
-/
namespace Go.Proofs.YthehcjfmokabfaaGreatDoor.Rx
open Go.RowKit
attribute [local irreducible] tv dg

theorem add0 (g i : Nat) : (⟨g, 0, none⟩ : Addr).add i = ⟨g, i, none⟩ := by
  unfold Addr.add
  split <;> simp_all
/-- Block g holds just these ints. -/
def IB (w : World) (g : Nat) (l : List Nat) : Prop := w.heap[g]? = some (.cells (l.map iv).toArray 3 (0, 0))
section
variable {w w' : World} {g : Nat} {l : List Nat}
theorem IB.lt (h : IB w g l) : g < w.heap.size := (Array.getElem?_eq_some_iff.1 h).1
theorem IB.cell (h : IB w g l) (i : Nat) (hi : i < l.length) : w.cell? ⟨g, i, none⟩ = some (.int .i64 ((l[i] : Nat) : Int)) := by
  rw [cell_of_row w g i _ _ _ h]; simp [hi]
theorem IB.frozen (h : IB w g l) (i : Nat) : w.frozen? ⟨g, i, none⟩ = false := frozen_of_row w g i _ _ h
theorem IB.set (h : IB w g l) (i : Nat) (d : Nat) : IB (w.setCell ⟨g, i, none⟩ (.int .i64 (d : Int))) g (l.set i d) := by
  unfold IB at *
  rw [heap_setCell_same w g i _ _ _ h]
  congr 2
  rw [List.map_set]; simp
theorem IB.keep (h : IB w g l) (hk : w'.heap[g]? = w.heap[g]?) : IB w' g l := hk.trans h
theorem IB.below {B : Nat} (h : IB w g l) (hb : Below B w w') (hg : g < B) : IB w' g l := h.keep (hb.block g hg)
theorem IB.drewN (h : IB w g l) (n : Nat) : IB (w.drewN n) g l := h
theorem IB.sl (h : IB w g l) (c : Nat) (hc : l.length ≤ c) : Sl w (.slice (some ⟨g, 0, none⟩) l.length c) l :=
  .inr ⟨⟨g, 0, none⟩, c, rfl, hc, fun i hi => by rw [add0]; exact h.cell i hi, h.lt⟩
end
theorem ibdrew {B : Nat} {a w : World} (h : Below B a w) (n : Nat) : Below B a (w.drewN n) := ⟨h.os, h.tape, h.output, h.size, h.block⟩
/-- Zeros, as make lays them. -/
def zobjI (n : Nat) : Obj := .cells ((List.replicate n 0).map iv).toArray 3
theorem IB.zeros (w : World) (n : Nat) : IB (w.alloc (zobjI n)) w.heap.size (List.replicate n 0) := heap_alloc_new w _
theorem made_zerosI (n : Nat) : madeCells (Value.cells (.int .i64 0)) n = ((List.replicate n 0).map iv).toArray := by
  apply Array.ext'
  rw [show Value.cells (.int .i64 0) = #[.int .i64 0] from rfl, toList_madeCells_one]
  simp
theorem makeN (w : World) (c : Int) (n : Nat) (hc : c = n) (h : n ≤ 17592186044416) :
    (Instr.makeSlice 42 (.int .i64 c) (.int .i64 c)).run Tryz.prog w = .ok (.slice (some ⟨w.heap.size, 0, none⟩) n n) (w.alloc (zobjI n)) := by
  subst hc
  have := run_make (P := Tryz.prog) w 42 3 Tryz.t3 (.int .i64 0) Tryz.underlying42 (by kernel_rfl) (by kernel_rfl) .i64 .i64 (n : Int) (n : Int) (by omega) (Int.le_refl _) (by show ((8 : Nat) : Int) * _ ≤ _; omega) (by omega)
  rw [this]
  simp only [Int.toNat_natCast]
  show Result.ok _ (w.alloc (.cells (madeCells (Value.cells (.int .i64 0)) (n * 1)) _)) = _
  rw [Nat.mul_one, made_zerosI]; rfl

theorem tv_set {l : List Nat} {j : Nat} (h : j < l.length) (d : Nat) : tv (l.set j d) + 10000 ^ j * l[j] = tv l + 10000 ^ j * d := by
  induction l generalizing j with
  | nil => exact absurd h (by simp)
  | cons x l ih =>
    cases j with
    | zero => simp only [List.set_cons_zero, List.getElem_cons_zero, tv, Nat.pow_zero, Nat.one_mul]; omega
    | succ j =>
      have hj : j < l.length := by simpa using h
      have := ih (j := j) hj
      simp only [List.set_cons_succ, List.getElem_cons_succ, tv, Nat.pow_succ]
      rw [Nat.mul_comm (10000 ^ j) 10000, Nat.mul_assoc, Nat.mul_assoc]
      generalize 10000 ^ j * l[j] = p at *
      generalize 10000 ^ j * d = q at *
      omega

/-- What Mul's inner rounds keep. -/
structure MulS (A B X : List Nat) (i k c : Nat) : Prop where
  len : X.length = A.length + B.length
  lt : ∀ d ∈ X, d < 10000
  car : c < 10000
  eq : tv X + 10000 ^ (i + k) * c = tv (A.take i) * tv B + 10000 ^ i * (dg A i * tv (B.take k))
theorem tv_take_le (B : List Nat) (k : Nat) : tv (B.take k) ≤ tv B := by
  have := tv_append (B.take k) (B.drop k)
  rw [List.take_append_drop] at this
  omega
theorem MulS.step {A B X : List Nat} {i k c : Nat} (h : MulS A B X i k c) (hA : ∀ d ∈ A, d < 10000) (hB : ∀ d ∈ B, d < 10000) (hj : i + k < X.length) {s : Nat} (hs : s = X[i + k] + dg A i * dg B k + c) :
    s < 100000000 ∧ MulS A B (X.set (i + k) (s % 10000)) i (k + 1) (s / 10000) := by
  have h1 := dg_lt hA i
  have h2 := dg_lt hB k
  have h3 := h.car
  have hx := h.lt _ (List.getElem_mem hj)
  have hp : dg A i * dg B k ≤ 9999 * 9999 := Nat.mul_le_mul (by omega) (by omega)
  have hs1 : s < 100000000 := by omega
  refine ⟨hs1, by rw [List.length_set]; exact h.len, fun d hd => ?_, by omega, ?_⟩
  · rcases List.mem_or_eq_of_mem_set hd with hd | hd
    · exact h.lt d hd
    · omega
  · have e1 := tv_set hj (s % 10000)
    have e2 := h.eq
    rw [tv_take, ← Nat.add_assoc, Nat.pow_succ]
    have e3 : s % 10000 + 10000 * (s / 10000) = X[i + k] + dg A i * dg B k + c := by omega
    have e4 : 10000 ^ (i + k) * (s % 10000) + 10000 ^ (i + k) * 10000 * (s / 10000) = 10000 ^ (i + k) * X[i + k] + 10000 ^ (i + k) * (dg A i * dg B k) + 10000 ^ (i + k) * c := by
      rw [Nat.mul_assoc, ← Nat.mul_add, e3, Nat.mul_add, Nat.mul_add]
    have e5 : 10000 ^ i * (dg A i * (tv (B.take k) + 10000 ^ k * dg B k)) = 10000 ^ i * (dg A i * tv (B.take k)) + 10000 ^ (i + k) * (dg A i * dg B k) := by
      rw [Nat.mul_add, Nat.mul_add, Nat.pow_add, Nat.mul_left_comm (dg A i), Nat.mul_assoc (10000 ^ i)]
    rw [e5]
    generalize 10000 ^ (i + k) * (s % 10000) = p1 at *
    generalize 10000 ^ (i + k) * 10000 * (s / 10000) = p2 at *
    generalize 10000 ^ (i + k) * X[i + k] = p3 at *
    generalize 10000 ^ (i + k) * (dg A i * dg B k) = p4 at *
    generalize 10000 ^ (i + k) * c = p5 at *
    generalize 10000 ^ i * (dg A i * tv (B.take k)) = p6 at *
    generalize tv (A.take i) * tv B = p7 at *
    generalize tv (X.set (i + k) (s % 10000)) = p8 at *
    generalize tv X = p9 at *
    omega
/-- Behind b's digits one carry may be left, and no more. -/
theorem MulS.carry {A B X : List Nat} {i k c : Nat} (h : MulS A B X i k c) (hA : ∀ d ∈ A, d < 10000) (hB : ∀ d ∈ B, d < 10000) (hi : i < A.length) (hk : B.length + 1 ≤ k) : c = 0 := by
  rcases Nat.eq_zero_or_pos c with h0 | h0
  · exact h0
  · have e := h.eq
    have e2 : tv (A.take i) * tv B + 10000 ^ i * (dg A i * tv (B.take k)) = tv (A.take (i + 1)) * tv B := by
      rw [List.take_of_length_le (l := B) (by omega), tv_take, Nat.add_mul, Nat.mul_assoc]
    have e3 : tv (A.take (i + 1)) < 10000 ^ (i + 1) := by
      have := tv_lt (l := A.take (i + 1)) fun d hd => hA d (List.mem_of_mem_take hd)
      rwa [List.length_take, Nat.min_eq_left (by omega)] at this
    have e4 := tv_lt hB
    have e5 : tv (A.take (i + 1)) * tv B < 10000 ^ (i + 1) * 10000 ^ B.length := Nat.lt_of_le_of_lt (Nat.mul_le_mul_left _ (Nat.le_of_lt e4)) (Nat.mul_lt_mul_of_pos_right e3 (Nat.pow_pos (by omega)))
    rw [← Nat.pow_add] at e5
    have e6 : 10000 ^ (i + 1 + B.length) ≤ 10000 ^ (i + k) := Nat.pow_le_pow_right (by omega) (by omega)
    have e7 : 10000 ^ (i + k) ≤ 10000 ^ (i + k) * c := Nat.le_mul_of_pos_right _ h0
    omega
theorem MulS.done {A B X : List Nat} {i k : Nat} (h : MulS A B X i k 0) (hk : B.length ≤ k) : MulS A B X (i + 1) 0 0 := by
  refine ⟨h.len, h.lt, by omega, ?_⟩
  have e := h.eq
  rw [List.take_of_length_le hk] at e
  rw [List.take_zero, tv_take, Nat.add_mul, Nat.mul_assoc]
  rw [Nat.mul_zero, Nat.add_zero] at e ⊢
  rw [e]
  have : tv [] = 0 := by unfold tv; rfl
  rw [this, Nat.mul_zero, Nat.mul_zero, Nat.add_zero]
theorem MulS.start (A B : List Nat) : MulS A B (List.replicate (A.length + B.length) 0) 0 0 0 := by
  refine ⟨List.length_replicate, fun d hd => by rw [(List.mem_replicate.1 hd).2]; omega, by omega, ?_⟩
  have : tv [] = 0 := by unfold tv; rfl
  rw [tv_zeros, List.take_zero, List.take_zero, this]
  simp

set_option maxHeartbeats 8000000 in
set_option maxRecDepth 100000 in
theorem rmul_l (va vb : Value) (A B : List Nat) (hA : ∀ d ∈ A, d < 10000) (hB : ∀ d ∈ B, d < 10000) (lA : A.length ≤ 1000000) (lB : B.length ≤ 1000000) (w : World) (ha : Sl w va A) (hb : Sl w vb B) :
    Calls Tryz.prog 59 #[va, vb] w fun e w' => ∃ v, e = .returned v ∧ Sl w' v (td (tv A * tv B)) ∧ Below w.heap.size w w' := by
  obtain ⟨aa, ca, ea, hva⟩ := ha.view
  obtain ⟨ab, cb, eb⟩ := hb.form
  subst ea eb
  obtain ⟨n, hn⟩ : ∃ n, n = A.length := ⟨_, rfl⟩
  obtain ⟨m, hm⟩ : ∃ m, m = B.length := ⟨_, rfl⟩
  rw [← hn] at lA ha hva ⊢
  rw [← hm] at lB hb ⊢
  have hst := MulS.start A B
  rw [← hn, ← hm] at hst
  have hmk : ∀ w, (Instr.makeSlice 42 (.int .i64 ((n : Int) + (m : Int))) (.int .i64 ((n : Int) + (m : Int)))).run Tryz.prog w = .ok (.slice (some ⟨w.heap.size, 0, none⟩) (n + m) (n + m)) (w.alloc (zobjI (n + m))) :=
    fun w => makeN w _ (n + m) (by omega) (by omega)
  have hz := Lib.hid (IB.zeros w (n + m))
  replace hst := Lib.hid hst
  replace hn := Lib.hid hn
  replace hm := Lib.hid hm
  replace hA := Lib.hid hA
  replace hB := Lib.hid hB
  replace ha := Lib.hid ha
  replace hb := Lib.hid hb
  replace hva := Lib.hid hva
  obtain ⟨N, hN⟩ : ∃ N, N = n + m := ⟨_, rfl⟩
  rw [← hN] at hmk hz hst
  replace hN := Lib.hid hN
  go_enter Tryz.func59, Tryz.ntmps59
  go_wp2_with fail
  go_loopw [6] (fun j wr => ∃ (i : Nat) (X : List Nat), j = .int .i64 (i : Int) ∧ i ≤ n ∧ MulS A B X i 0 0 ∧ IB wr w.heap.size X ∧ Below w.heap.size w wr) (fun j _ => n - (intOf j).toNat)
  case atStart => exact ⟨0, _, rfl, Nat.zero_le _, hst.out, hz.out, (Below.refl _ _).alloc (Nat.le_refl _) _⟩
  case round =>
    obtain ⟨i, X, rfl, hi, hS, hX, hbl⟩ := hrel
    clear hmk hz hst
    replace hS := Lib.hid hS
    replace hX := Lib.hid hX
    rcases Nat.lt_or_ge i n with hin | hin
    · have k1 : (i : Int) < (n : Int) := by omega
      have hib : (i : Int) ≤ 1000000 := by omega
      obtain ⟨aA, rfl, -, hsd⟩ := hva.out (by omega)
      replace hsd := Lib.hid hsd
      go_wp2_with fail
      go_loopw [7, 8] (fun cv kv wy => ∃ (k c : Nat) (Y : List Nat), cv = .int .i64 (c : Int) ∧ kv = .int .i64 (k : Int) ∧ k ≤ m + 1 ∧ MulS A B Y i k c ∧ IB wy w.heap.size Y ∧ Below w.heap.size w wy) (fun _ kv _ => m + 2 - (intOf kv).toNat)
      case atStart => exact ⟨0, 0, X, rfl, rfl, Nat.zero_le _, hS.out, hX.out, hbl⟩
      case round =>
        obtain ⟨k, c, Y, rfl, rfl, hk, hY, hYb, hbl2⟩ := hrel
        have hc := hY.car
        have hcz := Lib.hid (fun h => hY.carry hA.out hB.out (by rw [← hn.out]; exact hin) (by rw [← hm.out]; exact h))
        have hdn := Lib.hid (show m ≤ k → c = 0 → MulS A B Y (i + 1) 0 0 from fun h1 h2 => by subst h2; exact hY.done (by rw [← hm.out]; exact h1))
        have hcase : ((k : Int) < (m : Int)) ∨ (¬ ((k : Int) < (m : Int)) ∧ (0 : Int) < (c : Int)) ∨ (¬ ((k : Int) < (m : Int)) ∧ c = 0) := by omega
        rcases hcase with k2 | ⟨k2, k3⟩ | ⟨k2, rfl⟩
        rotate_left 2
        · have hd := Lib.hid (hdn.out (by omega) rfl)
          replace hYb := Lib.hid hYb
          clear hY hcz hdn
          go_wp2_with fail
          go_roundw
          case rel => exact ⟨i + 1, Y, by first | rfl | go_num, by omega, hd.out, hYb.out, hbl2⟩
          case measure => simp [intOf]; omega
        all_goals (
          have hkm : k ≤ m := by have := hcz.out; omega
          have hj : i + k < Y.length := by rw [hY.len, ← hn.out, ← hm.out]; omega
          have hyc := hYb.cell (i + k) hj
          have hyf := hYb.frozen (i + k)
          have hac := hsd.out.cell i (by rw [← hn.out]; exact hin)
          have hap : A[i]'(by rw [← hn.out]; exact hin) = dg A i := (dg_in _).symm
          rw [hap] at hac
          obtain ⟨hs1, hs2⟩ := hY.step hA.out hB.out hj rfl
          have hsY := hYb.set (i + k) ((Y[i + k] + dg A i * dg B k + c) % 10000)
          have hy := hY.lt _ (List.getElem_mem hj)
          have hAt : ∀ wx, Below w.heap.size w wx → Calls Tryz.prog 98 #[.slice ab m cb, .int .i64 (k : Int)] wx fun e w' => e = .returned (.int .i64 ((dg B k : Nat) : Int)) ∧ w' = wx :=
            fun wx hh => (at_any _ B k (by omega) (by rw [← hm.out]; omega) wx (hb.out.below hh)).mono fun _ _ h => ⟨h.1, h.2.symm⟩
          have hp := dg_lt hA.out i
          have hq := dg_lt hB.out k
          clear hap
          generalize Y[i + k] = y at *
          generalize dg A i = p at *
          generalize dg B k = q at *
          obtain ⟨z, hz⟩ : ∃ z, z = p * q := ⟨_, rfl⟩
          have hzb : z ≤ 99980001 := by rw [hz]; exact Nat.mul_le_mul (show p ≤ 9999 by omega) (show q ≤ 9999 by omega)
          rw [← hz] at hs1 hs2 hsY
          have hzz : (p : Int) * (q : Int) = (z : Int) := by rw [hz]; rfl
          have hac2 := hac.trans rfl
          have hac4 : wr.cell? (aA.add i) = some (.int .i64 (p : Int)) := (hbl2.cell (p := aA.add i) (by rw [addB]; exact hsd.out.blk)).trans hac
          clear hz hac hac2 hY hYb hcz hdn
          replace hAt := Lib.hid hAt
          replace hs2 := Lib.hid hs2
          replace hsY := Lib.hid hsY
          have hib2 : (k : Int) ≤ 1000001 := by omega
          have hNN : (i : Int) + (k : Int) < (N : Int) := by have := hN.out; omega
          have hNk : (k : Int) < (N : Int) := by omega
          go_wp2_with fail
          go_quiet ((go_at_call 98; exact Calls.quiet_of_same (hAt.out _ (ibdrew hbl2 _))))
          go_wp2_with fail
          go_roundw
          case rel => exact ⟨k + 1, (y + z + c) / 10000, _, by first | rfl | go_num, by first | rfl | go_num, by omega, hs2.out, (by have h := hsY.out; rw [show (((y + z + c) % 10000 : Nat) : Int) = ((y : Int) + (z : Int) + (c : Int)) % 10000 by omega] at h; exact h), ((ibdrew hbl2 nq).setCell (Nat.le_refl _) _)⟩
          case measure => simp [intOf]; omega)
    · have k1 : ¬ (i : Int) < (n : Int) := by omega
      have hie : i = n := by omega
      have hT : tv X = tv A * tv B := by
        have := hS.out.eq
        rw [hie, hn.out, List.take_length, List.take_zero] at this
        have h0 : tv [] = 0 := by unfold tv; rfl
        rw [h0, Nat.mul_zero, Nat.mul_zero, Nat.mul_zero] at this
        omega
      have hl : X.length = N := by rw [hS.out.len, hN.out, hn.out, hm.out]
      have HT := trim_any _ X hS.out.lt (by rw [hl]; have := hN.out; omega) wr (hX.out.sl N (by omega))
      rw [hT, hl] at HT
      replace HT := Lib.hid HT
      clear hT hie
      go_wp2_with fail
      with_reducible refine Calls.mono HT.out ?_
      rintro e w1 ⟨v', rfl, hv, rfl⟩
      replace hv := Lib.hid hv
      go_wp2_with fail
      go_ret
      exact ⟨_, rfl, hv.out, hbl⟩
end Go.Proofs.YthehcjfmokabfaaGreatDoor.Rx
