/-
  Layer 1, law G: NatsSums.
-/
import Derived.Test.YthehcjfmokabfaaGreatDoorYr
import Derived.Test.YthehcjfmokabfaaGreatDoorYo
set_option linter.unusedVariables false
set_option linter.unusedSimpArgs false
namespace Go.Proofs.YthehcjfmokabfaaGreatDoor
open Go.RowKit
attribute [local irreducible] lo hs sm s64 c64 d64 b64 mh ml pd pc qd qc val hiB str cmpI srD lz nb isq decB txt

set_option maxHeartbeats 4000000 in
set_option maxRecDepth 100000 in
theorem sums_big (ax ay : Option Addr) (cx cy nx ny : Nat) (h : 24 < nx ∨ 24 < ny) (w : World) (htab : Tab w) :
    Calls Tryz.prog 7 #[.slice ax nx cx, .slice ay ny cy] w fun e w' => e = .returned (.bool true) ∧ Below w.heap.size w w' := by
  have HW := Lib.hid (works_any w htab)
  have key : (decide ((24 : Int) < (nx : Int)) = true) ∨ (decide ((24 : Int) < (nx : Int)) = false ∧ decide ((24 : Int) < (ny : Int)) = true) := by
    by_cases h0 : 24 < nx
    · exact .inl (decide_eq_true (by omega))
    · exact .inr (⟨decide_eq_false (by omega), decide_eq_true (by omega)⟩)
  clear h
  rcases key with k0 | ⟨k0, k1⟩
  all_goals (
    go_enter Tryz.func7, Tryz.ntmps7
    go_wp2_with fail
    with_reducible refine Calls.mono HW.out ?_
    rintro e w1 ⟨rfl, hb⟩
    go_wp2_with fail
    exact bodyPost_ret (v := .bool true) (by simp [results, Tryz.results7, go_sem]) rfl ⟨rfl, hb⟩)

set_option maxHeartbeats 16000000 in
set_option maxRecDepth 100000 in
theorem sums_small (vx vy : Value) (lx ly : List Nat) (w : World) (htab : Tab w) (hx : Ws w vx lx) (hy : Ws w vy ly) (nx : lx.length ≤ 24) (ny : ly.length ≤ 24) :
    Calls Tryz.prog 7 #[vx, vy] w fun e w' => e = .returned (.bool true) ∧ Below w.heap.size w w' := by
  have MX := fun w h => made_any vx lx (by omega) w h
  have MY := fun w h => made_any vy ly (by omega) w h
  obtain ⟨ax, cx, ex⟩ := hx.form
  obtain ⟨ay, cy, ey⟩ := hy.form
  have dx := Nat.le_trans (made_digs hx.lt) nx
  have dy := Nat.le_trans (made_digs hy.lt) ny
  have tx := Nat.le_trans (Rx.td_made hx.lt) (Nat.mul_le_mul_left 3 nx)
  have RX := fun w h => Rx.rofw_any vx lx (by omega) w h
  have ty := Nat.le_trans (Rx.td_made hy.lt) (Nat.mul_le_mul_left 3 ny)
  have RY := fun w h => Rx.rofw_any vy ly (by omega) w h
  subst ex ey
  have kx : decide ((24 : Int) < (lx.length : Int)) = false := decide_eq_false (by omega)
  have ky : decide ((24 : Int) < (ly.length : Int)) = false := decide_eq_false (by omega)
  generalize made lx = a at *
  generalize made ly = b at *
  replace hx := Lib.hid hx
  replace MX := Lib.hid MX
  replace hy := Lib.hid hy
  replace MY := Lib.hid MY
  replace RX := Lib.hid RX
  replace RY := Lib.hid RY
  generalize lx.length = Nx at *
  generalize ly.length = Ny at *
  have ds : (digs (a + b)).length ≤ 25 := digs_add_le dx dy
  have ts : (Rx.td (a + b)).length ≤ 73 := Rx.td_add_le tx ty
  have Aab := fun w => add_any a b (by omega) (by omega) w
  have Rab := fun va vb w ha hb => Rx.radd_any va vb a b (by omega) (by omega) w ha hb
  have Rc := fun va vb w ha hb => Rx.rcmp_any va vb a b (by omega) (by omega) w ha hb
  have Cab := fun w => cmp_any a b w
  have SMa := fun v w ht hv => Rx.same_any a v (by omega) (by omega) w ht hv
  have SMs := fun v w ht hv => Rx.same_any (a + b) v (by omega) (by omega) w ht hv
  generalize a + b = s at *
  replace Aab := Lib.hid Aab
  replace SMa := Lib.hid SMa
  replace SMs := Lib.hid SMs
  replace Rab := Lib.hid Rab
  clear ds ts
  have hL0 : NL w w [] := NL.start w
  rcases Nat.lt_trichotomy a b with hlt | hlt | hlt
  · have hcm := cmpI_lt hlt
    have Sab := fun w => sub_lt a b hlt w
    have hne : a ≠ b := by omega
    rw [hcm] at Cab Rc
    replace Cab := Lib.hid Cab
    replace Rc := Lib.hid Rc
    replace Sab := Lib.hid Sab
    clear hcm hlt
    have hnn := natV_ne hne
    clear hne
    replace hnn := Lib.hid hnn
    go_enter Tryz.func7, Tryz.ntmps7
    go_wp2_with fail
    with_reducible refine Calls.mono (MX.out _ hx.out) ?_
    rintro e x1 ⟨rfl, hb⟩
    replace hL0 := hL0.call hb
    clear hb MX
    go_wp2_with fail
    with_reducible refine Calls.mono (MY.out _ (hy.out.below hL0.bl)) ?_
    rintro e x2 ⟨rfl, hb⟩
    replace hL0 := hL0.call hb
    clear hb MY
    replace hL0 := ((hL0.new rfl a 32).new (szA _ _) b 32)
    generalize hweq : ((x2.alloc (.cells #[.int .u64 ((lo a : Nat) : Int), .string (hs a)] 32)).alloc (.cells #[.int .u64 ((lo b : Nat) : Int), .string (hs b)] 32)) = x3 at hL0
    go_wp2_with fail
    with_reducible refine Calls.mono (RX.out _ (hx.out.below hL0.bl)) ?_
    rintro e x4 ⟨v7, rfl, h7, hb⟩
    replace hL0 := hL0.call hb
    clear hb RX hweq
    replace h7 := Lib.hid h7
    go_wp2_with fail
    with_reducible refine Calls.mono (RY.out _ (hy.out.below hL0.bl)) ?_
    rintro e x5 ⟨v8, rfl, h8, hb⟩
    replace hL0 := hL0.call hb
    replace h7 := Lib.hid (h7.out.below hb)
    clear hb RY
    replace h8 := Lib.hid h8
    go_wp2_with fail
    with_reducible refine Calls.mono (Rc.out _ _ _ h7.out h8.out) ?_
    rintro e x6 ⟨rfl, hb⟩
    replace hL0 := hL0.call hb
    replace h7 := Lib.hid (h7.out.below hb)
    replace h8 := Lib.hid (h8.out.below hb)
    clear hb Rc
    obtain ⟨p1, r1⟩ := hL0.get (x2.heap.size) a (by (repeat (first | with_reducible exact List.mem_cons_self | with_reducible refine List.mem_cons_of_mem _ ?_)))
    obtain ⟨p2, r2⟩ := hL0.get (x2.heap.size + 1) b (by (repeat (first | with_reducible exact List.mem_cons_self | with_reducible refine List.mem_cons_of_mem _ ?_)))
    go_wp2_with fail
    with_reducible refine Calls.mono (Sab.out _) ?_
    rintro e x7 ⟨rfl, hb⟩
    replace hL0 := hL0.call hb
    replace h7 := Lib.hid (h7.out.below hb)
    replace h8 := Lib.hid (h8.out.below hb)
    clear hb Sab
    replace h7 := Lib.hid (h7.out.below (below1 _ (.cells #[.int .u64 ((lo 0 : Nat) : Int), .string (hs 0)] 32)))
    replace h8 := Lib.hid (h8.out.below (below1 _ (.cells #[.int .u64 ((lo 0 : Nat) : Int), .string (hs 0)] 32)))
    replace hL0 := (hL0.new rfl 0 32)
    generalize hweq : (x7.alloc (.cells #[.int .u64 ((lo 0 : Nat) : Int), .string (hs 0)] 32)) = x8 at hL0 h7 h8
    rcases hnn.out with hn1 | ⟨hn1, hn2⟩
    · skip
      obtain ⟨p3, r3⟩ := hL0.get (x2.heap.size) a (by (repeat (first | with_reducible exact List.mem_cons_self | with_reducible refine List.mem_cons_of_mem _ ?_)))
      obtain ⟨p4, r4⟩ := hL0.get (x2.heap.size + 1) b (by (repeat (first | with_reducible exact List.mem_cons_self | with_reducible refine List.mem_cons_of_mem _ ?_)))
      obtain ⟨p5, r5⟩ := hL0.get (x7.heap.size) 0 (by (repeat (first | with_reducible exact List.mem_cons_self | with_reducible refine List.mem_cons_of_mem _ ?_)))
      go_wp2_with fail
      with_reducible refine Calls.mono (SMa.out _ _ (htab.below hL0.bl) h7.out) ?_
      rintro e x9 ⟨rfl, hb⟩
      replace hL0 := hL0.call hb
      replace h7 := Lib.hid (h7.out.below hb)
      replace h8 := Lib.hid (h8.out.below hb)
      clear hb SMa hweq
      obtain ⟨p6, r6⟩ := hL0.get (x2.heap.size) a (by (repeat (first | with_reducible exact List.mem_cons_self | with_reducible refine List.mem_cons_of_mem _ ?_)))
      obtain ⟨p7, r7⟩ := hL0.get (x2.heap.size + 1) b (by (repeat (first | with_reducible exact List.mem_cons_self | with_reducible refine List.mem_cons_of_mem _ ?_)))
      obtain ⟨p8, r8⟩ := hL0.get (x7.heap.size) 0 (by (repeat (first | with_reducible exact List.mem_cons_self | with_reducible refine List.mem_cons_of_mem _ ?_)))
      go_wp2_with fail
      with_reducible refine Calls.mono (Aab.out _) ?_
      rintro e x10 ⟨rfl, hb⟩
      replace hL0 := hL0.call hb
      replace h7 := Lib.hid (h7.out.below hb)
      replace h8 := Lib.hid (h8.out.below hb)
      clear hb Aab
      obtain ⟨p9, r9⟩ := hL0.get (x2.heap.size) a (by (repeat (first | with_reducible exact List.mem_cons_self | with_reducible refine List.mem_cons_of_mem _ ?_)))
      obtain ⟨p10, r10⟩ := hL0.get (x2.heap.size + 1) b (by (repeat (first | with_reducible exact List.mem_cons_self | with_reducible refine List.mem_cons_of_mem _ ?_)))
      obtain ⟨p11, r11⟩ := hL0.get (x7.heap.size) 0 (by (repeat (first | with_reducible exact List.mem_cons_self | with_reducible refine List.mem_cons_of_mem _ ?_)))
      go_wp2_with fail
      with_reducible refine Calls.mono (Rab.out _ _ _ h7.out h8.out) ?_
      rintro e x11 ⟨v48, rfl, h48, hb⟩
      replace hL0 := hL0.call hb
      replace h7 := Lib.hid (h7.out.below hb)
      replace h8 := Lib.hid (h8.out.below hb)
      clear hb Rab
      replace h48 := Lib.hid h48
      obtain ⟨p12, r12⟩ := hL0.get (x2.heap.size) a (by (repeat (first | with_reducible exact List.mem_cons_self | with_reducible refine List.mem_cons_of_mem _ ?_)))
      obtain ⟨p13, r13⟩ := hL0.get (x2.heap.size + 1) b (by (repeat (first | with_reducible exact List.mem_cons_self | with_reducible refine List.mem_cons_of_mem _ ?_)))
      obtain ⟨p14, r14⟩ := hL0.get (x7.heap.size) 0 (by (repeat (first | with_reducible exact List.mem_cons_self | with_reducible refine List.mem_cons_of_mem _ ?_)))
      go_wp2_with fail
      with_reducible refine Calls.mono (SMs.out _ _ (htab.below hL0.bl) h48.out) ?_
      rintro e x12 ⟨rfl, hb⟩
      replace hL0 := hL0.call hb
      replace h7 := Lib.hid (h7.out.below hb)
      replace h8 := Lib.hid (h8.out.below hb)
      clear hb SMs
      clear h48
      obtain ⟨p15, r15⟩ := hL0.get (x2.heap.size) a (by (repeat (first | with_reducible exact List.mem_cons_self | with_reducible refine List.mem_cons_of_mem _ ?_)))
      obtain ⟨p16, r16⟩ := hL0.get (x2.heap.size + 1) b (by (repeat (first | with_reducible exact List.mem_cons_self | with_reducible refine List.mem_cons_of_mem _ ?_)))
      obtain ⟨p17, r17⟩ := hL0.get (x7.heap.size) 0 (by (repeat (first | with_reducible exact List.mem_cons_self | with_reducible refine List.mem_cons_of_mem _ ?_)))
      go_wp2_with fail
      with_reducible refine Calls.mono (Cab.out _) ?_
      rintro e x13 ⟨rfl, hb⟩
      replace hL0 := hL0.call hb
      replace h7 := Lib.hid (h7.out.below hb)
      replace h8 := Lib.hid (h8.out.below hb)
      clear hb Cab
      obtain ⟨p18, r18⟩ := hL0.get (x2.heap.size) a (by (repeat (first | with_reducible exact List.mem_cons_self | with_reducible refine List.mem_cons_of_mem _ ?_)))
      obtain ⟨p19, r19⟩ := hL0.get (x2.heap.size + 1) b (by (repeat (first | with_reducible exact List.mem_cons_self | with_reducible refine List.mem_cons_of_mem _ ?_)))
      obtain ⟨p20, r20⟩ := hL0.get (x7.heap.size) 0 (by (repeat (first | with_reducible exact List.mem_cons_self | with_reducible refine List.mem_cons_of_mem _ ?_)))
      have z1 : (((lo 0 : Nat) : Int) == 0) = true := by rw [lo_zero]; rfl
      have z2 : ((hs 0).toList == []) = true := by rw [hs_zero, ByteArray.toList_eq]; rfl
      go_upto_region 9 with fail
      have ht0 := htab.below hL0.bl
      have HW := Lib.hid (fun w h => works_any w h)
      obtain ⟨α, iα, F, hF1, hF2⟩ := cls x13
      obtain ⟨q21, s21⟩ := cls_get hF1 hL0 (x7.heap.size) 0 (by (repeat (first | with_reducible exact List.mem_cons_self | with_reducible refine List.mem_cons_of_mem _ ?_)))
      refine region_cls (F := F) (by kernel_rfl) (by kernel_rfl) (cls_drew hF2) ?_
      repeat (go_big_quiet_step (first
        | (go_at_call 16; with_reducible exact cls_callT hF1 hF2 ht0 HW.out _)))
      refine wpQuiet_nil ?_
      intro wq hwq
      obtain ⟨xq, rfl⟩ := hwq
      have hLq := hL0.call (hF1 xq)
      generalize F xq = x14 at hLq ⊢
      replace hL0 := hLq
      clear hLq hF1 hF2 q21 s21
      go_wp2_with fail
      exact bodyPost_ret (v := .bool true) (by simp [results, Tryz.results7, go_sem]) rfl ⟨rfl, hL0.bl⟩
    · skip
      obtain ⟨p22, r22⟩ := hL0.get (x2.heap.size) a (by (repeat (first | with_reducible exact List.mem_cons_self | with_reducible refine List.mem_cons_of_mem _ ?_)))
      obtain ⟨p23, r23⟩ := hL0.get (x2.heap.size + 1) b (by (repeat (first | with_reducible exact List.mem_cons_self | with_reducible refine List.mem_cons_of_mem _ ?_)))
      obtain ⟨p24, r24⟩ := hL0.get (x7.heap.size) 0 (by (repeat (first | with_reducible exact List.mem_cons_self | with_reducible refine List.mem_cons_of_mem _ ?_)))
      go_wp2_with fail
      with_reducible refine Calls.mono (SMa.out _ _ (htab.below hL0.bl) h7.out) ?_
      rintro e x15 ⟨rfl, hb⟩
      replace hL0 := hL0.call hb
      replace h7 := Lib.hid (h7.out.below hb)
      replace h8 := Lib.hid (h8.out.below hb)
      clear hb SMa hweq
      obtain ⟨p25, r25⟩ := hL0.get (x2.heap.size) a (by (repeat (first | with_reducible exact List.mem_cons_self | with_reducible refine List.mem_cons_of_mem _ ?_)))
      obtain ⟨p26, r26⟩ := hL0.get (x2.heap.size + 1) b (by (repeat (first | with_reducible exact List.mem_cons_self | with_reducible refine List.mem_cons_of_mem _ ?_)))
      obtain ⟨p27, r27⟩ := hL0.get (x7.heap.size) 0 (by (repeat (first | with_reducible exact List.mem_cons_self | with_reducible refine List.mem_cons_of_mem _ ?_)))
      go_wp2_with fail
      with_reducible refine Calls.mono (Aab.out _) ?_
      rintro e x16 ⟨rfl, hb⟩
      replace hL0 := hL0.call hb
      replace h7 := Lib.hid (h7.out.below hb)
      replace h8 := Lib.hid (h8.out.below hb)
      clear hb Aab
      obtain ⟨p28, r28⟩ := hL0.get (x2.heap.size) a (by (repeat (first | with_reducible exact List.mem_cons_self | with_reducible refine List.mem_cons_of_mem _ ?_)))
      obtain ⟨p29, r29⟩ := hL0.get (x2.heap.size + 1) b (by (repeat (first | with_reducible exact List.mem_cons_self | with_reducible refine List.mem_cons_of_mem _ ?_)))
      obtain ⟨p30, r30⟩ := hL0.get (x7.heap.size) 0 (by (repeat (first | with_reducible exact List.mem_cons_self | with_reducible refine List.mem_cons_of_mem _ ?_)))
      go_wp2_with fail
      with_reducible refine Calls.mono (Rab.out _ _ _ h7.out h8.out) ?_
      rintro e x17 ⟨v48, rfl, h48, hb⟩
      replace hL0 := hL0.call hb
      replace h7 := Lib.hid (h7.out.below hb)
      replace h8 := Lib.hid (h8.out.below hb)
      clear hb Rab
      replace h48 := Lib.hid h48
      obtain ⟨p31, r31⟩ := hL0.get (x2.heap.size) a (by (repeat (first | with_reducible exact List.mem_cons_self | with_reducible refine List.mem_cons_of_mem _ ?_)))
      obtain ⟨p32, r32⟩ := hL0.get (x2.heap.size + 1) b (by (repeat (first | with_reducible exact List.mem_cons_self | with_reducible refine List.mem_cons_of_mem _ ?_)))
      obtain ⟨p33, r33⟩ := hL0.get (x7.heap.size) 0 (by (repeat (first | with_reducible exact List.mem_cons_self | with_reducible refine List.mem_cons_of_mem _ ?_)))
      go_wp2_with fail
      with_reducible refine Calls.mono (SMs.out _ _ (htab.below hL0.bl) h48.out) ?_
      rintro e x18 ⟨rfl, hb⟩
      replace hL0 := hL0.call hb
      replace h7 := Lib.hid (h7.out.below hb)
      replace h8 := Lib.hid (h8.out.below hb)
      clear hb SMs
      clear h48
      obtain ⟨p34, r34⟩ := hL0.get (x2.heap.size) a (by (repeat (first | with_reducible exact List.mem_cons_self | with_reducible refine List.mem_cons_of_mem _ ?_)))
      obtain ⟨p35, r35⟩ := hL0.get (x2.heap.size + 1) b (by (repeat (first | with_reducible exact List.mem_cons_self | with_reducible refine List.mem_cons_of_mem _ ?_)))
      obtain ⟨p36, r36⟩ := hL0.get (x7.heap.size) 0 (by (repeat (first | with_reducible exact List.mem_cons_self | with_reducible refine List.mem_cons_of_mem _ ?_)))
      go_wp2_with fail
      with_reducible refine Calls.mono (Cab.out _) ?_
      rintro e x19 ⟨rfl, hb⟩
      replace hL0 := hL0.call hb
      replace h7 := Lib.hid (h7.out.below hb)
      replace h8 := Lib.hid (h8.out.below hb)
      clear hb Cab
      obtain ⟨p37, r37⟩ := hL0.get (x2.heap.size) a (by (repeat (first | with_reducible exact List.mem_cons_self | with_reducible refine List.mem_cons_of_mem _ ?_)))
      obtain ⟨p38, r38⟩ := hL0.get (x2.heap.size + 1) b (by (repeat (first | with_reducible exact List.mem_cons_self | with_reducible refine List.mem_cons_of_mem _ ?_)))
      obtain ⟨p39, r39⟩ := hL0.get (x7.heap.size) 0 (by (repeat (first | with_reducible exact List.mem_cons_self | with_reducible refine List.mem_cons_of_mem _ ?_)))
      have z1 : (((lo 0 : Nat) : Int) == 0) = true := by rw [lo_zero]; rfl
      have z2 : ((hs 0).toList == []) = true := by rw [hs_zero, ByteArray.toList_eq]; rfl
      go_upto_region 9 with fail
      have ht0 := htab.below hL0.bl
      have HW := Lib.hid (fun w h => works_any w h)
      obtain ⟨α, iα, F, hF1, hF2⟩ := cls x19
      obtain ⟨q40, s40⟩ := cls_get hF1 hL0 (x7.heap.size) 0 (by (repeat (first | with_reducible exact List.mem_cons_self | with_reducible refine List.mem_cons_of_mem _ ?_)))
      refine region_cls (F := F) (by kernel_rfl) (by kernel_rfl) (cls_drew hF2) ?_
      repeat (go_big_quiet_step (first
        | (go_at_call 16; with_reducible exact cls_callT hF1 hF2 ht0 HW.out _)))
      refine wpQuiet_nil ?_
      intro wq hwq
      obtain ⟨xq, rfl⟩ := hwq
      have hLq := hL0.call (hF1 xq)
      generalize F xq = x20 at hLq ⊢
      replace hL0 := hLq
      clear hLq hF1 hF2 q40 s40
      go_wp2_with fail
      exact bodyPost_ret (v := .bool true) (by simp [results, Tryz.results7, go_sem]) rfl ⟨rfl, hL0.bl⟩
  · subst hlt
    have hcm := cmpI_eq a
    have Sab := fun w => sub_ge a a (Nat.le_refl _) (by omega) w
    rw [Nat.sub_self] at Sab
    have RS := fun va vb w ha hb => Rx.rsub_any va vb a a (by omega) (Nat.le_refl _) w ha hb
    rw [Nat.sub_self] at RS
    have SMd := fun v w ht hv => Rx.same_any 0 v (by rw [digs_zero]; exact Nat.zero_le _) (by rw [Rx.td_zero]; exact Nat.zero_le _) w ht hv
    rw [hcm] at Cab Rc
    replace Cab := Lib.hid Cab
    replace Rc := Lib.hid Rc
    replace Sab := Lib.hid Sab
    replace RS := Lib.hid RS
    replace SMd := Lib.hid SMd
    clear hcm
    go_enter Tryz.func7, Tryz.ntmps7
    go_wp2_with fail
    with_reducible refine Calls.mono (MX.out _ hx.out) ?_
    rintro e x1 ⟨rfl, hb⟩
    replace hL0 := hL0.call hb
    clear hb MX
    go_wp2_with fail
    with_reducible refine Calls.mono (MY.out _ (hy.out.below hL0.bl)) ?_
    rintro e x2 ⟨rfl, hb⟩
    replace hL0 := hL0.call hb
    clear hb MY
    replace hL0 := ((hL0.new rfl a 32).new (szA _ _) a 32)
    generalize hweq : ((x2.alloc (.cells #[.int .u64 ((lo a : Nat) : Int), .string (hs a)] 32)).alloc (.cells #[.int .u64 ((lo a : Nat) : Int), .string (hs a)] 32)) = x3 at hL0
    go_wp2_with fail
    with_reducible refine Calls.mono (RX.out _ (hx.out.below hL0.bl)) ?_
    rintro e x4 ⟨v7, rfl, h7, hb⟩
    replace hL0 := hL0.call hb
    clear hb RX hweq
    replace h7 := Lib.hid h7
    go_wp2_with fail
    with_reducible refine Calls.mono (RY.out _ (hy.out.below hL0.bl)) ?_
    rintro e x5 ⟨v8, rfl, h8, hb⟩
    replace hL0 := hL0.call hb
    replace h7 := Lib.hid (h7.out.below hb)
    clear hb RY
    replace h8 := Lib.hid h8
    go_wp2_with fail
    with_reducible refine Calls.mono (Rc.out _ _ _ h7.out h8.out) ?_
    rintro e x6 ⟨rfl, hb⟩
    replace hL0 := hL0.call hb
    replace h7 := Lib.hid (h7.out.below hb)
    replace h8 := Lib.hid (h8.out.below hb)
    clear hb Rc
    obtain ⟨p41, r41⟩ := hL0.get (x2.heap.size) a (by (repeat (first | with_reducible exact List.mem_cons_self | with_reducible refine List.mem_cons_of_mem _ ?_)))
    obtain ⟨p42, r42⟩ := hL0.get (x2.heap.size + 1) a (by (repeat (first | with_reducible exact List.mem_cons_self | with_reducible refine List.mem_cons_of_mem _ ?_)))
    go_wp2_with fail
    with_reducible refine Calls.mono (Sab.out _) ?_
    rintro e x7 ⟨rfl, hb⟩
    replace hL0 := hL0.call hb
    replace h7 := Lib.hid (h7.out.below hb)
    replace h8 := Lib.hid (h8.out.below hb)
    clear hb Sab
    replace h7 := Lib.hid (h7.out.below (below1 _ (.cells #[.int .u64 ((lo 0 : Nat) : Int), .string (hs 0)] 32)))
    replace h8 := Lib.hid (h8.out.below (below1 _ (.cells #[.int .u64 ((lo 0 : Nat) : Int), .string (hs 0)] 32)))
    replace hL0 := (hL0.new rfl 0 32)
    generalize hweq : (x7.alloc (.cells #[.int .u64 ((lo 0 : Nat) : Int), .string (hs 0)] 32)) = x8 at hL0 h7 h8
    obtain ⟨p43, r43⟩ := hL0.get (x2.heap.size) a (by (repeat (first | with_reducible exact List.mem_cons_self | with_reducible refine List.mem_cons_of_mem _ ?_)))
    obtain ⟨p44, r44⟩ := hL0.get (x2.heap.size + 1) a (by (repeat (first | with_reducible exact List.mem_cons_self | with_reducible refine List.mem_cons_of_mem _ ?_)))
    obtain ⟨p45, r45⟩ := hL0.get (x7.heap.size) 0 (by (repeat (first | with_reducible exact List.mem_cons_self | with_reducible refine List.mem_cons_of_mem _ ?_)))
    go_wp2_with fail
    with_reducible refine Calls.mono (SMa.out _ _ (htab.below hL0.bl) h7.out) ?_
    rintro e x9 ⟨rfl, hb⟩
    replace hL0 := hL0.call hb
    replace h7 := Lib.hid (h7.out.below hb)
    replace h8 := Lib.hid (h8.out.below hb)
    clear hb SMa hweq
    obtain ⟨p46, r46⟩ := hL0.get (x2.heap.size) a (by (repeat (first | with_reducible exact List.mem_cons_self | with_reducible refine List.mem_cons_of_mem _ ?_)))
    obtain ⟨p47, r47⟩ := hL0.get (x2.heap.size + 1) a (by (repeat (first | with_reducible exact List.mem_cons_self | with_reducible refine List.mem_cons_of_mem _ ?_)))
    obtain ⟨p48, r48⟩ := hL0.get (x7.heap.size) 0 (by (repeat (first | with_reducible exact List.mem_cons_self | with_reducible refine List.mem_cons_of_mem _ ?_)))
    go_wp2_with fail
    with_reducible refine Calls.mono (Aab.out _) ?_
    rintro e x10 ⟨rfl, hb⟩
    replace hL0 := hL0.call hb
    replace h7 := Lib.hid (h7.out.below hb)
    replace h8 := Lib.hid (h8.out.below hb)
    clear hb Aab
    obtain ⟨p49, r49⟩ := hL0.get (x2.heap.size) a (by (repeat (first | with_reducible exact List.mem_cons_self | with_reducible refine List.mem_cons_of_mem _ ?_)))
    obtain ⟨p50, r50⟩ := hL0.get (x2.heap.size + 1) a (by (repeat (first | with_reducible exact List.mem_cons_self | with_reducible refine List.mem_cons_of_mem _ ?_)))
    obtain ⟨p51, r51⟩ := hL0.get (x7.heap.size) 0 (by (repeat (first | with_reducible exact List.mem_cons_self | with_reducible refine List.mem_cons_of_mem _ ?_)))
    go_wp2_with fail
    with_reducible refine Calls.mono (Rab.out _ _ _ h7.out h8.out) ?_
    rintro e x11 ⟨v48, rfl, h48, hb⟩
    replace hL0 := hL0.call hb
    replace h7 := Lib.hid (h7.out.below hb)
    replace h8 := Lib.hid (h8.out.below hb)
    clear hb Rab
    replace h48 := Lib.hid h48
    obtain ⟨p52, r52⟩ := hL0.get (x2.heap.size) a (by (repeat (first | with_reducible exact List.mem_cons_self | with_reducible refine List.mem_cons_of_mem _ ?_)))
    obtain ⟨p53, r53⟩ := hL0.get (x2.heap.size + 1) a (by (repeat (first | with_reducible exact List.mem_cons_self | with_reducible refine List.mem_cons_of_mem _ ?_)))
    obtain ⟨p54, r54⟩ := hL0.get (x7.heap.size) 0 (by (repeat (first | with_reducible exact List.mem_cons_self | with_reducible refine List.mem_cons_of_mem _ ?_)))
    go_wp2_with fail
    with_reducible refine Calls.mono (SMs.out _ _ (htab.below hL0.bl) h48.out) ?_
    rintro e x12 ⟨rfl, hb⟩
    replace hL0 := hL0.call hb
    replace h7 := Lib.hid (h7.out.below hb)
    replace h8 := Lib.hid (h8.out.below hb)
    clear hb SMs
    clear h48
    obtain ⟨p55, r55⟩ := hL0.get (x2.heap.size) a (by (repeat (first | with_reducible exact List.mem_cons_self | with_reducible refine List.mem_cons_of_mem _ ?_)))
    obtain ⟨p56, r56⟩ := hL0.get (x2.heap.size + 1) a (by (repeat (first | with_reducible exact List.mem_cons_self | with_reducible refine List.mem_cons_of_mem _ ?_)))
    obtain ⟨p57, r57⟩ := hL0.get (x7.heap.size) 0 (by (repeat (first | with_reducible exact List.mem_cons_self | with_reducible refine List.mem_cons_of_mem _ ?_)))
    go_wp2_with fail
    with_reducible refine Calls.mono (Cab.out _) ?_
    rintro e x13 ⟨rfl, hb⟩
    replace hL0 := hL0.call hb
    replace h7 := Lib.hid (h7.out.below hb)
    replace h8 := Lib.hid (h8.out.below hb)
    clear hb Cab
    obtain ⟨p58, r58⟩ := hL0.get (x2.heap.size) a (by (repeat (first | with_reducible exact List.mem_cons_self | with_reducible refine List.mem_cons_of_mem _ ?_)))
    obtain ⟨p59, r59⟩ := hL0.get (x2.heap.size + 1) a (by (repeat (first | with_reducible exact List.mem_cons_self | with_reducible refine List.mem_cons_of_mem _ ?_)))
    obtain ⟨p60, r60⟩ := hL0.get (x7.heap.size) 0 (by (repeat (first | with_reducible exact List.mem_cons_self | with_reducible refine List.mem_cons_of_mem _ ?_)))
    go_upto_region 9 with fail
    have c0 := (hL0.get (x7.heap.size) 0 (by (repeat (first | with_reducible exact List.mem_cons_self | with_reducible refine List.mem_cons_of_mem _ ?_)))).1
    have c1 := (hL0.get (x7.heap.size) 0 (by (repeat (first | with_reducible exact List.mem_cons_self | with_reducible refine List.mem_cons_of_mem _ ?_)))).2
    have hkb : x7.heap.size < x13.drew.heap.size := (hL0.all (x7.heap.size, 0) (by (repeat (first | with_reducible exact List.mem_cons_self | with_reducible refine List.mem_cons_of_mem _ ?_)))).2.lt
    replace c0 : x13.drew.cell? ⟨x7.heap.size, 0, none⟩ = _ := c0
    replace c1 : x13.drew.cell? ⟨x7.heap.size, 1, none⟩ = _ := c1
    have r7 := Lib.hid h7.out.drew
    have r8 := Lib.hid h8.out.drew
    have t0 := (htab.below hL0.bl.drew)
    go_region_held3 (fun w' => w'.cell? ⟨x7.heap.size, 0, none⟩ = some (.int .u64 ((lo 0 : Nat) : Int)) ∧ w'.cell? ⟨x7.heap.size, 1, none⟩ = some (.string (hs 0)))
      (first | exact ⟨c0, c1⟩ | exact ⟨c0a, c1a⟩ | exact ⟨c0b, c1b⟩ | exact ⟨c0c, c1c⟩)
      (first
        | (go_at_call 56; ((with_reducible refine Calls.mono (RS.out _ _ _ r7.out r8.out) ?_); rintro e w1 ⟨v88, rfl, h88, hb1⟩; have c0a := (hb1.cell (p := ⟨x7.heap.size, 0, none⟩) hkb).trans c0; have c1a := (hb1.cell (p := ⟨x7.heap.size, 1, none⟩) hkb).trans c1; replace h88 := Lib.hid h88))
        | (go_at_call 52; ((with_reducible refine Calls.mono (SMd.out _ _ (t0.below hb1) h88.out) ?_); rintro e w2 ⟨rfl, hb2⟩; have c0b := (hb2.cell (p := ⟨x7.heap.size, 0, none⟩) (Nat.lt_of_lt_of_le hkb hb1.size)).trans c0a; have c1b := (hb2.cell (p := ⟨x7.heap.size, 1, none⟩) (Nat.lt_of_lt_of_le hkb hb1.size)).trans c1a))
        | (go_at_call 16; ((with_reducible refine Calls.mono (works_any _ ((t0.below hb1).below hb2)) ?_); rintro e w3 ⟨rfl, hb3⟩; have c0c := (hb3.cell (p := ⟨x7.heap.size, 0, none⟩) (Nat.lt_of_lt_of_le hkb (Nat.le_trans hb1.size hb2.size))).trans c0b; have c1c := (hb3.cell (p := ⟨x7.heap.size, 1, none⟩) (Nat.lt_of_lt_of_le hkb (Nat.le_trans hb1.size hb2.size))).trans c1b)))
    have hB := ((hL0.bl.drew.trans (hb1.mono hL0.bl.size)).trans (hb2.mono (Nat.le_trans hL0.bl.size hb1.size))).trans (hb3.mono (Nat.le_trans hL0.bl.size (Nat.le_trans hb1.size hb2.size)))
    go_wp2_with fail
    exact bodyPost_ret (v := .bool true) (by simp [results, Tryz.results7, go_sem]) rfl ⟨rfl, hB⟩
  · have hcm := cmpI_gt hlt
    have hne : a ≠ b := by omega
    have hle := Nat.le_of_lt hlt
    have Sab := fun w => sub_ge a b hle (by omega) w
    have RS := fun va vb w ha hb => Rx.rsub_any va vb a b (by omega) hle w ha hb
    have SMd := fun v w ht hv => Rx.same_any (a - b) v (Nat.le_trans (digs_mono (Nat.sub_le a b)) (by omega)) (Nat.le_trans (Rx.td_mono (Nat.sub_le a b)) (by omega)) w ht hv
    generalize a - b = d at *
    rw [hcm] at Cab Rc
    replace Cab := Lib.hid Cab
    replace Rc := Lib.hid Rc
    replace Sab := Lib.hid Sab
    replace RS := Lib.hid RS
    replace SMd := Lib.hid SMd
    clear hcm hlt hle
    have hnn := natV_ne hne
    clear hne
    replace hnn := Lib.hid hnn
    go_enter Tryz.func7, Tryz.ntmps7
    go_wp2_with fail
    with_reducible refine Calls.mono (MX.out _ hx.out) ?_
    rintro e x1 ⟨rfl, hb⟩
    replace hL0 := hL0.call hb
    clear hb MX
    go_wp2_with fail
    with_reducible refine Calls.mono (MY.out _ (hy.out.below hL0.bl)) ?_
    rintro e x2 ⟨rfl, hb⟩
    replace hL0 := hL0.call hb
    clear hb MY
    replace hL0 := ((hL0.new rfl a 32).new (szA _ _) b 32)
    generalize hweq : ((x2.alloc (.cells #[.int .u64 ((lo a : Nat) : Int), .string (hs a)] 32)).alloc (.cells #[.int .u64 ((lo b : Nat) : Int), .string (hs b)] 32)) = x3 at hL0
    go_wp2_with fail
    with_reducible refine Calls.mono (RX.out _ (hx.out.below hL0.bl)) ?_
    rintro e x4 ⟨v7, rfl, h7, hb⟩
    replace hL0 := hL0.call hb
    clear hb RX hweq
    replace h7 := Lib.hid h7
    go_wp2_with fail
    with_reducible refine Calls.mono (RY.out _ (hy.out.below hL0.bl)) ?_
    rintro e x5 ⟨v8, rfl, h8, hb⟩
    replace hL0 := hL0.call hb
    replace h7 := Lib.hid (h7.out.below hb)
    clear hb RY
    replace h8 := Lib.hid h8
    go_wp2_with fail
    with_reducible refine Calls.mono (Rc.out _ _ _ h7.out h8.out) ?_
    rintro e x6 ⟨rfl, hb⟩
    replace hL0 := hL0.call hb
    replace h7 := Lib.hid (h7.out.below hb)
    replace h8 := Lib.hid (h8.out.below hb)
    clear hb Rc
    obtain ⟨p61, r61⟩ := hL0.get (x2.heap.size) a (by (repeat (first | with_reducible exact List.mem_cons_self | with_reducible refine List.mem_cons_of_mem _ ?_)))
    obtain ⟨p62, r62⟩ := hL0.get (x2.heap.size + 1) b (by (repeat (first | with_reducible exact List.mem_cons_self | with_reducible refine List.mem_cons_of_mem _ ?_)))
    go_wp2_with fail
    with_reducible refine Calls.mono (Sab.out _) ?_
    rintro e x7 ⟨rfl, hb⟩
    replace hL0 := hL0.call hb
    replace h7 := Lib.hid (h7.out.below hb)
    replace h8 := Lib.hid (h8.out.below hb)
    clear hb Sab
    replace h7 := Lib.hid (h7.out.below (below1 _ (.cells #[.int .u64 ((lo d : Nat) : Int), .string (hs d)] 32)))
    replace h8 := Lib.hid (h8.out.below (below1 _ (.cells #[.int .u64 ((lo d : Nat) : Int), .string (hs d)] 32)))
    replace hL0 := (hL0.new rfl d 32)
    generalize hweq : (x7.alloc (.cells #[.int .u64 ((lo d : Nat) : Int), .string (hs d)] 32)) = x8 at hL0 h7 h8
    rcases hnn.out with hn1 | ⟨hn1, hn2⟩
    · skip
      obtain ⟨p63, r63⟩ := hL0.get (x2.heap.size) a (by (repeat (first | with_reducible exact List.mem_cons_self | with_reducible refine List.mem_cons_of_mem _ ?_)))
      obtain ⟨p64, r64⟩ := hL0.get (x2.heap.size + 1) b (by (repeat (first | with_reducible exact List.mem_cons_self | with_reducible refine List.mem_cons_of_mem _ ?_)))
      obtain ⟨p65, r65⟩ := hL0.get (x7.heap.size) d (by (repeat (first | with_reducible exact List.mem_cons_self | with_reducible refine List.mem_cons_of_mem _ ?_)))
      go_wp2_with fail
      with_reducible refine Calls.mono (SMa.out _ _ (htab.below hL0.bl) h7.out) ?_
      rintro e x9 ⟨rfl, hb⟩
      replace hL0 := hL0.call hb
      replace h7 := Lib.hid (h7.out.below hb)
      replace h8 := Lib.hid (h8.out.below hb)
      clear hb SMa hweq
      obtain ⟨p66, r66⟩ := hL0.get (x2.heap.size) a (by (repeat (first | with_reducible exact List.mem_cons_self | with_reducible refine List.mem_cons_of_mem _ ?_)))
      obtain ⟨p67, r67⟩ := hL0.get (x2.heap.size + 1) b (by (repeat (first | with_reducible exact List.mem_cons_self | with_reducible refine List.mem_cons_of_mem _ ?_)))
      obtain ⟨p68, r68⟩ := hL0.get (x7.heap.size) d (by (repeat (first | with_reducible exact List.mem_cons_self | with_reducible refine List.mem_cons_of_mem _ ?_)))
      go_wp2_with fail
      with_reducible refine Calls.mono (Aab.out _) ?_
      rintro e x10 ⟨rfl, hb⟩
      replace hL0 := hL0.call hb
      replace h7 := Lib.hid (h7.out.below hb)
      replace h8 := Lib.hid (h8.out.below hb)
      clear hb Aab
      obtain ⟨p69, r69⟩ := hL0.get (x2.heap.size) a (by (repeat (first | with_reducible exact List.mem_cons_self | with_reducible refine List.mem_cons_of_mem _ ?_)))
      obtain ⟨p70, r70⟩ := hL0.get (x2.heap.size + 1) b (by (repeat (first | with_reducible exact List.mem_cons_self | with_reducible refine List.mem_cons_of_mem _ ?_)))
      obtain ⟨p71, r71⟩ := hL0.get (x7.heap.size) d (by (repeat (first | with_reducible exact List.mem_cons_self | with_reducible refine List.mem_cons_of_mem _ ?_)))
      go_wp2_with fail
      with_reducible refine Calls.mono (Rab.out _ _ _ h7.out h8.out) ?_
      rintro e x11 ⟨v48, rfl, h48, hb⟩
      replace hL0 := hL0.call hb
      replace h7 := Lib.hid (h7.out.below hb)
      replace h8 := Lib.hid (h8.out.below hb)
      clear hb Rab
      replace h48 := Lib.hid h48
      obtain ⟨p72, r72⟩ := hL0.get (x2.heap.size) a (by (repeat (first | with_reducible exact List.mem_cons_self | with_reducible refine List.mem_cons_of_mem _ ?_)))
      obtain ⟨p73, r73⟩ := hL0.get (x2.heap.size + 1) b (by (repeat (first | with_reducible exact List.mem_cons_self | with_reducible refine List.mem_cons_of_mem _ ?_)))
      obtain ⟨p74, r74⟩ := hL0.get (x7.heap.size) d (by (repeat (first | with_reducible exact List.mem_cons_self | with_reducible refine List.mem_cons_of_mem _ ?_)))
      go_wp2_with fail
      with_reducible refine Calls.mono (SMs.out _ _ (htab.below hL0.bl) h48.out) ?_
      rintro e x12 ⟨rfl, hb⟩
      replace hL0 := hL0.call hb
      replace h7 := Lib.hid (h7.out.below hb)
      replace h8 := Lib.hid (h8.out.below hb)
      clear hb SMs
      clear h48
      obtain ⟨p75, r75⟩ := hL0.get (x2.heap.size) a (by (repeat (first | with_reducible exact List.mem_cons_self | with_reducible refine List.mem_cons_of_mem _ ?_)))
      obtain ⟨p76, r76⟩ := hL0.get (x2.heap.size + 1) b (by (repeat (first | with_reducible exact List.mem_cons_self | with_reducible refine List.mem_cons_of_mem _ ?_)))
      obtain ⟨p77, r77⟩ := hL0.get (x7.heap.size) d (by (repeat (first | with_reducible exact List.mem_cons_self | with_reducible refine List.mem_cons_of_mem _ ?_)))
      go_wp2_with fail
      with_reducible refine Calls.mono (Cab.out _) ?_
      rintro e x13 ⟨rfl, hb⟩
      replace hL0 := hL0.call hb
      replace h7 := Lib.hid (h7.out.below hb)
      replace h8 := Lib.hid (h8.out.below hb)
      clear hb Cab
      obtain ⟨p78, r78⟩ := hL0.get (x2.heap.size) a (by (repeat (first | with_reducible exact List.mem_cons_self | with_reducible refine List.mem_cons_of_mem _ ?_)))
      obtain ⟨p79, r79⟩ := hL0.get (x2.heap.size + 1) b (by (repeat (first | with_reducible exact List.mem_cons_self | with_reducible refine List.mem_cons_of_mem _ ?_)))
      obtain ⟨p80, r80⟩ := hL0.get (x7.heap.size) d (by (repeat (first | with_reducible exact List.mem_cons_self | with_reducible refine List.mem_cons_of_mem _ ?_)))
      go_upto_region 9 with fail
      have c0 := (hL0.get (x7.heap.size) d (by (repeat (first | with_reducible exact List.mem_cons_self | with_reducible refine List.mem_cons_of_mem _ ?_)))).1
      have c1 := (hL0.get (x7.heap.size) d (by (repeat (first | with_reducible exact List.mem_cons_self | with_reducible refine List.mem_cons_of_mem _ ?_)))).2
      have hkb : x7.heap.size < x13.drew.heap.size := (hL0.all (x7.heap.size, d) (by (repeat (first | with_reducible exact List.mem_cons_self | with_reducible refine List.mem_cons_of_mem _ ?_)))).2.lt
      replace c0 : x13.drew.cell? ⟨x7.heap.size, 0, none⟩ = _ := c0
      replace c1 : x13.drew.cell? ⟨x7.heap.size, 1, none⟩ = _ := c1
      have r7 := Lib.hid h7.out.drew
      have r8 := Lib.hid h8.out.drew
      have t0 := (htab.below hL0.bl.drew)
      go_region_held3 (fun w' => w'.cell? ⟨x7.heap.size, 0, none⟩ = some (.int .u64 ((lo d : Nat) : Int)) ∧ w'.cell? ⟨x7.heap.size, 1, none⟩ = some (.string (hs d)))
        (first | exact ⟨c0, c1⟩ | exact ⟨c0a, c1a⟩ | exact ⟨c0b, c1b⟩ | exact ⟨c0c, c1c⟩)
        (first
          | (go_at_call 56; ((with_reducible refine Calls.mono (RS.out _ _ _ r7.out r8.out) ?_); rintro e w1 ⟨v88, rfl, h88, hb1⟩; have c0a := (hb1.cell (p := ⟨x7.heap.size, 0, none⟩) hkb).trans c0; have c1a := (hb1.cell (p := ⟨x7.heap.size, 1, none⟩) hkb).trans c1; replace h88 := Lib.hid h88))
          | (go_at_call 52; ((with_reducible refine Calls.mono (SMd.out _ _ (t0.below hb1) h88.out) ?_); rintro e w2 ⟨rfl, hb2⟩; have c0b := (hb2.cell (p := ⟨x7.heap.size, 0, none⟩) (Nat.lt_of_lt_of_le hkb hb1.size)).trans c0a; have c1b := (hb2.cell (p := ⟨x7.heap.size, 1, none⟩) (Nat.lt_of_lt_of_le hkb hb1.size)).trans c1a))
          | (go_at_call 16; ((with_reducible refine Calls.mono (works_any _ ((t0.below hb1).below hb2)) ?_); rintro e w3 ⟨rfl, hb3⟩; have c0c := (hb3.cell (p := ⟨x7.heap.size, 0, none⟩) (Nat.lt_of_lt_of_le hkb (Nat.le_trans hb1.size hb2.size))).trans c0b; have c1c := (hb3.cell (p := ⟨x7.heap.size, 1, none⟩) (Nat.lt_of_lt_of_le hkb (Nat.le_trans hb1.size hb2.size))).trans c1b)))
      have hB := ((hL0.bl.drew.trans (hb1.mono hL0.bl.size)).trans (hb2.mono (Nat.le_trans hL0.bl.size hb1.size))).trans (hb3.mono (Nat.le_trans hL0.bl.size (Nat.le_trans hb1.size hb2.size)))
      go_wp2_with fail
      exact bodyPost_ret (v := .bool true) (by simp [results, Tryz.results7, go_sem]) rfl ⟨rfl, hB⟩
    · skip
      obtain ⟨p81, r81⟩ := hL0.get (x2.heap.size) a (by (repeat (first | with_reducible exact List.mem_cons_self | with_reducible refine List.mem_cons_of_mem _ ?_)))
      obtain ⟨p82, r82⟩ := hL0.get (x2.heap.size + 1) b (by (repeat (first | with_reducible exact List.mem_cons_self | with_reducible refine List.mem_cons_of_mem _ ?_)))
      obtain ⟨p83, r83⟩ := hL0.get (x7.heap.size) d (by (repeat (first | with_reducible exact List.mem_cons_self | with_reducible refine List.mem_cons_of_mem _ ?_)))
      go_wp2_with fail
      with_reducible refine Calls.mono (SMa.out _ _ (htab.below hL0.bl) h7.out) ?_
      rintro e x14 ⟨rfl, hb⟩
      replace hL0 := hL0.call hb
      replace h7 := Lib.hid (h7.out.below hb)
      replace h8 := Lib.hid (h8.out.below hb)
      clear hb SMa hweq
      obtain ⟨p84, r84⟩ := hL0.get (x2.heap.size) a (by (repeat (first | with_reducible exact List.mem_cons_self | with_reducible refine List.mem_cons_of_mem _ ?_)))
      obtain ⟨p85, r85⟩ := hL0.get (x2.heap.size + 1) b (by (repeat (first | with_reducible exact List.mem_cons_self | with_reducible refine List.mem_cons_of_mem _ ?_)))
      obtain ⟨p86, r86⟩ := hL0.get (x7.heap.size) d (by (repeat (first | with_reducible exact List.mem_cons_self | with_reducible refine List.mem_cons_of_mem _ ?_)))
      go_wp2_with fail
      with_reducible refine Calls.mono (Aab.out _) ?_
      rintro e x15 ⟨rfl, hb⟩
      replace hL0 := hL0.call hb
      replace h7 := Lib.hid (h7.out.below hb)
      replace h8 := Lib.hid (h8.out.below hb)
      clear hb Aab
      obtain ⟨p87, r87⟩ := hL0.get (x2.heap.size) a (by (repeat (first | with_reducible exact List.mem_cons_self | with_reducible refine List.mem_cons_of_mem _ ?_)))
      obtain ⟨p88, r88⟩ := hL0.get (x2.heap.size + 1) b (by (repeat (first | with_reducible exact List.mem_cons_self | with_reducible refine List.mem_cons_of_mem _ ?_)))
      obtain ⟨p89, r89⟩ := hL0.get (x7.heap.size) d (by (repeat (first | with_reducible exact List.mem_cons_self | with_reducible refine List.mem_cons_of_mem _ ?_)))
      go_wp2_with fail
      with_reducible refine Calls.mono (Rab.out _ _ _ h7.out h8.out) ?_
      rintro e x16 ⟨v48, rfl, h48, hb⟩
      replace hL0 := hL0.call hb
      replace h7 := Lib.hid (h7.out.below hb)
      replace h8 := Lib.hid (h8.out.below hb)
      clear hb Rab
      replace h48 := Lib.hid h48
      obtain ⟨p90, r90⟩ := hL0.get (x2.heap.size) a (by (repeat (first | with_reducible exact List.mem_cons_self | with_reducible refine List.mem_cons_of_mem _ ?_)))
      obtain ⟨p91, r91⟩ := hL0.get (x2.heap.size + 1) b (by (repeat (first | with_reducible exact List.mem_cons_self | with_reducible refine List.mem_cons_of_mem _ ?_)))
      obtain ⟨p92, r92⟩ := hL0.get (x7.heap.size) d (by (repeat (first | with_reducible exact List.mem_cons_self | with_reducible refine List.mem_cons_of_mem _ ?_)))
      go_wp2_with fail
      with_reducible refine Calls.mono (SMs.out _ _ (htab.below hL0.bl) h48.out) ?_
      rintro e x17 ⟨rfl, hb⟩
      replace hL0 := hL0.call hb
      replace h7 := Lib.hid (h7.out.below hb)
      replace h8 := Lib.hid (h8.out.below hb)
      clear hb SMs
      clear h48
      obtain ⟨p93, r93⟩ := hL0.get (x2.heap.size) a (by (repeat (first | with_reducible exact List.mem_cons_self | with_reducible refine List.mem_cons_of_mem _ ?_)))
      obtain ⟨p94, r94⟩ := hL0.get (x2.heap.size + 1) b (by (repeat (first | with_reducible exact List.mem_cons_self | with_reducible refine List.mem_cons_of_mem _ ?_)))
      obtain ⟨p95, r95⟩ := hL0.get (x7.heap.size) d (by (repeat (first | with_reducible exact List.mem_cons_self | with_reducible refine List.mem_cons_of_mem _ ?_)))
      go_wp2_with fail
      with_reducible refine Calls.mono (Cab.out _) ?_
      rintro e x18 ⟨rfl, hb⟩
      replace hL0 := hL0.call hb
      replace h7 := Lib.hid (h7.out.below hb)
      replace h8 := Lib.hid (h8.out.below hb)
      clear hb Cab
      obtain ⟨p96, r96⟩ := hL0.get (x2.heap.size) a (by (repeat (first | with_reducible exact List.mem_cons_self | with_reducible refine List.mem_cons_of_mem _ ?_)))
      obtain ⟨p97, r97⟩ := hL0.get (x2.heap.size + 1) b (by (repeat (first | with_reducible exact List.mem_cons_self | with_reducible refine List.mem_cons_of_mem _ ?_)))
      obtain ⟨p98, r98⟩ := hL0.get (x7.heap.size) d (by (repeat (first | with_reducible exact List.mem_cons_self | with_reducible refine List.mem_cons_of_mem _ ?_)))
      go_upto_region 9 with fail
      have c0 := (hL0.get (x7.heap.size) d (by (repeat (first | with_reducible exact List.mem_cons_self | with_reducible refine List.mem_cons_of_mem _ ?_)))).1
      have c1 := (hL0.get (x7.heap.size) d (by (repeat (first | with_reducible exact List.mem_cons_self | with_reducible refine List.mem_cons_of_mem _ ?_)))).2
      have hkb : x7.heap.size < x18.drew.heap.size := (hL0.all (x7.heap.size, d) (by (repeat (first | with_reducible exact List.mem_cons_self | with_reducible refine List.mem_cons_of_mem _ ?_)))).2.lt
      replace c0 : x18.drew.cell? ⟨x7.heap.size, 0, none⟩ = _ := c0
      replace c1 : x18.drew.cell? ⟨x7.heap.size, 1, none⟩ = _ := c1
      have r7 := Lib.hid h7.out.drew
      have r8 := Lib.hid h8.out.drew
      have t0 := (htab.below hL0.bl.drew)
      go_region_held3 (fun w' => w'.cell? ⟨x7.heap.size, 0, none⟩ = some (.int .u64 ((lo d : Nat) : Int)) ∧ w'.cell? ⟨x7.heap.size, 1, none⟩ = some (.string (hs d)))
        (first | exact ⟨c0, c1⟩ | exact ⟨c0a, c1a⟩ | exact ⟨c0b, c1b⟩ | exact ⟨c0c, c1c⟩)
        (first
          | (go_at_call 56; ((with_reducible refine Calls.mono (RS.out _ _ _ r7.out r8.out) ?_); rintro e w1 ⟨v88, rfl, h88, hb1⟩; have c0a := (hb1.cell (p := ⟨x7.heap.size, 0, none⟩) hkb).trans c0; have c1a := (hb1.cell (p := ⟨x7.heap.size, 1, none⟩) hkb).trans c1; replace h88 := Lib.hid h88))
          | (go_at_call 52; ((with_reducible refine Calls.mono (SMd.out _ _ (t0.below hb1) h88.out) ?_); rintro e w2 ⟨rfl, hb2⟩; have c0b := (hb2.cell (p := ⟨x7.heap.size, 0, none⟩) (Nat.lt_of_lt_of_le hkb hb1.size)).trans c0a; have c1b := (hb2.cell (p := ⟨x7.heap.size, 1, none⟩) (Nat.lt_of_lt_of_le hkb hb1.size)).trans c1a))
          | (go_at_call 16; ((with_reducible refine Calls.mono (works_any _ ((t0.below hb1).below hb2)) ?_); rintro e w3 ⟨rfl, hb3⟩; have c0c := (hb3.cell (p := ⟨x7.heap.size, 0, none⟩) (Nat.lt_of_lt_of_le hkb (Nat.le_trans hb1.size hb2.size))).trans c0b; have c1c := (hb3.cell (p := ⟨x7.heap.size, 1, none⟩) (Nat.lt_of_lt_of_le hkb (Nat.le_trans hb1.size hb2.size))).trans c1b)))
      have hB := ((hL0.bl.drew.trans (hb1.mono hL0.bl.size)).trans (hb2.mono (Nat.le_trans hL0.bl.size hb1.size))).trans (hb3.mono (Nat.le_trans hL0.bl.size (Nat.le_trans hb1.size hb2.size)))
      go_wp2_with fail
      exact bodyPost_ret (v := .bool true) (by simp [results, Tryz.results7, go_sem]) rfl ⟨rfl, hB⟩

theorem sums_any (vx vy : Value) (lx ly : List Nat) (w : World) (htab : Tab w) (hx : Ws w vx lx) (hy : Ws w vy ly) :
    Calls Tryz.prog 7 #[vx, vy] w fun e w' => e = .returned (.bool true) ∧ Below w.heap.size w w' := by
  by_cases h : 24 < lx.length ∨ 24 < ly.length
  · obtain ⟨ax, cx, rfl⟩ := hx.form
    obtain ⟨ay, cy, rfl⟩ := hy.form
    exact sums_big ax ay cx cy _ _ h w htab
  · exact sums_small vx vy lx ly w htab hx hy (by omega) (by omega)
end Go.Proofs.YthehcjfmokabfaaGreatDoor
