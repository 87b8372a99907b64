/-
  The law answers true at every input, and leaves its arguments as they were: a part of the proof. CONDITIONS: the package-level tables start as the program's text lays them (the card ties them).
-/
import Derived.Test.YtdmoadfnogdfnaaGreatDoorVha
set_option linter.unusedVariables false
set_option linter.unusedSimpArgs false
namespace Go.Proofs.YtdmoadfnogdfnaaGreatDoor
open Go.RowKit
attribute [local irreducible] lo hs sm s64 c64 d64 b64 mh ml pd pc qd qc val hiB str cmpI srD lz nb isq decB
theorem szA2 (W : World) (o o' : Obj) : ((W.alloc o).alloc o').heap.size = W.heap.size + 1 + 1 := by rw [szA, szA]
theorem Ws.form {w : World} {v : Value} {l : List Nat} (h : Ws w v l) : ∃ ao c, v = .slice ao l.length c := by
 rcases h with ⟨ao, c, rfl, rfl⟩ | ⟨a, c, rfl, _⟩
 ·exact ⟨_, _, rfl⟩
 ·exact ⟨_, _, rfl⟩
/-- A number that is not 0 is not the zero struct. -/
theorem ne_zero {b : Nat} (hb : 0 < b) : ((((lo b : Nat) : Int) == 0) = false) ∨ ((((lo b : Nat) : Int) == 0) = true ∧ ((hs b).toList == []) = false) := by
 have h := eq_zero hb
 rw [show ((lo 0 : Nat) : Int) = 0 by rw [lo_small Bs_pos]; rfl, hs_small Bs_pos, show (⟨#[]⟩ : ByteArray).toList = [] by rw [ByteArray.toList_eq]] at h
 exact h
theorem lo_zero : ((lo 0 : Nat) : Int) = 0 := by rw [lo_small Bs_pos]; rfl
theorem hs_zero : hs 0 = ⟨#[]⟩ := hs_small Bs_pos
set_option maxHeartbeats 4000000 in
set_option maxRecDepth 100000 in
theorem divides_big (ax ay az : Option Addr) (cx cy cz nx ny nz : Nat) (h : 24 < nx ∨ 24 < ny ∨ 24 < nz) (w : World) (htab : Tab w) :
  Calls Tryz.prog 14 #[.slice ax nx cx, .slice ay ny cy, .slice az nz cz] w fun e w' => e = .returned (.bool true) ∧ Below w.heap.size w w' := by
 have HW := Lib.hid (works_any w htab)
 have key : (decide ((24 : Int) < (nx : Int)) = true) ∨ (decide ((24 : Int) < (nx : Int)) = false ∧ decide ((24 : Int) < (ny : Int)) = true) ∨ (decide ((24 : Int) < (nx : Int)) = false ∧ decide ((24 : Int) < (ny : Int)) = false ∧ decide ((24 : Int) < (nz : Int)) = true) := by
  by_cases h1 : 24 < nx
  ·exact .inl (decide_eq_true (by omega))
  ·by_cases h2 : 24 < ny
   ·exact .inr (.inl ⟨decide_eq_false (by omega), decide_eq_true (by omega)⟩)
   ·exact .inr (.inr ⟨decide_eq_false (by omega), decide_eq_false (by omega), decide_eq_true (by omega)⟩)
 clear h
 rcases key with k1 | ⟨k1, k2⟩ | ⟨k1, k2, k3⟩
 all_goals (
  go_enter Tryz.func14, Tryz.ntmps14
  go_wp2_with fail
  with_reducible refine Calls.mono HW.out ?_
  rintro e w1 ⟨rfl, hb⟩
  go_wp2_with fail
  exact bodyPost_ret (v := .bool true) (by simp [results, Tryz.results14, go_sem]) rfl ⟨rfl, hb⟩)
set_option maxHeartbeats 16000000 in
set_option maxRecDepth 100000 in
theorem divides_small (vx vy vz : Value) (lx ly lz : List Nat) (w : World) (htab : Tab w) (hx : Ws w vx lx) (hy : Ws w vy ly) (hz : Ws w vz lz) (nx : lx.length ≤ 24) (ny : ly.length ≤ 24) (nz : lz.length ≤ 24) :
  Calls Tryz.prog 14 #[vx, vy, vz] w fun e w' => e = .returned (.bool true) ∧ Below w.heap.size w w' := by
 have MX := fun w h => made_any vx lx (by omega) w h
 have MY := fun w h => made_any vy ly (by omega) w h
 have MZ := fun w h => made_any vz lz (by omega) w h
 obtain ⟨ax, cx, ex⟩ := hx.form
 obtain ⟨ay, cy, ey⟩ := hy.form
 obtain ⟨az, cz, ez⟩ := hz.form
 have dx := Nat.le_trans (made_digs hx.lt) nx
 have dy := Nat.le_trans (made_digs hy.lt) ny
 have dz := Nat.le_trans (made_digs hz.lt) nz
 subst ex ey ez
 have k1 : decide ((24 : Int) < (lx.length : Int)) = false := decide_eq_false (by omega)
 have k2 : decide ((24 : Int) < (ly.length : Int)) = false := decide_eq_false (by omega)
 have k3 : decide ((24 : Int) < (lz.length : Int)) = false := decide_eq_false (by omega)
 generalize made lx = a at *
 generalize made ly = b at *
 generalize made lz = c at *
 replace hx := Lib.hid hx
 replace hy := Lib.hid hy
 replace hz := Lib.hid hz
 replace MX := Lib.hid MX
 replace MY := Lib.hid MY
 replace MZ := Lib.hid MZ
 generalize lx.length = Nx at *
 generalize ly.length = Ny at *
 generalize lz.length = Nz at *
 have hL0 : NL w w [] := NL.start w
 go_enter Tryz.func14, Tryz.ntmps14
 go_wp2_with fail
 with_reducible refine Calls.mono (MX.out _ hx.out) ?_
 rintro e x1 ⟨rfl, hb⟩
 replace hL0 := hL0.call hb
 clear hb MX
 go_wp2_with fail
 with_reducible refine Calls.mono (MY.out _ (hy.out.below hL0.bl)) ?_
 rintro e x2 ⟨rfl, hb⟩
 replace hL0 := hL0.call hb
 clear hb MY
 go_wp2_with fail
 with_reducible refine Calls.mono (MZ.out _ (hz.out.below hL0.bl)) ?_
 rintro e x3 ⟨rfl, hb⟩
 replace hL0 := hL0.call hb
 clear hb MZ
 replace hL0 := ((hL0.new rfl a 32).new (szA _ _) b 32).new (szA2 _ _ _) c 32
 generalize hweq : ((x3.alloc (.cells #[.int .u64 ((lo a : Nat) : Int), .string (hs a)] 32)).alloc (.cells #[.int .u64 ((lo b : Nat) : Int), .string (hs b)] 32)).alloc (.cells #[.int .u64 ((lo c : Nat) : Int), .string (hs c)] 32) = x4 at hL0
 obtain ⟨p1, r1⟩ := hL0.get (x3.heap.size) a (by (repeat (first | with_reducible exact List.mem_cons_self | with_reducible refine List.mem_cons_of_mem _ ?_)))
 obtain ⟨p2, r2⟩ := hL0.get (x3.heap.size + 1) b (by (repeat (first | with_reducible exact List.mem_cons_self | with_reducible refine List.mem_cons_of_mem _ ?_)))
 obtain ⟨p3, r3⟩ := hL0.get (x3.heap.size + 1 + 1) c (by (repeat (first | with_reducible exact List.mem_cons_self | with_reducible refine List.mem_cons_of_mem _ ?_)))
 rcases Nat.eq_zero_or_pos b with hb0 | hb0
 ·subst hb0
  have DZ := Lib.hid (fun w => div_zero a w)
  go_wp2_with fail
  with_reducible refine Calls.mono (DZ.out _) ?_
  rintro e x5 ⟨rfl, hb⟩
  replace hL0 := hL0.call hb
  clear hb DZ hweq
  replace hL0 := ((hL0.new rfl 0 32).new (szA _ _) 0 32)
  generalize hweq : ((x5.alloc (.cells #[.int .u64 ((lo 0 : Nat) : Int), .string (hs 0)] 32)).alloc (.cells #[.int .u64 ((lo 0 : Nat) : Int), .string (hs 0)] 32)) = x6 at hL0
  have HW := Lib.hid (works_any _ (htab.below hL0.bl))
  obtain ⟨p4, r4⟩ := hL0.get (x3.heap.size + 1) 0 (by (repeat (first | with_reducible exact List.mem_cons_self | with_reducible refine List.mem_cons_of_mem _ ?_)))
  have z1 : (((lo 0 : Nat) : Int) == 0) = true := by rw [lo_zero]; rfl
  have z2 : ((hs 0).toList == []) = true := by rw [hs_zero, ByteArray.toList_eq]; rfl
  go_wp2_with fail
  with_reducible refine Calls.mono HW.out ?_
  rintro e x7 ⟨rfl, hb⟩
  replace hL0 := hL0.call hb
  clear hb HW hweq
  go_wp2_with fail
  exact bodyPost_ret (v := .bool true) (by simp [results, Tryz.results14, go_sem]) rfl ⟨rfl, hL0.bl⟩
 ·have DP := Lib.hid (fun w => div_pos a b hb0 (by omega) w)
  obtain ⟨q, hq⟩ : ∃ q, q = a / b := ⟨_, rfl⟩
  obtain ⟨r, hr⟩ : ∃ r, r = a % b := ⟨_, rfl⟩
  rw [← hq, ← hr] at DP
  have HQ := Lib.hid hq
  have HR := Lib.hid hr
  clear hq hr
  go_wp2_with fail
  with_reducible refine Calls.mono (DP.out _) ?_
  rintro e x5 ⟨rfl, hb⟩
  replace hL0 := hL0.call hb
  clear hb DP hweq
  replace hL0 := ((hL0.new rfl q 32).new (szA _ _) r 32)
  generalize hweq : ((x5.alloc (.cells #[.int .u64 ((lo q : Nat) : Int), .string (hs q)] 32)).alloc (.cells #[.int .u64 ((lo r : Nat) : Int), .string (hs r)] 32)) = x6 at hL0
  obtain ⟨p5, r5⟩ := hL0.get (x3.heap.size + 1) b (by (repeat (first | with_reducible exact List.mem_cons_self | with_reducible refine List.mem_cons_of_mem _ ?_)))
  go_upto_region 5 with fail
  go_cut [48] from 46 to 48 (fun t48 wx => t48 = .bool false ∧ NL w wx [(x5.heap.size + 1, r), (x5.heap.size, q), (x3.heap.size + 1 + 1, c), (x3.heap.size + 1, b), (x3.heap.size, a)])
  case first =>
   rcases ne_zero hb0 with h1 | ⟨h1, h2⟩
   all_goals (
    go_wp2_with fail
    go_meet
    exact ⟨rfl, hL0⟩)
  case rest =>
   have dq : (digs q).length ≤ 24 := by rw [HQ.out]; exact Nat.le_trans (digs_mono (Nat.div_le_self _ _)) dx
   have hrb : r < b := by rw [HR.out]; exact Nat.mod_lt _ hb0
   have dr : (digs r).length ≤ 24 := Nat.le_trans (digs_mono (Nat.le_of_lt hrb)) dy
   have hqr : q * b + r = a := by rw [HQ.out, HR.out, Nat.mul_comm]; exact Nat.div_add_mod a b
   have dqb : (digs (q * b)).length ≤ 24 := Nat.le_trans (digs_mono (by omega)) dx
   have C7 := fun w => cmp_any r b w
   rw [cmpI_lt hrb] at C7
   replace C7 := Lib.hid C7
   have M7 := Lib.hid (fun w => mul_any q b (by omega) (by omega) w)
   have A7 := fun w => add_any (q * b) r (by omega) (by omega) w
   rw [hqr] at A7
   replace A7 := Lib.hid A7
   have D9 := fun w => div_pos c b hb0 (by omega) w
   obtain ⟨q2, hq2⟩ : ∃ q, q = c / b := ⟨_, rfl⟩
   obtain ⟨r2, hr2⟩ : ∃ r, r = c % b := ⟨_, rfl⟩
   have hr2b : r2 < b := by rw [hr2]; exact Nat.mod_lt _ hb0
   have dr2 : (digs r2).length ≤ 24 := Nat.le_trans (digs_mono (Nat.le_of_lt hr2b)) dy
   rw [← hq2, ← hr2] at D9
   replace D9 := Lib.hid D9
   have M10 := Lib.hid (fun w => mul_any a b (by omega) (by omega) w)
   have dab : (digs (a * b)).length ≤ 48 := Nat.le_trans (digs_mul_le dx dy) (by omega)
   have A10 := Lib.hid (fun w => add_any (a * b) r2 (by omega) (by omega) w)
   have dsm : (digs (a * b + r2)).length ≤ 49 := digs_add_le dab (Nat.le_trans dr2 (by omega))
   have D10 := fun w => div_pos (a * b + r2) b hb0 (by omega) w
   rw [show (a * b + r2) / b = a by rw [Nat.mul_comm, Nat.mul_add_div hb0, Nat.div_eq_of_lt hr2b, Nat.add_zero], show (a * b + r2) % b = r2 by rw [Nat.mul_comm, Nat.mul_add_mod, Nat.mod_eq_of_lt hr2b]] at D10
   replace D10 := Lib.hid D10
   generalize q * b = qb at *
   obtain ⟨ab, hab⟩ : ∃ n, n = a * b := ⟨_, rfl⟩
   rw [← hab] at M10 A10 D10
   obtain ⟨sm1, hsm⟩ : ∃ n, n = ab + r2 := ⟨_, rfl⟩
   rw [← hsm] at A10 D10
   clear hL0 hq2 hr2 hab hsm hqr dqb dab dsm dq dr dr2 hrb hr2b HQ HR
   obtain ⟨rfl, hL0⟩ := hcut
   go_upto_region 7 with fail
   go_cut [70] from 54 to 70 (fun t70 wx => t70 = .bool false ∧ NL w wx [(x5.heap.size + 1, r), (x5.heap.size, q), (x3.heap.size + 1 + 1, c), (x3.heap.size + 1, b), (x3.heap.size, a)])
   case first =>
    have hR := NL.start wc
    have hs0 : [(x5.heap.size + 1, r), (x3.heap.size + 1, b), (x5.heap.size, q), (x3.heap.size, a)] ⊆ [(x5.heap.size + 1, r), (x5.heap.size, q), (x3.heap.size + 1 + 1, c), (x3.heap.size + 1, b), (x3.heap.size, a)] := by simp
    go_region_held3 (fun w' => w'.cell? ⟨x5.heap.size + 1, 0, none⟩ = some (.int .u64 ((lo r : Nat) : Int)) ∧ w'.cell? ⟨x5.heap.size + 1, 1, none⟩ = some (.string (hs r)) ∧ w'.cell? ⟨x3.heap.size + 1, 0, none⟩ = some (.int .u64 ((lo b : Nat) : Int)) ∧ w'.cell? ⟨x3.heap.size + 1, 1, none⟩ = some (.string (hs b)) ∧ w'.cell? ⟨x5.heap.size, 0, none⟩ = some (.int .u64 ((lo q : Nat) : Int)) ∧ w'.cell? ⟨x5.heap.size, 1, none⟩ = some (.string (hs q)) ∧ w'.cell? ⟨x3.heap.size, 0, none⟩ = some (.int .u64 ((lo a : Nat) : Int)) ∧ w'.cell? ⟨x3.heap.size, 1, none⟩ = some (.string (hs a)))
     ((apply (NL.keep (w0 := wc) (C := [(x5.heap.size + 1, r), (x3.heap.size + 1, b), (x5.heap.size, q), (x3.heap.size, a)]) hL0 hs0); (first | ((repeat (first | (with_reducible exact szAD _ _) | (with_reducible exact szA _ _) | (with_reducible exact szD _) | (with_reducible exact rfl) | assumption | (with_reducible apply NL.drew) | (with_reducible apply NL.new0) | (with_reducible apply NL.new) | (with_reducible apply NL.put0) | (with_reducible apply NL.put1))); done) | ((with_reducible apply NL.put1); (repeat (first | (with_reducible exact szAD _ _) | (with_reducible exact szA _ _) | (with_reducible exact szD _) | (with_reducible exact rfl) | assumption | (with_reducible apply NL.drew) | (with_reducible apply NL.new0) | (with_reducible apply NL.new) | (with_reducible apply NL.put0) | (with_reducible apply NL.put1))); done))))
     (first
      | (go_at_call 104; ((with_reducible refine Calls.mono (C7.out _) ?_); rintro e wd0 ⟨rfl, hbd0⟩; have hLd0 := NL.call (w0 := wc) (by (first | ((repeat (first | (with_reducible exact szAD _ _) | (with_reducible exact szA _ _) | (with_reducible exact szD _) | (with_reducible exact rfl) | assumption | (with_reducible apply NL.drew) | (with_reducible apply NL.new0) | (with_reducible apply NL.new) | (with_reducible apply NL.put0) | (with_reducible apply NL.put1))); done) | ((with_reducible apply NL.put1); (repeat (first | (with_reducible exact szAD _ _) | (with_reducible exact szA _ _) | (with_reducible exact szD _) | (with_reducible exact rfl) | assumption | (with_reducible apply NL.drew) | (with_reducible apply NL.new0) | (with_reducible apply NL.new) | (with_reducible apply NL.put0) | (with_reducible apply NL.put1))); done))) hbd0; have hAd0 := hLd0.fc; simp only [fc, ne, and_true, ne_eq, not_false_eq_true] at hAd0))
      | (go_at_call 107; ((with_reducible refine Calls.mono (M7.out _) ?_); rintro e wd1 ⟨rfl, hbd1⟩; have hLd1 := NL.call (w0 := wc) (by (first | ((repeat (first | (with_reducible exact szAD _ _) | (with_reducible exact szA _ _) | (with_reducible exact szD _) | (with_reducible exact rfl) | assumption | (with_reducible apply NL.drew) | (with_reducible apply NL.new0) | (with_reducible apply NL.new) | (with_reducible apply NL.put0) | (with_reducible apply NL.put1))); done) | ((with_reducible apply NL.put1); (repeat (first | (with_reducible exact szAD _ _) | (with_reducible exact szA _ _) | (with_reducible exact szD _) | (with_reducible exact rfl) | assumption | (with_reducible apply NL.drew) | (with_reducible apply NL.new0) | (with_reducible apply NL.new) | (with_reducible apply NL.put0) | (with_reducible apply NL.put1))); done))) hbd1; have hAd1 := hLd1.fc; simp only [fc, ne, and_true, ne_eq, not_false_eq_true] at hAd1))
      | (go_at_call 102; ((with_reducible refine Calls.mono (A7.out _) ?_); rintro e wd2 ⟨rfl, hbd2⟩; have hLd2 := NL.call (w0 := wc) (by (first | ((repeat (first | (with_reducible exact szAD _ _) | (with_reducible exact szA _ _) | (with_reducible exact szD _) | (with_reducible exact rfl) | assumption | (with_reducible apply NL.drew) | (with_reducible apply NL.new0) | (with_reducible apply NL.new) | (with_reducible apply NL.put0) | (with_reducible apply NL.put1))); done) | ((with_reducible apply NL.put1); (repeat (first | (with_reducible exact szAD _ _) | (with_reducible exact szA _ _) | (with_reducible exact szD _) | (with_reducible exact rfl) | assumption | (with_reducible apply NL.drew) | (with_reducible apply NL.new0) | (with_reducible apply NL.new) | (with_reducible apply NL.put0) | (with_reducible apply NL.put1))); done))) hbd2; have hAd2 := hLd2.fc; simp only [fc, ne, and_true, ne_eq, not_false_eq_true] at hAd2)))
    all_goals (
     go_wp2_with fail
     go_meet
     exact ⟨rfl, NL.join (L := []) hL0 (by (first | ((repeat (first | (with_reducible exact szAD _ _) | (with_reducible exact szA _ _) | (with_reducible exact szD _) | (with_reducible exact rfl) | assumption | (with_reducible apply NL.drew) | (with_reducible apply NL.new0) | (with_reducible apply NL.new) | (with_reducible apply NL.put0) | (with_reducible apply NL.put1))); done) | ((with_reducible apply NL.put1); (repeat (first | (with_reducible exact szAD _ _) | (with_reducible exact szA _ _) | (with_reducible exact szD _) | (with_reducible exact rfl) | assumption | (with_reducible apply NL.drew) | (with_reducible apply NL.new0) | (with_reducible apply NL.new) | (with_reducible apply NL.put0) | (with_reducible apply NL.put1))); done)))⟩)
   case rest =>
    clear hL0 C7 M7 A7
    obtain ⟨rfl, hL0⟩ := hcut
    obtain ⟨p6, r6⟩ := hL0.get (x3.heap.size + 1 + 1) c (by (repeat (first | with_reducible exact List.mem_cons_self | with_reducible refine List.mem_cons_of_mem _ ?_)))
    obtain ⟨p7, r7⟩ := hL0.get (x3.heap.size + 1) b (by (repeat (first | with_reducible exact List.mem_cons_self | with_reducible refine List.mem_cons_of_mem _ ?_)))
    go_wp2_with fail
    with_reducible refine Calls.mono (D9.out _) ?_
    rintro e x7 ⟨rfl, hb⟩
    replace hL0 := hL0.call hb
    clear hb D9
    replace hL0 := ((hL0.new rfl q2 32).new (szA _ _) r2 32)
    generalize hweq : ((x7.alloc (.cells #[.int .u64 ((lo q2 : Nat) : Int), .string (hs q2)] 32)).alloc (.cells #[.int .u64 ((lo r2 : Nat) : Int), .string (hs r2)] 32)) = x8 at hL0
    go_upto_region 10 with fail
    go_cut [16, 17, 18] from 16 to 88 (fun t16 t17 t18 wx => ∃ k16 k17, t16 = .pointer (some ⟨k16, 0, none⟩) ∧ t17 = .pointer (some ⟨k17, 0, none⟩) ∧ t18 = .bool true ∧ NL w wx [(k17, r2), (k16, a), (x7.heap.size + 1, r2), (x7.heap.size, q2), (x5.heap.size + 1, r), (x5.heap.size, q), (x3.heap.size + 1 + 1, c), (x3.heap.size + 1, b), (x3.heap.size, a)])
    case first =>
     clear hweq
     have hR := NL.start x8
     have hnw : ∀ (W : World) (v0 v1 : Value) (t : TypeId), (W.alloc (.cells #[v0, v1] t)).cell? ⟨W.heap.size, 0, none⟩ = some v0 ∧ (W.alloc (.cells #[v0, v1] t)).cell? ⟨W.heap.size, 1, none⟩ = some v1 ∧ ∀ j, (W.alloc (.cells #[v0, v1] t)).frozen? ⟨W.heap.size, j, none⟩ = false := nw_all
     have hs0 : [(x3.heap.size, a), (x3.heap.size + 1, b), (x7.heap.size + 1, r2)] ⊆ [(x7.heap.size + 1, r2), (x7.heap.size, q2), (x5.heap.size + 1, r), (x5.heap.size, q), (x3.heap.size + 1 + 1, c), (x3.heap.size + 1, b), (x3.heap.size, a)] := by simp
     go_region_held3 (fun w' => w'.cell? ⟨x3.heap.size, 0, none⟩ = some (.int .u64 ((lo a : Nat) : Int)) ∧ w'.cell? ⟨x3.heap.size, 1, none⟩ = some (.string (hs a)) ∧ w'.cell? ⟨x3.heap.size + 1, 0, none⟩ = some (.int .u64 ((lo b : Nat) : Int)) ∧ w'.cell? ⟨x3.heap.size + 1, 1, none⟩ = some (.string (hs b)) ∧ w'.cell? ⟨x7.heap.size + 1, 0, none⟩ = some (.int .u64 ((lo r2 : Nat) : Int)) ∧ w'.cell? ⟨x7.heap.size + 1, 1, none⟩ = some (.string (hs r2)))
      ((apply (NL.keep (w0 := x8) (C := [(x3.heap.size, a), (x3.heap.size + 1, b), (x7.heap.size + 1, r2)]) hL0 hs0); (first | ((repeat (first | (with_reducible exact szAD _ _) | (with_reducible exact szA _ _) | (with_reducible exact szD _) | (with_reducible exact rfl) | assumption | (with_reducible apply NL.drew) | (with_reducible apply NL.new0) | (with_reducible apply NL.new) | (with_reducible apply NL.put0) | (with_reducible apply NL.put1))); done) | ((with_reducible apply NL.put1); (repeat (first | (with_reducible exact szAD _ _) | (with_reducible exact szA _ _) | (with_reducible exact szD _) | (with_reducible exact rfl) | assumption | (with_reducible apply NL.drew) | (with_reducible apply NL.new0) | (with_reducible apply NL.new) | (with_reducible apply NL.put0) | (with_reducible apply NL.put1))); done))))
      (first
       | (go_at_call 107; ((with_reducible refine Calls.mono (M10.out _) ?_); rintro e wf0 ⟨rfl, hbf0⟩; have hLf0 := NL.call (w0 := x8) (by (first | ((repeat (first | (with_reducible exact szAD _ _) | (with_reducible exact szA _ _) | (with_reducible exact szD _) | (with_reducible exact rfl) | assumption | (with_reducible apply NL.drew) | (with_reducible apply NL.new0) | (with_reducible apply NL.new) | (with_reducible apply NL.put0) | (with_reducible apply NL.put1))); done) | ((with_reducible apply NL.put1); (repeat (first | (with_reducible exact szAD _ _) | (with_reducible exact szA _ _) | (with_reducible exact szD _) | (with_reducible exact rfl) | assumption | (with_reducible apply NL.drew) | (with_reducible apply NL.new0) | (with_reducible apply NL.new) | (with_reducible apply NL.put0) | (with_reducible apply NL.put1))); done))) hbf0; have hAf0 := hLf0.fc; simp only [fc, ne, and_true, ne_eq, not_false_eq_true] at hAf0))
       | (go_at_call 102; ((with_reducible refine Calls.mono (A10.out _) ?_); rintro e wf1 ⟨rfl, hbf1⟩; have hLf1 := NL.call (w0 := x8) (by (first | ((repeat (first | (with_reducible exact szAD _ _) | (with_reducible exact szA _ _) | (with_reducible exact szD _) | (with_reducible exact rfl) | assumption | (with_reducible apply NL.drew) | (with_reducible apply NL.new0) | (with_reducible apply NL.new) | (with_reducible apply NL.put0) | (with_reducible apply NL.put1))); done) | ((with_reducible apply NL.put1); (repeat (first | (with_reducible exact szAD _ _) | (with_reducible exact szA _ _) | (with_reducible exact szD _) | (with_reducible exact rfl) | assumption | (with_reducible apply NL.drew) | (with_reducible apply NL.new0) | (with_reducible apply NL.new) | (with_reducible apply NL.put0) | (with_reducible apply NL.put1))); done))) hbf1; have hAf1 := hLf1.fc; simp only [fc, ne, and_true, ne_eq, not_false_eq_true] at hAf1))
       | (go_at_call 106; ((with_reducible refine Calls.mono (D10.out _) ?_); rintro e wf2 ⟨rfl, hbf2⟩; have hLf2 := NL.call (w0 := x8) (by (first | ((repeat (first | (with_reducible exact szAD _ _) | (with_reducible exact szA _ _) | (with_reducible exact szD _) | (with_reducible exact rfl) | assumption | (with_reducible apply NL.drew) | (with_reducible apply NL.new0) | (with_reducible apply NL.new) | (with_reducible apply NL.put0) | (with_reducible apply NL.put1))); done) | ((with_reducible apply NL.put1); (repeat (first | (with_reducible exact szAD _ _) | (with_reducible exact szA _ _) | (with_reducible exact szD _) | (with_reducible exact rfl) | assumption | (with_reducible apply NL.drew) | (with_reducible apply NL.new0) | (with_reducible apply NL.new) | (with_reducible apply NL.put0) | (with_reducible apply NL.put1))); done))) hbf2; have hAf2 := hLf2.fc; simp only [fc, ne, and_true, ne_eq, not_false_eq_true] at hAf2)))
     all_goals (
      go_wp2_with fail
      go_meet
      exact ⟨_, _, rfl, rfl, rfl, by first | exact NL.join (L := [_, _]) hL0 (by (first | ((repeat (first | (with_reducible exact szAD _ _) | (with_reducible exact szA _ _) | (with_reducible exact szD _) | (with_reducible exact rfl) | assumption | (with_reducible apply NL.drew) | (with_reducible apply NL.new0) | (with_reducible apply NL.new) | (with_reducible apply NL.put0) | (with_reducible apply NL.put1))); done) | ((with_reducible apply NL.put1); (repeat (first | (with_reducible exact szAD _ _) | (with_reducible exact szA _ _) | (with_reducible exact szD _) | (with_reducible exact rfl) | assumption | (with_reducible apply NL.drew) | (with_reducible apply NL.new0) | (with_reducible apply NL.new) | (with_reducible apply NL.put0) | (with_reducible apply NL.put1))); done))) | exact NL.join (L := [_, _]) hL0 (NL.swap (by (first | ((repeat (first | (with_reducible exact szAD _ _) | (with_reducible exact szA _ _) | (with_reducible exact szD _) | (with_reducible exact rfl) | assumption | (with_reducible apply NL.drew) | (with_reducible apply NL.new0) | (with_reducible apply NL.new) | (with_reducible apply NL.put0) | (with_reducible apply NL.put1))); done) | ((with_reducible apply NL.put1); (repeat (first | (with_reducible exact szAD _ _) | (with_reducible exact szA _ _) | (with_reducible exact szD _) | (with_reducible exact rfl) | assumption | (with_reducible apply NL.drew) | (with_reducible apply NL.new0) | (with_reducible apply NL.new) | (with_reducible apply NL.put0) | (with_reducible apply NL.put1))); done))))⟩)
    case rest =>
     clear hL0 M10 A10 D10
     obtain ⟨k16, k17, rfl, rfl, rfl, hL0⟩ := hcut
     have HW := Lib.hid (works_any _ (htab.below hL0.bl))
     obtain ⟨p8, r8⟩ := hL0.get (k16) a (by (repeat (first | with_reducible exact List.mem_cons_self | with_reducible refine List.mem_cons_of_mem _ ?_)))
     obtain ⟨p9, r9⟩ := hL0.get (x3.heap.size) a (by (repeat (first | with_reducible exact List.mem_cons_self | with_reducible refine List.mem_cons_of_mem _ ?_)))
     obtain ⟨p10, r10⟩ := hL0.get (k17) r2 (by (repeat (first | with_reducible exact List.mem_cons_self | with_reducible refine List.mem_cons_of_mem _ ?_)))
     obtain ⟨p11, r11⟩ := hL0.get (x7.heap.size + 1) r2 (by (repeat (first | with_reducible exact List.mem_cons_self | with_reducible refine List.mem_cons_of_mem _ ?_)))
     go_wp2_with fail
     with_reducible refine Calls.mono HW.out ?_
     rintro e x9 ⟨rfl, hb⟩
     replace hL0 := hL0.call hb
     clear hb HW
     go_wp2_with fail
     exact bodyPost_ret (v := .bool true) (by simp [results, Tryz.results14, go_sem]) rfl ⟨rfl, hL0.bl⟩
end Go.Proofs.YtdmoadfnogdfnaaGreatDoor
namespace Go.Proofs.YtdmoadfnogdfnaaGreatDoor
open Go.RowKit
attribute [local irreducible] lo hs sm s64 c64 d64 b64 mh ml pd pc qd qc val hiB str cmpI srD lz nb isq decB
theorem txt_size (a : Nat) : (txt a).size = (Lib.decDigits a).length := rfl
theorem txt_list (a : Nat) : (txt a).toList = Lib.decDigits a := by unfold txt; rw [ByteArray.toList_eq]
theorem txt_st (a : Nat) : txt a = st (Lib.decDigits a) := rfl
theorem natV_ne {a b : Nat} (h : a ≠ b) : ((((lo a : Nat) : Int) == ((lo b : Nat) : Int)) = false) ∨ ((((lo a : Nat) : Int) == ((lo b : Nat) : Int)) = true ∧ ((hs a).toList == (hs b).toList) = false) := by
 by_cases hl : lo a = lo b
 ·right
  refine ⟨by rw [hl]; simp, ?_⟩
  rw [hs_eq, decide_eq_false]
  intro hq
  apply h
  unfold lo at hl
  rw [← Nat.div_add_mod a Bs, ← Nat.div_add_mod b Bs, hl, hq]
 ·left
  exact beq_eq_false_iff_ne.2 (by omega)
theorem txt_irr (a : Nat) : Op.bytesLess (txt a).toList (txt a).toList = false := by
 rw [less_eq, txt_list, dec_less rfl]; simp
/-- What the law's test looks at. -/
theorem txt_cases (a b : Nat) :
    (a = b) ∨
    (a ≠ b ∧ ((txt a).toList == (txt b).toList) = false ∧
      (((decide (((txt b).size : Int) < ((txt a).size : Int)) = false ∧ decide ((txt b).size < (txt a).size) = false) ∧ (((txt a).size : Int) == ((txt b).size : Int)) = false ∧ ((txt a).size == (txt b).size) = false) ∨
       ((decide (((txt b).size : Int) < ((txt a).size : Int)) = true ∧ decide ((txt b).size < (txt a).size) = true) ∧ ((((txt a).size : Int) == ((txt b).size : Int)) = false ∧ ((txt a).size == (txt b).size) = false) ∧ cmpI a b = 1) ∨
       ((decide (((txt b).size : Int) < ((txt a).size : Int)) = false ∧ decide ((txt b).size < (txt a).size) = false) ∧ ((((txt a).size : Int) == ((txt b).size : Int)) = true ∧ ((txt a).size == (txt b).size) = true) ∧
          ((Op.bytesLess (txt a).toList (txt b).toList = true ∧ cmpI a b = -1) ∨ (Op.bytesLess (txt a).toList (txt b).toList = false ∧ cmpI a b = 1))))) := by
  by_cases h : a = b
  · exact .inl h
  · right
    have hne : ((txt a).toList == (txt b).toList) = false := by
      rw [txt_list, txt_list, beq_eq_false_iff_ne]
      exact fun e => h (dec_inj e)
    refine ⟨h, hne, ?_⟩
    simp only [txt_size, less_eq, txt_list]
    rcases Nat.lt_trichotomy (Lib.decDigits a).length (Lib.decDigits b).length with hl | hl | hl
    · exact .inl ⟨⟨decide_eq_false (by omega), decide_eq_false (by omega)⟩, beq_eq_false_iff_ne.2 (by omega), beq_eq_false_iff_ne.2 (by omega)⟩
    · refine .inr (.inr ⟨⟨decide_eq_false (by omega), decide_eq_false (by omega)⟩, ⟨beq_iff_eq.2 (by omega), beq_iff_eq.2 (by omega)⟩, ?_⟩)
      rw [dec_less hl]
      rcases Nat.lt_trichotomy a b with h1 | h1 | h1
      · exact .inl ⟨decide_eq_true h1, cmpI_lt h1⟩
      · exact absurd h1 h
      · exact .inr ⟨decide_eq_false (by omega), cmpI_gt h1⟩
    · refine .inr (.inl ⟨⟨decide_eq_true (by omega), decide_eq_true (by omega)⟩, ⟨beq_eq_false_iff_ne.2 (by omega), beq_eq_false_iff_ne.2 (by omega)⟩, cmpI_gt ?_⟩)
      rcases Nat.lt_or_ge b a with h1 | h1
      · exact h1
      · have := dec_len_mono h1; omega
theorem sqrt_all (a : Nat) (hla : (digs a).length ≤ 1000000000) (w : World) : Calls Tryz.prog 113 #[natV a] w fun e w' => e = .returned (natV (isq a)) ∧ Below w.heap.size w w' := by
 rcases Nat.eq_zero_or_pos a with rfl | h
 ·exact sqrt_zero w
 ·exact sqrt_pos a h hla w
set_option maxHeartbeats 4000000 in
set_option maxRecDepth 100000 in
theorem texts_big (ax ay : Option Addr) (cx cy nx ny : Nat) (h : 20 < nx ∨ 20 < ny) (w : World) (htab : Tab w) :
  Calls Tryz.prog 15 #[.slice ax nx cx, .slice ay ny cy] w fun e w' => e = .returned (.bool true) ∧ Below w.heap.size w w' := by
 have HW := Lib.hid (works_any w htab)
 have key : (decide ((20 : Int) < (nx : Int)) = true) ∨ (decide ((20 : Int) < (nx : Int)) = false ∧ decide ((20 : Int) < (ny : Int)) = true) := by
  by_cases h0 : 20 < nx
  ·exact .inl (decide_eq_true (by omega))
  ·exact .inr (⟨decide_eq_false (by omega), decide_eq_true (by omega)⟩)
 clear h
 rcases key with k0 | ⟨k0, k1⟩
 all_goals (
  go_enter Tryz.func15, Tryz.ntmps15
  go_wp2_with fail
  with_reducible refine Calls.mono HW.out ?_
  rintro e w1 ⟨rfl, hb⟩
  go_wp2_with fail
  exact bodyPost_ret (v := .bool true) (by simp [results, Tryz.results15, go_sem]) rfl ⟨rfl, hb⟩)
set_option maxHeartbeats 16000000 in
set_option maxRecDepth 100000 in
theorem texts_small (vx vy : Value) (lx ly : List Nat) (w : World) (htab : Tab w) (hx : Ws w vx lx) (hy : Ws w vy ly) (nx : lx.length ≤ 20) (ny : ly.length ≤ 20) :
  Calls Tryz.prog 15 #[vx, vy] w fun e w' => e = .returned (.bool true) ∧ Below w.heap.size w w' := by
 have MX := fun w h => made_any vx lx (by omega) w h
 have MY := fun w h => made_any vy ly (by omega) w h
 obtain ⟨ax, cx, ex⟩ := hx.form
 obtain ⟨ay, cy, ey⟩ := hy.form
 have dx := Nat.le_trans (made_digs hx.lt) nx
 have dy := Nat.le_trans (made_digs hy.lt) ny
 subst ex ey
 have kx : decide ((20 : Int) < (lx.length : Int)) = false := decide_eq_false (by omega)
 have ky : decide ((20 : Int) < (ly.length : Int)) = false := decide_eq_false (by omega)
 generalize made lx = a at *
 generalize made ly = b at *
 replace hx := Lib.hid hx
 replace MX := Lib.hid MX
 replace hy := Lib.hid hy
 replace MY := Lib.hid MY
 generalize lx.length = Nx at *
 generalize ly.length = Ny at *
 have Ta := fun w ht => text_any a (by omega) w ht
 have Tb := fun w ht => text_any b (by omega) w ht
 have Pa := fun w => parse_ok (Lib.decDigits a) (Nat.le_trans (dec_len_bound dx (by omega)) (by omega)) (dec_isDec a) w
 rw [dval_dec] at Pa
 rw [← txt_st] at Pa
 have key := txt_cases a b
 obtain ⟨r, hr⟩ : ∃ r, r = isq a := ⟨_, rfl⟩
 obtain ⟨hr1, hr2⟩ := isq_spec a
 have Qa := fun w => sqrt_all a (by omega) w
 rw [← hr] at hr1 hr2 Qa
 clear hr
 have hra : r ≤ a := Nat.le_trans (Nat.le_mul_self r) hr1
 have dr : (digs r).length ≤ 20 := Nat.le_trans (digs_mono hra) dx
 have O1 := fun w => of_val 1 1 rfl (by unfold Bs; omega) w
 have Ar := fun w => add_any r 1 (by omega) (Nat.le_trans (sm_digs (k := 1) (by unfold Bs; decide)) (by omega)) w
 have dr1 : (digs (r + 1)).length ≤ 21 := digs_add_le dr (Nat.le_trans (sm_digs (k := 1) (by unfold Bs; decide)) (by omega))
 have Mr := fun w => mul_any r r (by omega) (by omega) w
 have Mr1 := fun w => mul_any (r + 1) (r + 1) (by omega) (by omega) w
 have Cr := fun w => cmp_any (r * r) a w
 have Cr1 := fun w => cmp_any ((r + 1) * (r + 1)) a w
 have c1 : decide (0 < cmpI (r * r) a) = false := decide_eq_false (by unfold cmpI; split <;> (try split) <;> omega)
 have c2 : decide (cmpI ((r + 1) * (r + 1)) a ≤ 0) = false := decide_eq_false (by rw [cmpI_gt hr2]; omega)
 have Ba := fun w => bits_any a (by omega) w
 have hn := nb_len dx
 have hn1 := nb_lt a
 have hn2 : 0 < a → 0 < nb a ∧ 2 ^ (nb a - 1) ≤ a := fun h => by obtain ⟨k, h1, h2, -⟩ := nb_spec (n := a) (by omega); rw [h1, Nat.add_sub_cancel]; exact ⟨by omega, h2⟩
 obtain ⟨n, hnn⟩ : ∃ n, n = nb a := ⟨_, rfl⟩
 rw [← hnn] at hn hn1 hn2 Ba
 have O2 := fun w => of_val 2 2 rfl (by unfold Bs; omega) w
 have h262 : ∀ k, k ≤ 4096 → k = 0 ∨ nb 2 ≤ 262144 / k := fun k hk => by
  rcases Nat.eq_zero_or_pos k with h | h
  ·exact .inl h
  ·exact .inr (Nat.le_trans (nb_le64 (by unfold Bs; omega)) ((Nat.le_div_iff_mul_le h).2 (by omega)))
 have P2 := fun w => pow_ok 2 n (by omega) (h262 n (by omega)) (Nat.le_trans (sm_digs (k := 1) (by unfold Bs; decide)) (by omega)) w
 have C2 := fun w => cmp_any a (2 ^ n) w
 have c3 : decide (0 ≤ cmpI a (2 ^ n)) = false := decide_eq_false (by rw [cmpI_lt hn1]; omega)
 have fin : (n = 0 ∧ a = 0) ∨ (∃ m, n = m + 1 ∧ 2 ^ m ≤ a) := by
  rcases Nat.eq_zero_or_pos a with h | h
  ·exact .inl ⟨by rw [hnn, h, nb_zero], h⟩
  ·obtain ⟨h1, h2⟩ := hn2 h
   exact .inr ⟨n - 1, by omega, h2⟩
 have P3 := fun m w => fun (h : m < n) => pow_ok 2 m (by omega) (h262 m (by omega)) (Nat.le_trans (sm_digs (k := 1) (by unfold Bs; decide)) (by omega)) w
 have hnl : n ≤ 4096 := by omega
 clear hn hn1 hn2 hnn h262 hr1 hr2 hra dr dr1
 generalize r * r = rr at *
 generalize (r + 1) * (r + 1) = ss at *
 generalize r + 1 = r1 at *
 generalize hpn : 2 ^ n = pn at *
 clear hpn
 generalize hsa : txt a = sa at *
 generalize hsb : txt b = sb at *
 replace hsa := Lib.hid hsa
 replace hsb := Lib.hid hsb
 replace Ta := Lib.hid Ta
 replace Tb := Lib.hid Tb
 replace Pa := Lib.hid Pa
 replace Qa := Lib.hid Qa
 replace O1 := Lib.hid O1
 replace Ar := Lib.hid Ar
 replace Mr := Lib.hid Mr
 replace Mr1 := Lib.hid Mr1
 replace Cr := Lib.hid Cr
 replace Cr1 := Lib.hid Cr1
 replace Ba := Lib.hid Ba
 replace O2 := Lib.hid O2
 replace P2 := Lib.hid P2
 replace C2 := Lib.hid C2
 replace c1 := Lib.hid c1
 replace c2 := Lib.hid c2
 replace c3 := Lib.hid c3
 replace fin := Lib.hid fin
 replace P3 := Lib.hid P3
 replace key := Lib.hid key
 replace hnl := Lib.hid hnl
 have hL0 : NL w w [] := NL.start w
 go_enter Tryz.func15, Tryz.ntmps15
 go_wp2_with fail
 with_reducible refine Calls.mono (MX.out _ hx.out) ?_
 rintro e x1 ⟨rfl, hb⟩
 replace hL0 := hL0.call hb
 clear hb MX
 go_wp2_with fail
 with_reducible refine Calls.mono (MY.out _ (hy.out.below hL0.bl)) ?_
 rintro e x2 ⟨rfl, hb⟩
 replace hL0 := hL0.call hb
 clear hb MY
 replace hL0 := ((hL0.new rfl a 32).new (szA _ _) b 32)
 generalize hweq : ((x2.alloc (.cells #[.int .u64 ((lo a : Nat) : Int), .string (hs a)] 32)).alloc (.cells #[.int .u64 ((lo b : Nat) : Int), .string (hs b)] 32)) = x3 at hL0
 go_upto_region 4 with fail
 clear hweq
 refine region_gh (by kernel_rfl) (by kernel_rfl) ?_
 refine lex_seg (gl := []) 6 (by kernel_rfl) ?_
 intro α iα F hF1 hF2
 obtain ⟨q1, s1⟩ := seg_get hF1 hL0 (x2.heap.size) a (by (repeat (first | with_reducible exact List.mem_cons_self | with_reducible refine List.mem_cons_of_mem _ ?_)))
 obtain ⟨q2, s2⟩ := seg_get hF1 hL0 (x2.heap.size + 1) b (by (repeat (first | with_reducible exact List.mem_cons_self | with_reducible refine List.mem_cons_of_mem _ ?_)))
 simp only [List.take_succ_cons, List.take_zero, List.drop_succ_cons, List.drop_zero, List.take_nil, List.drop_nil]
 repeat (go_big_quiet_step (first | fail | (go_at_call 39; with_reducible exact seg_callT hF1 hF2 htab hL0 Ta.out _) | (go_at_call 39; with_reducible exact seg_callT hF1 hF2 htab hL0 Tb.out _)))
 refine wpQuiet_nil ?_
 clear q1 s1 q2 s2 hF1 hF2 iα F α
 refine lexG_nil ?_
 intro κ x4 hS
 replace hL0 := hL0.ghs hS [] (by simp) (by intro p hp; cases hp)
 simp only [List.map_cons, List.map_nil, List.cons_append, List.nil_append] at hL0
 simp only [over_toG, over_nil, Act.put, List.setIfInBounds_toArray, List.set_cons_succ, List.set_cons_zero]
 clear hS
 go_wp2_with fail
 with_reducible refine Calls.mono (Pa.out _) ?_
 rintro e x5 ⟨rfl, hb⟩
 replace hL0 := hL0.call hb
 clear hb Pa
 replace hL0 := (hL0.new rfl a 32)
 generalize hweq : (x5.alloc (.cells #[.int .u64 ((lo a : Nat) : Int), .string (hs a)] 32)) = x6 at hL0
 obtain ⟨p3, r3⟩ := hL0.get (x2.heap.size) a (by (repeat (first | with_reducible exact List.mem_cons_self | with_reducible refine List.mem_cons_of_mem _ ?_)))
 obtain ⟨p4, r4⟩ := hL0.get (x2.heap.size + 1) b (by (repeat (first | with_reducible exact List.mem_cons_self | with_reducible refine List.mem_cons_of_mem _ ?_)))
 obtain ⟨p5, r5⟩ := hL0.get (x5.heap.size) a (by (repeat (first | with_reducible exact List.mem_cons_self | with_reducible refine List.mem_cons_of_mem _ ?_)))
 go_upto_region 6 with fail
 clear hweq
 go_cut [85] from 40 to 85 (fun t85 wx => t85 = .bool false ∧ NL w wx [(x5.heap.size, a), (x2.heap.size + 1, b), (x2.heap.size, a)])
 case first =>
  rcases key.out with hab | ⟨hab, ks, kk⟩
  ·subst hab
   obtain rfl : sa = sb := by rw [← hsa.out, ← hsb.out]
   have ki := txt_irr a
   rw [hsa.out] at ki
   have Cx := fun w => cmp_any a a w
   rw [cmpI_eq] at Cx
   replace Cx := Lib.hid Cx
   go_wp2_with fail
   with_reducible refine Calls.mono (Cx.out _) ?_
   rintro e x7 ⟨rfl, hb⟩
   replace hL0 := hL0.call hb
   clear hb Cx
   go_wp2_with fail
   go_meet
   exact ⟨rfl, hL0⟩
  ·rcases natV_ne hab with h1 | ⟨h1, h2⟩
   all_goals (
    rcases kk with ⟨⟨k1, k5⟩, k2, k6⟩ | ⟨⟨k1, k5⟩, ⟨k2, k6⟩, k3⟩ | ⟨⟨k1, k5⟩, ⟨k2, k6⟩, ⟨k4, k3⟩ | ⟨k4, k3⟩⟩
    ·skip
     go_wp2_with fail
     go_meet
     exact ⟨rfl, hL0⟩
    ·have Cx := fun w => cmp_any a b w
     rw [k3] at Cx
     replace Cx := Lib.hid Cx
     clear k3
     go_wp2_with fail
     with_reducible refine Calls.mono (Cx.out _) ?_
     rintro e x8 ⟨rfl, hb⟩
     replace hL0 := hL0.call hb
     clear hb Cx
     go_wp2_with fail
     go_meet
     exact ⟨rfl, hL0⟩
    ·have Cx := fun w => cmp_any a b w
     rw [k3] at Cx
     replace Cx := Lib.hid Cx
     clear k3
     go_wp2_with fail
     with_reducible refine Calls.mono (Cx.out _) ?_
     rintro e x9 ⟨rfl, hb⟩
     replace hL0 := hL0.call hb
     clear hb Cx
     go_wp2_with fail
     go_meet
     exact ⟨rfl, hL0⟩
    ·have Cx := fun w => cmp_any a b w
     rw [k3] at Cx
     replace Cx := Lib.hid Cx
     clear k3
     go_wp2_with fail
     with_reducible refine Calls.mono (Cx.out _) ?_
     rintro e x10 ⟨rfl, hb⟩
     replace hL0 := hL0.call hb
     clear hb Cx
     go_wp2_with fail
     go_meet
     exact ⟨rfl, hL0⟩)
 case rest =>
  clear hL0
  obtain ⟨rfl, hL0⟩ := hcut
  obtain ⟨p6, r6⟩ := hL0.get (x2.heap.size) a (by (repeat (first | with_reducible exact List.mem_cons_self | with_reducible refine List.mem_cons_of_mem _ ?_)))
  go_wp2_with fail
  with_reducible refine Calls.mono (Qa.out _) ?_
  rintro e x11 ⟨rfl, hb⟩
  replace hL0 := hL0.call hb
  clear hb Qa
  replace hL0 := (hL0.new rfl r 32)
  generalize hweq : (x11.alloc (.cells #[.int .u64 ((lo r : Nat) : Int), .string (hs r)] 32)) = x12 at hL0
  go_upto_region 9 with fail
  clear hweq
  refine region_gh (by kernel_rfl) (by kernel_rfl) ?_
  refine lex_seg (gl := []) 3 (by kernel_rfl) ?_
  intro α iα F hF1 hF2
  obtain ⟨q7, s7⟩ := seg_get hF1 hL0 (x11.heap.size) r (by (repeat (first | with_reducible exact List.mem_cons_self | with_reducible refine List.mem_cons_of_mem _ ?_)))
  simp only [List.take_succ_cons, List.take_zero, List.drop_succ_cons, List.drop_zero, List.take_nil, List.drop_nil]
  repeat (go_big_quiet_step (first | fail | (go_at_call 81; with_reducible exact seg_call hF2 O1.out _) | (go_at_call 102; with_reducible exact seg_call hF2 Ar.out _)))
  refine wpQuiet_nil ?_
  clear q7 s7 hF1 hF2 iα F α
  refine lex_new (nc 0) 12 32 32 rfl rfl (of_decide_eq_true (by kernel_rfl)) (by kernel_rfl) rfl new_nat ?_
  simp only [Act.put, List.setIfInBounds_toArray, List.set_cons_succ, List.set_cons_zero]
  refine lex_put (nc r1) (nc 0) 12 32 (.tmp 90) rfl (by kernel_rfl) (by simp [toG, upd]) rfl (fun w k h => put_nat 0 r1 w k h) ?_
  simp only [Act.put]
  refine lexG_nil ?_
  intro κ x13 hS
  replace hL0 := hL0.ghs hS [(12, r1)] (by simp) (by intro p hp; simp only [List.mem_cons, List.not_mem_nil, or_false] at hp; rcases hp with rfl <;> exact ⟨_, by simp only [toG, upd]; rfl⟩)
  simp only [List.map_cons, List.map_nil, List.cons_append, List.nil_append] at hL0
  simp only [over_toG, over_nil, Act.put, List.setIfInBounds_toArray, List.set_cons_succ, List.set_cons_zero]
  clear hS
  generalize κ 12 = k13_12 at *
  obtain ⟨p8, r8⟩ := hL0.get (x2.heap.size) a (by (repeat (first | with_reducible exact List.mem_cons_self | with_reducible refine List.mem_cons_of_mem _ ?_)))
  go_wp2_with fail
  with_reducible refine Calls.mono (Ba.out _) ?_
  rintro e x14 ⟨rfl, hb⟩
  replace hL0 := hL0.call hb
  clear hb Ba
  go_wp2_with fail
  with_reducible refine Calls.mono (O2.out _) ?_
  rintro e x15 ⟨rfl, hb⟩
  replace hL0 := hL0.call hb
  clear hb
  go_wp2_with fail
  with_reducible refine Calls.mono (P2.out _) ?_
  rintro e x16 ⟨rfl, hb⟩
  replace hL0 := hL0.call hb
  clear hb P2
  replace hL0 := (hL0.new rfl pn 32)
  generalize hweq : (x16.alloc (.cells #[.int .u64 ((lo pn : Nat) : Int), .string (hs pn)] 32)) = x17 at hL0
  go_upto_region 12 with fail
  clear hweq
  have c1' := c1.out
  have c2' := c2.out
  have c3' := c3.out
  obtain ⟨α, iα, F, hF1, hF2⟩ := cls x17
  obtain ⟨q9, s9⟩ := cls_get hF1 hL0 (x2.heap.size) a (by (repeat (first | with_reducible exact List.mem_cons_self | with_reducible refine List.mem_cons_of_mem _ ?_)))
  obtain ⟨q10, s10⟩ := cls_get hF1 hL0 (x11.heap.size) r (by (repeat (first | with_reducible exact List.mem_cons_self | with_reducible refine List.mem_cons_of_mem _ ?_)))
  obtain ⟨q11, s11⟩ := cls_get hF1 hL0 (k13_12) r1 (by (repeat (first | with_reducible exact List.mem_cons_self | with_reducible refine List.mem_cons_of_mem _ ?_)))
  obtain ⟨q12, s12⟩ := cls_get hF1 hL0 (x16.heap.size) pn (by (repeat (first | with_reducible exact List.mem_cons_self | with_reducible refine List.mem_cons_of_mem _ ?_)))
  refine region_cls (F := F) (by kernel_rfl) (by kernel_rfl) (cls_drew hF2) ?_
  repeat (go_big_quiet_step (first
   | (go_at_call 107; with_reducible exact cls_call hF1 hF2 Mr.out _)
   | (go_at_call 107; with_reducible exact cls_call hF1 hF2 Mr1.out _)
   | (go_at_call 104; with_reducible exact cls_call hF1 hF2 Cr.out _)
   | (go_at_call 104; with_reducible exact cls_call hF1 hF2 Cr1.out _)
   | (go_at_call 104; with_reducible exact cls_call hF1 hF2 C2.out _)))
  refine wpQuiet_nil ?_
  intro wq hwq
  obtain ⟨xq, rfl⟩ := hwq
  have hLq := hL0.call (hF1 xq)
  generalize F xq = x18 at hLq ⊢
  replace hL0 := hLq
  clear hLq hF1 hF2 q9 s9 q10 s10 q11 s11 q12 s12
  have HW := Lib.hid (fun w h => works_any w h)
  have P3' := P3.out
  clear P3 c1 c2 c3 c1' c2' c3' key hsa hsb Mr Mr1 Cr Cr1 C2 Ta Tb
  rcases fin.out with ⟨rfl, rfl⟩ | ⟨m, rfl, hle⟩
  ·have P4 := Lib.hid (fun w => pow_neg 2 (-1) (by omega) w)
   have z1 : (((lo 0 : Nat) : Int) == 0) = true := by rw [lo_zero]; rfl
   have z2 : ((hs 0).toList == []) = true := by rw [hs_zero, ByteArray.toList_eq]; rfl
   clear P3' fin
   obtain ⟨p13, r13⟩ := hL0.get (x2.heap.size) 0 (by (repeat (first | with_reducible exact List.mem_cons_self | with_reducible refine List.mem_cons_of_mem _ ?_)))
   go_wp2_with fail
   with_reducible refine Calls.mono (O2.out _) ?_
   rintro e x19 ⟨rfl, hb⟩
   replace hL0 := hL0.call hb
   clear hb O2
   go_wp2_with fail
   with_reducible refine Calls.mono (P4.out _) ?_
   rintro e x20 ⟨rfl, hb⟩
   replace hL0 := hL0.call hb
   clear hb P4
   replace hL0 := hL0.new rfl 0 32
   generalize hweq : x20.alloc (.cells #[.int .u64 ((lo 0 : Nat) : Int), .string (hs 0)] 32) = x21 at hL0
   obtain ⟨p14, r14⟩ := hL0.get (x20.heap.size) 0 (by (repeat (first | with_reducible exact List.mem_cons_self | with_reducible refine List.mem_cons_of_mem _ ?_)))
   obtain ⟨p15, r15⟩ := hL0.get (x2.heap.size) 0 (by (repeat (first | with_reducible exact List.mem_cons_self | with_reducible refine List.mem_cons_of_mem _ ?_)))
   go_wp2_with fail
   with_reducible refine Calls.mono (HW.out _ (htab.below hL0.bl)) ?_
   rintro e x22 ⟨rfl, hb⟩
   replace hL0 := hL0.call hb
   clear hb HW hweq
   go_wp2_with fail
   exact bodyPost_ret (v := .bool true) (by simp [results, Tryz.results15, go_sem]) rfl ⟨rfl, hL0.bl⟩
  ·have P4 := fun w => P3' m w (by omega)
   have C3 := fun w => cmp_any (2 ^ m) a w
   have c5 : decide (cmpI (2 ^ m) a ≤ 0) = true := decide_eq_true (by unfold cmpI; split <;> (try split) <;> omega)
   have c6 : (((m : Int) + 1) == 0) = false := beq_eq_false_iff_ne.2 (by omega)
   have hmB : (m : Int) + 1 ≤ 4096 := by have := hnl.out; omega
   generalize 2 ^ m = qm at *
   replace P4 := Lib.hid P4
   replace C3 := Lib.hid C3
   clear P3' fin hle
   obtain ⟨p16, r16⟩ := hL0.get (x2.heap.size) a (by (repeat (first | with_reducible exact List.mem_cons_self | with_reducible refine List.mem_cons_of_mem _ ?_)))
   go_wp2_with fail
   with_reducible refine Calls.mono (O2.out _) ?_
   rintro e x23 ⟨rfl, hb⟩
   replace hL0 := hL0.call hb
   clear hb O2
   go_wp2_with fail
   with_reducible refine Calls.mono (P4.out _) ?_
   rintro e x24 ⟨rfl, hb⟩
   replace hL0 := hL0.call hb
   clear hb P4
   replace hL0 := (hL0.new rfl qm 32)
   generalize hweq : (x24.alloc (.cells #[.int .u64 ((lo qm : Nat) : Int), .string (hs qm)] 32)) = x25 at hL0
   obtain ⟨p17, r17⟩ := hL0.get (x24.heap.size) qm (by (repeat (first | with_reducible exact List.mem_cons_self | with_reducible refine List.mem_cons_of_mem _ ?_)))
   obtain ⟨p18, r18⟩ := hL0.get (x2.heap.size) a (by (repeat (first | with_reducible exact List.mem_cons_self | with_reducible refine List.mem_cons_of_mem _ ?_)))
   go_wp2_with fail
   with_reducible refine Calls.mono (C3.out _) ?_
   rintro e x26 ⟨rfl, hb⟩
   replace hL0 := hL0.call hb
   clear hb C3 hweq
   go_wp2_with fail
   with_reducible refine Calls.mono (HW.out _ (htab.below hL0.bl)) ?_
   rintro e x27 ⟨rfl, hb⟩
   replace hL0 := hL0.call hb
   clear hb HW
   go_wp2_with fail
   exact bodyPost_ret (v := .bool true) (by simp [results, Tryz.results15, go_sem]) rfl ⟨rfl, hL0.bl⟩
theorem texts_any (vx vy : Value) (lx ly : List Nat) (w : World) (htab : Tab w) (hx : Ws w vx lx) (hy : Ws w vy ly) :
  Calls Tryz.prog 15 #[vx, vy] w fun e w' => e = .returned (.bool true) ∧ Below w.heap.size w w' := by
 by_cases h : 20 < lx.length ∨ 20 < ly.length
 ·obtain ⟨ax, cx, rfl⟩ := hx.form
  obtain ⟨ay, cy, rfl⟩ := hy.form
  exact texts_big ax ay cx cy _ _ h w htab
 ·exact texts_small vx vy lx ly w htab hx hy (by omega) (by omega)
end Go.Proofs.YtdmoadfnogdfnaaGreatDoor
namespace Go.Proofs.YtdmoadfnogdfnaaGreatDoor
open Go.RowKit
def wv (d : Nat) : Value := .int .u32 (d : Int)
def obW (l : List Nat) : Obj := .cells (l.map wv).toArray 22
def layAll (w : World) : List (List Nat) → World
 | [] => w
 | l :: r => layAll (w.alloc (obW l)) r
def laidV (B : Nat) : List (List Nat) → List Value
 | [] => []
 | l :: r => .slice (some ⟨B, 0, none⟩) l.length l.length :: laidV (B + 1) r
theorem lay_below (ls : List (List Nat)) (w : World) : Below w.heap.size w (layAll w ls) := by
 induction ls generalizing w with
 | nil => exact Below.refl _ _
 | cons l r ih =>
  have h := ih (w.alloc (obW l))
  have h0 := (Below.refl w.heap.size w).alloc (Nat.le_refl _) (obW l)
  exact h0.trans (h.mono h0.size)
theorem obW_ws (w : World) (l : List Nat) (hl : ∀ x ∈ l, x < 4294967296) : Ws (w.alloc (obW l)) (.slice (some ⟨w.heap.size, 0, none⟩) l.length l.length) l := by
 refine .inr ⟨_, _, rfl, hl, fun i hi => ?_, by rw [World.size_alloc]; exact Nat.lt_succ_self _⟩
 have e : (⟨w.heap.size, 0, none⟩ : Addr).add i = ⟨w.heap.size, i, none⟩ := by
  unfold Addr.add; by_cases h : i = 0
  ·subst h; simp
  ·simp [h]
 rw [e, cell_of_row _ w.heap.size i _ _ _ (heap_alloc_new w (obW l))]
 simp [wv, hi]
theorem lay_ws (ls : List (List Nat)) (w : World) (h : ∀ l ∈ ls, ∀ x ∈ l, x < 4294967296) : ∀ (j : Nat) (l : List Nat) (v : Value), ls[j]? = some l → (laidV w.heap.size ls)[j]? = some v → Ws (layAll w ls) v l := by
 induction ls generalizing w with
 | nil => intro j l v hj; simp at hj
 | cons l0 r ih =>
  intro j l v hj hv
  cases j with
  | zero =>
   simp [laidV] at hj hv
   subst hj hv
   have h0 := obW_ws w l0 (h l0 List.mem_cons_self)
   exact h0.below (lay_below r (w.alloc (obW l0)))
  | succ j =>
   refine ih (w.alloc (obW l0)) (fun l hl => h l (List.mem_cons_of_mem _ hl)) j l v (by simpa using hj) ?_
   rw [World.size_alloc]
   simpa [laidV] using hv
def endsT : List (List Nat) := [[0], [1], [2], [4294967295], [0, 1], [1, 1], [4294967295, 4294967295], [0, 0, 1], [1, 0, 1], [4294967295, 4294967295, 4294967295], [0, 0, 0, 2147483648], [0, 4294967295, 2147483648], [4294967295, 0, 2147483648], [3, 0, 2147483648, 0, 5], [0, 0, 2147483648, 2147483647]]
def endsV (B : Nat) : List Value := .slice none 0 0 :: laidV B endsT
def endsO (B : Nat) : Obj := .cells (endsV B).toArray 23
def endsW (w : World) : World := (layAll w endsT).alloc (endsO w.heap.size)
theorem lay_size (ls : List (List Nat)) (w : World) : (layAll w ls).heap.size = w.heap.size + ls.length := by
 induction ls generalizing w with
 | nil => rfl
 | cons l r ih => rw [layAll, ih, World.size_alloc, List.length_cons]; omega
theorem ends_below (w : World) : Below w.heap.size w (endsW w) := (lay_below endsT w).alloc (lay_below endsT w).size _
/-- What the loops read. -/
structure Ends (w : World) (g : Nat) (vf : Nat → Value) (lf : Nat → List Nat) : Prop where
 cell : ∀ i, i < 16 → w.cell? ⟨g, i, none⟩ = some (vf i)
 ws : ∀ i, i < 16 → Ws w (vf i) (lf i)
 lt : g < w.heap.size
theorem Ends.below {w w' : World} {g : Nat} {vf : Nat → Value} {lf : Nat → List Nat} (h : Ends w g vf lf) (hb : Below w.heap.size w w') : Ends w' g vf lf :=
 ⟨fun i hi => (hb.cell (p := ⟨g, i, none⟩) h.lt).trans (h.cell i hi), fun i hi => (h.ws i hi).below hb, Nat.lt_of_lt_of_le h.lt hb.size⟩
theorem ends_ok (w : World) : ∃ vf lf, Ends (endsW w) (w.heap.size + 15) vf lf := by
 have hg : (layAll w endsT).heap.size = w.heap.size + 15 := by rw [lay_size]; rfl
 have hlen : (endsV w.heap.size).length = 16 := rfl
 refine ⟨fun i => (endsV w.heap.size).getD i (.slice none 0 0), fun i => ([] :: endsT).getD i [], fun i hi => ?_, fun i hi => ?_, ?_⟩
 ·have h := heap_alloc_new (layAll w endsT) (endsO w.heap.size)
  rw [hg] at h
  rw [show endsW w = (layAll w endsT).alloc (endsO w.heap.size) from rfl, cell_of_row _ (w.heap.size + 15) i _ _ _ h]
  simp [hlen, hi]
 ·cases i with
  | zero => exact .inl ⟨none, 0, rfl, rfl⟩
  | succ j =>
   have hj : j < endsT.length := by show j < 15; omega
   have hj2 : j < (laidV w.heap.size endsT).length := by show j < 15; omega
   have := lay_ws endsT w (by decide) j (endsT[j]) ((laidV w.heap.size endsT)[j]) (List.getElem?_eq_getElem hj) (List.getElem?_eq_getElem hj2)
   have h1 : (endsV w.heap.size).getD (j + 1) (.slice none 0 0) = (laidV w.heap.size endsT)[j] := by simp [endsV, hj2] <;> rfl
   have h2 : ([] :: endsT).getD (j + 1) [] = endsT[j] := by simp [hj] <;> rfl
   show Ws _ ((endsV w.heap.size).getD (j + 1) (.slice none 0 0)) (([] :: endsT).getD (j + 1) [])
   rw [h1, h2]
   exact this.below ((Below.refl _ _).alloc (Nat.le_refl _) _)
 ·show w.heap.size + 15 < ((layAll w endsT).alloc (endsO w.heap.size)).heap.size
  rw [World.size_alloc, hg]; exact Nat.lt_succ_self _
theorem cls_ret {α : Type} {F : α → World} {w0 : World} (h1 : ∀ x, Below w0.heap.size w0 (F x)) (h2 : ∀ W, Below w0.heap.size w0 W → ∃ x, W = F x) {P : Program} {f : FuncId} {args : Array Value} {v : Value} {x : α}
  (h : Calls P f args (F x) fun e w' => e = .returned v ∧ Below (F x).heap.size (F x) w') : Calls P f args (F x) fun e w'' => e = .returned v ∧ ∃ y, w'' = F y :=
 h.mono fun _ _ ⟨he, hb⟩ => ⟨he, h2 _ ((h1 x).trans (hb.mono (h1 x).size))⟩
theorem natV0_ne {d : Nat} (h : d ≠ 0) : (((lo d : Nat) : Int) == 0) = false ∨ ((((lo d : Nat) : Int) == 0) = true ∧ ((hs d).toList == []) = false) := by
 have e := natV_ne h
 rwa [show ((lo 0 : Nat) : Int) = 0 by rw [lo_small Bs_pos]; rfl, show (hs 0).toList = [] by rw [hs_small Bs_pos, ByteArray.toList_eq]] at e
/-- Strings, as they grow. -/
def nine : List UInt8 := [57, 56, 55, 54, 53, 52, 51, 50, 49, 48]
theorem nine_fin : ∀ k : Fin 11, (⟨#[57, 56, 55, 54, 53, 52, 51, 50, 49, 48]⟩ : ByteArray).extract k.val 10 = ⟨(nine.drop k.val).toArray⟩ := by decide +kernel
theorem nine_ext (m : Nat) (h : m ≤ 10) : (⟨#[57, 56, 55, 54, 53, 52, 51, 50, 49, 48]⟩ : ByteArray).extract m 10 = st (nine.drop m) := nine_fin ⟨m, by omega⟩
theorem st_join (l r : List UInt8) : st l ++ st r = st (l ++ r) := by
 apply ByteArray.ext
 rw [ByteArray.data_append]
 simp [st]
theorem nine_dig : ∀ c ∈ nine, isDig c := by
 intro c hc
 simp only [nine, List.mem_cons, List.not_mem_nil, or_false] at hc
 unfold isDig
 rcases hc with rfl | rfl | rfl | rfl | rfl | rfl | rfl | rfl | rfl | rfl <;> decide
theorem nine_next {l : List UInt8} {m : Nat} (hl : l.length < 4096) (hm : m = l.length % 7) (hd : ∀ c ∈ l, isDig c) (h57 : l = [] ∨ l.head? = some 57) :
  (l ++ nine.drop m).length ≤ 4105 ∧ (∀ c ∈ l ++ nine.drop m, isDig c) ∧ (l ++ nine.drop m).head? = some 57 ∧ l.length < (l ++ nine.drop m).length := by
 have hn : (nine.drop m).length = 10 - m := by rw [List.length_drop]; rfl
 refine ⟨by rw [List.length_append]; omega, fun c hc => ?_, ?_, by rw [List.length_append]; omega⟩
 ·rcases List.mem_append.1 hc with hc | hc
  ·exact hd c hc
  ·exact nine_dig c (List.mem_of_mem_drop hc)
 ·rcases h57 with rfl | h
  ·simp at hm; subst hm; rfl
  ·cases l with
   | nil => simp at h
   | cons c r => simpa using h
theorem st_take' (r : List UInt8) (k : Nat) : (st r).extract 0 k = st (r.take k) := by
 apply ByteArray.ext
 rw [ByteArray.data_extract]
 show r.toArray.extract 0 k = (r.take k).toArray
 simp
def isStr : Value → Bool
 | .string _ => true
 | _ => false
theorem strs_ok (w : World) (arr : Array Value) (T : TypeId) (h : arr.all isStr = true) (j : Nat) (hj : j < arr.size) : ∃ s, (w.alloc (.cells arr T)).cell? ⟨w.heap.size, j, none⟩ = some (.string s) := by
 rw [cell_of_row _ w.heap.size j _ _ _ (heap_alloc_new w _)]
 have h1 := (Array.all_eq_true.1 h) j hj
 have h2 : arr[j]? = some arr[j] := Array.getElem?_eq_getElem hj
 generalize arr[j] = v at *
 cases v <;> simp [isStr] at h1
 exact ⟨_, h2⟩
theorem long_dec {l : List UInt8} (hl : 4096 ≤ l.length) (hd : ∀ c ∈ l, isDig c) (h57 : l = [] ∨ l.head? = some 57) : isDec (l.take 4096) ∧ (l.take 4096).length ≤ 4096 ∧ dval (l.take 4096) ≠ 0 := by
 have h1 : ∀ c ∈ l.take 4096, isDig c := fun c hc => hd c (List.mem_of_mem_take hc)
 cases l with
 | nil => simp at hl
 | cons c r =>
  have hc : c = 57 := by
   rcases h57 with h | h
   ·cases h
   ·simpa using h
  subst hc
  have h0 : List.take 4096 (57 :: r) ≠ [] := by simp
  have h2 : (List.take 4096 (57 :: r)).head? ≠ some 48 := by simp
  exact ⟨⟨h1, .inr ⟨h0, h2⟩⟩, by rw [List.length_take]; omega, Nat.ne_of_gt (dval_pos h1 h0 h2)⟩
end Go.Proofs.YtdmoadfnogdfnaaGreatDoor
namespace Go.Proofs.YtdmoadfnogdfnaaGreatDoor
open Go.RowKit
attribute [local irreducible] lo hs val hiB str isq decB dval
set_option maxHeartbeats 2000000 in
theorem number_ok (l : List UInt8) (h : l.length ≤ 4096) (hd : isDec l) (w : World) :
  Calls Tryz.prog 20 #[.string (st l)] w fun e w' => e = .returned (natV (dval l)) ∧ Below w.heap.size w w' := by
 have hL0 : GL w w [] := GL.start w
 have C := Lib.hid (fun w => parse_ok l h hd w)
 clear h hd
 generalize dval l = d at *
 generalize st l = s at *
 replace hL0 := (hL0.new rfl [.int .u64 0, .string ⟨#[]⟩] 32)
 generalize hweq : (w.alloc (.cells #[.int .u64 0, .string ⟨#[]⟩] 32)) = x1 at hL0
 go_enter Tryz.func20, Tryz.ntmps20
 have hA := hL0.fc
 simp only [fcG, cellsF, neK, and_true, ne_eq, Nat.zero_add, Nat.reduceAdd] at hA
 go_wp2_with fail
 clear hA
 with_reducible refine Calls.mono (C.out _) ?_
 rintro e x2 ⟨rfl, hb⟩
 replace hL0 := hL0.call hb
 clear hb hweq
 replace hL0 := (hL0.new rfl [.int .u64 ((lo d : Nat) : Int), .string (hs d)] 32)
 generalize hweq : (x2.alloc (.cells #[.int .u64 ((lo d : Nat) : Int), .string (hs d)] 32)) = x3 at hL0
 have hA := hL0.fc
 simp only [fcG, cellsF, neK, and_true, ne_eq, Nat.zero_add, Nat.reduceAdd] at hA
 have hP := hL0.put 1 (w.heap.size) _ rfl [.int .u64 ((lo d : Nat) : Int), .string (hs d)] rfl
 simp only [setAll, List.set_cons_zero, List.set_cons_succ] at hP
 generalize hput1 : ((x3.setCell ⟨w.heap.size, 0, none⟩ (.int .u64 ((lo d : Nat) : Int))).setCell ⟨w.heap.size, 1, none⟩ (.string (hs d))) = x4 at hP
 have hB1 := hP.fc
 simp only [fcG, cellsF, neK, and_true, ne_eq, Nat.zero_add, Nat.reduceAdd] at hB1
 replace hL0 := hP
 go_wp2_with fail
 exact bodyPost_ret (v := natV d) (by simp [results, Tryz.results20, go_sem, hB1]) rfl ⟨rfl, hL0.bl⟩
/-- What a law says of its words. -/
abbrev Says2 (f : FuncId) : Prop := ∀ (vx vy : Value) (lx ly : List Nat) (w : World), Tab w → Ws w vx lx → Ws w vy ly → Calls Tryz.prog f #[vx, vy] w fun e w' => e = .returned (.bool true) ∧ Below w.heap.size w w'
abbrev Says3 (f : FuncId) : Prop := ∀ (vx vy vz : Value) (lx ly lz : List Nat) (w : World), Tab w → Ws w vx lx → Ws w vy ly → Ws w vz lz → Calls Tryz.prog f #[vx, vy, vz] w fun e w' => e = .returned (.bool true) ∧ Below w.heap.size w w'
set_option maxHeartbeats 8000000 in
set_option maxRecDepth 100000 in
theorem known_of (HS : Says2 12) (HP : Says2 13) (HD : Says3 14) (HT : Says2 15) (HR : Says3 16) (HV : Says3 17)
  (HO : ∀ (vx : Value) (lx : List Nat) (n : Int), n < 9223372036854775808 → ∀ w, Tab w → Ws w vx lx → Calls Tryz.prog 18 #[vx, .int .i64 n] w fun e w' => e = .returned (.bool true) ∧ Below w.heap.size w w')
  (HE : ∀ (s : ByteArray) w, Tab w → Calls Tryz.prog 19 #[.string s] w fun e w' => e = .returned (.bool true) ∧ Below w.heap.size w w')
  (HN : ∀ l : List UInt8, l.length ≤ 4096 → isDec l → ∀ w, Calls Tryz.prog 20 #[.string (st l)] w fun e w' => e = .returned (natV (dval l)) ∧ Below w.heap.size w w')
  (HW : ∀ w, Tab w → Calls Tryz.prog 21 #[] w fun e w' => e = .returned (.bool true) ∧ Below w.heap.size w w')
  (w : World) (htab : Tab w) :
  Calls Tryz.prog 3 #[] w fun e w' => e = .returned (.bool true) ∧ Below w.heap.size w w' := by
 replace HS := Lib.hid HS
 replace HP := Lib.hid HP
 replace HD := Lib.hid HD
 replace HT := Lib.hid HT
 replace HR := Lib.hid HR
 replace HV := Lib.hid HV
 replace HO := Lib.hid HO
 replace HE := Lib.hid HE
 replace HW := Lib.hid HW
 replace HN := Lib.hid HN
 obtain ⟨vf, lf, hE⟩ := ends_ok w
 obtain ⟨W1, hW1⟩ : ∃ W1, W1 = endsW w := ⟨_, rfl⟩
 have hb1 : Below w.heap.size w W1 := by rw [hW1]; exact ends_below w
 rw [← hW1] at hE
 replace hE := Lib.hid hE
 replace hW1 := Lib.hid hW1
 go_enter Tryz.func3, Tryz.ntmps3
 go_wp2_with fail
 obtain ⟨g, hg⟩ : ∃ g, g = w.heap.size + 1 + 1 + 1 + 1 + 1 + 1 + 1 + 1 + 1 + 1 + 1 + 1 + 1 + 1 + 1 := ⟨_, rfl⟩
 rw [← hg]
 rw [show w.heap.size + 15 = g from hg.symm] at hE
 go_loopw [2] (fun iv wr => ∃ i : Nat, iv = .int .i64 (i : Int) ∧ i ≤ 16 ∧ Below W1.heap.size W1 wr) (fun iv _ => 16 - (intOf iv).toNat)
 case atStart => exact ⟨0, rfl, by omega, by rw [hW1.out]; exact Below.refl _ (endsW w)⟩
 case round =>
  obtain ⟨i, rfl, hi, hb⟩ := hrel
  clear hW1 hg
  rcases Nat.lt_or_ge i 16 with h16 | h16
  ·have k1 : (i : Int) < 16 := by omega
   go_wp2_with fail
   go_loopw [3] (fun kv wr => ∃ k : Nat, kv = .int .i64 (k : Int) ∧ k ≤ 16 ∧ Below W1.heap.size W1 wr) (fun kv _ => 16 - (intOf kv).toNat)
   case atStart => exact ⟨0, rfl, by omega, hb⟩
   case round =>
    obtain ⟨k, rfl, hk, hb⟩ := hrel
    rcases Nat.lt_or_ge k 16 with k16 | k16
    ·have k2 : (k : Int) < 16 := by omega
     obtain ⟨α, iα, F, hF1, hF2⟩ := cls wr
     have hX := fun x => hb.trans ((hF1 x).mono hb.size)
     have hT := fun x => htab.below (hb1.trans ((hX x).mono hb1.size))
     have hQ := fun x => hE.out.below (hX x)
     obtain ⟨j1, e1⟩ : ∃ j, j = (i + k) % 16 := ⟨_, rfl⟩
     obtain ⟨j2, e2⟩ : ∃ j, j = (i * k) % 16 := ⟨_, rfl⟩
     obtain ⟨j3, e3⟩ : ∃ j, j = (i + 2 * k) % 16 := ⟨_, rfl⟩
     have hik : i * k ≤ 225 := Nat.mul_le_mul (show i ≤ 15 by omega) (show k ≤ 15 by omega)
     have hikI : (i : Int) * (k : Int) ≤ 225 := by rw [← Int.natCast_mul]; omega
     have hik0 : (0 : Int) ≤ (i : Int) * (k : Int) := by rw [← Int.natCast_mul]; omega
     have f1 : ((i : Int) + (k : Int)) % 16 = (j1 : Int) := by omega
     have f2 : ((i : Int) * (k : Int)) % 16 = (j2 : Int) := by rw [← Int.natCast_mul]; omega
     have f3 : ((i : Int) + 2 * (k : Int)) % 16 = (j3 : Int) := by omega
     have g1 : j1 < 16 := by omega
     have g2 : j2 < 16 := by omega
     have g3 : j3 < 16 := by omega
     have q0 : ∀ x, (F x).cell? ⟨g, i, none⟩ = some (vf i) := fun x => (hQ x).cell i h16
     have q4 : ∀ x, (F x).cell? ⟨g, k, none⟩ = some (vf k) := fun x => (hQ x).cell k k16
     have q1 : ∀ x, (F x).cell? ⟨g, j1, none⟩ = some (vf j1) := fun x => (hQ x).cell j1 g1
     have q2 : ∀ x, (F x).cell? ⟨g, j2, none⟩ = some (vf j2) := fun x => (hQ x).cell j2 g2
     have q3 : ∀ x, (F x).cell? ⟨g, j3, none⟩ = some (vf j3) := fun x => (hQ x).cell j3 g3
     have cS := Lib.hid (fun x => cls_ret hF1 hF2 (HS.out _ _ _ _ (F x) (hT x) ((hQ x).ws i h16) ((hQ x).ws k k16)))
     have cP := Lib.hid (fun x => cls_ret hF1 hF2 (HP.out _ _ _ _ (F x) (hT x) ((hQ x).ws i h16) ((hQ x).ws k k16)))
     have cD := Lib.hid (fun x => cls_ret hF1 hF2 (HD.out _ _ _ _ _ _ (F x) (hT x) ((hQ x).ws i h16) ((hQ x).ws k k16) ((hQ x).ws j1 g1)))
     have cT := Lib.hid (fun x => cls_ret hF1 hF2 (HT.out _ _ _ _ (F x) (hT x) ((hQ x).ws i h16) ((hQ x).ws k k16)))
     have cR := Lib.hid (fun x => cls_ret hF1 hF2 (HR.out _ _ _ _ _ _ (F x) (hT x) ((hQ x).ws i h16) ((hQ x).ws k k16) ((hQ x).ws j2 g2)))
     have cV := Lib.hid (fun x => cls_ret hF1 hF2 (HV.out _ _ _ _ _ _ (F x) (hT x) ((hQ x).ws i h16) ((hQ x).ws k k16) ((hQ x).ws j3 g3)))
     have hX' := Lib.hid hX
     clear hX hT hQ e1 e2 e3
     have b1 : (j1 : Int) < 16 := by omega
     have b2 : (j2 : Int) < 16 := by omega
     have b3 : (j3 : Int) < 16 := by omega
     clear g1 g2 g3 hik
     go_wp2_with fail
     refine region_cls (F := F) (by kernel_rfl) (lexB_of_fast (by kernel_rfl)) (cls_drew hF2) ?_
     simp only [List.append]
     repeat (go_big_quiet_step (first
      | (go_at_call 12; with_reducible exact cS.out _)
      | (go_at_call 13; with_reducible exact cP.out _)
      | (go_at_call 14; with_reducible exact cD.out _)
      | (go_at_call 15; with_reducible exact cT.out _)
      | (go_at_call 16; with_reducible exact cR.out _)
      | (go_at_call 17; with_reducible exact cV.out _)))
     refine wpQuiet_nil ?_
     intro wq hwq
     obtain ⟨xq, rfl⟩ := hwq
     have hb8 := hX'.out xq
     generalize F xq = w8 at hb8 ⊢
     clear cS cP cD cT cR cV hX' hF1 hF2 q0 q1 q2 q3 q4
     go_wp2_with fail
     go_roundw
     case rel => exact ⟨k + 1, by first | rfl | go_num, by omega, hb8⟩
     case measure => simp [intOf]; omega
    ·obtain rfl : k = 16 := by omega
     have k2 : ¬ ((16 : Nat) : Int) < 16 := by omega
     have hE1 := Lib.hid (hE.out.below hb)
     have c0 := hE1.out.cell i h16
     have D1 := hb1.trans (hb.mono hb1.size)
     go_wp2_with fail
     with_reducible refine Calls.mono (HO.out _ _ _ (by omega) _ (htab.below D1) (hE1.out.ws i h16)) ?_
     rintro e x1 ⟨rfl, hc⟩
     have D2 := D1.trans (hc.mono D1.size)
     have h2 := hb.trans (hc.mono hb.size)
     have E2 := Lib.hid (hE1.out.below hc)
     have c2 := E2.out.cell i h16
     clear hc c0 hE1
     go_wp2_with fail
     with_reducible refine Calls.mono (HO.out _ _ _ (by omega) _ (htab.below D2) (E2.out.ws i h16)) ?_
     rintro e x2 ⟨rfl, hc⟩
     have D3 := D2.trans (hc.mono D2.size)
     have h3 := h2.trans (hc.mono h2.size)
     have E3 := Lib.hid (E2.out.below hc)
     have c3 := E3.out.cell i h16
     clear hc c2 E2
     go_wp2_with fail
     with_reducible refine Calls.mono (HO.out _ _ _ (by omega) _ (htab.below D3) (E3.out.ws i h16)) ?_
     rintro e x3 ⟨rfl, hc⟩
     have h4 := h3.trans (hc.mono h3.size)
     clear hc c3 E3
     go_wp2_with fail
     go_roundw
     case rel => exact ⟨i + 1, by first | rfl | go_num, by omega, h4⟩
     case measure => simp [intOf]; omega
  ·obtain rfl : i = 16 := by omega
   have k1 : ¬ ((16 : Nat) : Int) < 16 := by omega
   clear HS HP HD HT HR HV HO hE
   go_wp2_with fail
   go_loopw [4] (fun sv wr => ∃ l : List UInt8, sv = .string (st l) ∧ l.length ≤ 4105 ∧ (∀ c ∈ l, isDig c) ∧ (l = [] ∨ l.head? = some 57) ∧ Below W1.heap.size W1 wr) (fun sv _ => match sv with | .string s => 4096 - s.size | _ => 0)
   case atStart => exact ⟨[], rfl, by simp, by simp, .inl rfl, hb⟩
   case round =>
    obtain ⟨l, rfl, hl, hd, h57, hb⟩ := hrel
    rcases Nat.lt_or_ge l.length 4096 with hlt | hge
    ·have s1 : (((st l).size : Nat) : Int) < 4096 := by rw [st_size]; omega
     have s2 : (((st l).size : Nat) : Int) ≤ 4105 := by rw [st_size]; omega
     have s3 : (st l).size < 4096 := by rw [st_size]; omega
     obtain ⟨m, hm⟩ : ∃ m, m = l.length % 7 := ⟨_, rfl⟩
     have hm7 : (((st l).size : Nat) : Int) % 7 = (m : Int) := by rw [st_size]; omega
     have hm6 : (m : Int) ≤ 10 := by omega
     replace hm := Lib.hid hm
     replace hd := Lib.hid hd
     replace h57 := Lib.hid h57
     have nx := nine_next hlt hm.out hd.out h57.out
     have hm9 : m ≤ 10 := by have := hm.out; omega
     go_wp2_with fail
     rw [nine_ext m hm9, st_join]
     exact ⟨⟨_, rfl, nx.1, nx.2.1, .inr nx.2.2.1, hb⟩, by simp only [st_size]; have := nx.2.2.2; omega⟩
    ·have s1 : ¬ (((st l).size : Nat) : Int) < 4096 := by rw [st_size]; omega
     have s2 : (((st l).size : Nat) : Int) ≤ 4105 := by rw [st_size]; omega
     have s3 : ¬ (st l).size < 4096 := by rw [st_size]; omega
     have hD := hb1.trans (hb.mono hb1.size)
     obtain ⟨nd, nl, nz⟩ := long_dec hge hd h57
     have s4 : (4096 : Int) ≤ (((st l).size : Nat) : Int) := by rw [st_size]; omega
     have mn1 : min 4096 (st l).size = 4096 := Nat.min_eq_left (by rw [st_size]; exact hge)
     have mn2 : min 4095 (st l).size = 4095 := Nat.min_eq_left (by rw [st_size]; omega)
     have s5 : (4095 : Int) ≤ (((st l).size : Nat) : Int) := by omega
     replace nd := Lib.hid nd
     replace nl := Lib.hid nl
     replace nz := Lib.hid nz
     clear hd h57 hge
     go_wp2_with fail
     go_region_held3 (fun w' => True)
      (trivial)
      (fail)
     go_wp2_with fail
     go_loopw [180] (fun iv wx => ∃ i : Nat, iv = .int .i64 (i : Int) ∧ i ≤ 20 ∧ (∀ j, j < 20 → ∃ s, wx.cell? ⟨wr.heap.size, j, none⟩ = some (.string s)) ∧ wr.heap.size < wx.heap.size ∧ Below W1.heap.size W1 wx) (fun iv _ => 20 - (intOf iv).toNat)
     case atStart => exact ⟨0, rfl, by omega, fun j hj => strs_ok wr _ _ (by simp [isStr]) j hj, Nat.lt_of_lt_of_le (Nat.lt_succ_self _) (Nat.le_of_eq (World.size_alloc wr _).symm), (hb.alloc hb.size _).drew⟩
     case round =>
      obtain ⟨i, rfl, hi, hcs, hgl, hb⟩ := hrel
      replace hcs := Lib.hid hcs
      have D := hb1.trans (hb.mono hb1.size)
      rcases Nat.lt_or_ge i 20 with h20 | h20
      ·have k3 : (i : Int) < 20 := by omega
       obtain ⟨s, cs⟩ := hcs.out i h20
       go_wp2_with fail
       with_reducible refine Calls.mono (HE.out s _ (htab.below D)) ?_
       rintro e x1 ⟨rfl, hc⟩
       have hs1 := Lib.hid (fun j (hj : j < 20) => (hcs.out j hj).imp fun s h => (hc.cell (p := ⟨_, j, none⟩) hgl).trans h)
       have h4 := hb.trans (hc.mono hb.size)
       have hgl1 := Nat.lt_of_lt_of_le hgl hc.size
       clear hc cs hcs hgl
       go_wp2_with fail
       go_roundw
       case rel => exact ⟨i + 1, by first | rfl | go_num, by omega, hs1.out, hgl1, h4⟩
       case measure => simp [intOf]; omega
      ·obtain rfl : i = 20 := by omega
       have k3 : ¬ ((20 : Nat) : Int) < 20 := by omega
       have hx := st_take' l 4096
       have C := Lib.hid (fun wx => HN.out _ nl.out nd.out wx)
       generalize dval (l.take 4096) = d at *
       rw [← hx] at C
       clear hx
       have WK := Lib.hid (fun wx ht => HW.out wx ht)
       go_wp2_with fail
       with_reducible refine Calls.mono (C.out _) ?_
       rintro e x1 ⟨rfl, hc⟩
       have D1 := D.trans (hc.mono D.size)
       clear hc C
       rcases natV0_ne nz.out with z1 | ⟨z1, z2⟩
       ·go_wp2_with fail
        with_reducible refine Calls.mono (WK.out _ (htab.below D1)) ?_
        rintro e x2 ⟨rfl, hc⟩
        have D2 := D1.trans (hc.mono D1.size)
        clear hc
        go_wp2_with fail
        go_ret
        exact ⟨rfl, D2⟩
       ·go_wp2_with fail
        with_reducible refine Calls.mono (WK.out _ (htab.below D1)) ?_
        rintro e x2 ⟨rfl, hc⟩
        have D2 := D1.trans (hc.mono D1.size)
        clear hc
        go_wp2_with fail
        go_ret
        exact ⟨rfl, D2⟩
end Go.Proofs.YtdmoadfnogdfnaaGreatDoor
namespace Go.Proofs.YtdmoadfnogdfnaaGreatDoor
open Go.RowKit
attribute [local irreducible] lo hs sm s64 c64 d64 b64 mh ml pd pc qd qc val hiB str cmpI srD lz nb isq decB
/-- The three ways in which a number stands to 0, as the walk tests it. -/
theorem zt (x : Nat) : (x = 0 ∧ (((lo x : Nat) : Int) == ((lo 0 : Nat) : Int)) = true ∧ ((hs x).toList == (hs 0).toList) = true) ∨ (0 < x ∧ (((lo x : Nat) : Int) == ((lo 0 : Nat) : Int)) = false) ∨ (0 < x ∧ (((lo x : Nat) : Int) == ((lo 0 : Nat) : Int)) = true ∧ ((hs x).toList == (hs 0).toList) = false) := by
 rcases Nat.eq_zero_or_pos x with rfl | h
 ·exact .inl ⟨rfl, by simp, by simp⟩
 ·rcases eq_zero h with h1 | ⟨h1, h2⟩
  ·exact .inr (.inl ⟨h, h1⟩)
  ·exact .inr (.inr ⟨h, h1, h2⟩)
set_option maxHeartbeats 4000000 in
set_option maxRecDepth 100000 in
theorem divisors_big (ax ay az : Option Addr) (cx cy cz nx ny nz : Nat) (h : 12 < nx ∨ 12 < ny ∨ 6 < nz) (w : World) (htab : Tab w) :
  Calls Tryz.prog 17 #[.slice ax nx cx, .slice ay ny cy, .slice az nz cz] w fun e w' => e = .returned (.bool true) ∧ Below w.heap.size w w' := by
 have HW := Lib.hid (works_any w htab)
 have key : (decide ((12 : Int) < (nx : Int)) = true) ∨ (decide ((12 : Int) < (nx : Int)) = false ∧ decide ((12 : Int) < (ny : Int)) = true) ∨ (decide ((12 : Int) < (nx : Int)) = false ∧ decide ((12 : Int) < (ny : Int)) = false ∧ decide ((6 : Int) < (nz : Int)) = true) := by
  by_cases h0 : 12 < nx
  ·exact .inl (decide_eq_true (by omega))
  ·skip
   by_cases h1 : 12 < ny
   ·exact .inr (.inl ⟨decide_eq_false (by omega), decide_eq_true (by omega)⟩)
   ·exact .inr (.inr (⟨decide_eq_false (by omega), decide_eq_false (by omega), decide_eq_true (by omega)⟩))
 clear h
 rcases key with k0 | ⟨k0, k1⟩ | ⟨k0, k1, k2⟩
 all_goals (
  go_enter Tryz.func17, Tryz.ntmps17
  go_wp2_with fail
  with_reducible refine Calls.mono HW.out ?_
  rintro e w1 ⟨rfl, hb⟩
  go_wp2_with fail
  exact bodyPost_ret (v := .bool true) (by simp [results, Tryz.results17, go_sem]) rfl ⟨rfl, hb⟩)
set_option maxHeartbeats 16000000 in
set_option maxRecDepth 100000 in
theorem divisors_small (vx vy vz : Value) (lx ly lz : List Nat) (w : World) (htab : Tab w) (hx : Ws w vx lx) (hy : Ws w vy ly) (hz : Ws w vz lz) (nx : lx.length ≤ 12) (ny : ly.length ≤ 12) (nz : lz.length ≤ 6) :
  Calls Tryz.prog 17 #[vx, vy, vz] w fun e w' => e = .returned (.bool true) ∧ Below w.heap.size w w' := by
 have MX := fun w h => made_any vx lx (by omega) w h
 have MY := fun w h => made_any vy ly (by omega) w h
 have MZ := fun w h => made_any vz lz (by omega) w h
 obtain ⟨ax, cx, ex⟩ := hx.form
 obtain ⟨ay, cy, ey⟩ := hy.form
 obtain ⟨az, cz, ez⟩ := hz.form
 have dx := Nat.le_trans (made_digs hx.lt) nx
 have dy := Nat.le_trans (made_digs hy.lt) ny
 have dz := Nat.le_trans (made_digs hz.lt) nz
 subst ex ey ez
 have kx : decide ((12 : Int) < (lx.length : Int)) = false := decide_eq_false (by omega)
 have ky : decide ((12 : Int) < (ly.length : Int)) = false := decide_eq_false (by omega)
 have kz : decide ((6 : Int) < (lz.length : Int)) = false := decide_eq_false (by omega)
 generalize made lx = a at *
 generalize made ly = b at *
 generalize made lz = n at *
 replace hx := Lib.hid hx
 replace MX := Lib.hid MX
 replace hy := Lib.hid hy
 replace MY := Lib.hid MY
 replace hz := Lib.hid hz
 replace MZ := Lib.hid MZ
 generalize lx.length = Nx at *
 generalize ly.length = Ny at *
 generalize lz.length = Nz at *
 obtain ⟨g, hg⟩ : ∃ g, g = Nat.gcd a b := ⟨_, rfl⟩
 have dg : (digs g).length ≤ 12 := by
  rw [hg]
  rcases Nat.eq_zero_or_pos a with h | h
  ·rw [h, Nat.gcd_zero_left]; exact dy
  ·exact Nat.le_trans (digs_mono (Nat.gcd_le_left _ h)) dx
 have dna : (digs (n * a)).length ≤ 18 := Nat.le_trans (digs_mul_le dz dx) (by omega)
 have dnb : (digs (n * b)).length ≤ 18 := Nat.le_trans (digs_mul_le dz dy) (by omega)
 have G4 := fun w => gcd_any a b (by omega) (by omega) w
 rw [← hg] at G4
 have G6a := fun w => gcd_any b a (by omega) (by omega) w
 rw [Nat.gcd_comm, ← hg] at G6a
 have G6b := fun w => gcd_any a 0 (by omega) (by rw [digs_zero]; exact Nat.zero_le _) w
 rw [Nat.gcd_zero_right] at G6b
 have M6a := fun w => mul_any n a (by omega) (by omega) w
 have M6b := fun w => mul_any n b (by omega) (by omega) w
 have G6c := fun w => gcd_any (n * a) (n * b) (by omega) (by omega) w
 rw [Nat.gcd_mul_left, ← hg] at G6c
 have M6c := fun w => mul_any n g (by omega) (by omega) w
 have hab : g = 0 → a = 0 ∧ b = 0 := fun h => by rw [hg] at h; exact ⟨Nat.eq_zero_of_gcd_eq_zero_left h, Nat.eq_zero_of_gcd_eq_zero_right h⟩
 have hnab : g = 0 → n * b = n * a := fun h => by rw [hg] at h; rw [Nat.eq_zero_of_gcd_eq_zero_left h, Nat.eq_zero_of_gcd_eq_zero_right h]
 have hba : a = 0 → b = 0 → g = 0 := fun h1 h2 => by rw [hg, h1, h2]; rfl
 generalize n * a = na at *
 generalize n * b = nb1 at *
 generalize n * g = ng at *
 replace G4 := Lib.hid G4
 replace G6a := Lib.hid G6a
 replace G6b := Lib.hid G6b
 replace M6a := Lib.hid M6a
 replace M6b := Lib.hid M6b
 replace G6c := Lib.hid G6c
 replace M6c := Lib.hid M6c
 have HG := Lib.hid hg
 clear hg dna dnb
 have hL0 : NL w w [] := NL.start w
 go_enter Tryz.func17, Tryz.ntmps17
 go_wp2_with fail
 with_reducible refine Calls.mono (MX.out _ hx.out) ?_
 rintro e x1 ⟨rfl, hb⟩
 replace hL0 := hL0.call hb
 clear hb MX
 go_wp2_with fail
 with_reducible refine Calls.mono (MY.out _ (hy.out.below hL0.bl)) ?_
 rintro e x2 ⟨rfl, hb⟩
 replace hL0 := hL0.call hb
 clear hb MY
 go_wp2_with fail
 with_reducible refine Calls.mono (MZ.out _ (hz.out.below hL0.bl)) ?_
 rintro e x3 ⟨rfl, hb⟩
 replace hL0 := hL0.call hb
 clear hb MZ
 replace hL0 := (((hL0.new rfl a 32).new (szA _ _) b 32).new (szA2 _ _ _) n 32)
 generalize hweq : (((x3.alloc (.cells #[.int .u64 ((lo a : Nat) : Int), .string (hs a)] 32)).alloc (.cells #[.int .u64 ((lo b : Nat) : Int), .string (hs b)] 32)).alloc (.cells #[.int .u64 ((lo n : Nat) : Int), .string (hs n)] 32)) = x4 at hL0
 obtain ⟨p1, r1⟩ := hL0.get (x3.heap.size) a (by (repeat (first | with_reducible exact List.mem_cons_self | with_reducible refine List.mem_cons_of_mem _ ?_)))
 obtain ⟨p2, r2⟩ := hL0.get (x3.heap.size + 1) b (by (repeat (first | with_reducible exact List.mem_cons_self | with_reducible refine List.mem_cons_of_mem _ ?_)))
 go_wp2_with fail
 with_reducible refine Calls.mono (G4.out _) ?_
 rintro e x5 ⟨rfl, hb⟩
 replace hL0 := hL0.call hb
 clear hb G4 hweq
 replace hL0 := (hL0.new rfl g 32)
 generalize hweq : (x5.alloc (.cells #[.int .u64 ((lo g : Nat) : Int), .string (hs g)] 32)) = x6 at hL0
 go_upto_region 6 with fail
 replace hL0 := hL0.new0 rfl 32
 generalize hz : x6.alloc (.cells #[.int .u64 0, .string ⟨#[]⟩] 32) = wz at hL0 ⊢
 clear hz hweq
 go_cut [82] from 44 to 82 (fun t82 wx => t82 = .bool false ∧ NL w wx [(x6.heap.size, 0), (x5.heap.size, g), (x3.heap.size + 1 + 1, n), (x3.heap.size + 1, b), (x3.heap.size, a)])
 case first =>
  rcases zt g with ⟨zg, zg1, zg2⟩ | ⟨zg, zg1⟩ | ⟨zg, zg1, zg2⟩
  ·obtain ⟨rfl, rfl⟩ := hab zg
   obtain rfl := hnab zg
   clear zg hab hba hnab
   have za1 : (((lo 0 : Nat) : Int) == ((lo 0 : Nat) : Int)) = true := by simp
   have za2 : ((hs 0).toList == (hs 0).toList) = true := by simp
   obtain ⟨α, iα, F, hF1, hF2⟩ := cls wz
   obtain ⟨q3, s3⟩ := cls_get hF1 hL0 (x5.heap.size) g (by (repeat (first | with_reducible exact List.mem_cons_self | with_reducible refine List.mem_cons_of_mem _ ?_)))
   obtain ⟨q4, s4⟩ := cls_get hF1 hL0 (x3.heap.size + 1) 0 (by (repeat (first | with_reducible exact List.mem_cons_self | with_reducible refine List.mem_cons_of_mem _ ?_)))
   obtain ⟨q5, s5⟩ := cls_get hF1 hL0 (x3.heap.size) 0 (by (repeat (first | with_reducible exact List.mem_cons_self | with_reducible refine List.mem_cons_of_mem _ ?_)))
   obtain ⟨q6, s6⟩ := cls_get hF1 hL0 (x6.heap.size) 0 (by (repeat (first | with_reducible exact List.mem_cons_self | with_reducible refine List.mem_cons_of_mem _ ?_)))
   obtain ⟨q7, s7⟩ := cls_get hF1 hL0 (x3.heap.size + 1 + 1) n (by (repeat (first | with_reducible exact List.mem_cons_self | with_reducible refine List.mem_cons_of_mem _ ?_)))
   refine region_cls (F := F) (by kernel_rfl) (by kernel_rfl) (cls_drew hF2) ?_
   repeat (go_big_quiet_step (first
    | (go_at_call 109; with_reducible exact cls_call hF1 hF2 G6a.out _)
    | (go_at_call 109; with_reducible exact cls_call hF1 hF2 G6b.out _)
    | (go_at_call 107; with_reducible exact cls_call hF1 hF2 M6a.out _)
    | (go_at_call 107; with_reducible exact cls_call hF1 hF2 M6b.out _)
    | (go_at_call 109; with_reducible exact cls_call hF1 hF2 G6c.out _)
    | (go_at_call 107; with_reducible exact cls_call hF1 hF2 M6c.out _)))
   refine wpQuiet_nil ?_
   intro wq hwq
   obtain ⟨xq, rfl⟩ := hwq
   have hLq := hL0.call (hF1 xq)
   go_wp2_with fail
   go_meet
   exact ⟨rfl, hLq⟩
  all_goals (
   rcases zt a with ⟨za, za1, za2⟩ | ⟨za, za1⟩ | ⟨za, za1, za2⟩
   ·rcases zt b with ⟨zb, zb1, zb2⟩ | ⟨zb, zb1⟩ | ⟨zb, zb1, zb2⟩
    ·exact absurd (hba za zb) (by omega)
    all_goals (
     clear za
     obtain ⟨α, iα, F, hF1, hF2⟩ := cls wz
     obtain ⟨q8, s8⟩ := cls_get hF1 hL0 (x5.heap.size) g (by (repeat (first | with_reducible exact List.mem_cons_self | with_reducible refine List.mem_cons_of_mem _ ?_)))
     obtain ⟨q9, s9⟩ := cls_get hF1 hL0 (x3.heap.size + 1) b (by (repeat (first | with_reducible exact List.mem_cons_self | with_reducible refine List.mem_cons_of_mem _ ?_)))
     obtain ⟨q10, s10⟩ := cls_get hF1 hL0 (x3.heap.size) a (by (repeat (first | with_reducible exact List.mem_cons_self | with_reducible refine List.mem_cons_of_mem _ ?_)))
     obtain ⟨q11, s11⟩ := cls_get hF1 hL0 (x6.heap.size) 0 (by (repeat (first | with_reducible exact List.mem_cons_self | with_reducible refine List.mem_cons_of_mem _ ?_)))
     obtain ⟨q12, s12⟩ := cls_get hF1 hL0 (x3.heap.size + 1 + 1) n (by (repeat (first | with_reducible exact List.mem_cons_self | with_reducible refine List.mem_cons_of_mem _ ?_)))
     refine region_cls (F := F) (by kernel_rfl) (by kernel_rfl) (cls_drew hF2) ?_
     repeat (go_big_quiet_step (first
      | (go_at_call 109; with_reducible exact cls_call hF1 hF2 G6a.out _)
      | (go_at_call 109; with_reducible exact cls_call hF1 hF2 G6b.out _)
      | (go_at_call 107; with_reducible exact cls_call hF1 hF2 M6a.out _)
      | (go_at_call 107; with_reducible exact cls_call hF1 hF2 M6b.out _)
      | (go_at_call 109; with_reducible exact cls_call hF1 hF2 G6c.out _)
      | (go_at_call 107; with_reducible exact cls_call hF1 hF2 M6c.out _)))
     refine wpQuiet_nil ?_
     intro wq hwq
     obtain ⟨xq, rfl⟩ := hwq
     have hLq := hL0.call (hF1 xq)
     go_wp2_with fail
     go_meet
     exact ⟨rfl, hLq⟩)
   all_goals (
    obtain ⟨α, iα, F, hF1, hF2⟩ := cls wz
    obtain ⟨q13, s13⟩ := cls_get hF1 hL0 (x5.heap.size) g (by (repeat (first | with_reducible exact List.mem_cons_self | with_reducible refine List.mem_cons_of_mem _ ?_)))
    obtain ⟨q14, s14⟩ := cls_get hF1 hL0 (x3.heap.size + 1) b (by (repeat (first | with_reducible exact List.mem_cons_self | with_reducible refine List.mem_cons_of_mem _ ?_)))
    obtain ⟨q15, s15⟩ := cls_get hF1 hL0 (x3.heap.size) a (by (repeat (first | with_reducible exact List.mem_cons_self | with_reducible refine List.mem_cons_of_mem _ ?_)))
    obtain ⟨q16, s16⟩ := cls_get hF1 hL0 (x6.heap.size) 0 (by (repeat (first | with_reducible exact List.mem_cons_self | with_reducible refine List.mem_cons_of_mem _ ?_)))
    obtain ⟨q17, s17⟩ := cls_get hF1 hL0 (x3.heap.size + 1 + 1) n (by (repeat (first | with_reducible exact List.mem_cons_self | with_reducible refine List.mem_cons_of_mem _ ?_)))
    refine region_cls (F := F) (by kernel_rfl) (by kernel_rfl) (cls_drew hF2) ?_
    repeat (go_big_quiet_step (first
     | (go_at_call 109; with_reducible exact cls_call hF1 hF2 G6a.out _)
     | (go_at_call 109; with_reducible exact cls_call hF1 hF2 G6b.out _)
     | (go_at_call 107; with_reducible exact cls_call hF1 hF2 M6a.out _)
     | (go_at_call 107; with_reducible exact cls_call hF1 hF2 M6b.out _)
     | (go_at_call 109; with_reducible exact cls_call hF1 hF2 G6c.out _)
     | (go_at_call 107; with_reducible exact cls_call hF1 hF2 M6c.out _)))
    refine wpQuiet_nil ?_
    intro wq hwq
    obtain ⟨xq, rfl⟩ := hwq
    have hLq := hL0.call (hF1 xq)
    go_wp2_with fail
    go_meet
    exact ⟨rfl, hLq⟩))
 case rest =>
  clear hL0 G6a G6b M6a M6b G6c M6c
  obtain ⟨rfl, hL0⟩ := hcut
  obtain ⟨p18, r18⟩ := hL0.get (x5.heap.size) g (by (repeat (first | with_reducible exact List.mem_cons_self | with_reducible refine List.mem_cons_of_mem _ ?_)))
  obtain ⟨p19, r19⟩ := hL0.get (x6.heap.size) 0 (by (repeat (first | with_reducible exact List.mem_cons_self | with_reducible refine List.mem_cons_of_mem _ ?_)))
  obtain ⟨p20, r20⟩ := hL0.get (x3.heap.size) a (by (repeat (first | with_reducible exact List.mem_cons_self | with_reducible refine List.mem_cons_of_mem _ ?_)))
  obtain ⟨p21, r21⟩ := hL0.get (x3.heap.size + 1) b (by (repeat (first | with_reducible exact List.mem_cons_self | with_reducible refine List.mem_cons_of_mem _ ?_)))
  rcases zt g with ⟨zg, zg1, zg2⟩ | ⟨hg0, zg1⟩ | ⟨hg0, zg1, zg2⟩
  ·have HW := Lib.hid (works_any _ (htab.below hL0.bl))
   go_wp2_with fail
   with_reducible refine Calls.mono HW.out ?_
   rintro e x7 ⟨rfl, hb⟩
   replace hL0 := hL0.call hb
   clear hb HW
   go_wp2_with fail
   exact bodyPost_ret (v := .bool true) (by simp [results, Tryz.results17, go_sem]) rfl ⟨rfl, hL0.bl⟩
  ·have da : g ∣ a := by rw [HG.out]; exact Nat.gcd_dvd_left a b
   have db : g ∣ b := by rw [HG.out]; exact Nat.gcd_dvd_right a b
   obtain ⟨p, hp⟩ : ∃ p, p = a / g := ⟨_, rfl⟩
   obtain ⟨q, hq⟩ : ∃ q, q = b / g := ⟨_, rfl⟩
   have D10 := fun w => div_pos a g hg0 (by omega) w
   rw [← hp, Nat.mod_eq_zero_of_dvd da] at D10
   have D11 := fun w => div_pos b g hg0 (by omega) w
   rw [← hq, Nat.mod_eq_zero_of_dvd db] at D11
   have hpq : Nat.gcd p q = 1 := by rw [hp, hq, HG.out]; exact Nat.coprime_div_gcd_div_gcd (by rw [← HG.out]; exact hg0)
   have dp : (digs p).length ≤ 12 := by rw [hp]; exact Nat.le_trans (digs_mono (Nat.div_le_self _ _)) dx
   have dq : (digs q).length ≤ 12 := by rw [hq]; exact Nat.le_trans (digs_mono (Nat.div_le_self _ _)) dy
   have G15 := fun w => gcd_any p q (by omega) (by omega) w
   rw [hpq] at G15
   replace G15 := Lib.hid G15
   have O15 := Lib.hid (fun w => of_val 1 1 rfl (by unfold Bs; omega) w)
   replace D10 := Lib.hid D10
   replace D11 := Lib.hid D11
   clear hp hq hpq da db dp dq
   go_wp2_with fail
   with_reducible refine Calls.mono (D10.out _) ?_
   rintro e x8 ⟨rfl, hb⟩
   replace hL0 := hL0.call hb
   clear hb D10
   replace hL0 := ((hL0.new rfl p 32).new (szA _ _) 0 32)
   generalize hweq : ((x8.alloc (.cells #[.int .u64 ((lo p : Nat) : Int), .string (hs p)] 32)).alloc (.cells #[.int .u64 ((lo 0 : Nat) : Int), .string (hs 0)] 32)) = x9 at hL0
   obtain ⟨p22, r22⟩ := hL0.get (x3.heap.size + 1) b (by (repeat (first | with_reducible exact List.mem_cons_self | with_reducible refine List.mem_cons_of_mem _ ?_)))
   obtain ⟨p23, r23⟩ := hL0.get (x5.heap.size) g (by (repeat (first | with_reducible exact List.mem_cons_self | with_reducible refine List.mem_cons_of_mem _ ?_)))
   go_wp2_with fail
   with_reducible refine Calls.mono (D11.out _) ?_
   rintro e x10 ⟨rfl, hb⟩
   replace hL0 := hL0.call hb
   clear hb D11 hweq
   replace hL0 := ((hL0.new rfl q 32).new (szA _ _) 0 32)
   generalize hweq : ((x10.alloc (.cells #[.int .u64 ((lo q : Nat) : Int), .string (hs q)] 32)).alloc (.cells #[.int .u64 ((lo 0 : Nat) : Int), .string (hs 0)] 32)) = x11 at hL0
   obtain ⟨p24, r24⟩ := hL0.get (x3.heap.size) a (by (repeat (first | with_reducible exact List.mem_cons_self | with_reducible refine List.mem_cons_of_mem _ ?_)))
   obtain ⟨p25, r25⟩ := hL0.get (x3.heap.size + 1) b (by (repeat (first | with_reducible exact List.mem_cons_self | with_reducible refine List.mem_cons_of_mem _ ?_)))
   rcases Nat.eq_zero_or_pos b with hb0 | hb0
   ·have D12 : ∀ w, Calls Tryz.prog 106 #[natV a, natV b] w fun e w' => e = .returned (.tuple #[natV 0, natV 0, .bool false]) ∧ Below w.heap.size w w' := fun w => by rw [hb0]; exact div_zero a w
    replace D12 := Lib.hid D12
    clear hb0
    go_wp2_with fail
    with_reducible refine Calls.mono (D12.out _) ?_
    rintro e x12 ⟨rfl, hb⟩
    replace hL0 := hL0.call hb
    clear hb D12 hweq
    replace hL0 := ((hL0.new rfl 0 32).new (szA _ _) 0 32)
    generalize hweq : ((x12.alloc (.cells #[.int .u64 ((lo 0 : Nat) : Int), .string (hs 0)] 32)).alloc (.cells #[.int .u64 ((lo 0 : Nat) : Int), .string (hs 0)] 32)) = x13 at hL0
    go_upto_region 13 with fail
    clear hweq
    obtain ⟨α, iα, F, hF1, hF2⟩ := cls x13
    obtain ⟨q26, s26⟩ := cls_get hF1 hL0 (x3.heap.size + 1) b (by (repeat (first | with_reducible exact List.mem_cons_self | with_reducible refine List.mem_cons_of_mem _ ?_)))
    obtain ⟨q27, s27⟩ := cls_get hF1 hL0 (x12.heap.size + 1) 0 (by (repeat (first | with_reducible exact List.mem_cons_self | with_reducible refine List.mem_cons_of_mem _ ?_)))
    obtain ⟨q28, s28⟩ := cls_get hF1 hL0 (x5.heap.size) g (by (repeat (first | with_reducible exact List.mem_cons_self | with_reducible refine List.mem_cons_of_mem _ ?_)))
    refine region_cls (F := F) (by kernel_rfl) (by kernel_rfl) (cls_drew hF2) ?_
    repeat (go_big_quiet_step (first
     | fail))
    refine wpQuiet_nil ?_
    intro wq hwq
    obtain ⟨xq, rfl⟩ := hwq
    have hLq := hL0.call (hF1 xq)
    generalize F xq = wq at hLq ⊢
    replace hL0 := hLq
    clear hLq hF1 hF2
    obtain ⟨p29, r29⟩ := hL0.get (x8.heap.size + 1) 0 (by (repeat (first | with_reducible exact List.mem_cons_self | with_reducible refine List.mem_cons_of_mem _ ?_)))
    obtain ⟨p30, r30⟩ := hL0.get (x6.heap.size) 0 (by (repeat (first | with_reducible exact List.mem_cons_self | with_reducible refine List.mem_cons_of_mem _ ?_)))
    obtain ⟨p31, r31⟩ := hL0.get (x10.heap.size + 1) 0 (by (repeat (first | with_reducible exact List.mem_cons_self | with_reducible refine List.mem_cons_of_mem _ ?_)))
    obtain ⟨p32, r32⟩ := hL0.get (x8.heap.size) p (by (repeat (first | with_reducible exact List.mem_cons_self | with_reducible refine List.mem_cons_of_mem _ ?_)))
    obtain ⟨p33, r33⟩ := hL0.get (x10.heap.size) q (by (repeat (first | with_reducible exact List.mem_cons_self | with_reducible refine List.mem_cons_of_mem _ ?_)))
    go_wp2_with fail
    with_reducible refine Calls.mono (G15.out _) ?_
    rintro e x14 ⟨rfl, hb⟩
    replace hL0 := hL0.call hb
    clear hb G15
    go_wp2_with fail
    with_reducible refine Calls.mono (O15.out _) ?_
    rintro e x15 ⟨rfl, hb⟩
    replace hL0 := hL0.call hb
    clear hb O15
    have HW := Lib.hid (works_any _ (htab.below hL0.bl))
    go_wp2_with fail
    with_reducible refine Calls.mono HW.out ?_
    rintro e x16 ⟨rfl, hb⟩
    replace hL0 := hL0.call hb
    clear hb HW
    go_wp2_with fail
    exact bodyPost_ret (v := .bool true) (by simp [results, Tryz.results17, go_sem]) rfl ⟨rfl, hL0.bl⟩
   ·have D12 := fun w => div_pos a b hb0 (by omega) w
    have hm : (a % b) < b := Nat.mod_lt _ hb0
    have dm : (digs (a % b)).length ≤ 12 := Nat.le_trans (digs_mono (Nat.le_of_lt hm)) dy
    have G13 := fun w => gcd_any b (a % b) (by omega) (by omega) w
    rw [Nat.gcd_comm b, ← Nat.gcd_rec, Nat.gcd_comm b, ← HG.out] at G13
    generalize a / b = q2 at *
    generalize a % b = r2 at *
    replace G13 := Lib.hid G13
    replace D12 := Lib.hid D12
    clear hb0 hm dm
    go_wp2_with fail
    with_reducible refine Calls.mono (D12.out _) ?_
    rintro e x17 ⟨rfl, hb⟩
    replace hL0 := hL0.call hb
    clear hb D12 hweq
    replace hL0 := ((hL0.new rfl q2 32).new (szA _ _) r2 32)
    generalize hweq : ((x17.alloc (.cells #[.int .u64 ((lo q2 : Nat) : Int), .string (hs q2)] 32)).alloc (.cells #[.int .u64 ((lo r2 : Nat) : Int), .string (hs r2)] 32)) = x18 at hL0
    go_upto_region 13 with fail
    clear hweq
    obtain ⟨α, iα, F, hF1, hF2⟩ := cls x18
    obtain ⟨q34, s34⟩ := cls_get hF1 hL0 (x3.heap.size + 1) b (by (repeat (first | with_reducible exact List.mem_cons_self | with_reducible refine List.mem_cons_of_mem _ ?_)))
    obtain ⟨q35, s35⟩ := cls_get hF1 hL0 (x17.heap.size + 1) r2 (by (repeat (first | with_reducible exact List.mem_cons_self | with_reducible refine List.mem_cons_of_mem _ ?_)))
    obtain ⟨q36, s36⟩ := cls_get hF1 hL0 (x5.heap.size) g (by (repeat (first | with_reducible exact List.mem_cons_self | with_reducible refine List.mem_cons_of_mem _ ?_)))
    refine region_cls (F := F) (by kernel_rfl) (by kernel_rfl) (cls_drew hF2) ?_
    repeat (go_big_quiet_step (first
     | (go_at_call 109; with_reducible exact cls_call hF1 hF2 G13.out _)))
    refine wpQuiet_nil ?_
    intro wq hwq
    obtain ⟨xq, rfl⟩ := hwq
    have hLq := hL0.call (hF1 xq)
    generalize F xq = wq at hLq ⊢
    replace hL0 := hLq
    clear hLq hF1 hF2
    obtain ⟨p37, r37⟩ := hL0.get (x8.heap.size + 1) 0 (by (repeat (first | with_reducible exact List.mem_cons_self | with_reducible refine List.mem_cons_of_mem _ ?_)))
    obtain ⟨p38, r38⟩ := hL0.get (x6.heap.size) 0 (by (repeat (first | with_reducible exact List.mem_cons_self | with_reducible refine List.mem_cons_of_mem _ ?_)))
    obtain ⟨p39, r39⟩ := hL0.get (x10.heap.size + 1) 0 (by (repeat (first | with_reducible exact List.mem_cons_self | with_reducible refine List.mem_cons_of_mem _ ?_)))
    obtain ⟨p40, r40⟩ := hL0.get (x8.heap.size) p (by (repeat (first | with_reducible exact List.mem_cons_self | with_reducible refine List.mem_cons_of_mem _ ?_)))
    obtain ⟨p41, r41⟩ := hL0.get (x10.heap.size) q (by (repeat (first | with_reducible exact List.mem_cons_self | with_reducible refine List.mem_cons_of_mem _ ?_)))
    go_wp2_with fail
    with_reducible refine Calls.mono (G15.out _) ?_
    rintro e x19 ⟨rfl, hb⟩
    replace hL0 := hL0.call hb
    clear hb G15
    go_wp2_with fail
    with_reducible refine Calls.mono (O15.out _) ?_
    rintro e x20 ⟨rfl, hb⟩
    replace hL0 := hL0.call hb
    clear hb O15
    have HW := Lib.hid (works_any _ (htab.below hL0.bl))
    go_wp2_with fail
    with_reducible refine Calls.mono HW.out ?_
    rintro e x21 ⟨rfl, hb⟩
    replace hL0 := hL0.call hb
    clear hb HW
    go_wp2_with fail
    exact bodyPost_ret (v := .bool true) (by simp [results, Tryz.results17, go_sem]) rfl ⟨rfl, hL0.bl⟩
  ·have da : g ∣ a := by rw [HG.out]; exact Nat.gcd_dvd_left a b
   have db : g ∣ b := by rw [HG.out]; exact Nat.gcd_dvd_right a b
   obtain ⟨p, hp⟩ : ∃ p, p = a / g := ⟨_, rfl⟩
   obtain ⟨q, hq⟩ : ∃ q, q = b / g := ⟨_, rfl⟩
   have D10 := fun w => div_pos a g hg0 (by omega) w
   rw [← hp, Nat.mod_eq_zero_of_dvd da] at D10
   have D11 := fun w => div_pos b g hg0 (by omega) w
   rw [← hq, Nat.mod_eq_zero_of_dvd db] at D11
   have hpq : Nat.gcd p q = 1 := by rw [hp, hq, HG.out]; exact Nat.coprime_div_gcd_div_gcd (by rw [← HG.out]; exact hg0)
   have dp : (digs p).length ≤ 12 := by rw [hp]; exact Nat.le_trans (digs_mono (Nat.div_le_self _ _)) dx
   have dq : (digs q).length ≤ 12 := by rw [hq]; exact Nat.le_trans (digs_mono (Nat.div_le_self _ _)) dy
   have G15 := fun w => gcd_any p q (by omega) (by omega) w
   rw [hpq] at G15
   replace G15 := Lib.hid G15
   have O15 := Lib.hid (fun w => of_val 1 1 rfl (by unfold Bs; omega) w)
   replace D10 := Lib.hid D10
   replace D11 := Lib.hid D11
   clear hp hq hpq da db dp dq
   go_wp2_with fail
   with_reducible refine Calls.mono (D10.out _) ?_
   rintro e x22 ⟨rfl, hb⟩
   replace hL0 := hL0.call hb
   clear hb D10
   replace hL0 := ((hL0.new rfl p 32).new (szA _ _) 0 32)
   generalize hweq : ((x22.alloc (.cells #[.int .u64 ((lo p : Nat) : Int), .string (hs p)] 32)).alloc (.cells #[.int .u64 ((lo 0 : Nat) : Int), .string (hs 0)] 32)) = x23 at hL0
   obtain ⟨p42, r42⟩ := hL0.get (x3.heap.size + 1) b (by (repeat (first | with_reducible exact List.mem_cons_self | with_reducible refine List.mem_cons_of_mem _ ?_)))
   obtain ⟨p43, r43⟩ := hL0.get (x5.heap.size) g (by (repeat (first | with_reducible exact List.mem_cons_self | with_reducible refine List.mem_cons_of_mem _ ?_)))
   go_wp2_with fail
   with_reducible refine Calls.mono (D11.out _) ?_
   rintro e x24 ⟨rfl, hb⟩
   replace hL0 := hL0.call hb
   clear hb D11 hweq
   replace hL0 := ((hL0.new rfl q 32).new (szA _ _) 0 32)
   generalize hweq : ((x24.alloc (.cells #[.int .u64 ((lo q : Nat) : Int), .string (hs q)] 32)).alloc (.cells #[.int .u64 ((lo 0 : Nat) : Int), .string (hs 0)] 32)) = x25 at hL0
   obtain ⟨p44, r44⟩ := hL0.get (x3.heap.size) a (by (repeat (first | with_reducible exact List.mem_cons_self | with_reducible refine List.mem_cons_of_mem _ ?_)))
   obtain ⟨p45, r45⟩ := hL0.get (x3.heap.size + 1) b (by (repeat (first | with_reducible exact List.mem_cons_self | with_reducible refine List.mem_cons_of_mem _ ?_)))
   rcases Nat.eq_zero_or_pos b with hb0 | hb0
   ·have D12 : ∀ w, Calls Tryz.prog 106 #[natV a, natV b] w fun e w' => e = .returned (.tuple #[natV 0, natV 0, .bool false]) ∧ Below w.heap.size w w' := fun w => by rw [hb0]; exact div_zero a w
    replace D12 := Lib.hid D12
    clear hb0
    go_wp2_with fail
    with_reducible refine Calls.mono (D12.out _) ?_
    rintro e x26 ⟨rfl, hb⟩
    replace hL0 := hL0.call hb
    clear hb D12 hweq
    replace hL0 := ((hL0.new rfl 0 32).new (szA _ _) 0 32)
    generalize hweq : ((x26.alloc (.cells #[.int .u64 ((lo 0 : Nat) : Int), .string (hs 0)] 32)).alloc (.cells #[.int .u64 ((lo 0 : Nat) : Int), .string (hs 0)] 32)) = x27 at hL0
    go_upto_region 13 with fail
    clear hweq
    obtain ⟨α, iα, F, hF1, hF2⟩ := cls x27
    obtain ⟨q46, s46⟩ := cls_get hF1 hL0 (x3.heap.size + 1) b (by (repeat (first | with_reducible exact List.mem_cons_self | with_reducible refine List.mem_cons_of_mem _ ?_)))
    obtain ⟨q47, s47⟩ := cls_get hF1 hL0 (x26.heap.size + 1) 0 (by (repeat (first | with_reducible exact List.mem_cons_self | with_reducible refine List.mem_cons_of_mem _ ?_)))
    obtain ⟨q48, s48⟩ := cls_get hF1 hL0 (x5.heap.size) g (by (repeat (first | with_reducible exact List.mem_cons_self | with_reducible refine List.mem_cons_of_mem _ ?_)))
    refine region_cls (F := F) (by kernel_rfl) (by kernel_rfl) (cls_drew hF2) ?_
    repeat (go_big_quiet_step (first
     | fail))
    refine wpQuiet_nil ?_
    intro wq hwq
    obtain ⟨xq, rfl⟩ := hwq
    have hLq := hL0.call (hF1 xq)
    generalize F xq = wq at hLq ⊢
    replace hL0 := hLq
    clear hLq hF1 hF2
    obtain ⟨p49, r49⟩ := hL0.get (x22.heap.size + 1) 0 (by (repeat (first | with_reducible exact List.mem_cons_self | with_reducible refine List.mem_cons_of_mem _ ?_)))
    obtain ⟨p50, r50⟩ := hL0.get (x6.heap.size) 0 (by (repeat (first | with_reducible exact List.mem_cons_self | with_reducible refine List.mem_cons_of_mem _ ?_)))
    obtain ⟨p51, r51⟩ := hL0.get (x24.heap.size + 1) 0 (by (repeat (first | with_reducible exact List.mem_cons_self | with_reducible refine List.mem_cons_of_mem _ ?_)))
    obtain ⟨p52, r52⟩ := hL0.get (x22.heap.size) p (by (repeat (first | with_reducible exact List.mem_cons_self | with_reducible refine List.mem_cons_of_mem _ ?_)))
    obtain ⟨p53, r53⟩ := hL0.get (x24.heap.size) q (by (repeat (first | with_reducible exact List.mem_cons_self | with_reducible refine List.mem_cons_of_mem _ ?_)))
    go_wp2_with fail
    with_reducible refine Calls.mono (G15.out _) ?_
    rintro e x28 ⟨rfl, hb⟩
    replace hL0 := hL0.call hb
    clear hb G15
    go_wp2_with fail
    with_reducible refine Calls.mono (O15.out _) ?_
    rintro e x29 ⟨rfl, hb⟩
    replace hL0 := hL0.call hb
    clear hb O15
    have HW := Lib.hid (works_any _ (htab.below hL0.bl))
    go_wp2_with fail
    with_reducible refine Calls.mono HW.out ?_
    rintro e x30 ⟨rfl, hb⟩
    replace hL0 := hL0.call hb
    clear hb HW
    go_wp2_with fail
    exact bodyPost_ret (v := .bool true) (by simp [results, Tryz.results17, go_sem]) rfl ⟨rfl, hL0.bl⟩
   ·have D12 := fun w => div_pos a b hb0 (by omega) w
    have hm : (a % b) < b := Nat.mod_lt _ hb0
    have dm : (digs (a % b)).length ≤ 12 := Nat.le_trans (digs_mono (Nat.le_of_lt hm)) dy
    have G13 := fun w => gcd_any b (a % b) (by omega) (by omega) w
    rw [Nat.gcd_comm b, ← Nat.gcd_rec, Nat.gcd_comm b, ← HG.out] at G13
    generalize a / b = q2 at *
    generalize a % b = r2 at *
    replace G13 := Lib.hid G13
    replace D12 := Lib.hid D12
    clear hb0 hm dm
    go_wp2_with fail
    with_reducible refine Calls.mono (D12.out _) ?_
    rintro e x31 ⟨rfl, hb⟩
    replace hL0 := hL0.call hb
    clear hb D12 hweq
    replace hL0 := ((hL0.new rfl q2 32).new (szA _ _) r2 32)
    generalize hweq : ((x31.alloc (.cells #[.int .u64 ((lo q2 : Nat) : Int), .string (hs q2)] 32)).alloc (.cells #[.int .u64 ((lo r2 : Nat) : Int), .string (hs r2)] 32)) = x32 at hL0
    go_upto_region 13 with fail
    clear hweq
    obtain ⟨α, iα, F, hF1, hF2⟩ := cls x32
    obtain ⟨q54, s54⟩ := cls_get hF1 hL0 (x3.heap.size + 1) b (by (repeat (first | with_reducible exact List.mem_cons_self | with_reducible refine List.mem_cons_of_mem _ ?_)))
    obtain ⟨q55, s55⟩ := cls_get hF1 hL0 (x31.heap.size + 1) r2 (by (repeat (first | with_reducible exact List.mem_cons_self | with_reducible refine List.mem_cons_of_mem _ ?_)))
    obtain ⟨q56, s56⟩ := cls_get hF1 hL0 (x5.heap.size) g (by (repeat (first | with_reducible exact List.mem_cons_self | with_reducible refine List.mem_cons_of_mem _ ?_)))
    refine region_cls (F := F) (by kernel_rfl) (by kernel_rfl) (cls_drew hF2) ?_
    repeat (go_big_quiet_step (first
     | (go_at_call 109; with_reducible exact cls_call hF1 hF2 G13.out _)))
    refine wpQuiet_nil ?_
    intro wq hwq
    obtain ⟨xq, rfl⟩ := hwq
    have hLq := hL0.call (hF1 xq)
    generalize F xq = wq at hLq ⊢
    replace hL0 := hLq
    clear hLq hF1 hF2
    obtain ⟨p57, r57⟩ := hL0.get (x22.heap.size + 1) 0 (by (repeat (first | with_reducible exact List.mem_cons_self | with_reducible refine List.mem_cons_of_mem _ ?_)))
    obtain ⟨p58, r58⟩ := hL0.get (x6.heap.size) 0 (by (repeat (first | with_reducible exact List.mem_cons_self | with_reducible refine List.mem_cons_of_mem _ ?_)))
    obtain ⟨p59, r59⟩ := hL0.get (x24.heap.size + 1) 0 (by (repeat (first | with_reducible exact List.mem_cons_self | with_reducible refine List.mem_cons_of_mem _ ?_)))
    obtain ⟨p60, r60⟩ := hL0.get (x22.heap.size) p (by (repeat (first | with_reducible exact List.mem_cons_self | with_reducible refine List.mem_cons_of_mem _ ?_)))
    obtain ⟨p61, r61⟩ := hL0.get (x24.heap.size) q (by (repeat (first | with_reducible exact List.mem_cons_self | with_reducible refine List.mem_cons_of_mem _ ?_)))
    go_wp2_with fail
    with_reducible refine Calls.mono (G15.out _) ?_
    rintro e x33 ⟨rfl, hb⟩
    replace hL0 := hL0.call hb
    clear hb G15
    go_wp2_with fail
    with_reducible refine Calls.mono (O15.out _) ?_
    rintro e x34 ⟨rfl, hb⟩
    replace hL0 := hL0.call hb
    clear hb O15
    have HW := Lib.hid (works_any _ (htab.below hL0.bl))
    go_wp2_with fail
    with_reducible refine Calls.mono HW.out ?_
    rintro e x35 ⟨rfl, hb⟩
    replace hL0 := hL0.call hb
    clear hb HW
    go_wp2_with fail
    exact bodyPost_ret (v := .bool true) (by simp [results, Tryz.results17, go_sem]) rfl ⟨rfl, hL0.bl⟩
theorem divisors_any (vx vy vz : Value) (lx ly lz : List Nat) (w : World) (htab : Tab w) (hx : Ws w vx lx) (hy : Ws w vy ly) (hz : Ws w vz lz) :
  Calls Tryz.prog 17 #[vx, vy, vz] w fun e w' => e = .returned (.bool true) ∧ Below w.heap.size w w' := by
 by_cases h : 12 < lx.length ∨ 12 < ly.length ∨ 6 < lz.length
 ·obtain ⟨ax, cx, rfl⟩ := hx.form
  obtain ⟨ay, cy, rfl⟩ := hy.form
  obtain ⟨az, cz, rfl⟩ := hz.form
  exact divisors_big ax ay az cx cy cz _ _ _ h w htab
 ·exact divisors_small vx vy vz lx ly lz w htab hx hy hz (by omega) (by omega) (by omega)
end Go.Proofs.YtdmoadfnogdfnaaGreatDoor
namespace Go.Proofs.YtdmoadfnogdfnaaGreatDoor
open Go.RowKit
attribute [local irreducible] lo hs sm s64 c64 d64 b64 mh ml pd pc qd qc val hiB str cmpI srD lz nb isq decB
theorem cmpI_neg (a b : Nat) : cmpI a b = -cmpI b a := by unfold cmpI; split <;> split <;> (try split) <;> omega
theorem cmpI_way (a b : Nat) : cmpI a b = -1 ∨ cmpI a b = 0 ∨ cmpI a b = 1 := by unfold cmpI; split <;> (try split) <;> simp
theorem cmpI_add (a b c : Nat) : cmpI (a + c) (b + c) = cmpI a b := by unfold cmpI; split <;> split <;> (try split) <;> (try split) <;> omega
set_option maxHeartbeats 4000000 in
set_option maxRecDepth 100000 in
theorem rings_big (ax ay az : Option Addr) (cx cy cz nx ny nz : Nat) (h : 16 < nx ∨ 16 < ny ∨ 16 < nz) (w : World) (htab : Tab w) :
  Calls Tryz.prog 16 #[.slice ax nx cx, .slice ay ny cy, .slice az nz cz] w fun e w' => e = .returned (.bool true) ∧ Below w.heap.size w w' := by
 have HW := Lib.hid (works_any w htab)
 have key : (decide ((16 : Int) < (nx : Int)) = true) ∨ (decide ((16 : Int) < (nx : Int)) = false ∧ decide ((16 : Int) < (ny : Int)) = true) ∨ (decide ((16 : Int) < (nx : Int)) = false ∧ decide ((16 : Int) < (ny : Int)) = false ∧ decide ((16 : Int) < (nz : Int)) = true) := by
  by_cases h0 : 16 < nx
  ·exact .inl (decide_eq_true (by omega))
  ·skip
   by_cases h1 : 16 < ny
   ·exact .inr (.inl ⟨decide_eq_false (by omega), decide_eq_true (by omega)⟩)
   ·exact .inr (.inr (⟨decide_eq_false (by omega), decide_eq_false (by omega), decide_eq_true (by omega)⟩))
 clear h
 rcases key with k0 | ⟨k0, k1⟩ | ⟨k0, k1, k2⟩
 all_goals (
  go_enter Tryz.func16, Tryz.ntmps16
  go_wp2_with fail
  with_reducible refine Calls.mono HW.out ?_
  rintro e w1 ⟨rfl, hb⟩
  go_wp2_with fail
  exact bodyPost_ret (v := .bool true) (by simp [results, Tryz.results16, go_sem]) rfl ⟨rfl, hb⟩)
set_option maxHeartbeats 16000000 in
set_option maxRecDepth 100000 in
theorem rings_small (vx vy vz : Value) (lx ly lz : List Nat) (w : World) (htab : Tab w) (hx : Ws w vx lx) (hy : Ws w vy ly) (hz : Ws w vz lz) (nx : lx.length ≤ 16) (ny : ly.length ≤ 16) (nz : lz.length ≤ 16) :
  Calls Tryz.prog 16 #[vx, vy, vz] w fun e w' => e = .returned (.bool true) ∧ Below w.heap.size w w' := by
 have MX := fun w h => made_any vx lx (by omega) w h
 have MY := fun w h => made_any vy ly (by omega) w h
 have MZ := fun w h => made_any vz lz (by omega) w h
 obtain ⟨ax, cx, ex⟩ := hx.form
 obtain ⟨ay, cy, ey⟩ := hy.form
 obtain ⟨az, cz, ez⟩ := hz.form
 have dx := Nat.le_trans (made_digs hx.lt) nx
 have dy := Nat.le_trans (made_digs hy.lt) ny
 have dz := Nat.le_trans (made_digs hz.lt) nz
 subst ex ey ez
 have kx : decide ((16 : Int) < (lx.length : Int)) = false := decide_eq_false (by omega)
 have ky : decide ((16 : Int) < (ly.length : Int)) = false := decide_eq_false (by omega)
 have kz : decide ((16 : Int) < (lz.length : Int)) = false := decide_eq_false (by omega)
 generalize made lx = a at *
 generalize made ly = b at *
 generalize made lz = c at *
 replace hx := Lib.hid hx
 replace MX := Lib.hid MX
 replace hy := Lib.hid hy
 replace MY := Lib.hid MY
 replace hz := Lib.hid hz
 replace MZ := Lib.hid MZ
 generalize lx.length = Nx at *
 generalize ly.length = Ny at *
 generalize lz.length = Nz at *
 obtain ⟨T, hT⟩ : ∃ T, T = 2 ^ 64 := ⟨_, rfl⟩
 have ds : (digs (a + b)).length ≤ 17 := digs_add_le dx dy
 have dp : (digs (a * b)).length ≤ 32 := Nat.le_trans (digs_mul_le dx dy) (by omega)
 have dt : (digs (b + c)).length ≤ 17 := digs_add_le dy dz
 have dr : (digs (b * c)).length ≤ 32 := Nat.le_trans (digs_mul_le dy dz) (by omega)
 have dm : (digs (a * c)).length ≤ 32 := Nat.le_trans (digs_mul_le dx dz) (by omega)
 have de : (digs (a + c)).length ≤ 17 := digs_add_le dx dz
 have Aab := fun w => add_any a b (by omega) (by omega) w
 have S1 := fun w => sub_ge (a + b) b (by omega) (by omega) w
 rw [Nat.add_sub_cancel] at S1
 have Aba := fun w => add_any b a (by omega) (by omega) w
 rw [Nat.add_comm b a] at Aba
 have Mab := fun w => mul_any a b (by omega) (by omega) w
 have Mba := fun w => mul_any b a (by omega) (by omega) w
 rw [Nat.mul_comm b a] at Mba
 have Asc := fun w => add_any (a + b) c (by omega) (by omega) w
 have Abc := fun w => add_any b c (by omega) (by omega) w
 have Aat := fun w => add_any a (b + c) (by omega) (by omega) w
 rw [← Nat.add_assoc] at Aat
 have Mpc := fun w => mul_any (a * b) c (by omega) (by omega) w
 have Mbc := fun w => mul_any b c (by omega) (by omega) w
 have Mar := fun w => mul_any a (b * c) (by omega) (by omega) w
 rw [← Nat.mul_assoc] at Mar
 have Mat := fun w => mul_any a (b + c) (by omega) (by omega) w
 have Mac := fun w => mul_any a c (by omega) (by omega) w
 have Apm := fun w => add_any (a * b) (a * c) (by omega) (by omega) w
 rw [← Nat.mul_add] at Apm
 have A0 := fun w => add_any a 0 (by omega) (by rw [digs_zero]; exact Nat.zero_le _) w
 rw [Nat.add_zero] at A0
 have M1 := fun w => mul_any a 1 (by omega) (Nat.le_trans (sm_digs (k := 1) (by unfold Bs; decide)) (by omega)) w
 rw [Nat.mul_one] at M1
 have M0 := fun w => mul_any a 0 (by omega) (by rw [digs_zero]; exact Nat.zero_le _) w
 rw [Nat.mul_zero] at M0
 have Cab := fun w => cmp_any a b w
 have Cba := fun w => cmp_any b a w
 have Aac := fun w => add_any a c (by omega) (by omega) w
 have Abc2 := fun w => add_any b c (by omega) (by omega) w
 have Cee := fun w => cmp_any (a + c) (b + c) w
 rw [cmpI_add] at Cee
 have O1 := fun w => of_val 1 1 rfl (by unfold Bs; omega) w
 have O2 := fun w => of_val 2 2 rfl (by unfold Bs; omega) w
 have P2 := fun w => pow_ok 2 64 (by omega) (.inr (Nat.le_trans (nb_le64 (by unfold Bs; omega)) (by decide))) (Nat.le_trans (sm_digs (k := 1) (by unfold Bs; decide)) (by omega)) w
 rw [← hT] at P2
 have CT := fun w => cmp_any a T w
 have hTB : T = Bs := by rw [hT]; unfold Bs; rfl
 generalize a + b + c = u at *
 generalize a * b * c = v at *
 generalize a * (b + c) = mt at *
 generalize a + b = s at *
 generalize a * b = p at *
 generalize b + c = t at *
 generalize b * c = r at *
 generalize a * c = m at *
 generalize a + c = ac at *
 have hcw := cmpI_way a b
 obtain ⟨z, hz⟩ : ∃ z, z = cmpI a b := ⟨_, rfl⟩
 have hcb : cmpI b a = -z := by rw [hz, cmpI_neg b a]
 rw [hcb] at Cba
 rw [← hz] at Cab Cee hcw
 clear hz hcb
 replace Aab := Lib.hid Aab
 replace S1 := Lib.hid S1
 replace Aba := Lib.hid Aba
 replace Mab := Lib.hid Mab
 replace Mba := Lib.hid Mba
 replace Asc := Lib.hid Asc
 replace Abc := Lib.hid Abc
 replace Aat := Lib.hid Aat
 replace Mpc := Lib.hid Mpc
 replace Mbc := Lib.hid Mbc
 replace Mar := Lib.hid Mar
 replace Mat := Lib.hid Mat
 replace Mac := Lib.hid Mac
 replace Apm := Lib.hid Apm
 replace A0 := Lib.hid A0
 replace M1 := Lib.hid M1
 replace M0 := Lib.hid M0
 replace Cab := Lib.hid Cab
 replace Cba := Lib.hid Cba
 replace Aac := Lib.hid Aac
 replace Cee := Lib.hid Cee
 replace O1 := Lib.hid O1
 replace O2 := Lib.hid O2
 replace P2 := Lib.hid P2
 replace CT := Lib.hid CT
 replace Abc2 := Lib.hid Abc2
 have HT := Lib.hid hTB
 replace hcw := Lib.hid hcw
 clear hT hTB ds dp dt dr dm de
 have hL0 : NL w w [] := NL.start w
 go_enter Tryz.func16, Tryz.ntmps16
 go_wp2_with fail
 with_reducible refine Calls.mono (MX.out _ hx.out) ?_
 rintro e x1 ⟨rfl, hb⟩
 replace hL0 := hL0.call hb
 clear hb MX
 go_wp2_with fail
 with_reducible refine Calls.mono (MY.out _ (hy.out.below hL0.bl)) ?_
 rintro e x2 ⟨rfl, hb⟩
 replace hL0 := hL0.call hb
 clear hb MY
 go_wp2_with fail
 with_reducible refine Calls.mono (MZ.out _ (hz.out.below hL0.bl)) ?_
 rintro e x3 ⟨rfl, hb⟩
 replace hL0 := hL0.call hb
 clear hb MZ
 replace hL0 := (((hL0.new rfl a 32).new (szA _ _) b 32).new (szA2 _ _ _) c 32)
 generalize hweq : (((x3.alloc (.cells #[.int .u64 ((lo a : Nat) : Int), .string (hs a)] 32)).alloc (.cells #[.int .u64 ((lo b : Nat) : Int), .string (hs b)] 32)).alloc (.cells #[.int .u64 ((lo c : Nat) : Int), .string (hs c)] 32)) = x4 at hL0
 go_upto_region 4 with fail
 clear hweq
 refine region_gh (by kernel_rfl) (by kernel_rfl) ?_
 refine lex_seg (gl := []) 8 (by kernel_rfl) ?_
 intro α iα F hF1 hF2
 obtain ⟨q1, s1⟩ := seg_get hF1 hL0 (x3.heap.size) a (by (repeat (first | with_reducible exact List.mem_cons_self | with_reducible refine List.mem_cons_of_mem _ ?_)))
 obtain ⟨q2, s2⟩ := seg_get hF1 hL0 (x3.heap.size + 1) b (by (repeat (first | with_reducible exact List.mem_cons_self | with_reducible refine List.mem_cons_of_mem _ ?_)))
 simp only [List.take_succ_cons, List.take_zero, List.drop_succ_cons, List.drop_zero, List.take_nil, List.drop_nil]
 repeat (go_big_quiet_step (first | fail | (go_at_call 102; with_reducible exact seg_call hF2 Aab.out _) | (go_at_call 100; with_reducible exact seg_call hF2 S1.out _)))
 refine wpQuiet_nil ?_
 clear q1 s1 q2 s2 hF1 hF2 iα F α
 refine lex_new (nc 0) 10 32 32 rfl rfl (of_decide_eq_true (by kernel_rfl)) (by kernel_rfl) rfl new_nat ?_
 simp only [Act.put, List.setIfInBounds_toArray, List.set_cons_succ, List.set_cons_zero]
 refine lex_put (nc a) (nc 0) 10 32 (.tmp 43) rfl (by kernel_rfl) (by simp [toG, upd]) rfl (fun w k h => put_nat 0 a w k h) ?_
 simp only [Act.put]
 refine lex_seg (gl := [(10, nc a, true), (10, nc 0, false)]) 1 (by kernel_rfl) ?_
 intro α iα F hF1 hF2
 obtain ⟨q3, s3⟩ := seg_get hF1 hL0 (x3.heap.size) a (by (repeat (first | with_reducible exact List.mem_cons_self | with_reducible refine List.mem_cons_of_mem _ ?_)))
 obtain ⟨q4, s4⟩ := seg_get hF1 hL0 (x3.heap.size + 1) b (by (repeat (first | with_reducible exact List.mem_cons_self | with_reducible refine List.mem_cons_of_mem _ ?_)))
 simp only [List.take_succ_cons, List.take_zero, List.drop_succ_cons, List.drop_zero, List.take_nil, List.drop_nil]
 repeat (go_big_quiet_step (first | fail | (go_at_call 102; with_reducible exact seg_call hF2 Aab.out _) | (go_at_call 100; with_reducible exact seg_call hF2 S1.out _)))
 refine wpQuiet_nil ?_
 clear q3 s3 q4 s4 hF1 hF2 iα F α
 refine lexG_nil ?_
 intro κ x5 hS
 replace hL0 := hL0.ghs hS [(10, a)] (by simp) (by intro p hp; simp only [List.mem_cons, List.not_mem_nil, or_false] at hp; rcases hp with rfl <;> exact ⟨_, by simp only [toG, upd]; rfl⟩)
 simp only [List.map_cons, List.map_nil, List.cons_append, List.nil_append] at hL0
 simp only [over_toG, over_nil, Act.put, List.setIfInBounds_toArray, List.set_cons_succ, List.set_cons_zero]
 clear hS
 generalize κ 10 = k5_10 at *
 go_upto_region 5 with fail
 obtain ⟨α, iα, F, hF1, hF2⟩ := cls x5
 obtain ⟨q5, s5⟩ := cls_get hF1 hL0 (x3.heap.size) a (by (repeat (first | with_reducible exact List.mem_cons_self | with_reducible refine List.mem_cons_of_mem _ ?_)))
 obtain ⟨q6, s6⟩ := cls_get hF1 hL0 (x3.heap.size + 1) b (by (repeat (first | with_reducible exact List.mem_cons_self | with_reducible refine List.mem_cons_of_mem _ ?_)))
 obtain ⟨q7, s7⟩ := cls_get hF1 hL0 (x3.heap.size + 1 + 1) c (by (repeat (first | with_reducible exact List.mem_cons_self | with_reducible refine List.mem_cons_of_mem _ ?_)))
 obtain ⟨q8, s8⟩ := cls_get hF1 hL0 (k5_10) a (by (repeat (first | with_reducible exact List.mem_cons_self | with_reducible refine List.mem_cons_of_mem _ ?_)))
 refine region_cls (F := F) (by kernel_rfl) (by kernel_rfl) (cls_drew hF2) ?_
 simp only [List.append]
 repeat (go_big_quiet_step (first
  | (go_at_call 102; with_reducible exact cls_call hF1 hF2 Aab.out _)
  | (go_at_call 102; with_reducible exact cls_call hF1 hF2 Aba.out _)
  | (go_at_call 102; with_reducible exact cls_call hF1 hF2 Asc.out _)
  | (go_at_call 102; with_reducible exact cls_call hF1 hF2 Abc.out _)
  | (go_at_call 102; with_reducible exact cls_call hF1 hF2 Aat.out _)
  | (go_at_call 102; with_reducible exact cls_call hF1 hF2 Apm.out _)
  | (go_at_call 107; with_reducible exact cls_call hF1 hF2 Mab.out _)
  | (go_at_call 107; with_reducible exact cls_call hF1 hF2 Mba.out _)
  | (go_at_call 107; with_reducible exact cls_call hF1 hF2 Mpc.out _)
  | (go_at_call 107; with_reducible exact cls_call hF1 hF2 Mbc.out _)
  | (go_at_call 107; with_reducible exact cls_call hF1 hF2 Mar.out _)
  | (go_at_call 107; with_reducible exact cls_call hF1 hF2 Mat.out _)
  | (go_at_call 107; with_reducible exact cls_call hF1 hF2 Mac.out _)))
 refine wpQuiet_nil ?_
 intro wq hwq
 obtain ⟨xq, rfl⟩ := hwq
 have hLq := hL0.call (hF1 xq)
 generalize F xq = x6 at hLq ⊢
 replace hL0 := hLq
 clear hLq hF1 hF2 q5 s5 q6 s6 q7 s7 q8 s8
 go_upto_region 8 with fail
 replace hL0 := hL0.new0 rfl 32
 generalize hz : x6.alloc (.cells #[.int .u64 0, .string ⟨#[]⟩] 32) = wz at hL0 ⊢
 clear hz
 clear Aab S1 Aba Mab Mba Asc Abc Aat Mpc Mbc Mar Mat Mac Apm
 rcases hcw.out with rfl | rfl | rfl
 all_goals (
  obtain ⟨α, iα, F, hF1, hF2⟩ := cls wz
  obtain ⟨q9, s9⟩ := cls_get hF1 hL0 (x3.heap.size) a (by (repeat (first | with_reducible exact List.mem_cons_self | with_reducible refine List.mem_cons_of_mem _ ?_)))
  obtain ⟨q10, s10⟩ := cls_get hF1 hL0 (x3.heap.size + 1) b (by (repeat (first | with_reducible exact List.mem_cons_self | with_reducible refine List.mem_cons_of_mem _ ?_)))
  obtain ⟨q11, s11⟩ := cls_get hF1 hL0 (x3.heap.size + 1 + 1) c (by (repeat (first | with_reducible exact List.mem_cons_self | with_reducible refine List.mem_cons_of_mem _ ?_)))
  obtain ⟨q12, s12⟩ := cls_get hF1 hL0 (x6.heap.size) 0 (by (repeat (first | with_reducible exact List.mem_cons_self | with_reducible refine List.mem_cons_of_mem _ ?_)))
  refine region_cls (F := F) (by kernel_rfl) (by kernel_rfl) (cls_drew hF2) ?_
  repeat (go_big_quiet_step (first
   | (go_at_call 102; with_reducible exact cls_call hF1 hF2 A0.out _)
   | (go_at_call 102; with_reducible exact cls_call hF1 hF2 Aac.out _)
   | (go_at_call 102; with_reducible exact cls_call hF1 hF2 Abc2.out _)
   | (go_at_call 107; with_reducible exact cls_call hF1 hF2 M1.out _)
   | (go_at_call 107; with_reducible exact cls_call hF1 hF2 M0.out _)
   | (go_at_call 104; with_reducible exact cls_call hF1 hF2 Cab.out _)
   | (go_at_call 104; with_reducible exact cls_call hF1 hF2 Cba.out _)
   | (go_at_call 104; with_reducible exact cls_call hF1 hF2 Cee.out _)
   | (go_at_call 81; with_reducible exact cls_call hF1 hF2 O1.out _)))
  refine wpQuiet_nil ?_
  intro wq hwq
  obtain ⟨xq, rfl⟩ := hwq
  have hLq := hL0.call (hF1 xq)
  generalize F xq = x7 at hLq ⊢
  replace hL0 := hLq
  clear hLq hF1 hF2 q9 s9 q10 s10 q11 s11 q12 s12
  clear A0 M1 M0 Cab Cba Aac Abc2 Cee O1
  rcases Nat.lt_or_ge a Bs with hs | hs
  ·have U10 := Lib.hid (fun w => u64_small a hs w)
   have Oa := Lib.hid (fun w => of_any a hs w)
   have c1 : decide (cmpI a T < 0) = true := decide_eq_true (by rw [cmpI_lt (by rw [HT.out]; exact hs)]; omega)
   have HW := Lib.hid (fun w h => works_any w h)
   clear hs HT
   obtain ⟨p13, r13⟩ := hL0.get (x3.heap.size) a (by (repeat (first | with_reducible exact List.mem_cons_self | with_reducible refine List.mem_cons_of_mem _ ?_)))
   go_wp2_with fail
   with_reducible refine Calls.mono (U10.out _) ?_
   rintro e x8 ⟨rfl, hb⟩
   replace hL0 := hL0.call hb
   clear hb U10
   go_wp2_with fail
   with_reducible refine Calls.mono (O2.out _) ?_
   rintro e x9 ⟨rfl, hb⟩
   replace hL0 := hL0.call hb
   clear hb O2
   go_wp2_with fail
   with_reducible refine Calls.mono (P2.out _) ?_
   rintro e x10 ⟨rfl, hb⟩
   replace hL0 := hL0.call hb
   clear hb P2
   replace hL0 := (hL0.new rfl T 32)
   generalize hweq : (x10.alloc (.cells #[.int .u64 ((lo T : Nat) : Int), .string (hs T)] 32)) = x11 at hL0
   go_upto_region 12 with fail
   clear hweq
   have ht0 := htab.below hL0.bl
   obtain ⟨α, iα, F, hF1, hF2⟩ := cls x11
   obtain ⟨q14, s14⟩ := cls_get hF1 hL0 (x3.heap.size) a (by (repeat (first | with_reducible exact List.mem_cons_self | with_reducible refine List.mem_cons_of_mem _ ?_)))
   obtain ⟨q15, s15⟩ := cls_get hF1 hL0 (x10.heap.size) T (by (repeat (first | with_reducible exact List.mem_cons_self | with_reducible refine List.mem_cons_of_mem _ ?_)))
   refine region_cls (F := F) (by kernel_rfl) (by kernel_rfl) (cls_drew hF2) ?_
   repeat (go_big_quiet_step (first
    | (go_at_call 104; with_reducible exact cls_call hF1 hF2 CT.out _)
    | (go_at_call 21; with_reducible exact cls_callT hF1 hF2 ht0 HW.out _)
    | (go_at_call 81; with_reducible exact cls_call hF1 hF2 Oa.out _)))
   refine wpQuiet_nil ?_
   intro wq hwq
   obtain ⟨xq, rfl⟩ := hwq
   have hLq := hL0.call (hF1 xq)
   generalize F xq = x12 at hLq ⊢
   replace hL0 := hLq
   clear hLq hF1 hF2 q14 s14 q15 s15
   go_wp2_with fail
   exact bodyPost_ret (v := .bool true) (by simp [results, Tryz.results16, go_sem]) rfl ⟨rfl, hL0.bl⟩
  ·have U10 := Lib.hid (fun w => u64_big a hs w)
   have c1 : decide (cmpI a T < 0) = false := decide_eq_false (by unfold cmpI; rw [if_neg (by rw [HT.out]; omega)]; split <;> omega)
   have HW := Lib.hid (fun w h => works_any w h)
   clear hs HT
   obtain ⟨p16, r16⟩ := hL0.get (x3.heap.size) a (by (repeat (first | with_reducible exact List.mem_cons_self | with_reducible refine List.mem_cons_of_mem _ ?_)))
   go_wp2_with fail
   with_reducible refine Calls.mono (U10.out _) ?_
   rintro e x13 ⟨rfl, hb⟩
   replace hL0 := hL0.call hb
   clear hb U10
   go_wp2_with fail
   with_reducible refine Calls.mono (O2.out _) ?_
   rintro e x14 ⟨rfl, hb⟩
   replace hL0 := hL0.call hb
   clear hb O2
   go_wp2_with fail
   with_reducible refine Calls.mono (P2.out _) ?_
   rintro e x15 ⟨rfl, hb⟩
   replace hL0 := hL0.call hb
   clear hb P2
   replace hL0 := (hL0.new rfl T 32)
   generalize hweq : (x15.alloc (.cells #[.int .u64 ((lo T : Nat) : Int), .string (hs T)] 32)) = x16 at hL0
   go_upto_region 12 with fail
   clear hweq
   have ht0 := htab.below hL0.bl
   obtain ⟨α, iα, F, hF1, hF2⟩ := cls x16
   obtain ⟨q17, s17⟩ := cls_get hF1 hL0 (x3.heap.size) a (by (repeat (first | with_reducible exact List.mem_cons_self | with_reducible refine List.mem_cons_of_mem _ ?_)))
   obtain ⟨q18, s18⟩ := cls_get hF1 hL0 (x15.heap.size) T (by (repeat (first | with_reducible exact List.mem_cons_self | with_reducible refine List.mem_cons_of_mem _ ?_)))
   refine region_cls (F := F) (by kernel_rfl) (by kernel_rfl) (cls_drew hF2) ?_
   repeat (go_big_quiet_step (first
    | (go_at_call 104; with_reducible exact cls_call hF1 hF2 CT.out _)
    | (go_at_call 21; with_reducible exact cls_callT hF1 hF2 ht0 HW.out _)))
   refine wpQuiet_nil ?_
   intro wq hwq
   obtain ⟨xq, rfl⟩ := hwq
   have hLq := hL0.call (hF1 xq)
   generalize F xq = x17 at hLq ⊢
   replace hL0 := hLq
   clear hLq hF1 hF2 q17 s17 q18 s18
   go_wp2_with fail
   exact bodyPost_ret (v := .bool true) (by simp [results, Tryz.results16, go_sem]) rfl ⟨rfl, hL0.bl⟩)
theorem rings_any (vx vy vz : Value) (lx ly lz : List Nat) (w : World) (htab : Tab w) (hx : Ws w vx lx) (hy : Ws w vy ly) (hz : Ws w vz lz) :
  Calls Tryz.prog 16 #[vx, vy, vz] w fun e w' => e = .returned (.bool true) ∧ Below w.heap.size w w' := by
 by_cases h : 16 < lx.length ∨ 16 < ly.length ∨ 16 < lz.length
 ·obtain ⟨ax, cx, rfl⟩ := hx.form
  obtain ⟨ay, cy, rfl⟩ := hy.form
  obtain ⟨az, cz, rfl⟩ := hz.form
  exact rings_big ax ay az cx cy cz _ _ _ h w htab
 ·exact rings_small vx vy vz lx ly lz w htab hx hy hz (by omega) (by omega) (by omega)
end Go.Proofs.YtdmoadfnogdfnaaGreatDoor
namespace Go.Proofs.YtdmoadfnogdfnaaGreatDoor
open Go.RowKit
attribute [local irreducible] lo hs sm s64 c64 d64 b64 mh ml pd pc qd qc val hiB str cmpI srD lz nb isq decB txt
set_option maxHeartbeats 4000000 in
set_option maxRecDepth 100000 in
theorem sums_big (ax ay : Option Addr) (cx cy nx ny : Nat) (h : 24 < nx ∨ 24 < ny) (w : World) (htab : Tab w) :
  Calls Tryz.prog 12 #[.slice ax nx cx, .slice ay ny cy] w fun e w' => e = .returned (.bool true) ∧ Below w.heap.size w w' := by
 have HW := Lib.hid (works_any w htab)
 have key : (decide ((24 : Int) < (nx : Int)) = true) ∨ (decide ((24 : Int) < (nx : Int)) = false ∧ decide ((24 : Int) < (ny : Int)) = true) := by
  by_cases h0 : 24 < nx
  ·exact .inl (decide_eq_true (by omega))
  ·exact .inr (⟨decide_eq_false (by omega), decide_eq_true (by omega)⟩)
 clear h
 rcases key with k0 | ⟨k0, k1⟩
 all_goals (
  go_enter Tryz.func12, Tryz.ntmps12
  go_wp2_with fail
  with_reducible refine Calls.mono HW.out ?_
  rintro e w1 ⟨rfl, hb⟩
  go_wp2_with fail
  exact bodyPost_ret (v := .bool true) (by simp [results, Tryz.results12, go_sem]) rfl ⟨rfl, hb⟩)
set_option maxHeartbeats 16000000 in
set_option maxRecDepth 100000 in
theorem sums_small (vx vy : Value) (lx ly : List Nat) (w : World) (htab : Tab w) (hx : Ws w vx lx) (hy : Ws w vy ly) (nx : lx.length ≤ 24) (ny : ly.length ≤ 24) :
  Calls Tryz.prog 12 #[vx, vy] w fun e w' => e = .returned (.bool true) ∧ Below w.heap.size w w' := by
 have MX := fun w h => made_any vx lx (by omega) w h
 have MY := fun w h => made_any vy ly (by omega) w h
 obtain ⟨ax, cx, ex⟩ := hx.form
 obtain ⟨ay, cy, ey⟩ := hy.form
 have dx := Nat.le_trans (made_digs hx.lt) nx
 have dy := Nat.le_trans (made_digs hy.lt) ny
 have tx := Nat.le_trans (Rx.td_made hx.lt) (Nat.mul_le_mul_left 3 nx)
 have RX := fun w h => Rx.rofw_any vx lx (by omega) w h
 have ty := Nat.le_trans (Rx.td_made hy.lt) (Nat.mul_le_mul_left 3 ny)
 have RY := fun w h => Rx.rofw_any vy ly (by omega) w h
 subst ex ey
 have kx : decide ((24 : Int) < (lx.length : Int)) = false := decide_eq_false (by omega)
 have ky : decide ((24 : Int) < (ly.length : Int)) = false := decide_eq_false (by omega)
 generalize made lx = a at *
 generalize made ly = b at *
 replace hx := Lib.hid hx
 replace MX := Lib.hid MX
 replace hy := Lib.hid hy
 replace MY := Lib.hid MY
 replace RX := Lib.hid RX
 replace RY := Lib.hid RY
 generalize lx.length = Nx at *
 generalize ly.length = Ny at *
 have ds : (digs (a + b)).length ≤ 25 := digs_add_le dx dy
 have ts : (Rx.td (a + b)).length ≤ 73 := Rx.td_add_le tx ty
 have Aab := fun w => add_any a b (by omega) (by omega) w
 have Rab := fun va vb w ha hb => Rx.radd_any va vb a b (by omega) (by omega) w ha hb
 have Rc := fun va vb w ha hb => Rx.rcmp_any va vb a b (by omega) (by omega) w ha hb
 have Cab := fun w => cmp_any a b w
 have SMa := fun v w ht hv => Rx.same_any a v (by omega) (by omega) w ht hv
 have SMs := fun v w ht hv => Rx.same_any (a + b) v (by omega) (by omega) w ht hv
 generalize a + b = s at *
 replace Aab := Lib.hid Aab
 replace SMa := Lib.hid SMa
 replace SMs := Lib.hid SMs
 replace Rab := Lib.hid Rab
 clear ds ts
 have hL0 : NL w w [] := NL.start w
 rcases Nat.lt_trichotomy a b with hlt | hlt | hlt
 ·have hcm := cmpI_lt hlt
  have Sab := fun w => sub_lt a b hlt w
  have hne : a ≠ b := by omega
  rw [hcm] at Cab Rc
  replace Cab := Lib.hid Cab
  replace Rc := Lib.hid Rc
  replace Sab := Lib.hid Sab
  clear hcm hlt
  have hnn := natV_ne hne
  clear hne
  replace hnn := Lib.hid hnn
  go_enter Tryz.func12, Tryz.ntmps12
  go_wp2_with fail
  with_reducible refine Calls.mono (MX.out _ hx.out) ?_
  rintro e x1 ⟨rfl, hb⟩
  replace hL0 := hL0.call hb
  clear hb MX
  go_wp2_with fail
  with_reducible refine Calls.mono (MY.out _ (hy.out.below hL0.bl)) ?_
  rintro e x2 ⟨rfl, hb⟩
  replace hL0 := hL0.call hb
  clear hb MY
  replace hL0 := ((hL0.new rfl a 32).new (szA _ _) b 32)
  generalize hweq : ((x2.alloc (.cells #[.int .u64 ((lo a : Nat) : Int), .string (hs a)] 32)).alloc (.cells #[.int .u64 ((lo b : Nat) : Int), .string (hs b)] 32)) = x3 at hL0
  go_wp2_with fail
  with_reducible refine Calls.mono (RX.out _ (hx.out.below hL0.bl)) ?_
  rintro e x4 ⟨v7, rfl, h7, hb⟩
  replace hL0 := hL0.call hb
  clear hb RX hweq
  replace h7 := Lib.hid h7
  go_wp2_with fail
  with_reducible refine Calls.mono (RY.out _ (hy.out.below hL0.bl)) ?_
  rintro e x5 ⟨v8, rfl, h8, hb⟩
  replace hL0 := hL0.call hb
  replace h7 := Lib.hid (h7.out.below hb)
  clear hb RY
  replace h8 := Lib.hid h8
  go_wp2_with fail
  with_reducible refine Calls.mono (Rc.out _ _ _ h7.out h8.out) ?_
  rintro e x6 ⟨rfl, hb⟩
  replace hL0 := hL0.call hb
  replace h7 := Lib.hid (h7.out.below hb)
  replace h8 := Lib.hid (h8.out.below hb)
  clear hb Rc
  obtain ⟨p1, r1⟩ := hL0.get (x2.heap.size) a (by (repeat (first | with_reducible exact List.mem_cons_self | with_reducible refine List.mem_cons_of_mem _ ?_)))
  obtain ⟨p2, r2⟩ := hL0.get (x2.heap.size + 1) b (by (repeat (first | with_reducible exact List.mem_cons_self | with_reducible refine List.mem_cons_of_mem _ ?_)))
  go_wp2_with fail
  with_reducible refine Calls.mono (Sab.out _) ?_
  rintro e x7 ⟨rfl, hb⟩
  replace hL0 := hL0.call hb
  replace h7 := Lib.hid (h7.out.below hb)
  replace h8 := Lib.hid (h8.out.below hb)
  clear hb Sab
  replace h7 := Lib.hid (h7.out.below (below1 _ (.cells #[.int .u64 ((lo 0 : Nat) : Int), .string (hs 0)] 32)))
  replace h8 := Lib.hid (h8.out.below (below1 _ (.cells #[.int .u64 ((lo 0 : Nat) : Int), .string (hs 0)] 32)))
  replace hL0 := (hL0.new rfl 0 32)
  generalize hweq : (x7.alloc (.cells #[.int .u64 ((lo 0 : Nat) : Int), .string (hs 0)] 32)) = x8 at hL0 h7 h8
  rcases hnn.out with hn1 | ⟨hn1, hn2⟩
  ·skip
   obtain ⟨p3, r3⟩ := hL0.get (x2.heap.size) a (by (repeat (first | with_reducible exact List.mem_cons_self | with_reducible refine List.mem_cons_of_mem _ ?_)))
   obtain ⟨p4, r4⟩ := hL0.get (x2.heap.size + 1) b (by (repeat (first | with_reducible exact List.mem_cons_self | with_reducible refine List.mem_cons_of_mem _ ?_)))
   obtain ⟨p5, r5⟩ := hL0.get (x7.heap.size) 0 (by (repeat (first | with_reducible exact List.mem_cons_self | with_reducible refine List.mem_cons_of_mem _ ?_)))
   go_wp2_with fail
   with_reducible refine Calls.mono (SMa.out _ _ (htab.below hL0.bl) h7.out) ?_
   rintro e x9 ⟨rfl, hb⟩
   replace hL0 := hL0.call hb
   replace h7 := Lib.hid (h7.out.below hb)
   replace h8 := Lib.hid (h8.out.below hb)
   clear hb SMa hweq
   obtain ⟨p6, r6⟩ := hL0.get (x2.heap.size) a (by (repeat (first | with_reducible exact List.mem_cons_self | with_reducible refine List.mem_cons_of_mem _ ?_)))
   obtain ⟨p7, r7⟩ := hL0.get (x2.heap.size + 1) b (by (repeat (first | with_reducible exact List.mem_cons_self | with_reducible refine List.mem_cons_of_mem _ ?_)))
   obtain ⟨p8, r8⟩ := hL0.get (x7.heap.size) 0 (by (repeat (first | with_reducible exact List.mem_cons_self | with_reducible refine List.mem_cons_of_mem _ ?_)))
   go_wp2_with fail
   with_reducible refine Calls.mono (Aab.out _) ?_
   rintro e x10 ⟨rfl, hb⟩
   replace hL0 := hL0.call hb
   replace h7 := Lib.hid (h7.out.below hb)
   replace h8 := Lib.hid (h8.out.below hb)
   clear hb Aab
   obtain ⟨p9, r9⟩ := hL0.get (x2.heap.size) a (by (repeat (first | with_reducible exact List.mem_cons_self | with_reducible refine List.mem_cons_of_mem _ ?_)))
   obtain ⟨p10, r10⟩ := hL0.get (x2.heap.size + 1) b (by (repeat (first | with_reducible exact List.mem_cons_self | with_reducible refine List.mem_cons_of_mem _ ?_)))
   obtain ⟨p11, r11⟩ := hL0.get (x7.heap.size) 0 (by (repeat (first | with_reducible exact List.mem_cons_self | with_reducible refine List.mem_cons_of_mem _ ?_)))
   go_wp2_with fail
   with_reducible refine Calls.mono (Rab.out _ _ _ h7.out h8.out) ?_
   rintro e x11 ⟨v48, rfl, h48, hb⟩
   replace hL0 := hL0.call hb
   replace h7 := Lib.hid (h7.out.below hb)
   replace h8 := Lib.hid (h8.out.below hb)
   clear hb Rab
   replace h48 := Lib.hid h48
   obtain ⟨p12, r12⟩ := hL0.get (x2.heap.size) a (by (repeat (first | with_reducible exact List.mem_cons_self | with_reducible refine List.mem_cons_of_mem _ ?_)))
   obtain ⟨p13, r13⟩ := hL0.get (x2.heap.size + 1) b (by (repeat (first | with_reducible exact List.mem_cons_self | with_reducible refine List.mem_cons_of_mem _ ?_)))
   obtain ⟨p14, r14⟩ := hL0.get (x7.heap.size) 0 (by (repeat (first | with_reducible exact List.mem_cons_self | with_reducible refine List.mem_cons_of_mem _ ?_)))
   go_wp2_with fail
   with_reducible refine Calls.mono (SMs.out _ _ (htab.below hL0.bl) h48.out) ?_
   rintro e x12 ⟨rfl, hb⟩
   replace hL0 := hL0.call hb
   replace h7 := Lib.hid (h7.out.below hb)
   replace h8 := Lib.hid (h8.out.below hb)
   clear hb SMs
   clear h48
   obtain ⟨p15, r15⟩ := hL0.get (x2.heap.size) a (by (repeat (first | with_reducible exact List.mem_cons_self | with_reducible refine List.mem_cons_of_mem _ ?_)))
   obtain ⟨p16, r16⟩ := hL0.get (x2.heap.size + 1) b (by (repeat (first | with_reducible exact List.mem_cons_self | with_reducible refine List.mem_cons_of_mem _ ?_)))
   obtain ⟨p17, r17⟩ := hL0.get (x7.heap.size) 0 (by (repeat (first | with_reducible exact List.mem_cons_self | with_reducible refine List.mem_cons_of_mem _ ?_)))
   go_wp2_with fail
   with_reducible refine Calls.mono (Cab.out _) ?_
   rintro e x13 ⟨rfl, hb⟩
   replace hL0 := hL0.call hb
   replace h7 := Lib.hid (h7.out.below hb)
   replace h8 := Lib.hid (h8.out.below hb)
   clear hb Cab
   obtain ⟨p18, r18⟩ := hL0.get (x2.heap.size) a (by (repeat (first | with_reducible exact List.mem_cons_self | with_reducible refine List.mem_cons_of_mem _ ?_)))
   obtain ⟨p19, r19⟩ := hL0.get (x2.heap.size + 1) b (by (repeat (first | with_reducible exact List.mem_cons_self | with_reducible refine List.mem_cons_of_mem _ ?_)))
   obtain ⟨p20, r20⟩ := hL0.get (x7.heap.size) 0 (by (repeat (first | with_reducible exact List.mem_cons_self | with_reducible refine List.mem_cons_of_mem _ ?_)))
   have z1 : (((lo 0 : Nat) : Int) == 0) = true := by rw [lo_zero]; rfl
   have z2 : ((hs 0).toList == []) = true := by rw [hs_zero, ByteArray.toList_eq]; rfl
   go_upto_region 9 with fail
   have ht0 := htab.below hL0.bl
   have HW := Lib.hid (fun w h => works_any w h)
   obtain ⟨α, iα, F, hF1, hF2⟩ := cls x13
   obtain ⟨q21, s21⟩ := cls_get hF1 hL0 (x7.heap.size) 0 (by (repeat (first | with_reducible exact List.mem_cons_self | with_reducible refine List.mem_cons_of_mem _ ?_)))
   refine region_cls (F := F) (by kernel_rfl) (by kernel_rfl) (cls_drew hF2) ?_
   repeat (go_big_quiet_step (first
    | (go_at_call 21; with_reducible exact cls_callT hF1 hF2 ht0 HW.out _)))
   refine wpQuiet_nil ?_
   intro wq hwq
   obtain ⟨xq, rfl⟩ := hwq
   have hLq := hL0.call (hF1 xq)
   generalize F xq = x14 at hLq ⊢
   replace hL0 := hLq
   clear hLq hF1 hF2 q21 s21
   go_wp2_with fail
   exact bodyPost_ret (v := .bool true) (by simp [results, Tryz.results12, go_sem]) rfl ⟨rfl, hL0.bl⟩
  ·skip
   obtain ⟨p22, r22⟩ := hL0.get (x2.heap.size) a (by (repeat (first | with_reducible exact List.mem_cons_self | with_reducible refine List.mem_cons_of_mem _ ?_)))
   obtain ⟨p23, r23⟩ := hL0.get (x2.heap.size + 1) b (by (repeat (first | with_reducible exact List.mem_cons_self | with_reducible refine List.mem_cons_of_mem _ ?_)))
   obtain ⟨p24, r24⟩ := hL0.get (x7.heap.size) 0 (by (repeat (first | with_reducible exact List.mem_cons_self | with_reducible refine List.mem_cons_of_mem _ ?_)))
   go_wp2_with fail
   with_reducible refine Calls.mono (SMa.out _ _ (htab.below hL0.bl) h7.out) ?_
   rintro e x15 ⟨rfl, hb⟩
   replace hL0 := hL0.call hb
   replace h7 := Lib.hid (h7.out.below hb)
   replace h8 := Lib.hid (h8.out.below hb)
   clear hb SMa hweq
   obtain ⟨p25, r25⟩ := hL0.get (x2.heap.size) a (by (repeat (first | with_reducible exact List.mem_cons_self | with_reducible refine List.mem_cons_of_mem _ ?_)))
   obtain ⟨p26, r26⟩ := hL0.get (x2.heap.size + 1) b (by (repeat (first | with_reducible exact List.mem_cons_self | with_reducible refine List.mem_cons_of_mem _ ?_)))
   obtain ⟨p27, r27⟩ := hL0.get (x7.heap.size) 0 (by (repeat (first | with_reducible exact List.mem_cons_self | with_reducible refine List.mem_cons_of_mem _ ?_)))
   go_wp2_with fail
   with_reducible refine Calls.mono (Aab.out _) ?_
   rintro e x16 ⟨rfl, hb⟩
   replace hL0 := hL0.call hb
   replace h7 := Lib.hid (h7.out.below hb)
   replace h8 := Lib.hid (h8.out.below hb)
   clear hb Aab
   obtain ⟨p28, r28⟩ := hL0.get (x2.heap.size) a (by (repeat (first | with_reducible exact List.mem_cons_self | with_reducible refine List.mem_cons_of_mem _ ?_)))
   obtain ⟨p29, r29⟩ := hL0.get (x2.heap.size + 1) b (by (repeat (first | with_reducible exact List.mem_cons_self | with_reducible refine List.mem_cons_of_mem _ ?_)))
   obtain ⟨p30, r30⟩ := hL0.get (x7.heap.size) 0 (by (repeat (first | with_reducible exact List.mem_cons_self | with_reducible refine List.mem_cons_of_mem _ ?_)))
   go_wp2_with fail
   with_reducible refine Calls.mono (Rab.out _ _ _ h7.out h8.out) ?_
   rintro e x17 ⟨v48, rfl, h48, hb⟩
   replace hL0 := hL0.call hb
   replace h7 := Lib.hid (h7.out.below hb)
   replace h8 := Lib.hid (h8.out.below hb)
   clear hb Rab
   replace h48 := Lib.hid h48
   obtain ⟨p31, r31⟩ := hL0.get (x2.heap.size) a (by (repeat (first | with_reducible exact List.mem_cons_self | with_reducible refine List.mem_cons_of_mem _ ?_)))
   obtain ⟨p32, r32⟩ := hL0.get (x2.heap.size + 1) b (by (repeat (first | with_reducible exact List.mem_cons_self | with_reducible refine List.mem_cons_of_mem _ ?_)))
   obtain ⟨p33, r33⟩ := hL0.get (x7.heap.size) 0 (by (repeat (first | with_reducible exact List.mem_cons_self | with_reducible refine List.mem_cons_of_mem _ ?_)))
   go_wp2_with fail
   with_reducible refine Calls.mono (SMs.out _ _ (htab.below hL0.bl) h48.out) ?_
   rintro e x18 ⟨rfl, hb⟩
   replace hL0 := hL0.call hb
   replace h7 := Lib.hid (h7.out.below hb)
   replace h8 := Lib.hid (h8.out.below hb)
   clear hb SMs
   clear h48
   obtain ⟨p34, r34⟩ := hL0.get (x2.heap.size) a (by (repeat (first | with_reducible exact List.mem_cons_self | with_reducible refine List.mem_cons_of_mem _ ?_)))
   obtain ⟨p35, r35⟩ := hL0.get (x2.heap.size + 1) b (by (repeat (first | with_reducible exact List.mem_cons_self | with_reducible refine List.mem_cons_of_mem _ ?_)))
   obtain ⟨p36, r36⟩ := hL0.get (x7.heap.size) 0 (by (repeat (first | with_reducible exact List.mem_cons_self | with_reducible refine List.mem_cons_of_mem _ ?_)))
   go_wp2_with fail
   with_reducible refine Calls.mono (Cab.out _) ?_
   rintro e x19 ⟨rfl, hb⟩
   replace hL0 := hL0.call hb
   replace h7 := Lib.hid (h7.out.below hb)
   replace h8 := Lib.hid (h8.out.below hb)
   clear hb Cab
   obtain ⟨p37, r37⟩ := hL0.get (x2.heap.size) a (by (repeat (first | with_reducible exact List.mem_cons_self | with_reducible refine List.mem_cons_of_mem _ ?_)))
   obtain ⟨p38, r38⟩ := hL0.get (x2.heap.size + 1) b (by (repeat (first | with_reducible exact List.mem_cons_self | with_reducible refine List.mem_cons_of_mem _ ?_)))
   obtain ⟨p39, r39⟩ := hL0.get (x7.heap.size) 0 (by (repeat (first | with_reducible exact List.mem_cons_self | with_reducible refine List.mem_cons_of_mem _ ?_)))
   have z1 : (((lo 0 : Nat) : Int) == 0) = true := by rw [lo_zero]; rfl
   have z2 : ((hs 0).toList == []) = true := by rw [hs_zero, ByteArray.toList_eq]; rfl
   go_upto_region 9 with fail
   have ht0 := htab.below hL0.bl
   have HW := Lib.hid (fun w h => works_any w h)
   obtain ⟨α, iα, F, hF1, hF2⟩ := cls x19
   obtain ⟨q40, s40⟩ := cls_get hF1 hL0 (x7.heap.size) 0 (by (repeat (first | with_reducible exact List.mem_cons_self | with_reducible refine List.mem_cons_of_mem _ ?_)))
   refine region_cls (F := F) (by kernel_rfl) (by kernel_rfl) (cls_drew hF2) ?_
   repeat (go_big_quiet_step (first
    | (go_at_call 21; with_reducible exact cls_callT hF1 hF2 ht0 HW.out _)))
   refine wpQuiet_nil ?_
   intro wq hwq
   obtain ⟨xq, rfl⟩ := hwq
   have hLq := hL0.call (hF1 xq)
   generalize F xq = x20 at hLq ⊢
   replace hL0 := hLq
   clear hLq hF1 hF2 q40 s40
   go_wp2_with fail
   exact bodyPost_ret (v := .bool true) (by simp [results, Tryz.results12, go_sem]) rfl ⟨rfl, hL0.bl⟩
 ·subst hlt
  have hcm := cmpI_eq a
  have Sab := fun w => sub_ge a a (Nat.le_refl _) (by omega) w
  rw [Nat.sub_self] at Sab
  have RS := fun va vb w ha hb => Rx.rsub_any va vb a a (by omega) (Nat.le_refl _) w ha hb
  rw [Nat.sub_self] at RS
  have SMd := fun v w ht hv => Rx.same_any 0 v (by rw [digs_zero]; exact Nat.zero_le _) (by rw [Rx.td_zero]; exact Nat.zero_le _) w ht hv
  rw [hcm] at Cab Rc
  replace Cab := Lib.hid Cab
  replace Rc := Lib.hid Rc
  replace Sab := Lib.hid Sab
  replace RS := Lib.hid RS
  replace SMd := Lib.hid SMd
  clear hcm
  go_enter Tryz.func12, Tryz.ntmps12
  go_wp2_with fail
  with_reducible refine Calls.mono (MX.out _ hx.out) ?_
  rintro e x1 ⟨rfl, hb⟩
  replace hL0 := hL0.call hb
  clear hb MX
  go_wp2_with fail
  with_reducible refine Calls.mono (MY.out _ (hy.out.below hL0.bl)) ?_
  rintro e x2 ⟨rfl, hb⟩
  replace hL0 := hL0.call hb
  clear hb MY
  replace hL0 := ((hL0.new rfl a 32).new (szA _ _) a 32)
  generalize hweq : ((x2.alloc (.cells #[.int .u64 ((lo a : Nat) : Int), .string (hs a)] 32)).alloc (.cells #[.int .u64 ((lo a : Nat) : Int), .string (hs a)] 32)) = x3 at hL0
  go_wp2_with fail
  with_reducible refine Calls.mono (RX.out _ (hx.out.below hL0.bl)) ?_
  rintro e x4 ⟨v7, rfl, h7, hb⟩
  replace hL0 := hL0.call hb
  clear hb RX hweq
  replace h7 := Lib.hid h7
  go_wp2_with fail
  with_reducible refine Calls.mono (RY.out _ (hy.out.below hL0.bl)) ?_
  rintro e x5 ⟨v8, rfl, h8, hb⟩
  replace hL0 := hL0.call hb
  replace h7 := Lib.hid (h7.out.below hb)
  clear hb RY
  replace h8 := Lib.hid h8
  go_wp2_with fail
  with_reducible refine Calls.mono (Rc.out _ _ _ h7.out h8.out) ?_
  rintro e x6 ⟨rfl, hb⟩
  replace hL0 := hL0.call hb
  replace h7 := Lib.hid (h7.out.below hb)
  replace h8 := Lib.hid (h8.out.below hb)
  clear hb Rc
  obtain ⟨p41, r41⟩ := hL0.get (x2.heap.size) a (by (repeat (first | with_reducible exact List.mem_cons_self | with_reducible refine List.mem_cons_of_mem _ ?_)))
  obtain ⟨p42, r42⟩ := hL0.get (x2.heap.size + 1) a (by (repeat (first | with_reducible exact List.mem_cons_self | with_reducible refine List.mem_cons_of_mem _ ?_)))
  go_wp2_with fail
  with_reducible refine Calls.mono (Sab.out _) ?_
  rintro e x7 ⟨rfl, hb⟩
  replace hL0 := hL0.call hb
  replace h7 := Lib.hid (h7.out.below hb)
  replace h8 := Lib.hid (h8.out.below hb)
  clear hb Sab
  replace h7 := Lib.hid (h7.out.below (below1 _ (.cells #[.int .u64 ((lo 0 : Nat) : Int), .string (hs 0)] 32)))
  replace h8 := Lib.hid (h8.out.below (below1 _ (.cells #[.int .u64 ((lo 0 : Nat) : Int), .string (hs 0)] 32)))
  replace hL0 := (hL0.new rfl 0 32)
  generalize hweq : (x7.alloc (.cells #[.int .u64 ((lo 0 : Nat) : Int), .string (hs 0)] 32)) = x8 at hL0 h7 h8
  obtain ⟨p43, r43⟩ := hL0.get (x2.heap.size) a (by (repeat (first | with_reducible exact List.mem_cons_self | with_reducible refine List.mem_cons_of_mem _ ?_)))
  obtain ⟨p44, r44⟩ := hL0.get (x2.heap.size + 1) a (by (repeat (first | with_reducible exact List.mem_cons_self | with_reducible refine List.mem_cons_of_mem _ ?_)))
  obtain ⟨p45, r45⟩ := hL0.get (x7.heap.size) 0 (by (repeat (first | with_reducible exact List.mem_cons_self | with_reducible refine List.mem_cons_of_mem _ ?_)))
  go_wp2_with fail
  with_reducible refine Calls.mono (SMa.out _ _ (htab.below hL0.bl) h7.out) ?_
  rintro e x9 ⟨rfl, hb⟩
  replace hL0 := hL0.call hb
  replace h7 := Lib.hid (h7.out.below hb)
  replace h8 := Lib.hid (h8.out.below hb)
  clear hb SMa hweq
  obtain ⟨p46, r46⟩ := hL0.get (x2.heap.size) a (by (repeat (first | with_reducible exact List.mem_cons_self | with_reducible refine List.mem_cons_of_mem _ ?_)))
  obtain ⟨p47, r47⟩ := hL0.get (x2.heap.size + 1) a (by (repeat (first | with_reducible exact List.mem_cons_self | with_reducible refine List.mem_cons_of_mem _ ?_)))
  obtain ⟨p48, r48⟩ := hL0.get (x7.heap.size) 0 (by (repeat (first | with_reducible exact List.mem_cons_self | with_reducible refine List.mem_cons_of_mem _ ?_)))
  go_wp2_with fail
  with_reducible refine Calls.mono (Aab.out _) ?_
  rintro e x10 ⟨rfl, hb⟩
  replace hL0 := hL0.call hb
  replace h7 := Lib.hid (h7.out.below hb)
  replace h8 := Lib.hid (h8.out.below hb)
  clear hb Aab
  obtain ⟨p49, r49⟩ := hL0.get (x2.heap.size) a (by (repeat (first | with_reducible exact List.mem_cons_self | with_reducible refine List.mem_cons_of_mem _ ?_)))
  obtain ⟨p50, r50⟩ := hL0.get (x2.heap.size + 1) a (by (repeat (first | with_reducible exact List.mem_cons_self | with_reducible refine List.mem_cons_of_mem _ ?_)))
  obtain ⟨p51, r51⟩ := hL0.get (x7.heap.size) 0 (by (repeat (first | with_reducible exact List.mem_cons_self | with_reducible refine List.mem_cons_of_mem _ ?_)))
  go_wp2_with fail
  with_reducible refine Calls.mono (Rab.out _ _ _ h7.out h8.out) ?_
  rintro e x11 ⟨v48, rfl, h48, hb⟩
  replace hL0 := hL0.call hb
  replace h7 := Lib.hid (h7.out.below hb)
  replace h8 := Lib.hid (h8.out.below hb)
  clear hb Rab
  replace h48 := Lib.hid h48
  obtain ⟨p52, r52⟩ := hL0.get (x2.heap.size) a (by (repeat (first | with_reducible exact List.mem_cons_self | with_reducible refine List.mem_cons_of_mem _ ?_)))
  obtain ⟨p53, r53⟩ := hL0.get (x2.heap.size + 1) a (by (repeat (first | with_reducible exact List.mem_cons_self | with_reducible refine List.mem_cons_of_mem _ ?_)))
  obtain ⟨p54, r54⟩ := hL0.get (x7.heap.size) 0 (by (repeat (first | with_reducible exact List.mem_cons_self | with_reducible refine List.mem_cons_of_mem _ ?_)))
  go_wp2_with fail
  with_reducible refine Calls.mono (SMs.out _ _ (htab.below hL0.bl) h48.out) ?_
  rintro e x12 ⟨rfl, hb⟩
  replace hL0 := hL0.call hb
  replace h7 := Lib.hid (h7.out.below hb)
  replace h8 := Lib.hid (h8.out.below hb)
  clear hb SMs
  clear h48
  obtain ⟨p55, r55⟩ := hL0.get (x2.heap.size) a (by (repeat (first | with_reducible exact List.mem_cons_self | with_reducible refine List.mem_cons_of_mem _ ?_)))
  obtain ⟨p56, r56⟩ := hL0.get (x2.heap.size + 1) a (by (repeat (first | with_reducible exact List.mem_cons_self | with_reducible refine List.mem_cons_of_mem _ ?_)))
  obtain ⟨p57, r57⟩ := hL0.get (x7.heap.size) 0 (by (repeat (first | with_reducible exact List.mem_cons_self | with_reducible refine List.mem_cons_of_mem _ ?_)))
  go_wp2_with fail
  with_reducible refine Calls.mono (Cab.out _) ?_
  rintro e x13 ⟨rfl, hb⟩
  replace hL0 := hL0.call hb
  replace h7 := Lib.hid (h7.out.below hb)
  replace h8 := Lib.hid (h8.out.below hb)
  clear hb Cab
  obtain ⟨p58, r58⟩ := hL0.get (x2.heap.size) a (by (repeat (first | with_reducible exact List.mem_cons_self | with_reducible refine List.mem_cons_of_mem _ ?_)))
  obtain ⟨p59, r59⟩ := hL0.get (x2.heap.size + 1) a (by (repeat (first | with_reducible exact List.mem_cons_self | with_reducible refine List.mem_cons_of_mem _ ?_)))
  obtain ⟨p60, r60⟩ := hL0.get (x7.heap.size) 0 (by (repeat (first | with_reducible exact List.mem_cons_self | with_reducible refine List.mem_cons_of_mem _ ?_)))
  go_upto_region 9 with fail
  have c0 := (hL0.get (x7.heap.size) 0 (by (repeat (first | with_reducible exact List.mem_cons_self | with_reducible refine List.mem_cons_of_mem _ ?_)))).1
  have c1 := (hL0.get (x7.heap.size) 0 (by (repeat (first | with_reducible exact List.mem_cons_self | with_reducible refine List.mem_cons_of_mem _ ?_)))).2
  have hkb : x7.heap.size < x13.drew.heap.size := (hL0.all (x7.heap.size, 0) (by (repeat (first | with_reducible exact List.mem_cons_self | with_reducible refine List.mem_cons_of_mem _ ?_)))).2.lt
  replace c0 : x13.drew.cell? ⟨x7.heap.size, 0, none⟩ = _ := c0
  replace c1 : x13.drew.cell? ⟨x7.heap.size, 1, none⟩ = _ := c1
  have r7 := Lib.hid h7.out.drew
  have r8 := Lib.hid h8.out.drew
  have t0 := (htab.below hL0.bl.drew)
  go_region_held3 (fun w' => w'.cell? ⟨x7.heap.size, 0, none⟩ = some (.int .u64 ((lo 0 : Nat) : Int)) ∧ w'.cell? ⟨x7.heap.size, 1, none⟩ = some (.string (hs 0)))
   (first | exact ⟨c0, c1⟩ | exact ⟨c0a, c1a⟩ | exact ⟨c0b, c1b⟩ | exact ⟨c0c, c1c⟩)
   (first
    | (go_at_call 105; ((with_reducible refine Calls.mono (RS.out _ _ _ r7.out r8.out) ?_); rintro e w1 ⟨v88, rfl, h88, hb1⟩; have c0a := (hb1.cell (p := ⟨x7.heap.size, 0, none⟩) hkb).trans c0; have c1a := (hb1.cell (p := ⟨x7.heap.size, 1, none⟩) hkb).trans c1; replace h88 := Lib.hid h88))
    | (go_at_call 101; ((with_reducible refine Calls.mono (SMd.out _ _ (t0.below hb1) h88.out) ?_); rintro e w2 ⟨rfl, hb2⟩; have c0b := (hb2.cell (p := ⟨x7.heap.size, 0, none⟩) (Nat.lt_of_lt_of_le hkb hb1.size)).trans c0a; have c1b := (hb2.cell (p := ⟨x7.heap.size, 1, none⟩) (Nat.lt_of_lt_of_le hkb hb1.size)).trans c1a))
    | (go_at_call 21; ((with_reducible refine Calls.mono (works_any _ ((t0.below hb1).below hb2)) ?_); rintro e w3 ⟨rfl, hb3⟩; have c0c := (hb3.cell (p := ⟨x7.heap.size, 0, none⟩) (Nat.lt_of_lt_of_le hkb (Nat.le_trans hb1.size hb2.size))).trans c0b; have c1c := (hb3.cell (p := ⟨x7.heap.size, 1, none⟩) (Nat.lt_of_lt_of_le hkb (Nat.le_trans hb1.size hb2.size))).trans c1b)))
  have hB := ((hL0.bl.drew.trans (hb1.mono hL0.bl.size)).trans (hb2.mono (Nat.le_trans hL0.bl.size hb1.size))).trans (hb3.mono (Nat.le_trans hL0.bl.size (Nat.le_trans hb1.size hb2.size)))
  go_wp2_with fail
  exact bodyPost_ret (v := .bool true) (by simp [results, Tryz.results12, go_sem]) rfl ⟨rfl, hB⟩
 ·have hcm := cmpI_gt hlt
  have hne : a ≠ b := by omega
  have hle := Nat.le_of_lt hlt
  have Sab := fun w => sub_ge a b hle (by omega) w
  have RS := fun va vb w ha hb => Rx.rsub_any va vb a b (by omega) hle w ha hb
  have SMd := fun v w ht hv => Rx.same_any (a - b) v (Nat.le_trans (digs_mono (Nat.sub_le a b)) (by omega)) (Nat.le_trans (Rx.td_mono (Nat.sub_le a b)) (by omega)) w ht hv
  generalize a - b = d at *
  rw [hcm] at Cab Rc
  replace Cab := Lib.hid Cab
  replace Rc := Lib.hid Rc
  replace Sab := Lib.hid Sab
  replace RS := Lib.hid RS
  replace SMd := Lib.hid SMd
  clear hcm hlt hle
  have hnn := natV_ne hne
  clear hne
  replace hnn := Lib.hid hnn
  go_enter Tryz.func12, Tryz.ntmps12
  go_wp2_with fail
  with_reducible refine Calls.mono (MX.out _ hx.out) ?_
  rintro e x1 ⟨rfl, hb⟩
  replace hL0 := hL0.call hb
  clear hb MX
  go_wp2_with fail
  with_reducible refine Calls.mono (MY.out _ (hy.out.below hL0.bl)) ?_
  rintro e x2 ⟨rfl, hb⟩
  replace hL0 := hL0.call hb
  clear hb MY
  replace hL0 := ((hL0.new rfl a 32).new (szA _ _) b 32)
  generalize hweq : ((x2.alloc (.cells #[.int .u64 ((lo a : Nat) : Int), .string (hs a)] 32)).alloc (.cells #[.int .u64 ((lo b : Nat) : Int), .string (hs b)] 32)) = x3 at hL0
  go_wp2_with fail
  with_reducible refine Calls.mono (RX.out _ (hx.out.below hL0.bl)) ?_
  rintro e x4 ⟨v7, rfl, h7, hb⟩
  replace hL0 := hL0.call hb
  clear hb RX hweq
  replace h7 := Lib.hid h7
  go_wp2_with fail
  with_reducible refine Calls.mono (RY.out _ (hy.out.below hL0.bl)) ?_
  rintro e x5 ⟨v8, rfl, h8, hb⟩
  replace hL0 := hL0.call hb
  replace h7 := Lib.hid (h7.out.below hb)
  clear hb RY
  replace h8 := Lib.hid h8
  go_wp2_with fail
  with_reducible refine Calls.mono (Rc.out _ _ _ h7.out h8.out) ?_
  rintro e x6 ⟨rfl, hb⟩
  replace hL0 := hL0.call hb
  replace h7 := Lib.hid (h7.out.below hb)
  replace h8 := Lib.hid (h8.out.below hb)
  clear hb Rc
  obtain ⟨p61, r61⟩ := hL0.get (x2.heap.size) a (by (repeat (first | with_reducible exact List.mem_cons_self | with_reducible refine List.mem_cons_of_mem _ ?_)))
  obtain ⟨p62, r62⟩ := hL0.get (x2.heap.size + 1) b (by (repeat (first | with_reducible exact List.mem_cons_self | with_reducible refine List.mem_cons_of_mem _ ?_)))
  go_wp2_with fail
  with_reducible refine Calls.mono (Sab.out _) ?_
  rintro e x7 ⟨rfl, hb⟩
  replace hL0 := hL0.call hb
  replace h7 := Lib.hid (h7.out.below hb)
  replace h8 := Lib.hid (h8.out.below hb)
  clear hb Sab
  replace h7 := Lib.hid (h7.out.below (below1 _ (.cells #[.int .u64 ((lo d : Nat) : Int), .string (hs d)] 32)))
  replace h8 := Lib.hid (h8.out.below (below1 _ (.cells #[.int .u64 ((lo d : Nat) : Int), .string (hs d)] 32)))
  replace hL0 := (hL0.new rfl d 32)
  generalize hweq : (x7.alloc (.cells #[.int .u64 ((lo d : Nat) : Int), .string (hs d)] 32)) = x8 at hL0 h7 h8
  rcases hnn.out with hn1 | ⟨hn1, hn2⟩
  ·skip
   obtain ⟨p63, r63⟩ := hL0.get (x2.heap.size) a (by (repeat (first | with_reducible exact List.mem_cons_self | with_reducible refine List.mem_cons_of_mem _ ?_)))
   obtain ⟨p64, r64⟩ := hL0.get (x2.heap.size + 1) b (by (repeat (first | with_reducible exact List.mem_cons_self | with_reducible refine List.mem_cons_of_mem _ ?_)))
   obtain ⟨p65, r65⟩ := hL0.get (x7.heap.size) d (by (repeat (first | with_reducible exact List.mem_cons_self | with_reducible refine List.mem_cons_of_mem _ ?_)))
   go_wp2_with fail
   with_reducible refine Calls.mono (SMa.out _ _ (htab.below hL0.bl) h7.out) ?_
   rintro e x9 ⟨rfl, hb⟩
   replace hL0 := hL0.call hb
   replace h7 := Lib.hid (h7.out.below hb)
   replace h8 := Lib.hid (h8.out.below hb)
   clear hb SMa hweq
   obtain ⟨p66, r66⟩ := hL0.get (x2.heap.size) a (by (repeat (first | with_reducible exact List.mem_cons_self | with_reducible refine List.mem_cons_of_mem _ ?_)))
   obtain ⟨p67, r67⟩ := hL0.get (x2.heap.size + 1) b (by (repeat (first | with_reducible exact List.mem_cons_self | with_reducible refine List.mem_cons_of_mem _ ?_)))
   obtain ⟨p68, r68⟩ := hL0.get (x7.heap.size) d (by (repeat (first | with_reducible exact List.mem_cons_self | with_reducible refine List.mem_cons_of_mem _ ?_)))
   go_wp2_with fail
   with_reducible refine Calls.mono (Aab.out _) ?_
   rintro e x10 ⟨rfl, hb⟩
   replace hL0 := hL0.call hb
   replace h7 := Lib.hid (h7.out.below hb)
   replace h8 := Lib.hid (h8.out.below hb)
   clear hb Aab
   obtain ⟨p69, r69⟩ := hL0.get (x2.heap.size) a (by (repeat (first | with_reducible exact List.mem_cons_self | with_reducible refine List.mem_cons_of_mem _ ?_)))
   obtain ⟨p70, r70⟩ := hL0.get (x2.heap.size + 1) b (by (repeat (first | with_reducible exact List.mem_cons_self | with_reducible refine List.mem_cons_of_mem _ ?_)))
   obtain ⟨p71, r71⟩ := hL0.get (x7.heap.size) d (by (repeat (first | with_reducible exact List.mem_cons_self | with_reducible refine List.mem_cons_of_mem _ ?_)))
   go_wp2_with fail
   with_reducible refine Calls.mono (Rab.out _ _ _ h7.out h8.out) ?_
   rintro e x11 ⟨v48, rfl, h48, hb⟩
   replace hL0 := hL0.call hb
   replace h7 := Lib.hid (h7.out.below hb)
   replace h8 := Lib.hid (h8.out.below hb)
   clear hb Rab
   replace h48 := Lib.hid h48
   obtain ⟨p72, r72⟩ := hL0.get (x2.heap.size) a (by (repeat (first | with_reducible exact List.mem_cons_self | with_reducible refine List.mem_cons_of_mem _ ?_)))
   obtain ⟨p73, r73⟩ := hL0.get (x2.heap.size + 1) b (by (repeat (first | with_reducible exact List.mem_cons_self | with_reducible refine List.mem_cons_of_mem _ ?_)))
   obtain ⟨p74, r74⟩ := hL0.get (x7.heap.size) d (by (repeat (first | with_reducible exact List.mem_cons_self | with_reducible refine List.mem_cons_of_mem _ ?_)))
   go_wp2_with fail
   with_reducible refine Calls.mono (SMs.out _ _ (htab.below hL0.bl) h48.out) ?_
   rintro e x12 ⟨rfl, hb⟩
   replace hL0 := hL0.call hb
   replace h7 := Lib.hid (h7.out.below hb)
   replace h8 := Lib.hid (h8.out.below hb)
   clear hb SMs
   clear h48
   obtain ⟨p75, r75⟩ := hL0.get (x2.heap.size) a (by (repeat (first | with_reducible exact List.mem_cons_self | with_reducible refine List.mem_cons_of_mem _ ?_)))
   obtain ⟨p76, r76⟩ := hL0.get (x2.heap.size + 1) b (by (repeat (first | with_reducible exact List.mem_cons_self | with_reducible refine List.mem_cons_of_mem _ ?_)))
   obtain ⟨p77, r77⟩ := hL0.get (x7.heap.size) d (by (repeat (first | with_reducible exact List.mem_cons_self | with_reducible refine List.mem_cons_of_mem _ ?_)))
   go_wp2_with fail
   with_reducible refine Calls.mono (Cab.out _) ?_
   rintro e x13 ⟨rfl, hb⟩
   replace hL0 := hL0.call hb
   replace h7 := Lib.hid (h7.out.below hb)
   replace h8 := Lib.hid (h8.out.below hb)
   clear hb Cab
   obtain ⟨p78, r78⟩ := hL0.get (x2.heap.size) a (by (repeat (first | with_reducible exact List.mem_cons_self | with_reducible refine List.mem_cons_of_mem _ ?_)))
   obtain ⟨p79, r79⟩ := hL0.get (x2.heap.size + 1) b (by (repeat (first | with_reducible exact List.mem_cons_self | with_reducible refine List.mem_cons_of_mem _ ?_)))
   obtain ⟨p80, r80⟩ := hL0.get (x7.heap.size) d (by (repeat (first | with_reducible exact List.mem_cons_self | with_reducible refine List.mem_cons_of_mem _ ?_)))
   go_upto_region 9 with fail
   have c0 := (hL0.get (x7.heap.size) d (by (repeat (first | with_reducible exact List.mem_cons_self | with_reducible refine List.mem_cons_of_mem _ ?_)))).1
   have c1 := (hL0.get (x7.heap.size) d (by (repeat (first | with_reducible exact List.mem_cons_self | with_reducible refine List.mem_cons_of_mem _ ?_)))).2
   have hkb : x7.heap.size < x13.drew.heap.size := (hL0.all (x7.heap.size, d) (by (repeat (first | with_reducible exact List.mem_cons_self | with_reducible refine List.mem_cons_of_mem _ ?_)))).2.lt
   replace c0 : x13.drew.cell? ⟨x7.heap.size, 0, none⟩ = _ := c0
   replace c1 : x13.drew.cell? ⟨x7.heap.size, 1, none⟩ = _ := c1
   have r7 := Lib.hid h7.out.drew
   have r8 := Lib.hid h8.out.drew
   have t0 := (htab.below hL0.bl.drew)
   go_region_held3 (fun w' => w'.cell? ⟨x7.heap.size, 0, none⟩ = some (.int .u64 ((lo d : Nat) : Int)) ∧ w'.cell? ⟨x7.heap.size, 1, none⟩ = some (.string (hs d)))
    (first | exact ⟨c0, c1⟩ | exact ⟨c0a, c1a⟩ | exact ⟨c0b, c1b⟩ | exact ⟨c0c, c1c⟩)
    (first
     | (go_at_call 105; ((with_reducible refine Calls.mono (RS.out _ _ _ r7.out r8.out) ?_); rintro e w1 ⟨v88, rfl, h88, hb1⟩; have c0a := (hb1.cell (p := ⟨x7.heap.size, 0, none⟩) hkb).trans c0; have c1a := (hb1.cell (p := ⟨x7.heap.size, 1, none⟩) hkb).trans c1; replace h88 := Lib.hid h88))
     | (go_at_call 101; ((with_reducible refine Calls.mono (SMd.out _ _ (t0.below hb1) h88.out) ?_); rintro e w2 ⟨rfl, hb2⟩; have c0b := (hb2.cell (p := ⟨x7.heap.size, 0, none⟩) (Nat.lt_of_lt_of_le hkb hb1.size)).trans c0a; have c1b := (hb2.cell (p := ⟨x7.heap.size, 1, none⟩) (Nat.lt_of_lt_of_le hkb hb1.size)).trans c1a))
     | (go_at_call 21; ((with_reducible refine Calls.mono (works_any _ ((t0.below hb1).below hb2)) ?_); rintro e w3 ⟨rfl, hb3⟩; have c0c := (hb3.cell (p := ⟨x7.heap.size, 0, none⟩) (Nat.lt_of_lt_of_le hkb (Nat.le_trans hb1.size hb2.size))).trans c0b; have c1c := (hb3.cell (p := ⟨x7.heap.size, 1, none⟩) (Nat.lt_of_lt_of_le hkb (Nat.le_trans hb1.size hb2.size))).trans c1b)))
   have hB := ((hL0.bl.drew.trans (hb1.mono hL0.bl.size)).trans (hb2.mono (Nat.le_trans hL0.bl.size hb1.size))).trans (hb3.mono (Nat.le_trans hL0.bl.size (Nat.le_trans hb1.size hb2.size)))
   go_wp2_with fail
   exact bodyPost_ret (v := .bool true) (by simp [results, Tryz.results12, go_sem]) rfl ⟨rfl, hB⟩
  ·skip
   obtain ⟨p81, r81⟩ := hL0.get (x2.heap.size) a (by (repeat (first | with_reducible exact List.mem_cons_self | with_reducible refine List.mem_cons_of_mem _ ?_)))
   obtain ⟨p82, r82⟩ := hL0.get (x2.heap.size + 1) b (by (repeat (first | with_reducible exact List.mem_cons_self | with_reducible refine List.mem_cons_of_mem _ ?_)))
   obtain ⟨p83, r83⟩ := hL0.get (x7.heap.size) d (by (repeat (first | with_reducible exact List.mem_cons_self | with_reducible refine List.mem_cons_of_mem _ ?_)))
   go_wp2_with fail
   with_reducible refine Calls.mono (SMa.out _ _ (htab.below hL0.bl) h7.out) ?_
   rintro e x14 ⟨rfl, hb⟩
   replace hL0 := hL0.call hb
   replace h7 := Lib.hid (h7.out.below hb)
   replace h8 := Lib.hid (h8.out.below hb)
   clear hb SMa hweq
   obtain ⟨p84, r84⟩ := hL0.get (x2.heap.size) a (by (repeat (first | with_reducible exact List.mem_cons_self | with_reducible refine List.mem_cons_of_mem _ ?_)))
   obtain ⟨p85, r85⟩ := hL0.get (x2.heap.size + 1) b (by (repeat (first | with_reducible exact List.mem_cons_self | with_reducible refine List.mem_cons_of_mem _ ?_)))
   obtain ⟨p86, r86⟩ := hL0.get (x7.heap.size) d (by (repeat (first | with_reducible exact List.mem_cons_self | with_reducible refine List.mem_cons_of_mem _ ?_)))
   go_wp2_with fail
   with_reducible refine Calls.mono (Aab.out _) ?_
   rintro e x15 ⟨rfl, hb⟩
   replace hL0 := hL0.call hb
   replace h7 := Lib.hid (h7.out.below hb)
   replace h8 := Lib.hid (h8.out.below hb)
   clear hb Aab
   obtain ⟨p87, r87⟩ := hL0.get (x2.heap.size) a (by (repeat (first | with_reducible exact List.mem_cons_self | with_reducible refine List.mem_cons_of_mem _ ?_)))
   obtain ⟨p88, r88⟩ := hL0.get (x2.heap.size + 1) b (by (repeat (first | with_reducible exact List.mem_cons_self | with_reducible refine List.mem_cons_of_mem _ ?_)))
   obtain ⟨p89, r89⟩ := hL0.get (x7.heap.size) d (by (repeat (first | with_reducible exact List.mem_cons_self | with_reducible refine List.mem_cons_of_mem _ ?_)))
   go_wp2_with fail
   with_reducible refine Calls.mono (Rab.out _ _ _ h7.out h8.out) ?_
   rintro e x16 ⟨v48, rfl, h48, hb⟩
   replace hL0 := hL0.call hb
   replace h7 := Lib.hid (h7.out.below hb)
   replace h8 := Lib.hid (h8.out.below hb)
   clear hb Rab
   replace h48 := Lib.hid h48
   obtain ⟨p90, r90⟩ := hL0.get (x2.heap.size) a (by (repeat (first | with_reducible exact List.mem_cons_self | with_reducible refine List.mem_cons_of_mem _ ?_)))
   obtain ⟨p91, r91⟩ := hL0.get (x2.heap.size + 1) b (by (repeat (first | with_reducible exact List.mem_cons_self | with_reducible refine List.mem_cons_of_mem _ ?_)))
   obtain ⟨p92, r92⟩ := hL0.get (x7.heap.size) d (by (repeat (first | with_reducible exact List.mem_cons_self | with_reducible refine List.mem_cons_of_mem _ ?_)))
   go_wp2_with fail
   with_reducible refine Calls.mono (SMs.out _ _ (htab.below hL0.bl) h48.out) ?_
   rintro e x17 ⟨rfl, hb⟩
   replace hL0 := hL0.call hb
   replace h7 := Lib.hid (h7.out.below hb)
   replace h8 := Lib.hid (h8.out.below hb)
   clear hb SMs
   clear h48
   obtain ⟨p93, r93⟩ := hL0.get (x2.heap.size) a (by (repeat (first | with_reducible exact List.mem_cons_self | with_reducible refine List.mem_cons_of_mem _ ?_)))
   obtain ⟨p94, r94⟩ := hL0.get (x2.heap.size + 1) b (by (repeat (first | with_reducible exact List.mem_cons_self | with_reducible refine List.mem_cons_of_mem _ ?_)))
   obtain ⟨p95, r95⟩ := hL0.get (x7.heap.size) d (by (repeat (first | with_reducible exact List.mem_cons_self | with_reducible refine List.mem_cons_of_mem _ ?_)))
   go_wp2_with fail
   with_reducible refine Calls.mono (Cab.out _) ?_
   rintro e x18 ⟨rfl, hb⟩
   replace hL0 := hL0.call hb
   replace h7 := Lib.hid (h7.out.below hb)
   replace h8 := Lib.hid (h8.out.below hb)
   clear hb Cab
   obtain ⟨p96, r96⟩ := hL0.get (x2.heap.size) a (by (repeat (first | with_reducible exact List.mem_cons_self | with_reducible refine List.mem_cons_of_mem _ ?_)))
   obtain ⟨p97, r97⟩ := hL0.get (x2.heap.size + 1) b (by (repeat (first | with_reducible exact List.mem_cons_self | with_reducible refine List.mem_cons_of_mem _ ?_)))
   obtain ⟨p98, r98⟩ := hL0.get (x7.heap.size) d (by (repeat (first | with_reducible exact List.mem_cons_self | with_reducible refine List.mem_cons_of_mem _ ?_)))
   go_upto_region 9 with fail
   have c0 := (hL0.get (x7.heap.size) d (by (repeat (first | with_reducible exact List.mem_cons_self | with_reducible refine List.mem_cons_of_mem _ ?_)))).1
   have c1 := (hL0.get (x7.heap.size) d (by (repeat (first | with_reducible exact List.mem_cons_self | with_reducible refine List.mem_cons_of_mem _ ?_)))).2
   have hkb : x7.heap.size < x18.drew.heap.size := (hL0.all (x7.heap.size, d) (by (repeat (first | with_reducible exact List.mem_cons_self | with_reducible refine List.mem_cons_of_mem _ ?_)))).2.lt
   replace c0 : x18.drew.cell? ⟨x7.heap.size, 0, none⟩ = _ := c0
   replace c1 : x18.drew.cell? ⟨x7.heap.size, 1, none⟩ = _ := c1
   have r7 := Lib.hid h7.out.drew
   have r8 := Lib.hid h8.out.drew
   have t0 := (htab.below hL0.bl.drew)
   go_region_held3 (fun w' => w'.cell? ⟨x7.heap.size, 0, none⟩ = some (.int .u64 ((lo d : Nat) : Int)) ∧ w'.cell? ⟨x7.heap.size, 1, none⟩ = some (.string (hs d)))
    (first | exact ⟨c0, c1⟩ | exact ⟨c0a, c1a⟩ | exact ⟨c0b, c1b⟩ | exact ⟨c0c, c1c⟩)
    (first
     | (go_at_call 105; ((with_reducible refine Calls.mono (RS.out _ _ _ r7.out r8.out) ?_); rintro e w1 ⟨v88, rfl, h88, hb1⟩; have c0a := (hb1.cell (p := ⟨x7.heap.size, 0, none⟩) hkb).trans c0; have c1a := (hb1.cell (p := ⟨x7.heap.size, 1, none⟩) hkb).trans c1; replace h88 := Lib.hid h88))
     | (go_at_call 101; ((with_reducible refine Calls.mono (SMd.out _ _ (t0.below hb1) h88.out) ?_); rintro e w2 ⟨rfl, hb2⟩; have c0b := (hb2.cell (p := ⟨x7.heap.size, 0, none⟩) (Nat.lt_of_lt_of_le hkb hb1.size)).trans c0a; have c1b := (hb2.cell (p := ⟨x7.heap.size, 1, none⟩) (Nat.lt_of_lt_of_le hkb hb1.size)).trans c1a))
     | (go_at_call 21; ((with_reducible refine Calls.mono (works_any _ ((t0.below hb1).below hb2)) ?_); rintro e w3 ⟨rfl, hb3⟩; have c0c := (hb3.cell (p := ⟨x7.heap.size, 0, none⟩) (Nat.lt_of_lt_of_le hkb (Nat.le_trans hb1.size hb2.size))).trans c0b; have c1c := (hb3.cell (p := ⟨x7.heap.size, 1, none⟩) (Nat.lt_of_lt_of_le hkb (Nat.le_trans hb1.size hb2.size))).trans c1b)))
   have hB := ((hL0.bl.drew.trans (hb1.mono hL0.bl.size)).trans (hb2.mono (Nat.le_trans hL0.bl.size hb1.size))).trans (hb3.mono (Nat.le_trans hL0.bl.size (Nat.le_trans hb1.size hb2.size)))
   go_wp2_with fail
   exact bodyPost_ret (v := .bool true) (by simp [results, Tryz.results12, go_sem]) rfl ⟨rfl, hB⟩
theorem sums_any (vx vy : Value) (lx ly : List Nat) (w : World) (htab : Tab w) (hx : Ws w vx lx) (hy : Ws w vy ly) :
  Calls Tryz.prog 12 #[vx, vy] w fun e w' => e = .returned (.bool true) ∧ Below w.heap.size w w' := by
 by_cases h : 24 < lx.length ∨ 24 < ly.length
 ·obtain ⟨ax, cx, rfl⟩ := hx.form
  obtain ⟨ay, cy, rfl⟩ := hy.form
  exact sums_big ax ay cx cy _ _ h w htab
 ·exact sums_small vx vy lx ly w htab hx hy (by omega) (by omega)
end Go.Proofs.YtdmoadfnogdfnaaGreatDoor
namespace Go.Proofs.YtdmoadfnogdfnaaGreatDoor
open Go.RowKit
attribute [local irreducible] lo hs sm s64 c64 d64 b64 mh ml pd pc qd qc val hiB str cmpI srD lz nb isq decB txt
theorem dval_digs {l : List UInt8} (h : ∀ c ∈ l, isDig c) : (digs (dval l)).length ≤ l.length :=
 digs_length_iff.2 (Nat.lt_of_lt_of_le (dval_lt h) (Nat.pow_le_pow_left (by unfold Bs; decide) _))
theorem dval_td {l : List UInt8} (h : ∀ c ∈ l, isDig c) : (Rx.td (dval l)).length ≤ l.length :=
 Rx.td_length.2 (Nat.lt_of_lt_of_le (dval_lt h) (Nat.pow_le_pow_left (by decide) _))
theorem dval_txt {l : List UInt8} (h : isDec l) : txt (dval l) = st l := by rw [txt_st, dec_dval h]
set_option maxHeartbeats 4000000 in
set_option maxRecDepth 100000 in
theorem reads_big (l : List UInt8) (h : 4200 < l.length) (w : World) (htab : Tab w) :
  Calls Tryz.prog 19 #[.string (st l)] w fun e w' => e = .returned (.bool true) ∧ Below w.heap.size w w' := by
 have k1 : decide ((4200 : Int) < ((st l).size : Int)) = true := decide_eq_true (by rw [st_size]; omega)
 have k2 : decide (4200 < (st l).size) = true := decide_eq_true (by rw [st_size]; omega)
 have HW := Lib.hid (works_any w htab)
 have hL0 : NL w w [] := NL.start w
 generalize st l = s at *
 go_enter Tryz.func19, Tryz.ntmps19
 go_wp2_with fail
 with_reducible refine Calls.mono HW.out ?_
 rintro e x1 ⟨rfl, hb⟩
 replace hL0 := hL0.call hb
 clear hb HW
 go_wp2_with fail
 exact bodyPost_ret (v := .bool true) (by simp [results, Tryz.results19, go_sem]) rfl ⟨rfl, hL0.bl⟩
set_option maxHeartbeats 4000000 in
set_option maxRecDepth 100000 in
theorem reads_long (l : List UInt8) (h : 4096 < l.length) (h2 : l.length ≤ 4200) (w : World) (htab : Tab w) :
  Calls Tryz.prog 19 #[.string (st l)] w fun e w' => e = .returned (.bool true) ∧ Below w.heap.size w w' := by
 have P := fun w => parse_long l h (by omega) w
 have R := fun w => Rx.rparse_long l h (by omega) w
 have k1 : decide ((4200 : Int) < ((st l).size : Int)) = false := decide_eq_false (by rw [st_size]; omega)
 have k2 : decide (4200 < (st l).size) = false := decide_eq_false (by rw [st_size]; omega)
 generalize st l = s at *
 replace P := Lib.hid P
 replace R := Lib.hid R
 clear h
 have HW := Lib.hid (fun w h => works_any w h)
 have z1 : (((lo 0 : Nat) : Int) == 0) = true := by rw [lo_zero]; rfl
 have z2 : ((hs 0).toList == []) = true := by rw [hs_zero, ByteArray.toList_eq]; rfl
 have hL0 : NL w w [] := NL.start w
 go_enter Tryz.func19, Tryz.ntmps19
 go_wp2_with fail
 with_reducible refine Calls.mono (P.out _) ?_
 rintro e x1 ⟨rfl, hb⟩
 replace hL0 := hL0.call hb
 clear hb P
 replace hL0 := (hL0.new rfl 0 32)
 generalize hweq : (x1.alloc (.cells #[.int .u64 ((lo 0 : Nat) : Int), .string (hs 0)] 32)) = x2 at hL0
 go_wp2_with fail
 with_reducible refine Calls.mono (R.out _) ?_
 rintro e x3 ⟨rfl, hb⟩
 replace hL0 := hL0.call hb
 clear hb R hweq
 obtain ⟨p1, r1⟩ := hL0.get (x1.heap.size) 0 (by (repeat (first | with_reducible exact List.mem_cons_self | with_reducible refine List.mem_cons_of_mem _ ?_)))
 go_wp2_with fail
 with_reducible refine Calls.mono (HW.out _ (htab.below hL0.bl)) ?_
 rintro e x4 ⟨rfl, hb⟩
 replace hL0 := hL0.call hb
 clear hb HW
 go_wp2_with fail
 exact bodyPost_ret (v := .bool true) (by simp [results, Tryz.results19, go_sem]) rfl ⟨rfl, hL0.bl⟩
set_option maxHeartbeats 4000000 in
set_option maxRecDepth 100000 in
theorem reads_bad (l : List UInt8) (h : l.length ≤ 4096) (hd : ¬ isDec l) (w : World) (htab : Tab w) :
  Calls Tryz.prog 19 #[.string (st l)] w fun e w' => e = .returned (.bool true) ∧ Below w.heap.size w w' := by
 have P := fun w => parse_form l h hd w
 have R : ∀ w, Calls Tryz.prog 119 #[.string (st l)] w fun e w' => e = .returned (.tuple #[.slice none 0 0, .int .i64 4]) ∧ Below w.heap.size w w' := fun w => (Rx.rparse_any l h w).mono fun e w' ⟨h1, h2⟩ => by
  rcases h1 with ⟨h1, -⟩ | ⟨-, h1⟩
  ·exact absurd h1 hd
  ·exact ⟨h1, h2⟩
 have k1 : decide ((4200 : Int) < ((st l).size : Int)) = false := decide_eq_false (by rw [st_size]; omega)
 have k2 : decide (4200 < (st l).size) = false := decide_eq_false (by rw [st_size]; omega)
 generalize st l = s at *
 replace P := Lib.hid P
 replace R := Lib.hid R
 clear h hd
 have HW := Lib.hid (fun w h => works_any w h)
 have z1 : (((lo 0 : Nat) : Int) == 0) = true := by rw [lo_zero]; rfl
 have z2 : ((hs 0).toList == []) = true := by rw [hs_zero, ByteArray.toList_eq]; rfl
 have hL0 : NL w w [] := NL.start w
 go_enter Tryz.func19, Tryz.ntmps19
 go_wp2_with fail
 with_reducible refine Calls.mono (P.out _) ?_
 rintro e x1 ⟨rfl, hb⟩
 replace hL0 := hL0.call hb
 clear hb P
 replace hL0 := (hL0.new rfl 0 32)
 generalize hweq : (x1.alloc (.cells #[.int .u64 ((lo 0 : Nat) : Int), .string (hs 0)] 32)) = x2 at hL0
 go_wp2_with fail
 with_reducible refine Calls.mono (R.out _) ?_
 rintro e x3 ⟨rfl, hb⟩
 replace hL0 := hL0.call hb
 clear hb R hweq
 obtain ⟨p2, r2⟩ := hL0.get (x1.heap.size) 0 (by (repeat (first | with_reducible exact List.mem_cons_self | with_reducible refine List.mem_cons_of_mem _ ?_)))
 go_wp2_with fail
 with_reducible refine Calls.mono (HW.out _ (htab.below hL0.bl)) ?_
 rintro e x4 ⟨rfl, hb⟩
 replace hL0 := hL0.call hb
 clear hb HW
 go_wp2_with fail
 exact bodyPost_ret (v := .bool true) (by simp [results, Tryz.results19, go_sem]) rfl ⟨rfl, hL0.bl⟩
set_option maxHeartbeats 4000000 in
set_option maxRecDepth 100000 in
theorem reads_good (l : List UInt8) (h : l.length ≤ 4096) (hd : isDec l) (w : World) (htab : Tab w) :
  Calls Tryz.prog 19 #[.string (st l)] w fun e w' => e = .returned (.bool true) ∧ Below w.heap.size w w' := by
 have P := fun w => parse_ok l h hd w
 have R : ∀ w, Calls Tryz.prog 119 #[.string (st l)] w fun e w' => ∃ v, e = .returned (.tuple #[v, .int .i64 0]) ∧ Rx.Rn w' v (dval l) ∧ Below w.heap.size w w' := fun w => (Rx.rparse_any l h w).mono fun e w' ⟨h1, h2⟩ => by
  rcases h1 with ⟨-, v, h3, h4⟩ | ⟨h1, -⟩
  ·exact ⟨v, h3, h4, h2⟩
  ·exact absurd hd h1
 have T := fun w ht => text_any (dval l) (Nat.le_trans (dval_digs hd.1) (by omega)) w ht
 have U := fun v w hv => Rx.rtext_any v (dval l) (Nat.le_trans (dval_td hd.1) (by omega)) w hv
 rw [dval_txt hd] at T U
 have k1 : decide ((4200 : Int) < ((st l).size : Int)) = false := decide_eq_false (by rw [st_size]; omega)
 have k2 : decide (4200 < (st l).size) = false := decide_eq_false (by rw [st_size]; omega)
 generalize dval l = d at *
 generalize st l = s at *
 replace P := Lib.hid P
 replace R := Lib.hid R
 replace T := Lib.hid T
 replace U := Lib.hid U
 clear h hd
 have HW := Lib.hid (fun w h => works_any w h)
 have hL0 : NL w w [] := NL.start w
 go_enter Tryz.func19, Tryz.ntmps19
 go_wp2_with fail
 with_reducible refine Calls.mono (P.out _) ?_
 rintro e x1 ⟨rfl, hb⟩
 replace hL0 := hL0.call hb
 clear hb P
 replace hL0 := (hL0.new rfl d 32)
 generalize hweq : (x1.alloc (.cells #[.int .u64 ((lo d : Nat) : Int), .string (hs d)] 32)) = x2 at hL0
 go_wp2_with fail
 with_reducible refine Calls.mono (R.out _) ?_
 rintro e x3 ⟨v5, rfl, h5, hb⟩
 replace hL0 := hL0.call hb
 clear hb R hweq
 replace h5 := Lib.hid h5
 obtain ⟨p3, r3⟩ := hL0.get (x1.heap.size) d (by (repeat (first | with_reducible exact List.mem_cons_self | with_reducible refine List.mem_cons_of_mem _ ?_)))
 go_wp2_with fail
 with_reducible refine Calls.mono (T.out _ (htab.below hL0.bl)) ?_
 rintro e x4 ⟨rfl, hb⟩
 replace hL0 := hL0.call hb
 replace h5 := Lib.hid (h5.out.below hb)
 clear hb T
 go_wp2_with fail
 with_reducible refine Calls.mono (U.out _ _ h5.out) ?_
 rintro e x5 ⟨rfl, hb⟩
 replace hL0 := hL0.call hb
 replace h5 := Lib.hid (h5.out.below hb)
 clear hb U
 go_wp2_with fail
 with_reducible refine Calls.mono (HW.out _ (htab.below hL0.bl)) ?_
 rintro e x6 ⟨rfl, hb⟩
 replace hL0 := hL0.call hb
 replace h5 := Lib.hid (h5.out.below hb)
 clear hb HW
 go_wp2_with fail
 exact bodyPost_ret (v := .bool true) (by simp [results, Tryz.results19, go_sem]) rfl ⟨rfl, hL0.bl⟩
theorem reads_any (s : ByteArray) (w : World) (htab : Tab w) :
  Calls Tryz.prog 19 #[.string s] w fun e w' => e = .returned (.bool true) ∧ Below w.heap.size w w' := by
 obtain ⟨l, rfl⟩ : ∃ l, s = st l := ⟨s.data.toList, by cases s; rfl⟩
 rcases Nat.lt_or_ge 4200 l.length with h1 | h1
 ·exact reads_big l h1 w htab
 ·rcases Nat.lt_or_ge 4096 l.length with h2 | h2
  ·exact reads_long l h2 h1 w htab
  ·by_cases hd : isDec l
   ·exact reads_good l h2 hd w htab
   ·exact reads_bad l h2 hd w htab
end Go.Proofs.YtdmoadfnogdfnaaGreatDoor
namespace Go.Proofs.YtdmoadfnogdfnaaGreatDoor
open Go.RowKit
attribute [local irreducible] lo hs sm s64 c64 d64 b64 mh ml pd pc qd qc val hiB str cmpI srD lz nb isq decB txt
set_option maxHeartbeats 4000000 in
set_option maxRecDepth 100000 in
theorem roots_big (ax : Option Addr) (cx nx : Nat) (n : Int) (h : 12 < nx) (w : World) (htab : Tab w) :
  Calls Tryz.prog 18 #[.slice ax nx cx, .int .i64 n] w fun e w' => e = .returned (.bool true) ∧ Below w.heap.size w w' := by
 have HW := Lib.hid (works_any w htab)
 have k0 : decide ((12 : Int) < (nx : Int)) = true := decide_eq_true (by omega)
 clear h
 go_enter Tryz.func18, Tryz.ntmps18
 go_wp2_with fail
 with_reducible refine Calls.mono HW.out ?_
 rintro e w1 ⟨rfl, hb⟩
 go_wp2_with fail
 exact bodyPost_ret (v := .bool true) (by simp [results, Tryz.results18, go_sem]) rfl ⟨rfl, hb⟩
theorem digs_pow_le {a K : Nat} (ha : (digs a).length ≤ K) : ∀ i, (digs (a ^ i)).length ≤ K * i + 1
 | 0 => by
  have : (digs 1).length ≤ 1 := digs_length_iff.2 (by rw [Nat.pow_one]; unfold Bs; omega)
  rw [Nat.pow_zero]; omega
 | i + 1 => by
  have := digs_mul_le (digs_pow_le ha i) ha
  rw [Nat.pow_succ, Nat.mul_succ]; omega
theorem roots_cases (n : Int) (b L : Nat) : n < 0 ∨ 4096 < n ∨ (∃ k : Nat, n = (k : Int) ∧ 0 < k ∧ k ≤ 4096 ∧ 262144 < k * b) ∨ (∃ k : Nat, n = (k : Int) ∧ 0 < k ∧ k ≤ 4096 ∧ ¬ 262144 < k * b ∧ (20 < k ∨ (k ≤ 20 ∧ 4 < L))) ∨ (∃ k : Nat, n = (k : Int) ∧ 0 < k ∧ k ≤ 20 ∧ ¬ 262144 < k * b ∧ L ≤ 4) ∨ (n = 0 ∧ 4 < L) ∨ (n = 0 ∧ L ≤ 4) := by
 by_cases h1 : n < 0
 ·exact .inl h1
 by_cases h2 : 4096 < n
 ·exact .inr (.inl h2)
 by_cases h3 : n = 0
 ·subst h3
  by_cases h4 : 4 < L
  ·exact .inr (.inr (.inr (.inr (.inr (.inl ⟨rfl, h4⟩)))))
  ·exact .inr (.inr (.inr (.inr (.inr (.inr ⟨rfl, by omega⟩)))))
 obtain ⟨k, rfl⟩ := Int.eq_ofNat_of_zero_le (show 0 ≤ n by omega)
 by_cases h4 : 262144 < k * b
 ·exact .inr (.inr (.inl ⟨k, rfl, by omega, by omega, h4⟩))
 by_cases h5 : 20 < k
 ·exact .inr (.inr (.inr (.inl ⟨k, rfl, by omega, by omega, h4, .inl h5⟩)))
 by_cases h6 : 4 < L
 ·exact .inr (.inr (.inr (.inl ⟨k, rfl, by omega, by omega, h4, .inr ⟨by omega, h6⟩⟩)))
 ·exact .inr (.inr (.inr (.inr (.inl ⟨k, rfl, by omega, by omega, h4, by omega⟩))))
set_option maxHeartbeats 16000000 in
set_option maxRecDepth 1000000 in
theorem roots_small (vx : Value) (lx : List Nat) (n : Int) (hn63 : n < 9223372036854775808) (w : World) (htab : Tab w) (hx : Ws w vx lx) (nx : lx.length ≤ 12) :
  Calls Tryz.prog 18 #[vx, .int .i64 n] w fun e w' => e = .returned (.bool true) ∧ Below w.heap.size w w' := by
 have MX := fun w h => made_any vx lx (by omega) w h
 have RX := fun w h => Rx.rofw_any vx lx (by omega) w h
 obtain ⟨ax, cx, ex⟩ := hx.form
 have dx := made_digs hx.lt
 have tx := Rx.td_made hx.lt
 subst ex
 have kx : decide ((12 : Int) < (lx.length : Int)) = false := decide_eq_false (by omega)
 generalize made lx = a at *
 replace hx := Lib.hid hx
 replace MX := Lib.hid MX
 replace RX := Lib.hid RX
 generalize lx.length = Nx at *
 have nba := nb_len (Nat.le_trans dx nx)
 obtain ⟨b, hb0⟩ : ∃ b, b = nb a := ⟨_, rfl⟩
 have Q := fun w => sqrt_all a (by omega) w
 have RQ := fun v w hv => Rx.rsqrt_any v a (by omega) w hv
 have hra : isq a ≤ a := Nat.le_trans (Nat.le_mul_self _) (isq_spec a).1
 have SMr := fun v w ht hv => Rx.same_any (isq a) v (Nat.le_trans (digs_mono hra) (by omega)) (Nat.le_trans (Rx.td_mono hra) (by omega)) w ht hv
 have BB := fun w => bits_any a (by omega) w
 have RB := fun v w hv => Rx.rbits_any v a (by omega) (by omega) w hv
 have PO := fun k h1 h2 h3 w => pow_over a k h1 h2 h3 (by omega) w
 have POK := fun k h1 h2 w => pow_ok a k h1 h2 (by omega) w
 have hdp : ∀ k, k ≤ 20 → Nx ≤ 4 → (digs (a ^ k)).length ≤ 81 := fun k hk hN => Nat.le_trans (digs_pow_le (K := 4) (Nat.le_trans dx hN) k) (by omega)
 have RP := fun v k (hk : k ≤ 20) w hv => Rx.rpow_any v a k 36 (by omega) (by omega) (by omega) (by omega) w hv
 have SMp := fun k (hk : k ≤ 20) (hN : Nx ≤ 4) v w ht hv => Rx.same_any (a ^ k) v (Nat.le_trans (hdp k hk hN) (by omega)) (Nat.le_trans (Rx.td_pow_le (K := 36) (by omega) k) (by omega)) w ht hv
 have hcases := roots_cases n b Nx
 rw [← hb0] at BB RB PO POK nba
 clear hb0 hra hdp
 generalize isq a = r at *
 have HW := Lib.hid (fun w h => works_any w h)
 replace hn63 := Lib.hid hn63
 replace Q := Lib.hid Q
 replace RQ := Lib.hid RQ
 replace SMr := Lib.hid SMr
 replace BB := Lib.hid BB
 replace RB := Lib.hid RB
 replace PO := Lib.hid PO
 replace POK := Lib.hid POK
 replace RP := Lib.hid RP
 replace SMp := Lib.hid SMp
 replace dx := Lib.hid dx
 replace tx := Lib.hid tx
 have hL0 : NL w w [] := NL.start w
 rcases hcases with c1 | c1 | ⟨k, rfl, c1, c2, c3⟩ | ⟨k, rfl, c1, c2, c3, c4⟩ | ⟨k, rfl, c1, c2, c3, c4⟩ | ⟨rfl, c4⟩ | ⟨rfl, c4⟩
 ·have P := Lib.hid (fun w => pow_neg a n c1 w)
  have d1 : ¬ (0 : Int) < n := by omega
  have d2 : ¬ (20 : Int) < n := by omega
  have d3 : ¬ (0 : Int) ≤ n := by omega
  go_enter Tryz.func18, Tryz.ntmps18
  go_wp2_with fail
  with_reducible refine Calls.mono (MX.out _ (hx.out.below hL0.bl)) ?_
  rintro e x1 ⟨rfl, hb⟩
  replace hL0 := hL0.call hb
  clear hb MX
  go_wp2_with fail
  with_reducible refine Calls.mono (RX.out _ (hx.out.below hL0.bl)) ?_
  rintro e x2 ⟨v6, rfl, h6, hb⟩
  replace hL0 := hL0.call hb
  clear hb RX
  replace h6 := Lib.hid h6
  replace h6 := Lib.hid (h6.out.below (below1 _ (.cells #[.int .u64 ((lo a : Nat) : Int), .string (hs a)] 32)))
  replace hL0 := (hL0.new rfl a 32)
  generalize hweq : (x2.alloc (.cells #[.int .u64 ((lo a : Nat) : Int), .string (hs a)] 32)) = x3 at hL0 h6
  obtain ⟨p1, r1⟩ := hL0.get (x2.heap.size) a (by (repeat (first | with_reducible exact List.mem_cons_self | with_reducible refine List.mem_cons_of_mem _ ?_)))
  go_wp2_with fail
  with_reducible refine Calls.mono (Q.out _) ?_
  rintro e x4 ⟨rfl, hb⟩
  replace hL0 := hL0.call hb
  replace h6 := Lib.hid (h6.out.below hb)
  clear hb Q hweq
  go_wp2_with fail
  with_reducible refine Calls.mono (RQ.out _ _ h6.out) ?_
  rintro e x5 ⟨v21, rfl, h21, hb⟩
  replace hL0 := hL0.call hb
  replace h6 := Lib.hid (h6.out.below hb)
  clear hb RQ
  replace h21 := Lib.hid h21
  go_wp2_with fail
  with_reducible refine Calls.mono (SMr.out _ _ (htab.below hL0.bl) h21.out) ?_
  rintro e x6 ⟨rfl, hb⟩
  replace hL0 := hL0.call hb
  replace h6 := Lib.hid (h6.out.below hb)
  clear hb SMr
  clear h21
  obtain ⟨p2, r2⟩ := hL0.get (x2.heap.size) a (by (repeat (first | with_reducible exact List.mem_cons_self | with_reducible refine List.mem_cons_of_mem _ ?_)))
  go_wp2_with fail
  with_reducible refine Calls.mono (BB.out _) ?_
  rintro e x7 ⟨rfl, hb⟩
  replace hL0 := hL0.call hb
  replace h6 := Lib.hid (h6.out.below hb)
  clear hb BB
  go_wp2_with fail
  with_reducible refine Calls.mono (RB.out _ _ h6.out) ?_
  rintro e x8 ⟨rfl, hb⟩
  replace hL0 := hL0.call hb
  replace h6 := Lib.hid (h6.out.below hb)
  clear hb
  obtain ⟨p3, r3⟩ := hL0.get (x2.heap.size) a (by (repeat (first | with_reducible exact List.mem_cons_self | with_reducible refine List.mem_cons_of_mem _ ?_)))
  go_wp2_with fail
  with_reducible refine Calls.mono (P.out _) ?_
  rintro e x9 ⟨rfl, hb⟩
  replace hL0 := hL0.call hb
  replace h6 := Lib.hid (h6.out.below hb)
  clear hb P
  replace h6 := Lib.hid (h6.out.below (below1 _ (.cells #[.int .u64 ((lo 0 : Nat) : Int), .string (hs 0)] 32)))
  replace hL0 := (hL0.new rfl 0 32)
  generalize hweq : (x9.alloc (.cells #[.int .u64 ((lo 0 : Nat) : Int), .string (hs 0)] 32)) = x10 at hL0 h6
  have z1 : (((lo 0 : Nat) : Int) == 0) = true := by rw [lo_zero]; rfl
  have z2 : ((hs 0).toList == []) = true := by rw [hs_zero, ByteArray.toList_eq]; rfl
  obtain ⟨p4, r4⟩ := hL0.get (x9.heap.size) 0 (by (repeat (first | with_reducible exact List.mem_cons_self | with_reducible refine List.mem_cons_of_mem _ ?_)))
  go_wp2_with fail
  with_reducible refine Calls.mono (HW.out _ (htab.below hL0.bl)) ?_
  rintro e x11 ⟨rfl, hb⟩
  replace hL0 := hL0.call hb
  replace h6 := Lib.hid (h6.out.below hb)
  clear hb HW hweq
  go_wp2_with fail
  exact bodyPost_ret (v := .bool true) (by simp [results, Tryz.results18, go_sem]) rfl ⟨rfl, hL0.bl⟩
 ·obtain ⟨k, rfl⟩ := Int.eq_ofNat_of_zero_le (show 0 ≤ n by omega)
  have P := Lib.hid (fun w => pow_great a k (by omega) (by have := hn63.out; omega) w)
  skip
  have bq00 : decide ((0 : Int) < (k : Int)) = true := decide_eq_true (by omega)
  have bq01 : decide (0 < k) = true := decide_eq_true (by omega)
  have bq10 : decide ((k : Int) ≤ (4096 : Int)) = false := decide_eq_false (by omega)
  have bq11 : decide (k ≤ 4096) = false := decide_eq_false (by omega)
  have bq20 : decide ((20 : Int) < (k : Int)) = true := decide_eq_true (by omega)
  have bq21 : decide (20 < k) = true := decide_eq_true (by omega)
  have bq30 : decide ((4096 : Int) < (k : Int)) = true := decide_eq_true (by omega)
  have bq31 : decide (4096 < k) = true := decide_eq_true (by omega)
  replace c1 := Lib.hid c1
  have bz : decide ((k : Int) < 0) = false := decide_eq_false (by omega)
  have bz2 : decide ((0 : Int) ≤ (k : Int)) = true := decide_eq_true (by omega)
  go_enter Tryz.func18, Tryz.ntmps18
  go_wp2_with fail
  with_reducible refine Calls.mono (MX.out _ (hx.out.below hL0.bl)) ?_
  rintro e x1 ⟨rfl, hb⟩
  replace hL0 := hL0.call hb
  clear hb MX
  go_wp2_with fail
  with_reducible refine Calls.mono (RX.out _ (hx.out.below hL0.bl)) ?_
  rintro e x2 ⟨v6, rfl, h6, hb⟩
  replace hL0 := hL0.call hb
  clear hb RX
  replace h6 := Lib.hid h6
  replace h6 := Lib.hid (h6.out.below (below1 _ (.cells #[.int .u64 ((lo a : Nat) : Int), .string (hs a)] 32)))
  replace hL0 := (hL0.new rfl a 32)
  generalize hweq : (x2.alloc (.cells #[.int .u64 ((lo a : Nat) : Int), .string (hs a)] 32)) = x3 at hL0 h6
  obtain ⟨p5, r5⟩ := hL0.get (x2.heap.size) a (by (repeat (first | with_reducible exact List.mem_cons_self | with_reducible refine List.mem_cons_of_mem _ ?_)))
  go_wp2_with fail
  with_reducible refine Calls.mono (Q.out _) ?_
  rintro e x4 ⟨rfl, hb⟩
  replace hL0 := hL0.call hb
  replace h6 := Lib.hid (h6.out.below hb)
  clear hb Q hweq
  go_wp2_with fail
  with_reducible refine Calls.mono (RQ.out _ _ h6.out) ?_
  rintro e x5 ⟨v21, rfl, h21, hb⟩
  replace hL0 := hL0.call hb
  replace h6 := Lib.hid (h6.out.below hb)
  clear hb RQ
  replace h21 := Lib.hid h21
  go_wp2_with fail
  with_reducible refine Calls.mono (SMr.out _ _ (htab.below hL0.bl) h21.out) ?_
  rintro e x6 ⟨rfl, hb⟩
  replace hL0 := hL0.call hb
  replace h6 := Lib.hid (h6.out.below hb)
  clear hb SMr
  clear h21
  obtain ⟨p6, r6⟩ := hL0.get (x2.heap.size) a (by (repeat (first | with_reducible exact List.mem_cons_self | with_reducible refine List.mem_cons_of_mem _ ?_)))
  go_wp2_with fail
  with_reducible refine Calls.mono (BB.out _) ?_
  rintro e x7 ⟨rfl, hb⟩
  replace hL0 := hL0.call hb
  replace h6 := Lib.hid (h6.out.below hb)
  clear hb BB
  go_wp2_with fail
  with_reducible refine Calls.mono (RB.out _ _ h6.out) ?_
  rintro e x8 ⟨rfl, hb⟩
  replace hL0 := hL0.call hb
  replace h6 := Lib.hid (h6.out.below hb)
  clear hb
  obtain ⟨p7, r7⟩ := hL0.get (x2.heap.size) a (by (repeat (first | with_reducible exact List.mem_cons_self | with_reducible refine List.mem_cons_of_mem _ ?_)))
  go_wp2_with fail
  with_reducible refine Calls.mono (P.out _) ?_
  rintro e x9 ⟨rfl, hb⟩
  replace hL0 := hL0.call hb
  replace h6 := Lib.hid (h6.out.below hb)
  clear hb P
  replace h6 := Lib.hid (h6.out.below (below1 _ (.cells #[.int .u64 ((lo 0 : Nat) : Int), .string (hs 0)] 32)))
  replace hL0 := (hL0.new rfl 0 32)
  generalize hweq : (x9.alloc (.cells #[.int .u64 ((lo 0 : Nat) : Int), .string (hs 0)] 32)) = x10 at hL0 h6
  have z1 : (((lo 0 : Nat) : Int) == 0) = true := by rw [lo_zero]; rfl
  have z2 : ((hs 0).toList == []) = true := by rw [hs_zero, ByteArray.toList_eq]; rfl
  obtain ⟨p8, r8⟩ := hL0.get (x9.heap.size) 0 (by (repeat (first | with_reducible exact List.mem_cons_self | with_reducible refine List.mem_cons_of_mem _ ?_)))
  go_wp2_with fail
  with_reducible refine Calls.mono (HW.out _ (htab.below hL0.bl)) ?_
  rintro e x11 ⟨rfl, hb⟩
  replace hL0 := hL0.call hb
  replace h6 := Lib.hid (h6.out.below hb)
  clear hb HW hweq
  go_wp2_with fail
  exact bodyPost_ret (v := .bool true) (by simp [results, Tryz.results18, go_sem]) rfl ⟨rfl, hL0.bl⟩
 ·have P := Lib.hid (fun w => PO.out k c1 c2 ((Nat.div_lt_iff_lt_mul c1).2 (by rw [Nat.mul_comm]; exact c3)) w)
  obtain ⟨z, hz⟩ : ∃ z, z = k * b := ⟨_, rfl⟩
  have hzb : z ≤ 3145728 := by rw [hz]; exact Nat.le_trans (Nat.mul_le_mul c2 nba) (by decide)
  have hzz : (k : Int) * (b : Int) = (z : Int) := by rw [hz]; rfl
  rw [← hz] at c3
  clear hz
  have hzb2 : (z : Int) ≤ 3145728 := by omega
  have dz2 : decide (262144 < z) = true := decide_eq_true (by omega)
  have dz : decide ((262144 : Int) < (z : Int)) = true := decide_eq_true (by omega)
  have bq00 : decide ((0 : Int) < (k : Int)) = true := decide_eq_true (by omega)
  have bq01 : decide (0 < k) = true := decide_eq_true (by omega)
  have bq10 : decide ((k : Int) ≤ (4096 : Int)) = true := decide_eq_true (by omega)
  have bq11 : decide (k ≤ 4096) = true := decide_eq_true (by omega)
  have bq20 : decide ((4096 : Int) < (k : Int)) = false := decide_eq_false (by omega)
  have bq21 : decide (4096 < k) = false := decide_eq_false (by omega)
  replace c1 := Lib.hid c1
  replace c2 := Lib.hid c2
  replace c3 := Lib.hid c3
  have bz : decide ((k : Int) < 0) = false := decide_eq_false (by omega)
  have bz2 : decide ((0 : Int) ≤ (k : Int)) = true := decide_eq_true (by omega)
  go_enter Tryz.func18, Tryz.ntmps18
  go_wp2_with fail
  with_reducible refine Calls.mono (MX.out _ (hx.out.below hL0.bl)) ?_
  rintro e x1 ⟨rfl, hb⟩
  replace hL0 := hL0.call hb
  clear hb MX
  go_wp2_with fail
  with_reducible refine Calls.mono (RX.out _ (hx.out.below hL0.bl)) ?_
  rintro e x2 ⟨v6, rfl, h6, hb⟩
  replace hL0 := hL0.call hb
  clear hb RX
  replace h6 := Lib.hid h6
  replace h6 := Lib.hid (h6.out.below (below1 _ (.cells #[.int .u64 ((lo a : Nat) : Int), .string (hs a)] 32)))
  replace hL0 := (hL0.new rfl a 32)
  generalize hweq : (x2.alloc (.cells #[.int .u64 ((lo a : Nat) : Int), .string (hs a)] 32)) = x3 at hL0 h6
  obtain ⟨p9, r9⟩ := hL0.get (x2.heap.size) a (by (repeat (first | with_reducible exact List.mem_cons_self | with_reducible refine List.mem_cons_of_mem _ ?_)))
  go_wp2_with fail
  with_reducible refine Calls.mono (Q.out _) ?_
  rintro e x4 ⟨rfl, hb⟩
  replace hL0 := hL0.call hb
  replace h6 := Lib.hid (h6.out.below hb)
  clear hb Q hweq
  go_wp2_with fail
  with_reducible refine Calls.mono (RQ.out _ _ h6.out) ?_
  rintro e x5 ⟨v21, rfl, h21, hb⟩
  replace hL0 := hL0.call hb
  replace h6 := Lib.hid (h6.out.below hb)
  clear hb RQ
  replace h21 := Lib.hid h21
  go_wp2_with fail
  with_reducible refine Calls.mono (SMr.out _ _ (htab.below hL0.bl) h21.out) ?_
  rintro e x6 ⟨rfl, hb⟩
  replace hL0 := hL0.call hb
  replace h6 := Lib.hid (h6.out.below hb)
  clear hb SMr
  clear h21
  obtain ⟨p10, r10⟩ := hL0.get (x2.heap.size) a (by (repeat (first | with_reducible exact List.mem_cons_self | with_reducible refine List.mem_cons_of_mem _ ?_)))
  go_wp2_with fail
  with_reducible refine Calls.mono (BB.out _) ?_
  rintro e x7 ⟨rfl, hb⟩
  replace hL0 := hL0.call hb
  replace h6 := Lib.hid (h6.out.below hb)
  clear hb BB
  go_wp2_with fail
  with_reducible refine Calls.mono (RB.out _ _ h6.out) ?_
  rintro e x8 ⟨rfl, hb⟩
  replace hL0 := hL0.call hb
  replace h6 := Lib.hid (h6.out.below hb)
  clear hb
  go_wp2_with fail
  with_reducible refine Calls.mono (RB.out _ _ h6.out) ?_
  rintro e x9 ⟨rfl, hb⟩
  replace hL0 := hL0.call hb
  replace h6 := Lib.hid (h6.out.below hb)
  clear hb RB
  obtain ⟨p11, r11⟩ := hL0.get (x2.heap.size) a (by (repeat (first | with_reducible exact List.mem_cons_self | with_reducible refine List.mem_cons_of_mem _ ?_)))
  go_wp2_with fail
  with_reducible refine Calls.mono (P.out _) ?_
  rintro e x10 ⟨rfl, hb⟩
  replace hL0 := hL0.call hb
  replace h6 := Lib.hid (h6.out.below hb)
  clear hb P
  replace h6 := Lib.hid (h6.out.below (below1 _ (.cells #[.int .u64 ((lo 0 : Nat) : Int), .string (hs 0)] 32)))
  replace hL0 := (hL0.new rfl 0 32)
  generalize hweq : (x10.alloc (.cells #[.int .u64 ((lo 0 : Nat) : Int), .string (hs 0)] 32)) = x11 at hL0 h6
  have z1 : (((lo 0 : Nat) : Int) == 0) = true := by rw [lo_zero]; rfl
  have z2 : ((hs 0).toList == []) = true := by rw [hs_zero, ByteArray.toList_eq]; rfl
  obtain ⟨p12, r12⟩ := hL0.get (x10.heap.size) 0 (by (repeat (first | with_reducible exact List.mem_cons_self | with_reducible refine List.mem_cons_of_mem _ ?_)))
  go_wp2_with fail
  with_reducible refine Calls.mono (HW.out _ (htab.below hL0.bl)) ?_
  rintro e x12 ⟨rfl, hb⟩
  replace hL0 := hL0.call hb
  replace h6 := Lib.hid (h6.out.below hb)
  clear hb HW hweq
  go_wp2_with fail
  exact bodyPost_ret (v := .bool true) (by simp [results, Tryz.results18, go_sem]) rfl ⟨rfl, hL0.bl⟩
 ·skip
  obtain ⟨z, hz⟩ : ∃ z, z = k * b := ⟨_, rfl⟩
  have hzb : z ≤ 3145728 := by rw [hz]; exact Nat.le_trans (Nat.mul_le_mul c2 nba) (by decide)
  have hzz : (k : Int) * (b : Int) = (z : Int) := by rw [hz]; rfl
  rw [← hz] at c3
  clear hz
  have hzb2 : (z : Int) ≤ 3145728 := by omega
  have dz2 : decide (262144 < z) = false := decide_eq_false (by omega)
  have dz : decide ((262144 : Int) < (z : Int)) = false := decide_eq_false (by omega)
  have bq00 : decide ((0 : Int) < (k : Int)) = true := decide_eq_true (by omega)
  have bq01 : decide (0 < k) = true := decide_eq_true (by omega)
  have bq10 : decide ((k : Int) ≤ (4096 : Int)) = true := decide_eq_true (by omega)
  have bq11 : decide (k ≤ 4096) = true := decide_eq_true (by omega)
  replace c1 := Lib.hid c1
  replace c2 := Lib.hid c2
  replace c3 := Lib.hid c3
  have bz2 : decide ((0 : Int) ≤ (k : Int)) = true := decide_eq_true (by omega)
  rcases c4 with c4 | ⟨c4, c5⟩
  ·have d6 : decide ((20 : Int) < (k : Int)) = true := decide_eq_true (by omega)
   have d8 : decide (20 < k) = true := decide_eq_true (by omega)
   replace c4 := Lib.hid c4
   go_enter Tryz.func18, Tryz.ntmps18
   go_wp2_with fail
   with_reducible refine Calls.mono (MX.out _ (hx.out.below hL0.bl)) ?_
   rintro e x1 ⟨rfl, hb⟩
   replace hL0 := hL0.call hb
   clear hb MX
   go_wp2_with fail
   with_reducible refine Calls.mono (RX.out _ (hx.out.below hL0.bl)) ?_
   rintro e x2 ⟨v6, rfl, h6, hb⟩
   replace hL0 := hL0.call hb
   clear hb RX
   replace h6 := Lib.hid h6
   replace h6 := Lib.hid (h6.out.below (below1 _ (.cells #[.int .u64 ((lo a : Nat) : Int), .string (hs a)] 32)))
   replace hL0 := (hL0.new rfl a 32)
   generalize hweq : (x2.alloc (.cells #[.int .u64 ((lo a : Nat) : Int), .string (hs a)] 32)) = x3 at hL0 h6
   obtain ⟨p13, r13⟩ := hL0.get (x2.heap.size) a (by (repeat (first | with_reducible exact List.mem_cons_self | with_reducible refine List.mem_cons_of_mem _ ?_)))
   go_wp2_with fail
   with_reducible refine Calls.mono (Q.out _) ?_
   rintro e x4 ⟨rfl, hb⟩
   replace hL0 := hL0.call hb
   replace h6 := Lib.hid (h6.out.below hb)
   clear hb Q hweq
   go_wp2_with fail
   with_reducible refine Calls.mono (RQ.out _ _ h6.out) ?_
   rintro e x5 ⟨v21, rfl, h21, hb⟩
   replace hL0 := hL0.call hb
   replace h6 := Lib.hid (h6.out.below hb)
   clear hb RQ
   replace h21 := Lib.hid h21
   go_wp2_with fail
   with_reducible refine Calls.mono (SMr.out _ _ (htab.below hL0.bl) h21.out) ?_
   rintro e x6 ⟨rfl, hb⟩
   replace hL0 := hL0.call hb
   replace h6 := Lib.hid (h6.out.below hb)
   clear hb SMr
   clear h21
   obtain ⟨p14, r14⟩ := hL0.get (x2.heap.size) a (by (repeat (first | with_reducible exact List.mem_cons_self | with_reducible refine List.mem_cons_of_mem _ ?_)))
   go_wp2_with fail
   with_reducible refine Calls.mono (BB.out _) ?_
   rintro e x7 ⟨rfl, hb⟩
   replace hL0 := hL0.call hb
   replace h6 := Lib.hid (h6.out.below hb)
   clear hb BB
   go_wp2_with fail
   with_reducible refine Calls.mono (RB.out _ _ h6.out) ?_
   rintro e x8 ⟨rfl, hb⟩
   replace hL0 := hL0.call hb
   replace h6 := Lib.hid (h6.out.below hb)
   clear hb
   go_wp2_with fail
   with_reducible refine Calls.mono (RB.out _ _ h6.out) ?_
   rintro e x9 ⟨rfl, hb⟩
   replace hL0 := hL0.call hb
   replace h6 := Lib.hid (h6.out.below hb)
   clear hb RB
   go_wp2_with fail
   with_reducible refine Calls.mono (HW.out _ (htab.below hL0.bl)) ?_
   rintro e x10 ⟨rfl, hb⟩
   replace hL0 := hL0.call hb
   replace h6 := Lib.hid (h6.out.below hb)
   clear hb HW
   go_wp2_with fail
   exact bodyPost_ret (v := .bool true) (by simp [results, Tryz.results18, go_sem]) rfl ⟨rfl, hL0.bl⟩
  ·have d6 : decide ((20 : Int) < (k : Int)) = false := decide_eq_false (by omega)
   have d8 : decide (20 < k) = false := decide_eq_false (by omega)
   have d7 : decide ((4 : Int) < (Nx : Int)) = true := decide_eq_true (by omega)
   have d9 : decide (4 < Nx) = true := decide_eq_true (by omega)
   replace c4 := Lib.hid c4
   replace c5 := Lib.hid c5
   go_enter Tryz.func18, Tryz.ntmps18
   go_wp2_with fail
   with_reducible refine Calls.mono (MX.out _ (hx.out.below hL0.bl)) ?_
   rintro e x1 ⟨rfl, hb⟩
   replace hL0 := hL0.call hb
   clear hb MX
   go_wp2_with fail
   with_reducible refine Calls.mono (RX.out _ (hx.out.below hL0.bl)) ?_
   rintro e x2 ⟨v6, rfl, h6, hb⟩
   replace hL0 := hL0.call hb
   clear hb RX
   replace h6 := Lib.hid h6
   replace h6 := Lib.hid (h6.out.below (below1 _ (.cells #[.int .u64 ((lo a : Nat) : Int), .string (hs a)] 32)))
   replace hL0 := (hL0.new rfl a 32)
   generalize hweq : (x2.alloc (.cells #[.int .u64 ((lo a : Nat) : Int), .string (hs a)] 32)) = x3 at hL0 h6
   obtain ⟨p15, r15⟩ := hL0.get (x2.heap.size) a (by (repeat (first | with_reducible exact List.mem_cons_self | with_reducible refine List.mem_cons_of_mem _ ?_)))
   go_wp2_with fail
   with_reducible refine Calls.mono (Q.out _) ?_
   rintro e x4 ⟨rfl, hb⟩
   replace hL0 := hL0.call hb
   replace h6 := Lib.hid (h6.out.below hb)
   clear hb Q hweq
   go_wp2_with fail
   with_reducible refine Calls.mono (RQ.out _ _ h6.out) ?_
   rintro e x5 ⟨v21, rfl, h21, hb⟩
   replace hL0 := hL0.call hb
   replace h6 := Lib.hid (h6.out.below hb)
   clear hb RQ
   replace h21 := Lib.hid h21
   go_wp2_with fail
   with_reducible refine Calls.mono (SMr.out _ _ (htab.below hL0.bl) h21.out) ?_
   rintro e x6 ⟨rfl, hb⟩
   replace hL0 := hL0.call hb
   replace h6 := Lib.hid (h6.out.below hb)
   clear hb SMr
   clear h21
   obtain ⟨p16, r16⟩ := hL0.get (x2.heap.size) a (by (repeat (first | with_reducible exact List.mem_cons_self | with_reducible refine List.mem_cons_of_mem _ ?_)))
   go_wp2_with fail
   with_reducible refine Calls.mono (BB.out _) ?_
   rintro e x7 ⟨rfl, hb⟩
   replace hL0 := hL0.call hb
   replace h6 := Lib.hid (h6.out.below hb)
   clear hb BB
   go_wp2_with fail
   with_reducible refine Calls.mono (RB.out _ _ h6.out) ?_
   rintro e x8 ⟨rfl, hb⟩
   replace hL0 := hL0.call hb
   replace h6 := Lib.hid (h6.out.below hb)
   clear hb
   go_wp2_with fail
   with_reducible refine Calls.mono (RB.out _ _ h6.out) ?_
   rintro e x9 ⟨rfl, hb⟩
   replace hL0 := hL0.call hb
   replace h6 := Lib.hid (h6.out.below hb)
   clear hb RB
   go_wp2_with fail
   with_reducible refine Calls.mono (HW.out _ (htab.below hL0.bl)) ?_
   rintro e x10 ⟨rfl, hb⟩
   replace hL0 := hL0.call hb
   replace h6 := Lib.hid (h6.out.below hb)
   clear hb HW
   go_wp2_with fail
   exact bodyPost_ret (v := .bool true) (by simp [results, Tryz.results18, go_sem]) rfl ⟨rfl, hL0.bl⟩
 ·have P := fun w => POK.out k (by omega) (.inr ((Nat.le_div_iff_mul_le c1).2 (by rw [Nat.mul_comm]; omega))) w
  have RPk := fun v w hv => RP.out v k c2 w hv
  have SMk := fun v w ht hv => SMp.out k c2 c4 v w ht hv
  generalize a ^ k = p at *
  replace P := Lib.hid P
  replace RPk := Lib.hid RPk
  replace SMk := Lib.hid SMk
  clear SMp RP POK PO
  obtain ⟨z, hz⟩ : ∃ z, z = k * b := ⟨_, rfl⟩
  have hzb : z ≤ 3145728 := by rw [hz]; exact Nat.le_trans (Nat.mul_le_mul (show k ≤ 4096 by omega) nba) (by decide)
  have hzz : (k : Int) * (b : Int) = (z : Int) := by rw [hz]; rfl
  rw [← hz] at c3
  clear hz
  have hzb2 : (z : Int) ≤ 3145728 := by omega
  have dz2 : decide (262144 < z) = false := decide_eq_false (by omega)
  have dz : decide ((262144 : Int) < (z : Int)) = false := decide_eq_false (by omega)
  have d7 : decide ((4 : Int) < (Nx : Int)) = false := decide_eq_false (by omega)
  have d9 : decide (4 < Nx) = false := decide_eq_false (by omega)
  have bq00 : decide ((0 : Int) < (k : Int)) = true := decide_eq_true (by omega)
  have bq01 : decide (0 < k) = true := decide_eq_true (by omega)
  have bq10 : decide ((k : Int) ≤ (4096 : Int)) = true := decide_eq_true (by omega)
  have bq11 : decide (k ≤ 4096) = true := decide_eq_true (by omega)
  have bq20 : decide ((20 : Int) < (k : Int)) = false := decide_eq_false (by omega)
  have bq21 : decide (20 < k) = false := decide_eq_false (by omega)
  have bq30 : decide ((4096 : Int) < (k : Int)) = false := decide_eq_false (by omega)
  have bq31 : decide (4096 < k) = false := decide_eq_false (by omega)
  replace c1 := Lib.hid c1
  replace c2 := Lib.hid c2
  replace c3 := Lib.hid c3
  replace c4 := Lib.hid c4
  have bz : decide ((k : Int) < 0) = false := decide_eq_false (by omega)
  have bz2 : decide ((0 : Int) ≤ (k : Int)) = true := decide_eq_true (by omega)
  go_enter Tryz.func18, Tryz.ntmps18
  go_wp2_with fail
  with_reducible refine Calls.mono (MX.out _ (hx.out.below hL0.bl)) ?_
  rintro e x1 ⟨rfl, hb⟩
  replace hL0 := hL0.call hb
  clear hb MX
  go_wp2_with fail
  with_reducible refine Calls.mono (RX.out _ (hx.out.below hL0.bl)) ?_
  rintro e x2 ⟨v6, rfl, h6, hb⟩
  replace hL0 := hL0.call hb
  clear hb RX
  replace h6 := Lib.hid h6
  replace h6 := Lib.hid (h6.out.below (below1 _ (.cells #[.int .u64 ((lo a : Nat) : Int), .string (hs a)] 32)))
  replace hL0 := (hL0.new rfl a 32)
  generalize hweq : (x2.alloc (.cells #[.int .u64 ((lo a : Nat) : Int), .string (hs a)] 32)) = x3 at hL0 h6
  obtain ⟨p17, r17⟩ := hL0.get (x2.heap.size) a (by (repeat (first | with_reducible exact List.mem_cons_self | with_reducible refine List.mem_cons_of_mem _ ?_)))
  go_wp2_with fail
  with_reducible refine Calls.mono (Q.out _) ?_
  rintro e x4 ⟨rfl, hb⟩
  replace hL0 := hL0.call hb
  replace h6 := Lib.hid (h6.out.below hb)
  clear hb Q hweq
  go_wp2_with fail
  with_reducible refine Calls.mono (RQ.out _ _ h6.out) ?_
  rintro e x5 ⟨v21, rfl, h21, hb⟩
  replace hL0 := hL0.call hb
  replace h6 := Lib.hid (h6.out.below hb)
  clear hb RQ
  replace h21 := Lib.hid h21
  go_wp2_with fail
  with_reducible refine Calls.mono (SMr.out _ _ (htab.below hL0.bl) h21.out) ?_
  rintro e x6 ⟨rfl, hb⟩
  replace hL0 := hL0.call hb
  replace h6 := Lib.hid (h6.out.below hb)
  clear hb SMr
  clear h21
  obtain ⟨p18, r18⟩ := hL0.get (x2.heap.size) a (by (repeat (first | with_reducible exact List.mem_cons_self | with_reducible refine List.mem_cons_of_mem _ ?_)))
  go_wp2_with fail
  with_reducible refine Calls.mono (BB.out _) ?_
  rintro e x7 ⟨rfl, hb⟩
  replace hL0 := hL0.call hb
  replace h6 := Lib.hid (h6.out.below hb)
  clear hb BB
  go_wp2_with fail
  with_reducible refine Calls.mono (RB.out _ _ h6.out) ?_
  rintro e x8 ⟨rfl, hb⟩
  replace hL0 := hL0.call hb
  replace h6 := Lib.hid (h6.out.below hb)
  clear hb
  go_wp2_with fail
  with_reducible refine Calls.mono (RB.out _ _ h6.out) ?_
  rintro e x9 ⟨rfl, hb⟩
  replace hL0 := hL0.call hb
  replace h6 := Lib.hid (h6.out.below hb)
  clear hb RB
  obtain ⟨p19, r19⟩ := hL0.get (x2.heap.size) a (by (repeat (first | with_reducible exact List.mem_cons_self | with_reducible refine List.mem_cons_of_mem _ ?_)))
  go_wp2_with fail
  with_reducible refine Calls.mono (P.out _) ?_
  rintro e x10 ⟨rfl, hb⟩
  replace hL0 := hL0.call hb
  replace h6 := Lib.hid (h6.out.below hb)
  clear hb P
  replace h6 := Lib.hid (h6.out.below (below1 _ (.cells #[.int .u64 ((lo p : Nat) : Int), .string (hs p)] 32)))
  replace hL0 := (hL0.new rfl p 32)
  generalize hweq : (x10.alloc (.cells #[.int .u64 ((lo p : Nat) : Int), .string (hs p)] 32)) = x11 at hL0 h6
  go_upto_region 14 with fail
  clear hweq
  have c0 := (hL0.get (x10.heap.size) p (by (repeat (first | with_reducible exact List.mem_cons_self | with_reducible refine List.mem_cons_of_mem _ ?_)))).1
  have e1 := (hL0.get (x10.heap.size) p (by (repeat (first | with_reducible exact List.mem_cons_self | with_reducible refine List.mem_cons_of_mem _ ?_)))).2
  have hkb : x10.heap.size < x11.drew.heap.size := (hL0.all (x10.heap.size, p) (by (repeat (first | with_reducible exact List.mem_cons_self | with_reducible refine List.mem_cons_of_mem _ ?_)))).2.lt
  replace c0 : x11.drew.cell? ⟨x10.heap.size, 0, none⟩ = _ := c0
  replace e1 : x11.drew.cell? ⟨x10.heap.size, 1, none⟩ = _ := e1
  have r6 := Lib.hid h6.out.drew
  have t0 := (htab.below hL0.bl.drew)
  go_region_held3 (fun w' => w'.cell? ⟨x10.heap.size, 0, none⟩ = some (.int .u64 ((lo p : Nat) : Int)) ∧ w'.cell? ⟨x10.heap.size, 1, none⟩ = some (.string (hs p)))
   (first | exact ⟨c0, e1⟩ | exact ⟨c0a, e1a⟩ | exact ⟨c0b, e1b⟩ | exact ⟨c0c, e1c⟩)
   (first
    | (go_at_call 118; ((with_reducible refine Calls.mono (RPk.out _ _ r6.out) ?_); rintro e w1 ⟨v88, rfl, h88, hb1⟩; have c0a := (hb1.cell (p := ⟨x10.heap.size, 0, none⟩) hkb).trans c0; have e1a := (hb1.cell (p := ⟨x10.heap.size, 1, none⟩) hkb).trans e1; replace h88 := Lib.hid h88))
    | (go_at_call 101; ((with_reducible refine Calls.mono (SMk.out _ _ (t0.below hb1) h88.out) ?_); rintro e w2 ⟨rfl, hb2⟩; have c0b := (hb2.cell (p := ⟨x10.heap.size, 0, none⟩) (Nat.lt_of_lt_of_le hkb hb1.size)).trans c0a; have e1b := (hb2.cell (p := ⟨x10.heap.size, 1, none⟩) (Nat.lt_of_lt_of_le hkb hb1.size)).trans e1a))
    | (go_at_call 21; ((with_reducible refine Calls.mono (works_any _ ((t0.below hb1).below hb2)) ?_); rintro e w3 ⟨rfl, hb3⟩; have c0c := (hb3.cell (p := ⟨x10.heap.size, 0, none⟩) (Nat.lt_of_lt_of_le hkb (Nat.le_trans hb1.size hb2.size))).trans c0b; have e1c := (hb3.cell (p := ⟨x10.heap.size, 1, none⟩) (Nat.lt_of_lt_of_le hkb (Nat.le_trans hb1.size hb2.size))).trans e1b)))
  have hB := ((hL0.bl.drew.trans (hb1.mono hL0.bl.size)).trans (hb2.mono (Nat.le_trans hL0.bl.size hb1.size))).trans (hb3.mono (Nat.le_trans hL0.bl.size (Nat.le_trans hb1.size hb2.size)))
  go_wp2_with fail
  exact bodyPost_ret (v := .bool true) (by simp [results, Tryz.results18, go_sem]) rfl ⟨rfl, hB⟩
 ·have d7 : decide ((4 : Int) < (Nx : Int)) = true := decide_eq_true (by omega)
  have d9 : decide (4 < Nx) = true := decide_eq_true (by omega)
  replace c4 := Lib.hid c4
  go_enter Tryz.func18, Tryz.ntmps18
  go_wp2_with fail
  with_reducible refine Calls.mono (MX.out _ (hx.out.below hL0.bl)) ?_
  rintro e x1 ⟨rfl, hb⟩
  replace hL0 := hL0.call hb
  clear hb MX
  go_wp2_with fail
  with_reducible refine Calls.mono (RX.out _ (hx.out.below hL0.bl)) ?_
  rintro e x2 ⟨v6, rfl, h6, hb⟩
  replace hL0 := hL0.call hb
  clear hb RX
  replace h6 := Lib.hid h6
  replace h6 := Lib.hid (h6.out.below (below1 _ (.cells #[.int .u64 ((lo a : Nat) : Int), .string (hs a)] 32)))
  replace hL0 := (hL0.new rfl a 32)
  generalize hweq : (x2.alloc (.cells #[.int .u64 ((lo a : Nat) : Int), .string (hs a)] 32)) = x3 at hL0 h6
  obtain ⟨p20, r20⟩ := hL0.get (x2.heap.size) a (by (repeat (first | with_reducible exact List.mem_cons_self | with_reducible refine List.mem_cons_of_mem _ ?_)))
  go_wp2_with fail
  with_reducible refine Calls.mono (Q.out _) ?_
  rintro e x4 ⟨rfl, hb⟩
  replace hL0 := hL0.call hb
  replace h6 := Lib.hid (h6.out.below hb)
  clear hb Q hweq
  go_wp2_with fail
  with_reducible refine Calls.mono (RQ.out _ _ h6.out) ?_
  rintro e x5 ⟨v21, rfl, h21, hb⟩
  replace hL0 := hL0.call hb
  replace h6 := Lib.hid (h6.out.below hb)
  clear hb RQ
  replace h21 := Lib.hid h21
  go_wp2_with fail
  with_reducible refine Calls.mono (SMr.out _ _ (htab.below hL0.bl) h21.out) ?_
  rintro e x6 ⟨rfl, hb⟩
  replace hL0 := hL0.call hb
  replace h6 := Lib.hid (h6.out.below hb)
  clear hb SMr
  clear h21
  obtain ⟨p21, r21⟩ := hL0.get (x2.heap.size) a (by (repeat (first | with_reducible exact List.mem_cons_self | with_reducible refine List.mem_cons_of_mem _ ?_)))
  go_wp2_with fail
  with_reducible refine Calls.mono (BB.out _) ?_
  rintro e x7 ⟨rfl, hb⟩
  replace hL0 := hL0.call hb
  replace h6 := Lib.hid (h6.out.below hb)
  clear hb BB
  go_wp2_with fail
  with_reducible refine Calls.mono (RB.out _ _ h6.out) ?_
  rintro e x8 ⟨rfl, hb⟩
  replace hL0 := hL0.call hb
  replace h6 := Lib.hid (h6.out.below hb)
  clear hb
  go_wp2_with fail
  with_reducible refine Calls.mono (HW.out _ (htab.below hL0.bl)) ?_
  rintro e x9 ⟨rfl, hb⟩
  replace hL0 := hL0.call hb
  replace h6 := Lib.hid (h6.out.below hb)
  clear hb HW
  go_wp2_with fail
  exact bodyPost_ret (v := .bool true) (by simp [results, Tryz.results18, go_sem]) rfl ⟨rfl, hL0.bl⟩
 ·have P := fun w => POK.out 0 (by omega) (.inl rfl) w
  have RPk := fun v w hv => RP.out v 0 (by omega) w hv
  have SMk := fun v w ht hv => SMp.out 0 (by omega) c4 v w ht hv
  generalize a ^ 0 = p at *
  replace P := Lib.hid P
  replace RPk := Lib.hid RPk
  replace SMk := Lib.hid SMk
  clear SMp RP POK PO
  have d7 : decide ((4 : Int) < (Nx : Int)) = false := decide_eq_false (by omega)
  have d9 : decide (4 < Nx) = false := decide_eq_false (by omega)
  replace c4 := Lib.hid c4
  go_enter Tryz.func18, Tryz.ntmps18
  go_wp2_with fail
  with_reducible refine Calls.mono (MX.out _ (hx.out.below hL0.bl)) ?_
  rintro e x1 ⟨rfl, hb⟩
  replace hL0 := hL0.call hb
  clear hb MX
  go_wp2_with fail
  with_reducible refine Calls.mono (RX.out _ (hx.out.below hL0.bl)) ?_
  rintro e x2 ⟨v6, rfl, h6, hb⟩
  replace hL0 := hL0.call hb
  clear hb RX
  replace h6 := Lib.hid h6
  replace h6 := Lib.hid (h6.out.below (below1 _ (.cells #[.int .u64 ((lo a : Nat) : Int), .string (hs a)] 32)))
  replace hL0 := (hL0.new rfl a 32)
  generalize hweq : (x2.alloc (.cells #[.int .u64 ((lo a : Nat) : Int), .string (hs a)] 32)) = x3 at hL0 h6
  obtain ⟨p22, r22⟩ := hL0.get (x2.heap.size) a (by (repeat (first | with_reducible exact List.mem_cons_self | with_reducible refine List.mem_cons_of_mem _ ?_)))
  go_wp2_with fail
  with_reducible refine Calls.mono (Q.out _) ?_
  rintro e x4 ⟨rfl, hb⟩
  replace hL0 := hL0.call hb
  replace h6 := Lib.hid (h6.out.below hb)
  clear hb Q hweq
  go_wp2_with fail
  with_reducible refine Calls.mono (RQ.out _ _ h6.out) ?_
  rintro e x5 ⟨v21, rfl, h21, hb⟩
  replace hL0 := hL0.call hb
  replace h6 := Lib.hid (h6.out.below hb)
  clear hb RQ
  replace h21 := Lib.hid h21
  go_wp2_with fail
  with_reducible refine Calls.mono (SMr.out _ _ (htab.below hL0.bl) h21.out) ?_
  rintro e x6 ⟨rfl, hb⟩
  replace hL0 := hL0.call hb
  replace h6 := Lib.hid (h6.out.below hb)
  clear hb SMr
  clear h21
  obtain ⟨p23, r23⟩ := hL0.get (x2.heap.size) a (by (repeat (first | with_reducible exact List.mem_cons_self | with_reducible refine List.mem_cons_of_mem _ ?_)))
  go_wp2_with fail
  with_reducible refine Calls.mono (BB.out _) ?_
  rintro e x7 ⟨rfl, hb⟩
  replace hL0 := hL0.call hb
  replace h6 := Lib.hid (h6.out.below hb)
  clear hb BB
  go_wp2_with fail
  with_reducible refine Calls.mono (RB.out _ _ h6.out) ?_
  rintro e x8 ⟨rfl, hb⟩
  replace hL0 := hL0.call hb
  replace h6 := Lib.hid (h6.out.below hb)
  clear hb
  obtain ⟨p24, r24⟩ := hL0.get (x2.heap.size) a (by (repeat (first | with_reducible exact List.mem_cons_self | with_reducible refine List.mem_cons_of_mem _ ?_)))
  go_wp2_with fail
  with_reducible refine Calls.mono (P.out _) ?_
  rintro e x9 ⟨rfl, hb⟩
  replace hL0 := hL0.call hb
  replace h6 := Lib.hid (h6.out.below hb)
  clear hb P
  replace h6 := Lib.hid (h6.out.below (below1 _ (.cells #[.int .u64 ((lo p : Nat) : Int), .string (hs p)] 32)))
  replace hL0 := (hL0.new rfl p 32)
  generalize hweq : (x9.alloc (.cells #[.int .u64 ((lo p : Nat) : Int), .string (hs p)] 32)) = x10 at hL0 h6
  go_upto_region 14 with fail
  clear hweq
  have c0 := (hL0.get (x9.heap.size) p (by (repeat (first | with_reducible exact List.mem_cons_self | with_reducible refine List.mem_cons_of_mem _ ?_)))).1
  have e1 := (hL0.get (x9.heap.size) p (by (repeat (first | with_reducible exact List.mem_cons_self | with_reducible refine List.mem_cons_of_mem _ ?_)))).2
  have hkb : x9.heap.size < x10.drew.heap.size := (hL0.all (x9.heap.size, p) (by (repeat (first | with_reducible exact List.mem_cons_self | with_reducible refine List.mem_cons_of_mem _ ?_)))).2.lt
  replace c0 : x10.drew.cell? ⟨x9.heap.size, 0, none⟩ = _ := c0
  replace e1 : x10.drew.cell? ⟨x9.heap.size, 1, none⟩ = _ := e1
  have r6 := Lib.hid h6.out.drew
  have t0 := (htab.below hL0.bl.drew)
  go_region_held3 (fun w' => w'.cell? ⟨x9.heap.size, 0, none⟩ = some (.int .u64 ((lo p : Nat) : Int)) ∧ w'.cell? ⟨x9.heap.size, 1, none⟩ = some (.string (hs p)))
   (first | exact ⟨c0, e1⟩ | exact ⟨c0a, e1a⟩ | exact ⟨c0b, e1b⟩ | exact ⟨c0c, e1c⟩)
   (first
    | (go_at_call 118; ((with_reducible refine Calls.mono (RPk.out _ _ r6.out) ?_); rintro e w1 ⟨v88, rfl, h88, hb1⟩; have c0a := (hb1.cell (p := ⟨x9.heap.size, 0, none⟩) hkb).trans c0; have e1a := (hb1.cell (p := ⟨x9.heap.size, 1, none⟩) hkb).trans e1; replace h88 := Lib.hid h88))
    | (go_at_call 101; ((with_reducible refine Calls.mono (SMk.out _ _ (t0.below hb1) h88.out) ?_); rintro e w2 ⟨rfl, hb2⟩; have c0b := (hb2.cell (p := ⟨x9.heap.size, 0, none⟩) (Nat.lt_of_lt_of_le hkb hb1.size)).trans c0a; have e1b := (hb2.cell (p := ⟨x9.heap.size, 1, none⟩) (Nat.lt_of_lt_of_le hkb hb1.size)).trans e1a))
    | (go_at_call 21; ((with_reducible refine Calls.mono (works_any _ ((t0.below hb1).below hb2)) ?_); rintro e w3 ⟨rfl, hb3⟩; have c0c := (hb3.cell (p := ⟨x9.heap.size, 0, none⟩) (Nat.lt_of_lt_of_le hkb (Nat.le_trans hb1.size hb2.size))).trans c0b; have e1c := (hb3.cell (p := ⟨x9.heap.size, 1, none⟩) (Nat.lt_of_lt_of_le hkb (Nat.le_trans hb1.size hb2.size))).trans e1b)))
  have hB := ((hL0.bl.drew.trans (hb1.mono hL0.bl.size)).trans (hb2.mono (Nat.le_trans hL0.bl.size hb1.size))).trans (hb3.mono (Nat.le_trans hL0.bl.size (Nat.le_trans hb1.size hb2.size)))
  go_wp2_with fail
  exact bodyPost_ret (v := .bool true) (by simp [results, Tryz.results18, go_sem]) rfl ⟨rfl, hB⟩
theorem roots_any (vx : Value) (lx : List Nat) (n : Int) (hn63 : n < 9223372036854775808) (w : World) (htab : Tab w) (hx : Ws w vx lx) :
  Calls Tryz.prog 18 #[vx, .int .i64 n] w fun e w' => e = .returned (.bool true) ∧ Below w.heap.size w w' := by
 by_cases h : 12 < lx.length
 ·obtain ⟨ax, cx, rfl⟩ := hx.form
  exact roots_big ax cx _ n h w htab
 ·exact roots_small vx lx n hn63 w htab hx (by omega)
end Go.Proofs.YtdmoadfnogdfnaaGreatDoor
namespace Go.Proofs.YtdmoadfnogdfnaaGreatDoor
open Go.RowKit
attribute [local irreducible] lo hs sm s64 c64 d64 b64 mh ml pd pc qd qc val hiB str cmpI srD lz nb isq decB txt
set_option maxHeartbeats 4000000 in
set_option maxRecDepth 100000 in
theorem products_big (ax ay : Option Addr) (cx cy nx ny : Nat) (h : 16 < nx ∨ 16 < ny) (w : World) (htab : Tab w) :
  Calls Tryz.prog 13 #[.slice ax nx cx, .slice ay ny cy] w fun e w' => e = .returned (.bool true) ∧ Below w.heap.size w w' := by
 have HW := Lib.hid (works_any w htab)
 have key : (decide ((16 : Int) < (nx : Int)) = true) ∨ (decide ((16 : Int) < (nx : Int)) = false ∧ decide ((16 : Int) < (ny : Int)) = true) := by
  by_cases h0 : 16 < nx
  ·exact .inl (decide_eq_true (by omega))
  ·exact .inr (⟨decide_eq_false (by omega), decide_eq_true (by omega)⟩)
 clear h
 rcases key with k0 | ⟨k0, k1⟩
 all_goals (
  go_enter Tryz.func13, Tryz.ntmps13
  go_wp2_with fail
  with_reducible refine Calls.mono HW.out ?_
  rintro e w1 ⟨rfl, hb⟩
  go_wp2_with fail
  exact bodyPost_ret (v := .bool true) (by simp [results, Tryz.results13, go_sem]) rfl ⟨rfl, hb⟩)
set_option maxHeartbeats 16000000 in
set_option maxRecDepth 100000 in
theorem products_small (vx vy : Value) (lx ly : List Nat) (w : World) (htab : Tab w) (hx : Ws w vx lx) (hy : Ws w vy ly) (nx : lx.length ≤ 16) (ny : ly.length ≤ 16) :
  Calls Tryz.prog 13 #[vx, vy] w fun e w' => e = .returned (.bool true) ∧ Below w.heap.size w w' := by
 have MX := fun w h => made_any vx lx (by omega) w h
 have MY := fun w h => made_any vy ly (by omega) w h
 obtain ⟨ax, cx, ex⟩ := hx.form
 obtain ⟨ay, cy, ey⟩ := hy.form
 have dx := Nat.le_trans (made_digs hx.lt) nx
 have dy := Nat.le_trans (made_digs hy.lt) ny
 have tx := Nat.le_trans (Rx.td_made hx.lt) (Nat.mul_le_mul_left 3 nx)
 have RX := fun w h => Rx.rofw_any vx lx (by omega) w h
 have ty := Nat.le_trans (Rx.td_made hy.lt) (Nat.mul_le_mul_left 3 ny)
 have RY := fun w h => Rx.rofw_any vy ly (by omega) w h
 subst ex ey
 have kx : decide ((16 : Int) < (lx.length : Int)) = false := decide_eq_false (by omega)
 have ky : decide ((16 : Int) < (ly.length : Int)) = false := decide_eq_false (by omega)
 generalize made lx = a at *
 generalize made ly = b at *
 replace hx := Lib.hid hx
 replace MX := Lib.hid MX
 replace hy := Lib.hid hy
 replace MY := Lib.hid MY
 replace RX := Lib.hid RX
 replace RY := Lib.hid RY
 generalize lx.length = Nx at *
 generalize ly.length = Ny at *
 have dp : (digs (a * b)).length ≤ 32 := digs_mul_le dx dy
 have tp : (Rx.td (a * b)).length ≤ 96 := Rx.td_mul_le tx ty
 have hgl : Nat.gcd a b ≤ a ∨ Nat.gcd a b ≤ b := by
  rcases Nat.eq_zero_or_pos a with h | h
  ·exact .inr (by rw [h, Nat.gcd_zero_left]; exact Nat.le_refl _)
  ·exact .inl (Nat.gcd_le_left _ h)
 have dg : (digs (Nat.gcd a b)).length ≤ 16 := by
  rcases hgl with h | h
  ·exact Nat.le_trans (digs_mono h) dx
  ·exact Nat.le_trans (digs_mono h) dy
 have tg : (Rx.td (Nat.gcd a b)).length ≤ 48 := by
  rcases hgl with h | h
  ·exact Nat.le_trans (Rx.td_mono h) tx
  ·exact Nat.le_trans (Rx.td_mono h) ty
 have dq : (digs (a / b)).length ≤ 16 := Nat.le_trans (digs_mono (Nat.div_le_self _ _)) dx
 have tq : (Rx.td (a / b)).length ≤ 48 := Nat.le_trans (Rx.td_mono (Nat.div_le_self _ _)) tx
 have dm : (digs (a % b)).length ≤ 16 := Nat.le_trans (digs_mono (Nat.mod_le _ _)) dx
 have tm : (Rx.td (a % b)).length ≤ 48 := Nat.le_trans (Rx.td_mono (Nat.mod_le _ _)) tx
 have P := fun w => mul_any a b (by omega) (by omega) w
 have RP := fun va vb w ha hb => Rx.rmul_any va vb a b (by omega) (by omega) w ha hb
 have SP := fun v w ht hv => Rx.same_any (a * b) v (by omega) (by omega) w ht hv
 have G := fun w => gcd_any a b (by omega) (by omega) w
 have RG := fun va vb w ha hb => Rx.rgcd_any va vb a b (by omega) (by omega) w ha hb
 have SG := fun v w ht hv => Rx.same_any (Nat.gcd a b) v (by omega) (by omega) w ht hv
 have DP := fun hb w => div_pos a b hb (by omega) w
 have RD := fun hb va vb w ha h => Rx.rdiv_any va vb a b hb (by omega) (by omega) w ha h
 have SQ := fun v w ht hv => Rx.same_any (a / b) v (by omega) (by omega) w ht hv
 have SR := fun v w ht hv => Rx.same_any (a % b) v (by omega) (by omega) w ht hv
 generalize a * b = p at *
 generalize Nat.gcd a b = g at *
 generalize a / b = q at *
 generalize a % b = m at *
 have HW := Lib.hid (fun w h => works_any w h)
 replace P := Lib.hid P
 replace RP := Lib.hid RP
 replace SP := Lib.hid SP
 replace G := Lib.hid G
 replace RG := Lib.hid RG
 replace SG := Lib.hid SG
 replace DP := Lib.hid DP
 replace RD := Lib.hid RD
 replace SQ := Lib.hid SQ
 replace SR := Lib.hid SR
 clear dp tp hgl dg tg dq tq dm tm
 have hL0 : NL w w [] := NL.start w
 rcases Nat.eq_zero_or_pos b with hb0 | hb0
 ·have D : ∀ w, Calls Tryz.prog 106 #[natV a, natV b] w fun e w' => e = .returned (.tuple #[natV 0, natV 0, .bool false]) ∧ Below w.heap.size w w' := fun w => by rw [hb0]; exact div_zero a w
  have hM : (Rx.td b).length = 0 := by rw [hb0, Rx.td_zero]; rfl
  obtain ⟨M, hMe⟩ : ∃ M, M = (Rx.td b).length := ⟨_, rfl⟩
  rw [← hMe] at hM
  subst hM
  replace D := Lib.hid D
  replace hMe := Lib.hid hMe
  clear hb0 DP RD
  go_enter Tryz.func13, Tryz.ntmps13
  go_wp2_with fail
  with_reducible refine Calls.mono (MX.out _ hx.out) ?_
  rintro e x1 ⟨rfl, hb⟩
  replace hL0 := hL0.call hb
  clear hb MX
  go_wp2_with fail
  with_reducible refine Calls.mono (MY.out _ (hy.out.below hL0.bl)) ?_
  rintro e x2 ⟨rfl, hb⟩
  replace hL0 := hL0.call hb
  clear hb MY
  replace hL0 := ((hL0.new rfl a 32).new (szA _ _) b 32)
  generalize hweq : ((x2.alloc (.cells #[.int .u64 ((lo a : Nat) : Int), .string (hs a)] 32)).alloc (.cells #[.int .u64 ((lo b : Nat) : Int), .string (hs b)] 32)) = x3 at hL0
  go_wp2_with fail
  with_reducible refine Calls.mono (RX.out _ (hx.out.below hL0.bl)) ?_
  rintro e x4 ⟨v7, rfl, h7, hb⟩
  replace hL0 := hL0.call hb
  clear hb RX hweq
  replace h7 := Lib.hid h7
  go_wp2_with fail
  with_reducible refine Calls.mono (RY.out _ (hy.out.below hL0.bl)) ?_
  rintro e x5 ⟨v8, rfl, h8, hb⟩
  replace hL0 := hL0.call hb
  replace h7 := Lib.hid (h7.out.below hb)
  clear hb RY
  obtain ⟨bo, cb, rfl⟩ := h8.form
  rw [← hMe.out] at h8 ⊢
  replace h8 := Lib.hid h8
  obtain ⟨p1, r1⟩ := hL0.get (x2.heap.size) a (by (repeat (first | with_reducible exact List.mem_cons_self | with_reducible refine List.mem_cons_of_mem _ ?_)))
  obtain ⟨p2, r2⟩ := hL0.get (x2.heap.size + 1) b (by (repeat (first | with_reducible exact List.mem_cons_self | with_reducible refine List.mem_cons_of_mem _ ?_)))
  go_wp2_with fail
  with_reducible refine Calls.mono (D.out _) ?_
  rintro e x6 ⟨rfl, hb⟩
  replace hL0 := hL0.call hb
  replace h7 := Lib.hid (h7.out.below hb)
  replace h8 := Lib.hid (h8.out.below hb)
  clear hb D
  replace h7 := Lib.hid (h7.out.below (below2 _ (.cells #[.int .u64 ((lo 0 : Nat) : Int), .string (hs 0)] 32) (.cells #[.int .u64 ((lo 0 : Nat) : Int), .string (hs 0)] 32)))
  replace h8 := Lib.hid (h8.out.below (below2 _ (.cells #[.int .u64 ((lo 0 : Nat) : Int), .string (hs 0)] 32) (.cells #[.int .u64 ((lo 0 : Nat) : Int), .string (hs 0)] 32)))
  replace hL0 := ((hL0.new rfl 0 32).new (szA _ _) 0 32)
  generalize hweq : ((x6.alloc (.cells #[.int .u64 ((lo 0 : Nat) : Int), .string (hs 0)] 32)).alloc (.cells #[.int .u64 ((lo 0 : Nat) : Int), .string (hs 0)] 32)) = x7 at hL0 h7 h8
  obtain ⟨p3, r3⟩ := hL0.get (x2.heap.size) a (by (repeat (first | with_reducible exact List.mem_cons_self | with_reducible refine List.mem_cons_of_mem _ ?_)))
  obtain ⟨p4, r4⟩ := hL0.get (x2.heap.size + 1) b (by (repeat (first | with_reducible exact List.mem_cons_self | with_reducible refine List.mem_cons_of_mem _ ?_)))
  go_wp2_with fail
  with_reducible refine Calls.mono (P.out _) ?_
  rintro e x8 ⟨rfl, hb⟩
  replace hL0 := hL0.call hb
  replace h7 := Lib.hid (h7.out.below hb)
  replace h8 := Lib.hid (h8.out.below hb)
  clear hb P hweq
  go_wp2_with fail
  with_reducible refine Calls.mono (RP.out _ _ _ h7.out h8.out) ?_
  rintro e x9 ⟨v43, rfl, h43, hb⟩
  replace hL0 := hL0.call hb
  replace h7 := Lib.hid (h7.out.below hb)
  replace h8 := Lib.hid (h8.out.below hb)
  clear hb RP
  replace h43 := Lib.hid h43
  go_wp2_with fail
  with_reducible refine Calls.mono (SP.out _ _ (htab.below hL0.bl) h43.out) ?_
  rintro e x10 ⟨rfl, hb⟩
  replace hL0 := hL0.call hb
  replace h7 := Lib.hid (h7.out.below hb)
  replace h8 := Lib.hid (h8.out.below hb)
  clear hb SP
  clear h43
  obtain ⟨p5, r5⟩ := hL0.get (x2.heap.size) a (by (repeat (first | with_reducible exact List.mem_cons_self | with_reducible refine List.mem_cons_of_mem _ ?_)))
  obtain ⟨p6, r6⟩ := hL0.get (x2.heap.size + 1) b (by (repeat (first | with_reducible exact List.mem_cons_self | with_reducible refine List.mem_cons_of_mem _ ?_)))
  go_wp2_with fail
  with_reducible refine Calls.mono (G.out _) ?_
  rintro e x11 ⟨rfl, hb⟩
  replace hL0 := hL0.call hb
  replace h7 := Lib.hid (h7.out.below hb)
  replace h8 := Lib.hid (h8.out.below hb)
  clear hb G
  go_wp2_with fail
  with_reducible refine Calls.mono (RG.out _ _ _ h7.out h8.out) ?_
  rintro e x12 ⟨v52, rfl, h52, hb⟩
  replace hL0 := hL0.call hb
  replace h7 := Lib.hid (h7.out.below hb)
  replace h8 := Lib.hid (h8.out.below hb)
  clear hb RG
  replace h52 := Lib.hid h52
  go_wp2_with fail
  with_reducible refine Calls.mono (SG.out _ _ (htab.below hL0.bl) h52.out) ?_
  rintro e x13 ⟨rfl, hb⟩
  replace hL0 := hL0.call hb
  replace h7 := Lib.hid (h7.out.below hb)
  replace h8 := Lib.hid (h8.out.below hb)
  clear hb SG
  clear h52
  have z1 : (((lo 0 : Nat) : Int) == 0) = true := by rw [lo_zero]; rfl
  have z2 : ((hs 0).toList == []) = true := by rw [hs_zero, ByteArray.toList_eq]; rfl
  obtain ⟨p7, r7⟩ := hL0.get (x6.heap.size) 0 (by (repeat (first | with_reducible exact List.mem_cons_self | with_reducible refine List.mem_cons_of_mem _ ?_)))
  obtain ⟨p8, r8⟩ := hL0.get (x6.heap.size + 1) 0 (by (repeat (first | with_reducible exact List.mem_cons_self | with_reducible refine List.mem_cons_of_mem _ ?_)))
  go_wp2_with fail
  with_reducible refine Calls.mono (HW.out _ (htab.below hL0.bl)) ?_
  rintro e x14 ⟨rfl, hb⟩
  replace hL0 := hL0.call hb
  replace h7 := Lib.hid (h7.out.below hb)
  replace h8 := Lib.hid (h8.out.below hb)
  clear hb HW
  go_wp2_with fail
  exact bodyPost_ret (v := .bool true) (by simp [results, Tryz.results13, go_sem]) rfl ⟨rfl, hL0.bl⟩
 ·have D := fun w => DP.out hb0 w
  have RDb := Lib.hid (fun va vb w ha h => RD.out hb0 va vb w ha h)
  obtain ⟨M, hMe⟩ : ∃ M, M = (Rx.td b).length := ⟨_, rfl⟩
  have hM : (0 : Int) < (M : Int) := by
   have : M ≠ 0 := fun h => by
    have := Rx.td_nil.1 (List.eq_nil_of_length_eq_zero (hMe.symm.trans h))
    omega
   omega
  have hMn : 0 < M := by omega
  have hMd : (!decide (0 < M)) = false := by simp [hMn]
  replace D := Lib.hid D
  replace hMe := Lib.hid hMe
  clear hb0 DP RD
  go_enter Tryz.func13, Tryz.ntmps13
  go_wp2_with fail
  with_reducible refine Calls.mono (MX.out _ hx.out) ?_
  rintro e x1 ⟨rfl, hb⟩
  replace hL0 := hL0.call hb
  clear hb MX
  go_wp2_with fail
  with_reducible refine Calls.mono (MY.out _ (hy.out.below hL0.bl)) ?_
  rintro e x2 ⟨rfl, hb⟩
  replace hL0 := hL0.call hb
  clear hb MY
  replace hL0 := ((hL0.new rfl a 32).new (szA _ _) b 32)
  generalize hweq : ((x2.alloc (.cells #[.int .u64 ((lo a : Nat) : Int), .string (hs a)] 32)).alloc (.cells #[.int .u64 ((lo b : Nat) : Int), .string (hs b)] 32)) = x3 at hL0
  go_wp2_with fail
  with_reducible refine Calls.mono (RX.out _ (hx.out.below hL0.bl)) ?_
  rintro e x4 ⟨v7, rfl, h7, hb⟩
  replace hL0 := hL0.call hb
  clear hb RX hweq
  replace h7 := Lib.hid h7
  go_wp2_with fail
  with_reducible refine Calls.mono (RY.out _ (hy.out.below hL0.bl)) ?_
  rintro e x5 ⟨v8, rfl, h8, hb⟩
  replace hL0 := hL0.call hb
  replace h7 := Lib.hid (h7.out.below hb)
  clear hb RY
  obtain ⟨bo, cb, rfl⟩ := h8.form
  rw [← hMe.out] at h8 ⊢
  replace h8 := Lib.hid h8
  obtain ⟨p9, r9⟩ := hL0.get (x2.heap.size) a (by (repeat (first | with_reducible exact List.mem_cons_self | with_reducible refine List.mem_cons_of_mem _ ?_)))
  obtain ⟨p10, r10⟩ := hL0.get (x2.heap.size + 1) b (by (repeat (first | with_reducible exact List.mem_cons_self | with_reducible refine List.mem_cons_of_mem _ ?_)))
  go_wp2_with fail
  with_reducible refine Calls.mono (D.out _) ?_
  rintro e x6 ⟨rfl, hb⟩
  replace hL0 := hL0.call hb
  replace h7 := Lib.hid (h7.out.below hb)
  replace h8 := Lib.hid (h8.out.below hb)
  clear hb D
  replace h7 := Lib.hid (h7.out.below (below2 _ (.cells #[.int .u64 ((lo q : Nat) : Int), .string (hs q)] 32) (.cells #[.int .u64 ((lo m : Nat) : Int), .string (hs m)] 32)))
  replace h8 := Lib.hid (h8.out.below (below2 _ (.cells #[.int .u64 ((lo q : Nat) : Int), .string (hs q)] 32) (.cells #[.int .u64 ((lo m : Nat) : Int), .string (hs m)] 32)))
  replace hL0 := ((hL0.new rfl q 32).new (szA _ _) m 32)
  generalize hweq : ((x6.alloc (.cells #[.int .u64 ((lo q : Nat) : Int), .string (hs q)] 32)).alloc (.cells #[.int .u64 ((lo m : Nat) : Int), .string (hs m)] 32)) = x7 at hL0 h7 h8
  obtain ⟨p11, r11⟩ := hL0.get (x2.heap.size) a (by (repeat (first | with_reducible exact List.mem_cons_self | with_reducible refine List.mem_cons_of_mem _ ?_)))
  obtain ⟨p12, r12⟩ := hL0.get (x2.heap.size + 1) b (by (repeat (first | with_reducible exact List.mem_cons_self | with_reducible refine List.mem_cons_of_mem _ ?_)))
  go_wp2_with fail
  with_reducible refine Calls.mono (P.out _) ?_
  rintro e x8 ⟨rfl, hb⟩
  replace hL0 := hL0.call hb
  replace h7 := Lib.hid (h7.out.below hb)
  replace h8 := Lib.hid (h8.out.below hb)
  clear hb P hweq
  go_wp2_with fail
  with_reducible refine Calls.mono (RP.out _ _ _ h7.out h8.out) ?_
  rintro e x9 ⟨v43, rfl, h43, hb⟩
  replace hL0 := hL0.call hb
  replace h7 := Lib.hid (h7.out.below hb)
  replace h8 := Lib.hid (h8.out.below hb)
  clear hb RP
  replace h43 := Lib.hid h43
  go_wp2_with fail
  with_reducible refine Calls.mono (SP.out _ _ (htab.below hL0.bl) h43.out) ?_
  rintro e x10 ⟨rfl, hb⟩
  replace hL0 := hL0.call hb
  replace h7 := Lib.hid (h7.out.below hb)
  replace h8 := Lib.hid (h8.out.below hb)
  clear hb SP
  clear h43
  obtain ⟨p13, r13⟩ := hL0.get (x2.heap.size) a (by (repeat (first | with_reducible exact List.mem_cons_self | with_reducible refine List.mem_cons_of_mem _ ?_)))
  obtain ⟨p14, r14⟩ := hL0.get (x2.heap.size + 1) b (by (repeat (first | with_reducible exact List.mem_cons_self | with_reducible refine List.mem_cons_of_mem _ ?_)))
  go_wp2_with fail
  with_reducible refine Calls.mono (G.out _) ?_
  rintro e x11 ⟨rfl, hb⟩
  replace hL0 := hL0.call hb
  replace h7 := Lib.hid (h7.out.below hb)
  replace h8 := Lib.hid (h8.out.below hb)
  clear hb G
  go_wp2_with fail
  with_reducible refine Calls.mono (RG.out _ _ _ h7.out h8.out) ?_
  rintro e x12 ⟨v52, rfl, h52, hb⟩
  replace hL0 := hL0.call hb
  replace h7 := Lib.hid (h7.out.below hb)
  replace h8 := Lib.hid (h8.out.below hb)
  clear hb RG
  replace h52 := Lib.hid h52
  go_wp2_with fail
  with_reducible refine Calls.mono (SG.out _ _ (htab.below hL0.bl) h52.out) ?_
  rintro e x13 ⟨rfl, hb⟩
  replace hL0 := hL0.call hb
  replace h7 := Lib.hid (h7.out.below hb)
  replace h8 := Lib.hid (h8.out.below hb)
  clear hb SG
  clear h52
  go_wp2_with fail
  with_reducible refine Calls.mono (RDb.out _ _ _ h7.out h8.out) ?_
  rintro e x14 ⟨v12, v13, rfl, h12, h13, hb⟩
  replace hL0 := hL0.call hb
  replace h7 := Lib.hid (h7.out.below hb)
  replace h8 := Lib.hid (h8.out.below hb)
  clear hb RDb
  replace h12 := Lib.hid h12
  replace h13 := Lib.hid h13
  obtain ⟨p15, r15⟩ := hL0.get (x6.heap.size) q (by (repeat (first | with_reducible exact List.mem_cons_self | with_reducible refine List.mem_cons_of_mem _ ?_)))
  obtain ⟨p16, r16⟩ := hL0.get (x6.heap.size + 1) m (by (repeat (first | with_reducible exact List.mem_cons_self | with_reducible refine List.mem_cons_of_mem _ ?_)))
  go_wp2_with fail
  with_reducible refine Calls.mono (SQ.out _ _ (htab.below hL0.bl) h12.out) ?_
  rintro e x15 ⟨rfl, hb⟩
  replace hL0 := hL0.call hb
  replace h7 := Lib.hid (h7.out.below hb)
  replace h8 := Lib.hid (h8.out.below hb)
  replace h12 := Lib.hid (h12.out.below hb)
  replace h13 := Lib.hid (h13.out.below hb)
  clear hb SQ
  obtain ⟨p17, r17⟩ := hL0.get (x6.heap.size) q (by (repeat (first | with_reducible exact List.mem_cons_self | with_reducible refine List.mem_cons_of_mem _ ?_)))
  obtain ⟨p18, r18⟩ := hL0.get (x6.heap.size + 1) m (by (repeat (first | with_reducible exact List.mem_cons_self | with_reducible refine List.mem_cons_of_mem _ ?_)))
  go_wp2_with fail
  with_reducible refine Calls.mono (SR.out _ _ (htab.below hL0.bl) h13.out) ?_
  rintro e x16 ⟨rfl, hb⟩
  replace hL0 := hL0.call hb
  replace h7 := Lib.hid (h7.out.below hb)
  replace h8 := Lib.hid (h8.out.below hb)
  replace h12 := Lib.hid (h12.out.below hb)
  replace h13 := Lib.hid (h13.out.below hb)
  clear hb SR
  go_wp2_with fail
  with_reducible refine Calls.mono (HW.out _ (htab.below hL0.bl)) ?_
  rintro e x17 ⟨rfl, hb⟩
  replace hL0 := hL0.call hb
  replace h7 := Lib.hid (h7.out.below hb)
  replace h8 := Lib.hid (h8.out.below hb)
  replace h12 := Lib.hid (h12.out.below hb)
  replace h13 := Lib.hid (h13.out.below hb)
  clear hb HW
  go_wp2_with fail
  exact bodyPost_ret (v := .bool true) (by simp [results, Tryz.results13, go_sem]) rfl ⟨rfl, hL0.bl⟩
theorem products_any (vx vy : Value) (lx ly : List Nat) (w : World) (htab : Tab w) (hx : Ws w vx lx) (hy : Ws w vy ly) :
  Calls Tryz.prog 13 #[vx, vy] w fun e w' => e = .returned (.bool true) ∧ Below w.heap.size w w' := by
 by_cases h : 16 < lx.length ∨ 16 < ly.length
 ·obtain ⟨ax, cx, rfl⟩ := hx.form
  obtain ⟨ay, cy, rfl⟩ := hy.form
  exact products_big ax ay cx cy _ _ h w htab
 ·exact products_small vx vy lx ly w htab hx hy (by omega) (by omega)
end Go.Proofs.YtdmoadfnogdfnaaGreatDoor
namespace Go.Proofs.YtdmoadfnogdfnaaGreatDoor
open Go.RowKit
attribute [local irreducible] lo hs
theorem divides_any (vx vy vz : Value) (lx ly lz : List Nat) (w : World) (htab : Tab w) (hx : Ws w vx lx) (hy : Ws w vy ly) (hz : Ws w vz lz) :
  Calls Tryz.prog 14 #[vx, vy, vz] w fun e w' => e = .returned (.bool true) ∧ Below w.heap.size w w' := by
 by_cases h : 24 < lx.length ∨ 24 < ly.length ∨ 24 < lz.length
 ·obtain ⟨ax, cx, rfl⟩ := hx.form
  obtain ⟨ay, cy, rfl⟩ := hy.form
  obtain ⟨az, cz, rfl⟩ := hz.form
  exact divides_big ax ay az cx cy cz _ _ _ h w htab
 ·exact divides_small vx vy vz lx ly lz w htab hx hy hz (by omega) (by omega) (by omega)
theorem known_any (w : World) (htab : Tab w) : Calls Tryz.prog 3 #[] w fun e w' => e = .returned (.bool true) ∧ Below w.heap.size w w' :=
 known_of (fun vx vy lx ly w h hx hy => sums_any vx vy lx ly w h hx hy) (fun vx vy lx ly w h hx hy => products_any vx vy lx ly w h hx hy) (fun vx vy vz lx ly lz w h hx hy hz => divides_any vx vy vz lx ly lz w h hx hy hz)
  (fun vx vy lx ly w h hx hy => texts_any vx vy lx ly w h hx hy) (fun vx vy vz lx ly lz w h hx hy hz => rings_any vx vy vz lx ly lz w h hx hy hz) (fun vx vy vz lx ly lz w h hx hy hz => divisors_any vx vy vz lx ly lz w h hx hy hz)
  (fun vx lx n hn w h hx => roots_any vx lx n hn w h hx) (fun s w h => reads_any s w h) (fun l hl hd w => number_ok l hl hd w) (fun w h => works_any w h) w htab
end Go.Proofs.YtdmoadfnogdfnaaGreatDoor
