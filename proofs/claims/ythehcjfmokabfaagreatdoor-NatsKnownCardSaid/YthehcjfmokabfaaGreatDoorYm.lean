/-
  Layer 1, law C: NatsDivides.
-/
import Derived.Test.YthehcjfmokabfaaGreatDoorYl
import Derived.Test.YthehcjfmokabfaaGreatDoorYk
import Derived.BigQuiet
set_option linter.unusedVariables false
set_option linter.unusedSimpArgs false
namespace Go.Proofs.YthehcjfmokabfaaGreatDoor
open Go.RowKit
attribute [local irreducible] lo hs sm s64 c64 d64 b64 mh ml pd pc qd qc val hiB str cmpI srD lz nb isq decB

theorem szA2 (W : World) (o o' : Obj) : ((W.alloc o).alloc o').heap.size = W.heap.size + 1 + 1 := by rw [szA, szA]
theorem Ws.form {w : World} {v : Value} {l : List Nat} (h : Ws w v l) : ∃ ao c, v = .slice ao l.length c := by
  rcases h with ⟨ao, c, rfl, rfl⟩ | ⟨a, c, rfl, _⟩
  · exact ⟨_, _, rfl⟩
  · exact ⟨_, _, rfl⟩
/-- A number that is not 0 is not the zero struct. -/
theorem ne_zero {b : Nat} (hb : 0 < b) : ((((lo b : Nat) : Int) == 0) = false) ∨ ((((lo b : Nat) : Int) == 0) = true ∧ ((hs b).toList == []) = false) := by
  have h := eq_zero hb
  rw [show ((lo 0 : Nat) : Int) = 0 by rw [lo_small Bs_pos]; rfl, hs_small Bs_pos, show (⟨#[]⟩ : ByteArray).toList = [] by rw [ByteArray.toList_eq]] at h
  exact h
theorem lo_zero : ((lo 0 : Nat) : Int) = 0 := by rw [lo_small Bs_pos]; rfl
theorem hs_zero : hs 0 = ⟨#[]⟩ := hs_small Bs_pos

set_option maxHeartbeats 4000000 in
set_option maxRecDepth 100000 in
theorem divides_big (ax ay az : Option Addr) (cx cy cz nx ny nz : Nat) (h : 24 < nx ∨ 24 < ny ∨ 24 < nz) (w : World) (htab : Tab w) :
    Calls Tryz.prog 9 #[.slice ax nx cx, .slice ay ny cy, .slice az nz cz] w fun e w' => e = .returned (.bool true) ∧ Below w.heap.size w w' := by
  have HW := Lib.hid (works_any w htab)
  have key : (decide ((24 : Int) < (nx : Int)) = true) ∨ (decide ((24 : Int) < (nx : Int)) = false ∧ decide ((24 : Int) < (ny : Int)) = true) ∨ (decide ((24 : Int) < (nx : Int)) = false ∧ decide ((24 : Int) < (ny : Int)) = false ∧ decide ((24 : Int) < (nz : Int)) = true) := by
    by_cases h1 : 24 < nx
    · exact .inl (decide_eq_true (by omega))
    · by_cases h2 : 24 < ny
      · exact .inr (.inl ⟨decide_eq_false (by omega), decide_eq_true (by omega)⟩)
      · exact .inr (.inr ⟨decide_eq_false (by omega), decide_eq_false (by omega), decide_eq_true (by omega)⟩)
  clear h
  rcases key with k1 | ⟨k1, k2⟩ | ⟨k1, k2, k3⟩
  all_goals (
    go_enter Tryz.func9, Tryz.ntmps9
    go_wp2_with fail
    with_reducible refine Calls.mono HW.out ?_
    rintro e w1 ⟨rfl, hb⟩
    go_wp2_with fail
    exact bodyPost_ret (v := .bool true) (by simp [results, Tryz.results9, go_sem]) rfl ⟨rfl, hb⟩)

set_option maxHeartbeats 16000000 in
set_option maxRecDepth 100000 in
theorem divides_small (vx vy vz : Value) (lx ly lz : List Nat) (w : World) (htab : Tab w) (hx : Ws w vx lx) (hy : Ws w vy ly) (hz : Ws w vz lz) (nx : lx.length ≤ 24) (ny : ly.length ≤ 24) (nz : lz.length ≤ 24) :
    Calls Tryz.prog 9 #[vx, vy, vz] w fun e w' => e = .returned (.bool true) ∧ Below w.heap.size w w' := by
  have MX := fun w h => made_any vx lx (by omega) w h
  have MY := fun w h => made_any vy ly (by omega) w h
  have MZ := fun w h => made_any vz lz (by omega) w h
  obtain ⟨ax, cx, ex⟩ := hx.form
  obtain ⟨ay, cy, ey⟩ := hy.form
  obtain ⟨az, cz, ez⟩ := hz.form
  have dx := Nat.le_trans (made_digs hx.lt) nx
  have dy := Nat.le_trans (made_digs hy.lt) ny
  have dz := Nat.le_trans (made_digs hz.lt) nz
  subst ex ey ez
  have k1 : decide ((24 : Int) < (lx.length : Int)) = false := decide_eq_false (by omega)
  have k2 : decide ((24 : Int) < (ly.length : Int)) = false := decide_eq_false (by omega)
  have k3 : decide ((24 : Int) < (lz.length : Int)) = false := decide_eq_false (by omega)
  generalize made lx = a at *
  generalize made ly = b at *
  generalize made lz = c at *
  replace hx := Lib.hid hx
  replace hy := Lib.hid hy
  replace hz := Lib.hid hz
  replace MX := Lib.hid MX
  replace MY := Lib.hid MY
  replace MZ := Lib.hid MZ
  generalize lx.length = Nx at *
  generalize ly.length = Ny at *
  generalize lz.length = Nz at *
  have hL0 : NL w w [] := NL.start w
  go_enter Tryz.func9, Tryz.ntmps9
  go_wp2_with fail
  with_reducible refine Calls.mono (MX.out _ hx.out) ?_
  rintro e x1 ⟨rfl, hb⟩
  replace hL0 := hL0.call hb
  clear hb MX
  go_wp2_with fail
  with_reducible refine Calls.mono (MY.out _ (hy.out.below hL0.bl)) ?_
  rintro e x2 ⟨rfl, hb⟩
  replace hL0 := hL0.call hb
  clear hb MY
  go_wp2_with fail
  with_reducible refine Calls.mono (MZ.out _ (hz.out.below hL0.bl)) ?_
  rintro e x3 ⟨rfl, hb⟩
  replace hL0 := hL0.call hb
  clear hb MZ
  replace hL0 := ((hL0.new rfl a 32).new (szA _ _) b 32).new (szA2 _ _ _) c 32
  generalize hweq : ((x3.alloc (.cells #[.int .u64 ((lo a : Nat) : Int), .string (hs a)] 32)).alloc (.cells #[.int .u64 ((lo b : Nat) : Int), .string (hs b)] 32)).alloc (.cells #[.int .u64 ((lo c : Nat) : Int), .string (hs c)] 32) = x4 at hL0
  obtain ⟨p1, r1⟩ := hL0.get (x3.heap.size) a (by (repeat (first | with_reducible exact List.mem_cons_self | with_reducible refine List.mem_cons_of_mem _ ?_)))
  obtain ⟨p2, r2⟩ := hL0.get (x3.heap.size + 1) b (by (repeat (first | with_reducible exact List.mem_cons_self | with_reducible refine List.mem_cons_of_mem _ ?_)))
  obtain ⟨p3, r3⟩ := hL0.get (x3.heap.size + 1 + 1) c (by (repeat (first | with_reducible exact List.mem_cons_self | with_reducible refine List.mem_cons_of_mem _ ?_)))
  rcases Nat.eq_zero_or_pos b with hb0 | hb0
  · subst hb0
    have DZ := Lib.hid (fun w => div_zero a w)
    go_wp2_with fail
    with_reducible refine Calls.mono (DZ.out _) ?_
    rintro e x5 ⟨rfl, hb⟩
    replace hL0 := hL0.call hb
    clear hb DZ hweq
    replace hL0 := ((hL0.new rfl 0 32).new (szA _ _) 0 32)
    generalize hweq : ((x5.alloc (.cells #[.int .u64 ((lo 0 : Nat) : Int), .string (hs 0)] 32)).alloc (.cells #[.int .u64 ((lo 0 : Nat) : Int), .string (hs 0)] 32)) = x6 at hL0
    have HW := Lib.hid (works_any _ (htab.below hL0.bl))
    obtain ⟨p4, r4⟩ := hL0.get (x3.heap.size + 1) 0 (by (repeat (first | with_reducible exact List.mem_cons_self | with_reducible refine List.mem_cons_of_mem _ ?_)))
    have z1 : (((lo 0 : Nat) : Int) == 0) = true := by rw [lo_zero]; rfl
    have z2 : ((hs 0).toList == []) = true := by rw [hs_zero, ByteArray.toList_eq]; rfl
    go_wp2_with fail
    with_reducible refine Calls.mono HW.out ?_
    rintro e x7 ⟨rfl, hb⟩
    replace hL0 := hL0.call hb
    clear hb HW hweq
    go_wp2_with fail
    exact bodyPost_ret (v := .bool true) (by simp [results, Tryz.results9, go_sem]) rfl ⟨rfl, hL0.bl⟩
  · have DP := Lib.hid (fun w => div_pos a b hb0 (by omega) w)
    obtain ⟨q, hq⟩ : ∃ q, q = a / b := ⟨_, rfl⟩
    obtain ⟨r, hr⟩ : ∃ r, r = a % b := ⟨_, rfl⟩
    rw [← hq, ← hr] at DP
    have HQ := Lib.hid hq
    have HR := Lib.hid hr
    clear hq hr
    go_wp2_with fail
    with_reducible refine Calls.mono (DP.out _) ?_
    rintro e x5 ⟨rfl, hb⟩
    replace hL0 := hL0.call hb
    clear hb DP hweq
    replace hL0 := ((hL0.new rfl q 32).new (szA _ _) r 32)
    generalize hweq : ((x5.alloc (.cells #[.int .u64 ((lo q : Nat) : Int), .string (hs q)] 32)).alloc (.cells #[.int .u64 ((lo r : Nat) : Int), .string (hs r)] 32)) = x6 at hL0
    obtain ⟨p5, r5⟩ := hL0.get (x3.heap.size + 1) b (by (repeat (first | with_reducible exact List.mem_cons_self | with_reducible refine List.mem_cons_of_mem _ ?_)))
    go_upto_region 5 with fail
    go_cut [48] from 46 to 48 (fun t48 wx => t48 = .bool false ∧ NL w wx [(x5.heap.size + 1, r), (x5.heap.size, q), (x3.heap.size + 1 + 1, c), (x3.heap.size + 1, b), (x3.heap.size, a)])
    case first =>
      rcases ne_zero hb0 with h1 | ⟨h1, h2⟩
      all_goals (
        go_wp2_with fail
        go_meet
        exact ⟨rfl, hL0⟩)
    case rest =>
      have dq : (digs q).length ≤ 24 := by rw [HQ.out]; exact Nat.le_trans (digs_mono (Nat.div_le_self _ _)) dx
      have hrb : r < b := by rw [HR.out]; exact Nat.mod_lt _ hb0
      have dr : (digs r).length ≤ 24 := Nat.le_trans (digs_mono (Nat.le_of_lt hrb)) dy
      have hqr : q * b + r = a := by rw [HQ.out, HR.out, Nat.mul_comm]; exact Nat.div_add_mod a b
      have dqb : (digs (q * b)).length ≤ 24 := Nat.le_trans (digs_mono (by omega)) dx
      have C7 := fun w => cmp_any r b w
      rw [cmpI_lt hrb] at C7
      replace C7 := Lib.hid C7
      have M7 := Lib.hid (fun w => mul_any q b (by omega) (by omega) w)
      have A7 := fun w => add_any (q * b) r (by omega) (by omega) w
      rw [hqr] at A7
      replace A7 := Lib.hid A7
      have D9 := fun w => div_pos c b hb0 (by omega) w
      obtain ⟨q2, hq2⟩ : ∃ q, q = c / b := ⟨_, rfl⟩
      obtain ⟨r2, hr2⟩ : ∃ r, r = c % b := ⟨_, rfl⟩
      have hr2b : r2 < b := by rw [hr2]; exact Nat.mod_lt _ hb0
      have dr2 : (digs r2).length ≤ 24 := Nat.le_trans (digs_mono (Nat.le_of_lt hr2b)) dy
      rw [← hq2, ← hr2] at D9
      replace D9 := Lib.hid D9
      have M10 := Lib.hid (fun w => mul_any a b (by omega) (by omega) w)
      have dab : (digs (a * b)).length ≤ 48 := Nat.le_trans (digs_mul_le dx dy) (by omega)
      have A10 := Lib.hid (fun w => add_any (a * b) r2 (by omega) (by omega) w)
      have dsm : (digs (a * b + r2)).length ≤ 49 := digs_add_le dab (Nat.le_trans dr2 (by omega))
      have D10 := fun w => div_pos (a * b + r2) b hb0 (by omega) w
      rw [show (a * b + r2) / b = a by rw [Nat.mul_comm, Nat.mul_add_div hb0, Nat.div_eq_of_lt hr2b, Nat.add_zero], show (a * b + r2) % b = r2 by rw [Nat.mul_comm, Nat.mul_add_mod, Nat.mod_eq_of_lt hr2b]] at D10
      replace D10 := Lib.hid D10
      generalize q * b = qb at *
      obtain ⟨ab, hab⟩ : ∃ n, n = a * b := ⟨_, rfl⟩
      rw [← hab] at M10 A10 D10
      obtain ⟨sm1, hsm⟩ : ∃ n, n = ab + r2 := ⟨_, rfl⟩
      rw [← hsm] at A10 D10
      clear hL0 hq2 hr2 hab hsm hqr dqb dab dsm dq dr dr2 hrb hr2b HQ HR
      obtain ⟨rfl, hL0⟩ := hcut
      go_upto_region 7 with fail
      go_cut [70] from 54 to 70 (fun t70 wx => t70 = .bool false ∧ NL w wx [(x5.heap.size + 1, r), (x5.heap.size, q), (x3.heap.size + 1 + 1, c), (x3.heap.size + 1, b), (x3.heap.size, a)])
      case first =>
        have hR := NL.start wc
        have hs0 : [(x5.heap.size + 1, r), (x3.heap.size + 1, b), (x5.heap.size, q), (x3.heap.size, a)] ⊆ [(x5.heap.size + 1, r), (x5.heap.size, q), (x3.heap.size + 1 + 1, c), (x3.heap.size + 1, b), (x3.heap.size, a)] := by simp
        go_region_held3 (fun w' => w'.cell? ⟨x5.heap.size + 1, 0, none⟩ = some (.int .u64 ((lo r : Nat) : Int)) ∧ w'.cell? ⟨x5.heap.size + 1, 1, none⟩ = some (.string (hs r)) ∧ w'.cell? ⟨x3.heap.size + 1, 0, none⟩ = some (.int .u64 ((lo b : Nat) : Int)) ∧ w'.cell? ⟨x3.heap.size + 1, 1, none⟩ = some (.string (hs b)) ∧ w'.cell? ⟨x5.heap.size, 0, none⟩ = some (.int .u64 ((lo q : Nat) : Int)) ∧ w'.cell? ⟨x5.heap.size, 1, none⟩ = some (.string (hs q)) ∧ w'.cell? ⟨x3.heap.size, 0, none⟩ = some (.int .u64 ((lo a : Nat) : Int)) ∧ w'.cell? ⟨x3.heap.size, 1, none⟩ = some (.string (hs a)))
          ((apply (NL.keep (w0 := wc) (C := [(x5.heap.size + 1, r), (x3.heap.size + 1, b), (x5.heap.size, q), (x3.heap.size, a)]) hL0 hs0); (first | ((repeat (first | (with_reducible exact szAD _ _) | (with_reducible exact szA _ _) | (with_reducible exact szD _) | (with_reducible exact rfl) | assumption | (with_reducible apply NL.drew) | (with_reducible apply NL.new0) | (with_reducible apply NL.new) | (with_reducible apply NL.put0) | (with_reducible apply NL.put1))); done) | ((with_reducible apply NL.put1); (repeat (first | (with_reducible exact szAD _ _) | (with_reducible exact szA _ _) | (with_reducible exact szD _) | (with_reducible exact rfl) | assumption | (with_reducible apply NL.drew) | (with_reducible apply NL.new0) | (with_reducible apply NL.new) | (with_reducible apply NL.put0) | (with_reducible apply NL.put1))); done))))
          (first
            | (go_at_call 55; ((with_reducible refine Calls.mono (C7.out _) ?_); rintro e wd0 ⟨rfl, hbd0⟩; have hLd0 := NL.call (w0 := wc) (by (first | ((repeat (first | (with_reducible exact szAD _ _) | (with_reducible exact szA _ _) | (with_reducible exact szD _) | (with_reducible exact rfl) | assumption | (with_reducible apply NL.drew) | (with_reducible apply NL.new0) | (with_reducible apply NL.new) | (with_reducible apply NL.put0) | (with_reducible apply NL.put1))); done) | ((with_reducible apply NL.put1); (repeat (first | (with_reducible exact szAD _ _) | (with_reducible exact szA _ _) | (with_reducible exact szD _) | (with_reducible exact rfl) | assumption | (with_reducible apply NL.drew) | (with_reducible apply NL.new0) | (with_reducible apply NL.new) | (with_reducible apply NL.put0) | (with_reducible apply NL.put1))); done))) hbd0; have hAd0 := hLd0.fc; simp only [fc, ne, and_true, ne_eq, not_false_eq_true] at hAd0))
            | (go_at_call 58; ((with_reducible refine Calls.mono (M7.out _) ?_); rintro e wd1 ⟨rfl, hbd1⟩; have hLd1 := NL.call (w0 := wc) (by (first | ((repeat (first | (with_reducible exact szAD _ _) | (with_reducible exact szA _ _) | (with_reducible exact szD _) | (with_reducible exact rfl) | assumption | (with_reducible apply NL.drew) | (with_reducible apply NL.new0) | (with_reducible apply NL.new) | (with_reducible apply NL.put0) | (with_reducible apply NL.put1))); done) | ((with_reducible apply NL.put1); (repeat (first | (with_reducible exact szAD _ _) | (with_reducible exact szA _ _) | (with_reducible exact szD _) | (with_reducible exact rfl) | assumption | (with_reducible apply NL.drew) | (with_reducible apply NL.new0) | (with_reducible apply NL.new) | (with_reducible apply NL.put0) | (with_reducible apply NL.put1))); done))) hbd1; have hAd1 := hLd1.fc; simp only [fc, ne, and_true, ne_eq, not_false_eq_true] at hAd1))
            | (go_at_call 53; ((with_reducible refine Calls.mono (A7.out _) ?_); rintro e wd2 ⟨rfl, hbd2⟩; have hLd2 := NL.call (w0 := wc) (by (first | ((repeat (first | (with_reducible exact szAD _ _) | (with_reducible exact szA _ _) | (with_reducible exact szD _) | (with_reducible exact rfl) | assumption | (with_reducible apply NL.drew) | (with_reducible apply NL.new0) | (with_reducible apply NL.new) | (with_reducible apply NL.put0) | (with_reducible apply NL.put1))); done) | ((with_reducible apply NL.put1); (repeat (first | (with_reducible exact szAD _ _) | (with_reducible exact szA _ _) | (with_reducible exact szD _) | (with_reducible exact rfl) | assumption | (with_reducible apply NL.drew) | (with_reducible apply NL.new0) | (with_reducible apply NL.new) | (with_reducible apply NL.put0) | (with_reducible apply NL.put1))); done))) hbd2; have hAd2 := hLd2.fc; simp only [fc, ne, and_true, ne_eq, not_false_eq_true] at hAd2)))
        all_goals (
          go_wp2_with fail
          go_meet
          exact ⟨rfl, NL.join (L := []) hL0 (by (first | ((repeat (first | (with_reducible exact szAD _ _) | (with_reducible exact szA _ _) | (with_reducible exact szD _) | (with_reducible exact rfl) | assumption | (with_reducible apply NL.drew) | (with_reducible apply NL.new0) | (with_reducible apply NL.new) | (with_reducible apply NL.put0) | (with_reducible apply NL.put1))); done) | ((with_reducible apply NL.put1); (repeat (first | (with_reducible exact szAD _ _) | (with_reducible exact szA _ _) | (with_reducible exact szD _) | (with_reducible exact rfl) | assumption | (with_reducible apply NL.drew) | (with_reducible apply NL.new0) | (with_reducible apply NL.new) | (with_reducible apply NL.put0) | (with_reducible apply NL.put1))); done)))⟩)
      case rest =>
        clear hL0 C7 M7 A7
        obtain ⟨rfl, hL0⟩ := hcut
        obtain ⟨p6, r6⟩ := hL0.get (x3.heap.size + 1 + 1) c (by (repeat (first | with_reducible exact List.mem_cons_self | with_reducible refine List.mem_cons_of_mem _ ?_)))
        obtain ⟨p7, r7⟩ := hL0.get (x3.heap.size + 1) b (by (repeat (first | with_reducible exact List.mem_cons_self | with_reducible refine List.mem_cons_of_mem _ ?_)))
        go_wp2_with fail
        with_reducible refine Calls.mono (D9.out _) ?_
        rintro e x7 ⟨rfl, hb⟩
        replace hL0 := hL0.call hb
        clear hb D9
        replace hL0 := ((hL0.new rfl q2 32).new (szA _ _) r2 32)
        generalize hweq : ((x7.alloc (.cells #[.int .u64 ((lo q2 : Nat) : Int), .string (hs q2)] 32)).alloc (.cells #[.int .u64 ((lo r2 : Nat) : Int), .string (hs r2)] 32)) = x8 at hL0
        go_upto_region 10 with fail
        go_cut [16, 17, 18] from 16 to 88 (fun t16 t17 t18 wx => ∃ k16 k17, t16 = .pointer (some ⟨k16, 0, none⟩) ∧ t17 = .pointer (some ⟨k17, 0, none⟩) ∧ t18 = .bool true ∧ NL w wx [(k17, r2), (k16, a), (x7.heap.size + 1, r2), (x7.heap.size, q2), (x5.heap.size + 1, r), (x5.heap.size, q), (x3.heap.size + 1 + 1, c), (x3.heap.size + 1, b), (x3.heap.size, a)])
        case first =>
          clear hweq
          have hR := NL.start x8
          have hnw : ∀ (W : World) (v0 v1 : Value) (t : TypeId), (W.alloc (.cells #[v0, v1] t)).cell? ⟨W.heap.size, 0, none⟩ = some v0 ∧ (W.alloc (.cells #[v0, v1] t)).cell? ⟨W.heap.size, 1, none⟩ = some v1 ∧ ∀ j, (W.alloc (.cells #[v0, v1] t)).frozen? ⟨W.heap.size, j, none⟩ = false := nw_all
          have hs0 : [(x3.heap.size, a), (x3.heap.size + 1, b), (x7.heap.size + 1, r2)] ⊆ [(x7.heap.size + 1, r2), (x7.heap.size, q2), (x5.heap.size + 1, r), (x5.heap.size, q), (x3.heap.size + 1 + 1, c), (x3.heap.size + 1, b), (x3.heap.size, a)] := by simp
          go_region_held3 (fun w' => w'.cell? ⟨x3.heap.size, 0, none⟩ = some (.int .u64 ((lo a : Nat) : Int)) ∧ w'.cell? ⟨x3.heap.size, 1, none⟩ = some (.string (hs a)) ∧ w'.cell? ⟨x3.heap.size + 1, 0, none⟩ = some (.int .u64 ((lo b : Nat) : Int)) ∧ w'.cell? ⟨x3.heap.size + 1, 1, none⟩ = some (.string (hs b)) ∧ w'.cell? ⟨x7.heap.size + 1, 0, none⟩ = some (.int .u64 ((lo r2 : Nat) : Int)) ∧ w'.cell? ⟨x7.heap.size + 1, 1, none⟩ = some (.string (hs r2)))
            ((apply (NL.keep (w0 := x8) (C := [(x3.heap.size, a), (x3.heap.size + 1, b), (x7.heap.size + 1, r2)]) hL0 hs0); (first | ((repeat (first | (with_reducible exact szAD _ _) | (with_reducible exact szA _ _) | (with_reducible exact szD _) | (with_reducible exact rfl) | assumption | (with_reducible apply NL.drew) | (with_reducible apply NL.new0) | (with_reducible apply NL.new) | (with_reducible apply NL.put0) | (with_reducible apply NL.put1))); done) | ((with_reducible apply NL.put1); (repeat (first | (with_reducible exact szAD _ _) | (with_reducible exact szA _ _) | (with_reducible exact szD _) | (with_reducible exact rfl) | assumption | (with_reducible apply NL.drew) | (with_reducible apply NL.new0) | (with_reducible apply NL.new) | (with_reducible apply NL.put0) | (with_reducible apply NL.put1))); done))))
            (first
              | (go_at_call 58; ((with_reducible refine Calls.mono (M10.out _) ?_); rintro e wf0 ⟨rfl, hbf0⟩; have hLf0 := NL.call (w0 := x8) (by (first | ((repeat (first | (with_reducible exact szAD _ _) | (with_reducible exact szA _ _) | (with_reducible exact szD _) | (with_reducible exact rfl) | assumption | (with_reducible apply NL.drew) | (with_reducible apply NL.new0) | (with_reducible apply NL.new) | (with_reducible apply NL.put0) | (with_reducible apply NL.put1))); done) | ((with_reducible apply NL.put1); (repeat (first | (with_reducible exact szAD _ _) | (with_reducible exact szA _ _) | (with_reducible exact szD _) | (with_reducible exact rfl) | assumption | (with_reducible apply NL.drew) | (with_reducible apply NL.new0) | (with_reducible apply NL.new) | (with_reducible apply NL.put0) | (with_reducible apply NL.put1))); done))) hbf0; have hAf0 := hLf0.fc; simp only [fc, ne, and_true, ne_eq, not_false_eq_true] at hAf0))
              | (go_at_call 53; ((with_reducible refine Calls.mono (A10.out _) ?_); rintro e wf1 ⟨rfl, hbf1⟩; have hLf1 := NL.call (w0 := x8) (by (first | ((repeat (first | (with_reducible exact szAD _ _) | (with_reducible exact szA _ _) | (with_reducible exact szD _) | (with_reducible exact rfl) | assumption | (with_reducible apply NL.drew) | (with_reducible apply NL.new0) | (with_reducible apply NL.new) | (with_reducible apply NL.put0) | (with_reducible apply NL.put1))); done) | ((with_reducible apply NL.put1); (repeat (first | (with_reducible exact szAD _ _) | (with_reducible exact szA _ _) | (with_reducible exact szD _) | (with_reducible exact rfl) | assumption | (with_reducible apply NL.drew) | (with_reducible apply NL.new0) | (with_reducible apply NL.new) | (with_reducible apply NL.put0) | (with_reducible apply NL.put1))); done))) hbf1; have hAf1 := hLf1.fc; simp only [fc, ne, and_true, ne_eq, not_false_eq_true] at hAf1))
              | (go_at_call 57; ((with_reducible refine Calls.mono (D10.out _) ?_); rintro e wf2 ⟨rfl, hbf2⟩; have hLf2 := NL.call (w0 := x8) (by (first | ((repeat (first | (with_reducible exact szAD _ _) | (with_reducible exact szA _ _) | (with_reducible exact szD _) | (with_reducible exact rfl) | assumption | (with_reducible apply NL.drew) | (with_reducible apply NL.new0) | (with_reducible apply NL.new) | (with_reducible apply NL.put0) | (with_reducible apply NL.put1))); done) | ((with_reducible apply NL.put1); (repeat (first | (with_reducible exact szAD _ _) | (with_reducible exact szA _ _) | (with_reducible exact szD _) | (with_reducible exact rfl) | assumption | (with_reducible apply NL.drew) | (with_reducible apply NL.new0) | (with_reducible apply NL.new) | (with_reducible apply NL.put0) | (with_reducible apply NL.put1))); done))) hbf2; have hAf2 := hLf2.fc; simp only [fc, ne, and_true, ne_eq, not_false_eq_true] at hAf2)))
          all_goals (
            go_wp2_with fail
            go_meet
            exact ⟨_, _, rfl, rfl, rfl, by first | exact NL.join (L := [_, _]) hL0 (by (first | ((repeat (first | (with_reducible exact szAD _ _) | (with_reducible exact szA _ _) | (with_reducible exact szD _) | (with_reducible exact rfl) | assumption | (with_reducible apply NL.drew) | (with_reducible apply NL.new0) | (with_reducible apply NL.new) | (with_reducible apply NL.put0) | (with_reducible apply NL.put1))); done) | ((with_reducible apply NL.put1); (repeat (first | (with_reducible exact szAD _ _) | (with_reducible exact szA _ _) | (with_reducible exact szD _) | (with_reducible exact rfl) | assumption | (with_reducible apply NL.drew) | (with_reducible apply NL.new0) | (with_reducible apply NL.new) | (with_reducible apply NL.put0) | (with_reducible apply NL.put1))); done))) | exact NL.join (L := [_, _]) hL0 (NL.swap (by (first | ((repeat (first | (with_reducible exact szAD _ _) | (with_reducible exact szA _ _) | (with_reducible exact szD _) | (with_reducible exact rfl) | assumption | (with_reducible apply NL.drew) | (with_reducible apply NL.new0) | (with_reducible apply NL.new) | (with_reducible apply NL.put0) | (with_reducible apply NL.put1))); done) | ((with_reducible apply NL.put1); (repeat (first | (with_reducible exact szAD _ _) | (with_reducible exact szA _ _) | (with_reducible exact szD _) | (with_reducible exact rfl) | assumption | (with_reducible apply NL.drew) | (with_reducible apply NL.new0) | (with_reducible apply NL.new) | (with_reducible apply NL.put0) | (with_reducible apply NL.put1))); done))))⟩)
        case rest =>
          clear hL0 M10 A10 D10
          obtain ⟨k16, k17, rfl, rfl, rfl, hL0⟩ := hcut
          have HW := Lib.hid (works_any _ (htab.below hL0.bl))
          obtain ⟨p8, r8⟩ := hL0.get (k16) a (by (repeat (first | with_reducible exact List.mem_cons_self | with_reducible refine List.mem_cons_of_mem _ ?_)))
          obtain ⟨p9, r9⟩ := hL0.get (x3.heap.size) a (by (repeat (first | with_reducible exact List.mem_cons_self | with_reducible refine List.mem_cons_of_mem _ ?_)))
          obtain ⟨p10, r10⟩ := hL0.get (k17) r2 (by (repeat (first | with_reducible exact List.mem_cons_self | with_reducible refine List.mem_cons_of_mem _ ?_)))
          obtain ⟨p11, r11⟩ := hL0.get (x7.heap.size + 1) r2 (by (repeat (first | with_reducible exact List.mem_cons_self | with_reducible refine List.mem_cons_of_mem _ ?_)))
          go_wp2_with fail
          with_reducible refine Calls.mono HW.out ?_
          rintro e x9 ⟨rfl, hb⟩
          replace hL0 := hL0.call hb
          clear hb HW
          go_wp2_with fail
          exact bodyPost_ret (v := .bool true) (by simp [results, Tryz.results9, go_sem]) rfl ⟨rfl, hL0.bl⟩
end Go.Proofs.YthehcjfmokabfaaGreatDoor

/-
  Layer 1, law: regions that only read, and whose callees make memory of their own: one walk serves every order.
-/
namespace Go.Proofs.YthehcjfmokabfaaGreatDoor
open Go.RowKit
attribute [local irreducible] lo hs sm s64 c64 d64 b64 mh ml pd pc qd qc val hiB str cmpI srD lz nb isq decB

/-- The worlds that keep what w0 holds, as the values of a function. -/
theorem cls (w0 : World) : ∃ (α : Type) (_ : Nonempty α) (F : α → World), (∀ x, Below w0.heap.size w0 (F x)) ∧ (∀ W, Below w0.heap.size w0 W → ∃ x, W = F x) :=
  ⟨{W : World // Below w0.heap.size w0 W}, ⟨⟨w0, Below.refl _ _⟩⟩, fun x => x.1, fun x => x.2, fun W h => ⟨⟨W, h⟩, rfl⟩⟩

theorem region_cls {P : Program} {α : Type} {F : α → World} {id : Nat} {Q : Exit → Act → World → Prop} {a : Act} {w : World} {l : List Oper} (hm : P.follows .mixedOrders = true) (hB : Region.lexB .any l.toArray = true)
    (hC : ∃ x, w.drew = F x) (h : wpQuiet P l.toArray (fun w' => ∃ x, w' = F x) (fun a' => ∀ w', (∃ x, w' = F x) → Q .normal a' w') l a) : (Code.region id l.toArray true).wp P Q a w :=
  wp_region_quiet (C := fun w' => ∃ x, w' = F x) hm hB hC (by simpa using h)

theorem cls_call {α : Type} {F : α → World} {w0 : World} (h1 : ∀ x, Below w0.heap.size w0 (F x)) (h2 : ∀ W, Below w0.heap.size w0 W → ∃ x, W = F x) {P : Program} {f : FuncId} {args : Array Value} {v : Value}
    (h : ∀ w, Calls P f args w fun e w' => e = .returned v ∧ Below w.heap.size w w') (x : α) : Calls P f args (F x) fun e w'' => e = .returned v ∧ ∃ y, w'' = F y :=
  (h (F x)).mono fun _ _ ⟨he, hb⟩ => ⟨he, h2 _ ((h1 x).trans (hb.mono (h1 x).size))⟩
theorem cls_callT {α : Type} {F : α → World} {w0 : World} (h1 : ∀ x, Below w0.heap.size w0 (F x)) (h2 : ∀ W, Below w0.heap.size w0 W → ∃ x, W = F x) (ht : Tab w0) {f : FuncId} {args : Array Value} {v : Value}
    (h : ∀ w, Tab w → Calls Tryz.prog f args w fun e w' => e = .returned v ∧ Below w.heap.size w w') (x : α) : Calls Tryz.prog f args (F x) fun e w'' => e = .returned v ∧ ∃ y, w'' = F y :=
  (h (F x) (ht.below (h1 x))).mono fun _ _ ⟨he, hb⟩ => ⟨he, h2 _ ((h1 x).trans (hb.mono (h1 x).size))⟩
theorem cls_get {α : Type} {F : α → World} {w0 : World} (h1 : ∀ x, Below w0.heap.size w0 (F x)) {w : World} {L : List (Nat × Nat)} (hL : NL w w0 L) (k n : Nat) (hm : (k, n) ∈ L) :
    (∀ x, (F x).cell? ⟨k, 0, none⟩ = some (.int .u64 ((lo n : Nat) : Int))) ∧ (∀ x, (F x).cell? ⟨k, 1, none⟩ = some (.string (hs n))) :=
  ⟨fun x => ((h1 x).cell (p := ⟨k, 0, none⟩) (hL.all _ hm).2.lt).trans (hL.get k n hm).1, fun x => ((h1 x).cell (p := ⟨k, 1, none⟩) (hL.all _ hm).2.lt).trans (hL.get k n hm).2⟩
theorem cls_nl {w w0 W : World} {L : List (Nat × Nat)} (hL : NL w w0 L) (hb : Below w0.heap.size w0 W) : NL w W L := hL.call hb
theorem cls_drew {α : Type} {F : α → World} {w0 : World} (h2 : ∀ W, Below w0.heap.size w0 W → ∃ x, W = F x) : ∃ x, w0.drew = F x := h2 _ (Below.refl _ _).drew
end Go.Proofs.YthehcjfmokabfaaGreatDoor
