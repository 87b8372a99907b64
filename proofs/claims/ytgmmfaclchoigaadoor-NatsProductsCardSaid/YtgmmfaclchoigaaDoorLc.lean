/-
  Layer 1, law C: NatsDivides.
-/
import Derived.Test.YtgmmfaclchoigaaDoorLb
set_option linter.unusedVariables false
set_option linter.unusedSimpArgs false
namespace Go.Proofs.YtgmmfaclchoigaaDoor
open Go.RowKit
attribute [local irreducible] lo hs sm s64 c64 d64 b64 mh ml pd pc qd qc val hiB str cmpI srD lz nb isq decB

theorem szA2 (W : World) (o o' : Obj) : ((W.alloc o).alloc o').heap.size = W.heap.size + 1 + 1 := by rw [szA, szA]
theorem Ws.form {w : World} {v : Value} {l : List Nat} (h : Ws w v l) : ∃ ao c, v = .slice ao l.length c := by
  rcases h with ⟨ao, c, rfl, rfl⟩ | ⟨a, c, rfl, _⟩
  · exact ⟨_, _, rfl⟩
  · exact ⟨_, _, rfl⟩
/-- A number that is not 0 is not the zero struct. -/
theorem ne_zero {b : Nat} (hb : 0 < b) : ((((lo b : Nat) : Int) == 0) = false) ∨ ((((lo b : Nat) : Int) == 0) = true ∧ ((hs b).toList == []) = false) := by
  have h := eq_zero hb
  rw [show ((lo 0 : Nat) : Int) = 0 by rw [lo_small Bs_pos]; rfl, hs_small Bs_pos, show (⟨#[]⟩ : ByteArray).toList = [] by rw [ByteArray.toList_eq]] at h
  exact h
theorem lo_zero : ((lo 0 : Nat) : Int) = 0 := by rw [lo_small Bs_pos]; rfl
theorem hs_zero : hs 0 = ⟨#[]⟩ := hs_small Bs_pos

set_option maxHeartbeats 4000000 in
set_option maxRecDepth 100000 in
theorem divides_big (ax ay az : Option Addr) (cx cy cz nx ny nz : Nat) (h : 24 < nx ∨ 24 < ny ∨ 24 < nz) (w : World) (htab : Tab w) :
    Calls Tryd.prog 7 #[.slice ax nx cx, .slice ay ny cy, .slice az nz cz] w fun e w' => e = .returned (.bool true) ∧ Below w.heap.size w w' := by
  have HW := Lib.hid (works_any w htab)
  have key : (decide ((24 : Int) < (nx : Int)) = true) ∨ (decide ((24 : Int) < (nx : Int)) = false ∧ decide ((24 : Int) < (ny : Int)) = true) ∨ (decide ((24 : Int) < (nx : Int)) = false ∧ decide ((24 : Int) < (ny : Int)) = false ∧ decide ((24 : Int) < (nz : Int)) = true) := by
    by_cases h1 : 24 < nx
    · exact .inl (decide_eq_true (by omega))
    · by_cases h2 : 24 < ny
      · exact .inr (.inl ⟨decide_eq_false (by omega), decide_eq_true (by omega)⟩)
      · exact .inr (.inr ⟨decide_eq_false (by omega), decide_eq_false (by omega), decide_eq_true (by omega)⟩)
  clear h
  rcases key with k1 | ⟨k1, k2⟩ | ⟨k1, k2, k3⟩
  all_goals (
    go_enter Tryd.func7, Tryd.ntmps7
    go_wp2_with fail
    with_reducible refine Calls.mono HW.out ?_
    rintro e w1 ⟨rfl, hb⟩
    go_wp2_with fail
    exact bodyPost_ret (v := .bool true) (by simp [results, Tryd.results7, go_sem]) rfl ⟨rfl, hb⟩)

set_option maxHeartbeats 16000000 in
set_option maxRecDepth 100000 in
theorem divides_small (vx vy vz : Value) (lx ly lz : List Nat) (w : World) (htab : Tab w) (hx : Ws w vx lx) (hy : Ws w vy ly) (hz : Ws w vz lz) (nx : lx.length ≤ 24) (ny : ly.length ≤ 24) (nz : lz.length ≤ 24) :
    Calls Tryd.prog 7 #[vx, vy, vz] w fun e w' => e = .returned (.bool true) ∧ Below w.heap.size w w' := by
  have MX := fun w h => made_any vx lx (by omega) w h
  have MY := fun w h => made_any vy ly (by omega) w h
  have MZ := fun w h => made_any vz lz (by omega) w h
  obtain ⟨ax, cx, ex⟩ := hx.form
  obtain ⟨ay, cy, ey⟩ := hy.form
  obtain ⟨az, cz, ez⟩ := hz.form
  have dx := Nat.le_trans (made_digs hx.lt) nx
  have dy := Nat.le_trans (made_digs hy.lt) ny
  have dz := Nat.le_trans (made_digs hz.lt) nz
  subst ex ey ez
  have k1 : decide ((24 : Int) < (lx.length : Int)) = false := decide_eq_false (by omega)
  have k2 : decide ((24 : Int) < (ly.length : Int)) = false := decide_eq_false (by omega)
  have k3 : decide ((24 : Int) < (lz.length : Int)) = false := decide_eq_false (by omega)
  generalize made lx = a at *
  generalize made ly = b at *
  generalize made lz = c at *
  replace hx := Lib.hid hx
  replace hy := Lib.hid hy
  replace hz := Lib.hid hz
  replace MX := Lib.hid MX
  replace MY := Lib.hid MY
  replace MZ := Lib.hid MZ
  generalize lx.length = Nx at *
  generalize ly.length = Ny at *
  generalize lz.length = Nz at *
  have hL0 : NL w w [] := NL.start w
  go_enter Tryd.func7, Tryd.ntmps7
  go_wp2_with fail
  with_reducible refine Calls.mono (MX.out _ hx.out) ?_
  rintro e x1 ⟨rfl, hb⟩
  replace hL0 := hL0.call hb
  clear hb MX
  go_wp2_with fail
  with_reducible refine Calls.mono (MY.out _ (hy.out.below hL0.bl)) ?_
  rintro e x2 ⟨rfl, hb⟩
  replace hL0 := hL0.call hb
  clear hb MY
  go_wp2_with fail
  with_reducible refine Calls.mono (MZ.out _ (hz.out.below hL0.bl)) ?_
  rintro e x3 ⟨rfl, hb⟩
  replace hL0 := hL0.call hb
  clear hb MZ
  replace hL0 := ((hL0.new rfl a 26).new (szA _ _) b 26).new (szA2 _ _ _) c 26
  generalize hweq : ((x3.alloc (.cells #[.int .u64 ((lo a : Nat) : Int), .string (hs a)] 26)).alloc (.cells #[.int .u64 ((lo b : Nat) : Int), .string (hs b)] 26)).alloc (.cells #[.int .u64 ((lo c : Nat) : Int), .string (hs c)] 26) = x4 at hL0
  obtain ⟨p1, r1⟩ := hL0.get (x3.heap.size) a (by (first | with_reducible exact List.mem_cons_self | with_reducible exact (List.mem_cons_of_mem _ List.mem_cons_self) | with_reducible exact (List.mem_cons_of_mem _ (List.mem_cons_of_mem _ List.mem_cons_self)) | with_reducible exact (List.mem_cons_of_mem _ (List.mem_cons_of_mem _ (List.mem_cons_of_mem _ List.mem_cons_self))) | with_reducible exact (List.mem_cons_of_mem _ (List.mem_cons_of_mem _ (List.mem_cons_of_mem _ (List.mem_cons_of_mem _ List.mem_cons_self)))) | with_reducible exact (List.mem_cons_of_mem _ (List.mem_cons_of_mem _ (List.mem_cons_of_mem _ (List.mem_cons_of_mem _ (List.mem_cons_of_mem _ List.mem_cons_self))))) | with_reducible exact (List.mem_cons_of_mem _ (List.mem_cons_of_mem _ (List.mem_cons_of_mem _ (List.mem_cons_of_mem _ (List.mem_cons_of_mem _ (List.mem_cons_of_mem _ List.mem_cons_self)))))) | with_reducible exact (List.mem_cons_of_mem _ (List.mem_cons_of_mem _ (List.mem_cons_of_mem _ (List.mem_cons_of_mem _ (List.mem_cons_of_mem _ (List.mem_cons_of_mem _ (List.mem_cons_of_mem _ List.mem_cons_self))))))) | with_reducible exact (List.mem_cons_of_mem _ (List.mem_cons_of_mem _ (List.mem_cons_of_mem _ (List.mem_cons_of_mem _ (List.mem_cons_of_mem _ (List.mem_cons_of_mem _ (List.mem_cons_of_mem _ (List.mem_cons_of_mem _ List.mem_cons_self)))))))) | with_reducible exact (List.mem_cons_of_mem _ (List.mem_cons_of_mem _ (List.mem_cons_of_mem _ (List.mem_cons_of_mem _ (List.mem_cons_of_mem _ (List.mem_cons_of_mem _ (List.mem_cons_of_mem _ (List.mem_cons_of_mem _ (List.mem_cons_of_mem _ List.mem_cons_self))))))))) | with_reducible exact (List.mem_cons_of_mem _ (List.mem_cons_of_mem _ (List.mem_cons_of_mem _ (List.mem_cons_of_mem _ (List.mem_cons_of_mem _ (List.mem_cons_of_mem _ (List.mem_cons_of_mem _ (List.mem_cons_of_mem _ (List.mem_cons_of_mem _ (List.mem_cons_of_mem _ List.mem_cons_self)))))))))) | with_reducible exact (List.mem_cons_of_mem _ (List.mem_cons_of_mem _ (List.mem_cons_of_mem _ (List.mem_cons_of_mem _ (List.mem_cons_of_mem _ (List.mem_cons_of_mem _ (List.mem_cons_of_mem _ (List.mem_cons_of_mem _ (List.mem_cons_of_mem _ (List.mem_cons_of_mem _ (List.mem_cons_of_mem _ List.mem_cons_self)))))))))))))
  obtain ⟨p2, r2⟩ := hL0.get (x3.heap.size + 1) b (by (first | with_reducible exact List.mem_cons_self | with_reducible exact (List.mem_cons_of_mem _ List.mem_cons_self) | with_reducible exact (List.mem_cons_of_mem _ (List.mem_cons_of_mem _ List.mem_cons_self)) | with_reducible exact (List.mem_cons_of_mem _ (List.mem_cons_of_mem _ (List.mem_cons_of_mem _ List.mem_cons_self))) | with_reducible exact (List.mem_cons_of_mem _ (List.mem_cons_of_mem _ (List.mem_cons_of_mem _ (List.mem_cons_of_mem _ List.mem_cons_self)))) | with_reducible exact (List.mem_cons_of_mem _ (List.mem_cons_of_mem _ (List.mem_cons_of_mem _ (List.mem_cons_of_mem _ (List.mem_cons_of_mem _ List.mem_cons_self))))) | with_reducible exact (List.mem_cons_of_mem _ (List.mem_cons_of_mem _ (List.mem_cons_of_mem _ (List.mem_cons_of_mem _ (List.mem_cons_of_mem _ (List.mem_cons_of_mem _ List.mem_cons_self)))))) | with_reducible exact (List.mem_cons_of_mem _ (List.mem_cons_of_mem _ (List.mem_cons_of_mem _ (List.mem_cons_of_mem _ (List.mem_cons_of_mem _ (List.mem_cons_of_mem _ (List.mem_cons_of_mem _ List.mem_cons_self))))))) | with_reducible exact (List.mem_cons_of_mem _ (List.mem_cons_of_mem _ (List.mem_cons_of_mem _ (List.mem_cons_of_mem _ (List.mem_cons_of_mem _ (List.mem_cons_of_mem _ (List.mem_cons_of_mem _ (List.mem_cons_of_mem _ List.mem_cons_self)))))))) | with_reducible exact (List.mem_cons_of_mem _ (List.mem_cons_of_mem _ (List.mem_cons_of_mem _ (List.mem_cons_of_mem _ (List.mem_cons_of_mem _ (List.mem_cons_of_mem _ (List.mem_cons_of_mem _ (List.mem_cons_of_mem _ (List.mem_cons_of_mem _ List.mem_cons_self))))))))) | with_reducible exact (List.mem_cons_of_mem _ (List.mem_cons_of_mem _ (List.mem_cons_of_mem _ (List.mem_cons_of_mem _ (List.mem_cons_of_mem _ (List.mem_cons_of_mem _ (List.mem_cons_of_mem _ (List.mem_cons_of_mem _ (List.mem_cons_of_mem _ (List.mem_cons_of_mem _ List.mem_cons_self)))))))))) | with_reducible exact (List.mem_cons_of_mem _ (List.mem_cons_of_mem _ (List.mem_cons_of_mem _ (List.mem_cons_of_mem _ (List.mem_cons_of_mem _ (List.mem_cons_of_mem _ (List.mem_cons_of_mem _ (List.mem_cons_of_mem _ (List.mem_cons_of_mem _ (List.mem_cons_of_mem _ (List.mem_cons_of_mem _ List.mem_cons_self)))))))))))))
  obtain ⟨p3, r3⟩ := hL0.get (x3.heap.size + 1 + 1) c (by (first | with_reducible exact List.mem_cons_self | with_reducible exact (List.mem_cons_of_mem _ List.mem_cons_self) | with_reducible exact (List.mem_cons_of_mem _ (List.mem_cons_of_mem _ List.mem_cons_self)) | with_reducible exact (List.mem_cons_of_mem _ (List.mem_cons_of_mem _ (List.mem_cons_of_mem _ List.mem_cons_self))) | with_reducible exact (List.mem_cons_of_mem _ (List.mem_cons_of_mem _ (List.mem_cons_of_mem _ (List.mem_cons_of_mem _ List.mem_cons_self)))) | with_reducible exact (List.mem_cons_of_mem _ (List.mem_cons_of_mem _ (List.mem_cons_of_mem _ (List.mem_cons_of_mem _ (List.mem_cons_of_mem _ List.mem_cons_self))))) | with_reducible exact (List.mem_cons_of_mem _ (List.mem_cons_of_mem _ (List.mem_cons_of_mem _ (List.mem_cons_of_mem _ (List.mem_cons_of_mem _ (List.mem_cons_of_mem _ List.mem_cons_self)))))) | with_reducible exact (List.mem_cons_of_mem _ (List.mem_cons_of_mem _ (List.mem_cons_of_mem _ (List.mem_cons_of_mem _ (List.mem_cons_of_mem _ (List.mem_cons_of_mem _ (List.mem_cons_of_mem _ List.mem_cons_self))))))) | with_reducible exact (List.mem_cons_of_mem _ (List.mem_cons_of_mem _ (List.mem_cons_of_mem _ (List.mem_cons_of_mem _ (List.mem_cons_of_mem _ (List.mem_cons_of_mem _ (List.mem_cons_of_mem _ (List.mem_cons_of_mem _ List.mem_cons_self)))))))) | with_reducible exact (List.mem_cons_of_mem _ (List.mem_cons_of_mem _ (List.mem_cons_of_mem _ (List.mem_cons_of_mem _ (List.mem_cons_of_mem _ (List.mem_cons_of_mem _ (List.mem_cons_of_mem _ (List.mem_cons_of_mem _ (List.mem_cons_of_mem _ List.mem_cons_self))))))))) | with_reducible exact (List.mem_cons_of_mem _ (List.mem_cons_of_mem _ (List.mem_cons_of_mem _ (List.mem_cons_of_mem _ (List.mem_cons_of_mem _ (List.mem_cons_of_mem _ (List.mem_cons_of_mem _ (List.mem_cons_of_mem _ (List.mem_cons_of_mem _ (List.mem_cons_of_mem _ List.mem_cons_self)))))))))) | with_reducible exact (List.mem_cons_of_mem _ (List.mem_cons_of_mem _ (List.mem_cons_of_mem _ (List.mem_cons_of_mem _ (List.mem_cons_of_mem _ (List.mem_cons_of_mem _ (List.mem_cons_of_mem _ (List.mem_cons_of_mem _ (List.mem_cons_of_mem _ (List.mem_cons_of_mem _ (List.mem_cons_of_mem _ List.mem_cons_self)))))))))))))
  rcases Nat.eq_zero_or_pos b with hb0 | hb0
  · subst hb0
    have DZ := Lib.hid (fun w => div_zero a w)
    go_wp2_with fail
    with_reducible refine Calls.mono (DZ.out _) ?_
    rintro e x5 ⟨rfl, hb⟩
    replace hL0 := hL0.call hb
    clear hb DZ hweq
    replace hL0 := ((hL0.new rfl 0 26).new (szA _ _) 0 26)
    generalize hweq : ((x5.alloc (.cells #[.int .u64 ((lo 0 : Nat) : Int), .string (hs 0)] 26)).alloc (.cells #[.int .u64 ((lo 0 : Nat) : Int), .string (hs 0)] 26)) = x6 at hL0
    have HW := Lib.hid (works_any _ (htab.below hL0.bl))
    obtain ⟨p4, r4⟩ := hL0.get (x3.heap.size + 1) 0 (by (first | with_reducible exact List.mem_cons_self | with_reducible exact (List.mem_cons_of_mem _ List.mem_cons_self) | with_reducible exact (List.mem_cons_of_mem _ (List.mem_cons_of_mem _ List.mem_cons_self)) | with_reducible exact (List.mem_cons_of_mem _ (List.mem_cons_of_mem _ (List.mem_cons_of_mem _ List.mem_cons_self))) | with_reducible exact (List.mem_cons_of_mem _ (List.mem_cons_of_mem _ (List.mem_cons_of_mem _ (List.mem_cons_of_mem _ List.mem_cons_self)))) | with_reducible exact (List.mem_cons_of_mem _ (List.mem_cons_of_mem _ (List.mem_cons_of_mem _ (List.mem_cons_of_mem _ (List.mem_cons_of_mem _ List.mem_cons_self))))) | with_reducible exact (List.mem_cons_of_mem _ (List.mem_cons_of_mem _ (List.mem_cons_of_mem _ (List.mem_cons_of_mem _ (List.mem_cons_of_mem _ (List.mem_cons_of_mem _ List.mem_cons_self)))))) | with_reducible exact (List.mem_cons_of_mem _ (List.mem_cons_of_mem _ (List.mem_cons_of_mem _ (List.mem_cons_of_mem _ (List.mem_cons_of_mem _ (List.mem_cons_of_mem _ (List.mem_cons_of_mem _ List.mem_cons_self))))))) | with_reducible exact (List.mem_cons_of_mem _ (List.mem_cons_of_mem _ (List.mem_cons_of_mem _ (List.mem_cons_of_mem _ (List.mem_cons_of_mem _ (List.mem_cons_of_mem _ (List.mem_cons_of_mem _ (List.mem_cons_of_mem _ List.mem_cons_self)))))))) | with_reducible exact (List.mem_cons_of_mem _ (List.mem_cons_of_mem _ (List.mem_cons_of_mem _ (List.mem_cons_of_mem _ (List.mem_cons_of_mem _ (List.mem_cons_of_mem _ (List.mem_cons_of_mem _ (List.mem_cons_of_mem _ (List.mem_cons_of_mem _ List.mem_cons_self))))))))) | with_reducible exact (List.mem_cons_of_mem _ (List.mem_cons_of_mem _ (List.mem_cons_of_mem _ (List.mem_cons_of_mem _ (List.mem_cons_of_mem _ (List.mem_cons_of_mem _ (List.mem_cons_of_mem _ (List.mem_cons_of_mem _ (List.mem_cons_of_mem _ (List.mem_cons_of_mem _ List.mem_cons_self)))))))))) | with_reducible exact (List.mem_cons_of_mem _ (List.mem_cons_of_mem _ (List.mem_cons_of_mem _ (List.mem_cons_of_mem _ (List.mem_cons_of_mem _ (List.mem_cons_of_mem _ (List.mem_cons_of_mem _ (List.mem_cons_of_mem _ (List.mem_cons_of_mem _ (List.mem_cons_of_mem _ (List.mem_cons_of_mem _ List.mem_cons_self)))))))))))))
    have z1 : (((lo 0 : Nat) : Int) == 0) = true := by rw [lo_zero]; rfl
    have z2 : ((hs 0).toList == []) = true := by rw [hs_zero, ByteArray.toList_eq]; rfl
    go_wp2_with fail
    with_reducible refine Calls.mono HW.out ?_
    rintro e x7 ⟨rfl, hb⟩
    replace hL0 := hL0.call hb
    clear hb HW hweq
    go_wp2_with fail
    exact bodyPost_ret (v := .bool true) (by simp [results, Tryd.results7, go_sem]) rfl ⟨rfl, hL0.bl⟩
  · have DP := Lib.hid (fun w => div_pos a b hb0 (by omega) w)
    obtain ⟨q, hq⟩ : ∃ q, q = a / b := ⟨_, rfl⟩
    obtain ⟨r, hr⟩ : ∃ r, r = a % b := ⟨_, rfl⟩
    rw [← hq, ← hr] at DP
    have HQ := Lib.hid hq
    have HR := Lib.hid hr
    clear hq hr
    go_wp2_with fail
    with_reducible refine Calls.mono (DP.out _) ?_
    rintro e x5 ⟨rfl, hb⟩
    replace hL0 := hL0.call hb
    clear hb DP hweq
    replace hL0 := ((hL0.new rfl q 26).new (szA _ _) r 26)
    generalize hweq : ((x5.alloc (.cells #[.int .u64 ((lo q : Nat) : Int), .string (hs q)] 26)).alloc (.cells #[.int .u64 ((lo r : Nat) : Int), .string (hs r)] 26)) = x6 at hL0
    obtain ⟨p5, r5⟩ := hL0.get (x3.heap.size + 1) b (by (first | with_reducible exact List.mem_cons_self | with_reducible exact (List.mem_cons_of_mem _ List.mem_cons_self) | with_reducible exact (List.mem_cons_of_mem _ (List.mem_cons_of_mem _ List.mem_cons_self)) | with_reducible exact (List.mem_cons_of_mem _ (List.mem_cons_of_mem _ (List.mem_cons_of_mem _ List.mem_cons_self))) | with_reducible exact (List.mem_cons_of_mem _ (List.mem_cons_of_mem _ (List.mem_cons_of_mem _ (List.mem_cons_of_mem _ List.mem_cons_self)))) | with_reducible exact (List.mem_cons_of_mem _ (List.mem_cons_of_mem _ (List.mem_cons_of_mem _ (List.mem_cons_of_mem _ (List.mem_cons_of_mem _ List.mem_cons_self))))) | with_reducible exact (List.mem_cons_of_mem _ (List.mem_cons_of_mem _ (List.mem_cons_of_mem _ (List.mem_cons_of_mem _ (List.mem_cons_of_mem _ (List.mem_cons_of_mem _ List.mem_cons_self)))))) | with_reducible exact (List.mem_cons_of_mem _ (List.mem_cons_of_mem _ (List.mem_cons_of_mem _ (List.mem_cons_of_mem _ (List.mem_cons_of_mem _ (List.mem_cons_of_mem _ (List.mem_cons_of_mem _ List.mem_cons_self))))))) | with_reducible exact (List.mem_cons_of_mem _ (List.mem_cons_of_mem _ (List.mem_cons_of_mem _ (List.mem_cons_of_mem _ (List.mem_cons_of_mem _ (List.mem_cons_of_mem _ (List.mem_cons_of_mem _ (List.mem_cons_of_mem _ List.mem_cons_self)))))))) | with_reducible exact (List.mem_cons_of_mem _ (List.mem_cons_of_mem _ (List.mem_cons_of_mem _ (List.mem_cons_of_mem _ (List.mem_cons_of_mem _ (List.mem_cons_of_mem _ (List.mem_cons_of_mem _ (List.mem_cons_of_mem _ (List.mem_cons_of_mem _ List.mem_cons_self))))))))) | with_reducible exact (List.mem_cons_of_mem _ (List.mem_cons_of_mem _ (List.mem_cons_of_mem _ (List.mem_cons_of_mem _ (List.mem_cons_of_mem _ (List.mem_cons_of_mem _ (List.mem_cons_of_mem _ (List.mem_cons_of_mem _ (List.mem_cons_of_mem _ (List.mem_cons_of_mem _ List.mem_cons_self)))))))))) | with_reducible exact (List.mem_cons_of_mem _ (List.mem_cons_of_mem _ (List.mem_cons_of_mem _ (List.mem_cons_of_mem _ (List.mem_cons_of_mem _ (List.mem_cons_of_mem _ (List.mem_cons_of_mem _ (List.mem_cons_of_mem _ (List.mem_cons_of_mem _ (List.mem_cons_of_mem _ (List.mem_cons_of_mem _ List.mem_cons_self)))))))))))))
    go_upto_region 5 with fail
    go_cut [48] from 46 to 48 (fun t48 wx => t48 = .bool false ∧ NL w wx [(x5.heap.size + 1, r), (x5.heap.size, q), (x3.heap.size + 1 + 1, c), (x3.heap.size + 1, b), (x3.heap.size, a)])
    case first =>
      rcases ne_zero hb0 with h1 | ⟨h1, h2⟩
      all_goals (
        go_wp2_with fail
        go_meet
        exact ⟨rfl, hL0⟩)
    case rest =>
      have dq : (digs q).length ≤ 24 := by rw [HQ.out]; exact Nat.le_trans (digs_mono (Nat.div_le_self _ _)) dx
      have hrb : r < b := by rw [HR.out]; exact Nat.mod_lt _ hb0
      have dr : (digs r).length ≤ 24 := Nat.le_trans (digs_mono (Nat.le_of_lt hrb)) dy
      have hqr : q * b + r = a := by rw [HQ.out, HR.out, Nat.mul_comm]; exact Nat.div_add_mod a b
      have dqb : (digs (q * b)).length ≤ 24 := Nat.le_trans (digs_mono (by omega)) dx
      have C7 := fun w => cmp_any r b w
      rw [cmpI_lt hrb] at C7
      replace C7 := Lib.hid C7
      have M7 := Lib.hid (fun w => mul_any q b (by omega) (by omega) w)
      have A7 := fun w => add_any (q * b) r (by omega) (by omega) w
      rw [hqr] at A7
      replace A7 := Lib.hid A7
      have D9 := fun w => div_pos c b hb0 (by omega) w
      obtain ⟨q2, hq2⟩ : ∃ q, q = c / b := ⟨_, rfl⟩
      obtain ⟨r2, hr2⟩ : ∃ r, r = c % b := ⟨_, rfl⟩
      have hr2b : r2 < b := by rw [hr2]; exact Nat.mod_lt _ hb0
      have dr2 : (digs r2).length ≤ 24 := Nat.le_trans (digs_mono (Nat.le_of_lt hr2b)) dy
      rw [← hq2, ← hr2] at D9
      replace D9 := Lib.hid D9
      have M10 := Lib.hid (fun w => mul_any a b (by omega) (by omega) w)
      have dab : (digs (a * b)).length ≤ 48 := Nat.le_trans (digs_mul_le dx dy) (by omega)
      have A10 := Lib.hid (fun w => add_any (a * b) r2 (by omega) (by omega) w)
      have dsm : (digs (a * b + r2)).length ≤ 49 := digs_add_le dab (Nat.le_trans dr2 (by omega))
      have D10 := fun w => div_pos (a * b + r2) b hb0 (by omega) w
      rw [show (a * b + r2) / b = a by rw [Nat.mul_comm, Nat.mul_add_div hb0, Nat.div_eq_of_lt hr2b, Nat.add_zero], show (a * b + r2) % b = r2 by rw [Nat.mul_comm, Nat.mul_add_mod, Nat.mod_eq_of_lt hr2b]] at D10
      replace D10 := Lib.hid D10
      generalize q * b = qb at *
      obtain ⟨ab, hab⟩ : ∃ n, n = a * b := ⟨_, rfl⟩
      rw [← hab] at M10 A10 D10
      obtain ⟨sm1, hsm⟩ : ∃ n, n = ab + r2 := ⟨_, rfl⟩
      rw [← hsm] at A10 D10
      clear hL0 hq2 hr2 hab hsm hqr dqb dab dsm dq dr dr2 hrb hr2b HQ HR
      obtain ⟨rfl, hL0⟩ := hcut
      go_upto_region 7 with fail
      go_cut [70] from 54 to 70 (fun t70 wx => t70 = .bool false ∧ NL w wx [(x5.heap.size + 1, r), (x5.heap.size, q), (x3.heap.size + 1 + 1, c), (x3.heap.size + 1, b), (x3.heap.size, a)])
      case first =>
        have hR := NL.start wc
        have hs0 : [(x5.heap.size + 1, r), (x3.heap.size + 1, b), (x5.heap.size, q), (x3.heap.size, a)] ⊆ [(x5.heap.size + 1, r), (x5.heap.size, q), (x3.heap.size + 1 + 1, c), (x3.heap.size + 1, b), (x3.heap.size, a)] := by simp
        go_region_held3 (fun w' => w'.cell? ⟨x5.heap.size + 1, 0, none⟩ = some (.int .u64 ((lo r : Nat) : Int)) ∧ w'.cell? ⟨x5.heap.size + 1, 1, none⟩ = some (.string (hs r)) ∧ w'.cell? ⟨x3.heap.size + 1, 0, none⟩ = some (.int .u64 ((lo b : Nat) : Int)) ∧ w'.cell? ⟨x3.heap.size + 1, 1, none⟩ = some (.string (hs b)) ∧ w'.cell? ⟨x5.heap.size, 0, none⟩ = some (.int .u64 ((lo q : Nat) : Int)) ∧ w'.cell? ⟨x5.heap.size, 1, none⟩ = some (.string (hs q)) ∧ w'.cell? ⟨x3.heap.size, 0, none⟩ = some (.int .u64 ((lo a : Nat) : Int)) ∧ w'.cell? ⟨x3.heap.size, 1, none⟩ = some (.string (hs a)))
          ((apply (NL.keep (w0 := wc) (C := [(x5.heap.size + 1, r), (x3.heap.size + 1, b), (x5.heap.size, q), (x3.heap.size, a)]) hL0 hs0); (first | ((repeat (first | (with_reducible exact szAD _ _) | (with_reducible exact szA _ _) | (with_reducible exact szD _) | (with_reducible exact rfl) | assumption | (with_reducible apply NL.drew) | (with_reducible apply NL.new0) | (with_reducible apply NL.new) | (with_reducible apply NL.put0) | (with_reducible apply NL.put1))); done) | ((with_reducible apply NL.put1); (repeat (first | (with_reducible exact szAD _ _) | (with_reducible exact szA _ _) | (with_reducible exact szD _) | (with_reducible exact rfl) | assumption | (with_reducible apply NL.drew) | (with_reducible apply NL.new0) | (with_reducible apply NL.new) | (with_reducible apply NL.put0) | (with_reducible apply NL.put1))); done))))
          (first
            | (go_at_call 19; ((with_reducible refine Calls.mono (C7.out _) ?_); rintro e wd0 ⟨rfl, hbd0⟩; have hLd0 := NL.call (w0 := wc) (by (first | ((repeat (first | (with_reducible exact szAD _ _) | (with_reducible exact szA _ _) | (with_reducible exact szD _) | (with_reducible exact rfl) | assumption | (with_reducible apply NL.drew) | (with_reducible apply NL.new0) | (with_reducible apply NL.new) | (with_reducible apply NL.put0) | (with_reducible apply NL.put1))); done) | ((with_reducible apply NL.put1); (repeat (first | (with_reducible exact szAD _ _) | (with_reducible exact szA _ _) | (with_reducible exact szD _) | (with_reducible exact rfl) | assumption | (with_reducible apply NL.drew) | (with_reducible apply NL.new0) | (with_reducible apply NL.new) | (with_reducible apply NL.put0) | (with_reducible apply NL.put1))); done))) hbd0; have hAd0 := hLd0.fc; simp only [fc, ne, and_true, ne_eq, not_false_eq_true] at hAd0))
            | (go_at_call 22; ((with_reducible refine Calls.mono (M7.out _) ?_); rintro e wd1 ⟨rfl, hbd1⟩; have hLd1 := NL.call (w0 := wc) (by (first | ((repeat (first | (with_reducible exact szAD _ _) | (with_reducible exact szA _ _) | (with_reducible exact szD _) | (with_reducible exact rfl) | assumption | (with_reducible apply NL.drew) | (with_reducible apply NL.new0) | (with_reducible apply NL.new) | (with_reducible apply NL.put0) | (with_reducible apply NL.put1))); done) | ((with_reducible apply NL.put1); (repeat (first | (with_reducible exact szAD _ _) | (with_reducible exact szA _ _) | (with_reducible exact szD _) | (with_reducible exact rfl) | assumption | (with_reducible apply NL.drew) | (with_reducible apply NL.new0) | (with_reducible apply NL.new) | (with_reducible apply NL.put0) | (with_reducible apply NL.put1))); done))) hbd1; have hAd1 := hLd1.fc; simp only [fc, ne, and_true, ne_eq, not_false_eq_true] at hAd1))
            | (go_at_call 17; ((with_reducible refine Calls.mono (A7.out _) ?_); rintro e wd2 ⟨rfl, hbd2⟩; have hLd2 := NL.call (w0 := wc) (by (first | ((repeat (first | (with_reducible exact szAD _ _) | (with_reducible exact szA _ _) | (with_reducible exact szD _) | (with_reducible exact rfl) | assumption | (with_reducible apply NL.drew) | (with_reducible apply NL.new0) | (with_reducible apply NL.new) | (with_reducible apply NL.put0) | (with_reducible apply NL.put1))); done) | ((with_reducible apply NL.put1); (repeat (first | (with_reducible exact szAD _ _) | (with_reducible exact szA _ _) | (with_reducible exact szD _) | (with_reducible exact rfl) | assumption | (with_reducible apply NL.drew) | (with_reducible apply NL.new0) | (with_reducible apply NL.new) | (with_reducible apply NL.put0) | (with_reducible apply NL.put1))); done))) hbd2; have hAd2 := hLd2.fc; simp only [fc, ne, and_true, ne_eq, not_false_eq_true] at hAd2)))
        all_goals (
          go_wp2_with fail
          go_meet
          exact ⟨rfl, NL.join (L := []) hL0 (by (first | ((repeat (first | (with_reducible exact szAD _ _) | (with_reducible exact szA _ _) | (with_reducible exact szD _) | (with_reducible exact rfl) | assumption | (with_reducible apply NL.drew) | (with_reducible apply NL.new0) | (with_reducible apply NL.new) | (with_reducible apply NL.put0) | (with_reducible apply NL.put1))); done) | ((with_reducible apply NL.put1); (repeat (first | (with_reducible exact szAD _ _) | (with_reducible exact szA _ _) | (with_reducible exact szD _) | (with_reducible exact rfl) | assumption | (with_reducible apply NL.drew) | (with_reducible apply NL.new0) | (with_reducible apply NL.new) | (with_reducible apply NL.put0) | (with_reducible apply NL.put1))); done)))⟩)
      case rest =>
        clear hL0 C7 M7 A7
        obtain ⟨rfl, hL0⟩ := hcut
        obtain ⟨p6, r6⟩ := hL0.get (x3.heap.size + 1 + 1) c (by (first | with_reducible exact List.mem_cons_self | with_reducible exact (List.mem_cons_of_mem _ List.mem_cons_self) | with_reducible exact (List.mem_cons_of_mem _ (List.mem_cons_of_mem _ List.mem_cons_self)) | with_reducible exact (List.mem_cons_of_mem _ (List.mem_cons_of_mem _ (List.mem_cons_of_mem _ List.mem_cons_self))) | with_reducible exact (List.mem_cons_of_mem _ (List.mem_cons_of_mem _ (List.mem_cons_of_mem _ (List.mem_cons_of_mem _ List.mem_cons_self)))) | with_reducible exact (List.mem_cons_of_mem _ (List.mem_cons_of_mem _ (List.mem_cons_of_mem _ (List.mem_cons_of_mem _ (List.mem_cons_of_mem _ List.mem_cons_self))))) | with_reducible exact (List.mem_cons_of_mem _ (List.mem_cons_of_mem _ (List.mem_cons_of_mem _ (List.mem_cons_of_mem _ (List.mem_cons_of_mem _ (List.mem_cons_of_mem _ List.mem_cons_self)))))) | with_reducible exact (List.mem_cons_of_mem _ (List.mem_cons_of_mem _ (List.mem_cons_of_mem _ (List.mem_cons_of_mem _ (List.mem_cons_of_mem _ (List.mem_cons_of_mem _ (List.mem_cons_of_mem _ List.mem_cons_self))))))) | with_reducible exact (List.mem_cons_of_mem _ (List.mem_cons_of_mem _ (List.mem_cons_of_mem _ (List.mem_cons_of_mem _ (List.mem_cons_of_mem _ (List.mem_cons_of_mem _ (List.mem_cons_of_mem _ (List.mem_cons_of_mem _ List.mem_cons_self)))))))) | with_reducible exact (List.mem_cons_of_mem _ (List.mem_cons_of_mem _ (List.mem_cons_of_mem _ (List.mem_cons_of_mem _ (List.mem_cons_of_mem _ (List.mem_cons_of_mem _ (List.mem_cons_of_mem _ (List.mem_cons_of_mem _ (List.mem_cons_of_mem _ List.mem_cons_self))))))))) | with_reducible exact (List.mem_cons_of_mem _ (List.mem_cons_of_mem _ (List.mem_cons_of_mem _ (List.mem_cons_of_mem _ (List.mem_cons_of_mem _ (List.mem_cons_of_mem _ (List.mem_cons_of_mem _ (List.mem_cons_of_mem _ (List.mem_cons_of_mem _ (List.mem_cons_of_mem _ List.mem_cons_self)))))))))) | with_reducible exact (List.mem_cons_of_mem _ (List.mem_cons_of_mem _ (List.mem_cons_of_mem _ (List.mem_cons_of_mem _ (List.mem_cons_of_mem _ (List.mem_cons_of_mem _ (List.mem_cons_of_mem _ (List.mem_cons_of_mem _ (List.mem_cons_of_mem _ (List.mem_cons_of_mem _ (List.mem_cons_of_mem _ List.mem_cons_self)))))))))))))
        obtain ⟨p7, r7⟩ := hL0.get (x3.heap.size + 1) b (by (first | with_reducible exact List.mem_cons_self | with_reducible exact (List.mem_cons_of_mem _ List.mem_cons_self) | with_reducible exact (List.mem_cons_of_mem _ (List.mem_cons_of_mem _ List.mem_cons_self)) | with_reducible exact (List.mem_cons_of_mem _ (List.mem_cons_of_mem _ (List.mem_cons_of_mem _ List.mem_cons_self))) | with_reducible exact (List.mem_cons_of_mem _ (List.mem_cons_of_mem _ (List.mem_cons_of_mem _ (List.mem_cons_of_mem _ List.mem_cons_self)))) | with_reducible exact (List.mem_cons_of_mem _ (List.mem_cons_of_mem _ (List.mem_cons_of_mem _ (List.mem_cons_of_mem _ (List.mem_cons_of_mem _ List.mem_cons_self))))) | with_reducible exact (List.mem_cons_of_mem _ (List.mem_cons_of_mem _ (List.mem_cons_of_mem _ (List.mem_cons_of_mem _ (List.mem_cons_of_mem _ (List.mem_cons_of_mem _ List.mem_cons_self)))))) | with_reducible exact (List.mem_cons_of_mem _ (List.mem_cons_of_mem _ (List.mem_cons_of_mem _ (List.mem_cons_of_mem _ (List.mem_cons_of_mem _ (List.mem_cons_of_mem _ (List.mem_cons_of_mem _ List.mem_cons_self))))))) | with_reducible exact (List.mem_cons_of_mem _ (List.mem_cons_of_mem _ (List.mem_cons_of_mem _ (List.mem_cons_of_mem _ (List.mem_cons_of_mem _ (List.mem_cons_of_mem _ (List.mem_cons_of_mem _ (List.mem_cons_of_mem _ List.mem_cons_self)))))))) | with_reducible exact (List.mem_cons_of_mem _ (List.mem_cons_of_mem _ (List.mem_cons_of_mem _ (List.mem_cons_of_mem _ (List.mem_cons_of_mem _ (List.mem_cons_of_mem _ (List.mem_cons_of_mem _ (List.mem_cons_of_mem _ (List.mem_cons_of_mem _ List.mem_cons_self))))))))) | with_reducible exact (List.mem_cons_of_mem _ (List.mem_cons_of_mem _ (List.mem_cons_of_mem _ (List.mem_cons_of_mem _ (List.mem_cons_of_mem _ (List.mem_cons_of_mem _ (List.mem_cons_of_mem _ (List.mem_cons_of_mem _ (List.mem_cons_of_mem _ (List.mem_cons_of_mem _ List.mem_cons_self)))))))))) | with_reducible exact (List.mem_cons_of_mem _ (List.mem_cons_of_mem _ (List.mem_cons_of_mem _ (List.mem_cons_of_mem _ (List.mem_cons_of_mem _ (List.mem_cons_of_mem _ (List.mem_cons_of_mem _ (List.mem_cons_of_mem _ (List.mem_cons_of_mem _ (List.mem_cons_of_mem _ (List.mem_cons_of_mem _ List.mem_cons_self)))))))))))))
        go_wp2_with fail
        with_reducible refine Calls.mono (D9.out _) ?_
        rintro e x7 ⟨rfl, hb⟩
        replace hL0 := hL0.call hb
        clear hb D9
        replace hL0 := ((hL0.new rfl q2 26).new (szA _ _) r2 26)
        generalize hweq : ((x7.alloc (.cells #[.int .u64 ((lo q2 : Nat) : Int), .string (hs q2)] 26)).alloc (.cells #[.int .u64 ((lo r2 : Nat) : Int), .string (hs r2)] 26)) = x8 at hL0
        go_upto_region 10 with fail
        go_cut [16, 17, 18] from 16 to 88 (fun t16 t17 t18 wx => ∃ k16 k17, t16 = .pointer (some ⟨k16, 0, none⟩) ∧ t17 = .pointer (some ⟨k17, 0, none⟩) ∧ t18 = .bool true ∧ NL w wx [(k17, r2), (k16, a), (x7.heap.size + 1, r2), (x7.heap.size, q2), (x5.heap.size + 1, r), (x5.heap.size, q), (x3.heap.size + 1 + 1, c), (x3.heap.size + 1, b), (x3.heap.size, a)])
        case first =>
          clear hweq
          have hR := NL.start x8
          have hnw : ∀ (W : World) (v0 v1 : Value) (t : TypeId), (W.alloc (.cells #[v0, v1] t)).cell? ⟨W.heap.size, 0, none⟩ = some v0 ∧ (W.alloc (.cells #[v0, v1] t)).cell? ⟨W.heap.size, 1, none⟩ = some v1 ∧ ∀ j, (W.alloc (.cells #[v0, v1] t)).frozen? ⟨W.heap.size, j, none⟩ = false := nw_all
          have hs0 : [(x3.heap.size, a), (x3.heap.size + 1, b), (x7.heap.size + 1, r2)] ⊆ [(x7.heap.size + 1, r2), (x7.heap.size, q2), (x5.heap.size + 1, r), (x5.heap.size, q), (x3.heap.size + 1 + 1, c), (x3.heap.size + 1, b), (x3.heap.size, a)] := by simp
          go_region_held3 (fun w' => w'.cell? ⟨x3.heap.size, 0, none⟩ = some (.int .u64 ((lo a : Nat) : Int)) ∧ w'.cell? ⟨x3.heap.size, 1, none⟩ = some (.string (hs a)) ∧ w'.cell? ⟨x3.heap.size + 1, 0, none⟩ = some (.int .u64 ((lo b : Nat) : Int)) ∧ w'.cell? ⟨x3.heap.size + 1, 1, none⟩ = some (.string (hs b)) ∧ w'.cell? ⟨x7.heap.size + 1, 0, none⟩ = some (.int .u64 ((lo r2 : Nat) : Int)) ∧ w'.cell? ⟨x7.heap.size + 1, 1, none⟩ = some (.string (hs r2)))
            ((apply (NL.keep (w0 := x8) (C := [(x3.heap.size, a), (x3.heap.size + 1, b), (x7.heap.size + 1, r2)]) hL0 hs0); (first | ((repeat (first | (with_reducible exact szAD _ _) | (with_reducible exact szA _ _) | (with_reducible exact szD _) | (with_reducible exact rfl) | assumption | (with_reducible apply NL.drew) | (with_reducible apply NL.new0) | (with_reducible apply NL.new) | (with_reducible apply NL.put0) | (with_reducible apply NL.put1))); done) | ((with_reducible apply NL.put1); (repeat (first | (with_reducible exact szAD _ _) | (with_reducible exact szA _ _) | (with_reducible exact szD _) | (with_reducible exact rfl) | assumption | (with_reducible apply NL.drew) | (with_reducible apply NL.new0) | (with_reducible apply NL.new) | (with_reducible apply NL.put0) | (with_reducible apply NL.put1))); done))))
            (first
              | (go_at_call 22; ((with_reducible refine Calls.mono (M10.out _) ?_); rintro e wf0 ⟨rfl, hbf0⟩; have hLf0 := NL.call (w0 := x8) (by (first | ((repeat (first | (with_reducible exact szAD _ _) | (with_reducible exact szA _ _) | (with_reducible exact szD _) | (with_reducible exact rfl) | assumption | (with_reducible apply NL.drew) | (with_reducible apply NL.new0) | (with_reducible apply NL.new) | (with_reducible apply NL.put0) | (with_reducible apply NL.put1))); done) | ((with_reducible apply NL.put1); (repeat (first | (with_reducible exact szAD _ _) | (with_reducible exact szA _ _) | (with_reducible exact szD _) | (with_reducible exact rfl) | assumption | (with_reducible apply NL.drew) | (with_reducible apply NL.new0) | (with_reducible apply NL.new) | (with_reducible apply NL.put0) | (with_reducible apply NL.put1))); done))) hbf0; have hAf0 := hLf0.fc; simp only [fc, ne, and_true, ne_eq, not_false_eq_true] at hAf0))
              | (go_at_call 17; ((with_reducible refine Calls.mono (A10.out _) ?_); rintro e wf1 ⟨rfl, hbf1⟩; have hLf1 := NL.call (w0 := x8) (by (first | ((repeat (first | (with_reducible exact szAD _ _) | (with_reducible exact szA _ _) | (with_reducible exact szD _) | (with_reducible exact rfl) | assumption | (with_reducible apply NL.drew) | (with_reducible apply NL.new0) | (with_reducible apply NL.new) | (with_reducible apply NL.put0) | (with_reducible apply NL.put1))); done) | ((with_reducible apply NL.put1); (repeat (first | (with_reducible exact szAD _ _) | (with_reducible exact szA _ _) | (with_reducible exact szD _) | (with_reducible exact rfl) | assumption | (with_reducible apply NL.drew) | (with_reducible apply NL.new0) | (with_reducible apply NL.new) | (with_reducible apply NL.put0) | (with_reducible apply NL.put1))); done))) hbf1; have hAf1 := hLf1.fc; simp only [fc, ne, and_true, ne_eq, not_false_eq_true] at hAf1))
              | (go_at_call 21; ((with_reducible refine Calls.mono (D10.out _) ?_); rintro e wf2 ⟨rfl, hbf2⟩; have hLf2 := NL.call (w0 := x8) (by (first | ((repeat (first | (with_reducible exact szAD _ _) | (with_reducible exact szA _ _) | (with_reducible exact szD _) | (with_reducible exact rfl) | assumption | (with_reducible apply NL.drew) | (with_reducible apply NL.new0) | (with_reducible apply NL.new) | (with_reducible apply NL.put0) | (with_reducible apply NL.put1))); done) | ((with_reducible apply NL.put1); (repeat (first | (with_reducible exact szAD _ _) | (with_reducible exact szA _ _) | (with_reducible exact szD _) | (with_reducible exact rfl) | assumption | (with_reducible apply NL.drew) | (with_reducible apply NL.new0) | (with_reducible apply NL.new) | (with_reducible apply NL.put0) | (with_reducible apply NL.put1))); done))) hbf2; have hAf2 := hLf2.fc; simp only [fc, ne, and_true, ne_eq, not_false_eq_true] at hAf2)))
          all_goals (
            go_wp2_with fail
            go_meet
            exact ⟨_, _, rfl, rfl, rfl, by first | exact NL.join (L := [_, _]) hL0 (by (first | ((repeat (first | (with_reducible exact szAD _ _) | (with_reducible exact szA _ _) | (with_reducible exact szD _) | (with_reducible exact rfl) | assumption | (with_reducible apply NL.drew) | (with_reducible apply NL.new0) | (with_reducible apply NL.new) | (with_reducible apply NL.put0) | (with_reducible apply NL.put1))); done) | ((with_reducible apply NL.put1); (repeat (first | (with_reducible exact szAD _ _) | (with_reducible exact szA _ _) | (with_reducible exact szD _) | (with_reducible exact rfl) | assumption | (with_reducible apply NL.drew) | (with_reducible apply NL.new0) | (with_reducible apply NL.new) | (with_reducible apply NL.put0) | (with_reducible apply NL.put1))); done))) | exact NL.join (L := [_, _]) hL0 (NL.swap (by (first | ((repeat (first | (with_reducible exact szAD _ _) | (with_reducible exact szA _ _) | (with_reducible exact szD _) | (with_reducible exact rfl) | assumption | (with_reducible apply NL.drew) | (with_reducible apply NL.new0) | (with_reducible apply NL.new) | (with_reducible apply NL.put0) | (with_reducible apply NL.put1))); done) | ((with_reducible apply NL.put1); (repeat (first | (with_reducible exact szAD _ _) | (with_reducible exact szA _ _) | (with_reducible exact szD _) | (with_reducible exact rfl) | assumption | (with_reducible apply NL.drew) | (with_reducible apply NL.new0) | (with_reducible apply NL.new) | (with_reducible apply NL.put0) | (with_reducible apply NL.put1))); done))))⟩)
        case rest =>
          clear hL0 M10 A10 D10
          obtain ⟨k16, k17, rfl, rfl, rfl, hL0⟩ := hcut
          have HW := Lib.hid (works_any _ (htab.below hL0.bl))
          obtain ⟨p8, r8⟩ := hL0.get (k16) a (by (first | with_reducible exact List.mem_cons_self | with_reducible exact (List.mem_cons_of_mem _ List.mem_cons_self) | with_reducible exact (List.mem_cons_of_mem _ (List.mem_cons_of_mem _ List.mem_cons_self)) | with_reducible exact (List.mem_cons_of_mem _ (List.mem_cons_of_mem _ (List.mem_cons_of_mem _ List.mem_cons_self))) | with_reducible exact (List.mem_cons_of_mem _ (List.mem_cons_of_mem _ (List.mem_cons_of_mem _ (List.mem_cons_of_mem _ List.mem_cons_self)))) | with_reducible exact (List.mem_cons_of_mem _ (List.mem_cons_of_mem _ (List.mem_cons_of_mem _ (List.mem_cons_of_mem _ (List.mem_cons_of_mem _ List.mem_cons_self))))) | with_reducible exact (List.mem_cons_of_mem _ (List.mem_cons_of_mem _ (List.mem_cons_of_mem _ (List.mem_cons_of_mem _ (List.mem_cons_of_mem _ (List.mem_cons_of_mem _ List.mem_cons_self)))))) | with_reducible exact (List.mem_cons_of_mem _ (List.mem_cons_of_mem _ (List.mem_cons_of_mem _ (List.mem_cons_of_mem _ (List.mem_cons_of_mem _ (List.mem_cons_of_mem _ (List.mem_cons_of_mem _ List.mem_cons_self))))))) | with_reducible exact (List.mem_cons_of_mem _ (List.mem_cons_of_mem _ (List.mem_cons_of_mem _ (List.mem_cons_of_mem _ (List.mem_cons_of_mem _ (List.mem_cons_of_mem _ (List.mem_cons_of_mem _ (List.mem_cons_of_mem _ List.mem_cons_self)))))))) | with_reducible exact (List.mem_cons_of_mem _ (List.mem_cons_of_mem _ (List.mem_cons_of_mem _ (List.mem_cons_of_mem _ (List.mem_cons_of_mem _ (List.mem_cons_of_mem _ (List.mem_cons_of_mem _ (List.mem_cons_of_mem _ (List.mem_cons_of_mem _ List.mem_cons_self))))))))) | with_reducible exact (List.mem_cons_of_mem _ (List.mem_cons_of_mem _ (List.mem_cons_of_mem _ (List.mem_cons_of_mem _ (List.mem_cons_of_mem _ (List.mem_cons_of_mem _ (List.mem_cons_of_mem _ (List.mem_cons_of_mem _ (List.mem_cons_of_mem _ (List.mem_cons_of_mem _ List.mem_cons_self)))))))))) | with_reducible exact (List.mem_cons_of_mem _ (List.mem_cons_of_mem _ (List.mem_cons_of_mem _ (List.mem_cons_of_mem _ (List.mem_cons_of_mem _ (List.mem_cons_of_mem _ (List.mem_cons_of_mem _ (List.mem_cons_of_mem _ (List.mem_cons_of_mem _ (List.mem_cons_of_mem _ (List.mem_cons_of_mem _ List.mem_cons_self)))))))))))))
          obtain ⟨p9, r9⟩ := hL0.get (x3.heap.size) a (by (first | with_reducible exact List.mem_cons_self | with_reducible exact (List.mem_cons_of_mem _ List.mem_cons_self) | with_reducible exact (List.mem_cons_of_mem _ (List.mem_cons_of_mem _ List.mem_cons_self)) | with_reducible exact (List.mem_cons_of_mem _ (List.mem_cons_of_mem _ (List.mem_cons_of_mem _ List.mem_cons_self))) | with_reducible exact (List.mem_cons_of_mem _ (List.mem_cons_of_mem _ (List.mem_cons_of_mem _ (List.mem_cons_of_mem _ List.mem_cons_self)))) | with_reducible exact (List.mem_cons_of_mem _ (List.mem_cons_of_mem _ (List.mem_cons_of_mem _ (List.mem_cons_of_mem _ (List.mem_cons_of_mem _ List.mem_cons_self))))) | with_reducible exact (List.mem_cons_of_mem _ (List.mem_cons_of_mem _ (List.mem_cons_of_mem _ (List.mem_cons_of_mem _ (List.mem_cons_of_mem _ (List.mem_cons_of_mem _ List.mem_cons_self)))))) | with_reducible exact (List.mem_cons_of_mem _ (List.mem_cons_of_mem _ (List.mem_cons_of_mem _ (List.mem_cons_of_mem _ (List.mem_cons_of_mem _ (List.mem_cons_of_mem _ (List.mem_cons_of_mem _ List.mem_cons_self))))))) | with_reducible exact (List.mem_cons_of_mem _ (List.mem_cons_of_mem _ (List.mem_cons_of_mem _ (List.mem_cons_of_mem _ (List.mem_cons_of_mem _ (List.mem_cons_of_mem _ (List.mem_cons_of_mem _ (List.mem_cons_of_mem _ List.mem_cons_self)))))))) | with_reducible exact (List.mem_cons_of_mem _ (List.mem_cons_of_mem _ (List.mem_cons_of_mem _ (List.mem_cons_of_mem _ (List.mem_cons_of_mem _ (List.mem_cons_of_mem _ (List.mem_cons_of_mem _ (List.mem_cons_of_mem _ (List.mem_cons_of_mem _ List.mem_cons_self))))))))) | with_reducible exact (List.mem_cons_of_mem _ (List.mem_cons_of_mem _ (List.mem_cons_of_mem _ (List.mem_cons_of_mem _ (List.mem_cons_of_mem _ (List.mem_cons_of_mem _ (List.mem_cons_of_mem _ (List.mem_cons_of_mem _ (List.mem_cons_of_mem _ (List.mem_cons_of_mem _ List.mem_cons_self)))))))))) | with_reducible exact (List.mem_cons_of_mem _ (List.mem_cons_of_mem _ (List.mem_cons_of_mem _ (List.mem_cons_of_mem _ (List.mem_cons_of_mem _ (List.mem_cons_of_mem _ (List.mem_cons_of_mem _ (List.mem_cons_of_mem _ (List.mem_cons_of_mem _ (List.mem_cons_of_mem _ (List.mem_cons_of_mem _ List.mem_cons_self)))))))))))))
          obtain ⟨p10, r10⟩ := hL0.get (k17) r2 (by (first | with_reducible exact List.mem_cons_self | with_reducible exact (List.mem_cons_of_mem _ List.mem_cons_self) | with_reducible exact (List.mem_cons_of_mem _ (List.mem_cons_of_mem _ List.mem_cons_self)) | with_reducible exact (List.mem_cons_of_mem _ (List.mem_cons_of_mem _ (List.mem_cons_of_mem _ List.mem_cons_self))) | with_reducible exact (List.mem_cons_of_mem _ (List.mem_cons_of_mem _ (List.mem_cons_of_mem _ (List.mem_cons_of_mem _ List.mem_cons_self)))) | with_reducible exact (List.mem_cons_of_mem _ (List.mem_cons_of_mem _ (List.mem_cons_of_mem _ (List.mem_cons_of_mem _ (List.mem_cons_of_mem _ List.mem_cons_self))))) | with_reducible exact (List.mem_cons_of_mem _ (List.mem_cons_of_mem _ (List.mem_cons_of_mem _ (List.mem_cons_of_mem _ (List.mem_cons_of_mem _ (List.mem_cons_of_mem _ List.mem_cons_self)))))) | with_reducible exact (List.mem_cons_of_mem _ (List.mem_cons_of_mem _ (List.mem_cons_of_mem _ (List.mem_cons_of_mem _ (List.mem_cons_of_mem _ (List.mem_cons_of_mem _ (List.mem_cons_of_mem _ List.mem_cons_self))))))) | with_reducible exact (List.mem_cons_of_mem _ (List.mem_cons_of_mem _ (List.mem_cons_of_mem _ (List.mem_cons_of_mem _ (List.mem_cons_of_mem _ (List.mem_cons_of_mem _ (List.mem_cons_of_mem _ (List.mem_cons_of_mem _ List.mem_cons_self)))))))) | with_reducible exact (List.mem_cons_of_mem _ (List.mem_cons_of_mem _ (List.mem_cons_of_mem _ (List.mem_cons_of_mem _ (List.mem_cons_of_mem _ (List.mem_cons_of_mem _ (List.mem_cons_of_mem _ (List.mem_cons_of_mem _ (List.mem_cons_of_mem _ List.mem_cons_self))))))))) | with_reducible exact (List.mem_cons_of_mem _ (List.mem_cons_of_mem _ (List.mem_cons_of_mem _ (List.mem_cons_of_mem _ (List.mem_cons_of_mem _ (List.mem_cons_of_mem _ (List.mem_cons_of_mem _ (List.mem_cons_of_mem _ (List.mem_cons_of_mem _ (List.mem_cons_of_mem _ List.mem_cons_self)))))))))) | with_reducible exact (List.mem_cons_of_mem _ (List.mem_cons_of_mem _ (List.mem_cons_of_mem _ (List.mem_cons_of_mem _ (List.mem_cons_of_mem _ (List.mem_cons_of_mem _ (List.mem_cons_of_mem _ (List.mem_cons_of_mem _ (List.mem_cons_of_mem _ (List.mem_cons_of_mem _ (List.mem_cons_of_mem _ List.mem_cons_self)))))))))))))
          obtain ⟨p11, r11⟩ := hL0.get (x7.heap.size + 1) r2 (by (first | with_reducible exact List.mem_cons_self | with_reducible exact (List.mem_cons_of_mem _ List.mem_cons_self) | with_reducible exact (List.mem_cons_of_mem _ (List.mem_cons_of_mem _ List.mem_cons_self)) | with_reducible exact (List.mem_cons_of_mem _ (List.mem_cons_of_mem _ (List.mem_cons_of_mem _ List.mem_cons_self))) | with_reducible exact (List.mem_cons_of_mem _ (List.mem_cons_of_mem _ (List.mem_cons_of_mem _ (List.mem_cons_of_mem _ List.mem_cons_self)))) | with_reducible exact (List.mem_cons_of_mem _ (List.mem_cons_of_mem _ (List.mem_cons_of_mem _ (List.mem_cons_of_mem _ (List.mem_cons_of_mem _ List.mem_cons_self))))) | with_reducible exact (List.mem_cons_of_mem _ (List.mem_cons_of_mem _ (List.mem_cons_of_mem _ (List.mem_cons_of_mem _ (List.mem_cons_of_mem _ (List.mem_cons_of_mem _ List.mem_cons_self)))))) | with_reducible exact (List.mem_cons_of_mem _ (List.mem_cons_of_mem _ (List.mem_cons_of_mem _ (List.mem_cons_of_mem _ (List.mem_cons_of_mem _ (List.mem_cons_of_mem _ (List.mem_cons_of_mem _ List.mem_cons_self))))))) | with_reducible exact (List.mem_cons_of_mem _ (List.mem_cons_of_mem _ (List.mem_cons_of_mem _ (List.mem_cons_of_mem _ (List.mem_cons_of_mem _ (List.mem_cons_of_mem _ (List.mem_cons_of_mem _ (List.mem_cons_of_mem _ List.mem_cons_self)))))))) | with_reducible exact (List.mem_cons_of_mem _ (List.mem_cons_of_mem _ (List.mem_cons_of_mem _ (List.mem_cons_of_mem _ (List.mem_cons_of_mem _ (List.mem_cons_of_mem _ (List.mem_cons_of_mem _ (List.mem_cons_of_mem _ (List.mem_cons_of_mem _ List.mem_cons_self))))))))) | with_reducible exact (List.mem_cons_of_mem _ (List.mem_cons_of_mem _ (List.mem_cons_of_mem _ (List.mem_cons_of_mem _ (List.mem_cons_of_mem _ (List.mem_cons_of_mem _ (List.mem_cons_of_mem _ (List.mem_cons_of_mem _ (List.mem_cons_of_mem _ (List.mem_cons_of_mem _ List.mem_cons_self)))))))))) | with_reducible exact (List.mem_cons_of_mem _ (List.mem_cons_of_mem _ (List.mem_cons_of_mem _ (List.mem_cons_of_mem _ (List.mem_cons_of_mem _ (List.mem_cons_of_mem _ (List.mem_cons_of_mem _ (List.mem_cons_of_mem _ (List.mem_cons_of_mem _ (List.mem_cons_of_mem _ (List.mem_cons_of_mem _ List.mem_cons_self)))))))))))))
          go_wp2_with fail
          with_reducible refine Calls.mono HW.out ?_
          rintro e x9 ⟨rfl, hb⟩
          replace hL0 := hL0.call hb
          clear hb HW
          go_wp2_with fail
          exact bodyPost_ret (v := .bool true) (by simp [results, Tryd.results7, go_sem]) rfl ⟨rfl, hL0.bl⟩
end Go.Proofs.YtgmmfaclchoigaaDoor
