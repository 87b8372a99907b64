/-
  The law answers true at every input, and leaves its arguments as they were: a part of the proof. CONDITIONS: the package-level tables start as the program's text lays them (the card ties them).
-/
import Derived.Test.YtloipmieaefcpaaGreatDoorZad
import Derived.Deep.SlicePairs
set_option linter.unusedVariables false
set_option linter.unusedSimpArgs false
namespace Go.Proofs.YtloipmieaefcpaaGreatDoor
open Go.ChangeShapes Go.WideShapes Go.ChangeAt Go.RowKit Go.Joins
theorem cellsI : Tryz.prog.cellsOf 2 = 1 := by kernel_rfl
theorem cellsU : Tryz.prog.cellsOf 54 = 1 := by kernel_rfl
end Go.Proofs.YtloipmieaefcpaaGreatDoor
namespace Go.Proofs.YtloipmieaefcpaaGreatDoor
open Go.RowKit
attribute [local irreducible] lo hs sm s64 c64 d64 b64 mh ml pd pc qd qc val hiB str cmpI srD lz nb isq zl zh zs
theorem w64 {x : Int} (h1 : -9223372036854775808 ≤ x) (h2 : x < 9223372036854775808) : wrap64 x = x := by unfold wrap64; omega
theorem tmod_twice (a m : Int) (hm : 0 < m) : (a.tmod m + m).tmod m = a % m := by
 have h0 := Int.tmod_lt_of_pos a hm
 have h1 : -m < a.tmod m := by
  have e := Int.natAbs_tmod a m
  have e2 := Nat.mod_lt a.natAbs (show 0 < m.natAbs by omega)
  omega
 rw [Int.tmod_eq_emod_of_nonneg (by omega), Int.add_emod_right, Int.tmod_def, Int.sub_mul_emod_self_left]
set_option maxHeartbeats 1000000 in
theorem rmod_any (a m : Int) (hm : 0 < m) (hm2 : m ≤ 100000) (h1 : -1000000000000 ≤ a) (h2 : a ≤ 1000000000000) (w : World) :
  Calls Tryz.prog 49 #[.int .i64 a, .int .i64 m] w fun e w' => e = .returned (.int .i64 (a % m)) ∧ Below w.heap.size w w' := by
 have hz : (m == 0) = false := beq_eq_false_iff_ne.2 (by omega)
 have hz2 : ¬ m = 0 := by omega
 have hw : (wrap64 (a.tmod m + m)).tmod m = a % m := by
  have h0 := Int.tmod_lt_of_pos a hm
  have h1 : -m < a.tmod m := by
   have e := Int.natAbs_tmod a m
   have e2 := Nat.mod_lt a.natAbs (show 0 < m.natAbs by omega)
   omega
  rw [w64 (by omega) (by omega)]; exact tmod_twice a m hm
 go_enter Tryz.func49, Tryz.ntmps49
 go_wp2_with fail
 exact bodyPost_ret (v := .int .i64 (a % m)) (by simp [results, Tryz.results49, go_sem, hw]) rfl ⟨rfl, Below.refl _ _⟩
end Go.Proofs.YtloipmieaefcpaaGreatDoor
namespace Go.Proofs.YtloipmieaefcpaaGreatDoor
open Go.RowKit
attribute [local irreducible] lo hs sm s64 c64 d64 b64 mh ml pd pc qd qc val hiB str cmpI srD lz nb isq zl zh zs
/-- A slice of integers that can be read. -/
def IS (w : World) (v : Value) (l : List Int) : Prop := ∃ ao c, v = .slice ao l.length c ∧ (0 < l.length → ∃ g, ao = some ⟨g, 0, none⟩ ∧ g < w.heap.size ∧ ∀ i (h : i < l.length), w.cell? ⟨g, i, none⟩ = some (.int .i64 l[i]))
theorem lcmL_le : ∀ {l : List (Int × Nat)} (k : Nat), (∀ c ∈ l, 0 < c.2 ∧ c.2 ≤ 12) → l.length ≤ k → 0 < lcmL l ∧ lcmL l ≤ 12 ^ k
 | [], k, _, _ => ⟨Nat.one_pos, Nat.one_le_pow _ _ (by decide)⟩
 | c :: l, k, h, hk => by
  rw [List.length_cons] at hk
  obtain ⟨k, rfl⟩ : ∃ j, k = j + 1 := ⟨k - 1, by omega⟩
  obtain ⟨g1, g2⟩ := lcmL_le k (fun d hd => h d (List.mem_cons_of_mem _ hd)) (by omega)
  obtain ⟨c1, c2⟩ := h c List.mem_cons_self
  refine ⟨Nat.lcm_pos c1 g1, ?_⟩
  have h1 := Nat.le_of_dvd (Nat.mul_pos c1 g1) (Nat.lcm_dvd (Nat.dvd_mul_right c.2 (lcmL l)) (Nat.dvd_mul_left _ _))
  have h2 := Nat.mul_le_mul c2 g2
  rw [Nat.pow_succ, Nat.mul_comm]
  show Nat.lcm c.2 (lcmL l) ≤ _
  omega
theorem lcm_step {A M B : Nat} (hA : 0 < A) (hM : 0 < M) (h1 : A ∣ B) (h0 : 0 < B) (h2 : B ≤ Nat.lcm A M) (h3 : ¬ M ∣ B) : A ∣ B + A ∧ B + A ≤ Nat.lcm A M := by
 refine ⟨Nat.dvd_add h1 (Nat.dvd_refl _), ?_⟩
 obtain ⟨k, rfl⟩ := h1
 obtain ⟨t, ht⟩ := Nat.dvd_lcm_left A M
 have hne : A * k ≠ Nat.lcm A M := fun e => h3 (e ▸ Nat.dvd_lcm_right A M)
 rw [ht] at h2 hne ⊢
 have hk : k < t := by
  rcases Nat.lt_or_ge k t with g | g
  ·exact g
  ·have := Nat.mul_le_mul_left A g; omega
 have := Nat.mul_le_mul_left A (show k + 1 ≤ t from hk)
 rw [Nat.mul_succ] at this
 exact this
theorem lcm_done {A M B : Nat} (h0 : 0 < B) (h1 : A ∣ B) (h2 : B ≤ Nat.lcm A M) (h3 : M ∣ B) : B = Nat.lcm A M := Nat.le_antisymm h2 (Nat.le_of_dvd h0 (Nat.lcm_dvd h1 h3))
theorem take_succC {cs : List (Int × Nat)} {i : Nat} (h : i < cs.length) : cs.take (i + 1) = cs.take i ++ [cs[i]] := List.take_succ_eq_append_getElem h
set_option maxHeartbeats 16000000 in
set_option maxRecDepth 100000 in
theorem rchin_any (cs : List (Int × Nat)) (n : Nat) (hn : cs.length = n) (hl : n ≤ 4) (hr : ∀ c ∈ cs, (-200 ≤ c.1 ∧ c.1 ≤ 200) ∧ c.2 ≤ 12) (a0 a1 : Option Addr) (c0 c1 : Nat) (R : Value) (hR : R = .tuple #[.int .i64 (chV cs).1, .int .i64 ((chV cs).2 : Int), .int .i64 (chE cs)]) (w : World)
  (h0 : 0 < n → ∃ g, a0 = some ⟨g, 0, none⟩ ∧ g < w.heap.size ∧ ∀ i (h : i < cs.length), w.cell? ⟨g, i, none⟩ = some (.int .i64 cs[i].1))
  (h1 : 0 < n → ∃ g, a1 = some ⟨g, 0, none⟩ ∧ g < w.heap.size ∧ ∀ i (h : i < cs.length), w.cell? ⟨g, i, none⟩ = some (.int .i64 (cs[i].2 : Int))) :
  Calls Tryz.prog 26 #[.slice a0 n c0, .slice a1 n c1] w fun e w' => e = .returned R ∧ Below w.heap.size w w' := by
 have hmem : ∀ i (h : i < cs.length), (-200 ≤ cs[i].1 ∧ cs[i].1 ≤ 200) ∧ cs[i].2 ≤ 12 := fun i h => hr _ (List.getElem_mem h)
 replace hn := Lib.hid hn
 replace hR := Lib.hid hR
 replace h0 := Lib.hid h0
 replace h1 := Lib.hid h1
 replace hmem := Lib.hid hmem
 replace hr := Lib.hid hr
 go_enter Tryz.func26, Tryz.ntmps26
 go_wp2_with fail
 go_loopw [7, 8] (fun va vi wr => ∃ (i : Nat) (zi : Int) (A : Nat) (za : Int), vi = .int .i64 zi ∧ zi = (i : Int) ∧ i ≤ n ∧ va = .int .i64 za ∧ za = (A : Int) ∧ A = lcmL (cs.take i) ∧ (∀ c ∈ cs.take i, 0 < c.2) ∧ w = wr) (fun _ vi _ => n - (intOf vi).toNat)
 case atStart => exact ⟨0, _, 1, _, rfl, rfl, Nat.zero_le _, rfl, rfl, rfl, (fun c hc => by cases hc), rfl⟩
 case round =>
  obtain ⟨i, zi, A, za, rfl, rfl, hi, rfl, rfl, hA, hp, rfl⟩ := hrel
  have hnn := hn.out
  have hcs12 : ∀ c ∈ cs.take i, 0 < c.2 ∧ c.2 ≤ 12 := fun c hc => ⟨hp c hc, (hr.out c (List.mem_of_mem_take hc)).2⟩
  obtain ⟨A0, A1⟩ := lcmL_le 4 hcs12 (by rw [List.length_take]; omega)
  rw [← hA] at A0 A1
  have A2 : A ≤ 20736 := A1
  clear A1 hcs12
  by_cases hin : i < n
  ·have k1 : (i : Int) < (n : Int) := by omega
   have k0 : (0 : Int) ≤ (i : Int) := by omega
   have kb : (i : Int) ≤ 4 := by omega
   obtain ⟨g, rfl, hg, hcell⟩ := h1.out (by omega)
   have cc := hcell i (by omega)
   obtain ⟨M, hM⟩ : ∃ M, M = (cs[i]'(by omega)).2 := ⟨_, rfl⟩
   have hM12 : M ≤ 12 := by rw [hM]; exact (hmem.out i (by omega)).2
   rw [← hM] at cc
   by_cases hM0 : M = 0
   ·have e0 : ((M : Int) == 0) = true := by rw [hM0]; rfl
    have hRz := Lib.hid (show R = .tuple #[.int .i64 0, .int .i64 0, .int .i64 5] from by
     obtain ⟨z1, z2⟩ := ch_zero (anyZ_true (l := cs) i (by omega) (by rw [← hM]; exact hM0))
     rw [hR.out, z1, z2]; rfl)
    clear hp hA hM hM0 hcell
    go_wp2_with fail
    exact bodyPost_ret (v := .tuple #[.int .i64 0, .int .i64 0, .int .i64 5]) (by simp [results, Tryz.results26, go_sem]) rfl ⟨by rw [hRz.out], Below.refl _ _⟩
   ·have e0 : ((M : Int) == 0) = false := beq_eq_false_iff_ne.2 (by omega)
    have e1 : ¬ (M : Int) = 0 := by omega
    have hlc := Nat.le_of_dvd (Nat.mul_pos A0 (show 0 < M by omega)) (Nat.lcm_dvd (Nat.dvd_mul_right A M) (Nat.dvd_mul_left _ _))
    have hlc2 : A * M ≤ 20736 * 12 := Nat.mul_le_mul A2 hM12
    obtain ⟨L, hL⟩ : ∃ L, L = Nat.lcm A M := ⟨_, rfl⟩
    have hAL : A ≤ L := by rw [hL]; exact Nat.le_of_dvd (Nat.lcm_pos A0 (by omega)) (Nat.dvd_lcm_left _ _)
    have hLb : L ≤ 248832 := by omega
    have hnx := Lib.hid (show L = lcmL (cs.take (i + 1)) from by rw [take_succC (by omega), lcmL_snoc, ← hA, ← hM, hL])
    have hpx := Lib.hid (show ∀ c ∈ cs.take (i + 1), 0 < c.2 from fun c hc => by
     rw [take_succC (by omega)] at hc
     rcases List.mem_append.1 hc with g1 | g1
     ·exact hp c g1
     ·rw [List.mem_singleton.1 g1, ← hM]; omega)
    have hstep := Lib.hid (fun B (q1 : A ∣ B) (q0 : 0 < B) (q2 : B ≤ L) (q3 : ¬ M ∣ B) => (by rw [hL] at q2 ⊢; exact lcm_step A0 (by omega) q1 q0 q2 q3 : A ∣ B + A ∧ B + A ≤ L))
    have hdone := Lib.hid (fun B (q0 : 0 < B) (q1 : A ∣ B) (q2 : B ≤ L) (q3 : M ∣ B) => (by rw [hL] at q2 ⊢; exact lcm_done q0 q1 q2 q3 : B = L))
    clear hp hA hM hcell hlc hlc2 hL
    go_wp2_with fail
    go_loopw [7] (fun va wx => ∃ (B : Nat) (zb : Int), va = .int .i64 zb ∧ zb = (B : Int) ∧ A ∣ B ∧ 0 < B ∧ B ≤ L ∧ w = wx) (fun va _ => L - (intOf va).toNat)
    case atStart => exact ⟨A, _, rfl, rfl, Nat.dvd_refl _, A0, hAL, rfl⟩
    case round =>
     obtain ⟨B, zb, rfl, rfl, q1, q0, q2, rfl⟩ := hrel
     have tb : (B : Int) % (M : Int) = ((B % M : Nat) : Int) := rfl
     have kB : (B : Int) ≤ 248832 := by omega
     have kA : (A : Int) ≤ 20736 := by omega
     by_cases hd : M ∣ B
     ·have e2 : (((B % M : Nat) : Int) != 0) = false := by rw [Nat.mod_eq_zero_of_dvd hd]; rfl
      rw [← tb] at e2
      have e3 : ((B : Int) % (M : Int) == 0) = true := by rw [tb, Nat.mod_eq_zero_of_dvd hd]; rfl
      have hB := hdone.out B q0 q1 q2 hd
      subst hB
      clear q1 q0 q2 hd tb
      go_wp2_with fail
      go_roundw
      case rel => exact ⟨i + 1, _, B, _, by first | rfl | go_num, by omega, by omega, by first | rfl | go_num, rfl, hnx.out, hpx.out, by first | rfl | trivial⟩
      case measure => simp [intOf] <;> omega
     ·have hmod : B % M ≠ 0 := fun e => hd (Nat.dvd_of_mod_eq_zero e)
      have e2 : (((B % M : Nat) : Int) != 0) = true := by simp; omega
      have e3 : (((B % M : Nat) : Int) == 0) = false := beq_eq_false_iff_ne.2 (by omega)
      rw [← tb] at e2 e3
      obtain ⟨s1, s2⟩ := hstep.out B q1 q0 q2 hd
      replace s1 := Lib.hid s1
      clear q1 hd tb hmod
      go_wp2_with fail
      go_roundw
      case rel => exact ⟨B + A, _, by first | rfl | go_num, by omega, s1.out, by omega, s2, by first | rfl | trivial⟩
      case measure => simp [intOf] <;> omega
  ·obtain rfl : i = n := by omega
   have k1 : ¬ (i : Int) < (i : Int) := by omega
   rw [List.take_of_length_le (by omega)] at hA hp
   replace hA := Lib.hid hA
   replace hp := Lib.hid hp
   clear hin
   go_wp2_with fail
   go_loopw [10] (fun vx wr => ∃ (x : Nat) (zx : Int), vx = .int .i64 zx ∧ zx = (x : Int) ∧ x ≤ A ∧ (∀ y : Nat, y < x → ¬ Holds cs (y : Int)) ∧ Below w.heap.size w wr) (fun vx _ => A - (intOf vx).toNat)
   case atStart => exact ⟨0, _, rfl, rfl, Nat.zero_le _, fun y hy => by omega, Below.refl _ _⟩
   case round =>
    obtain ⟨x, zx, rfl, rfl, hx, hno, hb⟩ := hrel
    have kA : (A : Int) ≤ 20736 := by omega
    by_cases hxA : x < A
    ·have k2 : (x : Int) < (A : Int) := by omega
     have kx0 : (0 : Int) ≤ (x : Int) := by omega
     replace hno := Lib.hid hno
     go_wp2_with fail
     go_loopw [11, 12] (fun vo vj wx => ∃ (j : Nat) (zj : Int) (bo : Bool), vj = .int .i64 zj ∧ zj = (j : Int) ∧ j ≤ i ∧ vo = .bool bo ∧ bo = decide (∀ t (h : t < cs.length), t < j → (cs[t].2 : Int) ∣ (x : Int) - cs[t].1) ∧ Below w.heap.size w wx) (fun _ vj _ => i - (intOf vj).toNat)
     case atStart => exact ⟨0, _, _, rfl, rfl, Nat.zero_le _, rfl, (decide_eq_true (fun t h ht => absurd ht (Nat.not_lt_zero _))).symm, hb⟩
     case round =>
      clear hb
      obtain ⟨j, zj, bo, rfl, rfl, hj, rfl, hbo, hb⟩ := hrel
      by_cases hji : j < i
      ·have k3 : (j : Int) < (i : Int) := by omega
       have kj0 : (0 : Int) ≤ (j : Int) := by omega
       have kjb : (j : Int) ≤ 4 := by omega
       obtain ⟨g0, rfl, hg0, hcell0⟩ := h0.out (by omega)
       obtain ⟨g1, rfl, hg1, hcell1⟩ := h1.out (by omega)
       have cr := (hb.cell (p := ⟨g0, j, none⟩) hg0).trans (hcell0 j (by omega))
       have cm := (hb.cell (p := ⟨g1, j, none⟩) hg1).trans (hcell1 j (by omega))
       obtain ⟨m1, m2⟩ := hmem.out j (by omega)
       have m3 : 0 < (cs[j]'(by omega)).2 := hp.out _ (List.getElem_mem _)
       have hnx : ∀ bn, bn = (bo && decide ((((cs[j]'(by omega)).2 : Nat) : Int) ∣ (x : Int) - (cs[j]'(by omega)).1)) → bn = decide (∀ t (h : t < cs.length), t < j + 1 → (cs[t].2 : Int) ∣ (x : Int) - cs[t].1) := fun bn e => by
        rw [e, hbo, ← Bool.decide_and]
        refine decide_eq_decide.2 ⟨fun q t h ht => ?_, fun q => ⟨fun t h ht => q t h (by omega), q j (by omega) (by omega)⟩⟩
        rcases Nat.lt_or_ge t j with g | g
        ·exact q.1 t h g
        ·obtain rfl : t = j := by omega
         exact q.2
       obtain ⟨r, hr2⟩ : ∃ r, r = (cs[j]'(by omega)).1 := ⟨_, rfl⟩
       obtain ⟨M, hM⟩ : ∃ M, M = (cs[j]'(by omega)).2 := ⟨_, rfl⟩
       rw [← hr2] at cr m1 hnx
       rw [← hM] at cm m2 m3 hnx
       replace hnx := Lib.hid hnx
       replace hbo := Lib.hid hbo
       clear hcell0 hcell1 hr2 hM
       have ws : wrap64 ((x : Int) - r) = (x : Int) - r := w64 (by omega) (by omega)
       have HM := Lib.hid (fun w => rmod_any ((x : Int) - r) (M : Int) (by omega) (by omega) (by omega) (by omega) w)
       obtain ⟨t, ht⟩ : ∃ t, t = ((x : Int) - r) % (M : Int) := ⟨_, rfl⟩
       have htd : (t == 0) = decide ((M : Int) ∣ (x : Int) - r) := by rw [ht, show ((((x : Int) - r) % (M : Int)) == 0) = decide (((x : Int) - r) % (M : Int) = 0) from rfl]; exact decide_eq_decide.2 Int.dvd_iff_emod_eq_zero.symm
       rw [← ht] at HM
       obtain ⟨bt, hbt⟩ : ∃ bt, bt = (t == 0) := ⟨_, rfl⟩
       rw [← hbt] at htd
       rw [← htd] at hnx
       replace hbt := hbt.symm
       clear ht htd
       cases bo with
       | true =>
        have hfin := Lib.hid (hnx.out bt (by simp))
        go_upto_region 17 with fail
        obtain ⟨α, iα, F, hF1, hF2⟩ := cls wr
        have hq1 : ∀ y, (F y).cell? ⟨g0, j, none⟩ = some (.int .i64 r) := fun y => ((hF1 y).cell (p := ⟨g0, j, none⟩) (Nat.lt_of_lt_of_le hg0 hb.size)).trans cr
        have hq2 : ∀ y, (F y).cell? ⟨g1, j, none⟩ = some (.int .i64 (M : Int)) := fun y => ((hF1 y).cell (p := ⟨g1, j, none⟩) (Nat.lt_of_lt_of_le hg1 hb.size)).trans cm
        refine region_qs 16 (C := fun w' => ∃ x, w' = F x) (by kernel_rfl) (by kernel_rfl) (cls_drew hF2) ?_
        simp only [List.take_succ_cons, List.take_zero, List.drop_succ_cons, List.drop_zero, List.take_nil, List.drop_nil]
        repeat (go_big_quiet_step (first | fail | (go_at_call 49; with_reducible exact cls_call hF1 hF2 HM.out _)))
        refine wpQuiet_nil ?_
        rintro wq ⟨xq, rfl⟩
        replace hb := hb.trans ((hF1 xq).mono hb.size)
        clear hq1 hq2 hF2 cr cm
        generalize F xq = x5 at hb ⊢
        clear hF1 xq iα F α
        go_wp2_with fail
        go_roundw
        case rel => exact ⟨j + 1, _, bt, by first | rfl | go_num, by omega, by omega, by first | rfl | simp [hbt], hfin.out, hb⟩
        case measure => simp [intOf] <;> omega
       | false =>
        have hfin := Lib.hid (hnx.out false (by simp))
        go_upto_region 17 with fail
        obtain ⟨α, iα, F, hF1, hF2⟩ := cls wr
        refine region_qs 16 (C := fun w' => ∃ x, w' = F x) (by kernel_rfl) (by kernel_rfl) (cls_drew hF2) ?_
        simp only [List.take_succ_cons, List.take_zero, List.drop_succ_cons, List.drop_zero, List.take_nil, List.drop_nil]
        repeat (go_big_quiet_step (first | fail | (go_at_call 49; with_reducible exact cls_call hF1 hF2 HM.out _)))
        refine wpQuiet_nil ?_
        rintro wq ⟨xq, rfl⟩
        replace hb := hb.trans ((hF1 xq).mono hb.size)
        clear hF2 cr cm
        generalize F xq = x5 at hb ⊢
        clear hF1 xq iα F α
        go_wp2_with fail
        go_roundw
        case rel => exact ⟨j + 1, _, false, by first | rfl | go_num, by omega, by omega, by first | rfl | trivial, hfin.out, hb⟩
        case measure => simp [intOf] <;> omega
      ·obtain rfl : j = i := by omega
       have k3 : ¬ (j : Int) < (j : Int) := by omega
       have hall : bo = true ↔ Holds cs (x : Int) := by
        rw [hbo, decide_eq_true_iff]
        refine ⟨fun q c hc => ?_, fun q t h _ => q _ (List.getElem_mem h)⟩
        obtain ⟨t, ht, rfl⟩ := List.getElem_of_mem hc
        exact q t ht (by have := hn.out; omega)
       clear hbo
       cases bo with
       | true =>
        have hH : Holds cs (x : Int) := hall.1 rfl
        have hRx := Lib.hid (show R = .tuple #[.int .i64 (x : Int), .int .i64 (A : Int), .int .i64 0] from by
         obtain ⟨z1, z2⟩ := ch_holds hp.out hH
         rw [hR.out, z1, z2, ← hA.out, Int.emod_eq_of_lt (by omega) (by omega)])
        clear hall hH
        go_wp2_with fail
        exact bodyPost_ret (v := .tuple #[.int .i64 (x : Int), .int .i64 (A : Int), .int .i64 0]) (by simp [results, Tryz.results26, go_sem]) rfl ⟨by rw [hRx.out], hb⟩
       | false =>
        have hH : ¬ Holds cs (x : Int) := fun q => by have := hall.2 q; cases this
        have hno2 := Lib.hid (show ∀ y : Nat, y < x + 1 → ¬ Holds cs (y : Int) from fun y hy => by
         rcases Nat.lt_or_ge y x with g | g
         ·exact hno.out y g
         ·obtain rfl : y = x := by omega
          exact hH)
        clear hall hH hno
        go_wp2_with fail
        go_roundw
        case rel => exact ⟨x + 1, _, by first | rfl | go_num, by omega, by omega, hno2.out, hb⟩
        case measure => simp [intOf] <;> omega
    ·obtain rfl : x = A := by omega
     have k2 : ¬ (x : Int) < (x : Int) := by omega
     have hRx := Lib.hid (show R = .tuple #[.int .i64 0, .int .i64 0, .int .i64 6] from by
      have hz : ∀ y : Int, ¬ Holds cs y := fun y hy => by
       have e1 := Int.emod_nonneg y (show (x : Int) ≠ 0 by omega)
       have e2 := Int.emod_lt_of_pos y (show (0 : Int) < (x : Int) by omega)
       refine hno (y % (x : Int)).toNat (by omega) ?_
       rw [Int.toNat_of_nonneg e1]
       intro c hc
       have hd : (c.2 : Int) ∣ (x : Int) := Int.natCast_dvd_natCast.2 (by rw [hA.out]; exact lcmL_dvd.1 (Nat.dvd_refl _) c hc)
       obtain ⟨k, hk⟩ := (res_mod (show 0 < x by omega) y).2.2
       have e3 : y % (x : Int) - c.1 = (y - c.1) - (x : Int) * k := by omega
       rw [e3]
       exact Int.dvd_sub (hy c hc) (Int.dvd_mul_of_dvd_left hd)
      obtain ⟨z1, z2⟩ := ch_no hp.out hz
      rw [hR.out, z1, z2]; rfl)
     clear hno
     go_wp2_with fail
     exact bodyPost_ret (v := .tuple #[.int .i64 0, .int .i64 0, .int .i64 6]) (by simp [results, Tryz.results26, go_sem]) rfl ⟨by rw [hRx.out], hb⟩
end Go.Proofs.YtloipmieaefcpaaGreatDoor
namespace Go.Proofs.YtloipmieaefcpaaGreatDoor
open Go.RowKit
attribute [local irreducible] lo hs sm s64 c64 d64 b64 mh ml pd pc qd qc val hiB str cmpI srD lz nb isq zl zh zs
theorem infoZ : (Tryz.prog.info? 3).map (fun i => (i.zero, i.size, i.bytes)) = some (some (.int .i64 0), 1, 8) := by kernel_rfl
theorem new_r7 (w : World) : (Instr.alloc 56 true (.tuple #[])).run Tryz.prog w = .ok (.pointer (some ⟨w.heap.size, 0, none⟩)) (w.alloc (.cells #[.int .i64 0, .int .u32 0] 56)) := by
 simp [go_sem, Instr.alloc]
theorem put_r7 (i0 j0 i j : Int) (w : World) (k : Nat) (h : Hd w k [.int .i64 i0, .int .u32 j0]) :
  ∃ w', (Instr.storeAt 56 (.pointer (some ⟨k, 0, none⟩)) (.agg #[.int .i64 i, .int .u32 j])).run Tryz.prog w = .ok () w' ∧ Hd w' k [.int .i64 i, .int .u32 j] ∧ Upd k w w' := by
 have h0 : w.cell? ⟨k, 0, none⟩ = some (.int .i64 i0) := h.cell 0 (by simp)
 have h1 : w.cell? ⟨k, 1, none⟩ = some (.int .u32 j0) := h.cell 1 (by simp)
 have hf := h.frz
 refine ⟨_, ?_, setAll_hd [.int .i64 i, .int .u32 j] 0 w k [] [.int .i64 i0, .int .u32 j0] rfl rfl h, (((Upd.refl k w).setCell 0 _).setCell 1 _)⟩
 simp [go_sem, Instr.storeAt, Instr.sureAddr, h0, h1, hf, setAll]
def DJ (v u : Value) : Prop := ∀ g, v.ownBlock = some g → u.ownBlock = some g → False
/-- Three slices that the call owns, apart from each other. -/
structure Own3 (B : Nat) (w : World) (va vr vm : Value) (na nr nm : Nat) (xs ys zs : List Value) : Prop where
 a : w.ownsRow B 58 5 va na xs
 r : w.ownsRow B 3 1 vr nr ys
 m : w.ownsRow B 3 1 vm nm zs
 d1 : DJ va vr
 d2 : DJ va vm
 d3 : DJ vr vm
theorem ownBelow {w w' : World} {B n sz : Nat} {e : TypeId} {v : Value} {xs : List Value} (h : w.ownsRow B e sz v n xs) (hb : Below w.heap.size w w') : w'.ownsRow B e sz v n xs := by
 refine ⟨h.1, ?_⟩
 rcases h.2 with h1 | ⟨g, cap, cur, h1, h2, h3, h4⟩
 ·exact .inl h1
 ·refine .inr ⟨g, cap, cur, h1, h2, ?_, h4⟩
  rw [hb.block g (h.lt g (by rw [h1]; rfl)).2]; exact h3
theorem Own3.below {B : Nat} {w w' : World} {va vr vm : Value} {na nr nm : Nat} {xs ys zs : List Value} (h : Own3 B w va vr vm na nr nm xs ys zs) (hb : Below w.heap.size w w') : Own3 B w' va vr vm na nr nm xs ys zs :=
 ⟨ownBelow h.a hb, ownBelow h.r hb, ownBelow h.m hb, h.d1, h.d2, h.d3⟩
theorem Own3.nil (B : Nat) (w : World) : Own3 B w (.slice none 0 0) (.slice none 0 0) (.slice none 0 0) 0 0 0 [] [] [] :=
 ⟨World.ownsRow_nil _ _ _ _, World.ownsRow_nil _ _ _ _, World.ownsRow_nil _ _ _ _, (fun g h => by cases h), (fun g h => by cases h), (fun g h => by cases h)⟩
theorem djne {v u : Value} (h : DJ v u) : u.ownBlock = none ∨ u.ownBlock ≠ v.ownBlock := by
 cases e : u.ownBlock with
 | none => exact .inl rfl
 | some g => exact .inr fun q => h g q.symm e
theorem DJ.symm {v u : Value} (h : DJ v u) : DJ u v := fun g a b => h g b a
theorem dj_new {w : World} {B n sz g c cap : Nat} {e : TypeId} {v u : Value} {xs : List Value} (h : DJ v u) (hu : w.ownsRow B e sz u n xs) (hat : v.ownBlock = some g ∨ g = w.heap.size) : DJ (.slice (some ⟨g, 0, none⟩) c cap) u := fun k h1 h2 => by
 have e1 : g = k := Option.some.inj h1
 subst e1
 rcases hat with h3 | h3
 ·exact h g h3 h2
 ·have := (hu.lt g h2).2; omega
theorem Own3.appA {B : Nat} {w w1 : World} {va vr vm : Value} {na nr nm g c cap : Nat} {xs ys zs xs' : List Value} (h : Own3 B w va vr vm na nr nm xs ys zs) (ho : w1.ownsRow B 58 5 (.slice (some ⟨g, 0, none⟩) c cap) c xs') (hg : w.grownBy w1 va.ownBlock) (hat : va.ownBlock = some g ∨ g = w.heap.size) :
  Own3 B w1 (.slice (some ⟨g, 0, none⟩) c cap) vr vm c nr nm xs' ys zs :=
 ⟨ho, h.r.kept hg (djne h.d1), h.m.kept hg (djne h.d2), dj_new h.d1 h.r hat, dj_new h.d2 h.m hat, h.d3⟩
theorem Own3.appR {B : Nat} {w w1 : World} {va vr vm : Value} {na nr nm g c cap : Nat} {xs ys zs ys' : List Value} (h : Own3 B w va vr vm na nr nm xs ys zs) (ho : w1.ownsRow B 3 1 (.slice (some ⟨g, 0, none⟩) c cap) c ys') (hg : w.grownBy w1 vr.ownBlock) (hat : vr.ownBlock = some g ∨ g = w.heap.size) :
  Own3 B w1 va (.slice (some ⟨g, 0, none⟩) c cap) vm na c nm xs ys' zs :=
 ⟨h.a.kept hg (djne h.d1.symm), ho, h.m.kept hg (djne h.d3), (dj_new h.d1.symm h.a hat).symm, h.d2, dj_new h.d3 h.m hat⟩
theorem Own3.appM {B : Nat} {w w1 : World} {va vr vm : Value} {na nr nm g c cap : Nat} {xs ys zs zs' : List Value} (h : Own3 B w va vr vm na nr nm xs ys zs) (ho : w1.ownsRow B 3 1 (.slice (some ⟨g, 0, none⟩) c cap) c zs') (hg : w.grownBy w1 vm.ownBlock) (hat : vm.ownBlock = some g ∨ g = w.heap.size) :
  Own3 B w1 va vr (.slice (some ⟨g, 0, none⟩) c cap) na nr c xs ys zs' :=
 ⟨h.a.kept hg (djne h.d2.symm), h.r.kept hg (djne h.d3.symm), ho, h.d1, (dj_new h.d2.symm h.a hat).symm, (dj_new h.d3.symm h.r hat).symm⟩
/-- None of the three lies in the box k. -/
structure NB3 (va vr vm : Value) (k : Nat) : Prop where
 a : va.ownBlock ≠ some k
 r : vr.ownBlock ≠ some k
 m : vm.ownBlock ≠ some k
theorem nb_new {v : Value} {g k H c cap : Nat} (h : v.ownBlock ≠ some k) (hat : v.ownBlock = some g ∨ g = H) (hk : k < H) : (Value.slice (some ⟨g, 0, none⟩) c cap).ownBlock ≠ some k := fun e => by
 have e1 : g = k := Option.some.inj e
 subst e1
 rcases hat with h3 | h3
 ·exact h h3
 ·omega
theorem GL.grownP {w w1 w2 : World} {L : List (Nat × List Value)} {row : Option Nat} (h : GL w w1 L) (hg : w1.grownBy w2 row) (hr : ∀ k, row = some k → w.heap.size ≤ k) (hne : ∀ p ∈ L, row ≠ some p.1) : GL w w2 L := by
 refine ⟨h.bl.grown hg h.bl.size hr, fun p hp => ⟨(h.all p hp).1, ?_⟩, h.nd⟩
 have hd := (h.all p hp).2
 have hbl := hg.block p.1 hd.lt (fun e => hne p hp e.symm)
 refine ⟨fun i hi => (World.cell?_of_block (a := ⟨p.1, i, none⟩) hbl).trans (hd.cell i hi), fun i => ?_, Nat.lt_of_lt_of_le hd.lt hg.size, ?_⟩
 ·have := hd.frz i
  unfold World.frozen? at this ⊢
  simp only at this ⊢
  rw [hbl]; exact this
 ·obtain ⟨arr, t, h1, h2⟩ := hd.row
  exact ⟨arr, t, by rw [hbl]; exact h1, h2⟩
theorem is_of_own {α : Type} {f : α → Int} {w : World} {B n : Nat} {v : Value} {l : List α} (h : w.ownsRow B 3 1 v n (l.map fun x => Value.int .i64 (f x))) (hn : l.length = n) : ∃ ao c, v = .slice ao n c ∧ (0 < n → ∃ g, ao = some ⟨g, 0, none⟩ ∧ g < w.heap.size ∧ ∀ i (h : i < l.length), w.cell? ⟨g, i, none⟩ = some (.int .i64 (f l[i]))) := by
 rcases Nat.eq_zero_or_pos n with h0 | h0
 ·rcases h.2 with ⟨h1, h2⟩ | ⟨g, cap, cur, h1, h2, h3, h4⟩
  ·exact ⟨none, 0, by rw [h1, h0], fun q => by omega⟩
  ·exact ⟨_, _, h1, fun q => by omega⟩
 ·obtain ⟨g, cap, rfl, hb, hlt⟩ := h.form h0
  refine ⟨_, _, rfl, fun _ => ⟨g, rfl, hlt, fun i hi => ?_⟩⟩
  have := World.ownsRow.cells h (g := g) rfl i (.int .i64 (f l[i])) (by rw [List.getElem?_map, List.getElem?_eq_getElem hi]; rfl)
  rw [add0P] at this
  exact this
set_option maxHeartbeats 16000000 in
set_option maxRecDepth 100000 in
theorem pchl_w (ps : List (Int × Int)) (cs : List (Int × Nat)) (ao : Option Addr) (n c : Nat) (cz ce : Int) (cm : Nat) (hlen : ps.length = n) (hlc : cs.length = n) (hn4 : n ≤ 4)
  (hcs : ∀ i (h : i < ps.length) (h' : i < cs.length), ps[i].1.tmod 101 = cs[i].1 ∧ ps[i].2 % 13 = (cs[i].2 : Int) ∧ 0 ≤ ps[i].2 ∧ cs[i].2 < 13)
  (HR : ∀ i (h' : i < cs.length) (w : World), Calls Tryz.prog 24 #[.agg #[.int .i64 cs[i].1, .int .u32 (cs[i].2 : Int)]] w fun xe w' => xe = .returned (frV cs[i].1 cs[i].2) ∧ Below w.heap.size w w')
  (HC : ∀ (v : Value) (w : World), SlR w v cs → Calls Tryz.prog 25 #[v] w fun xe w' => xe = .returned (.tuple #[frV cz cm, .int .i64 ce]) ∧ Below w.heap.size w w')
  (HD : ∀ (a0 a1 : Option Addr) (c0 c1 : Nat) (w : World), (0 < n → ∃ g, a0 = some ⟨g, 0, none⟩ ∧ g < w.heap.size ∧ ∀ i (h : i < cs.length), w.cell? ⟨g, i, none⟩ = some (.int .i64 cs[i].1)) → (0 < n → ∃ g, a1 = some ⟨g, 0, none⟩ ∧ g < w.heap.size ∧ ∀ i (h : i < cs.length), w.cell? ⟨g, i, none⟩ = some (.int .i64 (cs[i].2 : Int))) → Calls Tryz.prog 26 #[.slice a0 n c0, .slice a1 n c1] w fun xe w' => xe = .returned (.tuple #[.int .i64 cz, .int .i64 (cm : Int), .int .i64 ce]) ∧ Below w.heap.size w w')
  (HZ : ∀ w, Calls Tryz.prog 11 #[.int .i64 cz] w fun xe w' => xe = .returned (intV cz) ∧ Below w.heap.size w w') (HN : ∀ w, Calls Tryz.prog 12 #[.int .u64 (cm : Int)] w fun xe w' => xe = .returned (natV cm) ∧ Below w.heap.size w w') (hcm : (cm : Int) % 18446744073709551616 = (cm : Int))
  (HW : ∀ w, Tab w → Calls Tryz.prog 15 #[] w fun xe w' => xe = .returned (.bool true) ∧ Below w.heap.size w w') (w : World) (htab : Tab w) (hq : 0 < n → ∃ a, ao = some a ∧ PRs w a ps) :
  Calls Tryz.prog 5 #[.slice ao n c] w fun xe w' => xe = .returned (.bool true) ∧ Below w.heap.size w w' := by
 obtain ⟨iF, hiF, hiF0, hiF1, hiF2⟩ := info_parts infoS
 obtain ⟨iZ, hiZ, hiZ0, hiZ1, hiZ2⟩ := info_parts infoZ
 replace hiF := Lib.hid hiF
 replace hiF0 := Lib.hid hiF0
 replace hiF1 := Lib.hid hiF1
 replace hiF2 := Lib.hid hiF2
 replace hiZ := Lib.hid hiZ
 replace hiZ0 := Lib.hid hiZ0
 replace hiZ1 := Lib.hid hiZ1
 replace hiZ2 := Lib.hid hiZ2
 replace hlen := Lib.hid hlen
 replace hlc := Lib.hid hlc
 replace hn4 := Lib.hid hn4
 replace hcs := Lib.hid hcs
 replace HR := Lib.hid HR
 replace HC := Lib.hid HC
 replace HD := Lib.hid HD
 replace HZ := Lib.hid HZ
 replace HN := Lib.hid HN
 replace HW := Lib.hid HW
 replace hq := Lib.hid hq
 have hL0 : GL w w [] := GL.start w
 have l0 : decide ((4 : Int) < (n : Int)) = false := decide_eq_false (by have := hn4.out; omega)
 have k0 : decide (4 < n) = false := decide_eq_false (by have := hn4.out; omega)
 go_enter Tryz.func5, Tryz.ntmps5
 go_wp2_with fail
 go_loopw [3, 4, 5, 6] (fun va vr vm z wr => ∃ (i : Nat) (zi : Int) (ua ur um : Value), ua = va ∧ ur = vr ∧ um = vm ∧ i ≤ n ∧ z = .int .i64 zi ∧ zi = (i : Int) ∧ w.heap.size ≤ wr.heap.size ∧ Own3 w.heap.size wr ua ur um i i i (rsCs (cs.take i)) ((cs.map fun c => Value.int .i64 c.1).take i) ((cs.map fun c => Value.int .i64 (c.2 : Int)).take i) ∧ GL w wr []) (fun _ _ _ z _ => n - (intOf z).toNat)
 case atStart => exact ⟨0, _, _, _, _, rfl, rfl, rfl, Nat.zero_le _, rfl, rfl, Nat.le_refl _, Own3.nil _ _, hL0⟩
 case round =>
  clear hL0
  obtain ⟨i, zi, va, vr, vm, rfl, rfl, rfl, hi1, rfl, hzi, hE, hO, hL0⟩ := hrel
  subst hzi
  by_cases hin : i < n
  ·obtain ⟨a, rfl, hqa⟩ := hq.out (by omega)
   have hl1 := hlen.out
   have hl2 := hlc.out
   have hl3 := hn4.out
   have k1 : (i : Int) < (n : Int) := by omega
   have k2 : (0 : Int) ≤ (i : Int) := Int.natCast_nonneg _
   have kb : (i : Int) ≤ 4 := by omega
   have hQw := hqa.below hL0.bl
   have c0 := hQw.c0 i (by omega)
   have c1 := hQw.c1 i (by omega)
   have hblk := hQw.blk
   rw [add_oneP] at c1
   obtain ⟨hx, hy, hy1, hm13⟩ := hcs.out i (by omega) (by omega)
   have HRi := Lib.hid (HR.out i (by omega))
   have htk := Lib.hid (show cs.take (i + 1) = cs.take i ++ [cs[i]'(by omega)] from take_succC (by omega))
   have htr := Lib.hid (show (cs.map fun c => Value.int .i64 c.1).take (i + 1) = (cs.map fun c => Value.int .i64 c.1).take i ++ [Value.int .i64 (cs[i]'(by omega)).1] from by rw [List.take_succ_eq_append_getElem (by rw [List.length_map]; omega), List.getElem_map])
   have htm := Lib.hid (show (cs.map fun c => Value.int .i64 (c.2 : Int)).take (i + 1) = (cs.map fun c => Value.int .i64 (c.2 : Int)).take i ++ [Value.int .i64 ((cs[i]'(by omega)).2 : Int)] from by rw [List.take_succ_eq_append_getElem (by rw [List.length_map]; omega), List.getElem_map])
   obtain ⟨u, hu⟩ : ∃ u, u = (ps[i]'(by omega)).1 := ⟨_, rfl⟩
   obtain ⟨v, hv⟩ : ∃ v, v = (ps[i]'(by omega)).2 := ⟨_, rfl⟩
   rw [← hu] at c0 hx
   rw [← hv] at c1 hy hy1
   obtain ⟨x, hx0⟩ : ∃ x, x = (cs[i]'(by omega)).1 := ⟨_, rfl⟩
   obtain ⟨m, hm0⟩ : ∃ m, m = (cs[i]'(by omega)).2 := ⟨_, rfl⟩
   rw [← hx0] at HRi hx
   rw [← hm0] at HRi hy hm13
   have hpair := Lib.hid (show cs[i]'(by omega) = (x, m) from by rw [hx0, hm0])
   replace hy : v.tmod 13 = (m : Int) := by rw [Int.tmod_eq_emod_of_nonneg hy1]; exact hy
   clear hu hv hx0 hm0 hqa hQw hy1
   have hm64 : wrap64 (m : Int) = (m : Int) := w64 (by omega) (by omega)
   replace hE := Lib.hid hE
   replace hO := Lib.hid hO
   have hlen3 := Lib.hid (show (cs.take i).length = i from by rw [List.length_take]; omega)
   go_upto_region 8 with fail
   refine region_gh (by kernel_rfl) (by kernel_rfl) ?_
   refine lex_seg (gl := []) 13 (by kernel_rfl) ?_
   intro α iα F hF1 hF2
   have hq0 : ∀ y, (F y).cell? (a.add (i * 2)) = some (.int .i64 u) := fun y => ((below_drew (hF1 y)).cell (p := a.add (i * 2)) (by rw [add_blkP]; exact hblk)).trans c0
   have hq1 : ∀ y, (F y).cell? ⟨(a.add (i * 2)).block, (a.add (i * 2)).off + 1, none⟩ = some (.int .u32 v) := fun y => ((below_drew (hF1 y)).cell (p := ⟨(a.add (i * 2)).block, (a.add (i * 2)).off + 1, none⟩) (by show (a.add (i * 2)).block < _; rw [add_blkP]; exact hblk)).trans c1
   simp only [List.take_succ_cons, List.take_zero, List.drop_succ_cons, List.drop_zero, List.take_nil, List.drop_nil]
   repeat (go_big_quiet_step (first | fail))
   refine wpQuiet_nil ?_
   clear hq0 hq1 hF1 hF2 iα F α
   refine lex_new [.int .i64 0, .int .u32 0] 7 56 56 rfl rfl (of_decide_eq_true (by kernel_rfl)) (by kernel_rfl) rfl new_r7 ?_
   simp only [Act.put, List.setIfInBounds_toArray, List.set_cons_succ, List.set_cons_zero]
   refine lex_put [.int .i64 x, .int .u32 (m : Int)] [.int .i64 0, .int .u32 0] 7 56 (.tmp 35) rfl (by kernel_rfl) (by simp [toG, upd]) rfl (fun w k h => put_r7 _ _ _ _ w k h) ?_
   simp only [Act.put]
   refine lexG_nil ?_
   intro κ w0 hS
   have hG0 := (GL.start wr).ghs hS [(7, [.int .i64 x, .int .u32 (m : Int)])] (by simp) (by intro p hp; simp only [List.mem_cons, List.not_mem_nil, or_false] at hp; rcases hp with rfl; exact ⟨_, by simp only [toG, upd]; rfl⟩)
   replace hL0 := hL0.ghs hS [(7, [.int .i64 x, .int .u32 (m : Int)])] (by simp) (by intro p hp; simp only [List.mem_cons, List.not_mem_nil, or_false] at hp; rcases hp with rfl; exact ⟨_, by simp only [toG, upd]; rfl⟩)
   simp only [List.map_cons, List.map_nil, List.cons_append, List.nil_append] at hL0 hG0
   simp only [over_toG, over_nil, Act.put, List.setIfInBounds_toArray, List.set_cons_succ, List.set_cons_zero]
   clear hS
   generalize κ 7 = k7 at *
   have hk7a := (hG0.all _ List.mem_cons_self).1
   have hk7 := Lib.hid (hL0.get _ _ List.mem_cons_self).lt
   have hnb := Lib.hid (show NB3 va vr vm k7 from ⟨fun e => by have h1 := (hO.out.a.lt _ e).2; simp only at hk7a; omega, fun e => by have h1 := (hO.out.r.lt _ e).2; simp only at hk7a; omega, fun e => by have h1 := (hO.out.m.lt _ e).2; simp only at hk7a; omega⟩)
   replace hO := Lib.hid (hO.out.below hG0.bl)
   replace hE := Lib.hid (Nat.le_trans hE.out hG0.bl.size)
   clear hG0 hk7a c0 c1 hblk hx hy
   have hN0 := cells_of _ 0 [] rfl (hL0.get _ _ List.mem_cons_self)
   simp only [cellsF, and_true, Nat.zero_add, Nat.reduceAdd] at hN0
   go_wp2_with fail
   clear hN0
   with_reducible refine Calls.mono (HRi.out _) ?_
   rintro e w1 ⟨rfl, hb⟩
   replace hL0 := hL0.call hb
   replace hO := Lib.hid (hO.out.below hb)
   replace hE := Lib.hid (Nat.le_trans hE.out hb.size)
   replace hk7 := Lib.hid (Nat.lt_of_lt_of_le hk7.out hb.size)
   clear hb
   replace hL0 := hL0.new rfl [.int .u64 ((zl x : Nat) : Int), .string (zh x), .bool (zs x), .int .u64 ((lo m : Nat) : Int), .string (hs m)] 58
   generalize hweq : (w1.alloc (.cells #[.int .u64 ((zl x : Nat) : Int), .string (zh x), .bool (zs x), .int .u64 ((lo m : Nat) : Int), .string (hs m)] 58)) = w2 at hL0
   replace hO := Lib.hid (hO.out.below (show Below w1.heap.size w1 w2 by rw [← hweq]; exact (Below.refl _ _).alloc (Nat.le_refl _) _))
   replace hE := Lib.hid (Nat.le_trans hE.out (show w1.heap.size ≤ w2.heap.size by rw [← hweq, World.size_alloc]; omega))
   replace hk7 := Lib.hid (Nat.lt_of_lt_of_le hk7.out (show w1.heap.size ≤ w2.heap.size by rw [← hweq, World.size_alloc]; omega))
   have hnw := Lib.hid (hd_newsP (hL0.get _ _ List.mem_cons_self))
   have hne := Lib.hid (show ∀ u ∈ ([.int .u64 ((zl x : Nat) : Int), .string (zh x), .bool (zs x), .int .u64 ((lo m : Nat) : Int), .string (hs m)] : List Value), u.oneCell' = true from rsC_one (x, m))
   go_wp2_with (at_builtin; refine wpList_append_lies _ rfl _ _ 52 rfl w.heap.size 58 iF (.agg #[.int .u64 0, .string ⟨#[]⟩, .bool false, .int .u64 0, .string ⟨#[]⟩]) 5 56 Tryz.underlying52 hiF.out hiF0.out hiF1.out hiF2.out rfl (by decide) _ _ _ rfl hO.out.a ⟨w1.heap.size, 0, none⟩ 1 1 [.int .u64 ((zl x : Nat) : Int), .string (zh x), .bool (zs x), .int .u64 ((lo m : Nat) : Int), .string (hs m)] rfl rfl hnw.out hne.out (by decide) (by unfold maxLen; omega) (by omega) hE.out _ rfl ?_)
   intro ga capa w3 hown' hgrow hat hlt'
   replace hL0 := (hL0.weak (List.Sublist.cons _ (List.Sublist.refl _))).grownP hgrow (fun j hj => (hO.out.a.lt j hj).1) (fun p hp => by rw [List.mem_singleton.1 hp]; exact hnb.out.a)
   replace hnb := Lib.hid (show NB3 (.slice (some ⟨ga, 0, none⟩) (i + 1) capa) vr vm k7 from ⟨nb_new hnb.out.a hat hk7.out, hnb.out.r, hnb.out.m⟩)
   replace hO := Lib.hid (hO.out.appA hown' hgrow hat)
   replace hE := Lib.hid (Nat.le_trans hE.out hgrow.size)
   replace hk7 := Lib.hid (Nat.lt_of_lt_of_le hk7.out hgrow.size)
   clear hown' hgrow hat hlt' hnw hne hweq
   have hN0 := cells_of _ 0 [] rfl (hL0.get _ _ List.mem_cons_self)
   simp only [cellsF, and_true, Nat.zero_add, Nat.reduceAdd] at hN0
   replace hL0 := hL0.new rfl [.int .i64 x] 3
   generalize hweq : (w3.alloc (.cells #[.int .i64 x] 3)) = w4 at hL0
   replace hO := Lib.hid (hO.out.below (show Below w3.heap.size w3 w4 by rw [← hweq]; exact (Below.refl _ _).alloc (Nat.le_refl _) _))
   replace hE := Lib.hid (Nat.le_trans hE.out (show w3.heap.size ≤ w4.heap.size by rw [← hweq, World.size_alloc]; omega))
   replace hk7 := Lib.hid (Nat.lt_of_lt_of_le hk7.out (show w3.heap.size ≤ w4.heap.size by rw [← hweq, World.size_alloc]; omega))
   have hnw := Lib.hid (hd_newsP (hL0.get _ _ List.mem_cons_self))
   have hne := Lib.hid (show ∀ u ∈ ([.int .i64 x] : List Value), u.oneCell' = true from fun u hu => by rw [List.mem_singleton.1 hu]; rfl)
   go_wp2_with (at_builtin; refine wpList_append_lies _ rfl _ _ 53 rfl w.heap.size 3 iZ (.int .i64 0) 1 8 Tryz.underlying53 hiZ.out hiZ0.out hiZ1.out hiZ2.out rfl (by decide) _ _ _ rfl hO.out.r ⟨w3.heap.size, 0, none⟩ 1 1 [.int .i64 x] rfl rfl hnw.out hne.out (by decide) (by unfold maxLen; omega) (by omega) hE.out _ rfl ?_)
   intro gr capr w5 hown' hgrow hat hlt'
   replace hL0 := (hL0.weak (List.Sublist.cons _ (List.Sublist.refl _))).grownP hgrow (fun j hj => (hO.out.r.lt j hj).1) (fun p hp => by rw [List.mem_singleton.1 hp]; exact hnb.out.r)
   replace hnb := Lib.hid (show NB3 (.slice (some ⟨ga, 0, none⟩) (i + 1) capa) (.slice (some ⟨gr, 0, none⟩) (i + 1) capr) vm k7 from ⟨hnb.out.a, nb_new hnb.out.r hat hk7.out, hnb.out.m⟩)
   replace hO := Lib.hid (hO.out.appR hown' hgrow hat)
   replace hE := Lib.hid (Nat.le_trans hE.out hgrow.size)
   replace hk7 := Lib.hid (Nat.lt_of_lt_of_le hk7.out hgrow.size)
   clear hown' hgrow hat hlt' hnw hne hweq
   clear hN0
   have hN0 := cells_of _ 0 [] rfl (hL0.get _ _ List.mem_cons_self)
   simp only [cellsF, and_true, Nat.zero_add, Nat.reduceAdd] at hN0
   replace hL0 := hL0.new rfl [.int .i64 (m : Int)] 3
   generalize hweq : (w5.alloc (.cells #[.int .i64 (m : Int)] 3)) = w6 at hL0
   replace hO := Lib.hid (hO.out.below (show Below w5.heap.size w5 w6 by rw [← hweq]; exact (Below.refl _ _).alloc (Nat.le_refl _) _))
   replace hE := Lib.hid (Nat.le_trans hE.out (show w5.heap.size ≤ w6.heap.size by rw [← hweq, World.size_alloc]; omega))
   replace hk7 := Lib.hid (Nat.lt_of_lt_of_le hk7.out (show w5.heap.size ≤ w6.heap.size by rw [← hweq, World.size_alloc]; omega))
   have hnw := Lib.hid (hd_newsP (hL0.get _ _ List.mem_cons_self))
   have hne := Lib.hid (show ∀ u ∈ ([.int .i64 (m : Int)] : List Value), u.oneCell' = true from fun u hu => by rw [List.mem_singleton.1 hu]; rfl)
   go_wp2_with (at_builtin; refine wpList_append_lies _ rfl _ _ 53 rfl w.heap.size 3 iZ (.int .i64 0) 1 8 Tryz.underlying53 hiZ.out hiZ0.out hiZ1.out hiZ2.out rfl (by decide) _ _ _ rfl hO.out.m ⟨w5.heap.size, 0, none⟩ 1 1 [.int .i64 (m : Int)] rfl rfl hnw.out hne.out (by decide) (by unfold maxLen; omega) (by omega) hE.out _ rfl ?_)
   intro gm capm w7 hown' hgrow hat hlt'
   replace hL0 := (hL0.weak (List.Sublist.cons _ (List.Sublist.refl _))).grownP hgrow (fun j hj => (hO.out.m.lt j hj).1) (fun p hp => by rw [List.mem_singleton.1 hp]; exact hnb.out.m)
   replace hnb := Lib.hid (show NB3 (.slice (some ⟨ga, 0, none⟩) (i + 1) capa) (.slice (some ⟨gr, 0, none⟩) (i + 1) capr) (.slice (some ⟨gm, 0, none⟩) (i + 1) capm) k7 from ⟨hnb.out.a, hnb.out.r, nb_new hnb.out.m hat hk7.out⟩)
   replace hO := Lib.hid (hO.out.appM hown' hgrow hat)
   replace hE := Lib.hid (Nat.le_trans hE.out hgrow.size)
   replace hk7 := Lib.hid (Nat.lt_of_lt_of_le hk7.out hgrow.size)
   clear hown' hgrow hat hlt' hnw hne hweq
   clear hN0
   go_wp2_with fail
   go_roundw
   case rel =>
    refine ⟨i + 1, _, _, _, _, rfl, rfl, rfl, by omega, by first | rfl | go_num, by omega, hE.out, ?_, hL0.weak (List.Sublist.cons _ (List.Sublist.refl _))⟩
    have h9 := hO.out
    rw [htk.out, rsCs_snoc, htr.out, htm.out, hpair.out]
    exact h9
   case measure => simp [intOf] <;> omega
  ·obtain rfl : i = n := by omega
   have k1 : ¬ (i : Int) < (i : Int) := by omega
   rw [List.take_of_length_le (Nat.le_of_eq hlc.out), List.take_of_length_le (by rw [List.length_map]; exact Nat.le_of_eq hlc.out), List.take_of_length_le (by rw [List.length_map]; exact Nat.le_of_eq hlc.out)] at hO
   have hSl := ownR_slr hO.a hlc.out.symm
   obtain ⟨sa, sn, sc, rfl, -⟩ := slr_form hSl
   obtain ⟨a0, c0, rfl, hs0⟩ := is_of_own hO.r hlc.out
   obtain ⟨a1, c1, rfl, hs1⟩ := is_of_own (f := fun c : Int × Nat => (c.2 : Int)) hO.m hlc.out
   replace hSl := Lib.hid hSl
   replace hs0 := Lib.hid hs0
   replace hs1 := Lib.hid hs1
   clear hO hin hi1
   go_wp2_with fail
   with_reducible refine Calls.mono (HC.out _ _ hSl.out) ?_
   rintro e w1 ⟨rfl, hb⟩
   have hd0 := Lib.hid (show 0 < i → ∃ g, a0 = some ⟨g, 0, none⟩ ∧ g < w1.heap.size ∧ ∀ j (h : j < cs.length), w1.cell? ⟨g, j, none⟩ = some (.int .i64 cs[j].1) from fun h => by
    obtain ⟨g, h1, h2, h3⟩ := hs0.out h
    exact ⟨g, h1, Nat.lt_of_lt_of_le h2 hb.size, fun j hj => (hb.cell (p := ⟨g, j, none⟩) h2).trans (h3 j hj)⟩)
   have hd1 := Lib.hid (show 0 < i → ∃ g, a1 = some ⟨g, 0, none⟩ ∧ g < w1.heap.size ∧ ∀ j (h : j < cs.length), w1.cell? ⟨g, j, none⟩ = some (.int .i64 (cs[j].2 : Int)) from fun h => by
    obtain ⟨g, h1, h2, h3⟩ := hs1.out h
    exact ⟨g, h1, Nat.lt_of_lt_of_le h2 hb.size, fun j hj => (hb.cell (p := ⟨g, j, none⟩) h2).trans (h3 j hj)⟩)
   replace hL0 := hL0.call hb
   clear hb hSl hs0 hs1
   replace hL0 := hL0.new rfl [.int .u64 ((zl cz : Nat) : Int), .string (zh cz), .bool (zs cz), .int .u64 ((lo cm : Nat) : Int), .string (hs cm)] 58
   generalize hweq : (w1.alloc (.cells #[.int .u64 ((zl cz : Nat) : Int), .string (zh cz), .bool (zs cz), .int .u64 ((lo cm : Nat) : Int), .string (hs cm)] 58)) = w2 at hL0
   have hbw : Below w1.heap.size w1 w2 := by rw [← hweq]; exact (Below.refl _ _).alloc (Nat.le_refl _) _
   have he0 := Lib.hid (show 0 < i → ∃ g, a0 = some ⟨g, 0, none⟩ ∧ g < w2.heap.size ∧ ∀ j (h : j < cs.length), w2.cell? ⟨g, j, none⟩ = some (.int .i64 cs[j].1) from fun h => by
    obtain ⟨g, h1, h2, h3⟩ := hd0.out h
    exact ⟨g, h1, Nat.lt_of_lt_of_le h2 hbw.size, fun j hj => (hbw.cell (p := ⟨g, j, none⟩) h2).trans (h3 j hj)⟩)
   have he1 := Lib.hid (show 0 < i → ∃ g, a1 = some ⟨g, 0, none⟩ ∧ g < w2.heap.size ∧ ∀ j (h : j < cs.length), w2.cell? ⟨g, j, none⟩ = some (.int .i64 (cs[j].2 : Int)) from fun h => by
    obtain ⟨g, h1, h2, h3⟩ := hd1.out h
    exact ⟨g, h1, Nat.lt_of_lt_of_le h2 hbw.size, fun j hj => (hbw.cell (p := ⟨g, j, none⟩) h2).trans (h3 j hj)⟩)
   clear hd0 hd1 hbw
   go_wp2_with fail
   with_reducible refine Calls.mono (HD.out _ _ _ _ _ he0.out he1.out) ?_
   rintro e w3 ⟨rfl, hb⟩
   replace hL0 := hL0.call hb
   clear hb he0 he1 hweq
   go_upto_region 14 with fail
   have ht := htab.below hL0.bl
   obtain ⟨α, iα, F, hF1, hF2⟩ := cls w3
   have hq0 := cls_box hF1 hL0 _ _ List.mem_cons_self
   simp only [cellsC, and_true, Nat.zero_add, Nat.reduceAdd] at hq0
   refine region_qs 17 (C := fun w' => ∃ x, w' = F x) (by kernel_rfl) (by kernel_rfl) (cls_drew hF2) ?_
   simp only [List.take_succ_cons, List.take_zero, List.drop_succ_cons, List.drop_zero, List.take_nil, List.drop_nil]
   repeat (go_big_quiet_step (first | fail | (go_at_call 11; with_reducible exact cls_call hF1 hF2 HZ.out _) | (go_at_call 12; with_reducible exact cls_call hF1 hF2 HN.out _) | (go_at_call 15; with_reducible exact cls_callT hF1 hF2 ht HW.out _)))
   refine wpQuiet_nil ?_
   rintro wq ⟨xq, rfl⟩
   replace hL0 := hL0.call (hF1 xq)
   clear hq0 hF2 ht
   generalize F xq = x4 at hL0 ⊢
   clear hF1 xq iα F α
   go_wp2_with fail
   exact bodyPost_ret (v := .bool true) (by simp [results, Tryz.results5, go_sem]) rfl ⟨rfl, hL0.bl⟩
end Go.Proofs.YtloipmieaefcpaaGreatDoor
namespace Go.Proofs.YtloipmieaefcpaaGreatDoor
open Go.RowKit
attribute [local irreducible] lo hs sm s64 c64 d64 b64 mh ml pd pc qd qc val hiB str cmpI srD lz nb isq zl zh zs fe
set_option maxHeartbeats 4000000 in
set_option maxRecDepth 100000 in
theorem pchl_big (ao : Option Addr) (n c : Nat) (KT : World → Prop) (hKT : Keeps KT) (HW : ∀ w, KT w → Calls Tryz.prog 15 #[] w fun xe w' => xe = .returned (.bool true) ∧ Below w.heap.size w w') (l0 : decide ((4 : Int) < (n : Int)) = true) (k0 : decide (4 < n) = true) (w : World) (kKT : KT w) :
  Calls Tryz.prog 5 #[.slice ao n c] w fun xe w' => xe = .returned (.bool true) ∧ Below w.heap.size w w' := by
 have hL0 : GL w w [] := GL.start w
 replace hKT := Lib.hid hKT
 replace HW := Lib.hid HW
 go_enter Tryz.func5, Tryz.ntmps5
 go_wp2_with fail
 with_reducible refine Calls.mono (HW.out _ (hKT.out.at hL0.bl kKT)) ?_
 rintro e x1 ⟨rfl, hb⟩
 replace hL0 := hL0.call hb
 clear hb
 go_wp2_with fail
 exact bodyPost_ret (v := .bool true) (by simp [results, Tryz.results5, go_sem]) rfl ⟨rfl, hL0.bl⟩
end Go.Proofs.YtloipmieaefcpaaGreatDoor
namespace Go.Proofs.YtloipmieaefcpaaGreatDoor
open Go.RowKit
attribute [local irreducible] lo hs sm s64 c64 d64 b64 mh ml pd pc qd qc val hiB str cmpI srD lz nb isq zl zh zs
/-- The small congruences of the law. -/
def csOf (ps : List (Int × Int)) : List (Int × Nat) := ps.map fun p => (p.1.tmod 101, (p.2 % 13).toNat)
theorem csOf_len (ps : List (Int × Int)) : (csOf ps).length = ps.length := by unfold csOf; rw [List.length_map]
theorem csOf_get (ps : List (Int × Int)) (i : Nat) (h : i < ps.length) (h' : i < (csOf ps).length) : (csOf ps)[i]'h' = ((ps[i]'h).1.tmod 101, ((ps[i]'h).2 % 13).toNat) := List.getElem_map (fun p : Int × Int => (p.1.tmod 101, (p.2 % 13).toNat))
theorem tmod_abs2 (a : Int) (k : Nat) (hk : 0 < k) : (a.tmod (k : Int)).natAbs < k := by
 have e := Int.natAbs_tmod a (k : Int)
 rw [Int.natAbs_natCast] at e
 rw [e]; exact Nat.mod_lt _ hk
theorem csOf_small {ps : List (Int × Int)} {c : Int × Nat} (h : c ∈ csOf ps) : (-200 ≤ c.1 ∧ c.1 ≤ 200) ∧ c.2 ≤ 12 := by
 unfold csOf at h
 obtain ⟨p, -, rfl⟩ := List.mem_map.1 h
 have h1 := tmod_abs2 p.1 101 (by decide)
 rw [show ((101 : Nat) : Int) = 101 from rfl] at h1
 have h2 := Int.emod_lt_of_pos p.2 (show (0 : Int) < 13 by decide)
 exact ⟨by show -200 ≤ p.1.tmod 101 ∧ p.1.tmod 101 ≤ 200; omega, by show (p.2 % 13).toNat ≤ 12; omega⟩
theorem chV_small {cs : List (Int × Nat)} (hl : cs.length ≤ 4) (h : ∀ c ∈ cs, c.2 ≤ 12) : 0 ≤ (chV cs).1 ∧ (chV cs).1 ≤ 20736 ∧ (chV cs).2 ≤ 20736 := by
 by_cases hz : anyZ cs = true
 ·rw [(ch_zero hz).1]; exact ⟨by decide, by decide, by decide⟩
 ·have hz2 : anyZ cs = false := by cases e : anyZ cs <;> simp_all
  have hp := anyZ_false.1 hz2
  obtain ⟨g1, g2⟩ := lcmL_le 4 (fun c hc => ⟨hp c hc, h c hc⟩) hl
  rcases ch_any cs hp with ⟨hj, -⟩ | ⟨-, e, -⟩
  ·have h1 : (chV cs).2 = lcmL cs := hj.m
   have h2 := hj.lo
   have h3 := hj.hi
   have h4 : lcmL cs ≤ 20736 := g2
   omega
  ·rw [e]; exact ⟨by decide, by decide, by decide⟩
theorem pchl_any (ps : List (Int × Int)) (ao : Option Addr) (n c : Nat) (hlen : ps.length = n) (hr : ∀ p ∈ ps, (-9223372036854775808 ≤ p.1 ∧ p.1 < 9223372036854775808) ∧ 0 ≤ p.2 ∧ p.2 < 4294967296) (w : World) (hT : Tab w) (hq : 0 < n → ∃ a, ao = some a ∧ PRs w a ps) :
  Calls Tryz.prog 5 #[.slice ao n c] w fun xe w' => xe = .returned (.bool true) ∧ Below w.heap.size w w' := by
 by_cases h4 : 4 < n
 ·exact pchl_big ao n c Tab Keeps.tab pworks_any (decide_eq_true (by omega)) (decide_eq_true h4) w hT
 have hlc := csOf_len ps
 have hsm : ∀ c ∈ csOf ps, dI c.1 ≤ 1 ∧ (digs c.2).length ≤ 1 := fun c hc => by
  obtain ⟨⟨g1, g2⟩, g3⟩ := csOf_small hc
  exact ⟨i64_dI (by omega) (by omega), digs_length_iff.2 (by rw [Nat.pow_one]; unfold Bs; omega)⟩
 obtain ⟨z1, z2, z3⟩ := chV_small (cs := csOf ps) (by omega) (fun c hc => (csOf_small hc).2)
 refine pchl_w ps (csOf ps) ao n c (chV (csOf ps)).1 (chE (csOf ps)) (chV (csOf ps)).2 hlen (by omega) (by omega) (fun i h h' => ?_) (fun i h' w => ?_) (fun v w hv => chinP (csOf ps) 1 (by omega) (by omega) hsm v w hv)
  (fun a0 a1 c0 c1 w q0 q1 => rchin_any (csOf ps) n (by omega) (by omega) (fun c hc => csOf_small hc) a0 a1 c0 c1 _ rfl w q0 q1) (fun w => ofI _ (by omega) (by omega) w) (fun w => of_val _ _ rfl (by unfold Bs; omega) w) (by omega) pworks_any w hT hq
 ·have hp := hr _ (List.getElem_mem h)
  rw [csOf_get ps i h h']
  have h2 := Int.emod_nonneg (ps[i]).2 (show (13 : Int) ≠ 0 by decide)
  have h3 := Int.emod_lt_of_pos (ps[i]).2 (show (0 : Int) < 13 by decide)
  refine ⟨rfl, ?_, hp.2.1, ?_⟩
  ·show (ps[i]).2 % 13 = (((ps[i]).2 % 13).toNat : Int); omega
  ·show ((ps[i]).2 % 13).toNat < 13; omega
 ·obtain ⟨⟨g1, g2⟩, g3⟩ := csOf_small (List.getElem_mem h')
  have := rofP ((csOf ps)[i]).1 (((csOf ps)[i]).2 : Int) (by omega) (by omega) (by omega) (by omega) w
  rwa [Int.toNat_natCast] at this
end Go.Proofs.YtloipmieaefcpaaGreatDoor
namespace Go.Proofs.YtloipmieaefcpaaGreatDoor
open Go.ChangeShapes Go.WideShapes Go.ChangeAt Go.RowKit Go.Joins
theorem addaddP (a : Addr) (i j : Nat) : (a.add i).add j = a.add (i + j) := by
 unfold Addr.add
 by_cases h : i = 0
 ·subst h; simp
 ·by_cases h2 : j = 0
  ·subst h2; simp [h]
  ·simp [h, h2, Nat.add_assoc]
theorem cellsR7 : Tryz.prog.cellsOf 56 = 2 := by kernel_rfl
set_option maxRecDepth 100000 in
theorem rs_of {H : Type} {enc : TypeId × Value → H} {W : World} {base : Nat} {v : Value} {d : DataW H} {p : List MemPlace} (hv : Value.okWide Tryz.prog W .any base 51 v)
  (h : DataW.Trod enc Tryz.prog W 0 (fun _ => true) true 51 v d p) : ∃ a n c l, v = .slice a n c ∧ l.length = n ∧ (0 < n → ∃ x, a = some x ∧ PRs W x l) ∧ ∀ p ∈ l, (-9223372036854775808 ≤ p.1 ∧ p.1 < 9223372036854775808) ∧ 0 ≤ p.2 ∧ p.2 < 4294967296 := by
 obtain ⟨a0, len, cap, rfl⟩ := okWide_slice Tryz.underlying51 hv
 obtain ⟨fuel, hf⟩ := h
 rcases Go.Deep.open_slice_pairs Tryz.underlying51 Tryz.underlying56 cellsR7 rfl rfl cellsI cellsU hf with ⟨hcs, hx⟩ | ⟨a, len', cap', m, n, V0, V1, D0, D1, P0, P1, hcs, _, hl, _, hm, hx, hcell⟩
 ·simp [Value.cells] at hcs
  obtain ⟨rfl, rfl, rfl⟩ := hcs
  exact ⟨none, 0, 0, [], rfl, rfl, fun h => by omega, fun p hp => by cases hp⟩
 ·simp [Value.cells] at hcs
  obtain ⟨rfl, rfl, rfl⟩ := hcs
  simp only [if_true] at hm
  by_cases h0 : len = 0
  ·subst h0
   exact ⟨some a, 0, cap, [], rfl, rfl, fun h => by omega, fun p hp => by cases hp⟩
  have each : ∀ i, i < len → ∃ z : Int × Int, W.cell? (a.add (i * 2)) = some (.int .i64 z.1) ∧ W.cell? ((a.add (i * 2)).add 1) = some (.int .u32 z.2) ∧ (-9223372036854775808 ≤ z.1 ∧ z.1 < 9223372036854775808) ∧ 0 ≤ z.2 ∧ z.2 < 4294967296 := by
   intro i hi
   obtain ⟨e0, e1, g0, g1⟩ := hcell i (by omega)
   obtain ⟨x, y0, -, f0⟩ := DataW.trod_int Tryz.underlying2 g0
   obtain ⟨y, y1, -, f1⟩ := DataW.trod_int Tryz.underlying54 g1
   simp only [List.cons.injEq, and_true] at y0 y1
   rw [y0] at e0
   rw [y1] at e1
   have b0 := bounds_i64 f0
   have b1 := bounds_u32 f1
   exact ⟨(x, y), e0, by rw [addaddP]; exact e1, by omega, by omega⟩
  obtain ⟨q, hq⟩ := Go.Deep.choose_lt each
  refine ⟨some a, len, cap, (List.range len).map q, rfl, by simp, fun _ => ⟨a, rfl, fun i hi => ?_, fun i hi => ?_, ?_⟩, fun z hz => ?_⟩
  ·have hi' : i < len := by simpa using hi
   have := (hq i hi').1
   simpa using this
  ·have hi' : i < len := by simpa using hi
   have := (hq i hi').2.1
   simpa using this
  ·have e := (hq 0 (by omega)).1
   have := World.block_lt_of_cell? W _ e
   rw [add_blkP] at this
   exact this
  ·obtain ⟨i, hi, rfl⟩ := List.mem_map.1 hz
   exact (hq i (List.mem_range.1 hi)).2.2
end Go.Proofs.YtloipmieaefcpaaGreatDoor
