/-
  Layer 1, walks N: guess, takeMultiple, divide.
-/
import Derived.Test.YthehcjfmokabfaaGreatDoorYe
set_option linter.unusedVariables false
set_option linter.unusedSimpArgs false
namespace Go.Proofs.YthehcjfmokabfaaGreatDoor
open Go.RowKit
attribute [local irreducible] lo hs sm s64 c64 d64 b64 mh ml pd pc qd qc val hiB str

/-- what guess returns -/
def gs (p2 p1 p0 t s : Nat) : Nat := if p2 = t then Bs - 1 else ((p2 * Bs + p1) * Bs + p0) / (t * Bs + s)

theorem two_le {d s r p0 : Nat} (hp : p0 < Bs) : (mh d s < r ∨ mh d s = r ∧ ml d s ≤ p0) ↔ d * s ≤ r * Bs + p0 := by
  have h1 := mul_spec d s
  have h2 := ml_lt d s
  generalize mh d s = a at *
  generalize ml d s = b at *
  rw [← h1, Nat.mul_comm Bs a]
  have mono : ∀ x y : Nat, x < y → x * Bs + Bs ≤ y * Bs := fun x y h => by rw [← Nat.succ_mul]; exact Nat.mul_le_mul_right _ h
  constructor
  · rintro (h | ⟨h, h'⟩)
    · have := mono a r h; omega
    · subst h; omega
  · intro h
    rcases Nat.lt_trichotomy a r with h3 | h3 | h3
    · exact .inl h3
    · subst h3; exact .inr ⟨rfl, by omega⟩
    · have := mono r a h3; omega

set_option maxHeartbeats 4000000 in
set_option maxRecDepth 100000 in
theorem guess_any (g o c gy oy cy : Nat) (P Y : List Nat) (n : Nat) (hP : Dig P) (hY : Dig Y) (hPl : P.length = n + 1) (hYl : Y.length = n) (h2 : 2 ≤ n) (hm : n ≤ 1099511627776) (hle : P[n]'(by omega) ≤ Y[n - 1]'(by omega)) (ht : 0 < Y[n - 1]'(by omega))
    (w : World) (hp : Rd w g o P) (hy : Rd w gy oy Y) :
    Calls Tryz.prog 146 #[.slice (some ⟨g, o, none⟩) P.length c, .slice (some ⟨gy, oy, none⟩) Y.length cy] w fun e w' =>
      e = .returned (.int .u64 ((gs (P[n]'(by omega)) (P[n - 1]'(by omega)) (P[n - 2]'(by omega)) (Y[n - 1]'(by omega)) (Y[n - 2]'(by omega)) : Nat) : Int)) ∧ ∃ k, w' = w.drewN k := by
  have c2 := hp n (by omega)
  have c1 := hp (n - 1) (by omega)
  have c0 := hp (n - 2) (by omega)
  have ct := hy (n - 1) (by omega)
  have cs := hy (n - 2) (by omega)
  have b1 := hP.get (n - 1) (by omega)
  have b0 := hP.get (n - 2) (by omega)
  have bt := hY.get (n - 1) (by omega)
  have bs := hY.get (n - 2) (by omega)
  generalize P[n]'(by omega) = p2 at *
  generalize P[n - 1]'(by omega) = p1 at *
  generalize P[n - 2]'(by omega) = p0 at *
  generalize Y[n - 1]'(by omega) = t at *
  generalize Y[n - 2]'(by omega) = s at *
  rw [hPl, hYl]
  clear hp hy hP hY hPl hYl
  have q1 : (1 : Int) ≤ (n : Int) := by omega
  have q2 : (2 : Int) ≤ (n : Int) := by omega
  unfold gs
  by_cases heq : p2 = t
  · rw [if_pos heq]
    have hbe : ((p2 : Int) == (t : Int)) = true := by simp; omega
    have HB : Hid (((Bs - 1 : Nat) : Int) = 18446744073709551615) := by show _ = _; unfold Bs; rfl
    clear heq
    go_enter Tryz.func146, Tryz.ntmps146
    go_wp2
    go_step3
    go_wp2
    go_quiet (fail)
    go_wp2
    rw [Exit.noGoto_ret]
    go_ret
    exact ⟨congrArg (fun k : Int => Ending.returned (.int .u64 k)) HB.out.symm, _, rfl⟩
  · rw [if_neg heq]
    have hbe : ((p2 : Int) == (t : Int)) = false := by simp; omega
    have hlt : p2 < t := by omega
    have hD := div64_all p2 p1 t hlt bt b1
    have hq0 : (p2 * Bs + p1) / t < Bs := (Nat.div_lt_iff_lt_mul ht).2 (by
      have : p2 * Bs + Bs ≤ t * Bs := by rw [← Nat.succ_mul]; exact Nat.mul_le_mul_right _ hlt
      rw [Nat.mul_comm Bs t]; omega)
    have hst : (p2 * Bs + p1) / t * t + (p2 * Bs + p1) % t = p2 * Bs + p1 := Nat.div_add_mod' _ _
    have hge : ((p2 * Bs + p1) * Bs + p0) / (t * Bs + s) ≤ (p2 * Bs + p1) / t := knu_start ht b0
    have hr0 : (p2 * Bs + p1) % t < Bs := Nat.lt_of_lt_of_le (Nat.mod_lt _ ht) (Nat.le_of_lt bt)
    generalize (p2 * Bs + p1) / t = d0 at *
    generalize (p2 * Bs + p1) % t = r0 at *
    generalize hPP : p2 * Bs + p1 = PP at *
    generalize hQ : (PP * Bs + p0) / (t * Bs + s) = Q3 at *
    have HD := Lib.hid hD
    have HI : Hid (d0 * t + r0 = PP ∧ Q3 ≤ d0 ∧ d0 < Bs ∧ r0 < Bs) := ⟨hst, hge, hq0, hr0⟩
    have HQ := Lib.hid hQ
    clear hD hst hge hq0 hr0 hPP hQ heq hlt hle
    go_enter Tryz.func146, Tryz.ntmps146
    go_wp2
    go_step3
    go_wp2
    go_quiet (fail)
    generalize hW1 : w.drewN nq = w1
    have e2 : w1.cell? ⟨g, o + n, none⟩ = some (.int .u64 (p2 : Int)) := by rw [← hW1]; exact c2
    have e1 : w1.cell? ⟨g, o + (n - 1), none⟩ = some (.int .u64 (p1 : Int)) := by rw [← hW1]; exact c1
    have e0 : w1.cell? ⟨g, o + (n - 2), none⟩ = some (.int .u64 (p0 : Int)) := by rw [← hW1]; exact c0
    have HW1 : Hid (∃ k, w1 = w.drewN k) := ⟨nq, hW1.symm⟩
    clear hW1 c2 c1 c0 ct cs
    go_wp2
    go_quiet ((go_at_call 119; exact Calls.quiet_of (HD.out _)))
    generalize hW2 : w1.drewN nq = w2
    have f0 : w2.cell? ⟨g, o + (n - 2), none⟩ = some (.int .u64 (p0 : Int)) := by rw [← hW2]; exact e0
    have HW2 : Hid (∃ k, w2 = w.drewN k) := by
      obtain ⟨k, hk⟩ := HW1.out
      exact ⟨k + nq, by rw [← hW2, hk, World.drewN_drewN]⟩
    clear hW2 e2 e1 e0 HW1 HD
    go_wp2
    go_step3
    go_wp2
    go_loop [8, 9] (fun x y => ∃ d r : Nat, x = .int .u64 d ∧ y = .int .u64 r ∧ d * t + r = PP ∧ Q3 ≤ d ∧ d < Bs ∧ r < Bs) (fun x _ => (intOf x).toNat)
    case atStart => exact ⟨d0, r0, rfl, rfl, HI.out⟩
    case round =>
      clear HI
      obtain ⟨d, r, rfl, rfl, hI, hge, hdB, hrB⟩ := hrel
      have HM := Lib.hid (mul64 d s hdB bs)
      by_cases ha : mh d s < r
      · have hex := knu_exit hI ht (by rw [HQ.out]; exact hge) ((two_le b0).1 (.inl ha))
        rw [HQ.out] at hex
        subst hex
        clear hI hge
        go_wp2_with (go_at_call 104; refine (HM.out _).mono ?_; rintro e w3 ⟨rfl, rfl⟩)
        rw [Exit.noGoto_ret]
        go_ret
        exact ⟨rfl, HW2.out⟩
      · by_cases hb : mh d s = r
        · by_cases hc : ml d s ≤ p0
          · have hex := knu_exit hI ht (by rw [HQ.out]; exact hge) ((two_le b0).1 (.inr ⟨hb, hc⟩))
            rw [HQ.out] at hex
            subst hex
            have hbe : (((mh d s : Nat) : Int) == (r : Int)) = true := by simp; omega
            clear hI hge hb
            go_wp2_with (go_at_call 104; refine (HM.out _).mono ?_; rintro e w3 ⟨rfl, rfl⟩)
            rw [Exit.noGoto_ret]
            go_ret
            exact ⟨rfl, HW2.out⟩
          · skip
            have hno : ¬ d * s ≤ r * Bs + p0 := fun h => by
              rcases (two_le b0).2 h with h1 | ⟨h1, h2⟩
              · exact ha h1
              · exact hc h2
            obtain ⟨hd1, hI', hge'⟩ := knu_step hI b0 bs ht (by rw [HQ.out]; exact hge) (Nat.lt_of_not_le hno)
            rw [HQ.out] at hge'
            have hadd := add64c r t
            have hsum := s64_spec r t 0
            have hs64 := s64_lt r t 0
            have hcle := c64_le (c := 0) hrB bt (by omega)
            clear hno hI hge
            have hbe : (((mh d s : Nat) : Int) == (r : Int)) = true := by simp; omega
            clear hb
            by_cases hcy : c64 r t 0 = 0
            · have hpos : decide (0 < c64 r t 0) = false := by simp; omega
              have H1 : Hid ((d - 1) * t + s64 r t 0 = PP ∧ Q3 ≤ d - 1 ∧ d - 1 < Bs ∧ s64 r t 0 < Bs) := ⟨by rw [hcy, Nat.mul_zero] at hsum; omega, hge', by omega, hs64⟩
              have HD1 : Hid (((d : Int) - 1) = ((d - 1 : Nat) : Int)) := by show _ = _; omega
              clear hsum hI' hge' hcy hcle hs64
              have hd2 : (1 : Int) ≤ (d : Int) := by omega
              have hd3 : (d : Int) ≤ 18446744073709551615 := by unfold Bs at hdB; omega
              go_wp2_with (go_at_call 104; refine (HM.out _).mono ?_; rintro e w3 ⟨rfl, rfl⟩)
              go_round
              case rel => exact ⟨d - 1, s64 r t 0, by rw [HD1.out], rfl, H1.out⟩
              case measure => simp [intOf]; omega
            · have hpos : decide (0 < c64 r t 0) = true := by simp; omega
              have hex : d - 1 = Q3 := by
                have hle : (d - 1) * s ≤ (r + t) * Bs + p0 := by
                  have h1 : (d - 1) * s ≤ Bs * Bs := Nat.mul_le_mul (by omega) (by omega)
                  have h2 : Bs * Bs ≤ (r + t) * Bs := Nat.mul_le_mul_right _ (by
                    have : Bs * 1 ≤ Bs * c64 r t 0 := Nat.mul_le_mul_left _ (by omega)
                    omega)
                  omega
                have := knu_exit hI' ht (by rw [HQ.out]; exact hge') hle
                rw [HQ.out] at this; exact this
              have HD1 : Hid (((d : Int) - 1) = (Q3 : Int)) := by show _ = _; omega
              clear hsum hI' hge' hcy hcle hs64 hex
              have hd2 : (1 : Int) ≤ (d : Int) := by omega
              have hd3 : (d : Int) ≤ 18446744073709551615 := by unfold Bs at hdB; omega
              go_wp2_with (go_at_call 104; refine (HM.out _).mono ?_; rintro e w3 ⟨rfl, rfl⟩)
              rw [Exit.noGoto_ret]
              go_ret
              exact ⟨congrArg (fun k : Int => Ending.returned (.int .u64 k)) HD1.out, HW2.out⟩
        · skip
          have hno : ¬ d * s ≤ r * Bs + p0 := fun h => by
            rcases (two_le b0).2 h with h1 | ⟨h1, h2⟩
            · exact ha h1
            · exact hb h1
          obtain ⟨hd1, hI', hge'⟩ := knu_step hI b0 bs ht (by rw [HQ.out]; exact hge) (Nat.lt_of_not_le hno)
          rw [HQ.out] at hge'
          have hadd := add64c r t
          have hsum := s64_spec r t 0
          have hs64 := s64_lt r t 0
          have hcle := c64_le (c := 0) hrB bt (by omega)
          clear hno hI hge
          have hbe : (((mh d s : Nat) : Int) == (r : Int)) = false := by simp; omega
          clear hb
          by_cases hcy : c64 r t 0 = 0
          · have hpos : decide (0 < c64 r t 0) = false := by simp; omega
            have H1 : Hid ((d - 1) * t + s64 r t 0 = PP ∧ Q3 ≤ d - 1 ∧ d - 1 < Bs ∧ s64 r t 0 < Bs) := ⟨by rw [hcy, Nat.mul_zero] at hsum; omega, hge', by omega, hs64⟩
            have HD1 : Hid (((d : Int) - 1) = ((d - 1 : Nat) : Int)) := by show _ = _; omega
            clear hsum hI' hge' hcy hcle hs64
            have hd2 : (1 : Int) ≤ (d : Int) := by omega
            have hd3 : (d : Int) ≤ 18446744073709551615 := by unfold Bs at hdB; omega
            go_wp2_with (go_at_call 104; refine (HM.out _).mono ?_; rintro e w3 ⟨rfl, rfl⟩)
            go_round
            case rel => exact ⟨d - 1, s64 r t 0, by rw [HD1.out], rfl, H1.out⟩
            case measure => simp [intOf]; omega
          · have hpos : decide (0 < c64 r t 0) = true := by simp; omega
            have hex : d - 1 = Q3 := by
              have hle : (d - 1) * s ≤ (r + t) * Bs + p0 := by
                have h1 : (d - 1) * s ≤ Bs * Bs := Nat.mul_le_mul (by omega) (by omega)
                have h2 : Bs * Bs ≤ (r + t) * Bs := Nat.mul_le_mul_right _ (by
                  have : Bs * 1 ≤ Bs * c64 r t 0 := Nat.mul_le_mul_left _ (by omega)
                  omega)
                omega
              have := knu_exit hI' ht (by rw [HQ.out]; exact hge') hle
              rw [HQ.out] at this; exact this
            have HD1 : Hid (((d : Int) - 1) = (Q3 : Int)) := by show _ = _; omega
            clear hsum hI' hge' hcy hcle hs64 hex
            have hd2 : (1 : Int) ≤ (d : Int) := by omega
            have hd3 : (d : Int) ≤ 18446744073709551615 := by unfold Bs at hdB; omega
            go_wp2_with (go_at_call 104; refine (HM.out _).mono ?_; rintro e w3 ⟨rfl, rfl⟩)
            rw [Exit.noGoto_ret]
            go_ret
            exact ⟨congrArg (fun k : Int => Ending.returned (.int .u64 k)) HD1.out, HW2.out⟩

/-- what takeMultiple asks of its two numbers, and what its guess is worth -/
theorem gs_ok (P Y : List Nat) (m : Nat) (hP : Dig P) (hY : Dig Y) (hPl : P.length = m + 3) (hYl : Y.length = m + 2) (htop : Bs ≤ 2 * Y[m + 1]) (hlt : val P < Bs * val Y) :
    P[m + 2] ≤ Y[m + 1] ∧ (gs P[m + 2] P[m + 1] P[m] Y[m + 1] Y[m] = val P / val Y ∨ gs P[m + 2] P[m + 1] P[m] Y[m + 1] Y[m] = val P / val Y + 1) ∧ gs P[m + 2] P[m + 1] P[m] Y[m + 1] Y[m] < Bs := by
  have hP0 := hP.get m (by omega)
  have hP1 := hP.get (m + 1) (by omega)
  have hP2 := hP.get (m + 2) (by omega)
  have hY0 := hY.get m (by omega)
  have hY1 := hY.get (m + 1) (by omega)
  have lp := val_lt (hP.take m)
  have ly := val_lt (hY.take m)
  rw [List.length_take, Nat.min_eq_left (by omega)] at lp ly
  have eP : val P = ((P[m + 2] * Bs + P[m + 1]) * Bs + P[m]) * Bs ^ m + val (P.take m) := by
    have e1 := take_snoc P m (by omega)
    have e2 := take_snoc P (m + 1) (by omega)
    have e3 := take_snoc P (m + 2) (by omega)
    rw [List.take_of_length_le (by omega)] at e3
    have p1 : Bs ^ (m + 1) = Bs ^ m * Bs := Nat.pow_succ _ _
    have p2 : Bs ^ (m + 2) = Bs ^ m * Bs * Bs := by rw [Nat.pow_succ, p1]
    rw [e3, e2, e1, p1, p2]
    generalize Bs ^ m = M
    have q1 : M * Bs * P[m + 1] = P[m + 1] * Bs * M := by ac_rfl
    have q2 : M * Bs * Bs * P[m + 2] = P[m + 2] * Bs * Bs * M := by ac_rfl
    rw [q1, q2, Nat.mul_comm M, Nat.add_mul, Nat.add_mul, Nat.add_mul]; omega
  have eY : val Y = (Y[m + 1] * Bs + Y[m]) * Bs ^ m + val (Y.take m) := by
    have e1 := take_snoc Y m (by omega)
    have e2 := take_snoc Y (m + 1) (by omega)
    rw [List.take_of_length_le (by omega)] at e2
    have p1 : Bs ^ (m + 1) = Bs ^ m * Bs := Nat.pow_succ _ _
    rw [e2, e1, p1]
    generalize Bs ^ m = M
    have q1 : M * Bs * Y[m + 1] = Y[m + 1] * Bs * M := by ac_rfl
    rw [q1, Nat.mul_comm M, Nat.add_mul]; omega
  generalize val (P.take m) = lu at *
  generalize val (Y.take m) = lv at *
  generalize val P = U at *
  generalize val Y = V at *
  generalize P[m + 2] = p2 at *
  generalize P[m + 1] = p1 at *
  generalize P[m] = p0 at *
  generalize Y[m + 1] = t at *
  generalize Y[m] = s at *
  generalize hM : Bs ^ m = M at *
  have hMp : 0 < M := by rw [← hM]; exact Nat.pow_pos Bs_pos
  have hBp := Bs_pos
  have ht : 0 < t := by omega
  have hYp : 0 < t * Bs + s := by have := Nat.mul_pos ht hBp; omega
  have hVp : 0 < V := by have := Nat.mul_pos hYp hMp; omega
  -- the quotient is a digit
  have hq : U / V < Bs := (Nat.div_lt_iff_lt_mul hVp).2 hlt
  have hle : p2 ≤ t := by
    have h1 : U < Bs * ((t * Bs + s + 1) * M) := by
      refine Nat.lt_of_lt_of_le hlt (Nat.mul_le_mul_left _ ?_)
      rw [Nat.succ_mul]; omega
    have h2 : (p2 * Bs * Bs) * M ≤ U := by
      rw [eP]; refine Nat.le_trans (Nat.mul_le_mul_right _ ?_) (Nat.le_add_right _ _)
      rw [Nat.add_mul]; omega
    have h3 : (p2 * Bs * Bs) * M < (Bs * (t * Bs + s + 1)) * M := by rw [Nat.mul_assoc Bs]; omega
    have h4 := Nat.lt_of_mul_lt_mul_right h3
    have h5 : Bs * (t * Bs + s + 1) ≤ Bs * ((t + 1) * Bs) := Nat.mul_le_mul_left _ (by rw [Nat.succ_mul]; omega)
    have h6 : p2 * Bs * Bs < (t + 1) * Bs * Bs := by rw [Nat.mul_comm ((t + 1) * Bs)]; omega
    have h7 := Nat.lt_of_mul_lt_mul_right (Nat.lt_of_mul_lt_mul_right h6)
    omega
  refine ⟨hle, ?_⟩
  unfold gs
  by_cases h : p2 = t
  · rw [if_pos h]
    have := knu_top (U := U) (V := V) (t := t) (N := Bs * M) (r := (p1 * Bs + p0) * M + lu) (s := s * M + lv) (by
      rw [eP, h]; simp only [Nat.add_mul, Nat.mul_assoc]; omega) (by rw [eY]; simp only [Nat.add_mul, Nat.mul_assoc]; omega) (by
      have : (s + 1) * M ≤ Bs * M := Nat.mul_le_mul_right _ hY0
      rw [Nat.succ_mul] at this; omega) htop hlt
    omega
  · rw [if_neg h]
    have k1 := knu_le (U := U) (V := V) eP eY lp hYp
    have hqY : U / V < t * Bs + s := by
      have : Bs * 1 ≤ t * Bs := by rw [Nat.mul_comm t]; exact Nat.mul_le_mul_left _ ht
      omega
    have k2 := knu_ge (U := U) (V := V) eP eY ly hYp hqY
    have k3 : ((p2 * Bs + p1) * Bs + p0) / (t * Bs + s) < Bs := by
      refine (Nat.div_lt_iff_lt_mul hYp).2 ?_
      have h1 : (p2 + 1) * Bs ≤ t * Bs := Nat.mul_le_mul_right _ (by omega)
      rw [Nat.succ_mul] at h1
      have h2 : (p2 * Bs + p1 + 1) * Bs ≤ t * Bs * Bs := Nat.mul_le_mul_right _ (by omega)
      rw [Nat.succ_mul] at h2
      rw [Nat.mul_add, Nat.mul_comm Bs (t * Bs)]; omega
    omega

theorem grown_drewN (w : World) (k : Nat) (r : Option Nat) : w.grownBy (w.drewN k) r := ⟨rfl, rfl, rfl, Nat.le_refl _, fun _ _ _ => rfl⟩
set_option maxHeartbeats 2000000 in
set_option maxRecDepth 100000 in
theorem takeMultiple_any (g gy c cy m : Nat) (A D C Y : List Nat) (hD : Dig D) (hY : Dig Y) (hDl : D.length = m + 3) (hYl : Y.length = m + 2) (hm : m ≤ 1000000000000) (htop : Bs ≤ 2 * Y[m + 1]) (hlt : val D < Bs * val Y) (hne : gy ≠ g)
    (w : World) (hdb : DB w g (A ++ D ++ C)) (hgy : gy < w.heap.size) (hr : Rd w gy 0 Y) :
    Calls Tryz.prog 132 #[.slice (some ⟨g, A.length, none⟩) D.length c, .slice (some ⟨gy, 0, none⟩) Y.length cy] w fun e w' =>
      e = .returned (.int .u64 ((val D / val Y : Nat) : Int)) ∧ ∃ D' : List Nat, (D'.length = D.length ∧ Dig D' ∧ val D' = val D % val Y) ∧ DB w' g (A ++ D' ++ C) ∧ w.grownBy w' (some g) := by
  obtain ⟨hle, hor, hGB⟩ := gs_ok D Y m hD hY hDl hYl htop hlt
  have hpr : Rd w g A.length D := fun i hi => by
    have h1 : A.length + i < (A ++ D ++ C).length := by simp; omega
    rw [hdb.cell _ h1]
    congr 3
    rw [List.getElem_append_left (by simp; omega), List.getElem_append_right (by omega)]
    simp
  have hG := guess_any g A.length c gy 0 cy D Y (m + 2) hD hY (by omega) (by omega) (by omega) (by omega) hle (by have := Bs_gt; simp only [show m + 2 - 1 = m + 1 from rfl]; omega) w hpr hr
  simp only [show m + 2 - 1 = m + 1 from rfl, show m + 2 - 2 = m from rfl] at hG
  generalize gs D[m + 2] D[m + 1] D[m] Y[m + 1] Y[m] = G at *
  have hT := fun w hdb hgy hr => takeProduct_any g gy 0 c cy G A D C Y hD hY hGB (by omega) (by omega) hne w hdb hgy hr
  have hAT := fun (D' : List Nat) (hD' : Dig D') (hl : D'.length = D.length) w hdb hgy hr => addTo_any g gy 0 c cy A D' C Y hD' hY (by omega : Y.length ≤ D'.length) (by omega : D'.length ≤ 1099511627776) hne w hdb hgy hr
  have hVY : 0 < val Y := by
    rcases Nat.eq_zero_or_pos (val Y) with h | h
    · rw [h] at hlt; omega
    · exact h
  have hdm := Nat.div_add_mod' (val D) (val Y)
  have hmlt := Nat.mod_lt (val D) hVY
  have hDB := val_lt hD
  have HG := Lib.hid hG
  have HT := Lib.hid hT
  have HA := Lib.hid hAT
  clear hG hT hAT hle
  rcases hor with hq | hq
  · -- the guess is the quotient
    have HQ := Lib.hid hq
    have HDM := Lib.hid hdm
    clear hq hdm
    clear htop
    clear hDl hYl
    go_enter Tryz.func132, Tryz.ntmps132
    go_wp2_with fail
    refine HG.out.mono ?_
    rintro e w1 ⟨rfl, k, rfl⟩
    go_wp2_with fail
    refine (HT.out (w.drewN k) hdb hgy hr).mono ?_
    rintro e w2 ⟨b, D', rfl, ⟨hl, hd, hv⟩, hdb2, hg2⟩
    have hD'lt := val_lt hd
    obtain rfl : b = false := by
      cases b with
      | false => rfl
      | true =>
        rw [HQ.out] at hv
        have := HDM.out
        rw [hl] at hD'lt
        simp at hv; omega
    have HV : Hid (val D' = val D % val Y) := by
      show _ = _
      rw [HQ.out] at hv
      have := HDM.out
      simp at hv; omega
    have HL := Lib.hid hl
    clear hv hl hD'lt
    go_wp2
    go_ret
    exact ⟨congrArg (fun k : Nat => Ending.returned (.int .u64 (k : Int))) HQ.out, D', ⟨HL.out, hd, HV.out⟩, hdb2, grown_trans (grown_drewN _ _ _) hg2⟩
  · -- the guess is one too great
    have HQ := Lib.hid hq
    have HDM := Lib.hid hdm
    clear hq hdm
    clear htop
    go_enter Tryz.func132, Tryz.ntmps132
    have HDL := Lib.hid hDl
    have HYL := Lib.hid hYl
    clear hDl hYl
    go_wp2_with fail
    refine HG.out.mono ?_
    rintro e w1 ⟨rfl, k, rfl⟩
    go_wp2_with fail
    refine (HT.out (w.drewN k) hdb hgy hr).mono ?_
    rintro e w2 ⟨b, D', rfl, ⟨hl, hd, hv⟩, hdb2, hg2⟩
    have hD'lt := val_lt hd
    obtain rfl : b = true := by
      cases b with
      | true => rfl
      | false =>
        rw [HQ.out, Nat.succ_mul] at hv
        have := HDM.out
        simp at hv; omega
    have hr2 : Rd w2 gy 0 Y := fun i hi => (grown_cell hg2 hne hgy).trans (hr i hi)
    have hA2 := HA.out D' hd hl w2 hdb2 (Nat.lt_of_lt_of_le hgy hg2.size) hr2
    have hval : (val D' + val Y) % Bs ^ D'.length = val D % val Y := by
      rw [HQ.out, Nat.succ_mul] at hv
      have := HDM.out
      have e : val D' + val Y = val D % val Y + Bs ^ D'.length * 1 := by rw [hl]; rw [if_pos rfl] at hv; omega
      rw [e, Nat.add_mul_mod_self_left, Nat.mod_eq_of_lt (by rw [hl]; exact Nat.lt_of_le_of_lt (Nat.mod_le _ _) hDB)]
    rw [hval, hl] at hA2
    have HA2 := Lib.hid hA2
    clear hv hl hD'lt hA2 hval
    have hG1 : (1 : Int) ≤ (G : Int) := by
      have : 1 ≤ G := by rw [HQ.out]; exact Nat.le_add_left _ _
      omega
    have hG2 : (G : Int) ≤ 18446744073709551615 := by unfold Bs at hGB; omega
    have HQ' : Hid ((G : Int) - 1 = ((val D / val Y : Nat) : Int)) := by
      show _ = _
      have := HQ.out
      generalize val D / val Y = q at *
      omega
    go_wp2_with fail
    refine HA2.out.mono ?_
    rintro e w3 ⟨rfl, D2, ⟨hl2, hd2, hv2⟩, hdb3, hg3⟩
    have HL2 := Lib.hid hl2
    have HV2 := Lib.hid hv2
    clear hl2 hv2
    go_wp2
    go_ret
    exact ⟨congrArg (fun k : Int => Ending.returned (.int .u64 k)) HQ'.out, D2, ⟨HL2.out, hd2, HV2.out⟩, hdb3, grown_trans (grown_trans (grown_drewN _ _ _) hg2) hg3⟩
end Go.Proofs.YthehcjfmokabfaaGreatDoor

/-
  Layer 1, walks O: divide.
-/
namespace Go.Proofs.YthehcjfmokabfaaGreatDoor
open Go.RowKit
attribute [local irreducible] lo hs sm s64 c64 d64 b64 mh ml pd pc qd qc val hiB str

theorem lz_any (y : Nat) (hy : y < Bs) (w : World) : Calls Tryz.prog 130 #[.int .u64 (y : Int)] w fun e w' => e = .returned (.int .i64 ((lz y : Nat) : Int)) ∧ w = w' := by
  have hbl := bl_le y (by rw [← Bs_pow]; exact hy)
  refine (Tryz.bits_LeadingZeros64 (y : Int) w (by omega) (by unfold Bs at hy; omega)).mono fun e w' ⟨he, hw⟩ => ⟨?_, hw.symm⟩
  rw [he, Int.toNat_natCast]
  refine congrArg (fun k : Int => Ending.returned (.int .i64 k)) ?_
  unfold lz; omega

/-- Long division: J digits of the quotient are still to come. -/
structure LdI (U V J len : Nat) (R Q : List Nat) : Prop where
  rlen : R.length = len
  rdig : Dig R
  qdig : Dig Q
  lt : val R < Bs ^ J * V
  eq : U = val R + Bs ^ J * (val Q * V)
theorem LdI.split {U V J n len : Nat} {R Q : List Nat} (h : LdI U V (J + 1) len R Q) (hV : V < Bs ^ n) (hl : len = J + (n + 1) + (len - (J + (n + 1)))) :
    R = R.take J ++ (R.drop J).take (n + 1) ++ (R.drop J).drop (n + 1) ∧ (R.take J).length = J ∧ ((R.drop J).take (n + 1)).length = n + 1 ∧ val ((R.drop J).drop (n + 1)) = 0 ∧ val R = val (R.take J) + Bs ^ J * val ((R.drop J).take (n + 1)) ∧
      val ((R.drop J).take (n + 1)) < Bs * V := by
  have hR : R = R.take J ++ ((R.drop J).take (n + 1) ++ (R.drop J).drop (n + 1)) := by rw [List.take_append_drop, List.take_append_drop]
  have hrl := h.rlen
  have l1 : (R.take J).length = J := by rw [List.length_take]; omega
  have l2 : ((R.drop J).take (n + 1)).length = n + 1 := by rw [List.length_take, List.length_drop]; omega
  have hv : val R = val (R.take J) + Bs ^ J * (val ((R.drop J).take (n + 1)) + Bs ^ (n + 1) * val ((R.drop J).drop (n + 1))) := by
    conv => lhs; rw [hR, val_append, val_append, l1, l2]
  have hlt := h.lt
  have hp : 0 < Bs ^ J := Nat.pow_pos Bs_pos
  have hlt2 : Bs ^ J * (val ((R.drop J).take (n + 1)) + Bs ^ (n + 1) * val ((R.drop J).drop (n + 1))) < Bs ^ J * (Bs * V) := by
    rw [Nat.pow_succ, Nat.mul_assoc] at hlt; omega
  have h3 := Nat.lt_of_mul_lt_mul_left hlt2
  have h4 : Bs * V < Bs ^ (n + 1) := by rw [Nat.pow_succ, Nat.mul_comm]; exact Nat.mul_lt_mul_of_pos_right hV Bs_pos
  have h0 : val ((R.drop J).drop (n + 1)) = 0 := by
    rcases Nat.eq_zero_or_pos (val ((R.drop J).drop (n + 1))) with h | h
    · exact h
    · have : Bs ^ (n + 1) * 1 ≤ Bs ^ (n + 1) * val ((R.drop J).drop (n + 1)) := Nat.mul_le_mul_left _ h
      omega
  rw [h0, Nat.mul_zero, Nat.add_zero] at hv h3
  exact ⟨by rw [List.append_assoc]; exact hR, l1, l2, h0, hv, h3⟩
theorem LdI.step {U V J n len : Nat} {R Q D' : List Nat} (h : LdI U V (J + 1) len R Q) (hV : V < Bs ^ n) (hV0 : 0 < V) (hl : len = J + (n + 1) + (len - (J + (n + 1)))) (hDl : D'.length = n + 1) (hDd : Dig D') (hDv : val D' = val ((R.drop J).take (n + 1)) % V) :
    LdI U V J len (R.take J ++ D' ++ (R.drop J).drop (n + 1)) (val ((R.drop J).take (n + 1)) / V :: Q) := by
  obtain ⟨hR, l1, l2, h0, hv, hlt⟩ := h.split hV hl
  have hrl := h.rlen
  have hdm := Nat.div_add_mod' (val ((R.drop J).take (n + 1))) V
  have hval : val (R.take J ++ D' ++ (R.drop J).drop (n + 1)) = val (R.take J) + Bs ^ J * val D' := by
    rw [val_append, val_append, h0, l1, Nat.mul_zero, Nat.add_zero]
  have hAl := val_lt (h.rdig.take J)
  rw [l1] at hAl
  refine ⟨?_, ((h.rdig.take J).app hDd).app ((h.rdig.drop J).drop (n + 1)), Dig.cons ?_ h.qdig, ?_, ?_⟩
  · rw [List.length_append, List.length_append, l1, hDl, List.length_drop, List.length_drop]; omega
  · exact (Nat.div_lt_iff_lt_mul hV0).2 hlt
  · rw [hval, hDv]
    have h1 : val ((R.drop J).take (n + 1)) % V + 1 ≤ V := Nat.mod_lt _ hV0
    have h2 := Nat.mul_le_mul_left (Bs ^ J) h1
    rw [Nat.mul_succ] at h2
    omega
  · rw [hval, hDv, h.eq, hv, val_cons]
    generalize val ((R.drop J).take (n + 1)) / V = q at *
    generalize val ((R.drop J).take (n + 1)) % V = r at *
    rw [← hdm, Nat.pow_succ]
    have e1 : Bs ^ J * (q * V + r) = Bs ^ J * (q * V) + Bs ^ J * r := Nat.mul_add _ _ _
    have e2 : Bs ^ J * ((q + Bs * val Q) * V) = Bs ^ J * (q * V) + Bs ^ J * Bs * (val Q * V) := by
      rw [Nat.add_mul, Nat.mul_add]; congr 1; ac_rfl
    rw [e1, e2]; omega
theorem LdI.done {U V len : Nat} {R Q : List Nat} (h : LdI U V 0 len R Q) : val Q = U / V ∧ val R = U % V := by
  have hlt := h.lt
  have he := h.eq
  rw [Nat.pow_zero, Nat.one_mul] at hlt he
  constructor
  · rw [he, Nat.add_comm, Nat.mul_comm, Nat.mul_add_div (by omega), Nat.div_eq_of_lt hlt, Nat.add_zero]
  · rw [he, Nat.add_comm, Nat.mul_comm, Nat.mul_add_mod, Nat.mod_eq_of_lt hlt]
/-- the divisor, shifted until its highest digit is at least half the base -/
theorem norm_div (b n : Nat) (hn : (digs b).length = n + 1) (t : Nat) (ht : t = (digs b)[n]'(by omega)) :
    lz t ≤ 63 ∧ b * 2 ^ lz t < Bs ^ (n + 1) ∧ Bs ^ (n + 1) ≤ 2 * (b * 2 ^ lz t) ∧ (digs (b * 2 ^ lz t)).length = n + 1 ∧ ∀ h, Bs ≤ 2 * (digs (b * 2 ^ lz t))[n]'h := by
  have htB : t < Bs := by rw [ht]; exact (digs_dig b).get n (by omega)
  have ht0 : t ≠ 0 := by
    have := top_digs b (by intro h; rw [h] at hn; simp at hn)
    rw [List.getLast_eq_getElem] at this
    simp only [hn, Nat.add_sub_cancel] at this
    rw [ht]; exact this
  obtain ⟨h1, h2, h3⟩ := lz_spec t ht0 htB
  generalize lz t = s at *
  have hp : 0 < 2 ^ s := Nat.pow_pos (by omega)
  have eb : b = val ((digs b).take n) + Bs ^ n * t := by
    conv => lhs; rw [← val_digs b, ← List.take_of_length_le (Nat.le_of_eq hn), take_snoc _ n (by omega), ← ht]
  have lb := val_lt ((digs_dig b).take n)
  rw [List.length_take, Nat.min_eq_left (by omega)] at lb
  generalize val ((digs b).take n) = lw at *
  have hM : 0 < Bs ^ n := Nat.pow_pos Bs_pos
  have e1 : b * 2 ^ s = lw * 2 ^ s + Bs ^ n * (t * 2 ^ s) := by rw [eb, Nat.add_mul, Nat.mul_assoc]
  have l1 : b * 2 ^ s < Bs ^ (n + 1) := by
    -- t * 2^s + 2^s ≤ Bs
    have hd : Bs = 2 ^ (64 - s) * 2 ^ s := Bs_split (by omega)
    have h4 : t < 2 ^ (64 - s) := by rw [hd] at h3; exact Nat.lt_of_mul_lt_mul_right h3
    have h5 := Nat.mul_le_mul_right (2 ^ s) (show t + 1 ≤ 2 ^ (64 - s) from h4)
    rw [← hd, Nat.succ_mul] at h5
    have h6 := Nat.mul_le_mul_left (Bs ^ n) h5
    rw [Nat.mul_add] at h6
    have h7 : lw * 2 ^ s < Bs ^ n * 2 ^ s := Nat.mul_lt_mul_of_pos_right lb hp
    rw [e1, Nat.pow_succ]; omega
  have l2 : Bs ^ (n + 1) ≤ 2 * (b * 2 ^ s) := by
    have := Nat.mul_le_mul_left (Bs ^ n) h2
    rw [e1, Nat.pow_succ, Nat.mul_add]
    have e3 : Bs ^ n * (2 * (t * 2 ^ s)) = 2 * (Bs ^ n * (t * 2 ^ s)) := by ac_rfl
    omega
  have hlen : (digs (b * 2 ^ s)).length = n + 1 := by
    refine Nat.le_antisymm (digs_length_iff.2 l1) (Nat.lt_of_not_le fun h => ?_)
    have := digs_length_iff.1 h
    rw [Nat.pow_succ] at l2
    have h8 : Bs ^ n * 2 ≤ Bs ^ n * Bs := Nat.mul_le_mul_left _ Bs_gt
    omega
  refine ⟨h1, l1, l2, hlen, fun h => ?_⟩
  have ev : b * 2 ^ s = val ((digs (b * 2 ^ s)).take n) + Bs ^ n * (digs (b * 2 ^ s))[n] := by
    conv => lhs; rw [← val_digs (b * 2 ^ s), ← List.take_of_length_le (Nat.le_of_eq hlen), take_snoc _ n (by omega)]
  have lv := val_lt ((digs_dig (b * 2 ^ s)).take n)
  rw [List.length_take, Nat.min_eq_left (by omega)] at lv
  generalize val ((digs (b * 2 ^ s)).take n) = lx at *
  generalize (digs (b * 2 ^ s))[n] = top at *
  rw [Nat.pow_succ] at l2
  have h9 : Bs ^ n * Bs < Bs ^ n * (2 * top + 2) := by
    rw [Nat.mul_add]
    have e3 : Bs ^ n * (2 * top) = 2 * (Bs ^ n * top) := by ac_rfl
    omega
  have h10 := Nat.lt_of_mul_lt_mul_left h9
  have hev : Bs % 2 = 0 := by unfold Bs; rfl
  omega

set_option maxHeartbeats 8000000 in
set_option maxRecDepth 100000 in
theorem divide_any (gx gy cx cy m : Nat) (a b : Nat) (hbl : (digs b).length = m + 2) (hab : (digs b).length ≤ (digs a).length) (hal : (digs a).length ≤ 1000000000000) (w : World) (hgx : gx < w.heap.size) (hgy : gy < w.heap.size) (hrx : Rd w gx 0 (digs a)) (hry : Rd w gy 0 (digs b)) :
    Calls Tryz.prog 103 #[.slice (some ⟨gx, 0, none⟩) (digs a).length cx, .slice (some ⟨gy, 0, none⟩) (digs b).length cy] w fun e w' =>
      ∃ gq cq zq gr cr zr, e = .returned (.tuple #[.slice (some ⟨gq, 0, none⟩) (digs (a / b)).length cq, .slice (some ⟨gr, 0, none⟩) (digs (a % b)).length cr]) ∧
        DB w' gq (digs (a / b) ++ List.replicate zq 0) ∧ DB w' gr (digs (a % b) ++ List.replicate zr 0) ∧ gq ≠ gr ∧ w.heap.size ≤ gq ∧ w.heap.size ≤ gr ∧ (digs (a / b)).length ≤ cq ∧ (digs (a % b)).length ≤ cr ∧ Below w.heap.size w w' := by
  obtain ⟨t, ht⟩ : ∃ t, t = (digs b)[m + 1]'(by omega) := ⟨_, rfl⟩
  obtain ⟨hs, hV1, hV2, hVl, htop⟩ := norm_div b (m + 1) hbl t ht
  have htB : t < Bs := by rw [ht]; exact (digs_dig b).get _ (by omega)
  have HL := Lib.hid (lz_any t htB)
  generalize lz t = s at *
  have hct := hry (m + 1) (by omega)
  rw [← ht] at hct
  rw [Nat.zero_add] at hct
  obtain ⟨V, hV⟩ : ∃ V, V = b * 2 ^ s := ⟨_, rfl⟩
  obtain ⟨U, hU⟩ : ∃ U, U = a * 2 ^ s := ⟨_, rfl⟩
  rw [← hV] at hV1 hV2 hVl htop
  obtain ⟨L, hL⟩ : ∃ L, (digs a).length + 1 = L + (m + 2) := ⟨(digs a).length + 1 - (m + 2), by omega⟩
  have hL1 : (digs a).length + 1 ≤ L + (m + 2) := by omega
  have hL2 : L + (m + 2) ≤ (digs a).length + 1 := by omega
  have hmk : ∀ w, (Instr.makeSlice 114 (.int .i64 (((digs a).length : Int) - ((m : Int) + 2) + 1)) (.int .i64 (((digs a).length : Int) - ((m : Int) + 2) + 1))).run Tryz.prog w = .ok (.slice (some ⟨w.heap.size, 0, none⟩) L L) (w.alloc (zobj L)) :=
    fun w => make64 w _ L (by omega) (by omega)
  have hS1 := shiftLeft_any gx cx s (digs a) (digs_dig a) (by omega) (by omega) (by omega)
  have hS2 := shiftLeft_any gy cy s (digs b) (digs_dig b) (by omega) (by omega) (by omega)
  rw [val_digs, ← hU] at hS1
  rw [val_digs, ← hV, hbl] at hS2
  have HS1 := Lib.hid hS1
  have HS2 := Lib.hid hS2
  rw [hbl]
  clear hL hS1 hS2 htB ht
  go_enter Tryz.func103, Tryz.ntmps103
  go_wp2_with fail
  refine (HL.out _).mono ?_
  rintro e w0 ⟨rfl, rfl⟩
  go_wp2_with fail
  refine (HS1.out w hgx hrx).mono ?_
  rintro e w1 ⟨R0, rfl, ⟨hR0l, hR0d, hR0v⟩, hdbR, hb1⟩
  have hry1 : Rd w1 gy 0 (digs b) := hry.below hb1 hgy
  have hg1 := hdbR.lt
  have HR0 : Hid (R0.length = (digs a).length + 1 ∧ Dig R0 ∧ val R0 = U) := ⟨hR0l, hR0d, hR0v⟩
  clear hR0l hR0d hR0v
  go_wp2_with fail
  refine (HS2.out w1 (by omega) hry1).mono ?_
  rintro e w2 ⟨B0, rfl, ⟨hB0l, hB0d, hB0v⟩, hdbB, hb2⟩
  have hT := trim_any w1.heap.size 0 (m + 2 + 1) B0 hB0d (by rw [hB0l]; unfold maxLen; omega) (Nat.le_of_eq hB0l) w2 hdbB.rd0
  rw [hB0l, hB0v, hVl] at hT
  obtain ⟨zb, hzb⟩ := norm B0 hB0d
  rw [hB0v] at hzb
  rw [hzb] at hdbB
  have HT := Lib.hid hT
  clear hT hB0l hB0v hzb
  go_wp2_with fail
  refine HT.out.mono ?_
  rintro e w2' ⟨rfl, rfl⟩
  rw [show m + 1 + 1 = m + 2 from rfl]
  have hg2 := hdbB.lt
  have hV0 : 0 < V := by
    have := Nat.pow_pos (n := m + 1 + 1) Bs_pos
    omega
  have hB3 : Below w.heap.size w w2 := hb1.trans (hb2.mono hb1.size)
  have hdbR2 : DB w2 w.heap.size R0 := hdbR.below hb2 hdbR.lt
  have HV : Hid (V < Bs ^ (m + 2) ∧ 0 < V ∧ Bs ^ (m + 2) ≤ 2 * V ∧ (digs V).length = m + 2 ∧ V = b * 2 ^ s ∧ U = a * 2 ^ s) := ⟨hV1, hV0, hV2, hVl, hV, hU⟩
  have HTOP := Lib.hid htop
  have HBL := Lib.hid hbl
  -- the shifted dividend is below Bs^L * V
  have HULT : Hid (U < Bs ^ L * V) := by
    show _ < _
    have h1 : U < Bs ^ (digs a).length * 2 ^ s := by rw [hU]; exact Nat.mul_lt_mul_of_pos_right (lt_pow_digs a) (Nat.pow_pos (by omega))
    have h2 : 2 ^ s * 2 ≤ Bs := by rw [Bs_pow, ← Nat.pow_succ]; exact Nat.pow_le_pow_right (by omega) (by omega)
    have h3 : Bs ^ (digs a).length * (2 ^ s * 2) ≤ Bs ^ (digs a).length * Bs := Nat.mul_le_mul_left _ h2
    have h4 : Bs ^ L * Bs ^ (m + 2) ≤ Bs ^ L * (2 * V) := Nat.mul_le_mul_left _ hV2
    rw [← Nat.pow_add] at h4
    have h5 : Bs ^ (L + (m + 2)) = Bs ^ (digs a).length * Bs := by rw [← Nat.pow_succ]; congr 1; omega
    rw [h5] at h4
    have e1 : Bs ^ L * (2 * V) = 2 * (Bs ^ L * V) := by ac_rfl
    have e2 : Bs ^ (digs a).length * (2 ^ s * 2) = 2 * (Bs ^ (digs a).length * 2 ^ s) := by ac_rfl
    omega
  clear hV1 hV2 hVl hV hU hV0 htop hbl hdbR hct hry1 HS1 HS2 HT HL
  go_wp2
  go_loopw [33] (fun x wr => ∃ (i : Nat) (R Q : List Nat), i ≤ L ∧ x = .int .i64 i ∧ Q.length = i ∧ LdI U V (L - i) ((digs a).length + 1) R Q ∧ DB wr w.heap.size R ∧ DB wr w1.heap.size (digs V ++ List.replicate zb 0) ∧ DB wr w2.heap.size (List.replicate (L - i) 0 ++ Q) ∧ Below w.heap.size w wr) (fun x _ => L - (intOf x).toNat)
  case atStart =>
    obtain ⟨r1, r2, r3⟩ := HR0.out
    refine ⟨0, R0, [], Nat.zero_le _, rfl, rfl, ⟨r1, r2, Dig.nil, by rw [r3, Nat.sub_zero]; exact HULT.out, by rw [r3]; simp [val_nil]⟩, hdbR2.alloc _, hdbB.alloc _, ?_, hB3.alloc hB3.size _⟩
    have := DB.zeros w2 L
    rwa [Nat.sub_zero, List.append_nil]
  case round =>
    obtain ⟨i, R, Q, hi, rfl, hQl, hI, hdR, hdV, hdQ, hbw⟩ := hrel
    have hgq := hdQ.lt
    have hgw : w.heap.size < w1.heap.size := hg1
    have hgv : w1.heap.size < w2.heap.size := hg2
    by_cases hil : i < L
    · obtain ⟨J, hJ⟩ : ∃ J, J = L - 1 - i := ⟨_, rfl⟩
      have hJ1 : L - i = J + 1 := by omega
      rw [hJ1] at hI hdQ
      obtain ⟨v1, v0, v2, vl, ev1, ev2⟩ := HV.out
      clear ev1 ev2
      have hlen : (digs a).length + 1 = J + (m + 2 + 1) + ((digs a).length + 1 - (J + (m + 2 + 1))) := by omega
      obtain ⟨hR, l1, l2, c0, hRv, hDlt⟩ := hI.split v1 hlen
      have hIs := hI.rdig
      have hIn := fun D' h1 h2 h3 => hI.step (D' := D') v1 v0 hlen h1 h2 h3
      rw [hR] at hdR
      have hTM := takeMultiple_any w.heap.size w1.heap.size ((digs a).length + 1 - J) (m + 2 + 1) m (R.take J) ((R.drop J).take (m + 2 + 1)) ((R.drop J).drop (m + 2 + 1)) (digs V) ((hIs.drop J).take _) (digs_dig V) l2 vl (by omega) (HTOP.out (by omega)) (by rw [val_digs]; exact hDlt) (by omega) wr hdR (by omega) hdV.rdl
      rw [l1, l2, vl, val_digs] at hTM
      have HTM := Lib.hid hTM
      have HIN := Lib.hid hIn
      have HQL := Lib.hid hQl
      have HJ1 := Lib.hid hJ1
      have hqc := hdQ.cell J (by simp; omega)
      obtain ⟨xq, hxq⟩ : ∃ x : Int, wr.cell? ⟨w2.heap.size, J, none⟩ = some (.int .u64 x) := ⟨_, hqc⟩
      have hne : ¬ (digs a).length + 1 = J := by omega
      have hset : ∀ q : Nat, (List.replicate (J + 1) 0 ++ Q).set J q = List.replicate J 0 ++ (q :: Q) := fun q => by
        rw [List.replicate_succ', List.append_assoc, List.set_append_right _ _ (by simp)]; simp
      have HSET := Lib.hid hset
      generalize val ((R.drop J).take (m + 2 + 1)) = vd at *
      clear hTM hIn hQl hJ1 hR l1 l2 c0 hRv hDlt hlen v1 v0 v2 vl hqc hset hI hdR
      subst hJ
      go_wp2_with fail
      rw [show L - 1 - i + (m + 2) + 1 - (L - 1 - i) = m + 2 + 1 by omega]
      refine HTM.out.mono ?_
      rintro e w4 ⟨rfl, D', ⟨hDl, hDd, hDv⟩, hdR4, hg4⟩
      have hI4 := HIN.out D' hDl hDd hDv
      have hdV4 : DB w4 w1.heap.size (digs V ++ List.replicate zb 0) := hdV.keep (hg4.block _ hdV.lt (fun h => by have := Option.some.inj h; omega))
      have hdQ4 : DB w4 w2.heap.size (List.replicate (L - 1 - i + 1) 0 ++ Q) := hdQ.keep (hg4.block _ hdQ.lt (fun h => by have := Option.some.inj h; omega))
      have hx4 := (grown_cell (i := L - 1 - i) hg4 (show w2.heap.size ≠ w.heap.size by omega) hdQ.lt).trans hxq
      have hf4 := hdQ4.frozen (L - 1 - i)
      have hb4 : Below w.heap.size w w4 := hbw.trans (grown_below hg4 (Nat.le_refl _) hbw.size)
      have hn4 := hdQ4.set (L - 1 - i) (by simp; omega) (vd / V)
      rw [HSET.out] at hn4
      have HN := Lib.hid hn4
      have HI4 := Lib.hid hI4
      clear hDl hDv hI4 hn4 hdQ4 hdQ hdV
      go_wp2
      go_roundw
      case rel =>
        refine ⟨i + 1, R.take (L - 1 - i) ++ D' ++ (R.drop (L - 1 - i)).drop (m + 2 + 1), vd / V :: Q, by omega, by go_num, by rw [List.length_cons, HQL.out], ?_, ?_, ?_, ?_, hb4.setCell (by show w.heap.size ≤ w2.heap.size; omega) _⟩
        · rw [show L - (i + 1) = L - 1 - i by omega]; exact HI4.out
        · exact hdR4.keep (heap_setCell_other _ _ _ _ (by show w.heap.size ≠ w2.heap.size; omega))
        · exact hdV4.keep (heap_setCell_other _ _ _ _ (by show w1.heap.size ≠ w2.heap.size; omega))
        · rw [show L - (i + 1) = L - 1 - i by omega]; exact HN.out
      case measure => simp [intOf]; omega
    · have hiL : i = L := by omega
      subst hiL
      rw [Nat.sub_self] at hI hdQ
      rw [List.replicate_zero, List.nil_append] at hdQ
      obtain ⟨hqv, hrv⟩ := hI.done
      obtain ⟨_, v0, _, _, ev, eu⟩ := HV.out
      have hp2 : 0 < 2 ^ s := Nat.pow_pos (by omega)
      rw [ev, eu, Nat.mul_div_mul_right _ _ hp2] at hqv
      rw [ev, eu, Nat.mul_mod_mul_right] at hrv
      have hrl := hI.rlen
      have hSR := shiftRight_any w.heap.size ((digs a).length + 1) s R [] hI.rdig (by omega) (by omega) wr (by rw [List.append_nil]; exact hdR)
      rw [hrl, hrv, Nat.mul_div_cancel _ hp2] at hSR
      have HSR := Lib.hid hSR
      have HQV : Hid (Q.length = i ∧ Dig Q ∧ val Q = a / b) := ⟨hQl, hI.qdig, hqv⟩
      clear hSR hqv hrv hrl hI ev eu hQl
      go_wp2_with fail
      refine HSR.out.mono ?_
      rintro e w5 ⟨rfl, O, ⟨hOl, hOd, hOv⟩, hdO, hg5⟩
      rw [List.append_nil] at hdO
      have hdQ5 : DB w5 w2.heap.size Q := hdQ.keep (hg5.block _ hdQ.lt (fun h => by have := Option.some.inj h; omega))
      have hb5 : Below w.heap.size w w5 := hbw.trans (grown_below hg5 (Nat.le_refl _) hbw.size)
      obtain ⟨q1, q2, q3⟩ := HQV.out
      have hT1 := trim_any w2.heap.size 0 i Q q2 (by rw [q1]; unfold maxLen; omega) (Nat.le_of_eq q1) w5 hdQ5.rd0
      rw [q1, q3] at hT1
      have hT2 := trim_any w.heap.size 0 ((digs a).length + 1) O hOd (by rw [hOl]; unfold maxLen; omega) (Nat.le_of_eq hOl) w5 hdO.rd0
      rw [hOl, hOv] at hT2
      obtain ⟨zq, hzq⟩ := norm Q q2
      obtain ⟨zr, hzr⟩ := norm O hOd
      have hcq : (digs (a / b)).length ≤ i := by
        have := congrArg List.length hzq
        rw [q1, q3, List.length_append] at this; omega
      have hcr : (digs (a % b)).length ≤ (digs a).length + 1 := by
        have := congrArg List.length hzr
        rw [hOl, hOv, List.length_append] at this; omega
      rw [q3] at hzq
      rw [hOv] at hzr
      rw [hzq] at hdQ5
      rw [hzr] at hdO
      have HT1 := Lib.hid hT1
      have HT2 := Lib.hid hT2
      have HF : Hid (DB w5 w2.heap.size (digs (a / b) ++ List.replicate zq 0) ∧ DB w5 w.heap.size (digs (a % b) ++ List.replicate zr 0) ∧ w2.heap.size ≠ w.heap.size ∧ w.heap.size ≤ w2.heap.size ∧ w.heap.size ≤ w.heap.size ∧ (digs (a / b)).length ≤ i ∧ (digs (a % b)).length ≤ (digs a).length + 1 ∧ Below w.heap.size w w5) :=
        ⟨hdQ5, hdO, by omega, by omega, Nat.le_refl _, hcq, hcr, hb5⟩
      clear q1 q3 hzq hzr hOl hOv hT1 hT2 hcq hcr hdQ hdR
      go_wp2_with fail
      refine HT1.out.mono ?_
      rintro e w6 ⟨rfl, rfl⟩
      go_wp2_with fail
      refine HT2.out.mono ?_
      rintro e w6 ⟨rfl, rfl⟩
      go_wp2
      go_ret2
      exact ⟨w2.heap.size, i, zq, w.heap.size, (digs a).length + 1, zr, rfl, HF.out⟩
end Go.Proofs.YthehcjfmokabfaaGreatDoor
