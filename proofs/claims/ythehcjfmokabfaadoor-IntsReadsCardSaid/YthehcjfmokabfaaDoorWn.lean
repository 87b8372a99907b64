/-
  Layer 1, walks N: guess, takeMultiple, divide.
-/
import Derived.Test.YthehcjfmokabfaaDoorWm
set_option linter.unusedVariables false
set_option linter.unusedSimpArgs false
namespace Go.Proofs.YthehcjfmokabfaaDoor
open Go.RowKit
attribute [local irreducible] lo hs sm s64 c64 d64 b64 mh ml pd pc qd qc val hiB str

/-- what guess returns -/
def gs (p2 p1 p0 t s : Nat) : Nat := if p2 = t then Bs - 1 else ((p2 * Bs + p1) * Bs + p0) / (t * Bs + s)

theorem two_le {d s r p0 : Nat} (hp : p0 < Bs) : (mh d s < r ∨ mh d s = r ∧ ml d s ≤ p0) ↔ d * s ≤ r * Bs + p0 := by
  have h1 := mul_spec d s
  have h2 := ml_lt d s
  generalize mh d s = a at *
  generalize ml d s = b at *
  rw [← h1, Nat.mul_comm Bs a]
  have mono : ∀ x y : Nat, x < y → x * Bs + Bs ≤ y * Bs := fun x y h => by rw [← Nat.succ_mul]; exact Nat.mul_le_mul_right _ h
  constructor
  · rintro (h | ⟨h, h'⟩)
    · have := mono a r h; omega
    · subst h; omega
  · intro h
    rcases Nat.lt_trichotomy a r with h3 | h3 | h3
    · exact .inl h3
    · subst h3; exact .inr ⟨rfl, by omega⟩
    · have := mono r a h3; omega

set_option maxHeartbeats 4000000 in
set_option maxRecDepth 100000 in
theorem guess_any (g o c gy oy cy : Nat) (P Y : List Nat) (n : Nat) (hP : Dig P) (hY : Dig Y) (hPl : P.length = n + 1) (hYl : Y.length = n) (h2 : 2 ≤ n) (hm : n ≤ 1099511627776) (hle : P[n]'(by omega) ≤ Y[n - 1]'(by omega)) (ht : 0 < Y[n - 1]'(by omega))
    (w : World) (hp : Rd w g o P) (hy : Rd w gy oy Y) :
    Calls Tryd.prog 102 #[.slice (some ⟨g, o, none⟩) P.length c, .slice (some ⟨gy, oy, none⟩) Y.length cy] w fun e w' =>
      e = .returned (.int .u64 ((gs (P[n]'(by omega)) (P[n - 1]'(by omega)) (P[n - 2]'(by omega)) (Y[n - 1]'(by omega)) (Y[n - 2]'(by omega)) : Nat) : Int)) ∧ ∃ k, w' = w.drewN k := by
  have c2 := hp n (by omega)
  have c1 := hp (n - 1) (by omega)
  have c0 := hp (n - 2) (by omega)
  have ct := hy (n - 1) (by omega)
  have cs := hy (n - 2) (by omega)
  have b1 := hP.get (n - 1) (by omega)
  have b0 := hP.get (n - 2) (by omega)
  have bt := hY.get (n - 1) (by omega)
  have bs := hY.get (n - 2) (by omega)
  generalize P[n]'(by omega) = p2 at *
  generalize P[n - 1]'(by omega) = p1 at *
  generalize P[n - 2]'(by omega) = p0 at *
  generalize Y[n - 1]'(by omega) = t at *
  generalize Y[n - 2]'(by omega) = s at *
  rw [hPl, hYl]
  clear hp hy hP hY hPl hYl
  have q1 : (1 : Int) ≤ (n : Int) := by omega
  have q2 : (2 : Int) ≤ (n : Int) := by omega
  unfold gs
  by_cases heq : p2 = t
  · rw [if_pos heq]
    have hbe : ((p2 : Int) == (t : Int)) = true := by simp; omega
    have HB : Hid (((Bs - 1 : Nat) : Int) = 18446744073709551615) := by show _ = _; unfold Bs; rfl
    clear heq
    go_enter Tryd.func102, Tryd.ntmps102
    go_wp2
    go_step3
    go_wp2
    go_quiet (fail)
    go_wp2
    rw [Exit.noGoto_ret]
    go_ret
    exact ⟨congrArg (fun k : Int => Ending.returned (.int .u64 k)) HB.out.symm, _, rfl⟩
  · rw [if_neg heq]
    have hbe : ((p2 : Int) == (t : Int)) = false := by simp; omega
    have hlt : p2 < t := by omega
    have hD := div64_all p2 p1 t hlt bt b1
    have hq0 : (p2 * Bs + p1) / t < Bs := (Nat.div_lt_iff_lt_mul ht).2 (by
      have : p2 * Bs + Bs ≤ t * Bs := by rw [← Nat.succ_mul]; exact Nat.mul_le_mul_right _ hlt
      rw [Nat.mul_comm Bs t]; omega)
    have hst : (p2 * Bs + p1) / t * t + (p2 * Bs + p1) % t = p2 * Bs + p1 := Nat.div_add_mod' _ _
    have hge : ((p2 * Bs + p1) * Bs + p0) / (t * Bs + s) ≤ (p2 * Bs + p1) / t := knu_start ht b0
    have hr0 : (p2 * Bs + p1) % t < Bs := Nat.lt_of_lt_of_le (Nat.mod_lt _ ht) (Nat.le_of_lt bt)
    generalize (p2 * Bs + p1) / t = d0 at *
    generalize (p2 * Bs + p1) % t = r0 at *
    generalize hPP : p2 * Bs + p1 = PP at *
    generalize hQ : (PP * Bs + p0) / (t * Bs + s) = Q3 at *
    have HD := Lib.hid hD
    have HI : Hid (d0 * t + r0 = PP ∧ Q3 ≤ d0 ∧ d0 < Bs ∧ r0 < Bs) := ⟨hst, hge, hq0, hr0⟩
    have HQ := Lib.hid hQ
    clear hD hst hge hq0 hr0 hPP hQ heq hlt hle
    go_enter Tryd.func102, Tryd.ntmps102
    go_wp2
    go_step3
    go_wp2
    go_quiet (fail)
    generalize hW1 : w.drewN nq = w1
    have e2 : w1.cell? ⟨g, o + n, none⟩ = some (.int .u64 (p2 : Int)) := by rw [← hW1]; exact c2
    have e1 : w1.cell? ⟨g, o + (n - 1), none⟩ = some (.int .u64 (p1 : Int)) := by rw [← hW1]; exact c1
    have e0 : w1.cell? ⟨g, o + (n - 2), none⟩ = some (.int .u64 (p0 : Int)) := by rw [← hW1]; exact c0
    have HW1 : Hid (∃ k, w1 = w.drewN k) := ⟨nq, hW1.symm⟩
    clear hW1 c2 c1 c0 ct cs
    go_wp2
    go_quiet ((go_at_call 73; exact Calls.quiet_of (HD.out _)))
    generalize hW2 : w1.drewN nq = w2
    have f0 : w2.cell? ⟨g, o + (n - 2), none⟩ = some (.int .u64 (p0 : Int)) := by rw [← hW2]; exact e0
    have HW2 : Hid (∃ k, w2 = w.drewN k) := by
      obtain ⟨k, hk⟩ := HW1.out
      exact ⟨k + nq, by rw [← hW2, hk, World.drewN_drewN]⟩
    clear hW2 e2 e1 e0 HW1 HD
    go_wp2
    go_step3
    go_wp2
    go_loop [8, 9] (fun x y => ∃ d r : Nat, x = .int .u64 d ∧ y = .int .u64 r ∧ d * t + r = PP ∧ Q3 ≤ d ∧ d < Bs ∧ r < Bs) (fun x _ => (intOf x).toNat)
    case atStart => exact ⟨d0, r0, rfl, rfl, HI.out⟩
    case round =>
      clear HI
      obtain ⟨d, r, rfl, rfl, hI, hge, hdB, hrB⟩ := hrel
      have HM := Lib.hid (mul64 d s hdB bs)
      by_cases ha : mh d s < r
      · have hex := knu_exit hI ht (by rw [HQ.out]; exact hge) ((two_le b0).1 (.inl ha))
        rw [HQ.out] at hex
        subst hex
        clear hI hge
        go_wp2_with (go_at_call 63; refine (HM.out _).mono ?_; rintro e w3 ⟨rfl, rfl⟩)
        rw [Exit.noGoto_ret]
        go_ret
        exact ⟨rfl, HW2.out⟩
      · by_cases hb : mh d s = r
        · by_cases hc : ml d s ≤ p0
          · have hex := knu_exit hI ht (by rw [HQ.out]; exact hge) ((two_le b0).1 (.inr ⟨hb, hc⟩))
            rw [HQ.out] at hex
            subst hex
            have hbe : (((mh d s : Nat) : Int) == (r : Int)) = true := by simp; omega
            clear hI hge hb
            go_wp2_with (go_at_call 63; refine (HM.out _).mono ?_; rintro e w3 ⟨rfl, rfl⟩)
            rw [Exit.noGoto_ret]
            go_ret
            exact ⟨rfl, HW2.out⟩
          · skip
            have hno : ¬ d * s ≤ r * Bs + p0 := fun h => by
              rcases (two_le b0).2 h with h1 | ⟨h1, h2⟩
              · exact ha h1
              · exact hc h2
            obtain ⟨hd1, hI', hge'⟩ := knu_step hI b0 bs ht (by rw [HQ.out]; exact hge) (Nat.lt_of_not_le hno)
            rw [HQ.out] at hge'
            have hadd := add64c r t
            have hsum := s64_spec r t 0
            have hs64 := s64_lt r t 0
            have hcle := c64_le (c := 0) hrB bt (by omega)
            clear hno hI hge
            have hbe : (((mh d s : Nat) : Int) == (r : Int)) = true := by simp; omega
            clear hb
            by_cases hcy : c64 r t 0 = 0
            · have hpos : decide (0 < c64 r t 0) = false := by simp; omega
              have H1 : Hid ((d - 1) * t + s64 r t 0 = PP ∧ Q3 ≤ d - 1 ∧ d - 1 < Bs ∧ s64 r t 0 < Bs) := ⟨by rw [hcy, Nat.mul_zero] at hsum; omega, hge', by omega, hs64⟩
              have HD1 : Hid (((d : Int) - 1) = ((d - 1 : Nat) : Int)) := by show _ = _; omega
              clear hsum hI' hge' hcy hcle hs64
              have hd2 : (1 : Int) ≤ (d : Int) := by omega
              have hd3 : (d : Int) ≤ 18446744073709551615 := by unfold Bs at hdB; omega
              go_wp2_with (go_at_call 63; refine (HM.out _).mono ?_; rintro e w3 ⟨rfl, rfl⟩)
              go_round
              case rel => exact ⟨d - 1, s64 r t 0, by rw [HD1.out], rfl, H1.out⟩
              case measure => simp [intOf]; omega
            · have hpos : decide (0 < c64 r t 0) = true := by simp; omega
              have hex : d - 1 = Q3 := by
                have hle : (d - 1) * s ≤ (r + t) * Bs + p0 := by
                  have h1 : (d - 1) * s ≤ Bs * Bs := Nat.mul_le_mul (by omega) (by omega)
                  have h2 : Bs * Bs ≤ (r + t) * Bs := Nat.mul_le_mul_right _ (by
                    have : Bs * 1 ≤ Bs * c64 r t 0 := Nat.mul_le_mul_left _ (by omega)
                    omega)
                  omega
                have := knu_exit hI' ht (by rw [HQ.out]; exact hge') hle
                rw [HQ.out] at this; exact this
              have HD1 : Hid (((d : Int) - 1) = (Q3 : Int)) := by show _ = _; omega
              clear hsum hI' hge' hcy hcle hs64 hex
              have hd2 : (1 : Int) ≤ (d : Int) := by omega
              have hd3 : (d : Int) ≤ 18446744073709551615 := by unfold Bs at hdB; omega
              go_wp2_with (go_at_call 63; refine (HM.out _).mono ?_; rintro e w3 ⟨rfl, rfl⟩)
              rw [Exit.noGoto_ret]
              go_ret
              exact ⟨congrArg (fun k : Int => Ending.returned (.int .u64 k)) HD1.out, HW2.out⟩
        · skip
          have hno : ¬ d * s ≤ r * Bs + p0 := fun h => by
            rcases (two_le b0).2 h with h1 | ⟨h1, h2⟩
            · exact ha h1
            · exact hb h1
          obtain ⟨hd1, hI', hge'⟩ := knu_step hI b0 bs ht (by rw [HQ.out]; exact hge) (Nat.lt_of_not_le hno)
          rw [HQ.out] at hge'
          have hadd := add64c r t
          have hsum := s64_spec r t 0
          have hs64 := s64_lt r t 0
          have hcle := c64_le (c := 0) hrB bt (by omega)
          clear hno hI hge
          have hbe : (((mh d s : Nat) : Int) == (r : Int)) = false := by simp; omega
          clear hb
          by_cases hcy : c64 r t 0 = 0
          · have hpos : decide (0 < c64 r t 0) = false := by simp; omega
            have H1 : Hid ((d - 1) * t + s64 r t 0 = PP ∧ Q3 ≤ d - 1 ∧ d - 1 < Bs ∧ s64 r t 0 < Bs) := ⟨by rw [hcy, Nat.mul_zero] at hsum; omega, hge', by omega, hs64⟩
            have HD1 : Hid (((d : Int) - 1) = ((d - 1 : Nat) : Int)) := by show _ = _; omega
            clear hsum hI' hge' hcy hcle hs64
            have hd2 : (1 : Int) ≤ (d : Int) := by omega
            have hd3 : (d : Int) ≤ 18446744073709551615 := by unfold Bs at hdB; omega
            go_wp2_with (go_at_call 63; refine (HM.out _).mono ?_; rintro e w3 ⟨rfl, rfl⟩)
            go_round
            case rel => exact ⟨d - 1, s64 r t 0, by rw [HD1.out], rfl, H1.out⟩
            case measure => simp [intOf]; omega
          · have hpos : decide (0 < c64 r t 0) = true := by simp; omega
            have hex : d - 1 = Q3 := by
              have hle : (d - 1) * s ≤ (r + t) * Bs + p0 := by
                have h1 : (d - 1) * s ≤ Bs * Bs := Nat.mul_le_mul (by omega) (by omega)
                have h2 : Bs * Bs ≤ (r + t) * Bs := Nat.mul_le_mul_right _ (by
                  have : Bs * 1 ≤ Bs * c64 r t 0 := Nat.mul_le_mul_left _ (by omega)
                  omega)
                omega
              have := knu_exit hI' ht (by rw [HQ.out]; exact hge') hle
              rw [HQ.out] at this; exact this
            have HD1 : Hid (((d : Int) - 1) = (Q3 : Int)) := by show _ = _; omega
            clear hsum hI' hge' hcy hcle hs64 hex
            have hd2 : (1 : Int) ≤ (d : Int) := by omega
            have hd3 : (d : Int) ≤ 18446744073709551615 := by unfold Bs at hdB; omega
            go_wp2_with (go_at_call 63; refine (HM.out _).mono ?_; rintro e w3 ⟨rfl, rfl⟩)
            rw [Exit.noGoto_ret]
            go_ret
            exact ⟨congrArg (fun k : Int => Ending.returned (.int .u64 k)) HD1.out, HW2.out⟩

/-- what takeMultiple asks of its two numbers, and what its guess is worth -/
theorem gs_ok (P Y : List Nat) (m : Nat) (hP : Dig P) (hY : Dig Y) (hPl : P.length = m + 3) (hYl : Y.length = m + 2) (htop : Bs ≤ 2 * Y[m + 1]) (hlt : val P < Bs * val Y) :
    P[m + 2] ≤ Y[m + 1] ∧ (gs P[m + 2] P[m + 1] P[m] Y[m + 1] Y[m] = val P / val Y ∨ gs P[m + 2] P[m + 1] P[m] Y[m + 1] Y[m] = val P / val Y + 1) ∧ gs P[m + 2] P[m + 1] P[m] Y[m + 1] Y[m] < Bs := by
  have hP0 := hP.get m (by omega)
  have hP1 := hP.get (m + 1) (by omega)
  have hP2 := hP.get (m + 2) (by omega)
  have hY0 := hY.get m (by omega)
  have hY1 := hY.get (m + 1) (by omega)
  have lp := val_lt (hP.take m)
  have ly := val_lt (hY.take m)
  rw [List.length_take, Nat.min_eq_left (by omega)] at lp ly
  have eP : val P = ((P[m + 2] * Bs + P[m + 1]) * Bs + P[m]) * Bs ^ m + val (P.take m) := by
    have e1 := take_snoc P m (by omega)
    have e2 := take_snoc P (m + 1) (by omega)
    have e3 := take_snoc P (m + 2) (by omega)
    rw [List.take_of_length_le (by omega)] at e3
    have p1 : Bs ^ (m + 1) = Bs ^ m * Bs := Nat.pow_succ _ _
    have p2 : Bs ^ (m + 2) = Bs ^ m * Bs * Bs := by rw [Nat.pow_succ, p1]
    rw [e3, e2, e1, p1, p2]
    generalize Bs ^ m = M
    have q1 : M * Bs * P[m + 1] = P[m + 1] * Bs * M := by ac_rfl
    have q2 : M * Bs * Bs * P[m + 2] = P[m + 2] * Bs * Bs * M := by ac_rfl
    rw [q1, q2, Nat.mul_comm M, Nat.add_mul, Nat.add_mul, Nat.add_mul]; omega
  have eY : val Y = (Y[m + 1] * Bs + Y[m]) * Bs ^ m + val (Y.take m) := by
    have e1 := take_snoc Y m (by omega)
    have e2 := take_snoc Y (m + 1) (by omega)
    rw [List.take_of_length_le (by omega)] at e2
    have p1 : Bs ^ (m + 1) = Bs ^ m * Bs := Nat.pow_succ _ _
    rw [e2, e1, p1]
    generalize Bs ^ m = M
    have q1 : M * Bs * Y[m + 1] = Y[m + 1] * Bs * M := by ac_rfl
    rw [q1, Nat.mul_comm M, Nat.add_mul]; omega
  generalize val (P.take m) = lu at *
  generalize val (Y.take m) = lv at *
  generalize val P = U at *
  generalize val Y = V at *
  generalize P[m + 2] = p2 at *
  generalize P[m + 1] = p1 at *
  generalize P[m] = p0 at *
  generalize Y[m + 1] = t at *
  generalize Y[m] = s at *
  generalize hM : Bs ^ m = M at *
  have hMp : 0 < M := by rw [← hM]; exact Nat.pow_pos Bs_pos
  have hBp := Bs_pos
  have ht : 0 < t := by omega
  have hYp : 0 < t * Bs + s := by have := Nat.mul_pos ht hBp; omega
  have hVp : 0 < V := by have := Nat.mul_pos hYp hMp; omega
  -- the quotient is a digit
  have hq : U / V < Bs := (Nat.div_lt_iff_lt_mul hVp).2 hlt
  have hle : p2 ≤ t := by
    have h1 : U < Bs * ((t * Bs + s + 1) * M) := by
      refine Nat.lt_of_lt_of_le hlt (Nat.mul_le_mul_left _ ?_)
      rw [Nat.succ_mul]; omega
    have h2 : (p2 * Bs * Bs) * M ≤ U := by
      rw [eP]; refine Nat.le_trans (Nat.mul_le_mul_right _ ?_) (Nat.le_add_right _ _)
      rw [Nat.add_mul]; omega
    have h3 : (p2 * Bs * Bs) * M < (Bs * (t * Bs + s + 1)) * M := by rw [Nat.mul_assoc Bs]; omega
    have h4 := Nat.lt_of_mul_lt_mul_right h3
    have h5 : Bs * (t * Bs + s + 1) ≤ Bs * ((t + 1) * Bs) := Nat.mul_le_mul_left _ (by rw [Nat.succ_mul]; omega)
    have h6 : p2 * Bs * Bs < (t + 1) * Bs * Bs := by rw [Nat.mul_comm ((t + 1) * Bs)]; omega
    have h7 := Nat.lt_of_mul_lt_mul_right (Nat.lt_of_mul_lt_mul_right h6)
    omega
  refine ⟨hle, ?_⟩
  unfold gs
  by_cases h : p2 = t
  · rw [if_pos h]
    have := knu_top (U := U) (V := V) (t := t) (N := Bs * M) (r := (p1 * Bs + p0) * M + lu) (s := s * M + lv) (by
      rw [eP, h]; simp only [Nat.add_mul, Nat.mul_assoc]; omega) (by rw [eY]; simp only [Nat.add_mul, Nat.mul_assoc]; omega) (by
      have : (s + 1) * M ≤ Bs * M := Nat.mul_le_mul_right _ hY0
      rw [Nat.succ_mul] at this; omega) htop hlt
    omega
  · rw [if_neg h]
    have k1 := knu_le (U := U) (V := V) eP eY lp hYp
    have hqY : U / V < t * Bs + s := by
      have : Bs * 1 ≤ t * Bs := by rw [Nat.mul_comm t]; exact Nat.mul_le_mul_left _ ht
      omega
    have k2 := knu_ge (U := U) (V := V) eP eY ly hYp hqY
    have k3 : ((p2 * Bs + p1) * Bs + p0) / (t * Bs + s) < Bs := by
      refine (Nat.div_lt_iff_lt_mul hYp).2 ?_
      have h1 : (p2 + 1) * Bs ≤ t * Bs := Nat.mul_le_mul_right _ (by omega)
      rw [Nat.succ_mul] at h1
      have h2 : (p2 * Bs + p1 + 1) * Bs ≤ t * Bs * Bs := Nat.mul_le_mul_right _ (by omega)
      rw [Nat.succ_mul] at h2
      rw [Nat.mul_add, Nat.mul_comm Bs (t * Bs)]; omega
    omega

theorem grown_drewN (w : World) (k : Nat) (r : Option Nat) : w.grownBy (w.drewN k) r := ⟨rfl, rfl, rfl, Nat.le_refl _, fun _ _ _ => rfl⟩
set_option maxHeartbeats 2000000 in
set_option maxRecDepth 100000 in
theorem takeMultiple_any (g gy c cy m : Nat) (A D C Y : List Nat) (hD : Dig D) (hY : Dig Y) (hDl : D.length = m + 3) (hYl : Y.length = m + 2) (hm : m ≤ 1000000000000) (htop : Bs ≤ 2 * Y[m + 1]) (hlt : val D < Bs * val Y) (hne : gy ≠ g)
    (w : World) (hdb : DB w g (A ++ D ++ C)) (hgy : gy < w.heap.size) (hr : Rd w gy 0 Y) :
    Calls Tryd.prog 90 #[.slice (some ⟨g, A.length, none⟩) D.length c, .slice (some ⟨gy, 0, none⟩) Y.length cy] w fun e w' =>
      e = .returned (.int .u64 ((val D / val Y : Nat) : Int)) ∧ ∃ D' : List Nat, (D'.length = D.length ∧ Dig D' ∧ val D' = val D % val Y) ∧ DB w' g (A ++ D' ++ C) ∧ w.grownBy w' (some g) := by
  obtain ⟨hle, hor, hGB⟩ := gs_ok D Y m hD hY hDl hYl htop hlt
  have hpr : Rd w g A.length D := fun i hi => by
    have h1 : A.length + i < (A ++ D ++ C).length := by simp; omega
    rw [hdb.cell _ h1]
    congr 3
    rw [List.getElem_append_left (by simp; omega), List.getElem_append_right (by omega)]
    simp
  have hG := guess_any g A.length c gy 0 cy D Y (m + 2) hD hY (by omega) (by omega) (by omega) (by omega) hle (by have := Bs_gt; simp only [show m + 2 - 1 = m + 1 from rfl]; omega) w hpr hr
  simp only [show m + 2 - 1 = m + 1 from rfl, show m + 2 - 2 = m from rfl] at hG
  generalize gs D[m + 2] D[m + 1] D[m] Y[m + 1] Y[m] = G at *
  have hT := fun w hdb hgy hr => takeProduct_any g gy 0 c cy G A D C Y hD hY hGB (by omega) (by omega) hne w hdb hgy hr
  have hAT := fun (D' : List Nat) (hD' : Dig D') (hl : D'.length = D.length) w hdb hgy hr => addTo_any g gy 0 c cy A D' C Y hD' hY (by omega : Y.length ≤ D'.length) (by omega : D'.length ≤ 1099511627776) hne w hdb hgy hr
  have hVY : 0 < val Y := by
    rcases Nat.eq_zero_or_pos (val Y) with h | h
    · rw [h] at hlt; omega
    · exact h
  have hdm := Nat.div_add_mod' (val D) (val Y)
  have hmlt := Nat.mod_lt (val D) hVY
  have hDB := val_lt hD
  have HG := Lib.hid hG
  have HT := Lib.hid hT
  have HA := Lib.hid hAT
  clear hG hT hAT hle
  rcases hor with hq | hq
  · -- the guess is the quotient
    have HQ := Lib.hid hq
    have HDM := Lib.hid hdm
    clear hq hdm
    clear htop
    clear hDl hYl
    go_enter Tryd.func90, Tryd.ntmps90
    go_wp2_with fail
    refine HG.out.mono ?_
    rintro e w1 ⟨rfl, k, rfl⟩
    go_wp2_with fail
    refine (HT.out (w.drewN k) hdb hgy hr).mono ?_
    rintro e w2 ⟨b, D', rfl, ⟨hl, hd, hv⟩, hdb2, hg2⟩
    have hD'lt := val_lt hd
    obtain rfl : b = false := by
      cases b with
      | false => rfl
      | true =>
        rw [HQ.out] at hv
        have := HDM.out
        rw [hl] at hD'lt
        simp at hv; omega
    have HV : Hid (val D' = val D % val Y) := by
      show _ = _
      rw [HQ.out] at hv
      have := HDM.out
      simp at hv; omega
    have HL := Lib.hid hl
    clear hv hl hD'lt
    go_wp2
    go_ret
    exact ⟨congrArg (fun k : Nat => Ending.returned (.int .u64 (k : Int))) HQ.out, D', ⟨HL.out, hd, HV.out⟩, hdb2, grown_trans (grown_drewN _ _ _) hg2⟩
  · -- the guess is one too great
    have HQ := Lib.hid hq
    have HDM := Lib.hid hdm
    clear hq hdm
    clear htop
    go_enter Tryd.func90, Tryd.ntmps90
    have HDL := Lib.hid hDl
    have HYL := Lib.hid hYl
    clear hDl hYl
    go_wp2_with fail
    refine HG.out.mono ?_
    rintro e w1 ⟨rfl, k, rfl⟩
    go_wp2_with fail
    refine (HT.out (w.drewN k) hdb hgy hr).mono ?_
    rintro e w2 ⟨b, D', rfl, ⟨hl, hd, hv⟩, hdb2, hg2⟩
    have hD'lt := val_lt hd
    obtain rfl : b = true := by
      cases b with
      | true => rfl
      | false =>
        rw [HQ.out, Nat.succ_mul] at hv
        have := HDM.out
        simp at hv; omega
    have hr2 : Rd w2 gy 0 Y := fun i hi => (grown_cell hg2 hne hgy).trans (hr i hi)
    have hA2 := HA.out D' hd hl w2 hdb2 (Nat.lt_of_lt_of_le hgy hg2.size) hr2
    have hval : (val D' + val Y) % Bs ^ D'.length = val D % val Y := by
      rw [HQ.out, Nat.succ_mul] at hv
      have := HDM.out
      have e : val D' + val Y = val D % val Y + Bs ^ D'.length * 1 := by rw [hl]; rw [if_pos rfl] at hv; omega
      rw [e, Nat.add_mul_mod_self_left, Nat.mod_eq_of_lt (by rw [hl]; exact Nat.lt_of_le_of_lt (Nat.mod_le _ _) hDB)]
    rw [hval, hl] at hA2
    have HA2 := Lib.hid hA2
    clear hv hl hD'lt hA2 hval
    have hG1 : (1 : Int) ≤ (G : Int) := by
      have : 1 ≤ G := by rw [HQ.out]; exact Nat.le_add_left _ _
      omega
    have hG2 : (G : Int) ≤ 18446744073709551615 := by unfold Bs at hGB; omega
    have HQ' : Hid ((G : Int) - 1 = ((val D / val Y : Nat) : Int)) := by
      show _ = _
      have := HQ.out
      generalize val D / val Y = q at *
      omega
    go_wp2_with fail
    refine HA2.out.mono ?_
    rintro e w3 ⟨rfl, D2, ⟨hl2, hd2, hv2⟩, hdb3, hg3⟩
    have HL2 := Lib.hid hl2
    have HV2 := Lib.hid hv2
    clear hl2 hv2
    go_wp2
    go_ret
    exact ⟨congrArg (fun k : Int => Ending.returned (.int .u64 k)) HQ'.out, D2, ⟨HL2.out, hd2, HV2.out⟩, hdb3, grown_trans (grown_trans (grown_drewN _ _ _) hg2) hg3⟩
end Go.Proofs.YthehcjfmokabfaaDoor
