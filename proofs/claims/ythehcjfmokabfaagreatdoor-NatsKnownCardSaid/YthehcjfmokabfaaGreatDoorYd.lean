/-
  Layer 1, walks K: math/bits.Div64.
-/
import Derived.Test.YthehcjfmokabfaaGreatDoorYc
set_option linter.unusedVariables false
set_option linter.unusedSimpArgs false
namespace Go.Proofs.YthehcjfmokabfaaGreatDoor
open Go.RowKit


theorem ret2 {k l : IntKind} {a b c d : Int} (h : a = b) (h' : c = d) : Ending.returned (.tuple #[.int k a, .int l c]) = Ending.returned (.tuple #[.int k b, .int l d]) := by rw [h, h']
/-- what holds at the head of a correction's round: d * T + e = U, and d is at least the quotient Q and at most 1 beyond the base b -/
structure LI (b T U Q d e : Nat) : Prop where
  eq : d * T + e = U
  ge : Q ≤ d
  top : d ≤ b + 1
  small : e < b
/-- the true quotient digit -/
def QD (b T S U P Q : Nat) : Prop := Q = (U * b + P) / (T * b + S) ∧ P < b ∧ Q < b ∧ S < b
theorem LI.good {b T U Q d e P S : Nat} (h : LI b T U Q d e) (hT : 1 ≤ T) (hQ : QD b T S U P Q) (hok : d * S ≤ e * b + P) : d = Q := by
  obtain ⟨hQ, hP, _, _⟩ := hQ
  refine Nat.le_antisymm ?_ h.ge
  rw [hQ, Nat.le_div_iff_mul_le (by have := Nat.mul_pos hT (show 0 < b by omega); omega), ← h.eq, Nat.add_mul, Nat.mul_add, Nat.mul_assoc]; omega
theorem LI.bad {b T U Q d e P S : Nat} (h : LI b T U Q d e) (hT : 1 ≤ T) (hQ : QD b T S U P Q) (hb : b ≤ d ∨ e * b + P < d * S) :
    1 ≤ d ∧ (e + T < b → LI b T U Q (d - 1) (e + T)) ∧ (b ≤ e + T → d - 1 = Q) := by
  obtain ⟨hQ, hP, hQb, hS⟩ := hQ
  have hY : 0 < T * b + S := by have := Nat.mul_pos hT (show 0 < b by omega); omega
  have hd : 1 ≤ d := by
    rcases Nat.eq_zero_or_pos d with h0 | h0
    · rw [h0] at hb; omega
    · exact h0
  have hge : Q ≤ d - 1 := by
    rcases hb with hb | hb
    · omega
    · refine Nat.le_sub_one_of_lt ?_
      rw [hQ, Nat.div_lt_iff_lt_mul hY, ← h.eq, Nat.add_mul, Nat.mul_add, Nat.mul_assoc]; omega
  have heq : (d - 1) * T + (e + T) = U := by
    obtain ⟨k, rfl⟩ : ∃ k, d = k + 1 := ⟨d - 1, by omega⟩
    have := h.eq
    rw [Nat.succ_mul] at this
    simp only [Nat.add_sub_cancel]; omega
  have htop := h.top
  refine ⟨hd, fun hs => ⟨heq, hge, by omega, hs⟩, fun hs => Nat.le_antisymm ?_ hge⟩
  rw [hQ, Nat.le_div_iff_mul_le hY, ← heq, Nat.add_mul, Nat.mul_add, Nat.mul_assoc]
  have h1 : (d - 1) * S ≤ b * S := Nat.mul_le_mul_right _ (by omega)
  have h2 : b * b ≤ (e + T) * b := Nat.mul_le_mul_right _ hs
  have h3 : b * S ≤ b * b := Nat.mul_le_mul_left _ (by omega)
  omega
theorem prod64 {d S : Nat} (hd : (d : Int) < 4294967296) (hS : (S : Int) < 4294967296) : IntKind.u64.wrap ((d : Int) * (S : Int)) = ((d * S : Nat) : Int) := by
  have h : d * S ≤ 4294967295 * 4294967295 := Nat.mul_le_mul (by omega) (by omega)
  rw [← Int.natCast_mul]
  exact IntWalk.u64_in _ (by omega)
set_option maxHeartbeats 8000000 in
set_option maxRecDepth 100000 in
theorem div64_core (hi lo y s Y T S U V P R q r A1 A2 A3 W q2 r2 B1 B2 B3 F Q Z M1 M2 res1 res2 : Nat) (t0 : ((y : Int) == 0) = false) (t1 : ((hi : Int) == 0) = false) (hlt : hi < y) (hs : s ≤ 63) (hm : min s 64 = s)
    (e1 : IntKind.u64.wrap ((y : Int) * 2 ^ s) = (Y : Int)) (e2 : (Y : Int) / 4294967296 = (T : Int)) (e3 : bits .and .u64 (Y : Int) 4294967295 = (S : Int))
    (e4 : bits .or .u64 (IntKind.u64.wrap ((hi : Int) * 2 ^ s)) ((lo : Int) / 2 ^ (64 - s)) = (U : Int)) (e5 : IntKind.u64.wrap ((lo : Int) * 2 ^ s) = (V : Int)) (e6 : (V : Int) / 4294967296 = (P : Int))
    (e7 : bits .and .u64 (V : Int) 4294967295 = (R : Int)) (e8 : (U : Int) / (T : Int) = (q : Int)) (b8 : IntKind.u64.wrap (q : Int) = (q : Int)) (e9 : IntKind.u64.wrap ((q : Int) * (T : Int)) = (M1 : Int)) (b9 : IntKind.u64.wrap ((U : Int) - (M1 : Int)) = (r : Int))
    (e10 : IntKind.u64.wrap ((U : Int) * 4294967296) = (A1 : Int)) (e11 : IntKind.u64.wrap ((A1 : Int) + (P : Int)) = (A2 : Int)) (e12 : IntKind.u64.wrap ((Q : Int) * (Y : Int)) = (A3 : Int)) (e13 : IntKind.u64.wrap ((A2 : Int) - (A3 : Int)) = (W : Int))
    (e14 : (W : Int) / (T : Int) = (q2 : Int)) (b14 : IntKind.u64.wrap (q2 : Int) = (q2 : Int)) (e15 : IntKind.u64.wrap ((q2 : Int) * (T : Int)) = (M2 : Int)) (b15 : IntKind.u64.wrap ((W : Int) - (M2 : Int)) = (r2 : Int))
    (e16 : IntKind.u64.wrap ((W : Int) * 4294967296) = (B1 : Int)) (e17 : IntKind.u64.wrap ((B1 : Int) + (R : Int)) = (B2 : Int)) (e18 : IntKind.u64.wrap ((Z : Int) * (Y : Int)) = (B3 : Int)) (e19 : IntKind.u64.wrap ((B2 : Int) - (B3 : Int)) = (F : Int))
    (hT : 1 ≤ T) (T32 : T < 4294967296) (S32 : S < 4294967296) (P32 : P < 4294967296) (R32 : R < 4294967296) (Q32 : Q < 4294967296) (Z32 : Z < 4294967296)
    (H1 : Hid (QD 4294967296 T S U P Q)) (H2 : Hid (QD 4294967296 T S W R Z)) (I1 : Hid (LI 4294967296 T U Q q r)) (I2 : Hid (LI 4294967296 T W Z q2 r2))
    (R1 : Hid ((Q : Int) * 4294967296 + (Z : Int) = (res1 : Int))) (R2 : Hid ((F : Int) / 2 ^ s = (res2 : Int)))
    (w : World) (HL : Hid (∀ w, Calls Tryz.prog 130 #[.int .u64 (y : Int)] w fun e w' => e = .returned (.int .i64 ((s : Nat) : Int)) ∧ w = w')) :
    Calls Tryz.prog 119 #[.int .u64 (hi : Int), .int .u64 (lo : Int), .int .u64 (y : Int)] w fun e w' =>
      e = .returned (.tuple #[.int .u64 (res1 : Int), .int .u64 (res2 : Int)]) ∧ w = w' := by
  go_enter Tryz.func119, Tryz.ntmps119
  go_wp2_with fail
  refine (HL.out _).mono ?_
  rintro e w1 ⟨rfl, rfl⟩
  go_wp2
  go_loop [15, 16] (fun x y => ∃ d e : Nat, x = .int .u64 d ∧ y = .int .u64 e ∧ LI 4294967296 T U Q d e) (fun x _ => (intOf x).toNat)
  case atStart => exact ⟨_, _, rfl, rfl, I1.out⟩
  case round =>
    obtain ⟨d, e, rfl, rfl, hI⟩ := hrel
    have he : (e : Int) < 4294967296 := by have := hI.small; omega
    have hT32 : (T : Int) < 4294967296 := by omega
    have hP32 : (P : Int) < 4294967296 := by omega
    have hd1 : (d : Int) ≤ 4294967297 := by have := hI.top; omega
    by_cases hdb : (4294967296 : Int) ≤ (d : Int)
    · obtain ⟨h1, hI', hQ⟩ := hI.bad hT (P := P) (S := S) H1.out (.inl (by omega))
      have HI := Lib.hid hI'
      have HQ := Lib.hid hQ
      clear hI hI' hQ
      by_cases hbr : (4294967296 : Int) ≤ (e : Int) + (T : Int)
      · have hdQ : (d : Int) - 1 = (Q : Int) := by have := HQ.out (by omega); omega
        clear HQ HI
        go_wp2
        clear he hd1 hdb
        go_loop [18, 16] (fun x y => ∃ d e : Nat, x = .int .u64 d ∧ y = .int .u64 e ∧ LI 4294967296 T W Z d e) (fun x _ => (intOf x).toNat)
        case atStart => exact ⟨_, _, rfl, rfl, I2.out⟩
        case round =>
          obtain ⟨d, e, rfl, rfl, hI⟩ := hrel
          have he : (e : Int) < 4294967296 := by have := hI.small; omega
          have hT32 : (T : Int) < 4294967296 := by omega
          have hP32 : (R : Int) < 4294967296 := by omega
          have hd1 : (d : Int) ≤ 4294967297 := by have := hI.top; omega
          by_cases hdb : (4294967296 : Int) ≤ (d : Int)
          · obtain ⟨h1, hI', hQ⟩ := hI.bad hT (P := R) (S := S) H2.out (.inl (by omega))
            have HI := Lib.hid hI'
            have HQ := Lib.hid hQ
            clear hI hI' hQ
            by_cases hbr : (4294967296 : Int) ≤ (e : Int) + (T : Int)
            · have hdQ : (d : Int) - 1 = (Z : Int) := by have := HQ.out (by omega); omega
              clear HQ HI
              go_wp2
              go_ret2
              exact ⟨ret2 R1.out R2.out, rfl⟩
            · go_wp2
              go_round
              case rel => exact ⟨d - 1, e + T, by rw [Int.ofNat_sub h1]; rfl, by go_num, HI.out (by omega)⟩
              case measure => simp [intOf]; omega
          · obtain ⟨m, hm⟩ : ∃ m, d * S = m := ⟨_, rfl⟩
            by_cases hts : (4294967296 : Int) * (e : Int) + (R : Int) < (m : Int)
            · obtain ⟨h1, hI', hQ⟩ := hI.bad hT (P := R) (S := S) H2.out (.inr (by omega))
              have HI := Lib.hid hI'
              have HQ := Lib.hid hQ
              have hprod := prod64 (d := d) (S := S) (by omega) (by omega)
              rw [hm] at hprod
              clear hI hI' hQ hm
              by_cases hbr : (4294967296 : Int) ≤ (e : Int) + (T : Int)
              · have hdQ : (d : Int) - 1 = (Z : Int) := by have := HQ.out (by omega); omega
                clear HQ HI
                go_wp2
                go_ret2
                exact ⟨ret2 R1.out R2.out, rfl⟩
              · go_wp2
                go_round
                case rel => exact ⟨d - 1, e + T, by rw [Int.ofNat_sub h1]; rfl, by go_num, HI.out (by omega)⟩
                case measure => simp [intOf]; omega
            · have hdQ := hI.good hT (P := R) (S := S) H2.out (by omega)
              have hprod := prod64 (d := d) (S := S) (by omega) (by omega)
              rw [hm] at hprod
              clear hI hm
              subst hdQ
              go_wp2
              go_ret2
              exact ⟨ret2 R1.out R2.out, rfl⟩
      
      · go_wp2
        go_round
        case rel => exact ⟨d - 1, e + T, by rw [Int.ofNat_sub h1]; rfl, by go_num, HI.out (by omega)⟩
        case measure => simp [intOf]; omega
    · obtain ⟨m, hm⟩ : ∃ m, d * S = m := ⟨_, rfl⟩
      by_cases hts : (4294967296 : Int) * (e : Int) + (P : Int) < (m : Int)
      · obtain ⟨h1, hI', hQ⟩ := hI.bad hT (P := P) (S := S) H1.out (.inr (by omega))
        have HI := Lib.hid hI'
        have HQ := Lib.hid hQ
        have hprod := prod64 (d := d) (S := S) (by omega) (by omega)
        rw [hm] at hprod
        clear hI hI' hQ hm
        by_cases hbr : (4294967296 : Int) ≤ (e : Int) + (T : Int)
        · have hdQ : (d : Int) - 1 = (Q : Int) := by have := HQ.out (by omega); omega
          clear HQ HI
          go_wp2
          clear he hd1 hdb
          go_loop [18, 16] (fun x y => ∃ d e : Nat, x = .int .u64 d ∧ y = .int .u64 e ∧ LI 4294967296 T W Z d e) (fun x _ => (intOf x).toNat)
          case atStart => exact ⟨_, _, rfl, rfl, I2.out⟩
          case round =>
            obtain ⟨d, e, rfl, rfl, hI⟩ := hrel
            have he : (e : Int) < 4294967296 := by have := hI.small; omega
            have hT32 : (T : Int) < 4294967296 := by omega
            have hP32 : (R : Int) < 4294967296 := by omega
            have hd1 : (d : Int) ≤ 4294967297 := by have := hI.top; omega
            by_cases hdb : (4294967296 : Int) ≤ (d : Int)
            · obtain ⟨h1, hI', hQ⟩ := hI.bad hT (P := R) (S := S) H2.out (.inl (by omega))
              have HI := Lib.hid hI'
              have HQ := Lib.hid hQ
              clear hI hI' hQ
              by_cases hbr : (4294967296 : Int) ≤ (e : Int) + (T : Int)
              · have hdQ : (d : Int) - 1 = (Z : Int) := by have := HQ.out (by omega); omega
                clear HQ HI
                go_wp2
                go_ret2
                exact ⟨ret2 R1.out R2.out, rfl⟩
              · go_wp2
                go_round
                case rel => exact ⟨d - 1, e + T, by rw [Int.ofNat_sub h1]; rfl, by go_num, HI.out (by omega)⟩
                case measure => simp [intOf]; omega
            · obtain ⟨m, hm⟩ : ∃ m, d * S = m := ⟨_, rfl⟩
              by_cases hts : (4294967296 : Int) * (e : Int) + (R : Int) < (m : Int)
              · obtain ⟨h1, hI', hQ⟩ := hI.bad hT (P := R) (S := S) H2.out (.inr (by omega))
                have HI := Lib.hid hI'
                have HQ := Lib.hid hQ
                have hprod := prod64 (d := d) (S := S) (by omega) (by omega)
                rw [hm] at hprod
                clear hI hI' hQ hm
                by_cases hbr : (4294967296 : Int) ≤ (e : Int) + (T : Int)
                · have hdQ : (d : Int) - 1 = (Z : Int) := by have := HQ.out (by omega); omega
                  clear HQ HI
                  go_wp2
                  go_ret2
                  exact ⟨ret2 R1.out R2.out, rfl⟩
                · go_wp2
                  go_round
                  case rel => exact ⟨d - 1, e + T, by rw [Int.ofNat_sub h1]; rfl, by go_num, HI.out (by omega)⟩
                  case measure => simp [intOf]; omega
              · have hdQ := hI.good hT (P := R) (S := S) H2.out (by omega)
                have hprod := prod64 (d := d) (S := S) (by omega) (by omega)
                rw [hm] at hprod
                clear hI hm
                subst hdQ
                go_wp2
                go_ret2
                exact ⟨ret2 R1.out R2.out, rfl⟩
        
        · go_wp2
          go_round
          case rel => exact ⟨d - 1, e + T, by rw [Int.ofNat_sub h1]; rfl, by go_num, HI.out (by omega)⟩
          case measure => simp [intOf]; omega
      · have hdQ := hI.good hT (P := P) (S := S) H1.out (by omega)
        have hprod := prod64 (d := d) (S := S) (by omega) (by omega)
        rw [hm] at hprod
        clear hI hm
        subst hdQ
        go_wp2
        clear he hd1 hdb
        go_loop [18, 16] (fun x y => ∃ d e : Nat, x = .int .u64 d ∧ y = .int .u64 e ∧ LI 4294967296 T W Z d e) (fun x _ => (intOf x).toNat)
        case atStart => exact ⟨_, _, rfl, rfl, I2.out⟩
        case round =>
          obtain ⟨d, e, rfl, rfl, hI⟩ := hrel
          have he : (e : Int) < 4294967296 := by have := hI.small; omega
          have hT32 : (T : Int) < 4294967296 := by omega
          have hP32 : (R : Int) < 4294967296 := by omega
          have hd1 : (d : Int) ≤ 4294967297 := by have := hI.top; omega
          by_cases hdb : (4294967296 : Int) ≤ (d : Int)
          · obtain ⟨h1, hI', hQ⟩ := hI.bad hT (P := R) (S := S) H2.out (.inl (by omega))
            have HI := Lib.hid hI'
            have HQ := Lib.hid hQ
            clear hI hI' hQ
            by_cases hbr : (4294967296 : Int) ≤ (e : Int) + (T : Int)
            · have hdQ : (d : Int) - 1 = (Z : Int) := by have := HQ.out (by omega); omega
              clear HQ HI
              go_wp2
              go_ret2
              exact ⟨ret2 R1.out R2.out, rfl⟩
            · go_wp2
              go_round
              case rel => exact ⟨d - 1, e + T, by rw [Int.ofNat_sub h1]; rfl, by go_num, HI.out (by omega)⟩
              case measure => simp [intOf]; omega
          · obtain ⟨m, hm⟩ : ∃ m, d * S = m := ⟨_, rfl⟩
            by_cases hts : (4294967296 : Int) * (e : Int) + (R : Int) < (m : Int)
            · obtain ⟨h1, hI', hQ⟩ := hI.bad hT (P := R) (S := S) H2.out (.inr (by omega))
              have HI := Lib.hid hI'
              have HQ := Lib.hid hQ
              have hprod := prod64 (d := d) (S := S) (by omega) (by omega)
              rw [hm] at hprod
              clear hI hI' hQ hm
              by_cases hbr : (4294967296 : Int) ≤ (e : Int) + (T : Int)
              · have hdQ : (d : Int) - 1 = (Z : Int) := by have := HQ.out (by omega); omega
                clear HQ HI
                go_wp2
                go_ret2
                exact ⟨ret2 R1.out R2.out, rfl⟩
              · go_wp2
                go_round
                case rel => exact ⟨d - 1, e + T, by rw [Int.ofNat_sub h1]; rfl, by go_num, HI.out (by omega)⟩
                case measure => simp [intOf]; omega
            · have hdQ := hI.good hT (P := R) (S := S) H2.out (by omega)
              have hprod := prod64 (d := d) (S := S) (by omega) (by omega)
              rw [hm] at hprod
              clear hI hm
              subst hdQ
              go_wp2
              go_ret2
              exact ⟨ret2 R1.out R2.out, rfl⟩
      

theorem wrapN (n : Nat) (h : n < 18446744073709551616) : IntKind.u64.wrap (n : Int) = (n : Int) := IntWalk.u64_in _ (by omega)
theorem wrapM (n : Nat) : IntKind.u64.wrap (n : Int) = ((n % 18446744073709551616 : Nat) : Int) := by rw [IntKind.wrap_u64]; omega
theorem div64_any (hi lo y : Nat) (h0 : hi ≠ 0) (hlt : hi < y) (hy : y < Bs) (hlo : lo < Bs) (w : World) :
    Calls Tryz.prog 119 #[.int .u64 (hi : Int), .int .u64 (lo : Int), .int .u64 (y : Int)] w fun e w' =>
      e = .returned (.tuple #[.int .u64 (((hi * Bs + lo) / y : Nat) : Int), .int .u64 (((hi * Bs + lo) % y : Nat) : Int)]) ∧ w = w' := by
  obtain ⟨hs, hn, hYB⟩ := lz_spec y (by omega) hy
  have hHL : ∀ w, Calls Tryz.prog 130 #[.int .u64 (y : Int)] w fun e w' => e = .returned (.int .i64 ((lz y : Nat) : Int)) ∧ w = w' := fun w => by
    have hbl := bl_le y (by rw [← Bs_pow]; exact hy)
    refine (Tryz.bits_LeadingZeros64 (y : Int) w (by omega) (by unfold Bs at hy; omega)).mono fun e w' ⟨he, hw⟩ => ⟨?_, hw.symm⟩
    rw [he, Int.toNat_natCast]
    refine congrArg (fun k : Int => Ending.returned (.int .i64 k)) ?_
    unfold lz; omega
  generalize hsv : lz y = s at *
  obtain ⟨b, hb⟩ : ∃ b : Nat, b = 4294967296 := ⟨_, rfl⟩
  have hbb : b * b = Bs := by rw [hb]; rfl
  have hb0 : 0 < b := by omega
  obtain ⟨Y, hYd⟩ : ∃ Y, Y = y * 2 ^ s := ⟨_, rfl⟩
  have hp : 0 < 2 ^ s := Nat.pow_pos (by omega)
  have hdvd : b * b = 2 ^ (64 - s) * 2 ^ s := by rw [hbb, Bs_pow, ← Nat.pow_add]; congr 1; omega
  have hdiv : b * b / 2 ^ s = 2 ^ (64 - s) := by rw [hdvd, Nat.mul_div_cancel _ hp]
  obtain ⟨U, hUd⟩ : ∃ U, U = hi * 2 ^ s + lo / (b * b / 2 ^ s) := ⟨_, rfl⟩
  obtain ⟨V, hVd⟩ : ∃ V, V = lo * 2 ^ s % (b * b) := ⟨_, rfl⟩
  obtain ⟨hmain, hUY⟩ := div_parts hb0 hlt (by rw [hbb]; exact hlo) hp ⟨_, hdvd⟩ hYd hUd hVd
  have hVB : V < b * b := by rw [hVd]; exact Nat.mod_lt _ (Nat.mul_pos hb0 hb0)
  rw [← hYd] at hn hYB
  obtain ⟨T, hTd⟩ : ∃ T, T = Y / b := ⟨_, rfl⟩
  obtain ⟨S, hSd⟩ : ∃ S, S = Y % b := ⟨_, rfl⟩
  obtain ⟨P, hPd⟩ : ∃ P, P = V / b := ⟨_, rfl⟩
  obtain ⟨R, hRd⟩ : ∃ R, R = V % b := ⟨_, rfl⟩
  have hYe : Y = T * b + S := by rw [hTd, hSd]; exact (Nat.div_add_mod' _ _).symm
  have hVe : V = P * b + R := by rw [hPd, hRd]; exact (Nat.div_add_mod' _ _).symm
  have hSb : S < b := by rw [hSd]; exact Nat.mod_lt _ hb0
  have hRb : R < b := by rw [hRd]; exact Nat.mod_lt _ hb0
  have hPb : P < b := by rw [hPd]; exact (Nat.div_lt_iff_lt_mul hb0).2 hVB
  have hTb : T < b := by rw [hTd]; exact (Nat.div_lt_iff_lt_mul hb0).2 (by rw [hbb]; exact hYB)
  have hT2 : b ≤ 2 * T := by
    unfold Bs at hn; rw [hb] at hYe hSb ⊢; omega
  have hT1 : 1 ≤ T := by omega
  obtain ⟨Q, hQd⟩ : ∃ Q, Q = (U * b + P) / Y := ⟨_, rfl⟩
  obtain ⟨W, hWd⟩ : ∃ W, W = (U * b + P) % Y := ⟨_, rfl⟩
  obtain ⟨Z, hZd⟩ : ∃ Z, Z = (W * b + R) / Y := ⟨_, rfl⟩
  obtain ⟨F, hFd⟩ : ∃ F, F = (W * b + R) % Y := ⟨_, rfl⟩
  obtain ⟨hQb, hZb, hWY, hFY, hq, hr⟩ := div_digits hb0 hUY hPb hRb hQd hWd hZd hFd
  rw [← hVe, ← hmain, hYd] at hq hr
  rw [Nat.mul_div_mul_right _ _ hp, hbb] at hq
  rw [Nat.mul_mod_mul_right, hbb] at hr
  have hres2 : F / 2 ^ s = (hi * Bs + lo) % y := by rw [← hr, Nat.mul_div_cancel _ hp]
  have LIs : ∀ u p D, u < Y → p < b → D = (u * b + p) / Y → LI 4294967296 T u D (u / T) (u % T) := fun u p D hu hp hD => by
    rw [← hb]
    refine ⟨Nat.div_add_mod' _ _, ?_, ?_, ?_⟩
    · rw [hD, hYe]; exact knu_start' hT1 hp
    · refine Nat.le_of_lt_succ ((Nat.div_lt_iff_lt_mul hT1).2 ?_)
      have h1 : (b + 1 + 1) * T = T * b + 2 * T := by rw [Nat.mul_comm, Nat.mul_add, Nat.mul_add]; omega
      show u < (b + 1 + 1) * T
      omega
    · exact Nat.lt_of_lt_of_le (Nat.mod_lt _ hT1) (Nat.le_of_lt hTb)
  have I1 := LIs U P Q hUY hPb hQd
  have I2 := LIs W R Z hWY hRb hZd
  have H1 : QD 4294967296 T S U P Q := by rw [← hb]; exact ⟨by rw [hQd, hYe], hPb, hQb, hSb⟩
  have H2 : QD 4294967296 T S W R Z := by rw [← hb]; exact ⟨by rw [hZd, hYe], hRb, hZb, hSb⟩
  have hYB' : Y < 18446744073709551616 := by unfold Bs at hYB; exact hYB
  have sub : ∀ (x x' v : Nat), x = x' + v → v < 18446744073709551616 → IntKind.u64.wrap (((x % 18446744073709551616 : Nat) : Int) - ((x' % 18446744073709551616 : Nat) : Int)) = (v : Int) := fun x x' v h hv => by
    rw [IntKind.wrap_u64]; omega
  have add : ∀ (x p : Nat), IntKind.u64.wrap (((x % 18446744073709551616 : Nat) : Int) + (p : Int)) = (((x + p) % 18446744073709551616 : Nat) : Int) := fun x p => by
    rw [IntKind.wrap_u64]; omega
  have mulw : ∀ x p : Nat, IntKind.u64.wrap ((x : Int) * (p : Int)) = ((x * p % 18446744073709551616 : Nat) : Int) := fun x p => by rw [← Int.natCast_mul]; exact wrapM _
  have hQY : U * b + P = Q * Y + W := by rw [hQd, hWd]; exact (Nat.div_add_mod' _ _).symm
  have hZY : W * b + R = Z * Y + F := by rw [hZd, hFd]; exact (Nat.div_add_mod' _ _).symm
  have quo : ∀ u, u < Y → IntKind.u64.wrap ((u / T : Nat) : Int) = ((u / T : Nat) : Int) ∧ IntKind.u64.wrap (((u / T : Nat) : Int) * (T : Int)) = ((u / T * T : Nat) : Int) ∧ IntKind.u64.wrap ((u : Int) - ((u / T * T : Nat) : Int)) = ((u % T : Nat) : Int) := fun u hu => by
    have h1 := Nat.div_add_mod' u T
    have h2 : u / T ≤ u := Nat.div_le_self _ _
    refine ⟨wrapN _ (by omega), ?_, ?_⟩
    · rw [← Int.natCast_mul]; exact wrapN _ (by omega)
    · rw [show (u : Int) - ((u / T * T : Nat) : Int) = ((u % T : Nat) : Int) by omega]; exact wrapN _ (by omega)
  have hUor : bits .or .u64 (IntKind.u64.wrap ((hi : Int) * 2 ^ s)) ((lo : Int) / 2 ^ (64 - s)) = (U : Int) := by
    have h1 : hi * 2 ^ s < 18446744073709551616 := Nat.lt_of_le_of_lt (Nat.le_trans (Nat.le_add_right _ _) (Nat.le_of_eq hUd.symm)) (Nat.lt_trans hUY hYB')
    have e1 : ((hi : Int) * 2 ^ s) = ((2 ^ s * hi : Nat) : Int) := by push_cast; rw [Int.mul_comm]
    have e2 : ((lo : Int) / 2 ^ (64 - s)) = ((lo / 2 ^ (64 - s) : Nat) : Int) := by push_cast; rfl
    rw [Nat.mul_comm] at h1
    rw [e1, e2, wrapN _ h1]
    have h3 : lo / 2 ^ (64 - s) < 2 ^ s := by
      refine (Nat.div_lt_iff_lt_mul (Nat.pow_pos (by omega))).2 ?_
      rw [Nat.mul_comm, ← hdvd, hbb]; exact hlo
    have hUlt : U < 18446744073709551616 := by omega
    rw [hUd, hdiv, Nat.mul_comm] at hUlt
    rw [or_add s hi _ h3 hUlt, hUd, hdiv, Nat.mul_comm]
  refine div64_core hi lo y s Y T S U V P R (U / T) (U % T) (U * b % 18446744073709551616) ((U * b + P) % 18446744073709551616) (Q * Y % 18446744073709551616) W (W / T) (W % T) (W * b % 18446744073709551616) ((W * b + R) % 18446744073709551616) (Z * Y % 18446744073709551616) F Q Z (U / T * T) (W / T * T) _ _
    (by simp; omega) (by simp; omega) hlt hs (by omega) ?_ ?_ ?_ hUor ?_ ?_ ?_ (by push_cast; rfl) (quo U hUY).1 (quo U hUY).2.1 (quo U hUY).2.2 ?_ (add _ _) (mulw _ _) (sub _ _ W hQY (by omega))
    (by push_cast; rfl) (quo W hWY).1 (quo W hWY).2.1 (quo W hWY).2.2 ?_ (add _ _) (mulw _ _) (sub _ _ F hZY (by omega)) hT1 (by omega) (by omega) (by omega) (by omega) (by omega) (by omega) H1 H2 I1 I2 ?_ ?_ w hHL
  · rw [show (y : Int) * 2 ^ s = ((y * 2 ^ s : Nat) : Int) by push_cast; rfl, ← hYd]; exact wrapN _ hYB'
  · rw [hTd, hb]; omega
  · rw [Mul64.maskN _ hYB', hSd, hb]
  · rw [show (lo : Int) * 2 ^ s = ((lo * 2 ^ s : Nat) : Int) by push_cast; rfl, wrapM, hVd, hbb]; rfl
  · rw [hPd, hb]; omega
  · rw [Mul64.maskN _ (by rw [hbb] at hVB; exact hVB), hRd, hb]
  · have := mulw U b; rw [hb] at this ⊢; exact this
  · have := mulw W b; rw [hb] at this ⊢; exact this
  · show _ = _; rw [hq, hb, Int.natCast_add, Int.natCast_mul]; rfl
  · show _ = _; rw [← hres2]; push_cast; rfl
end Go.Proofs.YthehcjfmokabfaaGreatDoor

/-
  Layer 1, walks G: addTo, takeFrom: digits added and taken in place.
-/
namespace Go.Proofs.YthehcjfmokabfaaGreatDoor
open Go.RowKit

theorem set_mid (A P R C : List Nat) (x s : Nat) : (A ++ (P ++ x :: R) ++ C).set (A.length + P.length) s = A ++ ((P ++ [s]) ++ R) ++ C := by
  rw [List.append_assoc, List.set_append_right _ _ (by omega), Nat.add_sub_cancel_left, List.append_assoc, List.set_append_right _ _ (by omega), Nat.sub_self]
  simp
theorem get_mid (A P R C : List Nat) (x : Nat) (h : A.length + P.length < (A ++ (P ++ x :: R) ++ C).length) : (A ++ (P ++ x :: R) ++ C)[A.length + P.length] = x := by
  simp [List.getElem_append_right]
theorem drop_cons (D : List Nat) (k : Nat) (h : k < D.length) : D.drop k = D[k] :: D.drop (k + 1) := List.drop_eq_getElem_cons h
theorem take_snoc (D : List Nat) (k : Nat) (h : k < D.length) : val (D.take (k + 1)) = val (D.take k) + Bs ^ k * D[k] := by
  rw [List.take_succ_eq_append_getElem h, val_snoc, List.length_take, Nat.min_eq_left (Nat.le_of_lt h)]
theorem grown_refl (w : World) (r : Option Nat) : w.grownBy w r := ⟨rfl, rfl, rfl, Nat.le_refl _, fun _ _ _ => rfl⟩
theorem grown_trans {a b c : World} {r : Option Nat} (h : a.grownBy b r) (k : b.grownBy c r) : a.grownBy c r :=
  ⟨k.os.trans h.os, k.tape.trans h.tape, k.output.trans h.output, Nat.le_trans h.size k.size, fun i hi hr => (k.block i (Nat.lt_of_lt_of_le hi h.size) hr).trans (h.block i hi hr)⟩
theorem grown_set (w : World) (g i : Nat) (v : Value) : w.grownBy (w.setCell ⟨g, i, none⟩ v) (some g) :=
  ⟨rfl, rfl, rfl, by simp, fun k _ hne => heap_setCell_other w _ k v (fun h => hne (by rw [h]))⟩
theorem grown_cell {w w' : World} {g gy i : Nat} (h : w.grownBy w' (some g)) (hne : gy ≠ g) (hlt : gy < w.heap.size) : w'.cell? ⟨gy, i, none⟩ = w.cell? ⟨gy, i, none⟩ :=
  World.cell?_of_block (a := ⟨gy, i, none⟩) (h.block gy hlt (fun e => hne (Option.some.inj e)))
theorem grown_below {w w' : World} {g B : Nat} (h : w.grownBy w' (some g)) (hB : B ≤ g) (hs : B ≤ w.heap.size) : Below B w w' :=
  ⟨h.os, h.tape, h.output, h.size, fun k hk => h.block k (by omega) (fun e => by have := Option.some.inj e; omega)⟩
theorem below_grown {w w' : World} {g : Nat} (h : Below w.heap.size w w') : w.grownBy w' (some g) := ⟨h.os, h.tape, h.output, h.size, fun k hk _ => h.block k hk⟩

/-- After k places: the sum's digits so far, and the carry. -/
structure AddI (D Y : List Nat) (k carry : Nat) (P : List Nat) : Prop where
  len : P.length = k
  dig : Dig P
  le : carry ≤ 1
  eq : val P + Bs ^ k * carry = val (D.take k) + val (Y.take k)
theorem AddI.start (D Y : List Nat) : AddI D Y 0 0 [] := ⟨rfl, Dig.nil, by omega, by simp [val]⟩
theorem AddI.step {D Y P : List Nat} {k carry y : Nat} (h : AddI D Y k carry P) (hD : Dig D) (hk : k < D.length) (hy : y < Bs) (hY : val (Y.take (k + 1)) = val (Y.take k) + Bs ^ k * y) :
    AddI D Y (k + 1) (c64 D[k] y carry) (P ++ [s64 D[k] y carry]) := by
  refine ⟨by rw [List.length_append, h.len]; rfl, h.dig.app (Dig.cons (s64_lt _ _ _) Dig.nil), c64_le (hD.get k hk) hy h.le, ?_⟩
  have e := s64_spec D[k] y carry
  have e1 : Bs ^ (k + 1) * c64 D[k] y carry = Bs ^ k * (Bs * c64 D[k] y carry) := by rw [Nat.pow_succ, Nat.mul_assoc]
  rw [val_snoc, h.len, take_snoc D k hk, hY, e1, Nat.add_assoc, ← Nat.mul_add, e, Nat.mul_add, Nat.mul_add]
  have := h.eq
  omega
theorem AddI.done {D Y P : List Nat} {k carry : Nat} (h : AddI D Y k carry P) (hD : Dig D) (hk : k ≤ D.length) (hY : Y.length ≤ k) (hend : k = D.length ∨ carry = 0) :
    (P ++ D.drop k).length = D.length ∧ Dig (P ++ D.drop k) ∧ val (P ++ D.drop k) = (val D + val Y) % Bs ^ D.length := by
  have hl : (P ++ D.drop k).length = D.length := by rw [List.length_append, h.len, List.length_drop]; omega
  have hd : Dig (P ++ D.drop k) := h.dig.app (hD.drop k)
  refine ⟨hl, hd, ?_⟩
  have hlt := val_lt hd
  rw [hl] at hlt
  have hs : val D = val (D.take k) + Bs ^ k * val (D.drop k) := by
    conv => lhs; rw [← List.take_append_drop k D, val_append, List.length_take, Nat.min_eq_left hk]
  have he := h.eq
  rw [List.take_of_length_le hY] at he
  have hv : val (P ++ D.drop k) = val P + Bs ^ k * val (D.drop k) := by rw [val_append, h.len]
  rcases hend with h0 | h0
  · subst h0
    have e : val D + val Y = val (P ++ D.drop D.length) + Bs ^ D.length * carry := by omega
    rw [e, Nat.add_mul_mod_self_left, Nat.mod_eq_of_lt hlt]
  · rw [h0] at he
    rw [show val D + val Y = val (P ++ D.drop k) by omega, Nat.mod_eq_of_lt hlt]

set_option maxHeartbeats 1000000 in
set_option maxRecDepth 100000 in
theorem addTo_any (g gy oy c cy : Nat) (A D C Y : List Nat) (hD : Dig D) (hY : Dig Y) (hle : Y.length ≤ D.length) (hl : D.length ≤ 1099511627776) (hne : gy ≠ g) (w : World) (hdb : DB w g (A ++ D ++ C)) (hgy : gy < w.heap.size) (hr : Rd w gy oy Y) :
    Calls Tryz.prog 97 #[.slice (some ⟨g, A.length, none⟩) D.length c, .slice (some ⟨gy, oy, none⟩) Y.length cy] w fun e w' =>
      e = .returned (.tuple #[]) ∧ ∃ D' : List Nat, (D'.length = D.length ∧ Dig D' ∧ val D' = (val D + val Y) % Bs ^ D.length) ∧ DB w' g (A ++ D' ++ C) ∧ w.grownBy w' (some g) := by
  go_enter Tryz.func97, Tryz.ntmps97
  go_wp2
  go_loopw [4, 10] (fun x y wr => ∃ (k carry : Nat) (P : List Nat), k ≤ Y.length ∧ x = .int .u64 carry ∧ y = .int .i64 k ∧ AddI D Y k carry P ∧ DB wr g (A ++ (P ++ D.drop k) ++ C) ∧ w.grownBy wr (some g)) (fun _ y _ => Y.length - (intOf y).toNat)
  case atStart => exact ⟨0, 0, [], Nat.zero_le _, rfl, rfl, AddI.start D Y, by simpa using hdb, grown_refl w _⟩
  case round =>
    obtain ⟨k, carry, P, hk, rfl, rfl, hI, hdb1, hg1⟩ := hrel
    by_cases hky : k < Y.length
    · have hkd : k < D.length := by omega
      have hPl := hI.len
      have hc1 := hI.le
      have hstep := hI.step hD hkd (hY.get k hky) (take_snoc Y k hky)
      rw [drop_cons D k hkd] at hdb1
      have hlen : A.length + P.length < (A ++ (P ++ D[k] :: D.drop (k + 1)) ++ C).length := by simp; omega
      have hcell := hdb1.cell _ hlen
      rw [get_mid] at hcell
      have hfz := hdb1.frozen (A.length + P.length)
      have hnext := hdb1.set _ hlen (s64 D[k] Y[k] carry)
      rw [set_mid] at hnext
      rw [hPl] at hcell hfz hnext
      have hyc := (grown_cell (i := oy + k) hg1 hne hgy).trans (hr k hky)
      have hadd := add64 D[k] Y[k] carry hc1
      generalize D[k] = dk at *
      generalize Y[k] = yk at *
      have HN := Lib.hid hnext
      have HS := Lib.hid hstep
      clear hnext hstep hPl hlen hI hdb1
      go_wp2
      go_roundw
      case rel => exact ⟨k + 1, _, _, by omega, rfl, by go_num, HS.out, HN.out, grown_trans hg1 (grown_set _ _ _ _)⟩
      case measure => simp [intOf]; omega
    · have hky' : k = Y.length := by omega
      subst hky'
      go_wp2
      go_loopw [4, 7] (fun x y wr => ∃ (k carry : Nat) (P : List Nat), Y.length ≤ k ∧ k ≤ D.length ∧ x = .int .u64 carry ∧ y = .int .i64 k ∧ AddI D Y k carry P ∧ DB wr g (A ++ (P ++ D.drop k) ++ C) ∧ w.grownBy wr (some g)) (fun _ y _ => D.length - (intOf y).toNat)
      case atStart => exact ⟨Y.length, carry, P, Nat.le_refl _, hle, rfl, rfl, hI, hdb1, hg1⟩
      case round =>
        clear hI hdb1 hg1
        obtain ⟨k, carry, P, hYk, hkD, rfl, rfl, hI, hdb1, hg1⟩ := hrel
        by_cases hkd : k < D.length
        · by_cases h0 : carry = 0
          · have HE := Lib.hid (hI.done hD hkD hYk (.inr h0))
            subst h0
            clear hI
            go_wp2
            go_end0
            exact ⟨rfl, _, HE.out, hdb1, hg1⟩
          · have hPl := hI.len
            have hc1 := hI.le
            have hYt : val (Y.take (k + 1)) = val (Y.take k) + Bs ^ k * 0 := by
              rw [List.take_of_length_le (by omega), List.take_of_length_le (by omega)]; simp
            have hstep := hI.step hD hkd Bs_pos hYt
            rw [drop_cons D k hkd] at hdb1
            have hlen : A.length + P.length < (A ++ (P ++ D[k] :: D.drop (k + 1)) ++ C).length := by simp; omega
            have hcell := hdb1.cell _ hlen
            rw [get_mid] at hcell
            have hfz := hdb1.frozen (A.length + P.length)
            have hnext := hdb1.set _ hlen (s64 D[k] 0 carry)
            rw [set_mid] at hnext
            rw [hPl] at hcell hfz hnext
            have hadd := add64z D[k] carry hc1
            have hpos : decide (0 < carry) = true := by simp; omega
            generalize D[k] = dk at *
            have HN := Lib.hid hnext
            have HS := Lib.hid hstep
            clear hnext hstep hPl hlen hI hdb1 hYt
            go_wp2
            go_roundw
            case rel => exact ⟨k + 1, _, _, by omega, by omega, rfl, by go_num, HS.out, HN.out, grown_trans hg1 (grown_set _ _ _ _)⟩
            case measure => simp [intOf]; omega
        · have HE := Lib.hid (hI.done hD hkD hYk (.inl (by omega)))
          go_wp2
          all_goals go_end0
          all_goals exact ⟨rfl, _, HE.out, hdb1, hg1⟩

/-- After k places: the difference's digits so far, and the borrow. -/
structure SubI (D Y : List Nat) (k borrow : Nat) (P : List Nat) : Prop where
  len : P.length = k
  dig : Dig P
  le : borrow ≤ 1
  eq : val P + val (Y.take k) = val (D.take k) + Bs ^ k * borrow
theorem SubI.start (D Y : List Nat) : SubI D Y 0 0 [] := ⟨rfl, Dig.nil, by omega, by simp [val]⟩
theorem SubI.step {D Y P : List Nat} {k borrow y : Nat} (h : SubI D Y k borrow P) (hD : Dig D) (hk : k < D.length) (hy : y < Bs) (hY : val (Y.take (k + 1)) = val (Y.take k) + Bs ^ k * y) :
    SubI D Y (k + 1) (b64 D[k] y borrow) (P ++ [d64 D[k] y borrow]) := by
  refine ⟨by rw [List.length_append, h.len]; rfl, h.dig.app (Dig.cons (d64_lt _ _ _) Dig.nil), b64_le _ _ _, ?_⟩
  have e := d64_spec hy (hD.get k hk) h.le
  have e1 : Bs ^ (k + 1) * b64 D[k] y borrow = Bs ^ k * (Bs * b64 D[k] y borrow) := by rw [Nat.pow_succ, Nat.mul_assoc]
  have e2 := congrArg (Bs ^ k * ·) e
  simp only [Nat.mul_add] at e2
  rw [val_snoc, h.len, take_snoc D k hk, hY, e1]
  have := h.eq
  omega
theorem SubI.done {D Y P : List Nat} {k borrow : Nat} (h : SubI D Y k borrow P) (hD : Dig D) (hk : k ≤ D.length) (hY : Y.length ≤ k) (hge : val Y ≤ val D) (hend : k = D.length ∨ borrow = 0) :
    (P ++ D.drop k).length = D.length ∧ Dig (P ++ D.drop k) ∧ val (P ++ D.drop k) + val Y = val D := by
  have hl : (P ++ D.drop k).length = D.length := by rw [List.length_append, h.len, List.length_drop]; omega
  have hd : Dig (P ++ D.drop k) := h.dig.app (hD.drop k)
  refine ⟨hl, hd, ?_⟩
  have hs : val D = val (D.take k) + Bs ^ k * val (D.drop k) := by
    conv => lhs; rw [← List.take_append_drop k D, val_append, List.length_take, Nat.min_eq_left hk]
  have he := h.eq
  rw [List.take_of_length_le hY] at he
  have hv : val (P ++ D.drop k) = val P + Bs ^ k * val (D.drop k) := by rw [val_append, h.len]
  rcases hend with h0 | h0
  · subst h0
    rw [List.drop_length] at hs hv ⊢
    rw [hv]
    have hP := val_lt h.dig
    rw [h.len] at hP
    have hb := h.le
    rcases Nat.eq_zero_or_pos borrow with hb0 | hb0
    · rw [hb0] at he; simp [val] at *; omega
    · rw [show borrow = 1 by omega] at he; simp [val] at *; omega
  · rw [h0] at he; omega

set_option maxHeartbeats 1000000 in
set_option maxRecDepth 100000 in
theorem takeFrom_any (g gy oy c cy : Nat) (A D C Y : List Nat) (hD : Dig D) (hY : Dig Y) (hle : Y.length ≤ D.length) (hl : D.length ≤ 1099511627776) (hne : gy ≠ g) (w : World) (hdb : DB w g (A ++ D ++ C)) (hgy : gy < w.heap.size) (hr : Rd w gy oy Y) (hge : val Y ≤ val D) :
    Calls Tryz.prog 93 #[.slice (some ⟨g, A.length, none⟩) D.length c, .slice (some ⟨gy, oy, none⟩) Y.length cy] w fun e w' =>
      e = .returned (.tuple #[]) ∧ ∃ D' : List Nat, (D'.length = D.length ∧ Dig D' ∧ val D' + val Y = val D) ∧ DB w' g (A ++ D' ++ C) ∧ w.grownBy w' (some g) := by
  go_enter Tryz.func93, Tryz.ntmps93
  go_wp2
  go_loopw [4, 10] (fun x y wr => ∃ (k carry : Nat) (P : List Nat), k ≤ Y.length ∧ x = .int .u64 carry ∧ y = .int .i64 k ∧ SubI D Y k carry P ∧ DB wr g (A ++ (P ++ D.drop k) ++ C) ∧ w.grownBy wr (some g)) (fun _ y _ => Y.length - (intOf y).toNat)
  case atStart => exact ⟨0, 0, [], Nat.zero_le _, rfl, rfl, SubI.start D Y, by simpa using hdb, grown_refl w _⟩
  case round =>
    obtain ⟨k, carry, P, hk, rfl, rfl, hI, hdb1, hg1⟩ := hrel
    by_cases hky : k < Y.length
    · have hkd : k < D.length := by omega
      have hPl := hI.len
      have hc1 := hI.le
      have hstep := hI.step hD hkd (hY.get k hky) (take_snoc Y k hky)
      rw [drop_cons D k hkd] at hdb1
      have hlen : A.length + P.length < (A ++ (P ++ D[k] :: D.drop (k + 1)) ++ C).length := by simp; omega
      have hcell := hdb1.cell _ hlen
      rw [get_mid] at hcell
      have hfz := hdb1.frozen (A.length + P.length)
      have hnext := hdb1.set _ hlen (d64 D[k] Y[k] carry)
      rw [set_mid] at hnext
      rw [hPl] at hcell hfz hnext
      have hyc := (grown_cell (i := oy + k) hg1 hne hgy).trans (hr k hky)
      have hadd := sub64 D[k] Y[k] carry hc1
      generalize D[k] = dk at *
      generalize Y[k] = yk at *
      have HN := Lib.hid hnext
      have HS := Lib.hid hstep
      clear hnext hstep hPl hlen hI hdb1
      go_wp2
      go_roundw
      case rel => exact ⟨k + 1, _, _, by omega, rfl, by go_num, HS.out, HN.out, grown_trans hg1 (grown_set _ _ _ _)⟩
      case measure => simp [intOf]; omega
    · have hky' : k = Y.length := by omega
      subst hky'
      go_wp2
      go_loopw [4, 7] (fun x y wr => ∃ (k carry : Nat) (P : List Nat), Y.length ≤ k ∧ k ≤ D.length ∧ x = .int .u64 carry ∧ y = .int .i64 k ∧ SubI D Y k carry P ∧ DB wr g (A ++ (P ++ D.drop k) ++ C) ∧ w.grownBy wr (some g)) (fun _ y _ => D.length - (intOf y).toNat)
      case atStart => exact ⟨Y.length, carry, P, Nat.le_refl _, hle, rfl, rfl, hI, hdb1, hg1⟩
      case round =>
        clear hI hdb1 hg1
        obtain ⟨k, carry, P, hYk, hkD, rfl, rfl, hI, hdb1, hg1⟩ := hrel
        by_cases hkd : k < D.length
        · by_cases h0 : carry = 0
          · have HE := Lib.hid (hI.done hD hkD hYk hge (.inr h0))
            subst h0
            clear hI
            go_wp2
            go_end0
            exact ⟨rfl, _, HE.out, hdb1, hg1⟩
          · have hPl := hI.len
            have hc1 := hI.le
            have hYt : val (Y.take (k + 1)) = val (Y.take k) + Bs ^ k * 0 := by
              rw [List.take_of_length_le (by omega), List.take_of_length_le (by omega)]; simp
            have hstep := hI.step hD hkd Bs_pos hYt
            rw [drop_cons D k hkd] at hdb1
            have hlen : A.length + P.length < (A ++ (P ++ D[k] :: D.drop (k + 1)) ++ C).length := by simp; omega
            have hcell := hdb1.cell _ hlen
            rw [get_mid] at hcell
            have hfz := hdb1.frozen (A.length + P.length)
            have hnext := hdb1.set _ hlen (d64 D[k] 0 carry)
            rw [set_mid] at hnext
            rw [hPl] at hcell hfz hnext
            have hadd := sub64z D[k] carry hc1
            have hpos : decide (0 < carry) = true := by simp; omega
            generalize D[k] = dk at *
            have HN := Lib.hid hnext
            have HS := Lib.hid hstep
            clear hnext hstep hPl hlen hI hdb1 hYt
            go_wp2
            go_roundw
            case rel => exact ⟨k + 1, _, _, by omega, by omega, rfl, by go_num, HS.out, HN.out, grown_trans hg1 (grown_set _ _ _ _)⟩
            case measure => simp [intOf]; omega
        · have HE := Lib.hid (hI.done hD hkD hYk hge (.inl (by omega)))
          go_wp2
          all_goals go_end0
          all_goals exact ⟨rfl, _, HE.out, hdb1, hg1⟩
end Go.Proofs.YthehcjfmokabfaaGreatDoor

/-
  Layer 1, walks H: addProduct, takeProduct.
-/
namespace Go.Proofs.YthehcjfmokabfaaGreatDoor
open Go.RowKit

/-- One digit of a sum with a product, and what is carried. -/
def pd (d y f c : Nat) : Nat := s64 (s64 d (ml y f) 0) c 0
def pc (d y f c : Nat) : Nat := mh y f + c64 d (ml y f) 0 + c64 (s64 d (ml y f) 0) c 0
theorem p_spec (d y f c : Nat) : pd d y f c + Bs * pc d y f c = d + y * f + c := by
  unfold pd pc
  have h1 := s64_spec d (ml y f) 0
  have h2 := s64_spec (s64 d (ml y f) 0) c 0
  have h3 := mul_spec y f
  rw [Nat.mul_add, Nat.mul_add]; omega
theorem sq_bound {a b : Nat} (ha : a < Bs) (hb : b < Bs) : a * b + Bs + Bs ≤ Bs * Bs + 1 := by
  have h1 : a * b ≤ (Bs - 1) * (Bs - 1) := Nat.mul_le_mul (by omega) (by omega)
  obtain ⟨t, ht⟩ : ∃ t, Bs = t + 1 := ⟨Bs - 1, by have := Bs_pos; omega⟩
  rw [ht] at h1 ⊢
  simp only [Nat.add_sub_cancel] at h1
  rw [Nat.add_mul, Nat.mul_add]; omega
theorem pc_lt {d y f c : Nat} (hd : d < Bs) (hy : y < Bs) (hf : f < Bs) (hc : c < Bs) : pc d y f c < Bs := by
  have h := p_spec d y f c
  have h2 := sq_bound hy hf
  have : Bs * pc d y f c < Bs * Bs := by omega
  exact Nat.lt_of_mul_lt_mul_left this
theorem pd_lt (d y f c : Nat) : pd d y f c < Bs := s64_lt _ _ _
/-- One digit of a difference with a product, and what is borrowed. -/
def qd (d y f c : Nat) : Nat := d64 (d64 d (ml y f) 0) c 0
def qc (d y f c : Nat) : Nat := mh y f + b64 d (ml y f) 0 + b64 (d64 d (ml y f) 0) c 0
theorem q_spec {d y f c : Nat} (hd : d < Bs) (hc : c < Bs) : qd d y f c + y * f + c = d + Bs * qc d y f c := by
  unfold qd qc
  have h1 := d64_spec (c := 0) (ml_lt y f) hd (by omega)
  have h2 := d64_spec (c := 0) hc (d64_lt d (ml y f) 0) (by omega)
  have h3 := mul_spec y f
  rw [Nat.mul_add, Nat.mul_add]; omega
theorem qd_lt (d y f c : Nat) : qd d y f c < Bs := d64_lt _ _ _
theorem qc_lt {d y f c : Nat} (hd : d < Bs) (hy : y < Bs) (hf : f < Bs) (hc : c < Bs) : qc d y f c < Bs := by
  have h := q_spec (y := y) (f := f) hd hc
  have h1 := qd_lt d y f c
  have h2 := sq_bound hy hf
  have : Bs * qc d y f c < Bs * Bs := by omega
  exact Nat.lt_of_mul_lt_mul_left this

structure MulI (D Y : List Nat) (f k carry : Nat) (P : List Nat) : Prop where
  len : P.length = k
  dig : Dig P
  le : carry < Bs
  eq : val P + Bs ^ k * carry = val (D.take k) + f * val (Y.take k)
theorem MulI.start (D Y : List Nat) (f : Nat) : MulI D Y f 0 0 [] := ⟨rfl, Dig.nil, Bs_pos, by simp [val]⟩
theorem MulI.step {D Y P : List Nat} {f k carry : Nat} (h : MulI D Y f k carry P) (hD : Dig D) (hY : Dig Y) (hf : f < Bs) (hk : k < D.length) (hky : k < Y.length) :
    MulI D Y f (k + 1) (pc D[k] Y[k] f carry) (P ++ [pd D[k] Y[k] f carry]) := by
  refine ⟨by rw [List.length_append, h.len]; rfl, h.dig.app (Dig.cons (pd_lt _ _ _ _) Dig.nil), pc_lt (hD.get k hk) (hY.get k hky) hf h.le, ?_⟩
  have e := congrArg (Bs ^ k * ·) (p_spec D[k] Y[k] f carry)
  simp only [Nat.mul_add] at e
  have e1 : Bs ^ (k + 1) * pc D[k] Y[k] f carry = Bs ^ k * (Bs * pc D[k] Y[k] f carry) := by rw [Nat.pow_succ, Nat.mul_assoc]
  have e2 : f * (Bs ^ k * Y[k]) = Bs ^ k * (Y[k] * f) := by rw [Nat.mul_left_comm, Nat.mul_comm f]
  rw [val_snoc, h.len, take_snoc D k hk, take_snoc Y k hky, e1, Nat.mul_add, e2]
  have := h.eq
  omega
structure TakI (D Y : List Nat) (f k carry : Nat) (P : List Nat) : Prop where
  len : P.length = k
  dig : Dig P
  le : carry < Bs
  eq : val P + f * val (Y.take k) = val (D.take k) + Bs ^ k * carry
theorem TakI.start (D Y : List Nat) (f : Nat) : TakI D Y f 0 0 [] := ⟨rfl, Dig.nil, Bs_pos, by simp [val]⟩
theorem TakI.step {D Y P : List Nat} {f k carry : Nat} (h : TakI D Y f k carry P) (hD : Dig D) (hY : Dig Y) (hf : f < Bs) (hk : k < D.length) (hky : k < Y.length) :
    TakI D Y f (k + 1) (qc D[k] Y[k] f carry) (P ++ [qd D[k] Y[k] f carry]) := by
  refine ⟨by rw [List.length_append, h.len]; rfl, h.dig.app (Dig.cons (qd_lt _ _ _ _) Dig.nil), qc_lt (hD.get k hk) (hY.get k hky) hf h.le, ?_⟩
  have e := congrArg (Bs ^ k * ·) (q_spec (y := Y[k]) (f := f) (hD.get k hk) h.le)
  simp only [Nat.mul_add] at e
  have e1 : Bs ^ (k + 1) * qc D[k] Y[k] f carry = Bs ^ k * (Bs * qc D[k] Y[k] f carry) := by rw [Nat.pow_succ, Nat.mul_assoc]
  have e2 : f * (Bs ^ k * Y[k]) = Bs ^ k * (Y[k] * f) := by rw [Nat.mul_left_comm, Nat.mul_comm f]
  rw [val_snoc, h.len, take_snoc D k hk, take_snoc Y k hky, e1, Nat.mul_add, e2]
  have := h.eq
  omega
theorem TakI.step' {D Y P : List Nat} {f k carry : Nat} (h : TakI D Y f k carry P) (hD : Dig D) (hk : k < D.length) (hky : Y.length ≤ k) :
    TakI D Y f (k + 1) (b64 D[k] carry 0) (P ++ [d64 D[k] carry 0]) := by
  refine ⟨by rw [List.length_append, h.len]; rfl, h.dig.app (Dig.cons (d64_lt _ _ _) Dig.nil), by have := b64_le D[k] carry 0; have := Bs_gt; omega, ?_⟩
  have e := congrArg (Bs ^ k * ·) (d64_spec (c := 0) h.le (hD.get k hk) (by omega))
  simp only [Nat.mul_add] at e
  have e1 : Bs ^ (k + 1) * b64 D[k] carry 0 = Bs ^ k * (Bs * b64 D[k] carry 0) := by rw [Nat.pow_succ, Nat.mul_assoc]
  have he := h.eq
  rw [List.take_of_length_le hky] at he
  rw [val_snoc, h.len, take_snoc D k hk, List.take_of_length_le (by omega : Y.length ≤ k + 1), e1]
  omega
theorem TakI.done {D Y P : List Nat} {f k carry : Nat} (h : TakI D Y f k carry P) (hD : Dig D) (hk : k ≤ D.length) (hY : Y.length ≤ k) (hlt : Y.length < D.length) (h1 : k = Y.length ∨ carry ≤ 1) (hend : k = D.length ∨ carry = 0) :
    (P ++ D.drop k).length = D.length ∧ Dig (P ++ D.drop k) ∧ val (P ++ D.drop k) + f * val Y = val D + if decide (0 < carry) then Bs ^ D.length else 0 := by
  have hl : (P ++ D.drop k).length = D.length := by rw [List.length_append, h.len, List.length_drop]; omega
  refine ⟨hl, h.dig.app (hD.drop k), ?_⟩
  have hs : val D = val (D.take k) + Bs ^ k * val (D.drop k) := by
    conv => lhs; rw [← List.take_append_drop k D, val_append, List.length_take, Nat.min_eq_left hk]
  have he := h.eq
  rw [List.take_of_length_le hY] at he
  have hv : val (P ++ D.drop k) = val P + Bs ^ k * val (D.drop k) := by rw [val_append, h.len]
  by_cases h0 : carry = 0
  · rw [h0] at he ⊢; simp at he ⊢; omega
  · have hk' : k = D.length := hend.resolve_right h0
    have hc : carry = 1 := by omega
    rw [hc] at he ⊢
    subst hk'
    simp at he ⊢; omega

set_option maxHeartbeats 1000000 in
set_option maxRecDepth 100000 in
theorem addProduct_any (g gy oy c cy f : Nat) (A D C Y : List Nat) (hD : Dig D) (hY : Dig Y) (hf : f < Bs) (hle : Y.length ≤ D.length) (hl : D.length ≤ 1099511627776) (hne : gy ≠ g) (w : World) (hdb : DB w g (A ++ D ++ C)) (hgy : gy < w.heap.size) (hr : Rd w gy oy Y) :
    Calls Tryz.prog 105 #[.slice (some ⟨g, A.length, none⟩) D.length c, .slice (some ⟨gy, oy, none⟩) Y.length cy, .int .u64 (f : Int)] w fun e w' =>
      ∃ (carry : Nat) (P : List Nat), e = .returned (.int .u64 (carry : Int)) ∧ MulI D Y f Y.length carry P ∧ DB w' g (A ++ (P ++ D.drop Y.length) ++ C) ∧ w.grownBy w' (some g) := by
  go_enter Tryz.func105, Tryz.ntmps105
  go_wp2
  go_loopw [7, 16] (fun x y wr => ∃ (k carry : Nat) (P : List Nat), k ≤ Y.length ∧ x = .int .u64 carry ∧ y = .int .i64 k ∧ MulI D Y f k carry P ∧ DB wr g (A ++ (P ++ D.drop k) ++ C) ∧ w.grownBy wr (some g)) (fun _ y _ => Y.length - (intOf y).toNat)
  case atStart => exact ⟨0, 0, [], Nat.zero_le _, rfl, rfl, MulI.start D Y f, by simpa using hdb, grown_refl w _⟩
  case round =>
    obtain ⟨k, carry, P, hk, rfl, rfl, hI, hdb1, hg1⟩ := hrel
    by_cases hky : k < Y.length
    · have hkd : k < D.length := by omega
      have hPl := hI.len
      have hc1 := hI.le
      have hyl := hY.get k hky
      have hstep := hI.step hD hY hf hkd hky
      have hpc := pc_lt (hD.get k hkd) hyl hf hc1
      rw [drop_cons D k hkd] at hdb1
      have hlen : A.length + P.length < (A ++ (P ++ D[k] :: D.drop (k + 1)) ++ C).length := by simp; omega
      have hcell := hdb1.cell _ hlen
      rw [get_mid] at hcell
      have hfz := hdb1.frozen (A.length + P.length)
      have hnext := hdb1.set _ hlen (pd D[k] Y[k] f carry)
      rw [set_mid] at hnext
      rw [hPl] at hcell hfz hnext
      have hyc := (grown_cell (i := oy + k) hg1 hne hgy).trans (hr k hky)
      generalize D[k] = dk at *
      generalize Y[k] = yk at *
      have hadd1 := add64c dk (ml yk f)
      have hadd2 := add64c (s64 dk (ml yk f) 0) carry
      have b1 : ((mh yk f : Nat) : Int) + ((c64 dk (ml yk f) 0 : Nat) : Int) ≤ 18446744073709551615 := by unfold pc Bs at hpc; omega
      have b2 : ((mh yk f : Nat) : Int) + ((c64 dk (ml yk f) 0 : Nat) : Int) + ((c64 (s64 dk (ml yk f) 0) carry 0 : Nat) : Int) ≤ 18446744073709551615 := by unfold pc Bs at hpc; omega
      have HM := Lib.hid (mul64 yk f hyl hf)
      have HN := Lib.hid hnext
      have HS := Lib.hid hstep
      clear hnext hstep hPl hlen hI hdb1 hpc hyl hc1
      go_wp2_with (go_at_call 104; refine (HM.out _).mono ?_; rintro e w1 ⟨rfl, rfl⟩)
      go_roundw
      case rel => exact ⟨k + 1, _, _, by omega, by unfold pc; go_num, by go_num, HS.out, HN.out, grown_trans hg1 (grown_set _ _ _ _)⟩
      case measure => simp [intOf]; omega
    · have hky' : k = Y.length := by omega
      subst hky'
      go_wp2
      go_ret
      exact ⟨carry, P, rfl, hI, hdb1, hg1⟩

set_option maxHeartbeats 2000000 in
set_option maxRecDepth 100000 in
theorem takeProduct_any (g gy oy c cy f : Nat) (A D C Y : List Nat) (hD : Dig D) (hY : Dig Y) (hf : f < Bs) (hle : Y.length < D.length) (hl : D.length ≤ 1099511627776) (hne : gy ≠ g) (w : World) (hdb : DB w g (A ++ D ++ C)) (hgy : gy < w.heap.size) (hr : Rd w gy oy Y) :
    Calls Tryz.prog 147 #[.slice (some ⟨g, A.length, none⟩) D.length c, .slice (some ⟨gy, oy, none⟩) Y.length cy, .int .u64 (f : Int)] w fun e w' =>
      ∃ (b : Bool) (D' : List Nat), e = .returned (.bool b) ∧ (D'.length = D.length ∧ Dig D' ∧ val D' + f * val Y = val D + if b then Bs ^ D.length else 0) ∧ DB w' g (A ++ D' ++ C) ∧ w.grownBy w' (some g) := by
  go_enter Tryz.func147, Tryz.ntmps147
  go_wp2
  go_loopw [7, 17] (fun x y wr => ∃ (k carry : Nat) (P : List Nat), k ≤ Y.length ∧ x = .int .u64 carry ∧ y = .int .i64 k ∧ TakI D Y f k carry P ∧ DB wr g (A ++ (P ++ D.drop k) ++ C) ∧ w.grownBy wr (some g)) (fun _ y _ => Y.length - (intOf y).toNat)
  case atStart => exact ⟨0, 0, [], Nat.zero_le _, rfl, rfl, TakI.start D Y f, by simpa using hdb, grown_refl w _⟩
  case round =>
    obtain ⟨k, carry, P, hk, rfl, rfl, hI, hdb1, hg1⟩ := hrel
    by_cases hky : k < Y.length
    · have hkd : k < D.length := by omega
      have hPl := hI.len
      have hc1 := hI.le
      have hyl := hY.get k hky
      have hstep := hI.step hD hY hf hkd hky
      have hpc := qc_lt (hD.get k hkd) hyl hf hc1
      rw [drop_cons D k hkd] at hdb1
      have hlen : A.length + P.length < (A ++ (P ++ D[k] :: D.drop (k + 1)) ++ C).length := by simp; omega
      have hcell := hdb1.cell _ hlen
      rw [get_mid] at hcell
      have hfz := hdb1.frozen (A.length + P.length)
      have hnext := hdb1.set _ hlen (qd D[k] Y[k] f carry)
      rw [set_mid] at hnext
      rw [hPl] at hcell hfz hnext
      have hyc := (grown_cell (i := oy + k) hg1 hne hgy).trans (hr k hky)
      generalize D[k] = dk at *
      generalize Y[k] = yk at *
      have hadd1 := sub64c dk (ml yk f)
      have hadd2 := sub64c (d64 dk (ml yk f) 0) carry
      have b1 : ((mh yk f : Nat) : Int) + ((b64 dk (ml yk f) 0 : Nat) : Int) ≤ 18446744073709551615 := by unfold qc Bs at hpc; omega
      have b2 : ((mh yk f : Nat) : Int) + ((b64 dk (ml yk f) 0 : Nat) : Int) + ((b64 (d64 dk (ml yk f) 0) carry 0 : Nat) : Int) ≤ 18446744073709551615 := by unfold qc Bs at hpc; omega
      have HM := Lib.hid (mul64 yk f hyl hf)
      have HN := Lib.hid hnext
      have HS := Lib.hid hstep
      clear hnext hstep hPl hlen hI hdb1 hpc hyl hc1
      go_wp2_with (go_at_call 104; refine (HM.out _).mono ?_; rintro e w1 ⟨rfl, rfl⟩)
      go_roundw
      case rel => exact ⟨k + 1, _, _, by omega, by unfold qc; go_num, by go_num, HS.out, HN.out, grown_trans hg1 (grown_set _ _ _ _)⟩
      case measure => simp [intOf]; omega
    · have hky' : k = Y.length := by omega
      subst hky'
      go_wp2
      go_loopw [7, 14] (fun x y wr => ∃ (k carry : Nat) (P : List Nat), Y.length ≤ k ∧ k ≤ D.length ∧ (k = Y.length ∨ carry ≤ 1) ∧ x = .int .u64 carry ∧ y = .int .i64 k ∧ TakI D Y f k carry P ∧ DB wr g (A ++ (P ++ D.drop k) ++ C) ∧ w.grownBy wr (some g)) (fun _ y _ => D.length - (intOf y).toNat)
      case atStart => exact ⟨Y.length, carry, P, Nat.le_refl _, Nat.le_of_lt hle, .inl rfl, rfl, rfl, hI, hdb1, hg1⟩
      case round =>
        clear hI hdb1 hg1
        obtain ⟨k, carry, P, hYk, hkD, hor, rfl, rfl, hI, hdb1, hg1⟩ := hrel
        by_cases hkd : k < D.length
        · by_cases h0 : carry = 0
          · have HE := Lib.hid (hI.done hD hkD hYk hle hor (.inr h0))
            subst h0
            clear hor hI
            go_wp2
            go_ret
            exact ⟨_, _, rfl, HE.out, hdb1, hg1⟩
          · have hPl := hI.len
            have hc1 := hI.le
            have hstep := hI.step' hD hkd hYk
            rw [drop_cons D k hkd] at hdb1
            have hlen : A.length + P.length < (A ++ (P ++ D[k] :: D.drop (k + 1)) ++ C).length := by simp; omega
            have hcell := hdb1.cell _ hlen
            rw [get_mid] at hcell
            have hfz := hdb1.frozen (A.length + P.length)
            have hnext := hdb1.set _ hlen (d64 D[k] carry 0)
            rw [set_mid] at hnext
            rw [hPl] at hcell hfz hnext
            have hadd := sub64c D[k] carry
            have hb := b64_le D[k] carry 0
            generalize D[k] = dk at *
            have HB := Lib.hid hb
            have HN := Lib.hid hnext
            have HS := Lib.hid hstep
            have hpos : decide (0 < carry) = true := by simp; omega
            clear hnext hstep hPl hlen hI hdb1 hor hb hc1
            go_wp2
            go_roundw
            case rel => exact ⟨k + 1, _, _, by omega, by omega, .inr HB.out, rfl, by go_num, HS.out, HN.out, grown_trans hg1 (grown_set _ _ _ _)⟩
            case measure => simp [intOf]; omega
        · have HE := Lib.hid (hI.done hD hkD hYk hle hor (.inl (by omega)))
          clear hor hI
          go_wp2
          all_goals go_ret
          all_goals exact ⟨_, _, rfl, HE.out, hdb1, hg1⟩
end Go.Proofs.YthehcjfmokabfaaGreatDoor
