/-
  Layer 1, walks K: math/bits.Div64.
-/
import Derived.Test.YthehcjfmokabfaaDoorWk0
set_option linter.unusedVariables false
set_option linter.unusedSimpArgs false
namespace Go.Proofs.YthehcjfmokabfaaDoor
open Go.RowKit


theorem ret2 {k l : IntKind} {a b c d : Int} (h : a = b) (h' : c = d) : Ending.returned (.tuple #[.int k a, .int l c]) = Ending.returned (.tuple #[.int k b, .int l d]) := by rw [h, h']
/-- what holds at the head of a correction's round: d * T + e = U, and d is at least the quotient Q and at most 1 beyond the base b -/
structure LI (b T U Q d e : Nat) : Prop where
  eq : d * T + e = U
  ge : Q ≤ d
  top : d ≤ b + 1
  small : e < b
/-- the true quotient digit -/
def QD (b T S U P Q : Nat) : Prop := Q = (U * b + P) / (T * b + S) ∧ P < b ∧ Q < b ∧ S < b
theorem LI.good {b T U Q d e P S : Nat} (h : LI b T U Q d e) (hT : 1 ≤ T) (hQ : QD b T S U P Q) (hok : d * S ≤ e * b + P) : d = Q := by
  obtain ⟨hQ, hP, _, _⟩ := hQ
  refine Nat.le_antisymm ?_ h.ge
  rw [hQ, Nat.le_div_iff_mul_le (by have := Nat.mul_pos hT (show 0 < b by omega); omega), ← h.eq, Nat.add_mul, Nat.mul_add, Nat.mul_assoc]; omega
theorem LI.bad {b T U Q d e P S : Nat} (h : LI b T U Q d e) (hT : 1 ≤ T) (hQ : QD b T S U P Q) (hb : b ≤ d ∨ e * b + P < d * S) :
    1 ≤ d ∧ (e + T < b → LI b T U Q (d - 1) (e + T)) ∧ (b ≤ e + T → d - 1 = Q) := by
  obtain ⟨hQ, hP, hQb, hS⟩ := hQ
  have hY : 0 < T * b + S := by have := Nat.mul_pos hT (show 0 < b by omega); omega
  have hd : 1 ≤ d := by
    rcases Nat.eq_zero_or_pos d with h0 | h0
    · rw [h0] at hb; omega
    · exact h0
  have hge : Q ≤ d - 1 := by
    rcases hb with hb | hb
    · omega
    · refine Nat.le_sub_one_of_lt ?_
      rw [hQ, Nat.div_lt_iff_lt_mul hY, ← h.eq, Nat.add_mul, Nat.mul_add, Nat.mul_assoc]; omega
  have heq : (d - 1) * T + (e + T) = U := by
    obtain ⟨k, rfl⟩ : ∃ k, d = k + 1 := ⟨d - 1, by omega⟩
    have := h.eq
    rw [Nat.succ_mul] at this
    simp only [Nat.add_sub_cancel]; omega
  have htop := h.top
  refine ⟨hd, fun hs => ⟨heq, hge, by omega, hs⟩, fun hs => Nat.le_antisymm ?_ hge⟩
  rw [hQ, Nat.le_div_iff_mul_le hY, ← heq, Nat.add_mul, Nat.mul_add, Nat.mul_assoc]
  have h1 : (d - 1) * S ≤ b * S := Nat.mul_le_mul_right _ (by omega)
  have h2 : b * b ≤ (e + T) * b := Nat.mul_le_mul_right _ hs
  have h3 : b * S ≤ b * b := Nat.mul_le_mul_left _ (by omega)
  omega
theorem prod64 {d S : Nat} (hd : (d : Int) < 4294967296) (hS : (S : Int) < 4294967296) : IntKind.u64.wrap ((d : Int) * (S : Int)) = ((d * S : Nat) : Int) := by
  have h : d * S ≤ 4294967295 * 4294967295 := Nat.mul_le_mul (by omega) (by omega)
  rw [← Int.natCast_mul]
  exact IntWalk.u64_in _ (by omega)
set_option maxHeartbeats 8000000 in
set_option maxRecDepth 100000 in
theorem div64_core (hi lo y s Y T S U V P R q r A1 A2 A3 W q2 r2 B1 B2 B3 F Q Z M1 M2 res1 res2 : Nat) (t0 : ((y : Int) == 0) = false) (t1 : ((hi : Int) == 0) = false) (hlt : hi < y) (hs : s ≤ 63) (hm : min s 64 = s)
    (e1 : IntKind.u64.wrap ((y : Int) * 2 ^ s) = (Y : Int)) (e2 : (Y : Int) / 4294967296 = (T : Int)) (e3 : bits .and .u64 (Y : Int) 4294967295 = (S : Int))
    (e4 : bits .or .u64 (IntKind.u64.wrap ((hi : Int) * 2 ^ s)) ((lo : Int) / 2 ^ (64 - s)) = (U : Int)) (e5 : IntKind.u64.wrap ((lo : Int) * 2 ^ s) = (V : Int)) (e6 : (V : Int) / 4294967296 = (P : Int))
    (e7 : bits .and .u64 (V : Int) 4294967295 = (R : Int)) (e8 : (U : Int) / (T : Int) = (q : Int)) (b8 : IntKind.u64.wrap (q : Int) = (q : Int)) (e9 : IntKind.u64.wrap ((q : Int) * (T : Int)) = (M1 : Int)) (b9 : IntKind.u64.wrap ((U : Int) - (M1 : Int)) = (r : Int))
    (e10 : IntKind.u64.wrap ((U : Int) * 4294967296) = (A1 : Int)) (e11 : IntKind.u64.wrap ((A1 : Int) + (P : Int)) = (A2 : Int)) (e12 : IntKind.u64.wrap ((Q : Int) * (Y : Int)) = (A3 : Int)) (e13 : IntKind.u64.wrap ((A2 : Int) - (A3 : Int)) = (W : Int))
    (e14 : (W : Int) / (T : Int) = (q2 : Int)) (b14 : IntKind.u64.wrap (q2 : Int) = (q2 : Int)) (e15 : IntKind.u64.wrap ((q2 : Int) * (T : Int)) = (M2 : Int)) (b15 : IntKind.u64.wrap ((W : Int) - (M2 : Int)) = (r2 : Int))
    (e16 : IntKind.u64.wrap ((W : Int) * 4294967296) = (B1 : Int)) (e17 : IntKind.u64.wrap ((B1 : Int) + (R : Int)) = (B2 : Int)) (e18 : IntKind.u64.wrap ((Z : Int) * (Y : Int)) = (B3 : Int)) (e19 : IntKind.u64.wrap ((B2 : Int) - (B3 : Int)) = (F : Int))
    (hT : 1 ≤ T) (T32 : T < 4294967296) (S32 : S < 4294967296) (P32 : P < 4294967296) (R32 : R < 4294967296) (Q32 : Q < 4294967296) (Z32 : Z < 4294967296)
    (H1 : Hid (QD 4294967296 T S U P Q)) (H2 : Hid (QD 4294967296 T S W R Z)) (I1 : Hid (LI 4294967296 T U Q q r)) (I2 : Hid (LI 4294967296 T W Z q2 r2))
    (R1 : Hid ((Q : Int) * 4294967296 + (Z : Int) = (res1 : Int))) (R2 : Hid ((F : Int) / 2 ^ s = (res2 : Int)))
    (w : World) (HL : Hid (∀ w, Calls Tryd.prog 87 #[.int .u64 (y : Int)] w fun e w' => e = .returned (.int .i64 ((s : Nat) : Int)) ∧ w = w')) :
    Calls Tryd.prog 73 #[.int .u64 (hi : Int), .int .u64 (lo : Int), .int .u64 (y : Int)] w fun e w' =>
      e = .returned (.tuple #[.int .u64 (res1 : Int), .int .u64 (res2 : Int)]) ∧ w = w' := by
  go_enter Tryd.func73, Tryd.ntmps73
  go_wp2_with fail
  refine (HL.out _).mono ?_
  rintro e w1 ⟨rfl, rfl⟩
  go_wp2
  go_loop [15, 16] (fun x y => ∃ d e : Nat, x = .int .u64 d ∧ y = .int .u64 e ∧ LI 4294967296 T U Q d e) (fun x _ => (intOf x).toNat)
  case atStart => exact ⟨_, _, rfl, rfl, I1.out⟩
  case round =>
    obtain ⟨d, e, rfl, rfl, hI⟩ := hrel
    have he : (e : Int) < 4294967296 := by have := hI.small; omega
    have hT32 : (T : Int) < 4294967296 := by omega
    have hP32 : (P : Int) < 4294967296 := by omega
    have hd1 : (d : Int) ≤ 4294967297 := by have := hI.top; omega
    by_cases hdb : (4294967296 : Int) ≤ (d : Int)
    · obtain ⟨h1, hI', hQ⟩ := hI.bad hT (P := P) (S := S) H1.out (.inl (by omega))
      have HI := Lib.hid hI'
      have HQ := Lib.hid hQ
      clear hI hI' hQ
      by_cases hbr : (4294967296 : Int) ≤ (e : Int) + (T : Int)
      · have hdQ : (d : Int) - 1 = (Q : Int) := by have := HQ.out (by omega); omega
        clear HQ HI
        go_wp2
        clear he hd1 hdb
        go_loop [18, 16] (fun x y => ∃ d e : Nat, x = .int .u64 d ∧ y = .int .u64 e ∧ LI 4294967296 T W Z d e) (fun x _ => (intOf x).toNat)
        case atStart => exact ⟨_, _, rfl, rfl, I2.out⟩
        case round =>
          obtain ⟨d, e, rfl, rfl, hI⟩ := hrel
          have he : (e : Int) < 4294967296 := by have := hI.small; omega
          have hT32 : (T : Int) < 4294967296 := by omega
          have hP32 : (R : Int) < 4294967296 := by omega
          have hd1 : (d : Int) ≤ 4294967297 := by have := hI.top; omega
          by_cases hdb : (4294967296 : Int) ≤ (d : Int)
          · obtain ⟨h1, hI', hQ⟩ := hI.bad hT (P := R) (S := S) H2.out (.inl (by omega))
            have HI := Lib.hid hI'
            have HQ := Lib.hid hQ
            clear hI hI' hQ
            by_cases hbr : (4294967296 : Int) ≤ (e : Int) + (T : Int)
            · have hdQ : (d : Int) - 1 = (Z : Int) := by have := HQ.out (by omega); omega
              clear HQ HI
              go_wp2
              go_ret2
              exact ⟨ret2 R1.out R2.out, rfl⟩
            · go_wp2
              go_round
              case rel => exact ⟨d - 1, e + T, by rw [Int.ofNat_sub h1]; rfl, by go_num, HI.out (by omega)⟩
              case measure => simp [intOf]; omega
          · obtain ⟨m, hm⟩ : ∃ m, d * S = m := ⟨_, rfl⟩
            by_cases hts : (4294967296 : Int) * (e : Int) + (R : Int) < (m : Int)
            · obtain ⟨h1, hI', hQ⟩ := hI.bad hT (P := R) (S := S) H2.out (.inr (by omega))
              have HI := Lib.hid hI'
              have HQ := Lib.hid hQ
              have hprod := prod64 (d := d) (S := S) (by omega) (by omega)
              rw [hm] at hprod
              clear hI hI' hQ hm
              by_cases hbr : (4294967296 : Int) ≤ (e : Int) + (T : Int)
              · have hdQ : (d : Int) - 1 = (Z : Int) := by have := HQ.out (by omega); omega
                clear HQ HI
                go_wp2
                go_ret2
                exact ⟨ret2 R1.out R2.out, rfl⟩
              · go_wp2
                go_round
                case rel => exact ⟨d - 1, e + T, by rw [Int.ofNat_sub h1]; rfl, by go_num, HI.out (by omega)⟩
                case measure => simp [intOf]; omega
            · have hdQ := hI.good hT (P := R) (S := S) H2.out (by omega)
              have hprod := prod64 (d := d) (S := S) (by omega) (by omega)
              rw [hm] at hprod
              clear hI hm
              subst hdQ
              go_wp2
              go_ret2
              exact ⟨ret2 R1.out R2.out, rfl⟩
      
      · go_wp2
        go_round
        case rel => exact ⟨d - 1, e + T, by rw [Int.ofNat_sub h1]; rfl, by go_num, HI.out (by omega)⟩
        case measure => simp [intOf]; omega
    · obtain ⟨m, hm⟩ : ∃ m, d * S = m := ⟨_, rfl⟩
      by_cases hts : (4294967296 : Int) * (e : Int) + (P : Int) < (m : Int)
      · obtain ⟨h1, hI', hQ⟩ := hI.bad hT (P := P) (S := S) H1.out (.inr (by omega))
        have HI := Lib.hid hI'
        have HQ := Lib.hid hQ
        have hprod := prod64 (d := d) (S := S) (by omega) (by omega)
        rw [hm] at hprod
        clear hI hI' hQ hm
        by_cases hbr : (4294967296 : Int) ≤ (e : Int) + (T : Int)
        · have hdQ : (d : Int) - 1 = (Q : Int) := by have := HQ.out (by omega); omega
          clear HQ HI
          go_wp2
          clear he hd1 hdb
          go_loop [18, 16] (fun x y => ∃ d e : Nat, x = .int .u64 d ∧ y = .int .u64 e ∧ LI 4294967296 T W Z d e) (fun x _ => (intOf x).toNat)
          case atStart => exact ⟨_, _, rfl, rfl, I2.out⟩
          case round =>
            obtain ⟨d, e, rfl, rfl, hI⟩ := hrel
            have he : (e : Int) < 4294967296 := by have := hI.small; omega
            have hT32 : (T : Int) < 4294967296 := by omega
            have hP32 : (R : Int) < 4294967296 := by omega
            have hd1 : (d : Int) ≤ 4294967297 := by have := hI.top; omega
            by_cases hdb : (4294967296 : Int) ≤ (d : Int)
            · obtain ⟨h1, hI', hQ⟩ := hI.bad hT (P := R) (S := S) H2.out (.inl (by omega))
              have HI := Lib.hid hI'
              have HQ := Lib.hid hQ
              clear hI hI' hQ
              by_cases hbr : (4294967296 : Int) ≤ (e : Int) + (T : Int)
              · have hdQ : (d : Int) - 1 = (Z : Int) := by have := HQ.out (by omega); omega
                clear HQ HI
                go_wp2
                go_ret2
                exact ⟨ret2 R1.out R2.out, rfl⟩
              · go_wp2
                go_round
                case rel => exact ⟨d - 1, e + T, by rw [Int.ofNat_sub h1]; rfl, by go_num, HI.out (by omega)⟩
                case measure => simp [intOf]; omega
            · obtain ⟨m, hm⟩ : ∃ m, d * S = m := ⟨_, rfl⟩
              by_cases hts : (4294967296 : Int) * (e : Int) + (R : Int) < (m : Int)
              · obtain ⟨h1, hI', hQ⟩ := hI.bad hT (P := R) (S := S) H2.out (.inr (by omega))
                have HI := Lib.hid hI'
                have HQ := Lib.hid hQ
                have hprod := prod64 (d := d) (S := S) (by omega) (by omega)
                rw [hm] at hprod
                clear hI hI' hQ hm
                by_cases hbr : (4294967296 : Int) ≤ (e : Int) + (T : Int)
                · have hdQ : (d : Int) - 1 = (Z : Int) := by have := HQ.out (by omega); omega
                  clear HQ HI
                  go_wp2
                  go_ret2
                  exact ⟨ret2 R1.out R2.out, rfl⟩
                · go_wp2
                  go_round
                  case rel => exact ⟨d - 1, e + T, by rw [Int.ofNat_sub h1]; rfl, by go_num, HI.out (by omega)⟩
                  case measure => simp [intOf]; omega
              · have hdQ := hI.good hT (P := R) (S := S) H2.out (by omega)
                have hprod := prod64 (d := d) (S := S) (by omega) (by omega)
                rw [hm] at hprod
                clear hI hm
                subst hdQ
                go_wp2
                go_ret2
                exact ⟨ret2 R1.out R2.out, rfl⟩
        
        · go_wp2
          go_round
          case rel => exact ⟨d - 1, e + T, by rw [Int.ofNat_sub h1]; rfl, by go_num, HI.out (by omega)⟩
          case measure => simp [intOf]; omega
      · have hdQ := hI.good hT (P := P) (S := S) H1.out (by omega)
        have hprod := prod64 (d := d) (S := S) (by omega) (by omega)
        rw [hm] at hprod
        clear hI hm
        subst hdQ
        go_wp2
        clear he hd1 hdb
        go_loop [18, 16] (fun x y => ∃ d e : Nat, x = .int .u64 d ∧ y = .int .u64 e ∧ LI 4294967296 T W Z d e) (fun x _ => (intOf x).toNat)
        case atStart => exact ⟨_, _, rfl, rfl, I2.out⟩
        case round =>
          obtain ⟨d, e, rfl, rfl, hI⟩ := hrel
          have he : (e : Int) < 4294967296 := by have := hI.small; omega
          have hT32 : (T : Int) < 4294967296 := by omega
          have hP32 : (R : Int) < 4294967296 := by omega
          have hd1 : (d : Int) ≤ 4294967297 := by have := hI.top; omega
          by_cases hdb : (4294967296 : Int) ≤ (d : Int)
          · obtain ⟨h1, hI', hQ⟩ := hI.bad hT (P := R) (S := S) H2.out (.inl (by omega))
            have HI := Lib.hid hI'
            have HQ := Lib.hid hQ
            clear hI hI' hQ
            by_cases hbr : (4294967296 : Int) ≤ (e : Int) + (T : Int)
            · have hdQ : (d : Int) - 1 = (Z : Int) := by have := HQ.out (by omega); omega
              clear HQ HI
              go_wp2
              go_ret2
              exact ⟨ret2 R1.out R2.out, rfl⟩
            · go_wp2
              go_round
              case rel => exact ⟨d - 1, e + T, by rw [Int.ofNat_sub h1]; rfl, by go_num, HI.out (by omega)⟩
              case measure => simp [intOf]; omega
          · obtain ⟨m, hm⟩ : ∃ m, d * S = m := ⟨_, rfl⟩
            by_cases hts : (4294967296 : Int) * (e : Int) + (R : Int) < (m : Int)
            · obtain ⟨h1, hI', hQ⟩ := hI.bad hT (P := R) (S := S) H2.out (.inr (by omega))
              have HI := Lib.hid hI'
              have HQ := Lib.hid hQ
              have hprod := prod64 (d := d) (S := S) (by omega) (by omega)
              rw [hm] at hprod
              clear hI hI' hQ hm
              by_cases hbr : (4294967296 : Int) ≤ (e : Int) + (T : Int)
              · have hdQ : (d : Int) - 1 = (Z : Int) := by have := HQ.out (by omega); omega
                clear HQ HI
                go_wp2
                go_ret2
                exact ⟨ret2 R1.out R2.out, rfl⟩
              · go_wp2
                go_round
                case rel => exact ⟨d - 1, e + T, by rw [Int.ofNat_sub h1]; rfl, by go_num, HI.out (by omega)⟩
                case measure => simp [intOf]; omega
            · have hdQ := hI.good hT (P := R) (S := S) H2.out (by omega)
              have hprod := prod64 (d := d) (S := S) (by omega) (by omega)
              rw [hm] at hprod
              clear hI hm
              subst hdQ
              go_wp2
              go_ret2
              exact ⟨ret2 R1.out R2.out, rfl⟩
      

theorem wrapN (n : Nat) (h : n < 18446744073709551616) : IntKind.u64.wrap (n : Int) = (n : Int) := IntWalk.u64_in _ (by omega)
theorem wrapM (n : Nat) : IntKind.u64.wrap (n : Int) = ((n % 18446744073709551616 : Nat) : Int) := by rw [IntKind.wrap_u64]; omega
theorem div64_any (hi lo y : Nat) (h0 : hi ≠ 0) (hlt : hi < y) (hy : y < Bs) (hlo : lo < Bs) (w : World) :
    Calls Tryd.prog 73 #[.int .u64 (hi : Int), .int .u64 (lo : Int), .int .u64 (y : Int)] w fun e w' =>
      e = .returned (.tuple #[.int .u64 (((hi * Bs + lo) / y : Nat) : Int), .int .u64 (((hi * Bs + lo) % y : Nat) : Int)]) ∧ w = w' := by
  obtain ⟨hs, hn, hYB⟩ := lz_spec y (by omega) hy
  have hHL : ∀ w, Calls Tryd.prog 87 #[.int .u64 (y : Int)] w fun e w' => e = .returned (.int .i64 ((lz y : Nat) : Int)) ∧ w = w' := fun w => by
    have hbl := bl_le y (by rw [← Bs_pow]; exact hy)
    refine (Tryd.bits_LeadingZeros64 (y : Int) w (by omega) (by unfold Bs at hy; omega)).mono fun e w' ⟨he, hw⟩ => ⟨?_, hw.symm⟩
    rw [he, Int.toNat_natCast]
    refine congrArg (fun k : Int => Ending.returned (.int .i64 k)) ?_
    unfold lz; omega
  generalize hsv : lz y = s at *
  obtain ⟨b, hb⟩ : ∃ b : Nat, b = 4294967296 := ⟨_, rfl⟩
  have hbb : b * b = Bs := by rw [hb]; rfl
  have hb0 : 0 < b := by omega
  obtain ⟨Y, hYd⟩ : ∃ Y, Y = y * 2 ^ s := ⟨_, rfl⟩
  have hp : 0 < 2 ^ s := Nat.pow_pos (by omega)
  have hdvd : b * b = 2 ^ (64 - s) * 2 ^ s := by rw [hbb, Bs_pow, ← Nat.pow_add]; congr 1; omega
  have hdiv : b * b / 2 ^ s = 2 ^ (64 - s) := by rw [hdvd, Nat.mul_div_cancel _ hp]
  obtain ⟨U, hUd⟩ : ∃ U, U = hi * 2 ^ s + lo / (b * b / 2 ^ s) := ⟨_, rfl⟩
  obtain ⟨V, hVd⟩ : ∃ V, V = lo * 2 ^ s % (b * b) := ⟨_, rfl⟩
  obtain ⟨hmain, hUY⟩ := div_parts hb0 hlt (by rw [hbb]; exact hlo) hp ⟨_, hdvd⟩ hYd hUd hVd
  have hVB : V < b * b := by rw [hVd]; exact Nat.mod_lt _ (Nat.mul_pos hb0 hb0)
  rw [← hYd] at hn hYB
  obtain ⟨T, hTd⟩ : ∃ T, T = Y / b := ⟨_, rfl⟩
  obtain ⟨S, hSd⟩ : ∃ S, S = Y % b := ⟨_, rfl⟩
  obtain ⟨P, hPd⟩ : ∃ P, P = V / b := ⟨_, rfl⟩
  obtain ⟨R, hRd⟩ : ∃ R, R = V % b := ⟨_, rfl⟩
  have hYe : Y = T * b + S := by rw [hTd, hSd]; exact (Nat.div_add_mod' _ _).symm
  have hVe : V = P * b + R := by rw [hPd, hRd]; exact (Nat.div_add_mod' _ _).symm
  have hSb : S < b := by rw [hSd]; exact Nat.mod_lt _ hb0
  have hRb : R < b := by rw [hRd]; exact Nat.mod_lt _ hb0
  have hPb : P < b := by rw [hPd]; exact (Nat.div_lt_iff_lt_mul hb0).2 hVB
  have hTb : T < b := by rw [hTd]; exact (Nat.div_lt_iff_lt_mul hb0).2 (by rw [hbb]; exact hYB)
  have hT2 : b ≤ 2 * T := by
    unfold Bs at hn; rw [hb] at hYe hSb ⊢; omega
  have hT1 : 1 ≤ T := by omega
  obtain ⟨Q, hQd⟩ : ∃ Q, Q = (U * b + P) / Y := ⟨_, rfl⟩
  obtain ⟨W, hWd⟩ : ∃ W, W = (U * b + P) % Y := ⟨_, rfl⟩
  obtain ⟨Z, hZd⟩ : ∃ Z, Z = (W * b + R) / Y := ⟨_, rfl⟩
  obtain ⟨F, hFd⟩ : ∃ F, F = (W * b + R) % Y := ⟨_, rfl⟩
  obtain ⟨hQb, hZb, hWY, hFY, hq, hr⟩ := div_digits hb0 hUY hPb hRb hQd hWd hZd hFd
  rw [← hVe, ← hmain, hYd] at hq hr
  rw [Nat.mul_div_mul_right _ _ hp, hbb] at hq
  rw [Nat.mul_mod_mul_right, hbb] at hr
  have hres2 : F / 2 ^ s = (hi * Bs + lo) % y := by rw [← hr, Nat.mul_div_cancel _ hp]
  have LIs : ∀ u p D, u < Y → p < b → D = (u * b + p) / Y → LI 4294967296 T u D (u / T) (u % T) := fun u p D hu hp hD => by
    rw [← hb]
    refine ⟨Nat.div_add_mod' _ _, ?_, ?_, ?_⟩
    · rw [hD, hYe]; exact knu_start' hT1 hp
    · refine Nat.le_of_lt_succ ((Nat.div_lt_iff_lt_mul hT1).2 ?_)
      have h1 : (b + 1 + 1) * T = T * b + 2 * T := by rw [Nat.mul_comm, Nat.mul_add, Nat.mul_add]; omega
      show u < (b + 1 + 1) * T
      omega
    · exact Nat.lt_of_lt_of_le (Nat.mod_lt _ hT1) (Nat.le_of_lt hTb)
  have I1 := LIs U P Q hUY hPb hQd
  have I2 := LIs W R Z hWY hRb hZd
  have H1 : QD 4294967296 T S U P Q := by rw [← hb]; exact ⟨by rw [hQd, hYe], hPb, hQb, hSb⟩
  have H2 : QD 4294967296 T S W R Z := by rw [← hb]; exact ⟨by rw [hZd, hYe], hRb, hZb, hSb⟩
  have hYB' : Y < 18446744073709551616 := by unfold Bs at hYB; exact hYB
  have sub : ∀ (x x' v : Nat), x = x' + v → v < 18446744073709551616 → IntKind.u64.wrap (((x % 18446744073709551616 : Nat) : Int) - ((x' % 18446744073709551616 : Nat) : Int)) = (v : Int) := fun x x' v h hv => by
    rw [IntKind.wrap_u64]; omega
  have add : ∀ (x p : Nat), IntKind.u64.wrap (((x % 18446744073709551616 : Nat) : Int) + (p : Int)) = (((x + p) % 18446744073709551616 : Nat) : Int) := fun x p => by
    rw [IntKind.wrap_u64]; omega
  have mulw : ∀ x p : Nat, IntKind.u64.wrap ((x : Int) * (p : Int)) = ((x * p % 18446744073709551616 : Nat) : Int) := fun x p => by rw [← Int.natCast_mul]; exact wrapM _
  have hQY : U * b + P = Q * Y + W := by rw [hQd, hWd]; exact (Nat.div_add_mod' _ _).symm
  have hZY : W * b + R = Z * Y + F := by rw [hZd, hFd]; exact (Nat.div_add_mod' _ _).symm
  have quo : ∀ u, u < Y → IntKind.u64.wrap ((u / T : Nat) : Int) = ((u / T : Nat) : Int) ∧ IntKind.u64.wrap (((u / T : Nat) : Int) * (T : Int)) = ((u / T * T : Nat) : Int) ∧ IntKind.u64.wrap ((u : Int) - ((u / T * T : Nat) : Int)) = ((u % T : Nat) : Int) := fun u hu => by
    have h1 := Nat.div_add_mod' u T
    have h2 : u / T ≤ u := Nat.div_le_self _ _
    refine ⟨wrapN _ (by omega), ?_, ?_⟩
    · rw [← Int.natCast_mul]; exact wrapN _ (by omega)
    · rw [show (u : Int) - ((u / T * T : Nat) : Int) = ((u % T : Nat) : Int) by omega]; exact wrapN _ (by omega)
  have hUor : bits .or .u64 (IntKind.u64.wrap ((hi : Int) * 2 ^ s)) ((lo : Int) / 2 ^ (64 - s)) = (U : Int) := by
    have h1 : hi * 2 ^ s < 18446744073709551616 := Nat.lt_of_le_of_lt (Nat.le_trans (Nat.le_add_right _ _) (Nat.le_of_eq hUd.symm)) (Nat.lt_trans hUY hYB')
    have e1 : ((hi : Int) * 2 ^ s) = ((2 ^ s * hi : Nat) : Int) := by push_cast; rw [Int.mul_comm]
    have e2 : ((lo : Int) / 2 ^ (64 - s)) = ((lo / 2 ^ (64 - s) : Nat) : Int) := by push_cast; rfl
    rw [Nat.mul_comm] at h1
    rw [e1, e2, wrapN _ h1]
    have h3 : lo / 2 ^ (64 - s) < 2 ^ s := by
      refine (Nat.div_lt_iff_lt_mul (Nat.pow_pos (by omega))).2 ?_
      rw [Nat.mul_comm, ← hdvd, hbb]; exact hlo
    have hUlt : U < 18446744073709551616 := by omega
    rw [hUd, hdiv, Nat.mul_comm] at hUlt
    rw [or_add s hi _ h3 hUlt, hUd, hdiv, Nat.mul_comm]
  refine div64_core hi lo y s Y T S U V P R (U / T) (U % T) (U * b % 18446744073709551616) ((U * b + P) % 18446744073709551616) (Q * Y % 18446744073709551616) W (W / T) (W % T) (W * b % 18446744073709551616) ((W * b + R) % 18446744073709551616) (Z * Y % 18446744073709551616) F Q Z (U / T * T) (W / T * T) _ _
    (by simp; omega) (by simp; omega) hlt hs (by omega) ?_ ?_ ?_ hUor ?_ ?_ ?_ (by push_cast; rfl) (quo U hUY).1 (quo U hUY).2.1 (quo U hUY).2.2 ?_ (add _ _) (mulw _ _) (sub _ _ W hQY (by omega))
    (by push_cast; rfl) (quo W hWY).1 (quo W hWY).2.1 (quo W hWY).2.2 ?_ (add _ _) (mulw _ _) (sub _ _ F hZY (by omega)) hT1 (by omega) (by omega) (by omega) (by omega) (by omega) (by omega) H1 H2 I1 I2 ?_ ?_ w hHL
  · rw [show (y : Int) * 2 ^ s = ((y * 2 ^ s : Nat) : Int) by push_cast; rfl, ← hYd]; exact wrapN _ hYB'
  · rw [hTd, hb]; omega
  · rw [Mul64.maskN _ hYB', hSd, hb]
  · rw [show (lo : Int) * 2 ^ s = ((lo * 2 ^ s : Nat) : Int) by push_cast; rfl, wrapM, hVd, hbb]; rfl
  · rw [hPd, hb]; omega
  · rw [Mul64.maskN _ (by rw [hbb] at hVB; exact hVB), hRd, hb]
  · have := mulw U b; rw [hb] at this ⊢; exact this
  · have := mulw W b; rw [hb] at this ⊢; exact this
  · show _ = _; rw [hq, hb, Int.natCast_add, Int.natCast_mul]; rfl
  · show _ = _; rw [← hres2]; push_cast; rfl
end Go.Proofs.YthehcjfmokabfaaDoor
