/-
  Layer 1, walks V: Pow.
-/
import Derived.Test.YtgmmfaclchoigaaDoorWu
import Derived.BigQuiet
import Derived.BigGuard
set_option linter.unusedVariables false
set_option linter.unusedSimpArgs false
namespace Go.Proofs.YtgmmfaclchoigaaDoor
open Go.RowKit
attribute [local irreducible] lo hs sm s64 c64 d64 b64 mh ml pd pc qd qc val hiB str cmpI srD lz nb isq

set_option maxHeartbeats 2000000 in
set_option maxRecDepth 100000 in
theorem pow_neg (a : Nat) (n : Int) (h : n < 0) (w : World) :
    Calls Tryd.prog 31 #[natV a, .int .i64 n] w fun e w' => e = .returned (.tuple #[natV 0, .int .i64 1]) ∧ Below w.heap.size w w' := by
  obtain ⟨w0, hw0, hA, hB, hbw, hsz⟩ := boxes2 w (.int .u64 ((lo a : Nat) : Int)) (.string (hs a)) (.int .u64 0) (.string ⟨#[]⟩) 26
  obtain ⟨c0, c1, cf⟩ := id hB
  have h1 : decide (n < 0) = true := decide_eq_true h
  go_enter Tryd.func31, Tryd.ntmps31
  go_wp2_with fail
  exact bodyPost_ret (v := .tuple #[natV 0, .int .i64 1]) (by rw [natV_zero]; simp [results, Tryd.results31, go_sem, c0, c1]) rfl ⟨rfl, (hbw.setCell (by simp <;> omega) _).setCell (by simp <;> omega) _⟩
set_option maxHeartbeats 2000000 in
set_option maxRecDepth 100000 in
theorem pow_great (a n : Nat) (h : 4096 < n) (hn : n < 9223372036854775808) (w : World) :
    Calls Tryd.prog 31 #[natV a, .int .i64 (n : Int)] w fun e w' => e = .returned (.tuple #[natV 0, .int .i64 3]) ∧ Below w.heap.size w w' := by
  obtain ⟨w0, hw0, hA, hB, hbw, hsz⟩ := boxes2 w (.int .u64 ((lo a : Nat) : Int)) (.string (hs a)) (.int .u64 0) (.string ⟨#[]⟩) 26
  obtain ⟨c0, c1, cf⟩ := id hB
  have h1 : decide (4096 < n) = true := decide_eq_true h
  have h2 : decide ((4096 : Int) < (n : Int)) = true := decide_eq_true (by omega)
  have h3 : decide (n ≤ 4096) = false := decide_eq_false (by omega)
  obtain ⟨a0, a1, af⟩ := id hA
  have h4 : ¬ n = 0 := by omega
  clear hn
  go_enter Tryd.func31, Tryd.ntmps31
  go_wp2_with fail
  go_quiet (fail)
  go_wp2_with fail
  exact bodyPost_ret (v := .tuple #[natV 0, .int .i64 3]) (by rw [natV_zero]; simp [results, Tryd.results31, go_sem, c0, c1]) rfl ⟨rfl, ((bdrew hbw nq).setCell (by simp <;> omega) _).setCell (by simp <;> omega) _⟩

/-- What Pow's second test asks. -/
def great (a n : Nat) : Bool := decide (4096 < n) || (decide (0 < n) && decide (262144 / n < nb a))
set_option maxHeartbeats 2000000 in
set_option maxRecDepth 100000 in
theorem pow_over (a n : Nat) (h0 : 0 < n) (h : n ≤ 4096) (hg : 262144 / n < nb a) (hla : (digs a).length ≤ 1000000000) (w : World) :
    Calls Tryd.prog 31 #[natV a, .int .i64 (n : Int)] w fun e w' => e = .returned (.tuple #[natV 0, .int .i64 3]) ∧ Below w.heap.size w w' := by
  obtain ⟨w0, hw0, hA, hB, hbw, hsz⟩ := boxes2 w (.int .u64 ((lo a : Nat) : Int)) (.string (hs a)) (.int .u64 0) (.string ⟨#[]⟩) 26
  obtain ⟨a0, a1, af⟩ := id hA
  obtain ⟨q, hq⟩ : ∃ q, q = 262144 / n := ⟨_, rfl⟩
  have hqb : q ≤ 262144 := by rw [hq]; exact Nat.div_le_self _ _
  have htd : (262144 : Int).tdiv (n : Int) = (q : Int) := by
    rw [Int.tdiv_eq_ediv_of_nonneg (by omega), hq]; rfl
  have hed : (262144 : Int) / (n : Int) = (q : Int) := by rw [hq]; rfl
  have hnb := nb_len hla
  have HBt := Lib.hid (fun w => bits_any a (by omega) w)
  rw [← hq] at hg
  generalize nb a = B at *
  have h1 : decide ((4096 : Int) < (n : Int)) = false := decide_eq_false (by omega)
  have h2 : decide (4096 < n) = false := decide_eq_false (by omega)
  have h3 : decide ((0 : Int) < (n : Int)) = true := decide_eq_true (by omega)
  have h4 : ¬ n = 0 := by omega
  have h5 : decide (q < B) = true := decide_eq_true hg
  have h6 : decide ((q : Int) < (B : Int)) = true := decide_eq_true (by omega)
  have hwq : IntKind.i64.wrap (q : Int) = (q : Int) := IntWalk.i64_in _ (by omega)
  clear hq hnb hla hg
  go_enter Tryd.func31, Tryd.ntmps31
  go_wp2_with fail
  go_region_held3 (fun w' => w'.cell? ⟨w.heap.size, 0, none⟩ = some (.int .u64 ((lo a : Nat) : Int)) ∧ w'.cell? ⟨w.heap.size, 1, none⟩ = some (.string (hs a)))
    (first | exact ⟨a0, a1⟩ | exact ⟨a0', a1'⟩)
    (first
      | (go_at_call 29; ((with_reducible refine Calls.mono (HBt.out _) ?_); rintro e w1 ⟨rfl, hb1⟩; obtain ⟨a0', a1', af'⟩ := hA.below ((Below.refl w0.heap.size w0).drew.trans hb1) (by omega))))
  have hb01 := (Below.refl w0.heap.size w0).drew.trans hb1
  obtain ⟨c0, c1, cf⟩ := hB.below hb01 (by omega)
  have hB1 := hbw.trans (hb01.mono (by omega))
  go_wp2_with fail
  exact bodyPost_ret (v := .tuple #[natV 0, .int .i64 3]) (by rw [natV_zero]; simp [results, Tryd.results31, go_sem, c0, c1]) rfl ⟨rfl, (hB1.setCell (by simp <;> omega) _).setCell (by simp <;> omega) _⟩

theorem pow_len {a n k : Nat} (hk : k ≤ n) (hg : n = 0 ∨ nb a ≤ 262144 / n) : (digs (a ^ k)).length ≤ 4097 := by
  obtain ⟨N, hN⟩ : ∃ N, N = 4097 := ⟨_, rfl⟩
  rw [← hN]
  refine digs_length_iff.2 ?_
  rcases hg with h | h
  · have : k = 0 := by omega
    rw [this, Nat.pow_zero]
    exact Nat.one_lt_pow (by omega) Bs_gt
  · have h1 : k * nb a ≤ 262144 := Nat.le_trans (Nat.mul_le_mul hk h) (Nat.mul_div_le 262144 n)
    have h2 : a ^ k ≤ 2 ^ (k * nb a) := by
      rw [Nat.mul_comm, Nat.pow_mul]; exact Nat.pow_le_pow_left (Nat.le_of_lt (nb_lt a)) k
    refine Nat.lt_of_le_of_lt h2 ?_
    rw [Bs_pow, ← Nat.pow_mul]
    exact Nat.pow_lt_pow_right (by omega) (by omega)

theorem digs_mul_le {a b k m : Nat} (ha : (digs a).length ≤ k) (hb : (digs b).length ≤ m) : (digs (a * b)).length ≤ k + m := by
  have h1 := digs_length_iff.1 ha
  have h2 := digs_length_iff.1 hb
  refine digs_length_iff.2 ?_
  rw [Nat.pow_add]
  exact Nat.mul_lt_mul'' h1 h2

theorem i64_and1 (n : Int) : bits .and .i64 n 1 = n % 2 := by
  have h127 : (BitVec.ofInt 64 1).toNat = 2 ^ 1 - 1 := by decide
  have key : (BitVec.ofInt 64 n &&& BitVec.ofInt 64 1).toNat = (n % ((2 ^ 64 : Nat) : Int)).toNat % 2 ^ 1 := by
    rw [BitVec.toNat_and, BitVec.toNat_ofInt, h127, Nat.and_two_pow_sub_one_eq_mod]
  show IntKind.i64.wrap ((BitVec.ofInt 64 n &&& BitVec.ofInt 64 1).toNat : Nat) = n % 2
  rw [key, IntKind.wrap_i64]
  omega

theorem pow_bit (n k : Nat) : bits .and .i64 ((n : Int) / 2 ^ k) 1 = ((n / 2 ^ k % 2 : Nat) : Int) := by
  rw [i64_and1]
  have h : ((n : Int) / 2 ^ k) = ((n / 2 ^ k : Nat) : Int) := by
    rw [Int.natCast_ediv, Int.natCast_pow]; rfl
  rw [h]
  generalize n / 2 ^ k = x
  omega

theorem pow_half (a n k : Nat) : a ^ (n / 2 ^ k) = a ^ (n / 2 ^ (k + 1)) * a ^ (n / 2 ^ (k + 1)) * a ^ (n / 2 ^ k % 2) := by
  rw [← Nat.pow_add, ← Nat.pow_add, Nat.pow_succ, ← Nat.div_div_eq_div_mul]
  congr 1
  generalize n / 2 ^ k = x
  omega

set_option maxHeartbeats 2000000 in
set_option maxRecDepth 100000 in
theorem pow_ok (a n : Nat) (h : n ≤ 4096) (hg : n = 0 ∨ nb a ≤ 262144 / n) (hla : (digs a).length ≤ 1000000000) (w : World) :
    Calls Tryd.prog 31 #[natV a, .int .i64 (n : Int)] w fun e w' => e = .returned (.tuple #[natV (a ^ n), .int .i64 0]) ∧ Below w.heap.size w w' := by
  obtain ⟨w0, hw0, hA, hB, hbw, hsz⟩ := boxes2 w (.int .u64 ((lo a : Nat) : Int)) (.string (hs a)) (.int .u64 0) (.string ⟨#[]⟩) 26
  obtain ⟨a0, a1, af⟩ := id hA
  have H0 : B2 w0 w.heap.size a := ⟨hA, hB, hsz⟩
  have h1 : decide ((4096 : Int) < (n : Int)) = false := decide_eq_false (by omega)
  have h2 : decide (4096 < n) = false := decide_eq_false (by omega)
  go_enter Tryd.func31, Tryd.ntmps31
  go_upto_region 3 with fail
  go_cut [24] from 12 to 24 (fun z wx => z = .bool false ∧ B2 wx w.heap.size a ∧ Below w.heap.size w wx)
  case first =>
    rcases Nat.eq_zero_or_pos n with h0 | h0
    · subst h0
      have h3 : decide ((0 : Int) < ((0 : Nat) : Int)) = false := rfl
      go_quiet (fail)
      go_wp2_with fail
      go_meet
      exact ⟨rfl, H0.below (bdrew (Below.refl _ _) nq), bdrew hbw nq⟩
    · have hq1 : nb a ≤ 262144 / n := by omega
      obtain ⟨q, hq⟩ : ∃ q, q = 262144 / n := ⟨_, rfl⟩
      have hqb : q ≤ 262144 := by rw [hq]; exact Nat.div_le_self _ _
      have htd : (262144 : Int).tdiv (n : Int) = (q : Int) := by
        rw [Int.tdiv_eq_ediv_of_nonneg (by omega), hq]; rfl
      have hed : (262144 : Int) / (n : Int) = (q : Int) := by rw [hq]; rfl
      have hnb := nb_len hla
      have HBt := Lib.hid (fun w => bits_any a (by omega) w)
      rw [← hq] at hq1
      have HG := Lib.hid hg
      clear hg
      generalize nb a = B at *
      have h3 : decide ((0 : Int) < (n : Int)) = true := decide_eq_true (by omega)
      have h4 : ¬ n = 0 := by omega
      have h5 : decide (q < B) = false := decide_eq_false (by omega)
      have h6 : decide ((q : Int) < (B : Int)) = false := decide_eq_false (by omega)
      have hwq : IntKind.i64.wrap (q : Int) = (q : Int) := IntWalk.i64_in _ (by omega)
      clear hq hnb hla
      go_region_held3 (fun w' => w'.cell? ⟨w.heap.size, 0, none⟩ = some (.int .u64 ((lo a : Nat) : Int)) ∧ w'.cell? ⟨w.heap.size, 1, none⟩ = some (.string (hs a)))
        (first | exact ⟨a0, a1⟩ | exact ⟨a0', a1'⟩)
        (first
          | (go_at_call 29; ((with_reducible refine Calls.mono (HBt.out _) ?_); rintro e w1 ⟨rfl, hb1⟩; obtain ⟨a0', a1', af'⟩ := hA.below ((Below.refl w0.heap.size w0).drew.trans hb1) (by omega))))
      have hb01 := (Below.refl w0.heap.size w0).drew.trans hb1
      go_wp2_with fail
      go_meet
      exact ⟨rfl, H0.below hb01, hbw.trans (hb01.mono (by omega))⟩
  case rest =>
    obtain ⟨rfl, H1, hB1⟩ := hcut
    have HO := Lib.hid (fun w => of_any 1 Bs_gt w)
    have HLn := Lib.hid (fun w => lenU n (by unfold Bs; omega) w)
    have hlen := nb_lt n
    have hlb : nb n ≤ 64 := nb_le64 (by unfold Bs; omega)
    have hwn : IntKind.u64.wrap (n : Int) = (n : Int) := wrapN _ (by omega)
    have HG := Lib.hid hg
    obtain ⟨L, hL⟩ : ∃ L, L = nb n := ⟨_, rfl⟩
    rw [← hL] at HLn hlen hlb
    have hlen := Lib.hid hlen
    clear hg hA hB hbw hsz a0 a1 af H0 hw0 hL
    go_wp2_with fail
    refine (HO.out _).mono ?_
    rintro e w2 ⟨rfl, hb2⟩
    have H2 := H1.below hb2
    have hB2 := H1.step hB1 hb2
    obtain ⟨w3, hw3, hP, hb3, hsz3⟩ := boxes1 w2 (.int .u64 ((lo 1 : Nat) : Int)) (.string (hs 1)) 26
    have H3 := H2.below hb3
    have hB3 := H2.step hB2 hb3
    have hK : w.heap.size + 2 ≤ w2.heap.size := H2.sz
    clear hb2 H1 hB1 HO hb3 H2 hB2
    go_wp2_with fail
    refine (HLn.out _).mono ?_
    rintro e w4 ⟨rfl, rfl⟩
    clear HLn
    go_wp2_with fail
    go_loopw [8, 31] (fun _ z wr => ∃ i : Nat, i ≤ L ∧ z = .int .i64 i ∧ Bx wr w2.heap.size (.int .u64 ((lo (a ^ (n / 2 ^ (L - i))) : Nat) : Int)) (.string (hs (a ^ (n / 2 ^ (L - i))))) ∧ w2.heap.size < wr.heap.size ∧ B2 wr w.heap.size a ∧ Below w.heap.size w wr) (fun _ z _ => L - (intOf z).toNat)
    case atStart => exact ⟨0, Nat.zero_le _, rfl, by rw [Nat.sub_zero, Nat.div_eq_of_lt hlen.out, Nat.pow_zero]; exact hP, hsz3, H3, hB3⟩
    case round =>
      obtain ⟨i, hi, rfl, hP, hs4, H4, hB4⟩ := hrel
      clear hw3 H3 hB3 hsz3
      obtain ⟨p, hp⟩ : ∃ p, p = a ^ (n / 2 ^ (L - i)) := ⟨_, rfl⟩
      rw [← hp] at hP
      rcases Nat.lt_or_eq_of_le hi with hiL | hiL
      · have hlp : (digs p).length ≤ 4097 := by rw [hp]; exact pow_len (Nat.div_le_self _ _) HG.out
        have HM := Lib.hid (fun w => mul_any p p (by omega) (by omega) w)
        obtain ⟨k, hk⟩ : ∃ k : Nat, L = k + 1 + i := ⟨L - 1 - i, by omega⟩
        obtain ⟨f, hf⟩ : ∃ f, f = n / 2 ^ k := ⟨_, rfl⟩
        obtain ⟨s, hs⟩ : ∃ s, s = p * p := ⟨_, rfl⟩
        rw [← hs] at HM
        have HS := Lib.hid hs
        have HF := Lib.hid hf
        have HP := Lib.hid hp
        clear hs hf hp
        obtain ⟨p0, p1, pf⟩ := id hP
        go_wp2_with fail
        refine (HM.out _).mono ?_
        rintro e w5 ⟨rfl, hb5⟩
        have H5 := H4.below hb5
        have hB5 := H4.step hB4 hb5
        obtain ⟨q0, q1, qf⟩ := hP.below hb5 hs4
        clear p0 p1 pf hP HM H4 hB4
        have hkk : (L : Int) - 1 - (i : Int) = (k : Int) := by omega
        have hkL : L - i = k + 1 := by omega
        have hkL' : L - (i + 1) = k := by omega
        have hR5 := (show Bx w5 w2.heap.size _ _ from ⟨q0, q1, qf⟩)
        have hs5 : w2.heap.size < w5.heap.size := Nat.lt_of_lt_of_le hs4 hb5.size
        obtain ⟨w6, hw6⟩ : ∃ w6, (w5.setCell ⟨w2.heap.size, 0, none⟩ (.int .u64 ((lo s : Nat) : Int))).setCell ⟨w2.heap.size, 1, none⟩ (.string (hs s)) = w6 := ⟨_, rfl⟩
        have hR6 : Bx w6 w2.heap.size (.int .u64 ((lo s : Nat) : Int)) (.string (hs s)) := by rw [← hw6]; exact put2 hR5 _ _
        have hb6 : Below (w.heap.size + 2) w5 w6 := by rw [← hw6]; exact ((Below.refl _ _).setCell hK _).setCell hK _
        have H6 := H5.belowN hb6
        have hB6 := hB5.trans (hb6.mono (by omega))
        have hs6 : w2.heap.size < w6.heap.size := Nat.lt_of_lt_of_le hs5 hb6.size
        have hbt := pow_bit n k
        have hph := pow_half a n k
        rw [hkL] at HP
        have HK := Lib.hid hk
        clear hk
        rw [← HP.out, ← HS.out] at hph
        clear H5 hB5 hR5 hs5 hb5 hb6
        have hbt2 : n / 2 ^ k % 2 = 0 ∨ n / 2 ^ k % 2 = 1 := by generalize n / 2 ^ k = x; omega
        have hlf := pow_len (a := a) (k := n / 2 ^ k) (Nat.div_le_self n _) HG.out
        rcases hbt2 with hz | hz
        · rw [hz] at hbt hph
          rw [Nat.pow_zero, Nat.mul_one] at hph
          have HH := Lib.hid hph
          have hbt' : bits BinOp.and IntKind.i64 ((n : Int) / 2 ^ k) 1 = 0 := hbt
          clear hph hz hlf hbt hkL
          go_wp2_with fail
          go_roundw
          case rel => exact ⟨i + 1, hiL, rfl, by rw [hkL', HH.out]; exact hR6, hs6, H6, hB6⟩
          case measure => simp [intOf]; omega
        · rw [hz] at hbt hph
          rw [Nat.pow_one] at hph
          have hbt' : bits BinOp.and IntKind.i64 ((n : Int) / 2 ^ k) 1 = 1 := hbt
          have hls : (digs s).length ≤ 8200 := by
            have h1 := digs_mul_le hlp hlp
            rw [← HS.out] at h1; omega
          have HM2 := Lib.hid (fun w => mul_any s a (by omega) (by omega) w)
          rw [← hph] at HM2
          obtain ⟨q, hq⟩ : ∃ q, q = a ^ (n / 2 ^ k) := ⟨_, rfl⟩
          rw [← hq] at HM2
          have HQ := Lib.hid hq
          clear hph hz hlf hbt hkL hq hls
          obtain ⟨r0, r1, rf⟩ := id hR6
          obtain ⟨⟨a0, a1, af⟩, -⟩ := id H6
          go_wp2_with fail
          refine (HM2.out _).mono ?_
          rintro e w7 ⟨rfl, hb7⟩
          have H7 := H6.below hb7
          have hB7 := H6.step hB6 hb7
          have hR7 := hR6.below hb7 hs6
          have hs7 : w2.heap.size < w7.heap.size := Nat.lt_of_lt_of_le hs6 hb7.size
          have hR8 := put2 hR7 (.int .u64 ((lo q : Nat) : Int)) (.string (hs q))
          have hb8 : Below (w.heap.size + 2) w7 ((w7.setCell ⟨w2.heap.size, 0, none⟩ (.int .u64 ((lo q : Nat) : Int))).setCell ⟨w2.heap.size, 1, none⟩ (.string (hs q))) := ((Below.refl _ _).setCell hK _).setCell hK _
          have H8 := Lib.hid (H7.belowN hb8)
          have hB8 := Lib.hid (hB7.trans (hb8.mono (by omega)))
          have hs8 := Lib.hid (Nat.lt_of_lt_of_le hs7 hb8.size)
          obtain ⟨r0', r1', rf'⟩ := id hR7
          replace hR8 := Lib.hid hR8
          clear r0 r1 rf a0 a1 af hb8 hb7 H6 hB6 hR6 hs6 HM2 hR7 H7 hB7 hs7 hw6
          go_wp2_with fail
          go_roundw
          case rel => exact ⟨i + 1, hiL, rfl, by rw [hkL', ← HQ.out]; exact hR8.out, hs8.out, H8.out, hB8.out⟩
          case measure => simp [intOf]; omega
      · have hpn : p = a ^ n := by rw [hp, hiL, Nat.sub_self, Nat.pow_zero, Nat.div_one]
        have HPN := Lib.hid hpn
        clear hp hpn
        obtain ⟨p0, p1, pf⟩ := id hP
        obtain ⟨-, ⟨c0, c1, cf⟩, -⟩ := id H4
        go_wp2_with fail
        exact bodyPost_ret (v := .tuple #[natV p, .int .i64 0]) (by simp [results, Tryd.results31, go_sem, c0, c1]) rfl ⟨by rw [HPN.out], (hB4.setCell (by simp <;> omega) _).setCell (by simp <;> omega) _⟩
end Go.Proofs.YtgmmfaclchoigaaDoor
