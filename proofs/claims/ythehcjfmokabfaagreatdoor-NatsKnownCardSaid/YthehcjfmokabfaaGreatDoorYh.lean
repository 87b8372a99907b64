/-
  Layer 1, walks Q: gcdOfDigits, above, certainSteps, combine, descend, Gcd.
-/
import Derived.Test.YthehcjfmokabfaaGreatDoorYg
import Derived.Deep.CutBlock
set_option linter.unusedVariables false
set_option linter.unusedSimpArgs false
namespace Go.Proofs.YthehcjfmokabfaaGreatDoor
open Go.RowKit
attribute [local irreducible] lo hs sm s64 c64 d64 b64 mh ml pd pc qd qc val hiB str cmpI srD

theorem above_val (D : List Nat) (hD : Dig D) (at_ s : Nat) (hs : s < 64) (h : at_ < D.length) :
    val D / 2 ^ (64 * at_ + s) % Bs = srD s D[at_] (D.getD (at_ + 1) 0) := by
  have h1 : val D / Bs ^ at_ = val (D.drop at_) := by
    have h2 : val D = val (D.take at_) + Bs ^ at_ * val (D.drop at_) := by
      have := val_append (D.take at_) (D.drop at_)
      rw [List.take_append_drop, List.length_take, Nat.min_eq_left (Nat.le_of_lt h)] at this
      exact this
    have h3 : val (D.take at_) < Bs ^ at_ := by
      have := val_lt (hD.take at_)
      rwa [List.length_take, Nat.min_eq_left (Nat.le_of_lt h)] at this
    rw [h2, Nat.add_mul_div_left _ _ (Nat.pow_pos Bs_pos), Nat.div_eq_of_lt h3, Nat.zero_add]
  rw [Nat.pow_add, Nat.pow_mul, show (2 : Nat) ^ 64 = Bs from Bs_pow.symm, ← Nat.div_div_eq_div_mul, h1, List.drop_eq_getElem_cons h, val_cons, srD_sum (Nat.le_of_lt hs), Nat.add_mul_mod_self_left, next_digit D (at_ + 1) hD]
  exact Nat.mod_eq_of_lt (srD_lt (Nat.le_of_lt hs) (hD.get at_ h))
theorem above_past (D : List Nat) (hD : Dig D) (at_ s : Nat) (h : D.length ≤ at_) : val D / 2 ^ (64 * at_ + s) % Bs = 0 := by
  have h1 := val_lt hD
  have h2 : val D < 2 ^ (64 * at_ + s) := by
    refine Nat.lt_of_lt_of_le h1 ?_
    rw [Bs_pow, ← Nat.pow_mul]
    exact Nat.pow_le_pow_right (by omega) (by omega)
  rw [Nat.div_eq_of_lt h2]; exact Nat.zero_mod _

set_option maxHeartbeats 2000000 in
set_option maxRecDepth 100000 in
theorem above_any (g c at_ s n : Nat) (D : List Nat) (hD : Dig D) (hn : n = 64 * at_ + s) (hs : s < 64) (hatl : at_ ≤ 1099511627776) (hl : D.length ≤ 1099511627776) (w : World) (hr : Rd w g 0 D) :
    Calls Tryz.prog 148 #[.slice (some ⟨g, 0, none⟩) D.length c, .int .i64 (n : Int)] w fun e w' =>
      e = .returned (.int .u64 ((val D / 2 ^ n % Bs : Nat) : Int)) ∧ w = w' := by
  have hm64 : min s 64 = s := by omega
  have hdq : (n : Int) / 64 = (at_ : Int) := by omega
  have hdm : (n : Int).tmod 64 = (s : Int) := by rw [Int.tmod_eq_emod_of_nonneg (by omega)]; omega
  by_cases hat : at_ < D.length
  · have hv := above_val D hD at_ s hs hat
    rw [← hn] at hv
    rw [hv]
    clear hn hv
    have hx := hD.get at_ hat
    have hcell := hr at_ hat
    rw [Nat.zero_add] at hcell
    have hd0 : decide (D.length ≤ at_) = false := by rw [decide_eq_false_iff_not]; omega
    have e2 : ((D[at_] : Nat) : Int) / 2 ^ s = ((D[at_] / 2 ^ s : Nat) : Int) := by rw [Int.natCast_ediv, Int.natCast_pow]; rfl
    by_cases hlast : at_ + 1 < D.length
    · have hor := srD_or (n := s) (z := D.getD (at_ + 1) 0) (Nat.le_of_lt hs) hx
      have hcell2 := hr (at_ + 1) hlast
      rw [Nat.zero_add, show D[at_ + 1] = D.getD (at_ + 1) 0 by simp [hlast]] at hcell2
      rw [e2] at hor
      generalize D[at_] / 2 ^ s = xq at *
      generalize D.getD (at_ + 1) 0 = z at *
      generalize D[at_] = x at *
      clear hx hr hD
      go_enter Tryz.func148, Tryz.ntmps148
      go_upto_region 2 with fail
      clear hdq hdm
      go_wp2
      go_ret
      exact ⟨rfl, rfl⟩
    · have hz : D.getD (at_ + 1) 0 = 0 := by simp [hlast]
      have hsr : srD s D[at_] 0 = D[at_] / 2 ^ s := by unfold srD; simp
      rw [hz, hsr]
      generalize D[at_] / 2 ^ s = xq at *
      generalize D[at_] = x at *
      clear hx hr hD hz hsr
      go_enter Tryz.func148, Tryz.ntmps148
      go_upto_region 2 with fail
      clear hdq hdm
      go_wp2
      go_ret
      exact ⟨rfl, rfl⟩
  · have hv := above_past D hD at_ s (Nat.le_of_not_lt hat)
    rw [← hn] at hv
    rw [hv]
    have hd0 : decide (D.length ≤ at_) = true := by rw [decide_eq_true_eq]; omega
    clear hn hv hr hD
    go_enter Tryz.func148, Tryz.ntmps148
    go_wp2
    go_ret
    exact ⟨rfl, rfl⟩

/-- The quotient that the highest digits tell is that of the two numbers at hand. -/
theorem Leh.quot {p0 q0 s A B C D p q k : Int} (h : Leh p0 q0 s A B C D p q) (hC : 0 < q + C) (hD : 0 < q + D) (k1 : k = (p + A) / (q + C)) (k2 : k = (p + B) / (q + D)) :
    0 ≤ k ∧ k * q ≤ p ∧ p - k * q < q := by
  have hk : 0 ≤ k := by rw [k1]; exact Int.ediv_nonneg (by have := h.c1; omega) (by omega)
  have m1 : k * (q + C) ≤ p + A := by rw [k1]; exact Int.ediv_mul_le _ (by omega)
  have m2 : k * (q + D) ≤ p + B := by rw [k2]; exact Int.ediv_mul_le _ (by omega)
  have m3 : p + A < (k + 1) * (q + C) := by rw [k1]; exact Int.lt_ediv_add_one_mul_self _ hC
  have m4 : p + B < (k + 1) * (q + D) := by rw [k2]; exact Int.lt_ediv_add_one_mul_self _ hD
  have neg : ∀ j c : Int, 0 ≤ j → c ≤ 0 → j * c ≤ 0 := fun j c hj hc => Int.mul_nonpos_of_nonneg_of_nonpos hj hc
  have pos : ∀ j c : Int, 0 ≤ j → 0 ≤ c → 0 ≤ j * c := fun j c hj hc => Int.mul_nonneg hj hc
  have e1 : (k + 1) * q = k * q + q := by rw [Int.add_mul, Int.one_mul]
  rw [Int.mul_add] at m1 m2 m3 m4
  have h1 := h.hA; have h2 := h.hB; have h3 := h.hC; have h4 := h.hD
  rcases h.hs with e | e <;> rw [e] at h1 h2 h3 h4
  · have := pos k D hk (by omega); have := neg (k + 1) C (by omega) (by omega)
    exact ⟨hk, by omega, by omega⟩
  · have := pos k C hk (by omega); have := neg (k + 1) D (by omega) (by omega)
    exact ⟨hk, by omega, by omega⟩

/-- What holds between two of certainSteps' rounds. -/
structure CS (x y : Nat) (p0 q0 A B C D p q : Int) : Prop where
  sg : ∃ s, Leh p0 q0 s A B C D p q
  t : ∃ X Y, LehT x y A B C D X Y
  bA : -p0 ≤ A ∧ A ≤ p0 ∧ -p0 ≤ B ∧ B ≤ p0
  bq : p ≤ p0 ∧ q ≤ p0 ∧ q0 ≤ p0
theorem CS.start {x y : Nat} {p0 q0 : Int} (h : y ≤ x) (hp : 0 < p0) (hq : 0 ≤ q0) (hqp : q0 ≤ p0) : CS x y p0 q0 1 0 0 1 p0 q0 :=
  ⟨⟨1, Leh.start hp hq⟩, ⟨x, y, LehT.start h⟩, by omega, by omega⟩
theorem CS.bounds {x y : Nat} {p0 q0 A B C D p q : Int} (h : CS x y p0 q0 A B C D p q) :
    0 < p ∧ 0 ≤ q ∧ p ≤ p0 ∧ q ≤ p0 ∧ -p0 ≤ A ∧ A ≤ p0 ∧ -p0 ≤ B ∧ B ≤ p0 ∧ -p0 ≤ C ∧ C ≤ p0 ∧ -p0 ≤ D ∧ D ≤ p0 ∧ 0 < p + A ∧ 0 < p + B ∧ 0 ≤ q + C ∧ 0 ≤ q + D := by
  obtain ⟨⟨s, hL⟩, -, hA, hq⟩ := h
  have h1 := hL.bound
  have h2 := hL.pos
  have := hL.c1; have := hL.c2; have := hL.c3; have := hL.c4
  omega
theorem CS.step {x y T xl yl : Nat} {p0 q0 A B C D p q k : Int} (h : CS x y p0 q0 A B C D p q) (hC : 0 < q + C) (hD : 0 < q + D) (k1 : k = (p + A) / (q + C)) (k2 : k = (p + B) / (q + D))
    (hx : (x : Int) = p0 * T + xl) (hy : (y : Int) = q0 * T + yl) (hxl : xl < T) (hyl : yl < T) :
    CS x y p0 q0 C D (A - k * C) (B - k * D) q (p - k * q) ∧ 0 ≤ k ∧ k * q ≤ p ∧ 0 ≤ p - k * q ∧ p - k * q < q ∧ 0 ≤ k * q := by
  have hb := h.bounds
  obtain ⟨⟨s, hL⟩, ⟨X, Y, hT⟩, hA, hq⟩ := h
  obtain ⟨q1, q2, q3⟩ := hL.quot hC hD k1 k2
  have hn : 0 ≤ k * q := Int.mul_nonneg q1 (by omega)
  exact ⟨⟨⟨_, hL.step hC hD k1 k2⟩, ⟨_, _, LehT.step hL hT hC hD k1 k2 hx hy hxl hyl⟩, by omega, by omega⟩, q1, q2, by omega, q3, hn⟩

theorem boxes2 (w : World) (A1 A2 B1 B2 : Value) (t : TypeId) : ∃ w0, ((w.alloc (.cells #[A1, A2] t)).alloc (.cells #[B1, B2] t)) = w0 ∧
    Bx w0 w.heap.size A1 A2 ∧ Bx w0 (w.heap.size + 1) B1 B2 ∧ Below w.heap.size w w0 ∧ w.heap.size + 2 ≤ w0.heap.size :=
  ⟨_, rfl, Bx.of _ _ _ _ _ (al2_1 w _ _), Bx.of _ _ _ _ _ (al2 w _ _), below2 w _ _, by simp⟩
theorem aboveW (g c N a m : Nat) (X : List Nat) (hm : (digs a).length = m) (hl : m ≤ 1000000000000) (hN : N ≤ 64 * 1000000000000) (hv : a / 2 ^ N < Bs) (w : World) (hdx : DB w g (digs a ++ X)) :
    Calls Tryz.prog 148 #[.slice (some ⟨g, 0, none⟩) m c, .int .i64 (N : Int)] w fun e w' =>
      e = .returned (.int .u64 ((a / 2 ^ N : Nat) : Int)) ∧ w = w' := by
  subst hm
  refine (above_any g c (N / 64) (N % 64) N (digs a) (digs_dig a) (by omega) (by omega) (by omega) (by omega) w hdx.rdl).mono ?_
  rintro e w' ⟨rfl, rfl⟩
  rw [val_digs, Nat.mod_eq_of_lt hv]
  exact ⟨rfl, rfl⟩
theorem window (a m t : Nat) (hm : (digs a).length = m) (h2 : 2 ≤ m) (ht : t = (digs a)[m - 1]'(by omega)) :
    t < Bs ∧ ∃ N, 64 * m = N + 62 + lz t ∧ a / 2 ^ N < 4611686018427387904 ∧ 0 < a / 2 ^ N := by
  obtain ⟨n, rfl⟩ : ∃ n, m = n + 1 := ⟨m - 1, by omega⟩
  obtain ⟨h1, h3, h4, -, -⟩ := norm_div a n hm t ht
  have htB : t < Bs := by rw [ht]; exact (digs_dig a).get _ (by omega)
  refine ⟨htB, 64 * (n + 1) - 62 - lz t, by omega, ?_, ?_⟩
  · rw [Nat.div_lt_iff_lt_mul (Nat.pow_pos (by omega))]
    have h5 : 4611686018427387904 * 2 ^ (64 * (n + 1) - 62 - lz t) * 2 ^ lz t = Bs ^ (n + 1) := by
      rw [show (4611686018427387904 : Nat) = 2 ^ 62 from rfl, ← Nat.pow_add, ← Nat.pow_add, Bs_pow, ← Nat.pow_mul]
      congr 1; omega
    exact Nat.lt_of_mul_lt_mul_right (a := 2 ^ lz t) (by rw [h5]; exact h3)
  · rw [Nat.div_pos_iff]
    refine ⟨Nat.pow_pos (by omega), ?_⟩
    have h5 : 2 ^ (64 * (n + 1) - 62 - lz t) * 2 ^ 62 * 2 ^ lz t = Bs ^ (n + 1) := by
      rw [← Nat.pow_add, ← Nat.pow_add, Bs_pow, ← Nat.pow_mul]
      congr 1; omega
    have h6 : 2 ^ (64 * (n + 1) - 62 - lz t) * 2 ^ lz t * 4 ≤ a * 2 ^ lz t * 2 := by
      have h7 : 2 ^ (64 * (n + 1) - 62 - lz t) * 2 ^ lz t * 4 ≤ Bs ^ (n + 1) := by
        rw [← h5, Nat.mul_right_comm _ (2 ^ 62)]
        exact Nat.mul_le_mul_left (2 ^ (64 * (n + 1) - 62 - lz t) * 2 ^ lz t) (show 4 ≤ 2 ^ 62 by decide)
      omega
    exact Nat.le_of_mul_le_mul_right (c := 2 ^ lz t) (by omega) (Nat.pow_pos (by omega))

theorem put4 {w : World} {k : Nat} {x y z u : Value} (hA : Bx w k x y) (hB : Bx w (k + 1) z u) (x' y' z' u' : Value) :
    Bx ((((w.setCell ⟨k, 0, none⟩ x').setCell ⟨k, 1, none⟩ y').setCell ⟨k + 1, 0, none⟩ z').setCell ⟨k + 1, 1, none⟩ u') k x' y' ∧
    Bx ((((w.setCell ⟨k, 0, none⟩ x').setCell ⟨k, 1, none⟩ y').setCell ⟨k + 1, 0, none⟩ z').setCell ⟨k + 1, 1, none⟩ u') (k + 1) z' u' := by
  obtain ⟨a0, a1, af⟩ := hA
  obtain ⟨b0, b1, bf⟩ := hB
  constructor <;> refine ⟨?_, ?_, fun j => ?_⟩ <;> simp [go_sem, a0, a1, af, b0, b1, bf]
attribute [local irreducible] lz
set_option maxHeartbeats 2000000 in
set_option maxRecDepth 100000 in
theorem certain_any (gx gy cx cy a b m n : Nat) (X Y : List Nat) (hn : (digs b).length = n) (hn2 : 2 ≤ n) (hm : (digs a).length = m) (hab : b ≤ a) (hal : m ≤ 1000000000000) (w : World) (hdx : DB w gx (digs a ++ X)) (hdy : DB w gy (digs b ++ Y)) :
    Calls Tryz.prog 134 #[.slice (some ⟨gx, 0, none⟩) m cx, .slice (some ⟨gy, 0, none⟩) n cy] w fun e w' =>
      ∃ A B C D p q p0 q0 : Int, e = .returned (.tuple #[.agg #[.int .i64 A, .int .i64 B], .agg #[.int .i64 C, .int .i64 D]]) ∧ CS a b p0 q0 A B C D p q ∧ p0 ≤ 4611686018427387904 ∧ Below w.heap.size w w' := by
  obtain ⟨w0, hw0, hA, hB, hbw, hsz⟩ := boxes2 w (.int .i64 0) (.int .i64 0) (.int .i64 0) (.int .i64 0) 168
  have hnm : n ≤ m := by rw [← hn, ← hm]; exact digs_mono hab
  obtain ⟨t, ht⟩ : ∃ t, t = (digs a)[m - 1]'(by omega) := ⟨_, rfl⟩
  obtain ⟨htB, N, hN, hP, hP0⟩ := window a m t hm (by omega) ht
  have hlz : lz t ≤ 63 := (norm_div a (m - 1) (by omega) t ht).1
  have hdx0 := hdx.below hbw hdx.lt
  have hdy0 := hdy.below hbw hdy.lt
  have hcell := hdx0.cell (m - 1) (by simp; omega)
  rw [List.getElem_append_left (by omega), ← ht] at hcell
  have hQ : b / 2 ^ N ≤ a / 2 ^ N := Nat.div_le_div_right hab
  have H1 := fun w h => aboveW gx cx N a m X hm hal (by omega) (by unfold Bs; omega) w h
  have H2 := fun w h => aboveW gy cy N b n Y hn (by omega) (by omega) (by unfold Bs; omega) w h
  replace H1 := Lib.hid H1
  replace H2 := Lib.hid H2
  have hxT : (a : Int) = ((a / 2 ^ N : Nat) : Int) * ((2 ^ N : Nat) : Int) + ((a % 2 ^ N : Nat) : Int) := by
    have := Nat.div_add_mod a (2 ^ N)
    rw [← Int.natCast_mul, ← Int.natCast_add, Nat.mul_comm, this]
  have hyT : (b : Int) = ((b / 2 ^ N : Nat) : Int) * ((2 ^ N : Nat) : Int) + ((b % 2 ^ N : Nat) : Int) := by
    have := Nat.div_add_mod b (2 ^ N)
    rw [← Int.natCast_mul, ← Int.natCast_add, Nat.mul_comm, this]
  have hxl : a % 2 ^ N < 2 ^ N := Nat.mod_lt _ (Nat.pow_pos (by omega))
  have hyl : b % 2 ^ N < 2 ^ N := Nat.mod_lt _ (Nat.pow_pos (by omega))
  generalize a / 2 ^ N = P at *
  generalize b / 2 ^ N = Q at *
  generalize a % 2 ^ N = xl at *
  generalize b % 2 ^ N = yl at *
  generalize 2 ^ N = T at *
  have hS := CS.start (p0 := ((P : Nat) : Int)) (q0 := ((Q : Nat) : Int)) hab (by omega) (by omega) (by omega)
  have hwP : IntKind.i64.wrap ((P : Nat) : Int) = ((P : Nat) : Int) := IntWalk.i64_in _ (by omega)
  have hwQ : IntKind.i64.wrap ((Q : Nat) : Int) = ((Q : Nat) : Int) := IntWalk.i64_in _ (by omega)
  have HS := Lib.hid hS
  have HX := Lib.hid hxT
  have HY := Lib.hid hyT
  have HD := Lib.hid (And.intro hdx0 hdy0)
  have HDrop : (m : Int) * 64 - (lz t : Int) - 62 = (N : Int) := by omega
  have HL := Lib.hid (lz_any t htB)
  clear hS hxT hyT hdx0 hdy0 hdx hdy htB ht hN
  go_enter Tryz.func134, Tryz.ntmps134
  go_wp2_with fail
  refine (HL.out _).mono ?_
  rintro e w1 ⟨rfl, rfl⟩
  go_wp2_with fail
  refine (H1.out _ HD.out.1).mono ?_
  rintro e w1 ⟨rfl, rfl⟩
  go_wp2_with fail
  refine (H2.out _ HD.out.2).mono ?_
  rintro e w1 ⟨rfl, rfl⟩
  obtain ⟨a0, a1, af⟩ := id hA
  obtain ⟨b0, b1, bf⟩ := id hB
  clear HL H1 H2 HDrop hcell hlz
  go_wp2_with fail
  go_loopw [7, 8, 9] (fun z7 z8 _ wr => ∃ A B C D p q : Int, z7 = .int .i64 p ∧ z8 = .int .i64 q ∧ CS a b P Q A B C D p q ∧
    Bx wr w.heap.size (.int .i64 A) (.int .i64 B) ∧ Bx wr (w.heap.size + 1) (.int .i64 C) (.int .i64 D) ∧ Below w.heap.size w wr ∧ w.heap.size + 2 ≤ wr.heap.size) (fun _ z8 _ _ => (intOf z8).toNat)
  case atStart =>
    have hp := put4 hA hB (.int .i64 1) (.int .i64 0) (.int .i64 0) (.int .i64 1)
    exact ⟨1, 0, 0, 1, P, Q, rfl, rfl, HS.out, hp.1, hp.2, (((hbw.setCell (by simp <;> omega) _).setCell (by simp <;> omega) _).setCell (by simp <;> omega) _).setCell (by simp <;> omega) _, by simp; omega⟩
  case round =>
    obtain ⟨A, B, C, D, p, q, rfl, rfl, hCS, hA, hB, hbw, hsz⟩ := hrel
    clear a0 a1 af b0 b1 bf HS
    have hbd := hCS.bounds
    have hCS := Lib.hid hCS
    obtain ⟨u, hu⟩ : ∃ u, u = q + C := ⟨_, rfl⟩
    obtain ⟨v, hv⟩ : ∃ v, v = q + D := ⟨_, rfl⟩
    obtain ⟨f, hf⟩ : ∃ f, f = p + A := ⟨_, rfl⟩
    obtain ⟨g, hg⟩ : ∃ g, g = p + B := ⟨_, rfl⟩
    have wu : IntKind.i64.wrap (q + C) = u := by rw [hu]; exact IntWalk.i64_in _ (by omega)
    have wv : IntKind.i64.wrap (q + D) = v := by rw [hv]; exact IntWalk.i64_in _ (by omega)
    have wf : IntKind.i64.wrap (p + A) = f := by rw [hf]; exact IntWalk.i64_in _ (by omega)
    have wg : IntKind.i64.wrap (p + B) = g := by rw [hg]; exact IntWalk.i64_in _ (by omega)
    have hu0 : 0 ≤ u := by omega
    have hv0 : 0 ≤ v := by omega
    have HBD := Lib.hid hbd
    have Hu := Lib.hid hu
    have Hv := Lib.hid hv
    have Hf := Lib.hid hf
    have Hg := Lib.hid hg
    obtain ⟨a0, a1, af⟩ := id hA
    obtain ⟨b0, b1, bf⟩ := id hB
    clear hbd hu hv hf hg
    by_cases hu1 : u = 0
    · have hwu0 : decide (u = 0) = true := decide_eq_true hu1
      go_wp2_with fail
      go_region
      go_wp2_with fail
      have hp := put4 hA hB (.int .i64 A) (.int .i64 B) (.int .i64 C) (.int .i64 D)
      obtain ⟨⟨p0, p1, -⟩, ⟨p2, p3, -⟩⟩ := hp
      exact bodyPost_ret (v := .tuple #[.agg #[.int .i64 A, .int .i64 B], .agg #[.int .i64 C, .int .i64 D]]) (by simp [results, Tryz.results134, go_sem, a0, a1, b0, b1, af, bf]) rfl
        ⟨A, B, C, D, p, q, P, Q, rfl, hCS.out, by omega, ((((hbw.setCell (by simp <;> omega) _).setCell (by simp <;> omega) _).setCell (by simp <;> omega) _).setCell (by simp <;> omega) _).drew⟩
    · have hwu0 : (u != 0) = true := bne_iff_ne.2 hu1
      by_cases hv1 : v = 0
      · have hwv0 : decide (v = 0) = true := decide_eq_true hv1
        go_wp2_with fail
        go_region
        go_wp2_with fail
        have hp := put4 hA hB (.int .i64 A) (.int .i64 B) (.int .i64 C) (.int .i64 D)
        obtain ⟨⟨p0, p1, -⟩, ⟨p2, p3, -⟩⟩ := hp
        exact bodyPost_ret (v := .tuple #[.agg #[.int .i64 A, .int .i64 B], .agg #[.int .i64 C, .int .i64 D]]) (by simp [results, Tryz.results134, go_sem, a0, a1, b0, b1, af, bf]) rfl
          ⟨A, B, C, D, p, q, P, Q, rfl, hCS.out, by omega, ((((hbw.setCell (by simp <;> omega) _).setCell (by simp <;> omega) _).setCell (by simp <;> omega) _).setCell (by simp <;> omega) _).drew⟩
      · have hwv0 : (v != 0) = true := bne_iff_ne.2 hv1
        have hf0 : 0 ≤ f := by have := HBD.out; have := Hf.out; omega
        have hg0 : 0 ≤ g := by have := HBD.out; have := Hg.out; omega
        obtain ⟨k, hk⟩ : ∃ k, k = f / u := ⟨_, rfl⟩
        obtain ⟨l, hl⟩ : ∃ l, l = g / v := ⟨_, rfl⟩
        have hkb : 0 ≤ k ∧ k ≤ f := ⟨by rw [hk]; exact Int.ediv_nonneg hf0 hu0, by rw [hk]; exact Int.ediv_le_self _ hf0⟩
        have hlb : 0 ≤ l ∧ l ≤ g := ⟨by rw [hl]; exact Int.ediv_nonneg hg0 hv0, by rw [hl]; exact Int.ediv_le_self _ hg0⟩
        have hff : f ≤ 9223372036854775807 ∧ g ≤ 9223372036854775807 := by have := HBD.out; have := Hf.out; have := Hg.out; omega
        have tk : f.tdiv u = k := by rw [hk]; exact Int.tdiv_eq_ediv_of_nonneg hf0
        have tl : g.tdiv v = l := by rw [hl]; exact Int.tdiv_eq_ediv_of_nonneg hg0
        have wk : IntKind.i64.wrap k = k := IntWalk.i64_in _ (by omega)
        have wl : IntKind.i64.wrap l = l := IntWalk.i64_in _ (by omega)
        have Hk := Lib.hid hk
        have Hl := Lib.hid hl
        clear hk hl hff hkb hlb
        by_cases hkl : k = l
        · subst hkl
          have hstep := hCS.out.step (T := T) (xl := xl) (yl := yl) (k := k) (by have := Hu.out; omega) (by have := Hv.out; omega) (by rw [← Hf.out, ← Hu.out]; exact Hk.out) (by rw [← Hg.out, ← Hv.out]; exact Hl.out) HX.out HY.out hxl hyl
          obtain ⟨hn, n1, n2, n3, n4, n5⟩ := hstep
          have nb := hn.bounds
          have ob := HBD.out
          obtain ⟨kq, hkq⟩ : ∃ z, z = k * q := ⟨_, rfl⟩
          obtain ⟨kc, hkc⟩ : ∃ z, z = k * C := ⟨_, rfl⟩
          obtain ⟨kd, hkd⟩ : ∃ z, z = k * D := ⟨_, rfl⟩
          rw [← hkq, ← hkc, ← hkd] at nb
          rw [← hkq] at n2 n3 n4 n5
          rw [← hkq, ← hkc, ← hkd] at hn
          obtain ⟨q', hq'⟩ : ∃ z, z = p - kq := ⟨_, rfl⟩
          obtain ⟨C', hC'⟩ : ∃ z, z = A - kc := ⟨_, rfl⟩
          obtain ⟨D', hD'⟩ : ∃ z, z = B - kd := ⟨_, rfl⟩
          rw [← hq', ← hC', ← hD'] at nb hn
          rw [← hq'] at n3 n4
          have w1 : IntKind.i64.wrap (k * q) = kq := by rw [← hkq]; exact IntWalk.i64_in _ (by omega)
          have w2 : IntKind.i64.wrap (k * C) = kc := by rw [← hkc]; exact IntWalk.i64_in _ (by omega)
          have w3 : IntKind.i64.wrap (k * D) = kd := by rw [← hkd]; exact IntWalk.i64_in _ (by omega)
          have w4 : IntKind.i64.wrap (p - kq) = q' := by rw [← hq']; exact IntWalk.i64_in _ (by omega)
          have w5 : IntKind.i64.wrap (A - kc) = C' := by rw [← hC']; exact IntWalk.i64_in _ (by omega)
          have w6 : IntKind.i64.wrap (B - kd) = D' := by rw [← hD']; exact IntWalk.i64_in _ (by omega)
          have HN := Lib.hid hn
          have HM := Lib.hid (And.intro n3 n4)
          clear nb ob n1 n2 n3 n4 n5 hkq hkc hkd hq' hC' hD' hn hCS Hk Hl Hu Hv Hf Hg HBD
          go_wp2_with fail
          go_region
          go_wp2_with fail
          have hp := put4 hA hB (.int .i64 C) (.int .i64 D) (.int .i64 C') (.int .i64 D')
          refine ⟨⟨C, D, C', D', q, q', rfl, rfl, HN.out, hp.1, hp.2, ((((hbw.setCell (by simp <;> omega) _).setCell (by simp <;> omega) _).setCell (by simp <;> omega) _).setCell (by simp <;> omega) _).drew, by simp; omega⟩, ?_⟩
          have := HM.out
          simp [intOf]; omega
        · have hkl0 : (k != l) = true := bne_iff_ne.2 hkl
          go_wp2_with fail
          go_region
          go_wp2_with fail
          have hp := put4 hA hB (.int .i64 A) (.int .i64 B) (.int .i64 C) (.int .i64 D)
          obtain ⟨⟨p0, p1, -⟩, ⟨p2, p3, -⟩⟩ := hp
          exact bodyPost_ret (v := .tuple #[.agg #[.int .i64 A, .int .i64 B], .agg #[.int .i64 C, .int .i64 D]]) (by simp [results, Tryz.results134, go_sem, a0, a1, b0, b1, af, bf]) rfl
            ⟨A, B, C, D, p, q, P, Q, rfl, hCS.out, by omega, ((((hbw.setCell (by simp <;> omega) _).setCell (by simp <;> omega) _).setCell (by simp <;> omega) _).setCell (by simp <;> omega) _).drew⟩
end Go.Proofs.YthehcjfmokabfaaGreatDoor

/-
  Layer 1, walks R: difference, combine, descend, gcdOfDigits, Gcd.
-/
namespace Go.Proofs.YthehcjfmokabfaaGreatDoor
open Go.RowKit
attribute [local irreducible] lo hs sm s64 c64 d64 b64 mh ml pd pc qd qc val hiB str cmpI srD lz

theorem addP0 (g gy c cy f K n : Nat) (D Y : List Nat) (hK : D.length = K) (hn : Y.length = n) (hD : Dig D) (hY : Dig Y) (hf : f < Bs) (hle : n ≤ K) (hl : K ≤ 1099511627776) (hne : gy ≠ g) (w : World) (hdb : DB w g D) (hgy : gy < w.heap.size) (hr : Rd w gy 0 Y) :
    Calls Tryz.prog 105 #[.slice (some ⟨g, 0, none⟩) K c, .slice (some ⟨gy, 0, none⟩) n cy, .int .u64 (f : Int)] w fun e w' =>
      ∃ (carry : Nat) (P : List Nat), e = .returned (.int .u64 (carry : Int)) ∧ MulI D Y f n carry P ∧ DB w' g (P ++ D.drop n) ∧ w.grownBy w' (some g) := by
  subst hK; subst hn
  refine (addProduct_any g gy 0 c cy f [] D [] Y hD hY hf hle hl hne w (by simpa using hdb) hgy hr).mono ?_
  rintro e w' ⟨carry, P, h1, h2, h3, h4⟩
  exact ⟨carry, P, h1, h2, by simpa using h3, h4⟩
theorem takeP0 (g gy c cy f K n : Nat) (D Y : List Nat) (hK : D.length = K) (hn : Y.length = n) (hD : Dig D) (hY : Dig Y) (hf : f < Bs) (hle : n < K) (hl : K ≤ 1099511627776) (hne : gy ≠ g) (w : World) (hdb : DB w g D) (hgy : gy < w.heap.size) (hr : Rd w gy 0 Y) :
    Calls Tryz.prog 147 #[.slice (some ⟨g, 0, none⟩) K c, .slice (some ⟨gy, 0, none⟩) n cy, .int .u64 (f : Int)] w fun e w' =>
      ∃ (b : Bool) (D' : List Nat), e = .returned (.bool b) ∧ (D'.length = K ∧ Dig D' ∧ val D' + f * val Y = val D + if b then Bs ^ K else 0) ∧ DB w' g D' ∧ w.grownBy w' (some g) := by
  subst hK; subst hn
  refine (takeProduct_any g gy 0 c cy f [] D [] Y hD hY hf hle hl hne w (by simpa using hdb) hgy hr).mono ?_
  rintro e w' ⟨b, D', h1, h2, h3, h4⟩
  exact ⟨b, D', h1, h2, by simpa using h3, h4⟩
theorem trim0 (g c K : Nat) (l : List Nat) (hK : l.length = K) (hd : Dig l) (hl : K ≤ maxLen) (hcap : K ≤ c) (w : World) (hdb : DB w g l) :
    Calls Tryz.prog 85 #[.slice (some ⟨g, 0, none⟩) K c] w fun e w' =>
      e = .returned (.slice (some ⟨g, 0, none⟩) (digs (val l)).length c) ∧ w = w' := by
  subst hK
  exact trim_any g 0 c l hd hl hcap w hdb.rd0

/-- The first product, with its carry put at its place. -/
theorem dif_first {K n x a carry : Nat} {P : List Nat} (hn : (digs x).length = n) (hnK : n < K) (h : MulI (List.replicate K 0) (digs x) a n carry P) :
    ((P ++ List.drop n (List.replicate K 0)).set n carry).length = K ∧ Dig ((P ++ List.drop n (List.replicate K 0)).set n carry) ∧ val ((P ++ List.drop n (List.replicate K 0)).set n carry) = a * x := by
  have e : (P ++ List.drop n (List.replicate K 0)).set n carry = P ++ carry :: List.replicate (K - n - 1) 0 := by
    rw [List.set_append_right _ _ (by rw [h.len]; exact Nat.le_refl _), h.len, Nat.sub_self, List.drop_replicate]
    obtain ⟨j, hj⟩ : ∃ j, K - n = j + 1 := ⟨K - n - 1, by omega⟩
    rw [hj, List.replicate_succ, List.set_cons_zero]; rfl
  have he := h.eq
  rw [List.take_replicate, Nat.min_eq_left (Nat.le_of_lt hnK), val_zeros, ← hn, List.take_length, val_digs, Nat.zero_add, hn] at he
  rw [e]
  refine ⟨by simp [h.len]; omega, h.dig.app (Dig.cons h.le (Dig.zeros _)), ?_⟩
  rw [val_append, val_cons, val_zeros, h.len, Nat.mul_zero, Nat.add_zero]; exact he
theorem dif_last {K b y d v : Nat} {D' : List Nat} {c : Bool} (hK : D'.length = K) (hD : Dig D') (h : val D' + b * y = b * y + d + if c then v else 0) (hv : v = Bs ^ K) : val D' = d := by
  have h1 := val_lt hD
  rw [hK, ← hv] at h1
  cases c <;> simp at h <;> omega

set_option maxHeartbeats 2000000 in
set_option maxRecDepth 100000 in
theorem difference_any (gx gy cx cy a b x y d n m : Nat) (X Y : List Nat) (ha : a < Bs) (hb : b < Bs) (hn : (digs x).length = n) (hm : (digs y).length = m) (hnl : n ≤ 1000000000000) (hml : m ≤ 1000000000000)
    (hd : a * x = b * y + d) (w : World) (hdx : DB w gx (digs x ++ X)) (hdy : DB w gy (digs y ++ Y)) :
    Calls Tryz.prog 149 #[.slice (some ⟨gx, 0, none⟩) n cx, .slice (some ⟨gy, 0, none⟩) m cy, .int .u64 (a : Int), .int .u64 (b : Int)] w fun e w' =>
      ∃ g c z, e = .returned (.slice (some ⟨g, 0, none⟩) (digs d).length c) ∧ DB w' g (digs d ++ List.replicate z 0) ∧ (digs d).length ≤ c ∧ w.heap.size ≤ g ∧ Below w.heap.size w w' := by
  obtain ⟨K, hK⟩ : ∃ K, K = max n m + 1 := ⟨_, rfl⟩
  have hmk : (Instr.makeSlice 114 (.int .i64 (K : Int)) (.int .i64 (K : Int))).run Tryz.prog w = .ok (.slice (some ⟨w.heap.size, 0, none⟩) K K) (w.alloc (zobj K)) := make64 w _ K (by omega) (by omega)
  have hmax : max (n : Int) (m : Int) + 1 = (K : Int) := by omega
  have hz := DB.zeros w K
  have hbz : Below w.heap.size w (w.alloc (zobj K)) := (Below.refl _ _).alloc (Nat.le_refl _) _
  have hsz : w.heap.size < (w.alloc (zobj K)).heap.size := by simp
  have hdx0 := hdx.alloc (zobj K)
  have hdy0 := hdy.alloc (zobj K)
  have hgx : gx < w.heap.size := hdx.lt
  have hgy : gy < w.heap.size := hdy.lt
  have HA := Lib.hid (addP0 w.heap.size gx K cx a K n (List.replicate K 0) (digs x) (by simp) hn (Dig.zeros K) (digs_dig x) ha (by omega) (by omega) (by omega) (w.alloc (zobj K)) hz (by omega) hdx0.rdl)
  clear hdx hdx0 hz
  generalize hW : w.alloc (zobj K) = W1 at *
  have HB := fun D hD => takeP0 w.heap.size gy K cy b K m D (digs y) hD hm
  have HT := fun D hD => trim0 w.heap.size K K D hD
  replace HB := Lib.hid HB
  replace HT := Lib.hid HT
  replace hK := Lib.hid hK
  replace hd := Lib.hid hd
  replace hn := Lib.hid hn
  replace hm := Lib.hid hm
  go_enter Tryz.func149, Tryz.ntmps149
  go_wp2_with fail
  refine (HA.out).mono ?_
  rintro e w2 ⟨carry, P, rfl, hP, hdP, hg2⟩
  have hcb := hP.le
  have hPl := hP.len
  have hKn := hK.out
  have hset := hdP.set n (by simp [hPl]; omega) carry
  have hcell := hdP.cell n (by simp [hPl]; omega)
  have hfz := hdP.frozen n
  generalize hU : w2.setCell ⟨w.heap.size, n, none⟩ (.int .u64 (carry : Int)) = W3 at *
  have hnK : n < K := by omega
  clear hKn
  obtain ⟨q1, q2, q3⟩ := dif_first hn.out hnK hP
  generalize (P ++ List.drop n (List.replicate K 0)).set n carry = D3 at *
  have hg3 : W1.grownBy W3 (some w.heap.size) := by rw [← hU]; exact grown_trans hg2 (grown_set _ _ _ _)
  have hB3 := hbz.trans (grown_below hg3 (Nat.le_refl _) (Nat.le_of_lt hsz))
  have hdy3 := hdy.below hB3 hgy
  have HB3 := Lib.hid (HB.out D3 q1 q2 (digs_dig y) hb (by have := hK.out; omega) (by omega) (by omega) W3 hset hdy3.lt hdy3.rdl)
  have hB3 := Lib.hid hB3
  have hs3 : w.heap.size < W3.heap.size := hset.lt
  go_wp2_with fail
  refine (HB3.out).mono ?_
  rintro e w4 ⟨c, D4, rfl, ⟨h1, h2, h3⟩, hd4, hg4⟩
  rw [q3, hd.out, val_digs] at h3
  have hv := dif_last h1 h2 h3 rfl
  have HT4 := Lib.hid (HT.out D4 h1 h2 (by unfold maxLen; omega) (Nat.le_refl _) w4 hd4)
  rw [hv] at HT4
  clear hW hU HB HT HB3 hg2 hg3 h3 hcell hfz hP hdP
  go_wp2_with fail
  refine (HT4.out).mono ?_
  rintro e w5 ⟨rfl, rfl⟩
  go_wp2_with fail
  go_ret
  obtain ⟨z, hz⟩ := norm D4 h2
  rw [hv] at hz
  refine ⟨_, _, z, rfl, by rw [← hz]; exact hd4, ?_, Nat.le_refl _, hB3.out.trans (grown_below hg4 (Nat.le_refl _) (Nat.le_of_lt hs3))⟩
  have := congrArg List.length hz
  simp at this; omega

theorem boxes1 (w : World) (A1 A2 : Value) (t : TypeId) : ∃ w0, w.alloc (.cells #[A1, A2] t) = w0 ∧ Bx w0 w.heap.size A1 A2 ∧ Below w.heap.size w w0 ∧ w.heap.size < w0.heap.size :=
  ⟨_, rfl, Bx.of _ _ _ _ _ (al1 w _), (Below.refl _ _).alloc (Nat.le_refl _) _, by simp⟩

set_option maxHeartbeats 2000000 in
set_option maxRecDepth 100000 in
theorem combine_any (gx gy cx cy x y d n m : Nat) (A B : Int) (X Y : List Nat) (hn : (digs x).length = n) (hm : (digs y).length = m) (hnl : n ≤ 1000000000000) (hml : m ≤ 1000000000000)
    (hA1 : -4611686018427387904 ≤ A) (hA2 : A ≤ 4611686018427387904) (hB1 : -4611686018427387904 ≤ B) (hB2 : B ≤ 4611686018427387904) (hs1 : A ≤ 0 → 0 ≤ B) (hs2 : 0 < A → B ≤ 0)
    (hd : (d : Int) = A * x + B * y) (w : World) (hdx : DB w gx (digs x ++ X)) (hdy : DB w gy (digs y ++ Y)) :
    Calls Tryz.prog 135 #[.slice (some ⟨gx, 0, none⟩) n cx, .slice (some ⟨gy, 0, none⟩) m cy, .agg #[.int .i64 A, .int .i64 B]] w fun e w' =>
      ∃ g c z, e = .returned (.slice (some ⟨g, 0, none⟩) (digs d).length c) ∧ DB w' g (digs d ++ List.replicate z 0) ∧ (digs d).length ≤ c ∧ w.heap.size ≤ g ∧ Below w.heap.size w w' := by
  obtain ⟨w0, hw0, hbx, hbw, hsz⟩ := boxes1 w (.int .i64 A) (.int .i64 B) 168
  obtain ⟨a0, a1, af⟩ := hbx
  have hdx0 := hdx.below hbw hdx.lt
  have hdy0 := hdy.below hbw hdy.lt
  by_cases hA : A ≤ 0
  · have hB := hs1 hA
    obtain ⟨a, ha⟩ := Int.eq_ofNat_of_zero_le (show 0 ≤ -A by omega)
    obtain ⟨b, hb⟩ := Int.eq_ofNat_of_zero_le hB
    have hsum : b * y = a * x + d := by
      have h1 : A * (x : Int) = -((a * x : Nat) : Int) := by rw [Int.natCast_mul, ← ha, Int.neg_mul, Int.neg_neg]
      have h2 : B * (y : Int) = ((b * y : Nat) : Int) := by rw [Int.natCast_mul, ← hb]
      rw [h1, h2] at hd; omega
    have HD := Lib.hid (difference_any gy gx cy cx b a y x d m n Y X (by unfold Bs; omega) (by unfold Bs; omega) hm hn hml hnl hsum w0 hdy0 hdx0)
    have hA0 : decide (A ≤ 0) = true := decide_eq_true hA
    have r1 : IntKind.i64.wrap (-A) = -A := IntWalk.i64_in _ (by omega)
    have r2 : IntKind.u64.wrap (-A) = (a : Int) := by rw [ha]; exact wrapN _ (by omega)
    have r3 : IntKind.u64.wrap B = (b : Int) := by rw [hb]; exact wrapN _ (by omega)
    clear hdx hdy hdx0 hdy0 hsum hd ha hb hA hB hA1 hA2 hB1 hB2 hs1 hs2
    go_enter Tryz.func135, Tryz.ntmps135
    go_wp2_with fail
    refine (HD.out).mono ?_
    rintro e w1 ⟨g, c, z, rfl, h1, h2, h3, h4⟩
    go_wp2_with fail
    go_ret
    exact ⟨g, c, z, rfl, h1, h2, by omega, hbw.trans (h4.mono (by omega))⟩
  · have hB := hs2 (by omega)
    obtain ⟨a, ha⟩ := Int.eq_ofNat_of_zero_le (show 0 ≤ A by omega)
    obtain ⟨b, hb⟩ := Int.eq_ofNat_of_zero_le (show 0 ≤ -B by omega)
    have hsum : a * x = b * y + d := by
      have h1 : A * (x : Int) = ((a * x : Nat) : Int) := by rw [Int.natCast_mul, ← ha]
      have h2 : B * (y : Int) = -((b * y : Nat) : Int) := by rw [Int.natCast_mul, ← hb, Int.neg_mul, Int.neg_neg]
      rw [h1, h2] at hd; omega
    have HD := Lib.hid (difference_any gx gy cx cy a b x y d n m X Y (by unfold Bs; omega) (by unfold Bs; omega) hn hm hnl hml hsum w0 hdx0 hdy0)
    have hA0 : decide (A ≤ 0) = false := decide_eq_false hA
    have r1 : IntKind.i64.wrap (-B) = -B := IntWalk.i64_in _ (by omega)
    have r2 : IntKind.u64.wrap (-B) = (b : Int) := by rw [hb]; exact wrapN _ (by omega)
    have r3 : IntKind.u64.wrap A = (a : Int) := by rw [ha]; exact wrapN _ (by omega)
    clear hdx hdy hdx0 hdy0 hsum hd ha hb hB hA1 hA2 hB1 hB2 hs1 hs2
    go_enter Tryz.func135, Tryz.ntmps135
    go_wp2_with fail
    refine (HD.out).mono ?_
    rintro e w1 ⟨g, c, z, rfl, h1, h2, h3, h4⟩
    go_wp2_with fail
    go_ret
    exact ⟨g, c, z, rfl, h1, h2, by omega, hbw.trans (h4.mono (by omega))⟩

theorem digs_big {b : Nat} (h : 2 ≤ (digs b).length) : ¬ b < Bs := fun hb => by
  have := digs_length_iff (n := b) (k := 1)
  rw [Nat.pow_one] at this
  have := this.2 hb; omega
theorem sgn1 {A B : Int} {X x y : Nat} (hy : 0 < y) (hX : (X : Int) = A * x + B * y) {s : Int} (hs : s = 1 ∨ s = -1) (h1 : 0 ≤ s * A) (h2 : s * B ≤ 0) : (A ≤ 0 → 0 ≤ B) ∧ (0 < A → B ≤ 0) := by
  rcases hs with e | e <;> subst e
  · constructor
    · intro hA
      have h0 : A = 0 := by omega
      rw [h0, Int.zero_mul, Int.zero_add] at hX
      rcases Int.lt_or_le B 0 with hB | hB
      · have : B * (y : Int) < 0 := Int.mul_neg_of_neg_of_pos hB (by omega)
        omega
      · exact hB
    · intro _; omega
  · constructor
    · intro _; omega
    · intro _; omega

set_option maxHeartbeats 2000000 in
set_option maxRecDepth 100000 in
theorem descend_any (gx gy cx cy x y n m : Nat) (X Y : List Nat) (hn : (digs x).length = n) (hm : (digs y).length = m) (hnl : n ≤ 1000000000000) (hm2 : 2 ≤ m) (hyx : y ≤ x) (hcy : m ≤ cy) (w : World) (hdx : DB w gx (digs x ++ X)) (hdy : DB w gy (digs y ++ Y)) :
    Calls Tryz.prog 107 #[.slice (some ⟨gx, 0, none⟩) n cx, .slice (some ⟨gy, 0, none⟩) m cy] w fun e w' =>
      ∃ (x' y' gX cX gY cY : Nat) (ZX ZY : List Nat), e = .returned (.tuple #[.slice (some ⟨gX, 0, none⟩) (digs x').length cX, .slice (some ⟨gY, 0, none⟩) (digs y').length cY]) ∧
        DB w' gX (digs x' ++ ZX) ∧ DB w' gY (digs y' ++ ZY) ∧ (digs x').length ≤ cX ∧ (digs y').length ≤ cY ∧ Nat.gcd x' y' = Nat.gcd x y ∧ y' ≤ x' ∧ y' < y ∧ x' ≤ y ∧ gX ≠ gY ∧ (gX = gy ∨ w.heap.size ≤ gX) ∧ w.heap.size ≤ gY ∧ Below w.heap.size w w' := by
  have hml : m ≤ 1000000000000 := by rw [← hm]; exact Nat.le_trans (digs_mono hyx) (by omega)
  have hyB : ¬ y < Bs := digs_big (by omega)
  have hy0 : 0 < y := by unfold Bs at hyB; omega
  have HC := Lib.hid (certain_any gx gy cx cy x y n m X Y hm hm2 hn hyx hnl w hdx hdy)
  have HDV := fun w h1 h2 => divW gx gy cx cy x y X Y hyB hyx (by omega) w h1 h2
  rw [hn, hm] at HDV
  replace HDV := Lib.hid HDV
  have HCO := fun A B d w h1 h2 h3 h4 h5 h6 h7 h8 h9 => combine_any gx gy cx cy x y d n m A B X Y hn hm hnl hml h1 h2 h3 h4 h5 h6 h7 w h8 h9
  replace HCO := Lib.hid HCO
  go_enter Tryz.func107, Tryz.ntmps107
  go_wp2_with fail
  refine (HC.out).mono ?_
  rintro e w1 ⟨A, B, C, D, p, q, p0, q0, rfl, hCS, hp0, hb1⟩
  obtain ⟨w2, hw2, hA, hB, hb2, hsz⟩ := boxes2 w1 (.int .i64 0) (.int .i64 0) (.int .i64 0) (.int .i64 0) 168
  have hp4 := put4 hA hB (.int .i64 A) (.int .i64 B) (.int .i64 C) (.int .i64 D)
  obtain ⟨a0, a1, af⟩ := id hA
  obtain ⟨b0, b1, bf⟩ := id hB
  have hb3 : Below w1.heap.size w1 ((((w2.setCell ⟨w1.heap.size, 0, none⟩ (.int .i64 A)).setCell ⟨w1.heap.size, 1, none⟩ (.int .i64 B)).setCell ⟨w1.heap.size + 1, 0, none⟩ (.int .i64 C)).setCell ⟨w1.heap.size + 1, 1, none⟩ (.int .i64 D)) :=
    (((hb2.setCell (by simp) _).setCell (by simp) _).setCell (by simp) _).setCell (by simp) _
  have hsz3 : w1.heap.size + 2 ≤ ((((w2.setCell ⟨w1.heap.size, 0, none⟩ (.int .i64 A)).setCell ⟨w1.heap.size, 1, none⟩ (.int .i64 B)).setCell ⟨w1.heap.size + 1, 0, none⟩ (.int .i64 C)).setCell ⟨w1.heap.size + 1, 1, none⟩ (.int .i64 D)).heap.size := by simpa using hsz
  generalize hw3 : ((((w2.setCell ⟨w1.heap.size, 0, none⟩ (.int .i64 A)).setCell ⟨w1.heap.size, 1, none⟩ (.int .i64 B)).setCell ⟨w1.heap.size + 1, 0, none⟩ (.int .i64 C)).setCell ⟨w1.heap.size + 1, 1, none⟩ (.int .i64 D)) = w3 at *
  obtain ⟨h3A, h3B⟩ := hp4
  obtain ⟨c0, c1, cf⟩ := id h3A
  obtain ⟨d0, d1, df⟩ := id h3B
  have hB3 := hb1.trans (hb3.mono hb1.size)
  have hdx3 := Lib.hid (hdx.below hB3 hdx.lt)
  have hdy3 := Lib.hid (hdy.below hB3 hdy.lt)
  have hbd := Lib.hid hCS.bounds
  obtain ⟨⟨s, hL⟩, ⟨X1, Y1, hT⟩, -, -⟩ := hCS
  have hs := hbd.out
  have s1 := sgn1 hy0 hT.hX hL.hs hL.hA hL.hB
  have s2 : (C ≤ 0 → 0 ≤ D) ∧ (0 < C → D ≤ 0) := sgn1 hy0 hT.hY (s := -s) (by have := hL.hs; omega) (by have := hL.hC; rw [Int.neg_mul]; omega) (by have := hL.hD; rw [Int.neg_mul]; omega)
  have HC1 := Lib.hid (fun w => HCO.out A B X1 w (by omega) (by omega) (by omega) (by omega) s1.1 s1.2 hT.hX)
  have HC2 := Lib.hid (fun w => HCO.out C D Y1 w (by omega) (by omega) (by omega) (by omega) s2.1 s2.2 hT.hY)
  have HT := Lib.hid hT
  clear hs s1 s2 hbd hL hT hp0 hA hB HC HCO
  by_cases hB0 : B = 0
  · have hB1 : (B == 0) = true := by rw [hB0]; rfl
    clear hB0
    go_wp2_with fail
    refine (HDV.out _ hdx3.out hdy3.out).mono ?_
    rintro e w4 ⟨gq, cq, zq, gr, cr, zr, rfl, hdq, hdr, hqr, hgq, hgr, hcq, hcr, hb4⟩
    have hdy4 := Lib.hid (hdy3.out.below hb4 hdy3.out.lt)
    have hB4 := Lib.hid (hB3.trans (hb4.mono hB3.size))
    clear HDV HC1 HC2 a0 a1 af b0 b1 bf c0 c1 cf d0 d1 df h3A h3B hw2 hw3
    go_wp2_with fail
    go_ret2
    exact ⟨y, x % y, gy, cy, gr, cr, Y, List.replicate zr 0, by rw [hm]; rfl, hdy4.out, hdr, by omega, hcr, by rw [Nat.gcd_comm y, ← Nat.gcd_rec, Nat.gcd_comm], Nat.le_of_lt (Nat.mod_lt _ hy0), Nat.mod_lt _ hy0, Nat.le_refl _, by have := hdy3.out.lt; omega, .inl rfl, by have := hB3.size; omega, hB4.out⟩
  · have hB1 : (B == 0) = false := beq_eq_false_iff_ne.2 hB0
    go_wp2_with fail
    go_region_held3 (fun w' => w'.cell? ⟨w1.heap.size, 0, none⟩ = some (.int .i64 A) ∧ w'.cell? ⟨w1.heap.size, 1, none⟩ = some (.int .i64 B) ∧ w'.cell? ⟨w1.heap.size + 1, 0, none⟩ = some (.int .i64 C) ∧ w'.cell? ⟨w1.heap.size + 1, 1, none⟩ = some (.int .i64 D))
      (first | with_reducible exact ⟨c0, c1, d0, d1⟩ | with_reducible exact ⟨c0', c1', d0', d1'⟩ | with_reducible exact ⟨c0'', c1'', d0'', d1''⟩ | exact ⟨c0, c1, d0, d1⟩)
      (first
        | (go_at_call 135; ((with_reducible refine Calls.mono (HC1.out _ (hdx3.out.keep rfl) (hdy3.out.keep rfl)) ?_); rintro e w4 ⟨g1, k1, z1, rfl, hd1, hk1, hg1, hb4⟩; have hb34 := (Below.refl w3.heap.size w3).drew.trans hb4; obtain ⟨c0', c1', cf'⟩ := h3A.below hb34 (by omega); obtain ⟨d0', d1', df'⟩ := h3B.below hb34 (by omega)))
        | (go_at_call 135; ((with_reducible refine Calls.mono (HC2.out _ (hdx3.out.below hb34 hdx3.out.lt) (hdy3.out.below hb34 hdy3.out.lt)) ?_); rintro e w5 ⟨g2, k2, z2, rfl, hd2, hk2, hg2, hb5⟩; have hb35 := hb34.trans (hb5.mono hb34.size); obtain ⟨c0'', c1'', cf''⟩ := h3A.below hb35 (by omega); obtain ⟨d0'', d1'', df''⟩ := h3B.below hb35 (by omega))))
    go_wp2_with fail
    go_ret2
    have h5 := HT.out.prog
    have h6 : B ≠ 0 ∧ X1 ≤ y ∧ Y1 < X1 := by
      rcases h5 with h5 | h5
      · exact absurd h5.2.1 hB0
      · exact h5
    exact ⟨X1, Y1, g1, k1, g2, k2, List.replicate z1 0, List.replicate z2 0, rfl, hd1.below hb5 hd1.lt, hd2, hk1, hk2, HT.out.gcd, HT.out.le, by omega, h6.2.1, by have := hd1.lt; omega, .inr (Nat.le_trans hB3.size hg1), Nat.le_trans (Nat.le_trans hB3.size hb34.size) hg2, hB3.trans (hb35.mono hB3.size)⟩
end Go.Proofs.YthehcjfmokabfaaGreatDoor

/-
  Layer 1, walks S: gcdOfDigits, Gcd.
-/
namespace Go.Proofs.YthehcjfmokabfaaGreatDoor
open Go.RowKit
attribute [local irreducible] lo hs sm s64 c64 d64 b64 mh ml pd pc qd qc val hiB str cmpI srD lz

set_option maxHeartbeats 2000000 in
set_option maxRecDepth 100000 in
theorem gcdDigits_any (a b : Nat) (ha : a < Bs) (hb : b < Bs) (w : World) :
    Calls Tryz.prog 106 #[.int .u64 (a : Int), .int .u64 (b : Int)] w fun e w' =>
      e = .returned (.int .u64 ((Nat.gcd a b : Nat) : Int)) ∧ Below w.heap.size w w' := by
  go_enter Tryz.func106, Tryz.ntmps106
  go_wp2
  go_loopw [0, 1] (fun z0 z1 wr => ∃ x y : Nat, z0 = .int .u64 x ∧ z1 = .int .u64 y ∧ x < Bs ∧ y < Bs ∧ Nat.gcd x y = Nat.gcd a b ∧ Below w.heap.size w wr) (fun _ z1 _ => (intOf z1).toNat)
  case atStart => exact ⟨a, b, rfl, rfl, ha, hb, rfl, Below.refl _ _⟩
  case round =>
    obtain ⟨x, y, rfl, rfl, hx, hy, hg, hbw⟩ := hrel
    by_cases hy0 : y = 0
    · subst hy0
      rw [Nat.gcd_zero_right] at hg
      subst hg
      clear hx hy ha hb
      go_wp2
      go_ret
      exact ⟨rfl, hbw⟩
    · have h1 : ((y : Int) != 0) = true := bne_iff_ne.2 (by omega)
      have htm : (x : Int).tmod (y : Int) = ((x % y : Nat) : Int) := by rw [Int.tmod_eq_emod_of_nonneg (by omega), Int.natCast_emod]
      have hlt : x % y < y := Nat.mod_lt _ (by omega)
      have hgc : Nat.gcd y (x % y) = Nat.gcd a b := by rw [← hg, Nat.gcd_comm y, ← Nat.gcd_rec, Nat.gcd_comm]
      generalize hm : x % y = m at *
      have hwm : IntKind.u64.wrap (m : Int) = (m : Int) := wrapN _ (by unfold Bs at hy; omega)
      have HL := Lib.hid hlt
      have HY := Lib.hid hy
      clear hlt hx hg ha hb hm hy
      go_wp2
      go_region
      all_goals go_wp2
      all_goals go_roundw
      case rel => exact ⟨y, m, rfl, rfl, HY.out, Nat.lt_trans HL.out HY.out, hgc, hbw.drew⟩
      case measure => have := HL.out; simp [intOf]; omega

/-- The number that a slice's cells hold. -/
def rdv (z : Value) (w : World) : Nat := match z with
  | .slice (some ⟨g, _, _⟩) n _ => val ((List.range n).map fun i => match w.cell? ⟨g, i, none⟩ with | some (.int _ d) => d.toNat | _ => 0)
  | _ => 0
theorem rdv_eq {w : World} {g c y : Nat} {Z : List Nat} (h : DB w g (digs y ++ Z)) : rdv (.slice (some ⟨g, 0, none⟩) (digs y).length c) w = y := by
  unfold rdv
  simp only
  rw [show (List.range (digs y).length).map (fun i => match w.cell? ⟨g, i, none⟩ with | some (.int _ d) => d.toNat | _ => 0) = digs y from ?_, val_digs]
  apply List.ext_getElem (by simp)
  intro i h1 h2
  have h3 := h.rdl i h2
  rw [Nat.zero_add] at h3
  simp [h3]

/-- Gcd's three boxes. -/
structure B3 (w : World) (k : Nat) (a b : Nat) : Prop where
  A : Bx w k (.int .u64 ((lo a : Nat) : Int)) (.string (hs a))
  B : Bx w (k + 1) (.int .u64 ((lo b : Nat) : Int)) (.string (hs b))
  C : Bx w (k + 2) (.int .u64 0) (.string ⟨#[]⟩)
  sz : k + 3 ≤ w.heap.size
theorem B3.below {w w' : World} {k a b : Nat} (h : B3 w k a b) (hb : Below w.heap.size w w') : B3 w' k a b :=
  ⟨h.A.below hb (by have := h.sz; omega), h.B.below hb (by have := h.sz; omega), h.C.below hb (by have := h.sz; omega), Nat.le_trans h.sz hb.size⟩
theorem B3.step {w0 w1 w2 : World} {k a b : Nat} (h0 : Below k w0 w1) (h : B3 w1 k a b) (hb : Below w1.heap.size w1 w2) : Below k w0 w2 := h0.trans (hb.mono (by have := h.sz; omega))
theorem boxes3 (w : World) (A1 A2 B1 B2 C1 C2 : Value) (t : TypeId) : ∃ w0, (((w.alloc (.cells #[A1, A2] t)).alloc (.cells #[B1, B2] t)).alloc (.cells #[C1, C2] t)) = w0 ∧
    Bx w0 w.heap.size A1 A2 ∧ Bx w0 (w.heap.size + 1) B1 B2 ∧ Bx w0 (w.heap.size + 2) C1 C2 ∧ Below w.heap.size w w0 ∧ w.heap.size + 3 ≤ w0.heap.size :=
  ⟨_, rfl, Bx.of _ _ _ _ _ (al3_1 w _ _ _), Bx.of _ _ _ _ _ (al3_2 w _ _ _), Bx.of _ _ _ _ _ (al3 w _ _ _), below3 w _ _ _, by simp⟩
theorem B3.swap {w : World} {k a b : Nat} (h : B3 w k a b) (h' : ((((w.setCell ⟨k, 0, none⟩ (.int .u64 ((lo b : Nat) : Int))).setCell ⟨k, 1, none⟩ (.string (hs b))).setCell ⟨k + 1, 0, none⟩ (.int .u64 ((lo a : Nat) : Int))).setCell ⟨k + 1, 1, none⟩ (.string (hs a))).heap.size = w.heap.size) :
    B3 ((((w.setCell ⟨k, 0, none⟩ (.int .u64 ((lo b : Nat) : Int))).setCell ⟨k, 1, none⟩ (.string (hs b))).setCell ⟨k + 1, 0, none⟩ (.int .u64 ((lo a : Nat) : Int))).setCell ⟨k + 1, 1, none⟩ (.string (hs a))) k b a := by
  have hp := put4 h.A h.B (.int .u64 ((lo b : Nat) : Int)) (.string (hs b)) (.int .u64 ((lo a : Nat) : Int)) (.string (hs a))
  refine ⟨hp.1, hp.2, ?_, by rw [h']; exact h.sz⟩
  obtain ⟨c0, c1, cf⟩ := h.C
  refine ⟨?_, ?_, fun j => ?_⟩ <;> simp [go_sem, c0, c1, cf]

set_option maxHeartbeats 2000000 in
set_option maxRecDepth 100000 in
theorem gcd_any (a b : Nat) (ha : (digs a).length ≤ 1000000000000) (hb : (digs b).length ≤ 1000000000000) (w : World) :
    Calls Tryz.prog 60 #[natV a, natV b] w fun e w' => e = .returned (natV (Nat.gcd a b)) ∧ Below w.heap.size w w' := by
  obtain ⟨w0, hw0, hA, hB, hC, hbw, hsz⟩ := boxes3 w (.int .u64 ((lo a : Nat) : Int)) (.string (hs a)) (.int .u64 ((lo b : Nat) : Int)) (.string (hs b)) (.int .u64 0) (.string ⟨#[]⟩) 32
  have H0 : B3 w0 w.heap.size a b := ⟨hA, hB, hC, hsz⟩
  clear hA hB hC hsz
  have HC := Lib.hid (fun w => cmp_any a b w)
  obtain ⟨⟨a0, a1, af⟩, ⟨b0, b1, bf⟩, -⟩ := id H0
  go_enter Tryz.func60, Tryz.ntmps60
  go_wp2_with fail
  refine (HC.out _).mono ?_
  rintro e w1 ⟨rfl, hb1⟩
  have H1 := H0.below hb1
  have hB1 := H0.step hbw hb1
  clear a0 a1 af b0 b1 bf HC H0 hb1 hbw hw0
  go_upto_if 10 with fail
  go_cut [] from 11 to 12 (fun wx => ∃ x y : Nat, ((x = a ∧ y = b) ∨ (x = b ∧ y = a)) ∧ y ≤ x ∧ B3 wx w.heap.size x y ∧ Below w.heap.size w wx)
  case first =>
    obtain ⟨⟨a0, a1, af⟩, ⟨b0, b1, bf⟩, -⟩ := id H1
    rcases Nat.lt_or_ge a b with hab | hab
    · have hcm : cmpI a b < 0 := by rw [cmpI_lt hab]; decide
      go_wp2_with fail
      go_meet
      exact ⟨b, a, .inr ⟨rfl, rfl⟩, Nat.le_of_lt hab, H1.swap (by simp), (((hB1.setCell (by simp) _).setCell (by simp) _).setCell (by simp) _).setCell (by simp) _⟩
    · have hcm : ¬ cmpI a b < 0 := of_decide_eq_false (cmpI_ge hab)
      go_wp2_with fail
      go_meet
      exact ⟨a, b, .inl ⟨rfl, rfl⟩, hab, H1, hB1⟩
  case rest =>
    clear H1 hB1
    obtain ⟨x, y, hxy, hyx, H1, hB1⟩ := hcut
    have hlx : (digs x).length ≤ 1000000000000 := by rcases hxy with ⟨rfl, rfl⟩ | ⟨rfl, rfl⟩ <;> assumption
    have hg : Nat.gcd x y = Nat.gcd a b := by
      rcases hxy with ⟨rfl, rfl⟩ | ⟨rfl, rfl⟩
      · rfl
      · exact Nat.gcd_comm _ _
    have HGC := Lib.hid (congrArg (fun n => Ending.returned (natV n)) hg)
    clear ha hb hg hxy
    have HS := Lib.hid (fun w => small_any x w)
    obtain ⟨⟨a0, a1, af⟩, ⟨b0, b1, bf⟩, -⟩ := id H1
    by_cases hsx : x < Bs
    · have hs1 : sm x = true := by unfold sm; exact decide_eq_true hsx
      have hsy : y < Bs := Nat.lt_of_le_of_lt hyx hsx
      have hgB : Nat.gcd x y < Bs := by
        rcases Nat.eq_zero_or_pos y with h | h
        · rw [h, Nat.gcd_zero_right]; exact hsx
        · exact Nat.lt_of_le_of_lt (Nat.gcd_le_right x h) hsy
      go_wp2_with fail
      refine (HS.out _).mono ?_
      rintro e w2 ⟨rfl, hb2⟩
      have H2 := H1.below hb2
      have hB2 := H1.step hB1 hb2
      have HG := gcdDigits_any x y hsx hsy
      have HO := of_any (Nat.gcd x y) hgB
      replace HG := Lib.hid HG
      replace HO := Lib.hid HO
      clear a0 a1 af b0 b1 bf HS H1 hb2 hB1
      obtain ⟨⟨a0, a1, af⟩, ⟨b0, b1, bf⟩, -⟩ := id H2
      rw [lo_small hsx] at a0
      rw [lo_small hsy] at b0
      clear hsx hsy hgB
      go_wp2_with fail
      refine (HG.out _).mono ?_
      rintro e w3 ⟨rfl, hb3⟩
      have H3 := H2.below hb3
      have hB3 := H2.step hB2 hb3
      clear a0 a1 af b0 b1 bf HG H2 hb3 hB2
      go_wp2_with fail
      refine (HO.out _).mono ?_
      rintro e w4 ⟨rfl, hb4⟩
      have H4 := H3.below hb4
      have hB4 := H3.step hB3 hb4
      obtain ⟨-, -, ⟨c0, c1, cf⟩, hsz⟩ := id H4
      clear HO H3 hb4 hB3
      go_wp2_with fail
      exact bodyPost_ret (v := natV (Nat.gcd x y)) (by simp [results, Tryz.results60, go_sem, c0, c1]) rfl ⟨HGC.out, (hB4.setCell (by simp <;> omega) _).setCell (by simp <;> omega) _⟩
    · have hs1 : sm x = false := by unfold sm; exact decide_eq_false hsx
      go_wp2_with fail
      refine (HS.out _).mono ?_
      rintro e w2 ⟨rfl, hb2⟩
      have H2 := H1.below hb2
      have hB2 := H1.step hB1 hb2
      clear a0 a1 af b0 b1 bf HS H1 hb2 hB1
      obtain ⟨⟨a0, a1, af⟩, ⟨b0, b1, bf⟩, -⟩ := id H2
      go_wp2_with fail
      have HDa := Lib.hid (fun w => digits_any x (by omega) w)
      have HDb := Lib.hid (fun w => digits_any y (by have := digs_mono hyx; omega) w)
      go_region_held3 (fun w' => w'.cell? ⟨w.heap.size, 0, none⟩ = some (.int .u64 ((lo x : Nat) : Int)) ∧ w'.cell? ⟨w.heap.size, 1, none⟩ = some (.string (hs x)) ∧ w'.cell? ⟨w.heap.size + 1, 0, none⟩ = some (.int .u64 ((lo y : Nat) : Int)) ∧ w'.cell? ⟨w.heap.size + 1, 1, none⟩ = some (.string (hs y)))
        (first | with_reducible exact ⟨a0, a1, b0, b1⟩ | with_reducible exact ⟨a0', a1', b0', b1'⟩ | with_reducible exact ⟨a0'', a1'', b0'', b1''⟩ | exact ⟨a0, a1, b0, b1⟩)
        (first
          | (go_at_call 84; ((with_reducible refine Calls.mono (HDa.out _) ?_); rintro e w3 ⟨gx, cx, zx, rfl, hcx, hgx, hdx, hb3⟩; have H3 := H2.below ((Below.refl w2.heap.size w2).drew.trans hb3); obtain ⟨⟨a0', a1', af'⟩, ⟨b0', b1', bf'⟩, -⟩ := id H3))
          | (go_at_call 84; ((with_reducible refine Calls.mono (HDb.out _) ?_); rintro e w4 ⟨gy, cy, zy, rfl, hcy, hgy, hdy, hb4⟩; have H4 := H3.below hb4; obtain ⟨⟨a0'', a1'', af''⟩, ⟨b0'', b1'', bf''⟩, -⟩ := id H4)))
      have hB4 := H3.step (H2.step hB2 ((Below.refl w2.heap.size w2).drew.trans hb3)) hb4
      have hdx4 := hdx.below hb4 hdx.lt
      have hne : gx ≠ gy := by have := hdx.lt; omega
      have hsz4 := H2.sz
      have hsz5 := H3.sz
      clear a0 a1 af b0 b1 bf a0' a1' af' b0' b1' bf' a0'' a1'' af'' b0'' b1'' bf'' HDa HDb H2 H3 hB2 hb3 hb4 hdx
      go_wp2_with fail
      go_loopw [5, 6] (fun z5 z6 wr => ∃ (x' y' gX cX gY cY : Nat) (ZX ZY : List Nat), z5 = .slice (some ⟨gX, 0, none⟩) (digs x').length cX ∧ z6 = .slice (some ⟨gY, 0, none⟩) (digs y').length cY ∧
        DB wr gX (digs x' ++ ZX) ∧ DB wr gY (digs y' ++ ZY) ∧ (digs x').length ≤ cX ∧ (digs y').length ≤ cY ∧ Nat.gcd x' y' = Nat.gcd x y ∧ y' ≤ x' ∧ (digs x').length ≤ 1000000000000 ∧ gX ≠ gY ∧ w.heap.size + 3 ≤ gX ∧ w.heap.size + 3 ≤ gY ∧ B3 wr w.heap.size x y ∧ Below w.heap.size w wr) (fun _ z6 wr => rdv z6 wr)
      case atStart => exact ⟨x, y, gx, cx, gy, cy, _, _, rfl, rfl, hdx4, hdy, hcx, hcy, rfl, hyx, hlx, hne, by have := hsz4; simp at hgx; omega, by omega, H4, hB4⟩
      case round =>
        obtain ⟨x', y', gX, cX, gY, cY, ZX, ZY, rfl, rfl, hX, hY, hcX, hcY, hg, hle, hl, hne', hgX, hgY, H5, hB5⟩ := hrel
        clear hdx4 hdy hcx hcy hne H4 hB4 hgx hgy hsz4 hsz5 hlx hyx
        obtain ⟨m, hm⟩ : ∃ m, (digs y').length = m := ⟨_, rfl⟩
        obtain ⟨n, hn⟩ : ∃ n, (digs x').length = n := ⟨_, rfl⟩
        have hmv := rdv_eq (c := cY) hY
        rw [hm] at hmv hcY ⊢
        rw [hn] at hcX hl ⊢
        rcases Nat.lt_or_ge 1 m with hm1 | hm1
        · have HD := Lib.hid (descend_any gX gY cX cY x' y' n m ZX ZY hn hm hl hm1 hle hcY wr hX hY)
          go_wp2_with fail
          refine (HD.out).mono ?_
          rintro e w6 ⟨x2, y2, gX2, cX2, gY2, cY2, ZX2, ZY2, rfl, r1, r2, r3, r4, r5, r6, r7, r8, r9, r10, r11, hb6⟩
          have H6 := H5.below hb6
          have hB6 := H5.step hB5 hb6
          have hl2 : (digs x2).length ≤ 1000000000000 := Nat.le_trans (digs_mono (Nat.le_trans r8 hle)) (by omega)
          have hsz5 := H5.sz
          go_wp2_with fail
          go_roundw
          case rel => exact ⟨x2, y2, gX2, cX2, gY2, cY2, ZX2, ZY2, rfl, rfl, r1, r2, r3, r4, r5.trans hg, r6, hl2, r9, by omega, by omega, H6, hB6⟩
          case measure => rw [hmv, rdv_eq r2]; exact r7
        · have hd1 : decide (1 < m) = false := by rw [decide_eq_false_iff_not]; omega
          rcases Nat.eq_zero_or_pos m with hm0 | hm0
          · subst hm0
            have hy0 : y' = 0 := digs_eq_nil.1 (List.length_eq_zero_iff.1 hm)
            have HP := Lib.hid (packQ gX cX n x' (digs x') ZX hn (digs_dig x') (val_digs x') (by omega) hcX wr hX)
            have hgx : x' = Nat.gcd x y := by rw [← hg, hy0, Nat.gcd_zero_right]
            have HE := Lib.hid ((congrArg (fun n => Ending.returned (natV n)) hgx).trans HGC.out)
            clear hmv hm hn hX hY hg hgx hle hl hy0
            go_wp2_with fail
            refine (HP.out).mono ?_
            rintro e w6 ⟨rfl, hb6⟩
            have H6 := H5.below hb6
            have hB6 := H5.step hB5 hb6
            obtain ⟨-, -, ⟨c0, c1, cf⟩, hsz⟩ := id H6
            go_wp2_with fail
            exact bodyPost_ret (v := natV x') (by simp [results, Tryz.results60, go_sem, c0, c1]) rfl ⟨HE.out, (hB6.setCell (by simp <;> omega) _).setCell (by simp <;> omega) _⟩
          · have hm2 : m = 1 := by omega
            subst hm2
            have hyB : y' < Bs := by have := digs_length_iff.1 (show (digs y').length ≤ 1 by omega); rwa [Nat.pow_one] at this
            have hy0 : 0 < y' := by
              rcases Nat.eq_zero_or_pos y' with h | h
              · rw [h, digs_zero] at hm; simp at hm
              · exact h
            have hdy : digs y' = [y'] := by rw [digs_pos (by omega), Nat.mod_eq_of_lt hyB, Nat.div_eq_of_lt hyB, digs_zero]
            have hcell := hY.cell 0 (by rw [hdy]; simp)
            simp only [hdy, List.cons_append, List.getElem_cons_zero] at hcell
            have HDD := fun w h => divD gX cX x' y' ZX hy0 hyB (by omega) w h
            rw [hn] at HDD
            have HGG := fun w => gcdDigits_any y' (x' % y') hyB (Nat.lt_trans (Nat.mod_lt _ hy0) hyB) w
            have hgg : Nat.gcd y' (x' % y') = Nat.gcd x y := by rw [← hg, Nat.gcd_comm y', ← Nat.gcd_rec, Nat.gcd_comm]
            have HO := fun w => of_any (Nat.gcd y' (x' % y')) (Nat.lt_of_le_of_lt (Nat.gcd_le_left _ hy0) hyB) w
            have HE := Lib.hid ((congrArg (fun n => Ending.returned (natV n)) hgg).trans HGC.out)
            generalize Nat.gcd y' (x' % y') = g at *
            generalize x' % y' = r at *
            replace HDD := Lib.hid HDD
            replace HGG := Lib.hid HGG
            replace HO := Lib.hid HO
            have hsz5 := H5.sz
            clear hmv hm hn hg hgg hle hl hyB hy0 hdy
            go_wp2_with fail
            go_region_held3 (fun w' => w'.cell? ⟨gY, 0, none⟩ = some (.int .u64 (y' : Int)))
              (first | with_reducible exact hcell | with_reducible exact hc2 | with_reducible exact hc3 | with_reducible exact hc4 | (simp [go_sem, hc4]; done) | (simp [go_sem, hcell]; done))
              (first
                | (go_at_call 86; ((with_reducible refine Calls.mono (HDD.out _ (hX.keep rfl)) ?_); rintro e w6 ⟨rfl, Q, hQ1, hQ2, hQ3, hdq, hg6⟩; have hb6 := (Below.refl (w.heap.size + 3) wr).drew.trans (grown_below hg6 hgX hsz5); have hc2 := (grown_cell (i := 0) hg6 (Ne.symm hne') hY.lt).trans hcell))
                | (go_at_call 106; ((with_reducible refine Calls.mono (HGG.out _) ?_); rintro e w7 ⟨rfl, hb7⟩; have hc3 := (hb7.cell (p := ⟨gY, 0, none⟩) (Nat.lt_of_lt_of_le hY.lt hb6.size)).trans hc2; have hb67 := hb6.trans (hb7.mono (Nat.le_trans hsz5 hb6.size))))
                | (go_at_call 65; ((with_reducible refine Calls.mono (HO.out _) ?_); rintro e w8 ⟨rfl, hb8⟩; have hc4 := (hb8.cell (p := ⟨gY, 0, none⟩) (Nat.lt_of_lt_of_le hY.lt hb67.size)).trans hc3; have hb68 := hb67.trans (hb8.mono (Nat.le_trans hsz5 hb67.size)); obtain ⟨c0, c1, cf⟩ := H5.C.below hb68 (by omega))))
            go_wp2_with fail
            have hB8 := hB5.trans (hb68.mono (by omega))
            exact bodyPost_ret (v := natV g) (by simp [results, Tryz.results60, go_sem, c0, c1]) rfl ⟨HE.out, (hB8.setCell (by simp <;> omega) _).setCell (by simp <;> omega) _⟩
end Go.Proofs.YthehcjfmokabfaaGreatDoor
