/-
  Layer 1, walks Q: gcdOfDigits, above, certainSteps, combine, descend, Gcd.
-/
import Derived.Test.YthehcjfmokabfaaDoorWp
import Derived.Deep.CutBlock
set_option linter.unusedVariables false
set_option linter.unusedSimpArgs false
namespace Go.Proofs.YthehcjfmokabfaaDoor
open Go.RowKit
attribute [local irreducible] lo hs sm s64 c64 d64 b64 mh ml pd pc qd qc val hiB str cmpI srD

theorem above_val (D : List Nat) (hD : Dig D) (at_ s : Nat) (hs : s < 64) (h : at_ < D.length) :
    val D / 2 ^ (64 * at_ + s) % Bs = srD s D[at_] (D.getD (at_ + 1) 0) := by
  have h1 : val D / Bs ^ at_ = val (D.drop at_) := by
    have h2 : val D = val (D.take at_) + Bs ^ at_ * val (D.drop at_) := by
      have := val_append (D.take at_) (D.drop at_)
      rw [List.take_append_drop, List.length_take, Nat.min_eq_left (Nat.le_of_lt h)] at this
      exact this
    have h3 : val (D.take at_) < Bs ^ at_ := by
      have := val_lt (hD.take at_)
      rwa [List.length_take, Nat.min_eq_left (Nat.le_of_lt h)] at this
    rw [h2, Nat.add_mul_div_left _ _ (Nat.pow_pos Bs_pos), Nat.div_eq_of_lt h3, Nat.zero_add]
  rw [Nat.pow_add, Nat.pow_mul, show (2 : Nat) ^ 64 = Bs from Bs_pow.symm, ← Nat.div_div_eq_div_mul, h1, List.drop_eq_getElem_cons h, val_cons, srD_sum (Nat.le_of_lt hs), Nat.add_mul_mod_self_left, next_digit D (at_ + 1) hD]
  exact Nat.mod_eq_of_lt (srD_lt (Nat.le_of_lt hs) (hD.get at_ h))
theorem above_past (D : List Nat) (hD : Dig D) (at_ s : Nat) (h : D.length ≤ at_) : val D / 2 ^ (64 * at_ + s) % Bs = 0 := by
  have h1 := val_lt hD
  have h2 : val D < 2 ^ (64 * at_ + s) := by
    refine Nat.lt_of_lt_of_le h1 ?_
    rw [Bs_pow, ← Nat.pow_mul]
    exact Nat.pow_le_pow_right (by omega) (by omega)
  rw [Nat.div_eq_of_lt h2]; exact Nat.zero_mod _

set_option maxHeartbeats 2000000 in
set_option maxRecDepth 100000 in
theorem above_any (g c at_ s n : Nat) (D : List Nat) (hD : Dig D) (hn : n = 64 * at_ + s) (hs : s < 64) (hatl : at_ ≤ 1099511627776) (hl : D.length ≤ 1099511627776) (w : World) (hr : Rd w g 0 D) :
    Calls Tryd.prog 88 #[.slice (some ⟨g, 0, none⟩) D.length c, .int .i64 (n : Int)] w fun e w' =>
      e = .returned (.int .u64 ((val D / 2 ^ n % Bs : Nat) : Int)) ∧ w = w' := by
  have hm64 : min s 64 = s := by omega
  have hdq : (n : Int) / 64 = (at_ : Int) := by omega
  have hdm : (n : Int).tmod 64 = (s : Int) := by rw [Int.tmod_eq_emod_of_nonneg (by omega)]; omega
  by_cases hat : at_ < D.length
  · have hv := above_val D hD at_ s hs hat
    rw [← hn] at hv
    rw [hv]
    clear hn hv
    have hx := hD.get at_ hat
    have hcell := hr at_ hat
    rw [Nat.zero_add] at hcell
    have hd0 : decide (D.length ≤ at_) = false := by rw [decide_eq_false_iff_not]; omega
    have e2 : ((D[at_] : Nat) : Int) / 2 ^ s = ((D[at_] / 2 ^ s : Nat) : Int) := by rw [Int.natCast_ediv, Int.natCast_pow]; rfl
    by_cases hlast : at_ + 1 < D.length
    · have hor := srD_or (n := s) (z := D.getD (at_ + 1) 0) (Nat.le_of_lt hs) hx
      have hcell2 := hr (at_ + 1) hlast
      rw [Nat.zero_add, show D[at_ + 1] = D.getD (at_ + 1) 0 by simp [hlast]] at hcell2
      rw [e2] at hor
      generalize D[at_] / 2 ^ s = xq at *
      generalize D.getD (at_ + 1) 0 = z at *
      generalize D[at_] = x at *
      clear hx hr hD
      go_enter Tryd.func88, Tryd.ntmps88
      go_upto_region 2 with fail
      clear hdq hdm
      go_wp2
      go_ret
      exact ⟨rfl, rfl⟩
    · have hz : D.getD (at_ + 1) 0 = 0 := by simp [hlast]
      have hsr : srD s D[at_] 0 = D[at_] / 2 ^ s := by unfold srD; simp
      rw [hz, hsr]
      generalize D[at_] / 2 ^ s = xq at *
      generalize D[at_] = x at *
      clear hx hr hD hz hsr
      go_enter Tryd.func88, Tryd.ntmps88
      go_upto_region 2 with fail
      clear hdq hdm
      go_wp2
      go_ret
      exact ⟨rfl, rfl⟩
  · have hv := above_past D hD at_ s (Nat.le_of_not_lt hat)
    rw [← hn] at hv
    rw [hv]
    have hd0 : decide (D.length ≤ at_) = true := by rw [decide_eq_true_eq]; omega
    clear hn hv hr hD
    go_enter Tryd.func88, Tryd.ntmps88
    go_wp2
    go_ret
    exact ⟨rfl, rfl⟩

/-- The quotient that the highest digits tell is that of the two numbers at hand. -/
theorem Leh.quot {p0 q0 s A B C D p q k : Int} (h : Leh p0 q0 s A B C D p q) (hC : 0 < q + C) (hD : 0 < q + D) (k1 : k = (p + A) / (q + C)) (k2 : k = (p + B) / (q + D)) :
    0 ≤ k ∧ k * q ≤ p ∧ p - k * q < q := by
  have hk : 0 ≤ k := by rw [k1]; exact Int.ediv_nonneg (by have := h.c1; omega) (by omega)
  have m1 : k * (q + C) ≤ p + A := by rw [k1]; exact Int.ediv_mul_le _ (by omega)
  have m2 : k * (q + D) ≤ p + B := by rw [k2]; exact Int.ediv_mul_le _ (by omega)
  have m3 : p + A < (k + 1) * (q + C) := by rw [k1]; exact Int.lt_ediv_add_one_mul_self _ hC
  have m4 : p + B < (k + 1) * (q + D) := by rw [k2]; exact Int.lt_ediv_add_one_mul_self _ hD
  have neg : ∀ j c : Int, 0 ≤ j → c ≤ 0 → j * c ≤ 0 := fun j c hj hc => Int.mul_nonpos_of_nonneg_of_nonpos hj hc
  have pos : ∀ j c : Int, 0 ≤ j → 0 ≤ c → 0 ≤ j * c := fun j c hj hc => Int.mul_nonneg hj hc
  have e1 : (k + 1) * q = k * q + q := by rw [Int.add_mul, Int.one_mul]
  rw [Int.mul_add] at m1 m2 m3 m4
  have h1 := h.hA; have h2 := h.hB; have h3 := h.hC; have h4 := h.hD
  rcases h.hs with e | e <;> rw [e] at h1 h2 h3 h4
  · have := pos k D hk (by omega); have := neg (k + 1) C (by omega) (by omega)
    exact ⟨hk, by omega, by omega⟩
  · have := pos k C hk (by omega); have := neg (k + 1) D (by omega) (by omega)
    exact ⟨hk, by omega, by omega⟩

/-- What holds between two of certainSteps' rounds. -/
structure CS (x y : Nat) (p0 q0 A B C D p q : Int) : Prop where
  sg : ∃ s, Leh p0 q0 s A B C D p q
  t : ∃ X Y, LehT x y A B C D X Y
  bA : -p0 ≤ A ∧ A ≤ p0 ∧ -p0 ≤ B ∧ B ≤ p0
  bq : p ≤ p0 ∧ q ≤ p0 ∧ q0 ≤ p0
theorem CS.start {x y : Nat} {p0 q0 : Int} (h : y ≤ x) (hp : 0 < p0) (hq : 0 ≤ q0) (hqp : q0 ≤ p0) : CS x y p0 q0 1 0 0 1 p0 q0 :=
  ⟨⟨1, Leh.start hp hq⟩, ⟨x, y, LehT.start h⟩, by omega, by omega⟩
theorem CS.bounds {x y : Nat} {p0 q0 A B C D p q : Int} (h : CS x y p0 q0 A B C D p q) :
    0 < p ∧ 0 ≤ q ∧ p ≤ p0 ∧ q ≤ p0 ∧ -p0 ≤ A ∧ A ≤ p0 ∧ -p0 ≤ B ∧ B ≤ p0 ∧ -p0 ≤ C ∧ C ≤ p0 ∧ -p0 ≤ D ∧ D ≤ p0 ∧ 0 < p + A ∧ 0 < p + B ∧ 0 ≤ q + C ∧ 0 ≤ q + D := by
  obtain ⟨⟨s, hL⟩, -, hA, hq⟩ := h
  have h1 := hL.bound
  have h2 := hL.pos
  have := hL.c1; have := hL.c2; have := hL.c3; have := hL.c4
  omega
theorem CS.step {x y T xl yl : Nat} {p0 q0 A B C D p q k : Int} (h : CS x y p0 q0 A B C D p q) (hC : 0 < q + C) (hD : 0 < q + D) (k1 : k = (p + A) / (q + C)) (k2 : k = (p + B) / (q + D))
    (hx : (x : Int) = p0 * T + xl) (hy : (y : Int) = q0 * T + yl) (hxl : xl < T) (hyl : yl < T) :
    CS x y p0 q0 C D (A - k * C) (B - k * D) q (p - k * q) ∧ 0 ≤ k ∧ k * q ≤ p ∧ 0 ≤ p - k * q ∧ p - k * q < q ∧ 0 ≤ k * q := by
  have hb := h.bounds
  obtain ⟨⟨s, hL⟩, ⟨X, Y, hT⟩, hA, hq⟩ := h
  obtain ⟨q1, q2, q3⟩ := hL.quot hC hD k1 k2
  have hn : 0 ≤ k * q := Int.mul_nonneg q1 (by omega)
  exact ⟨⟨⟨_, hL.step hC hD k1 k2⟩, ⟨_, _, LehT.step hL hT hC hD k1 k2 hx hy hxl hyl⟩, by omega, by omega⟩, q1, q2, by omega, q3, hn⟩

theorem boxes2 (w : World) (A1 A2 B1 B2 : Value) (t : TypeId) : ∃ w0, ((w.alloc (.cells #[A1, A2] t)).alloc (.cells #[B1, B2] t)) = w0 ∧
    Bx w0 w.heap.size A1 A2 ∧ Bx w0 (w.heap.size + 1) B1 B2 ∧ Below w.heap.size w w0 ∧ w.heap.size + 2 ≤ w0.heap.size :=
  ⟨_, rfl, Bx.of _ _ _ _ _ (al2_1 w _ _), Bx.of _ _ _ _ _ (al2 w _ _), below2 w _ _, by simp⟩
theorem aboveW (g c N a m : Nat) (X : List Nat) (hm : (digs a).length = m) (hl : m ≤ 1000000000000) (hN : N ≤ 64 * 1000000000000) (hv : a / 2 ^ N < Bs) (w : World) (hdx : DB w g (digs a ++ X)) :
    Calls Tryd.prog 88 #[.slice (some ⟨g, 0, none⟩) m c, .int .i64 (N : Int)] w fun e w' =>
      e = .returned (.int .u64 ((a / 2 ^ N : Nat) : Int)) ∧ w = w' := by
  subst hm
  refine (above_any g c (N / 64) (N % 64) N (digs a) (digs_dig a) (by omega) (by omega) (by omega) (by omega) w hdx.rdl).mono ?_
  rintro e w' ⟨rfl, rfl⟩
  rw [val_digs, Nat.mod_eq_of_lt hv]
  exact ⟨rfl, rfl⟩
theorem window (a m t : Nat) (hm : (digs a).length = m) (h2 : 2 ≤ m) (ht : t = (digs a)[m - 1]'(by omega)) :
    t < Bs ∧ ∃ N, 64 * m = N + 62 + lz t ∧ a / 2 ^ N < 4611686018427387904 ∧ 0 < a / 2 ^ N := by
  obtain ⟨n, rfl⟩ : ∃ n, m = n + 1 := ⟨m - 1, by omega⟩
  obtain ⟨h1, h3, h4, -, -⟩ := norm_div a n hm t ht
  have htB : t < Bs := by rw [ht]; exact (digs_dig a).get _ (by omega)
  refine ⟨htB, 64 * (n + 1) - 62 - lz t, by omega, ?_, ?_⟩
  · rw [Nat.div_lt_iff_lt_mul (Nat.pow_pos (by omega))]
    have h5 : 4611686018427387904 * 2 ^ (64 * (n + 1) - 62 - lz t) * 2 ^ lz t = Bs ^ (n + 1) := by
      rw [show (4611686018427387904 : Nat) = 2 ^ 62 from rfl, ← Nat.pow_add, ← Nat.pow_add, Bs_pow, ← Nat.pow_mul]
      congr 1; omega
    exact Nat.lt_of_mul_lt_mul_right (a := 2 ^ lz t) (by rw [h5]; exact h3)
  · rw [Nat.div_pos_iff]
    refine ⟨Nat.pow_pos (by omega), ?_⟩
    have h5 : 2 ^ (64 * (n + 1) - 62 - lz t) * 2 ^ 62 * 2 ^ lz t = Bs ^ (n + 1) := by
      rw [← Nat.pow_add, ← Nat.pow_add, Bs_pow, ← Nat.pow_mul]
      congr 1; omega
    have h6 : 2 ^ (64 * (n + 1) - 62 - lz t) * 2 ^ lz t * 4 ≤ a * 2 ^ lz t * 2 := by
      have h7 : 2 ^ (64 * (n + 1) - 62 - lz t) * 2 ^ lz t * 4 ≤ Bs ^ (n + 1) := by
        rw [← h5, Nat.mul_right_comm _ (2 ^ 62)]
        exact Nat.mul_le_mul_left (2 ^ (64 * (n + 1) - 62 - lz t) * 2 ^ lz t) (show 4 ≤ 2 ^ 62 by decide)
      omega
    exact Nat.le_of_mul_le_mul_right (c := 2 ^ lz t) (by omega) (Nat.pow_pos (by omega))

theorem put4 {w : World} {k : Nat} {x y z u : Value} (hA : Bx w k x y) (hB : Bx w (k + 1) z u) (x' y' z' u' : Value) :
    Bx ((((w.setCell ⟨k, 0, none⟩ x').setCell ⟨k, 1, none⟩ y').setCell ⟨k + 1, 0, none⟩ z').setCell ⟨k + 1, 1, none⟩ u') k x' y' ∧
    Bx ((((w.setCell ⟨k, 0, none⟩ x').setCell ⟨k, 1, none⟩ y').setCell ⟨k + 1, 0, none⟩ z').setCell ⟨k + 1, 1, none⟩ u') (k + 1) z' u' := by
  obtain ⟨a0, a1, af⟩ := hA
  obtain ⟨b0, b1, bf⟩ := hB
  constructor <;> refine ⟨?_, ?_, fun j => ?_⟩ <;> simp [go_sem, a0, a1, af, b0, b1, bf]
attribute [local irreducible] lz
set_option maxHeartbeats 2000000 in
set_option maxRecDepth 100000 in
theorem certain_any (gx gy cx cy a b m n : Nat) (X Y : List Nat) (hn : (digs b).length = n) (hn2 : 2 ≤ n) (hm : (digs a).length = m) (hab : b ≤ a) (hal : m ≤ 1000000000000) (w : World) (hdx : DB w gx (digs a ++ X)) (hdy : DB w gy (digs b ++ Y)) :
    Calls Tryd.prog 69 #[.slice (some ⟨gx, 0, none⟩) m cx, .slice (some ⟨gy, 0, none⟩) n cy] w fun e w' =>
      ∃ A B C D p q p0 q0 : Int, e = .returned (.tuple #[.agg #[.int .i64 A, .int .i64 B], .agg #[.int .i64 C, .int .i64 D]]) ∧ CS a b p0 q0 A B C D p q ∧ p0 ≤ 4611686018427387904 ∧ Below w.heap.size w w' := by
  obtain ⟨w0, hw0, hA, hB, hbw, hsz⟩ := boxes2 w (.int .i64 0) (.int .i64 0) (.int .i64 0) (.int .i64 0) 118
  have hnm : n ≤ m := by rw [← hn, ← hm]; exact digs_mono hab
  obtain ⟨t, ht⟩ : ∃ t, t = (digs a)[m - 1]'(by omega) := ⟨_, rfl⟩
  obtain ⟨htB, N, hN, hP, hP0⟩ := window a m t hm (by omega) ht
  have hlz : lz t ≤ 63 := (norm_div a (m - 1) (by omega) t ht).1
  have hdx0 := hdx.below hbw hdx.lt
  have hdy0 := hdy.below hbw hdy.lt
  have hcell := hdx0.cell (m - 1) (by simp; omega)
  rw [List.getElem_append_left (by omega), ← ht] at hcell
  have hQ : b / 2 ^ N ≤ a / 2 ^ N := Nat.div_le_div_right hab
  have H1 := fun w h => aboveW gx cx N a m X hm hal (by omega) (by unfold Bs; omega) w h
  have H2 := fun w h => aboveW gy cy N b n Y hn (by omega) (by omega) (by unfold Bs; omega) w h
  replace H1 := Lib.hid H1
  replace H2 := Lib.hid H2
  have hxT : (a : Int) = ((a / 2 ^ N : Nat) : Int) * ((2 ^ N : Nat) : Int) + ((a % 2 ^ N : Nat) : Int) := by
    have := Nat.div_add_mod a (2 ^ N)
    rw [← Int.natCast_mul, ← Int.natCast_add, Nat.mul_comm, this]
  have hyT : (b : Int) = ((b / 2 ^ N : Nat) : Int) * ((2 ^ N : Nat) : Int) + ((b % 2 ^ N : Nat) : Int) := by
    have := Nat.div_add_mod b (2 ^ N)
    rw [← Int.natCast_mul, ← Int.natCast_add, Nat.mul_comm, this]
  have hxl : a % 2 ^ N < 2 ^ N := Nat.mod_lt _ (Nat.pow_pos (by omega))
  have hyl : b % 2 ^ N < 2 ^ N := Nat.mod_lt _ (Nat.pow_pos (by omega))
  generalize a / 2 ^ N = P at *
  generalize b / 2 ^ N = Q at *
  generalize a % 2 ^ N = xl at *
  generalize b % 2 ^ N = yl at *
  generalize 2 ^ N = T at *
  have hS := CS.start (p0 := ((P : Nat) : Int)) (q0 := ((Q : Nat) : Int)) hab (by omega) (by omega) (by omega)
  have hwP : IntKind.i64.wrap ((P : Nat) : Int) = ((P : Nat) : Int) := IntWalk.i64_in _ (by omega)
  have hwQ : IntKind.i64.wrap ((Q : Nat) : Int) = ((Q : Nat) : Int) := IntWalk.i64_in _ (by omega)
  have HS := Lib.hid hS
  have HX := Lib.hid hxT
  have HY := Lib.hid hyT
  have HD := Lib.hid (And.intro hdx0 hdy0)
  have HDrop : (m : Int) * 64 - (lz t : Int) - 62 = (N : Int) := by omega
  have HL := Lib.hid (lz_any t htB)
  clear hS hxT hyT hdx0 hdy0 hdx hdy htB ht hN
  go_enter Tryd.func69, Tryd.ntmps69
  go_wp2_with fail
  refine (HL.out _).mono ?_
  rintro e w1 ⟨rfl, rfl⟩
  go_wp2_with fail
  refine (H1.out _ HD.out.1).mono ?_
  rintro e w1 ⟨rfl, rfl⟩
  go_wp2_with fail
  refine (H2.out _ HD.out.2).mono ?_
  rintro e w1 ⟨rfl, rfl⟩
  obtain ⟨a0, a1, af⟩ := id hA
  obtain ⟨b0, b1, bf⟩ := id hB
  clear HL H1 H2 HDrop hcell hlz
  go_wp2_with fail
  go_loopw [7, 8, 9] (fun z7 z8 _ wr => ∃ A B C D p q : Int, z7 = .int .i64 p ∧ z8 = .int .i64 q ∧ CS a b P Q A B C D p q ∧
    Bx wr w.heap.size (.int .i64 A) (.int .i64 B) ∧ Bx wr (w.heap.size + 1) (.int .i64 C) (.int .i64 D) ∧ Below w.heap.size w wr ∧ w.heap.size + 2 ≤ wr.heap.size) (fun _ z8 _ _ => (intOf z8).toNat)
  case atStart =>
    have hp := put4 hA hB (.int .i64 1) (.int .i64 0) (.int .i64 0) (.int .i64 1)
    exact ⟨1, 0, 0, 1, P, Q, rfl, rfl, HS.out, hp.1, hp.2, (((hbw.setCell (by simp <;> omega) _).setCell (by simp <;> omega) _).setCell (by simp <;> omega) _).setCell (by simp <;> omega) _, by simp; omega⟩
  case round =>
    obtain ⟨A, B, C, D, p, q, rfl, rfl, hCS, hA, hB, hbw, hsz⟩ := hrel
    clear a0 a1 af b0 b1 bf HS
    have hbd := hCS.bounds
    have hCS := Lib.hid hCS
    obtain ⟨u, hu⟩ : ∃ u, u = q + C := ⟨_, rfl⟩
    obtain ⟨v, hv⟩ : ∃ v, v = q + D := ⟨_, rfl⟩
    obtain ⟨f, hf⟩ : ∃ f, f = p + A := ⟨_, rfl⟩
    obtain ⟨g, hg⟩ : ∃ g, g = p + B := ⟨_, rfl⟩
    have wu : IntKind.i64.wrap (q + C) = u := by rw [hu]; exact IntWalk.i64_in _ (by omega)
    have wv : IntKind.i64.wrap (q + D) = v := by rw [hv]; exact IntWalk.i64_in _ (by omega)
    have wf : IntKind.i64.wrap (p + A) = f := by rw [hf]; exact IntWalk.i64_in _ (by omega)
    have wg : IntKind.i64.wrap (p + B) = g := by rw [hg]; exact IntWalk.i64_in _ (by omega)
    have hu0 : 0 ≤ u := by omega
    have hv0 : 0 ≤ v := by omega
    have HBD := Lib.hid hbd
    have Hu := Lib.hid hu
    have Hv := Lib.hid hv
    have Hf := Lib.hid hf
    have Hg := Lib.hid hg
    obtain ⟨a0, a1, af⟩ := id hA
    obtain ⟨b0, b1, bf⟩ := id hB
    clear hbd hu hv hf hg
    by_cases hu1 : u = 0
    · have hwu0 : decide (u = 0) = true := decide_eq_true hu1
      go_wp2_with fail
      go_region
      go_wp2_with fail
      have hp := put4 hA hB (.int .i64 A) (.int .i64 B) (.int .i64 C) (.int .i64 D)
      obtain ⟨⟨p0, p1, -⟩, ⟨p2, p3, -⟩⟩ := hp
      exact bodyPost_ret (v := .tuple #[.agg #[.int .i64 A, .int .i64 B], .agg #[.int .i64 C, .int .i64 D]]) (by simp [results, Tryd.results69, go_sem, a0, a1, b0, b1, af, bf]) rfl
        ⟨A, B, C, D, p, q, P, Q, rfl, hCS.out, by omega, ((((hbw.setCell (by simp <;> omega) _).setCell (by simp <;> omega) _).setCell (by simp <;> omega) _).setCell (by simp <;> omega) _).drew⟩
    · have hwu0 : (u != 0) = true := bne_iff_ne.2 hu1
      by_cases hv1 : v = 0
      · have hwv0 : decide (v = 0) = true := decide_eq_true hv1
        go_wp2_with fail
        go_region
        go_wp2_with fail
        have hp := put4 hA hB (.int .i64 A) (.int .i64 B) (.int .i64 C) (.int .i64 D)
        obtain ⟨⟨p0, p1, -⟩, ⟨p2, p3, -⟩⟩ := hp
        exact bodyPost_ret (v := .tuple #[.agg #[.int .i64 A, .int .i64 B], .agg #[.int .i64 C, .int .i64 D]]) (by simp [results, Tryd.results69, go_sem, a0, a1, b0, b1, af, bf]) rfl
          ⟨A, B, C, D, p, q, P, Q, rfl, hCS.out, by omega, ((((hbw.setCell (by simp <;> omega) _).setCell (by simp <;> omega) _).setCell (by simp <;> omega) _).setCell (by simp <;> omega) _).drew⟩
      · have hwv0 : (v != 0) = true := bne_iff_ne.2 hv1
        have hf0 : 0 ≤ f := by have := HBD.out; have := Hf.out; omega
        have hg0 : 0 ≤ g := by have := HBD.out; have := Hg.out; omega
        obtain ⟨k, hk⟩ : ∃ k, k = f / u := ⟨_, rfl⟩
        obtain ⟨l, hl⟩ : ∃ l, l = g / v := ⟨_, rfl⟩
        have hkb : 0 ≤ k ∧ k ≤ f := ⟨by rw [hk]; exact Int.ediv_nonneg hf0 hu0, by rw [hk]; exact Int.ediv_le_self _ hf0⟩
        have hlb : 0 ≤ l ∧ l ≤ g := ⟨by rw [hl]; exact Int.ediv_nonneg hg0 hv0, by rw [hl]; exact Int.ediv_le_self _ hg0⟩
        have hff : f ≤ 9223372036854775807 ∧ g ≤ 9223372036854775807 := by have := HBD.out; have := Hf.out; have := Hg.out; omega
        have tk : f.tdiv u = k := by rw [hk]; exact Int.tdiv_eq_ediv_of_nonneg hf0
        have tl : g.tdiv v = l := by rw [hl]; exact Int.tdiv_eq_ediv_of_nonneg hg0
        have wk : IntKind.i64.wrap k = k := IntWalk.i64_in _ (by omega)
        have wl : IntKind.i64.wrap l = l := IntWalk.i64_in _ (by omega)
        have Hk := Lib.hid hk
        have Hl := Lib.hid hl
        clear hk hl hff hkb hlb
        by_cases hkl : k = l
        · subst hkl
          have hstep := hCS.out.step (T := T) (xl := xl) (yl := yl) (k := k) (by have := Hu.out; omega) (by have := Hv.out; omega) (by rw [← Hf.out, ← Hu.out]; exact Hk.out) (by rw [← Hg.out, ← Hv.out]; exact Hl.out) HX.out HY.out hxl hyl
          obtain ⟨hn, n1, n2, n3, n4, n5⟩ := hstep
          have nb := hn.bounds
          have ob := HBD.out
          obtain ⟨kq, hkq⟩ : ∃ z, z = k * q := ⟨_, rfl⟩
          obtain ⟨kc, hkc⟩ : ∃ z, z = k * C := ⟨_, rfl⟩
          obtain ⟨kd, hkd⟩ : ∃ z, z = k * D := ⟨_, rfl⟩
          rw [← hkq, ← hkc, ← hkd] at nb
          rw [← hkq] at n2 n3 n4 n5
          rw [← hkq, ← hkc, ← hkd] at hn
          obtain ⟨q', hq'⟩ : ∃ z, z = p - kq := ⟨_, rfl⟩
          obtain ⟨C', hC'⟩ : ∃ z, z = A - kc := ⟨_, rfl⟩
          obtain ⟨D', hD'⟩ : ∃ z, z = B - kd := ⟨_, rfl⟩
          rw [← hq', ← hC', ← hD'] at nb hn
          rw [← hq'] at n3 n4
          have w1 : IntKind.i64.wrap (k * q) = kq := by rw [← hkq]; exact IntWalk.i64_in _ (by omega)
          have w2 : IntKind.i64.wrap (k * C) = kc := by rw [← hkc]; exact IntWalk.i64_in _ (by omega)
          have w3 : IntKind.i64.wrap (k * D) = kd := by rw [← hkd]; exact IntWalk.i64_in _ (by omega)
          have w4 : IntKind.i64.wrap (p - kq) = q' := by rw [← hq']; exact IntWalk.i64_in _ (by omega)
          have w5 : IntKind.i64.wrap (A - kc) = C' := by rw [← hC']; exact IntWalk.i64_in _ (by omega)
          have w6 : IntKind.i64.wrap (B - kd) = D' := by rw [← hD']; exact IntWalk.i64_in _ (by omega)
          have HN := Lib.hid hn
          have HM := Lib.hid (And.intro n3 n4)
          clear nb ob n1 n2 n3 n4 n5 hkq hkc hkd hq' hC' hD' hn hCS Hk Hl Hu Hv Hf Hg HBD
          go_wp2_with fail
          go_region
          go_wp2_with fail
          have hp := put4 hA hB (.int .i64 C) (.int .i64 D) (.int .i64 C') (.int .i64 D')
          refine ⟨⟨C, D, C', D', q, q', rfl, rfl, HN.out, hp.1, hp.2, ((((hbw.setCell (by simp <;> omega) _).setCell (by simp <;> omega) _).setCell (by simp <;> omega) _).setCell (by simp <;> omega) _).drew, by simp; omega⟩, ?_⟩
          have := HM.out
          simp [intOf]; omega
        · have hkl0 : (k != l) = true := bne_iff_ne.2 hkl
          go_wp2_with fail
          go_region
          go_wp2_with fail
          have hp := put4 hA hB (.int .i64 A) (.int .i64 B) (.int .i64 C) (.int .i64 D)
          obtain ⟨⟨p0, p1, -⟩, ⟨p2, p3, -⟩⟩ := hp
          exact bodyPost_ret (v := .tuple #[.agg #[.int .i64 A, .int .i64 B], .agg #[.int .i64 C, .int .i64 D]]) (by simp [results, Tryd.results69, go_sem, a0, a1, b0, b1, af, bf]) rfl
            ⟨A, B, C, D, p, q, P, Q, rfl, hCS.out, by omega, ((((hbw.setCell (by simp <;> omega) _).setCell (by simp <;> omega) _).setCell (by simp <;> omega) _).setCell (by simp <;> omega) _).drew⟩
end Go.Proofs.YthehcjfmokabfaaDoor
