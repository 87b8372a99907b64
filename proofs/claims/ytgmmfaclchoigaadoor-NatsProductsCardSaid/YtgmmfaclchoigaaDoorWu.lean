/-
  Layer 1, walks U: Sqrt, Pow.
-/
import Derived.Test.YtgmmfaclchoigaaDoorWt
set_option linter.unusedVariables false
set_option linter.unusedSimpArgs false
namespace Go.Proofs.YtgmmfaclchoigaaDoor
open Go.RowKit
attribute [local irreducible] lo hs sm s64 c64 d64 b64 mh ml pd pc qd qc val hiB str cmpI srD lz nb isq

/-- The number that a struct in memory holds. -/
def rdn (w : World) (k : Nat) : Nat := match w.cell? ⟨k, 0, none⟩, w.cell? ⟨k, 1, none⟩ with
  | some (.int _ l), some (.string h) => l.toNat + Bs * bval h.toList
  | _, _ => 0
theorem rdn_eq {w : World} {k r : Nat} (h : Bx w k (.int .u64 ((lo r : Nat) : Int)) (.string (hs r))) : rdn w k = r := by
  obtain ⟨h0, h1, -⟩ := h
  unfold rdn
  rw [h0, h1]
  simp only
  rw [hs_toList, bval_hiB, Int.toNat_natCast]
  unfold lo
  exact Nat.mod_add_div r Bs

theorem eq_zero {b : Nat} (hb : 0 < b) : ((((lo b : Nat) : Int) == ((lo 0 : Nat) : Int)) = false) ∨ ((((lo b : Nat) : Int) == ((lo 0 : Nat) : Int)) = true ∧ ((hs b).toList == (hs 0).toList) = false) := by
  by_cases h : lo b = lo 0
  · right
    refine ⟨by rw [h]; simp, ?_⟩
    rw [hs_eq, decide_eq_false]
    intro h2
    have h3 : b % Bs = 0 % Bs := by have h4 := h; unfold lo at h4; exact h4
    have := Nat.div_add_mod b Bs
    rw [h2, h3] at this
    simp at this; omega
  · left
    rw [beq_eq_false_iff_ne]; omega
theorem nb_pow_len {n k : Nat} (hk : n ≤ 64 * k) : (digs (2 ^ n)).length ≤ k + 1 := by
  refine digs_length_iff.2 ?_
  rw [Bs_pow, ← Nat.pow_mul]
  exact Nat.pow_lt_pow_right (by omega) (by omega)
theorem nb_len {a k : Nat} (h : (digs a).length ≤ k) : nb a ≤ 64 * k := by
  by_cases h0 : a = 0
  · subst h0; rw [nb_zero]; omega
  · obtain ⟨j, e, h1, h2⟩ := nb_spec h0
    rw [e]
    have h3 := digs_length_iff.1 h
    rw [Bs_pow, ← Nat.pow_mul] at h3
    have := (Nat.pow_lt_pow_iff_right (show 1 < 2 by omega)).1 (Nat.lt_of_le_of_lt h1 h3)
    omega

theorem put2 {w : World} {k : Nat} {x y : Value} (hA : Bx w k x y) (x' y' : Value) : Bx ((w.setCell ⟨k, 0, none⟩ x').setCell ⟨k, 1, none⟩ y') k x' y' := by
  obtain ⟨a0, a1, af⟩ := hA
  refine ⟨?_, ?_, fun j => ?_⟩ <;> simp [go_sem, a0, a1, af]
/-- Sqrt's two boxes. -/
structure B2 (w : World) (k : Nat) (a : Nat) : Prop where
  A : Bx w k (.int .u64 ((lo a : Nat) : Int)) (.string (hs a))
  C : Bx w (k + 1) (.int .u64 0) (.string ⟨#[]⟩)
  sz : k + 2 ≤ w.heap.size
theorem B2.below {w w' : World} {k a : Nat} (h : B2 w k a) (hb : Below w.heap.size w w') : B2 w' k a :=
  ⟨h.A.below hb (by have := h.sz; omega), h.C.below hb (by have := h.sz; omega), Nat.le_trans h.sz hb.size⟩
theorem B2.belowN {w w' : World} {k a : Nat} (h : B2 w k a) (hb : Below (k + 2) w w') : B2 w' k a :=
  ⟨h.A.below hb (by omega), h.C.below hb (by omega), Nat.le_trans h.sz hb.size⟩
theorem B2.step {w0 w1 w2 : World} {k a : Nat} (h0 : Below k w0 w1) (h : B2 w1 k a) (hb : Below w1.heap.size w1 w2) : Below k w0 w2 := h0.trans (hb.mono (by have := h.sz; omega))

set_option maxHeartbeats 2000000 in
set_option maxRecDepth 100000 in
theorem sqrt_zero (w : World) : Calls Tryd.prog 27 #[natV 0] w fun e w' => e = .returned (natV (isq 0)) ∧ Below w.heap.size w w' := by
  rw [show isq 0 = 0 from by unfold isq; rfl]
  obtain ⟨w0, hw0, hA, hB, hbw, hsz⟩ := boxes2 w (.int .u64 ((lo 0 : Nat) : Int)) (.string (hs 0)) (.int .u64 0) (.string ⟨#[]⟩) 26
  have H0 : B2 w0 w.heap.size 0 := ⟨hA, hB, hsz⟩
  obtain ⟨a0, a1, af⟩ := id hA
  go_enter Tryd.func27, Tryd.ntmps27
  go_wp2_with fail
  go_region_held3 (fun w' => w'.cell? ⟨w.heap.size, 0, none⟩ = some (.int .u64 ((lo 0 : Nat) : Int)) ∧ w'.cell? ⟨w.heap.size, 1, none⟩ = some (.string (hs 0)))
    (first | exact ⟨a0, a1⟩ | exact ⟨a0', a1'⟩)
    (first
      | (go_at_call 37; ((with_reducible refine Calls.mono (of_zero _) ?_); rintro e w1 ⟨rfl, hb1⟩; obtain ⟨a0', a1', af'⟩ := hA.below ((Below.refl w0.heap.size w0).drew.trans hb1) (by omega))))
  obtain ⟨c0, c1, cf⟩ := hB.below ((Below.refl w0.heap.size w0).drew.trans hb1) (by omega)
  have hB1 := hbw.trans (((Below.refl w0.heap.size w0).drew.trans hb1).mono (by omega))
  go_wp2_with fail
  exact bodyPost_ret (v := natV 0) (by simp [results, Tryd.results27, go_sem, c0, c1]) rfl ⟨rfl, (hB1.setCell (by simp <;> omega) _).setCell (by simp <;> omega) _⟩

set_option maxHeartbeats 2000000 in
set_option maxRecDepth 100000 in
theorem sqrt_pos (a : Nat) (ha : 0 < a) (hla : (digs a).length ≤ 1000000000) (w : World) :
    Calls Tryd.prog 27 #[natV a] w fun e w' => e = .returned (natV (isq a)) ∧ Below w.heap.size w w' := by
  have heq := eq_zero ha
  obtain ⟨w0, hw0, hA, hB, hbw, hsz⟩ := boxes2 w (.int .u64 ((lo a : Nat) : Int)) (.string (hs a)) (.int .u64 0) (.string ⟨#[]⟩) 26
  have H0 : B2 w0 w.heap.size a := ⟨hA, hB, hsz⟩
  have HBt := Lib.hid (fun w => bits_any a (by omega) w)
  have hnbl := nb_len hla
  obtain ⟨m, hm⟩ : ∃ m, m = (nb a + 1) / 2 := ⟨_, rfl⟩
  have HP := Lib.hid (fun w => powerOfTwo_any m (by omega) w)
  have hdiv : ((nb a : Nat) : Int) + 1 = ((nb a + 1 : Nat) : Int) := rfl
  have hmI : (((nb a : Nat) : Int) + 1) / 2 = (m : Int) := by omega
  have hnb : (nb a : Int) ≤ 64000000000 := by omega
  have hr0 : isq a ≤ 2 ^ m := by rw [hm]; exact isq_pow (nb_lt a)
  have hrl : (digs (2 ^ m)).length ≤ 1000000001 := nb_pow_len (by omega)
  have hrp : 0 < 2 ^ m := Nat.pow_pos (by omega)
  generalize hRR : 2 ^ m = R at *
  generalize nb a = n at *
  clear hRR hdiv hnbl hm
  replace hr0 := Lib.hid hr0
  replace hrl := Lib.hid hrl
  replace hrp := Lib.hid hrp
  go_enter Tryd.func27, Tryd.ntmps27
  go_wp2_with fail
  obtain ⟨a0, a1, af⟩ := id hA
  rcases heq with he1 | ⟨he1, he2⟩ <;> (
    go_region_held3 (fun w' => w'.cell? ⟨w.heap.size, 0, none⟩ = some (.int .u64 ((lo a : Nat) : Int)) ∧ w'.cell? ⟨w.heap.size, 1, none⟩ = some (.string (hs a)))
      (first | exact ⟨a0, a1⟩ | exact ⟨a0', a1'⟩)
      (first
        | (go_at_call 37; ((with_reducible refine Calls.mono (of_zero _) ?_); rintro e w1 ⟨rfl, hb1⟩; obtain ⟨a0', a1', af'⟩ := hA.below ((Below.refl w0.heap.size w0).drew.trans hb1) (by omega))))
    have hb01 := (Below.refl w0.heap.size w0).drew.trans hb1
    have H1 := H0.below hb01
    have hB1 := H0.step hbw hb01
    clear a0' a1' af' a0 a1 af hA hB hb01 hb1 H0 hbw hsz hw0
    obtain ⟨⟨a0, a1, af⟩, -⟩ := id H1
    go_wp2_with fail
    refine (HBt.out _).mono ?_
    rintro e w2 ⟨rfl, hb2⟩
    have H2 := H1.below hb2
    have hB2 := H1.step hB1 hb2
    clear a0 a1 af hb2 H1 hB1 HBt
    go_wp2_with fail
    refine (HP.out _).mono ?_
    rintro e w3 ⟨rfl, hb3⟩
    have H3 := H2.below hb3
    have hB3 := H2.step hB2 hb3
    obtain ⟨w4, hw4, hR, hb4, hsz4⟩ := boxes1 w3 (.int .u64 ((lo R : Nat) : Int)) (.string (hs R)) 26
    have H4 := H3.below hb4
    have hB4 := H3.step hB3 hb4
    have hK : w.heap.size + 2 ≤ w3.heap.size := H3.sz
    obtain ⟨k, hk⟩ : ∃ k, k = w3.heap.size := ⟨_, rfl⟩
    clear hb3 H2 hB2 HP hb4
    go_wp2_with fail
    go_loopw [4] (fun _ wr => ∃ r : Nat, isq a ≤ r ∧ 0 < r ∧ (digs r).length ≤ 1000000001 ∧ Bx wr w3.heap.size (.int .u64 ((lo r : Nat) : Int)) (.string (hs r)) ∧ w3.heap.size < wr.heap.size ∧ B2 wr w.heap.size a ∧ Below w.heap.size w wr) (fun _ wr => rdn wr w3.heap.size)
    case atStart => exact ⟨R, hr0.out, hrp.out, hrl.out, hR, hsz4, H4, hB4⟩
    case round =>
      obtain ⟨r, hr1, hr2, hr3, hR, hsz5, H5, hB5⟩ := hrel
      have hmv := rdn_eq hR
      have HH := Lib.hid (fun w => half_any r a hr2 (by omega) (by omega) w)
      obtain ⟨⟨a0, a1, af⟩, -⟩ := id H5
      obtain ⟨r0, r1, rf⟩ := id hR
      clear hw4 H4 hB4 H3 hB3 hsz4
      go_wp2_with fail
      refine (HH.out _).mono ?_
      rintro e w5 ⟨rfl, hb5⟩
      have hx1 := newton_ge a r hr2
      have hx2 : ¬ r ≤ (r + a / r) / 2 → (r + a / r) / 2 < r := fun h => by omega
      have hx3 : isq a < r → (r + a / r) / 2 < r := newton_lt a r
      generalize (r + a / r) / 2 = x at *
      have H5' := H5.below hb5
      have hB5' := H5.step hB5 hb5
      have hR5 := hR.below hb5 hsz5
      have hs55 : w3.heap.size < w5.heap.size := Nat.lt_of_lt_of_le hsz5 hb5.size
      obtain ⟨w6, hw6, hX, hb6, hsz6⟩ := boxes1 w5 (.int .u64 ((lo x : Nat) : Int)) (.string (hs x)) 26
      have H6 := H5'.below hb6
      have hB6 := H5'.step hB5' hb6
      have hR6 := hR5.below hb6 hs55
      have HC := Lib.hid (fun w => cmp_any x r w)
      clear a0 a1 af r0 r1 rf hb5 H5 hB5 hsz5 H5' hB5' hR5 HH hb6 hR
      obtain ⟨r0, r1, rf⟩ := id hR6
      obtain ⟨x0, x1, xf⟩ := id hX
      go_wp2_with fail
      refine (HC.out _).mono ?_
      rintro e w7 ⟨rfl, hb7⟩
      have H7 := H6.below hb7
      have hB7 := H6.step hB6 hb7
      have hR7 := hR6.below hb7 (by omega)
      have hX7 := hX.below hb7 hsz6
      have hs7 : w5.heap.size < w7.heap.size := Nat.lt_of_lt_of_le hsz6 hb7.size
      clear r0 r1 rf x0 x1 xf hw6 H6 hB6 hR6 hX hb7 HC
      obtain ⟨r0, r1, rf⟩ := id hR7
      obtain ⟨x0, x1, xf⟩ := id hX7
      obtain ⟨-, ⟨c0, c1, cf⟩, -⟩ := id H7
      rcases Nat.lt_or_ge x r with hxr | hxr
      · have hcm : cmpI x r < 0 := by rw [cmpI_lt hxr]; decide
        have hcm0 : decide (0 ≤ cmpI x r) = false := decide_eq_false (by omega)
        have hq0 : 0 < isq a := by
          have := (isq_spec a).2
          rcases Nat.eq_zero_or_pos (isq a) with h | h
          · rw [h] at this; omega
          · exact h
        have HL : Hid ((digs x).length ≤ 1000000001) := Lib.hid (Nat.le_trans (digs_mono (Nat.le_of_lt hxr)) hr3)
        have hR8 := put2 hR7 (.int .u64 ((lo x : Nat) : Int)) (.string (hs x))
        have hb8 : Below (w.heap.size + 2) w7 ((w7.setCell ⟨w3.heap.size, 0, none⟩ (.int .u64 ((lo x : Nat) : Int))).setCell ⟨w3.heap.size, 1, none⟩ (.string (hs x))) := ((Below.refl _ _).setCell hK _).setCell hK _
        have H8 := Lib.hid (H7.belowN hb8)
        have hB8 := Lib.hid (hB7.trans (hb8.mono (by omega)))
        have hmx := Lib.hid (rdn_eq hR8)
        have hs8 : Hid (w3.heap.size < ((w7.setCell ⟨w3.heap.size, 0, none⟩ (.int .u64 ((lo x : Nat) : Int))).setCell ⟨w3.heap.size, 1, none⟩ (.string (hs x))).heap.size) := Lib.hid (by simp; omega)
        replace hR8 := Lib.hid hR8
        clear hb8
        go_wp2_with fail
        go_roundw
        case rel => exact ⟨x, hx1, by omega, HL.out, hR8.out, hs8.out, H8.out, hB8.out⟩
        case measure => rw [hmv, hmx.out]; exact hxr
      · have hcm : ¬ cmpI x r < 0 := of_decide_eq_false (cmpI_ge hxr)
        have hcm0 : decide (0 ≤ cmpI x r) = true := decide_eq_true (by omega)
        have hra : isq a = r := by
          rcases Nat.lt_or_eq_of_le hr1 with h | h
          · have := hx3 h; omega
          · exact h
        go_wp2_with fail
        exact bodyPost_ret (v := natV r) (by simp [results, Tryd.results27, go_sem, c0, c1]) rfl ⟨by rw [hra], (hB7.setCell (by simp <;> omega) _).setCell (by simp <;> omega) _⟩)
end Go.Proofs.YtgmmfaclchoigaaDoor
