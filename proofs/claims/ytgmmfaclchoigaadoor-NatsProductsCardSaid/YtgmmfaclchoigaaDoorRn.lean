/-
  The reference of layer 1, walks L: leading; the step of Div, as mathematics.
-/
import Derived.Test.YtgmmfaclchoigaaDoorRl
set_option linter.unusedVariables false
set_option linter.unusedSimpArgs false
namespace Go.Proofs.YtgmmfaclchoigaaDoor.Rx
open Go.RowKit
attribute [local irreducible] tv dg cmpI txt decB nb isq

theorem td_drop (n k : Nat) : (td n).drop k = td (n / 10000 ^ k) := by
  induction k generalizing n with
  | zero => simp
  | succ k ih =>
    by_cases h : n = 0
    · rw [h, Nat.zero_div, td_zero]; simp
    · rw [td_pos h, List.drop_succ_cons, ih, Nat.div_div_eq_div_mul, Nat.pow_succ, Nat.mul_comm 10000]

set_option maxHeartbeats 4000000 in
set_option maxRecDepth 100000 in
theorem rleading_any (v : Value) (l : List Nat) (F : Nat) (hd : ∀ d ∈ l, d < 10000) (hF : F ≤ 1000000) (hl : l.length ≤ F + 4) (w : World) (h : Sl w v l) :
    Calls Tryd.prog 58 #[v, .int .i64 (F : Int)] w fun e w' => e = .returned (.int .i64 ((tv (l.drop F) : Nat) : Int)) ∧ w = w' := by
  obtain ⟨ao, c, rfl, hv⟩ := h.view
  obtain ⟨n, hn⟩ : ∃ n, n = l.length := ⟨_, rfl⟩
  rw [← hn] at hl hv ⊢
  have h0 := Lib.hid (show tv (l.drop n) = 0 by rw [List.drop_eq_nil_of_le (by omega), tv_nil])
  replace hn := Lib.hid hn
  replace hv := Lib.hid hv
  replace hd := Lib.hid hd
  clear h
  go_enter Tryd.func58, Tryd.ntmps58
  go_wp2_with fail
  go_loopw [5, 6] (fun s z wr => ∃ j : Nat, j ≤ n ∧ (F ≤ j ∨ j = n) ∧ z = .int .i64 ((j : Int) - 1) ∧ s = .int .i64 ((tv (l.drop j) : Nat) : Int) ∧ w = wr) (fun _ z _ => (intOf z + 1).toNat)
  case atStart => exact ⟨n, Nat.le_refl _, .inr rfl, by first | rfl | go_num, by rw [h0.out]; rfl, rfl⟩
  case round =>
    obtain ⟨j, hj, hFj, rfl, rfl, rfl⟩ := hrel
    rcases Nat.lt_or_ge F j with hlt | hge
    · obtain ⟨i, rfl⟩ : ∃ i, j = i + 1 := ⟨j - 1, by omega⟩
      obtain ⟨a, rfl, -, hs⟩ := hv.out (by omega)
      have hil : i < l.length := by have := hn.out; omega
      have hcell := hs.cell i hil
      have hx := hd.out _ (List.getElem_mem hil)
      have hnext : tv (l.drop i) = l[i] + 10000 * tv (l.drop (i + 1)) := by rw [List.drop_eq_getElem_cons hil, tv_cons]
      have hT : tv (l.drop (i + 1)) < 1000000000000 := by
        have h1 := tv_lt (l := l.drop (i + 1)) fun d hdd => hd.out d (List.mem_of_mem_drop hdd)
        exact Nat.lt_of_lt_of_le h1 (Nat.le_trans (Nat.pow_le_pow_right (by omega) (show _ ≤ 3 by rw [List.length_drop]; have := hn.out; omega)) (by decide))
      have e1 : (((i + 1 : Nat) : Int) - 1) = (i : Int) := by omega
      have k1 : (F : Int) ≤ (i : Int) := by omega
      have k2 : (i : Int) < (n : Int) := by omega
      have hTi : ((tv (l.drop (i + 1)) : Nat) : Int) ≤ 1000000000000 := by omega
      clear hT hs
      generalize l[i] = x at *
      generalize tv (l.drop (i + 1)) = T at *
      replace hnext := Lib.hid hnext
      replace hFj := Lib.hid hFj
      rw [e1]
      go_wp2_with fail
      go_roundw
      case rel => exact ⟨i, by omega, .inl (by omega), by first | rfl | go_num, (by rw [hnext.out]; go_num), by trivial⟩
      case measure => simp [intOf]
    · have hfin : tv (l.drop j) = tv (l.drop F) := by
        rcases hFj with h | h
        · rw [show j = F by omega]
        · rw [List.drop_eq_nil_of_le (by have := hn.out; omega), List.drop_eq_nil_of_le (by have := hn.out; omega)]
      have k1 : ¬ (F : Int) ≤ (j : Int) - 1 := by omega
      replace hfin := Lib.hid hfin
      replace hFj := Lib.hid hFj
      go_wp2_with fail
      go_ret
      exact ⟨by rw [← hfin.out]; rfl, rfl⟩

/-- What Div's rounds keep: the digits from i on are the quotient's, r is what is left. -/
structure DivS (a b : Nat) (A X : List Nat) (i r : Nat) : Prop where
  lt : ∀ d ∈ X, d < 10000
  zero : ∀ (k : Nat) (h : k < X.length), k < i → X[k] = 0
  eq : tv X * b + 10000 ^ i * r + tv (A.take i) = a
  rem : r < b
theorem DivS.step {a b i r : Nat} {A X : List Nat} (h : DivS a b A X (i + 1) r) (hA : ∀ d ∈ A, d < 10000) (hi : i < X.length) {y : Nat} (hy : y = dg A i + 10000 * r) :
    y / b ≤ 9999 ∧ DivS a b A (X.set i (y / b)) i (y - b * (y / b)) := by
  have hb : 0 < b := Nat.lt_of_le_of_lt (Nat.zero_le _) h.rem
  have hx := dg_lt hA i
  have hr := h.rem
  have hq : y / b ≤ 9999 := by
    have h1 : y < 10000 * b := by
      have : 10000 * (r + 1) ≤ 10000 * b := Nat.mul_le_mul_left _ hr
      omega
    have := (Nat.div_lt_iff_lt_mul hb).2 h1
    omega
  have e := tv_set0 hi (h.zero i hi (by omega)) (y / b)
  have hm := Nat.div_add_mod y b
  have hml := Nat.mod_lt y hb
  refine ⟨hq, fun x hx => ?_, fun k hk hki => ?_, ?_, by omega⟩
  · rcases List.mem_or_eq_of_mem_set hx with hx | hx
    · exact h.lt x hx
    · omega
  · rw [List.getElem_set_ne (by omega)]
    exact h.zero k (by rw [List.length_set] at hk; exact hk) (by omega)
  · have e0 := h.eq
    rw [tv_take, Nat.pow_succ] at e0
    rw [e, Nat.add_mul]
    have e1 : 10000 ^ i * (y / b) * b + 10000 ^ i * (y - b * (y / b)) = 10000 ^ i * dg A i + 10000 ^ i * 10000 * r := by
      rw [Nat.mul_assoc, Nat.mul_assoc, ← Nat.mul_add, ← Nat.mul_add, Nat.mul_comm (y / b) b, show b * (y / b) + (y - b * (y / b)) = y by omega, hy]
    generalize tv X * b = p1 at *
    generalize 10000 ^ i * (y / b) * b = p2 at *
    generalize 10000 ^ i * (y - b * (y / b)) = p3 at *
    generalize 10000 ^ i * dg A i = p4 at *
    generalize 10000 ^ i * 10000 * r = p5 at *
    omega
theorem DivS.done {a b r : Nat} {A X : List Nat} (h : DivS a b A X 0 r) : tv X = a / b ∧ r = a % b := by
  have e := h.eq
  rw [Nat.pow_zero, Nat.one_mul, List.take_zero, tv_nil, Nat.add_zero, Nat.mul_comm] at e
  have hb : 0 < b := Nat.lt_of_le_of_lt (Nat.zero_le _) h.rem
  rw [← e]
  exact ⟨by rw [Nat.mul_add_div hb, Nat.div_eq_of_lt h.rem, Nat.add_zero], by rw [Nat.mul_add_mod, Nat.mod_eq_of_lt h.rem]⟩
theorem DivS.start {a b : Nat} (hab : b ≤ a) (hb : 0 < b) : ∃ i, i + (td b).length = (td a).length + 1 ∧ DivS a b (td a) (List.replicate i 0) i (tv ((td a).drop i)) := by
  have hlen := td_mono hab
  have hbl : 0 < (td b).length := by
    rcases Nat.eq_zero_or_pos (td b).length with h | h
    · have := td_nil.1 (List.eq_nil_of_length_eq_zero h); omega
    · exact h
  refine ⟨(td a).length + 1 - (td b).length, by omega, fun d hd => by rw [(List.mem_replicate.1 hd).2]; omega, fun k h _ => by simp, ?_, ?_⟩
  · rw [tv_zeros, Nat.zero_mul, Nat.zero_add]
    have := tv_append ((td a).take ((td a).length + 1 - (td b).length)) ((td a).drop ((td a).length + 1 - (td b).length))
    rw [List.take_append_drop, tv_td, List.length_take, Nat.min_eq_left (by omega)] at this
    omega
  · rw [td_drop, tv_td]
    refine Nat.lt_of_not_le fun h => ?_
    have h1 : (td (a / 10000 ^ ((td a).length + 1 - (td b).length))).length = (td b).length - 1 := by
      rw [← td_drop, List.length_drop]; omega
    have := td_mono h
    omega
/-- The bounds that the leading digits give. -/
theorem lead_low {b y F t : Nat} (ht : t = b / 10000 ^ F) : y / 10000 ^ F / (t + 1) * b ≤ y := by
  have hp : 0 < 10000 ^ F := Nat.pow_pos (by omega)
  have h1 : b < 10000 ^ F * (t + 1) := by
    have := Nat.lt_mul_div_succ b hp
    rwa [← ht] at this
  have h2 : y / 10000 ^ F / (t + 1) * b ≤ y / 10000 ^ F / (t + 1) * (10000 ^ F * (t + 1)) := Nat.mul_le_mul_left _ (Nat.le_of_lt h1)
  have h3 : y / 10000 ^ F / (t + 1) * (t + 1) ≤ y / 10000 ^ F := Nat.div_mul_le_self _ _
  have h4 : y / 10000 ^ F * 10000 ^ F ≤ y := Nat.div_mul_le_self _ _
  have h5 : y / 10000 ^ F / (t + 1) * (10000 ^ F * (t + 1)) = (y / 10000 ^ F / (t + 1) * (t + 1)) * 10000 ^ F := by
    rw [Nat.mul_comm (10000 ^ F), Nat.mul_assoc]
  have h6 : (y / 10000 ^ F / (t + 1) * (t + 1)) * 10000 ^ F ≤ y / 10000 ^ F * 10000 ^ F := Nat.mul_le_mul_right _ h3
  omega
theorem lead_high {b y F t : Nat} (ht : t = b / 10000 ^ F) (ht0 : 0 < t) : y / b ≤ y / 10000 ^ F / t := by
  rw [Nat.div_div_eq_div_mul]
  have h1 : 10000 ^ F * t ≤ b := by rw [ht]; exact Nat.mul_div_le _ _
  exact Nat.div_le_div_left h1 (Nat.mul_pos (Nat.pow_pos (by omega)) ht0)
end Go.Proofs.YtgmmfaclchoigaaDoor.Rx
