/-
  Layer 1: decimal forms, as mathematics.
-/
import Derived.Lib.ItoaNum
set_option linter.unusedVariables false
set_option linter.unusedSimpArgs false
namespace Go.Proofs.YthehcjfmokabfaaDoor
open Go.Lib (decDigits nDigits)

theorem snoc_ind {α : Type} {p : List α → Prop} (l : List α) (nil : p []) (append_singleton : ∀ m c, p m → p (m ++ [c])) : p l := by
  have h : ∀ r : List α, p r.reverse := by
    intro r
    induction r with
    | nil => exact nil
    | cons c r ih => rw [List.reverse_cons]; exact append_singleton _ _ ih
  have := h l.reverse
  rwa [List.reverse_reverse] at this
theorem head_snoc {α : Type} {m : List α} (l : List α) (h : m ≠ []) : (m ++ l).head? = m.head? := by
  cases m with
  | nil => exact absurd rfl h
  | cons c m => rfl

/-- The byte of a decimal digit. -/
def dch (d : Nat) : UInt8 := UInt8.ofNat (48 + d)
theorem dch_toNat {d : Nat} (h : d < 10) : (dch d).toNat = 48 + d := by
  unfold dch; rw [UInt8.toNat_ofNat']; omega

theorem dec_small {u : Nat} (h : u < 10) : decDigits u = [dch u] := by rw [decDigits, dif_pos h]; rfl
theorem dec_big {u : Nat} (h : ¬ u < 10) : decDigits u = decDigits (u / 10) ++ [dch (u % 10)] := by rw [decDigits, dif_neg h]; rfl

/-- k decimal digits of r, with leading zeros. -/
def pad : Nat → Nat → List UInt8
  | 0, _ => []
  | k + 1, r => pad k (r / 10) ++ [dch (r % 10)]

theorem pad_length : ∀ k r, (pad k r).length = k
  | 0, _ => rfl
  | k + 1, r => by rw [pad, List.length_append, pad_length k]; rfl

theorem dec_mul_add : ∀ (k q r : Nat), 0 < q → r < 10 ^ k → decDigits (q * 10 ^ k + r) = decDigits q ++ pad k r
  | 0, q, r, _, hr => by
    rw [Nat.pow_zero] at hr
    rw [pad, List.append_nil, show r = 0 by omega, Nat.pow_zero, Nat.mul_one, Nat.add_zero]
  | k + 1, q, r, hq, hr => by
    rw [Nat.pow_succ] at hr ⊢
    have h1 : 1 ≤ 10 ^ k := Nat.one_le_pow _ _ (by omega)
    have h2 : q * (10 ^ k * 10) = (q * 10 ^ k) * 10 := by rw [Nat.mul_assoc]
    rw [h2]
    have h3 : 1 ≤ q * 10 ^ k := Nat.mul_pos hq h1
    have h4 := dec_mul_add k q (r / 10) hq (by omega)
    generalize q * 10 ^ k = x at *
    rw [dec_big (by omega), show (x * 10 + r) / 10 = x + r / 10 by omega, show (x * 10 + r) % 10 = r % 10 by omega, h4, pad, List.append_assoc]

theorem pad_zero : ∀ k, pad k 0 = List.replicate k 48
  | 0 => rfl
  | k + 1 => by
    rw [pad, show 0 / 10 = 0 from rfl, pad_zero k]
    show List.replicate k 48 ++ [48] = _
    rw [← List.replicate_succ']

theorem pad_eq : ∀ (k r : Nat), 0 < k → r < 10 ^ k → pad k r = List.replicate (k - (decDigits r).length) 48 ++ decDigits r ∧ (decDigits r).length ≤ k
  | k + 1, r, _, hr => by
    rcases Nat.lt_or_ge r 10 with h | h
    · rw [pad, show r / 10 = 0 by omega, show r % 10 = r by omega, pad_zero, dec_small h]
      exact ⟨rfl, by show 1 ≤ k + 1; omega⟩
    · have hk : 0 < k := by
        rcases Nat.eq_zero_or_pos k with rfl | h'
        · rw [Nat.pow_succ, Nat.pow_zero] at hr; omega
        · exact h'
      rw [Nat.pow_succ] at hr
      obtain ⟨h1, h2⟩ := pad_eq k (r / 10) hk (by omega)
      rw [pad, h1, dec_big (by omega : ¬ r < 10), List.length_append, List.append_assoc]
      refine ⟨?_, by show _ + 1 ≤ k + 1; omega⟩
      congr 2
      show _ = k + 1 - (_ + 1)
      omega

theorem dec_length_pos (n : Nat) : 0 < (decDigits n).length := by
  rcases Nat.lt_or_ge n 10 with h | h
  · rw [dec_small h]; exact Nat.one_pos
  · rw [dec_big (by omega), List.length_append]; exact Nat.lt_of_lt_of_le Nat.one_pos (Nat.le_add_left 1 _)
theorem dec_ne_nil (n : Nat) : decDigits n ≠ [] := fun h => by have := dec_length_pos n; rw [h] at this; exact absurd this (by simp)
theorem dec_length_lt {n k : Nat} (hk : 0 < k) : (decDigits n).length ≤ k ↔ n < 10 ^ k := by
  induction k generalizing n with
  | zero => omega
  | succ k ih =>
    rcases Nat.lt_or_ge n 10 with h | h
    · rw [dec_small h]
      have : 10 ≤ 10 ^ (k + 1) := by rw [Nat.pow_succ]; have := Nat.one_le_pow k 10 (by omega); omega
      exact ⟨fun _ => by omega, fun _ => by show 1 ≤ k + 1; omega⟩
    · rw [dec_big (by omega), List.length_append, Nat.pow_succ]
      rcases Nat.eq_zero_or_pos k with rfl | h'
      · have := dec_length_pos (n / 10)
        rw [Nat.pow_zero]
        constructor
        · intro h1
          have h2 : (decDigits (n / 10)).length + 1 ≤ 0 + 1 := h1
          omega
        · intro h1; omega
      · have := ih (n := n / 10) h'
        constructor
        · intro h1
          have h2 : (decDigits (n / 10)).length + 1 ≤ k + 1 := h1
          have := this.1 (by omega)
          omega
        · intro h1
          have := this.2 (by omega)
          show _ + 1 ≤ k + 1
          omega

/-- The number that decimal digits spell. -/
def dval (l : List UInt8) : Nat := l.foldl (fun n c => n * 10 + (c.toNat - 48)) 0
theorem dval_nil : dval [] = 0 := rfl
theorem dval_snoc (l : List UInt8) (c : UInt8) : dval (l ++ [c]) = dval l * 10 + (c.toNat - 48) := by
  unfold dval; rw [List.foldl_append]; rfl
theorem dval_append (l m : List UInt8) : dval (l ++ m) = dval l * 10 ^ m.length + dval m := by
  induction m using snoc_ind with
  | nil => simp [dval_nil]
  | append_singleton m c ih =>
    rw [← List.append_assoc, dval_snoc, ih, dval_snoc, List.length_append, show [c].length = 1 from rfl, Nat.pow_succ, Nat.add_mul, Nat.mul_assoc]
    omega

def isDig (c : UInt8) : Prop := 48 ≤ c.toNat ∧ c.toNat ≤ 57

theorem dval_lt {l : List UInt8} (h : ∀ c ∈ l, isDig c) : dval l < 10 ^ l.length := by
  induction l using snoc_ind with
  | nil => exact Nat.one_pos
  | append_singleton m c ih =>
    have h1 := ih fun x hx => h x (List.mem_append_left _ hx)
    have h2 := h c (List.mem_append_right _ (List.mem_singleton.2 rfl))
    unfold isDig at h2
    rw [dval_snoc, List.length_append, show [c].length = 1 from rfl, Nat.pow_succ]
    omega

theorem dval_dec (n : Nat) : dval (decDigits n) = n := by
  induction n using Nat.strongRecOn with
  | _ n ih =>
    rcases Nat.lt_or_ge n 10 with h | h
    · rw [dec_small h]
      show 0 * 10 + ((dch n).toNat - 48) = n
      rw [dch_toNat h]; omega
    · rw [dec_big (by omega), dval_snoc, ih (n / 10) (by omega), dch_toNat (by omega)]; omega

theorem dec_isDig (n : Nat) : ∀ c ∈ decDigits n, isDig c := by
  induction n using Nat.strongRecOn with
  | _ n ih =>
    rcases Nat.lt_or_ge n 10 with h | h
    · rw [dec_small h]
      intro c hc
      rw [List.mem_singleton.1 hc]
      unfold isDig; rw [dch_toNat h]; omega
    · rw [dec_big (by omega)]
      intro c hc
      rcases List.mem_append.1 hc with hc | hc
      · exact ih (n / 10) (by omega) c hc
      · rw [List.mem_singleton.1 hc]
        unfold isDig; rw [dch_toNat (by omega)]; omega

/-- What a decimal form is. -/
def isDec (l : List UInt8) : Prop := (∀ c ∈ l, isDig c) ∧ (l = [48] ∨ l ≠ [] ∧ l.head? ≠ some 48)

theorem dec_isDec (n : Nat) : isDec (decDigits n) := by
  refine ⟨dec_isDig n, ?_⟩
  rcases Nat.eq_zero_or_pos n with h0 | h0
  · left; rw [h0, dec_small (by omega)]; rfl
  · right
    refine ⟨dec_ne_nil n, ?_⟩
    induction n using Nat.strongRecOn with
    | _ n ih =>
      rcases Nat.lt_or_ge n 10 with h | h
      · rw [dec_small h]
        show some (dch n) ≠ some 48
        intro he
        have h1 := congrArg UInt8.toNat (Option.some.inj he)
        rw [dch_toNat h] at h1
        have h2 : (48 : UInt8).toNat = 48 := rfl
        omega
      · rw [dec_big (by omega), head_snoc _ (dec_ne_nil _)]
        exact ih (n / 10) (by omega) (by omega)

theorem dch_of {c : UInt8} (h : isDig c) : dch (c.toNat - 48) = c := by
  unfold isDig at h
  apply UInt8.toNat_inj.1
  rw [dch_toNat (by omega)]; omega

theorem dval_pos {l : List UInt8} (h : ∀ c ∈ l, isDig c) (h0 : l ≠ []) (h1 : l.head? ≠ some 48) : 0 < dval l := by
  induction l using snoc_ind with
  | nil => exact absurd rfl h0
  | append_singleton m c ih =>
    rw [dval_snoc]
    by_cases hm : m = []
    · subst hm
      have h2 : c ≠ 48 := fun e => h1 (by rw [e]; rfl)
      have h3 := h c (by simp)
      unfold isDig at h3
      have h4 : c.toNat ≠ 48 := fun e => h2 (UInt8.toNat_inj.1 (by rw [e]; rfl))
      omega
    · rw [head_snoc _ hm] at h1
      have := ih (fun x hx => h x (List.mem_append_left _ hx)) hm h1
      omega

theorem dec_dval {l : List UInt8} (h : isDec l) : decDigits (dval l) = l := by
  obtain ⟨h1, h2⟩ := h
  rcases h2 with rfl | ⟨h2, h3⟩
  · show decDigits 0 = _
    rw [dec_small (by omega)]; rfl
  · induction l using snoc_ind with
    | nil => exact absurd rfl h2
    | append_singleton m c ih =>
      have hc := h1 c (List.mem_append_right _ (List.mem_singleton.2 rfl))
      have hd : c.toNat - 48 < 10 := by unfold isDig at hc; omega
      rw [dval_snoc]
      by_cases hm : m = []
      · subst hm
        rw [dval_nil, show 0 * 10 + (c.toNat - 48) = c.toNat - 48 by omega, dec_small hd, dch_of hc]; rfl
      · have h3' := h3
        rw [head_snoc _ hm] at h3'
        have hm1 := fun x hx => h1 x (List.mem_append_left _ hx)
        have hp := dval_pos hm1 hm h3'
        rw [dec_big (by omega), show (dval m * 10 + (c.toNat - 48)) / 10 = dval m by omega, show (dval m * 10 + (c.toNat - 48)) % 10 = c.toNat - 48 by omega, ih hm1 hm h3', dch_of hc]

theorem dec_inj {a b : Nat} (h : decDigits a = decDigits b) : a = b := by rw [← dval_dec a, h, dval_dec]

/-- The base of the decimal chunks. -/
def CB : Nat := 10000000000000000000
theorem CB_pow : CB = 10 ^ 19 := by unfold CB; rfl
theorem CB_pos : 0 < CB := by unfold CB; omega
theorem CB_gt : 1 < CB := by unfold CB; omega

theorem chunk_split (a k : Nat) : a / CB ^ k = a / CB ^ (k + 1) * CB + a / CB ^ k % CB := by
  rw [Nat.pow_succ, ← Nat.div_div_eq_div_mul]
  have := Nat.div_add_mod (a / CB ^ k) CB
  rw [Nat.mul_comm] at this
  exact this.symm

/-- One chunk more of the decimal form. -/
theorem chunk_dec (a k : Nat) (h : 0 < a / CB ^ (k + 1)) :
    decDigits (a / CB ^ k) = decDigits (a / CB ^ (k + 1)) ++ (List.replicate (19 - (decDigits (a / CB ^ k % CB)).length) 48 ++ decDigits (a / CB ^ k % CB))
      ∧ (decDigits (a / CB ^ k % CB)).length ≤ 19 := by
  have h1 : a / CB ^ k % CB < 10 ^ 19 := by rw [← CB_pow]; exact Nat.mod_lt _ CB_pos
  obtain ⟨h2, h3⟩ := pad_eq 19 (a / CB ^ k % CB) (by omega) h1
  refine ⟨?_, h3⟩
  rw [← h2, ← dec_mul_add 19 _ _ h h1, ← CB_pow, ← chunk_split]

/-- The first number of chunks that leaves nothing. -/
theorem chunk_top (a : Nat) (h : 0 < a) : ∃ k, 0 < a / CB ^ k ∧ a / CB ^ (k + 1) = 0 := by
  have h0 : ∃ n, a / CB ^ n = 0 := ⟨a, Nat.div_eq_of_lt (Nat.lt_pow_self CB_gt)⟩
  have key : ∀ n, a / CB ^ n = 0 → ∃ k, 0 < a / CB ^ k ∧ a / CB ^ (k + 1) = 0 := by
    intro n
    induction n with
    | zero => intro hn; rw [Nat.pow_zero, Nat.div_one] at hn; omega
    | succ n ih =>
      intro hn
      rcases Nat.eq_zero_or_pos (a / CB ^ n) with h1 | h1
      · exact ih h1
      · exact ⟨n, h1, hn⟩
  obtain ⟨n, hn⟩ := h0
  exact key n hn
end Go.Proofs.YthehcjfmokabfaaDoor
