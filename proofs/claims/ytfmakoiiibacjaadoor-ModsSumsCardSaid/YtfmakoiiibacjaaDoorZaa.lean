/-
  The law answers true at every input, and leaves its arguments as they were: a part of the proof. CONDITIONS: the package-level tables start as the program's text lays them (the card ties them).
-/
import Derived.Test.YtfmakoiiibacjaaDoorProg
import Derived.Below
import Derived.WalkKit
import Derived.Lib.Hide
import Derived.RegionTactic
import Derived.Deep.Cut
import Derived.Shelf.Small.Bits
import Derived.Shelf.Small.Wraps
import Derived.Shelf.Strconv.Itoa0
import Derived.Shelf.Bits.Mul64
import Derived.Ground.Names2Prog
import Derived.Ground.Names7Prog
import Derived.Shelf.Spec.TrailingZeros
import Derived.Shelf.Slices.SearchI
import Derived.Lib.LaidTab
import Derived.WalkMore
import Derived.Deep.LoopGhost
import Derived.KernelRfl
import Derived.Deep.QuietTactic
import Derived.BigQuiet
import Derived.WalkSpells
import Derived.Lib.EndianBits
import Derived.Lib.Strings
import Derived.WalkLawsBesides
import Derived.Shelf.Spec.BitsCarry
import Derived.Deep.RegionHeld3
import Derived.Deep.RegionWith
import Derived.Deep.DeepMust
import Derived.Laws.CopyOwn
import Derived.BigRegion
import Derived.Deep.CutBlock
import Derived.BigGuard
import Derived.Lib.ItoaNum
import Derived.Lib.ItoaMem
import Derived.Lib.FrozenHead2
import Derived.Lib.OthersKept
import Derived.Deep.AppendLies
import Derived.Laws.Rows
import Derived.Deep.Quiet
import Derived.ChangeAlike
import Derived.Still
import Derived.ChangeSlices
import Derived.OpenShut
import Derived.Carry
import Derived.Lay
import Derived.MakeChecks
import Derived.LaidSub
import Derived.Deep.DeepHandedRow
import Derived.ChangeMaps5
import Derived.Test.YtfmakoiiibacjaaDoorRows
set_option linter.unusedVariables false
set_option linter.unusedSimpArgs false
namespace Go.Proofs.YtfmakoiiibacjaaDoor
/-- the base of the digits -/
def Bs : Nat := 18446744073709551616
theorem Bs_pos : 0 < Bs := by unfold Bs; omega
theorem Bs_gt : 1 < Bs := by unfold Bs; omega
theorem Bs_pow : Bs = 2 ^ 64 := by unfold Bs; rfl
/-- the number that a list of digits spells, the lowest first -/
def val : List Nat → Nat
 | [] => 0
 | d :: ds => d + Bs * val ds
/-- digits -/
def Dig (l : List Nat) : Prop := ∀ d ∈ l, d < Bs
theorem Dig.nil : Dig [] := fun _ h => by cases h
theorem Dig.cons {d : Nat} {l : List Nat} (h : d < Bs) (hl : Dig l) : Dig (d :: l) := fun x hx => by
 cases hx with
 | head => exact h
 | tail _ hx => exact hl x hx
theorem Dig.head {d : Nat} {l : List Nat} (h : Dig (d :: l)) : d < Bs := h d (.head _)
theorem Dig.tail {d : Nat} {l : List Nat} (h : Dig (d :: l)) : Dig l := fun x hx => h x (.tail _ hx)
theorem Dig.app {a b : List Nat} (ha : Dig a) (hb : Dig b) : Dig (a ++ b) := fun x hx => by
 rcases List.mem_append.1 hx with h | h
 ·exact ha x h
 ·exact hb x h
theorem Dig.left {a b : List Nat} (h : Dig (a ++ b)) : Dig a := fun x hx => h x (List.mem_append.2 (.inl hx))
theorem Dig.right {a b : List Nat} (h : Dig (a ++ b)) : Dig b := fun x hx => h x (List.mem_append.2 (.inr hx))
theorem Dig.take {l : List Nat} (h : Dig l) (n : Nat) : Dig (l.take n) := fun x hx => h x (List.mem_of_mem_take hx)
theorem Dig.drop {l : List Nat} (h : Dig l) (n : Nat) : Dig (l.drop n) := fun x hx => h x (List.mem_of_mem_drop hx)
theorem Dig.get {l : List Nat} (h : Dig l) (i : Nat) (hi : i < l.length) : l[i] < Bs := h _ (List.getElem_mem hi)
theorem Dig.zeros (n : Nat) : Dig (List.replicate n 0) := fun x hx => by rw [(List.mem_replicate.1 hx).2]; exact Bs_pos
theorem Dig.set {l : List Nat} (h : Dig l) (i : Nat) {d : Nat} (hd : d < Bs) : Dig (l.set i d) := fun x hx => by
 rcases List.mem_or_eq_of_mem_set hx with h1 | h1
 ·exact h x h1
 ·rw [h1]; exact hd
theorem val_nil : val [] = 0 := rfl
theorem val_cons (d : Nat) (l : List Nat) : val (d :: l) = d + Bs * val l := rfl
theorem val_append (a b : List Nat) : val (a ++ b) = val a + Bs ^ a.length * val b := by
 induction a with
 | nil => simp [val]
 | cons d a ih => simp [val, ih, Nat.mul_add, Nat.pow_succ, Nat.add_assoc, Nat.mul_assoc, Nat.mul_comm]
theorem val_zeros (n : Nat) : val (List.replicate n 0) = 0 := by
 induction n with
 | zero => rfl
 | succ n ih => simp [List.replicate_succ, val, ih]
theorem val_lt {l : List Nat} (h : Dig l) : val l < Bs ^ l.length := by
 induction l with
 | nil => simp [val]
 | cons d l ih =>
  have h1 := ih h.tail
  have h2 := h.head
  simp only [val, List.length_cons, Nat.pow_succ]
  have : Bs * val l + Bs ≤ Bs ^ l.length * Bs := by
   rw [← Nat.mul_succ, Nat.mul_comm]; exact Nat.mul_le_mul_right _ h1
  omega
theorem val_snoc (l : List Nat) (d : Nat) : val (l ++ [d]) = val l + Bs ^ l.length * d := by rw [val_append]; simp [val]
/-- the digits of a number -/
def digs (n : Nat) : List Nat := if h : n = 0 then [] else (n % Bs) :: digs (n / Bs)
termination_by n
decreasing_by exact Nat.div_lt_self (by omega) Bs_gt
theorem digs_zero : digs 0 = [] := by rw [digs]; simp
theorem digs_pos {n : Nat} (h : n ≠ 0) : digs n = (n % Bs) :: digs (n / Bs) := by rw [digs]; simp [h]
theorem val_digs (n : Nat) : val (digs n) = n := by
 induction n using Nat.strongRecOn with
 | ind n ih =>
  by_cases h : n = 0
  ·subst h; rw [digs_zero]; rfl
  ·rw [digs_pos h, val, ih _ (Nat.div_lt_self (by omega) Bs_gt)]; exact Nat.mod_add_div n Bs
theorem digs_dig (n : Nat) : Dig (digs n) := by
 induction n using Nat.strongRecOn with
 | ind n ih =>
  by_cases h : n = 0
  ·subst h; rw [digs_zero]; exact Dig.nil
  ·rw [digs_pos h]; exact Dig.cons (Nat.mod_lt _ Bs_pos) (ih _ (Nat.div_lt_self (by omega) Bs_gt))
theorem digs_eq_nil {n : Nat} : digs n = [] ↔ n = 0 := by
 constructor
 ·intro h
  by_cases h0 : n = 0
  ·exact h0
  ·rw [digs_pos h0] at h; cases h
 ·rintro rfl; exact digs_zero
/-- no zero at the high end -/
def Top (l : List Nat) : Prop := ∀ h : l ≠ [], l.getLast h ≠ 0
theorem top_nil : Top [] := fun h => absurd rfl h
theorem top_cons {d e : Nat} {l : List Nat} : Top (d :: e :: l) ↔ Top (e :: l) := by
 constructor
 ·intro h hn; simpa using h (by simp)
 ·intro h hn; simpa using h (by simp)
theorem top_digs (n : Nat) : Top (digs n) := by
 induction n using Nat.strongRecOn with
 | ind n ih =>
  by_cases h : n = 0
  ·subst h; rw [digs_zero]; exact top_nil
  ·have h1 := ih (n / Bs) (Nat.div_lt_self (by omega) Bs_gt)
   rw [digs_pos h]
   by_cases h2 : n / Bs = 0
   ·rw [h2, digs_zero]
    intro hn
    have := Nat.mod_add_div n Bs
    rw [h2] at this
    simp at this ⊢
    omega
   ·rw [digs_pos h2] at h1 ⊢
    exact top_cons.2 h1
theorem digs_val {l : List Nat} (hd : Dig l) (ht : Top l) : digs (val l) = l := by
 induction l with
 | nil => exact digs_zero
 | cons d l ih =>
  have ht' : Top l := by
   cases l with
   | nil => exact top_nil
   | cons e l => exact top_cons.1 ht
  have h1 := ih hd.tail ht'
  have h2 := hd.head
  have hne : val (d :: l) ≠ 0 := by
   cases l with
   | nil =>
    have := ht (by simp)
    simp at this
    simp [val]; exact this
   | cons e l =>
    intro h0
    rw [val] at h0
    have : val (e :: l) = 0 := by
     rcases Nat.eq_zero_or_pos (val (e :: l)) with h | h
     ·exact h
     ·have := Nat.mul_pos Bs_pos h; omega
    rw [this, digs_zero] at h1
    cases h1
  rw [digs_pos hne]
  have e1 : val (d :: l) % Bs = d := by rw [val, Nat.add_mul_mod_self_left, Nat.mod_eq_of_lt h2]
  have e2 : val (d :: l) / Bs = val l := by rw [val, Nat.add_mul_div_left _ _ Bs_pos, Nat.div_eq_of_lt h2, Nat.zero_add]
  rw [e1, e2, h1]
theorem norm (l : List Nat) (hd : Dig l) : ∃ z, l = digs (val l) ++ List.replicate z 0 := by
 generalize hk : l.length = k
 induction k generalizing l with
 | zero => have := List.eq_nil_of_length_eq_zero hk; subst this; exact ⟨0, by simp [val, digs_zero]⟩
 | succ k ih =>
  have hne : l ≠ [] := fun h => by rw [h] at hk; cases hk
  have hl : l = l.dropLast ++ [l.getLast hne] := (List.dropLast_concat_getLast hne).symm
  by_cases h0 : l.getLast hne = 0
  ·rw [h0] at hl
   have hd' : Dig l.dropLast := fun x hx => hd x (List.dropLast_subset l hx)
   obtain ⟨z, hz⟩ := ih l.dropLast hd' (by rw [List.length_dropLast]; omega)
   have hv : val l = val l.dropLast := by rw [hl, val_snoc]; simp
   refine ⟨z + 1, ?_⟩
   rw [hv, List.replicate_succ', ← List.append_assoc, ← hz]; exact hl
  ·exact ⟨0, by rw [digs_val hd (fun _ => h0)]; simp⟩
theorem digs_length_le {n k : Nat} (h : n < Bs ^ k) : (digs n).length ≤ k := by
 induction k generalizing n with
 | zero => simp at h; subst h; rw [digs_zero]; simp
 | succ k ih =>
  by_cases h0 : n = 0
  ·subst h0; rw [digs_zero]; simp
  ·rw [digs_pos h0, List.length_cons]
   have : n / Bs < Bs ^ k := by rw [Nat.div_lt_iff_lt_mul Bs_pos]; rw [Nat.pow_succ] at h; exact h
   have := ih this; omega
theorem lt_pow_digs (n : Nat) : n < Bs ^ (digs n).length := by
 have := val_lt (digs_dig n); rwa [val_digs] at this
theorem pow_le_of_digs {n : Nat} (h : n ≠ 0) : Bs ^ ((digs n).length - 1) ≤ n := by
 induction n using Nat.strongRecOn with
 | ind n ih =>
  rw [digs_pos h]
  simp only [List.length_cons, Nat.add_sub_cancel]
  by_cases h2 : n / Bs = 0
  ·rw [h2, digs_zero]; simp; omega
  ·have h1 := ih (n / Bs) (Nat.div_lt_self (by omega) Bs_gt) h2
   have hl : (digs (n / Bs)).length = ((digs (n / Bs)).length - 1) + 1 := by
    have : (digs (n/Bs)).length ≠ 0 := by
     intro e; exact h2 (digs_eq_nil.1 (List.eq_nil_of_length_eq_zero e))
    omega
   rw [hl, Nat.pow_succ]
   exact (Nat.le_div_iff_mul_le Bs_pos).1 h1
/-- a number has at most k digits if it is below Bs^k, and only then -/
theorem digs_length_iff {n k : Nat} : (digs n).length ≤ k ↔ n < Bs ^ k :=
 ⟨fun h => Nat.lt_of_lt_of_le (lt_pow_digs n) (Nat.pow_le_pow_right Bs_pos h), digs_length_le⟩
/-- the number that bytes spell, the greatest first -/
def bval : List UInt8 → Nat
 | [] => 0
 | b :: r => b.toNat * 256 ^ r.length + bval r
theorem bval_append (a b : List UInt8) : bval (a ++ b) = bval a * 256 ^ b.length + bval b := by
 induction a with
 | nil => simp [bval]
 | cons x a ih => simp [bval, ih, Nat.add_mul, Nat.pow_add, Nat.mul_assoc, Nat.add_assoc]
theorem bval_lt (l : List UInt8) : bval l < 256 ^ l.length := by
 induction l with
 | nil => simp [bval]
 | cons b r ih =>
  have hb : b.toNat < 256 := b.toNat_lt
  simp only [bval, List.length_cons, Nat.pow_succ]
  have : b.toNat * 256 ^ r.length + 256 ^ r.length ≤ 256 ^ r.length * 256 := by
   rw [← Nat.succ_mul, Nat.mul_comm (256 ^ r.length)]; exact Nat.mul_le_mul_right _ hb
  omega
/-- the model's order on strings, at one length, is that of the numbers -/
def bless : List UInt8 → List UInt8 → Bool
 | _, [] => false
 | [], _ :: _ => true
 | a :: x, b :: y => a < b || (a == b && bless x y)
theorem bless_iff {a b : List UInt8} (hl : a.length = b.length) : bless a b = decide (bval a < bval b) := by
 induction a generalizing b with
 | nil =>
  have := (List.eq_nil_of_length_eq_zero hl.symm); subst this; simp [bless]
 | cons x a ih =>
  cases b with
  | nil => cases hl
  | cons y b =>
   have hl' : a.length = b.length := by simpa using hl
   have h1 := bval_lt a
   have h2 := bval_lt b
   rw [hl'] at h1
   simp only [bless, bval, hl', ih hl']
   have hm : ∀ p q : Nat, p < q → p * 256 ^ b.length + 256 ^ b.length ≤ q * 256 ^ b.length := fun p q h => by
    rw [← Nat.succ_mul]; exact Nat.mul_le_mul_right _ h
   rcases Nat.lt_trichotomy x.toNat y.toNat with h | h | h
   ·have := hm _ _ h
    have hx : x < y := UInt8.lt_iff_toNat_lt.2 h
    simp [hx]; omega
   ·have hxy : x = y := UInt8.toNat_inj.1 h
    subst hxy
    simp
   ·have := hm _ _ h
    have hx : ¬ x < y := fun hh => by have := UInt8.lt_iff_toNat_lt.1 hh; omega
    have hne : (x == y) = false := by simp; intro hh; subst hh; omega
    rw [hne]
    simp only [hx, decide_false, Bool.false_or, Bool.false_and]
    exact (decide_eq_false (by omega)).symm
/-- a digit's 8 bytes, the greatest first -/
def be8 (d : Nat) : List UInt8 :=
  [UInt8.ofNat (d / 72057594037927936 % 256), UInt8.ofNat (d / 281474976710656 % 256), UInt8.ofNat (d / 1099511627776 % 256), UInt8.ofNat (d / 4294967296 % 256),
   UInt8.ofNat (d / 16777216 % 256), UInt8.ofNat (d / 65536 % 256), UInt8.ofNat (d / 256 % 256), UInt8.ofNat (d % 256)]
theorem be8_length (d : Nat) : (be8 d).length = 8 := rfl
theorem ofNat_toNat8 (x : Nat) : (UInt8.ofNat (x % 256)).toNat = x % 256 := by simp [UInt8.toNat_ofNat']
theorem bval_be8 {d : Nat} (h : d < Bs) : bval (be8 d) = d := by
 unfold Bs at h
 simp only [be8, bval, ofNat_toNat8, List.length_cons, List.length_nil]
 omega
/-- the bytes of a number, 8 for each digit, the greatest first -/
def hiB (m : Nat) : List UInt8 := (digs m).reverse.flatMap be8
theorem flat_length (l : List Nat) : (l.flatMap be8).length = 8 * l.length := by
 induction l with
 | nil => rfl
 | cons d l ih => simp [ih, be8_length]; omega
theorem hiB_length (m : Nat) : (hiB m).length = 8 * (digs m).length := by rw [hiB, flat_length, List.length_reverse]
theorem bval_flat {l : List Nat} (h : Dig l) : bval (l.reverse.flatMap be8) = val l := by
 induction l with
 | nil => rfl
 | cons d l ih =>
  rw [List.reverse_cons, List.flatMap_append, bval_append, ih h.tail]
  simp only [List.flatMap_cons, List.flatMap_nil, List.append_nil, be8_length, bval_be8 h.head, val]
  rw [Nat.mul_comm, show (256 : Nat) ^ 8 = Bs from by unfold Bs; rfl]; omega
theorem bval_hiB (m : Nat) : bval (hiB m) = m := by rw [hiB, bval_flat (digs_dig m), val_digs]
theorem hiB_inj {a b : Nat} (h : hiB a = hiB b) : a = b := by rw [← bval_hiB a, ← bval_hiB b, h]
theorem hiB_zero : hiB 0 = [] := by rw [hiB, digs_zero]; rfl
theorem hiB_nil {m : Nat} : hiB m = [] ↔ m = 0 := ⟨fun h => hiB_inj (h.trans hiB_zero.symm), fun h => by rw [h]; exact hiB_zero⟩
theorem hiB_less {a b : Nat} (h : (digs a).length = (digs b).length) : bless (hiB a) (hiB b) = decide (a < b) := by
 rw [bless_iff (by rw [hiB_length, hiB_length, h]), bval_hiB, bval_hiB]
theorem lt_of_digs {a b : Nat} (h : (digs a).length < (digs b).length) : a < b := by
 have h1 := lt_pow_digs a
 have hb : b ≠ 0 := fun e => by rw [e, digs_zero] at h; simp at h
 have h2 := pow_le_of_digs hb
 have h3 : Bs ^ (digs a).length ≤ Bs ^ ((digs b).length - 1) := Nat.pow_le_pow_right Bs_pos (by omega)
 omega
/-- a piece of 8 bytes -/
theorem flat_piece (l : List Nat) (i : Nat) (h : i < l.length) : ((l.flatMap be8).drop (8 * i)).take 8 = be8 l[i] := by
 induction l generalizing i with
 | nil => cases h
 | cons d l ih =>
  rw [List.flatMap_cons]
  cases i with
  | zero => rw [Nat.mul_zero, List.drop_zero, List.take_append, List.take_of_length_le (by rw [be8_length]; omega)]; simp [be8_length]
  | succ i =>
   have e : 8 * (i + 1) = 8 * i + (be8 d).length := by rw [be8_length]; omega
   rw [e, Nat.add_comm, List.drop_append]
   simp only [Nat.add_sub_cancel_left]
   rw [List.drop_eq_nil_of_le (by omega), List.nil_append]
   simpa using ih i (by simpa using h)
/-- Knuth: the quotient of the highest digits is the quotient, or the quotient plus 1. -/
theorem knu_le {U V P Y M lu lv : Nat} (hU : U = P * M + lu) (hV : V = Y * M + lv) (hlu : lu < M) (hY : 0 < Y) : U / V ≤ P / Y := by
 have hM : 0 < M := by omega
 have hq := Nat.div_mul_le_self U V
 rw [Nat.le_div_iff_mul_le hY]
 have h1 : U / V * (Y * M) ≤ U := Nat.le_trans (Nat.mul_le_mul_left _ (by omega)) hq
 rw [← Nat.mul_assoc] at h1
 have h2 : U / V * Y * M < (P + 1) * M := by rw [Nat.succ_mul]; omega
 exact Nat.lt_succ_iff.1 (Nat.lt_of_mul_lt_mul_right h2)
theorem knu_ge {U V P Y M lu lv : Nat} (hU : U = P * M + lu) (hV : V = Y * M + lv) (hlv : lv < M) (hY : 0 < Y) (hq : U / V < Y) : P / Y ≤ U / V + 1 := by
 have hM : 0 < M := by omega
 have hVp : 0 < V := by have := Nat.mul_pos hY hM; omega
 have h1 : U < (U / V + 1) * V := by rw [Nat.mul_comm]; exact Nat.lt_mul_div_succ U hVp
 generalize U / V = q at *
 refine Nat.le_of_lt_succ ?_
 rw [Nat.div_lt_iff_lt_mul hY]
 have h2 : (q + 1) * V ≤ (q + 1) * ((Y + 1) * M) := Nat.mul_le_mul_left _ (by rw [Nat.succ_mul]; omega)
 have h3 : P * M < (q + 1) * (Y + 1) * M := by rw [Nat.mul_assoc]; omega
 have h4 := Nat.lt_of_mul_lt_mul_right h3
 have h5 : (q + 1) * (Y + 1) = (q + 1) * Y + (q + 1) := by rw [Nat.mul_succ]
 have h6 : (q + 1 + 1) * Y = (q + 1) * Y + Y := by rw [Nat.succ_mul]
 show P < (q + 1 + 1) * Y
 omega
/-- Knuth: where the highest digits agree the quotient is Bs - 1 or Bs - 2. -/
theorem knu_top {U V t N r s : Nat} (hU : U = t * (Bs * N) + r) (hV : V = t * N + s) (hs : s < N) (ht : Bs ≤ 2 * t) (hb : U < Bs * V) : U / V ≤ Bs - 1 ∧ Bs - 1 ≤ U / V + 1 := by
 have hN : 0 < N := by omega
 have hB := Bs_gt
 have hV0 : 0 < V := by
  rcases Nat.eq_zero_or_pos V with h | h
  ·rw [h] at hb; omega
  ·exact h
 refine ⟨Nat.le_sub_one_of_lt ((Nat.div_lt_iff_lt_mul hV0).2 hb), ?_⟩
 have : Bs - 2 ≤ U / V := by
  rw [Nat.le_div_iff_mul_le hV0]
  have h1 : (Bs - 2) * V ≤ (Bs - 2) * ((t + 1) * N) := Nat.mul_le_mul_left _ (by rw [Nat.succ_mul]; omega)
  have h2 : (Bs - 2) * (t + 1) ≤ t * Bs := by
   obtain ⟨c, hc⟩ : ∃ c, Bs = c + 2 := ⟨Bs - 2, by omega⟩
   rw [hc] at ht ⊢
   simp only [Nat.add_sub_cancel]
   rw [Nat.mul_succ, Nat.mul_add, Nat.mul_comm t c]; omega
  have h3 := Nat.mul_le_mul_right N h2
  rw [Nat.mul_assoc, Nat.mul_assoc] at h3
  omega
 omega
/-- the steps of the correction: digit * top + rest = p2 p1, and digit is not too small -/
theorem knu_step {P2 p0 t s d r : Nat} (hI : d * t + r = P2) (_hp : p0 < Bs) (_hs : s < Bs) (ht : 0 < t) (hge : (P2 * Bs + p0) / (t * Bs + s) ≤ d) (hbad : r * Bs + p0 < d * s) :
  0 < d ∧ (d - 1) * t + (r + t) = P2 ∧ (P2 * Bs + p0) / (t * Bs + s) ≤ d - 1 := by
 have hd : 0 < d := by
  rcases Nat.eq_zero_or_pos d with h | h
  ·rw [h] at hbad; omega
  ·exact h
 refine ⟨hd, ?_, ?_⟩
 ·obtain ⟨e, rfl⟩ : ∃ e, d = e + 1 := ⟨d - 1, by omega⟩
  rw [Nat.succ_mul] at hI; simp only [Nat.add_sub_cancel]; omega
 ·have hY : 0 < t * Bs + s := by have := Nat.mul_pos ht Bs_pos; omega
  refine Nat.le_sub_one_of_lt ((Nat.div_lt_iff_lt_mul hY).2 ?_)
  rw [← hI, Nat.add_mul, Nat.mul_add, Nat.mul_assoc]; omega
theorem knu_exit {P2 p0 t s d r : Nat} (hI : d * t + r = P2) (ht : 0 < t) (hge : (P2 * Bs + p0) / (t * Bs + s) ≤ d) (hok : d * s ≤ r * Bs + p0) :
  d = (P2 * Bs + p0) / (t * Bs + s) := by
 refine Nat.le_antisymm ?_ hge
 have hY : 0 < t * Bs + s := by have := Nat.mul_pos ht Bs_pos; omega
 rw [Nat.le_div_iff_mul_le hY, ← hI, Nat.add_mul, Nat.mul_add, Nat.mul_assoc]; omega
theorem knu_start {P2 p0 t s : Nat} (ht : 0 < t) (hp : p0 < Bs) : (P2 * Bs + p0) / (t * Bs + s) ≤ P2 / t := by
 have hY : 0 < t * Bs + s := by have := Nat.mul_pos ht Bs_pos; omega
 rw [Nat.le_div_iff_mul_le ht]
 have h1 := Nat.div_mul_le_self (P2 * Bs + p0) (t * Bs + s)
 generalize (P2 * Bs + p0) / (t * Bs + s) = q at *
 rw [Nat.mul_add, ← Nat.mul_assoc] at h1
 have h2 : q * t * Bs < (P2 + 1) * Bs := by rw [Nat.succ_mul]; omega
 exact Nat.lt_succ_iff.1 (Nat.lt_of_mul_lt_mul_right h2)
/-- The signs of the combinations: s = 1 after an even number of steps, s = -1 after an odd one. -/
structure Leh (p0 q0 : Int) (s A B C D p q : Int) : Prop where
 hs : s = 1 ∨ s = -1
 hp : p = A * p0 + B * q0
 hq : q = C * p0 + D * q0
 hA : 0 ≤ s * A
 hB : s * B ≤ 0
 hC : s * C ≤ 0
 hD : 0 ≤ s * D
 e1 : s * (D * p - B * q) = p0
 e2 : s * (A * q - C * p) = q0
 c1 : 0 < p + A
 c2 : 0 < p + B
 c3 : 0 ≤ q + C
 c4 : 0 ≤ q + D
theorem Leh.start {p0 q0 : Int} (hp : 0 < p0) (hq : 0 ≤ q0) : Leh p0 q0 1 1 0 0 1 p0 q0 :=
 ⟨.inl rfl, by omega, by omega, by omega, by omega, by omega, by omega, by omega, by omega, by omega, by omega, by omega, by omega⟩
theorem Leh.step {p0 q0 s A B C D p q k : Int} (h : Leh p0 q0 s A B C D p q) (hC : 0 < q + C) (hD : 0 < q + D) (k1 : k = (p + A) / (q + C)) (k2 : k = (p + B) / (q + D)) :
  Leh p0 q0 (-s) C D (A - k * C) (B - k * D) q (p - k * q) := by
 have hk : 0 ≤ k := by rw [k1]; exact Int.ediv_nonneg (by have := h.c1; omega) (by omega)
 have m1 : k * (q + C) ≤ p + A := by rw [k1]; exact Int.ediv_mul_le _ (by omega)
 have m2 : k * (q + D) ≤ p + B := by rw [k2]; exact Int.ediv_mul_le _ (by omega)
 rw [Int.mul_add] at m1 m2
 have n1 : 0 ≤ k * (s * D) := Int.mul_nonneg hk h.hD
 have n2 : 0 ≤ k * (s * -C) := Int.mul_nonneg hk (by have := h.hC; rw [Int.mul_neg]; omega)
 obtain ⟨hs, hp, hq, hA, hB, hC', hD', e1, e2, c1, c2, c3, c4⟩ := h
 have x1 : s * (k * D) = k * (s * D) := by rw [← Int.mul_assoc, ← Int.mul_assoc, Int.mul_comm s k]
 have x2 : s * (k * C) = -(k * (s * -C)) := by rw [Int.mul_neg, Int.mul_neg, ← Int.mul_assoc, ← Int.mul_assoc, Int.mul_comm s k, Int.neg_neg]
 refine ⟨by omega, hq, ?_, by rw [Int.neg_mul]; omega, by rw [Int.neg_mul]; omega, ?_, ?_, ?_, ?_, hC, hD, by omega, by omega⟩
 ·rw [hp, hq, Int.sub_mul, Int.sub_mul, Int.mul_add, Int.mul_assoc, Int.mul_assoc]; omega
 ·rw [Int.neg_mul, Int.mul_sub, x2]; omega
 ·rw [Int.neg_mul, Int.mul_sub, x1]; omega
 ·rw [← e1]
  have y1 : (B - k * D) * q = B * q - k * (D * q) := by rw [Int.sub_mul, Int.mul_assoc]
  have y2 : D * (p - k * q) = D * p - k * (D * q) := by rw [Int.mul_sub]; congr 1; rw [← Int.mul_assoc, ← Int.mul_assoc, Int.mul_comm D k]
  rw [y1, y2, Int.neg_mul, ← Int.mul_neg]; congr 1; omega
 ·rw [← e2]
  have y1 : (A - k * C) * q = A * q - k * (C * q) := by rw [Int.sub_mul, Int.mul_assoc]
  have y2 : C * (p - k * q) = C * p - k * (C * q) := by rw [Int.mul_sub]; congr 1; rw [← Int.mul_assoc, ← Int.mul_assoc, Int.mul_comm C k]
  rw [y1, y2, Int.neg_mul, ← Int.mul_neg]; congr 1; omega
/-- the quotient of the numbers themselves is the one that the highest digits tell -/
theorem Leh.true_ {p0 q0 s A B C D p q k T xl yl : Int} (h : Leh p0 q0 s A B C D p q) (hC : 0 < q + C) (hD : 0 < q + D) (k1 : k = (p + A) / (q + C)) (k2 : k = (p + B) / (q + D))
  (hx0 : 0 ≤ xl) (hx1 : xl ≤ T) (hy0 : 0 ≤ yl) (hy1 : yl ≤ T) (hT : 0 < T) :
  0 ≤ (p - k * q) * T + (A - k * C) * xl + (B - k * D) * yl ∧ (p - (k + 1) * q) * T + (A - (k + 1) * C) * xl + (B - (k + 1) * D) * yl < 0 := by
 have hk : 0 ≤ k := by rw [k1]; exact Int.ediv_nonneg (by have := h.c1; omega) (by omega)
 have m1 : k * (q + C) ≤ p + A := by rw [k1]; exact Int.ediv_mul_le _ (by omega)
 have m2 : k * (q + D) ≤ p + B := by rw [k2]; exact Int.ediv_mul_le _ (by omega)
 have m3 : p + A < (k + 1) * (q + C) := by rw [k1]; exact Int.lt_ediv_add_one_mul_self _ hC
 have m4 : p + B < (k + 1) * (q + D) := by rw [k2]; exact Int.lt_ediv_add_one_mul_self _ hD
 have st : ∀ j : Int, 0 ≤ j → 0 ≤ s * (A - j * C) ∧ s * (B - j * D) ≤ 0 := fun j hj => by
  have n1 : 0 ≤ j * (s * D) := Int.mul_nonneg hj h.hD
  have n2 : 0 ≤ j * (s * -C) := Int.mul_nonneg hj (by have := h.hC; rw [Int.mul_neg]; omega)
  have x1 : s * (j * D) = j * (s * D) := by rw [← Int.mul_assoc, ← Int.mul_assoc, Int.mul_comm s j]
  have x2 : s * (j * C) = -(j * (s * -C)) := by rw [Int.mul_neg, Int.mul_neg, ← Int.mul_assoc, ← Int.mul_assoc, Int.mul_comm s j, Int.neg_neg]
  have := h.hA; have := h.hB
  rw [Int.mul_sub, Int.mul_sub, x1, x2]; omega
 obtain ⟨s1, s2⟩ := st k hk
 obtain ⟨s3, s4⟩ := st (k + 1) (by omega)
 rw [Int.mul_add] at m1 m2 m3 m4
 generalize hU : A - k * C = u at *
 generalize hV : B - k * D = v at *
 generalize hU' : A - (k + 1) * C = u' at *
 generalize hV' : B - (k + 1) * D = v' at *
 generalize hR : p - k * q = r at *
 generalize hR' : p - (k + 1) * q = r' at *
 -- what the tests say
 have t1 : 0 ≤ r + u := by omega
 have t2 : 0 ≤ r + v := by omega
 have t3 : r' + u' < 0 := by omega
 have t4 : r' + v' < 0 := by omega
 have lo : ∀ a b : Int, 0 ≤ a → b ≤ 0 → 0 ≤ r + b → ∀ z w : Int, 0 ≤ z → w ≤ T → 0 ≤ w → 0 ≤ r * T + a * z + b * w := fun a b ha hb hrb z w hz hw hw0 => by
  have h1 : 0 ≤ a * z := Int.mul_nonneg ha hz
  have h2 : b * T ≤ b * w := Int.mul_le_mul_of_nonpos_left hb hw
  have h3 : 0 ≤ (r + b) * T := Int.mul_nonneg hrb (by omega)
  rw [Int.add_mul] at h3; omega
 have hi : ∀ a b : Int, 0 ≤ a → b ≤ 0 → r' + a < 0 → ∀ z w : Int, z ≤ T → 0 ≤ w → r' * T + a * z + b * w < 0 := fun a b ha hb hra z w hz hw => by
  have h1 : a * z ≤ a * T := Int.mul_le_mul_of_nonneg_left hz ha
  have h2 : b * w ≤ 0 := Int.mul_nonpos_of_nonpos_of_nonneg hb hw
  have h3 : (r' + a) * T < 0 := Int.mul_neg_of_neg_of_pos hra hT
  rw [Int.add_mul] at h3; omega
 rcases h.hs with e | e <;> rw [e] at s1 s2 s3 s4
 ·exact ⟨lo u v (by omega) (by omega) t2 xl yl hx0 hy1 hy0, hi u' v' (by omega) (by omega) t3 xl yl hx1 hy0⟩
 ·constructor
  ·have := lo v u (by omega) (by omega) t1 yl xl hy0 hx1 hx0; omega
  ·have := hi v' u' (by omega) (by omega) t4 yl xl hy1 hx0; omega
theorem Leh.pos {p0 q0 s A B C D p q : Int} (h : Leh p0 q0 s A B C D p q) : 0 < p ∧ 0 ≤ q := by
 have h0 := h.hA; have h1 := h.hB; have h2 := h.hC; have h3 := h.hD; have := h.c1; have := h.c2; have := h.c3; have := h.c4
 rcases h.hs with e | e <;> rw [e] at h0 h1 h2 h3 <;> omega
theorem Leh.bound {p0 q0 s A B C D p q : Int} (h : Leh p0 q0 s A B C D p q) : -p0 ≤ D ∧ D ≤ p0 ∧ -q0 ≤ C ∧ C ≤ q0 := by
 obtain ⟨hp, hq⟩ := h.pos
 have h0 := h.hA; have h1 := h.hB; have h2 := h.hC; have h3 := h.hD
 have e1 := h.e1; have e2 := h.e2
 have mul1 : ∀ a : Int, 0 ≤ a → a ≤ a * p := fun a ha => by
  have := Int.mul_le_mul_of_nonneg_left (show (1 : Int) ≤ p by omega) ha; omega
 rw [Int.mul_sub, ← Int.mul_assoc, ← Int.mul_assoc] at e1 e2
 have n1 : s * B * q ≤ 0 := Int.mul_nonpos_of_nonpos_of_nonneg h1 hq
 have n2 : 0 ≤ s * A * q := Int.mul_nonneg h0 hq
 have m1 := mul1 _ h3
 have m2 := mul1 (-(s * C)) (by omega)
 rw [Int.neg_mul] at m2
 rcases h.hs with e | e <;> subst e <;> simp only [Int.one_mul, Int.neg_mul] at * <;> omega
/-- The numbers themselves: two neighbours in the sequence of remainders of x and y. -/
structure LehT (x y : Nat) (A B C D : Int) (X Y : Nat) : Prop where
 hX : (X : Int) = A * x + B * y
 hY : (Y : Int) = C * x + D * y
 le : Y ≤ X
 gcd : Nat.gcd X Y = Nat.gcd x y
 nz : D ≠ 0
 prog : (A = 1 ∧ B = 0 ∧ C = 0 ∧ D = 1) ∨ (B ≠ 0 ∧ X ≤ y ∧ Y < X)
theorem LehT.start {x y : Nat} (h : y ≤ x) : LehT x y 1 0 0 1 x y := ⟨by omega, by omega, h, rfl, by omega, .inl ⟨rfl, rfl, rfl, rfl⟩⟩
theorem LehT.step {p0 q0 s A B C D p q k : Int} {x y X Y T xl yl : Nat} (h : Leh p0 q0 s A B C D p q) (ht : LehT x y A B C D X Y) (hC : 0 < q + C) (hD : 0 < q + D)
    (k1 : k = (p + A) / (q + C)) (k2 : k = (p + B) / (q + D)) (hx : (x : Int) = p0 * T + xl) (hy : (y : Int) = q0 * T + yl) (hxl : xl < T) (hyl : yl < T) :
    LehT x y C D (A - k * C) (B - k * D) Y (X % Y) := by
  obtain ⟨g1, g2⟩ := h.true_ (xl := xl) (yl := yl) (T := T) hC hD k1 k2 (by omega) (by omega) (by omega) (by omega) (by omega)
  have eX : (X : Int) = p * T + A * xl + B * yl := by
    rw [ht.hX, hx, hy, h.hp, Int.mul_add, Int.mul_add, Int.add_mul, Int.mul_assoc, Int.mul_assoc]; omega
  have eY : (Y : Int) = q * T + C * xl + D * yl := by
    rw [ht.hY, hx, hy, h.hq, Int.mul_add, Int.mul_add, Int.add_mul, Int.mul_assoc, Int.mul_assoc]; omega
  have lin : ∀ j : Int, (p - j * q) * T + (A - j * C) * xl + (B - j * D) * yl = (X : Int) - j * Y := fun j => by
    rw [eX, eY, Int.sub_mul, Int.sub_mul, Int.sub_mul, Int.mul_add, Int.mul_add, Int.mul_assoc, Int.mul_assoc, Int.mul_assoc]; omega
  rw [lin] at g1 g2
  rw [Int.add_mul] at g2
  have hk : 0 ≤ k := by rw [k1]; exact Int.ediv_nonneg (by have := h.c1; omega) (by omega)
  obtain ⟨n, rfl⟩ := Int.eq_ofNat_of_zero_le hk
  have hYp : 0 < Y := by omega
  have g1' : n * Y ≤ X := by have : ((n * Y : Nat) : Int) ≤ X := by push_cast; omega
                             exact Int.ofNat_le.1 this
  have g2' : X < n * Y + Y := by have : (X : Int) < ((n * Y + Y : Nat) : Int) := by push_cast; omega
                                 exact Int.ofNat_lt.1 this
  have hm : X % Y = X - n * Y := by
    have : X = n * Y + (X - n * Y) := by omega
    rw [this, Nat.mul_comm n Y, Nat.mul_add_mod, Nat.mod_eq_of_lt (by rw [Nat.mul_comm]; omega)]; omega
  refine ⟨ht.hY, ?_, Nat.le_of_lt (Nat.mod_lt _ hYp), ?_, ?_, .inr ⟨ht.nz, ?_, Nat.mod_lt _ hYp⟩⟩
  · rw [hm, Int.ofNat_sub g1', Int.natCast_mul, ht.hX, ht.hY]
    rw [Int.sub_mul, Int.sub_mul, Int.mul_add, Int.mul_assoc, Int.mul_assoc]; omega
  · rw [← ht.gcd, Nat.gcd_comm X Y, Nat.gcd_rec Y X]; exact Nat.gcd_comm _ _
  · have hle := ht.le
    have hn : 1 ≤ n := by
      rcases Nat.eq_zero_or_pos n with h0 | h0
      · rw [h0] at g2'; omega
      · exact h0
    have hnz := ht.nz
    have h1 := h.hB; have h2 := h.hD
    have h3 : 0 < s * D := by rcases h.hs with e | e <;> rw [e] at h2 ⊢ <;> omega
    have h4 : s * D ≤ (n : Int) * (s * D) := by
      have := Int.mul_le_mul_of_nonneg_right (show (1 : Int) ≤ n by omega) h2; omega
    intro h0
    have h5 : s * (B - n * D) = 0 := by rw [h0, Int.mul_zero]
    rw [Int.mul_sub, ← Int.mul_assoc, Int.mul_comm s n, Int.mul_assoc] at h5
    omega
  · rcases ht.prog with ⟨_, _, hc, hd⟩ | ⟨_, h1, h2⟩
    · have := ht.hY; rw [hc, hd] at this; omega
    · omega
end Go.Proofs.YtfmakoiiibacjaaDoor
namespace Go.Proofs.YtfmakoiiibacjaaDoor
open Go.RowKit
/-- What a call answers: in every world; where a property of the world holds. -/
abbrev RT (f : FuncId) (args : Array Value) (v : Value) : Prop := ∀ w, Calls Go.Proofs.Tryd.prog f args w fun xe w' => xe = .returned v ∧ Below w.heap.size w w'
abbrev RK (K : World → Prop) (f : FuncId) (args : Array Value) (v : Value) : Prop := ∀ w, K w → Calls Go.Proofs.Tryd.prog f args w fun xe w' => xe = .returned v ∧ Below w.heap.size w w'
/-- A string of bytes. -/
def str (l : List UInt8) : ByteArray := ⟨l.toArray⟩
theorem str_toList (l : List UInt8) : (str l).data.toList = l := by simp [str]
theorem str_size (l : List UInt8) : (str l).size = l.length := by simp [str, ByteArray.size]
/-- A number, as the program spells it: its lowest digit, and the bytes of the others. -/
def lo (n : Nat) : Nat := n % Bs
def hs (n : Nat) : ByteArray := str (hiB (n / Bs))
def sm (n : Nat) : Bool := decide (n < Bs)
abbrev natV (n : Nat) : Value := .agg #[.int .u64 ((lo n : Nat) : Int), .string (hs n)]
theorem lo_lt (n : Nat) : lo n < Bs := Nat.mod_lt _ Bs_pos
theorem lo_bd (n : Nat) : (0 : Int) ≤ (lo n : Int) ∧ (lo n : Int) ≤ 18446744073709551615 := by have := lo_lt n; unfold Bs at this; omega
theorem hs_toList (n : Nat) : (hs n).toList = hiB (n / Bs) := by rw [ByteArray.toList_eq]; exact str_toList _
theorem hs_data (n : Nat) : (hs n).data.toList = hiB (n / Bs) := str_toList _
theorem hs_size (n : Nat) : (hs n).size = 8 * (digs (n / Bs)).length := by unfold hs; rw [str_size, hiB_length]
theorem hs_empty (n : Nat) : (hs n).toList.isEmpty = sm n := by
 rw [hs_toList, Bool.eq_iff_iff, List.isEmpty_iff, hiB_nil, sm, decide_eq_true_iff, Nat.div_eq_zero_iff]
 have := Bs_pos; omega
theorem sm_true {n : Nat} : sm n = true ↔ n < Bs := by unfold sm; exact decide_eq_true_iff
theorem sm_false {n : Nat} : sm n = false ↔ Bs ≤ n := by unfold sm; rw [decide_eq_false_iff_not]; omega
theorem lo_small {n : Nat} (h : n < Bs) : lo n = n := Nat.mod_eq_of_lt h
theorem hs_small {n : Nat} (h : n < Bs) : hs n = ⟨#[]⟩ := by unfold hs; rw [Nat.div_eq_of_lt h, hiB_zero]; rfl
/-- A digit. -/
def u64V (d : Nat) : Value := .int .u64 (d : Int)
/-- Digits lie in memory from an address on. -/
def Rd (w : World) (g o : Nat) (l : List Nat) : Prop := ∀ (i : Nat) (h : i < l.length), w.cell? ⟨g, o + i, none⟩ = some (.int .u64 ((l[i] : Nat) : Int))
theorem bcell {W w1 : World} (hb : Below W.heap.size W w1) : (∀ b o, b < W.heap.size → w1.cell? ⟨b, o, none⟩ = W.cell? ⟨b, o, none⟩) ∧ (∀ b o, b < W.heap.size → w1.frozen? ⟨b, o, none⟩ = W.frozen? ⟨b, o, none⟩) :=
 ⟨fun b o h => hb.cell (p := ⟨b, o, none⟩) h, fun b o h => hb.frozen (p := ⟨b, o, none⟩) h⟩
theorem Rd.keep {w w' : World} {g o : Nat} {l : List Nat} (h : Rd w g o l) (hk : ∀ i, i < l.length → w'.cell? ⟨g, o + i, none⟩ = w.cell? ⟨g, o + i, none⟩) : Rd w' g o l := fun i hi => (hk i hi).trans (h i hi)
theorem Rd.below {w w' : World} {g o : Nat} {l : List Nat} {B : Nat} (h : Rd w g o l) (hb : Below B w w') (hg : g < B) : Rd w' g o l := h.keep fun _ _ => hb.cell (p := ⟨g, _, none⟩) hg
theorem tail_zero (l : List Nat) (n : Nat) (hn : n < l.length) (h : l[n] = 0) : val (l.take n) = val (l.take (n + 1)) := by
 rw [List.take_succ_eq_append_getElem hn, val_append, h]; simp [val]
theorem trim_any (g o c : Nat) (l : List Nat) (hd : Dig l) (hl : l.length ≤ maxLen) (hcap : l.length ≤ c) (w : World) (hc : Rd w g o l) :
  Calls Tryd.prog 92 #[.slice (some ⟨g, o, none⟩) l.length c] w fun e w' =>
   e = .returned (.slice (some ⟨g, o, none⟩) (digs (val l)).length c) ∧ w = w' := by
 unfold maxLen at hl
 go_enter Tryd.func92, Tryd.ntmps92
 go_wp2
 go_loop [3] (fun x => ∃ n : Nat, n ≤ l.length ∧ x = .int .i64 n ∧ val (l.take n) = val l) (fun x => (intOf x).toNat)
 case atStart => exact ⟨l.length, Nat.le_refl _, rfl, by rw [List.take_length]⟩
 case round =>
  obtain ⟨n, hn, rfl, hv⟩ := hrel
  have HV := Lib.hid hv
  clear hv
  by_cases h0 : n = 0
  ·subst h0
   have HE : Hid ((digs (val l)).length = 0) := by
    show _ = _
    rw [← HV.out]; simp [val, digs_zero]
   go_wp2
   go_ret
   exact ⟨congrArg (fun k : Nat => Ending.returned (.slice (some ⟨g, o, none⟩) k c)) HE.out.symm, rfl⟩
  ·obtain ⟨m, rfl⟩ : ∃ m, n = m + 1 := ⟨n - 1, by omega⟩
   have hm : m < l.length := by omega
   have hcm : w.cell? ⟨g, o + m, none⟩ = some (.int .u64 ((l[m] : Nat) : Int)) := hc m hm
   by_cases hz : l[m] = 0
   ·have HT := Lib.hid (tail_zero l m hm hz)
    rw [hz] at hcm
    clear hz
    go_wp2
    exact ⟨⟨m, by omega, rfl, by rw [HT.out, HV.out]⟩, by simp [intOf]⟩
   ·have hb : (((l[m] : Nat) : Int) == 0) = false := by simp; omega
    have HE : Hid ((digs (val l)).length = m + 1) := by
     show _ = _
     rw [← HV.out, digs_val (hd.take _), List.length_take]
     ·omega
     ·intro hne
      rw [List.getLast_eq_getElem]
      simp only [List.length_take, List.getElem_take]
      simpa [Nat.min_eq_left hn] using hz
    go_wp2
    go_ret
    exact ⟨congrArg (fun k : Nat => Ending.returned (.slice (some ⟨g, o, none⟩) k c)) HE.out.symm, rfl⟩
theorem small_any (n : Nat) (w : World) :
  Calls Tryd.prog 69 #[natV n] w fun e w' => e = .returned (.bool (sm n)) ∧ Below w.heap.size w w' := by
 unfold natV
 have HE := Lib.hid (hs_empty n)
 go_enter Tryd.func69, Tryd.ntmps69
 go_wp2
 go_ret
 exact ⟨congrArg (fun k : Bool => Ending.returned (.bool k)) HE.out, (Below.refl _ _).alloc (Nat.le_refl _) _⟩
theorem of_any (d : Nat) (hd : d < Bs) (w : World) :
  Calls Tryd.prog 53 #[.int .u64 (d : Int)] w fun e w' => e = .returned (natV d) ∧ Below w.heap.size w w' := by
 go_enter Tryd.func53, Tryd.ntmps53
 go_wp2
 exact bodyPost_ret (v := natV d) (by simp [results, Tryd.results53, go_sem, natV, lo_small hd, hs_small hd]) rfl ⟨rfl, (Below.refl _ _).alloc (Nat.le_refl _) _⟩
theorem u64_small (n : Nat) (h : n < Bs) (w : World) :
  Calls Tryd.prog 68 #[natV n] w fun e w' => e = .returned (.tuple #[.int .u64 ((n : Nat) : Int), .bool true]) ∧ Below w.heap.size w w' := by
 have hsm := sm_true.2 h
 have HL := Lib.hid (lo_small h)
 go_enter Tryd.func68, Tryd.ntmps68
 go_wp2_with fail
 refine (small_any n _).mono ?_
 rintro e w1 ⟨rfl, hb1⟩
 obtain ⟨hc1, hf1⟩ := bcell hb1
 go_wp2
 go_ret2
 exact ⟨congrArg (fun k : Nat => Ending.returned (.tuple #[.int .u64 (k : Int), .bool true])) HL.out, ((Below.refl _ _).alloc (Nat.le_refl _) _).trans (hb1.mono (by simp))⟩
theorem u64_big (n : Nat) (h : Bs ≤ n) (w : World) :
  Calls Tryd.prog 68 #[natV n] w fun e w' => e = .returned (.tuple #[.int .u64 0, .bool false]) ∧ Below w.heap.size w w' := by
 have hsm := sm_false.2 h
 go_enter Tryd.func68, Tryd.ntmps68
 go_wp2_with fail
 refine (small_any n _).mono ?_
 rintro e w1 ⟨rfl, hb1⟩
 obtain ⟨hc1, hf1⟩ := bcell hb1
 go_wp2
 go_ret2
 exact ⟨rfl, ((Below.refl _ _).alloc (Nat.le_refl _) _).trans (hb1.mono (by simp))⟩
end Go.Proofs.YtfmakoiiibacjaaDoor
namespace Go.Proofs.YtfmakoiiibacjaaDoor
/-- A number greater than 1 that only 1 and itself divide. -/
def isPr (p : Nat) : Prop := 1 < p ∧ ∀ d, d ∣ p → d = 1 ∨ d = p
theorem pr_coprime {p a : Nat} (hp : isPr p) (h : ¬ p ∣ a) : Nat.Coprime p a := by
 rcases hp.2 _ (Nat.gcd_dvd_left p a) with e | e
 ·exact e
 ·exact absurd (e ▸ Nat.gcd_dvd_right p a) h
theorem pr_mul {p a b : Nat} (hp : isPr p) (h : p ∣ a * b) : p ∣ a ∨ p ∣ b := by
 by_cases ha : p ∣ a
 ·exact .inl ha
 ·exact .inr ((pr_coprime hp ha).dvd_of_dvd_mul_left h)
def bin : Nat → Nat → Nat
 | _, 0 => 1
 | 0, _ + 1 => 0
 | n + 1, k + 1 => bin n k + bin n (k + 1)
theorem bin_zero (n : Nat) : bin n 0 = 1 := by cases n <;> rfl
theorem bin_succ (n k : Nat) : bin (n + 1) (k + 1) = bin n k + bin n (k + 1) := rfl
theorem bin_big : ∀ {n k : Nat}, n < k → bin n k = 0
 | 0, k + 1, _ => rfl
 | n + 1, k + 1, h => by rw [bin_succ, bin_big (by omega), bin_big (by omega)]
theorem bin_self : ∀ n, bin n n = 1
 | 0 => rfl
 | n + 1 => by rw [bin_succ, bin_self n, bin_big (Nat.lt_succ_self n)]
/-- k times the binomial is n times the one before. -/
theorem bin_absorb : ∀ n k, (k + 1) * bin (n + 1) (k + 1) = (n + 1) * bin n k
 | 0, 0 => rfl
 | 0, k + 1 => by rw [bin_big (show 0 + 1 < k + 1 + 1 by omega), bin_big (show 0 < k + 1 by omega), Nat.mul_zero, Nat.mul_zero]
 | n + 1, 0 => by
  have h := bin_absorb n 0
  rw [bin_zero] at h
  rw [bin_succ, bin_zero]
  simp only [Nat.zero_add, Nat.one_mul, Nat.mul_one] at h ⊢
  omega
 | n + 1, k + 1 => by
  have h1 := bin_absorb n k
  have h2 := bin_absorb n (k + 1)
  rw [bin_succ (n + 1) (k + 1), Nat.mul_add, h2]
  have h3 : bin (n + 1) (k + 1) = bin n k + bin n (k + 1) := rfl
  have h4 : (k + 1 + 1) * bin (n + 1) (k + 1) = (n + 1) * bin n k + bin (n + 1) (k + 1) := by rw [Nat.add_mul, h1, Nat.one_mul]
  rw [h4, h3, Nat.add_mul (n + 1), Nat.mul_add (n + 1)]
  omega
theorem bin_prime {p k : Nat} (hp : isPr p) (h0 : 0 < k) (h : k < p) : p ∣ bin p k := by
 obtain ⟨n, rfl⟩ : ∃ n, p = n + 1 := ⟨p - 1, by have := hp.1; omega⟩
 obtain ⟨j, rfl⟩ : ∃ j, k = j + 1 := ⟨k - 1, by omega⟩
 have e := bin_absorb n j
 have hd : n + 1 ∣ (j + 1) * bin (n + 1) (j + 1) := ⟨_, e⟩
 rcases pr_mul hp hd with h1 | h1
 ·exact absurd (Nat.le_of_dvd (by omega) h1) (by omega)
 ·exact h1
/-- The first j terms of the binomial sum. -/
def bsum (a n : Nat) : Nat → Nat
 | 0 => 0
 | j + 1 => bsum a n j + bin n j * a ^ j
theorem bsum_step (a n : Nat) : ∀ j, bsum a (n + 1) (j + 1) = bsum a n (j + 1) + a * bsum a n j
 | 0 => by simp [bsum, bin_zero]
 | j + 1 => by
  have h := bsum_step a n j
  rw [bsum, h, bin_succ, bsum, bsum]
  have e1 : bsum a n (j + 1) = bsum a n j + bin n j * a ^ j := rfl
  rw [e1, Nat.add_mul, Nat.mul_add, Nat.pow_succ]
  have e2 : bin n j * (a ^ j * a) = a * (bin n j * a ^ j) := by rw [Nat.mul_comm a, Nat.mul_assoc]
  rw [e2]; omega
theorem binomial (a : Nat) : ∀ n, (a + 1) ^ n = bsum a n (n + 1)
 | 0 => by simp [bsum, bin_zero]
 | n + 1 => by
  rw [bsum_step, bsum, bin_big (Nat.lt_succ_self n), Nat.zero_mul, Nat.add_zero, ← binomial a n, Nat.pow_succ, Nat.mul_add, Nat.mul_one, Nat.mul_comm _ a]
  omega
theorem bsum_prime {p : Nat} (hp : isPr p) (a : Nat) : ∀ j, 0 < j → j ≤ p → bsum a p j % p = 1
 | 1, _, _ => by
  show (0 + bin p 0 * a ^ 0) % p = 1
  rw [bin_zero, Nat.zero_add, Nat.one_mul, Nat.pow_zero, Nat.mod_eq_of_lt hp.1]
 | j + 2, _, h => by
  have h1 := bsum_prime hp a (j + 1) (by omega) (by omega)
  obtain ⟨c, e⟩ := bin_prime hp (show 0 < j + 1 by omega) (show j + 1 < p by omega)
  rw [bsum, e, Nat.mul_assoc, Nat.add_mul_mod_self_left]
  exact h1
/-- The power p of a number is the number, modulo a prime p. -/
theorem fermat {p : Nat} (hp : isPr p) : ∀ a, a ^ p % p = a % p
 | 0 => by rw [Nat.zero_pow (by have := hp.1; omega)]
 | a + 1 => by
  rw [binomial, bsum, bin_self, Nat.one_mul, Nat.add_mod, bsum_prime hp a p (by have := hp.1; omega) (Nat.le_refl p), fermat hp a, Nat.add_comm 1, ← Nat.add_mod_mod]
  rw [Nat.add_mod_mod, Nat.mod_add_mod]
theorem fermat_one {p a : Nat} (hp : isPr p) (h : ¬ p ∣ a) : a ^ (p - 1) % p = 1 := by
 have h1 := fermat hp a
 have e : a ^ p = a ^ (p - 1) * a := by rw [← Nat.pow_succ]; congr 1; have := hp.1; omega
 have ha : 0 < a := Nat.pos_of_ne_zero fun e => h (e ▸ Nat.dvd_zero p)
 have hle : a ≤ a ^ p := Nat.le_self_pow (by have := hp.1; omega) a
 have h2 : p ∣ a ^ p - a := Nat.dvd_of_mod_eq_zero (Nat.sub_mod_eq_zero_of_mod_eq h1)
 have h3 : a ^ p - a = (a ^ (p - 1) - 1) * a := by rw [e, Nat.sub_mul, Nat.one_mul]
 rw [h3] at h2
 have hpos : 0 < a ^ (p - 1) := Nat.pow_pos ha
 rcases pr_mul hp h2 with h4 | h4
 ·obtain ⟨c, hc⟩ := h4
  have : a ^ (p - 1) = 1 + p * c := by omega
  rw [this, Nat.add_mul_mod_self_left, Nat.mod_eq_of_lt hp.1]
 ·exact absurd h4 h
/-- No divisor from d on, for n tests. -/
def noDiv (p : Nat) : Nat → Nat → Bool
 | 0, _ => true
 | n + 1, d => p % d != 0 && noDiv p n (d + 1)
theorem noDiv_spec {p : Nat} : ∀ {n d i : Nat}, noDiv p n d = true → d ≤ i → i < d + n → ¬ i ∣ p
 | 0, d, i, _, h1, h2 => by omega
 | n + 1, d, i, h, h1, h2 => by
  rw [noDiv, Bool.and_eq_true] at h
  rcases Nat.lt_or_ge d i with h3 | h3
  ·exact noDiv_spec h.2 h3 (by omega)
  ·have : i = d := by omega
   subst this
   intro hd
   have := Nat.mod_eq_zero_of_dvd hd
   simp [this] at h
/-- A number with no divisor from 2 up to its root is a prime. -/
theorem isPr_of {p n : Nat} (h1 : 1 < p) (hn : p < (n + 2) * (n + 2)) (h : noDiv p n 2 = true) : isPr p := by
 refine ⟨h1, fun d hd => ?_⟩
 obtain ⟨e, rfl⟩ := hd
 have hnot : ∀ i, 2 ≤ i → i < 2 + n → ¬ i ∣ d * e := fun i g1 g2 => noDiv_spec h g1 g2
 have hd0 : 0 < d := Nat.pos_of_ne_zero fun g => by subst g; omega
 have he0 : 0 < e := Nat.pos_of_ne_zero fun g => by subst g; omega
 rcases Nat.lt_or_ge d 2 with g | g
 ·left; omega
 ·right
  rcases Nat.lt_or_ge e 2 with g2 | g2
  ·have : e = 1 := by omega
   rw [this, Nat.mul_one]
  ·have c1 : 2 + n ≤ d := by
    rcases Nat.lt_or_ge d (2 + n) with k | k
    ·exact absurd (Nat.dvd_mul_right d e) (hnot d g k)
    ·exact k
   have c2 : 2 + n ≤ e := by
    rcases Nat.lt_or_ge e (2 + n) with k | k
    ·exact absurd (Nat.dvd_mul_left e d) (hnot e g2 k)
    ·exact k
   have := Nat.mul_le_mul c1 c2
   rw [Nat.add_comm 2 n] at this
   omega
end Go.Proofs.YtfmakoiiibacjaaDoor
namespace Go.Proofs.YtfmakoiiibacjaaDoor
theorem pow_mul_one {b q k : Nat} (h1 : 1 < q) (h : b ^ k % q = 1) (c : Nat) : b ^ (k * c) % q = 1 := by
 rw [Nat.pow_mul, Nat.pow_mod, h, Nat.one_pow, Nat.mod_eq_of_lt h1]
theorem pow_add_one {b q k m : Nat} (h : b ^ k % q = 1) : b ^ (k + m) % q = b ^ m % q := by
 rw [Nat.pow_add, Nat.mul_mod, h, Nat.one_mul, Nat.mod_mod]
theorem mod_down {n q c x : Nat} (h1 : 1 < q) (e : n = q * c) (h : x % n = 1) : x % q = 1 := by
 have := Nat.mod_mod_of_dvd x (show q ∣ n from ⟨c, e⟩)
 rw [h, Nat.mod_eq_of_lt h1] at this
 exact this.symm
theorem mod_zero_pow {b q k : Nat} (h0 : 0 < k) (h : q ∣ b) : b ^ k % q = 0 := by
 obtain ⟨j, rfl⟩ : ∃ j, k = j + 1 := ⟨k - 1, by omega⟩
 rw [Nat.pow_succ]
 exact Nat.mod_eq_zero_of_dvd (Nat.dvd_mul_left_of_dvd h _)
/-- Where b^(n-1) is 1 modulo n, b^(n/q-1) is 1 modulo a prime q of n. -/
theorem psp_prime {n q b c : Nat} (hq : isPr q) (hn : n = q * c) (hc : 0 < c) (h : b ^ (n - 1) % n = 1) : b ^ (c - 1) % q = 1 := by
 have h1 := mod_down hq.1 hn h
 have h2 := hq.1
 have hn1 : 0 < n - 1 := by
  have := Nat.le_mul_of_pos_right q hc
  omega
 have hb : ¬ q ∣ b := fun g => by rw [mod_zero_pow hn1 g] at h1; omega
 have h3 := pow_mul_one hq.1 (fermat_one hq hb) c
 have e : n - 1 = (q - 1) * c + (c - 1) := by
  rw [hn, Nat.sub_mul, Nat.one_mul]
  have := Nat.le_mul_of_pos_left c (show 0 < q by omega)
  omega
 rw [e, pow_add_one h3] at h1
 exact h1
/-- The exponents with power 1 are closed under greatest common divisors. -/
theorem pow_gcd {b q : Nat} (h1 : 1 < q) : ∀ k m : Nat, b ^ k % q = 1 → b ^ m % q = 1 → b ^ Nat.gcd k m % q = 1 := by
 intro k m
 induction k, m using Nat.gcd.induction with
 | H0 n => intro _ h; rwa [Nat.gcd_zero_left]
 | H1 m n hm ih =>
  intro hk hn
  rw [Nat.gcd_rec]
  refine ih ?_ hk
  have e := Nat.mod_add_div n m
  rw [Nat.add_comm] at e
  rw [← e, pow_add_one (pow_mul_one h1 hk (n / m))] at hn
  exact hn
theorem prime_factor : ∀ n : Nat, 1 < n → ∃ p, isPr p ∧ p ∣ n := by
 intro n
 induction n using Nat.strongRecOn with
 | _ n ih =>
  intro h
  by_cases hp : isPr n
  ·exact ⟨n, hp, Nat.dvd_refl n⟩
  ·have : ∃ d, d ∣ n ∧ d ≠ 1 ∧ d ≠ n := by
    refine Classical.byContradiction fun g => hp ⟨h, fun d hd => ?_⟩
    by_cases e1 : d = 1
    ·exact .inl e1
    ·exact .inr (Classical.byContradiction fun e2 => g ⟨d, hd, e1, e2⟩)
   obtain ⟨d, hd, e1, e2⟩ := this
   have hle := Nat.le_of_dvd (by omega) hd
   have h0 : d ≠ 0 := fun e => by subst e; obtain ⟨c, hc⟩ := hd; omega
   obtain ⟨p, hp, hpd⟩ := ih d (by omega) (by omega)
   exact ⟨p, hp, Nat.dvd_trans hpd hd⟩
/-- The greatest prime of a number. -/
theorem greatest_prime {n : Nat} (h : 1 < n) : ∃ q, isPr q ∧ q ∣ n ∧ ∀ p, isPr p → p ∣ n → p ≤ q := by
 have key : ∀ k, (∃ q, isPr q ∧ q ∣ n ∧ n ≤ q + k) → ∃ q, isPr q ∧ q ∣ n ∧ ∀ p, isPr p → p ∣ n → p ≤ q := by
  intro k
  induction k with
  | zero =>
   rintro ⟨q, h1, h2, h3⟩
   exact ⟨q, h1, h2, fun p _ hp => by have := Nat.le_of_dvd (by omega) hp; omega⟩
  | succ k ih =>
   rintro ⟨q, h1, h2, h3⟩
   by_cases g : ∃ p, isPr p ∧ p ∣ n ∧ q < p
   ·obtain ⟨p, g1, g2, g3⟩ := g
    exact ih ⟨p, g1, g2, by omega⟩
   ·exact ⟨q, h1, h2, fun p hp hd => by
     rcases Nat.lt_or_ge q p with k1 | k1
     ·exact absurd ⟨p, hp, hd, k1⟩ g
     ·exact k1⟩
 obtain ⟨q, h1, h2⟩ := prime_factor n h
 exact key n ⟨q, h1, h2, by omega⟩
/-- A proper divisor divides the number over one of its primes. -/
theorem proper_dvd {g m : Nat} (hm : 0 < m) (hd : g ∣ m) (hne : g ≠ m) : ∃ l, isPr l ∧ l ∣ m ∧ g ∣ m / l := by
 obtain ⟨c, rfl⟩ := hd
 have hg : 0 < g := Nat.pos_of_ne_zero fun e => by subst e; omega
 have hc0 : c ≠ 0 := fun e => by subst e; omega
 have hc : 1 < c := by
  rcases Nat.lt_or_ge 1 c with h | h
  ·exact h
  ·have : c = 1 := by omega
   subst this; exact absurd (Nat.mul_one g).symm hne
 obtain ⟨l, hl, k, rfl⟩ := prime_factor c hc
 refine ⟨l, hl, ⟨g * k, by rw [Nat.mul_left_comm]⟩, ?_⟩
 have : g * (l * k) = l * (g * k) := Nat.mul_left_comm g l k
 rw [this, Nat.mul_div_cancel_left _ (by have := hl.1; omega)]
 exact Nat.dvd_mul_right g k
end Go.Proofs.YtfmakoiiibacjaaDoor
namespace Go.Proofs.YtfmakoiiibacjaaDoor
def st2 (n x d : Nat) : Nat := Nat.mod (Nat.mul (Nat.pow x 256) (Nat.pow 2 d)) n
def pw2 (n e : Nat) : Nat := st2 n (st2 n (st2 n (st2 n 1 (Nat.div e 16777216)) (Nat.mod (Nat.div e 65536) 256)) (Nat.mod (Nat.div e 256) 256)) (Nat.mod e 256)
theorem st2_eq (n x d : Nat) : st2 n x d = x ^ 256 * 2 ^ d % n := rfl
theorem st2_pow (n k d : Nat) : st2 n (2 ^ k % n) d = 2 ^ (256 * k + d) % n := by
 rw [st2_eq, Nat.mul_mod, ← Nat.pow_mod, ← Nat.mul_mod, ← Nat.pow_mul, ← Nat.pow_add, Nat.mul_comm k]
theorem pw2_eq (n e : Nat) : pw2 n e = 2 ^ e % n := by
 have h0 : st2 n 1 (e / 16777216) = 2 ^ (e / 16777216) % n := by rw [st2_eq, Nat.one_pow, Nat.one_mul]
 show st2 n (st2 n (st2 n (st2 n 1 (e / 16777216)) (e / 65536 % 256)) (e / 256 % 256)) (e % 256) = _
 rw [h0, st2_pow, st2_pow, st2_pow]
 congr 2
 omega
def stb (b n x d : Nat) : Nat := Nat.mod (Nat.mul (Nat.pow x 256) (Nat.pow b d)) n
def pwb (b n e : Nat) : Nat := stb b n (stb b n (stb b n (stb b n 1 (Nat.div e 16777216)) (Nat.mod (Nat.div e 65536) 256)) (Nat.mod (Nat.div e 256) 256)) (Nat.mod e 256)
theorem stb_eq (b n x d : Nat) : stb b n x d = x ^ 256 * b ^ d % n := rfl
theorem stb_pow (b n k d : Nat) : stb b n (b ^ k % n) d = b ^ (256 * k + d) % n := by
 rw [stb_eq, Nat.mul_mod, ← Nat.pow_mod, ← Nat.mul_mod, ← Nat.pow_mul, ← Nat.pow_add, Nat.mul_comm k]
theorem pwb_eq (b n e : Nat) : pwb b n e = b ^ e % n := by
 have h0 : stb b n 1 (e / 16777216) = b ^ (e / 16777216) % n := by rw [stb_eq, Nat.one_pow, Nat.one_mul]
 show stb b n (stb b n (stb b n (stb b n 1 (e / 16777216)) (e / 65536 % 256)) (e / 256 % 256)) (e % 256) = _
 rw [h0, stb_pow, stb_pow, stb_pow]
 congr 2
 omega
/-- n passes: the powers n - 1 of all witnesses are 1. -/
def Pass (W : List Nat) (n : Nat) : Prop := ∀ b ∈ W, b ^ (n - 1) % n = 1
/-- What is known of a prime q: all exponents at which the witnesses have the power 1 are multiples of e; and not all have it modulo q q. -/
def Ent (W : List Nat) (q e : Nat) : Prop := isPr q → (∀ m, (∀ b ∈ W, b ^ m % q = 1) → e ∣ m) ∧ ∃ b ∈ W, b ^ (q - 1) % (q * q) ≠ 1
/-- (1 + k q)^j is 1 + j k q modulo q q. -/
theorem pow_lift {x q k : Nat} (h : x = 1 + k * q) : ∀ j, x ^ j % (q * q) = (1 + j * k * q) % (q * q)
 | 0 => by simp
 | j + 1 => by
  rw [Nat.pow_succ, Nat.mul_mod, pow_lift h j, ← Nat.mul_mod, h]
  have e : (1 + j * k * q) * (1 + k * q) = (1 + (j + 1) * k * q) + q * q * (j * k * k) := by grind
  rw [e, Nat.add_mul_mod_self_left]
theorem euler_sq {b q : Nat} (hq : isPr q) (hb : ¬ q ∣ b) : b ^ ((q - 1) * q) % (q * q) = 1 := by
 have h := fermat_one hq hb
 have e := Nat.mod_add_div (b ^ (q - 1)) q
 rw [h] at e
 have h1 := hq.1
 rw [Nat.pow_mul, pow_lift (k := b ^ (q - 1) / q) (by rw [Nat.mul_comm]; exact e.symm) q]
 have : q * (b ^ (q - 1) / q) * q = q * q * (b ^ (q - 1) / q) := by rw [Nat.mul_right_comm]
 rw [this, Nat.add_mul_mod_self_left, Nat.mod_eq_of_lt]
 have := Nat.mul_le_mul (show 2 ≤ q by omega) (show 2 ≤ q by omega)
 omega
theorem not_dvd_w {W : List Nat} {n q b : Nat} (hp : Pass W n) (hq : isPr q) (hd : q ∣ n) (h1 : 1 < n) (hb : b ∈ W) : ¬ q ∣ b := by
 intro g
 obtain ⟨c, e⟩ := hd
 have h := mod_down hq.1 e (hp b hb)
 rw [mod_zero_pow (by omega) g] at h
 omega
theorem dvd_pred {n q c : Nat} (e : n = q * c) (h1 : 1 < n) (hd : q ∣ n - 1) : q = 1 := by
 have := (Nat.dvd_sub (show q ∣ n from ⟨c, e⟩) hd)
 rw [show n - (n - 1) = 1 by omega] at this
 exact Nat.dvd_one.1 this
/-- The prime q occurs once, and e divides n - 1. -/
theorem Ent.once {W : List Nat} {n q e : Nat} (h : Ent W q e) (hp : Pass W n) (hq : isPr q) (hd : q ∣ n) (h1 : 1 < n) : ¬ q * q ∣ n := by
 rintro ⟨c, hc⟩
 obtain ⟨b, hb, hne⟩ := (h hq).2
 have hbq := not_dvd_w hp hq hd h1 hb
 have q1 := hq.1
 have qq : 1 < q * q := by
  have := Nat.mul_le_mul (show 2 ≤ q by omega) (show 2 ≤ q by omega)
  omega
 have k1 := mod_down qq hc (hp b hb)
 have k2 := euler_sq hq hbq
 have k3 := pow_gcd qq _ _ k2 k1
 have hcop : Nat.Coprime (n - 1) q := by
  rcases hq.2 _ (Nat.gcd_dvd_right (n - 1) q) with g | g
  ·exact g
  ·have : q ∣ n - 1 := g ▸ Nat.gcd_dvd_left (n - 1) q
   have := dvd_pred (show n = q * (q * c) by rw [hc, Nat.mul_assoc]) h1 this
   omega
 have k4 : Nat.gcd ((q - 1) * q) (n - 1) ∣ q - 1 := by
  have c1 : Nat.Coprime (Nat.gcd ((q - 1) * q) (n - 1)) q := Nat.Coprime.coprime_dvd_left (Nat.gcd_dvd_right _ _) hcop
  exact c1.dvd_of_dvd_mul_right (Nat.gcd_dvd_left _ _)
 obtain ⟨t, ht⟩ := k4
 apply hne
 rw [ht]
 exact pow_mul_one qq k3 t
theorem Ent.pred {W : List Nat} {n q e : Nat} (h : Ent W q e) (hp : Pass W n) (hq : isPr q) (hd : q ∣ n) (h1 : 1 < n) : e ∣ n - 1 := by
 obtain ⟨c, hc⟩ := hd
 have hc0 : 0 < c := Nat.pos_of_ne_zero fun g => by subst g; omega
 refine (h hq).1 _ fun b hb => ?_
 have := mod_down hq.1 hc (hp b hb)
 exact this
/-- n does not pass: the power of 2 first, then the test itself. -/
def leafOk (T : Nat → Bool) (n : Nat) : Bool := cond (Nat.beq (pw2 n (Nat.sub n 1)) 1) (not (T n)) true
theorem leafOk_spec {T : Nat → Bool} {n : Nat} (h : leafOk T n = true) (h2 : 2 ^ (n - 1) % n = 1) : T n = false := by
 unfold leafOk at h
 rw [pw2_eq] at h
 have : Nat.beq (2 ^ (n - 1) % n) 1 = true := by rw [h2]; rfl
 rw [show Nat.sub n 1 = n - 1 from rfl, this] at h
 simpa using h
/-- All n = m (c0 + i L) below N, for i < k. -/
noncomputable def enumOk (N : Nat) (T : Nat → Bool) (m L c0 k : Nat) : Bool :=
 Nat.rec (motive := fun _ => Bool) true (fun i ih => and ((fun n => cond (Nat.ble N n) true (leafOk T n)) (Nat.mul m (Nat.add c0 (Nat.mul i L)))) ih) k
theorem enumOk_succ (N : Nat) (T : Nat → Bool) (m L c0 k : Nat) : enumOk N T m L c0 (k + 1) = ((cond (Nat.ble N (m * (c0 + k * L))) true (leafOk T (m * (c0 + k * L)))) && enumOk N T m L c0 k) := rfl
theorem enumOk_spec {N : Nat} {T : Nat → Bool} {m L c0 : Nat} : ∀ {k i : Nat}, enumOk N T m L c0 k = true → i < k → m * (c0 + i * L) < N → leafOk T (m * (c0 + i * L)) = true
 | 0, i, _, hi, _ => by omega
 | k + 1, i, h, hi, hn => by
  rw [enumOk_succ, Bool.and_eq_true] at h
  rcases Nat.lt_or_ge i k with h1 | h1
  ·exact enumOk_spec h.2 h1 hn
  ·have : i = k := by omega
   subst this
   have hb : Nat.ble N (m * (c0 + i * L)) = false := by
    rcases hh : Nat.ble N (m * (c0 + i * L)) with _ | _
    ·rfl
    ·exact absurd (Nat.le_of_ble_eq_true hh) (by omega)
   rw [hb] at h
   exact h.1
/-- A number x with m x = 1 modulo L, if it finds one (checked where it is used). -/
noncomputable def invN (L : Nat) (f : Nat) : Nat → Nat → Nat → Nat → Nat :=
 Nat.rec (motive := fun _ => Nat → Nat → Nat → Nat → Nat) (fun _ _ _ s1 => s1)
  (fun _ ih r0 r1 s0 s1 => cond (Nat.ble r1 1) s1 (ih r1 (Nat.mod r0 r1) s1 (Nat.mod (Nat.add s0 (Nat.mul (Nat.div r0 r1) (Nat.sub L s1))) L))) f
noncomputable def leaves (N : Nat) (T : Nat → Bool) (m L : Nat) : Bool :=
 (fun c0 => and (Nat.beq (Nat.mod (Nat.mul m c0) L) (Nat.mod 1 L)) (enumOk N T m L (Nat.mod c0 L) (Nat.add (Nat.div N (Nat.mul m L)) 1))) (invN L 60 L (Nat.mod m L) 0 1)
theorem leaves_spec {N : Nat} {T : Nat → Bool} {m L n : Nat} (h : leaves N T m L = true) (hL : 0 < L) (hm : m ∣ n) (hn : n < N) (h1 : 1 < n) (hd : L ∣ n - 1) : leafOk T n = true := by
 unfold leaves at h
 generalize invN L 60 L (Nat.mod m L) 0 1 = c0 at h
 have h : ((Nat.beq (m * c0 % L) (1 % L)) && enumOk N T m L (c0 % L) (N / (m * L) + 1)) = true := h
 rw [Bool.and_eq_true] at h
 have e1 : m * c0 % L = 1 % L := Nat.eq_of_beq_eq_true h.1
 obtain ⟨c, rfl⟩ := hm
 have hm0 : 0 < m := Nat.pos_of_ne_zero fun g => by subst g; omega
 have e2 : m * c % L = 1 % L := by
  obtain ⟨t, ht⟩ := hd
  have : m * c = 1 + L * t := by omega
  rw [this, Nat.add_mul_mod_self_left]
 have e3 : c % L = c0 % L := by
  have a1 : (m * c0) * c % L = c % L := by rw [Nat.mul_mod, e1, ← Nat.mul_mod, Nat.one_mul]
  have a2 : (m * c) * c0 % L = c0 % L := by rw [Nat.mul_mod, e2, ← Nat.mul_mod, Nat.one_mul]
  rw [← a1, ← a2, Nat.mul_right_comm]
 have e4 : c = c0 % L + c / L * L := by rw [← e3, Nat.mul_comm]; exact (Nat.mod_add_div c L).symm
 have e5 : c / L < N / (m * L) + 1 := by
  rw [← Nat.mul_div_mul_left c L hm0]
  exact Nat.lt_succ_of_le (Nat.div_le_div_right (Nat.le_of_lt hn))
 have := enumOk_spec h.2 e5 (by rw [← e4]; exact hn)
 rwa [← e4] at this
/-- The search: m divides n, L divides n - 1, the other primes of n come from the list. -/
noncomputable def go (N : Nat) (T : Nat → Bool) (l : List (Nat × Nat)) : Nat → Nat → Bool :=
 List.rec (motive := fun _ => Nat → Nat → Bool) (fun _ _ => true)
  (fun p rest ih m L => and (ih m L) (cond (Nat.ble N (Nat.mul m p.1)) true (cond (Nat.beq (Nat.gcd L p.1) 1)
   (and (leafOk T (Nat.mul m p.1)) ((fun K => cond (Nat.ble (Nat.div N (Nat.mul (Nat.mul m p.1) K)) (Nat.div p.1 2)) (leaves N T (Nat.mul m p.1) K) (ih (Nat.mul m p.1) K)) (Nat.lcm L p.2))) true))) l
theorem go_cons (N : Nat) (T : Nat → Bool) (q e : Nat) (rest : List (Nat × Nat)) (m L : Nat) : go N T ((q, e) :: rest) m L = (go N T rest m L && (cond (Nat.ble N (m * q)) true (cond (Nat.beq (Nat.gcd L q) 1)
  (leafOk T (m * q) && (cond (Nat.ble (N / (m * q * Nat.lcm L e)) (q / 2)) (leaves N T (m * q) (Nat.lcm L e)) (go N T rest (m * q) (Nat.lcm L e)))) true))) := rfl
/-- What the search shows. -/
theorem go_spec {N : Nat} {T : Nat → Bool} {W : List Nat} (hT : ∀ n, T n = true → Pass W n) (h2 : 2 ∈ W) {n : Nat} (hn : n < N) (h1 : 1 < n) (ht : T n = true) :
  ∀ (l : List (Nat × Nat)), (∀ p ∈ l, Ent W p.1 p.2 ∧ 0 < p.2) → ∀ m L, 0 < L → go N T l m L = true → m ∣ n → L ∣ n - 1 → (∀ p, isPr p → p ∣ n / m → ∃ e, (p, e) ∈ l) → n = m := by
 have hp := hT n ht
 have hbad : leafOk T n = true → False := fun g => by
  have := leafOk_spec g (hp 2 h2)
  rw [ht] at this; cases this
 intro l
 induction l with
 | nil =>
  intro _ m L _ _ hm _ hl
  obtain ⟨c, hc⟩ := hm
  have hm0 : 0 < m := Nat.pos_of_ne_zero fun g => by subst g; omega
  have e : n / m = c := by rw [hc, Nat.mul_div_cancel_left _ hm0]
  rcases Nat.lt_or_ge 1 c with g | g
  ·obtain ⟨p, hp1, hp2⟩ := prime_factor c g
   obtain ⟨e', he⟩ := hl p hp1 (by rw [e]; exact hp2)
   simp at he
  ·have : c ≠ 0 := fun k => by subst k; omega
   have : c = 1 := by omega
   rw [hc, this, Nat.mul_one]
 | cons pq rest ih =>
  obtain ⟨q, e⟩ := pq
  intro hE m L hL h hm hd hl
  rw [go_cons, Bool.and_eq_true] at h
  have hE' : ∀ p ∈ rest, Ent W p.1 p.2 ∧ 0 < p.2 := fun p hp => hE p (List.mem_cons_of_mem _ hp)
  obtain ⟨hent, he0⟩ := hE (q, e) List.mem_cons_self
  by_cases hq : isPr q ∧ q ∣ n / m
  ·exfalso
   obtain ⟨hq, hqd⟩ := hq
   obtain ⟨c, hc⟩ := hm
   have hm0 : 0 < m := Nat.pos_of_ne_zero fun g => by subst g; omega
   have ec : n / m = c := by rw [hc, Nat.mul_div_cancel_left _ hm0]
   rw [ec] at hqd
   obtain ⟨d, hd'⟩ := hqd
   have en : n = m * q * d := by rw [hc, hd', Nat.mul_assoc]
   have hqn : q ∣ n := ⟨m * d, by rw [en, Nat.mul_comm m q, Nat.mul_assoc]⟩
   have hd0 : 0 < d := Nat.pos_of_ne_zero fun g => by subst g; omega
   have hmq : m * q ≤ n := by rw [en]; exact Nat.le_mul_of_pos_right _ hd0
   have hb : Nat.ble N (m * q) = false := by
    rcases hh : Nat.ble N (m * q) with _ | _
    ·rfl
    ·exact absurd (Nat.le_of_ble_eq_true hh) (by omega)
   have hg : Nat.gcd L q = 1 := by
    rcases hq.2 _ (Nat.gcd_dvd_right L q) with g | g
    ·exact g
    ·have : q ∣ n - 1 := Nat.dvd_trans (g ▸ Nat.gcd_dvd_left L q) hd
     have := dvd_pred (show n = q * (m * d) by rw [en, Nat.mul_comm m q, Nat.mul_assoc]) h1 this
     have := hq.1
     omega
   have hg' : Nat.beq (Nat.gcd L q) 1 = true := by rw [hg]; rfl
   have h3 := h.2
   rw [hb, hg', cond_false, cond_true, Bool.and_eq_true] at h3
   have hep := hent.pred hp hq hqn h1
   have hLK : Nat.lcm L e ∣ n - 1 := Nat.lcm_dvd hd hep
   have hK0 : 0 < Nat.lcm L e := Nat.lcm_pos hL he0
   have hmn : m * q ∣ n := ⟨d, en⟩
   have h4 := h3.2
   rcases hh : Nat.ble (N / (m * q * Nat.lcm L e)) (q / 2) with _ | _
   ·rw [hh, cond_false] at h4
    have hfin := ih hE' (m * q) _ hK0 h4 hmn hLK (fun p hpp hpd => by
     have hmq0 : 0 < m * q := Nat.mul_pos hm0 (by have := hq.1; omega)
     have ed : n / (m * q) = d := by rw [en, Nat.mul_div_cancel_left _ hmq0]
     rw [ed] at hpd
     obtain ⟨e', he'⟩ := hl p hpp (by rw [ec, hd']; exact Nat.dvd_mul_left_of_dvd hpd q)
     rcases List.mem_cons.1 he' with k | k
     ·exfalso
      have : p = q := by injection k
      subst this
      obtain ⟨t, ht'⟩ := hpd
      exact hent.once hp hq hqn h1 ⟨m * t, by rw [en, ht']; grind⟩
     ·exact ⟨e', k⟩)
    exact hbad (by rw [hfin]; exact h3.1)
   ·rw [hh, cond_true] at h4
    exact hbad (leaves_spec h4 hK0 hmn hn h1 hLK)
  ·refine ih hE' m L hL h.1 hm hd (fun p hpp hpd => ?_)
   obtain ⟨e', he'⟩ := hl p hpp hpd
   rcases List.mem_cons.1 he' with k | k
   ·exfalso
    have : p = q := by injection k
    subst this
    exact hq ⟨hpp, hpd⟩
   ·exact ⟨e', k⟩
end Go.Proofs.YtfmakoiiibacjaaDoor
namespace Go.Proofs.YtfmakoiiibacjaaDoor
def neOne (b x q : Nat) : Bool := not (Nat.beq (pwb b q x) 1)
noncomputable def anyNe (W : List Nat) (x q : Nat) : Bool := List.rec (motive := fun _ => Bool) false (fun b _ ih => or (neOne b x q) ih) W
theorem neOne_spec {b x q : Nat} (h : neOne b x q = true) : b ^ x % q ≠ 1 := fun e => by
 unfold neOne at h
 have : Nat.beq (b ^ x % q) 1 = true := by rw [e]; rfl
 rw [pwb_eq, this] at h; cases h
theorem anyNe_spec {W : List Nat} {x q : Nat} (h : anyNe W x q = true) : ∃ b ∈ W, b ^ x % q ≠ 1 := by
 induction W with
 | nil => cases h
 | cons b W ih =>
  have h : (neOne b x q || anyNe W x q) = true := h
  rcases (Bool.or_eq_true_iff).1 h with g | g
  ·exact ⟨b, List.mem_cons_self, neOne_spec g⟩
  ·obtain ⟨c, hc, hn⟩ := ih g
   exact ⟨c, List.mem_cons_of_mem _ hc, hn⟩
noncomputable def divsOk (W : List Nat) (q e : Nat) (k : Nat) : Bool := Nat.rec (motive := fun _ => Bool) true
 (fun i ih => and ih (cond (Nat.beq (Nat.mod e (Nat.succ i)) 0) (and (or (Nat.beq i 0) (anyNe W (Nat.div e (Nat.succ i)) q)) (or (Nat.beq e (Nat.succ i)) (anyNe W (Nat.succ i) q))) true)) k
theorem divsOk_spec {W : List Nat} {q e : Nat} : ∀ {k d : Nat}, divsOk W q e k = true → 0 < d → d ≤ k → d ∣ e → (d = 1 ∨ ∃ b ∈ W, b ^ (e / d) % q ≠ 1) ∧ (e = d ∨ ∃ b ∈ W, b ^ d % q ≠ 1)
 | 0, d, _, h0, hk, _ => by omega
 | k + 1, d, h, h0, hk, hd => by
  have h : (divsOk W q e k && (cond (Nat.beq (e % (k + 1)) 0) ((Nat.beq k 0 || anyNe W (e / (k + 1)) q) && (Nat.beq e (k + 1) || anyNe W (k + 1) q)) true)) = true := h
  rw [Bool.and_eq_true] at h
  rcases Nat.lt_or_ge d (k + 1) with g | g
  ·exact divsOk_spec h.1 h0 (by omega) hd
  ·have : d = k + 1 := by omega
   subst this
   have hm : Nat.beq (e % (k + 1)) 0 = true := by rw [Nat.mod_eq_zero_of_dvd hd]; rfl
   have h2 := h.2
   rw [hm, cond_true, Bool.and_eq_true, Bool.or_eq_true, Bool.or_eq_true] at h2
   refine ⟨?_, ?_⟩
   ·rcases h2.1 with x | x
    ·left; have := Nat.eq_of_beq_eq_true x; omega
    ·exact .inr (anyNe_spec x)
   ·rcases h2.2 with x | x
    ·exact .inl (Nat.eq_of_beq_eq_true x)
    ·exact .inr (anyNe_spec x)
noncomputable def entOk (W : List Nat) (q e : Nat) : Bool := and (Nat.ble 1 e) (and (Nat.ble e 65535) (and (List.all W fun b => Nat.beq (pwb b q e) 1) (and (anyNe W (Nat.sub q 1) (Nat.mul q q)) (divsOk W q e 255))))
theorem entOk_spec {W : List Nat} {q e : Nat} (h : entOk W q e = true) : Ent W q e ∧ 0 < e := by
 unfold entOk at h
 rw [Bool.and_eq_true, Bool.and_eq_true, Bool.and_eq_true, Bool.and_eq_true] at h
 obtain ⟨h1, h2, h3, h4, h5⟩ := h
 have he1 := Nat.le_of_ble_eq_true h1
 have he2 := Nat.le_of_ble_eq_true h2
 refine ⟨fun hq => ⟨fun m hm => ?_, anyNe_spec h4⟩, he1⟩
 have hall : ∀ b ∈ W, b ^ e % q = 1 := fun b hb => by rw [← pwb_eq]; exact Nat.eq_of_beq_eq_true (List.all_eq_true.1 h3 b hb)
 by_cases g : Nat.gcd e m = e
 ·have := Nat.gcd_dvd_right e m
  rwa [g] at this
 ·exfalso
  obtain ⟨l, hl, hd, t, ht⟩ := proper_dvd he1 (Nat.gcd_dvd_left e m) g
  have hone : ∀ b ∈ W, b ^ (e / l) % q = 1 := fun b hb => by
   rw [ht]; exact pow_mul_one hq.1 (pow_gcd hq.1 _ _ (hall b hb) (hm b hb)) t
  have hl1 := hl.1
  have hel : l * (e / l) = e := Nat.mul_div_cancel' hd
  rcases Nat.lt_or_ge l 256 with k | k
  ·rcases (divsOk_spec h5 (by omega) (by omega) hd).1 with x | ⟨b, hb, hne⟩
   ·omega
   ·exact hne (hone b hb)
  ·have h6 : e / l < 256 := by
    rw [Nat.div_lt_iff_lt_mul (by omega)]
    have := Nat.mul_le_mul_left 256 k
    omega
   have h7 : 0 < e / l := Nat.pos_of_ne_zero fun z => by rw [z] at hel; omega
   rcases (divsOk_spec h5 h7 (by omega) ⟨l, by rw [Nat.mul_comm]; exact hel.symm⟩).2 with x | ⟨b, hb, hne⟩
   ·have : l * (e / l) ≥ 2 * (e / l) := Nat.mul_le_mul_right _ (by omega)
    omega
   ·exact hne (hone b hb)
noncomputable def listOk (W : List Nat) (l : List (Nat × Nat)) : Bool := List.rec (motive := fun _ => Bool) true (fun p _ ih => and ih (entOk W p.1 p.2)) l
theorem listOk_spec {W : List Nat} {l : List (Nat × Nat)} (h : listOk W l = true) : ∀ p ∈ l, Ent W p.1 p.2 ∧ 0 < p.2 := by
 induction l with
 | nil => intro p hp; simp at hp
 | cons a l ih =>
  have h : (listOk W l && entOk W a.1 a.2) = true := h
  rw [Bool.and_eq_true] at h
  intro p hp
  rcases List.mem_cons.1 hp with rfl | k
  ·exact entOk_spec h.2
  ·exact ih h.1 p k
theorem listOk_append {W : List Nat} {l k : List (Nat × Nat)} (h : listOk W l = true) (g : listOk W k = true) : listOk W (l ++ k) = true := by
 induction l with
 | nil => exact g
 | cons a l ih =>
  have h : (listOk W l && entOk W a.1 a.2) = true := h
  rw [Bool.and_eq_true] at h
  show (listOk W (l ++ k) && entOk W a.1 a.2) = true
  rw [Bool.and_eq_true]
  exact ⟨ih h.1, h.2⟩
/-- The test, but for the prime q itself. -/
def butQ (T : Nat → Bool) (q n : Nat) : Bool := and (not (Nat.beq n q)) (T n)
theorem butQ_of {T : Nat → Bool} {q n : Nat} (h : T n = true) (hn : n ≠ q) : butQ T q n = true := by
 unfold butQ
 have : Nat.beq n q = false := by
  rcases hh : Nat.beq n q with _ | _
  ·rfl
  ·exact absurd (Nat.eq_of_beq_eq_true hh) hn
 rw [this, h]; rfl
theorem butQ_T {T : Nat → Bool} {q n : Nat} (h : butQ T q n = true) : T n = true := by
 unfold butQ at h
 rw [Bool.and_eq_true] at h
 exact h.2
/-- The search behind one greatest prime. -/
noncomputable def headOk (N : Nat) (T : Nat → Bool) (q e : Nat) (rest : List (Nat × Nat)) : Bool := cond (Nat.ble N q) true
 (cond (Nat.ble (Nat.div N (Nat.mul q e)) (Nat.div q 2)) (leaves N (butQ T q) q e) (go N (butQ T q) rest q e))
noncomputable def heads (N : Nat) (T : Nat → Bool) (l rest : List (Nat × Nat)) : Bool := List.rec (motive := fun _ => Bool) true (fun p t ih => and ih (headOk N T p.1 p.2 (List.append t rest))) l
/-- Each prime of the list has been searched behind. -/
def HA (N : Nat) (T : Nat → Bool) (l : List (Nat × Nat)) : Prop := ∀ a q e b, l = a ++ (q, e) :: b → headOk N T q e b = true
theorem HA_nil {N : Nat} {T : Nat → Bool} : HA N T [] := fun a q e b h => by cases a <;> cases h
theorem heads_HA {N : Nat} {T : Nat → Bool} {l rest : List (Nat × Nat)} (h : heads N T l rest = true) (g : HA N T rest) : HA N T (l ++ rest) := by
 induction l with
 | nil => exact g
 | cons p t ih =>
  have h : (heads N T t rest && headOk N T p.1 p.2 (t ++ rest)) = true := h
  rw [Bool.and_eq_true] at h
  intro a q e b hab
  cases a with
  | nil =>
   rw [List.nil_append, List.cons_append] at hab
   injection hab with h1 h2
   subst h1; rw [← h2]; exact h.2
  | cons x a =>
   rw [List.cons_append, List.cons_append] at hab
   injection hab with h1 h2
   exact ih h.1 a q e b h2
/-- The list falls. -/
noncomputable def descOk (l : List (Nat × Nat)) : Nat → Bool := List.rec (motive := fun _ => Nat → Bool) (fun _ => true) (fun p _ ih u => and (Nat.blt p.1 u) (and (Nat.blt 0 p.1) (ih p.1))) l
theorem descOk_all {l : List (Nat × Nat)} : ∀ {u : Nat}, descOk l u = true → ∀ p ∈ l, p.1 < u ∧ 0 < p.1 := by
 induction l with
 | nil => intro u _ p hp; simp at hp
 | cons a l ih =>
  intro u h p hp
  have h : (Nat.blt a.1 u && (Nat.blt 0 a.1 && descOk l a.1)) = true := h
  rw [Bool.and_eq_true, Bool.and_eq_true] at h
  have h1 : a.1 < u := Nat.le_of_ble_eq_true h.1
  have h2 : 0 < a.1 := Nat.le_of_ble_eq_true h.2.1
  rcases List.mem_cons.1 hp with rfl | k
  ·exact ⟨h1, h2⟩
  ·have := ih h.2.2 p k
   exact ⟨by omega, this.2⟩
theorem descOk_front {a b : List (Nat × Nat)} {x : Nat × Nat} : ∀ {u : Nat}, descOk (a ++ x :: b) u = true → ∀ p ∈ a, x.1 < p.1 := by
 induction a with
 | nil => intro u _ p hp; simp at hp
 | cons y a ih =>
  intro u h p hp
  have h : (Nat.blt y.1 u && (Nat.blt 0 y.1 && descOk (a ++ x :: b) y.1)) = true := h
  rw [Bool.and_eq_true, Bool.and_eq_true] at h
  rcases List.mem_cons.1 hp with rfl | k
  ·exact (descOk_all h.2.2 x (by simp)).1
  ·exact ih h.2.2 p k
noncomputable def noPr (x : Nat) : Bool := or (Nat.beq x 9) (and (Nat.ble 14 x) (anyNe [2, 3, 5, 7, 13] (Nat.sub x 1) x))
theorem noPr_spec {x : Nat} (h : noPr x = true) : ¬ isPr x := by
 intro hp
 unfold noPr at h
 rcases Bool.or_eq_true_iff.1 h with k | h
 ·have := Nat.eq_of_beq_eq_true k
  subst this
  rcases hp.2 3 ⟨3, rfl⟩ with k2 | k2 <;> omega
 rw [Bool.and_eq_true] at h
 have h1 := Nat.le_of_ble_eq_true h.1
 obtain ⟨b, hb, hne⟩ := anyNe_spec h.2
 refine hne (fermat_one hp fun hd => ?_)
 have hle : b ≤ 13 ∧ 0 < b := by
  simp only [List.mem_cons, List.not_mem_nil, or_false] at hb
  omega
 have := Nat.le_of_dvd hle.2 hd
 omega
/-- No prime but the witnesses among lo + 2 j, for 0 < j < k. -/
noncomputable def gapOk (W : List Nat) (lo k : Nat) : Bool := Nat.rec (motive := fun _ => Bool) true (fun i ih => and ih (or (Nat.beq i 0) (or (noPr (Nat.add lo (Nat.mul 2 i))) (List.elem (Nat.add lo (Nat.mul 2 i)) W)))) k
theorem gapOk_spec {W : List Nat} {lo : Nat} : ∀ {k j : Nat}, gapOk W lo k = true → 0 < j → j < k → ¬ isPr (lo + 2 * j) ∨ lo + 2 * j ∈ W
 | 0, j, _, _, hk => by omega
 | k + 1, j, h, h0, hk => by
  have h : (gapOk W lo k && (Nat.beq k 0 || (noPr (lo + 2 * k) || List.elem (lo + 2 * k) W))) = true := h
  rw [Bool.and_eq_true] at h
  rcases Nat.lt_or_ge j k with g | g
  ·exact gapOk_spec h.1 h0 g
  ·have : j = k := by omega
   subst this
   rcases (Bool.or_eq_true_iff).1 h.2 with x | x
   ·have := Nat.eq_of_beq_eq_true x; omega
   ·rcases (Bool.or_eq_true_iff).1 x with y | y
    ·exact .inl (noPr_spec y)
    ·exact .inr (List.elem_iff.1 y)
/-- The list falls; between its numbers, below u and above 1, there is no prime but the witnesses. -/
noncomputable def covOk (W : List Nat) (l : List (Nat × Nat)) : Nat → Bool := List.rec (motive := fun _ => Nat → Bool) (fun u => gapOk W 1 (Nat.div (Nat.sub u 1) 2))
 (fun p _ ih u => and (Nat.beq (Nat.mod p.1 2) 1) (and (gapOk W p.1 (Nat.div (Nat.sub u p.1) 2)) (ih p.1))) l
theorem covOk_spec {W : List Nat} {l : List (Nat × Nat)} : ∀ {u p : Nat}, covOk W l u = true → u % 2 = 1 → isPr p → p % 2 = 1 → p < u → p ∉ W → ∃ e, (p, e) ∈ l := by
 induction l with
 | nil =>
  intro u p h hu hp h2 hlt hW
  have h : gapOk W 1 ((u - 1) / 2) = true := h
  have h1 := hp.1
  rcases gapOk_spec (j := (p - 1) / 2) h (by omega) (by omega) with k | k
  ·exact absurd (by rwa [show 1 + 2 * ((p - 1) / 2) = p by omega]) k
  ·exact absurd (by rwa [show 1 + 2 * ((p - 1) / 2) = p by omega] at k) hW
 | cons a l ih =>
  intro u p h hu hp h2 hlt hW
  have h : ((Nat.beq (a.1 % 2) 1) && (gapOk W a.1 ((u - a.1) / 2) && covOk W l a.1)) = true := h
  rw [Bool.and_eq_true, Bool.and_eq_true] at h
  have ha := Nat.eq_of_beq_eq_true h.1
  rcases Nat.lt_trichotomy p a.1 with g | g | g
  ·obtain ⟨e, he⟩ := ih h.2.2 ha hp h2 g hW
   exact ⟨e, List.mem_cons_of_mem _ he⟩
  ·exact ⟨a.2, by rw [g]; exact List.mem_cons_self⟩
  ·rcases gapOk_spec (j := (p - a.1) / 2) h.2.1 (by omega) (by omega) with k | k
   ·exact absurd (by rwa [show a.1 + 2 * ((p - a.1) / 2) = p by omega]) k
   ·exact absurd (by rwa [show a.1 + 2 * ((p - a.1) / 2) = p by omega] at k) hW
/-- The greatest common divisor of the witnesses' powers less 1. -/
noncomputable def gcdW (W : List Nat) (k : Nat) : Nat := List.rec (motive := fun _ => Nat) 0 (fun b _ ih => Nat.gcd (Nat.sub (Nat.pow b k) 1) ih) W
theorem gcdW_dvd {W : List Nat} {k q : Nat} (h1 : 1 < q) (hb : ∀ b ∈ W, b ^ k % q = 1) : q ∣ gcdW W k := by
 induction W with
 | nil => exact Nat.dvd_zero q
 | cons b W ih =>
  refine Nat.dvd_gcd ?_ (ih fun c hc => hb c (List.mem_cons_of_mem _ hc))
  have h := hb b List.mem_cons_self
  have e := Nat.mod_add_div (b ^ k) q
  rw [h] at e
  show q ∣ b ^ k - 1
  exact ⟨b ^ k / q, by omega⟩
/-- The product of the great primes that are told for c. -/
noncomputable def lookup (X : List (Nat × Nat)) (c : Nat) : Nat := List.rec (motive := fun _ => Nat) 1 (fun p _ ih => cond (Nat.beq p.1 c) (Nat.mul p.2 ih) ih) X
/-- Trial division, no further than needed. -/
noncomputable def triOk (q : Nat) : Bool := cond (Nat.ble q 131071) (noDiv q 361 2) (cond (Nat.ble q 262143) (noDiv q 511 2) (cond (Nat.ble q 1048575) (noDiv q 1023 2) (noDiv q 2047 2)))
theorem triOk_spec {q : Nat} (h2 : 1 < q) (hq : q ≤ 4194303) (h : triOk q = true) : isPr q := by
 unfold triOk at h
 rcases h1 : Nat.ble q 131071 with _ | _
 ·rw [h1, cond_false] at h
  rcases h3 : Nat.ble q 262143 with _ | _
  ·rw [h3, cond_false] at h
   rcases h4 : Nat.ble q 1048575 with _ | _
   ·rw [h4, cond_false] at h; exact isPr_of (n := 2047) h2 (by omega) h
   ·rw [h4, cond_true] at h; exact isPr_of (n := 1023) h2 (by have := Nat.le_of_ble_eq_true h4; omega) h
  ·rw [h3, cond_true] at h; exact isPr_of (n := 511) h2 (by have := Nat.le_of_ble_eq_true h3; omega) h
 ·rw [h1, cond_true] at h; exact isPr_of (n := 361) h2 (by have := Nat.le_of_ble_eq_true h1; omega) h
/-- They are primes, and the products with their c do not pass. -/
noncomputable def tellOk (N : Nat) (T : Nat → Bool) (X : List (Nat × Nat)) : Bool := List.rec (motive := fun _ => Bool) true
 (fun p _ ih => and ih (and (Nat.ble 2 p.2) (and (Nat.ble p.2 4194303) (and (triOk p.2) (cond (Nat.ble N (Nat.mul p.2 p.1)) true (leafOk T (Nat.mul p.2 p.1))))))) X
theorem tellOk_append {N : Nat} {T : Nat → Bool} : ∀ {X Y : List (Nat × Nat)}, tellOk N T X = true → tellOk N T Y = true → tellOk N T (X ++ Y) = true
 | [], _, _, h => h
 | p :: X, Y, h, k => by
  have h : (tellOk N T X && (Nat.ble 2 p.2 && (Nat.ble p.2 4194303 && (triOk p.2 && cond (Nat.ble N (p.2 * p.1)) true (leafOk T (p.2 * p.1)))))) = true := h
  rw [Bool.and_eq_true] at h
  show (tellOk N T (X ++ Y) && (Nat.ble 2 p.2 && (Nat.ble p.2 4194303 && (triOk p.2 && cond (Nat.ble N (p.2 * p.1)) true (leafOk T (p.2 * p.1)))))) = true
  rw [Bool.and_eq_true]
  exact ⟨tellOk_append h.1 k, h.2⟩
theorem pr_pow {q x : Nat} (hq : isPr q) : ∀ k, q ∣ x ^ k → q ∣ x
 | 0, h => by have := Nat.dvd_one.1 h; have := hq.1; omega
 | k + 1, h => by
  rw [Nat.pow_succ] at h
  rcases pr_mul hq h with g | g
  ·exact pr_pow hq k g
  ·exact g
theorem lookup_spec {N : Nat} {T : Nat → Bool} {X : List (Nat × Nat)} {c q : Nat} (hq : isPr q) (h : tellOk N T X = true) (hd : q ∣ lookup X c) (hN : q * c < N) : leafOk T (q * c) = true := by
 induction X with
 | nil => have := Nat.dvd_one.1 hd; have := hq.1; omega
 | cons p X ih =>
  have h : (tellOk N T X && (Nat.ble 2 p.2 && (Nat.ble p.2 4194303 && (triOk p.2 && cond (Nat.ble N (p.2 * p.1)) true (leafOk T (p.2 * p.1)))))) = true := h
  rw [Bool.and_eq_true, Bool.and_eq_true, Bool.and_eq_true, Bool.and_eq_true] at h
  obtain ⟨h0, a2, a3, a4, a5⟩ := h
  have hd : q ∣ cond (Nat.beq p.1 c) (p.2 * lookup X c) (lookup X c) := hd
  rcases hc : Nat.beq p.1 c with _ | _
  ·rw [hc, cond_false] at hd
   exact ih h0 hd
  ·rw [hc, cond_true] at hd
   rcases pr_mul hq hd with b3 | b3
   ·have t2 := Nat.le_of_ble_eq_true a2
    have t3 := Nat.le_of_ble_eq_true a3
    have hpt : isPr p.2 := triOk_spec (by omega) t3 a4
    have ec := Nat.eq_of_beq_eq_true hc
    rcases hpt.2 q b3 with k | k
    ·have := hq.1; omega
    ·rw [← k, ec] at a5
     have hb : Nat.ble N (q * c) = false := by
      rcases hh : Nat.ble N (q * c) with _ | _
      ·rfl
      ·exact absurd (Nat.le_of_ble_eq_true hh) (by omega)
     rw [hb, cond_false] at a5
     exact a5
   ·exact ih h0 b3
/-- No great prime divides the powers less 1, but those that are told. -/
noncomputable def farOk (W : List Nat) (P : Nat) (X : List (Nat × Nat)) (c : Nat) : Bool :=
 (fun g => (fun y => cond (Nat.beq y 0) true (Nat.beq (Nat.mod (Nat.mul y (lookup X c)) g) 0)) (Nat.mod (Nat.pow (Nat.mod P g) 64) g)) (gcdW W (Nat.sub c 1))
theorem farOk_spec {N : Nat} {T : Nat → Bool} {W : List Nat} {P c q : Nat} {X : List (Nat × Nat)} (h : farOk W P X c = true) (hX : tellOk N T X = true) (hq : isPr q) (hP : ¬ q ∣ P) (hb : ∀ b ∈ W, b ^ (c - 1) % q = 1) (hN : q * c < N) : leafOk T (q * c) = true := by
 have hg := gcdW_dvd hq.1 hb
 unfold farOk at h
 rw [show Nat.sub c 1 = c - 1 from rfl] at h
 generalize gcdW W (c - 1) = g at hg h
 have h : (cond (Nat.beq ((P % g) ^ 64 % g) 0) true (Nat.beq ((P % g) ^ 64 % g * lookup X c % g) 0)) = true := h
 have key : ¬ q ∣ (P % g) ^ 64 % g := fun k => by
  have k1 : q ∣ (P % g) ^ 64 := (Nat.dvd_mod_iff hg).1 k
  have k2 := pr_pow hq 64 k1
  exact hP ((Nat.dvd_mod_iff hg).1 k2)
 rcases hy : Nat.beq ((P % g) ^ 64 % g) 0 with _ | _
 ·rw [hy, cond_false] at h
  have b1 : g ∣ (P % g) ^ 64 % g * lookup X c := Nat.dvd_of_mod_eq_zero (Nat.eq_of_beq_eq_true h)
  exact lookup_spec hq hX ((pr_mul hq (Nat.dvd_trans hg b1)).resolve_left key) hN
 ·exact absurd (Nat.eq_of_beq_eq_true hy ▸ Nat.dvd_zero q) key
noncomputable def farAll (W : List Nat) (P : Nat) (X : List (Nat × Nat)) (lo k : Nat) : Bool := Nat.rec (motive := fun _ => Bool) true (fun i ih => and ih (farOk W P X (Nat.add lo (Nat.mul 2 i)))) k
theorem farAll_spec {W : List Nat} {P lo : Nat} {X : List (Nat × Nat)} : ∀ {k i : Nat}, farAll W P X lo k = true → i < k → farOk W P X (lo + 2 * i) = true
 | 0, i, _, h => by omega
 | k + 1, i, h, hi => by
  have h : (farAll W P X lo k && farOk W P X (lo + 2 * k)) = true := h
  rw [Bool.and_eq_true] at h
  rcases Nat.lt_or_ge i k with g | g
  ·exact farAll_spec h.1 g
  ·have : i = k := by omega
   subst this; exact h.2
/-- The product of the list's numbers. -/
noncomputable def prodL (l : List (Nat × Nat)) : Nat := List.rec (motive := fun _ => Nat) 1 (fun p _ ih => Nat.mul p.1 ih) l
theorem prodL_dvd {l : List (Nat × Nat)} {q : Nat} (hq : isPr q) (h : q ∣ prodL l) : ∃ p ∈ l, q ∣ p.1 := by
 induction l with
 | nil => have := Nat.dvd_one.1 h; have := hq.1; omega
 | cons a l ih =>
  have h : q ∣ a.1 * prodL l := h
  rcases pr_mul hq h with g | g
  ·exact ⟨a, List.mem_cons_self, g⟩
  ·obtain ⟨p, hp, hd⟩ := ih g
   exact ⟨p, List.mem_cons_of_mem _ hp, hd⟩
theorem passes_prime {T : Nat → Bool} {W : List Nat} {l X : List (Nat × Nat)} {P : Nat} (hT : ∀ n, T n = true → Pass W n) (h2 : 2 ∈ W) (hl : listOk W l = true) (hc : covOk W l 65537 = true) (hs : descOk l 65537 = true)
  (hP : Nat.beq (prodL l) P = true) (hfar : ∀ c, 2 < c → c < 65536 → c % 2 = 1 → farOk W P X c = true) (hX : tellOk 4294967296 T X = true) (hgo : HA 4294967296 T l)
  {n : Nat} (h1 : 1 < n) (hn : n < 4294967296) (ho : n % 2 = 1) (ht : T n = true) : isPr n := by
 refine Classical.byContradiction fun hnp => ?_
 have hp := hT n ht
 obtain ⟨q, hq, hqn, hmax⟩ := greatest_prime h1
 have hqn' := hqn
 obtain ⟨c, hc'⟩ := hqn
 have hq1 := hq.1
 have hc0 : 0 < c := Nat.pos_of_ne_zero fun g => by subst g; omega
 have hnq : n ≠ q := fun g => hnp (g ▸ hq)
 have hc1 : c ≠ 1 := fun g => by subst g; rw [Nat.mul_one] at hc'; exact hnq hc'
 have hco : c % 2 = 1 := by
  rcases Nat.mod_two_eq_zero_or_one c with g | g
  ·exfalso
   have : n % 2 = 0 := by rw [hc', Nat.mul_mod, g, Nat.mul_zero]
   omega
  ·exact g
 have hin : ∀ p, isPr p → p ∣ n → p < 65537 → ∃ e, (p, e) ∈ l := fun p hpp hpd hlt => by
  have hodd : p % 2 = 1 := by
   rcases Nat.mod_two_eq_zero_or_one p with k | k
   ·exfalso
    have : n % 2 = 0 := Nat.mod_eq_zero_of_dvd (Nat.dvd_trans (Nat.dvd_of_mod_eq_zero k) hpd)
    omega
   ·exact k
  exact covOk_spec hc (by decide) hpp hodd hlt (fun hw => not_dvd_w hp hpp hpd h1 hw (Nat.dvd_refl p))
 have hents := listOk_spec hl
 rcases Nat.lt_or_ge q 65537 with g | g
 ·obtain ⟨e, he⟩ := hin q hq hqn' g
  obtain ⟨hent, he0⟩ := hents (q, e) he
  obtain ⟨a, b, hab⟩ := List.append_of_mem he
  have hh := hgo a q e b hab
  have hqle : q ≤ n := by rw [hc']; exact Nat.le_mul_of_pos_right _ hc0
  have hb0 : Nat.ble 4294967296 q = false := by
   rcases hx : Nat.ble 4294967296 q with _ | _
   ·rfl
   ·exact absurd (Nat.le_of_ble_eq_true hx) (by omega)
  have hh : cond (Nat.ble 4294967296 q) true (cond (Nat.ble (4294967296 / (q * e)) (q / 2)) (leaves 4294967296 (butQ T q) q e) (go 4294967296 (butQ T q) b q e)) = true := hh
  rw [hb0, cond_false] at hh
  have htq := butQ_of (q := q) ht hnq
  have hd := hent.pred hp hq hqn' h1
  rcases hx : Nat.ble (4294967296 / (q * e)) (q / 2) with _ | _
  ·rw [hx, cond_false] at hh
   refine hnq (go_spec (fun m hm => hT m (butQ_T hm)) h2 hn h1 htq b (fun p hpb => hents p (by rw [hab]; simp [hpb])) q e he0 hh hqn' hd (fun p hpp hpd => ?_))
   rw [hc', Nat.mul_div_cancel_left _ (by omega)] at hpd
   have hpn : p ∣ n := by rw [hc']; exact Nat.dvd_mul_left_of_dvd hpd q
   have hple := hmax p hpp hpn
   have hpne : p ≠ q := fun k => by
    subst k
    obtain ⟨t, ht'⟩ := hpd
    exact hent.once hp hq hqn' h1 ⟨t, by rw [hc', ht', Nat.mul_assoc]⟩
   obtain ⟨e', he'⟩ := hin p hpp hpn (by omega)
   rw [hab] at he'
   rcases List.mem_append.1 he' with k | k
   ·rw [hab] at hs
    have := descOk_front hs _ k
    have h5 : q < p := this
    omega
   ·rcases List.mem_cons.1 k with k | k
    ·exact absurd (by injection k) hpne
    ·exact ⟨e', k⟩
  ·rw [hx, cond_true] at hh
   have := leafOk_spec (leaves_spec hh he0 hqn' hn h1 hd) (hp 2 h2)
   rw [htq] at this; cases this
 ·have hcs : c < 65536 := by
   rcases Nat.lt_or_ge c 65536 with k | k
   ·exact k
   ·have := Nat.mul_le_mul g k
    omega
  have hk := farOk_spec (hfar c (by omega) hcs hco) hX hq (fun k => by
   rw [← Nat.eq_of_beq_eq_true hP] at k
   obtain ⟨p, hp', hpd⟩ := prodL_dvd hq k
   have := descOk_all hs p hp'
   have := Nat.le_of_dvd this.2 hpd
   omega) (fun b hb => psp_prime hq hc' hc0 (hp b hb)) (by omega)
  rw [← hc'] at hk
  have := leafOk_spec hk (hp 2 h2)
  rw [ht] at this; cases this
end Go.Proofs.YtfmakoiiibacjaaDoor
namespace Go.Proofs.YtfmakoiiibacjaaDoor
/-- The k-th root of the power n - 1: it is n - 1, or 1 and the last. -/
def rootOk (b n k : Nat) : Bool := cond (Nat.beq (Nat.mod (Nat.sub n 1) (Nat.pow 2 k)) 0)
 ((fun x => or (Nat.beq x (Nat.sub n 1)) (and (Nat.beq x 1) (Nat.beq (Nat.mod (Nat.div (Nat.sub n 1) (Nat.pow 2 k)) 2) 1))) (pwb b n (Nat.div (Nat.sub n 1) (Nat.pow 2 k)))) false
/-- The strong test to the base b. -/
noncomputable def strong (b n : Nat) : Bool := Nat.rec (motive := fun _ => Bool) false (fun i ih => or (rootOk b n (Nat.succ i)) ih) 32
theorem strong_some {b n : Nat} : ∀ {K : Nat}, (Nat.rec (motive := fun _ => Bool) false (fun i ih => or (rootOk b n (Nat.succ i)) ih) K : Bool) = true → ∃ k, 0 < k ∧ k ≤ K ∧ rootOk b n k = true
 | 0, h => by cases h
 | K + 1, h => by
  have h : (rootOk b n (K + 1) || (Nat.rec (motive := fun _ => Bool) false (fun i ih => or (rootOk b n (Nat.succ i)) ih) K : Bool)) = true := h
  rcases Bool.or_eq_true_iff.1 h with g | g
  ·exact ⟨K + 1, by omega, by omega, g⟩
  ·obtain ⟨k, h1, h2, h3⟩ := strong_some g
   exact ⟨k, h1, by omega, h3⟩
theorem pred_sq {n : Nat} (h : 1 < n) : (n - 1) * (n - 1) % n = 1 := by
 obtain ⟨m, rfl⟩ : ∃ m, n = m + 2 := ⟨n - 2, by omega⟩
 have : (m + 2 - 1) * (m + 2 - 1) = 1 + (m + 2) * m := by
  rw [show m + 2 - 1 = m + 1 by omega]; grind
 rw [this, Nat.add_mul_mod_self_left, Nat.mod_eq_of_lt h]
theorem rootOk_pass {b n k : Nat} (h1 : 1 < n) (h0 : 0 < k) (h : rootOk b n k = true) : b ^ (n - 1) % n = 1 := by
 unfold rootOk at h
 rw [pwb_eq] at h
 have h : cond (Nat.beq ((n - 1) % 2 ^ k) 0) (Nat.beq (b ^ ((n - 1) / 2 ^ k) % n) (n - 1) || (Nat.beq (b ^ ((n - 1) / 2 ^ k) % n) 1 && Nat.beq ((n - 1) / 2 ^ k % 2) 1)) false = true := h
 rcases hd : Nat.beq ((n - 1) % 2 ^ k) 0 with _ | _
 ·rw [hd] at h; cases h
 ·rw [hd, cond_true] at h
  have e : 2 ^ k * ((n - 1) / 2 ^ k) = n - 1 := Nat.mul_div_cancel' (Nat.dvd_of_mod_eq_zero (Nat.eq_of_beq_eq_true hd))
  have e2 : b ^ (n - 1) % n = (b ^ ((n - 1) / 2 ^ k) % n) ^ 2 ^ k % n := by rw [← Nat.pow_mod, ← Nat.pow_mul, Nat.mul_comm, e]
  rcases Bool.or_eq_true_iff.1 h with g | g
  ·rw [e2, Nat.eq_of_beq_eq_true g]
   obtain ⟨j, rfl⟩ : ∃ j, k = j + 1 := ⟨k - 1, by omega⟩
   rw [Nat.pow_succ, Nat.mul_comm, Nat.pow_mul, show (n - 1) ^ 2 = (n - 1) * (n - 1) from Nat.pow_two _, Nat.pow_mod, pred_sq h1, Nat.one_pow, Nat.mod_eq_of_lt h1]
  ·rw [Bool.and_eq_true] at g
   rw [e2, Nat.eq_of_beq_eq_true g.1, Nat.one_pow, Nat.mod_eq_of_lt h1]
/-- n passes the strong test to all bases. -/
noncomputable def strongT (W : List Nat) (n : Nat) : Bool := and (Nat.ble 2 n) (List.rec (motive := fun _ => Bool) true (fun b _ ih => and (strong b n) ih) W)
theorem strongT_pass {W : List Nat} (n : Nat) (h : strongT W n = true) : Pass W n := by
 unfold strongT at h
 rw [Bool.and_eq_true] at h
 have h1 : 1 < n := Nat.le_of_ble_eq_true h.1
 have h2 := h.2
 clear h
 intro b hb
 induction W with
 | nil => simp at hb
 | cons a W ih =>
  have h3 : (strong a n && (List.rec (motive := fun _ => Bool) true (fun b _ ih => and (strong b n) ih) W : Bool)) = true := h2
  rw [Bool.and_eq_true] at h3
  rcases List.mem_cons.1 hb with rfl | k
  ·obtain ⟨k, k0, _, hk⟩ := strong_some (b := b) (n := n) (K := 32) h3.1
   exact rootOk_pass h1 k0 hk
  ·exact ih h3.2 k
end Go.Proofs.YtfmakoiiibacjaaDoor
namespace Go.Proofs.YtfmakoiiibacjaaDoor
theorem dvd_sub_mod {u v p : Nat} (h : u ≤ v) : p ∣ v - u ↔ v % p = u % p := by
 constructor
 ·rintro ⟨k, hk⟩
  rw [show v = u + p * k by omega, Nat.add_mul_mod_self_left]
 ·intro e; exact Nat.dvd_of_mod_eq_zero (Nat.sub_mod_eq_zero_of_mod_eq e)
theorem mod_add_cancel {a b c p : Nat} (h : (a + c) % p = (b + c) % p) : a % p = b % p := by
 rcases Nat.le_total a b with g | g
 ·have := (dvd_sub_mod (show a + c ≤ b + c by omega)).2 h.symm
  rw [show b + c - (a + c) = b - a by omega] at this
  exact ((dvd_sub_mod g).1 this).symm
 ·have := (dvd_sub_mod (show b + c ≤ a + c by omega)).2 h
  rw [show a + c - (b + c) = a - b by omega] at this
  exact (dvd_sub_mod g).1 this
/-- The residue of n modulo p; it is 0 modulo 0. -/
def rsd (n p : Nat) : Nat := if p = 0 then 0 else n % p
theorem rsd_zero (n : Nat) : rsd n 0 = 0 := rfl
theorem rsd_pos {n p : Nat} (h : p ≠ 0) : rsd n p = n % p := if_neg h
theorem rsd_lt {n p : Nat} (h : p ≠ 0) : rsd n p < p := by rw [rsd_pos h]; exact Nat.mod_lt _ (by omega)
theorem rsd_le (n p : Nat) : rsd n p ≤ p := by
 rcases Nat.eq_zero_or_pos p with rfl | h
 ·exact Nat.le_refl _
 ·exact Nat.le_of_lt (rsd_lt (by omega))
theorem rsd_add_l (a b p : Nat) : rsd (rsd a p + b) p = rsd (a + b) p := by
 unfold rsd; split
 ·rfl
 ·rw [Nat.mod_add_mod]
theorem rsd_add_r (a b p : Nat) : rsd (a + rsd b p) p = rsd (a + b) p := by
 unfold rsd; split
 ·rfl
 ·rw [Nat.add_mod_mod]
theorem rsd_mul_l (a b p : Nat) : rsd (rsd a p * b) p = rsd (a * b) p := by
 unfold rsd; split
 ·rfl
 ·rw [Nat.mod_mul_mod]
theorem rsd_mul_r (a b p : Nat) : rsd (a * rsd b p) p = rsd (a * b) p := by rw [Nat.mul_comm, rsd_mul_l, Nat.mul_comm]
theorem rsd_rsd (a p : Nat) : rsd (rsd a p) p = rsd a p := by
 unfold rsd; split
 ·rfl
 ·rw [Nat.mod_mod]
theorem rsd_pow (a n p : Nat) : rsd (rsd a p ^ n) p = rsd (a ^ n) p := by
 unfold rsd; split
 ·rfl
 ·rw [← Nat.pow_mod]
/-- What Sub returns. -/
def subN (a b p : Nat) : Nat := rsd (a + (p - rsd b p)) p
theorem subN_add (a b p : Nat) : rsd (subN a b p + b) p = rsd a p := by
 unfold subN
 rw [rsd_add_l, ← rsd_add_r]
 have := rsd_le b p
 rw [show a + (p - rsd b p) + rsd b p = a + p by omega]
 unfold rsd; split
 ·rfl
 ·rw [Nat.add_mod_right]
theorem bezout (a b : Nat) : ∃ x y : Int, x * a + y * b = (Nat.gcd a b : Nat) := by
 induction a, b using Nat.gcd.induction with
 | H0 n => exact ⟨0, 1, by rw [Nat.gcd_zero_left]; omega⟩
 | H1 m n hm ih =>
  obtain ⟨x, y, h⟩ := ih
  refine ⟨y - x * ((n / m : Nat) : Int), x, ?_⟩
  rw [Nat.gcd_rec, ← h]
  have e : (n : Int) = (m : Int) * ((n / m : Nat) : Int) + ((n % m : Nat) : Int) := by exact_mod_cast (Nat.div_add_mod n m).symm
  generalize ((n / m : Nat) : Int) = q at *
  generalize ((n % m : Nat) : Int) = r at *
  rw [e]; grind
/-- What Inv returns: the inverse, if there is one. -/
def IsInv (a p v : Nat) (ok : Bool) : Prop := (ok = true ∧ v < p ∧ a * v % p = 1 % p) ∨ (ok = false ∧ v = 0 ∧ (p = 0 ∨ Nat.gcd a p ≠ 1))
theorem inv_gcd {a p v : Nat} (hv : a * v % p = 1 % p) (h0 : 0 < p) : Nat.gcd a p = 1 := by
 have h1 : Nat.gcd a p ∣ a * v := Nat.dvd_trans (Nat.gcd_dvd_left _ _) (Nat.dvd_mul_right _ _)
 have h2 : Nat.gcd a p ∣ a * v % p := (Nat.dvd_mod_iff (Nat.gcd_dvd_right _ _)).2 h1
 rw [hv] at h2
 exact Nat.dvd_one.1 ((Nat.dvd_mod_iff (Nat.gcd_dvd_right _ _)).1 h2)
theorem mul_cancel_mod {a v u p : Nat} (h0 : 0 < p) (hg : Nat.gcd a p = 1) (h : a * v % p = a * u % p) : v % p = u % p := by
 rcases Nat.le_total u v with g | g
 ·have h1 : p ∣ a * v - a * u := (dvd_sub_mod (Nat.mul_le_mul_left a g)).2 h
  rw [← Nat.mul_sub] at h1
  have h2 : p ∣ v - u := Nat.Coprime.dvd_of_dvd_mul_left (Nat.Coprime.symm hg) h1
  exact (dvd_sub_mod g).1 h2
 ·have h1 : p ∣ a * u - a * v := (dvd_sub_mod (Nat.mul_le_mul_left a g)).2 h.symm
  rw [← Nat.mul_sub] at h1
  have h2 : p ∣ u - v := Nat.Coprime.dvd_of_dvd_mul_left (Nat.Coprime.symm hg) h1
  exact ((dvd_sub_mod g).1 h2).symm
theorem IsInv.uniq {a p v u : Nat} {x y : Bool} (h : IsInv a p v x) (k : IsInv a p u y) : v = u ∧ x = y := by
 rcases h with ⟨rfl, h1, h2⟩ | ⟨rfl, rfl, h1⟩ <;> rcases k with ⟨rfl, k1, k2⟩ | ⟨rfl, rfl, k1⟩
 ·have := mul_cancel_mod (by omega) (inv_gcd h2 (by omega)) (h2.trans k2.symm)
  rw [Nat.mod_eq_of_lt h1, Nat.mod_eq_of_lt k1] at this
  exact ⟨this, rfl⟩
 ·rcases k1 with k1 | k1
  ·omega
  ·exact absurd (inv_gcd h2 (by omega)) k1
 ·rcases h1 with h1 | h1
  ·omega
  ·exact absurd (inv_gcd k2 (by omega)) h1
 ·exact ⟨rfl, rfl⟩
theorem IsInv.ex (a p : Nat) : ∃ vo : Nat × Bool, IsInv a p vo.1 vo.2 := by
 by_cases h0 : p = 0
 ·exact ⟨(0, false), .inr ⟨rfl, rfl, .inl h0⟩⟩
 by_cases hg : Nat.gcd a p = 1
 ·obtain ⟨x, y, h⟩ := bezout a p
  rw [hg] at h
  have hp : (p : Int) ≠ 0 := by omega
  refine ⟨((x % p).toNat, true), .inl ⟨rfl, ?_, ?_⟩⟩
  ·have := Int.emod_lt_of_pos x (show (0 : Int) < p by omega); have := Int.emod_nonneg x hp; show (x % p).toNat < p; omega
  ·have e : (((x % p).toNat : Nat) : Int) = x % p := Int.toNat_of_nonneg (Int.emod_nonneg x hp)
   have : ((a * (x % p).toNat % p : Nat) : Int) = ((1 % p : Nat) : Int) := by
    push_cast
    rw [e, Int.mul_emod, Int.emod_emod, ← Int.mul_emod, show (a : Int) * x = 1 + p * (-y) by have : ((1 : Nat) : Int) = 1 := rfl; grind, Int.add_mul_emod_self_left]
   exact_mod_cast this
 ·exact ⟨(0, false), .inr ⟨rfl, rfl, .inr hg⟩⟩
noncomputable def invV (a p : Nat) : Nat := (IsInv.ex a p).choose.1
noncomputable def invB (a p : Nat) : Bool := (IsInv.ex a p).choose.2
theorem inv_is (a p : Nat) : IsInv a p (invV a p) (invB a p) := (IsInv.ex a p).choose_spec
theorem inv_eq {a p v : Nat} {ok : Bool} (h : IsInv a p v ok) : invV a p = v ∧ invB a p = ok := (inv_is a p).uniq h
theorem inv_lt (a p : Nat) (hp : p < 4294967296) : invV a p < 4294967296 := by
 rcases inv_is a p with ⟨-, h, -⟩ | ⟨-, h, -⟩ <;> omega
/-- What Euclid's algorithm keeps: g and d are a x and a y modulo p. -/
structure EucI (a p g d x y : Nat) : Prop where
 hg : Nat.gcd g d = Nat.gcd a p
 e1 : g % p = a * x % p
 e2 : d % p = a * y % p
 gp : g ≤ p
 dl : d < p ∨ d = 0
 xl : x < p
 yl : d ≠ 0 → y < p
theorem EucI.start {a p : Nat} (h : p ≠ 0) : EucI a p p (rsd a p) 0 1 := by
 have hl := rsd_lt (n := a) h
 refine ⟨by rw [rsd_pos h, Nat.gcd_comm, ← Nat.gcd_rec, Nat.gcd_comm], by rw [Nat.mod_self, Nat.mul_zero, Nat.zero_mod], by rw [rsd_pos h, Nat.mod_mod, Nat.mul_one], Nat.le_refl _, .inl hl, by omega, fun g => ?_⟩
 rcases Nat.lt_or_ge 1 p with k | k
 ·exact k
 ·omega
theorem EucI.step {a p g d x y : Nat} (h : EucI a p g d x y) (h0 : p ≠ 0) (hd : d ≠ 0) : EucI a p d (g % d) y (subN x (rsd (g / d * y) p) p) := by
 have hlt := Nat.mod_lt g (show 0 < d by omega)
 have hdp : d < p := by rcases h.dl with k | k <;> omega
 refine ⟨by rw [← h.hg, Nat.gcd_comm g d, Nat.gcd_rec d g, Nat.gcd_comm], h.e2, ?_, by omega, .inl (by omega), h.yl hd, fun _ => by unfold subN; exact rsd_lt h0⟩
 have h1 := subN_add x (rsd (g / d * y) p) p
 rw [rsd_add_r] at h1
 generalize subN x (rsd (g / d * y) p) p = z at *
 rw [rsd_pos h0, rsd_pos h0] at h1
 have h2 : (g % d + g / d * d) % p = (a * z + g / d * d) % p := by
  rw [Nat.mul_comm (g / d) d, Nat.mod_add_div, h.e1, Nat.mul_mod, ← h1, ← Nat.mul_mod, Nat.mul_add, ← Nat.add_mod_mod (a * z) (d * (g / d)), Nat.mul_mod d, h.e2, ← Nat.mul_mod, Nat.add_mod_mod, show a * y * (g / d) = a * (g / d * y) by grind]
 exact mod_add_cancel h2
theorem EucI.ok {a p g x y : Nat} (h : EucI a p g 0 x y) (h0 : p ≠ 0) (h1 : g = 1) : IsInv a p x true :=
 .inl ⟨rfl, h.xl, by rw [← h.e1, h1]⟩
theorem EucI.no {a p g x y : Nat} (h : EucI a p g 0 x y) (h1 : g ≠ 1) : IsInv a p 0 false :=
 .inr ⟨rfl, rfl, .inr (by rw [← h.hg, Nat.gcd_zero_right]; exact h1)⟩
/-- Whether n is a prime. -/
noncomputable def prB (n : Nat) : Bool := @decide (isPr n) (Classical.propDecidable _)
theorem prB_iff {n : Nat} : prB n = true ↔ isPr n := @decide_eq_true_iff _ (Classical.propDecidable _)
theorem prB_of {n : Nat} (h : isPr n) : prB n = true := prB_iff.2 h
theorem prB_no {n : Nat} (h : ¬ isPr n) : prB n = false := by
 rcases hb : prB n with _ | _
 ·rfl
 ·exact absurd (prB_iff.1 hb) h
theorem pr_odd {n : Nat} (h : isPr n) (h2 : n ≠ 2) : n % 2 = 1 := by
 rcases Nat.mod_two_eq_zero_or_one n with g | g
 ·rcases h.2 2 (Nat.dvd_of_mod_eq_zero g) with k | k <;> omega
 ·exact g
/-- A square root of 1 modulo a prime. -/
theorem sq_one {n x : Nat} (hn : isPr n) (h : x * x % n = 1) : x % n = 1 ∨ x % n = n - 1 := by
  have h1 := hn.1
  have hx : 0 < x := by rcases Nat.eq_zero_or_pos x with rfl | g; · rw [Nat.mul_zero, Nat.zero_mod] at h; omega
                        · exact g
  have h2 : n ∣ x * x - 1 := (dvd_sub_mod (Nat.mul_pos hx hx)).2 (show x * x % n = 1 % n by rw [h, Nat.mod_eq_of_lt h1])
  have h3 : x * x - 1 = (x - 1) * (x + 1) := by
    obtain ⟨k, rfl⟩ : ∃ k, x = k + 1 := ⟨x - 1, by omega⟩
    rw [Nat.add_sub_cancel, show (k + 1) * (k + 1) = k * (k + 1 + 1) + 1 by grind, Nat.add_sub_cancel]
  rw [h3] at h2
  rcases pr_mul hn h2 with g | g
  · left
    rw [(dvd_sub_mod (show 1 ≤ x from hx)).1 g, Nat.mod_eq_of_lt h1]
  · right
    obtain ⟨k, hk⟩ := g
    have hk0 : 0 < k := by rcases Nat.eq_zero_or_pos k with rfl | q; · omega
                           · exact q
    obtain ⟨j, rfl⟩ : ∃ j, k = j + 1 := ⟨k - 1, by omega⟩
    rw [show x = n - 1 + n * j by rw [Nat.mul_succ] at hk; omega, Nat.add_mul_mod_self_left, Nat.mod_eq_of_lt (by omega)]
/-- A prime passes the strong test. -/
theorem prime_strong {n b m : Nat} (hn : isPr n) (hb : ¬ n ∣ b) : ∀ {h : Nat}, n - 1 = m * 2 ^ h → b ^ m % n = 1 ∨ ∃ i, i < h ∧ b ^ (m * 2 ^ i) % n = n - 1 := by
 intro h e
 have hone : ∀ j, j ≤ h → (∀ i, i < h → b ^ (m * 2 ^ i) % n ≠ n - 1) → b ^ (m * 2 ^ (h - j)) % n = 1 := by
  intro j
  induction j with
  | zero => intro _ _; rw [Nat.sub_zero, ← e]; exact fermat_one hn hb
  | succ j ih =>
   intro hj hne
   have h1 := ih (by omega) hne
   have e2 : m * 2 ^ (h - j) = m * 2 ^ (h - (j + 1)) + m * 2 ^ (h - (j + 1)) := by
    rw [show h - j = (h - (j + 1)) + 1 by omega, Nat.pow_succ]; grind
   rw [e2, Nat.pow_add] at h1
   rcases sq_one hn h1 with g | g
   ·exact g
   ·exact absurd g (hne _ (by omega))
 by_cases g : ∃ i, i < h ∧ b ^ (m * 2 ^ i) % n = n - 1
 ·exact .inr g
 ·left
  have := hone h (Nat.le_refl _) (fun i hi hc => g ⟨i, hi, hc⟩)
  rwa [Nat.sub_self, Nat.pow_zero, Nat.mul_one] at this
theorem strong_of {b n k : Nat} (h : rootOk b n k = true) (h0 : 0 < k) (hk : k ≤ 32) : strong b n = true := by
 have : ∀ K, k ≤ K → (Nat.rec (motive := fun _ => Bool) false (fun i ih => or (rootOk b n (Nat.succ i)) ih) K : Bool) = true := by
  intro K
  induction K with
  | zero => intro g; omega
  | succ K ih =>
   intro g
   show (rootOk b n (K + 1) || _) = true
   rw [Bool.or_eq_true]
   by_cases e : k = K + 1
   ·left; rw [← e]; exact h
   ·right; exact ih (by omega)
 exact this 32 hk
theorem rootOk_one {b n m h : Nat} (e : n - 1 = m * 2 ^ h) (ho : m % 2 = 1) (hp : b ^ m % n = 1) : rootOk b n h = true := by
 unfold rootOk
 rw [pwb_eq]
 have e0 : Nat.mod (Nat.sub n 1) (Nat.pow 2 h) = 0 := by show (n - 1) % 2 ^ h = 0; rw [e, Nat.mul_mod_left]
 have e1 : Nat.div (Nat.sub n 1) (Nat.pow 2 h) = m := by show (n - 1) / 2 ^ h = m; rw [e, Nat.mul_div_cancel _ (Nat.two_pow_pos h)]
 rw [e0, e1, hp]
 have e2 : Nat.mod m 2 = 1 := ho
 rw [e2]
 show cond true (_ || (true && true)) false = true
 rw [cond_true]; simp
theorem rootOk_neg {b n m h i : Nat} (e : n - 1 = m * 2 ^ h) (hi : i < h) (hp : b ^ (m * 2 ^ i) % n = n - 1) : rootOk b n (h - i) = true := by
 have e3 : n - 1 = m * 2 ^ i * 2 ^ (h - i) := by rw [Nat.mul_assoc, ← Nat.pow_add, show i + (h - i) = h by omega, e]
 unfold rootOk
 rw [pwb_eq]
 have e0 : Nat.mod (Nat.sub n 1) (Nat.pow 2 (h - i)) = 0 := by show (n - 1) % 2 ^ (h - i) = 0; rw [e3, Nat.mul_mod_left]
 have e1 : Nat.div (Nat.sub n 1) (Nat.pow 2 (h - i)) = m * 2 ^ i := by show (n - 1) / 2 ^ (h - i) = m * 2 ^ i; rw [e3, Nat.mul_div_cancel _ (Nat.two_pow_pos _)]
 rw [e0, e1, hp]
 show cond true (Nat.beq (n - 1) (n - 1) || _) false = true
 rw [cond_true, Nat.beq_refl, Bool.true_or]
theorem strongT_three {n : Nat} (h1 : 2 ≤ n) (h2 : strong 2 n = true) (h7 : strong 7 n = true) (h61 : strong 61 n = true) : strongT [2, 7, 61] n = true := by
 unfold strongT
 show (Nat.ble 2 n && (strong 2 n && (strong 7 n && (strong 61 n && true)))) = true
 rw [h2, h7, h61, Nat.ble_eq_true_of_le h1]; rfl
theorem not_pr_dvd {n d : Nat} (h : d ∣ n) (h2 : 2 ≤ d) (hd : d < n) : ¬ isPr n := fun k => by
 rcases k.2 d h with g | g <;> omega
/-- The least prime above n, below 2^31. -/
def IsNext (n q : Nat) (e : Int) : Prop := (e = 0 ∧ n < q ∧ q < 2147483648 ∧ isPr q ∧ ∀ i, n < i → i < q → ¬ isPr i) ∨ (e = 3 ∧ q = 0 ∧ ∀ i, n < i → i < 2147483648 → ¬ isPr i)
theorem IsNext.uniq {n q r : Nat} {e f : Int} (h : IsNext n q e) (k : IsNext n r f) : q = r ∧ e = f := by
 rcases h with ⟨rfl, a1, a2, a3, a4⟩ | ⟨rfl, rfl, a⟩ <;> rcases k with ⟨rfl, b1, b2, b3, b4⟩ | ⟨rfl, rfl, b⟩
 ·refine ⟨?_, rfl⟩
  rcases Nat.lt_trichotomy q r with g | g | g
  ·exact absurd a3 (b4 q a1 g)
  ·exact g
  ·exact absurd b3 (a4 r b1 g)
 ·exact absurd a3 (b q a1 a2)
 ·exact absurd b3 (a r b1 b2)
 ·exact ⟨rfl, rfl⟩
theorem IsNext.ex (n : Nat) : ∃ qe : Nat × Int, IsNext n qe.1 qe.2 := by
 have : ∀ k d, k + d = 2147483648 → (∀ i, n < i → i < d → ¬ isPr i) → n < d → ∃ qe : Nat × Int, IsNext n qe.1 qe.2 := by
  intro k
  induction k with
  | zero => intro d hd hlo _; exact ⟨(0, 3), .inr ⟨rfl, rfl, fun i h1 h2 => hlo i h1 (by omega)⟩⟩
  | succ k ih =>
   intro d hd hlo hn
   by_cases g : isPr d
   ·exact ⟨(d, 0), .inl ⟨rfl, hn, by show d < _; omega, g, hlo⟩⟩
   ·refine ih (d + 1) (by omega) (fun i h1 h2 => ?_) (by omega)
    rcases Nat.lt_or_ge i d with q | q
    ·exact hlo i h1 q
    ·have : i = d := by omega
     rw [this]; exact g
 rcases Nat.lt_or_ge n 2147483648 with g | g
 ·exact this (2147483648 - (n + 1)) (n + 1) (by omega) (fun i h1 h2 => by omega) (by omega)
 ·exact ⟨(0, 3), .inr ⟨rfl, rfl, fun i h1 h2 => by omega⟩⟩
end Go.Proofs.YtfmakoiiibacjaaDoor
namespace Go.Proofs.YtfmakoiiibacjaaDoor
open Go.RowKit
set_option maxHeartbeats 4000000 in
set_option maxRecDepth 100000 in
theorem residue_any (n p : Nat) (hn : n < 18446744073709551616) (hp : p < 4294967296) (w : World) :
  Calls Tryd.prog 36 #[.int .u64 (n : Int), .int .u32 (p : Int)] w fun e w' => e = .returned (.int .u32 ((rsd n p : Nat) : Int)) ∧ w' = w := by
 have hr : rsd n p < 4294967296 := Nat.lt_of_le_of_lt (rsd_le n p) hp
 by_cases h0 : p = 0
 ·subst h0
  go_enter Tryd.func36, Tryd.ntmps36
  go_wp2_with fail
  go_ret
  exact ⟨rfl, rfl⟩
 ·have e0 : ((p : Int) == 0) = false := by simp; omega
  have e1 : (p : Int) ≠ 0 := by omega
  have hz : (p : Int) % 18446744073709551616 = (p : Int) := by omega
  have hq : (n : Int) % (p : Int) = ((rsd n p : Nat) : Int) := by rw [rsd_pos h0]; rfl
  have hr2 : ((rsd n p : Nat) : Int) % 4294967296 = ((rsd n p : Nat) : Int) := by omega
  generalize rsd n p = r at *
  go_enter Tryd.func36, Tryd.ntmps36
  go_wp2_with fail
  go_ret
  exact ⟨by first | rfl | (simp [*]), rfl⟩
set_option maxHeartbeats 4000000 in
set_option maxRecDepth 100000 in
theorem madd_any (a b p : Nat) (ha : a < 4294967296) (hb : b < 4294967296) (hp : p < 4294967296) (w : World) :
  Calls Tryd.prog 15 #[.int .u32 (a : Int), .int .u32 (b : Int), .int .u32 (p : Int)] w fun e w' => e = .returned (.int .u32 ((rsd (a + b) p : Nat) : Int)) ∧ w' = w := by
 have R := Lib.hid (residue_any (a + b) p (by omega) hp w)
 obtain ⟨s, hs⟩ : ∃ s, s = a + b := ⟨_, rfl⟩
 rw [← hs] at R ⊢
 have h1 : (a : Int) % 18446744073709551616 = (a : Int) := by omega
 have h2 : (b : Int) % 18446744073709551616 = (b : Int) := by omega
 have h3 : (a : Int) + (b : Int) = (s : Int) := by omega
 have h4 : (s : Int) % 18446744073709551616 = (s : Int) := by omega
 clear hs ha hb hp
 generalize rsd s p = r at *
 go_enter Tryd.func15, Tryd.ntmps15
 go_wp2_with fail
 with_reducible refine Calls.mono R.out ?_
 rintro e w1 ⟨rfl, rfl⟩
 go_wp2_with fail
 go_ret
 exact ⟨rfl, rfl⟩
set_option maxHeartbeats 4000000 in
set_option maxRecDepth 100000 in
theorem mmul_any (a b p : Nat) (ha : a < 4294967296) (hb : b < 4294967296) (hp : p < 4294967296) (w : World) :
  Calls Tryd.prog 19 #[.int .u32 (a : Int), .int .u32 (b : Int), .int .u32 (p : Int)] w fun e w' => e = .returned (.int .u32 ((rsd (a * b) p : Nat) : Int)) ∧ w' = w := by
 have hl : a * b < 18446744073709551616 := by
  have := Nat.mul_le_mul (show a ≤ 4294967295 by omega) (show b ≤ 4294967295 by omega); omega
 have R := Lib.hid (residue_any (a * b) p hl hp w)
 obtain ⟨s, hs⟩ : ∃ s, s = a * b := ⟨_, rfl⟩
 rw [← hs] at R hl ⊢
 have h1 : (a : Int) % 18446744073709551616 = (a : Int) := by omega
 have h2 : (b : Int) % 18446744073709551616 = (b : Int) := by omega
 have h3 : (a : Int) * (b : Int) = (s : Int) := by rw [hs]; push_cast; rfl
 have h4 : (s : Int) % 18446744073709551616 = (s : Int) := by omega
 clear hs ha hb hp hl
 generalize rsd s p = r at *
 go_enter Tryd.func19, Tryd.ntmps19
 go_wp2_with fail
 with_reducible refine Calls.mono R.out ?_
 rintro e w1 ⟨rfl, rfl⟩
 go_wp2_with fail
 go_ret
 exact ⟨rfl, rfl⟩
set_option maxHeartbeats 4000000 in
set_option maxRecDepth 100000 in
theorem msub_any (a b p : Nat) (ha : a < 4294967296) (hb : b < 4294967296) (hp : p < 4294967296) (w : World) :
  Calls Tryd.prog 17 #[.int .u32 (a : Int), .int .u32 (b : Int), .int .u32 (p : Int)] w fun e w' => e = .returned (.int .u32 ((subN a b p : Nat) : Int)) ∧ w' = w := by
 have hle := rsd_le b p
 have R := Lib.hid (residue_any b p (by omega) hp w)
 have S := Lib.hid (madd_any a (p - rsd b p) p ha (by omega) hp w)
 rw [show rsd (a + (p - rsd b p)) p = subN a b p from rfl] at S
 generalize subN a b p = r at *
 generalize rsd b p = q at *
 obtain ⟨d, hd⟩ : ∃ d, d = p - q := ⟨_, rfl⟩
 rw [← hd] at S
 have h2 : (b : Int) % 18446744073709551616 = (b : Int) := by omega
 have h3 : (p : Int) - (q : Int) = (d : Int) := by omega
 have h4 : (d : Int) % 4294967296 = (d : Int) := by omega
 clear hd ha hb hp hle
 go_enter Tryd.func17, Tryd.ntmps17
 go_wp2_with fail
 with_reducible refine Calls.mono R.out ?_
 rintro e w1 ⟨rfl, rfl⟩
 go_wp2_with fail
 with_reducible refine Calls.mono S.out ?_
 rintro e w2 ⟨rfl, rfl⟩
 go_wp2_with fail
 go_ret
 exact ⟨rfl, rfl⟩
end Go.Proofs.YtfmakoiiibacjaaDoor
namespace Go.Proofs.YtfmakoiiibacjaaDoor
open Go.RowKit
attribute [local irreducible] rsd subN
theorem rsd_lt32 (n : Nat) {p : Nat} (hp : p < 4294967296) : rsd n p < 4294967296 := Nat.lt_of_le_of_lt (rsd_le n p) hp
theorem subN_lt32 (a b : Nat) {p : Nat} (hp : p < 4294967296) : subN a b p < 4294967296 := by unfold subN; exact rsd_lt32 _ hp
theorem pow_half_odd (P A N p : Nat) (h : N % 2 = 1) : rsd (rsd (P * A) p * rsd (A * A) p ^ (N / 2)) p = rsd (P * A ^ N) p := by
 rw [rsd_mul_l, ← rsd_mul_r, rsd_pow, rsd_mul_r]
 congr 1
 obtain ⟨k, hk⟩ : ∃ k, k = N / 2 := ⟨_, rfl⟩
 rw [← hk, show N = 2 * k + 1 by omega, Nat.pow_succ, Nat.pow_mul, Nat.pow_two, Nat.mul_assoc, Nat.mul_comm A]
theorem pow_half_even (P A N p : Nat) (h : N % 2 = 0) : rsd (P * rsd (A * A) p ^ (N / 2)) p = rsd (P * A ^ N) p := by
 rw [← rsd_mul_r, rsd_pow, rsd_mul_r]
 congr 1
 obtain ⟨k, hk⟩ : ∃ k, k = N / 2 := ⟨_, rfl⟩
 rw [← hk, show N = 2 * k by omega, Nat.pow_mul, Nat.pow_two]
set_option maxHeartbeats 4000000 in
set_option maxRecDepth 100000 in
theorem mpow_any (a n p : Nat) (ha : a < 4294967296) (hn : n < 18446744073709551616) (hp : p < 4294967296) (w : World) :
  Calls Tryd.prog 20 #[.int .u32 (a : Int), .int .u64 (n : Int), .int .u32 (p : Int)] w fun e w' => e = .returned (.int .u32 ((rsd (a ^ n) p : Nat) : Int)) ∧ w' = w := by
 have R := Lib.hid (residue_any 1 p (by omega) hp w)
 have hS : rsd (rsd 1 p * a ^ n) p = rsd (a ^ n) p := by rw [rsd_mul_l, Nat.one_mul]
 have hr1 := rsd_rsd 1 p
 have hl1 := rsd_lt32 1 hp
 generalize rsd 1 p = r1 at *
 replace hS := Lib.hid hS
 replace hr1 := Lib.hid hr1
 go_enter Tryd.func20, Tryd.ntmps20
 go_wp2_with fail
 with_reducible refine Calls.mono R.out ?_
 rintro e w1 ⟨rfl, rfl⟩
 go_wp2_with fail
 go_loopw [7, 1, 0] (fun pw nn aa wr => ∃ P N A : Nat, pw = .int .u32 (P : Int) ∧ nn = .int .u64 (N : Int) ∧ aa = .int .u32 (A : Int) ∧ P < 4294967296 ∧ A < 4294967296 ∧ N < 18446744073709551616 ∧ rsd P p = P ∧ rsd (P * A ^ N) p = rsd (a ^ n) p ∧ wr = w1) (fun _ nn _ _ => (intOf nn).toNat)
 case atStart => exact ⟨r1, n, a, rfl, rfl, rfl, hl1, ha, hn, hr1.out, hS.out, rfl⟩
 case round =>
  obtain ⟨P, N, A, rfl, rfl, rfl, hP, hA, hN, hPr, hE, rfl⟩ := hrel
  rcases Nat.eq_zero_or_pos N with rfl | h0
  ·rw [Nat.pow_zero, Nat.mul_one, hPr] at hE
   go_wp2_with fail
   go_ret
   exact ⟨by first | rfl | (rw [hE]; rfl), rfl⟩
  ·have k1 : (0 : Int) < (N : Int) := by omega
   have hq : (N : Int) / 2 = ((N / 2 : Nat) : Int) := by omega
   have hq2 : ((N / 2 : Nat) : Int) % 18446744073709551616 = ((N / 2 : Nat) : Int) := by omega
   have hlt : N / 2 < N := by omega
   have MA := Lib.hid (mmul_any A A p hA hA hp)
   have MP := Lib.hid (mmul_any P A p hP hA hp)
   have lA := rsd_lt32 (A * A) hp
   have lP := rsd_lt32 (P * A) hp
   rcases Nat.mod_two_eq_zero_or_one N with hm | hm
   ·have k2 : ((N : Int) % 2 == 1) = false := by simp; omega
    have hH := pow_half_even P A N p hm
    rw [hE] at hH
    replace hH := Lib.hid hH
    replace hPr := Lib.hid hPr
    clear hE hm
    generalize N / 2 = M at *
    generalize rsd (A * A) p = A2 at *
    go_wp2_with fail
    with_reducible refine Calls.mono (MA.out _) ?_
    rintro e w2 ⟨rfl, rfl⟩
    go_wp2_with fail
    go_roundw
    case rel => exact ⟨P, M, A2, rfl, rfl, rfl, hP, lA, by omega, hPr.out, hH.out, by first | rfl | trivial⟩
    case measure => simp [intOf]; omega
   ·have k2 : ((N : Int) % 2 == 1) = true := by simp; omega
    have hH := pow_half_odd P A N p hm
    rw [hE] at hH
    replace hH := Lib.hid hH
    have hRR := Lib.hid (rsd_rsd (P * A) p)
    clear hE hm hPr
    generalize N / 2 = M at *
    generalize rsd (A * A) p = A2 at *
    generalize rsd (P * A) p = P2 at *
    go_wp2_with fail
    with_reducible refine Calls.mono (MP.out _) ?_
    rintro e w2 ⟨rfl, rfl⟩
    go_wp2_with fail
    with_reducible refine Calls.mono (MA.out _) ?_
    rintro e w3 ⟨rfl, rfl⟩
    go_wp2_with fail
    go_roundw
    case rel => exact ⟨P2, M, A2, rfl, rfl, rfl, lP, lA, by omega, hRR.out, hH.out, by first | rfl | trivial⟩
    case measure => simp [intOf]; omega
end Go.Proofs.YtfmakoiiibacjaaDoor
namespace Go.Proofs.YtfmakoiiibacjaaDoor
open Go.RowKit
attribute [local irreducible] rsd subN invV invB
set_option maxHeartbeats 4000000 in
set_option maxRecDepth 100000 in
theorem minv_is (a p v : Nat) (ok : Bool) (ha : a < 4294967296) (hp : p < 4294967296) (hi : IsInv a p v ok) (w : World) :
  Calls Tryd.prog 13 #[.int .u32 (a : Int), .int .u32 (p : Int)] w fun e w' => e = .returned (.tuple #[.int .u32 (v : Int), .bool ok]) ∧ Below w.heap.size w w' := by
 have R := Lib.hid (residue_any a p (by omega) hp w)
 have hac : (a : Int) % 18446744073709551616 = (a : Int) := by omega
 by_cases h0 : p = 0
 ·subst h0
  obtain ⟨rfl, rfl⟩ := hi.uniq (show IsInv a 0 0 false from .inr ⟨rfl, rfl, .inl rfl⟩)
  rw [rsd_zero] at R
  go_enter Tryd.func13, Tryd.ntmps13
  go_wp2_with fail
  with_reducible refine Calls.mono R.out ?_
  rintro e w1 ⟨rfl, rfl⟩
  go_wp2_with fail
  go_loopw [6, 7, 8, 9] (fun gv xv dv yv wr => gv = .int .u32 0 ∧ xv = .int .u32 0 ∧ dv = .int .u32 0 ∧ yv = .int .u32 1 ∧ wr = w1) (fun _ _ _ _ _ => 0)
  case atStart => exact ⟨rfl, rfl, rfl, rfl, rfl⟩
  case round =>
   obtain ⟨rfl, rfl, rfl, rfl, rfl⟩ := hrel
   go_wp2_with fail
   exact bodyPost_ret (v := .tuple #[.int .u32 ((0 : Nat) : Int), .bool false]) (by simp [results, Tryd.results13, go_sem]) rfl ⟨rfl, Below.refl _ _⟩
 ·have hS := EucI.start (a := a) h0
  have hrl := rsd_lt32 a hp
  generalize rsd a p = r at *
  replace hS := Lib.hid hS
  go_enter Tryd.func13, Tryd.ntmps13
  go_wp2_with fail
  with_reducible refine Calls.mono R.out ?_
  rintro e w1 ⟨rfl, rfl⟩
  go_wp2_with fail
  go_loopw [6, 7, 8, 9] (fun gv xv dv yv wr => ∃ g x d y : Nat, gv = .int .u32 (g : Int) ∧ xv = .int .u32 (x : Int) ∧ dv = .int .u32 (d : Int) ∧ yv = .int .u32 (y : Int) ∧ EucI a p g d x y ∧ y < 4294967296 ∧ Below w1.heap.size w1 wr) (fun _ _ dv _ _ => (intOf dv).toNat)
  case atStart => exact ⟨p, 0, r, 1, rfl, rfl, rfl, rfl, hS.out, by omega, Below.refl _ _⟩
  case round =>
   obtain ⟨g, x, d, y, rfl, rfl, rfl, rfl, hE, hy, hbl⟩ := hrel
   clear hS R hac
   rcases Nat.eq_zero_or_pos d with rfl | hd
   ·by_cases h1 : g = 1
    ·subst h1
     obtain ⟨rfl, rfl⟩ := hi.uniq (hE.ok h0 rfl)
     clear hi
     go_wp2_with fail
     exact bodyPost_ret (v := .tuple #[.int .u32 ((v : Nat) : Int), .bool true]) (by simp [results, Tryd.results13, go_sem]) rfl ⟨rfl, hbl⟩
    ·obtain ⟨rfl, rfl⟩ := hi.uniq (hE.no h1)
     clear hi
     have k1 : ((g : Int) != 1) = true := by simp; omega
     go_wp2_with fail
     exact bodyPost_ret (v := .tuple #[.int .u32 ((0 : Nat) : Int), .bool false]) (by simp [results, Tryd.results13, go_sem]) rfl ⟨rfl, hbl⟩
   ·have hN := hE.step h0 (by omega)
    have hgp := hE.gp
    have hxl := hE.xl
    have hdl : d < p := by rcases hE.dl with k | k <;> omega
    have hql : g / d < 4294967296 := Nat.lt_of_le_of_lt (Nat.div_le_self _ _) (by omega)
    have M := Lib.hid (mmul_any (g / d) y p hql hy hp)
    have S := Lib.hid (msub_any x (rsd (g / d * y) p) p (by omega) (rsd_lt32 _ hp) hp)
    have hsl := subN_lt32 x (rsd (g / d * y) p) hp
    have hrm : g % d < d := Nat.mod_lt _ hd
    have e1 : (g : Int) / (d : Int) = ((g / d : Nat) : Int) := by push_cast; rfl
    have e2 : (g : Int) % (d : Int) = ((g % d : Nat) : Int) := by push_cast; rfl
    have e3 : ((d : Int) == 0) = false := by simp; omega
    have e4 : ((d : Int) != 0) = true := by simp; omega
    have e5 : (d : Int) ≠ 0 := by omega
    generalize subN x (rsd (g / d * y) p) p = z at *
    generalize rsd (g / d * y) p = m at *
    generalize g / d = q at *
    generalize g % d = r2 at *
    have e6 : (q : Int) % 4294967296 = (q : Int) := by omega
    have e7 : (r2 : Int) % 4294967296 = (r2 : Int) := by omega
    replace hN := Lib.hid hN
    clear hE hi hgp hxl hdl
    go_upto_region 5 with fail
    go_region
    have hbd := hbl.drew
    generalize wr.drew = wd at hbd ⊢
    go_wp2_with fail
    with_reducible refine Calls.mono (M.out _) ?_
    rintro e w2 ⟨rfl, rfl⟩
    go_wp2_with fail
    with_reducible refine Calls.mono (S.out _) ?_
    rintro e w3 ⟨rfl, rfl⟩
    go_wp2_with fail
    go_roundw
    case rel => exact ⟨d, y, r2, z, rfl, rfl, rfl, rfl, hN.out, hsl, hbd⟩
    case measure => simp [intOf]; omega
theorem minv_any (a p : Nat) (ha : a < 4294967296) (hp : p < 4294967296) (w : World) :
  Calls Tryd.prog 13 #[.int .u32 (a : Int), .int .u32 (p : Int)] w fun e w' => e = .returned (.tuple #[.int .u32 ((invV a p : Nat) : Int), .bool (invB a p)]) ∧ Below w.heap.size w w' := minv_is a p _ _ ha hp (inv_is a p) w
end Go.Proofs.YtfmakoiiibacjaaDoor
namespace Go.Proofs
open Go.Shelf
def Tryd.lays134_ren : Go.Shelf.Ren := ⟨fun | 134 => 106 | 129 => 116 | n => n, fun | 53 => 28 | 3 => 3 | 4 => 4 | 46 => 37 | 5 => 5 | 9 => 9 | n => n, fun | n => n⟩
theorem Tryd.lays134 : Go.Proofs.Lays.n134 Tryd.prog Tryd.lays134_ren := {
 mixed := by kernel_rfl
 f129 := Tryd.func116.trans (congrArg some (by kernel_rfl))
 f134 := Tryd.func106.trans (congrArg some (by kernel_rfl))
 t3 := Tryd.underlying3
 a3 := Tryd.isAgg3
 z3 := Tryd.sizeOf3
 v3 := Tryd.zeroValue3
 t4 := Tryd.underlying4
 a4 := Tryd.isAgg4
 z4 := Tryd.sizeOf4
 v4 := Tryd.zeroValue4
 t5 := Tryd.underlying5
 a5 := Tryd.isAgg5
 z5 := Tryd.sizeOf5
 v5 := Tryd.zeroValue5
 t9 := Tryd.underlying9
 a9 := Tryd.isAgg9
 z9 := Tryd.sizeOf9
 v9 := Tryd.zeroValue9
 t46 := Tryd.underlying37
 a46 := Tryd.isAgg37
 z46 := Tryd.sizeOf37
 v46 := Tryd.zeroValue37
 t53 := Tryd.underlying28
 a53 := Tryd.isAgg28
 z53 := Tryd.sizeOf28
 v53 := Tryd.zeroValue28 }
/-- bits.LeadingZeros64: "LeadingZeros64 returns the number of leading zero bits in x; the result is 64 for x == 0.": IT RETURNS '64 - Lib.bitLen x'; the world is as it was. ITS CALLEE bits.Len64 IS MET BY ITS OWN CONTRACT OFF THE SHELF (lay that first): entered in place it sends the kernel out of memory. (LAID: no walk: one application.) -/
theorem Tryd.bits_LeadingZeros64 (x : Int) (w : World) (h0 : 0 ≤ x) (h1 : x ≤ 18446744073709551615) :
  Calls Tryd.prog 106 #[.int .u64 x] w fun e w' => e = .returned (.int .i64 (64 - (Lib.bitLen x.toNat : Int))) ∧ w' = w := Any.bits_LeadingZeros64 Tryd.lays134 x w h0 h1
def Tryd.lays264_ren : Go.Shelf.Ren := ⟨fun | 264 => 71 | n => n, fun | 53 => 28 | 46 => 37 | n => n, fun | n => n⟩
theorem Tryd.lays264 : Go.Proofs.Lays.n264 Tryd.prog Tryd.lays264_ren := {
 mixed := by kernel_rfl
 f264 := Tryd.func71.trans (congrArg some (by kernel_rfl))
 t46 := Tryd.underlying37
 a46 := Tryd.isAgg37
 z46 := Tryd.sizeOf37
 v46 := Tryd.zeroValue37
 t53 := Tryd.underlying28
 a53 := Tryd.isAgg28
 z53 := Tryd.sizeOf28
 v53 := Tryd.zeroValue28 }
open Go.RowKit Go.Lib in
theorem Tryd.bits_Mul64 (x y : Nat) (hx : x < 18446744073709551616) (hy : y < 18446744073709551616) (w : World) :
  Calls Tryd.prog 71 #[.int .u64 x, .int .u64 y] w fun e w' => e = .returned (.tuple #[.int .u64 ((x * y / 18446744073709551616 : Nat) : Int), .int .u64 ((x * y % 18446744073709551616 : Nat) : Int)]) ∧ w' = w := Any.bits_Mul64 Tryd.lays264 x y hx hy w
def Tryd.lays728_ren : Go.Shelf.Ren := ⟨fun | 28 => 33 | n => n, fun | 27 => 22 | 3 => 3 | 4 => 4 | 25 => 37 | 53 => 92 | 0 => 0 | 5 => 5 | n => n, fun | 0 => 0 | n => n⟩
theorem Tryd.lays728 : Go.Proofs.Lays7.n28 Tryd.prog Tryd.lays728_ren := {
 mixed := by kernel_rfl
 f28 := Tryd.func33.trans (congrArg some (by kernel_rfl))
 t0 := Tryd.underlying0
 a0 := Tryd.isAgg0
 z0 := Tryd.sizeOf0
 v0 := Tryd.zeroValue0
 i0 := by kernel_rfl
 t3 := Tryd.underlying3
 a3 := Tryd.isAgg3
 z3 := Tryd.sizeOf3
 v3 := Tryd.zeroValue3
 i3 := by kernel_rfl
 t4 := Tryd.underlying4
 a4 := Tryd.isAgg4
 z4 := Tryd.sizeOf4
 v4 := Tryd.zeroValue4
 i4 := by kernel_rfl
 t5 := Tryd.underlying5
 a5 := Tryd.isAgg5
 z5 := Tryd.sizeOf5
 v5 := Tryd.zeroValue5
 i5 := by kernel_rfl
 t25 := Tryd.underlying37
 a25 := Tryd.isAgg37
 z25 := Tryd.sizeOf37
 v25 := Tryd.zeroValue37
 i25 := by kernel_rfl
 t27 := Tryd.underlying22
 a27 := Tryd.isAgg22
 z27 := Tryd.sizeOf22
 v27 := Tryd.zeroValue22
 i27 := by kernel_rfl
 t53 := Tryd.underlying92
 a53 := Tryd.isAgg92
 z53 := Tryd.sizeOf92
 v53 := Tryd.zeroValue92
 i53 := by kernel_rfl
 g0 := by kernel_rfl }
theorem Tryd.bits_TrailingZeros32 (x : Nat) (hx : x < 4294967296) (w : World) (hT : x ≠ 0 → TabAt 0 Lib.deBruijn32tab w) :
  Calls Tryd.prog 33 #[.int .u32 x] w fun e w' => e = .returned (.int .i64 (Lib.ctz 32 x)) ∧ w' = w := Any7.bits_TrailingZeros32 Tryd.lays728 x hx w hT
end Go.Proofs
namespace Go.Proofs.YtfmakoiiibacjaaDoor
open Go.RowKit
attribute [local irreducible] rsd subN invV invB prB strong strongT
/-- The table of de Bruijn's numbers lies where the program's start laid it. -/
def T32 (w : World) : Prop := Lib.TabIs Tryd.prog w "math/bits.deBruijn32tab" .u8 (Lib.deBruijn32tab.map (fun n : Nat => (n : Int)))
theorem T32.below {w w' : World} (h : T32 w) (hb : Below w.heap.size w w') : T32 w' := by
 unfold T32 Lib.TabIs World.var? at h ⊢
 cases hg : Tryd.prog.globalNamed "math/bits.deBruijn32tab" with
 | none => rw [hg] at h; simp at h
 | some g =>
  rw [hg] at h
  simp only [Option.bind_some] at h ⊢
  have hlt : g < w.heap.size := by
   rcases Nat.lt_or_ge g w.heap.size with h' | h'
   ·exact h'
   ·rw [Array.getElem?_eq_none h'] at h; cases h
  rw [hb.block g hlt]
  exact h
theorem gBr : Tryd.prog.globalNamed "math/bits.deBruijn32tab" = some 0 := by kernel_rfl
theorem tz32 (x : Nat) (hx : x < 4294967296) (w : World) (hT : T32 w) :
  Calls Tryd.prog 33 #[.int .u32 (x : Int)] w fun e w' => e = .returned (.int .i64 ((Lib.ctz 32 x : Nat) : Int)) ∧ w' = w :=
 Tryd.bits_TrailingZeros32 x hx w (fun _ j hj => by
  have := Lib.TabIs.cell hT gBr j (by rw [List.length_map]; exact hj)
  rw [this]
  simp [List.getD, hj])
theorem ctz_split {x : Nat} (h0 : 0 < x) (hx : x < 4294967296) : ∃ m, x = m * 2 ^ Lib.ctz 32 x ∧ m % 2 = 1 ∧ Lib.ctz 32 x < 32 := by
 obtain ⟨m, h1, h2⟩ := Lib.ctzFrom_spec 32 x h0 hx
 have e : Lib.ctz 32 x = Lib.ctzFrom 32 x := by unfold Lib.ctz; rw [if_neg (by omega)]
 rw [e]
 exact ⟨2 * m + 1, by rw [Nat.mul_comm]; exact h1, by omega, h2⟩
set_option maxHeartbeats 4000000 in
set_option maxRecDepth 100000 in
theorem prime_small (n : Nat) (hs : n < 4 ∨ n % 2 = 0) (hn : n < 4294967296) (r : Bool) (hr : r = decide (n = 2 ∨ n = 3)) (w : World) :
  Calls Tryd.prog 10 #[.int .u32 (n : Int)] w fun e w' => e = .returned (.bool r) ∧ Below w.heap.size w w' := by
 rcases Nat.lt_or_ge n 4 with h4 | h4
 ·obtain rfl | rfl | rfl | rfl : n = 0 ∨ n = 1 ∨ n = 2 ∨ n = 3 := by omega
  all_goals (
   subst hr
   clear hs
   go_enter Tryd.func10, Tryd.ntmps10
   go_wp2_with fail
   go_step3
   go_wp2_with fail
   rw [Exit.noGoto_ret]
   go_ret
   exact ⟨rfl, Below.refl _ _⟩)
 ·have h2 : n % 2 = 0 := by omega
  obtain rfl : r = false := by rw [hr]; simp; omega
  have e1 : ¬ (n : Int) < 4 := by omega
  have e2 : (n : Int) % 2 = 0 := by omega
  have e3 : ((n : Int) == 2) = false := by simp; omega
  have e4 : ((n : Int) == 3) = false := by simp; omega
  clear hr hs
  go_enter Tryd.func10, Tryd.ntmps10
  go_wp2_with fail
  go_step3
  go_wp2_with fail
  rw [Exit.noGoto_ret]
  go_ret
  exact ⟨rfl, Below.refl _ _⟩
theorem ixA (w : World) : (Instr.index 59 (.agg #[.int .u32 2, .int .u32 7, .int .u32 61]) (.int .i64 0)).run Tryd.prog w = .ok (.int .u32 2) w := by simp [Instr.index, go_sem, Tryd.isAgg22, Tryd.sizeOf22]
theorem ixB (w : World) : (Instr.index 59 (.agg #[.int .u32 2, .int .u32 7, .int .u32 61]) (.int .i64 1)).run Tryd.prog w = .ok (.int .u32 7) w := by simp [Instr.index, go_sem, Tryd.isAgg22, Tryd.sizeOf22]
theorem ixC (w : World) : (Instr.index 59 (.agg #[.int .u32 2, .int .u32 7, .int .u32 61]) (.int .i64 2)).run Tryd.prog w = .ok (.int .u32 61) w := by simp [Instr.index, go_sem, Tryd.isAgg22, Tryd.sizeOf22]
set_option maxHeartbeats 4000000 in
set_option maxRecDepth 100000 in
theorem minus_any (P l g : Nat) (b : Bool) (w : World) (hb : ((P : Int) == (l : Int)) = b) (hc : w.cell? ⟨g, 0, none⟩ = some (.int .u32 (l : Int))) :
  Calls Tryd.prog 32 #[.int .u32 (P : Int), .pointer (some ⟨g, 0, none⟩)] w fun e w' => e = .returned (.bool b) ∧ w' = w := by
 go_enter Tryd.func32, Tryd.ntmps32
 go_wp2_with fail
 go_ret
 exact ⟨by first | rfl | (simp [hb]), rfl⟩
/-- The witnesses. -/
def wit (i : Nat) : Nat := if i = 0 then 2 else if i = 1 then 7 else 61
set_option maxHeartbeats 4000000 in
set_option maxRecDepth 100000 in
theorem prime_great (n : Nat) (h4 : 4 ≤ n) (ho : n % 2 = 1) (hn : n < 4294967296) (HP : strongT [2, 7, 61] n = true → isPr n) (w : World) (hT : T32 w) :
  Calls Tryd.prog 10 #[.int .u32 (n : Int)] w fun e w' => e = .returned (.bool (prB n)) ∧ Below w.heap.size w w' := by
 have e1 : ¬ (n : Int) < 4 := by omega
 have e2 : ((n : Int) % 2 == 0) = false := by simp; omega
 obtain ⟨l, hl⟩ : ∃ l, l = n - 1 := ⟨_, rfl⟩
 have e3 : (n : Int) - 1 = (l : Int) := by omega
 have e4 : (l : Int) % 4294967296 = (l : Int) := by omega
 obtain ⟨m, hm, hmo, hh⟩ := ctz_split (x := l) (by omega) (by omega)
 have HZ := Lib.hid (fun w hT => tz32 l (by omega) w hT)
 generalize Lib.ctz 32 l = h at *
 have hsh : l / 2 ^ h = m := by rw [hm, Nat.mul_div_cancel _ (Nat.two_pow_pos h)]
 have hml : m ≤ l := by rw [← hsh]; exact Nat.div_le_self _ _
 have hsi : (l : Int) / 2 ^ h = (m : Int) := by rw [← hsh]; push_cast; rfl
 have hh0 : 0 < h := by
  rcases Nat.eq_zero_or_pos h with g | g
  ·exfalso; subst g; rw [Nat.pow_zero, Nat.mul_one] at hm; omega
  ·exact g
 have hmi : (m : Int) % 18446744073709551616 = (m : Int) := by omega
 have hmn : n - 1 = m * 2 ^ h := by rw [← hl, hm]
 replace hmn := Lib.hid hmn
 clear hsh
 replace hm := Lib.hid hm
 replace hmo := Lib.hid hmo
 replace hT := Lib.hid hT
 replace hl := Lib.hid hl
 replace HP := Lib.hid HP
 go_enter Tryd.func10, Tryd.ntmps10
 go_wp2_with fail
 go_step3
 go_wp2_with fail
 have hT1 := Lib.hid (hT.out.below (w' := w.alloc (.cells #[.int .u32 (l : Int)] 22)) ((Below.refl _ _).alloc (Nat.le_refl _) _))
 have hb1 : Below w.heap.size w (w.alloc (.cells #[.int .u32 (l : Int)] 22)) := (Below.refl _ _).alloc (Nat.le_refl _) _
 have hc1 : (w.alloc (.cells #[.int .u32 (l : Int)] 22)).cell? ⟨w.heap.size, 0, none⟩ = some (.int .u32 (l : Int)) := by rw [World.cell?_alloc_new]; rfl
 generalize w.alloc (.cells #[.int .u32 (l : Int)] 22) = w1 at *
 with_reducible refine Calls.mono (HZ.out _ hT1.out) ?_
 rintro e w2 ⟨rfl, rfl⟩
 go_wp2_with fail
 go_step3
 go_wp2_with fail
 go_loopg [28] 3 (fun g iv wr => ∃ i : Nat, i + g = 3 ∧ iv = .int .i64 (i : Int) ∧ (∀ j, j < i → wit j = n ∨ strong (wit j) n = true) ∧ wr = w2)
 case atStart => exact ⟨0, rfl, rfl, fun j hj => by omega, rfl⟩
 case round =>
  obtain ⟨i, hig, rfl, hpass, rfl⟩ := hrel
  replace hpass := Lib.hid hpass
  cases gk with
  | zero =>
   obtain rfl : i = 3 := by omega
   have hpr : prB n = true := prB_of (by
    rcases hpass.out 0 (by omega) with g | g2
    ·have : (2 : Nat) = n := g
     omega
    rcases hpass.out 1 (by omega) with g | g7
    ·have : (7 : Nat) = n := g
     rw [← this]; exact isPr_of (n := 1) (by decide) (by decide) (by decide +kernel)
    rcases hpass.out 2 (by omega) with g | g61
    ·have : (61 : Nat) = n := g
     rw [← this]; exact isPr_of (n := 6) (by decide) (by decide) (by decide +kernel)
    exact HP.out (strongT_three (by omega) g2 g7 g61))
   go_wp2_with fail
   try rw [Exit.noGoto_ret]
   go_ret
   exact ⟨by rw [hpr]; rfl, hb1⟩
  | succ g0 =>
   obtain rfl | rfl | rfl : i = 0 ∨ i = 1 ∨ i = 2 := by omega
   ·have hix := ixA
    have hprb : isPr 2 := isPr_of (n := 0) (by decide) (by decide) (by decide +kernel)
    have hnb : n ≠ 2 := by omega
    have hnd : ¬ n ∣ 2 := fun g => by rcases hprb.2 n g with q | q <;> omega
    have k0 : ((2 : Int) == (n : Int)) = false := by simp; omega
    have PW := Lib.hid (mpow_any 2 m n (by omega) (by omega) hn)
    have hrl := rsd_lt32 (2 ^ m) hn
    have hre : rsd (2 ^ m) n = 2 ^ m % n := rsd_pos (by omega)
    generalize rsd (2 ^ m) n = P0 at *
    replace hre := Lib.hid hre
    replace hnd := Lib.hid hnd
    clear hprb hnb
    by_cases hone : P0 = 1
    ·subst hone
     have hst := Lib.hid (strong_of (rootOk_one hmn.out hmo.out hre.out.symm) hh0 (by omega))
     go_wp2_with fail
     with_reducible refine Calls.mono (PW.out _) ?_
     rintro e w3 ⟨rfl, rfl⟩
     go_wp2_with fail
     go_roundg g0
     case measure => omega
     case rel => exact ⟨1, by omega, rfl, fun j hj => by
      rcases Nat.lt_or_ge j 0 with q | q
      ·exact hpass.out j q
      ·obtain rfl : j = 0 := by omega
       exact .inr hst.out, by first | rfl | trivial⟩
    have k1 : ((P0 : Int) == 1) = false := by simp; omega
    go_wp2_with fail
    with_reducible refine Calls.mono (PW.out _) ?_
    rintro e w3 ⟨rfl, rfl⟩
    clear hix k0 PW HZ
    go_wp2_with fail
    go_loopg [8, 44] h (fun g pv kv wx => ∃ P k : Nat, k + g = h ∧ kv = .int .i64 (k : Int) ∧ pv = .int .u32 (P : Int) ∧ P < 4294967296 ∧ P = 2 ^ (m * 2 ^ k) % n ∧ (∀ j, j < k → 2 ^ (m * 2 ^ j) % n ≠ n - 1) ∧ wx = w3)
    case atStart => exact ⟨P0, 0, by omega, rfl, rfl, hrl, by rw [hre.out, Nat.pow_zero, Nat.mul_one], fun j hj => by omega, rfl⟩
    case round =>
     obtain ⟨P, k, hkg, rfl, rfl, hPl, hPe, hne, rfl⟩ := hrel
     replace hPe := Lib.hid hPe
     replace hne := Lib.hid hne
     clear hrl k1
     cases gk with
     | zero =>
      obtain rfl : k = h := by omega
      have hpr : prB n = false := prB_no (fun hq => by
       rcases prime_strong hq hnd.out hmn.out with g | ⟨j, hj, g⟩
       ·exact hone (hre.out.trans g)
       ·exact hne.out j hj g)
      go_wp2_with fail
      try rw [Exit.noGoto_ret]
      go_ret
      exact ⟨by rw [hpr]; rfl, hb1⟩
     | succ g1 =>
      have k2 : (k : Int) < (h : Int) := by omega
      have hkb : (k : Int) ≤ 32 := by omega
      have MM := Lib.hid (mmul_any P P n hPl hPl hn)
      have hml2 := rsd_lt32 (P * P) hn
      have hme : rsd (P * P) n = 2 ^ (m * 2 ^ (k + 1)) % n := by
       rw [rsd_pos (by omega), hPe.out, ← Nat.mul_mod, ← Nat.pow_add, Nat.pow_succ, Nat.mul_two, Nat.mul_add]
      generalize rsd (P * P) n = P2 at *
      replace hme := Lib.hid hme
      by_cases hpl : P = l
      ·have C := Lib.hid (fun wq hc => minus_any P l w.heap.size true wq (by simp; omega) hc)
       have hst := Lib.hid (strong_of (rootOk_neg hmn.out (i := k) (by omega) (by rw [← hPe.out, hpl, hl.out])) (by omega) (by omega))
       replace hpl := Lib.hid hpl
       go_wp2_with fail
       with_reducible refine Calls.mono (C.out _ hc1) ?_
       rintro e w4 ⟨rfl, rfl⟩
       go_wp2_with fail
       go_roundg g0
       case measure => omega
       case rel => exact ⟨1, by omega, rfl, fun j hj => by
        rcases Nat.lt_or_ge j 0 with q | q
        ·exact hpass.out j q
        ·obtain rfl : j = 0 := by omega
         exact .inr hst.out, by first | rfl | trivial⟩
      ·have C := Lib.hid (fun wq hc => minus_any P l w.heap.size false wq (by simp; omega) hc)
       have hne2 : ∀ j, j < k + 1 → 2 ^ (m * 2 ^ j) % n ≠ n - 1 := fun j hj => by
        rcases Nat.lt_or_ge j k with q | q
        ·exact hne.out j q
        ·obtain rfl : j = k := by omega
         rw [← hPe.out, ← hl.out]; exact hpl
       replace hne2 := Lib.hid hne2
       go_wp2_with fail
       with_reducible refine Calls.mono (C.out _ hc1) ?_
       rintro e w4 ⟨rfl, rfl⟩
       go_wp2_with fail
       with_reducible refine Calls.mono (MM.out _) ?_
       rintro e w5 ⟨rfl, rfl⟩
       go_wp2_with fail
       go_roundg g1
       case measure => omega
       case rel => exact ⟨P2, k + 1, by omega, by first | rfl | go_num, rfl, hml2, hme.out, hne2.out, by first | rfl | trivial⟩
   ·have hix := ixB
    have hprb : isPr 7 := isPr_of (n := 1) (by decide) (by decide) (by decide +kernel)
    rcases Nat.lt_or_ge 0 (if n = 7 then 1 else 0) with hc | hc
    ·have hnb : n = 7 := by
      rcases Nat.decEq n 7 with g | g
      ·rw [if_neg g] at hc; omega
      ·exact g
     have k0 : ((7 : Int) == (n : Int)) = true := by simp; omega
     go_wp2_with fail
     go_roundg g0
     case measure => omega
     case rel => exact ⟨2, by omega, rfl, fun j hj => by
      rcases Nat.lt_or_ge j 1 with q | q
      ·exact hpass.out j q
      ·obtain rfl : j = 1 := by omega
       exact .inl (show 7 = n by omega), by first | rfl | trivial⟩
    have hnb : n ≠ 7 := fun g => by rw [if_pos g] at hc; omega
    clear hc
    have hnd : ¬ n ∣ 7 := fun g => by rcases hprb.2 n g with q | q <;> omega
    have k0 : ((7 : Int) == (n : Int)) = false := by simp; omega
    have PW := Lib.hid (mpow_any 7 m n (by omega) (by omega) hn)
    have hrl := rsd_lt32 (7 ^ m) hn
    have hre : rsd (7 ^ m) n = 7 ^ m % n := rsd_pos (by omega)
    generalize rsd (7 ^ m) n = P0 at *
    replace hre := Lib.hid hre
    replace hnd := Lib.hid hnd
    clear hprb hnb
    by_cases hone : P0 = 1
    ·subst hone
     have hst := Lib.hid (strong_of (rootOk_one hmn.out hmo.out hre.out.symm) hh0 (by omega))
     go_wp2_with fail
     with_reducible refine Calls.mono (PW.out _) ?_
     rintro e w3 ⟨rfl, rfl⟩
     go_wp2_with fail
     go_roundg g0
     case measure => omega
     case rel => exact ⟨2, by omega, rfl, fun j hj => by
      rcases Nat.lt_or_ge j 1 with q | q
      ·exact hpass.out j q
      ·obtain rfl : j = 1 := by omega
       exact .inr hst.out, by first | rfl | trivial⟩
    have k1 : ((P0 : Int) == 1) = false := by simp; omega
    go_wp2_with fail
    with_reducible refine Calls.mono (PW.out _) ?_
    rintro e w3 ⟨rfl, rfl⟩
    clear hix k0 PW HZ
    go_wp2_with fail
    go_loopg [8, 44] h (fun g pv kv wx => ∃ P k : Nat, k + g = h ∧ kv = .int .i64 (k : Int) ∧ pv = .int .u32 (P : Int) ∧ P < 4294967296 ∧ P = 7 ^ (m * 2 ^ k) % n ∧ (∀ j, j < k → 7 ^ (m * 2 ^ j) % n ≠ n - 1) ∧ wx = w3)
    case atStart => exact ⟨P0, 0, by omega, rfl, rfl, hrl, by rw [hre.out, Nat.pow_zero, Nat.mul_one], fun j hj => by omega, rfl⟩
    case round =>
     obtain ⟨P, k, hkg, rfl, rfl, hPl, hPe, hne, rfl⟩ := hrel
     replace hPe := Lib.hid hPe
     replace hne := Lib.hid hne
     clear hrl k1
     cases gk with
     | zero =>
      obtain rfl : k = h := by omega
      have hpr : prB n = false := prB_no (fun hq => by
       rcases prime_strong hq hnd.out hmn.out with g | ⟨j, hj, g⟩
       ·exact hone (hre.out.trans g)
       ·exact hne.out j hj g)
      go_wp2_with fail
      try rw [Exit.noGoto_ret]
      go_ret
      exact ⟨by rw [hpr]; rfl, hb1⟩
     | succ g1 =>
      have k2 : (k : Int) < (h : Int) := by omega
      have hkb : (k : Int) ≤ 32 := by omega
      have MM := Lib.hid (mmul_any P P n hPl hPl hn)
      have hml2 := rsd_lt32 (P * P) hn
      have hme : rsd (P * P) n = 7 ^ (m * 2 ^ (k + 1)) % n := by
       rw [rsd_pos (by omega), hPe.out, ← Nat.mul_mod, ← Nat.pow_add, Nat.pow_succ, Nat.mul_two, Nat.mul_add]
      generalize rsd (P * P) n = P2 at *
      replace hme := Lib.hid hme
      by_cases hpl : P = l
      ·have C := Lib.hid (fun wq hc => minus_any P l w.heap.size true wq (by simp; omega) hc)
       have hst := Lib.hid (strong_of (rootOk_neg hmn.out (i := k) (by omega) (by rw [← hPe.out, hpl, hl.out])) (by omega) (by omega))
       replace hpl := Lib.hid hpl
       go_wp2_with fail
       with_reducible refine Calls.mono (C.out _ hc1) ?_
       rintro e w4 ⟨rfl, rfl⟩
       go_wp2_with fail
       go_roundg g0
       case measure => omega
       case rel => exact ⟨2, by omega, rfl, fun j hj => by
        rcases Nat.lt_or_ge j 1 with q | q
        ·exact hpass.out j q
        ·obtain rfl : j = 1 := by omega
         exact .inr hst.out, by first | rfl | trivial⟩
      ·have C := Lib.hid (fun wq hc => minus_any P l w.heap.size false wq (by simp; omega) hc)
       have hne2 : ∀ j, j < k + 1 → 7 ^ (m * 2 ^ j) % n ≠ n - 1 := fun j hj => by
        rcases Nat.lt_or_ge j k with q | q
        ·exact hne.out j q
        ·obtain rfl : j = k := by omega
         rw [← hPe.out, ← hl.out]; exact hpl
       replace hne2 := Lib.hid hne2
       go_wp2_with fail
       with_reducible refine Calls.mono (C.out _ hc1) ?_
       rintro e w4 ⟨rfl, rfl⟩
       go_wp2_with fail
       with_reducible refine Calls.mono (MM.out _) ?_
       rintro e w5 ⟨rfl, rfl⟩
       go_wp2_with fail
       go_roundg g1
       case measure => omega
       case rel => exact ⟨P2, k + 1, by omega, by first | rfl | go_num, rfl, hml2, hme.out, hne2.out, by first | rfl | trivial⟩
   ·have hix := ixC
    have hprb : isPr 61 := isPr_of (n := 6) (by decide) (by decide) (by decide +kernel)
    rcases Nat.lt_or_ge 0 (if n = 61 then 1 else 0) with hc | hc
    ·have hnb : n = 61 := by
      rcases Nat.decEq n 61 with g | g
      ·rw [if_neg g] at hc; omega
      ·exact g
     have k0 : ((61 : Int) == (n : Int)) = true := by simp; omega
     go_wp2_with fail
     go_roundg g0
     case measure => omega
     case rel => exact ⟨3, by omega, rfl, fun j hj => by
      rcases Nat.lt_or_ge j 2 with q | q
      ·exact hpass.out j q
      ·obtain rfl : j = 2 := by omega
       exact .inl (show 61 = n by omega), by first | rfl | trivial⟩
    have hnb : n ≠ 61 := fun g => by rw [if_pos g] at hc; omega
    clear hc
    have hnd : ¬ n ∣ 61 := fun g => by rcases hprb.2 n g with q | q <;> omega
    have k0 : ((61 : Int) == (n : Int)) = false := by simp; omega
    have PW := Lib.hid (mpow_any 61 m n (by omega) (by omega) hn)
    have hrl := rsd_lt32 (61 ^ m) hn
    have hre : rsd (61 ^ m) n = 61 ^ m % n := rsd_pos (by omega)
    generalize rsd (61 ^ m) n = P0 at *
    replace hre := Lib.hid hre
    replace hnd := Lib.hid hnd
    clear hprb hnb
    by_cases hone : P0 = 1
    ·subst hone
     have hst := Lib.hid (strong_of (rootOk_one hmn.out hmo.out hre.out.symm) hh0 (by omega))
     go_wp2_with fail
     with_reducible refine Calls.mono (PW.out _) ?_
     rintro e w3 ⟨rfl, rfl⟩
     go_wp2_with fail
     go_roundg g0
     case measure => omega
     case rel => exact ⟨3, by omega, rfl, fun j hj => by
      rcases Nat.lt_or_ge j 2 with q | q
      ·exact hpass.out j q
      ·obtain rfl : j = 2 := by omega
       exact .inr hst.out, by first | rfl | trivial⟩
    have k1 : ((P0 : Int) == 1) = false := by simp; omega
    go_wp2_with fail
    with_reducible refine Calls.mono (PW.out _) ?_
    rintro e w3 ⟨rfl, rfl⟩
    clear hix k0 PW HZ
    go_wp2_with fail
    go_loopg [8, 44] h (fun g pv kv wx => ∃ P k : Nat, k + g = h ∧ kv = .int .i64 (k : Int) ∧ pv = .int .u32 (P : Int) ∧ P < 4294967296 ∧ P = 61 ^ (m * 2 ^ k) % n ∧ (∀ j, j < k → 61 ^ (m * 2 ^ j) % n ≠ n - 1) ∧ wx = w3)
    case atStart => exact ⟨P0, 0, by omega, rfl, rfl, hrl, by rw [hre.out, Nat.pow_zero, Nat.mul_one], fun j hj => by omega, rfl⟩
    case round =>
     obtain ⟨P, k, hkg, rfl, rfl, hPl, hPe, hne, rfl⟩ := hrel
     replace hPe := Lib.hid hPe
     replace hne := Lib.hid hne
     clear hrl k1
     cases gk with
     | zero =>
      obtain rfl : k = h := by omega
      have hpr : prB n = false := prB_no (fun hq => by
       rcases prime_strong hq hnd.out hmn.out with g | ⟨j, hj, g⟩
       ·exact hone (hre.out.trans g)
       ·exact hne.out j hj g)
      go_wp2_with fail
      try rw [Exit.noGoto_ret]
      go_ret
      exact ⟨by rw [hpr]; rfl, hb1⟩
     | succ g1 =>
      have k2 : (k : Int) < (h : Int) := by omega
      have hkb : (k : Int) ≤ 32 := by omega
      have MM := Lib.hid (mmul_any P P n hPl hPl hn)
      have hml2 := rsd_lt32 (P * P) hn
      have hme : rsd (P * P) n = 61 ^ (m * 2 ^ (k + 1)) % n := by
       rw [rsd_pos (by omega), hPe.out, ← Nat.mul_mod, ← Nat.pow_add, Nat.pow_succ, Nat.mul_two, Nat.mul_add]
      generalize rsd (P * P) n = P2 at *
      replace hme := Lib.hid hme
      by_cases hpl : P = l
      ·have C := Lib.hid (fun wq hc => minus_any P l w.heap.size true wq (by simp; omega) hc)
       have hst := Lib.hid (strong_of (rootOk_neg hmn.out (i := k) (by omega) (by rw [← hPe.out, hpl, hl.out])) (by omega) (by omega))
       replace hpl := Lib.hid hpl
       go_wp2_with fail
       with_reducible refine Calls.mono (C.out _ hc1) ?_
       rintro e w4 ⟨rfl, rfl⟩
       go_wp2_with fail
       go_roundg g0
       case measure => omega
       case rel => exact ⟨3, by omega, rfl, fun j hj => by
        rcases Nat.lt_or_ge j 2 with q | q
        ·exact hpass.out j q
        ·obtain rfl : j = 2 := by omega
         exact .inr hst.out, by first | rfl | trivial⟩
      ·have C := Lib.hid (fun wq hc => minus_any P l w.heap.size false wq (by simp; omega) hc)
       have hne2 : ∀ j, j < k + 1 → 61 ^ (m * 2 ^ j) % n ≠ n - 1 := fun j hj => by
        rcases Nat.lt_or_ge j k with q | q
        ·exact hne.out j q
        ·obtain rfl : j = k := by omega
         rw [← hPe.out, ← hl.out]; exact hpl
       replace hne2 := Lib.hid hne2
       go_wp2_with fail
       with_reducible refine Calls.mono (C.out _ hc1) ?_
       rintro e w4 ⟨rfl, rfl⟩
       go_wp2_with fail
       with_reducible refine Calls.mono (MM.out _) ?_
       rintro e w5 ⟨rfl, rfl⟩
       go_wp2_with fail
       go_roundg g1
       case measure => omega
       case rel => exact ⟨P2, k + 1, by omega, by first | rfl | go_num, rfl, hml2, hme.out, hne2.out, by first | rfl | trivial⟩
end Go.Proofs.YtfmakoiiibacjaaDoor
