/-
  The law answers true at every input, and leaves its arguments as they were: a part of the proof. CONDITIONS: the package-level tables start as the program's text lays them (the card ties them).
-/
import Derived.Test.YtfmakoiiibacjaaDoorZaf
import Derived.Test.YtfmakoiiibacjaaDoorRows
set_option linter.unusedVariables false
set_option linter.unusedSimpArgs false
namespace Go.Proofs.YtfmakoiiibacjaaDoor
/-- the integer square root -/
def isq : Nat → Nat
 | 0 => 0
 | n + 1 => if (isq n + 1) * (isq n + 1) ≤ n + 1 then isq n + 1 else isq n
theorem isq_spec (n : Nat) : isq n * isq n ≤ n ∧ n < (isq n + 1) * (isq n + 1) := by
 induction n with
 | zero => simp [isq]
 | succ n ih =>
  unfold isq
  split
  ·rename_i h
   refine ⟨h, ?_⟩
   have e : (isq n + 1 + 1) * (isq n + 1 + 1) = (isq n + 1) * (isq n + 1) + 2 * (isq n + 1) + 1 := by
    generalize isq n + 1 = s; rw [Nat.add_mul, Nat.mul_add]; omega
   omega
  ·omega
theorem isq_uniq {n s : Nat} (h1 : s * s ≤ n) (h2 : n < (s + 1) * (s + 1)) : s = isq n := by
 obtain ⟨g1, g2⟩ := isq_spec n
 rcases Nat.lt_trichotomy s (isq n) with h | h | h
 ·have := Nat.mul_le_mul (show s + 1 ≤ isq n by omega) (show s + 1 ≤ isq n by omega); omega
 ·exact h
 ·have := Nat.mul_le_mul (show isq n + 1 ≤ s by omega) (show isq n + 1 ≤ s by omega); omega
end Go.Proofs.YtfmakoiiibacjaaDoor
namespace Go.Proofs.YtfmakoiiibacjaaDoor
theorem rsd_add_cancel {a b c p : Nat} (h : rsd (a + c) p = rsd (b + c) p) : rsd a p = rsd b p := by
 by_cases hp : p = 0
 ·subst hp; rfl
 ·rw [rsd_pos hp, rsd_pos hp] at h ⊢
  exact mod_add_cancel h
theorem subN_uniq {a b x p : Nat} (hx : rsd x p = x) (h : rsd (x + b) p = rsd a p) : subN a b p = x := by
 have h1 := subN_add a b p
 rw [← h] at h1
 have := rsd_add_cancel h1
 rw [hx] at this
 rw [← this]
 unfold subN; rw [rsd_rsd]
end Go.Proofs.YtfmakoiiibacjaaDoor
namespace Go.Proofs.YtfmakoiiibacjaaDoor
open Go.RowKit
section
variable {w w' : World} {g : Nat} {l : List UInt8}
end
theorem trim_nil (w : World) :
  Calls Tryd.prog 92 #[.slice none 0 0] w fun e w' => e = .returned (.slice none 0 0) ∧ w = w' := by
 go_enter Tryd.func92, Tryd.ntmps92
 go_wp2
 refine wp_loop_rounds 1 ?_
 rw [rounds_succ]
 go_wp2
 go_ret
 exact ⟨rfl, rfl⟩
end Go.Proofs.YtfmakoiiibacjaaDoor
namespace Go.Proofs.YtfmakoiiibacjaaDoor
open Go.Lib (decDigits nDigits)
theorem snoc_ind {α : Type} {p : List α → Prop} (l : List α) (nil : p []) (append_singleton : ∀ m c, p m → p (m ++ [c])) : p l := by
 have h : ∀ r : List α, p r.reverse := by
  intro r
  induction r with
  | nil => exact nil
  | cons c r ih => rw [List.reverse_cons]; exact append_singleton _ _ ih
 have := h l.reverse
 rwa [List.reverse_reverse] at this
/-- The byte of a decimal digit. -/
def dch (d : Nat) : UInt8 := UInt8.ofNat (48 + d)
theorem dec_big {u : Nat} (h : ¬ u < 10) : decDigits u = decDigits (u / 10) ++ [dch (u % 10)] := by rw [decDigits, dif_neg h]; rfl
/-- k decimal digits of r, with leading zeros. -/
def pad : Nat → Nat → List UInt8
 | 0, _ => []
 | k + 1, r => pad k (r / 10) ++ [dch (r % 10)]
theorem dec_mul_add : ∀ (k q r : Nat), 0 < q → r < 10 ^ k → decDigits (q * 10 ^ k + r) = decDigits q ++ pad k r
 | 0, q, r, _, hr => by
  rw [Nat.pow_zero] at hr
  rw [pad, List.append_nil, show r = 0 by omega, Nat.pow_zero, Nat.mul_one, Nat.add_zero]
 | k + 1, q, r, hq, hr => by
  rw [Nat.pow_succ] at hr ⊢
  have h1 : 1 ≤ 10 ^ k := Nat.one_le_pow _ _ (by omega)
  have h2 : q * (10 ^ k * 10) = (q * 10 ^ k) * 10 := by rw [Nat.mul_assoc]
  rw [h2]
  have h3 : 1 ≤ q * 10 ^ k := Nat.mul_pos hq h1
  have h4 := dec_mul_add k q (r / 10) hq (by omega)
  generalize q * 10 ^ k = x at *
  rw [dec_big (by omega), show (x * 10 + r) / 10 = x + r / 10 by omega, show (x * 10 + r) % 10 = r % 10 by omega, h4, pad, List.append_assoc]
/-- The number that decimal digits spell. -/
def dval (l : List UInt8) : Nat := l.foldl (fun n c => n * 10 + (c.toNat - 48)) 0
theorem dval_nil : dval [] = 0 := rfl
theorem dval_snoc (l : List UInt8) (c : UInt8) : dval (l ++ [c]) = dval l * 10 + (c.toNat - 48) := by
 unfold dval; rw [List.foldl_append]; rfl
theorem dval_append (l m : List UInt8) : dval (l ++ m) = dval l * 10 ^ m.length + dval m := by
 induction m using snoc_ind with
 | nil => simp [dval_nil]
 | append_singleton m c ih =>
  rw [← List.append_assoc, dval_snoc, ih, dval_snoc, List.length_append, show [c].length = 1 from rfl, Nat.pow_succ, Nat.add_mul, Nat.mul_assoc]
  omega
def isDig (c : UInt8) : Prop := 48 ≤ c.toNat ∧ c.toNat ≤ 57
theorem dval_lt {l : List UInt8} (h : ∀ c ∈ l, isDig c) : dval l < 10 ^ l.length := by
 induction l using snoc_ind with
 | nil => exact Nat.one_pos
 | append_singleton m c ih =>
  have h1 := ih fun x hx => h x (List.mem_append_left _ hx)
  have h2 := h c (List.mem_append_right _ (List.mem_singleton.2 rfl))
  unfold isDig at h2
  rw [dval_snoc, List.length_append, show [c].length = 1 from rfl, Nat.pow_succ]
  omega
end Go.Proofs.YtfmakoiiibacjaaDoor
namespace Go.Proofs.YtfmakoiiibacjaaDoor
open Go.RowKit
/-- No int lies in a box that holds none. -/
theorem Hd.no_int {w : World} {k : Nat} {c : List Value} (h : Hd w k c) (hc : ∀ v ∈ c, ∀ n, v ≠ .int .i64 n) {a : Addr} {n : Int} (hx : w.cell? a = some (.int .i64 n)) : a.block ≠ k := by
 intro e
 obtain ⟨arr, t, h1, h2⟩ := h.row
 unfold World.cell? at hx
 rw [e, h1] at hx
 simp only at hx
 split at hx
 ·cases hx
 ·rename_i hs
  have ho : a.off < c.length := by
   have := (Array.getElem?_eq_some_iff.1 hx).1
   omega
  have h3 := h.cell a.off ho
  unfold World.cell? at h3
  simp only [h1] at h3
  rw [if_neg (by simp)] at h3
  rw [hx] at h3
  exact hc c[a.off] (List.getElem_mem ho) n (Option.some.inj h3).symm
end Go.Proofs.YtfmakoiiibacjaaDoor
namespace Go.Proofs.YtfmakoiiibacjaaDoor
open Go.RowKit
attribute [local irreducible] lo hs sm s64 c64 d64 b64 mh ml pd pc qd qc val hiB str cmpI srD lz nb isq
end Go.Proofs.YtfmakoiiibacjaaDoor
namespace Go.Proofs.YtfmakoiiibacjaaDoor
open Go.RowKit
attribute [local irreducible] lo hs
theorem dI_sub {x y : Int} {k : Nat} (hx : dI x ≤ k) (hy : dI y ≤ k) : dI (x - y) ≤ k + 1 := by
 rw [Int.sub_eq_add_neg]; exact dI_add hx (by rw [dI_neg]; exact hy)
end Go.Proofs.YtfmakoiiibacjaaDoor
namespace Go.Proofs.YtfmakoiiibacjaaDoor
open Go.RowKit
attribute [local irreducible] lo hs
theorem xgcd_bez : ∀ (n : Nat) (a b : Int), b.natAbs ≤ n → a * (xgcd a b).2.1 + b * (xgcd a b).2.2 = (xgcd a b).1 ∧ (xgcd a b).1 = (Nat.gcd a.natAbs b.natAbs : Nat) := by
 intro n
 induction n with
 | zero =>
  intro a b h
  obtain rfl : b = 0 := by omega
  rw [xgcd_zero]
  refine ⟨?_, by simp⟩
  have := sgn_mul a
  show a * sgn a + 0 * 0 = (a.natAbs : Int)
  rw [Int.mul_comm]; omega
 | succ n ih =>
  intro a b h
  by_cases hb : b = 0
  ·subst hb
   rw [xgcd_zero]
   refine ⟨?_, by simp⟩
   have := sgn_mul a
   show a * sgn a + 0 * 0 = (a.natAbs : Int)
   rw [Int.mul_comm]; omega
  ·have h1 := Int.emod_lt a hb
   have h2 := Int.emod_nonneg a hb
   obtain ⟨i1, i2⟩ := ih b (a % b) (by omega)
   rw [xgcd_step hb]
   refine ⟨?_, ?_⟩
   ·show a * (xgcd b (a % b)).2.2 + b * ((xgcd b (a % b)).2.1 - a / b * (xgcd b (a % b)).2.2) = (xgcd b (a % b)).1
    rw [← i1]
    have h3 := Int.mul_ediv_add_emod a b
    generalize (xgcd b (a % b)).2.1 = p
    generalize (xgcd b (a % b)).2.2 = q
    generalize a % b = r at *
    generalize a / b = c at *
    grind
   ·show (xgcd b (a % b)).1 = _
    rw [i2]
    show ((Int.gcd b (a % b) : Nat) : Int) = ((Int.gcd a b : Nat) : Int)
    congr 1
    rw [Int.emod_def, Int.gcd_sub_mul_left_right, Int.gcd_comm]
theorem xgcd_y {a b : Int} (hb : b ≠ 0) : ((xgcd a b).1 - a * (xgcd a b).2.1) / b = (xgcd a b).2.2 := by
 have h := (xgcd_bez _ a b (Nat.le_refl _)).1
 rw [show (xgcd a b).1 - a * (xgcd a b).2.1 = b * (xgcd a b).2.2 by omega]
 exact Int.mul_ediv_cancel_left _ hb
end Go.Proofs.YtfmakoiiibacjaaDoor
namespace Go.Proofs.YtfmakoiiibacjaaDoor
open Go.RowKit
attribute [local irreducible] lo hs sm s64 c64 d64 b64 mh ml pd pc qd qc val hiB str cmpI srD lz nb isq zl zh zs
end Go.Proofs.YtfmakoiiibacjaaDoor
namespace Go.Proofs.YtfmakoiiibacjaaDoor
open Go.RowKit
attribute [local irreducible] lo hs sm s64 c64 d64 b64 mh ml pd pc qd qc val hiB str cmpI srD lz nb isq zl zh zs dval
theorem dI_small {z : Int} (h : z.natAbs < Bs) : dI z ≤ 1 := digs_length_iff.2 (by rw [Nat.pow_one]; exact h)
theorem dI_lit {z : Int} (h : z.natAbs < 18446744073709551616) : dI z ≤ 1 := dI_small (by unfold Bs; exact h)
end Go.Proofs.YtfmakoiiibacjaaDoor
namespace Go.Proofs.YtfmakoiiibacjaaDoor
open Go.RowKit
attribute [local irreducible] lo hs zl zh zs
end Go.Proofs.YtfmakoiiibacjaaDoor
namespace Go.Proofs.YtfmakoiiibacjaaDoor
open Go.RowKit
theorem adM {p x y r : Nat} (hp : p < 4294967296) (hx : x < 4294967296) (hy : y < 4294967296) (h : rsd (x + y) p = r) (w : World) :
  Calls Tryd.prog 15 #[.int .u32 (x : Int), .int .u32 (y : Int), .int .u32 (p : Int)] w fun e w' => e = .returned (.int .u32 (r : Int)) ∧ Below w.heap.size w w' := toBelow (by have := madd_any x y p hx hy hp w; rwa [h] at this)
theorem suM {p x y r : Nat} (hp : p < 4294967296) (hx : x < 4294967296) (hy : y < 4294967296) (h : subN x y p = r) (w : World) :
  Calls Tryd.prog 17 #[.int .u32 (x : Int), .int .u32 (y : Int), .int .u32 (p : Int)] w fun e w' => e = .returned (.int .u32 (r : Int)) ∧ Below w.heap.size w w' := toBelow (by have := msub_any x y p hx hy hp w; rwa [h] at this)
end Go.Proofs.YtfmakoiiibacjaaDoor
namespace Go.Proofs.YtfmakoiiibacjaaDoor
open Go.RowKit
attribute [local irreducible] subN invV invB prB
set_option maxHeartbeats 4000000 in
set_option maxRecDepth 100000 in
theorem rof6_any (n p : Nat) (hn : n < 18446744073709551616) (hp : p < 4294967296) (w : World) :
  Calls Tryd.prog 16 #[.int .u64 (n : Int), .int .u32 (p : Int)] w fun e w' => e = .returned (.int .u32 ((rsd n p : Nat) : Int)) ∧ w' = w := by
 have hr : rsd n p < 4294967296 := Nat.lt_of_le_of_lt (rsd_le n p) hp
 by_cases h0 : p = 0
 ·subst h0
  go_enter Tryd.func16, Tryd.ntmps16
  go_wp2_with fail
  go_ret
  exact ⟨rfl, rfl⟩
 ·have e0 : ((p : Int) == 0) = false := by simp; omega
  have e1 : (p : Int) ≠ 0 := by omega
  have hz : (p : Int) % 18446744073709551616 = (p : Int) := by omega
  have hq : (n : Int) % (p : Int) = ((rsd n p : Nat) : Int) := by rw [rsd_pos h0]; rfl
  have hr2 : ((rsd n p : Nat) : Int) % 4294967296 = ((rsd n p : Nat) : Int) := by omega
  generalize rsd n p = r at *
  go_enter Tryd.func16, Tryd.ntmps16
  go_wp2_with fail
  go_ret
  exact ⟨by first | rfl | (simp [*]), rfl⟩
attribute [local irreducible] rsd
end Go.Proofs.YtfmakoiiibacjaaDoor
namespace Go.Proofs.YtfmakoiiibacjaaDoor.Rx
open Go.RowKit
/-- The number that digits spell. -/
def tv : List Nat → Nat
 | [] => 0
 | d :: l => d + 10000 * tv l
theorem tv_cons (d : Nat) (l : List Nat) : tv (d :: l) = d + 10000 * tv l := rfl
theorem tv_nil : tv [] = 0 := rfl
/-- The digits of a number. -/
def td (n : Nat) : List Nat := if h : n = 0 then [] else n % 10000 :: td (n / 10000)
theorem td_zero : td 0 = [] := by rw [td, dif_pos rfl]
theorem td_pos {n : Nat} (h : n ≠ 0) : td n = n % 10000 :: td (n / 10000) := by rw [td, dif_neg h]
theorem tv_td (n : Nat) : tv (td n) = n := by
 induction n using Nat.strongRecOn with
 | _ n ih =>
  by_cases h : n = 0
  ·rw [h, td_zero]; rfl
  ·rw [td_pos h, tv, ih (n / 10000) (by omega)]; omega
theorem td_lt (n : Nat) : ∀ d ∈ td n, d < 10000 := by
 induction n using Nat.strongRecOn with
 | _ n ih =>
  by_cases h : n = 0
  ·rw [h, td_zero]; intro d hd; cases hd
  ·rw [td_pos h]
   intro d hd
   rcases List.mem_cons.1 hd with rfl | hd
   ·omega
   ·exact ih (n / 10000) (by omega) d hd
theorem td_nil {n : Nat} : td n = [] ↔ n = 0 := by
 by_cases h : n = 0
 ·rw [h, td_zero]; simp
 ·rw [td_pos h]; simp [h]
theorem tv_append (l m : List Nat) : tv (l ++ m) = tv l + 10000 ^ l.length * tv m := by
 induction l with
 | nil => simp [tv]
 | cons d l ih => rw [List.cons_append, tv, ih, tv, List.length_cons, Nat.pow_succ, Nat.mul_add, Nat.mul_comm _ 10000, Nat.mul_assoc]; omega
theorem tv_lt {l : List Nat} (h : ∀ d ∈ l, d < 10000) : tv l < 10000 ^ l.length := by
 induction l with
 | nil => exact Nat.one_pos
 | cons d l ih =>
  have h1 := ih fun x hx => h x (List.mem_cons_of_mem _ hx)
  have h2 := h d List.mem_cons_self
  rw [tv, List.length_cons, Nat.pow_succ]
  omega
theorem tv_zeros (k : Nat) : tv (List.replicate k 0) = 0 := by
 induction k with
 | zero => rfl
 | succ k ih => rw [List.replicate_succ, tv, ih]
/-- Digits are those of their number, and zeros behind them. -/
theorem td_tv {l : List Nat} (h : ∀ d ∈ l, d < 10000) : ∃ z, l = td (tv l) ++ List.replicate z 0 := by
 induction l with
 | nil => exact ⟨0, by rw [tv, td_zero]; rfl⟩
 | cons d l ih =>
  obtain ⟨z, hz⟩ := ih fun x hx => h x (List.mem_cons_of_mem _ hx)
  have hd := h d List.mem_cons_self
  rw [tv]
  by_cases h0 : d + 10000 * tv l = 0
  ·have h1 : tv l = 0 := by omega
   rw [h1, td_zero, List.nil_append] at hz
   refine ⟨z + 1, ?_⟩
   rw [h0, td_zero, List.nil_append, List.replicate_succ, ← hz, show d = 0 by omega]
  ·refine ⟨z, ?_⟩
   rw [td_pos h0, show (d + 10000 * tv l) % 10000 = d by omega, show (d + 10000 * tv l) / 10000 = tv l by omega, List.cons_append, ← hz]
theorem td_length {n k : Nat} : (td n).length ≤ k ↔ n < 10000 ^ k := by
 induction k generalizing n with
 | zero =>
  rw [Nat.pow_zero]
  constructor
  ·intro h; have := td_nil.1 (List.eq_nil_of_length_eq_zero (l := td n) (by omega)); omega
  ·intro h; rw [show n = 0 by omega, td_zero]; exact Nat.le_refl _
 | succ k ih =>
  by_cases h : n = 0
  ·rw [h, td_zero]; exact ⟨fun _ => Nat.pow_pos (by omega), fun _ => Nat.zero_le _⟩
  ·rw [td_pos h, List.length_cons, Nat.pow_succ]
   have := ih (n := n / 10000)
   constructor
   ·intro h1; have := this.1 (by omega); omega
   ·intro h1; have := this.2 (by omega); omega
theorem td_mono {a b : Nat} (h : a ≤ b) : (td a).length ≤ (td b).length := td_length.2 (Nat.lt_of_le_of_lt h (td_length.1 (Nat.le_refl _)))
theorem tv_snoc (l : List Nat) (d : Nat) : tv (l ++ [d]) = tv l + 10000 ^ l.length * d := by rw [tv_append]; simp [tv]
theorem tv_take_getElem {l : List Nat} {k : Nat} (h : k < l.length) : tv (l.take (k + 1)) = tv (l.take k) + 10000 ^ k * l[k] := by
 rw [List.take_succ_eq_append_getElem h, tv_snoc, List.length_take, Nat.min_eq_left (Nat.le_of_lt h)]
theorem td_last {n : Nat} (h : td n ≠ []) : (td n).getLast h ≠ 0 := by
 induction n using Nat.strongRecOn with
 | _ n ih =>
  have h0 : n ≠ 0 := fun e => h (td_nil.2 e)
  by_cases h1 : n / 10000 = 0
  ·simp only [td_pos h0, h1, td_zero, List.getLast_singleton]; omega
  ·have h2 : td (n / 10000) ≠ [] := fun e => h1 (td_nil.1 e)
   have := ih (n / 10000) (by omega) h2
   simp only [td_pos h0]
   rwa [List.getLast_cons h2]
/-- A digit, or 0 behind the last one. -/
def dg (l : List Nat) (i : Nat) : Nat := l.getD i 0
theorem dg_lt {l : List Nat} (h : ∀ d ∈ l, d < 10000) (i : Nat) : dg l i < 10000 := by
 unfold dg
 rcases Nat.lt_or_ge i l.length with hi | hi
 ·simp [hi]; exact h _ (List.getElem_mem hi)
 ·simp [hi]
theorem dg_in {l : List Nat} {i : Nat} (h : i < l.length) : dg l i = l[i] := by unfold dg; simp [h]
theorem dg_out {l : List Nat} {i : Nat} (h : l.length ≤ i) : dg l i = 0 := by unfold dg; simp [h]
theorem tv_take (l : List Nat) (k : Nat) : tv (l.take (k + 1)) = tv (l.take k) + 10000 ^ k * dg l k := by
 rcases Nat.lt_or_ge k l.length with h | h
 ·rw [tv_take_getElem h, dg_in h]
 ·rw [dg_out h, List.take_of_length_le (by omega), List.take_of_length_le h]; omega
/-- A slice of ints that can be read. -/
structure Sd (w : World) (a : Addr) (l : List Nat) : Prop where
 cell : ∀ (i : Nat) (h : i < l.length), w.cell? (a.add i) = some (.int .i64 ((l[i] : Nat) : Int))
 blk : a.block < w.heap.size
theorem addB (a : Addr) (i : Nat) : (a.add i).block = a.block := by unfold Addr.add; split <;> rfl
theorem Sd.below {w w' : World} {a : Addr} {l : List Nat} (h : Sd w a l) (hb : Below w.heap.size w w') : Sd w' a l :=
 ⟨fun i hi => (hb.cell (p := a.add i) (by rw [addB]; exact h.blk)).trans (h.cell i hi), Nat.lt_of_lt_of_le h.blk hb.size⟩
theorem Sd.left {w : World} {a : Addr} {l m : List Nat} (h : Sd w a (l ++ m)) : Sd w a l :=
 ⟨fun i hi => by rw [h.cell i (by rw [List.length_append]; omega), List.getElem_append_left hi], h.blk⟩
def Sl (w : World) (v : Value) (l : List Nat) : Prop := (∃ ao c, v = .slice ao 0 c ∧ l = [] ∧ (ao = none → c = 0)) ∨ ∃ a c, v = .slice (some a) l.length c ∧ l.length ≤ c ∧ Sd w a l
theorem Sl.below {w w' : World} {v : Value} {l : List Nat} (h : Sl w v l) (hb : Below w.heap.size w w') : Sl w' v l := by
 rcases h with h | ⟨a, c, h1, h2, h3⟩
 ·exact .inl h
 ·exact .inr ⟨a, c, h1, h2, h3.below hb⟩
theorem Sl.form {w : World} {v : Value} {l : List Nat} (h : Sl w v l) : ∃ ao c, v = .slice ao l.length c := by
 rcases h with ⟨ao, c, rfl, rfl, -⟩ | ⟨a, c, rfl, _⟩
 ·exact ⟨_, _, rfl⟩
 ·exact ⟨_, _, rfl⟩
theorem Sl.nil (w : World) : Sl w (.slice none 0 0) [] := .inl ⟨_, _, rfl, rfl, fun _ => rfl⟩
theorem Sl.drew {w : World} {v : Value} {l : List Nat} (h : Sl w v l) : Sl w.drew v l := by
 rcases h with h | ⟨a, c, h1, h2, h3⟩
 ·exact .inl h
 ·exact .inr ⟨a, c, h1, h2, h3.cell, h3.blk⟩
/-- What the walk asks of a slice. -/
theorem Sl.view {w : World} {v : Value} {l : List Nat} (h : Sl w v l) : ∃ ao c, v = .slice ao l.length c ∧ (0 < l.length → ∃ a, ao = some a ∧ l.length ≤ c ∧ Sd w a l) := by
 rcases h with ⟨ao, c, rfl, rfl, -⟩ | ⟨a, c, rfl, h2, h3⟩
 ·exact ⟨_, _, rfl, fun h => absurd h (Nat.lt_irrefl 0)⟩
 ·exact ⟨_, _, rfl, fun _ => ⟨a, rfl, h2, h3⟩⟩
/-- What an append looks at. -/
theorem Sl.src {w : World} {v : Value} {l : List Nat} (h : Sl w v l) : (v = .slice none 0 0 ∧ l = []) ∨ ∃ ad c, v = .slice (some ad) l.length c ∧ ∀ (j : Nat) (u : Value), (l.map fun (d : Nat) => Value.int .i64 (d : Int))[j]? = some u → w.cell? (ad.add j) = some u := by
 rcases h with ⟨ao, c, rfl, rfl, hc⟩ | ⟨a, c, rfl, _, h3⟩
 ·cases ao with
  | none => exact .inl ⟨by rw [hc rfl], rfl⟩
  | some ad => exact .inr ⟨ad, c, rfl, fun j u hu => by simp at hu⟩
 ·refine .inr ⟨a, c, rfl, fun j u hu => ?_⟩
  rw [List.getElem?_map] at hu
  obtain ⟨x, hx, rfl⟩ := Option.map_eq_some_iff.1 hu
  obtain ⟨hjl, rfl⟩ := List.getElem?_eq_some_iff.1 hx
  exact h3.cell j hjl
/-- What the call owns can be read. -/
theorem Sl.owned {w : World} {base e : Nat} {v : Value} {n : Nat} {l : List Nat} (h : w.ownsRow base e 1 v n (l.map fun (d : Nat) => Value.int .i64 (d : Int))) (hn : n = l.length) : Sl w v l := by
 subst hn
 have hlt := h.lt
 have hc := fun g hg => World.ownsRow.cells h (g := g) hg
 rcases h.2 with ⟨h', h''⟩ | ⟨g, cap, cur, h', _, hg, hm, hk, hsz, htake⟩
 ·exact .inl ⟨none, 0, h', by simpa using h'', fun _ => rfl⟩
 ·refine .inr ⟨⟨g, 0, none⟩, cap, h', ?_, fun i hi => ?_, ?_⟩
  ·omega
  ·have := hc g (by rw [h']; rfl) i (.int .i64 ((l[i] : Nat) : Int)) (by simp [hi])
   exact this
  ·exact (hlt g (by rw [h']; rfl)).2
abbrev iv (d : Nat) : Value := .int .i64 (d : Int)
theorem own_next {w : World} {B e k : Nat} {v : Value} {l : List Nat} (h : k < l.length) {x : Int} (hx : x = ((l[k] : Nat) : Int)) (ho : w.ownsRow B e 1 v (k + 1) (List.take k (List.map iv l) ++ [.int .i64 x])) :
  w.ownsRow B e 1 v (k + 1) ((l.take (k + 1)).map iv) := by
 rw [List.take_succ_eq_append_getElem h, List.map_append, List.map_take]
 rw [hx] at ho
 exact ho
theorem own_snoc {w : World} {B e k : Nat} {v : Value} {l : List Nat} {x : Int} {d : Nat} (hx : x = (d : Int)) (ho : w.ownsRow B e 1 v (k + 1) (List.map iv l ++ [.int .i64 x])) : w.ownsRow B e 1 v (k + 1) ((l ++ [d]).map iv) := by
 rw [hx] at ho
 rw [List.map_append]
 exact ho
theorem below_app {B e k : Nat} {w wr w1 : World} {v : Value} {xs : List Value} {o : Obj} (hb : Below B w wr) (hB : B ≤ wr.heap.size) (hown : wr.ownsRow B e 1 v k xs) (hg : (wr.alloc o).grownBy w1 v.ownBlock) : Below B w w1 :=
 (hb.alloc hB o).grown hg (by rw [World.size_alloc]; omega) (fun j hj => (hown.lt j hj).1)
end Go.Proofs.YtfmakoiiibacjaaDoor.Rx
namespace Go.Proofs.YtfmakoiiibacjaaDoor.Rx
open Go.RowKit
attribute [local irreducible] tv dg
theorem at_any (v : Value) (l : List Nat) (i : Nat) (hi : i < 9223372036854775808) (hl : l.length < 9223372036854775808) (w : World) (h : Sl w v l) :
  Calls Tryd.prog 101 #[v, .int .i64 (i : Int)] w fun e w' => e = .returned (.int .i64 ((dg l i : Nat) : Int)) ∧ w = w' := by
 obtain ⟨ao, c, rfl, hv⟩ := h.view
 rcases Nat.lt_or_ge i l.length with hlt | hge
 ·obtain ⟨a, rfl, -, hs⟩ := hv (by omega)
  have hc := hs.cell i hlt
  have hd := Lib.hid (dg_in hlt)
  obtain ⟨d, hd'⟩ : ∃ d, d = dg l i := ⟨_, rfl⟩
  rw [← hd.out, ← hd'] at hc
  rw [← hd']
  clear hd hd' hv h hs
  generalize l.length = n at *
  have h1 : (i : Int) < (n : Int) := by omega
  go_enter Tryd.func101, Tryd.ntmps101
  go_wp2
  go_ret
  exact ⟨rfl, rfl⟩
 ·rw [dg_out hge]
  generalize l.length = n at *
  have h1 : ¬ (i : Int) < (n : Int) := by omega
  go_enter Tryd.func101, Tryd.ntmps101
  go_wp2
  go_ret
  exact ⟨rfl, rfl⟩
def lenOf : Value → Nat | .slice _ n _ => n | _ => 0
theorem trim_nil (ao : Option Addr) (c : Nat) (w : World) :
  Calls Tryd.prog 98 #[.slice ao 0 c] w fun e w' => e = .returned (.slice ao 0 c) ∧ w = w' := by
 go_enter Tryd.func98, Tryd.ntmps98
 go_wp2_with fail
 go_loopw [0] (fun v wr => v = .slice ao 0 c ∧ wr = w) (fun v _ => lenOf v)
 case atStart => exact ⟨rfl, rfl⟩
 case round =>
  obtain ⟨rfl, rfl⟩ := hrel
  go_wp2_with fail
  go_ret
  exact ⟨rfl, rfl⟩
theorem trim_row (a : Addr) (c m z : Nat) (l : List Nat) (hm : l.length = m) (hc : m + z ≤ c) (hB : m + z < 9223372036854775807) (hlast : ∀ h : l ≠ [], l.getLast h ≠ 0) (w : World) (h : Sd w a (l ++ List.replicate z 0)) :
  Calls Tryd.prog 98 #[.slice (some a) (m + z) c] w fun e w' => e = .returned (.slice (some a) m c) ∧ w = w' := by
 have hz : ∀ k, k < z → w.cell? (a.add (m + k)) = some (.int .i64 0) := fun k hk => by
  rw [h.cell (m + k) (by simp; omega), List.getElem_append_right (by omega)]; simp
 have hl : ∀ p, m = p + 1 → ∃ d : Nat, d ≠ 0 ∧ w.cell? (a.add p) = some (.int .i64 (d : Int)) := fun p hp => by
  have hne : l ≠ [] := fun e => by rw [e] at hm; simp at hm; omega
  refine ⟨l.getLast hne, hlast hne, ?_⟩
  rw [h.cell p (by simp; omega), List.getElem_append_left (by omega), List.getLast_eq_getElem hne]
  simp [hm, hp]
 clear h hlast hm
 replace hz := Lib.hid hz
 replace hl := Lib.hid hl
 go_enter Tryd.func98, Tryd.ntmps98
 go_wp2_with fail
 go_loopw [0] (fun v wr => ∃ k, k ≤ z ∧ v = .slice (some a) (m + k) c ∧ wr = w) (fun v _ => lenOf v)
 case atStart => exact ⟨z, Nat.le_refl _, rfl, rfl⟩
 case round =>
  obtain ⟨k, hk, rfl, rfl⟩ := hrel
  cases k with
  | zero =>
   rw [Nat.add_zero]
   cases m with
   | zero =>
    go_wp2_with fail
    go_ret
    exact ⟨rfl, rfl⟩
   | succ p =>
    obtain ⟨d, hd, hcell⟩ := hl.out p rfl
    have hd1 : ((d : Int) == 0) = false := beq_eq_false_iff_ne.2 (by omega)
    go_wp2_with fail
    go_ret
    exact ⟨rfl, rfl⟩
  | succ j =>
   have hcell := hz.out j (by omega)
   rw [show m + (j + 1) = (m + j) + 1 from by omega]
   obtain ⟨q, hq⟩ : ∃ q, q = m + j := ⟨_, rfl⟩
   rw [← hq] at hcell ⊢
   have hqc : q + 1 ≤ c := by omega
   have hqB : q + 1 < 9223372036854775807 := by omega
   replace hq := Lib.hid hq
   go_wp2_with fail
   go_roundw
   case rel => exact ⟨j, by omega, by rw [hq.out], trivial⟩
   case measure => simp [lenOf]
/-- trim: the digits of a number. -/
theorem trim_any (v : Value) (l : List Nat) (hd : ∀ d ∈ l, d < 10000) (hB : l.length < 9223372036854775807) (w : World) (h : Sl w v l) :
  Calls Tryd.prog 98 #[v] w fun e w' => ∃ v', e = .returned v' ∧ Sl w v' (td (tv l)) ∧ w = w' := by
 obtain ⟨z, hz⟩ := td_tv hd
 rcases h with ⟨ao, c, rfl, rfl, hc0⟩ | ⟨a, c, rfl, h2, h3⟩
 ·refine (trim_nil ao c w).mono ?_
  rintro e w' ⟨rfl, rfl⟩
  exact ⟨_, rfl, .inl ⟨ao, c, rfl, by rw [tv_nil, td_zero], hc0⟩, rfl⟩
 ·have hlen : l.length = (td (tv l)).length + z := by
   have := congrArg List.length hz
   rwa [List.length_append, List.length_replicate] at this
  rw [hz] at h3
  rw [hlen] at h2 hB ⊢
  refine (trim_row a c _ z (td (tv l)) rfl h2 hB (fun h => td_last h) w h3).mono ?_
  rintro e w' ⟨rfl, rfl⟩
  exact ⟨_, rfl, .inr ⟨a, c, rfl, by omega, h3.left⟩, rfl⟩
end Go.Proofs.YtfmakoiiibacjaaDoor.Rx
namespace Go.Proofs.YtfmakoiiibacjaaDoor.Rx
open Go.RowKit
attribute [local irreducible] tv dg
theorem Tryd.infoI : (Tryd.prog.info? 3).map (fun i => (i.zero, i.size, i.bytes)) = some (some (.int .i64 0), 1, 8) := by kernel_rfl
/-- What the digits so far spell, with what is left. -/
theorem td_step {n k : Nat} (hk : k < (td n).length) : n / 10000 ^ k ≠ 0 ∧ (td n)[k] = n / 10000 ^ k % 10000 := by
 induction k generalizing n with
 | zero =>
  have h0 : n ≠ 0 := fun e => by rw [e, td_zero] at hk; exact absurd hk (by simp)
  simp only [Nat.pow_zero, Nat.div_one]
  refine ⟨h0, ?_⟩
  simp only [td_pos h0, List.getElem_cons_zero]
 | succ k ih =>
  have h0 : n ≠ 0 := fun e => by rw [e, td_zero] at hk; exact absurd hk (by simp)
  have hk' : k < (td (n / 10000)).length := by rw [td_pos h0, List.length_cons] at hk; omega
  have := ih hk'
  rw [Nat.div_div_eq_div_mul, Nat.mul_comm, ← Nat.pow_succ] at this
  refine ⟨this.1, ?_⟩
  simp only [td_pos h0, List.getElem_cons_succ]
  exact this.2
theorem td_end {n k : Nat} (hk : (td n).length ≤ k) : n / 10000 ^ k = 0 := Nat.div_eq_of_lt (td_length.1 hk)
set_option maxHeartbeats 2000000 in
set_option maxRecDepth 100000 in
theorem rof_any (n : Nat) (hn : n < 18446744073709551616) (w : World) :
  Calls Tryd.prog 65 #[.int .u64 (n : Int)] w fun e w' => ∃ v, e = .returned v ∧ Sl w' v (td n) ∧ Below w.heap.size w w' := by
 obtain ⟨i0, hi, hz0, hz1, hz2⟩ := info_parts Tryd.infoI
 have hlen : (td n).length ≤ 5 := td_length.2 (by omega)
 replace hn := Lib.hid hn
 go_enter Tryd.func65, Tryd.ntmps65
 go_wp2_with fail
 go_loopw [0, 3] (fun u v wr => ∃ k : Nat, k ≤ (td n).length ∧ u = .int .u64 ((n / 10000 ^ k : Nat) : Int) ∧ wr.ownsRow w.heap.size 3 1 v k (((td n).take k).map iv) ∧ Below w.heap.size w wr) (fun u _ _ => (intOf u).toNat)
 case atStart => exact ⟨0, Nat.zero_le _, by simp, World.ownsRow_nil _ _ _ _, Below.refl _ _⟩
 case round =>
  obtain ⟨k, hk, rfl, hown, hb⟩ := hrel
  rcases Nat.lt_or_ge k (td n).length with hlt | hge
  ·obtain ⟨h1, h2⟩ := td_step hlt
   obtain ⟨q, hq⟩ : ∃ q, q = n / 10000 ^ k := ⟨_, rfl⟩
   have hqn : q ≤ n := by rw [hq]; exact Nat.div_le_self _ _
   rw [← hq] at h1 h2 ⊢
   have hq0 : (0 : Int) < (q : Int) := by omega
   have hqB : (q : Int) ≤ 18446744073709551615 := by have := hn.out; omega
   replace hq := Lib.hid hq
   replace h2 := Lib.hid h2
   replace h1 := Lib.hid h1
   go_wp2_with (at_builtin; refine wpList_append_own _ rfl _ _ 63 rfl w.heap.size 3 i0 (.int .i64 0) 1 8 Tryd.underlying63 hi hz0 hz1 hz2 rfl (by decide) _ _ _ rfl (hown.alloc _) ⟨wr.heap.size, 0, none⟩ 1 1 [.int .i64 ((q : Int) % 10000)] rfl rfl ?c1 ?c2 ?c3 ?c4 ?c5 ?_)
   case c1 =>
    intro j u hj
    match j, hj with
    | 0, hj => simp at hj; subst hj; simp [Addr.add]
   case c2 => intro u hu; simp at hu; subst hu; rfl
   case c3 => unfold maxLen; omega
   case c4 => omega
   case c5 => have := hb.size; simp; omega
   intro v' w1 hown' hgrow _
   have hn' := Lib.hid (own_next hlt (by rw [h2.out]; omega) hown')
   have hb' := Lib.hid (below_app hb hb.size hown hgrow)
   clear hown' hgrow hown hb
   go_wp2_with fail
   go_roundw
   case rel => exact ⟨k + 1, by omega, by rw [Nat.pow_succ, ← Nat.div_div_eq_div_mul, ← hq.out]; first | rfl | go_num, hn'.out, hb'.out⟩
   case measure => simp [intOf]; omega
  ·have h0 := td_end hge
   have hke : k = (td n).length := by omega
   rw [hke, List.take_length] at hown
   have hS := Lib.hid (Sl.owned hown rfl)
   rw [h0]
   clear h0 hke hown hge hk
   go_wp2_with fail
   go_ret
   exact ⟨_, rfl, hS.out, hb⟩
end Go.Proofs.YtfmakoiiibacjaaDoor.Rx
namespace Go.Proofs.YtfmakoiiibacjaaDoor.Rx
open Go.RowKit
attribute [local irreducible] tv dg
/-- What Add's rounds keep. -/
structure AddS (A B S : List Nat) (i c : Nat) : Prop where
 len : S.length = i
 lt : ∀ d ∈ S, d < 10000
 car : c ≤ 1
 eq : tv S + 10000 ^ i * c = tv (A.take i) + tv (B.take i)
theorem AddS.step {A B S : List Nat} {i c : Nat} (h : AddS A B S i c) (hA : ∀ d ∈ A, d < 10000) (hB : ∀ d ∈ B, d < 10000) :
  AddS A B (S ++ [(dg A i + dg B i + c) % 10000]) (i + 1) ((dg A i + dg B i + c) / 10000) := by
 have h1 := dg_lt hA i
 have h2 := dg_lt hB i
 have h3 := h.car
 refine ⟨by rw [List.length_append, h.len]; rfl, fun d hd => ?_, by omega, ?_⟩
 ·rcases List.mem_append.1 hd with hd | hd
  ·exact h.lt d hd
  ·rw [List.mem_singleton.1 hd]; omega
 ·rw [tv_snoc, h.len, tv_take, tv_take, Nat.pow_succ]
  have h4 := h.eq
  generalize dg A i = x at *
  generalize dg B i = y at *
  have h5 : (x + y + c) % 10000 + 10000 * ((x + y + c) / 10000) = x + y + c := by omega
  have h6 : 10000 ^ i * ((x + y + c) % 10000) + 10000 ^ i * 10000 * ((x + y + c) / 10000) = 10000 ^ i * x + 10000 ^ i * y + 10000 ^ i * c := by
   rw [Nat.mul_assoc, ← Nat.mul_add, h5, Nat.mul_add, Nat.mul_add]
  generalize 10000 ^ i * ((x + y + c) % 10000) = p at *
  generalize 10000 ^ i * 10000 * ((x + y + c) / 10000) = q at *
  omega
set_option maxHeartbeats 4000000 in
set_option maxRecDepth 100000 in
theorem radd_l (va vb : Value) (A B : List Nat) (hA : ∀ d ∈ A, d < 10000) (hB : ∀ d ∈ B, d < 10000) (lA : A.length ≤ 1000000) (lB : B.length ≤ 1000000) (w : World) (ha : Sl w va A) (hb : Sl w vb B) :
  Calls Tryd.prog 100 #[va, vb] w fun e w' => ∃ v, e = .returned v ∧ Sl w' v (td (tv A + tv B)) ∧ Below w.heap.size w w' := by
 obtain ⟨i0, hi, hz0, hz1, hz2⟩ := info_parts Tryd.infoI
 obtain ⟨aa, ca, ea⟩ := ha.form
 obtain ⟨ab, cb, eb⟩ := hb.form
 subst ea eb
 obtain ⟨n, hn⟩ : ∃ n, n = A.length := ⟨_, rfl⟩
 obtain ⟨m, hm⟩ : ∃ m, m = B.length := ⟨_, rfl⟩
 rw [← hn] at lA ha ⊢
 rw [← hm] at lB hb ⊢
 replace hn := Lib.hid hn
 replace hm := Lib.hid hm
 replace hA := Lib.hid hA
 replace hB := Lib.hid hB
 replace ha := Lib.hid ha
 replace hb := Lib.hid hb
 go_enter Tryd.func100, Tryd.ntmps100
 go_wp2_with fail
 go_loopw [5, 6, 7] (fun v u j wr => ∃ (i c : Nat) (S : List Nat), u = .int .i64 (c : Int) ∧ j = .int .i64 (i : Int) ∧ AddS A B S i c ∧ (i ≤ max n m + 1 ∧ (i = max n m + 1 → c = 0)) ∧ wr.ownsRow w.heap.size 3 1 v i (S.map iv) ∧ Below w.heap.size w wr) (fun _ _ j _ => max n m + 2 - (intOf j).toNat)
 case atStart => exact ⟨0, 0, [], rfl, rfl, ⟨rfl, (fun d hd => by cases hd), Nat.zero_le _, (by rw [List.take_zero, List.take_zero]; show tv [] + 1 * 0 = tv [] + tv []; unfold tv; rfl)⟩, ⟨Nat.zero_le _, fun _ => rfl⟩, World.ownsRow_nil _ _ _ _, Below.refl _ _⟩
 case round =>
  obtain ⟨i, c, S, rfl, rfl, hS, hi2, hown, hbl⟩ := hrel
  have hx := dg_lt hA.out i
  have hy := dg_lt hB.out i
  have hc1 := hS.car
  have hst := Lib.hid (hS.step hA.out hB.out)
  have HA := Lib.hid (fun (wx : World) (hh : Below w.heap.size w wx) => at_any _ A i (by omega) (by rw [← hn.out]; omega) wx (ha.out.below hh))
  have HB := Lib.hid (fun (wx : World) (hh : Below w.heap.size w wx) => at_any _ B i (by omega) (by rw [← hm.out]; omega) wx (hb.out.below hh))
  obtain ⟨x, hxe⟩ : ∃ x, x = dg A i := ⟨_, rfl⟩
  obtain ⟨y, hye⟩ : ∃ y, y = dg B i := ⟨_, rfl⟩
  have hxz := Lib.hid (show n ≤ i → x = 0 from fun h => by rw [hxe]; exact dg_out (by rw [← hn.out]; exact h))
  have hyz := Lib.hid (show m ≤ i → y = 0 from fun h => by rw [hye]; exact dg_out (by rw [← hm.out]; exact h))
  replace hi2 := Lib.hid hi2
  rw [← hxe] at hx hst HA
  rw [← hye] at hy hst HB
  clear hxe hye
  replace hS := Lib.hid hS
  have hi1 := hi2.out.1
  have hcase : ((i : Int) < (n : Int)) ∨ (¬ ((i : Int) < (n : Int)) ∧ (i : Int) < (m : Int)) ∨ (¬ ((i : Int) < (n : Int)) ∧ ¬ ((i : Int) < (m : Int)) ∧ (0 : Int) < (c : Int)) ∨ (¬ ((i : Int) < (n : Int)) ∧ ¬ ((i : Int) < (m : Int)) ∧ c = 0) := by omega
  rcases hcase with k1 | ⟨k1, k2⟩ | ⟨k1, k2, k3⟩ | ⟨k1, k2, rfl⟩
  rotate_left 3
  ·have hS' := hS.out
   have hT : tv S = tv A + tv B := by
    have := hS'.eq
    rw [List.take_of_length_le (by rw [← hn.out]; omega), List.take_of_length_le (by rw [← hm.out]; omega)] at this
    omega
   have HT := trim_any u5 S hS'.lt (by rw [hS'.len]; omega) wr (Sl.owned hown hS'.len.symm)
   rw [hT] at HT
   replace HT := Lib.hid HT
   clear hT hS' hown
   have k0 : (0 : Int) = ((0 : Nat) : Int) := rfl
   clear k0
   go_wp2_with fail
   with_reducible refine Calls.mono HT.out ?_
   rintro e w1 ⟨v', rfl, hv, rfl⟩
   replace hv := Lib.hid hv
   go_wp2_with fail
   go_ret
   exact ⟨_, rfl, hv.out, hbl⟩
  all_goals (
   have hib : (i : Int) ≤ 1000002 := by omega
   go_wp2_with fail
   with_reducible refine Calls.mono (HA.out _ hbl) ?_
   rintro e w1 ⟨rfl, rfl⟩
   go_wp2_with fail
   with_reducible refine Calls.mono (HB.out _ hbl) ?_
   rintro e w1 ⟨rfl, rfl⟩
   go_wp2_with (at_builtin; refine wpList_append_own _ rfl _ _ 63 rfl w.heap.size 3 i0 (.int .i64 0) 1 8 Tryd.underlying63 hi hz0 hz1 hz2 rfl (by decide) _ _ _ rfl (hown.alloc _) ⟨wr.heap.size, 0, none⟩ 1 1 [.int .i64 (((x : Int) + (y : Int) + (c : Int)) % 10000)] rfl rfl ?c1 ?c2 ?c3 ?c4 ?c5 ?_)
   case c1 =>
    intro j u hj
    match j, hj with
    | 0, hj => simp at hj; subst hj; simp [Addr.add]
   case c2 => intro u hu; simp at hu; subst hu; rfl
   case c3 => unfold maxLen; omega
   case c4 => omega
   case c5 => have := hbl.size; simp; omega
   intro v' w1 hown' hgrow _
   have hn' := Lib.hid (own_snoc (d := (x + y + c) % 10000) (by omega) hown')
   have hb' := Lib.hid (below_app hbl hbl.size hown hgrow)
   clear hown' hgrow hown hbl
   go_wp2_with fail
   go_roundw
   case rel => exact ⟨i + 1, (x + y + c) / 10000, _, by first | rfl | go_num, by first | rfl | go_num, hst.out, (by have q1 := hxz.out; have q2 := hyz.out; have q3 := hi2.out; omega), hn'.out, hb'.out⟩
   case measure => simp [intOf]; omega)
end Go.Proofs.YtfmakoiiibacjaaDoor.Rx
namespace Go.Proofs.YtfmakoiiibacjaaDoor.Rx
open Go.RowKit
attribute [local irreducible] tv dg
theorem add0 (g i : Nat) : (⟨g, 0, none⟩ : Addr).add i = ⟨g, i, none⟩ := by
 unfold Addr.add
 split <;> simp_all
/-- Block g holds just these ints. -/
def IB (w : World) (g : Nat) (l : List Nat) : Prop := w.heap[g]? = some (.cells (l.map iv).toArray 3 (0, 0))
section
variable {w w' : World} {g : Nat} {l : List Nat}
theorem IB.lt (h : IB w g l) : g < w.heap.size := (Array.getElem?_eq_some_iff.1 h).1
theorem IB.cell (h : IB w g l) (i : Nat) (hi : i < l.length) : w.cell? ⟨g, i, none⟩ = some (.int .i64 ((l[i] : Nat) : Int)) := by
 rw [cell_of_row w g i _ _ _ h]; simp [hi]
theorem IB.frozen (h : IB w g l) (i : Nat) : w.frozen? ⟨g, i, none⟩ = false := frozen_of_row w g i _ _ h
theorem IB.set (h : IB w g l) (i : Nat) (d : Nat) : IB (w.setCell ⟨g, i, none⟩ (.int .i64 (d : Int))) g (l.set i d) := by
 unfold IB at *
 rw [heap_setCell_same w g i _ _ _ h]
 congr 2
 rw [List.map_set]; simp
theorem IB.keep (h : IB w g l) (hk : w'.heap[g]? = w.heap[g]?) : IB w' g l := hk.trans h
theorem IB.below {B : Nat} (h : IB w g l) (hb : Below B w w') (hg : g < B) : IB w' g l := h.keep (hb.block g hg)
theorem IB.drewN (h : IB w g l) (n : Nat) : IB (w.drewN n) g l := h
theorem IB.sl (h : IB w g l) (c : Nat) (hc : l.length ≤ c) : Sl w (.slice (some ⟨g, 0, none⟩) l.length c) l :=
 .inr ⟨⟨g, 0, none⟩, c, rfl, hc, fun i hi => by rw [add0]; exact h.cell i hi, h.lt⟩
end
theorem ibdrew {B : Nat} {a w : World} (h : Below B a w) (n : Nat) : Below B a (w.drewN n) := ⟨h.os, h.tape, h.output, h.size, h.block⟩
/-- Zeros, as make lays them. -/
def zobjI (n : Nat) : Obj := .cells ((List.replicate n 0).map iv).toArray 3
theorem IB.zeros (w : World) (n : Nat) : IB (w.alloc (zobjI n)) w.heap.size (List.replicate n 0) := heap_alloc_new w _
theorem made_zerosI (n : Nat) : madeCells (Value.cells (.int .i64 0)) n = ((List.replicate n 0).map iv).toArray := by
 apply Array.ext'
 rw [show Value.cells (.int .i64 0) = #[.int .i64 0] from rfl, toList_madeCells_one]
 simp
theorem makeN (w : World) (c : Int) (n : Nat) (hc : c = n) (h : n ≤ 17592186044416) :
  (Instr.makeSlice 63 (.int .i64 c) (.int .i64 c)).run Tryd.prog w = .ok (.slice (some ⟨w.heap.size, 0, none⟩) n n) (w.alloc (zobjI n)) := by
 subst hc
 have := run_make (P := Tryd.prog) w 63 3 Tryd.t3 (.int .i64 0) Tryd.underlying63 (by kernel_rfl) (by kernel_rfl) .i64 .i64 (n : Int) (n : Int) (by omega) (Int.le_refl _) (by show ((8 : Nat) : Int) * _ ≤ _; omega) (by omega)
 rw [this]
 simp only [Int.toNat_natCast]
 show Result.ok _ (w.alloc (.cells (madeCells (Value.cells (.int .i64 0)) (n * 1)) _)) = _
 rw [Nat.mul_one, made_zerosI]; rfl
theorem tv_set {l : List Nat} {j : Nat} (h : j < l.length) (d : Nat) : tv (l.set j d) + 10000 ^ j * l[j] = tv l + 10000 ^ j * d := by
 induction l generalizing j with
 | nil => exact absurd h (by simp)
 | cons x l ih =>
  cases j with
  | zero => simp only [List.set_cons_zero, List.getElem_cons_zero, tv, Nat.pow_zero, Nat.one_mul]; omega
  | succ j =>
   have hj : j < l.length := by simpa using h
   have := ih (j := j) hj
   simp only [List.set_cons_succ, List.getElem_cons_succ, tv, Nat.pow_succ]
   rw [Nat.mul_comm (10000 ^ j) 10000, Nat.mul_assoc, Nat.mul_assoc]
   generalize 10000 ^ j * l[j] = p at *
   generalize 10000 ^ j * d = q at *
   omega
/-- What Mul's inner rounds keep. -/
structure MulS (A B X : List Nat) (i k c : Nat) : Prop where
 len : X.length = A.length + B.length
 lt : ∀ d ∈ X, d < 10000
 car : c < 10000
 eq : tv X + 10000 ^ (i + k) * c = tv (A.take i) * tv B + 10000 ^ i * (dg A i * tv (B.take k))
theorem MulS.step {A B X : List Nat} {i k c : Nat} (h : MulS A B X i k c) (hA : ∀ d ∈ A, d < 10000) (hB : ∀ d ∈ B, d < 10000) (hj : i + k < X.length) {s : Nat} (hs : s = X[i + k] + dg A i * dg B k + c) :
  s < 100000000 ∧ MulS A B (X.set (i + k) (s % 10000)) i (k + 1) (s / 10000) := by
 have h1 := dg_lt hA i
 have h2 := dg_lt hB k
 have h3 := h.car
 have hx := h.lt _ (List.getElem_mem hj)
 have hp : dg A i * dg B k ≤ 9999 * 9999 := Nat.mul_le_mul (by omega) (by omega)
 have hs1 : s < 100000000 := by omega
 refine ⟨hs1, by rw [List.length_set]; exact h.len, fun d hd => ?_, by omega, ?_⟩
 ·rcases List.mem_or_eq_of_mem_set hd with hd | hd
  ·exact h.lt d hd
  ·omega
 ·have e1 := tv_set hj (s % 10000)
  have e2 := h.eq
  rw [tv_take, ← Nat.add_assoc, Nat.pow_succ]
  have e3 : s % 10000 + 10000 * (s / 10000) = X[i + k] + dg A i * dg B k + c := by omega
  have e4 : 10000 ^ (i + k) * (s % 10000) + 10000 ^ (i + k) * 10000 * (s / 10000) = 10000 ^ (i + k) * X[i + k] + 10000 ^ (i + k) * (dg A i * dg B k) + 10000 ^ (i + k) * c := by
   rw [Nat.mul_assoc, ← Nat.mul_add, e3, Nat.mul_add, Nat.mul_add]
  have e5 : 10000 ^ i * (dg A i * (tv (B.take k) + 10000 ^ k * dg B k)) = 10000 ^ i * (dg A i * tv (B.take k)) + 10000 ^ (i + k) * (dg A i * dg B k) := by
   rw [Nat.mul_add, Nat.mul_add, Nat.pow_add, Nat.mul_left_comm (dg A i), Nat.mul_assoc (10000 ^ i)]
  rw [e5]
  generalize 10000 ^ (i + k) * (s % 10000) = p1 at *
  generalize 10000 ^ (i + k) * 10000 * (s / 10000) = p2 at *
  generalize 10000 ^ (i + k) * X[i + k] = p3 at *
  generalize 10000 ^ (i + k) * (dg A i * dg B k) = p4 at *
  generalize 10000 ^ (i + k) * c = p5 at *
  generalize 10000 ^ i * (dg A i * tv (B.take k)) = p6 at *
  generalize tv (A.take i) * tv B = p7 at *
  generalize tv (X.set (i + k) (s % 10000)) = p8 at *
  generalize tv X = p9 at *
  omega
/-- Behind b's digits one carry may be left, and no more. -/
theorem MulS.carry {A B X : List Nat} {i k c : Nat} (h : MulS A B X i k c) (hA : ∀ d ∈ A, d < 10000) (hB : ∀ d ∈ B, d < 10000) (hi : i < A.length) (hk : B.length + 1 ≤ k) : c = 0 := by
 rcases Nat.eq_zero_or_pos c with h0 | h0
 ·exact h0
 ·have e := h.eq
  have e2 : tv (A.take i) * tv B + 10000 ^ i * (dg A i * tv (B.take k)) = tv (A.take (i + 1)) * tv B := by
   rw [List.take_of_length_le (l := B) (by omega), tv_take, Nat.add_mul, Nat.mul_assoc]
  have e3 : tv (A.take (i + 1)) < 10000 ^ (i + 1) := by
   have := tv_lt (l := A.take (i + 1)) fun d hd => hA d (List.mem_of_mem_take hd)
   rwa [List.length_take, Nat.min_eq_left (by omega)] at this
  have e4 := tv_lt hB
  have e5 : tv (A.take (i + 1)) * tv B < 10000 ^ (i + 1) * 10000 ^ B.length := Nat.lt_of_le_of_lt (Nat.mul_le_mul_left _ (Nat.le_of_lt e4)) (Nat.mul_lt_mul_of_pos_right e3 (Nat.pow_pos (by omega)))
  rw [← Nat.pow_add] at e5
  have e6 : 10000 ^ (i + 1 + B.length) ≤ 10000 ^ (i + k) := Nat.pow_le_pow_right (by omega) (by omega)
  have e7 : 10000 ^ (i + k) ≤ 10000 ^ (i + k) * c := Nat.le_mul_of_pos_right _ h0
  omega
theorem MulS.done {A B X : List Nat} {i k : Nat} (h : MulS A B X i k 0) (hk : B.length ≤ k) : MulS A B X (i + 1) 0 0 := by
 refine ⟨h.len, h.lt, by omega, ?_⟩
 have e := h.eq
 rw [List.take_of_length_le hk] at e
 rw [List.take_zero, tv_take, Nat.add_mul, Nat.mul_assoc]
 rw [Nat.mul_zero, Nat.add_zero] at e ⊢
 rw [e]
 have : tv [] = 0 := by unfold tv; rfl
 rw [this, Nat.mul_zero, Nat.mul_zero, Nat.add_zero]
theorem MulS.start (A B : List Nat) : MulS A B (List.replicate (A.length + B.length) 0) 0 0 0 := by
 refine ⟨List.length_replicate, fun d hd => by rw [(List.mem_replicate.1 hd).2]; omega, by omega, ?_⟩
 have : tv [] = 0 := by unfold tv; rfl
 rw [tv_zeros, List.take_zero, List.take_zero, this]
 simp
set_option maxHeartbeats 8000000 in
set_option maxRecDepth 100000 in
theorem rmul_l (va vb : Value) (A B : List Nat) (hA : ∀ d ∈ A, d < 10000) (hB : ∀ d ∈ B, d < 10000) (lA : A.length ≤ 1000000) (lB : B.length ≤ 1000000) (w : World) (ha : Sl w va A) (hb : Sl w vb B) :
  Calls Tryd.prog 86 #[va, vb] w fun e w' => ∃ v, e = .returned v ∧ Sl w' v (td (tv A * tv B)) ∧ Below w.heap.size w w' := by
 obtain ⟨aa, ca, ea, hva⟩ := ha.view
 obtain ⟨ab, cb, eb⟩ := hb.form
 subst ea eb
 obtain ⟨n, hn⟩ : ∃ n, n = A.length := ⟨_, rfl⟩
 obtain ⟨m, hm⟩ : ∃ m, m = B.length := ⟨_, rfl⟩
 rw [← hn] at lA ha hva ⊢
 rw [← hm] at lB hb ⊢
 have hst := MulS.start A B
 rw [← hn, ← hm] at hst
 have hmk : ∀ w, (Instr.makeSlice 63 (.int .i64 ((n : Int) + (m : Int))) (.int .i64 ((n : Int) + (m : Int)))).run Tryd.prog w = .ok (.slice (some ⟨w.heap.size, 0, none⟩) (n + m) (n + m)) (w.alloc (zobjI (n + m))) :=
  fun w => makeN w _ (n + m) (by omega) (by omega)
 have hz := Lib.hid (IB.zeros w (n + m))
 replace hst := Lib.hid hst
 replace hn := Lib.hid hn
 replace hm := Lib.hid hm
 replace hA := Lib.hid hA
 replace hB := Lib.hid hB
 replace ha := Lib.hid ha
 replace hb := Lib.hid hb
 replace hva := Lib.hid hva
 obtain ⟨N, hN⟩ : ∃ N, N = n + m := ⟨_, rfl⟩
 rw [← hN] at hmk hz hst
 replace hN := Lib.hid hN
 go_enter Tryd.func86, Tryd.ntmps86
 go_wp2_with fail
 go_loopw [6] (fun j wr => ∃ (i : Nat) (X : List Nat), j = .int .i64 (i : Int) ∧ i ≤ n ∧ MulS A B X i 0 0 ∧ IB wr w.heap.size X ∧ Below w.heap.size w wr) (fun j _ => n - (intOf j).toNat)
 case atStart => exact ⟨0, _, rfl, Nat.zero_le _, hst.out, hz.out, (Below.refl _ _).alloc (Nat.le_refl _) _⟩
 case round =>
  obtain ⟨i, X, rfl, hi, hS, hX, hbl⟩ := hrel
  clear hmk hz hst
  replace hS := Lib.hid hS
  replace hX := Lib.hid hX
  rcases Nat.lt_or_ge i n with hin | hin
  ·have k1 : (i : Int) < (n : Int) := by omega
   have hib : (i : Int) ≤ 1000000 := by omega
   obtain ⟨aA, rfl, -, hsd⟩ := hva.out (by omega)
   replace hsd := Lib.hid hsd
   go_wp2_with fail
   go_loopw [7, 8] (fun cv kv wy => ∃ (k c : Nat) (Y : List Nat), cv = .int .i64 (c : Int) ∧ kv = .int .i64 (k : Int) ∧ k ≤ m + 1 ∧ MulS A B Y i k c ∧ IB wy w.heap.size Y ∧ Below w.heap.size w wy) (fun _ kv _ => m + 2 - (intOf kv).toNat)
   case atStart => exact ⟨0, 0, X, rfl, rfl, Nat.zero_le _, hS.out, hX.out, hbl⟩
   case round =>
    obtain ⟨k, c, Y, rfl, rfl, hk, hY, hYb, hbl2⟩ := hrel
    have hc := hY.car
    have hcz := Lib.hid (fun h => hY.carry hA.out hB.out (by rw [← hn.out]; exact hin) (by rw [← hm.out]; exact h))
    have hdn := Lib.hid (show m ≤ k → c = 0 → MulS A B Y (i + 1) 0 0 from fun h1 h2 => by subst h2; exact hY.done (by rw [← hm.out]; exact h1))
    have hcase : ((k : Int) < (m : Int)) ∨ (¬ ((k : Int) < (m : Int)) ∧ (0 : Int) < (c : Int)) ∨ (¬ ((k : Int) < (m : Int)) ∧ c = 0) := by omega
    rcases hcase with k2 | ⟨k2, k3⟩ | ⟨k2, rfl⟩
    rotate_left 2
    ·have hd := Lib.hid (hdn.out (by omega) rfl)
     replace hYb := Lib.hid hYb
     clear hY hcz hdn
     go_wp2_with fail
     go_roundw
     case rel => exact ⟨i + 1, Y, by first | rfl | go_num, by omega, hd.out, hYb.out, hbl2⟩
     case measure => simp [intOf]; omega
    all_goals (
     have hkm : k ≤ m := by have := hcz.out; omega
     have hj : i + k < Y.length := by rw [hY.len, ← hn.out, ← hm.out]; omega
     have hyc := hYb.cell (i + k) hj
     have hyf := hYb.frozen (i + k)
     have hac := hsd.out.cell i (by rw [← hn.out]; exact hin)
     have hap : A[i]'(by rw [← hn.out]; exact hin) = dg A i := (dg_in _).symm
     rw [hap] at hac
     obtain ⟨hs1, hs2⟩ := hY.step hA.out hB.out hj rfl
     have hsY := hYb.set (i + k) ((Y[i + k] + dg A i * dg B k + c) % 10000)
     have hy := hY.lt _ (List.getElem_mem hj)
     have hAt : ∀ wx, Below w.heap.size w wx → Calls Tryd.prog 101 #[.slice ab m cb, .int .i64 (k : Int)] wx fun e w' => e = .returned (.int .i64 ((dg B k : Nat) : Int)) ∧ w' = wx :=
      fun wx hh => (at_any _ B k (by omega) (by rw [← hm.out]; omega) wx (hb.out.below hh)).mono fun _ _ h => ⟨h.1, h.2.symm⟩
     have hp := dg_lt hA.out i
     have hq := dg_lt hB.out k
     clear hap
     generalize Y[i + k] = y at *
     generalize dg A i = p at *
     generalize dg B k = q at *
     obtain ⟨z, hz⟩ : ∃ z, z = p * q := ⟨_, rfl⟩
     have hzb : z ≤ 99980001 := by rw [hz]; exact Nat.mul_le_mul (show p ≤ 9999 by omega) (show q ≤ 9999 by omega)
     rw [← hz] at hs1 hs2 hsY
     have hzz : (p : Int) * (q : Int) = (z : Int) := by rw [hz]; rfl
     have hac2 := hac.trans rfl
     have hac4 : wr.cell? (aA.add i) = some (.int .i64 (p : Int)) := (hbl2.cell (p := aA.add i) (by rw [addB]; exact hsd.out.blk)).trans hac
     clear hz hac hac2 hY hYb hcz hdn
     replace hAt := Lib.hid hAt
     replace hs2 := Lib.hid hs2
     replace hsY := Lib.hid hsY
     have hib2 : (k : Int) ≤ 1000001 := by omega
     have hNN : (i : Int) + (k : Int) < (N : Int) := by have := hN.out; omega
     have hNk : (k : Int) < (N : Int) := by omega
     go_wp2_with fail
     go_quiet ((go_at_call 101; exact Calls.quiet_of_same (hAt.out _ (ibdrew hbl2 _))))
     go_wp2_with fail
     go_roundw
     case rel => exact ⟨k + 1, (y + z + c) / 10000, _, by first | rfl | go_num, by first | rfl | go_num, by omega, hs2.out, (by have h := hsY.out; rw [show (((y + z + c) % 10000 : Nat) : Int) = ((y : Int) + (z : Int) + (c : Int)) % 10000 by omega] at h; exact h), ((ibdrew hbl2 nq).setCell (Nat.le_refl _) _)⟩
     case measure => simp [intOf]; omega)
  ·have k1 : ¬ (i : Int) < (n : Int) := by omega
   have hie : i = n := by omega
   have hT : tv X = tv A * tv B := by
    have := hS.out.eq
    rw [hie, hn.out, List.take_length, List.take_zero] at this
    have h0 : tv [] = 0 := by unfold tv; rfl
    rw [h0, Nat.mul_zero, Nat.mul_zero, Nat.mul_zero] at this
    omega
   have hl : X.length = N := by rw [hS.out.len, hN.out, hn.out, hm.out]
   have HT := trim_any _ X hS.out.lt (by rw [hl]; have := hN.out; omega) wr (hX.out.sl N (by omega))
   rw [hT, hl] at HT
   replace HT := Lib.hid HT
   clear hT hie
   go_wp2_with fail
   with_reducible refine Calls.mono HT.out ?_
   rintro e w1 ⟨v', rfl, hv, rfl⟩
   replace hv := Lib.hid hv
   go_wp2_with fail
   go_ret
   exact ⟨_, rfl, hv.out, hbl⟩
end Go.Proofs.YtfmakoiiibacjaaDoor.Rx
namespace Go.Proofs.YtfmakoiiibacjaaDoor.Rx
open Go.RowKit
attribute [local irreducible] tv dg
/-- A slice that holds a number's digits. -/
abbrev Rn (w : World) (v : Value) (n : Nat) : Prop := Sl w v (td n)
theorem radd_any (va vb : Value) (a b : Nat) (la : (td a).length ≤ 1000000) (lb : (td b).length ≤ 1000000) (w : World) (ha : Rn w va a) (hb : Rn w vb b) :
  Calls Tryd.prog 100 #[va, vb] w fun e w' => ∃ v, e = .returned v ∧ Rn w' v (a + b) ∧ Below w.heap.size w w' := by
 have := radd_l va vb _ _ (td_lt a) (td_lt b) la lb w ha hb
 rwa [tv_td, tv_td] at this
theorem rmul_any (va vb : Value) (a b : Nat) (la : (td a).length ≤ 1000000) (lb : (td b).length ≤ 1000000) (w : World) (ha : Rn w va a) (hb : Rn w vb b) :
  Calls Tryd.prog 86 #[va, vb] w fun e w' => ∃ v, e = .returned v ∧ Rn w' v (a * b) ∧ Below w.heap.size w w' := by
 have := rmul_l va vb _ _ (td_lt a) (td_lt b) la lb w ha hb
 rwa [tv_td, tv_td] at this
theorem td_mul_le {a b k m : Nat} (ha : (td a).length ≤ k) (hb : (td b).length ≤ m) : (td (a * b)).length ≤ k + m := by
 have h1 := td_length.1 ha
 have h2 := td_length.1 hb
 refine td_length.2 ?_
 rw [Nat.pow_add]
 exact Nat.lt_of_le_of_lt (Nat.mul_le_mul_left _ (Nat.le_of_lt h2)) (Nat.mul_lt_mul_of_pos_right h1 (Nat.pow_pos (by omega)))
theorem rof_val (z : Int) (d : Nat) (hz : z = (d : Int)) (hd : d < 18446744073709551616) (w : World) :
  Calls Tryd.prog 65 #[.int .u64 z] w fun e w' => ∃ v, e = .returned v ∧ Rn w' v d ∧ Below w.heap.size w w' := by rw [hz]; exact rof_any d hd w
end Go.Proofs.YtfmakoiiibacjaaDoor.Rx
namespace Go.Proofs.YtfmakoiiibacjaaDoor.Rx
open Go.RowKit
attribute [local irreducible] tv dg cmpI
/-- Digits from a place on, compared. -/
theorem tv_split {l : List Nat} {i : Nat} (h : i < l.length) : tv l = tv (l.take i) + 10000 ^ i * (l[i] + 10000 * tv (l.drop (i + 1))) := by
 have e := tv_append (l.take i) (l.drop i)
 rw [List.take_append_drop, List.length_take, Nat.min_eq_left (Nat.le_of_lt h), List.drop_eq_getElem_cons h] at e
 rw [e]
 rw [tv_cons]
theorem tv_less {A B : List Nat} {i : Nat} (hA : ∀ d ∈ A, d < 10000) (ha : i < A.length) (hb : i < B.length) (hd : A.drop (i + 1) = B.drop (i + 1)) (h : A[i] < B[i]) : tv A < tv B := by
 rw [tv_split ha, tv_split hb, hd]
 have h1 := tv_lt (l := A.take i) fun d hd => hA d (List.mem_of_mem_take hd)
 rw [List.length_take, Nat.min_eq_left (Nat.le_of_lt ha)] at h1
 have h2 : 10000 ^ i * (A[i] + 10000 * tv (B.drop (i + 1)) + 1) ≤ 10000 ^ i * (B[i] + 10000 * tv (B.drop (i + 1))) := Nat.mul_le_mul_left _ (by omega)
 rw [Nat.mul_add _ _ 1, Nat.mul_one] at h2
 omega
set_option maxHeartbeats 4000000 in
set_option maxRecDepth 100000 in
theorem rcmp_any (va vb : Value) (a b : Nat) (la : (td a).length ≤ 1000000) (lb : (td b).length ≤ 1000000) (w : World) (ha : Rn w va a) (hb : Rn w vb b) :
  Calls Tryd.prog 96 #[va, vb] w fun e w' => e = .returned (.int .i64 (cmpI a b)) ∧ Below w.heap.size w w' := by
 obtain ⟨aa, ca, ea, hva⟩ := ha.view
 obtain ⟨ab, cb, eb, hvb⟩ := hb.view
 subst ea eb
 have hA := td_lt a
 have hB := td_lt b
 have va1 := tv_td a
 have vb1 := tv_td b
 have hlt : (td a).length < (td b).length → cmpI a b = -1 := fun h => cmpI_lt (Nat.lt_of_not_le fun h2 => by have := td_mono h2; omega)
 have hgt : (td b).length < (td a).length → cmpI a b = 1 := fun h => cmpI_gt (Nat.lt_of_not_le fun h2 => by have := td_mono h2; omega)
 have hless : tv (td a) < tv (td b) → cmpI a b = -1 := fun h => cmpI_lt (by rwa [va1, vb1] at h)
 have hmore : tv (td b) < tv (td a) → cmpI a b = 1 := fun h => cmpI_gt (by rwa [va1, vb1] at h)
 have hsame : td a = td b → cmpI a b = 0 := fun h => by rw [show a = b by rw [← va1, ← vb1, h]]; exact cmpI_eq b
 clear va1 vb1 ha hb
 generalize td a = A at *
 generalize td b = B at *
 obtain ⟨n, hn⟩ : ∃ n, n = A.length := ⟨_, rfl⟩
 obtain ⟨m, hm⟩ : ∃ m, m = B.length := ⟨_, rfl⟩
 rw [← hn] at la hlt hgt hva ⊢
 rw [← hm] at lb hlt hgt hvb ⊢
 replace hA := Lib.hid hA
 replace hB := Lib.hid hB
 replace hlt := Lib.hid hlt
 replace hgt := Lib.hid hgt
 replace hless := Lib.hid hless
 replace hmore := Lib.hid hmore
 replace hsame := Lib.hid hsame
 replace hva := Lib.hid hva
 replace hvb := Lib.hid hvb
 replace hn := Lib.hid hn
 replace hm := Lib.hid hm
 rcases Nat.lt_trichotomy n m with h | h | h
 ·have k1 : (n : Int) < (m : Int) := by omega
  rw [hlt.out h]
  go_enter Tryd.func96, Tryd.ntmps96
  go_wp2_with fail
  go_ret
  exact ⟨rfl, Below.refl _ _⟩
 ·subst h
  go_enter Tryd.func96, Tryd.ntmps96
  go_wp2_with fail
  go_loopw [5] (fun z wr => ∃ j : Nat, j ≤ n ∧ z = .int .i64 ((j : Int) - 1) ∧ A.drop j = B.drop j ∧ Below w.heap.size w wr) (fun z _ => (intOf z + 1).toNat)
  case atStart => exact ⟨n, Nat.le_refl _, by first | rfl | go_num, by rw [List.drop_eq_nil_of_le (by rw [← hn.out]; exact Nat.le_refl _), List.drop_eq_nil_of_le (by rw [← hm.out]; exact Nat.le_refl _)], Below.refl _ _⟩
  case round =>
   obtain ⟨j, hj, rfl, hd, hbl⟩ := hrel
   cases j with
   | zero =>
    rw [List.drop_zero, List.drop_zero] at hd
    have hres := Lib.hid (hsame.out hd)
    clear hd
    go_wp2_with fail
    go_ret
    exact ⟨by rw [hres.out]; rfl, hbl⟩
   | succ i =>
    obtain ⟨aA, rfl, -, sA⟩ := hva.out (by omega)
    obtain ⟨aB, rfl, -, sB⟩ := hvb.out (by omega)
    have iA : i < A.length := by have := hn.out; omega
    have iB : i < B.length := by have := hm.out; omega
    have cA := (sA.below (hbl.mono (Nat.le_refl _))).cell i iA
    have cB := (sB.below (hbl.mono (Nat.le_refl _))).cell i iB
    have q1 := Lib.hid (fun h => tv_less hA.out iA iB hd h)
    have q2 := Lib.hid (fun h => tv_less hB.out iB iA hd.symm h)
    have q3 : A[i] = B[i] → A.drop i = B.drop i := fun h => by rw [List.drop_eq_getElem_cons iA, List.drop_eq_getElem_cons iB, h, hd]
    replace q3 := Lib.hid q3
    have xb := hA.out _ (List.getElem_mem iA)
    have yb := hB.out _ (List.getElem_mem iB)
    clear hd sA sB
    generalize A[i] = x at *
    generalize B[i] = y at *
    have e1 : (((i + 1 : Nat) : Int) - 1) = (i : Int) := by omega
    have hin : (i : Int) < (n : Int) := by omega
    rw [e1]
    rcases Nat.lt_trichotomy x y with h | h | h
    ·have k1 : (x : Int) < (y : Int) := by omega
     have hres := hless.out (q1.out h)
     replace hres := Lib.hid hres
     go_wp2_with fail
     go_quiet (fail)
     go_wp2_with fail
     go_ret
     exact ⟨by rw [hres.out]; rfl, by first | exact ibdrew hbl _ | exact ibdrew (ibdrew hbl _) _⟩
    ·subst h
     have k1 : ¬ (x : Int) < (x : Int) := by omega
     go_wp2_with fail
     go_quiet (fail)
     go_wp2_with fail
     go_quiet (fail)
     go_wp2_with fail
     go_roundw
     case rel => exact ⟨i, by omega, by first | rfl | go_num, q3.out (by trivial), ibdrew hbl _⟩
     case measure => simp [intOf]
    ·have k1 : ¬ (x : Int) < (y : Int) := by omega
     have k2 : (y : Int) < (x : Int) := by omega
     have hres := hmore.out (q2.out h)
     replace hres := Lib.hid hres
     go_wp2_with fail
     go_quiet (fail)
     go_wp2_with fail
     go_quiet (fail)
     go_wp2_with fail
     go_ret
     exact ⟨by rw [hres.out]; rfl, by first | exact ibdrew hbl _ | exact ibdrew (ibdrew hbl _) _⟩
 ·have k1 : ¬ (n : Int) < (m : Int) := by omega
  have k2 : (m : Int) < (n : Int) := by omega
  rw [hgt.out h]
  go_enter Tryd.func96, Tryd.ntmps96
  go_wp2_with fail
  go_ret
  exact ⟨rfl, Below.refl _ _⟩
end Go.Proofs.YtfmakoiiibacjaaDoor.Rx
namespace Go.Proofs.YtfmakoiiibacjaaDoor.Rx
open Go.RowKit
attribute [local irreducible] tv dg cmpI
theorem cell_new (w : World) (v : Value) (t : TypeId) : (w.alloc (.cells #[v] t)).cell? ⟨w.heap.size, 0, none⟩ = some v := by
 rw [cell_of_row _ _ 0 _ _ _ (heap_alloc_new w _)]; rfl
/-- What Sub's rounds keep. -/
structure SubS (A B S : List Nat) (i c : Nat) : Prop where
 len : S.length = i
 lt : ∀ d ∈ S, d < 10000
 car : c ≤ 1
 eq : tv (A.take i) + 10000 ^ i * c = tv S + tv (B.take i)
theorem SubS.step {A B S : List Nat} {i c d c' : Nat} (h : SubS A B S i c) (hd : d < 10000) (hc : c' ≤ 1) (he : d + dg B i + c = dg A i + 10000 * c') : SubS A B (S ++ [d]) (i + 1) c' := by
 refine ⟨by rw [List.length_append, h.len]; rfl, fun x hx => ?_, hc, ?_⟩
 ·rcases List.mem_append.1 hx with hx | hx
  ·exact h.lt x hx
  ·rw [List.mem_singleton.1 hx]; exact hd
 ·rw [tv_snoc, h.len, tv_take, tv_take, Nat.pow_succ]
  have h4 := h.eq
  have h6 : 10000 ^ i * d + 10000 ^ i * dg B i + 10000 ^ i * c = 10000 ^ i * dg A i + 10000 ^ i * 10000 * c' := by
   rw [Nat.mul_assoc, ← Nat.mul_add, ← Nat.mul_add, ← Nat.mul_add, he]
  generalize 10000 ^ i * d = p1 at *
  generalize 10000 ^ i * dg B i = p2 at *
  generalize 10000 ^ i * c = p3 at *
  generalize 10000 ^ i * dg A i = p4 at *
  generalize 10000 ^ i * 10000 * c' = p5 at *
  omega
theorem SubS.done {A B S : List Nat} {c : Nat} (h : SubS A B S A.length c) (hB : B.length ≤ A.length) (hle : tv B ≤ tv A) : tv S = tv A - tv B := by
 have e := h.eq
 rw [List.take_of_length_le (Nat.le_refl _), List.take_of_length_le hB] at e
 have h1 := tv_lt h.lt
 rw [h.len] at h1
 have hc := h.car
 rcases Nat.eq_zero_or_pos c with h0 | h0
 ·rw [h0, Nat.mul_zero] at e; omega
 ·rw [show c = 1 by omega, Nat.mul_one] at e; omega
set_option maxHeartbeats 4000000 in
set_option maxRecDepth 100000 in
theorem rsub_l (va vb : Value) (A B : List Nat) (hA : ∀ d ∈ A, d < 10000) (hB : ∀ d ∈ B, d < 10000) (lA : A.length ≤ 1000000) (lB : B.length ≤ A.length) (hle : tv B ≤ tv A) (w : World) (ha : Sl w va A) (hb : Sl w vb B) :
  Calls Tryd.prog 99 #[va, vb] w fun e w' => ∃ v, e = .returned v ∧ Sl w' v (td (tv A - tv B)) ∧ Below w.heap.size w w' := by
 obtain ⟨i0, hi, hz0, hz1, hz2⟩ := info_parts Tryd.infoI
 obtain ⟨aa, ca, ea, hva⟩ := ha.view
 obtain ⟨ab, cb, eb⟩ := hb.form
 subst ea eb
 obtain ⟨n, hn⟩ : ∃ n, n = A.length := ⟨_, rfl⟩
 obtain ⟨m, hm⟩ : ∃ m, m = B.length := ⟨_, rfl⟩
 have hfin := fun (S : List Nat) c (h : SubS A B S A.length c) => h.done lB hle
 rw [← hn] at lA hva hfin lB ⊢
 rw [← hm] at lB hb ⊢
 replace hn := Lib.hid hn
 replace hm := Lib.hid hm
 replace hA := Lib.hid hA
 replace hB := Lib.hid hB
 replace hb := Lib.hid hb
 replace hva := Lib.hid hva
 replace hfin := Lib.hid hfin
 clear ha hle
 go_enter Tryd.func99, Tryd.ntmps99
 go_wp2_with fail
 go_loopw [5, 6, 7] (fun v u j wr => ∃ (i c : Nat) (S : List Nat), u = .int .i64 (c : Int) ∧ j = .int .i64 (i : Int) ∧ SubS A B S i c ∧ i ≤ n ∧ wr.ownsRow w.heap.size 3 1 v i (S.map iv) ∧ Below w.heap.size w wr) (fun _ _ j _ => n - (intOf j).toNat)
 case atStart => exact ⟨0, 0, [], rfl, rfl, ⟨rfl, (fun d hd => by cases hd), Nat.zero_le _, (by rw [List.take_zero, List.take_zero, tv_nil])⟩, Nat.zero_le _, World.ownsRow_nil _ _ _ _, Below.refl _ _⟩
 case round =>
  obtain ⟨i, c, S, rfl, rfl, hS, hi2, hown, hbl⟩ := hrel
  rcases Nat.lt_or_ge i n with hin | hin
  ·have k1 : (i : Int) < (n : Int) := by omega
   have hib : (i : Int) ≤ 1000000 := by omega
   obtain ⟨aA, rfl, -, sA⟩ := hva.out (by omega)
   have iA : i < A.length := by have := hn.out; omega
   have hcell := (sA.below hbl).cell i iA
   rw [← dg_in iA] at hcell
   have hx := dg_lt hA.out i
   have hy := dg_lt hB.out i
   have hc1 := hS.car
   have HB : ∀ wx, Below w.heap.size w wx → Calls Tryd.prog 101 #[.slice ab m cb, .int .i64 (i : Int)] wx fun e w' => e = .returned (.int .i64 ((dg B i : Nat) : Int)) ∧ w' = wx :=
    fun wx hh => (at_any _ B i (by omega) (by rw [← hm.out]; omega) wx (hb.out.below hh)).mono fun _ _ h => ⟨h.1, h.2.symm⟩
   have hstep := fun (d c' : Nat) h1 h2 h3 => hS.step (d := d) (c' := c') h1 h2 h3
   clear sA hS
   generalize dg A i = x at *
   generalize dg B i = y at *
   replace HB := Lib.hid HB
   replace hstep := Lib.hid hstep
   by_cases hneg : (x : Int) - (y : Int) - (c : Int) < 0
   ·have hst := Lib.hid (hstep.out (x + 10000 - y - c) 1 (by omega) (by omega) (by omega))
    go_wp2_with fail
    go_quiet ((go_at_call 101; exact Calls.quiet_of_same (HB.out _ (ibdrew hbl _))))
    have hown2 : (wr.drewN nq).ownsRow w.heap.size 3 1 u5 i (S.map iv) := hown
    go_wp2_with (at_builtin; refine wpList_append_own _ rfl _ _ 63 rfl w.heap.size 3 i0 (.int .i64 0) 1 8 Tryd.underlying63 hi hz0 hz1 hz2 rfl (by decide) _ _ _ rfl (hown2.alloc _) ⟨wr.heap.size, 0, none⟩ 1 1 [.int .i64 ((x : Int) - (y : Int) - (c : Int) + 10000)] rfl rfl ?c1 ?c2 ?c3 ?c4 ?c5 ?_)
    case c1 =>
     intro j u hj
     match j, hj with
     | 0, hj => simp at hj; subst hj; rw [add0]; exact cell_new (wr.drewN nq) _ _
    case c2 => intro u hu; simp at hu; subst hu; rfl
    case c3 => unfold maxLen; omega
    case c4 => omega
    case c5 => have := hbl.size; first | (simp; omega) | (simp; exact this) | (show w.heap.size ≤ _; simp; show w.heap.size ≤ wr.heap.size + 1; omega)
    intro v' w1 hown' hgrow _
    have hn' := Lib.hid (own_snoc (d := x + 10000 - y - c) (by omega) hown')
    have hb' := Lib.hid (below_app (ibdrew hbl nq) hbl.size hown2 hgrow)
    clear hown' hgrow hown hown2 hbl
    go_wp2_with fail
    go_roundw
    case rel => exact ⟨i + 1, 1, _, by first | rfl | go_num, by first | rfl | go_num, hst.out, by omega, hn'.out, hb'.out⟩
    case measure => simp [intOf]; omega
   ·have hst := Lib.hid (hstep.out (x - y - c) 0 (by omega) (by omega) (by omega))
    go_wp2_with fail
    go_quiet ((go_at_call 101; exact Calls.quiet_of_same (HB.out _ (ibdrew hbl _))))
    have hown2 : (wr.drewN nq).ownsRow w.heap.size 3 1 u5 i (S.map iv) := hown
    go_wp2_with (at_builtin; refine wpList_append_own _ rfl _ _ 63 rfl w.heap.size 3 i0 (.int .i64 0) 1 8 Tryd.underlying63 hi hz0 hz1 hz2 rfl (by decide) _ _ _ rfl (hown2.alloc _) ⟨wr.heap.size, 0, none⟩ 1 1 [.int .i64 ((x : Int) - (y : Int) - (c : Int))] rfl rfl ?d1 ?d2 ?d3 ?d4 ?d5 ?_)
    case d1 =>
     intro j u hj
     match j, hj with
     | 0, hj => simp at hj; subst hj; rw [add0]; exact cell_new (wr.drewN nq) _ _
    case d2 => intro u hu; simp at hu; subst hu; rfl
    case d3 => unfold maxLen; omega
    case d4 => omega
    case d5 => have := hbl.size; first | (simp; omega) | (simp; exact this) | (show w.heap.size ≤ _; simp; show w.heap.size ≤ wr.heap.size + 1; omega)
    intro v' w1 hown' hgrow _
    have hn' := Lib.hid (own_snoc (d := x - y - c) (by omega) hown')
    have hb' := Lib.hid (below_app (ibdrew hbl nq) hbl.size hown2 hgrow)
    clear hown' hgrow hown hown2 hbl
    go_wp2_with fail
    go_roundw
    case rel => exact ⟨i + 1, 0, _, by first | rfl | go_num, by first | rfl | go_num, hst.out, by omega, hn'.out, hb'.out⟩
    case measure => simp [intOf]; omega
  ·have k1 : ¬ (i : Int) < (n : Int) := by omega
   obtain rfl : i = n := by omega
   have hT := hfin.out S c hS
   have HT := trim_any u5 S hS.lt (by rw [hS.len]; omega) wr (Sl.owned hown hS.len.symm)
   rw [hT] at HT
   replace HT := Lib.hid HT
   clear hT hS hown
   go_wp2_with fail
   with_reducible refine Calls.mono HT.out ?_
   rintro e w1 ⟨v', rfl, hv, rfl⟩
   replace hv := Lib.hid hv
   go_wp2_with fail
   go_ret
   exact ⟨_, rfl, hv.out, hbl⟩
theorem rsub_any (va vb : Value) (a b : Nat) (la : (td a).length ≤ 1000000) (hle : b ≤ a) (w : World) (ha : Rn w va a) (hb : Rn w vb b) :
  Calls Tryd.prog 99 #[va, vb] w fun e w' => ∃ v, e = .returned v ∧ Rn w' v (a - b) ∧ Below w.heap.size w w' := by
 have := rsub_l va vb _ _ (td_lt a) (td_lt b) la (td_mono hle) (by rw [tv_td, tv_td]; exact hle) w ha hb
 rwa [tv_td, tv_td] at this
end Go.Proofs.YtfmakoiiibacjaaDoor.Rx
namespace Go.Proofs.YtfmakoiiibacjaaDoor.Rx
open Go.RowKit
open Go.Lib (decDigits)
attribute [local irreducible] tv dg cmpI
/-- What Text has written behind digit i. -/
def TS (n i : Nat) (T : List UInt8) : Prop := (i < (td n).length ∧ decDigits n = decDigits (n / 10000 ^ i) ++ T) ∨ (i = (td n).length ∧ T = decDigits n)
theorem TS.start {n : Nat} (h : 0 < (td n).length) : TS n 0 [] := .inl ⟨h, by simp⟩
theorem TS.step {n i : Nat} {T : List UInt8} (h : TS n i T) (hl : i < (td n).length) (hi : i + 1 < (td n).length) : TS n (i + 1) (pad 4 ((td n)[i]'hl) ++ T) := by
 rcases h with ⟨h1, h2⟩ | ⟨h1, h2⟩
 ·refine .inl ⟨hi, ?_⟩
  have hd := (td_step h1).2
  have hq := (td_step hi).1
  have e : n / 10000 ^ i = n / 10000 ^ (i + 1) * 10 ^ 4 + (td n)[i] := by
   rw [hd, Nat.pow_succ, ← Nat.div_div_eq_div_mul]
   show _ = _ * 10000 + _
   omega
  have hlt : (td n)[i] < 10 ^ 4 := td_lt n _ (List.getElem_mem _)
  have := dec_mul_add 4 (n / 10000 ^ (i + 1)) ((td n)[i]) (by omega) hlt
  rw [h2, e, this, List.append_assoc]
 ·omega
theorem TS.last {n i : Nat} {T : List UInt8} (h : TS n i T) (hl : i < (td n).length) (hi : i + 1 = (td n).length) : 0 < (td n)[i]'hl ∧ TS n (i + 1) (decDigits ((td n)[i]'hl) ++ T) := by
 rcases h with ⟨h1, h2⟩ | ⟨h1, h2⟩
 ·have hd := td_step h1
  have h0 : n / 10000 ^ (i + 1) = 0 := td_end (by omega)
  have e : n / 10000 ^ i = (td n)[i] := by
   rw [hd.2]
   rw [Nat.pow_succ, ← Nat.div_div_eq_div_mul] at h0
   omega
  refine ⟨by rw [← e]; omega, .inr ⟨hi, ?_⟩⟩
  rw [h2, e]
 ·omega
theorem TS.len {n i : Nat} {T : List UInt8} (h : TS n i T) : T.length ≤ (decDigits n).length := by
 rcases h with ⟨h1, h2⟩ | ⟨h1, h2⟩
 ·rw [h2, List.length_append]; omega
 ·rw [h2]; exact Nat.le_refl _
end Go.Proofs.YtfmakoiiibacjaaDoor.Rx
namespace Go.Proofs.YtfmakoiiibacjaaDoor.Rx
open Go.RowKit
attribute [local irreducible] lo hs tv dg cmpI
end Go.Proofs.YtfmakoiiibacjaaDoor.Rx
namespace Go.Proofs.YtfmakoiiibacjaaDoor.Rx
open Go.RowKit
attribute [local irreducible] tv dg cmpI
/-- What is appended, chunk by chunk. -/
structure PS (l : List UInt8) (S : List Nat) (t e : Nat) : Prop where
 len : S.length = t
 lt : ∀ d ∈ S, d < 10000
 pos : e = l.length - 4 * t
 eq : tv S + 10000 ^ t * dval (l.take e) = dval l
theorem PS.step {l : List UInt8} {S : List Nat} {t e : Nat} (h : PS l S t e) (hd : ∀ c ∈ l, isDig c) (he : 0 < e) :
  dval ((l.drop (e - 4)).take (e - (e - 4))) < 10000 ∧ PS l (S ++ [dval ((l.drop (e - 4)).take (e - (e - 4)))]) (t + 1) (e - 4) := by
 have hle : e ≤ l.length := by have := h.pos; omega
 have hch : ((l.drop (e - 4)).take (e - (e - 4))).length = e - (e - 4) := by rw [List.length_take, List.length_drop]; omega
 have hlt : dval ((l.drop (e - 4)).take (e - (e - 4))) < 10000 := by
  have h1 := dval_lt (l := (l.drop (e - 4)).take (e - (e - 4))) fun c hc => hd c (List.mem_of_mem_drop (List.mem_of_mem_take hc))
  rw [hch] at h1
  exact Nat.lt_of_lt_of_le h1 (Nat.le_trans (Nat.pow_le_pow_right (by omega) (show e - (e - 4) ≤ 4 by omega)) (by decide))
 refine ⟨hlt, by rw [List.length_append, h.len]; rfl, fun d hx => ?_, by have := h.pos; omega, ?_⟩
 ·rcases List.mem_append.1 hx with hx | hx
  ·exact h.lt d hx
  ·rw [List.mem_singleton.1 hx]; exact hlt
 ·have e1 : l.take e = l.take (e - 4) ++ (l.drop (e - 4)).take (e - (e - 4)) := by
   have := List.take_add (l := l) (i := e - 4) (j := e - (e - 4))
   rw [show e - 4 + (e - (e - 4)) = e by omega] at this
   exact this
  have e2 := h.eq
  rw [e1, dval_append, hch] at e2
  rw [tv_snoc, h.len, Nat.pow_succ]
  generalize dval ((l.drop (e - 4)).take (e - (e - 4))) = d at *
  rcases Nat.lt_or_ge e 4 with h4 | h4
  ·have h0 : dval (l.take (e - 4)) = 0 := by rw [show e - 4 = 0 by omega, List.take_zero, dval_nil]
   rw [h0, Nat.zero_mul, Nat.zero_add] at e2
   rw [h0, Nat.mul_zero]; omega
  ·rw [show e - (e - 4) = 4 by omega] at e2
   rw [Nat.mul_add, Nat.mul_comm (dval _) (10 ^ 4), ← Nat.mul_assoc, show (10 : Nat) ^ 4 = 10000 by rfl] at e2
   omega
theorem PS.start (l : List UInt8) : PS l [] 0 l.length := ⟨rfl, (fun d hd => by cases hd), by omega, by rw [tv_nil, List.take_length]; simp⟩
end Go.Proofs.YtfmakoiiibacjaaDoor.Rx
namespace Go.Proofs.YtfmakoiiibacjaaDoor
open Go.RowKit Go.Proofs.YtfmakoiiibacjaaDoor.Rx
attribute [local irreducible] lo hs sm s64 c64 d64 b64 mh ml pd pc qd qc val hiB str cmpI srD lz nb isq dval
theorem sl_upd {w w' : World} {k : Nat} {c : List Value} {v : Value} {l : List Nat} (h : Sl w v l) (hu : Upd k w w') (hd : Hd w k c) (hc : ∀ v ∈ c, ∀ n, v ≠ .int .i64 n) : Sl w' v l := by
 rcases h with h | ⟨a, c1, h1, h2, h3⟩
 ·exact .inl h
 ·refine .inr ⟨a, c1, h1, h2, fun i hi => ?_, by rw [hu.size]; exact h3.blk⟩
  have hx := h3.cell i hi
  exact (World.cell?_of_block (w := w) (hu.block _ (hd.no_int hc hx))).trans hx
set_option maxHeartbeats 4000000 in
set_option maxRecDepth 100000 in
theorem rfrom_false (a : Option Addr) (n c : Nat)  (w : World) :
  Calls Tryd.prog 61 #[.bool false, .slice a n c] w fun e w' => e = .returned (.agg #[.bool false, .slice a n c]) ∧ Below w.heap.size w w' := by
 have hL0 : GL w w [] := GL.start w
 replace hL0 := (hL0.new rfl [.bool false, .slice none 0 0] 65)
 generalize hweq : (w.alloc (.cells #[.bool false, .slice none 0 0] 65)) = x1 at hL0
 go_enter Tryd.func61, Tryd.ntmps61
 have hA := hL0.fc
 simp only [fcG, cellsF, neK, and_true, ne_eq, Nat.zero_add, Nat.reduceAdd] at hA
 have hP := hL0.put 0 (w.heap.size) _ rfl [.bool false, .slice a n c] rfl
 simp only [setAll, List.set_cons_zero, List.set_cons_succ] at hP
 generalize hput1 : ((x1.setCell ⟨w.heap.size, 0, none⟩ (.bool false)).setCell ⟨w.heap.size, 1, none⟩ (.slice a n c)) = x2 at hP
 have hB1 := hP.fc
 simp only [fcG, cellsF, neK, and_true, ne_eq, Nat.zero_add, Nat.reduceAdd] at hB1
 replace hL0 := hP
 go_wp2_with fail
 exact bodyPost_ret (v := .agg #[.bool false, .slice a n c]) (by simp [results, Tryd.results61, go_sem, hB1]) rfl ⟨rfl, hL0.bl⟩
set_option maxHeartbeats 4000000 in
set_option maxRecDepth 100000 in
theorem rfrom_zero (a : Option Addr) (n c : Nat) (h : n = 0) (w : World) :
  Calls Tryd.prog 61 #[.bool true, .slice a n c] w fun e w' => e = .returned (.agg #[.bool false, .slice a n c]) ∧ Below w.heap.size w w' := by
 have hL0 : GL w w [] := GL.start w
 subst h
 replace hL0 := (hL0.new rfl [.bool false, .slice none 0 0] 65)
 generalize hweq : (w.alloc (.cells #[.bool false, .slice none 0 0] 65)) = x1 at hL0
 go_enter Tryd.func61, Tryd.ntmps61
 have hA := hL0.fc
 simp only [fcG, cellsF, neK, and_true, ne_eq, Nat.zero_add, Nat.reduceAdd] at hA
 have hP := hL0.put 0 (w.heap.size) _ rfl [.bool false, .slice a 0 c] rfl
 simp only [setAll, List.set_cons_zero, List.set_cons_succ] at hP
 generalize hput1 : ((x1.setCell ⟨w.heap.size, 0, none⟩ (.bool false)).setCell ⟨w.heap.size, 1, none⟩ (.slice a 0 c)) = x2 at hP
 have hB1 := hP.fc
 simp only [fcG, cellsF, neK, and_true, ne_eq, Nat.zero_add, Nat.reduceAdd] at hB1
 replace hL0 := hP
 go_wp2_with fail
 exact bodyPost_ret (v := .agg #[.bool false, .slice a 0 c]) (by simp [results, Tryd.results61, go_sem, hB1]) rfl ⟨rfl, hL0.bl⟩
set_option maxHeartbeats 4000000 in
set_option maxRecDepth 100000 in
theorem rfrom_true (a : Option Addr) (n c : Nat) (h : 0 < n) (w : World) :
  Calls Tryd.prog 61 #[.bool true, .slice a n c] w fun e w' => e = .returned (.agg #[.bool true, .slice a n c]) ∧ Below w.heap.size w w' := by
 have hL0 : GL w w [] := GL.start w
 have f1 : decide ((0 : Int) < (n : Int)) = true := decide_eq_true (by omega)
 have f2 : decide (0 < n) = true := decide_eq_true h
 clear h
 replace hL0 := (hL0.new rfl [.bool false, .slice none 0 0] 65)
 generalize hweq : (w.alloc (.cells #[.bool false, .slice none 0 0] 65)) = x1 at hL0
 go_enter Tryd.func61, Tryd.ntmps61
 have hA := hL0.fc
 simp only [fcG, cellsF, neK, and_true, ne_eq, Nat.zero_add, Nat.reduceAdd] at hA
 have hP := hL0.put 0 (w.heap.size) _ rfl [.bool true, .slice a n c] rfl
 simp only [setAll, List.set_cons_zero, List.set_cons_succ] at hP
 generalize hput1 : ((x1.setCell ⟨w.heap.size, 0, none⟩ (.bool true)).setCell ⟨w.heap.size, 1, none⟩ (.slice a n c)) = x2 at hP
 have hB1 := hP.fc
 simp only [fcG, cellsF, neK, and_true, ne_eq, Nat.zero_add, Nat.reduceAdd] at hB1
 replace hL0 := hP
 go_wp2_with fail
 exact bodyPost_ret (v := .agg #[.bool true, .slice a n c]) (by simp [results, Tryd.results61, go_sem, hB1]) rfl ⟨rfl, hL0.bl⟩
theorem td_len_zero (n : Nat) : (td n).length = 0 ↔ n = 0 := by
 constructor
 ·intro h
  have h1 := tv_td n
  rw [List.length_eq_zero_iff.1 h] at h1
  exact h1.symm
 ·rintro rfl; rw [td_zero]; rfl
theorem rfrom_any (s : Bool) (v : Value) (n : Nat) (w : World) (hv : Rn w v n) : Calls Tryd.prog 61 #[.bool s, v] w fun e w' => e = .returned (.agg #[.bool (s && decide (n ≠ 0)), v]) ∧ Below w.heap.size w w' := by
 obtain ⟨ao, c, rfl⟩ := hv.form
 have hz : (td n).length = 0 ↔ n = 0 := td_len_zero n
 cases s with
 | false => exact rfrom_false ao _ c w
 | true =>
  by_cases h : n = 0
  ·rw [Bool.true_and, decide_eq_false (by simpa using h)]; exact rfrom_zero ao _ c (hz.2 h) w
  ·rw [Bool.true_and, decide_eq_true h]; exact rfrom_true ao _ c (by omega) w
end Go.Proofs.YtfmakoiiibacjaaDoor
namespace Go.Proofs.YtfmakoiiibacjaaDoor
open Go.RowKit
section
variable {P : Program} {ops : Array Oper} {C : World → Prop}
/-- What an operation does: its value has the property in the world that it leaves. -/
def tyUpon (P : Program) (w : World) (T : Value → World → Prop) : Result Next → Prop
 | .ok (.value u) w' => Below w.heap.size w w' ∧ T u w'
 | .ok .skip w' => Below w.heap.size w w' ∧ T undef w'
 | .ok (.enter f args) w' => w' = w ∧ Calls P f args w (fun e w'' => ∃ u, e = .returned u ∧ T u w'' ∧ Below w.heap.size w w'')
 | _ => False
def TyAt (P : Program) (ops : Array Oper) (o : Oper) (a : Act) (w : World) (T : Value → World → Prop) : Prop :=
 if Region.wanted o (yielded ops a.tmps) then tyUpon P w T ((execOp a.eval o).run P w) else T undef w
theorem tyAt_none {o : Oper} {a : Act} {w : World} {T : Value → World → Prop} (hg : o.guard = none) (h : tyUpon P w T ((execOp a.eval o).run P w)) : TyAt P ops o a w T := by
 unfold TyAt
 rw [if_pos (by unfold Region.wanted; rw [hg])]
 exact h
/-- A call whose contract gives the property. -/
theorem ty_call {o : Oper} {a : Act} {w : World} {T : Value → World → Prop} {f : FuncId} {args : Array Value} (hr : (execOp a.eval o).run P w = .ok (.enter f args) w) (h : Calls P f args w fun e w'' => ∃ u, e = .returned u ∧ T u w'' ∧ Below w.heap.size w w'') : tyUpon P w T ((execOp a.eval o).run P w) := by
 rw [hr]; exact ⟨rfl, h⟩
/-- The frame with the values of the operations that have come up. -/
def putsIf : List Oper → Nat → (Nat → Bool) → (Nat → Value) → Act → Act
 | [], _, _, _, a => a
 | o :: l, k, b, v, a => putsIf l (k + 1) b v (if b k then a.put o.dst (v k) else a)
def putsV : List Oper → Nat → (Nat → Value) → Act → Act
 | [], _, _, a => a
 | o :: l, k, v, a => putsV l (k + 1) v (a.put o.dst (v k))
theorem putsIf_all {v : Nat → Value} {b : Nat → Bool} : ∀ (l : List Oper) (k : Nat) (a : Act), (∀ i, k ≤ i → i < k + l.length → b i = true) → putsIf l k b v a = putsV l k v a
 | [], _, _, _ => rfl
 | o :: l, k, a, h => by
  rw [putsIf, putsV, if_pos (h k (Nat.le_refl k) (by rw [List.length_cons]; omega))]
  exact putsIf_all l (k + 1) _ fun i h1 h2 => h i (by omega) (by rw [List.length_cons]; omega)
theorem putsIf_none {v : Nat → Value} {b : Nat → Bool} : ∀ (l : List Oper) (k : Nat) (a : Act), (∀ i, k ≤ i → i < k + l.length → b i = false) → putsIf l k b v a = a
 | [], _, _, _ => rfl
 | o :: l, k, a, h => by
  rw [putsIf, if_neg (by rw [h k (Nat.le_refl k) (by rw [List.length_cons]; omega)]; exact Bool.false_ne_true)]
  exact putsIf_none l (k + 1) _ fun i h1 h2 => h i (by omega) (by rw [List.length_cons]; omega)
theorem putsIf_congr {v v' : Nat → Value} {b b' : Nat → Bool} : ∀ (l : List Oper) (k : Nat) (a : Act), (∀ i, k ≤ i → i < k + l.length → b i = b' i ∧ (b i = true → v i = v' i)) → putsIf l k b v a = putsIf l k b' v' a
 | [], _, _, _ => rfl
 | o :: l, k, a, h => by
  obtain ⟨h1, h2⟩ := h k (Nat.le_refl k) (by rw [List.length_cons]; omega)
  rw [putsIf, putsIf]
  have e : (if b k = true then a.put o.dst (v k) else a) = (if b' k = true then a.put o.dst (v' k) else a) := by
   rw [← h1]
   by_cases hb : b k = true
   ·rw [if_pos hb, if_pos hb, h2 hb]
   ·rw [if_neg hb, if_neg hb]
  rw [e]
  exact putsIf_congr l (k + 1) _ fun i h1 h2 => h i (by omega) (by rw [List.length_cons]; omega)
/-- No two of them write one slot. -/
def apartD (d : Option Tmp) (l : List Oper) : Bool := l.all fun o => match d, o.dst with
 | some x, some y => !(x == y)
 | _, _ => true
def nodupD : List Oper → Bool
 | [] => true
 | o :: l => apartD o.dst l && nodupD l
theorem apartD_spec {d : Option Tmp} {l : List Oper} (h : apartD d l = true) {o : Oper} (ho : o ∈ l) {x : Tmp} (hx : d = some x) : o.dst ≠ some x := by
 intro e
 have := (List.all_eq_true.1 h) o ho
 subst hx
 simp only [e] at this
 simp at this
theorem put_late {v : Nat → Value} {b : Nat → Bool} {d : Option Tmp} {u : Value} : ∀ (l : List Oper) (k : Nat) (a : Act), apartD d l = true → putsIf l k b v (a.put d u) = (putsIf l k b v a).put d u
 | [], _, _, _ => rfl
 | o :: l, k, a, h => by
  have h0 := h
  simp only [apartD, List.all_cons, Bool.and_eq_true] at h
  rw [putsIf, putsIf]
  by_cases hb : b k = true
  ·rw [if_pos hb, if_pos hb]
   have : (a.put d u).put o.dst (v k) = (a.put o.dst (v k)).put d u := by
    cases d with
    | none => rfl
    | some x =>
     cases ho : o.dst with
     | none => rfl
     | some y =>
      have hne : y ≠ x := fun e => apartD_spec h0 List.mem_cons_self rfl (by rw [ho, e])
      exact Act.put_comm a u (v k) (fun d hd e => hne (Option.some.inj (e.trans hd.symm)))
   rw [this]
   exact put_late l (k + 1) _ h.2
  ·rw [if_neg hb, if_neg hb]; exact put_late l (k + 1) _ h.2
theorem put_at {v v' : Nat → Value} {b b' : Nat → Bool} {j : Nat} {u : Value} (hb : b j = false) (hb' : b' j = true) (hv : v' j = u) (hbb : ∀ i, i ≠ j → b' i = b i ∧ v' i = v i) :
  ∀ (l : List Oper) (k : Nat) (a : Act) (o : Oper), nodupD l = true → k ≤ j → l[j - k]? = some o → (putsIf l k b v a).put o.dst u = putsIf l k b' v' a
 | [], _, _, _, _, _, h => by simp at h
 | o1 :: l, k, a, o, hn, hk, h => by
  simp only [nodupD, Bool.and_eq_true] at hn
  rw [putsIf, putsIf]
  by_cases e : j = k
  ·subst e
   simp only [Nat.sub_self, List.getElem?_cons_zero, Option.some.injEq] at h
   subst h
   rw [if_neg (by rw [hb]; exact Bool.false_ne_true), if_pos hb', hv, ← put_late l (j + 1) a hn.1]
   exact putsIf_congr l (j + 1) _ fun i h1 h2 => ⟨(hbb i (by omega)).1.symm, fun _ => (hbb i (by omega)).2.symm⟩
  ·have hk' : k + 1 ≤ j := by omega
   rw [show j - k = (j - (k + 1)) + 1 by omega, List.getElem?_cons_succ] at h
   obtain ⟨h1, h2⟩ := hbb k (fun e' => e e'.symm)
   rw [h1, h2]
   exact put_at hb hb' hv hbb l (k + 1) _ o hn.2 hk' h
theorem put_get (a : Act) (d : Option Tmp) (u : Value) (t : Nat) : (a.put d u).tmps[t]? = if d = some t then (if t < a.tmps.size then some u else none) else a.tmps[t]? := by
 cases d with
 | none => simp [Act.put]
 | some x =>
  simp only [Act.put, Array.getElem?_setIfInBounds, Option.some.injEq]
  by_cases h : x = t
  ·subst h; simp
  ·simp [h]
theorem get_puts {v : Nat → Value} {b : Nat → Bool} {t : Nat} : ∀ (l : List Oper) (k : Nat) (a a' : Act), a.tmps[t]? = a'.tmps[t]? → (∀ i o, l[i]? = some o → o.dst = some t → b (k + i) = true) → (putsIf l k b v a).tmps[t]? = (putsV l k v a').tmps[t]?
 | [], _, _, _, h, _ => h
 | o :: l, k, a, a', h, hd => by
  rw [putsIf, putsV]
  refine get_puts l (k + 1) _ _ ?_ fun i o' ho' hd' => by have := hd (i + 1) o' (by simpa using ho') hd'; rwa [show k + (i + 1) = k + 1 + i by omega] at this
  have hsz : t < a.tmps.size ↔ t < a'.tmps.size := by
   constructor <;> intro h1
   ·rw [Array.getElem?_eq_getElem h1] at h; exact (Array.getElem?_eq_some_iff.1 h.symm).1
   ·rw [Array.getElem?_eq_getElem h1] at h; exact (Array.getElem?_eq_some_iff.1 h).1
  by_cases e : o.dst = some t
  ·have hb := hd 0 o (by simp) e
   rw [Nat.add_zero] at hb
   rw [if_pos hb, put_get, put_get, if_pos e, if_pos e]
   by_cases h2 : t < a.tmps.size
   ·rw [if_pos h2, if_pos (hsz.1 h2)]
   ·rw [if_neg h2, if_neg fun h3 => h2 (hsz.2 h3)]
  ·by_cases hb : b k = true
   ·rw [if_pos hb, put_get, put_get, if_neg e, if_neg e]; exact h
   ·rw [if_neg hb, put_get, if_neg e]; exact h
theorem wanted_same {a a' : Act} {o : Oper} (h : ∀ t ∈ o.looksAt ops, a.tmps[t]? = a'.tmps[t]?) : Region.wanted o (yielded ops a.tmps) = Region.wanted o (yielded ops a'.tmps) := by
 unfold Region.wanted
 cases hg : o.guard with
 | none => rfl
 | some gw =>
  obtain ⟨gg, want⟩ := gw
  have hy : yielded ops a.tmps gg = yielded ops a'.tmps gg := by
   unfold yielded
   cases ht : (ops[gg]?).bind (·.dst) with
   | none => rfl
   | some t =>
    have := h t (List.mem_append_right _ (by simp [hg, ht]))
    simp [this]
  simp only [hy]
theorem exec_same {a a' : Act} {o : Oper} (hs : ∀ cs b, o.op ≠ .select cs b) (h : ∀ t ∈ o.looksAt ops, a.tmps[t]? = a'.tmps[t]?) : execOp a.eval o = execOp a'.eval o :=
 execOp_congr o hs fun x hx => by
  cases x with
  | tmp t =>
   have ht : t ∈ o.looksAt ops := List.mem_append_left _ (List.mem_filterMap.2 ⟨_, by simpa using hx, rfl⟩)
   simp only [Act.eval, Array.getD_eq_getD_getElem?, h t ht]
  | _ => rfl
/-- Each of the first n waits for earlier ones alone, and for each of them that writes a slot that it looks at. -/
def depB (ops : Array Oper) (n : Nat) : Bool :=
 (List.range n).all fun j => (predsOf .any ops j).all (fun i => decide (i < j)) && match ops[j]? with
  | some o => (o.looksAt ops).all fun t => (List.range n).all fun i => match (ops[i]?).bind (·.dst) with
    | some d => !(d == t) || (predsOf .any ops j).contains i
    | none => true
  | none => true
theorem depB_pred {n j i : Nat} (h : depB ops n = true) (hj : j < n) (hi : i ∈ predsOf .any ops j) : i < j := by
 simp only [depB, List.all_eq_true, List.mem_range, Bool.and_eq_true, decide_eq_true_eq] at h
 exact (h j hj).1 i hi
theorem depB_looks {n j i : Nat} (h : depB ops n = true) (hj : j < n) (hi : i < n) {o o' : Oper} (ho : ops[j]? = some o) (ho' : ops[i]? = some o') {t : Tmp} (ht : t ∈ o.looksAt ops) (hd : o'.dst = some t) : i ∈ predsOf .any ops j := by
 simp only [depB, List.all_eq_true, List.mem_range, Bool.and_eq_true, decide_eq_true_eq] at h
 have h1 := (h j hj).2
 rw [ho] at h1
 simp only [List.all_eq_true, List.mem_range] at h1
 have h2 := h1 t ht i hi
 rw [ho'] at h2
 simp only [Option.bind_some, hd, beq_self_eq_true, Bool.not_true, Bool.false_or] at h2
 exact List.contains_iff_mem.1 h2
/-- A property that later worlds keep. -/
def Stays (T : Value → World → Prop) : Prop := ∀ v w w', Below w.heap.size w w' → T v w → T v w'
/-- How many of the first n have not come up. -/
def left (n : Nat) (listed : Array Bool) : Nat := (List.range n).countP fun i => !listed.getD i false
theorem left_zero {n : Nat} {listed : Array Bool} (h : left n listed = 0) : doneN n listed = true := by
 refine doneN_iff.2 fun i hi => ?_
 have := (List.countP_eq_zero.1 h) i (List.mem_range.2 hi)
 simpa using this
theorem left_some {n m : Nat} {listed : Array Bool} (h : left n listed = m + 1) : doneN n listed = false := by
 refine Bool.eq_false_iff.2 fun hd => ?_
 have : left n listed = 0 := List.countP_eq_zero.2 fun i hi => by simp [doneN_iff.1 hd i (List.mem_range.1 hi)]
 omega
theorem countP_drop {p q : Nat → Bool} {j : Nat} (hpq : ∀ i, i ≠ j → q i = p i) (hp : p j = true) (hq : q j = false) : ∀ (r : List Nat), r.Nodup → j ∈ r → r.countP p = r.countP q + 1
 | [], _, h => by cases h
 | x :: r, hn, h => by
  rw [List.nodup_cons] at hn
  rcases List.mem_cons.1 h with rfl | h
  ·rw [List.countP_cons_of_pos hp, List.countP_cons_of_neg (by rw [hq]; exact Bool.false_ne_true)]
   congr 1
   refine List.countP_congr fun i hi => ?_
   rw [hpq i (fun e => hn.1 (e ▸ hi))]
  ·have hx : x ≠ j := fun e => hn.1 (e ▸ h)
   have ih := countP_drop hpq hp hq r hn.2 h
   by_cases hpx : p x = true
   ·rw [List.countP_cons_of_pos hpx, List.countP_cons_of_pos (by rw [hpq x hx]; exact hpx), ih]
   ·rw [List.countP_cons_of_neg hpx, List.countP_cons_of_neg (by rw [hpq x hx]; exact hpx), ih]
theorem left_set {n j m : Nat} {listed : Array Bool} (hs : listed.size = ops.size) (hj : j < n) (hjs : j < ops.size) (hu : listed.getD j false = false) (h : left n listed = m + 1) : left n (listed.setIfInBounds j true) = m := by
 have := countP_drop (p := fun i => !listed.getD i false) (q := fun i => !(listed.setIfInBounds j true).getD i false) (j := j) (fun i hi => by simp only [getD_set_ne false (fun e => hi e.symm)]) (by simp [hu]) (by simp [hs, hjs]) (List.range n) List.nodup_range (List.mem_range.2 hj)
 unfold left at h ⊢
 omega
theorem ready_some {n m : Nat} {listed : Array Bool} (hs : listed.size = ops.size) (hn : n ≤ ops.size) (hD : depB ops n = true) (h : left n listed = m + 1) : Region.ready .any ops listed ≠ [] := by
  have hnd := left_some h
  have ex : ∃ i, i < n ∧ listed.getD i false = false := Classical.byContradiction fun hc => by
    have : doneN n listed = true := doneN_iff.2 fun i hi => by
      cases hv : listed.getD i false with
      | true => rfl
      | false => exact absurd ⟨i, hi, hv⟩ hc
    rw [this] at hnd; cases hnd
  have key : ∀ k i, i ≤ k → i < n → listed.getD i false = false → ∃ i, i ∈ Region.ready .any ops listed := by
    intro k
    induction k with
    | zero =>
      intro i hi h1 h2
      obtain rfl : i = 0 := by omega
      have ho : 0 < ops.size := by omega
      refine ⟨0, mem_ready.2 ⟨by have h3 : 0 < listed.size := by omega
                                 simpa [h3] using h2, ops[0], Array.getElem?_eq_getElem ho, fun e he hb => ?_⟩⟩
      have : e.on ∈ predsOf .any ops 0 := by
        unfold predsOf; rw [Array.getElem?_eq_getElem ho]
        exact List.mem_map.2 ⟨e, List.mem_filter.2 ⟨by simpa using he, hb⟩, rfl⟩
      have := depB_pred hD h1 this
      omega
    | succ k ih =>
      intro i hi h1 h2
      have ho : i < ops.size := by omega
      by_cases hall : ∀ p ∈ predsOf .any ops i, listed.getD p false = true
      · refine ⟨i, mem_ready.2 ⟨by have h3 : i < listed.size := by omega
                                   simpa [h3] using h2, ops[i], Array.getElem?_eq_getElem ho, fun e he hb => hall _ ?_⟩⟩
        unfold predsOf; rw [Array.getElem?_eq_getElem ho]
        exact List.mem_map.2 ⟨e, List.mem_filter.2 ⟨by simpa using he, hb⟩, rfl⟩
      · have : ∃ p, p ∈ predsOf .any ops i ∧ listed.getD p false = false := Classical.byContradiction fun hc => hall fun p hp => by
          cases hv : listed.getD p false with
          | true => rfl
          | false => exact absurd ⟨p, hp, hv⟩ hc
        obtain ⟨p, hp, hv⟩ := this
        have := depB_pred hD h1 hp
        exact ih p (by omega) (by omega) hv
  obtain ⟨i, h1, h2⟩ := ex
  obtain ⟨i, hi⟩ := key i i (Nat.le_refl _) h1 h2
  exact List.ne_nil_of_mem hi
theorem preds_of_ready {j : Nat} {listed : Array Bool} (hj : j ∈ Region.ready .any ops listed) : ∀ p ∈ predsOf .any ops j, listed.getD p false = true := by
 obtain ⟨-, o, ho, hall⟩ := mem_ready.1 hj
 intro p hp
 unfold predsOf at hp
 simp only [ho, List.mem_map, List.mem_filter] at hp
 obtain ⟨e, ⟨he, hb⟩, rfl⟩ := hp
 exact hall e (by simpa using he) hb
theorem wpAny_ty {n s : Nat} {l : List Oper} {T : Nat → Value → World → Prop} {w0 : World} {a0 : Act} {Q : Exit → Act → World → Prop} (hT : ∀ i, Stays (T i)) (hsel : Region.noSelect l.toArray = true) (hn : n ≤ l.length)
  (hB : barB .any l.toArray n = true) (hN : nodupD (l.take n) = true) (hD : depB l.toArray n = true)
  (hops : ∀ j o, j < n → l[j]? = some o → ∀ v w, Below w0.heap.size w0 w → (∀ p ∈ predsOf .any l.toArray j, T p (v p) w) → TyAt P l.toArray o (putsV (l.take n) 0 v a0) w (T j))
  (hend : ∀ v w, Below w0.heap.size w0 w → (∀ i, i < n → T i (v i) w) → wpAny P .any l.toArray Q s (canonL l.length n) (putsV (l.take n) 0 v a0) w) :
  ∀ (m : Nat) (listed : Array Bool) (v : Nat → Value) (w : World), left n listed = m → closedL .any l.toArray listed → sufL n l.toArray listed → Below w0.heap.size w0 w →
   (∀ i, i < n → listed.getD i false = true → T i (v i) w) → wpAny P .any l.toArray Q (s + m) listed (putsIf (l.take n) 0 (fun i => listed.getD i false) v a0) w := by
 intro m
 have hlen : (l.take n).length = n := by rw [List.length_take]; omega
 induction m with
 | zero =>
  intro listed v w hl hc hu hb ht
  have hd := left_zero hl
  rw [putsIf_all (l.take n) 0 a0 fun i _ h2 => doneN_iff.1 hd i (by omega)]
  have e := canon_of hu hd
  rw [show l.toArray.size = l.length by simp] at e
  rw [e]
  exact hend v w hb fun i hi => ht i hi (doneN_iff.1 hd i hi)
 | succ m ih =>
  intro listed v w hl hc hu hb ht
  have hnd := left_some hl
  refine ⟨fun h0 => absurd h0 (ready_some hu.1 (by simpa using hn) hD hl), fun j hj => ?_⟩
  have hjn := bar hB hc hj hnd
  obtain ⟨hju, o, ho, -⟩ := mem_ready.1 hj
  have hpre := preds_of_ready hj
  have hol : l[j]? = some o := by simpa using ho
  have hjs : j < l.toArray.size := (Array.getElem?_eq_some_iff.1 ho).1
  have hty := hops j o hjn hol v w hb fun p hp => ht p (by have := depB_pred hD hjn hp; omega) (hpre p hp)
  have hag : ∀ t ∈ o.looksAt l.toArray, (putsIf (l.take n) 0 (fun i => listed.getD i false) v a0).tmps[t]? = (putsV (l.take n) 0 v a0).tmps[t]? := fun t ht' =>
   get_puts (l.take n) 0 a0 a0 rfl fun i o' ho' hd' => by
    have hin : i < n := by rw [← hlen]; exact (List.getElem?_eq_some_iff.1 ho').1
    have ho2 : l.toArray[i]? = some o' := by rw [List.getElem?_take, if_pos hin] at ho'; simpa using ho'
    rw [Nat.zero_add]
    exact hpre i (depB_looks hD hjn hin ho ho2 ht' hd')
  have step : ∀ u w', Below w.heap.size w w' → T j u w' → wpAny P .any l.toArray Q (s + m) (listed.setIfInBounds j true) ((putsIf (l.take n) 0 (fun i => listed.getD i false) v a0).put o.dst u) w' := by
   intro u w' hw' hu'
   have e := put_at (v := v) (v' := fun i => if i = j then u else v i) (b := fun i => listed.getD i false) (b' := fun i => (listed.setIfInBounds j true).getD i false) (j := j) (u := u) (unl hju) (by simp [hu.1]; simpa using hjs) (by simp)
    (fun i hi => ⟨getD_set_ne false fun e => hi e.symm, by simp [hi]⟩) (l.take n) 0 a0 o hN (Nat.zero_le _) (by rw [Nat.sub_zero, List.getElem?_take, if_pos hjn]; exact hol)
   rw [e]
   refine ih _ _ w' (left_set (ops := l.toArray) hu.1 hjn hjs (unl hju) hl) (hc.set hj) ⟨by simpa using hu.1, fun k hk hks => by rw [getD_set_ne true (by omega)]; exact hu.2 k hk hks⟩ (hb.trans (hw'.mono hb.size)) fun i hi hli => ?_
   by_cases e : i = j
   ·subst e; simpa using hu'
   ·rw [getD_set_ne false fun e' => e e'.symm] at hli
    simp only [if_neg e]
    exact hT i _ _ _ hw' (ht i hi hli)
  unfold wpOp
  simp only [ho]
  unfold TyAt at hty
  rw [← wanted_same hag] at hty
  by_cases hw : Region.wanted o (yielded l.toArray (putsIf (l.take n) 0 (fun i => listed.getD i false) v a0).tmps) = true
  ·simp only [hw, if_true] at hty ⊢
   refine .inl ?_
   unfold Oper.wp
   rw [exec_same (fun cs b => Region.noSelect_spec hsel j o cs b ho) hag]
   generalize (execOp (putsV (l.take n) 0 v a0).eval o).run P w = r at *
   cases r with
   | ok nx w' =>
    cases nx <;> simp only [tyUpon] at hty <;> simp only [Oper.upon]
    case value u => exact step u w' hty.1 hty.2
    case skip => exact step undef w' hty.1 hty.2
    case enter f args =>
     obtain ⟨rfl, hcall⟩ := hty
     exact hcall.mono fun e w'' ⟨u, he, h1, h2⟩ => by subst he; exact step u w'' h2 h1
   | halt x w' => simp only [tyUpon] at hty
  ·simp only [hw] at hty ⊢
   exact step undef w (Below.refl _ _) hty
def tyB (n : Nat) (l : List Oper) : Bool :=
 Region.noSelect l.toArray && decide (n ≤ l.length) && barB .any l.toArray n && nodupD (l.take n) && depB l.toArray n && seqB .any l.toArray (l.length - n) n (canonL l.length n)
/-- **A region whose first n operations each give a value of a property; then the others, in their order.** -/
theorem region_ty (n : Nat) (T : Nat → Value → World → Prop) {id : Nat} {Q : Exit → Act → World → Prop} {a : Act} {w : World} {l : List Oper} (hm : P.follows .mixedOrders = true) (hB : tyB n l = true) (hT : ∀ i, Stays (T i))
  (hops : ∀ j o, j < n → l[j]? = some o → ∀ v w1, Below w.drew.heap.size w.drew w1 → (∀ p ∈ predsOf .any l.toArray j, T p (v p) w1) → TyAt P l.toArray o (putsV (l.take n) 0 v a) w1 (T j))
  (hend : ∀ v w1, Below w.drew.heap.size w.drew w1 → (∀ i, i < n → T i (v i) w1) → wpList P l.toArray Q (l.drop n) (putsV (l.take n) 0 v a) w1) : (Code.region id l.toArray true).wp P Q a w := by
 simp only [tyB, Bool.and_eq_true, decide_eq_true_eq] at hB
 obtain ⟨⟨⟨⟨⟨hs, hn⟩, hb⟩, hN⟩, hD⟩, hq⟩ := hB
 refine wp_region_any hm ?_
 have hrep : ∀ i, (Array.replicate l.length false).getD i false = false := fun i => by
  rcases Nat.lt_or_ge i l.length with h' | h' <;> simp [h']
 have h0 : closedL .any l.toArray (Array.replicate l.length false) := fun j o _ hl => by rw [hrep] at hl; cases hl
 have hleft : left n (Array.replicate l.length false) = n := by
  unfold left
  rw [List.countP_eq_length.2 fun i _ => by rw [hrep]; rfl, List.length_range]
 have h2 := wpAny_ty (P := P) (s := l.length - n) (Q := Q) (a0 := a) hT hs hn hb hN hD hops (fun v w1 h1 h2 => by
   have h3 := wpAny_of_seq (md := .any) (P := P) (Q' := Q) (l.drop n) n (canonL l.length n) (putsV (l.take n) 0 v a) w1 (fun j hj => by simp [List.getElem?_drop]) (by rw [List.length_drop]; exact hq) (hend v w1 h1 h2)
   rw [List.length_drop] at h3
   exact h3) n (Array.replicate l.length false) (fun _ => undef) w.drew hleft h0 ⟨by simp, fun j _ hj => by simp at hj; simp [hj]⟩ (Below.refl _ _) (fun i _ hl => by rw [hrep] at hl; cases hl)
 rw [putsIf_none (l.take n) 0 a fun i _ _ => hrep i, Nat.sub_add_cancel hn] at h2
 simpa using h2
theorem stays_nil : ∀ i : Nat, Stays (([] : List (Value → World → Prop)).getD i (fun _ _ => True)) := fun i => by simp [Stays]
theorem stays_cons {T : Value → World → Prop} {L : List (Value → World → Prop)} (h : Stays T) (hL : ∀ i : Nat, Stays (L.getD i (fun _ _ => True))) : ∀ i : Nat, Stays ((T :: L).getD i (fun _ _ => True))
 | 0 => h
 | i + 1 => by simpa using hL i
theorem stays_eq (c : Value) : Stays (fun u _ => u = c) := fun _ _ _ _ h => h
/-- The operations, one obligation each. -/
def hopsR (P : Program) (ops : Array Oper) (T : Nat → Value → World → Prop) (w0 : World) (F : (Nat → Value) → Act) : List Oper → Nat → Prop
 | [], _ => True
 | o :: l, k => (∀ v w1, Below w0.heap.size w0 w1 → (∀ p ∈ predsOf .any ops k, T p (v p) w1) → TyAt P ops o (F v) w1 (T k)) ∧ hopsR P ops T w0 F l (k + 1)
theorem hops_of {T : Nat → Value → World → Prop} {w0 : World} {F : (Nat → Value) → Act} : ∀ (l : List Oper) (k : Nat), hopsR P ops T w0 F l k → ∀ j o, l[j]? = some o → ∀ v w1, Below w0.heap.size w0 w1 → (∀ p ∈ predsOf .any ops (k + j), T p (v p) w1) → TyAt P ops o (F v) w1 (T (k + j))
 | [], _, _, j, o, h => by simp at h
 | o' :: l, k, hh, 0, o, h => by
  simp only [List.getElem?_cons_zero, Option.some.injEq] at h
  subst h; exact hh.1
 | o' :: l, k, hh, j + 1, o, h => by
  have := hops_of l (k + 1) hh.2 j o (by simpa using h)
  rwa [show k + 1 + j = k + (j + 1) by omega] at this
/-- region_ty, with its properties as a list. -/
theorem region_tl (n : Nat) (L : List (Value → World → Prop)) {id : Nat} {Q : Exit → Act → World → Prop} {a : Act} {w : World} {l : List Oper} (hm : P.follows .mixedOrders = true) (hB : tyB n l = true) (hT : ∀ i, Stays (L.getD i (fun _ _ => True)))
  (hops : hopsR P l.toArray (fun i => L.getD i (fun _ _ => True)) w.drew (fun v => putsV (l.take n) 0 v a) (l.take n) 0)
  (hend : ∀ v w1, Below w.drew.heap.size w.drew w1 → (∀ i, i < n → L.getD i (fun _ _ => True) (v i) w1) → wpList P l.toArray Q (l.drop n) (putsV (l.take n) 0 v a) w1) : (Code.region id l.toArray true).wp P Q a w :=
 region_ty n (fun i => L.getD i (fun _ _ => True)) hm hB hT (fun j o hj ho v w1 hb hp => by
  have := hops_of (l.take n) 0 hops j o (by rw [List.getElem?_take, if_pos hj]; exact ho) v w1 hb (by rw [Nat.zero_add]; exact hp)
  rwa [Nat.zero_add] at this) hend
end
end Go.Proofs.YtfmakoiiibacjaaDoor
namespace Go.Proofs.YtfmakoiiibacjaaDoor
open Go.RowKit Go.Proofs.YtfmakoiiibacjaaDoor.Rx
attribute [local irreducible] lo hs sm s64 c64 d64 b64 mh ml pd pc qd qc val hiB str cmpI srD lz nb isq dval
set_option maxHeartbeats 1000000 in
set_option maxRecDepth 100000 in
theorem rzadd_same (s : Bool) (va vb : Value) (a b : Nat) (la : (td a).length ≤ 1000000) (lb : (td b).length ≤ 1000000) (w : World) (ha : Rn w va a) (hb : Rn w vb b) :
  Calls Tryd.prog 84 #[.agg #[.bool s, va], .agg #[.bool s, vb]] w fun e w' => (∃ v, e = .returned (.agg #[.bool (s && decide (a + b ≠ 0)), v]) ∧ Rn w' v (a + b)) ∧ Below w.heap.size w w' := by
 have hL0 : GL w w [] := GL.start w
 have HA := Lib.hid (fun w h1 h2 => radd_any va vb a b la lb w h1 h2)
 obtain ⟨aa, ca, rfl⟩ := ha.form
 obtain ⟨ab, cb, rfl⟩ := hb.form
 generalize (td a).length = na at *
 generalize (td b).length = nb at *
 replace hL0 := (((hL0.new rfl [.bool s, .slice aa na ca] 65).new (K := w.heap.size + 1) (szA _ _) [.bool s, .slice ab nb cb] 65).new (K := w.heap.size + 1 + 1) (by simp only [World.size_alloc]) [.bool false, .slice none 0 0] 65)
 generalize hweq : (((w.alloc (.cells #[.bool s, .slice aa na ca] 65)).alloc (.cells #[.bool s, .slice ab nb cb] 65)).alloc (.cells #[.bool false, .slice none 0 0] 65)) = x1 at hL0
 replace ha := Lib.hid (ha.below hL0.bl)
 replace hb := Lib.hid (hb.below hL0.bl)
 clear la lb
 go_enter Tryd.func84, Tryd.ntmps84
 have hA := hL0.fc
 simp only [fcG, cellsF, neK, and_true, ne_eq, Nat.zero_add, Nat.reduceAdd] at hA
 go_upto_region 2 with fail
 clear hA
 clear hweq
 refine region_tl 8 [fun u _ => u = .pointer (some ⟨w.heap.size, 0, none⟩), fun u _ => u = .bool s, fun u _ => u = .pointer (some ⟨w.heap.size, 1, none⟩), fun u _ => u = .slice aa na ca, fun u _ => u = .pointer (some ⟨w.heap.size + 1, 1, none⟩), fun u _ => u = .slice ab nb cb, fun u w => Rn w u (a + b), fun u w => ∃ v, u = .agg #[.bool (s && decide (a + b ≠ 0)), v] ∧ Rn w v (a + b)] (by kernel_rfl) (by kernel_rfl) ?_ ?_ ?_
 ·exact stays_cons (stays_eq _) (stays_cons (stays_eq _) (stays_cons (stays_eq _) (stays_cons (stays_eq _) (stays_cons (stays_eq _) (stays_cons (stays_eq _) (stays_cons (fun _ _ _ hb h => h.below hb) (stays_cons (fun _ _ _ hb ⟨v, e, h⟩ => ⟨v, e, h.below hb⟩) (stays_nil))))))))
 ·simp only [List.take_succ_cons, List.take_zero, hopsR, and_true]
  refine ⟨?_, ?_, ?_, ?_, ?_, ?_, ?_, ?_⟩ <;> intro v w1 hb1 hp
  all_goals (simp only [putsV, Act.put, List.setIfInBounds_toArray, List.set_cons_succ, List.set_cons_zero, Nat.zero_add, Nat.reduceAdd])
  ·skip
   clear hp
   have hc := (hL0.call (below_drew hb1)).fc
   simp only [fcG, cellsF, neK, and_true, ne_eq, Nat.zero_add, Nat.reduceAdd] at hc
   refine tyAt_none rfl ?_
   simp [tyUpon, execOp, go_sem, Act.eval, hc, Below.refl]
  ·skip
   have h0 : (fun u _ => u = .pointer (some ⟨w.heap.size, 0, none⟩)) (v 0) w1 := hp 0 (List.contains_iff_mem.1 (by kernel_rfl))
   clear hp
   have hc := (hL0.call (below_drew hb1)).fc
   simp only [fcG, cellsF, neK, and_true, ne_eq, Nat.zero_add, Nat.reduceAdd] at hc
   refine tyAt_none rfl ?_
   simp [tyUpon, execOp, go_sem, Act.eval, hc, h0, Below.refl]
  ·skip
   clear hp
   have hc := (hL0.call (below_drew hb1)).fc
   simp only [fcG, cellsF, neK, and_true, ne_eq, Nat.zero_add, Nat.reduceAdd] at hc
   refine tyAt_none rfl ?_
   simp [tyUpon, execOp, go_sem, Act.eval, hc, Below.refl]
  ·skip
   have h2 : (fun u _ => u = .pointer (some ⟨w.heap.size, 1, none⟩)) (v 2) w1 := hp 2 (List.contains_iff_mem.1 (by kernel_rfl))
   clear hp
   have hc := (hL0.call (below_drew hb1)).fc
   simp only [fcG, cellsF, neK, and_true, ne_eq, Nat.zero_add, Nat.reduceAdd] at hc
   refine tyAt_none rfl ?_
   simp [tyUpon, execOp, go_sem, Act.eval, hc, h2, Below.refl]
  ·skip
   clear hp
   have hc := (hL0.call (below_drew hb1)).fc
   simp only [fcG, cellsF, neK, and_true, ne_eq, Nat.zero_add, Nat.reduceAdd] at hc
   refine tyAt_none rfl ?_
   simp [tyUpon, execOp, go_sem, Act.eval, hc, Below.refl]
  ·skip
   have h4 : (fun u _ => u = .pointer (some ⟨w.heap.size + 1, 1, none⟩)) (v 4) w1 := hp 4 (List.contains_iff_mem.1 (by kernel_rfl))
   clear hp
   have hc := (hL0.call (below_drew hb1)).fc
   simp only [fcG, cellsF, neK, and_true, ne_eq, Nat.zero_add, Nat.reduceAdd] at hc
   refine tyAt_none rfl ?_
   simp [tyUpon, execOp, go_sem, Act.eval, hc, h4, Below.refl]
  ·skip
   have h3 : (fun u _ => u = .slice aa na ca) (v 3) w1 := hp 3 (List.contains_iff_mem.1 (by kernel_rfl))
   have h5 : (fun u _ => u = .slice ab nb cb) (v 5) w1 := hp 5 (List.contains_iff_mem.1 (by kernel_rfl))
   clear hp
   refine tyAt_none rfl ?_
   refine ty_call (f := 100) (args := #[.slice aa na ca, .slice ab nb cb]) (by simp [execOp, go_sem, Act.eval, h3, h5]) ?_
   exact (HA.out w1 (ha.out.below (below_drew hb1)) (hb.out.below (below_drew hb1))).mono fun e w2 ⟨v, h1, h2, h3⟩ => ⟨v, h1, h2, h3⟩
  ·skip
   have h1 : (fun u _ => u = .bool s) (v 1) w1 := hp 1 (List.contains_iff_mem.1 (by kernel_rfl))
   have h6 : (fun u w => Rn w u (a + b)) (v 6) w1 := hp 6 (List.contains_iff_mem.1 (by kernel_rfl))
   clear hp
   refine tyAt_none rfl ?_
   refine ty_call (f := 61) (args := #[.bool s, v 6]) (by simp [execOp, go_sem, Act.eval, h1]) ?_
   have hF := rfrom_any s (v 6) (a + b) w1 h6
   exact hF.mono fun e w2 ⟨h1, h2⟩ => ⟨_, h1, ⟨v 6, rfl, Sl.below h6 h2⟩, h2⟩
 ·intro v w1 hb1 hv
  obtain ⟨u, hu, hru⟩ : ∃ u, v 7 = .agg #[.bool (s && decide (a + b ≠ 0)), u] ∧ Rn w1 u (a + b) := hv 7 (by omega)
  obtain ⟨ao, c, rfl⟩ := hru.form
  generalize hd : (s && decide (a + b ≠ 0)) = d at *
  replace hd := Lib.hid hd
  generalize hk : (td (a + b)).length = k at *
  replace hk := Lib.hid hk
  clear hv
  simp only [List.take_succ_cons, List.take_zero, putsV, Act.put, List.setIfInBounds_toArray, List.set_cons_succ, List.set_cons_zero, List.drop_succ_cons, List.drop_zero, Nat.zero_add, Nat.reduceAdd, hu]
  replace hL0 := hL0.call (below_drew hb1)
  have hHd := hL0.get _ _ List.mem_cons_self
  have hA := hL0.fc
  simp only [fcG, cellsF, neK, and_true, ne_eq, Nat.zero_add, Nat.reduceAdd] at hA
  have hP := hL0.put 0 (w.heap.size + 1 + 1) _ rfl [.bool d, .slice ao k c] rfl
  simp only [setAll, List.set_cons_zero, List.set_cons_succ] at hP
  generalize hput1 : ((w1.setCell ⟨w.heap.size + 1 + 1, 0, none⟩ (.bool d)).setCell ⟨w.heap.size + 1 + 1, 1, none⟩ (.slice ao k c)) = x2 at hP
  have hB1 := hP.fc
  simp only [fcG, cellsF, neK, and_true, ne_eq, Nat.zero_add, Nat.reduceAdd] at hB1
  replace hL0 := hP
  have hvF := sl_upd hru (show Upd (w.heap.size + 1 + 1) w1 x2 by rw [← hput1]; exact ((Upd.refl _ _).setCell 0 _).setCell 1 _) hHd (by intro v hv n; simp only [List.mem_cons, List.not_mem_nil, or_false] at hv; rcases hv with rfl | rfl <;> simp)
  replace hvF := Lib.hid hvF
  clear hru hHd hb1 ha hb HA
  generalize v 0 = y0 at *
  generalize v 1 = y1 at *
  generalize v 2 = y2 at *
  generalize v 3 = y3 at *
  generalize v 4 = y4 at *
  generalize v 5 = y5 at *
  generalize v 6 = y6 at *
  clear hu v
  go_wp2_with fail
  exact bodyPost_ret (v := .agg #[.bool d, .slice ao k c]) (by simp [results, Tryd.results84, go_sem, hB1]) rfl ⟨⟨_, by rw [hd.out], hvF.out⟩, hL0.bl⟩
set_option maxHeartbeats 1000000 in
set_option maxRecDepth 100000 in
theorem rzadd_ge (s t : Bool) (va vb : Value) (a b : Nat) (la : (td a).length ≤ 1000000) (lb : (td b).length ≤ 1000000) (hne : s ≠ t) (hab : b ≤ a) (w : World) (ha : Rn w va a) (hb : Rn w vb b) :
  Calls Tryd.prog 84 #[.agg #[.bool s, va], .agg #[.bool t, vb]] w fun e w' => (∃ v, e = .returned (.agg #[.bool (s && decide (a - b ≠ 0)), v]) ∧ Rn w' v (a - b)) ∧ Below w.heap.size w w' := by
 have hL0 : GL w w [] := GL.start w
 have HA := Lib.hid (fun w h1 h2 => rsub_any va vb a b la hab w h1 h2)
 have HC := Lib.hid (fun w h1 h2 => rcmp_any va vb a b la lb w h1 h2)
 have hcg : decide (cmpI a b ≥ 0) = true := decide_eq_true (by unfold cmpI; split <;> (try split) <;> omega)
 have hcg2 : decide (0 ≤ cmpI a b) = true := decide_eq_true (by unfold cmpI; split <;> (try split) <;> omega)
 have hst : (s == t) = false := beq_eq_false_iff_ne.2 hne
 generalize cmpI a b = cz at *
 obtain ⟨aa, ca, rfl⟩ := ha.form
 obtain ⟨ab, cb, rfl⟩ := hb.form
 generalize (td a).length = na at *
 generalize (td b).length = nb at *
 replace hL0 := (((hL0.new rfl [.bool s, .slice aa na ca] 65).new (K := w.heap.size + 1) (szA _ _) [.bool t, .slice ab nb cb] 65).new (K := w.heap.size + 1 + 1) (by simp only [World.size_alloc]) [.bool false, .slice none 0 0] 65)
 generalize hweq : (((w.alloc (.cells #[.bool s, .slice aa na ca] 65)).alloc (.cells #[.bool t, .slice ab nb cb] 65)).alloc (.cells #[.bool false, .slice none 0 0] 65)) = x1 at hL0
 replace ha := Lib.hid (ha.below hL0.bl)
 replace hb := Lib.hid (hb.below hL0.bl)
 clear la lb hab hne
 go_enter Tryd.func84, Tryd.ntmps84
 have hA := hL0.fc
 simp only [fcG, cellsF, neK, and_true, ne_eq, Nat.zero_add, Nat.reduceAdd] at hA
 go_wp2_with fail
 clear hA
 with_reducible refine Calls.mono (HC.out _ ha.out hb.out) ?_
 rintro e x2 ⟨rfl, hbc⟩
 replace hL0 := hL0.call hbc
 replace ha := Lib.hid (ha.out.below hbc)
 replace hb := Lib.hid (hb.out.below hbc)
 clear hbc hweq HC
 have hA := hL0.fc
 simp only [fcG, cellsF, neK, and_true, ne_eq, Nat.zero_add, Nat.reduceAdd] at hA
 go_upto_region 4 with fail
 clear hA
 refine region_tl 8 [fun u _ => u = .pointer (some ⟨w.heap.size, 0, none⟩), fun u _ => u = .bool s, fun u _ => u = .pointer (some ⟨w.heap.size, 1, none⟩), fun u _ => u = .slice aa na ca, fun u _ => u = .pointer (some ⟨w.heap.size + 1, 1, none⟩), fun u _ => u = .slice ab nb cb, fun u w => Rn w u (a - b), fun u w => ∃ v, u = .agg #[.bool (s && decide (a - b ≠ 0)), v] ∧ Rn w v (a - b)] (by kernel_rfl) (by kernel_rfl) ?_ ?_ ?_
 ·exact stays_cons (stays_eq _) (stays_cons (stays_eq _) (stays_cons (stays_eq _) (stays_cons (stays_eq _) (stays_cons (stays_eq _) (stays_cons (stays_eq _) (stays_cons (fun _ _ _ hb h => h.below hb) (stays_cons (fun _ _ _ hb ⟨v, e, h⟩ => ⟨v, e, h.below hb⟩) (stays_nil))))))))
 ·simp only [List.take_succ_cons, List.take_zero, hopsR, and_true]
  refine ⟨?_, ?_, ?_, ?_, ?_, ?_, ?_, ?_⟩ <;> intro v w1 hb1 hp
  all_goals (simp only [putsV, Act.put, List.setIfInBounds_toArray, List.set_cons_succ, List.set_cons_zero, Nat.zero_add, Nat.reduceAdd])
  ·skip
   clear hp
   have hc := (hL0.call (below_drew hb1)).fc
   simp only [fcG, cellsF, neK, and_true, ne_eq, Nat.zero_add, Nat.reduceAdd] at hc
   refine tyAt_none rfl ?_
   simp [tyUpon, execOp, go_sem, Act.eval, hc, Below.refl]
  ·skip
   have h0 : (fun u _ => u = .pointer (some ⟨w.heap.size, 0, none⟩)) (v 0) w1 := hp 0 (List.contains_iff_mem.1 (by kernel_rfl))
   clear hp
   have hc := (hL0.call (below_drew hb1)).fc
   simp only [fcG, cellsF, neK, and_true, ne_eq, Nat.zero_add, Nat.reduceAdd] at hc
   refine tyAt_none rfl ?_
   simp [tyUpon, execOp, go_sem, Act.eval, hc, h0, Below.refl]
  ·skip
   clear hp
   have hc := (hL0.call (below_drew hb1)).fc
   simp only [fcG, cellsF, neK, and_true, ne_eq, Nat.zero_add, Nat.reduceAdd] at hc
   refine tyAt_none rfl ?_
   simp [tyUpon, execOp, go_sem, Act.eval, hc, Below.refl]
  ·skip
   have h2 : (fun u _ => u = .pointer (some ⟨w.heap.size, 1, none⟩)) (v 2) w1 := hp 2 (List.contains_iff_mem.1 (by kernel_rfl))
   clear hp
   have hc := (hL0.call (below_drew hb1)).fc
   simp only [fcG, cellsF, neK, and_true, ne_eq, Nat.zero_add, Nat.reduceAdd] at hc
   refine tyAt_none rfl ?_
   simp [tyUpon, execOp, go_sem, Act.eval, hc, h2, Below.refl]
  ·skip
   clear hp
   have hc := (hL0.call (below_drew hb1)).fc
   simp only [fcG, cellsF, neK, and_true, ne_eq, Nat.zero_add, Nat.reduceAdd] at hc
   refine tyAt_none rfl ?_
   simp [tyUpon, execOp, go_sem, Act.eval, hc, Below.refl]
  ·skip
   have h4 : (fun u _ => u = .pointer (some ⟨w.heap.size + 1, 1, none⟩)) (v 4) w1 := hp 4 (List.contains_iff_mem.1 (by kernel_rfl))
   clear hp
   have hc := (hL0.call (below_drew hb1)).fc
   simp only [fcG, cellsF, neK, and_true, ne_eq, Nat.zero_add, Nat.reduceAdd] at hc
   refine tyAt_none rfl ?_
   simp [tyUpon, execOp, go_sem, Act.eval, hc, h4, Below.refl]
  ·skip
   have h3 : (fun u _ => u = .slice aa na ca) (v 3) w1 := hp 3 (List.contains_iff_mem.1 (by kernel_rfl))
   have h5 : (fun u _ => u = .slice ab nb cb) (v 5) w1 := hp 5 (List.contains_iff_mem.1 (by kernel_rfl))
   clear hp
   refine tyAt_none rfl ?_
   refine ty_call (f := 99) (args := #[.slice aa na ca, .slice ab nb cb]) (by simp [execOp, go_sem, Act.eval, h3, h5]) ?_
   exact (HA.out w1 (ha.out.below (below_drew hb1)) (hb.out.below (below_drew hb1))).mono fun e w2 ⟨v, h1, h2, h3⟩ => ⟨v, h1, h2, h3⟩
  ·skip
   have h1 : (fun u _ => u = .bool s) (v 1) w1 := hp 1 (List.contains_iff_mem.1 (by kernel_rfl))
   have h6 : (fun u w => Rn w u (a - b)) (v 6) w1 := hp 6 (List.contains_iff_mem.1 (by kernel_rfl))
   clear hp
   refine tyAt_none rfl ?_
   refine ty_call (f := 61) (args := #[.bool s, v 6]) (by simp [execOp, go_sem, Act.eval, h1]) ?_
   have hF := rfrom_any s (v 6) (a - b) w1 h6
   exact hF.mono fun e w2 ⟨h1, h2⟩ => ⟨_, h1, ⟨v 6, rfl, Sl.below h6 h2⟩, h2⟩
 ·intro v w1 hb1 hv
  obtain ⟨u, hu, hru⟩ : ∃ u, v 7 = .agg #[.bool (s && decide (a - b ≠ 0)), u] ∧ Rn w1 u (a - b) := hv 7 (by omega)
  obtain ⟨ao, c, rfl⟩ := hru.form
  generalize hd : (s && decide (a - b ≠ 0)) = d at *
  replace hd := Lib.hid hd
  generalize hk : (td (a - b)).length = k at *
  replace hk := Lib.hid hk
  clear hv
  simp only [List.take_succ_cons, List.take_zero, putsV, Act.put, List.setIfInBounds_toArray, List.set_cons_succ, List.set_cons_zero, List.drop_succ_cons, List.drop_zero, Nat.zero_add, Nat.reduceAdd, hu]
  replace hL0 := hL0.call (below_drew hb1)
  have hHd := hL0.get _ _ List.mem_cons_self
  have hA := hL0.fc
  simp only [fcG, cellsF, neK, and_true, ne_eq, Nat.zero_add, Nat.reduceAdd] at hA
  have hP := hL0.put 0 (w.heap.size + 1 + 1) _ rfl [.bool d, .slice ao k c] rfl
  simp only [setAll, List.set_cons_zero, List.set_cons_succ] at hP
  generalize hput1 : ((w1.setCell ⟨w.heap.size + 1 + 1, 0, none⟩ (.bool d)).setCell ⟨w.heap.size + 1 + 1, 1, none⟩ (.slice ao k c)) = x3 at hP
  have hB1 := hP.fc
  simp only [fcG, cellsF, neK, and_true, ne_eq, Nat.zero_add, Nat.reduceAdd] at hB1
  replace hL0 := hP
  have hvF := sl_upd hru (show Upd (w.heap.size + 1 + 1) w1 x3 by rw [← hput1]; exact ((Upd.refl _ _).setCell 0 _).setCell 1 _) hHd (by intro v hv n; simp only [List.mem_cons, List.not_mem_nil, or_false] at hv; rcases hv with rfl | rfl <;> simp)
  replace hvF := Lib.hid hvF
  clear hru hHd hb1 ha hb HA
  generalize v 0 = y0 at *
  generalize v 1 = y1 at *
  generalize v 2 = y2 at *
  generalize v 3 = y3 at *
  generalize v 4 = y4 at *
  generalize v 5 = y5 at *
  generalize v 6 = y6 at *
  clear hu v
  go_wp2_with fail
  exact bodyPost_ret (v := .agg #[.bool d, .slice ao k c]) (by simp [results, Tryd.results84, go_sem, hB1]) rfl ⟨⟨_, by rw [hd.out], hvF.out⟩, hL0.bl⟩
set_option maxHeartbeats 1000000 in
set_option maxRecDepth 100000 in
theorem rzadd_lt (s t : Bool) (va vb : Value) (a b : Nat) (la : (td a).length ≤ 1000000) (lb : (td b).length ≤ 1000000) (hne : s ≠ t) (hab : a < b) (w : World) (ha : Rn w va a) (hb : Rn w vb b) :
  Calls Tryd.prog 84 #[.agg #[.bool s, va], .agg #[.bool t, vb]] w fun e w' => (∃ v, e = .returned (.agg #[.bool (t && decide (b - a ≠ 0)), v]) ∧ Rn w' v (b - a)) ∧ Below w.heap.size w w' := by
 have hL0 : GL w w [] := GL.start w
 have HA := Lib.hid (fun w h1 h2 => rsub_any vb va b a lb (by omega) w h1 h2)
 have HC := Lib.hid (fun w h1 h2 => rcmp_any va vb a b la lb w h1 h2)
 have hcg : decide (cmpI a b ≥ 0) = false := decide_eq_false (by unfold cmpI; split <;> (try split) <;> omega)
 have hcg2 : decide (0 ≤ cmpI a b) = false := decide_eq_false (by unfold cmpI; split <;> (try split) <;> omega)
 have hst : (s == t) = false := beq_eq_false_iff_ne.2 hne
 generalize cmpI a b = cz at *
 obtain ⟨aa, ca, rfl⟩ := ha.form
 obtain ⟨ab, cb, rfl⟩ := hb.form
 generalize (td a).length = na at *
 generalize (td b).length = nb at *
 replace hL0 := (((hL0.new rfl [.bool s, .slice aa na ca] 65).new (K := w.heap.size + 1) (szA _ _) [.bool t, .slice ab nb cb] 65).new (K := w.heap.size + 1 + 1) (by simp only [World.size_alloc]) [.bool false, .slice none 0 0] 65)
 generalize hweq : (((w.alloc (.cells #[.bool s, .slice aa na ca] 65)).alloc (.cells #[.bool t, .slice ab nb cb] 65)).alloc (.cells #[.bool false, .slice none 0 0] 65)) = x1 at hL0
 replace ha := Lib.hid (ha.below hL0.bl)
 replace hb := Lib.hid (hb.below hL0.bl)
 clear la lb hab hne
 go_enter Tryd.func84, Tryd.ntmps84
 have hA := hL0.fc
 simp only [fcG, cellsF, neK, and_true, ne_eq, Nat.zero_add, Nat.reduceAdd] at hA
 go_wp2_with fail
 clear hA
 with_reducible refine Calls.mono (HC.out _ ha.out hb.out) ?_
 rintro e x2 ⟨rfl, hbc⟩
 replace hL0 := hL0.call hbc
 replace ha := Lib.hid (ha.out.below hbc)
 replace hb := Lib.hid (hb.out.below hbc)
 clear hbc hweq HC
 have hA := hL0.fc
 simp only [fcG, cellsF, neK, and_true, ne_eq, Nat.zero_add, Nat.reduceAdd] at hA
 go_upto_region 5 with fail
 clear hA
 refine region_tl 8 [fun u _ => u = .pointer (some ⟨w.heap.size + 1, 0, none⟩), fun u _ => u = .bool t, fun u _ => u = .pointer (some ⟨w.heap.size + 1, 1, none⟩), fun u _ => u = .slice ab nb cb, fun u _ => u = .pointer (some ⟨w.heap.size, 1, none⟩), fun u _ => u = .slice aa na ca, fun u w => Rn w u (b - a), fun u w => ∃ v, u = .agg #[.bool (t && decide (b - a ≠ 0)), v] ∧ Rn w v (b - a)] (by kernel_rfl) (by kernel_rfl) ?_ ?_ ?_
 ·exact stays_cons (stays_eq _) (stays_cons (stays_eq _) (stays_cons (stays_eq _) (stays_cons (stays_eq _) (stays_cons (stays_eq _) (stays_cons (stays_eq _) (stays_cons (fun _ _ _ hb h => h.below hb) (stays_cons (fun _ _ _ hb ⟨v, e, h⟩ => ⟨v, e, h.below hb⟩) (stays_nil))))))))
 ·simp only [List.take_succ_cons, List.take_zero, hopsR, and_true]
  refine ⟨?_, ?_, ?_, ?_, ?_, ?_, ?_, ?_⟩ <;> intro v w1 hb1 hp
  all_goals (simp only [putsV, Act.put, List.setIfInBounds_toArray, List.set_cons_succ, List.set_cons_zero, Nat.zero_add, Nat.reduceAdd])
  ·skip
   clear hp
   have hc := (hL0.call (below_drew hb1)).fc
   simp only [fcG, cellsF, neK, and_true, ne_eq, Nat.zero_add, Nat.reduceAdd] at hc
   refine tyAt_none rfl ?_
   simp [tyUpon, execOp, go_sem, Act.eval, hc, Below.refl]
  ·skip
   have h0 : (fun u _ => u = .pointer (some ⟨w.heap.size + 1, 0, none⟩)) (v 0) w1 := hp 0 (List.contains_iff_mem.1 (by kernel_rfl))
   clear hp
   have hc := (hL0.call (below_drew hb1)).fc
   simp only [fcG, cellsF, neK, and_true, ne_eq, Nat.zero_add, Nat.reduceAdd] at hc
   refine tyAt_none rfl ?_
   simp [tyUpon, execOp, go_sem, Act.eval, hc, h0, Below.refl]
  ·skip
   clear hp
   have hc := (hL0.call (below_drew hb1)).fc
   simp only [fcG, cellsF, neK, and_true, ne_eq, Nat.zero_add, Nat.reduceAdd] at hc
   refine tyAt_none rfl ?_
   simp [tyUpon, execOp, go_sem, Act.eval, hc, Below.refl]
  ·skip
   have h2 : (fun u _ => u = .pointer (some ⟨w.heap.size + 1, 1, none⟩)) (v 2) w1 := hp 2 (List.contains_iff_mem.1 (by kernel_rfl))
   clear hp
   have hc := (hL0.call (below_drew hb1)).fc
   simp only [fcG, cellsF, neK, and_true, ne_eq, Nat.zero_add, Nat.reduceAdd] at hc
   refine tyAt_none rfl ?_
   simp [tyUpon, execOp, go_sem, Act.eval, hc, h2, Below.refl]
  ·skip
   clear hp
   have hc := (hL0.call (below_drew hb1)).fc
   simp only [fcG, cellsF, neK, and_true, ne_eq, Nat.zero_add, Nat.reduceAdd] at hc
   refine tyAt_none rfl ?_
   simp [tyUpon, execOp, go_sem, Act.eval, hc, Below.refl]
  ·skip
   have h4 : (fun u _ => u = .pointer (some ⟨w.heap.size, 1, none⟩)) (v 4) w1 := hp 4 (List.contains_iff_mem.1 (by kernel_rfl))
   clear hp
   have hc := (hL0.call (below_drew hb1)).fc
   simp only [fcG, cellsF, neK, and_true, ne_eq, Nat.zero_add, Nat.reduceAdd] at hc
   refine tyAt_none rfl ?_
   simp [tyUpon, execOp, go_sem, Act.eval, hc, h4, Below.refl]
  ·skip
   have h3 : (fun u _ => u = .slice ab nb cb) (v 3) w1 := hp 3 (List.contains_iff_mem.1 (by kernel_rfl))
   have h5 : (fun u _ => u = .slice aa na ca) (v 5) w1 := hp 5 (List.contains_iff_mem.1 (by kernel_rfl))
   clear hp
   refine tyAt_none rfl ?_
   refine ty_call (f := 99) (args := #[.slice ab nb cb, .slice aa na ca]) (by simp [execOp, go_sem, Act.eval, h3, h5]) ?_
   exact (HA.out w1 (hb.out.below (below_drew hb1)) (ha.out.below (below_drew hb1))).mono fun e w2 ⟨v, h1, h2, h3⟩ => ⟨v, h1, h2, h3⟩
  ·skip
   have h1 : (fun u _ => u = .bool t) (v 1) w1 := hp 1 (List.contains_iff_mem.1 (by kernel_rfl))
   have h6 : (fun u w => Rn w u (b - a)) (v 6) w1 := hp 6 (List.contains_iff_mem.1 (by kernel_rfl))
   clear hp
   refine tyAt_none rfl ?_
   refine ty_call (f := 61) (args := #[.bool t, v 6]) (by simp [execOp, go_sem, Act.eval, h1]) ?_
   have hF := rfrom_any t (v 6) (b - a) w1 h6
   exact hF.mono fun e w2 ⟨h1, h2⟩ => ⟨_, h1, ⟨v 6, rfl, Sl.below h6 h2⟩, h2⟩
 ·intro v w1 hb1 hv
  obtain ⟨u, hu, hru⟩ : ∃ u, v 7 = .agg #[.bool (t && decide (b - a ≠ 0)), u] ∧ Rn w1 u (b - a) := hv 7 (by omega)
  obtain ⟨ao, c, rfl⟩ := hru.form
  generalize hd : (t && decide (b - a ≠ 0)) = d at *
  replace hd := Lib.hid hd
  generalize hk : (td (b - a)).length = k at *
  replace hk := Lib.hid hk
  clear hv
  simp only [List.take_succ_cons, List.take_zero, putsV, Act.put, List.setIfInBounds_toArray, List.set_cons_succ, List.set_cons_zero, List.drop_succ_cons, List.drop_zero, Nat.zero_add, Nat.reduceAdd, hu]
  replace hL0 := hL0.call (below_drew hb1)
  have hHd := hL0.get _ _ List.mem_cons_self
  have hA := hL0.fc
  simp only [fcG, cellsF, neK, and_true, ne_eq, Nat.zero_add, Nat.reduceAdd] at hA
  have hP := hL0.put 0 (w.heap.size + 1 + 1) _ rfl [.bool d, .slice ao k c] rfl
  simp only [setAll, List.set_cons_zero, List.set_cons_succ] at hP
  generalize hput1 : ((w1.setCell ⟨w.heap.size + 1 + 1, 0, none⟩ (.bool d)).setCell ⟨w.heap.size + 1 + 1, 1, none⟩ (.slice ao k c)) = x3 at hP
  have hB1 := hP.fc
  simp only [fcG, cellsF, neK, and_true, ne_eq, Nat.zero_add, Nat.reduceAdd] at hB1
  replace hL0 := hP
  have hvF := sl_upd hru (show Upd (w.heap.size + 1 + 1) w1 x3 by rw [← hput1]; exact ((Upd.refl _ _).setCell 0 _).setCell 1 _) hHd (by intro v hv n; simp only [List.mem_cons, List.not_mem_nil, or_false] at hv; rcases hv with rfl | rfl <;> simp)
  replace hvF := Lib.hid hvF
  clear hru hHd hb1 ha hb HA
  generalize v 0 = y0 at *
  generalize v 1 = y1 at *
  generalize v 2 = y2 at *
  generalize v 3 = y3 at *
  generalize v 4 = y4 at *
  generalize v 5 = y5 at *
  generalize v 6 = y6 at *
  clear hu v
  go_wp2_with fail
  exact bodyPost_ret (v := .agg #[.bool d, .slice ao k c]) (by simp [results, Tryd.results84, go_sem, hB1]) rfl ⟨⟨_, by rw [hd.out], hvF.out⟩, hL0.bl⟩
set_option maxHeartbeats 1000000 in
set_option maxRecDepth 100000 in
theorem rzmul_any (s t : Bool) (va vb : Value) (a b : Nat) (la : (td a).length ≤ 1000000) (lb : (td b).length ≤ 1000000) (w : World) (ha : Rn w va a) (hb : Rn w vb b) :
  Calls Tryd.prog 64 #[.agg #[.bool s, va], .agg #[.bool t, vb]] w fun e w' => (∃ v, e = .returned (.agg #[.bool (!(s == t) && decide (a * b ≠ 0)), v]) ∧ Rn w' v (a * b)) ∧ Below w.heap.size w w' := by
 have hL0 : GL w w [] := GL.start w
 have HA := Lib.hid (fun w h1 h2 => rmul_any va vb a b la lb w h1 h2)
 obtain ⟨aa, ca, rfl⟩ := ha.form
 obtain ⟨ab, cb, rfl⟩ := hb.form
 generalize (td a).length = na at *
 generalize (td b).length = nb at *
 replace hL0 := (((hL0.new rfl [.bool s, .slice aa na ca] 65).new (K := w.heap.size + 1) (szA _ _) [.bool t, .slice ab nb cb] 65).new (K := w.heap.size + 1 + 1) (by simp only [World.size_alloc]) [.bool false, .slice none 0 0] 65)
 generalize hweq : (((w.alloc (.cells #[.bool s, .slice aa na ca] 65)).alloc (.cells #[.bool t, .slice ab nb cb] 65)).alloc (.cells #[.bool false, .slice none 0 0] 65)) = x1 at hL0
 replace ha := Lib.hid (ha.below hL0.bl)
 replace hb := Lib.hid (hb.below hL0.bl)
 clear la lb
 go_enter Tryd.func64, Tryd.ntmps64
 have hA := hL0.fc
 simp only [fcG, cellsF, neK, and_true, ne_eq, Nat.zero_add, Nat.reduceAdd] at hA
 go_upto_region 1 with fail
 clear hA
 clear hweq
 refine region_tl 11 [fun u _ => u = .pointer (some ⟨w.heap.size, 0, none⟩), fun u _ => u = .bool s, fun u _ => u = .pointer (some ⟨w.heap.size + 1, 0, none⟩), fun u _ => u = .bool t, fun u _ => u = .bool (!(s == t)), fun u _ => u = .pointer (some ⟨w.heap.size, 1, none⟩), fun u _ => u = .slice aa na ca, fun u _ => u = .pointer (some ⟨w.heap.size + 1, 1, none⟩), fun u _ => u = .slice ab nb cb, fun u w => Rn w u (a * b), fun u w => ∃ v, u = .agg #[.bool (!(s == t) && decide (a * b ≠ 0)), v] ∧ Rn w v (a * b)] (by kernel_rfl) (by kernel_rfl) ?_ ?_ ?_
 ·exact stays_cons (stays_eq _) (stays_cons (stays_eq _) (stays_cons (stays_eq _) (stays_cons (stays_eq _) (stays_cons (stays_eq _) (stays_cons (stays_eq _) (stays_cons (stays_eq _) (stays_cons (stays_eq _) (stays_cons (stays_eq _) (stays_cons (fun _ _ _ hb h => h.below hb) (stays_cons (fun _ _ _ hb ⟨v, e, h⟩ => ⟨v, e, h.below hb⟩) (stays_nil)))))))))))
 ·simp only [List.take_succ_cons, List.take_zero, hopsR, and_true]
  refine ⟨?_, ?_, ?_, ?_, ?_, ?_, ?_, ?_, ?_, ?_, ?_⟩ <;> intro v w1 hb1 hp
  all_goals (simp only [putsV, Act.put, List.setIfInBounds_toArray, List.set_cons_succ, List.set_cons_zero, Nat.zero_add, Nat.reduceAdd])
  ·skip
   clear hp
   have hc := (hL0.call (below_drew hb1)).fc
   simp only [fcG, cellsF, neK, and_true, ne_eq, Nat.zero_add, Nat.reduceAdd] at hc
   refine tyAt_none rfl ?_
   simp [tyUpon, execOp, go_sem, Act.eval, hc, Below.refl]
  ·skip
   have h0 : (fun u _ => u = .pointer (some ⟨w.heap.size, 0, none⟩)) (v 0) w1 := hp 0 (List.contains_iff_mem.1 (by kernel_rfl))
   clear hp
   have hc := (hL0.call (below_drew hb1)).fc
   simp only [fcG, cellsF, neK, and_true, ne_eq, Nat.zero_add, Nat.reduceAdd] at hc
   refine tyAt_none rfl ?_
   simp [tyUpon, execOp, go_sem, Act.eval, hc, h0, Below.refl]
  ·skip
   clear hp
   have hc := (hL0.call (below_drew hb1)).fc
   simp only [fcG, cellsF, neK, and_true, ne_eq, Nat.zero_add, Nat.reduceAdd] at hc
   refine tyAt_none rfl ?_
   simp [tyUpon, execOp, go_sem, Act.eval, hc, Below.refl]
  ·skip
   have h2 : (fun u _ => u = .pointer (some ⟨w.heap.size + 1, 0, none⟩)) (v 2) w1 := hp 2 (List.contains_iff_mem.1 (by kernel_rfl))
   clear hp
   have hc := (hL0.call (below_drew hb1)).fc
   simp only [fcG, cellsF, neK, and_true, ne_eq, Nat.zero_add, Nat.reduceAdd] at hc
   refine tyAt_none rfl ?_
   simp [tyUpon, execOp, go_sem, Act.eval, hc, h2, Below.refl]
  ·skip
   have h1 : (fun u _ => u = .bool s) (v 1) w1 := hp 1 (List.contains_iff_mem.1 (by kernel_rfl))
   have h3 : (fun u _ => u = .bool t) (v 3) w1 := hp 3 (List.contains_iff_mem.1 (by kernel_rfl))
   clear hp
   have hc := (hL0.call (below_drew hb1)).fc
   simp only [fcG, cellsF, neK, and_true, ne_eq, Nat.zero_add, Nat.reduceAdd] at hc
   refine tyAt_none rfl ?_
   simp [tyUpon, execOp, go_sem, Act.eval, hc, h1, h3, Below.refl]
  ·skip
   clear hp
   have hc := (hL0.call (below_drew hb1)).fc
   simp only [fcG, cellsF, neK, and_true, ne_eq, Nat.zero_add, Nat.reduceAdd] at hc
   refine tyAt_none rfl ?_
   simp [tyUpon, execOp, go_sem, Act.eval, hc, Below.refl]
  ·skip
   have h5 : (fun u _ => u = .pointer (some ⟨w.heap.size, 1, none⟩)) (v 5) w1 := hp 5 (List.contains_iff_mem.1 (by kernel_rfl))
   clear hp
   have hc := (hL0.call (below_drew hb1)).fc
   simp only [fcG, cellsF, neK, and_true, ne_eq, Nat.zero_add, Nat.reduceAdd] at hc
   refine tyAt_none rfl ?_
   simp [tyUpon, execOp, go_sem, Act.eval, hc, h5, Below.refl]
  ·skip
   clear hp
   have hc := (hL0.call (below_drew hb1)).fc
   simp only [fcG, cellsF, neK, and_true, ne_eq, Nat.zero_add, Nat.reduceAdd] at hc
   refine tyAt_none rfl ?_
   simp [tyUpon, execOp, go_sem, Act.eval, hc, Below.refl]
  ·skip
   have h7 : (fun u _ => u = .pointer (some ⟨w.heap.size + 1, 1, none⟩)) (v 7) w1 := hp 7 (List.contains_iff_mem.1 (by kernel_rfl))
   clear hp
   have hc := (hL0.call (below_drew hb1)).fc
   simp only [fcG, cellsF, neK, and_true, ne_eq, Nat.zero_add, Nat.reduceAdd] at hc
   refine tyAt_none rfl ?_
   simp [tyUpon, execOp, go_sem, Act.eval, hc, h7, Below.refl]
  ·skip
   have h6 : (fun u _ => u = .slice aa na ca) (v 6) w1 := hp 6 (List.contains_iff_mem.1 (by kernel_rfl))
   have h8 : (fun u _ => u = .slice ab nb cb) (v 8) w1 := hp 8 (List.contains_iff_mem.1 (by kernel_rfl))
   clear hp
   refine tyAt_none rfl ?_
   refine ty_call (f := 86) (args := #[.slice aa na ca, .slice ab nb cb]) (by simp [execOp, go_sem, Act.eval, h6, h8]) ?_
   exact (HA.out w1 (ha.out.below (below_drew hb1)) (hb.out.below (below_drew hb1))).mono fun e w2 ⟨v, h1, h2, h3⟩ => ⟨v, h1, h2, h3⟩
  ·skip
   have h4 : (fun u _ => u = .bool (!(s == t))) (v 4) w1 := hp 4 (List.contains_iff_mem.1 (by kernel_rfl))
   have h9 : (fun u w => Rn w u (a * b)) (v 9) w1 := hp 9 (List.contains_iff_mem.1 (by kernel_rfl))
   clear hp
   refine tyAt_none rfl ?_
   refine ty_call (f := 61) (args := #[.bool (!(s == t)), v 9]) (by simp [execOp, go_sem, Act.eval, h4]) ?_
   have hF := rfrom_any (!(s == t)) (v 9) (a * b) w1 h9
   exact hF.mono fun e w2 ⟨h1, h2⟩ => ⟨_, h1, ⟨v 9, rfl, Sl.below h9 h2⟩, h2⟩
 ·intro v w1 hb1 hv
  obtain ⟨u, hu, hru⟩ : ∃ u, v 10 = .agg #[.bool (!(s == t) && decide (a * b ≠ 0)), u] ∧ Rn w1 u (a * b) := hv 10 (by omega)
  obtain ⟨ao, c, rfl⟩ := hru.form
  generalize hd : (!(s == t) && decide (a * b ≠ 0)) = d at *
  replace hd := Lib.hid hd
  generalize hk : (td (a * b)).length = k at *
  replace hk := Lib.hid hk
  clear hv
  simp only [List.take_succ_cons, List.take_zero, putsV, Act.put, List.setIfInBounds_toArray, List.set_cons_succ, List.set_cons_zero, List.drop_succ_cons, List.drop_zero, Nat.zero_add, Nat.reduceAdd, hu]
  replace hL0 := hL0.call (below_drew hb1)
  have hHd := hL0.get _ _ List.mem_cons_self
  have hA := hL0.fc
  simp only [fcG, cellsF, neK, and_true, ne_eq, Nat.zero_add, Nat.reduceAdd] at hA
  have hP := hL0.put 0 (w.heap.size + 1 + 1) _ rfl [.bool d, .slice ao k c] rfl
  simp only [setAll, List.set_cons_zero, List.set_cons_succ] at hP
  generalize hput1 : ((w1.setCell ⟨w.heap.size + 1 + 1, 0, none⟩ (.bool d)).setCell ⟨w.heap.size + 1 + 1, 1, none⟩ (.slice ao k c)) = x2 at hP
  have hB1 := hP.fc
  simp only [fcG, cellsF, neK, and_true, ne_eq, Nat.zero_add, Nat.reduceAdd] at hB1
  replace hL0 := hP
  have hvF := sl_upd hru (show Upd (w.heap.size + 1 + 1) w1 x2 by rw [← hput1]; exact ((Upd.refl _ _).setCell 0 _).setCell 1 _) hHd (by intro v hv n; simp only [List.mem_cons, List.not_mem_nil, or_false] at hv; rcases hv with rfl | rfl <;> simp)
  replace hvF := Lib.hid hvF
  clear hru hHd hb1 ha hb HA
  generalize v 0 = y0 at *
  generalize v 1 = y1 at *
  generalize v 2 = y2 at *
  generalize v 3 = y3 at *
  generalize v 4 = y4 at *
  generalize v 5 = y5 at *
  generalize v 6 = y6 at *
  generalize v 7 = y7 at *
  generalize v 8 = y8 at *
  generalize v 9 = y9 at *
  clear hu v
  go_wp2_with fail
  exact bodyPost_ret (v := .agg #[.bool d, .slice ao k c]) (by simp [results, Tryd.results64, go_sem, hB1]) rfl ⟨⟨_, by rw [hd.out], hvF.out⟩, hL0.bl⟩
set_option maxHeartbeats 1000000 in
set_option maxRecDepth 100000 in
theorem rzneg_any (s : Bool) (va : Value) (a : Nat) (w : World) (ha : Rn w va a) :
  Calls Tryd.prog 85 #[.agg #[.bool s, va]] w fun e w' => e = .returned (.agg #[.bool (!s && decide (a ≠ 0)), va]) ∧ Below w.heap.size w w' := by
 have hL0 : GL w w [] := GL.start w
 have HF := Lib.hid (fun w h => rfrom_any (!s) va a w h)
 generalize hd : (!s && decide (a ≠ 0)) = d at *
 obtain ⟨aa, ca, rfl⟩ := ha.form
 generalize (td a).length = na at *
 replace hL0 := ((hL0.new rfl [.bool s, .slice aa na ca] 65).new (K := w.heap.size + 1) (szA _ _) [.bool false, .slice none 0 0] 65)
 generalize hweq : ((w.alloc (.cells #[.bool s, .slice aa na ca] 65)).alloc (.cells #[.bool false, .slice none 0 0] 65)) = x1 at hL0
 replace ha := Lib.hid (ha.below hL0.bl)
 clear hd
 go_enter Tryd.func85, Tryd.ntmps85
 have hA := hL0.fc
 simp only [fcG, cellsF, neK, and_true, ne_eq, Nat.zero_add, Nat.reduceAdd] at hA
 go_wp2_with fail
 clear hA
 with_reducible refine Calls.mono (HF.out _ ha.out) ?_
 rintro e x2 ⟨rfl, hb⟩
 replace hL0 := hL0.call hb
 clear hb hweq
 have hA := hL0.fc
 simp only [fcG, cellsF, neK, and_true, ne_eq, Nat.zero_add, Nat.reduceAdd] at hA
 have hP := hL0.put 0 (w.heap.size + 1) _ rfl [.bool d, .slice aa na ca] rfl
 simp only [setAll, List.set_cons_zero, List.set_cons_succ] at hP
 generalize hput1 : ((x2.setCell ⟨w.heap.size + 1, 0, none⟩ (.bool d)).setCell ⟨w.heap.size + 1, 1, none⟩ (.slice aa na ca)) = x3 at hP
 have hB1 := hP.fc
 simp only [fcG, cellsF, neK, and_true, ne_eq, Nat.zero_add, Nat.reduceAdd] at hB1
 replace hL0 := hP
 go_wp2_with fail
 exact bodyPost_ret (v := .agg #[.bool d, .slice aa na ca]) (by simp [results, Tryd.results85, go_sem, hB1]) rfl ⟨rfl, hL0.bl⟩
set_option maxHeartbeats 1000000 in
set_option maxRecDepth 100000 in
theorem rzsign_zero (s : Bool) (a : Option Addr) (n c : Nat) (h : n = 0) (w : World) :
  Calls Tryd.prog 60 #[.agg #[.bool s, .slice a n c]] w fun e w' => e = .returned (.int .i64 0) ∧ Below w.heap.size w w' := by
 have hL0 : GL w w [] := GL.start w
 subst h
 replace hL0 := (hL0.new rfl [.bool s, .slice a 0 c] 65)
 generalize hweq : (w.alloc (.cells #[.bool s, .slice a 0 c] 65)) = x1 at hL0
 go_enter Tryd.func60, Tryd.ntmps60
 have hA := hL0.fc
 simp only [fcG, cellsF, neK, and_true, ne_eq, Nat.zero_add, Nat.reduceAdd] at hA
 go_wp2_with fail
 exact bodyPost_ret (v := .int .i64 0) (by simp [results, Tryd.results60, go_sem, hA]) rfl ⟨rfl, hL0.bl⟩
set_option maxHeartbeats 1000000 in
set_option maxRecDepth 100000 in
theorem rzsign_neg (a : Option Addr) (n c : Nat) (h : 0 < n) (w : World) :
  Calls Tryd.prog 60 #[.agg #[.bool true, .slice a n c]] w fun e w' => e = .returned (.int .i64 (-1)) ∧ Below w.heap.size w w' := by
 have hL0 : GL w w [] := GL.start w
 have f1 : (((n : Nat) : Int) == 0) = false := beq_eq_false_iff_ne.2 (by omega)
 have f2 : decide (n = 0) = false := decide_eq_false (by omega)
 clear h
 replace hL0 := (hL0.new rfl [.bool true, .slice a n c] 65)
 generalize hweq : (w.alloc (.cells #[.bool true, .slice a n c] 65)) = x1 at hL0
 go_enter Tryd.func60, Tryd.ntmps60
 have hA := hL0.fc
 simp only [fcG, cellsF, neK, and_true, ne_eq, Nat.zero_add, Nat.reduceAdd] at hA
 go_wp2_with fail
 exact bodyPost_ret (v := .int .i64 (-1)) (by simp [results, Tryd.results60, go_sem, hA]) rfl ⟨rfl, hL0.bl⟩
set_option maxHeartbeats 1000000 in
set_option maxRecDepth 100000 in
theorem rzsign_pos (a : Option Addr) (n c : Nat) (h : 0 < n) (w : World) :
  Calls Tryd.prog 60 #[.agg #[.bool false, .slice a n c]] w fun e w' => e = .returned (.int .i64 1) ∧ Below w.heap.size w w' := by
 have hL0 : GL w w [] := GL.start w
 have f1 : (((n : Nat) : Int) == 0) = false := beq_eq_false_iff_ne.2 (by omega)
 have f2 : decide (n = 0) = false := decide_eq_false (by omega)
 clear h
 replace hL0 := (hL0.new rfl [.bool false, .slice a n c] 65)
 generalize hweq : (w.alloc (.cells #[.bool false, .slice a n c] 65)) = x1 at hL0
 go_enter Tryd.func60, Tryd.ntmps60
 have hA := hL0.fc
 simp only [fcG, cellsF, neK, and_true, ne_eq, Nat.zero_add, Nat.reduceAdd] at hA
 go_wp2_with fail
 exact bodyPost_ret (v := .int .i64 1) (by simp [results, Tryd.results60, go_sem, hA]) rfl ⟨rfl, hL0.bl⟩
end Go.Proofs.YtfmakoiiibacjaaDoor
namespace Go.Proofs.YtfmakoiiibacjaaDoor
open Go.RowKit Go.Proofs.YtfmakoiiibacjaaDoor.Rx
/-- A struct of the reference that stands for an integer. -/
def RZ (w : World) (v : Value) (z : Int) : Prop := ∃ u, v = .agg #[.bool (decide (z < 0)), u] ∧ Rn w u z.natAbs
theorem RZ.below {w w' : World} {v : Value} {z : Int} (h : RZ w v z) (hb : Below w.heap.size w w') : RZ w' v z := by
 obtain ⟨u, h1, h2⟩ := h
 exact ⟨u, h1, Sl.below h2 hb⟩
theorem RZ.of {w : World} {b : Bool} {u : Value} {n : Nat} {z : Int} (h : Rn w u n) (hb : b = decide (z < 0)) (hn : n = z.natAbs) : RZ w (.agg #[.bool b, u]) z := ⟨u, by rw [hb], by rw [← hn]; exact h⟩
theorem rzaddI (vx vy : Value) (x y : Int) (lx : (td x.natAbs).length ≤ 1000000) (ly : (td y.natAbs).length ≤ 1000000) (w : World) (hx : RZ w vx x) (hy : RZ w vy y) :
  Calls Tryd.prog 84 #[vx, vy] w fun e w' => ∃ v, e = .returned v ∧ RZ w' v (x + y) ∧ Below w.heap.size w w' := by
 obtain ⟨va, rfl, ha⟩ := hx
 obtain ⟨vb, rfl, hb⟩ := hy
 by_cases hs : decide (x < 0) = decide (y < 0)
 ·have hxy : x < 0 ↔ y < 0 := by simpa using hs
  rw [← hs]
  refine (rzadd_same _ va vb _ _ lx ly w ha hb).mono fun e w' ⟨⟨v, h1, h2⟩, h3⟩ => ⟨_, h1, RZ.of h2 ?_ ?_, h3⟩
  ·by_cases h0 : x < 0
   ·rw [decide_eq_true h0, decide_eq_true (p := x + y < 0) (by omega), Bool.true_and]; exact decide_eq_true (by omega)
   ·rw [decide_eq_false h0, Bool.false_and]; exact (decide_eq_false (by omega)).symm
  ·omega
 ·have hxy : ¬ (x < 0 ↔ y < 0) := fun h => hs (by simpa using h)
  rcases Nat.lt_or_ge x.natAbs y.natAbs with hl | hl
  ·refine (rzadd_lt _ _ va vb _ _ lx ly hs hl w ha hb).mono fun e w' ⟨⟨v, h1, h2⟩, h3⟩ => ⟨_, h1, RZ.of h2 ?_ ?_, h3⟩
   ·by_cases h0 : y < 0
    ·rw [decide_eq_true h0, decide_eq_true (p := x + y < 0) (by omega), Bool.true_and]; exact decide_eq_true (by omega)
    ·rw [decide_eq_false h0, Bool.false_and]; exact (decide_eq_false (by omega)).symm
   ·omega
  ·refine (rzadd_ge _ _ va vb _ _ lx ly hs hl w ha hb).mono fun e w' ⟨⟨v, h1, h2⟩, h3⟩ => ⟨_, h1, RZ.of h2 ?_ ?_, h3⟩
   ·by_cases h0 : x < 0
    ·rw [decide_eq_true h0, Bool.true_and]
     by_cases h4 : x + y < 0
     ·rw [decide_eq_true h4]; exact decide_eq_true (by omega)
     ·rw [decide_eq_false h4]; exact decide_eq_false (by omega)
    ·rw [decide_eq_false h0, Bool.false_and]; exact (decide_eq_false (by omega)).symm
   ·omega
theorem rzmulI (vx vy : Value) (x y : Int) (lx : (td x.natAbs).length ≤ 1000000) (ly : (td y.natAbs).length ≤ 1000000) (w : World) (hx : RZ w vx x) (hy : RZ w vy y) :
  Calls Tryd.prog 64 #[vx, vy] w fun e w' => ∃ v, e = .returned v ∧ RZ w' v (x * y) ∧ Below w.heap.size w w' := by
 obtain ⟨va, rfl, ha⟩ := hx
 obtain ⟨vb, rfl, hb⟩ := hy
 refine (rzmul_any _ _ va vb _ _ lx ly w ha hb).mono fun e w' ⟨⟨v, h1, h2⟩, h3⟩ => ⟨_, h1, RZ.of h2 ?_ (Int.natAbs_mul x y).symm, h3⟩
 rcases Int.lt_trichotomy x 0 with h | h | h <;> rcases Int.lt_trichotomy y 0 with g | g | g
 ·have := Int.mul_pos_of_neg_of_neg h g
  rw [decide_eq_true h, decide_eq_true g, decide_eq_false (p := x * y < 0) (by omega)]; rfl
 ·subst g; simp
 ·have := Int.mul_neg_of_neg_of_pos h g
  have hn : x.natAbs * y.natAbs ≠ 0 := Nat.mul_ne_zero (by omega) (by omega)
  rw [decide_eq_true h, decide_eq_false (p := y < 0) (by omega), decide_eq_true this, decide_eq_true hn]; rfl
 ·subst h; simp
 ·subst h; simp
 ·subst h; simp
 ·have := Int.mul_neg_of_pos_of_neg h g
  have hn : x.natAbs * y.natAbs ≠ 0 := Nat.mul_ne_zero (by omega) (by omega)
  rw [decide_eq_false (p := x < 0) (by omega), decide_eq_true g, decide_eq_true this, decide_eq_true hn]; rfl
 ·subst g; simp
 ·have := Int.mul_pos h g
  rw [decide_eq_false (p := x < 0) (by omega), decide_eq_false (p := y < 0) (by omega), decide_eq_false (p := x * y < 0) (by omega)]; rfl
theorem rznegI (vx : Value) (x : Int) (w : World) (hx : RZ w vx x) :
  Calls Tryd.prog 85 #[vx] w fun e w' => ∃ v, e = .returned v ∧ RZ w' v (-x) ∧ Below w.heap.size w w' := by
 obtain ⟨va, rfl, ha⟩ := hx
 refine (rzneg_any _ va _ w ha).mono fun e w' ⟨h1, h3⟩ => ⟨_, h1, RZ.of (Sl.below ha h3) ?_ (Int.natAbs_neg x).symm, h3⟩
 by_cases h : x < 0
 ·rw [decide_eq_true h, decide_eq_false (p := -x < 0) (by omega)]; rfl
 ·rw [decide_eq_false h, Bool.not_false, Bool.true_and]
  by_cases h0 : x = 0
  ·subst h0; rfl
  ·rw [decide_eq_true (p := -x < 0) (by omega)]; exact decide_eq_true (by omega)
end Go.Proofs.YtfmakoiiibacjaaDoor
namespace Go.Proofs.YtfmakoiiibacjaaDoor
open Go.RowKit Go.Proofs.YtfmakoiiibacjaaDoor.Rx
attribute [local irreducible] lo hs sm s64 c64 d64 b64 mh ml pd pc qd qc val hiB str cmpI srD lz nb isq dval
set_option maxHeartbeats 600000 in
set_option maxRecDepth 100000 in
theorem rzsubI (vx vy : Value) (x y : Int) (lx : (td x.natAbs).length ≤ 1000000) (ly : (td y.natAbs).length ≤ 1000000) (w : World) (hx : RZ w vx x) (hy : RZ w vy y) :
  Calls Tryd.prog 63 #[vx, vy] w fun e w' => ∃ v, e = .returned v ∧ RZ w' v (x - y) ∧ Below w.heap.size w w' := by
 have hL0 : GL w w [] := GL.start w
 have HN := Lib.hid (fun w h => rznegI vy y w h)
 have HA := Lib.hid (fun vz w h1 h2 => rzaddI vx vz x (-y) lx (by rw [Int.natAbs_neg]; exact ly) w h1 h2)
 clear lx ly
 obtain ⟨ua, e1, ha⟩ := hx
 obtain ⟨ub, e2, hb⟩ := hy
 obtain ⟨aa, ca, rfl⟩ := ha.form
 obtain ⟨ab, cb, rfl⟩ := hb.form
 generalize (td x.natAbs).length = na at *
 generalize (td y.natAbs).length = nb at *
 subst e1 e2
 have hx : RZ w (.agg #[.bool (decide (x < 0)), .slice aa na ca]) x := ⟨_, rfl, ha⟩
 have hy : RZ w (.agg #[.bool (decide (y < 0)), .slice ab nb cb]) y := ⟨_, rfl, hb⟩
 generalize decide (x < 0) = s at *
 generalize decide (y < 0) = t at *
 clear ha hb
 replace hL0 := (((hL0.new rfl [.bool s, .slice aa na ca] 65).new (K := w.heap.size + 1) (szA _ _) [.bool t, .slice ab nb cb] 65).new (K := w.heap.size + 1 + 1) (by simp only [World.size_alloc]) [.bool false, .slice none 0 0] 65)
 generalize hweq : (((w.alloc (.cells #[.bool s, .slice aa na ca] 65)).alloc (.cells #[.bool t, .slice ab nb cb] 65)).alloc (.cells #[.bool false, .slice none 0 0] 65)) = x1 at hL0
 replace hx := Lib.hid (hx.below hL0.bl)
 replace hy := Lib.hid (hy.below hL0.bl)
 go_enter Tryd.func63, Tryd.ntmps63
 have hA := hL0.fc
 simp only [fcG, cellsF, neK, and_true, ne_eq, Nat.zero_add, Nat.reduceAdd] at hA
 go_upto_region 1 with fail
 clear hA
 clear hweq
 refine region_tl 4 [fun u _ => u = .agg #[.bool s, .slice aa na ca], fun u _ => u = .agg #[.bool t, .slice ab nb cb], fun u w => RZ w u (-y), fun u w => RZ w u (x - y)] (by kernel_rfl) (by kernel_rfl) ?_ ?_ ?_
 ·exact stays_cons (stays_eq _) (stays_cons (stays_eq _) (stays_cons (fun _ _ _ hb h => h.below hb) (stays_cons (fun _ _ _ hb h => h.below hb) (stays_nil))))
 ·simp only [List.take_succ_cons, List.take_zero, hopsR, and_true]
  refine ⟨?_, ?_, ?_, ?_⟩ <;> intro v w1 hb1 hp
  all_goals (simp only [putsV, Act.put, List.setIfInBounds_toArray, List.set_cons_succ, List.set_cons_zero, Nat.zero_add, Nat.reduceAdd])
  ·skip
   clear hp
   have hc := (hL0.call (below_drew hb1)).fc
   simp only [fcG, cellsF, neK, and_true, ne_eq, Nat.zero_add, Nat.reduceAdd] at hc
   refine tyAt_none rfl ?_
   simp [tyUpon, execOp, go_sem, Act.eval, hc, Below.refl]
  ·skip
   clear hp
   have hc := (hL0.call (below_drew hb1)).fc
   simp only [fcG, cellsF, neK, and_true, ne_eq, Nat.zero_add, Nat.reduceAdd] at hc
   refine tyAt_none rfl ?_
   simp [tyUpon, execOp, go_sem, Act.eval, hc, Below.refl]
  ·skip
   have h1 : (fun u _ => u = .agg #[.bool t, .slice ab nb cb]) (v 1) w1 := hp 1 (List.contains_iff_mem.1 (by kernel_rfl))
   clear hp
   refine tyAt_none rfl ?_
   refine ty_call (f := 85) (args := #[.agg #[.bool t, .slice ab nb cb]]) (by simp [execOp, go_sem, Act.eval, h1]) ?_
   exact (HN.out w1 (hy.out.below (below_drew hb1))).mono fun e w2 h => h
  ·skip
   have h0 : (fun u _ => u = .agg #[.bool s, .slice aa na ca]) (v 0) w1 := hp 0 (List.contains_iff_mem.1 (by kernel_rfl))
   have h2 : (fun u w => RZ w u (-y)) (v 2) w1 := hp 2 (List.contains_iff_mem.1 (by kernel_rfl))
   clear hp
   refine tyAt_none rfl ?_
   refine ty_call (f := 84) (args := #[.agg #[.bool s, .slice aa na ca], v 2]) (by simp [execOp, go_sem, Act.eval, h0]) ?_
   have hF := HA.out (v 2) w1 (hx.out.below (below_drew hb1)) h2
   rw [← Int.sub_eq_add_neg] at hF
   exact hF
 ·intro v w1 hb1 hv
  obtain ⟨u, hu, hru⟩ : RZ w1 (v 3) (x - y) := hv 3 (by omega)
  obtain ⟨ao, c, rfl⟩ := hru.form
  generalize hk : (td (x - y).natAbs).length = k at *
  replace hk := Lib.hid hk
  generalize hd : decide (x - y < 0) = d at *
  replace hd := Lib.hid hd
  clear hv
  simp only [List.take_succ_cons, List.take_zero, putsV, Act.put, List.setIfInBounds_toArray, List.set_cons_succ, List.set_cons_zero, List.drop_succ_cons, List.drop_zero, Nat.zero_add, Nat.reduceAdd, hu]
  replace hL0 := hL0.call (below_drew hb1)
  have hHd := hL0.get _ _ List.mem_cons_self
  have hA := hL0.fc
  simp only [fcG, cellsF, neK, and_true, ne_eq, Nat.zero_add, Nat.reduceAdd] at hA
  have hP := hL0.put 0 (w.heap.size + 1 + 1) _ rfl [.bool d, .slice ao k c] rfl
  simp only [setAll, List.set_cons_zero, List.set_cons_succ] at hP
  generalize hput1 : ((w1.setCell ⟨w.heap.size + 1 + 1, 0, none⟩ (.bool d)).setCell ⟨w.heap.size + 1 + 1, 1, none⟩ (.slice ao k c)) = x2 at hP
  have hB1 := hP.fc
  simp only [fcG, cellsF, neK, and_true, ne_eq, Nat.zero_add, Nat.reduceAdd] at hB1
  replace hL0 := hP
  have hvF := sl_upd hru (show Upd (w.heap.size + 1 + 1) w1 x2 by rw [← hput1]; exact ((Upd.refl _ _).setCell 0 _).setCell 1 _) hHd (by intro v hv n; simp only [List.mem_cons, List.not_mem_nil, or_false] at hv; rcases hv with rfl | rfl <;> simp)
  replace hvF := Lib.hid hvF
  clear hru hHd hb1 hx hy HA HN
  generalize v 0 = y0 at *
  generalize v 1 = y1 at *
  generalize v 2 = y2 at *
  clear hu v
  go_wp2_with fail
  exact bodyPost_ret (v := .agg #[.bool d, .slice ao k c]) (by simp [results, Tryd.results63, go_sem, hB1]) rfl ⟨_, rfl, ⟨_, by rw [hd.out], hvF.out⟩, hL0.bl⟩
end Go.Proofs.YtfmakoiiibacjaaDoor
namespace Go.Proofs.YtfmakoiiibacjaaDoor
open Go.RowKit
section
variable {P : Program} {ops : Array Oper} {C : World → Prop}
theorem alloc_run {P : Program} {o : Oper} {ev : Operand → Value} {e t : TypeId} {c : Array Value} (he : o.op = .alloc e) (h : ∀ w, (Instr.alloc e true (.tuple #[])).run P w = .ok (.pointer (some ⟨w.heap.size, 0, none⟩)) (w.alloc (.cells c t))) (w : World) :
  (execOp ev o).run P w = .ok (.value (.pointer (some ⟨w.heap.size, 0, none⟩))) (w.alloc (.cells c t)) := by
 simp only [execOp, he]
 rw [Sem.run_bind, h w]
 rfl
/-- What the operations that make boxes do. -/
def newR (P : Program) (l : List Oper) : List Nat → Prop
 | [] => True
 | j :: A => (∃ o e c t, l[j]? = some o ∧ o.guard = none ∧ o.op = .alloc e ∧ ∀ w, (Instr.alloc e true (.tuple #[])).run P w = .ok (.pointer (some ⟨w.heap.size, 0, none⟩)) (w.alloc (.cells c t))) ∧ newR P l A
theorem newR_spec {P : Program} {l : List Oper} : ∀ {A : List Nat}, newR P l A → ∀ j o, l[j]? = some o → A.contains j = true → o.guard = none ∧ ∃ e c t, o.op = .alloc e ∧ ∀ w, (Instr.alloc e true (.tuple #[])).run P w = .ok (.pointer (some ⟨w.heap.size, 0, none⟩)) (w.alloc (.cells c t))
 | [], _, _, _, _, hA => by simp at hA
 | k :: A, h, j, o, ho, hA => by
  obtain ⟨⟨o', e, c, t, h1, h2, h3, h4⟩, hr⟩ := h
  rcases List.mem_cons.1 (List.contains_iff_mem.1 hA) with e1 | e1
  ·subst e1
   rw [ho] at h1
   obtain rfl := Option.some.inj h1
   exact ⟨h2, e, c, t, h3, h4⟩
  ·exact newR_spec hr j o ho (List.contains_iff_mem.2 e1)
theorem wpAny_ta {n s : Nat} {l : List Oper} {T : Nat → Value → World → Prop} {w0 : World} {a0 : Act} {Q : Exit → Act → World → Prop} {A : Nat → Bool} (hT : ∀ i, Stays (T i)) (hsel : Region.noSelect l.toArray = true) (hn : n ≤ l.length)
  (hB : barB .any l.toArray n = true) (hN : nodupD (l.take n) = true) (hD : depB l.toArray n = true)
  (hops : ∀ j o, j < n → l[j]? = some o → ∀ v w, Below w0.heap.size w0 w → (∀ p ∈ predsOf .any l.toArray j, T p (v p) w) → TyAt P l.toArray o (putsV (l.take n) 0 v a0) w (T j))
  (hptr : ∀ j, A j = true → ∀ u w, T j u w → ∃ k, u = .pointer (some ⟨k, 0, none⟩) ∧ k < w.heap.size)
  (hnew : ∀ j o, l[j]? = some o → A j = true → o.guard = none ∧ ∃ e c t, o.op = .alloc e ∧ ∀ w, (Instr.alloc e true (.tuple #[])).run P w = .ok (.pointer (some ⟨w.heap.size, 0, none⟩)) (w.alloc (.cells c t)))
  (hend : ∀ v w, Below w0.heap.size w0 w → (∀ i, i < n → T i (v i) w) → (∀ i j, i < n → j < n → i ≠ j → A i = true → A j = true → v i ≠ v j) → wpAny P .any l.toArray Q s (canonL l.length n) (putsV (l.take n) 0 v a0) w) :
  ∀ (m : Nat) (listed : Array Bool) (v : Nat → Value) (w : World), left n listed = m → closedL .any l.toArray listed → sufL n l.toArray listed → Below w0.heap.size w0 w →
   (∀ i, i < n → listed.getD i false = true → T i (v i) w) → (∀ i j, i < n → j < n → i ≠ j → A i = true → A j = true → listed.getD i false = true → listed.getD j false = true → v i ≠ v j) → wpAny P .any l.toArray Q (s + m) listed (putsIf (l.take n) 0 (fun i => listed.getD i false) v a0) w := by
 intro m
 have hlen : (l.take n).length = n := by rw [List.length_take]; omega
 induction m with
 | zero =>
  intro listed v w hl hc hu hb ht hne
  have hd := left_zero hl
  rw [putsIf_all (l.take n) 0 a0 fun i _ h2 => doneN_iff.1 hd i (by omega)]
  have e := canon_of hu hd
  rw [show l.toArray.size = l.length by simp] at e
  rw [e]
  exact hend v w hb (fun i hi => ht i hi (doneN_iff.1 hd i hi)) fun i j hi hj hij ha hb' => hne i j hi hj hij ha hb' (doneN_iff.1 hd i hi) (doneN_iff.1 hd j hj)
 | succ m ih =>
  intro listed v w hl hc hu hb ht hne
  have hnd := left_some hl
  refine ⟨fun h0 => absurd h0 (ready_some hu.1 (by simpa using hn) hD hl), fun j hj => ?_⟩
  have hjn := bar hB hc hj hnd
  obtain ⟨hju, o, ho, -⟩ := mem_ready.1 hj
  have hpre := preds_of_ready hj
  have hol : l[j]? = some o := by simpa using ho
  have hjs : j < l.toArray.size := (Array.getElem?_eq_some_iff.1 ho).1
  have hty := hops j o hjn hol v w hb fun p hp => ht p (by have := depB_pred hD hjn hp; omega) (hpre p hp)
  have hag : ∀ t ∈ o.looksAt l.toArray, (putsIf (l.take n) 0 (fun i => listed.getD i false) v a0).tmps[t]? = (putsV (l.take n) 0 v a0).tmps[t]? := fun t ht' =>
   get_puts (l.take n) 0 a0 a0 rfl fun i o' ho' hd' => by
    have hin : i < n := by rw [← hlen]; exact (List.getElem?_eq_some_iff.1 ho').1
    have ho2 : l.toArray[i]? = some o' := by rw [List.getElem?_take, if_pos hin] at ho'; simpa using ho'
    rw [Nat.zero_add]
    exact hpre i (depB_looks hD hjn hin ho ho2 ht' hd')
  have step : ∀ u w', Below w.heap.size w w' → T j u w' → (A j = true → u = .pointer (some ⟨w.heap.size, 0, none⟩)) → wpAny P .any l.toArray Q (s + m) (listed.setIfInBounds j true) ((putsIf (l.take n) 0 (fun i => listed.getD i false) v a0).put o.dst u) w' := by
   intro u w' hw' hu' hun
   have e := put_at (v := v) (v' := fun i => if i = j then u else v i) (b := fun i => listed.getD i false) (b' := fun i => (listed.setIfInBounds j true).getD i false) (j := j) (u := u) (unl hju) (by simp [hu.1]; simpa using hjs) (by simp)
    (fun i hi => ⟨getD_set_ne false fun e => hi e.symm, by simp [hi]⟩) (l.take n) 0 a0 o hN (Nat.zero_le _) (by rw [Nat.sub_zero, List.getElem?_take, if_pos hjn]; exact hol)
   rw [e]
   refine ih _ _ w' (left_set (ops := l.toArray) hu.1 hjn hjs (unl hju) hl) (hc.set hj) ⟨by simpa using hu.1, fun k hk hks => by rw [getD_set_ne true (by omega)]; exact hu.2 k hk hks⟩ (hb.trans (hw'.mono hb.size)) (fun i hi hli => ?_) ?_
   ·by_cases e : i = j
    ·subst e; simpa using hu'
    ·rw [getD_set_ne false fun e' => e e'.symm] at hli
     simp only [if_neg e]
     exact hT i _ _ _ hw' (ht i hi hli)
   intro i k hi hk hik hAi hAk hli hlk
   by_cases e : i = j
   ·subst e
    have e2 : k ≠ i := fun e => hik e.symm
    rw [getD_set_ne false fun e' => e2 e'.symm] at hlk
    simp only [if_neg e2, if_pos]
    obtain ⟨b, hb1, hb2⟩ := hptr k hAk _ _ (ht k hk hlk)
    rw [hb1, hun hAi]
    intro he
    simp only [Value.pointer.injEq, Option.some.injEq, Addr.mk.injEq, and_true] at he
    omega
   ·rw [getD_set_ne false fun e' => e e'.symm] at hli
    by_cases e2 : k = j
    ·subst e2
     simp only [if_neg e, if_pos]
     obtain ⟨b, hb1, hb2⟩ := hptr i hAi _ _ (ht i hi hli)
     rw [hb1, hun hAk]
     intro he
     simp only [Value.pointer.injEq, Option.some.injEq, Addr.mk.injEq, and_true] at he
     omega
    ·rw [getD_set_ne false fun e' => e2 e'.symm] at hlk
     simp only [if_neg e, if_neg e2]
     exact hne i k hi hk hik hAi hAk hli hlk
  unfold wpOp
  simp only [ho]
  unfold TyAt at hty
  rw [← wanted_same hag] at hty
  by_cases hw : Region.wanted o (yielded l.toArray (putsIf (l.take n) 0 (fun i => listed.getD i false) v a0).tmps) = true
  ·simp only [hw, if_true] at hty ⊢
   refine .inl ?_
   unfold Oper.wp
   rw [exec_same (fun cs b => Region.noSelect_spec hsel j o cs b ho) hag]
   have hal : A j = true → ∀ u w', (execOp (putsV (l.take n) 0 v a0).eval o).run P w = .ok (.value u) w' → u = .pointer (some ⟨w.heap.size, 0, none⟩) := fun hA u w' hr => by
    obtain ⟨_, e, c, t, he, hal⟩ := hnew j o hol hA
    rw [alloc_run he hal] at hr
    simp only [Result.ok.injEq, Next.value.injEq] at hr
    exact hr.1.symm
   have hal2 : A j = true → ∀ w', (execOp (putsV (l.take n) 0 v a0).eval o).run P w ≠ .ok .skip w' := fun hA w' hr => by
    obtain ⟨_, e, c, t, he, hal⟩ := hnew j o hol hA
    rw [alloc_run he hal] at hr
    cases hr
   have hal3 : A j = true → ∀ f args w', (execOp (putsV (l.take n) 0 v a0).eval o).run P w ≠ .ok (.enter f args) w' := fun hA f args w' hr => by
    obtain ⟨_, e, c, t, he, hal⟩ := hnew j o hol hA
    rw [alloc_run he hal] at hr
    cases hr
   generalize (execOp (putsV (l.take n) 0 v a0).eval o).run P w = r at *
   cases r with
   | ok nx w' =>
    cases nx <;> simp only [tyUpon] at hty <;> simp only [Oper.upon]
    case value u => exact step u w' hty.1 hty.2 fun hA => hal hA u w' rfl
    case skip => exact step undef w' hty.1 hty.2 fun hA => absurd rfl (hal2 hA w')
    case enter f args =>
     obtain ⟨rfl, hcall⟩ := hty
     exact hcall.mono fun e w'' ⟨u, he, h1, h2⟩ => by subst he; exact step u w'' h2 h1 fun hA => absurd rfl (hal3 hA f args _)
   | halt x w' => simp only [tyUpon] at hty
  ·simp only [hw] at hty ⊢
   exact step undef w (Below.refl _ _) hty fun hA => by
    obtain ⟨hg, _⟩ := hnew j o hol hA
    exact absurd (by unfold Region.wanted; rw [hg]) hw
/-- **A region whose first n operations each give a value of a property; then the others, in their order.** -/
theorem region_ta (n : Nat) (T : Nat → Value → World → Prop) (A : Nat → Bool) {id : Nat} {Q : Exit → Act → World → Prop} {a : Act} {w : World} {l : List Oper} (hm : P.follows .mixedOrders = true) (hB : tyB n l = true) (hT : ∀ i, Stays (T i))
  (hops : ∀ j o, j < n → l[j]? = some o → ∀ v w1, Below w.drew.heap.size w.drew w1 → (∀ p ∈ predsOf .any l.toArray j, T p (v p) w1) → TyAt P l.toArray o (putsV (l.take n) 0 v a) w1 (T j))
  (hptr : ∀ j, A j = true → ∀ u w, T j u w → ∃ k, u = .pointer (some ⟨k, 0, none⟩) ∧ k < w.heap.size)
  (hnew : ∀ j o, l[j]? = some o → A j = true → o.guard = none ∧ ∃ e c t, o.op = .alloc e ∧ ∀ w, (Instr.alloc e true (.tuple #[])).run P w = .ok (.pointer (some ⟨w.heap.size, 0, none⟩)) (w.alloc (.cells c t)))
  (hend : ∀ v w1, Below w.drew.heap.size w.drew w1 → (∀ i, i < n → T i (v i) w1) → (∀ i j, i < n → j < n → i ≠ j → A i = true → A j = true → v i ≠ v j) → wpList P l.toArray Q (l.drop n) (putsV (l.take n) 0 v a) w1) : (Code.region id l.toArray true).wp P Q a w := by
 simp only [tyB, Bool.and_eq_true, decide_eq_true_eq] at hB
 obtain ⟨⟨⟨⟨⟨hs, hn⟩, hb⟩, hN⟩, hD⟩, hq⟩ := hB
 refine wp_region_any hm ?_
 have hrep : ∀ i, (Array.replicate l.length false).getD i false = false := fun i => by
  rcases Nat.lt_or_ge i l.length with h' | h' <;> simp [h']
 have h0 : closedL .any l.toArray (Array.replicate l.length false) := fun j o _ hl => by rw [hrep] at hl; cases hl
 have hleft : left n (Array.replicate l.length false) = n := by
  unfold left
  rw [List.countP_eq_length.2 fun i _ => by rw [hrep]; rfl, List.length_range]
 have h2 := wpAny_ta (A := A) (P := P) (s := l.length - n) (Q := Q) (a0 := a) hT hs hn hb hN hD hops hptr hnew (fun v w1 h1 h2 hdis => by
   have h3 := wpAny_of_seq (md := .any) (P := P) (Q' := Q) (l.drop n) n (canonL l.length n) (putsV (l.take n) 0 v a) w1 (fun j hj => by simp [List.getElem?_drop]) (by rw [List.length_drop]; exact hq) (hend v w1 h1 h2 hdis)
   rw [List.length_drop] at h3
   exact h3) n (Array.replicate l.length false) (fun _ => undef) w.drew hleft h0 ⟨by simp, fun j _ hj => by simp at hj; simp [hj]⟩ (Below.refl _ _) (fun i _ hl => by rw [hrep] at hl; cases hl) (fun i j _ _ _ _ _ hl => by rw [hrep] at hl; cases hl)
 rw [putsIf_none (l.take n) 0 a fun i _ _ => hrep i, Nat.sub_add_cancel hn] at h2
 simpa using h2
/-- region_ta, with its properties as a list; A: the operations that make boxes. -/
theorem region_tal (n : Nat) (L : List (Value → World → Prop)) (A : List Nat) {id : Nat} {Q : Exit → Act → World → Prop} {a : Act} {w : World} {l : List Oper} (hm : P.follows .mixedOrders = true) (hB : tyB n l = true) (hT : ∀ i, Stays (L.getD i (fun _ _ => True)))
  (hops : hopsR P l.toArray (fun i => L.getD i (fun _ _ => True)) w.drew (fun v => putsV (l.take n) 0 v a) (l.take n) 0)
  (hptr : ∀ j, A.contains j = true → ∀ u w, L.getD j (fun _ _ => True) u w → ∃ k, u = .pointer (some ⟨k, 0, none⟩) ∧ k < w.heap.size)
  (hnew : newR P l A)
  (hend : ∀ v w1, Below w.drew.heap.size w.drew w1 → (∀ i, i < n → L.getD i (fun _ _ => True) (v i) w1) → (∀ i j, i < n → j < n → i ≠ j → A.contains i = true → A.contains j = true → v i ≠ v j) → wpList P l.toArray Q (l.drop n) (putsV (l.take n) 0 v a) w1) : (Code.region id l.toArray true).wp P Q a w :=
 region_ta n (fun i => L.getD i (fun _ _ => True)) (fun i => A.contains i) hm hB hT (fun j o hj ho v w1 hb hp => by
  have := hops_of (l.take n) 0 hops j o (by rw [List.getElem?_take, if_pos hj]; exact ho) v w1 hb (by rw [Nat.zero_add]; exact hp)
  rwa [Nat.zero_add] at this) hptr (fun j o ho hA => newR_spec hnew j o ho hA) hend
end
end Go.Proofs.YtfmakoiiibacjaaDoor
namespace Go.Proofs.YtfmakoiiibacjaaDoor
open Go.RowKit Go.Proofs.YtfmakoiiibacjaaDoor.Rx
def tln (n : Nat) : Nat := (td n).length
theorem rn_form {w : World} {v : Value} {n : Nat} (h : Rn w v n) : ∃ ao c, v = .slice ao (tln n) c := h.form
theorem rz_form {w : World} {v : Value} {z : Int} (h : RZ w v z) : ∃ ao c, v = .agg #[.bool (zs z), .slice ao (tln z.natAbs) c] := by
 obtain ⟨u, rfl, hu⟩ := h
 obtain ⟨ao, c, rfl⟩ := rn_form hu
 exact ⟨ao, c, rfl⟩
theorem rz_of {w : World} {ao : Option Addr} {c : Nat} {z : Int} (h : Rn w (.slice ao (tln z.natAbs) c) z.natAbs) : RZ w (.agg #[.bool (zs z), .slice ao (tln z.natAbs) c]) z := ⟨_, rfl, h⟩
theorem rz_rn {w : World} {b : Value} {s : Value} {z : Int} (h : RZ w (.agg #[b, s]) z) : Rn w s z.natAbs := by
 obtain ⟨u, h1, hu⟩ := h
 simp only [Value.agg.injEq, Array.mk.injEq, List.cons.injEq, and_true] at h1
 rw [h1.2]; exact hu
/-- The slices of digits that a call has got hold of. -/
def SS (W : World) (S : List (Value × Nat)) : Prop := ∀ p ∈ S, Rn W p.1 p.2
theorem SS.nil (W : World) : SS W [] := fun p hp => by cases hp
theorem SS.call {W W' : World} {S : List (Value × Nat)} (h : SS W S) (hb : Below W.heap.size W W') : SS W' S := fun p hp => Sl.below (h p hp) hb
theorem SS.new {W : World} {S : List (Value × Nat)} (h : SS W S) (o : Obj) : SS (W.alloc o) S := h.call ((Below.refl _ _).alloc (Nat.le_refl _) o)
theorem SS.cons {W : World} {S : List (Value × Nat)} (h : SS W S) {v : Value} {n : Nat} (hv : Rn W v n) : SS W ((v, n) :: S) := fun p hp => by
 rcases List.mem_cons.1 hp with rfl | hp
 ·exact hv
 ·exact h p hp
theorem SS.put {W W' : World} {S : List (Value × Nat)} (h : SS W S) {k : Nat} {c : List Value} (hu : Upd k W W') (hd : Hd W k c) (hc : ∀ v ∈ c, ∀ n, v ≠ .int .i64 n) : SS W' S := fun p hp => sl_upd (h p hp) hu hd hc
theorem SS.drew {W : World} {S : List (Value × Nat)} (h : SS W S) : SS W.drew S := fun p hp => Sl.drew (h p hp)
theorem SS.get {W : World} {S : List (Value × Nat)} (h : SS W S) {v : Value} {n : Nat} (hm : (v, n) ∈ S) : Rn W v n := h _ hm
theorem stays_rz (z : Int) : Stays (fun u w => RZ w u z) := fun _ _ _ hb h => h.below hb
theorem stays_rz2 (x y : Int) : Stays (fun u w => ∃ a b, u = .tuple #[a, b] ∧ RZ w a x ∧ RZ w b y) := fun _ _ _ hb ⟨a, b, h1, h2, h3⟩ => ⟨a, b, h1, h2.below hb, h3.below hb⟩
/-- A new box. -/
def NewB (B : Nat) (c : List Value) (u : Value) (w : World) : Prop := ∃ k, u = .pointer (some ⟨k, 0, none⟩) ∧ Hd w k c ∧ B ≤ k
theorem stays_new (B : Nat) (c : List Value) : Stays (NewB B c) := fun _ _ _ hb ⟨k, h1, h2, h3⟩ => ⟨k, h1, h2.below hb, h3⟩
theorem NewB.ptr {B : Nat} {c : List Value} {u : Value} {w : World} (h : NewB B c u w) : ∃ k, u = .pointer (some ⟨k, 0, none⟩) ∧ k < w.heap.size := by
 obtain ⟨k, h1, h2, _⟩ := h
 exact ⟨k, h1, h2.lt⟩
theorem tyAt_new {P : Program} {ops : Array Oper} {o : Oper} {a : Act} {w : World} {B : Nat} {c : List Value} {e t : TypeId} (hg : o.guard = none) (he : o.op = .alloc e) (hr : ∀ w, (Instr.alloc e true (.tuple #[])).run P w = .ok (.pointer (some ⟨w.heap.size, 0, none⟩)) (w.alloc (.cells c.toArray t)))
  (hB : B ≤ w.heap.size) : TyAt P ops o a w (NewB B c) := by
 refine tyAt_none hg ?_
 rw [alloc_run he hr]
 exact ⟨(Below.refl _ _).alloc (Nat.le_refl _) _, _, rfl, hd_new w c t, hB⟩
/-- The boxes with one that a typed region has made. -/
theorem GL.tnew {w0 x W : World} {L M : List (Nat × List Value)} {c : List Value} {k : Nat} (h : GL w0 W (M ++ L)) (hx : GL w0 x L) (hd : Hd W k c) (hB : x.heap.size ≤ k) (hM : ∀ p ∈ M, p.1 ≠ k) : GL w0 W ((k, c) :: (M ++ L)) := by
 refine ⟨h.bl, fun p hp => ?_, ?_⟩
 ·rcases List.mem_cons.1 hp with rfl | hp
  ·exact ⟨Nat.le_trans hx.bl.size hB, hd⟩
  ·exact h.all p hp
 ·rw [List.map_cons, List.nodup_cons]
  refine ⟨fun hm => ?_, h.nd⟩
  obtain ⟨q, hq, he⟩ := List.mem_map.1 hm
  rcases List.mem_append.1 hq with hq | hq
  ·exact hM q hq he
  ·have := (hx.all q hq).2.lt
   simp only at he
   omega
theorem ptr_ne {v1 v2 : Value} {a b : Nat} (h1 : v1 = .pointer (some ⟨a, 0, none⟩)) (h2 : v2 = .pointer (some ⟨b, 0, none⟩)) (h : v1 ≠ v2) : a ≠ b := fun e => h (by rw [h1, h2, e])
/-- A typed region's properties, in short. -/
abbrev EV (v : Value) : Value → World → Prop := fun u _ => u = v
abbrev PZ (x : Int) : Value → World → Prop := fun u w => RZ w u x
theorem LC {l : List Nat} {a : Nat} (h : l.contains a = true) : a ∈ l := List.contains_iff_mem.1 h
end Go.Proofs.YtfmakoiiibacjaaDoor
namespace Go.Proofs.YtfmakoiiibacjaaDoor
open Go.RowKit
section
variable {P : Program} {ops : Array Oper} {C : World → Prop}
/-- As tyB, but the store n does not wait for the operation i0. -/
def lateB (n i0 : Nat) (l : List Oper) : Bool :=
 ((List.range l.length).all fun j => decide (j < n) || ((List.range n).all fun i => (decide (j = n) && decide (i = i0)) || (ancOf .any l.toArray j).contains i) && (decide (j = n) || (ancOf .any l.toArray j).contains n)) &&
 decide (i0 < n) && decide (n < l.length) &&
 match l[n]?, l[i0]? with
 | some o, some q => o.guard.isNone && o.dst.isNone && q.guard.isNone && (o.looksAt l.toArray).all fun t => !(q.dst == some t)
 | _, _ => false
theorem lateB_parts {n i0 : Nat} {l : List Oper} (h : lateB n i0 l = true) : i0 < n ∧ n < l.length ∧ ∃ o q, l[n]? = some o ∧ l[i0]? = some q ∧ o.guard = none ∧ o.dst = none ∧ q.guard = none ∧ ∀ t ∈ o.looksAt l.toArray, q.dst ≠ some t := by
 simp only [lateB, Bool.and_eq_true, decide_eq_true_eq] at h
 obtain ⟨⟨⟨-, h1⟩, h2⟩, h3⟩ := h
 refine ⟨h1, h2, ?_⟩
 split at h3
 ·rename_i o q ho hq
  simp only [Bool.and_eq_true, Option.isNone_iff_eq_none, List.all_eq_true, Bool.not_eq_true', beq_eq_false_iff_ne] at h3
  exact ⟨o, q, ho, hq, h3.1.1.1, h3.1.1.2, h3.1.2, h3.2⟩
 ·cases h3
theorem anc_listed {ops : Array Oper} {listed : Array Bool} {j : Nat} (h : closedL .any ops listed) (hj : j ∈ Region.ready .any ops listed) {i : Nat} (hi : (ancOf .any ops j).contains i = true) : listed.getD i false = true := by
 obtain ⟨-, o, ho, hall⟩ := mem_ready.1 hj
 have hp : ∀ x ∈ predsOf .any ops j, listed.getD x false = true := by
  intro x hx
  unfold predsOf at hx
  simp only [ho, List.mem_map, List.mem_filter] at hx
  obtain ⟨e, ⟨he, hb⟩, rfl⟩ := hx
  exact hall e (by simpa using he) hb
 exact fold_listed h _ _ hp i (List.contains_iff_mem.1 hi)
theorem lateB_at {n i0 : Nat} {l : List Oper} {listed : Array Bool} {j : Nat} (hB : lateB n i0 l = true) (h : closedL .any l.toArray listed) (hj : j ∈ Region.ready .any l.toArray listed) (hn : ¬ j < n) :
  (∀ i, i < n → ¬ (j = n ∧ i = i0) → listed.getD i false = true) ∧ (j ≠ n → listed.getD n false = true) := by
 obtain ⟨-, o, ho, -⟩ := mem_ready.1 hj
 have hjs : j < l.length := by simpa using (Array.getElem?_eq_some_iff.1 ho).1
 simp only [lateB, Bool.and_eq_true] at hB
 have h1 := List.all_eq_true.1 hB.1.1.1 j (List.mem_range.2 hjs)
 simp only [Bool.or_eq_true, Bool.and_eq_true, decide_eq_true_eq, List.all_eq_true, List.mem_range] at h1
 rcases h1 with h1 | ⟨h1, h2⟩
 ·exact absurd h1 hn
 ·refine ⟨fun i hi hne => ?_, fun hne => ?_⟩
  ·rcases h1 i hi with h3 | h3
   ·exact absurd h3 hne
   ·exact anc_listed h hj h3
  ·rcases h2 with h3 | h3
   ·exact absurd h3 hne
   ·exact anc_listed h hj h3
theorem lateB_bar {n i0 : Nat} {l : List Oper} {listed : Array Bool} {j : Nat} (hB : lateB n i0 l = true) (h : closedL .any l.toArray listed) (hj : j ∈ Region.ready .any l.toArray listed) (hd : doneN n listed = false) (hn : ¬ j < n) :
  n = j ∧ ∀ i, i < n → i ≠ i0 → listed.getD i false = true := by
 obtain ⟨h1, h2⟩ := lateB_at hB h hj hn
 by_cases e : j = n
 ·exact ⟨e.symm, fun i hi hne => h1 i hi fun hh => hne hh.2⟩
 ·have : doneN n listed = true := doneN_iff.2 fun i hi => h1 i hi fun hh => e hh.1
  rw [hd] at this; cases this
theorem late_step {n s i0 : Nat} {l : List Oper} {T : Nat → Value → World → Prop} {w0 : World} {a0 : Act} {Q : Exit → Act → World → Prop} {A : Nat → Bool} (hsel : Region.noSelect l.toArray = true) (hn : n ≤ l.length)
  (hB : lateB n i0 l = true) (hN : nodupD (l.take n) = true) (hD : depB l.toArray n = true)
  (hlate : ∀ v w, Below w0.heap.size w0 w → (∀ i, i < n → i ≠ i0 → T i (v i) w) → ∃ w1 u, (∀ o, l[n]? = some o → (execOp (putsV (l.take n) 0 v a0).eval o).run P w = .ok .skip w1) ∧ (∀ o, l[i0]? = some o → (execOp (putsV (l.take n) 0 v a0).eval o).run P w1 = .ok (.value u) w1) ∧ T i0 u w) (hA0 : A i0 = false)
  (hend : ∀ v w, Below w0.heap.size w0 w → (∀ i, i < n → T i (v i) w) → (∀ i j, i < n → j < n → i ≠ j → A i = true → A j = true → v i ≠ v j) → wpAny P .any l.toArray Q s (canonL l.length n) (putsV (l.take n) 0 v a0) w)
  {m : Nat} {listed : Array Bool} {v : Nat → Value} {w : World} (hl : left n listed = m + 1) (hc : closedL .any l.toArray listed) (hu : sufL n l.toArray listed) (hb : Below w0.heap.size w0 w)
  (ht : ∀ i, i < n → listed.getD i false = true → T i (v i) w) (hne : ∀ i j, i < n → j < n → i ≠ j → A i = true → A j = true → listed.getD i false = true → listed.getD j false = true → v i ≠ v j)
  (hj : n ∈ Region.ready .any l.toArray listed) (hall : ∀ i, i < n → i ≠ i0 → listed.getD i false = true) :
  wpOp P l.toArray Q n (wpAny P .any l.toArray Q (s + m) (listed.setIfInBounds n true)) (putsIf (l.take n) 0 (fun i => listed.getD i false) v a0) w := by
 have hlen : (l.take n).length = n := by rw [List.length_take]; omega
 obtain ⟨hi0, hnl, o, q, ho, hq, go, od, gq, hlook⟩ := lateB_parts hB
 have hi0u : listed.getD i0 false = false := by
  rcases Bool.eq_false_or_eq_true (listed.getD i0 false) with h | h
  ·exfalso
   have : doneN n listed = true := doneN_iff.2 fun i hi => by
    by_cases e : i = i0
    ·subst e; exact h
    ·exact hall i hi e
   rw [left_some hl] at this; cases this
  ·exact h
 have hi0s : i0 < listed.size := by rw [hu.1]; simp; omega
 have hns : n < listed.size := by rw [hu.1]; simp; omega
 have hin0 : i0 ≠ n := by omega
 -- the rest of the first n
 have hm0 : left n (listed.setIfInBounds i0 true) = m := left_set (ops := l.toArray) hu.1 hi0 (by simp; omega) hi0u hl
 have hd0 : doneN n (listed.setIfInBounds i0 true) = true := doneN_iff.2 fun i hi => by
  by_cases e : i = i0
  ·subst e; simp [hi0s]
  ·rw [getD_set_ne false fun h => e h.symm]; exact hall i hi e
 have hm : m = 0 := by
  rw [← hm0]; unfold left
  exact List.countP_eq_zero.2 fun i hi => by simp [doneN_iff.1 hd0 i (List.mem_range.1 hi)]
 subst hm
 obtain ⟨w1, u, hs, hx, hTu⟩ := hlate v w hb fun i hi hne => ht i hi (hall i hi hne)
 replace hs := hs o ho
 replace hx := hx q hq
 have hsel' : ∀ cs b, o.op ≠ .select cs b := fun cs b => Region.noSelect_spec hsel n o cs b (by simpa using ho)
 have hselq : ∀ cs b, q.op ≠ .select cs b := fun cs b => Region.noSelect_spec hsel i0 q cs b (by simpa using hq)
 have hpre0 : ∀ p ∈ predsOf .any l.toArray i0, listed.getD p false = true := fun p hp => by
  have := depB_pred hD hi0 hp
  exact hall p (by omega) (by omega)
 -- what both look at
 have hagn : ∀ (x : Nat → Value) (b : Nat → Bool), (∀ i, i ≠ i0 → i < n → b i = true) → (∀ i, i ≠ i0 → x i = v i) → ∀ t ∈ o.looksAt l.toArray, (putsIf (l.take n) 0 b x a0).tmps[t]? = (putsV (l.take n) 0 v a0).tmps[t]? := by
  intro x b hbi hxv t ht'
  have h1 := get_puts (v := x) (b := b) (t := t) (l.take n) 0 a0 a0 rfl fun i o' ho' hd' => by
   have hin : i < n := by rw [← hlen]; exact (List.getElem?_eq_some_iff.1 ho').1
   rw [Nat.zero_add]
   refine hbi i (fun e => ?_) hin
   subst e
   rw [List.getElem?_take, if_pos hin, hq] at ho'
   obtain rfl := Option.some.inj ho'
   exact hlook t ht' hd'
  have h2 := get_puts (v := v) (b := fun i => decide (i ≠ i0)) (t := t) (l.take n) 0 a0 a0 rfl fun i o' ho' hd' => by
   have hin : i < n := by rw [← hlen]; exact (List.getElem?_eq_some_iff.1 ho').1
   rw [Nat.zero_add]
   refine decide_eq_true fun e => ?_
   subst e
   rw [List.getElem?_take, if_pos hin, hq] at ho'
   obtain rfl := Option.some.inj ho'
   exact hlook t ht' hd'
  have h3 := get_puts (v := x) (b := fun i => decide (i ≠ i0)) (t := t) (l.take n) 0 a0 a0 rfl fun i o' ho' hd' => by
   have hin : i < n := by rw [← hlen]; exact (List.getElem?_eq_some_iff.1 ho').1
   rw [Nat.zero_add]
   refine decide_eq_true fun e => ?_
   subst e
   rw [List.getElem?_take, if_pos hin, hq] at ho'
   obtain rfl := Option.some.inj ho'
   exact hlook t ht' hd'
  rw [h1, ← h3, putsIf_congr (v := x) (v' := v) (b := fun i => decide (i ≠ i0)) (b' := fun i => decide (i ≠ i0)) (l.take n) 0 a0 (fun i _ _ => ⟨rfl, fun hh => hxv i (of_decide_eq_true hh)⟩), h2]
 -- what the other order says
 let v' : Nat → Value := fun i => if i = i0 then u else v i
 have hend' := hend v' w hb (fun i hi => by
  by_cases e : i = i0
  ·subst e; simpa [v'] using hTu
  ·simpa [v', e] using ht i hi (hall i hi e)) (fun i j hi hj' hij hai haj => by
  have e1 : i ≠ i0 := fun e => by subst e; rw [hA0] at hai; cases hai
  have e2 : j ≠ i0 := fun e => by subst e; rw [hA0] at haj; cases haj
  simpa [v', e1, e2] using hne i j hi hj' hij hai haj (hall i hi e1) (hall j hj' e2))
 have hcan : canonL l.length n = listed.setIfInBounds i0 true := by
  have := canon_of (ops := l.toArray) (n := n) (listed := listed.setIfInBounds i0 true) ⟨by simpa using hu.1, fun k hk hks => by rw [getD_set_ne true (by omega)]; exact hu.2 k hk hks⟩ hd0
  rw [this]; simp
 rw [hcan] at hend'
 have hrn : n ∈ Region.ready .any l.toArray (listed.setIfInBounds i0 true) := ready_mono hj (by omega)
 have hcn : closedL .any l.toArray (listed.setIfInBounds n true) := hc.set hj
 have hri : i0 ∈ Region.ready .any l.toArray (listed.setIfInBounds n true) := by
  refine ready_mono (mem_ready.2 ⟨?_, q, by simpa using hq, fun e he hb' => hpre0 _ ?_⟩) (by omega)
  ·have : listed.getD i0 true = listed.getD i0 false := by simp [hi0s]
   rw [this]; exact hi0u
  ·unfold predsOf
   simp only [show l.toArray[i0]? = some q by simpa using hq, List.mem_map, List.mem_filter]
   exact ⟨e, ⟨by simpa using he, hb'⟩, rfl⟩
 -- the store's turn
 unfold wpOp
 simp only [show l.toArray[n]? = some o by simpa using ho]
 have hwo : ∀ Y, Region.wanted o Y = true := fun Y => by unfold Region.wanted; rw [go]
 have hwq : ∀ Y, Region.wanted q Y = true := fun Y => by unfold Region.wanted; rw [gq]
 have ag1 := hagn v (fun i => listed.getD i false) (fun i h1 h2 => hall i h2 h1) (fun i _ => rfl)
 rw [hwo, if_pos rfl]
 have hput : ∀ (a : Act), a.put none undef = a := fun a => rfl
 cases s with
 | zero =>
  exfalso
  have := hend'.1
  rw [this] at hrn; cases hrn
 | succ s =>
  have h2 := hend'.2 n hrn
  unfold wpOp at h2
  simp only [show l.toArray[n]? = some o by simpa using ho] at h2
  rw [hwo, if_pos rfl] at h2
  have ag2 := hagn v' (fun _ => true) (fun i _ _ => rfl) (fun i h1 => by simp [v', h1])
  rw [putsIf_all (l.take n) 0 a0 fun i _ _ => rfl] at ag2
  rcases h2 with h2 | h2
  case inr =>
   refine .inr ⟨?_, h2.2⟩
   have h3 := h2.1
   unfold Oper.asks at h3 ⊢
   rw [exec_same hsel' ag2] at h3
   rw [exec_same hsel' ag1]
   exact h3
  refine .inl ?_
  unfold Oper.wp at h2 ⊢
  rw [exec_same hsel' ag2, hs] at h2
  rw [exec_same hsel' ag1, hs]
  simp only [Oper.upon, od, hput] at h2 ⊢
  -- the late one's turn
  refine ⟨fun h0 => absurd h0 (List.ne_nil_of_mem hri), fun i hi => ?_⟩
  obtain rfl : i = i0 := by
   by_cases hin : i < n
   ·rcases Decidable.em (i = i0) with e | e
    ·exact e
    ·exfalso
     have := (mem_ready.1 hi).1
     rw [getD_set_ne true (by omega)] at this
     have h4 := unl this
     rw [hall i hin e] at h4; cases h4
   ·exfalso
    obtain ⟨h4, h5⟩ := lateB_at hB hcn hi hin
    by_cases e : i = n
    ·subst e
     have := (mem_ready.1 hi).1
     simp [hns] at this
    ·have := h4 i0 hi0 fun hh => e hh.1
     rw [getD_set_ne false (by omega), hi0u] at this; cases this
  unfold wpOp
  simp only [show l.toArray[i]? = some q by simpa using hq]
  rw [hwq, if_pos rfl]
  refine .inl ?_
  have hag0 : ∀ t ∈ q.looksAt l.toArray, (putsIf (l.take n) 0 (fun i => listed.getD i false) v a0).tmps[t]? = (putsV (l.take n) 0 v a0).tmps[t]? := fun t ht' =>
   get_puts (l.take n) 0 a0 a0 rfl fun k o' ho' hd' => by
    have hin : k < n := by rw [← hlen]; exact (List.getElem?_eq_some_iff.1 ho').1
    have ho2 : l.toArray[k]? = some o' := by rw [List.getElem?_take, if_pos hin] at ho'; simpa using ho'
    rw [Nat.zero_add]
    exact hpre0 k (depB_looks hD hi0 hin (by simpa using hq) ho2 ht' hd')
  unfold Oper.wp
  rw [exec_same hselq hag0, hx]
  simp only [Oper.upon]
  have e := put_at (v := v) (v' := v') (b := fun i => listed.getD i false) (b' := fun k => (listed.setIfInBounds i true).getD k false) (j := i) (u := u) hi0u (by simp [hi0s]) (by simp [v'])
   (fun k hk => ⟨getD_set_ne false fun e => hk e.symm, by simp [v', hk]⟩) (l.take n) 0 a0 q hN (Nat.zero_le _) (by rw [Nat.sub_zero, List.getElem?_take, if_pos hi0]; exact hq)
  rw [e, putsIf_all (l.take n) 0 a0 fun k _ h5 => doneN_iff.1 hd0 k (by omega), Array.setIfInBounds_comm _ _ (by omega)]
  exact h2
theorem wpAny_tb {n s i0 : Nat} {l : List Oper} {T : Nat → Value → World → Prop} {w0 : World} {a0 : Act} {Q : Exit → Act → World → Prop} {A : Nat → Bool} (hT : ∀ i, Stays (T i)) (hsel : Region.noSelect l.toArray = true) (hn : n ≤ l.length)
  (hB : lateB n i0 l = true) (hN : nodupD (l.take n) = true) (hD : depB l.toArray n = true)
  (hops : ∀ j o, j < n → l[j]? = some o → ∀ v w, Below w0.heap.size w0 w → (∀ p ∈ predsOf .any l.toArray j, T p (v p) w) → TyAt P l.toArray o (putsV (l.take n) 0 v a0) w (T j))
  (hptr : ∀ j, A j = true → ∀ u w, T j u w → ∃ k, u = .pointer (some ⟨k, 0, none⟩) ∧ k < w.heap.size)
  (hnew : ∀ j o, l[j]? = some o → A j = true → o.guard = none ∧ ∃ e c t, o.op = .alloc e ∧ ∀ w, (Instr.alloc e true (.tuple #[])).run P w = .ok (.pointer (some ⟨w.heap.size, 0, none⟩)) (w.alloc (.cells c t)))
  (hlate : ∀ v w, Below w0.heap.size w0 w → (∀ i, i < n → i ≠ i0 → T i (v i) w) → ∃ w1 u, (∀ o, l[n]? = some o → (execOp (putsV (l.take n) 0 v a0).eval o).run P w = .ok .skip w1) ∧ (∀ o, l[i0]? = some o → (execOp (putsV (l.take n) 0 v a0).eval o).run P w1 = .ok (.value u) w1) ∧ T i0 u w) (hA0 : A i0 = false)
  (hend : ∀ v w, Below w0.heap.size w0 w → (∀ i, i < n → T i (v i) w) → (∀ i j, i < n → j < n → i ≠ j → A i = true → A j = true → v i ≠ v j) → wpAny P .any l.toArray Q s (canonL l.length n) (putsV (l.take n) 0 v a0) w) :
  ∀ (m : Nat) (listed : Array Bool) (v : Nat → Value) (w : World), left n listed = m → closedL .any l.toArray listed → sufL n l.toArray listed → Below w0.heap.size w0 w →
   (∀ i, i < n → listed.getD i false = true → T i (v i) w) → (∀ i j, i < n → j < n → i ≠ j → A i = true → A j = true → listed.getD i false = true → listed.getD j false = true → v i ≠ v j) → wpAny P .any l.toArray Q (s + m) listed (putsIf (l.take n) 0 (fun i => listed.getD i false) v a0) w := by
 intro m
 have hlen : (l.take n).length = n := by rw [List.length_take]; omega
 induction m with
 | zero =>
  intro listed v w hl hc hu hb ht hne
  have hd := left_zero hl
  rw [putsIf_all (l.take n) 0 a0 fun i _ h2 => doneN_iff.1 hd i (by omega)]
  have e := canon_of hu hd
  rw [show l.toArray.size = l.length by simp] at e
  rw [e]
  exact hend v w hb (fun i hi => ht i hi (doneN_iff.1 hd i hi)) fun i j hi hj hij ha hb' => hne i j hi hj hij ha hb' (doneN_iff.1 hd i hi) (doneN_iff.1 hd j hj)
 | succ m ih =>
  intro listed v w hl hc hu hb ht hne
  have hnd := left_some hl
  refine ⟨fun h0 => absurd h0 (ready_some hu.1 (by simpa using hn) hD hl), fun j hj => ?_⟩
  by_cases hlt : j < n
  case neg =>
   obtain ⟨rfl, hall⟩ := lateB_bar hB hc hj hnd hlt
   exact late_step hsel hn hB hN hD hlate hA0 hend hl hc hu hb ht hne hj hall
  have hjn := hlt
  obtain ⟨hju, o, ho, -⟩ := mem_ready.1 hj
  have hpre := preds_of_ready hj
  have hol : l[j]? = some o := by simpa using ho
  have hjs : j < l.toArray.size := (Array.getElem?_eq_some_iff.1 ho).1
  have hty := hops j o hjn hol v w hb fun p hp => ht p (by have := depB_pred hD hjn hp; omega) (hpre p hp)
  have hag : ∀ t ∈ o.looksAt l.toArray, (putsIf (l.take n) 0 (fun i => listed.getD i false) v a0).tmps[t]? = (putsV (l.take n) 0 v a0).tmps[t]? := fun t ht' =>
   get_puts (l.take n) 0 a0 a0 rfl fun i o' ho' hd' => by
    have hin : i < n := by rw [← hlen]; exact (List.getElem?_eq_some_iff.1 ho').1
    have ho2 : l.toArray[i]? = some o' := by rw [List.getElem?_take, if_pos hin] at ho'; simpa using ho'
    rw [Nat.zero_add]
    exact hpre i (depB_looks hD hjn hin ho ho2 ht' hd')
  have step : ∀ u w', Below w.heap.size w w' → T j u w' → (A j = true → u = .pointer (some ⟨w.heap.size, 0, none⟩)) → wpAny P .any l.toArray Q (s + m) (listed.setIfInBounds j true) ((putsIf (l.take n) 0 (fun i => listed.getD i false) v a0).put o.dst u) w' := by
   intro u w' hw' hu' hun
   have e := put_at (v := v) (v' := fun i => if i = j then u else v i) (b := fun i => listed.getD i false) (b' := fun i => (listed.setIfInBounds j true).getD i false) (j := j) (u := u) (unl hju) (by simp [hu.1]; simpa using hjs) (by simp)
    (fun i hi => ⟨getD_set_ne false fun e => hi e.symm, by simp [hi]⟩) (l.take n) 0 a0 o hN (Nat.zero_le _) (by rw [Nat.sub_zero, List.getElem?_take, if_pos hjn]; exact hol)
   rw [e]
   refine ih _ _ w' (left_set (ops := l.toArray) hu.1 hjn hjs (unl hju) hl) (hc.set hj) ⟨by simpa using hu.1, fun k hk hks => by rw [getD_set_ne true (by omega)]; exact hu.2 k hk hks⟩ (hb.trans (hw'.mono hb.size)) (fun i hi hli => ?_) ?_
   ·by_cases e : i = j
    ·subst e; simpa using hu'
    ·rw [getD_set_ne false fun e' => e e'.symm] at hli
     simp only [if_neg e]
     exact hT i _ _ _ hw' (ht i hi hli)
   intro i k hi hk hik hAi hAk hli hlk
   by_cases e : i = j
   ·subst e
    have e2 : k ≠ i := fun e => hik e.symm
    rw [getD_set_ne false fun e' => e2 e'.symm] at hlk
    simp only [if_neg e2, if_pos]
    obtain ⟨b, hb1, hb2⟩ := hptr k hAk _ _ (ht k hk hlk)
    rw [hb1, hun hAi]
    intro he
    simp only [Value.pointer.injEq, Option.some.injEq, Addr.mk.injEq, and_true] at he
    omega
   ·rw [getD_set_ne false fun e' => e e'.symm] at hli
    by_cases e2 : k = j
    ·subst e2
     simp only [if_neg e, if_pos]
     obtain ⟨b, hb1, hb2⟩ := hptr i hAi _ _ (ht i hi hli)
     rw [hb1, hun hAk]
     intro he
     simp only [Value.pointer.injEq, Option.some.injEq, Addr.mk.injEq, and_true] at he
     omega
    ·rw [getD_set_ne false fun e' => e2 e'.symm] at hlk
     simp only [if_neg e, if_neg e2]
     exact hne i k hi hk hik hAi hAk hli hlk
  unfold wpOp
  simp only [ho]
  unfold TyAt at hty
  rw [← wanted_same hag] at hty
  by_cases hw : Region.wanted o (yielded l.toArray (putsIf (l.take n) 0 (fun i => listed.getD i false) v a0).tmps) = true
  ·simp only [hw, if_true] at hty ⊢
   refine .inl ?_
   unfold Oper.wp
   rw [exec_same (fun cs b => Region.noSelect_spec hsel j o cs b ho) hag]
   have hal : A j = true → ∀ u w', (execOp (putsV (l.take n) 0 v a0).eval o).run P w = .ok (.value u) w' → u = .pointer (some ⟨w.heap.size, 0, none⟩) := fun hA u w' hr => by
    obtain ⟨_, e, c, t, he, hal⟩ := hnew j o hol hA
    rw [alloc_run he hal] at hr
    simp only [Result.ok.injEq, Next.value.injEq] at hr
    exact hr.1.symm
   have hal2 : A j = true → ∀ w', (execOp (putsV (l.take n) 0 v a0).eval o).run P w ≠ .ok .skip w' := fun hA w' hr => by
    obtain ⟨_, e, c, t, he, hal⟩ := hnew j o hol hA
    rw [alloc_run he hal] at hr
    cases hr
   have hal3 : A j = true → ∀ f args w', (execOp (putsV (l.take n) 0 v a0).eval o).run P w ≠ .ok (.enter f args) w' := fun hA f args w' hr => by
    obtain ⟨_, e, c, t, he, hal⟩ := hnew j o hol hA
    rw [alloc_run he hal] at hr
    cases hr
   generalize (execOp (putsV (l.take n) 0 v a0).eval o).run P w = r at *
   cases r with
   | ok nx w' =>
    cases nx <;> simp only [tyUpon] at hty <;> simp only [Oper.upon]
    case value u => exact step u w' hty.1 hty.2 fun hA => hal hA u w' rfl
    case skip => exact step undef w' hty.1 hty.2 fun hA => absurd rfl (hal2 hA w')
    case enter f args =>
     obtain ⟨rfl, hcall⟩ := hty
     exact hcall.mono fun e w'' ⟨u, he, h1, h2⟩ => by subst he; exact step u w'' h2 h1 fun hA => absurd rfl (hal3 hA f args _)
   | halt x w' => simp only [tyUpon] at hty
  ·simp only [hw] at hty ⊢
   exact step undef w (Below.refl _ _) hty fun hA => by
    obtain ⟨hg, _⟩ := hnew j o hol hA
    exact absurd (by unfold Region.wanted; rw [hg]) hw
def tyBl (n i0 : Nat) (l : List Oper) : Bool :=
 Region.noSelect l.toArray && decide (n ≤ l.length) && lateB n i0 l && nodupD (l.take n) && depB l.toArray n && seqB .any l.toArray (l.length - n) n (canonL l.length n)
/-- **A region whose first n operations each give a value of a property; then the others, in their order.** -/
theorem region_tb (n i0 : Nat) (T : Nat → Value → World → Prop) (A : Nat → Bool) {id : Nat} {Q : Exit → Act → World → Prop} {a : Act} {w : World} {l : List Oper} (hm : P.follows .mixedOrders = true) (hB : tyBl n i0 l = true) (hT : ∀ i, Stays (T i))
  (hops : ∀ j o, j < n → l[j]? = some o → ∀ v w1, Below w.drew.heap.size w.drew w1 → (∀ p ∈ predsOf .any l.toArray j, T p (v p) w1) → TyAt P l.toArray o (putsV (l.take n) 0 v a) w1 (T j))
  (hptr : ∀ j, A j = true → ∀ u w, T j u w → ∃ k, u = .pointer (some ⟨k, 0, none⟩) ∧ k < w.heap.size)
  (hnew : ∀ j o, l[j]? = some o → A j = true → o.guard = none ∧ ∃ e c t, o.op = .alloc e ∧ ∀ w, (Instr.alloc e true (.tuple #[])).run P w = .ok (.pointer (some ⟨w.heap.size, 0, none⟩)) (w.alloc (.cells c t)))
  (hlate : ∀ v w2, Below w.drew.heap.size w.drew w2 → (∀ i, i < n → i ≠ i0 → T i (v i) w2) → ∃ w1 u, (∀ o, l[n]? = some o → (execOp (putsV (l.take n) 0 v a).eval o).run P w2 = .ok .skip w1) ∧ (∀ o, l[i0]? = some o → (execOp (putsV (l.take n) 0 v a).eval o).run P w1 = .ok (.value u) w1) ∧ T i0 u w2) (hA0 : A i0 = false)
  (hend : ∀ v w1, Below w.drew.heap.size w.drew w1 → (∀ i, i < n → T i (v i) w1) → (∀ i j, i < n → j < n → i ≠ j → A i = true → A j = true → v i ≠ v j) → wpList P l.toArray Q (l.drop n) (putsV (l.take n) 0 v a) w1) : (Code.region id l.toArray true).wp P Q a w := by
 simp only [tyBl, Bool.and_eq_true, decide_eq_true_eq] at hB
 obtain ⟨⟨⟨⟨⟨hs, hn⟩, hb⟩, hN⟩, hD⟩, hq⟩ := hB
 refine wp_region_any hm ?_
 have hrep : ∀ i, (Array.replicate l.length false).getD i false = false := fun i => by
  rcases Nat.lt_or_ge i l.length with h' | h' <;> simp [h']
 have h0 : closedL .any l.toArray (Array.replicate l.length false) := fun j o _ hl => by rw [hrep] at hl; cases hl
 have hleft : left n (Array.replicate l.length false) = n := by
  unfold left
  rw [List.countP_eq_length.2 fun i _ => by rw [hrep]; rfl, List.length_range]
 have h2 := wpAny_tb (i0 := i0) (A := A) (P := P) (s := l.length - n) (Q := Q) (a0 := a) hT hs hn hb hN hD hops hptr hnew hlate hA0 (fun v w1 h1 h2 hdis => by
   have h3 := wpAny_of_seq (md := .any) (P := P) (Q' := Q) (l.drop n) n (canonL l.length n) (putsV (l.take n) 0 v a) w1 (fun j hj => by simp [List.getElem?_drop]) (by rw [List.length_drop]; exact hq) (hend v w1 h1 h2 hdis)
   rw [List.length_drop] at h3
   exact h3) n (Array.replicate l.length false) (fun _ => undef) w.drew hleft h0 ⟨by simp, fun j _ hj => by simp at hj; simp [hj]⟩ (Below.refl _ _) (fun i _ hl => by rw [hrep] at hl; cases hl) (fun i j _ _ _ _ _ hl => by rw [hrep] at hl; cases hl)
 rw [putsIf_none (l.take n) 0 a fun i _ _ => hrep i, Nat.sub_add_cancel hn] at h2
 simpa using h2
/-- region_tb, with its properties as a list; A: the operations that make boxes. -/
theorem region_tbl (n i0 : Nat) (L : List (Value → World → Prop)) (A : List Nat) {id : Nat} {Q : Exit → Act → World → Prop} {a : Act} {w : World} {l : List Oper} (hm : P.follows .mixedOrders = true) (hB : tyBl n i0 l = true) (hT : ∀ i, Stays (L.getD i (fun _ _ => True)))
  (hops : hopsR P l.toArray (fun i => L.getD i (fun _ _ => True)) w.drew (fun v => putsV (l.take n) 0 v a) (l.take n) 0)
  (hptr : ∀ j, A.contains j = true → ∀ u w, L.getD j (fun _ _ => True) u w → ∃ k, u = .pointer (some ⟨k, 0, none⟩) ∧ k < w.heap.size)
  (hnew : newR P l A)
  (hlate : ∀ v w2, Below w.drew.heap.size w.drew w2 → (∀ i, i < n → i ≠ i0 → L.getD i (fun _ _ => True) (v i) w2) → ∃ w1 u, (∀ o, l[n]? = some o → (execOp (putsV (l.take n) 0 v a).eval o).run P w2 = .ok .skip w1) ∧ (∀ o, l[i0]? = some o → (execOp (putsV (l.take n) 0 v a).eval o).run P w1 = .ok (.value u) w1) ∧ L.getD i0 (fun _ _ => True) u w2) (hA0 : A.contains i0 = false)
  (hend : ∀ v w1, Below w.drew.heap.size w.drew w1 → (∀ i, i < n → L.getD i (fun _ _ => True) (v i) w1) → (∀ i j, i < n → j < n → i ≠ j → A.contains i = true → A.contains j = true → v i ≠ v j) → wpList P l.toArray Q (l.drop n) (putsV (l.take n) 0 v a) w1) : (Code.region id l.toArray true).wp P Q a w :=
 region_tb n i0 (fun i => L.getD i (fun _ _ => True)) (fun i => A.contains i) hm hB hT (fun j o hj ho v w1 hb hp => by
  have := hops_of (l.take n) 0 hops j o (by rw [List.getElem?_take, if_pos hj]; exact ho) v w1 hb (by rw [Nat.zero_add]; exact hp)
  rwa [Nat.zero_add] at this) hptr (fun j o ho hA => newR_spec hnew j o ho hA) hlate hA0 hend
end
end Go.Proofs.YtfmakoiiibacjaaDoor
namespace Go.Proofs.YtfmakoiiibacjaaDoor
open Go.RowKit Go.Proofs.YtfmakoiiibacjaaDoor.Rx
attribute [local irreducible] lo hs sm s64 c64 d64 b64 mh ml pd pc qd qc val hiB str cmpI srD lz nb isq zl zh zs dval tln
theorem new_rz (w : World) : (Instr.alloc 65 true (.tuple #[])).run Tryd.prog w = .ok (.pointer (some ⟨w.heap.size, 0, none⟩)) (w.alloc (.cells #[.bool false, .slice none 0 0] 65)) := by
 simp [go_sem, Instr.alloc]
set_option maxHeartbeats 4000000 in
set_option maxRecDepth 100000 in
theorem rzof_neg (v b c d g z : Int) (n : Nat) (HO : ∀ (w : World), Calls Tryd.prog 65 #[.int .u64 g] w fun e w' => ∃ pv, e = .returned pv ∧ Rn w' pv n ∧ Below w.heap.size w w') (HF : ∀ (p1 : Value) (w : World), Rn w p1 n → Calls Tryd.prog 61 #[.bool true, p1] w fun e w' => ∃ pv, e = .returned pv ∧ RZ w' pv z ∧ Below w.heap.size w w') (h0 : decide (v < 0) = true) (h1 : IntKind.i64.wrap (v + 1) = b) (h2 : IntKind.i64.wrap (-b) = c) (h3 : IntKind.u64.wrap c = d) (h4 : IntKind.u64.wrap (d + 1) = g) (w : World) :
  Calls Tryd.prog 38 #[.int .i64 v] w fun e w' => ∃ pv, e = .returned pv ∧ RZ w' pv z ∧ Below w.heap.size w w' := by
 replace HO := Lib.hid HO
 replace HF := Lib.hid HF
 have hL0 : GL w w [] := GL.start w
 have hS : SS w [] := SS.nil w
 replace hS := (hS.new (.cells #[.bool false, .slice none 0 0] 65))
 replace hL0 := (hL0.new rfl [.bool false, .slice none 0 0] 65)
 generalize hweq : (w.alloc (.cells #[.bool false, .slice none 0 0] 65)) = x1 at hL0 hS
 go_enter Tryd.func38, Tryd.ntmps38
 go_wp2_with fail
 with_reducible refine Calls.mono (HO.out _) ?_
 rintro e x2 ⟨v0, rfl, q0, hb⟩
 replace hL0 := hL0.call hb
 replace hS := hS.call hb
 clear hb hweq
 obtain ⟨g1, d1, rfl⟩ := rn_form q0
 replace hS := hS.cons q0
 clear q0
 go_wp2_with fail
 with_reducible refine Calls.mono (HF.out (.slice g1 (tln n) d1) _ (hS.get List.mem_cons_self)) ?_
 rintro e x3 ⟨v0, rfl, q0, hb⟩
 replace hL0 := hL0.call hb
 replace hS := hS.call hb
 clear hb
 obtain ⟨g2, d2, rfl⟩ := rz_form q0
 replace hS := hS.cons (rz_rn q0)
 clear q0
 have hS1 := hS.put (((Upd.refl w.heap.size x3).setCell 0 (.bool (zs z))).setCell 1 (.slice g2 (tln z.natAbs) d2)) (hL0.get _ _ List.mem_cons_self) (by intro v hv n; simp only [List.mem_cons, List.not_mem_nil, or_false] at hv; rcases hv with rfl | rfl <;> simp)
 have hA := hL0.fc
 simp only [fcG, cellsF, neK, and_true, ne_eq, Nat.zero_add, Nat.reduceAdd] at hA
 have hP := hL0.put 0 (w.heap.size) _ rfl [.bool (zs z), .slice g2 (tln z.natAbs) d2] rfl
 simp only [setAll, List.set_cons_zero, List.set_cons_succ] at hP
 generalize hput1 : ((x3.setCell ⟨w.heap.size, 0, none⟩ (.bool (zs z))).setCell ⟨w.heap.size, 1, none⟩ (.slice g2 (tln z.natAbs) d2)) = x4 at hP hS1
 have hB1 := hP.fc
 simp only [fcG, cellsF, neK, and_true, ne_eq, Nat.zero_add, Nat.reduceAdd] at hB1
 replace hL0 := hP
 replace hS := hS1
 clear hS1
 go_wp2_with fail
 exact bodyPost_ret (v := .agg #[.bool (zs z), .slice g2 (tln z.natAbs) d2]) (by simp [results, Tryd.results38, go_sem, hB1]) rfl ⟨_, rfl, (rz_of (hS.get List.mem_cons_self)), hL0.bl⟩
set_option maxHeartbeats 4000000 in
set_option maxRecDepth 100000 in
theorem rzof_pos (v d z : Int) (n : Nat) (HO : ∀ (w : World), Calls Tryd.prog 65 #[.int .u64 d] w fun e w' => ∃ pv, e = .returned pv ∧ Rn w' pv n ∧ Below w.heap.size w w') (HF : ∀ (p1 : Value) (w : World), Rn w p1 n → Calls Tryd.prog 61 #[.bool false, p1] w fun e w' => ∃ pv, e = .returned pv ∧ RZ w' pv z ∧ Below w.heap.size w w') (h0 : decide (v < 0) = false) (h3 : IntKind.u64.wrap v = d) (w : World) :
  Calls Tryd.prog 38 #[.int .i64 v] w fun e w' => ∃ pv, e = .returned pv ∧ RZ w' pv z ∧ Below w.heap.size w w' := by
 replace HO := Lib.hid HO
 replace HF := Lib.hid HF
 have hL0 : GL w w [] := GL.start w
 have hS : SS w [] := SS.nil w
 replace hS := (hS.new (.cells #[.bool false, .slice none 0 0] 65))
 replace hL0 := (hL0.new rfl [.bool false, .slice none 0 0] 65)
 generalize hweq : (w.alloc (.cells #[.bool false, .slice none 0 0] 65)) = x1 at hL0 hS
 go_enter Tryd.func38, Tryd.ntmps38
 go_wp2_with fail
 with_reducible refine Calls.mono (HO.out _) ?_
 rintro e x2 ⟨v0, rfl, q0, hb⟩
 replace hL0 := hL0.call hb
 replace hS := hS.call hb
 clear hb hweq
 obtain ⟨g1, d1, rfl⟩ := rn_form q0
 replace hS := hS.cons q0
 clear q0
 go_wp2_with fail
 with_reducible refine Calls.mono (HF.out (.slice g1 (tln n) d1) _ (hS.get List.mem_cons_self)) ?_
 rintro e x3 ⟨v0, rfl, q0, hb⟩
 replace hL0 := hL0.call hb
 replace hS := hS.call hb
 clear hb
 obtain ⟨g2, d2, rfl⟩ := rz_form q0
 replace hS := hS.cons (rz_rn q0)
 clear q0
 have hS1 := hS.put (((Upd.refl w.heap.size x3).setCell 0 (.bool (zs z))).setCell 1 (.slice g2 (tln z.natAbs) d2)) (hL0.get _ _ List.mem_cons_self) (by intro v hv n; simp only [List.mem_cons, List.not_mem_nil, or_false] at hv; rcases hv with rfl | rfl <;> simp)
 have hA := hL0.fc
 simp only [fcG, cellsF, neK, and_true, ne_eq, Nat.zero_add, Nat.reduceAdd] at hA
 have hP := hL0.put 0 (w.heap.size) _ rfl [.bool (zs z), .slice g2 (tln z.natAbs) d2] rfl
 simp only [setAll, List.set_cons_zero, List.set_cons_succ] at hP
 generalize hput1 : ((x3.setCell ⟨w.heap.size, 0, none⟩ (.bool (zs z))).setCell ⟨w.heap.size, 1, none⟩ (.slice g2 (tln z.natAbs) d2)) = x4 at hP hS1
 have hB1 := hP.fc
 simp only [fcG, cellsF, neK, and_true, ne_eq, Nat.zero_add, Nat.reduceAdd] at hB1
 replace hL0 := hP
 replace hS := hS1
 clear hS1
 go_wp2_with fail
 exact bodyPost_ret (v := .agg #[.bool (zs z), .slice g2 (tln z.natAbs) d2]) (by simp [results, Tryd.results38, go_sem, hB1]) rfl ⟨_, rfl, (rz_of (hS.get List.mem_cons_self)), hL0.bl⟩
set_option maxHeartbeats 4000000 in
set_option maxRecDepth 100000 in
theorem rzdiv_plain (x y u v s r : Int) (q m : Nat) (HD : ∀ (p0 p1 : Value) (w : World), Rn w p0 x.natAbs → Rn w p1 y.natAbs → Calls Tryd.prog 83 #[p0, p1] w fun e w' => ∃ v0 v1, e = .returned (.tuple #[v0, v1]) ∧ Rn w' v0 q ∧ Rn w' v1 m ∧ Below w.heap.size w w') (HF : ∀ (p1 : Value) (w : World), Rn w p1 q → Calls Tryd.prog 61 #[.bool (!(zs x == zs y)), p1] w fun e w' => ∃ pv, e = .returned pv ∧ RZ w' pv u ∧ Below w.heap.size w w') (HG : ∀ (p1 : Value) (w : World), Rn w p1 m → Calls Tryd.prog 61 #[.bool (zs x), p1] w fun e w' => ∃ pv, e = .returned pv ∧ RZ w' pv v ∧ Below w.heap.size w w') (HS : ∀ (p0 : Value) (w : World), RZ w p0 v → Calls Tryd.prog 60 #[p0] w fun e w' => e = .returned (.int .i64 s) ∧ Below w.heap.size w w') (hs0 : decide (s < 0) = false) (p0 : Value) (p1 : Value) (w : World) (r0 : RZ w p0 x) (r1 : RZ w p1 y) :
  Calls Tryd.prog 62 #[p0, p1] w fun e w' => ∃ v0 v1, e = .returned (.tuple #[v0, v1]) ∧ RZ w' v0 u ∧ RZ w' v1 v ∧ Below w.heap.size w w' := by
 obtain ⟨a0, c0, rfl⟩ := rz_form r0
 have f0 := Lib.hid (rz_rn r0)
 clear r0
 obtain ⟨a1, c1, rfl⟩ := rz_form r1
 have f1 := Lib.hid (rz_rn r1)
 clear r1
 replace HD := Lib.hid HD
 replace HF := Lib.hid HF
 replace HG := Lib.hid HG
 replace HS := Lib.hid HS
 have hL0 : GL w w [] := GL.start w
 have hS : SS w [] := SS.nil w
 replace hS := ((((hS.new (.cells #[.bool (zs x), .slice a0 (tln x.natAbs) c0] 65)).new (.cells #[.bool (zs y), .slice a1 (tln y.natAbs) c1] 65)).new (.cells #[.bool false, .slice none 0 0] 65)).new (.cells #[.bool false, .slice none 0 0] 65))
 replace hL0 := ((((hL0.new rfl [.bool (zs x), .slice a0 (tln x.natAbs) c0] 65).new (K := w.heap.size + 1) (szA _ _) [.bool (zs y), .slice a1 (tln y.natAbs) c1] 65).new (K := w.heap.size + 1 + 1) (by simp only [World.size_alloc]) [.bool false, .slice none 0 0] 65).new (K := w.heap.size + 1 + 1 + 1) (by simp only [World.size_alloc]) [.bool false, .slice none 0 0] 65)
 generalize hweq : ((((w.alloc (.cells #[.bool (zs x), .slice a0 (tln x.natAbs) c0] 65)).alloc (.cells #[.bool (zs y), .slice a1 (tln y.natAbs) c1] 65)).alloc (.cells #[.bool false, .slice none 0 0] 65)).alloc (.cells #[.bool false, .slice none 0 0] 65)) = x1 at hL0 hS
 go_enter Tryd.func62, Tryd.ntmps62
 have hN0 := cells_of _ 0 [] rfl (hL0.get _ _ (List.mem_cons_of_mem _ (List.mem_cons_of_mem _ List.mem_cons_self)))
 simp only [cellsF, and_true, Nat.zero_add, Nat.reduceAdd] at hN0
 have hN1 := cells_of _ 0 [] rfl (hL0.get _ _ (List.mem_cons_of_mem _ (List.mem_cons_of_mem _ (List.mem_cons_of_mem _ List.mem_cons_self))))
 simp only [cellsF, and_true, Nat.zero_add, Nat.reduceAdd] at hN1
 go_wp2_with fail
 clear hN0 hN1
 with_reducible refine Calls.mono (HD.out (.slice a0 (tln x.natAbs) c0) (.slice a1 (tln y.natAbs) c1) _ (Sl.below f0.out hL0.bl) (Sl.below f1.out hL0.bl)) ?_
 rintro e x2 ⟨v0, v1, rfl, q0, q1, hb⟩
 replace hL0 := hL0.call hb
 replace hS := hS.call hb
 clear hb hweq
 obtain ⟨g1, d1, rfl⟩ := rn_form q0
 replace hS := hS.cons q0
 clear q0
 obtain ⟨g2, d2, rfl⟩ := rn_form q1
 replace hS := hS.cons q1
 clear q1
 go_upto_region 2 with fail
 refine region_tal 13 [EV (.pointer (some ⟨w.heap.size, 0, none⟩)), EV (.bool (zs x)), EV (.pointer (some ⟨w.heap.size + 1, 0, none⟩)), EV (.bool (zs y)), EV (.bool (!(zs x == zs y))), EV (.slice g1 (tln q) d1), PZ u, EV (.pointer (some ⟨w.heap.size, 0, none⟩)), EV (.bool (zs x)), EV (.slice g2 (tln m) d2), PZ v, NewB x2.heap.size [.bool false, .slice none 0 0], NewB x2.heap.size [.bool false, .slice none 0 0]] [11, 12] (by kernel_rfl) (by kernel_rfl) ?_ ?_ ?_ ?_ ?_
 ·exact stays_cons (stays_eq _) (stays_cons (stays_eq _) (stays_cons (stays_eq _) (stays_cons (stays_eq _) (stays_cons (stays_eq _) (stays_cons (stays_eq _) (stays_cons (stays_rz _) (stays_cons (stays_eq _) (stays_cons (stays_eq _) (stays_cons (stays_eq _) (stays_cons (stays_rz _) (stays_cons (stays_new _ _) (stays_cons (stays_new _ _) (stays_nil)))))))))))))
 ·simp only [List.take_succ_cons, List.take_zero, hopsR, and_true]
  refine ⟨?_, ?_, ?_, ?_, ?_, ?_, ?_, ?_, ?_, ?_, ?_, ?_, ?_⟩ <;> intro fv w1 hb1 hp
  all_goals (simp only [putsV, Act.put, List.setIfInBounds_toArray, List.set_cons_succ, List.set_cons_zero, Nat.zero_add, Nat.reduceAdd])
  ·refine tyAt_none rfl ?_
   simp [tyUpon, execOp, go_sem, Act.eval, Below.refl]
  ·have h0 : EV _ (fv 0) w1 := hp 0 (LC (by kernel_rfl))
   refine tyAt_none rfl ?_
   have hc := (hL0.call (below_drew hb1)).fc
   simp only [fcG, cellsF, neK, and_true, ne_eq, Nat.zero_add, Nat.reduceAdd] at hc
   simp [tyUpon, execOp, go_sem, Act.eval, hc, h0, Below.refl]
  ·refine tyAt_none rfl ?_
   simp [tyUpon, execOp, go_sem, Act.eval, Below.refl]
  ·have h2 : EV _ (fv 2) w1 := hp 2 (LC (by kernel_rfl))
   refine tyAt_none rfl ?_
   have hc := (hL0.call (below_drew hb1)).fc
   simp only [fcG, cellsF, neK, and_true, ne_eq, Nat.zero_add, Nat.reduceAdd] at hc
   simp [tyUpon, execOp, go_sem, Act.eval, hc, h2, Below.refl]
  ·have h1 : EV _ (fv 1) w1 := hp 1 (LC (by kernel_rfl))
   have h3 : EV _ (fv 3) w1 := hp 3 (LC (by kernel_rfl))
   refine tyAt_none rfl ?_
   simp [tyUpon, execOp, go_sem, Act.eval, h1, h3, Below.refl]
  ·refine tyAt_none rfl ?_
   simp [tyUpon, execOp, go_sem, Act.eval, Below.refl]
  ·have h4 : EV _ (fv 4) w1 := hp 4 (LC (by kernel_rfl))
   have h5 : EV _ (fv 5) w1 := hp 5 (LC (by kernel_rfl))
   refine tyAt_none rfl ?_
   refine ty_call (f := 61) (args := #[.bool (!(zs x == zs y)), .slice g1 (tln q) d1]) (by simp [execOp, go_sem, Act.eval, h4, h5]) ?_
   exact (HF.out (.slice g1 (tln q) d1) w1 (Sl.below (hS.get (List.mem_cons_of_mem _ List.mem_cons_self)) (below_drew hb1))).mono fun e w2 ⟨pv, h1, h2, h3⟩ => ⟨pv, h1, h2, h3⟩
  ·refine tyAt_none rfl ?_
   simp [tyUpon, execOp, go_sem, Act.eval, Below.refl]
  ·have h7 : EV _ (fv 7) w1 := hp 7 (LC (by kernel_rfl))
   refine tyAt_none rfl ?_
   have hc := (hL0.call (below_drew hb1)).fc
   simp only [fcG, cellsF, neK, and_true, ne_eq, Nat.zero_add, Nat.reduceAdd] at hc
   simp [tyUpon, execOp, go_sem, Act.eval, hc, h7, Below.refl]
  ·refine tyAt_none rfl ?_
   simp [tyUpon, execOp, go_sem, Act.eval, Below.refl]
  ·have h8 : EV _ (fv 8) w1 := hp 8 (LC (by kernel_rfl))
   have h9 : EV _ (fv 9) w1 := hp 9 (LC (by kernel_rfl))
   refine tyAt_none rfl ?_
   refine ty_call (f := 61) (args := #[.bool (zs x), .slice g2 (tln m) d2]) (by simp [execOp, go_sem, Act.eval, h8, h9]) ?_
   exact (HG.out (.slice g2 (tln m) d2) w1 (Sl.below (hS.get List.mem_cons_self) (below_drew hb1))).mono fun e w2 ⟨pv, h1, h2, h3⟩ => ⟨pv, h1, h2, h3⟩
  ·exact tyAt_new rfl rfl new_rz (below_drew hb1).size
  ·exact tyAt_new rfl rfl new_rz (below_drew hb1).size
 ·intro j hj u w2 hT
  simp only [List.contains_iff_mem, List.mem_cons, List.not_mem_nil, or_false] at hj
  rcases hj with rfl | rfl <;> exact NewB.ptr hT
 ·exact ⟨⟨_, _, _, _, rfl, rfl, rfl, new_rz⟩, ⟨_, _, _, _, rfl, rfl, rfl, new_rz⟩, trivial⟩
 ·intro fv x3 hb1 hv hne
  have e0 : fv 0 = _ := hv 0 (by omega)
  have e1 : fv 1 = _ := hv 1 (by omega)
  have e2 : fv 2 = _ := hv 2 (by omega)
  have e3 : fv 3 = _ := hv 3 (by omega)
  have e4 : fv 4 = _ := hv 4 (by omega)
  have e5 : fv 5 = _ := hv 5 (by omega)
  have q6 : RZ x3 (fv 6) u := hv 6 (by omega)
  obtain ⟨g3, d3, e6⟩ := rz_form q6
  rw [e6] at q6
  have e7 : fv 7 = _ := hv 7 (by omega)
  have e8 : fv 8 = _ := hv 8 (by omega)
  have e9 : fv 9 = _ := hv 9 (by omega)
  have q10 : RZ x3 (fv 10) v := hv 10 (by omega)
  obtain ⟨g4, d4, e10⟩ := rz_form q10
  rw [e10] at q10
  obtain ⟨kb11, e11, n11, m11⟩ : NewB x2.heap.size [.bool false, .slice none 0 0] (fv 11) x3 := hv 11 (by omega)
  obtain ⟨kb12, e12, n12, m12⟩ : NewB x2.heap.size [.bool false, .slice none 0 0] (fv 12) x3 := hv 12 (by omega)
  simp only [List.take_succ_cons, List.take_zero, putsV, Act.put, List.setIfInBounds_toArray, List.set_cons_succ, List.set_cons_zero, List.drop_succ_cons, List.drop_zero, Nat.zero_add, Nat.reduceAdd, e0, e1, e2, e3, e4, e5, e6, e7, e8, e9, e10, e11, e12]
  have hx0 := hL0
  replace hL0 := hL0.call (below_drew hb1)
  replace hS := hS.call (below_drew hb1)
  replace hL0 := GL.tnew (M := []) hL0 hx0 n11 m11 (fun p hp => by cases hp)
  replace hL0 := GL.tnew (M := [(kb11, [.bool false, .slice none 0 0])]) hL0 hx0 n12 m12 (by intro p hp; simp only [List.mem_cons, List.not_mem_nil, or_false] at hp; rcases hp with rfl; exact ptr_ne e11 e12 (hne 11 12 (by omega) (by omega) (by omega) rfl rfl))
  simp only [List.cons_append, List.nil_append] at hL0
  replace hS := hS.cons (rz_rn q6)
  replace hS := hS.cons (rz_rn q10)
  clear e0 e1 e2 e3 e4 e5 e6 e7 e8 e9 e10 e11 e12 hb1 hv hne hx0 n11 m11 n12 m12 q6 q10 fv
  have hS1 := hS.put (((Upd.refl kb11 x3).setCell 0 (.bool (zs u))).setCell 1 (.slice g3 (tln u.natAbs) d3)) (hL0.get _ _ (List.mem_cons_of_mem _ List.mem_cons_self)) (by intro v hv n; simp only [List.mem_cons, List.not_mem_nil, or_false] at hv; rcases hv with rfl | rfl <;> simp)
  have hA := hL0.fc
  simp only [fcG, cellsF, neK, and_true, ne_eq, Nat.zero_add, Nat.reduceAdd] at hA
  have hP := hL0.put 1 (kb11) _ rfl [.bool (zs u), .slice g3 (tln u.natAbs) d3] rfl
  simp only [setAll, List.set_cons_zero, List.set_cons_succ] at hP
  generalize hput1 : ((x3.setCell ⟨kb11, 0, none⟩ (.bool (zs u))).setCell ⟨kb11, 1, none⟩ (.slice g3 (tln u.natAbs) d3)) = x4 at hP hS1
  have hB1 := hP.fc
  simp only [fcG, cellsF, neK, and_true, ne_eq, Nat.zero_add, Nat.reduceAdd] at hB1
  replace hL0 := hP
  replace hS := hS1
  clear hS1
  have hS1 := hS.put (((Upd.refl kb12 x4).setCell 0 (.bool (zs v))).setCell 1 (.slice g4 (tln v.natAbs) d4)) (hL0.get _ _ List.mem_cons_self) (by intro v hv n; simp only [List.mem_cons, List.not_mem_nil, or_false] at hv; rcases hv with rfl | rfl <;> simp)
  have hP := hL0.put 0 (kb12) _ rfl [.bool (zs v), .slice g4 (tln v.natAbs) d4] rfl
  simp only [setAll, List.set_cons_zero, List.set_cons_succ] at hP
  generalize hput2 : ((x4.setCell ⟨kb12, 0, none⟩ (.bool (zs v))).setCell ⟨kb12, 1, none⟩ (.slice g4 (tln v.natAbs) d4)) = x5 at hP hS1
  have hB2 := hP.fc
  simp only [fcG, cellsF, neK, and_true, ne_eq, Nat.zero_add, Nat.reduceAdd] at hB2
  replace hL0 := hP
  replace hS := hS1
  clear hS1
  go_wp2_with fail
  clear hA
  with_reducible refine Calls.mono (HS.out (.agg #[.bool (zs v), .slice g4 (tln v.natAbs) d4]) _ (rz_of (hS.get List.mem_cons_self))) ?_
  rintro e x6 ⟨rfl, hb⟩
  replace hL0 := hL0.call hb
  replace hS := hS.call hb
  clear hb hput1 hB1 hput2 hB2
  have hN0 := cells_of _ 0 [] rfl (hL0.get _ _ List.mem_cons_self)
  simp only [cellsF, and_true, Nat.zero_add, Nat.reduceAdd] at hN0
  go_wp2_with fail
  clear hN0
  with_reducible refine Calls.mono (HS.out (.agg #[.bool (zs v), .slice g4 (tln v.natAbs) d4]) _ (rz_of (hS.get List.mem_cons_self))) ?_
  rintro e x7 ⟨rfl, hb⟩
  replace hL0 := hL0.call hb
  replace hS := hS.call hb
  clear hb
  have hA := hL0.fc
  simp only [fcG, cellsF, neK, and_true, ne_eq, Nat.zero_add, Nat.reduceAdd] at hA
  go_upto_region 7 with fail
  obtain ⟨⟨c0, c1⟩, cf0, cn0, ⟨c2, c3⟩, cf1, cn1, ⟨c4, c5⟩, cf2, cn2, ⟨c6, c7⟩, cf3, cn3, ⟨c8, c9⟩, cf4, cn4, ⟨c10, c11⟩, cf5⟩ := id hA
  clear hA
  go_region
  have hS1 : SS ((((x7.setCell ⟨w.heap.size + 1 + 1, 0, none⟩ (.bool (zs u))).setCell ⟨w.heap.size + 1 + 1, 1, none⟩ (.slice g3 (tln u.natAbs) d3)).setCell ⟨w.heap.size + 1 + 1 + 1, 0, none⟩ (.bool (zs v))).setCell ⟨w.heap.size + 1 + 1 + 1, 1, none⟩ (.slice g4 (tln v.natAbs) d4)).drew [(.slice g4 (tln v.natAbs) d4, v.natAbs), (.slice g3 (tln u.natAbs) d3, u.natAbs), (.slice g2 (tln m) d2, m), (.slice g1 (tln q) d1, q)] := SS.drew ((hS.put (((Upd.refl (w.heap.size + 1 + 1) _).setCell 0 (.bool (zs u))).setCell 1 (.slice g3 (tln u.natAbs) d3)) (hL0.get _ _ (List.mem_cons_of_mem _ (List.mem_cons_of_mem _ (List.mem_cons_of_mem _ List.mem_cons_self)))) (by intro v hv n; simp only [List.mem_cons, List.not_mem_nil, or_false] at hv; rcases hv with rfl | rfl <;> simp)).put (((Upd.refl (w.heap.size + 1 + 1 + 1) _).setCell 0 (.bool (zs v))).setCell 1 (.slice g4 (tln v.natAbs) d4)) ((hL0.put 3 (w.heap.size + 1 + 1) _ rfl [.bool (zs u), .slice g3 (tln u.natAbs) d3] rfl).get _ _ (List.mem_cons_of_mem _ (List.mem_cons_of_mem _ List.mem_cons_self))) (by intro v hv n; simp only [List.mem_cons, List.not_mem_nil, or_false] at hv; rcases hv with rfl | rfl <;> simp))
  have hP := ((hL0.put 3 (w.heap.size + 1 + 1) _ rfl [.bool (zs u), .slice g3 (tln u.natAbs) d3] rfl).put 2 (w.heap.size + 1 + 1 + 1) _ rfl [.bool (zs v), .slice g4 (tln v.natAbs) d4] rfl).drew
  simp only [setAll, List.set_cons_zero, List.set_cons_succ] at hP
  generalize ((((x7.setCell ⟨w.heap.size + 1 + 1, 0, none⟩ (.bool (zs u))).setCell ⟨w.heap.size + 1 + 1, 1, none⟩ (.slice g3 (tln u.natAbs) d3)).setCell ⟨w.heap.size + 1 + 1 + 1, 0, none⟩ (.bool (zs v))).setCell ⟨w.heap.size + 1 + 1 + 1, 1, none⟩ (.slice g4 (tln v.natAbs) d4)).drew = x8 at hP hS1 ⊢
  clear hL0
  have hL0 := hP
  clear hP
  clear c0 c1 cf0 cn0 c2 c3 cf1 cn1 c4 c5 cf2 cn2 c6 c7 cf3 cn3 c8 c9 cf4 cn4 c10 c11 cf5
  replace hS := hS1
  clear hS1
  have hN0 := cells_of _ 0 [] rfl (hL0.get _ _ (List.mem_cons_of_mem _ (List.mem_cons_of_mem _ List.mem_cons_self)))
  simp only [cellsF, and_true, Nat.zero_add, Nat.reduceAdd] at hN0
  have hN1 := cells_of _ 0 [] rfl (hL0.get _ _ (List.mem_cons_of_mem _ (List.mem_cons_of_mem _ (List.mem_cons_of_mem _ List.mem_cons_self))))
  simp only [cellsF, and_true, Nat.zero_add, Nat.reduceAdd] at hN1
  go_wp2_with fail
  exact bodyPost_ret (v := .tuple #[.agg #[.bool (zs u), .slice g3 (tln u.natAbs) d3], .agg #[.bool (zs v), .slice g4 (tln v.natAbs) d4]]) (by simp [results, Tryd.results62, go_sem, hN0 ,hN1]) rfl ⟨_, _, rfl, (rz_of (hS.get (List.mem_cons_of_mem _ List.mem_cons_self))), (rz_of (hS.get List.mem_cons_self)), hL0.bl⟩
set_option maxHeartbeats 4000000 in
set_option maxRecDepth 100000 in
theorem rzdiv_pos (x y u v s r : Int) (q m : Nat) (t g h : Int) (HD : ∀ (p0 p1 : Value) (w : World), Rn w p0 x.natAbs → Rn w p1 y.natAbs → Calls Tryd.prog 83 #[p0, p1] w fun e w' => ∃ v0 v1, e = .returned (.tuple #[v0, v1]) ∧ Rn w' v0 q ∧ Rn w' v1 m ∧ Below w.heap.size w w') (HF : ∀ (p1 : Value) (w : World), Rn w p1 q → Calls Tryd.prog 61 #[.bool (!(zs x == zs y)), p1] w fun e w' => ∃ pv, e = .returned pv ∧ RZ w' pv u ∧ Below w.heap.size w w') (HG : ∀ (p1 : Value) (w : World), Rn w p1 m → Calls Tryd.prog 61 #[.bool (zs x), p1] w fun e w' => ∃ pv, e = .returned pv ∧ RZ w' pv v ∧ Below w.heap.size w w') (HS : ∀ (p0 : Value) (w : World), RZ w p0 v → Calls Tryd.prog 60 #[p0] w fun e w' => e = .returned (.int .i64 s) ∧ Below w.heap.size w w') (HR : ∀ (p0 : Value) (w : World), RZ w p0 y → Calls Tryd.prog 60 #[p0] w fun e w' => e = .returned (.int .i64 r) ∧ Below w.heap.size w w') (HO : ∀ (w : World), Calls Tryd.prog 38 #[.int .i64 1] w fun e w' => ∃ pv, e = .returned pv ∧ RZ w' pv t ∧ Below w.heap.size w w') (HB : ∀ (p0 p1 : Value) (w : World), RZ w p0 u → RZ w p1 t → Calls Tryd.prog 63 #[p0, p1] w fun e w' => ∃ pv, e = .returned pv ∧ RZ w' pv g ∧ Below w.heap.size w w') (HA : ∀ (p0 p1 : Value) (w : World), RZ w p0 v → RZ w p1 y → Calls Tryd.prog 84 #[p0, p1] w fun e w' => ∃ pv, e = .returned pv ∧ RZ w' pv h ∧ Below w.heap.size w w') (hs0 : decide (s < 0) = true) (hs1 : decide (0 < r) = true) (p0 : Value) (p1 : Value) (w : World) (r0 : RZ w p0 x) (r1 : RZ w p1 y) :
  Calls Tryd.prog 62 #[p0, p1] w fun e w' => ∃ v0 v1, e = .returned (.tuple #[v0, v1]) ∧ RZ w' v0 g ∧ RZ w' v1 h ∧ Below w.heap.size w w' := by
 obtain ⟨a0, c0, rfl⟩ := rz_form r0
 have f0 := Lib.hid (rz_rn r0)
 clear r0
 obtain ⟨a1, c1, rfl⟩ := rz_form r1
 have f1 := Lib.hid (rz_rn r1)
 clear r1
 replace HD := Lib.hid HD
 replace HF := Lib.hid HF
 replace HG := Lib.hid HG
 replace HS := Lib.hid HS
 replace HR := Lib.hid HR
 replace HO := Lib.hid HO
 replace HB := Lib.hid HB
 replace HA := Lib.hid HA
 have hL0 : GL w w [] := GL.start w
 have hS : SS w [] := SS.nil w
 replace hS := ((((hS.new (.cells #[.bool (zs x), .slice a0 (tln x.natAbs) c0] 65)).new (.cells #[.bool (zs y), .slice a1 (tln y.natAbs) c1] 65)).new (.cells #[.bool false, .slice none 0 0] 65)).new (.cells #[.bool false, .slice none 0 0] 65))
 replace hL0 := ((((hL0.new rfl [.bool (zs x), .slice a0 (tln x.natAbs) c0] 65).new (K := w.heap.size + 1) (szA _ _) [.bool (zs y), .slice a1 (tln y.natAbs) c1] 65).new (K := w.heap.size + 1 + 1) (by simp only [World.size_alloc]) [.bool false, .slice none 0 0] 65).new (K := w.heap.size + 1 + 1 + 1) (by simp only [World.size_alloc]) [.bool false, .slice none 0 0] 65)
 generalize hweq : ((((w.alloc (.cells #[.bool (zs x), .slice a0 (tln x.natAbs) c0] 65)).alloc (.cells #[.bool (zs y), .slice a1 (tln y.natAbs) c1] 65)).alloc (.cells #[.bool false, .slice none 0 0] 65)).alloc (.cells #[.bool false, .slice none 0 0] 65)) = x1 at hL0 hS
 go_enter Tryd.func62, Tryd.ntmps62
 have hN0 := cells_of _ 0 [] rfl (hL0.get _ _ (List.mem_cons_of_mem _ (List.mem_cons_of_mem _ List.mem_cons_self)))
 simp only [cellsF, and_true, Nat.zero_add, Nat.reduceAdd] at hN0
 have hN1 := cells_of _ 0 [] rfl (hL0.get _ _ (List.mem_cons_of_mem _ (List.mem_cons_of_mem _ (List.mem_cons_of_mem _ List.mem_cons_self))))
 simp only [cellsF, and_true, Nat.zero_add, Nat.reduceAdd] at hN1
 go_wp2_with fail
 clear hN0 hN1
 with_reducible refine Calls.mono (HD.out (.slice a0 (tln x.natAbs) c0) (.slice a1 (tln y.natAbs) c1) _ (Sl.below f0.out hL0.bl) (Sl.below f1.out hL0.bl)) ?_
 rintro e x2 ⟨v0, v1, rfl, q0, q1, hb⟩
 replace hL0 := hL0.call hb
 replace hS := hS.call hb
 clear hb hweq
 obtain ⟨g1, d1, rfl⟩ := rn_form q0
 replace hS := hS.cons q0
 clear q0
 obtain ⟨g2, d2, rfl⟩ := rn_form q1
 replace hS := hS.cons q1
 clear q1
 go_upto_region 2 with fail
 refine region_tal 13 [EV (.pointer (some ⟨w.heap.size, 0, none⟩)), EV (.bool (zs x)), EV (.pointer (some ⟨w.heap.size + 1, 0, none⟩)), EV (.bool (zs y)), EV (.bool (!(zs x == zs y))), EV (.slice g1 (tln q) d1), PZ u, EV (.pointer (some ⟨w.heap.size, 0, none⟩)), EV (.bool (zs x)), EV (.slice g2 (tln m) d2), PZ v, NewB x2.heap.size [.bool false, .slice none 0 0], NewB x2.heap.size [.bool false, .slice none 0 0]] [11, 12] (by kernel_rfl) (by kernel_rfl) ?_ ?_ ?_ ?_ ?_
 ·exact stays_cons (stays_eq _) (stays_cons (stays_eq _) (stays_cons (stays_eq _) (stays_cons (stays_eq _) (stays_cons (stays_eq _) (stays_cons (stays_eq _) (stays_cons (stays_rz _) (stays_cons (stays_eq _) (stays_cons (stays_eq _) (stays_cons (stays_eq _) (stays_cons (stays_rz _) (stays_cons (stays_new _ _) (stays_cons (stays_new _ _) (stays_nil)))))))))))))
 ·simp only [List.take_succ_cons, List.take_zero, hopsR, and_true]
  refine ⟨?_, ?_, ?_, ?_, ?_, ?_, ?_, ?_, ?_, ?_, ?_, ?_, ?_⟩ <;> intro fv w1 hb1 hp
  all_goals (simp only [putsV, Act.put, List.setIfInBounds_toArray, List.set_cons_succ, List.set_cons_zero, Nat.zero_add, Nat.reduceAdd])
  ·refine tyAt_none rfl ?_
   simp [tyUpon, execOp, go_sem, Act.eval, Below.refl]
  ·have h0 : EV _ (fv 0) w1 := hp 0 (LC (by kernel_rfl))
   refine tyAt_none rfl ?_
   have hc := (hL0.call (below_drew hb1)).fc
   simp only [fcG, cellsF, neK, and_true, ne_eq, Nat.zero_add, Nat.reduceAdd] at hc
   simp [tyUpon, execOp, go_sem, Act.eval, hc, h0, Below.refl]
  ·refine tyAt_none rfl ?_
   simp [tyUpon, execOp, go_sem, Act.eval, Below.refl]
  ·have h2 : EV _ (fv 2) w1 := hp 2 (LC (by kernel_rfl))
   refine tyAt_none rfl ?_
   have hc := (hL0.call (below_drew hb1)).fc
   simp only [fcG, cellsF, neK, and_true, ne_eq, Nat.zero_add, Nat.reduceAdd] at hc
   simp [tyUpon, execOp, go_sem, Act.eval, hc, h2, Below.refl]
  ·have h1 : EV _ (fv 1) w1 := hp 1 (LC (by kernel_rfl))
   have h3 : EV _ (fv 3) w1 := hp 3 (LC (by kernel_rfl))
   refine tyAt_none rfl ?_
   simp [tyUpon, execOp, go_sem, Act.eval, h1, h3, Below.refl]
  ·refine tyAt_none rfl ?_
   simp [tyUpon, execOp, go_sem, Act.eval, Below.refl]
  ·have h4 : EV _ (fv 4) w1 := hp 4 (LC (by kernel_rfl))
   have h5 : EV _ (fv 5) w1 := hp 5 (LC (by kernel_rfl))
   refine tyAt_none rfl ?_
   refine ty_call (f := 61) (args := #[.bool (!(zs x == zs y)), .slice g1 (tln q) d1]) (by simp [execOp, go_sem, Act.eval, h4, h5]) ?_
   exact (HF.out (.slice g1 (tln q) d1) w1 (Sl.below (hS.get (List.mem_cons_of_mem _ List.mem_cons_self)) (below_drew hb1))).mono fun e w2 ⟨pv, h1, h2, h3⟩ => ⟨pv, h1, h2, h3⟩
  ·refine tyAt_none rfl ?_
   simp [tyUpon, execOp, go_sem, Act.eval, Below.refl]
  ·have h7 : EV _ (fv 7) w1 := hp 7 (LC (by kernel_rfl))
   refine tyAt_none rfl ?_
   have hc := (hL0.call (below_drew hb1)).fc
   simp only [fcG, cellsF, neK, and_true, ne_eq, Nat.zero_add, Nat.reduceAdd] at hc
   simp [tyUpon, execOp, go_sem, Act.eval, hc, h7, Below.refl]
  ·refine tyAt_none rfl ?_
   simp [tyUpon, execOp, go_sem, Act.eval, Below.refl]
  ·have h8 : EV _ (fv 8) w1 := hp 8 (LC (by kernel_rfl))
   have h9 : EV _ (fv 9) w1 := hp 9 (LC (by kernel_rfl))
   refine tyAt_none rfl ?_
   refine ty_call (f := 61) (args := #[.bool (zs x), .slice g2 (tln m) d2]) (by simp [execOp, go_sem, Act.eval, h8, h9]) ?_
   exact (HG.out (.slice g2 (tln m) d2) w1 (Sl.below (hS.get List.mem_cons_self) (below_drew hb1))).mono fun e w2 ⟨pv, h1, h2, h3⟩ => ⟨pv, h1, h2, h3⟩
  ·exact tyAt_new rfl rfl new_rz (below_drew hb1).size
  ·exact tyAt_new rfl rfl new_rz (below_drew hb1).size
 ·intro j hj u w2 hT
  simp only [List.contains_iff_mem, List.mem_cons, List.not_mem_nil, or_false] at hj
  rcases hj with rfl | rfl <;> exact NewB.ptr hT
 ·exact ⟨⟨_, _, _, _, rfl, rfl, rfl, new_rz⟩, ⟨_, _, _, _, rfl, rfl, rfl, new_rz⟩, trivial⟩
 ·intro fv x3 hb1 hv hne
  have e0 : fv 0 = _ := hv 0 (by omega)
  have e1 : fv 1 = _ := hv 1 (by omega)
  have e2 : fv 2 = _ := hv 2 (by omega)
  have e3 : fv 3 = _ := hv 3 (by omega)
  have e4 : fv 4 = _ := hv 4 (by omega)
  have e5 : fv 5 = _ := hv 5 (by omega)
  have q6 : RZ x3 (fv 6) u := hv 6 (by omega)
  obtain ⟨g3, d3, e6⟩ := rz_form q6
  rw [e6] at q6
  have e7 : fv 7 = _ := hv 7 (by omega)
  have e8 : fv 8 = _ := hv 8 (by omega)
  have e9 : fv 9 = _ := hv 9 (by omega)
  have q10 : RZ x3 (fv 10) v := hv 10 (by omega)
  obtain ⟨g4, d4, e10⟩ := rz_form q10
  rw [e10] at q10
  obtain ⟨kb11, e11, n11, m11⟩ : NewB x2.heap.size [.bool false, .slice none 0 0] (fv 11) x3 := hv 11 (by omega)
  obtain ⟨kb12, e12, n12, m12⟩ : NewB x2.heap.size [.bool false, .slice none 0 0] (fv 12) x3 := hv 12 (by omega)
  simp only [List.take_succ_cons, List.take_zero, putsV, Act.put, List.setIfInBounds_toArray, List.set_cons_succ, List.set_cons_zero, List.drop_succ_cons, List.drop_zero, Nat.zero_add, Nat.reduceAdd, e0, e1, e2, e3, e4, e5, e6, e7, e8, e9, e10, e11, e12]
  have hx0 := hL0
  replace hL0 := hL0.call (below_drew hb1)
  replace hS := hS.call (below_drew hb1)
  replace hL0 := GL.tnew (M := []) hL0 hx0 n11 m11 (fun p hp => by cases hp)
  replace hL0 := GL.tnew (M := [(kb11, [.bool false, .slice none 0 0])]) hL0 hx0 n12 m12 (by intro p hp; simp only [List.mem_cons, List.not_mem_nil, or_false] at hp; rcases hp with rfl; exact ptr_ne e11 e12 (hne 11 12 (by omega) (by omega) (by omega) rfl rfl))
  simp only [List.cons_append, List.nil_append] at hL0
  replace hS := hS.cons (rz_rn q6)
  replace hS := hS.cons (rz_rn q10)
  clear e0 e1 e2 e3 e4 e5 e6 e7 e8 e9 e10 e11 e12 hb1 hv hne hx0 n11 m11 n12 m12 q6 q10 fv
  have hS1 := hS.put (((Upd.refl kb11 x3).setCell 0 (.bool (zs u))).setCell 1 (.slice g3 (tln u.natAbs) d3)) (hL0.get _ _ (List.mem_cons_of_mem _ List.mem_cons_self)) (by intro v hv n; simp only [List.mem_cons, List.not_mem_nil, or_false] at hv; rcases hv with rfl | rfl <;> simp)
  have hA := hL0.fc
  simp only [fcG, cellsF, neK, and_true, ne_eq, Nat.zero_add, Nat.reduceAdd] at hA
  have hP := hL0.put 1 (kb11) _ rfl [.bool (zs u), .slice g3 (tln u.natAbs) d3] rfl
  simp only [setAll, List.set_cons_zero, List.set_cons_succ] at hP
  generalize hput1 : ((x3.setCell ⟨kb11, 0, none⟩ (.bool (zs u))).setCell ⟨kb11, 1, none⟩ (.slice g3 (tln u.natAbs) d3)) = x4 at hP hS1
  have hB1 := hP.fc
  simp only [fcG, cellsF, neK, and_true, ne_eq, Nat.zero_add, Nat.reduceAdd] at hB1
  replace hL0 := hP
  replace hS := hS1
  clear hS1
  have hS1 := hS.put (((Upd.refl kb12 x4).setCell 0 (.bool (zs v))).setCell 1 (.slice g4 (tln v.natAbs) d4)) (hL0.get _ _ List.mem_cons_self) (by intro v hv n; simp only [List.mem_cons, List.not_mem_nil, or_false] at hv; rcases hv with rfl | rfl <;> simp)
  have hP := hL0.put 0 (kb12) _ rfl [.bool (zs v), .slice g4 (tln v.natAbs) d4] rfl
  simp only [setAll, List.set_cons_zero, List.set_cons_succ] at hP
  generalize hput2 : ((x4.setCell ⟨kb12, 0, none⟩ (.bool (zs v))).setCell ⟨kb12, 1, none⟩ (.slice g4 (tln v.natAbs) d4)) = x5 at hP hS1
  have hB2 := hP.fc
  simp only [fcG, cellsF, neK, and_true, ne_eq, Nat.zero_add, Nat.reduceAdd] at hB2
  replace hL0 := hP
  replace hS := hS1
  clear hS1
  go_wp2_with fail
  clear hA
  with_reducible refine Calls.mono (HS.out (.agg #[.bool (zs v), .slice g4 (tln v.natAbs) d4]) _ (rz_of (hS.get List.mem_cons_self))) ?_
  rintro e x6 ⟨rfl, hb⟩
  replace hL0 := hL0.call hb
  replace hS := hS.call hb
  clear hb hput1 hB1 hput2 hB2
  have hN0 := cells_of _ 0 [] rfl (hL0.get _ _ (List.mem_cons_of_mem _ (List.mem_cons_of_mem _ (List.mem_cons_of_mem _ (List.mem_cons_of_mem _ List.mem_cons_self)))))
  simp only [cellsF, and_true, Nat.zero_add, Nat.reduceAdd] at hN0
  go_wp2_with fail
  clear hN0
  with_reducible refine Calls.mono (HR.out (.agg #[.bool (zs y), .slice a1 (tln y.natAbs) c1]) _ (rz_of (Sl.below f1.out hL0.bl))) ?_
  rintro e x7 ⟨rfl, hb⟩
  replace hL0 := hL0.call hb
  replace hS := hS.call hb
  clear hb
  go_upto_region 4 with fail
  refine region_tl 6 [EV (.agg #[.bool (zs u), .slice g3 (tln u.natAbs) d3]), PZ t, PZ g, EV (.agg #[.bool (zs v), .slice g4 (tln v.natAbs) d4]), EV (.agg #[.bool (zs y), .slice a1 (tln y.natAbs) c1]), PZ h] (by kernel_rfl) (by kernel_rfl) ?_ ?_ ?_
  ·exact stays_cons (stays_eq _) (stays_cons (stays_rz _) (stays_cons (stays_rz _) (stays_cons (stays_eq _) (stays_cons (stays_eq _) (stays_cons (stays_rz _) (stays_nil))))))
  ·simp only [List.take_succ_cons, List.take_zero, hopsR, and_true]
   refine ⟨?_, ?_, ?_, ?_, ?_, ?_⟩ <;> intro fv w1 hb1 hp
   all_goals (simp only [putsV, Act.put, List.setIfInBounds_toArray, List.set_cons_succ, List.set_cons_zero, Nat.zero_add, Nat.reduceAdd])
   ·refine tyAt_none rfl ?_
    have hc := (hL0.call (below_drew hb1)).fc
    simp only [fcG, cellsF, neK, and_true, ne_eq, Nat.zero_add, Nat.reduceAdd] at hc
    simp [tyUpon, execOp, go_sem, Act.eval, hc, Below.refl]
   ·refine tyAt_none rfl ?_
    refine ty_call (f := 38) (args := #[.int .i64 1]) (by simp [execOp, go_sem, Act.eval]) ?_
    exact (HO.out w1).mono fun e w2 ⟨pv, h1, h2, h3⟩ => ⟨pv, h1, h2, h3⟩
   ·have h0 : EV _ (fv 0) w1 := hp 0 (LC (by kernel_rfl))
    have h1 : PZ _ (fv 1) w1 := hp 1 (LC (by kernel_rfl))
    refine tyAt_none rfl ?_
    refine ty_call (f := 63) (args := #[.agg #[.bool (zs u), .slice g3 (tln u.natAbs) d3], fv 1]) (by simp [execOp, go_sem, Act.eval, h0]) ?_
    exact (HB.out (.agg #[.bool (zs u), .slice g3 (tln u.natAbs) d3]) (fv 1) w1 (rz_of (Sl.below (hS.get (List.mem_cons_of_mem _ List.mem_cons_self)) (below_drew hb1))) h1).mono fun e w2 ⟨pv, h1, h2, h3⟩ => ⟨pv, h1, h2, h3⟩
   ·refine tyAt_none rfl ?_
    have hc := (hL0.call (below_drew hb1)).fc
    simp only [fcG, cellsF, neK, and_true, ne_eq, Nat.zero_add, Nat.reduceAdd] at hc
    simp [tyUpon, execOp, go_sem, Act.eval, hc, Below.refl]
   ·refine tyAt_none rfl ?_
    have hc := (hL0.call (below_drew hb1)).fc
    simp only [fcG, cellsF, neK, and_true, ne_eq, Nat.zero_add, Nat.reduceAdd] at hc
    simp [tyUpon, execOp, go_sem, Act.eval, hc, Below.refl]
   ·have h3 : EV _ (fv 3) w1 := hp 3 (LC (by kernel_rfl))
    have h4 : EV _ (fv 4) w1 := hp 4 (LC (by kernel_rfl))
    refine tyAt_none rfl ?_
    refine ty_call (f := 84) (args := #[.agg #[.bool (zs v), .slice g4 (tln v.natAbs) d4], .agg #[.bool (zs y), .slice a1 (tln y.natAbs) c1]]) (by simp [execOp, go_sem, Act.eval, h3, h4]) ?_
    exact (HA.out (.agg #[.bool (zs v), .slice g4 (tln v.natAbs) d4]) (.agg #[.bool (zs y), .slice a1 (tln y.natAbs) c1]) w1 (rz_of (Sl.below (hS.get List.mem_cons_self) (below_drew hb1))) (rz_of (Sl.below (Sl.below f1.out hL0.bl) (below_drew hb1)))).mono fun e w2 ⟨pv, h1, h2, h3⟩ => ⟨pv, h1, h2, h3⟩
  ·intro fv x8 hb1 hv
   have e0 : fv 0 = _ := hv 0 (by omega)
   have q1 : RZ x8 (fv 1) t := hv 1 (by omega)
   obtain ⟨g5, d5, e1⟩ := rz_form q1
   rw [e1] at q1
   have q2 : RZ x8 (fv 2) g := hv 2 (by omega)
   obtain ⟨g6, d6, e2⟩ := rz_form q2
   rw [e2] at q2
   have e3 : fv 3 = _ := hv 3 (by omega)
   have e4 : fv 4 = _ := hv 4 (by omega)
   have q5 : RZ x8 (fv 5) h := hv 5 (by omega)
   obtain ⟨g7, d7, e5⟩ := rz_form q5
   rw [e5] at q5
   simp only [List.take_succ_cons, List.take_zero, putsV, Act.put, List.setIfInBounds_toArray, List.set_cons_succ, List.set_cons_zero, List.drop_succ_cons, List.drop_zero, Nat.zero_add, Nat.reduceAdd, e0, e1, e2, e3, e4, e5]
   replace hL0 := hL0.call (below_drew hb1)
   replace hS := hS.call (below_drew hb1)
   replace hS := hS.cons (rz_rn q1)
   replace hS := hS.cons (rz_rn q2)
   replace hS := hS.cons (rz_rn q5)
   clear e0 e1 e2 e3 e4 e5 hb1 hv q1 q2 q5 fv
   have hS1 := hS.put (((Upd.refl (w.heap.size + 1 + 1) x8).setCell 0 (.bool (zs g))).setCell 1 (.slice g6 (tln g.natAbs) d6)) (hL0.get _ _ (List.mem_cons_of_mem _ (List.mem_cons_of_mem _ (List.mem_cons_of_mem _ List.mem_cons_self)))) (by intro v hv n; simp only [List.mem_cons, List.not_mem_nil, or_false] at hv; rcases hv with rfl | rfl <;> simp)
   have hA := hL0.fc
   simp only [fcG, cellsF, neK, and_true, ne_eq, Nat.zero_add, Nat.reduceAdd] at hA
   have hP := hL0.put 3 (w.heap.size + 1 + 1) _ rfl [.bool (zs g), .slice g6 (tln g.natAbs) d6] rfl
   simp only [setAll, List.set_cons_zero, List.set_cons_succ] at hP
   generalize hput3 : ((x8.setCell ⟨w.heap.size + 1 + 1, 0, none⟩ (.bool (zs g))).setCell ⟨w.heap.size + 1 + 1, 1, none⟩ (.slice g6 (tln g.natAbs) d6)) = x9 at hP hS1
   have hB3 := hP.fc
   simp only [fcG, cellsF, neK, and_true, ne_eq, Nat.zero_add, Nat.reduceAdd] at hB3
   replace hL0 := hP
   replace hS := hS1
   clear hS1
   have hS1 := hS.put (((Upd.refl (w.heap.size + 1 + 1 + 1) x9).setCell 0 (.bool (zs h))).setCell 1 (.slice g7 (tln h.natAbs) d7)) (hL0.get _ _ (List.mem_cons_of_mem _ (List.mem_cons_of_mem _ List.mem_cons_self))) (by intro v hv n; simp only [List.mem_cons, List.not_mem_nil, or_false] at hv; rcases hv with rfl | rfl <;> simp)
   have hP := hL0.put 2 (w.heap.size + 1 + 1 + 1) _ rfl [.bool (zs h), .slice g7 (tln h.natAbs) d7] rfl
   simp only [setAll, List.set_cons_zero, List.set_cons_succ] at hP
   generalize hput4 : ((x9.setCell ⟨w.heap.size + 1 + 1 + 1, 0, none⟩ (.bool (zs h))).setCell ⟨w.heap.size + 1 + 1 + 1, 1, none⟩ (.slice g7 (tln h.natAbs) d7)) = x10 at hP hS1
   have hB4 := hP.fc
   simp only [fcG, cellsF, neK, and_true, ne_eq, Nat.zero_add, Nat.reduceAdd] at hB4
   replace hL0 := hP
   replace hS := hS1
   clear hS1
   go_wp2_with fail
   exact bodyPost_ret (v := .tuple #[.agg #[.bool (zs g), .slice g6 (tln g.natAbs) d6], .agg #[.bool (zs h), .slice g7 (tln h.natAbs) d7]]) (by simp [results, Tryd.results62, go_sem, hB4]) rfl ⟨_, _, rfl, (rz_of (hS.get (List.mem_cons_of_mem _ List.mem_cons_self))), (rz_of (hS.get List.mem_cons_self)), hL0.bl⟩
set_option maxHeartbeats 4000000 in
set_option maxRecDepth 100000 in
theorem rzdiv_neg (x y u v s r : Int) (q m : Nat) (t g h : Int) (HD : ∀ (p0 p1 : Value) (w : World), Rn w p0 x.natAbs → Rn w p1 y.natAbs → Calls Tryd.prog 83 #[p0, p1] w fun e w' => ∃ v0 v1, e = .returned (.tuple #[v0, v1]) ∧ Rn w' v0 q ∧ Rn w' v1 m ∧ Below w.heap.size w w') (HF : ∀ (p1 : Value) (w : World), Rn w p1 q → Calls Tryd.prog 61 #[.bool (!(zs x == zs y)), p1] w fun e w' => ∃ pv, e = .returned pv ∧ RZ w' pv u ∧ Below w.heap.size w w') (HG : ∀ (p1 : Value) (w : World), Rn w p1 m → Calls Tryd.prog 61 #[.bool (zs x), p1] w fun e w' => ∃ pv, e = .returned pv ∧ RZ w' pv v ∧ Below w.heap.size w w') (HS : ∀ (p0 : Value) (w : World), RZ w p0 v → Calls Tryd.prog 60 #[p0] w fun e w' => e = .returned (.int .i64 s) ∧ Below w.heap.size w w') (HR : ∀ (p0 : Value) (w : World), RZ w p0 y → Calls Tryd.prog 60 #[p0] w fun e w' => e = .returned (.int .i64 r) ∧ Below w.heap.size w w') (HO : ∀ (w : World), Calls Tryd.prog 38 #[.int .i64 1] w fun e w' => ∃ pv, e = .returned pv ∧ RZ w' pv t ∧ Below w.heap.size w w') (HA : ∀ (p0 p1 : Value) (w : World), RZ w p0 u → RZ w p1 t → Calls Tryd.prog 84 #[p0, p1] w fun e w' => ∃ pv, e = .returned pv ∧ RZ w' pv g ∧ Below w.heap.size w w') (HB : ∀ (p0 p1 : Value) (w : World), RZ w p0 v → RZ w p1 y → Calls Tryd.prog 63 #[p0, p1] w fun e w' => ∃ pv, e = .returned pv ∧ RZ w' pv h ∧ Below w.heap.size w w') (hs0 : decide (s < 0) = true) (hs1 : decide (0 < r) = false) (p0 : Value) (p1 : Value) (w : World) (r0 : RZ w p0 x) (r1 : RZ w p1 y) :
  Calls Tryd.prog 62 #[p0, p1] w fun e w' => ∃ v0 v1, e = .returned (.tuple #[v0, v1]) ∧ RZ w' v0 g ∧ RZ w' v1 h ∧ Below w.heap.size w w' := by
 obtain ⟨a0, c0, rfl⟩ := rz_form r0
 have f0 := Lib.hid (rz_rn r0)
 clear r0
 obtain ⟨a1, c1, rfl⟩ := rz_form r1
 have f1 := Lib.hid (rz_rn r1)
 clear r1
 replace HD := Lib.hid HD
 replace HF := Lib.hid HF
 replace HG := Lib.hid HG
 replace HS := Lib.hid HS
 replace HR := Lib.hid HR
 replace HO := Lib.hid HO
 replace HA := Lib.hid HA
 replace HB := Lib.hid HB
 have hL0 : GL w w [] := GL.start w
 have hS : SS w [] := SS.nil w
 replace hS := ((((hS.new (.cells #[.bool (zs x), .slice a0 (tln x.natAbs) c0] 65)).new (.cells #[.bool (zs y), .slice a1 (tln y.natAbs) c1] 65)).new (.cells #[.bool false, .slice none 0 0] 65)).new (.cells #[.bool false, .slice none 0 0] 65))
 replace hL0 := ((((hL0.new rfl [.bool (zs x), .slice a0 (tln x.natAbs) c0] 65).new (K := w.heap.size + 1) (szA _ _) [.bool (zs y), .slice a1 (tln y.natAbs) c1] 65).new (K := w.heap.size + 1 + 1) (by simp only [World.size_alloc]) [.bool false, .slice none 0 0] 65).new (K := w.heap.size + 1 + 1 + 1) (by simp only [World.size_alloc]) [.bool false, .slice none 0 0] 65)
 generalize hweq : ((((w.alloc (.cells #[.bool (zs x), .slice a0 (tln x.natAbs) c0] 65)).alloc (.cells #[.bool (zs y), .slice a1 (tln y.natAbs) c1] 65)).alloc (.cells #[.bool false, .slice none 0 0] 65)).alloc (.cells #[.bool false, .slice none 0 0] 65)) = x1 at hL0 hS
 go_enter Tryd.func62, Tryd.ntmps62
 have hN0 := cells_of _ 0 [] rfl (hL0.get _ _ (List.mem_cons_of_mem _ (List.mem_cons_of_mem _ List.mem_cons_self)))
 simp only [cellsF, and_true, Nat.zero_add, Nat.reduceAdd] at hN0
 have hN1 := cells_of _ 0 [] rfl (hL0.get _ _ (List.mem_cons_of_mem _ (List.mem_cons_of_mem _ (List.mem_cons_of_mem _ List.mem_cons_self))))
 simp only [cellsF, and_true, Nat.zero_add, Nat.reduceAdd] at hN1
 go_wp2_with fail
 clear hN0 hN1
 with_reducible refine Calls.mono (HD.out (.slice a0 (tln x.natAbs) c0) (.slice a1 (tln y.natAbs) c1) _ (Sl.below f0.out hL0.bl) (Sl.below f1.out hL0.bl)) ?_
 rintro e x2 ⟨v0, v1, rfl, q0, q1, hb⟩
 replace hL0 := hL0.call hb
 replace hS := hS.call hb
 clear hb hweq
 obtain ⟨g1, d1, rfl⟩ := rn_form q0
 replace hS := hS.cons q0
 clear q0
 obtain ⟨g2, d2, rfl⟩ := rn_form q1
 replace hS := hS.cons q1
 clear q1
 go_upto_region 2 with fail
 refine region_tal 13 [EV (.pointer (some ⟨w.heap.size, 0, none⟩)), EV (.bool (zs x)), EV (.pointer (some ⟨w.heap.size + 1, 0, none⟩)), EV (.bool (zs y)), EV (.bool (!(zs x == zs y))), EV (.slice g1 (tln q) d1), PZ u, EV (.pointer (some ⟨w.heap.size, 0, none⟩)), EV (.bool (zs x)), EV (.slice g2 (tln m) d2), PZ v, NewB x2.heap.size [.bool false, .slice none 0 0], NewB x2.heap.size [.bool false, .slice none 0 0]] [11, 12] (by kernel_rfl) (by kernel_rfl) ?_ ?_ ?_ ?_ ?_
 ·exact stays_cons (stays_eq _) (stays_cons (stays_eq _) (stays_cons (stays_eq _) (stays_cons (stays_eq _) (stays_cons (stays_eq _) (stays_cons (stays_eq _) (stays_cons (stays_rz _) (stays_cons (stays_eq _) (stays_cons (stays_eq _) (stays_cons (stays_eq _) (stays_cons (stays_rz _) (stays_cons (stays_new _ _) (stays_cons (stays_new _ _) (stays_nil)))))))))))))
 ·simp only [List.take_succ_cons, List.take_zero, hopsR, and_true]
  refine ⟨?_, ?_, ?_, ?_, ?_, ?_, ?_, ?_, ?_, ?_, ?_, ?_, ?_⟩ <;> intro fv w1 hb1 hp
  all_goals (simp only [putsV, Act.put, List.setIfInBounds_toArray, List.set_cons_succ, List.set_cons_zero, Nat.zero_add, Nat.reduceAdd])
  ·refine tyAt_none rfl ?_
   simp [tyUpon, execOp, go_sem, Act.eval, Below.refl]
  ·have h0 : EV _ (fv 0) w1 := hp 0 (LC (by kernel_rfl))
   refine tyAt_none rfl ?_
   have hc := (hL0.call (below_drew hb1)).fc
   simp only [fcG, cellsF, neK, and_true, ne_eq, Nat.zero_add, Nat.reduceAdd] at hc
   simp [tyUpon, execOp, go_sem, Act.eval, hc, h0, Below.refl]
  ·refine tyAt_none rfl ?_
   simp [tyUpon, execOp, go_sem, Act.eval, Below.refl]
  ·have h2 : EV _ (fv 2) w1 := hp 2 (LC (by kernel_rfl))
   refine tyAt_none rfl ?_
   have hc := (hL0.call (below_drew hb1)).fc
   simp only [fcG, cellsF, neK, and_true, ne_eq, Nat.zero_add, Nat.reduceAdd] at hc
   simp [tyUpon, execOp, go_sem, Act.eval, hc, h2, Below.refl]
  ·have h1 : EV _ (fv 1) w1 := hp 1 (LC (by kernel_rfl))
   have h3 : EV _ (fv 3) w1 := hp 3 (LC (by kernel_rfl))
   refine tyAt_none rfl ?_
   simp [tyUpon, execOp, go_sem, Act.eval, h1, h3, Below.refl]
  ·refine tyAt_none rfl ?_
   simp [tyUpon, execOp, go_sem, Act.eval, Below.refl]
  ·have h4 : EV _ (fv 4) w1 := hp 4 (LC (by kernel_rfl))
   have h5 : EV _ (fv 5) w1 := hp 5 (LC (by kernel_rfl))
   refine tyAt_none rfl ?_
   refine ty_call (f := 61) (args := #[.bool (!(zs x == zs y)), .slice g1 (tln q) d1]) (by simp [execOp, go_sem, Act.eval, h4, h5]) ?_
   exact (HF.out (.slice g1 (tln q) d1) w1 (Sl.below (hS.get (List.mem_cons_of_mem _ List.mem_cons_self)) (below_drew hb1))).mono fun e w2 ⟨pv, h1, h2, h3⟩ => ⟨pv, h1, h2, h3⟩
  ·refine tyAt_none rfl ?_
   simp [tyUpon, execOp, go_sem, Act.eval, Below.refl]
  ·have h7 : EV _ (fv 7) w1 := hp 7 (LC (by kernel_rfl))
   refine tyAt_none rfl ?_
   have hc := (hL0.call (below_drew hb1)).fc
   simp only [fcG, cellsF, neK, and_true, ne_eq, Nat.zero_add, Nat.reduceAdd] at hc
   simp [tyUpon, execOp, go_sem, Act.eval, hc, h7, Below.refl]
  ·refine tyAt_none rfl ?_
   simp [tyUpon, execOp, go_sem, Act.eval, Below.refl]
  ·have h8 : EV _ (fv 8) w1 := hp 8 (LC (by kernel_rfl))
   have h9 : EV _ (fv 9) w1 := hp 9 (LC (by kernel_rfl))
   refine tyAt_none rfl ?_
   refine ty_call (f := 61) (args := #[.bool (zs x), .slice g2 (tln m) d2]) (by simp [execOp, go_sem, Act.eval, h8, h9]) ?_
   exact (HG.out (.slice g2 (tln m) d2) w1 (Sl.below (hS.get List.mem_cons_self) (below_drew hb1))).mono fun e w2 ⟨pv, h1, h2, h3⟩ => ⟨pv, h1, h2, h3⟩
  ·exact tyAt_new rfl rfl new_rz (below_drew hb1).size
  ·exact tyAt_new rfl rfl new_rz (below_drew hb1).size
 ·intro j hj u w2 hT
  simp only [List.contains_iff_mem, List.mem_cons, List.not_mem_nil, or_false] at hj
  rcases hj with rfl | rfl <;> exact NewB.ptr hT
 ·exact ⟨⟨_, _, _, _, rfl, rfl, rfl, new_rz⟩, ⟨_, _, _, _, rfl, rfl, rfl, new_rz⟩, trivial⟩
 ·intro fv x3 hb1 hv hne
  have e0 : fv 0 = _ := hv 0 (by omega)
  have e1 : fv 1 = _ := hv 1 (by omega)
  have e2 : fv 2 = _ := hv 2 (by omega)
  have e3 : fv 3 = _ := hv 3 (by omega)
  have e4 : fv 4 = _ := hv 4 (by omega)
  have e5 : fv 5 = _ := hv 5 (by omega)
  have q6 : RZ x3 (fv 6) u := hv 6 (by omega)
  obtain ⟨g3, d3, e6⟩ := rz_form q6
  rw [e6] at q6
  have e7 : fv 7 = _ := hv 7 (by omega)
  have e8 : fv 8 = _ := hv 8 (by omega)
  have e9 : fv 9 = _ := hv 9 (by omega)
  have q10 : RZ x3 (fv 10) v := hv 10 (by omega)
  obtain ⟨g4, d4, e10⟩ := rz_form q10
  rw [e10] at q10
  obtain ⟨kb11, e11, n11, m11⟩ : NewB x2.heap.size [.bool false, .slice none 0 0] (fv 11) x3 := hv 11 (by omega)
  obtain ⟨kb12, e12, n12, m12⟩ : NewB x2.heap.size [.bool false, .slice none 0 0] (fv 12) x3 := hv 12 (by omega)
  simp only [List.take_succ_cons, List.take_zero, putsV, Act.put, List.setIfInBounds_toArray, List.set_cons_succ, List.set_cons_zero, List.drop_succ_cons, List.drop_zero, Nat.zero_add, Nat.reduceAdd, e0, e1, e2, e3, e4, e5, e6, e7, e8, e9, e10, e11, e12]
  have hx0 := hL0
  replace hL0 := hL0.call (below_drew hb1)
  replace hS := hS.call (below_drew hb1)
  replace hL0 := GL.tnew (M := []) hL0 hx0 n11 m11 (fun p hp => by cases hp)
  replace hL0 := GL.tnew (M := [(kb11, [.bool false, .slice none 0 0])]) hL0 hx0 n12 m12 (by intro p hp; simp only [List.mem_cons, List.not_mem_nil, or_false] at hp; rcases hp with rfl; exact ptr_ne e11 e12 (hne 11 12 (by omega) (by omega) (by omega) rfl rfl))
  simp only [List.cons_append, List.nil_append] at hL0
  replace hS := hS.cons (rz_rn q6)
  replace hS := hS.cons (rz_rn q10)
  clear e0 e1 e2 e3 e4 e5 e6 e7 e8 e9 e10 e11 e12 hb1 hv hne hx0 n11 m11 n12 m12 q6 q10 fv
  have hS1 := hS.put (((Upd.refl kb11 x3).setCell 0 (.bool (zs u))).setCell 1 (.slice g3 (tln u.natAbs) d3)) (hL0.get _ _ (List.mem_cons_of_mem _ List.mem_cons_self)) (by intro v hv n; simp only [List.mem_cons, List.not_mem_nil, or_false] at hv; rcases hv with rfl | rfl <;> simp)
  have hA := hL0.fc
  simp only [fcG, cellsF, neK, and_true, ne_eq, Nat.zero_add, Nat.reduceAdd] at hA
  have hP := hL0.put 1 (kb11) _ rfl [.bool (zs u), .slice g3 (tln u.natAbs) d3] rfl
  simp only [setAll, List.set_cons_zero, List.set_cons_succ] at hP
  generalize hput1 : ((x3.setCell ⟨kb11, 0, none⟩ (.bool (zs u))).setCell ⟨kb11, 1, none⟩ (.slice g3 (tln u.natAbs) d3)) = x4 at hP hS1
  have hB1 := hP.fc
  simp only [fcG, cellsF, neK, and_true, ne_eq, Nat.zero_add, Nat.reduceAdd] at hB1
  replace hL0 := hP
  replace hS := hS1
  clear hS1
  have hS1 := hS.put (((Upd.refl kb12 x4).setCell 0 (.bool (zs v))).setCell 1 (.slice g4 (tln v.natAbs) d4)) (hL0.get _ _ List.mem_cons_self) (by intro v hv n; simp only [List.mem_cons, List.not_mem_nil, or_false] at hv; rcases hv with rfl | rfl <;> simp)
  have hP := hL0.put 0 (kb12) _ rfl [.bool (zs v), .slice g4 (tln v.natAbs) d4] rfl
  simp only [setAll, List.set_cons_zero, List.set_cons_succ] at hP
  generalize hput2 : ((x4.setCell ⟨kb12, 0, none⟩ (.bool (zs v))).setCell ⟨kb12, 1, none⟩ (.slice g4 (tln v.natAbs) d4)) = x5 at hP hS1
  have hB2 := hP.fc
  simp only [fcG, cellsF, neK, and_true, ne_eq, Nat.zero_add, Nat.reduceAdd] at hB2
  replace hL0 := hP
  replace hS := hS1
  clear hS1
  go_wp2_with fail
  clear hA
  with_reducible refine Calls.mono (HS.out (.agg #[.bool (zs v), .slice g4 (tln v.natAbs) d4]) _ (rz_of (hS.get List.mem_cons_self))) ?_
  rintro e x6 ⟨rfl, hb⟩
  replace hL0 := hL0.call hb
  replace hS := hS.call hb
  clear hb hput1 hB1 hput2 hB2
  have hN0 := cells_of _ 0 [] rfl (hL0.get _ _ (List.mem_cons_of_mem _ (List.mem_cons_of_mem _ (List.mem_cons_of_mem _ (List.mem_cons_of_mem _ List.mem_cons_self)))))
  simp only [cellsF, and_true, Nat.zero_add, Nat.reduceAdd] at hN0
  go_wp2_with fail
  clear hN0
  with_reducible refine Calls.mono (HR.out (.agg #[.bool (zs y), .slice a1 (tln y.natAbs) c1]) _ (rz_of (Sl.below f1.out hL0.bl))) ?_
  rintro e x7 ⟨rfl, hb⟩
  replace hL0 := hL0.call hb
  replace hS := hS.call hb
  clear hb
  have hN0 := cells_of _ 0 [] rfl (hL0.get _ _ List.mem_cons_self)
  simp only [cellsF, and_true, Nat.zero_add, Nat.reduceAdd] at hN0
  go_wp2_with fail
  clear hN0
  with_reducible refine Calls.mono (HS.out (.agg #[.bool (zs v), .slice g4 (tln v.natAbs) d4]) _ (rz_of (hS.get List.mem_cons_self))) ?_
  rintro e x8 ⟨rfl, hb⟩
  replace hL0 := hL0.call hb
  replace hS := hS.call hb
  clear hb
  go_upto_region 6 with fail
  refine region_tl 6 [EV (.agg #[.bool (zs u), .slice g3 (tln u.natAbs) d3]), PZ t, PZ g, EV (.agg #[.bool (zs v), .slice g4 (tln v.natAbs) d4]), EV (.agg #[.bool (zs y), .slice a1 (tln y.natAbs) c1]), PZ h] (by kernel_rfl) (by kernel_rfl) ?_ ?_ ?_
  ·exact stays_cons (stays_eq _) (stays_cons (stays_rz _) (stays_cons (stays_rz _) (stays_cons (stays_eq _) (stays_cons (stays_eq _) (stays_cons (stays_rz _) (stays_nil))))))
  ·simp only [List.take_succ_cons, List.take_zero, hopsR, and_true]
   refine ⟨?_, ?_, ?_, ?_, ?_, ?_⟩ <;> intro fv w1 hb1 hp
   all_goals (simp only [putsV, Act.put, List.setIfInBounds_toArray, List.set_cons_succ, List.set_cons_zero, Nat.zero_add, Nat.reduceAdd])
   ·refine tyAt_none rfl ?_
    have hc := (hL0.call (below_drew hb1)).fc
    simp only [fcG, cellsF, neK, and_true, ne_eq, Nat.zero_add, Nat.reduceAdd] at hc
    simp [tyUpon, execOp, go_sem, Act.eval, hc, Below.refl]
   ·refine tyAt_none rfl ?_
    refine ty_call (f := 38) (args := #[.int .i64 1]) (by simp [execOp, go_sem, Act.eval]) ?_
    exact (HO.out w1).mono fun e w2 ⟨pv, h1, h2, h3⟩ => ⟨pv, h1, h2, h3⟩
   ·have h0 : EV _ (fv 0) w1 := hp 0 (LC (by kernel_rfl))
    have h1 : PZ _ (fv 1) w1 := hp 1 (LC (by kernel_rfl))
    refine tyAt_none rfl ?_
    refine ty_call (f := 84) (args := #[.agg #[.bool (zs u), .slice g3 (tln u.natAbs) d3], fv 1]) (by simp [execOp, go_sem, Act.eval, h0]) ?_
    exact (HA.out (.agg #[.bool (zs u), .slice g3 (tln u.natAbs) d3]) (fv 1) w1 (rz_of (Sl.below (hS.get (List.mem_cons_of_mem _ List.mem_cons_self)) (below_drew hb1))) h1).mono fun e w2 ⟨pv, h1, h2, h3⟩ => ⟨pv, h1, h2, h3⟩
   ·refine tyAt_none rfl ?_
    have hc := (hL0.call (below_drew hb1)).fc
    simp only [fcG, cellsF, neK, and_true, ne_eq, Nat.zero_add, Nat.reduceAdd] at hc
    simp [tyUpon, execOp, go_sem, Act.eval, hc, Below.refl]
   ·refine tyAt_none rfl ?_
    have hc := (hL0.call (below_drew hb1)).fc
    simp only [fcG, cellsF, neK, and_true, ne_eq, Nat.zero_add, Nat.reduceAdd] at hc
    simp [tyUpon, execOp, go_sem, Act.eval, hc, Below.refl]
   ·have h3 : EV _ (fv 3) w1 := hp 3 (LC (by kernel_rfl))
    have h4 : EV _ (fv 4) w1 := hp 4 (LC (by kernel_rfl))
    refine tyAt_none rfl ?_
    refine ty_call (f := 63) (args := #[.agg #[.bool (zs v), .slice g4 (tln v.natAbs) d4], .agg #[.bool (zs y), .slice a1 (tln y.natAbs) c1]]) (by simp [execOp, go_sem, Act.eval, h3, h4]) ?_
    exact (HB.out (.agg #[.bool (zs v), .slice g4 (tln v.natAbs) d4]) (.agg #[.bool (zs y), .slice a1 (tln y.natAbs) c1]) w1 (rz_of (Sl.below (hS.get List.mem_cons_self) (below_drew hb1))) (rz_of (Sl.below (Sl.below f1.out hL0.bl) (below_drew hb1)))).mono fun e w2 ⟨pv, h1, h2, h3⟩ => ⟨pv, h1, h2, h3⟩
  ·intro fv x9 hb1 hv
   have e0 : fv 0 = _ := hv 0 (by omega)
   have q1 : RZ x9 (fv 1) t := hv 1 (by omega)
   obtain ⟨g5, d5, e1⟩ := rz_form q1
   rw [e1] at q1
   have q2 : RZ x9 (fv 2) g := hv 2 (by omega)
   obtain ⟨g6, d6, e2⟩ := rz_form q2
   rw [e2] at q2
   have e3 : fv 3 = _ := hv 3 (by omega)
   have e4 : fv 4 = _ := hv 4 (by omega)
   have q5 : RZ x9 (fv 5) h := hv 5 (by omega)
   obtain ⟨g7, d7, e5⟩ := rz_form q5
   rw [e5] at q5
   simp only [List.take_succ_cons, List.take_zero, putsV, Act.put, List.setIfInBounds_toArray, List.set_cons_succ, List.set_cons_zero, List.drop_succ_cons, List.drop_zero, Nat.zero_add, Nat.reduceAdd, e0, e1, e2, e3, e4, e5]
   replace hL0 := hL0.call (below_drew hb1)
   replace hS := hS.call (below_drew hb1)
   replace hS := hS.cons (rz_rn q1)
   replace hS := hS.cons (rz_rn q2)
   replace hS := hS.cons (rz_rn q5)
   clear e0 e1 e2 e3 e4 e5 hb1 hv q1 q2 q5 fv
   have hS1 := hS.put (((Upd.refl (w.heap.size + 1 + 1) x9).setCell 0 (.bool (zs g))).setCell 1 (.slice g6 (tln g.natAbs) d6)) (hL0.get _ _ (List.mem_cons_of_mem _ (List.mem_cons_of_mem _ (List.mem_cons_of_mem _ List.mem_cons_self)))) (by intro v hv n; simp only [List.mem_cons, List.not_mem_nil, or_false] at hv; rcases hv with rfl | rfl <;> simp)
   have hA := hL0.fc
   simp only [fcG, cellsF, neK, and_true, ne_eq, Nat.zero_add, Nat.reduceAdd] at hA
   have hP := hL0.put 3 (w.heap.size + 1 + 1) _ rfl [.bool (zs g), .slice g6 (tln g.natAbs) d6] rfl
   simp only [setAll, List.set_cons_zero, List.set_cons_succ] at hP
   generalize hput3 : ((x9.setCell ⟨w.heap.size + 1 + 1, 0, none⟩ (.bool (zs g))).setCell ⟨w.heap.size + 1 + 1, 1, none⟩ (.slice g6 (tln g.natAbs) d6)) = x10 at hP hS1
   have hB3 := hP.fc
   simp only [fcG, cellsF, neK, and_true, ne_eq, Nat.zero_add, Nat.reduceAdd] at hB3
   replace hL0 := hP
   replace hS := hS1
   clear hS1
   have hS1 := hS.put (((Upd.refl (w.heap.size + 1 + 1 + 1) x10).setCell 0 (.bool (zs h))).setCell 1 (.slice g7 (tln h.natAbs) d7)) (hL0.get _ _ (List.mem_cons_of_mem _ (List.mem_cons_of_mem _ List.mem_cons_self))) (by intro v hv n; simp only [List.mem_cons, List.not_mem_nil, or_false] at hv; rcases hv with rfl | rfl <;> simp)
   have hP := hL0.put 2 (w.heap.size + 1 + 1 + 1) _ rfl [.bool (zs h), .slice g7 (tln h.natAbs) d7] rfl
   simp only [setAll, List.set_cons_zero, List.set_cons_succ] at hP
   generalize hput4 : ((x10.setCell ⟨w.heap.size + 1 + 1 + 1, 0, none⟩ (.bool (zs h))).setCell ⟨w.heap.size + 1 + 1 + 1, 1, none⟩ (.slice g7 (tln h.natAbs) d7)) = x11 at hP hS1
   have hB4 := hP.fc
   simp only [fcG, cellsF, neK, and_true, ne_eq, Nat.zero_add, Nat.reduceAdd] at hB4
   replace hL0 := hP
   replace hS := hS1
   clear hS1
   go_wp2_with fail
   exact bodyPost_ret (v := .tuple #[.agg #[.bool (zs g), .slice g6 (tln g.natAbs) d6], .agg #[.bool (zs h), .slice g7 (tln h.natAbs) d7]]) (by simp [results, Tryd.results62, go_sem, hB4]) rfl ⟨_, _, rfl, (rz_of (hS.get (List.mem_cons_of_mem _ List.mem_cons_self))), (rz_of (hS.get List.mem_cons_self)), hL0.bl⟩
end Go.Proofs.YtfmakoiiibacjaaDoor
namespace Go.Proofs.YtfmakoiiibacjaaDoor
open Go.RowKit Go.Proofs.YtfmakoiiibacjaaDoor.Rx
def fd (q : Rat) : Nat := q.den - 1
attribute [local irreducible] lo hs sm s64 c64 d64 b64 mh ml pd pc qd qc val hiB str cmpI srD lz nb isq zl zh zs dval tln fd
/-- A fraction of the reference: its numerator, and its denominator minus 1. -/
def RF (w : World) (v : Value) (q : Rat) : Prop := ∃ a b, v = .agg #[.bool (zs q.num), a, b] ∧ Rn w a q.num.natAbs ∧ Rn w b (fd q)
theorem RF.below {w w' : World} {v : Value} {q : Rat} (h : RF w v q) (hb : Below w.heap.size w w') : RF w' v q := by
 obtain ⟨a, b, h1, h2, h3⟩ := h
 exact ⟨a, b, h1, Sl.below h2 hb, Sl.below h3 hb⟩
end Go.Proofs.YtfmakoiiibacjaaDoor
namespace Go.Proofs.YtfmakoiiibacjaaDoor
open Go.RowKit
attribute [local irreducible] lo hs sm s64 c64 d64 b64 mh ml pd pc qd qc val hiB str cmpI srD lz nb isq zl zh zs fe
/-- A slice's fractions. -/
structure FS (w : World) (g : Nat) (qs : List Rat) : Prop where
 cell : ∀ i (h : i < qs.length), w.cell? ⟨g, i * 5, none⟩ = some (.int .u64 ((zl qs[i].num : Nat) : Int)) ∧ w.cell? ⟨g, i * 5 + 1, none⟩ = some (.string (zh qs[i].num)) ∧ w.cell? ⟨g, i * 5 + 2, none⟩ = some (.bool (zs qs[i].num)) ∧
  w.cell? ⟨g, i * 5 + 3, none⟩ = some (.int .u64 ((lo (fe qs[i]) : Nat) : Int)) ∧ w.cell? ⟨g, i * 5 + 4, none⟩ = some (.string (hs (fe qs[i])))
 lt : g < w.heap.size
theorem FS.below {w w' : World} {g : Nat} {qs : List Rat} (h : FS w g qs) (hb : Below w.heap.size w w') : FS w' g qs := by
 have hs := hb.size
 have hl := h.lt
 refine ⟨fun i hi => ?_, by omega⟩
 obtain ⟨h0, h1, h2, h3, h4⟩ := h.cell i hi
 exact ⟨(hb.cell (p := ⟨g, i * 5, none⟩) hl).trans h0, (hb.cell (p := ⟨g, i * 5 + 1, none⟩) hl).trans h1, (hb.cell (p := ⟨g, i * 5 + 2, none⟩) hl).trans h2, (hb.cell (p := ⟨g, i * 5 + 3, none⟩) hl).trans h3, (hb.cell (p := ⟨g, i * 5 + 4, none⟩) hl).trans h4⟩
def SlQ (w : World) (v : Value) (qs : List Rat) : Prop := (∃ ao c, v = .slice ao 0 c ∧ qs = []) ∨ ∃ g c, v = .slice (some ⟨g, 0, none⟩) qs.length c ∧ FS w g qs
theorem SlQ.below {w w' : World} {v : Value} {qs : List Rat} (h : SlQ w v qs) (hb : Below w.heap.size w w') : SlQ w' v qs := by
 rcases h with h | ⟨g, c, h1, h2⟩
 ·exact .inl h
 ·exact .inr ⟨g, c, h1, h2.below hb⟩
theorem SlQ.keeps (v : Value) (qs : List Rat) : Keeps (fun w => SlQ w v qs) := fun _ _ hb h => h.below hb
end Go.Proofs.YtfmakoiiibacjaaDoor
namespace Go.Proofs.YtfmakoiiibacjaaDoor.Rx
open Go.RowKit
attribute [local irreducible] tv dg cmpI nb
theorem td_one : (td 1).length = 1 := by rw [td_pos (by omega), show 1 / 10000 = 0 by rfl, td_zero]; rfl
end Go.Proofs.YtfmakoiiibacjaaDoor.Rx
namespace Go.Proofs.YtfmakoiiibacjaaDoor.Rx
open Go.RowKit
attribute [local irreducible] tv dg cmpI nb isq
/-- What the root's digits so far are good for. -/
structure SqS (a j : Nat) (X : List Nat) : Prop where
 lt : ∀ d ∈ X, d < 10000
 zero : ∀ (k : Nat) (h : k < X.length), k < j → X[k] = 0
 low : tv X * tv X ≤ a
 high : a < (tv X + 10000 ^ j) * (tv X + 10000 ^ j)
theorem SqS.start (a m : Nat) (h : (td a).length ≤ 2 * m) : SqS a m (List.replicate m 0) := by
 refine ⟨fun d hd => by rw [(List.mem_replicate.1 hd).2]; omega, fun k h _ => by simp, by rw [tv_zeros]; omega, ?_⟩
 have := td_length.1 h
 rwa [tv_zeros, Nat.zero_add, ← Nat.pow_add, ← Nat.two_mul]
theorem tv_set0 {X : List Nat} {i : Nat} (h : i < X.length) (h0 : X[i] = 0) (d : Nat) : tv (X.set i d) = tv X + 10000 ^ i * d := by
 have := tv_set h d
 rw [h0, Nat.mul_zero, Nat.add_zero] at this
 exact this
theorem SqS.set {a i : Nat} {X : List Nat} (h : SqS a (i + 1) X) (hi : i < X.length) {d : Nat} (hd : d < 10000) (h1 : (tv X + 10000 ^ i * d) * (tv X + 10000 ^ i * d) ≤ a) (h2 : a < (tv X + 10000 ^ i * (d + 1)) * (tv X + 10000 ^ i * (d + 1))) :
  SqS a i (X.set i d) := by
 have e := tv_set0 hi (h.zero i hi (by omega)) d
 refine ⟨fun x hx => ?_, fun k hk hki => ?_, by rw [e]; exact h1, ?_⟩
 ·rcases List.mem_or_eq_of_mem_set hx with hx | hx
  ·exact h.lt x hx
  ·rw [hx]; exact hd
 ·rw [List.getElem_set_ne (by omega)]
  exact h.zero k (by rw [List.length_set] at hk; exact hk) (by omega)
 ·rw [e, Nat.add_assoc, ← Nat.mul_succ]
  exact h2
theorem SqS.done {a : Nat} {X : List Nat} (h : SqS a 0 X) : tv X = isq a := isq_uniq h.low (by have := h.high; rwa [Nat.pow_zero] at this)
end Go.Proofs.YtfmakoiiibacjaaDoor.Rx
namespace Go.Proofs.YtfmakoiiibacjaaDoor.Rx
open Go.RowKit
attribute [local irreducible] tv dg cmpI nb isq
theorem td_drop (n k : Nat) : (td n).drop k = td (n / 10000 ^ k) := by
 induction k generalizing n with
 | zero => simp
 | succ k ih =>
  by_cases h : n = 0
  ·rw [h, Nat.zero_div, td_zero]; simp
  ·rw [td_pos h, List.drop_succ_cons, ih, Nat.div_div_eq_div_mul, Nat.pow_succ, Nat.mul_comm 10000]
set_option maxHeartbeats 4000000 in
set_option maxRecDepth 100000 in
theorem rleading_any (v : Value) (l : List Nat) (F : Nat) (hd : ∀ d ∈ l, d < 10000) (hF : F ≤ 1000000) (hl : l.length ≤ F + 4) (w : World) (h : Sl w v l) :
  Calls Tryd.prog 97 #[v, .int .i64 (F : Int)] w fun e w' => e = .returned (.int .i64 ((tv (l.drop F) : Nat) : Int)) ∧ w = w' := by
 obtain ⟨ao, c, rfl, hv⟩ := h.view
 obtain ⟨n, hn⟩ : ∃ n, n = l.length := ⟨_, rfl⟩
 rw [← hn] at hl hv ⊢
 have h0 := Lib.hid (show tv (l.drop n) = 0 by rw [List.drop_eq_nil_of_le (by omega), tv_nil])
 replace hn := Lib.hid hn
 replace hv := Lib.hid hv
 replace hd := Lib.hid hd
 clear h
 go_enter Tryd.func97, Tryd.ntmps97
 go_wp2_with fail
 go_loopw [5, 6] (fun s z wr => ∃ j : Nat, j ≤ n ∧ (F ≤ j ∨ j = n) ∧ z = .int .i64 ((j : Int) - 1) ∧ s = .int .i64 ((tv (l.drop j) : Nat) : Int) ∧ w = wr) (fun _ z _ => (intOf z + 1).toNat)
 case atStart => exact ⟨n, Nat.le_refl _, .inr rfl, by first | rfl | go_num, by rw [h0.out]; rfl, rfl⟩
 case round =>
  obtain ⟨j, hj, hFj, rfl, rfl, rfl⟩ := hrel
  rcases Nat.lt_or_ge F j with hlt | hge
  ·obtain ⟨i, rfl⟩ : ∃ i, j = i + 1 := ⟨j - 1, by omega⟩
   obtain ⟨a, rfl, -, hs⟩ := hv.out (by omega)
   have hil : i < l.length := by have := hn.out; omega
   have hcell := hs.cell i hil
   have hx := hd.out _ (List.getElem_mem hil)
   have hnext : tv (l.drop i) = l[i] + 10000 * tv (l.drop (i + 1)) := by rw [List.drop_eq_getElem_cons hil, tv_cons]
   have hT : tv (l.drop (i + 1)) < 1000000000000 := by
    have h1 := tv_lt (l := l.drop (i + 1)) fun d hdd => hd.out d (List.mem_of_mem_drop hdd)
    exact Nat.lt_of_lt_of_le h1 (Nat.le_trans (Nat.pow_le_pow_right (by omega) (show _ ≤ 3 by rw [List.length_drop]; have := hn.out; omega)) (by decide))
   have e1 : (((i + 1 : Nat) : Int) - 1) = (i : Int) := by omega
   have k1 : (F : Int) ≤ (i : Int) := by omega
   have k2 : (i : Int) < (n : Int) := by omega
   have hTi : ((tv (l.drop (i + 1)) : Nat) : Int) ≤ 1000000000000 := by omega
   clear hT hs
   generalize l[i] = x at *
   generalize tv (l.drop (i + 1)) = T at *
   replace hnext := Lib.hid hnext
   replace hFj := Lib.hid hFj
   rw [e1]
   go_wp2_with fail
   go_roundw
   case rel => exact ⟨i, by omega, .inl (by omega), by first | rfl | go_num, (by rw [hnext.out]; go_num), by trivial⟩
   case measure => simp [intOf]
  ·have hfin : tv (l.drop j) = tv (l.drop F) := by
    rcases hFj with h | h
    ·rw [show j = F by omega]
    ·rw [List.drop_eq_nil_of_le (by have := hn.out; omega), List.drop_eq_nil_of_le (by have := hn.out; omega)]
   have k1 : ¬ (F : Int) ≤ (j : Int) - 1 := by omega
   replace hfin := Lib.hid hfin
   replace hFj := Lib.hid hFj
   go_wp2_with fail
   go_ret
   exact ⟨by rw [← hfin.out]; rfl, rfl⟩
/-- What Div's rounds keep: the digits from i on are the quotient's, r is what is left. -/
structure DivS (a b : Nat) (A X : List Nat) (i r : Nat) : Prop where
 lt : ∀ d ∈ X, d < 10000
 zero : ∀ (k : Nat) (h : k < X.length), k < i → X[k] = 0
 eq : tv X * b + 10000 ^ i * r + tv (A.take i) = a
 rem : r < b
theorem DivS.step {a b i r : Nat} {A X : List Nat} (h : DivS a b A X (i + 1) r) (hA : ∀ d ∈ A, d < 10000) (hi : i < X.length) {y : Nat} (hy : y = dg A i + 10000 * r) :
  y / b ≤ 9999 ∧ DivS a b A (X.set i (y / b)) i (y - b * (y / b)) := by
 have hb : 0 < b := Nat.lt_of_le_of_lt (Nat.zero_le _) h.rem
 have hx := dg_lt hA i
 have hr := h.rem
 have hq : y / b ≤ 9999 := by
  have h1 : y < 10000 * b := by
   have : 10000 * (r + 1) ≤ 10000 * b := Nat.mul_le_mul_left _ hr
   omega
  have := (Nat.div_lt_iff_lt_mul hb).2 h1
  omega
 have e := tv_set0 hi (h.zero i hi (by omega)) (y / b)
 have hm := Nat.div_add_mod y b
 have hml := Nat.mod_lt y hb
 refine ⟨hq, fun x hx => ?_, fun k hk hki => ?_, ?_, by omega⟩
 ·rcases List.mem_or_eq_of_mem_set hx with hx | hx
  ·exact h.lt x hx
  ·omega
 ·rw [List.getElem_set_ne (by omega)]
  exact h.zero k (by rw [List.length_set] at hk; exact hk) (by omega)
 ·have e0 := h.eq
  rw [tv_take, Nat.pow_succ] at e0
  rw [e, Nat.add_mul]
  have e1 : 10000 ^ i * (y / b) * b + 10000 ^ i * (y - b * (y / b)) = 10000 ^ i * dg A i + 10000 ^ i * 10000 * r := by
   rw [Nat.mul_assoc, Nat.mul_assoc, ← Nat.mul_add, ← Nat.mul_add, Nat.mul_comm (y / b) b, show b * (y / b) + (y - b * (y / b)) = y by omega, hy]
  generalize tv X * b = p1 at *
  generalize 10000 ^ i * (y / b) * b = p2 at *
  generalize 10000 ^ i * (y - b * (y / b)) = p3 at *
  generalize 10000 ^ i * dg A i = p4 at *
  generalize 10000 ^ i * 10000 * r = p5 at *
  omega
theorem DivS.done {a b r : Nat} {A X : List Nat} (h : DivS a b A X 0 r) : tv X = a / b ∧ r = a % b := by
 have e := h.eq
 rw [Nat.pow_zero, Nat.one_mul, List.take_zero, tv_nil, Nat.add_zero, Nat.mul_comm] at e
 have hb : 0 < b := Nat.lt_of_le_of_lt (Nat.zero_le _) h.rem
 rw [← e]
 exact ⟨by rw [Nat.mul_add_div hb, Nat.div_eq_of_lt h.rem, Nat.add_zero], by rw [Nat.mul_add_mod, Nat.mod_eq_of_lt h.rem]⟩
theorem DivS.start {a b : Nat} (hab : b ≤ a) (hb : 0 < b) : ∃ i, i + (td b).length = (td a).length + 1 ∧ DivS a b (td a) (List.replicate i 0) i (tv ((td a).drop i)) := by
 have hlen := td_mono hab
 have hbl : 0 < (td b).length := by
  rcases Nat.eq_zero_or_pos (td b).length with h | h
  ·have := td_nil.1 (List.eq_nil_of_length_eq_zero h); omega
  ·exact h
 refine ⟨(td a).length + 1 - (td b).length, by omega, fun d hd => by rw [(List.mem_replicate.1 hd).2]; omega, fun k h _ => by simp, ?_, ?_⟩
 ·rw [tv_zeros, Nat.zero_mul, Nat.zero_add]
  have := tv_append ((td a).take ((td a).length + 1 - (td b).length)) ((td a).drop ((td a).length + 1 - (td b).length))
  rw [List.take_append_drop, tv_td, List.length_take, Nat.min_eq_left (by omega)] at this
  omega
 ·rw [td_drop, tv_td]
  refine Nat.lt_of_not_le fun h => ?_
  have h1 : (td (a / 10000 ^ ((td a).length + 1 - (td b).length))).length = (td b).length - 1 := by
   rw [← td_drop, List.length_drop]; omega
  have := td_mono h
  omega
/-- The bounds that the leading digits give. -/
theorem lead_low {b y F t : Nat} (ht : t = b / 10000 ^ F) : y / 10000 ^ F / (t + 1) * b ≤ y := by
 have hp : 0 < 10000 ^ F := Nat.pow_pos (by omega)
 have h1 : b < 10000 ^ F * (t + 1) := by
  have := Nat.lt_mul_div_succ b hp
  rwa [← ht] at this
 have h2 : y / 10000 ^ F / (t + 1) * b ≤ y / 10000 ^ F / (t + 1) * (10000 ^ F * (t + 1)) := Nat.mul_le_mul_left _ (Nat.le_of_lt h1)
 have h3 : y / 10000 ^ F / (t + 1) * (t + 1) ≤ y / 10000 ^ F := Nat.div_mul_le_self _ _
 have h4 : y / 10000 ^ F * 10000 ^ F ≤ y := Nat.div_mul_le_self _ _
 have h5 : y / 10000 ^ F / (t + 1) * (10000 ^ F * (t + 1)) = (y / 10000 ^ F / (t + 1) * (t + 1)) * 10000 ^ F := by
  rw [Nat.mul_comm (10000 ^ F), Nat.mul_assoc]
 have h6 : (y / 10000 ^ F / (t + 1) * (t + 1)) * 10000 ^ F ≤ y / 10000 ^ F * 10000 ^ F := Nat.mul_le_mul_right _ h3
 omega
theorem lead_high {b y F t : Nat} (ht : t = b / 10000 ^ F) (ht0 : 0 < t) : y / b ≤ y / 10000 ^ F / t := by
 rw [Nat.div_div_eq_div_mul]
 have h1 : 10000 ^ F * t ≤ b := by rw [ht]; exact Nat.mul_div_le _ _
 exact Nat.div_le_div_left h1 (Nat.mul_pos (Nat.pow_pos (by omega)) ht0)
end Go.Proofs.YtfmakoiiibacjaaDoor.Rx
