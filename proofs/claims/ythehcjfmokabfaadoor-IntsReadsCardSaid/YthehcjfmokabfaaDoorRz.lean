/-
  The reference of layer 1, joined.
-/
import Derived.WalkKit
import Derived.Lib.Hide
import Derived.Test.YthehcjfmokabfaaDoorRows
import Derived.Test.YthehcjfmokabfaaDoorNum
import Derived.BigQuiet
import Derived.BigGuard
import Derived.BigRegion
import Derived.Test.YthehcjfmokabfaaDoorLa
import Derived.Test.YthehcjfmokabfaaDoorNt
import Derived.Test.YthehcjfmokabfaaDoorLr
set_option linter.unusedVariables false
set_option linter.unusedSimpArgs false
namespace Go.Proofs.YthehcjfmokabfaaDoor.Rx
open Go.RowKit

/-- The number that digits spell. -/
def tv : List Nat → Nat
  | [] => 0
  | d :: l => d + 10000 * tv l
theorem tv_cons (d : Nat) (l : List Nat) : tv (d :: l) = d + 10000 * tv l := rfl
theorem tv_nil : tv [] = 0 := rfl
/-- The digits of a number. -/
def td (n : Nat) : List Nat := if h : n = 0 then [] else n % 10000 :: td (n / 10000)
theorem td_zero : td 0 = [] := by rw [td, dif_pos rfl]
theorem td_pos {n : Nat} (h : n ≠ 0) : td n = n % 10000 :: td (n / 10000) := by rw [td, dif_neg h]
theorem tv_td (n : Nat) : tv (td n) = n := by
  induction n using Nat.strongRecOn with
  | _ n ih =>
    by_cases h : n = 0
    · rw [h, td_zero]; rfl
    · rw [td_pos h, tv, ih (n / 10000) (by omega)]; omega
theorem td_lt (n : Nat) : ∀ d ∈ td n, d < 10000 := by
  induction n using Nat.strongRecOn with
  | _ n ih =>
    by_cases h : n = 0
    · rw [h, td_zero]; intro d hd; cases hd
    · rw [td_pos h]
      intro d hd
      rcases List.mem_cons.1 hd with rfl | hd
      · omega
      · exact ih (n / 10000) (by omega) d hd
theorem td_nil {n : Nat} : td n = [] ↔ n = 0 := by
  by_cases h : n = 0
  · rw [h, td_zero]; simp
  · rw [td_pos h]; simp [h]
theorem tv_append (l m : List Nat) : tv (l ++ m) = tv l + 10000 ^ l.length * tv m := by
  induction l with
  | nil => simp [tv]
  | cons d l ih => rw [List.cons_append, tv, ih, tv, List.length_cons, Nat.pow_succ, Nat.mul_add, Nat.mul_comm _ 10000, Nat.mul_assoc]; omega
theorem tv_lt {l : List Nat} (h : ∀ d ∈ l, d < 10000) : tv l < 10000 ^ l.length := by
  induction l with
  | nil => exact Nat.one_pos
  | cons d l ih =>
    have h1 := ih fun x hx => h x (List.mem_cons_of_mem _ hx)
    have h2 := h d List.mem_cons_self
    rw [tv, List.length_cons, Nat.pow_succ]
    omega
theorem tv_zeros (k : Nat) : tv (List.replicate k 0) = 0 := by
  induction k with
  | zero => rfl
  | succ k ih => rw [List.replicate_succ, tv, ih]
/-- Digits are those of their number, and zeros behind them. -/
theorem td_tv {l : List Nat} (h : ∀ d ∈ l, d < 10000) : ∃ z, l = td (tv l) ++ List.replicate z 0 := by
  induction l with
  | nil => exact ⟨0, by rw [tv, td_zero]; rfl⟩
  | cons d l ih =>
    obtain ⟨z, hz⟩ := ih fun x hx => h x (List.mem_cons_of_mem _ hx)
    have hd := h d List.mem_cons_self
    rw [tv]
    by_cases h0 : d + 10000 * tv l = 0
    · have h1 : tv l = 0 := by omega
      rw [h1, td_zero, List.nil_append] at hz
      refine ⟨z + 1, ?_⟩
      rw [h0, td_zero, List.nil_append, List.replicate_succ, ← hz, show d = 0 by omega]
    · refine ⟨z, ?_⟩
      rw [td_pos h0, show (d + 10000 * tv l) % 10000 = d by omega, show (d + 10000 * tv l) / 10000 = tv l by omega, List.cons_append, ← hz]
theorem td_length {n k : Nat} : (td n).length ≤ k ↔ n < 10000 ^ k := by
  induction k generalizing n with
  | zero =>
    rw [Nat.pow_zero]
    constructor
    · intro h; have := td_nil.1 (List.eq_nil_of_length_eq_zero (l := td n) (by omega)); omega
    · intro h; rw [show n = 0 by omega, td_zero]; exact Nat.le_refl _
  | succ k ih =>
    by_cases h : n = 0
    · rw [h, td_zero]; exact ⟨fun _ => Nat.pow_pos (by omega), fun _ => Nat.zero_le _⟩
    · rw [td_pos h, List.length_cons, Nat.pow_succ]
      have := ih (n := n / 10000)
      constructor
      · intro h1; have := this.1 (by omega); omega
      · intro h1; have := this.2 (by omega); omega
theorem td_mono {a b : Nat} (h : a ≤ b) : (td a).length ≤ (td b).length := td_length.2 (Nat.lt_of_le_of_lt h (td_length.1 (Nat.le_refl _)))
theorem tv_snoc (l : List Nat) (d : Nat) : tv (l ++ [d]) = tv l + 10000 ^ l.length * d := by rw [tv_append]; simp [tv]
theorem tv_take_getElem {l : List Nat} {k : Nat} (h : k < l.length) : tv (l.take (k + 1)) = tv (l.take k) + 10000 ^ k * l[k] := by
  rw [List.take_succ_eq_append_getElem h, tv_snoc, List.length_take, Nat.min_eq_left (Nat.le_of_lt h)]
theorem td_last {n : Nat} (h : td n ≠ []) : (td n).getLast h ≠ 0 := by
  induction n using Nat.strongRecOn with
  | _ n ih =>
    have h0 : n ≠ 0 := fun e => h (td_nil.2 e)
    by_cases h1 : n / 10000 = 0
    · simp only [td_pos h0, h1, td_zero, List.getLast_singleton]; omega
    · have h2 : td (n / 10000) ≠ [] := fun e => h1 (td_nil.1 e)
      have := ih (n / 10000) (by omega) h2
      simp only [td_pos h0]
      rwa [List.getLast_cons h2]
/-- A digit, or 0 behind the last one. -/
def dg (l : List Nat) (i : Nat) : Nat := l.getD i 0
theorem dg_lt {l : List Nat} (h : ∀ d ∈ l, d < 10000) (i : Nat) : dg l i < 10000 := by
  unfold dg
  rcases Nat.lt_or_ge i l.length with hi | hi
  · simp [hi]; exact h _ (List.getElem_mem hi)
  · simp [hi]
theorem dg_in {l : List Nat} {i : Nat} (h : i < l.length) : dg l i = l[i] := by unfold dg; simp [h]
theorem dg_out {l : List Nat} {i : Nat} (h : l.length ≤ i) : dg l i = 0 := by unfold dg; simp [h]
theorem tv_take (l : List Nat) (k : Nat) : tv (l.take (k + 1)) = tv (l.take k) + 10000 ^ k * dg l k := by
  rcases Nat.lt_or_ge k l.length with h | h
  · rw [tv_take_getElem h, dg_in h]
  · rw [dg_out h, List.take_of_length_le (by omega), List.take_of_length_le h]; omega

/-- A slice of ints that can be read. -/
structure Sd (w : World) (a : Addr) (l : List Nat) : Prop where
  cell : ∀ (i : Nat) (h : i < l.length), w.cell? (a.add i) = some (.int .i64 ((l[i] : Nat) : Int))
  blk : a.block < w.heap.size
theorem addB (a : Addr) (i : Nat) : (a.add i).block = a.block := by unfold Addr.add; split <;> rfl
theorem Sd.below {w w' : World} {a : Addr} {l : List Nat} (h : Sd w a l) (hb : Below w.heap.size w w') : Sd w' a l :=
  ⟨fun i hi => (hb.cell (p := a.add i) (by rw [addB]; exact h.blk)).trans (h.cell i hi), Nat.lt_of_lt_of_le h.blk hb.size⟩
theorem Sd.left {w : World} {a : Addr} {l m : List Nat} (h : Sd w a (l ++ m)) : Sd w a l :=
  ⟨fun i hi => by rw [h.cell i (by rw [List.length_append]; omega), List.getElem_append_left hi], h.blk⟩
def Sl (w : World) (v : Value) (l : List Nat) : Prop := (∃ ao c, v = .slice ao 0 c ∧ l = [] ∧ (ao = none → c = 0)) ∨ ∃ a c, v = .slice (some a) l.length c ∧ l.length ≤ c ∧ Sd w a l
theorem Sl.below {w w' : World} {v : Value} {l : List Nat} (h : Sl w v l) (hb : Below w.heap.size w w') : Sl w' v l := by
  rcases h with h | ⟨a, c, h1, h2, h3⟩
  · exact .inl h
  · exact .inr ⟨a, c, h1, h2, h3.below hb⟩
theorem Sl.form {w : World} {v : Value} {l : List Nat} (h : Sl w v l) : ∃ ao c, v = .slice ao l.length c := by
  rcases h with ⟨ao, c, rfl, rfl, -⟩ | ⟨a, c, rfl, _⟩
  · exact ⟨_, _, rfl⟩
  · exact ⟨_, _, rfl⟩
theorem Sl.nil (w : World) : Sl w (.slice none 0 0) [] := .inl ⟨_, _, rfl, rfl, fun _ => rfl⟩
theorem Sl.drew {w : World} {v : Value} {l : List Nat} (h : Sl w v l) : Sl w.drew v l := by
  rcases h with h | ⟨a, c, h1, h2, h3⟩
  · exact .inl h
  · exact .inr ⟨a, c, h1, h2, h3.cell, h3.blk⟩
/-- What the walk asks of a slice. -/
theorem Sl.view {w : World} {v : Value} {l : List Nat} (h : Sl w v l) : ∃ ao c, v = .slice ao l.length c ∧ (0 < l.length → ∃ a, ao = some a ∧ l.length ≤ c ∧ Sd w a l) := by
  rcases h with ⟨ao, c, rfl, rfl, -⟩ | ⟨a, c, rfl, h2, h3⟩
  · exact ⟨_, _, rfl, fun h => absurd h (Nat.lt_irrefl 0)⟩
  · exact ⟨_, _, rfl, fun _ => ⟨a, rfl, h2, h3⟩⟩
/-- What an append looks at. -/
theorem Sl.src {w : World} {v : Value} {l : List Nat} (h : Sl w v l) : (v = .slice none 0 0 ∧ l = []) ∨ ∃ ad c, v = .slice (some ad) l.length c ∧ ∀ (j : Nat) (u : Value), (l.map fun (d : Nat) => Value.int .i64 (d : Int))[j]? = some u → w.cell? (ad.add j) = some u := by
  rcases h with ⟨ao, c, rfl, rfl, hc⟩ | ⟨a, c, rfl, _, h3⟩
  · cases ao with
    | none => exact .inl ⟨by rw [hc rfl], rfl⟩
    | some ad => exact .inr ⟨ad, c, rfl, fun j u hu => by simp at hu⟩
  · refine .inr ⟨a, c, rfl, fun j u hu => ?_⟩
    rw [List.getElem?_map] at hu
    obtain ⟨x, hx, rfl⟩ := Option.map_eq_some_iff.1 hu
    obtain ⟨hjl, rfl⟩ := List.getElem?_eq_some_iff.1 hx
    exact h3.cell j hjl
/-- What the call owns can be read. -/
theorem Sl.owned {w : World} {base e : Nat} {v : Value} {n : Nat} {l : List Nat} (h : w.ownsRow base e 1 v n (l.map fun (d : Nat) => Value.int .i64 (d : Int))) (hn : n = l.length) : Sl w v l := by
  subst hn
  have hlt := h.lt
  have hc := fun g hg => World.ownsRow.cells h (g := g) hg
  rcases h.2 with ⟨h', h''⟩ | ⟨g, cap, cur, h', _, hg, hm, hk, hsz, htake⟩
  · exact .inl ⟨none, 0, h', by simpa using h'', fun _ => rfl⟩
  · refine .inr ⟨⟨g, 0, none⟩, cap, h', ?_, fun i hi => ?_, ?_⟩
    · omega
    · have := hc g (by rw [h']; rfl) i (.int .i64 ((l[i] : Nat) : Int)) (by simp [hi])
      exact this
    · exact (hlt g (by rw [h']; rfl)).2
abbrev iv (d : Nat) : Value := .int .i64 (d : Int)
theorem own_next {w : World} {B e k : Nat} {v : Value} {l : List Nat} (h : k < l.length) {x : Int} (hx : x = ((l[k] : Nat) : Int)) (ho : w.ownsRow B e 1 v (k + 1) (List.take k (List.map iv l) ++ [.int .i64 x])) :
    w.ownsRow B e 1 v (k + 1) ((l.take (k + 1)).map iv) := by
  rw [List.take_succ_eq_append_getElem h, List.map_append, List.map_take]
  rw [hx] at ho
  exact ho
theorem own_snoc {w : World} {B e k : Nat} {v : Value} {l : List Nat} {x : Int} {d : Nat} (hx : x = (d : Int)) (ho : w.ownsRow B e 1 v (k + 1) (List.map iv l ++ [.int .i64 x])) : w.ownsRow B e 1 v (k + 1) ((l ++ [d]).map iv) := by
  rw [hx] at ho
  rw [List.map_append]
  exact ho
theorem below_app {B e k : Nat} {w wr w1 : World} {v : Value} {xs : List Value} {o : Obj} (hb : Below B w wr) (hB : B ≤ wr.heap.size) (hown : wr.ownsRow B e 1 v k xs) (hg : (wr.alloc o).grownBy w1 v.ownBlock) : Below B w w1 :=
  (hb.alloc hB o).grown hg (by rw [World.size_alloc]; omega) (fun j hj => (hown.lt j hj).1)
end Go.Proofs.YthehcjfmokabfaaDoor.Rx

/-
  The reference of layer 1, walks A: at, trim, Of, Cmp.
-/
namespace Go.Proofs.YthehcjfmokabfaaDoor.Rx
open Go.RowKit
attribute [local irreducible] tv dg

def lenOf : Value → Nat | .slice _ n _ => n | _ => 0

theorem trim_nil (ao : Option Addr) (c : Nat) (w : World) :
    Calls Tryd.prog 61 #[.slice ao 0 c] w fun e w' => e = .returned (.slice ao 0 c) ∧ w = w' := by
  go_enter Tryd.func61, Tryd.ntmps61
  go_wp2_with fail
  go_loopw [0] (fun v wr => v = .slice ao 0 c ∧ wr = w) (fun v _ => lenOf v)
  case atStart => exact ⟨rfl, rfl⟩
  case round =>
    obtain ⟨rfl, rfl⟩ := hrel
    go_wp2_with fail
    go_ret
    exact ⟨rfl, rfl⟩

theorem trim_row (a : Addr) (c m z : Nat) (l : List Nat) (hm : l.length = m) (hc : m + z ≤ c) (hB : m + z < 9223372036854775807) (hlast : ∀ h : l ≠ [], l.getLast h ≠ 0) (w : World) (h : Sd w a (l ++ List.replicate z 0)) :
    Calls Tryd.prog 61 #[.slice (some a) (m + z) c] w fun e w' => e = .returned (.slice (some a) m c) ∧ w = w' := by
  have hz : ∀ k, k < z → w.cell? (a.add (m + k)) = some (.int .i64 0) := fun k hk => by
    rw [h.cell (m + k) (by simp; omega), List.getElem_append_right (by omega)]; simp
  have hl : ∀ p, m = p + 1 → ∃ d : Nat, d ≠ 0 ∧ w.cell? (a.add p) = some (.int .i64 (d : Int)) := fun p hp => by
    have hne : l ≠ [] := fun e => by rw [e] at hm; simp at hm; omega
    refine ⟨l.getLast hne, hlast hne, ?_⟩
    rw [h.cell p (by simp; omega), List.getElem_append_left (by omega), List.getLast_eq_getElem hne]
    simp [hm, hp]
  clear h hlast hm
  replace hz := Lib.hid hz
  replace hl := Lib.hid hl
  go_enter Tryd.func61, Tryd.ntmps61
  go_wp2_with fail
  go_loopw [0] (fun v wr => ∃ k, k ≤ z ∧ v = .slice (some a) (m + k) c ∧ wr = w) (fun v _ => lenOf v)
  case atStart => exact ⟨z, Nat.le_refl _, rfl, rfl⟩
  case round =>
    obtain ⟨k, hk, rfl, rfl⟩ := hrel
    cases k with
    | zero =>
      rw [Nat.add_zero]
      cases m with
      | zero =>
        go_wp2_with fail
        go_ret
        exact ⟨rfl, rfl⟩
      | succ p =>
        obtain ⟨d, hd, hcell⟩ := hl.out p rfl
        have hd1 : ((d : Int) == 0) = false := beq_eq_false_iff_ne.2 (by omega)
        go_wp2_with fail
        go_ret
        exact ⟨rfl, rfl⟩
    | succ j =>
      have hcell := hz.out j (by omega)
      rw [show m + (j + 1) = (m + j) + 1 from by omega]
      obtain ⟨q, hq⟩ : ∃ q, q = m + j := ⟨_, rfl⟩
      rw [← hq] at hcell ⊢
      have hqc : q + 1 ≤ c := by omega
      have hqB : q + 1 < 9223372036854775807 := by omega
      replace hq := Lib.hid hq
      go_wp2_with fail
      go_roundw
      case rel => exact ⟨j, by omega, by rw [hq.out], trivial⟩
      case measure => simp [lenOf]

/-- trim: the digits of a number. -/
theorem trim_any (v : Value) (l : List Nat) (hd : ∀ d ∈ l, d < 10000) (hB : l.length < 9223372036854775807) (w : World) (h : Sl w v l) :
    Calls Tryd.prog 61 #[v] w fun e w' => ∃ v', e = .returned v' ∧ Sl w v' (td (tv l)) ∧ w = w' := by
  obtain ⟨z, hz⟩ := td_tv hd
  rcases h with ⟨ao, c, rfl, rfl, hc0⟩ | ⟨a, c, rfl, h2, h3⟩
  · refine (trim_nil ao c w).mono ?_
    rintro e w' ⟨rfl, rfl⟩
    exact ⟨_, rfl, .inl ⟨ao, c, rfl, by rw [tv_nil, td_zero], hc0⟩, rfl⟩
  · have hlen : l.length = (td (tv l)).length + z := by
      have := congrArg List.length hz
      rwa [List.length_append, List.length_replicate] at this
    rw [hz] at h3
    rw [hlen] at h2 hB ⊢
    refine (trim_row a c _ z (td (tv l)) rfl h2 hB (fun h => td_last h) w h3).mono ?_
    rintro e w' ⟨rfl, rfl⟩
    exact ⟨_, rfl, .inr ⟨a, c, rfl, by omega, h3.left⟩, rfl⟩
end Go.Proofs.YthehcjfmokabfaaDoor.Rx

/-
  The reference of layer 1, walks B: Of, Add.
-/
namespace Go.Proofs.YthehcjfmokabfaaDoor.Rx
open Go.RowKit
attribute [local irreducible] tv dg

theorem Tryd.infoI : (Tryd.prog.info? 3).map (fun i => (i.zero, i.size, i.bytes)) = some (some (.int .i64 0), 1, 8) := by kernel_rfl

/-- What the digits so far spell, with what is left. -/
theorem td_step {n k : Nat} (hk : k < (td n).length) : n / 10000 ^ k ≠ 0 ∧ (td n)[k] = n / 10000 ^ k % 10000 := by
  induction k generalizing n with
  | zero =>
    have h0 : n ≠ 0 := fun e => by rw [e, td_zero] at hk; exact absurd hk (by simp)
    simp only [Nat.pow_zero, Nat.div_one]
    refine ⟨h0, ?_⟩
    simp only [td_pos h0, List.getElem_cons_zero]
  | succ k ih =>
    have h0 : n ≠ 0 := fun e => by rw [e, td_zero] at hk; exact absurd hk (by simp)
    have hk' : k < (td (n / 10000)).length := by rw [td_pos h0, List.length_cons] at hk; omega
    have := ih hk'
    rw [Nat.div_div_eq_div_mul, Nat.mul_comm, ← Nat.pow_succ] at this
    refine ⟨this.1, ?_⟩
    simp only [td_pos h0, List.getElem_cons_succ]
    exact this.2
theorem td_end {n k : Nat} (hk : (td n).length ≤ k) : n / 10000 ^ k = 0 := Nat.div_eq_of_lt (td_length.1 hk)

end Go.Proofs.YthehcjfmokabfaaDoor.Rx

/-
  The reference of layer 1, walks C: Add.
-/
namespace Go.Proofs.YthehcjfmokabfaaDoor.Rx
open Go.RowKit
attribute [local irreducible] tv dg

/-- What Add's rounds keep. -/
structure AddS (A B S : List Nat) (i c : Nat) : Prop where
  len : S.length = i
  lt : ∀ d ∈ S, d < 10000
  car : c ≤ 1
  eq : tv S + 10000 ^ i * c = tv (A.take i) + tv (B.take i)
theorem AddS.step {A B S : List Nat} {i c : Nat} (h : AddS A B S i c) (hA : ∀ d ∈ A, d < 10000) (hB : ∀ d ∈ B, d < 10000) :
    AddS A B (S ++ [(dg A i + dg B i + c) % 10000]) (i + 1) ((dg A i + dg B i + c) / 10000) := by
  have h1 := dg_lt hA i
  have h2 := dg_lt hB i
  have h3 := h.car
  refine ⟨by rw [List.length_append, h.len]; rfl, fun d hd => ?_, by omega, ?_⟩
  · rcases List.mem_append.1 hd with hd | hd
    · exact h.lt d hd
    · rw [List.mem_singleton.1 hd]; omega
  · rw [tv_snoc, h.len, tv_take, tv_take, Nat.pow_succ]
    have h4 := h.eq
    generalize dg A i = x at *
    generalize dg B i = y at *
    have h5 : (x + y + c) % 10000 + 10000 * ((x + y + c) / 10000) = x + y + c := by omega
    have h6 : 10000 ^ i * ((x + y + c) % 10000) + 10000 ^ i * 10000 * ((x + y + c) / 10000) = 10000 ^ i * x + 10000 ^ i * y + 10000 ^ i * c := by
      rw [Nat.mul_assoc, ← Nat.mul_add, h5, Nat.mul_add, Nat.mul_add]
    generalize 10000 ^ i * ((x + y + c) % 10000) = p at *
    generalize 10000 ^ i * 10000 * ((x + y + c) / 10000) = q at *
    omega

end Go.Proofs.YthehcjfmokabfaaDoor.Rx

/-
  The reference of layer 1, walks D: blocks of ints; Mul.
-/
namespace Go.Proofs.YthehcjfmokabfaaDoor.Rx
open Go.RowKit
attribute [local irreducible] tv dg

theorem add0 (g i : Nat) : (⟨g, 0, none⟩ : Addr).add i = ⟨g, i, none⟩ := by
  unfold Addr.add
  split <;> simp_all
/-- Block g holds just these ints. -/
def IB (w : World) (g : Nat) (l : List Nat) : Prop := w.heap[g]? = some (.cells (l.map iv).toArray 3 (0, 0))
section
variable {w w' : World} {g : Nat} {l : List Nat}
theorem IB.lt (h : IB w g l) : g < w.heap.size := (Array.getElem?_eq_some_iff.1 h).1
theorem IB.cell (h : IB w g l) (i : Nat) (hi : i < l.length) : w.cell? ⟨g, i, none⟩ = some (.int .i64 ((l[i] : Nat) : Int)) := by
  rw [cell_of_row w g i _ _ _ h]; simp [hi]
theorem IB.frozen (h : IB w g l) (i : Nat) : w.frozen? ⟨g, i, none⟩ = false := frozen_of_row w g i _ _ h
theorem IB.set (h : IB w g l) (i : Nat) (d : Nat) : IB (w.setCell ⟨g, i, none⟩ (.int .i64 (d : Int))) g (l.set i d) := by
  unfold IB at *
  rw [heap_setCell_same w g i _ _ _ h]
  congr 2
  rw [List.map_set]; simp
theorem IB.keep (h : IB w g l) (hk : w'.heap[g]? = w.heap[g]?) : IB w' g l := hk.trans h
theorem IB.below {B : Nat} (h : IB w g l) (hb : Below B w w') (hg : g < B) : IB w' g l := h.keep (hb.block g hg)
theorem IB.drewN (h : IB w g l) (n : Nat) : IB (w.drewN n) g l := h
theorem IB.sl (h : IB w g l) (c : Nat) (hc : l.length ≤ c) : Sl w (.slice (some ⟨g, 0, none⟩) l.length c) l :=
  .inr ⟨⟨g, 0, none⟩, c, rfl, hc, fun i hi => by rw [add0]; exact h.cell i hi, h.lt⟩
end
theorem ibdrew {B : Nat} {a w : World} (h : Below B a w) (n : Nat) : Below B a (w.drewN n) := ⟨h.os, h.tape, h.output, h.size, h.block⟩
/-- Zeros, as make lays them. -/
def zobjI (n : Nat) : Obj := .cells ((List.replicate n 0).map iv).toArray 3
theorem IB.zeros (w : World) (n : Nat) : IB (w.alloc (zobjI n)) w.heap.size (List.replicate n 0) := heap_alloc_new w _
theorem made_zerosI (n : Nat) : madeCells (Value.cells (.int .i64 0)) n = ((List.replicate n 0).map iv).toArray := by
  apply Array.ext'
  rw [show Value.cells (.int .i64 0) = #[.int .i64 0] from rfl, toList_madeCells_one]
  simp
theorem makeN (w : World) (c : Int) (n : Nat) (hc : c = n) (h : n ≤ 17592186044416) :
    (Instr.makeSlice 32 (.int .i64 c) (.int .i64 c)).run Tryd.prog w = .ok (.slice (some ⟨w.heap.size, 0, none⟩) n n) (w.alloc (zobjI n)) := by
  subst hc
  have := run_make (P := Tryd.prog) w 32 3 Tryd.t3 (.int .i64 0) Tryd.underlying32 (by kernel_rfl) (by kernel_rfl) .i64 .i64 (n : Int) (n : Int) (by omega) (Int.le_refl _) (by show ((8 : Nat) : Int) * _ ≤ _; omega) (by omega)
  rw [this]
  simp only [Int.toNat_natCast]
  show Result.ok _ (w.alloc (.cells (madeCells (Value.cells (.int .i64 0)) (n * 1)) _)) = _
  rw [Nat.mul_one, made_zerosI]; rfl

theorem tv_set {l : List Nat} {j : Nat} (h : j < l.length) (d : Nat) : tv (l.set j d) + 10000 ^ j * l[j] = tv l + 10000 ^ j * d := by
  induction l generalizing j with
  | nil => exact absurd h (by simp)
  | cons x l ih =>
    cases j with
    | zero => simp only [List.set_cons_zero, List.getElem_cons_zero, tv, Nat.pow_zero, Nat.one_mul]; omega
    | succ j =>
      have hj : j < l.length := by simpa using h
      have := ih (j := j) hj
      simp only [List.set_cons_succ, List.getElem_cons_succ, tv, Nat.pow_succ]
      rw [Nat.mul_comm (10000 ^ j) 10000, Nat.mul_assoc, Nat.mul_assoc]
      generalize 10000 ^ j * l[j] = p at *
      generalize 10000 ^ j * d = q at *
      omega

/-- What Mul's inner rounds keep. -/
structure MulS (A B X : List Nat) (i k c : Nat) : Prop where
  len : X.length = A.length + B.length
  lt : ∀ d ∈ X, d < 10000
  car : c < 10000
  eq : tv X + 10000 ^ (i + k) * c = tv (A.take i) * tv B + 10000 ^ i * (dg A i * tv (B.take k))
theorem tv_take_le (B : List Nat) (k : Nat) : tv (B.take k) ≤ tv B := by
  have := tv_append (B.take k) (B.drop k)
  rw [List.take_append_drop] at this
  omega
theorem MulS.step {A B X : List Nat} {i k c : Nat} (h : MulS A B X i k c) (hA : ∀ d ∈ A, d < 10000) (hB : ∀ d ∈ B, d < 10000) (hj : i + k < X.length) {s : Nat} (hs : s = X[i + k] + dg A i * dg B k + c) :
    s < 100000000 ∧ MulS A B (X.set (i + k) (s % 10000)) i (k + 1) (s / 10000) := by
  have h1 := dg_lt hA i
  have h2 := dg_lt hB k
  have h3 := h.car
  have hx := h.lt _ (List.getElem_mem hj)
  have hp : dg A i * dg B k ≤ 9999 * 9999 := Nat.mul_le_mul (by omega) (by omega)
  have hs1 : s < 100000000 := by omega
  refine ⟨hs1, by rw [List.length_set]; exact h.len, fun d hd => ?_, by omega, ?_⟩
  · rcases List.mem_or_eq_of_mem_set hd with hd | hd
    · exact h.lt d hd
    · omega
  · have e1 := tv_set hj (s % 10000)
    have e2 := h.eq
    rw [tv_take, ← Nat.add_assoc, Nat.pow_succ]
    have e3 : s % 10000 + 10000 * (s / 10000) = X[i + k] + dg A i * dg B k + c := by omega
    have e4 : 10000 ^ (i + k) * (s % 10000) + 10000 ^ (i + k) * 10000 * (s / 10000) = 10000 ^ (i + k) * X[i + k] + 10000 ^ (i + k) * (dg A i * dg B k) + 10000 ^ (i + k) * c := by
      rw [Nat.mul_assoc, ← Nat.mul_add, e3, Nat.mul_add, Nat.mul_add]
    have e5 : 10000 ^ i * (dg A i * (tv (B.take k) + 10000 ^ k * dg B k)) = 10000 ^ i * (dg A i * tv (B.take k)) + 10000 ^ (i + k) * (dg A i * dg B k) := by
      rw [Nat.mul_add, Nat.mul_add, Nat.pow_add, Nat.mul_left_comm (dg A i), Nat.mul_assoc (10000 ^ i)]
    rw [e5]
    generalize 10000 ^ (i + k) * (s % 10000) = p1 at *
    generalize 10000 ^ (i + k) * 10000 * (s / 10000) = p2 at *
    generalize 10000 ^ (i + k) * X[i + k] = p3 at *
    generalize 10000 ^ (i + k) * (dg A i * dg B k) = p4 at *
    generalize 10000 ^ (i + k) * c = p5 at *
    generalize 10000 ^ i * (dg A i * tv (B.take k)) = p6 at *
    generalize tv (A.take i) * tv B = p7 at *
    generalize tv (X.set (i + k) (s % 10000)) = p8 at *
    generalize tv X = p9 at *
    omega
/-- Behind b's digits one carry may be left, and no more. -/
theorem MulS.carry {A B X : List Nat} {i k c : Nat} (h : MulS A B X i k c) (hA : ∀ d ∈ A, d < 10000) (hB : ∀ d ∈ B, d < 10000) (hi : i < A.length) (hk : B.length + 1 ≤ k) : c = 0 := by
  rcases Nat.eq_zero_or_pos c with h0 | h0
  · exact h0
  · have e := h.eq
    have e2 : tv (A.take i) * tv B + 10000 ^ i * (dg A i * tv (B.take k)) = tv (A.take (i + 1)) * tv B := by
      rw [List.take_of_length_le (l := B) (by omega), tv_take, Nat.add_mul, Nat.mul_assoc]
    have e3 : tv (A.take (i + 1)) < 10000 ^ (i + 1) := by
      have := tv_lt (l := A.take (i + 1)) fun d hd => hA d (List.mem_of_mem_take hd)
      rwa [List.length_take, Nat.min_eq_left (by omega)] at this
    have e4 := tv_lt hB
    have e5 : tv (A.take (i + 1)) * tv B < 10000 ^ (i + 1) * 10000 ^ B.length := Nat.lt_of_le_of_lt (Nat.mul_le_mul_left _ (Nat.le_of_lt e4)) (Nat.mul_lt_mul_of_pos_right e3 (Nat.pow_pos (by omega)))
    rw [← Nat.pow_add] at e5
    have e6 : 10000 ^ (i + 1 + B.length) ≤ 10000 ^ (i + k) := Nat.pow_le_pow_right (by omega) (by omega)
    have e7 : 10000 ^ (i + k) ≤ 10000 ^ (i + k) * c := Nat.le_mul_of_pos_right _ h0
    omega
theorem MulS.done {A B X : List Nat} {i k : Nat} (h : MulS A B X i k 0) (hk : B.length ≤ k) : MulS A B X (i + 1) 0 0 := by
  refine ⟨h.len, h.lt, by omega, ?_⟩
  have e := h.eq
  rw [List.take_of_length_le hk] at e
  rw [List.take_zero, tv_take, Nat.add_mul, Nat.mul_assoc]
  rw [Nat.mul_zero, Nat.add_zero] at e ⊢
  rw [e]
  have : tv [] = 0 := by unfold tv; rfl
  rw [this, Nat.mul_zero, Nat.mul_zero, Nat.add_zero]
theorem MulS.start (A B : List Nat) : MulS A B (List.replicate (A.length + B.length) 0) 0 0 0 := by
  refine ⟨List.length_replicate, fun d hd => by rw [(List.mem_replicate.1 hd).2]; omega, by omega, ?_⟩
  have : tv [] = 0 := by unfold tv; rfl
  rw [tv_zeros, List.take_zero, List.take_zero, this]
  simp

end Go.Proofs.YthehcjfmokabfaaDoor.Rx

namespace Go.Proofs.YthehcjfmokabfaaDoor.Rx
open Go.RowKit
attribute [local irreducible] tv dg

/-- A slice that holds a number's digits. -/
abbrev Rn (w : World) (v : Value) (n : Nat) : Prop := Sl w v (td n)
theorem rn_nil (w : World) : Rn w (.slice none 0 0) 0 := by
  show Sl _ _ (td 0)
  rw [td_zero]; exact Sl.nil _
theorem td_add_le {a b k : Nat} (ha : (td a).length ≤ k) (hb : (td b).length ≤ k) : (td (a + b)).length ≤ k + 1 := by
  have h1 := td_length.1 ha
  have h2 := td_length.1 hb
  refine td_length.2 ?_
  rw [Nat.pow_succ]
  omega
theorem td_mul_le {a b k m : Nat} (ha : (td a).length ≤ k) (hb : (td b).length ≤ m) : (td (a * b)).length ≤ k + m := by
  have h1 := td_length.1 ha
  have h2 := td_length.1 hb
  refine td_length.2 ?_
  rw [Nat.pow_add]
  exact Nat.lt_of_le_of_lt (Nat.mul_le_mul_left _ (Nat.le_of_lt h2)) (Nat.mul_lt_mul_of_pos_right h1 (Nat.pow_pos (by omega)))
/-- The reference's digits of a number of few words. -/
theorem td_made {l : List Nat} (h : ∀ x ∈ l, x < 4294967296) : (td (made l)).length ≤ 3 * l.length := by
  refine td_length.2 ?_
  induction l with
  | nil => exact Nat.one_pos
  | cons x l ih =>
    have h1 := ih fun y hy => h y (List.mem_cons_of_mem _ hy)
    have h2 := h x List.mem_cons_self
    rw [made, List.length_cons, Nat.mul_add, Nat.pow_add]
    rw [show (10000 : Nat) ^ (3 * 1) = 1000000000000 by rfl]
    generalize 10000 ^ (3 * l.length) = X at *
    omega

end Go.Proofs.YthehcjfmokabfaaDoor.Rx

/-
  The reference of layer 1, walks F: OfWords at every slice; Cmp, Sub.
-/
namespace Go.Proofs.YthehcjfmokabfaaDoor.Rx
open Go.RowKit
attribute [local irreducible] tv dg cmpI

/-- Digits from a place on, compared. -/
theorem tv_split {l : List Nat} {i : Nat} (h : i < l.length) : tv l = tv (l.take i) + 10000 ^ i * (l[i] + 10000 * tv (l.drop (i + 1))) := by
  have e := tv_append (l.take i) (l.drop i)
  rw [List.take_append_drop, List.length_take, Nat.min_eq_left (Nat.le_of_lt h), List.drop_eq_getElem_cons h] at e
  rw [e]
  rw [tv_cons]
theorem tv_less {A B : List Nat} {i : Nat} (hA : ∀ d ∈ A, d < 10000) (ha : i < A.length) (hb : i < B.length) (hd : A.drop (i + 1) = B.drop (i + 1)) (h : A[i] < B[i]) : tv A < tv B := by
  rw [tv_split ha, tv_split hb, hd]
  have h1 := tv_lt (l := A.take i) fun d hd => hA d (List.mem_of_mem_take hd)
  rw [List.length_take, Nat.min_eq_left (Nat.le_of_lt ha)] at h1
  have h2 : 10000 ^ i * (A[i] + 10000 * tv (B.drop (i + 1)) + 1) ≤ 10000 ^ i * (B[i] + 10000 * tv (B.drop (i + 1))) := Nat.mul_le_mul_left _ (by omega)
  rw [Nat.mul_add _ _ 1, Nat.mul_one] at h2
  omega

end Go.Proofs.YthehcjfmokabfaaDoor.Rx

/-
  The reference of layer 1, walks G: Sub.
-/
namespace Go.Proofs.YthehcjfmokabfaaDoor.Rx
open Go.RowKit
attribute [local irreducible] tv dg cmpI

theorem cell_new (w : World) (v : Value) (t : TypeId) : (w.alloc (.cells #[v] t)).cell? ⟨w.heap.size, 0, none⟩ = some v := by
  rw [cell_of_row _ _ 0 _ _ _ (heap_alloc_new w _)]; rfl
/-- What Sub's rounds keep. -/
structure SubS (A B S : List Nat) (i c : Nat) : Prop where
  len : S.length = i
  lt : ∀ d ∈ S, d < 10000
  car : c ≤ 1
  eq : tv (A.take i) + 10000 ^ i * c = tv S + tv (B.take i)
theorem SubS.step {A B S : List Nat} {i c d c' : Nat} (h : SubS A B S i c) (hd : d < 10000) (hc : c' ≤ 1) (he : d + dg B i + c = dg A i + 10000 * c') : SubS A B (S ++ [d]) (i + 1) c' := by
  refine ⟨by rw [List.length_append, h.len]; rfl, fun x hx => ?_, hc, ?_⟩
  · rcases List.mem_append.1 hx with hx | hx
    · exact h.lt x hx
    · rw [List.mem_singleton.1 hx]; exact hd
  · rw [tv_snoc, h.len, tv_take, tv_take, Nat.pow_succ]
    have h4 := h.eq
    have h6 : 10000 ^ i * d + 10000 ^ i * dg B i + 10000 ^ i * c = 10000 ^ i * dg A i + 10000 ^ i * 10000 * c' := by
      rw [Nat.mul_assoc, ← Nat.mul_add, ← Nat.mul_add, ← Nat.mul_add, he]
    generalize 10000 ^ i * d = p1 at *
    generalize 10000 ^ i * dg B i = p2 at *
    generalize 10000 ^ i * c = p3 at *
    generalize 10000 ^ i * dg A i = p4 at *
    generalize 10000 ^ i * 10000 * c' = p5 at *
    omega
theorem SubS.done {A B S : List Nat} {c : Nat} (h : SubS A B S A.length c) (hB : B.length ≤ A.length) (hle : tv B ≤ tv A) : tv S = tv A - tv B := by
  have e := h.eq
  rw [List.take_of_length_le (Nat.le_refl _), List.take_of_length_le hB] at e
  have h1 := tv_lt h.lt
  rw [h.len] at h1
  have hc := h.car
  rcases Nat.eq_zero_or_pos c with h0 | h0
  · rw [h0, Nat.mul_zero] at e; omega
  · rw [show c = 1 by omega, Nat.mul_one] at e; omega

end Go.Proofs.YthehcjfmokabfaaDoor.Rx

namespace Go.Proofs.YthehcjfmokabfaaDoor.Rx
open Go.RowKit
open Go.Lib (decDigits)
attribute [local irreducible] tv dg cmpI

theorem pad_cons : ∀ (k r : Nat), pad (k + 1) r = dch (r / 10 ^ k % 10) :: pad k r
  | 0, r => by rw [pad, pad, Nat.pow_zero, Nat.div_one]; rfl
  | k + 1, r => by
    rw [pad, pad_cons k (r / 10), pad, List.cons_append, Nat.div_div_eq_div_mul, Nat.pow_succ, Nat.mul_comm 10]
theorem enc_dig (q : Nat) : Utf8.encode (48 + (q : Int) % 10) = ⟨#[dch (q % 10)]⟩ := by
  have h1 : Utf8.valid (48 + (q : Int) % 10) = true := by unfold Utf8.valid; simp; omega
  have h2 : (48 + (q : Int) % 10).toNat = 48 + q % 10 := by omega
  unfold Utf8.encode dch
  simp only [h1, if_true, h2]
  rw [if_pos (by omega)]
theorem ba_cons (c : UInt8) (S : List UInt8) : (⟨#[c]⟩ : ByteArray) ++ ⟨S.toArray⟩ = ⟨(c :: S).toArray⟩ := by
  apply ByteArray.ext
  simp [ByteArray.data_append]
theorem pad_dec {k r : Nat} (h1 : r < 10 ^ k) (h2 : k = 0 ∨ 0 < r / 10 ^ (k - 1)) (hr : 0 < r) : pad k r = decDigits r := by
  have hk : 0 < k := by rcases Nat.eq_zero_or_pos k with h | h; · rw [h, Nat.pow_zero] at h1; omega
                        · exact h
  obtain ⟨e1, e2⟩ := pad_eq k r hk h1
  have h3 : 0 < r / 10 ^ (k - 1) := by rcases h2 with h | h; · omega
                                       · exact h
  have h4 : (decDigits r).length = k := by
    refine Nat.le_antisymm e2 (Nat.le_of_not_lt fun hlt => ?_)
    have h5 : 10 ^ (k - 1) ≤ r := by
      rcases Nat.lt_or_ge r (10 ^ (k - 1)) with h | h
      · rw [Nat.div_eq_of_lt h] at h3; omega
      · exact h
    rcases Nat.eq_zero_or_pos (k - 1) with h0 | h0
    · have := dec_length_pos r; omega
    · have := (dec_length_lt h0).1 (show (decDigits r).length ≤ k - 1 by omega); omega
  rw [e1, h4, Nat.sub_self, List.replicate_zero, List.nil_append]

theorem dec_td {n K : Nat} (hl : (td n).length ≤ K) (hK : 0 < K) : (decDigits n).length ≤ 4 * K := by
  refine (dec_length_lt (by omega)).2 ?_
  have := td_length.1 hl
  rwa [show (10000 : Nat) = 10 ^ 4 by rfl, ← Nat.pow_mul] at this
/-- What Text has written behind digit i. -/
def TS (n i : Nat) (T : List UInt8) : Prop := (i < (td n).length ∧ decDigits n = decDigits (n / 10000 ^ i) ++ T) ∨ (i = (td n).length ∧ T = decDigits n)
theorem TS.start {n : Nat} (h : 0 < (td n).length) : TS n 0 [] := .inl ⟨h, by simp⟩
theorem TS.step {n i : Nat} {T : List UInt8} (h : TS n i T) (hl : i < (td n).length) (hi : i + 1 < (td n).length) : TS n (i + 1) (pad 4 ((td n)[i]'hl) ++ T) := by
  rcases h with ⟨h1, h2⟩ | ⟨h1, h2⟩
  · refine .inl ⟨hi, ?_⟩
    have hd := (td_step h1).2
    have hq := (td_step hi).1
    have e : n / 10000 ^ i = n / 10000 ^ (i + 1) * 10 ^ 4 + (td n)[i] := by
      rw [hd, Nat.pow_succ, ← Nat.div_div_eq_div_mul]
      show _ = _ * 10000 + _
      omega
    have hlt : (td n)[i] < 10 ^ 4 := td_lt n _ (List.getElem_mem _)
    have := dec_mul_add 4 (n / 10000 ^ (i + 1)) ((td n)[i]) (by omega) hlt
    rw [h2, e, this, List.append_assoc]
  · omega
theorem TS.last {n i : Nat} {T : List UInt8} (h : TS n i T) (hl : i < (td n).length) (hi : i + 1 = (td n).length) : 0 < (td n)[i]'hl ∧ TS n (i + 1) (decDigits ((td n)[i]'hl) ++ T) := by
  rcases h with ⟨h1, h2⟩ | ⟨h1, h2⟩
  · have hd := td_step h1
    have h0 : n / 10000 ^ (i + 1) = 0 := td_end (by omega)
    have e : n / 10000 ^ i = (td n)[i] := by
      rw [hd.2]
      rw [Nat.pow_succ, ← Nat.div_div_eq_div_mul] at h0
      omega
    refine ⟨by rw [← e]; omega, .inr ⟨hi, ?_⟩⟩
    rw [h2, e]
  · omega
theorem TS.len {n i : Nat} {T : List UInt8} (h : TS n i T) : T.length ≤ (decDigits n).length := by
  rcases h with ⟨h1, h2⟩ | ⟨h1, h2⟩
  · rw [h2, List.length_append]; omega
  · rw [h2]; exact Nat.le_refl _

set_option maxHeartbeats 4000000 in
set_option maxRecDepth 100000 in
theorem rtext_any (v : Value) (n : Nat) (hl : (td n).length ≤ 1000000) (w : World) (hv : Rn w v n) :
    Calls Tryd.prog 34 #[v] w fun e w' => e = .returned (.string (txt n)) ∧ Below w.heap.size w w' := by
  obtain ⟨aa, ca, ea, hva⟩ := hv.view
  subst ea
  have hdl := dec_td hl (by omega)
  obtain ⟨L, hL⟩ : ∃ L, L = (td n).length := ⟨_, rfl⟩
  rw [← hL] at hl hva ⊢
  replace hva := Lib.hid hva
  replace hdl := Lib.hid hdl
  clear hv
  rcases Nat.eq_zero_or_pos L with h0 | h0
  · have hz : n = 0 := td_nil.1 (List.eq_nil_of_length_eq_zero (by rw [← hL]; exact h0))
    have ht : txt n = ⟨#[48]⟩ := by
      unfold txt
      rw [hz, dec_small (by omega)]; rfl
    replace ht := Lib.hid ht
    subst h0
    clear hL hz
    go_enter Tryd.func34, Tryd.ntmps34
    go_wp2_with fail
    go_ret
    exact ⟨by rw [ht.out]; rfl, Below.refl _ _⟩
  · obtain ⟨aA, rfl, -, sA⟩ := hva.out h0
    have hTS := Lib.hid (TS.start (n := n) (by rw [← hL]; exact h0))
    have k1 : ((L : Int) == 0) = false := beq_eq_false_iff_ne.2 (by omega)
    have k1' : (L == 0) = false := beq_eq_false_iff_ne.2 (by omega)
    replace hL := Lib.hid hL
    replace sA := Lib.hid sA
    go_enter Tryd.func34, Tryd.ntmps34
    go_wp2_with fail
    go_loopw [3, 4] (fun s j wr => ∃ (i : Nat) (T : List UInt8), s = .string ⟨T.toArray⟩ ∧ j = .int .i64 (i : Int) ∧ i ≤ L ∧ TS n i T ∧ wr = w) (fun _ j _ => L - (intOf j).toNat)
    case atStart => exact ⟨0, [], rfl, rfl, Nat.zero_le _, hTS.out, rfl⟩
    case round =>
      obtain ⟨i, T, rfl, rfl, hi, hT, rfl⟩ := hrel
      rcases Nat.lt_or_ge i L with hin | hin
      · have k2 : (i : Int) < (L : Int) := by omega
        have hib : (i : Int) ≤ 1000000 := by omega
        have iA : i < (td n).length := by have := hL.out; omega
        have hcell := sA.out.cell i iA
        have hTl := hT.len
        have hdl' := hdl.out
        have hst := hT.step iA
        have hla := hT.last iA
        have hD := td_lt n _ (List.getElem_mem iA)
        clear hT
        obtain ⟨D, hDe⟩ : ∃ D, D = (td n)[i] := ⟨_, rfl⟩
        rw [← hDe] at hcell hD hst hla
        replace hst := Lib.hid hst
        replace hla := Lib.hid hla
        replace hDe := Lib.hid hDe
        go_wp2_with fail
        go_loopw [3, 5, 6] (fun s d j wx => ∃ (k : Nat), s = .string ⟨(pad k D ++ T).toArray⟩ ∧ d = .int .i64 ((D / 10 ^ k : Nat) : Int) ∧ j = .int .i64 (k : Int) ∧ k ≤ 4 ∧ (i + 1 = L → k = 0 ∨ 0 < D / 10 ^ (k - 1)) ∧ wx = wr) (fun _ _ j _ => 4 - (intOf j).toNat)
        case atStart => exact ⟨0, by rw [pad]; rfl, by rw [Nat.pow_zero, Nat.div_one], rfl, Nat.zero_le _, fun _ => .inl rfl, rfl⟩
        case round =>
          obtain ⟨k, rfl, rfl, rfl, hk, hlast, rfl⟩ := hrel
          have hTk : (pad k D ++ T).length ≤ 4000004 := by rw [List.length_append, pad_length]; omega
          have hnext : (pad (k + 1) D ++ T) = dch (D / 10 ^ k % 10) :: (pad k D ++ T) := by rw [pad_cons, List.cons_append]
          have hq : D / 10 ^ (k + 1) = D / 10 ^ k / 10 := by rw [Nat.pow_succ, ← Nat.div_div_eq_div_mul]
          obtain ⟨q, hqe⟩ : ∃ q, q = D / 10 ^ k := ⟨_, rfl⟩
          have hqD : q ≤ D := by rw [hqe]; exact Nat.div_le_self _ _
          rw [← hqe] at hnext hq ⊢
          generalize hSe : pad k D ++ T = S at *
          replace hSe := Lib.hid hSe
          replace hnext := Lib.hid hnext
          replace hq := Lib.hid hq
          replace hqe := Lib.hid hqe
          replace hlast := Lib.hid hlast
          have hcase : (k < 4 ∧ i + 1 < L) ∨ (k < 4 ∧ ¬ (i + 1 < L) ∧ 0 < q) ∨ (k < 4 ∧ ¬ (i + 1 < L) ∧ q = 0) ∨ k = 4 := by omega
          have henc := enc_dig q
          obtain ⟨ch, hch⟩ : ∃ ch, ch = dch (q % 10) := ⟨_, rfl⟩
          rw [← hch] at henc hnext
          replace hch := Lib.hid hch
          have hqB : (q : Int) ≤ 10000 := by omega
          have hsz : (⟨S.toArray⟩ : ByteArray).size = S.length := rfl
          rcases hcase with ⟨c1, c2⟩ | ⟨c1, c2, c3⟩ | ⟨c1, c2, c3⟩ | c1
          · have d1 : (k : Int) < 4 := by omega
            have d2 : (i : Int) + 1 < (L : Int) := by omega
            go_wp2_with fail
            go_roundw
            case rel => exact ⟨k + 1, (by rw [ba_cons, hnext.out]), (by rw [hq.out]; first | rfl | go_num), by first | rfl | go_num, by omega, (fun h => by omega), trivial⟩
            case measure => simp [intOf]; omega
          · have d1 : (k : Int) < 4 := by omega
            have d2 : ¬ (i : Int) + 1 < (L : Int) := by omega
            have d3 : (0 : Int) < (q : Int) := by omega
            go_wp2_with fail
            go_roundw
            case rel => exact ⟨k + 1, (by rw [ba_cons, hnext.out]), (by rw [hq.out]; first | rfl | go_num), by first | rfl | go_num, by omega, (fun h => .inr (by rw [Nat.add_sub_cancel, ← hqe.out]; omega)), trivial⟩
            case measure => simp [intOf]; omega
          · have hdone : TS n (i + 1) S := by
              have hl1 := hla.out (by have := hL.out; omega)
              have hp : pad k D = decDigits D := pad_dec (by have h1 := hqe.out; rw [c3] at h1; rcases Nat.lt_or_ge D (10 ^ k) with h | h; · exact h
                                                             · have := (Nat.le_div_iff_mul_le (Nat.pow_pos (n := k) (show 0 < 10 by omega))).2 (show 1 * 10 ^ k ≤ D by omega); omega) (hlast.out (by omega)) hl1.1
              rw [← hSe.out, hp]
              exact hl1.2
            replace hdone := Lib.hid hdone
            subst c3
            have d1 : (k : Int) < 4 := by omega
            have d2 : ¬ (i : Int) + 1 < (L : Int) := by omega
            go_wp2_with fail
            go_roundw
            case rel => exact ⟨i + 1, S, rfl, by first | rfl | go_num, by omega, hdone.out, by trivial⟩
            case measure => simp [intOf]; omega
          · have hdone : TS n (i + 1) S := by
              subst c1
              by_cases h : i + 1 < L
              · rw [← hSe.out]; exact hst.out (by have := hL.out; omega)
              · have hl1 := hla.out (by have := hL.out; omega)
                have hp : pad 4 D = decDigits D := pad_dec hD (hlast.out (by omega)) hl1.1
                rw [← hSe.out, hp]
                exact hl1.2
            replace hdone := Lib.hid hdone
            subst c1
            go_wp2_with fail
            go_roundw
            case rel => exact ⟨i + 1, S, rfl, by first | rfl | go_num, by omega, hdone.out, by trivial⟩
            case measure => simp [intOf]; omega
      · have k2 : ¬ (i : Int) < (L : Int) := by omega
        have hTe : T = decDigits n := by
          rcases hT with ⟨h1, h2⟩ | ⟨h1, h2⟩
          · have := hL.out; omega
          · exact h2
        have ht : txt n = ⟨T.toArray⟩ := by rw [hTe]; rfl
        replace ht := Lib.hid ht
        clear hT hTe
        go_wp2_with fail
        go_ret
        exact ⟨by rw [ht.out]; rfl, Below.refl _ _⟩
end Go.Proofs.YthehcjfmokabfaaDoor.Rx

/-
  The reference of layer 1 in the laws: same.
-/
namespace Go.Proofs.YthehcjfmokabfaaDoor.Rx
open Go.RowKit
attribute [local irreducible] lo hs tv dg cmpI txt decB

theorem box_alloc (w : World) (n : Nat) : NX (w.alloc (.cells #[.int .u64 ((lo n : Nat) : Int), .string (hs n)] 25)) w.heap.size n := by
  obtain ⟨w1, h1, h2, h3, h4⟩ := boxes1 w (.int .u64 ((lo n : Nat) : Int)) (.string (hs n)) 25
  rw [h1]; exact ⟨h2, h4⟩

end Go.Proofs.YthehcjfmokabfaaDoor.Rx

namespace Go.Proofs.YthehcjfmokabfaaDoor.Rx
open Go.RowKit
attribute [local irreducible] tv dg cmpI txt decB

theorem rparse_long (l : List UInt8) (h : 4096 < l.length) (hl : l.length ≤ 1000000) (w : World) :
    Calls Tryd.prog 32 #[.string (st l)] w fun e w' => e = .returned (.tuple #[.slice none 0 0, .int .i64 3]) ∧ Below w.heap.size w w' := by
  have h1 : decide ((4096 : Int) < ((st l).size : Int)) = true := decide_eq_true (by rw [st_size]; omega)
  have h2 : decide (4096 < (st l).size) = true := decide_eq_true (by rw [st_size]; omega)
  go_enter Tryd.func32, Tryd.ntmps32
  go_wp2_with fail
  exact bodyPost_ret (v := .tuple #[.slice none 0 0, .int .i64 3]) (by simp [results, Tryd.results32, go_sem]) rfl ⟨rfl, Below.refl _ _⟩

theorem app_c1 (w : World) (v : Value) (t : TypeId) : ∀ (j : Nat) (u : Value), [v][j]? = some u → (w.alloc (.cells #[v] t)).cell? ((⟨w.heap.size, 0, none⟩ : Addr).add j) = some u := by
  intro j u hj
  match j, hj with
  | 0, hj => simp at hj; subst hj; simp [Addr.add]
theorem app_c2 (k : IntKind) (x : Int) : ∀ u ∈ [Value.int k x], u.oneCell' = true := by
  intro u hu; simp at hu; subst hu; rfl
/-- What is appended, chunk by chunk. -/
structure PS (l : List UInt8) (S : List Nat) (t e : Nat) : Prop where
  len : S.length = t
  lt : ∀ d ∈ S, d < 10000
  pos : e = l.length - 4 * t
  eq : tv S + 10000 ^ t * dval (l.take e) = dval l
theorem PS.step {l : List UInt8} {S : List Nat} {t e : Nat} (h : PS l S t e) (hd : ∀ c ∈ l, isDig c) (he : 0 < e) :
    dval ((l.drop (e - 4)).take (e - (e - 4))) < 10000 ∧ PS l (S ++ [dval ((l.drop (e - 4)).take (e - (e - 4)))]) (t + 1) (e - 4) := by
  have hle : e ≤ l.length := by have := h.pos; omega
  have hch : ((l.drop (e - 4)).take (e - (e - 4))).length = e - (e - 4) := by rw [List.length_take, List.length_drop]; omega
  have hlt : dval ((l.drop (e - 4)).take (e - (e - 4))) < 10000 := by
    have h1 := dval_lt (l := (l.drop (e - 4)).take (e - (e - 4))) fun c hc => hd c (List.mem_of_mem_drop (List.mem_of_mem_take hc))
    rw [hch] at h1
    exact Nat.lt_of_lt_of_le h1 (Nat.le_trans (Nat.pow_le_pow_right (by omega) (show e - (e - 4) ≤ 4 by omega)) (by decide))
  refine ⟨hlt, by rw [List.length_append, h.len]; rfl, fun d hx => ?_, by have := h.pos; omega, ?_⟩
  · rcases List.mem_append.1 hx with hx | hx
    · exact h.lt d hx
    · rw [List.mem_singleton.1 hx]; exact hlt
  · have e1 : l.take e = l.take (e - 4) ++ (l.drop (e - 4)).take (e - (e - 4)) := by
      have := List.take_add (l := l) (i := e - 4) (j := e - (e - 4))
      rw [show e - 4 + (e - (e - 4)) = e by omega] at this
      exact this
    have e2 := h.eq
    rw [e1, dval_append, hch] at e2
    rw [tv_snoc, h.len, Nat.pow_succ]
    generalize dval ((l.drop (e - 4)).take (e - (e - 4))) = d at *
    rcases Nat.lt_or_ge e 4 with h4 | h4
    · have h0 : dval (l.take (e - 4)) = 0 := by rw [show e - 4 = 0 by omega, List.take_zero, dval_nil]
      rw [h0, Nat.zero_mul, Nat.zero_add] at e2
      rw [h0, Nat.mul_zero]; omega
    · rw [show e - (e - 4) = 4 by omega] at e2
      rw [Nat.mul_add, Nat.mul_comm (dval _) (10 ^ 4), ← Nat.mul_assoc, show (10 : Nat) ^ 4 = 10000 by rfl] at e2
      omega
theorem PS.start (l : List UInt8) : PS l [] 0 l.length := ⟨rfl, (fun d hd => by cases hd), by omega, by rw [tv_nil, List.take_length]; simp⟩

set_option maxHeartbeats 4000000 in
set_option maxRecDepth 100000 in
theorem rparse_any (l : List UInt8) (h : l.length ≤ 4096) (w : World) :
    Calls Tryd.prog 32 #[.string (st l)] w fun e w' =>
      ((isDec l ∧ ∃ v, e = .returned (.tuple #[v, .int .i64 0]) ∧ Rn w' v (dval l)) ∨ (¬ isDec l ∧ e = .returned (.tuple #[.slice none 0 0, .int .i64 4]))) ∧ Below w.heap.size w w' := by
  obtain ⟨i0, hi, hz0, hz1, hz2⟩ := info_parts Tryd.infoI
  have h1 : decide ((4096 : Int) < ((st l).size : Int)) = false := decide_eq_false (by rw [st_size]; omega)
  have h2 : decide (4096 < (st l).size) = false := decide_eq_false (by rw [st_size]; omega)
  have bad : ¬ isDec l → ∀ e, e = Ending.returned (.tuple #[.slice none 0 0, .int .i64 4]) → ∀ w', Below w.heap.size w w' →
      ((isDec l ∧ ∃ v, e = .returned (.tuple #[v, .int .i64 0]) ∧ Rn w' v (dval l)) ∨ (¬ isDec l ∧ e = .returned (.tuple #[.slice none 0 0, .int .i64 4]))) ∧ Below w.heap.size w w' := fun hb e he w' hw => ⟨.inr ⟨hb, he⟩, hw⟩
  have good : isDec l → ∀ e v, e = Ending.returned (.tuple #[v, .int .i64 0]) → ∀ w', Rn w' v (dval l) → Below w.heap.size w w' →
      ((isDec l ∧ ∃ v, e = .returned (.tuple #[v, .int .i64 0]) ∧ Rn w' v (dval l)) ∨ (¬ isDec l ∧ e = .returned (.tuple #[.slice none 0 0, .int .i64 4]))) ∧ Below w.heap.size w w' := fun hb e v he w' hv hw => ⟨.inl ⟨hb, v, he, hv⟩, hw⟩
  replace bad := Lib.hid bad
  replace good := Lib.hid good
  have hcase : l = [] ∨ (∃ m c, l = 48 :: c :: m) ∨ (l ≠ [] ∧ (l = [48] ∨ l.head? ≠ some 48)) := by
    match l with
    | [] => exact .inl rfl
    | [c] =>
      refine .inr (.inr ⟨by simp, ?_⟩)
      by_cases hc : c = 48
      · exact .inl (by rw [hc])
      · exact .inr (by simpa using hc)
    | c :: d :: m =>
      by_cases hc : c = 48
      · exact .inr (.inl ⟨m, d, by rw [hc]⟩)
      · exact .inr (.inr ⟨by simp, .inr (by simpa using hc)⟩)
  rcases hcase with rfl | ⟨m, c, rfl⟩ | ⟨hne, hhd⟩
  · have hb := Lib.hid (bad.out (fun h => by rcases h.2 with h | h; · cases h
                                             · exact h.1 rfl))
    have h3 : (((st []).size : Int) == 0) = true := rfl
    have h4 : ((st []).size == 0) = true := rfl
    go_enter Tryd.func32, Tryd.ntmps32
    go_wp2_with fail
    exact bodyPost_ret (v := .tuple #[.slice none 0 0, .int .i64 4]) (by simp [results, Tryd.results32, go_sem]) rfl (hb.out _ rfl _ (Below.refl _ _))
  · have hb := Lib.hid (bad.out (fun h => by rcases h.2 with h | ⟨-, h⟩; · simp at h
                                             · exact h rfl))
    have hlt : 0 < (st (48 :: c :: m)).size := by rw [st_size]; simp
    have hget : (st (48 :: c :: m))[0]'hlt = 48 := rfl
    have h3 : (((st (48 :: c :: m)).size : Int) == 0) = false := beq_eq_false_iff_ne.2 (by omega)
    have h4 : ((st (48 :: c :: m)).size == 0) = false := beq_eq_false_iff_ne.2 (by omega)
    have h5 : decide ((1 : Int) < ((st (48 :: c :: m)).size : Int)) = true := decide_eq_true (by rw [st_size]; simp; omega)
    have h6 : decide (1 < (st (48 :: c :: m)).size) = true := decide_eq_true (by rw [st_size]; simp)
    generalize st (48 :: c :: m) = s at *
    go_enter Tryd.func32, Tryd.ntmps32
    go_wp2_with fail
    exact bodyPost_ret (v := .tuple #[.slice none 0 0, .int .i64 4]) (by simp [results, Tryd.results32, go_sem]) rfl (hb.out _ rfl _ (Below.refl _ _))
  · have hpos : 0 < l.length := List.length_pos_iff.2 hne
    obtain ⟨n, hn⟩ : ∃ n, n = l.length := ⟨_, rfl⟩
    have hsz : (st l).size = n := by rw [st_size, hn]
    have hlt0 : 0 < (st l).size := by rw [hsz, hn]; exact hpos
    have hfirst : (((((st l)[0]'hlt0).toNat : Int) == 48) = false) ∨ (((((st l)[0]'hlt0).toNat : Int) == 48) = true ∧ decide ((1 : Int) < (n : Int)) = false ∧ decide (1 < n) = false) := by
      rcases hhd with rfl | hh
      · exact .inr ⟨rfl, by rw [hn]; rfl, by rw [hn]; rfl⟩
      · refine .inl (beq_eq_false_iff_ne.2 fun e => hh ?_)
        have h48 : (st l)[0]'hlt0 = 48 := UInt8.toNat_inj.1 (by show _ = 48; omega)
        have h49 : l[0]'hpos = 48 := h48
        rw [List.head?_eq_getElem?, List.getElem?_eq_getElem hpos, h49]
    have h3 : ((n : Int) == 0) = false := beq_eq_false_iff_ne.2 (by omega)
    have h4 : (n == 0) = false := beq_eq_false_iff_ne.2 (by omega)
    have hD : (∀ c ∈ l, isDig c) → isDec l := fun hd => ⟨hd, by rcases hhd with h | h; · exact .inl h
                                                                · exact .inr ⟨hne, h⟩⟩
    have hnd : ∀ c ∈ l, ¬ isDig c → ¬ isDec l := fun c hc hx hh => hx (hh.1 c hc)
    have hcell : ∀ (i : Nat) (hi : i < n), ∃ c, c ∈ l ∧ l.take (i + 1) = l.take i ++ [c] ∧ (st l)[i]'(by rw [hsz]; exact hi) = c ∧ (∀ m, m ≤ i → (l.drop m).take (i + 1 - m) = (l.drop m).take (i - m) ++ [c]) := fun i hi => by
      have hil : i < l.length := by omega
      refine ⟨l[i], List.getElem_mem hil, by rw [List.take_add_one, List.getElem?_eq_getElem hil]; rfl, rfl, fun m hm => ?_⟩
      rw [show i + 1 - m = (i - m) + 1 by omega, List.take_add_one, List.getElem?_drop, show m + (i - m) = i by omega, List.getElem?_eq_getElem hil]; rfl
    have hn4 : n ≤ 4096 := by omega
    have hst := PS.start l
    rw [← hn] at hst
    have hstep := fun S t e (h : PS l S t e) hd he => h.step hd he
    have hend := fun S t (h : PS l S t 0) => h.eq
    rw [hsz] at h1 h2
    generalize st l = s at *
    have HN := Lib.hid hn
    clear hhd hne hn h
    replace hD := Lib.hid hD
    replace hnd := Lib.hid hnd
    replace hcell := Lib.hid hcell
    replace hst := Lib.hid hst
    replace hstep := Lib.hid hstep
    replace hend := Lib.hid hend
    go_enter Tryd.func32, Tryd.ntmps32
    rcases hfirst with hf | ⟨hf, hf2, hf3⟩
    all_goals (
      go_wp2_with fail
      clear hf
      go_loopw [5] (fun z wx => ∃ i : Nat, i ≤ n ∧ z = .int .i64 (i : Int) ∧ (∀ c ∈ l.take i, isDig c) ∧ w = wx) (fun z _ => n - (intOf z).toNat)
      case atStart => exact ⟨0, Nat.zero_le _, rfl, by simp, rfl⟩
      case round =>
        obtain ⟨i, hin, rfl, hd, rfl⟩ := hrel
        rcases Nat.lt_or_eq_of_le hin with hlt | hie
        · obtain ⟨c, hmem, htk, hget, -⟩ := hcell.out i hlt
          have hls : i < s.size := by rw [hsz]; exact hlt
          have k1 : (i : Int) < (n : Int) := by omega
          have hib : (i : Int) ≤ 4096 := by omega
          replace htk := Lib.hid htk
          by_cases hdg : isDig c
          · have g1 : decide ((c.toNat : Int) < 48) = false := decide_eq_false (by unfold isDig at hdg; omega)
            have g2 : decide (57 < (c.toNat : Int)) = false := decide_eq_false (by unfold isDig at hdg; omega)
            have g3 : (48 : Int) ≤ (c.toNat : Int) := by unfold isDig at hdg; omega
            have g4 : (c.toNat : Int) ≤ 57 := by unfold isDig at hdg; omega
            have HC := Lib.hid (⟨hd, hdg⟩ : (∀ c ∈ l.take i, isDig c) ∧ isDig c)
            clear hd hdg hmem
            go_wp2_with fail
            go_roundw
            case rel =>
              refine ⟨i + 1, hlt, rfl, fun x hx => ?_, trivial⟩
              rw [htk.out] at hx
              rcases List.mem_append.1 hx with hx | hx
              · exact HC.out.1 x hx
              · rw [List.mem_singleton.1 hx]; exact HC.out.2
            case measure => simp [intOf]; omega
          · have hb := Lib.hid (bad.out (hnd.out c hmem hdg))
            have g5 : (c.toNat : Int) < 48 ∨ 57 < (c.toNat : Int) := by unfold isDig at hdg; omega
            clear hd hdg hmem
            rcases g5 with g5 | g5
            · have g1 : decide ((c.toNat : Int) < 48) = true := decide_eq_true g5
              go_wp2_with fail
              exact bodyPost_ret (v := .tuple #[.slice none 0 0, .int .i64 4]) (by simp [results, Tryd.results32, go_sem]) rfl (hb.out _ rfl _ (Below.refl _ _))
            · have g1 : decide ((c.toNat : Int) < 48) = false := decide_eq_false (by omega)
              have g2 : decide (57 < (c.toNat : Int)) = true := decide_eq_true g5
              go_wp2_with fail
              exact bodyPost_ret (v := .tuple #[.slice none 0 0, .int .i64 4]) (by simp [results, Tryd.results32, go_sem]) rfl (hb.out _ rfl _ (Below.refl _ _))
        · have k1 : ¬ (i : Int) < (n : Int) := by omega
          have hda : ∀ c ∈ l, isDig c := fun c hc => hd c (by rw [List.take_of_length_le (by have := HN.out; omega)]; exact hc)
          have hok := Lib.hid (good.out (hD.out hda))
          replace hda := Lib.hid hda
          clear hd bad hnd hD hie
          go_wp2_with fail
          go_loopw [4, 6] (fun v z wx => ∃ (t e : Nat) (S : List Nat) (zi : Int), z = .int .i64 zi ∧ (zi = (e : Int) ∨ (zi ≤ 0 ∧ e = 0)) ∧ -4 ≤ zi ∧ e ≤ n ∧ t ≤ n ∧ PS l S t e ∧ wx.ownsRow w.heap.size 3 1 v t (S.map iv) ∧ Below w.heap.size w wx) (fun _ z _ => (intOf z + 4).toNat)
          case atStart => exact ⟨0, n, [], n, rfl, .inl rfl, by omega, Nat.le_refl _, Nat.zero_le _, hst.out, World.ownsRow_nil _ _ _ _, Below.refl _ _⟩
          case round =>
            obtain ⟨t, e, S, zi, rfl, hze, hz4, hen, htn, hS, hown, hbl⟩ := hrel
            rcases Nat.eq_zero_or_pos e with he | he
            · subst he
              have k2 : ¬ (0 : Int) < zi := by omega
              have hT : tv S = dval l := by
                have := hend.out S t hS
                rw [List.take_zero, dval_nil, Nat.mul_zero, Nat.add_zero] at this
                exact this
              have HT := trim_any u4 S hS.lt (by rw [hS.len]; omega) wr (Sl.owned hown hS.len.symm)
              rw [hT] at HT
              replace HT := Lib.hid HT
              clear hT hS hown hze
              go_wp2_with fail
              with_reducible refine Calls.mono HT.out ?_
              rintro e w1 ⟨v', rfl, hv, rfl⟩
              replace hv := Lib.hid hv
              go_wp2_with fail
              exact bodyPost_ret (v := .tuple #[v', .int .i64 0]) (by simp [results, Tryd.results32, go_sem]) rfl (hok.out _ _ rfl _ hv.out hbl)
            · obtain rfl : zi = (e : Int) := by omega
              obtain ⟨hdl, hnx⟩ := hstep.out S t e hS hda.out he
              have k2 : (0 : Int) < (e : Int) := by omega
              have heb : (e : Int) ≤ 4096 := by omega
              have htb : (t : Int) ≤ 4096 := by omega
              replace hnx := Lib.hid hnx
              have htl : t + 1 ≤ n := by have := hS.pos; have := HN.out; omega
              clear hze hS
              obtain ⟨m, hm⟩ : ∃ m, m = e - 4 := ⟨_, rfl⟩
              rw [← hm] at hdl hnx
              have hmx : ((e : Int) - 4 ≤ 0 ∧ m = 0) ∨ (0 < (e : Int) - 4 ∧ (e : Int) - 4 = (m : Int)) := by omega
              replace hm := Lib.hid hm
              have hmax : max (0 : Int) ((e : Int) - 4) = (m : Int) := by omega
              clear hmx
              go_wp2_with fail
              go_loopw [7, 8] (fun dv jv wx => ∃ i : Nat, m ≤ i ∧ i ≤ e ∧ jv = .int .i64 (i : Int) ∧ dv = .int .i64 ((dval ((l.drop m).take (i - m)) : Nat) : Int) ∧ wx.ownsRow w.heap.size 3 1 u4 t (S.map iv) ∧ Below w.heap.size w wx) (fun _ jv _ => e - (intOf jv).toNat)
              case atStart => exact ⟨m, Nat.le_refl _, by have := hm.out; omega, by first | rfl | go_num, by rw [Nat.sub_self, List.take_zero]; rfl, hown, hbl⟩
              case round =>
                obtain ⟨j, hmj, hje, rfl, rfl, hown2, hbl2⟩ := hrel
                rcases Nat.lt_or_ge j e with hlt | hge
                · obtain ⟨c, hmem, -, hget, hpre⟩ := hcell.out j (by omega)
                  have hls : j < s.size := by rw [hsz]; omega
                  have hnext := hpre m hmj
                  have hdg := hda.out c hmem
                  have hnv : dval ((l.drop m).take (j + 1 - m)) = dval ((l.drop m).take (j - m)) * 10 + (c.toNat - 48) := by rw [hnext, dval_snoc]
                  have hDb : dval ((l.drop m).take (j - m)) < 10000 := by
                    have h1 := dval_lt (l := (l.drop m).take (j - m)) fun c hc => hda.out c (List.mem_of_mem_drop (List.mem_of_mem_take hc))
                    exact Nat.lt_of_lt_of_le h1 (Nat.le_trans (Nat.pow_le_pow_right (by omega) (show _ ≤ 4 by rw [List.length_take]; have := hm.out; omega)) (by decide))
                  have g3 : (48 : Int) ≤ (c.toNat : Int) := by unfold isDig at hdg; omega
                  have g4 : (c.toNat : Int) ≤ 57 := by unfold isDig at hdg; omega
                  generalize dval ((l.drop m).take (j - m)) = D at *
                  replace hnv := Lib.hid hnv
                  clear hpre hnext hdg hmem hdl
                  have k3 : (j : Int) < (e : Int) := by omega
                  have hjb : (j : Int) ≤ 4096 := by omega
                  go_wp2_with fail
                  go_roundw
                  case rel => exact ⟨j + 1, by omega, by omega, by first | rfl | go_num, (by rw [hnv.out]; go_num), hown2, hbl2⟩
                  case measure => simp [intOf]; omega
                · obtain rfl : j = e := by omega
                  have k3 : ¬ (j : Int) < (j : Int) := by omega
                  generalize dval ((l.drop m).take (j - m)) = D at *
                  go_wp2_with (at_builtin; refine wpList_append_own _ rfl _ _ 32 rfl w.heap.size 3 i0 (.int .i64 0) 1 8 Tryd.underlying32 hi hz0 hz1 hz2 rfl (by decide) _ _ _ rfl (hown2.alloc _) ⟨wr.heap.size, 0, none⟩ 1 1 [.int .i64 (D : Int)] rfl rfl (app_c1 _ _ _) (app_c2 _ _) (by unfold maxLen; omega) (by omega) (by have := hbl2.size; simp; omega) ?_)
                  intro v' w1 hown' hgrow _
                  have hn' := Lib.hid (own_snoc (d := D) rfl hown')
                  have hb' := Lib.hid (below_app hbl2 hbl2.size hown2 hgrow)
                  clear hown' hgrow hown2 hbl2 hown hbl
                  go_wp2_with fail
                  go_roundw
                  case rel => exact ⟨t + 1, m, _, (j : Int) - 4, by first | rfl | go_num, (by have := hm.out; omega), by omega, (by have := hm.out; omega), htl, hnx.out, hn'.out, hb'.out⟩
                  case measure => simp [intOf]; omega)
end Go.Proofs.YthehcjfmokabfaaDoor.Rx
