/-
  The law answers true at every input, and leaves its arguments as they were: a part of the proof. CONDITIONS: the package-level tables start as the program's text lays them (the card ties them).
-/
import Derived.Test.YtaimebjkidegiaaGreatDoorZrb
import Derived.Test.YtaimebjkidegiaaGreatDoorRows
set_option linter.unusedVariables false
set_option linter.unusedSimpArgs false
set_option maxHeartbeats 16000000
set_option maxRecDepth 100000
namespace Go.Proofs.YtaimebjkidegiaaGreatDoor.Rx
open Go.RowKit
/-- The number that digits spell. -/
def tv : List Nat → Nat
 | [] => 0
 | d :: l => d + 10000 * tv l
theorem tv_cons (d : Nat) (l : List Nat) : tv (d :: l) = d + 10000 * tv l := rfl
theorem tv_nil : tv [] = 0 := rfl
/-- The digits of a number. -/
def td (n : Nat) : List Nat := if h : n = 0 then [] else n % 10000 :: td (n / 10000)
theorem td_zero : td 0 = [] := by rw [td, dif_pos rfl]
theorem td_pos {n : Nat} (h : n ≠ 0) : td n = n % 10000 :: td (n / 10000) := by rw [td, dif_neg h]
theorem tv_td (n : Nat) : tv (td n) = n := by
 induction n using Nat.strongRecOn with
 | _ n ih =>
  by_cases h : n = 0
  ·rw [h, td_zero]; rfl
  ·rw [td_pos h, tv, ih (n / 10000) (by omega)]; omega
theorem td_lt (n : Nat) : ∀ d ∈ td n, d < 10000 := by
 induction n using Nat.strongRecOn with
 | _ n ih =>
  by_cases h : n = 0
  ·rw [h, td_zero]; intro d hd; cases hd
  ·rw [td_pos h]
   intro d hd
   rcases List.mem_cons.1 hd with rfl | hd
   ·omega
   ·exact ih (n / 10000) (by omega) d hd
theorem td_nil {n : Nat} : td n = [] ↔ n = 0 := by
 by_cases h : n = 0
 ·rw [h, td_zero]; simp
 ·rw [td_pos h]; simp [h]
theorem tv_append (l m : List Nat) : tv (l ++ m) = tv l + 10000 ^ l.length * tv m := by
 induction l with
 | nil => simp [tv]
 | cons d l ih => rw [List.cons_append, tv, ih, tv, List.length_cons, Nat.pow_succ, Nat.mul_add, Nat.mul_comm _ 10000, Nat.mul_assoc]; omega
theorem tv_lt {l : List Nat} (h : ∀ d ∈ l, d < 10000) : tv l < 10000 ^ l.length := by
 induction l with
 | nil => exact Nat.one_pos
 | cons d l ih =>
  have h1 := ih fun x hx => h x (List.mem_cons_of_mem _ hx)
  have h2 := h d List.mem_cons_self
  rw [tv, List.length_cons, Nat.pow_succ]
  omega
theorem tv_zeros (k : Nat) : tv (List.replicate k 0) = 0 := by
 induction k with
 | zero => rfl
 | succ k ih => rw [List.replicate_succ, tv, ih]
/-- Digits are those of their number, and zeros behind them. -/
theorem td_tv {l : List Nat} (h : ∀ d ∈ l, d < 10000) : ∃ z, l = td (tv l) ++ List.replicate z 0 := by
 induction l with
 | nil => exact ⟨0, by rw [tv, td_zero]; rfl⟩
 | cons d l ih =>
  obtain ⟨z, hz⟩ := ih fun x hx => h x (List.mem_cons_of_mem _ hx)
  have hd := h d List.mem_cons_self
  rw [tv]
  by_cases h0 : d + 10000 * tv l = 0
  ·have h1 : tv l = 0 := by omega
   rw [h1, td_zero, List.nil_append] at hz
   refine ⟨z + 1, ?_⟩
   rw [h0, td_zero, List.nil_append, List.replicate_succ, ← hz, show d = 0 by omega]
  ·refine ⟨z, ?_⟩
   rw [td_pos h0, show (d + 10000 * tv l) % 10000 = d by omega, show (d + 10000 * tv l) / 10000 = tv l by omega, List.cons_append, ← hz]
theorem td_length {n k : Nat} : (td n).length ≤ k ↔ n < 10000 ^ k := by
 induction k generalizing n with
 | zero =>
  rw [Nat.pow_zero]
  constructor
  ·intro h; have := td_nil.1 (List.eq_nil_of_length_eq_zero (l := td n) (by omega)); omega
  ·intro h; rw [show n = 0 by omega, td_zero]; exact Nat.le_refl _
 | succ k ih =>
  by_cases h : n = 0
  ·rw [h, td_zero]; exact ⟨fun _ => Nat.pow_pos (by omega), fun _ => Nat.zero_le _⟩
  ·rw [td_pos h, List.length_cons, Nat.pow_succ]
   have := ih (n := n / 10000)
   constructor
   ·intro h1; have := this.1 (by omega); omega
   ·intro h1; have := this.2 (by omega); omega
theorem td_mono {a b : Nat} (h : a ≤ b) : (td a).length ≤ (td b).length := td_length.2 (Nat.lt_of_le_of_lt h (td_length.1 (Nat.le_refl _)))
theorem tv_snoc (l : List Nat) (d : Nat) : tv (l ++ [d]) = tv l + 10000 ^ l.length * d := by rw [tv_append]; simp [tv]
theorem tv_take_getElem {l : List Nat} {k : Nat} (h : k < l.length) : tv (l.take (k + 1)) = tv (l.take k) + 10000 ^ k * l[k] := by
 rw [List.take_succ_eq_append_getElem h, tv_snoc, List.length_take, Nat.min_eq_left (Nat.le_of_lt h)]
theorem td_last {n : Nat} (h : td n ≠ []) : (td n).getLast h ≠ 0 := by
 induction n using Nat.strongRecOn with
 | _ n ih =>
  have h0 : n ≠ 0 := fun e => h (td_nil.2 e)
  by_cases h1 : n / 10000 = 0
  ·simp only [td_pos h0, h1, td_zero, List.getLast_singleton]; omega
  ·have h2 : td (n / 10000) ≠ [] := fun e => h1 (td_nil.1 e)
   have := ih (n / 10000) (by omega) h2
   simp only [td_pos h0]
   rwa [List.getLast_cons h2]
/-- A digit, or 0 behind the last one. -/
def dg (l : List Nat) (i : Nat) : Nat := l.getD i 0
theorem dg_lt {l : List Nat} (h : ∀ d ∈ l, d < 10000) (i : Nat) : dg l i < 10000 := by
 unfold dg
 rcases Nat.lt_or_ge i l.length with hi | hi
 ·simp [hi]; exact h _ (List.getElem_mem hi)
 ·simp [hi]
theorem dg_in {l : List Nat} {i : Nat} (h : i < l.length) : dg l i = l[i] := by unfold dg; simp [h]
theorem dg_out {l : List Nat} {i : Nat} (h : l.length ≤ i) : dg l i = 0 := by unfold dg; simp [h]
theorem tv_take (l : List Nat) (k : Nat) : tv (l.take (k + 1)) = tv (l.take k) + 10000 ^ k * dg l k := by
 rcases Nat.lt_or_ge k l.length with h | h
 ·rw [tv_take_getElem h, dg_in h]
 ·rw [dg_out h, List.take_of_length_le (by omega), List.take_of_length_le h]; omega
/-- A slice of ints that can be read. -/
structure Sd (w : World) (a : Addr) (l : List Nat) : Prop where
 cell : ∀ (i : Nat) (h : i < l.length), w.cell? (a.add i) = some (.int .i64 ((l[i] : Nat) : Int))
 blk : a.block < w.heap.size
theorem addB (a : Addr) (i : Nat) : (a.add i).block = a.block := by unfold Addr.add; split <;> rfl
theorem Sd.below {w w' : World} {a : Addr} {l : List Nat} (h : Sd w a l) (hb : Below w.heap.size w w') : Sd w' a l :=
 ⟨fun i hi => (hb.cell (p := a.add i) (by rw [addB]; exact h.blk)).trans (h.cell i hi), Nat.lt_of_lt_of_le h.blk hb.size⟩
theorem Sd.left {w : World} {a : Addr} {l m : List Nat} (h : Sd w a (l ++ m)) : Sd w a l :=
 ⟨fun i hi => by rw [h.cell i (by rw [List.length_append]; omega), List.getElem_append_left hi], h.blk⟩
def Sl (w : World) (v : Value) (l : List Nat) : Prop := (∃ ao c, v = .slice ao 0 c ∧ l = [] ∧ (ao = none → c = 0)) ∨ ∃ a c, v = .slice (some a) l.length c ∧ l.length ≤ c ∧ Sd w a l
theorem Sl.below {w w' : World} {v : Value} {l : List Nat} (h : Sl w v l) (hb : Below w.heap.size w w') : Sl w' v l := by
 rcases h with h | ⟨a, c, h1, h2, h3⟩
 ·exact .inl h
 ·exact .inr ⟨a, c, h1, h2, h3.below hb⟩
theorem Sl.form {w : World} {v : Value} {l : List Nat} (h : Sl w v l) : ∃ ao c, v = .slice ao l.length c := by
 rcases h with ⟨ao, c, rfl, rfl, -⟩ | ⟨a, c, rfl, _⟩
 ·exact ⟨_, _, rfl⟩
 ·exact ⟨_, _, rfl⟩
theorem Sl.nil (w : World) : Sl w (.slice none 0 0) [] := .inl ⟨_, _, rfl, rfl, fun _ => rfl⟩
theorem Sl.drew {w : World} {v : Value} {l : List Nat} (h : Sl w v l) : Sl w.drew v l := by
 rcases h with h | ⟨a, c, h1, h2, h3⟩
 ·exact .inl h
 ·exact .inr ⟨a, c, h1, h2, h3.cell, h3.blk⟩
/-- What the walk asks of a slice. -/
theorem Sl.view {w : World} {v : Value} {l : List Nat} (h : Sl w v l) : ∃ ao c, v = .slice ao l.length c ∧ (0 < l.length → ∃ a, ao = some a ∧ l.length ≤ c ∧ Sd w a l) := by
 rcases h with ⟨ao, c, rfl, rfl, -⟩ | ⟨a, c, rfl, h2, h3⟩
 ·exact ⟨_, _, rfl, fun h => absurd h (Nat.lt_irrefl 0)⟩
 ·exact ⟨_, _, rfl, fun _ => ⟨a, rfl, h2, h3⟩⟩
/-- What an append looks at. -/
theorem Sl.src {w : World} {v : Value} {l : List Nat} (h : Sl w v l) : (v = .slice none 0 0 ∧ l = []) ∨ ∃ ad c, v = .slice (some ad) l.length c ∧ ∀ (j : Nat) (u : Value), (l.map fun (d : Nat) => Value.int .i64 (d : Int))[j]? = some u → w.cell? (ad.add j) = some u := by
 rcases h with ⟨ao, c, rfl, rfl, hc⟩ | ⟨a, c, rfl, _, h3⟩
 ·cases ao with
  | none => exact .inl ⟨by rw [hc rfl], rfl⟩
  | some ad => exact .inr ⟨ad, c, rfl, fun j u hu => by simp at hu⟩
 ·refine .inr ⟨a, c, rfl, fun j u hu => ?_⟩
  rw [List.getElem?_map] at hu
  obtain ⟨x, hx, rfl⟩ := Option.map_eq_some_iff.1 hu
  obtain ⟨hjl, rfl⟩ := List.getElem?_eq_some_iff.1 hx
  exact h3.cell j hjl
/-- What the call owns can be read. -/
theorem Sl.owned {w : World} {base e : Nat} {v : Value} {n : Nat} {l : List Nat} (h : w.ownsRow base e 1 v n (l.map fun (d : Nat) => Value.int .i64 (d : Int))) (hn : n = l.length) : Sl w v l := by
 subst hn
 have hlt := h.lt
 have hc := fun g hg => World.ownsRow.cells h (g := g) hg
 rcases h.2 with ⟨h', h''⟩ | ⟨g, cap, cur, h', _, hg, hm, hk, hsz, htake⟩
 ·exact .inl ⟨none, 0, h', by simpa using h'', fun _ => rfl⟩
 ·refine .inr ⟨⟨g, 0, none⟩, cap, h', ?_, fun i hi => ?_, ?_⟩
  ·omega
  ·have := hc g (by rw [h']; rfl) i (.int .i64 ((l[i] : Nat) : Int)) (by simp [hi])
   exact this
  ·exact (hlt g (by rw [h']; rfl)).2
abbrev iv (d : Nat) : Value := .int .i64 (d : Int)
theorem own_next {w : World} {B e k : Nat} {v : Value} {l : List Nat} (h : k < l.length) {x : Int} (hx : x = ((l[k] : Nat) : Int)) (ho : w.ownsRow B e 1 v (k + 1) (List.take k (List.map iv l) ++ [.int .i64 x])) :
  w.ownsRow B e 1 v (k + 1) ((l.take (k + 1)).map iv) := by
 rw [List.take_succ_eq_append_getElem h, List.map_append, List.map_take]
 rw [hx] at ho
 exact ho
theorem own_snoc {w : World} {B e k : Nat} {v : Value} {l : List Nat} {x : Int} {d : Nat} (hx : x = (d : Int)) (ho : w.ownsRow B e 1 v (k + 1) (List.map iv l ++ [.int .i64 x])) : w.ownsRow B e 1 v (k + 1) ((l ++ [d]).map iv) := by
 rw [hx] at ho
 rw [List.map_append]
 exact ho
theorem below_app {B e k : Nat} {w wr w1 : World} {v : Value} {xs : List Value} {o : Obj} (hb : Below B w wr) (hB : B ≤ wr.heap.size) (hown : wr.ownsRow B e 1 v k xs) (hg : (wr.alloc o).grownBy w1 v.ownBlock) : Below B w w1 :=
 (hb.alloc hB o).grown hg (by rw [World.size_alloc]; omega) (fun j hj => (hown.lt j hj).1)
end Go.Proofs.YtaimebjkidegiaaGreatDoor.Rx
namespace Go.Proofs.YtaimebjkidegiaaGreatDoor.Rx
open Go.RowKit
attribute [local irreducible] tv dg
theorem at_any (v : Value) (l : List Nat) (i : Nat) (hi : i < 9223372036854775808) (hl : l.length < 9223372036854775808) (w : World) (h : Sl w v l) :
  Calls Tryz.prog 130 #[v, .int .i64 (i : Int)] w fun e w' => e = .returned (.int .i64 ((dg l i : Nat) : Int)) ∧ w = w' := by
 obtain ⟨ao, c, rfl, hv⟩ := h.view
 rcases Nat.lt_or_ge i l.length with hlt | hge
 ·obtain ⟨a, rfl, -, hs⟩ := hv (by omega)
  have hc := hs.cell i hlt
  have hd := Lib.hid (dg_in hlt)
  obtain ⟨d, hd'⟩ : ∃ d, d = dg l i := ⟨_, rfl⟩
  rw [← hd.out, ← hd'] at hc
  rw [← hd']
  clear hd hd' hv h hs
  generalize l.length = n at *
  have h1 : (i : Int) < (n : Int) := by omega
  go_enter Tryz.func130, Tryz.ntmps130
  go_wp2
  go_ret
  exact ⟨rfl, rfl⟩
 ·rw [dg_out hge]
  generalize l.length = n at *
  have h1 : ¬ (i : Int) < (n : Int) := by omega
  go_enter Tryz.func130, Tryz.ntmps130
  go_wp2
  go_ret
  exact ⟨rfl, rfl⟩
def lenOf : Value → Nat | .slice _ n _ => n | _ => 0
theorem trim_nil (ao : Option Addr) (c : Nat) (w : World) :
  Calls Tryz.prog 128 #[.slice ao 0 c] w fun e w' => e = .returned (.slice ao 0 c) ∧ w = w' := by
 go_enter Tryz.func128, Tryz.ntmps128
 go_wp2_with fail
 go_loopw [0] (fun v wr => v = .slice ao 0 c ∧ wr = w) (fun v _ => lenOf v)
 case atStart => exact ⟨rfl, rfl⟩
 case round =>
  obtain ⟨rfl, rfl⟩ := hrel
  go_wp2_with fail
  go_ret
  exact ⟨rfl, rfl⟩
theorem trim_row (a : Addr) (c m z : Nat) (l : List Nat) (hm : l.length = m) (hc : m + z ≤ c) (hB : m + z < 9223372036854775807) (hlast : ∀ h : l ≠ [], l.getLast h ≠ 0) (w : World) (h : Sd w a (l ++ List.replicate z 0)) :
  Calls Tryz.prog 128 #[.slice (some a) (m + z) c] w fun e w' => e = .returned (.slice (some a) m c) ∧ w = w' := by
 have hz : ∀ k, k < z → w.cell? (a.add (m + k)) = some (.int .i64 0) := fun k hk => by
  rw [h.cell (m + k) (by simp; omega), List.getElem_append_right (by omega)]; simp
 have hl : ∀ p, m = p + 1 → ∃ d : Nat, d ≠ 0 ∧ w.cell? (a.add p) = some (.int .i64 (d : Int)) := fun p hp => by
  have hne : l ≠ [] := fun e => by rw [e] at hm; simp at hm; omega
  refine ⟨l.getLast hne, hlast hne, ?_⟩
  rw [h.cell p (by simp; omega), List.getElem_append_left (by omega), List.getLast_eq_getElem hne]
  simp [hm, hp]
 clear h hlast hm
 replace hz := Lib.hid hz
 replace hl := Lib.hid hl
 go_enter Tryz.func128, Tryz.ntmps128
 go_wp2_with fail
 go_loopw [0] (fun v wr => ∃ k, k ≤ z ∧ v = .slice (some a) (m + k) c ∧ wr = w) (fun v _ => lenOf v)
 case atStart => exact ⟨z, Nat.le_refl _, rfl, rfl⟩
 case round =>
  obtain ⟨k, hk, rfl, rfl⟩ := hrel
  cases k with
  | zero =>
   rw [Nat.add_zero]
   cases m with
   | zero =>
    go_wp2_with fail
    go_ret
    exact ⟨rfl, rfl⟩
   | succ p =>
    obtain ⟨d, hd, hcell⟩ := hl.out p rfl
    have hd1 : ((d : Int) == 0) = false := beq_eq_false_iff_ne.2 (by omega)
    go_wp2_with fail
    go_ret
    exact ⟨rfl, rfl⟩
  | succ j =>
   have hcell := hz.out j (by omega)
   rw [show m + (j + 1) = (m + j) + 1 from by omega]
   obtain ⟨q, hq⟩ : ∃ q, q = m + j := ⟨_, rfl⟩
   rw [← hq] at hcell ⊢
   have hqc : q + 1 ≤ c := by omega
   have hqB : q + 1 < 9223372036854775807 := by omega
   replace hq := Lib.hid hq
   go_wp2_with fail
   go_roundw
   case rel => exact ⟨j, by omega, by rw [hq.out], trivial⟩
   case measure => simp [lenOf]
/-- trim: the digits of a number. -/
theorem trim_any (v : Value) (l : List Nat) (hd : ∀ d ∈ l, d < 10000) (hB : l.length < 9223372036854775807) (w : World) (h : Sl w v l) :
  Calls Tryz.prog 128 #[v] w fun e w' => ∃ v', e = .returned v' ∧ Sl w v' (td (tv l)) ∧ w = w' := by
 obtain ⟨z, hz⟩ := td_tv hd
 rcases h with ⟨ao, c, rfl, rfl, hc0⟩ | ⟨a, c, rfl, h2, h3⟩
 ·refine (trim_nil ao c w).mono ?_
  rintro e w' ⟨rfl, rfl⟩
  exact ⟨_, rfl, .inl ⟨ao, c, rfl, by rw [tv_nil, td_zero], hc0⟩, rfl⟩
 ·have hlen : l.length = (td (tv l)).length + z := by
   have := congrArg List.length hz
   rwa [List.length_append, List.length_replicate] at this
  rw [hz] at h3
  rw [hlen] at h2 hB ⊢
  refine (trim_row a c _ z (td (tv l)) rfl h2 hB (fun h => td_last h) w h3).mono ?_
  rintro e w' ⟨rfl, rfl⟩
  exact ⟨_, rfl, .inr ⟨a, c, rfl, by omega, h3.left⟩, rfl⟩
end Go.Proofs.YtaimebjkidegiaaGreatDoor.Rx
namespace Go.Proofs.YtaimebjkidegiaaGreatDoor.Rx
open Go.RowKit
attribute [local irreducible] tv dg
theorem Tryz.infoI : (Tryz.prog.info? 3).map (fun i => (i.zero, i.size, i.bytes)) = some (some (.int .i64 0), 1, 8) := by kernel_rfl
/-- What the digits so far spell, with what is left. -/
theorem td_step {n k : Nat} (hk : k < (td n).length) : n / 10000 ^ k ≠ 0 ∧ (td n)[k] = n / 10000 ^ k % 10000 := by
 induction k generalizing n with
 | zero =>
  have h0 : n ≠ 0 := fun e => by rw [e, td_zero] at hk; exact absurd hk (by simp)
  simp only [Nat.pow_zero, Nat.div_one]
  refine ⟨h0, ?_⟩
  simp only [td_pos h0, List.getElem_cons_zero]
 | succ k ih =>
  have h0 : n ≠ 0 := fun e => by rw [e, td_zero] at hk; exact absurd hk (by simp)
  have hk' : k < (td (n / 10000)).length := by rw [td_pos h0, List.length_cons] at hk; omega
  have := ih hk'
  rw [Nat.div_div_eq_div_mul, Nat.mul_comm, ← Nat.pow_succ] at this
  refine ⟨this.1, ?_⟩
  simp only [td_pos h0, List.getElem_cons_succ]
  exact this.2
theorem td_end {n k : Nat} (hk : (td n).length ≤ k) : n / 10000 ^ k = 0 := Nat.div_eq_of_lt (td_length.1 hk)
theorem rof_any (n : Nat) (hn : n < 18446744073709551616) (w : World) :
  Calls Tryz.prog 52 #[.int .u64 (n : Int)] w fun e w' => ∃ v, e = .returned v ∧ Sl w' v (td n) ∧ Below w.heap.size w w' := by
 obtain ⟨i0, hi, hz0, hz1, hz2⟩ := info_parts Tryz.infoI
 have hlen : (td n).length ≤ 5 := td_length.2 (by omega)
 replace hn := Lib.hid hn
 go_enter Tryz.func52, Tryz.ntmps52
 go_wp2_with fail
 go_loopw [0, 3] (fun u v wr => ∃ k : Nat, k ≤ (td n).length ∧ u = .int .u64 ((n / 10000 ^ k : Nat) : Int) ∧ wr.ownsRow w.heap.size 3 1 v k (((td n).take k).map iv) ∧ Below w.heap.size w wr) (fun u _ _ => (intOf u).toNat)
 case atStart => exact ⟨0, Nat.zero_le _, by simp, World.ownsRow_nil _ _ _ _, Below.refl _ _⟩
 case round =>
  obtain ⟨k, hk, rfl, hown, hb⟩ := hrel
  rcases Nat.lt_or_ge k (td n).length with hlt | hge
  ·obtain ⟨h1, h2⟩ := td_step hlt
   obtain ⟨q, hq⟩ : ∃ q, q = n / 10000 ^ k := ⟨_, rfl⟩
   have hqn : q ≤ n := by rw [hq]; exact Nat.div_le_self _ _
   rw [← hq] at h1 h2 ⊢
   have hq0 : (0 : Int) < (q : Int) := by omega
   have hqB : (q : Int) ≤ 18446744073709551615 := by have := hn.out; omega
   replace hq := Lib.hid hq
   replace h2 := Lib.hid h2
   replace h1 := Lib.hid h1
   go_wp2_with (at_builtin; refine wpList_append_own _ rfl _ _ 38 rfl w.heap.size 3 i0 (.int .i64 0) 1 8 Tryz.underlying38 hi hz0 hz1 hz2 rfl (by decide) _ _ _ rfl (hown.alloc _) ⟨wr.heap.size, 0, none⟩ 1 1 [.int .i64 ((q : Int) % 10000)] rfl rfl ?c1 ?c2 ?c3 ?c4 ?c5 ?_)
   case c1 =>
    intro j u hj
    match j, hj with
    | 0, hj => simp at hj; subst hj; simp [Addr.add]
   case c2 => intro u hu; simp at hu; subst hu; rfl
   case c3 => unfold maxLen; omega
   case c4 => omega
   case c5 => have := hb.size; simp; omega
   intro v' w1 hown' hgrow _
   have hn' := Lib.hid (own_next hlt (by rw [h2.out]; omega) hown')
   have hb' := Lib.hid (below_app hb hb.size hown hgrow)
   clear hown' hgrow hown hb
   go_wp2_with fail
   go_roundw
   case rel => exact ⟨k + 1, by omega, by rw [Nat.pow_succ, ← Nat.div_div_eq_div_mul, ← hq.out]; first | rfl | go_num, hn'.out, hb'.out⟩
   case measure => simp [intOf]; omega
  ·have h0 := td_end hge
   have hke : k = (td n).length := by omega
   rw [hke, List.take_length] at hown
   have hS := Lib.hid (Sl.owned hown rfl)
   rw [h0]
   clear h0 hke hown hge hk
   go_wp2_with fail
   go_ret
   exact ⟨_, rfl, hS.out, hb⟩
end Go.Proofs.YtaimebjkidegiaaGreatDoor.Rx
namespace Go.Proofs.YtaimebjkidegiaaGreatDoor.Rx
open Go.RowKit
attribute [local irreducible] tv dg
/-- What Add's rounds keep. -/
structure AddS (A B S : List Nat) (i c : Nat) : Prop where
 len : S.length = i
 lt : ∀ d ∈ S, d < 10000
 car : c ≤ 1
 eq : tv S + 10000 ^ i * c = tv (A.take i) + tv (B.take i)
theorem AddS.step {A B S : List Nat} {i c : Nat} (h : AddS A B S i c) (hA : ∀ d ∈ A, d < 10000) (hB : ∀ d ∈ B, d < 10000) :
  AddS A B (S ++ [(dg A i + dg B i + c) % 10000]) (i + 1) ((dg A i + dg B i + c) / 10000) := by
 have h1 := dg_lt hA i
 have h2 := dg_lt hB i
 have h3 := h.car
 refine ⟨by rw [List.length_append, h.len]; rfl, fun d hd => ?_, by omega, ?_⟩
 ·rcases List.mem_append.1 hd with hd | hd
  ·exact h.lt d hd
  ·rw [List.mem_singleton.1 hd]; omega
 ·rw [tv_snoc, h.len, tv_take, tv_take, Nat.pow_succ]
  have h4 := h.eq
  generalize dg A i = x at *
  generalize dg B i = y at *
  have h5 : (x + y + c) % 10000 + 10000 * ((x + y + c) / 10000) = x + y + c := by omega
  have h6 : 10000 ^ i * ((x + y + c) % 10000) + 10000 ^ i * 10000 * ((x + y + c) / 10000) = 10000 ^ i * x + 10000 ^ i * y + 10000 ^ i * c := by
   rw [Nat.mul_assoc, ← Nat.mul_add, h5, Nat.mul_add, Nat.mul_add]
  generalize 10000 ^ i * ((x + y + c) % 10000) = p at *
  generalize 10000 ^ i * 10000 * ((x + y + c) / 10000) = q at *
  omega
theorem radd_l (va vb : Value) (A B : List Nat) (hA : ∀ d ∈ A, d < 10000) (hB : ∀ d ∈ B, d < 10000) (lA : A.length ≤ 1000000) (lB : B.length ≤ 1000000) (w : World) (ha : Sl w va A) (hb : Sl w vb B) :
  Calls Tryz.prog 124 #[va, vb] w fun e w' => ∃ v, e = .returned v ∧ Sl w' v (td (tv A + tv B)) ∧ Below w.heap.size w w' := by
 obtain ⟨i0, hi, hz0, hz1, hz2⟩ := info_parts Tryz.infoI
 obtain ⟨aa, ca, ea⟩ := ha.form
 obtain ⟨ab, cb, eb⟩ := hb.form
 subst ea eb
 obtain ⟨n, hn⟩ : ∃ n, n = A.length := ⟨_, rfl⟩
 obtain ⟨m, hm⟩ : ∃ m, m = B.length := ⟨_, rfl⟩
 rw [← hn] at lA ha ⊢
 rw [← hm] at lB hb ⊢
 replace hn := Lib.hid hn
 replace hm := Lib.hid hm
 replace hA := Lib.hid hA
 replace hB := Lib.hid hB
 replace ha := Lib.hid ha
 replace hb := Lib.hid hb
 go_enter Tryz.func124, Tryz.ntmps124
 go_wp2_with fail
 go_loopw [5, 6, 7] (fun v u j wr => ∃ (i c : Nat) (S : List Nat), u = .int .i64 (c : Int) ∧ j = .int .i64 (i : Int) ∧ AddS A B S i c ∧ (i ≤ max n m + 1 ∧ (i = max n m + 1 → c = 0)) ∧ wr.ownsRow w.heap.size 3 1 v i (S.map iv) ∧ Below w.heap.size w wr) (fun _ _ j _ => max n m + 2 - (intOf j).toNat)
 case atStart => exact ⟨0, 0, [], rfl, rfl, ⟨rfl, (fun d hd => by cases hd), Nat.zero_le _, (by rw [List.take_zero, List.take_zero]; show tv [] + 1 * 0 = tv [] + tv []; unfold tv; rfl)⟩, ⟨Nat.zero_le _, fun _ => rfl⟩, World.ownsRow_nil _ _ _ _, Below.refl _ _⟩
 case round =>
  obtain ⟨i, c, S, rfl, rfl, hS, hi2, hown, hbl⟩ := hrel
  have hx := dg_lt hA.out i
  have hy := dg_lt hB.out i
  have hc1 := hS.car
  have hst := Lib.hid (hS.step hA.out hB.out)
  have HA := Lib.hid (fun (wx : World) (hh : Below w.heap.size w wx) => at_any _ A i (by omega) (by rw [← hn.out]; omega) wx (ha.out.below hh))
  have HB := Lib.hid (fun (wx : World) (hh : Below w.heap.size w wx) => at_any _ B i (by omega) (by rw [← hm.out]; omega) wx (hb.out.below hh))
  obtain ⟨x, hxe⟩ : ∃ x, x = dg A i := ⟨_, rfl⟩
  obtain ⟨y, hye⟩ : ∃ y, y = dg B i := ⟨_, rfl⟩
  have hxz := Lib.hid (show n ≤ i → x = 0 from fun h => by rw [hxe]; exact dg_out (by rw [← hn.out]; exact h))
  have hyz := Lib.hid (show m ≤ i → y = 0 from fun h => by rw [hye]; exact dg_out (by rw [← hm.out]; exact h))
  replace hi2 := Lib.hid hi2
  rw [← hxe] at hx hst HA
  rw [← hye] at hy hst HB
  clear hxe hye
  replace hS := Lib.hid hS
  have hi1 := hi2.out.1
  have hcase : ((i : Int) < (n : Int)) ∨ (¬ ((i : Int) < (n : Int)) ∧ (i : Int) < (m : Int)) ∨ (¬ ((i : Int) < (n : Int)) ∧ ¬ ((i : Int) < (m : Int)) ∧ (0 : Int) < (c : Int)) ∨ (¬ ((i : Int) < (n : Int)) ∧ ¬ ((i : Int) < (m : Int)) ∧ c = 0) := by omega
  rcases hcase with k1 | ⟨k1, k2⟩ | ⟨k1, k2, k3⟩ | ⟨k1, k2, rfl⟩
  rotate_left 3
  ·have hS' := hS.out
   have hT : tv S = tv A + tv B := by
    have := hS'.eq
    rw [List.take_of_length_le (by rw [← hn.out]; omega), List.take_of_length_le (by rw [← hm.out]; omega)] at this
    omega
   have HT := trim_any u5 S hS'.lt (by rw [hS'.len]; omega) wr (Sl.owned hown hS'.len.symm)
   rw [hT] at HT
   replace HT := Lib.hid HT
   clear hT hS' hown
   have k0 : (0 : Int) = ((0 : Nat) : Int) := rfl
   clear k0
   go_wp2_with fail
   with_reducible refine Calls.mono HT.out ?_
   rintro e w1 ⟨v', rfl, hv, rfl⟩
   replace hv := Lib.hid hv
   go_wp2_with fail
   go_ret
   exact ⟨_, rfl, hv.out, hbl⟩
  all_goals (
   have hib : (i : Int) ≤ 1000002 := by omega
   go_wp2_with fail
   with_reducible refine Calls.mono (HA.out _ hbl) ?_
   rintro e w1 ⟨rfl, rfl⟩
   go_wp2_with fail
   with_reducible refine Calls.mono (HB.out _ hbl) ?_
   rintro e w1 ⟨rfl, rfl⟩
   go_wp2_with (at_builtin; refine wpList_append_own _ rfl _ _ 38 rfl w.heap.size 3 i0 (.int .i64 0) 1 8 Tryz.underlying38 hi hz0 hz1 hz2 rfl (by decide) _ _ _ rfl (hown.alloc _) ⟨wr.heap.size, 0, none⟩ 1 1 [.int .i64 (((x : Int) + (y : Int) + (c : Int)) % 10000)] rfl rfl ?c1 ?c2 ?c3 ?c4 ?c5 ?_)
   case c1 =>
    intro j u hj
    match j, hj with
    | 0, hj => simp at hj; subst hj; simp [Addr.add]
   case c2 => intro u hu; simp at hu; subst hu; rfl
   case c3 => unfold maxLen; omega
   case c4 => omega
   case c5 => have := hbl.size; simp; omega
   intro v' w1 hown' hgrow _
   have hn' := Lib.hid (own_snoc (d := (x + y + c) % 10000) (by omega) hown')
   have hb' := Lib.hid (below_app hbl hbl.size hown hgrow)
   clear hown' hgrow hown hbl
   go_wp2_with fail
   go_roundw
   case rel => exact ⟨i + 1, (x + y + c) / 10000, _, by first | rfl | go_num, by first | rfl | go_num, hst.out, (by have q1 := hxz.out; have q2 := hyz.out; have q3 := hi2.out; omega), hn'.out, hb'.out⟩
   case measure => simp [intOf]; omega)
end Go.Proofs.YtaimebjkidegiaaGreatDoor.Rx
namespace Go.Proofs.YtaimebjkidegiaaGreatDoor.Rx
open Go.RowKit
attribute [local irreducible] tv dg
theorem add0 (g i : Nat) : (⟨g, 0, none⟩ : Addr).add i = ⟨g, i, none⟩ := by
 unfold Addr.add
 split <;> simp_all
/-- Block g holds just these ints. -/
def IB (w : World) (g : Nat) (l : List Nat) : Prop := w.heap[g]? = some (.cells (l.map iv).toArray 3 (0, 0))
section
variable {w w' : World} {g : Nat} {l : List Nat}
theorem IB.lt (h : IB w g l) : g < w.heap.size := (Array.getElem?_eq_some_iff.1 h).1
theorem IB.cell (h : IB w g l) (i : Nat) (hi : i < l.length) : w.cell? ⟨g, i, none⟩ = some (.int .i64 ((l[i] : Nat) : Int)) := by
 rw [cell_of_row w g i _ _ _ h]; simp [hi]
theorem IB.frozen (h : IB w g l) (i : Nat) : w.frozen? ⟨g, i, none⟩ = false := frozen_of_row w g i _ _ h
theorem IB.set (h : IB w g l) (i : Nat) (d : Nat) : IB (w.setCell ⟨g, i, none⟩ (.int .i64 (d : Int))) g (l.set i d) := by
 unfold IB at *
 rw [heap_setCell_same w g i _ _ _ h]
 congr 2
 rw [List.map_set]; simp
theorem IB.keep (h : IB w g l) (hk : w'.heap[g]? = w.heap[g]?) : IB w' g l := hk.trans h
theorem IB.below {B : Nat} (h : IB w g l) (hb : Below B w w') (hg : g < B) : IB w' g l := h.keep (hb.block g hg)
theorem IB.drewN (h : IB w g l) (n : Nat) : IB (w.drewN n) g l := h
theorem IB.sl (h : IB w g l) (c : Nat) (hc : l.length ≤ c) : Sl w (.slice (some ⟨g, 0, none⟩) l.length c) l :=
 .inr ⟨⟨g, 0, none⟩, c, rfl, hc, fun i hi => by rw [add0]; exact h.cell i hi, h.lt⟩
end
theorem ibdrew {B : Nat} {a w : World} (h : Below B a w) (n : Nat) : Below B a (w.drewN n) := ⟨h.os, h.tape, h.output, h.size, h.block⟩
/-- Zeros, as make lays them. -/
def zobjI (n : Nat) : Obj := .cells ((List.replicate n 0).map iv).toArray 3
theorem IB.zeros (w : World) (n : Nat) : IB (w.alloc (zobjI n)) w.heap.size (List.replicate n 0) := heap_alloc_new w _
theorem made_zerosI (n : Nat) : madeCells (Value.cells (.int .i64 0)) n = ((List.replicate n 0).map iv).toArray := by
 apply Array.ext'
 rw [show Value.cells (.int .i64 0) = #[.int .i64 0] from rfl, toList_madeCells_one]
 simp
theorem makeN (w : World) (c : Int) (n : Nat) (hc : c = n) (h : n ≤ 17592186044416) :
  (Instr.makeSlice 38 (.int .i64 c) (.int .i64 c)).run Tryz.prog w = .ok (.slice (some ⟨w.heap.size, 0, none⟩) n n) (w.alloc (zobjI n)) := by
 subst hc
 have := run_make (P := Tryz.prog) w 38 3 Tryz.t3 (.int .i64 0) Tryz.underlying38 (by kernel_rfl) (by kernel_rfl) .i64 .i64 (n : Int) (n : Int) (by omega) (Int.le_refl _) (by show ((8 : Nat) : Int) * _ ≤ _; omega) (by omega)
 rw [this]
 simp only [Int.toNat_natCast]
 show Result.ok _ (w.alloc (.cells (madeCells (Value.cells (.int .i64 0)) (n * 1)) _)) = _
 rw [Nat.mul_one, made_zerosI]; rfl
theorem tv_set {l : List Nat} {j : Nat} (h : j < l.length) (d : Nat) : tv (l.set j d) + 10000 ^ j * l[j] = tv l + 10000 ^ j * d := by
 induction l generalizing j with
 | nil => exact absurd h (by simp)
 | cons x l ih =>
  cases j with
  | zero => simp only [List.set_cons_zero, List.getElem_cons_zero, tv, Nat.pow_zero, Nat.one_mul]; omega
  | succ j =>
   have hj : j < l.length := by simpa using h
   have := ih (j := j) hj
   simp only [List.set_cons_succ, List.getElem_cons_succ, tv, Nat.pow_succ]
   rw [Nat.mul_comm (10000 ^ j) 10000, Nat.mul_assoc, Nat.mul_assoc]
   generalize 10000 ^ j * l[j] = p at *
   generalize 10000 ^ j * d = q at *
   omega
/-- What Mul's inner rounds keep. -/
structure MulS (A B X : List Nat) (i k c : Nat) : Prop where
 len : X.length = A.length + B.length
 lt : ∀ d ∈ X, d < 10000
 car : c < 10000
 eq : tv X + 10000 ^ (i + k) * c = tv (A.take i) * tv B + 10000 ^ i * (dg A i * tv (B.take k))
theorem MulS.step {A B X : List Nat} {i k c : Nat} (h : MulS A B X i k c) (hA : ∀ d ∈ A, d < 10000) (hB : ∀ d ∈ B, d < 10000) (hj : i + k < X.length) {s : Nat} (hs : s = X[i + k] + dg A i * dg B k + c) :
  s < 100000000 ∧ MulS A B (X.set (i + k) (s % 10000)) i (k + 1) (s / 10000) := by
 have h1 := dg_lt hA i
 have h2 := dg_lt hB k
 have h3 := h.car
 have hx := h.lt _ (List.getElem_mem hj)
 have hp : dg A i * dg B k ≤ 9999 * 9999 := Nat.mul_le_mul (by omega) (by omega)
 have hs1 : s < 100000000 := by omega
 refine ⟨hs1, by rw [List.length_set]; exact h.len, fun d hd => ?_, by omega, ?_⟩
 ·rcases List.mem_or_eq_of_mem_set hd with hd | hd
  ·exact h.lt d hd
  ·omega
 ·have e1 := tv_set hj (s % 10000)
  have e2 := h.eq
  rw [tv_take, ← Nat.add_assoc, Nat.pow_succ]
  have e3 : s % 10000 + 10000 * (s / 10000) = X[i + k] + dg A i * dg B k + c := by omega
  have e4 : 10000 ^ (i + k) * (s % 10000) + 10000 ^ (i + k) * 10000 * (s / 10000) = 10000 ^ (i + k) * X[i + k] + 10000 ^ (i + k) * (dg A i * dg B k) + 10000 ^ (i + k) * c := by
   rw [Nat.mul_assoc, ← Nat.mul_add, e3, Nat.mul_add, Nat.mul_add]
  have e5 : 10000 ^ i * (dg A i * (tv (B.take k) + 10000 ^ k * dg B k)) = 10000 ^ i * (dg A i * tv (B.take k)) + 10000 ^ (i + k) * (dg A i * dg B k) := by
   rw [Nat.mul_add, Nat.mul_add, Nat.pow_add, Nat.mul_left_comm (dg A i), Nat.mul_assoc (10000 ^ i)]
  rw [e5]
  generalize 10000 ^ (i + k) * (s % 10000) = p1 at *
  generalize 10000 ^ (i + k) * 10000 * (s / 10000) = p2 at *
  generalize 10000 ^ (i + k) * X[i + k] = p3 at *
  generalize 10000 ^ (i + k) * (dg A i * dg B k) = p4 at *
  generalize 10000 ^ (i + k) * c = p5 at *
  generalize 10000 ^ i * (dg A i * tv (B.take k)) = p6 at *
  generalize tv (A.take i) * tv B = p7 at *
  generalize tv (X.set (i + k) (s % 10000)) = p8 at *
  generalize tv X = p9 at *
  omega
/-- Behind b's digits one carry may be left, and no more. -/
theorem MulS.carry {A B X : List Nat} {i k c : Nat} (h : MulS A B X i k c) (hA : ∀ d ∈ A, d < 10000) (hB : ∀ d ∈ B, d < 10000) (hi : i < A.length) (hk : B.length + 1 ≤ k) : c = 0 := by
 rcases Nat.eq_zero_or_pos c with h0 | h0
 ·exact h0
 ·have e := h.eq
  have e2 : tv (A.take i) * tv B + 10000 ^ i * (dg A i * tv (B.take k)) = tv (A.take (i + 1)) * tv B := by
   rw [List.take_of_length_le (l := B) (by omega), tv_take, Nat.add_mul, Nat.mul_assoc]
  have e3 : tv (A.take (i + 1)) < 10000 ^ (i + 1) := by
   have := tv_lt (l := A.take (i + 1)) fun d hd => hA d (List.mem_of_mem_take hd)
   rwa [List.length_take, Nat.min_eq_left (by omega)] at this
  have e4 := tv_lt hB
  have e5 : tv (A.take (i + 1)) * tv B < 10000 ^ (i + 1) * 10000 ^ B.length := Nat.lt_of_le_of_lt (Nat.mul_le_mul_left _ (Nat.le_of_lt e4)) (Nat.mul_lt_mul_of_pos_right e3 (Nat.pow_pos (by omega)))
  rw [← Nat.pow_add] at e5
  have e6 : 10000 ^ (i + 1 + B.length) ≤ 10000 ^ (i + k) := Nat.pow_le_pow_right (by omega) (by omega)
  have e7 : 10000 ^ (i + k) ≤ 10000 ^ (i + k) * c := Nat.le_mul_of_pos_right _ h0
  omega
theorem MulS.done {A B X : List Nat} {i k : Nat} (h : MulS A B X i k 0) (hk : B.length ≤ k) : MulS A B X (i + 1) 0 0 := by
 refine ⟨h.len, h.lt, by omega, ?_⟩
 have e := h.eq
 rw [List.take_of_length_le hk] at e
 rw [List.take_zero, tv_take, Nat.add_mul, Nat.mul_assoc]
 rw [Nat.mul_zero, Nat.add_zero] at e ⊢
 rw [e]
 have : tv [] = 0 := by unfold tv; rfl
 rw [this, Nat.mul_zero, Nat.mul_zero, Nat.add_zero]
theorem MulS.start (A B : List Nat) : MulS A B (List.replicate (A.length + B.length) 0) 0 0 0 := by
 refine ⟨List.length_replicate, fun d hd => by rw [(List.mem_replicate.1 hd).2]; omega, by omega, ?_⟩
 have : tv [] = 0 := by unfold tv; rfl
 rw [tv_zeros, List.take_zero, List.take_zero, this]
 simp
theorem rmul_l (va vb : Value) (A B : List Nat) (hA : ∀ d ∈ A, d < 10000) (hB : ∀ d ∈ B, d < 10000) (lA : A.length ≤ 1000000) (lB : B.length ≤ 1000000) (w : World) (ha : Sl w va A) (hb : Sl w vb B) :
  Calls Tryz.prog 51 #[va, vb] w fun e w' => ∃ v, e = .returned v ∧ Sl w' v (td (tv A * tv B)) ∧ Below w.heap.size w w' := by
 obtain ⟨aa, ca, ea, hva⟩ := ha.view
 obtain ⟨ab, cb, eb⟩ := hb.form
 subst ea eb
 obtain ⟨n, hn⟩ : ∃ n, n = A.length := ⟨_, rfl⟩
 obtain ⟨m, hm⟩ : ∃ m, m = B.length := ⟨_, rfl⟩
 rw [← hn] at lA ha hva ⊢
 rw [← hm] at lB hb ⊢
 have hst := MulS.start A B
 rw [← hn, ← hm] at hst
 have hmk : ∀ w, (Instr.makeSlice 38 (.int .i64 ((n : Int) + (m : Int))) (.int .i64 ((n : Int) + (m : Int)))).run Tryz.prog w = .ok (.slice (some ⟨w.heap.size, 0, none⟩) (n + m) (n + m)) (w.alloc (zobjI (n + m))) :=
  fun w => makeN w _ (n + m) (by omega) (by omega)
 have hz := Lib.hid (IB.zeros w (n + m))
 replace hst := Lib.hid hst
 replace hn := Lib.hid hn
 replace hm := Lib.hid hm
 replace hA := Lib.hid hA
 replace hB := Lib.hid hB
 replace ha := Lib.hid ha
 replace hb := Lib.hid hb
 replace hva := Lib.hid hva
 obtain ⟨N, hN⟩ : ∃ N, N = n + m := ⟨_, rfl⟩
 rw [← hN] at hmk hz hst
 replace hN := Lib.hid hN
 go_enter Tryz.func51, Tryz.ntmps51
 go_wp2_with fail
 go_loopw [6] (fun j wr => ∃ (i : Nat) (X : List Nat), j = .int .i64 (i : Int) ∧ i ≤ n ∧ MulS A B X i 0 0 ∧ IB wr w.heap.size X ∧ Below w.heap.size w wr) (fun j _ => n - (intOf j).toNat)
 case atStart => exact ⟨0, _, rfl, Nat.zero_le _, hst.out, hz.out, (Below.refl _ _).alloc (Nat.le_refl _) _⟩
 case round =>
  obtain ⟨i, X, rfl, hi, hS, hX, hbl⟩ := hrel
  clear hmk hz hst
  replace hS := Lib.hid hS
  replace hX := Lib.hid hX
  rcases Nat.lt_or_ge i n with hin | hin
  ·have k1 : (i : Int) < (n : Int) := by omega
   have hib : (i : Int) ≤ 1000000 := by omega
   obtain ⟨aA, rfl, -, hsd⟩ := hva.out (by omega)
   replace hsd := Lib.hid hsd
   go_wp2_with fail
   go_loopw [7, 8] (fun cv kv wy => ∃ (k c : Nat) (Y : List Nat), cv = .int .i64 (c : Int) ∧ kv = .int .i64 (k : Int) ∧ k ≤ m + 1 ∧ MulS A B Y i k c ∧ IB wy w.heap.size Y ∧ Below w.heap.size w wy) (fun _ kv _ => m + 2 - (intOf kv).toNat)
   case atStart => exact ⟨0, 0, X, rfl, rfl, Nat.zero_le _, hS.out, hX.out, hbl⟩
   case round =>
    obtain ⟨k, c, Y, rfl, rfl, hk, hY, hYb, hbl2⟩ := hrel
    have hc := hY.car
    have hcz := Lib.hid (fun h => hY.carry hA.out hB.out (by rw [← hn.out]; exact hin) (by rw [← hm.out]; exact h))
    have hdn := Lib.hid (show m ≤ k → c = 0 → MulS A B Y (i + 1) 0 0 from fun h1 h2 => by subst h2; exact hY.done (by rw [← hm.out]; exact h1))
    have hcase : ((k : Int) < (m : Int)) ∨ (¬ ((k : Int) < (m : Int)) ∧ (0 : Int) < (c : Int)) ∨ (¬ ((k : Int) < (m : Int)) ∧ c = 0) := by omega
    rcases hcase with k2 | ⟨k2, k3⟩ | ⟨k2, rfl⟩
    rotate_left 2
    ·have hd := Lib.hid (hdn.out (by omega) rfl)
     replace hYb := Lib.hid hYb
     clear hY hcz hdn
     go_wp2_with fail
     go_roundw
     case rel => exact ⟨i + 1, Y, by first | rfl | go_num, by omega, hd.out, hYb.out, hbl2⟩
     case measure => simp [intOf]; omega
    all_goals (
     have hkm : k ≤ m := by have := hcz.out; omega
     have hj : i + k < Y.length := by rw [hY.len, ← hn.out, ← hm.out]; omega
     have hyc := hYb.cell (i + k) hj
     have hyf := hYb.frozen (i + k)
     have hac := hsd.out.cell i (by rw [← hn.out]; exact hin)
     have hap : A[i]'(by rw [← hn.out]; exact hin) = dg A i := (dg_in _).symm
     rw [hap] at hac
     obtain ⟨hs1, hs2⟩ := hY.step hA.out hB.out hj rfl
     have hsY := hYb.set (i + k) ((Y[i + k] + dg A i * dg B k + c) % 10000)
     have hy := hY.lt _ (List.getElem_mem hj)
     have hAt : ∀ wx, Below w.heap.size w wx → Calls Tryz.prog 130 #[.slice ab m cb, .int .i64 (k : Int)] wx fun e w' => e = .returned (.int .i64 ((dg B k : Nat) : Int)) ∧ w' = wx :=
      fun wx hh => (at_any _ B k (by omega) (by rw [← hm.out]; omega) wx (hb.out.below hh)).mono fun _ _ h => ⟨h.1, h.2.symm⟩
     have hp := dg_lt hA.out i
     have hq := dg_lt hB.out k
     clear hap
     generalize Y[i + k] = y at *
     generalize dg A i = p at *
     generalize dg B k = q at *
     obtain ⟨z, hz⟩ : ∃ z, z = p * q := ⟨_, rfl⟩
     have hzb : z ≤ 99980001 := by rw [hz]; exact Nat.mul_le_mul (show p ≤ 9999 by omega) (show q ≤ 9999 by omega)
     rw [← hz] at hs1 hs2 hsY
     have hzz : (p : Int) * (q : Int) = (z : Int) := by rw [hz]; rfl
     have hac2 := hac.trans rfl
     have hac4 : wr.cell? (aA.add i) = some (.int .i64 (p : Int)) := (hbl2.cell (p := aA.add i) (by rw [addB]; exact hsd.out.blk)).trans hac
     clear hz hac hac2 hY hYb hcz hdn
     replace hAt := Lib.hid hAt
     replace hs2 := Lib.hid hs2
     replace hsY := Lib.hid hsY
     have hib2 : (k : Int) ≤ 1000001 := by omega
     have hNN : (i : Int) + (k : Int) < (N : Int) := by have := hN.out; omega
     have hNk : (k : Int) < (N : Int) := by omega
     go_wp2_with fail
     go_quiet ((go_at_call 130; exact Calls.quiet_of_same (hAt.out _ (ibdrew hbl2 _))))
     go_wp2_with fail
     go_roundw
     case rel => exact ⟨k + 1, (y + z + c) / 10000, _, by first | rfl | go_num, by first | rfl | go_num, by omega, hs2.out, (by have h := hsY.out; rw [show (((y + z + c) % 10000 : Nat) : Int) = ((y : Int) + (z : Int) + (c : Int)) % 10000 by omega] at h; exact h), ((ibdrew hbl2 nq).setCell (Nat.le_refl _) _)⟩
     case measure => simp [intOf]; omega)
  ·have k1 : ¬ (i : Int) < (n : Int) := by omega
   have hie : i = n := by omega
   have hT : tv X = tv A * tv B := by
    have := hS.out.eq
    rw [hie, hn.out, List.take_length, List.take_zero] at this
    have h0 : tv [] = 0 := by unfold tv; rfl
    rw [h0, Nat.mul_zero, Nat.mul_zero, Nat.mul_zero] at this
    omega
   have hl : X.length = N := by rw [hS.out.len, hN.out, hn.out, hm.out]
   have HT := trim_any _ X hS.out.lt (by rw [hl]; have := hN.out; omega) wr (hX.out.sl N (by omega))
   rw [hT, hl] at HT
   replace HT := Lib.hid HT
   clear hT hie
   go_wp2_with fail
   with_reducible refine Calls.mono HT.out ?_
   rintro e w1 ⟨v', rfl, hv, rfl⟩
   replace hv := Lib.hid hv
   go_wp2_with fail
   go_ret
   exact ⟨_, rfl, hv.out, hbl⟩
end Go.Proofs.YtaimebjkidegiaaGreatDoor.Rx
namespace Go.Proofs.YtaimebjkidegiaaGreatDoor.Rx
open Go.RowKit
attribute [local irreducible] tv dg
/-- A slice that holds a number's digits. -/
abbrev Rn (w : World) (v : Value) (n : Nat) : Prop := Sl w v (td n)
theorem rn_nil (w : World) : Rn w (.slice none 0 0) 0 := by
 show Sl _ _ (td 0)
 rw [td_zero]; exact Sl.nil _
theorem radd_any (va vb : Value) (a b : Nat) (la : (td a).length ≤ 1000000) (lb : (td b).length ≤ 1000000) (w : World) (ha : Rn w va a) (hb : Rn w vb b) :
  Calls Tryz.prog 124 #[va, vb] w fun e w' => ∃ v, e = .returned v ∧ Rn w' v (a + b) ∧ Below w.heap.size w w' := by
 have := radd_l va vb _ _ (td_lt a) (td_lt b) la lb w ha hb
 rwa [tv_td, tv_td] at this
theorem rmul_any (va vb : Value) (a b : Nat) (la : (td a).length ≤ 1000000) (lb : (td b).length ≤ 1000000) (w : World) (ha : Rn w va a) (hb : Rn w vb b) :
  Calls Tryz.prog 51 #[va, vb] w fun e w' => ∃ v, e = .returned v ∧ Rn w' v (a * b) ∧ Below w.heap.size w w' := by
 have := rmul_l va vb _ _ (td_lt a) (td_lt b) la lb w ha hb
 rwa [tv_td, tv_td] at this
theorem td_mul_le {a b k m : Nat} (ha : (td a).length ≤ k) (hb : (td b).length ≤ m) : (td (a * b)).length ≤ k + m := by
 have h1 := td_length.1 ha
 have h2 := td_length.1 hb
 refine td_length.2 ?_
 rw [Nat.pow_add]
 exact Nat.lt_of_le_of_lt (Nat.mul_le_mul_left _ (Nat.le_of_lt h2)) (Nat.mul_lt_mul_of_pos_right h1 (Nat.pow_pos (by omega)))
theorem rof_val (z : Int) (d : Nat) (hz : z = (d : Int)) (hd : d < 18446744073709551616) (w : World) :
  Calls Tryz.prog 52 #[.int .u64 z] w fun e w' => ∃ v, e = .returned v ∧ Rn w' v d ∧ Below w.heap.size w w' := by rw [hz]; exact rof_any d hd w
end Go.Proofs.YtaimebjkidegiaaGreatDoor.Rx
namespace Go.Proofs.YtaimebjkidegiaaGreatDoor.Rx
open Go.RowKit
attribute [local irreducible] tv dg cmpI
/-- Digits from a place on, compared. -/
theorem tv_split {l : List Nat} {i : Nat} (h : i < l.length) : tv l = tv (l.take i) + 10000 ^ i * (l[i] + 10000 * tv (l.drop (i + 1))) := by
 have e := tv_append (l.take i) (l.drop i)
 rw [List.take_append_drop, List.length_take, Nat.min_eq_left (Nat.le_of_lt h), List.drop_eq_getElem_cons h] at e
 rw [e]
 rw [tv_cons]
theorem tv_less {A B : List Nat} {i : Nat} (hA : ∀ d ∈ A, d < 10000) (ha : i < A.length) (hb : i < B.length) (hd : A.drop (i + 1) = B.drop (i + 1)) (h : A[i] < B[i]) : tv A < tv B := by
 rw [tv_split ha, tv_split hb, hd]
 have h1 := tv_lt (l := A.take i) fun d hd => hA d (List.mem_of_mem_take hd)
 rw [List.length_take, Nat.min_eq_left (Nat.le_of_lt ha)] at h1
 have h2 : 10000 ^ i * (A[i] + 10000 * tv (B.drop (i + 1)) + 1) ≤ 10000 ^ i * (B[i] + 10000 * tv (B.drop (i + 1))) := Nat.mul_le_mul_left _ (by omega)
 rw [Nat.mul_add _ _ 1, Nat.mul_one] at h2
 omega
theorem rcmp_any (va vb : Value) (a b : Nat) (la : (td a).length ≤ 1000000) (lb : (td b).length ≤ 1000000) (w : World) (ha : Rn w va a) (hb : Rn w vb b) :
  Calls Tryz.prog 126 #[va, vb] w fun e w' => e = .returned (.int .i64 (cmpI a b)) ∧ Below w.heap.size w w' := by
 obtain ⟨aa, ca, ea, hva⟩ := ha.view
 obtain ⟨ab, cb, eb, hvb⟩ := hb.view
 subst ea eb
 have hA := td_lt a
 have hB := td_lt b
 have va1 := tv_td a
 have vb1 := tv_td b
 have hlt : (td a).length < (td b).length → cmpI a b = -1 := fun h => cmpI_lt (Nat.lt_of_not_le fun h2 => by have := td_mono h2; omega)
 have hgt : (td b).length < (td a).length → cmpI a b = 1 := fun h => cmpI_gt (Nat.lt_of_not_le fun h2 => by have := td_mono h2; omega)
 have hless : tv (td a) < tv (td b) → cmpI a b = -1 := fun h => cmpI_lt (by rwa [va1, vb1] at h)
 have hmore : tv (td b) < tv (td a) → cmpI a b = 1 := fun h => cmpI_gt (by rwa [va1, vb1] at h)
 have hsame : td a = td b → cmpI a b = 0 := fun h => by rw [show a = b by rw [← va1, ← vb1, h]]; exact cmpI_eq b
 clear va1 vb1 ha hb
 generalize td a = A at *
 generalize td b = B at *
 obtain ⟨n, hn⟩ : ∃ n, n = A.length := ⟨_, rfl⟩
 obtain ⟨m, hm⟩ : ∃ m, m = B.length := ⟨_, rfl⟩
 rw [← hn] at la hlt hgt hva ⊢
 rw [← hm] at lb hlt hgt hvb ⊢
 replace hA := Lib.hid hA
 replace hB := Lib.hid hB
 replace hlt := Lib.hid hlt
 replace hgt := Lib.hid hgt
 replace hless := Lib.hid hless
 replace hmore := Lib.hid hmore
 replace hsame := Lib.hid hsame
 replace hva := Lib.hid hva
 replace hvb := Lib.hid hvb
 replace hn := Lib.hid hn
 replace hm := Lib.hid hm
 rcases Nat.lt_trichotomy n m with h | h | h
 ·have k1 : (n : Int) < (m : Int) := by omega
  rw [hlt.out h]
  go_enter Tryz.func126, Tryz.ntmps126
  go_wp2_with fail
  go_ret
  exact ⟨rfl, Below.refl _ _⟩
 ·subst h
  go_enter Tryz.func126, Tryz.ntmps126
  go_wp2_with fail
  go_loopw [5] (fun z wr => ∃ j : Nat, j ≤ n ∧ z = .int .i64 ((j : Int) - 1) ∧ A.drop j = B.drop j ∧ Below w.heap.size w wr) (fun z _ => (intOf z + 1).toNat)
  case atStart => exact ⟨n, Nat.le_refl _, by first | rfl | go_num, by rw [List.drop_eq_nil_of_le (by rw [← hn.out]; exact Nat.le_refl _), List.drop_eq_nil_of_le (by rw [← hm.out]; exact Nat.le_refl _)], Below.refl _ _⟩
  case round =>
   obtain ⟨j, hj, rfl, hd, hbl⟩ := hrel
   cases j with
   | zero =>
    rw [List.drop_zero, List.drop_zero] at hd
    have hres := Lib.hid (hsame.out hd)
    clear hd
    go_wp2_with fail
    go_ret
    exact ⟨by rw [hres.out]; rfl, hbl⟩
   | succ i =>
    obtain ⟨aA, rfl, -, sA⟩ := hva.out (by omega)
    obtain ⟨aB, rfl, -, sB⟩ := hvb.out (by omega)
    have iA : i < A.length := by have := hn.out; omega
    have iB : i < B.length := by have := hm.out; omega
    have cA := (sA.below (hbl.mono (Nat.le_refl _))).cell i iA
    have cB := (sB.below (hbl.mono (Nat.le_refl _))).cell i iB
    have q1 := Lib.hid (fun h => tv_less hA.out iA iB hd h)
    have q2 := Lib.hid (fun h => tv_less hB.out iB iA hd.symm h)
    have q3 : A[i] = B[i] → A.drop i = B.drop i := fun h => by rw [List.drop_eq_getElem_cons iA, List.drop_eq_getElem_cons iB, h, hd]
    replace q3 := Lib.hid q3
    have xb := hA.out _ (List.getElem_mem iA)
    have yb := hB.out _ (List.getElem_mem iB)
    clear hd sA sB
    generalize A[i] = x at *
    generalize B[i] = y at *
    have e1 : (((i + 1 : Nat) : Int) - 1) = (i : Int) := by omega
    have hin : (i : Int) < (n : Int) := by omega
    rw [e1]
    rcases Nat.lt_trichotomy x y with h | h | h
    ·have k1 : (x : Int) < (y : Int) := by omega
     have hres := hless.out (q1.out h)
     replace hres := Lib.hid hres
     go_wp2_with fail
     go_quiet (fail)
     go_wp2_with fail
     go_ret
     exact ⟨by rw [hres.out]; rfl, by first | exact ibdrew hbl _ | exact ibdrew (ibdrew hbl _) _⟩
    ·subst h
     have k1 : ¬ (x : Int) < (x : Int) := by omega
     go_wp2_with fail
     go_quiet (fail)
     go_wp2_with fail
     go_quiet (fail)
     go_wp2_with fail
     go_roundw
     case rel => exact ⟨i, by omega, by first | rfl | go_num, q3.out (by trivial), ibdrew hbl _⟩
     case measure => simp [intOf]
    ·have k1 : ¬ (x : Int) < (y : Int) := by omega
     have k2 : (y : Int) < (x : Int) := by omega
     have hres := hmore.out (q2.out h)
     replace hres := Lib.hid hres
     go_wp2_with fail
     go_quiet (fail)
     go_wp2_with fail
     go_quiet (fail)
     go_wp2_with fail
     go_ret
     exact ⟨by rw [hres.out]; rfl, by first | exact ibdrew hbl _ | exact ibdrew (ibdrew hbl _) _⟩
 ·have k1 : ¬ (n : Int) < (m : Int) := by omega
  have k2 : (m : Int) < (n : Int) := by omega
  rw [hgt.out h]
  go_enter Tryz.func126, Tryz.ntmps126
  go_wp2_with fail
  go_ret
  exact ⟨rfl, Below.refl _ _⟩
end Go.Proofs.YtaimebjkidegiaaGreatDoor.Rx
namespace Go.Proofs.YtaimebjkidegiaaGreatDoor.Rx
open Go.RowKit
attribute [local irreducible] tv dg cmpI
theorem cell_new (w : World) (v : Value) (t : TypeId) : (w.alloc (.cells #[v] t)).cell? ⟨w.heap.size, 0, none⟩ = some v := by
 rw [cell_of_row _ _ 0 _ _ _ (heap_alloc_new w _)]; rfl
/-- What Sub's rounds keep. -/
structure SubS (A B S : List Nat) (i c : Nat) : Prop where
 len : S.length = i
 lt : ∀ d ∈ S, d < 10000
 car : c ≤ 1
 eq : tv (A.take i) + 10000 ^ i * c = tv S + tv (B.take i)
theorem SubS.step {A B S : List Nat} {i c d c' : Nat} (h : SubS A B S i c) (hd : d < 10000) (hc : c' ≤ 1) (he : d + dg B i + c = dg A i + 10000 * c') : SubS A B (S ++ [d]) (i + 1) c' := by
 refine ⟨by rw [List.length_append, h.len]; rfl, fun x hx => ?_, hc, ?_⟩
 ·rcases List.mem_append.1 hx with hx | hx
  ·exact h.lt x hx
  ·rw [List.mem_singleton.1 hx]; exact hd
 ·rw [tv_snoc, h.len, tv_take, tv_take, Nat.pow_succ]
  have h4 := h.eq
  have h6 : 10000 ^ i * d + 10000 ^ i * dg B i + 10000 ^ i * c = 10000 ^ i * dg A i + 10000 ^ i * 10000 * c' := by
   rw [Nat.mul_assoc, ← Nat.mul_add, ← Nat.mul_add, ← Nat.mul_add, he]
  generalize 10000 ^ i * d = p1 at *
  generalize 10000 ^ i * dg B i = p2 at *
  generalize 10000 ^ i * c = p3 at *
  generalize 10000 ^ i * dg A i = p4 at *
  generalize 10000 ^ i * 10000 * c' = p5 at *
  omega
theorem SubS.done {A B S : List Nat} {c : Nat} (h : SubS A B S A.length c) (hB : B.length ≤ A.length) (hle : tv B ≤ tv A) : tv S = tv A - tv B := by
 have e := h.eq
 rw [List.take_of_length_le (Nat.le_refl _), List.take_of_length_le hB] at e
 have h1 := tv_lt h.lt
 rw [h.len] at h1
 have hc := h.car
 rcases Nat.eq_zero_or_pos c with h0 | h0
 ·rw [h0, Nat.mul_zero] at e; omega
 ·rw [show c = 1 by omega, Nat.mul_one] at e; omega
theorem rsub_l (va vb : Value) (A B : List Nat) (hA : ∀ d ∈ A, d < 10000) (hB : ∀ d ∈ B, d < 10000) (lA : A.length ≤ 1000000) (lB : B.length ≤ A.length) (hle : tv B ≤ tv A) (w : World) (ha : Sl w va A) (hb : Sl w vb B) :
  Calls Tryz.prog 129 #[va, vb] w fun e w' => ∃ v, e = .returned v ∧ Sl w' v (td (tv A - tv B)) ∧ Below w.heap.size w w' := by
 obtain ⟨i0, hi, hz0, hz1, hz2⟩ := info_parts Tryz.infoI
 obtain ⟨aa, ca, ea, hva⟩ := ha.view
 obtain ⟨ab, cb, eb⟩ := hb.form
 subst ea eb
 obtain ⟨n, hn⟩ : ∃ n, n = A.length := ⟨_, rfl⟩
 obtain ⟨m, hm⟩ : ∃ m, m = B.length := ⟨_, rfl⟩
 have hfin := fun (S : List Nat) c (h : SubS A B S A.length c) => h.done lB hle
 rw [← hn] at lA hva hfin lB ⊢
 rw [← hm] at lB hb ⊢
 replace hn := Lib.hid hn
 replace hm := Lib.hid hm
 replace hA := Lib.hid hA
 replace hB := Lib.hid hB
 replace hb := Lib.hid hb
 replace hva := Lib.hid hva
 replace hfin := Lib.hid hfin
 clear ha hle
 go_enter Tryz.func129, Tryz.ntmps129
 go_wp2_with fail
 go_loopw [5, 6, 7] (fun v u j wr => ∃ (i c : Nat) (S : List Nat), u = .int .i64 (c : Int) ∧ j = .int .i64 (i : Int) ∧ SubS A B S i c ∧ i ≤ n ∧ wr.ownsRow w.heap.size 3 1 v i (S.map iv) ∧ Below w.heap.size w wr) (fun _ _ j _ => n - (intOf j).toNat)
 case atStart => exact ⟨0, 0, [], rfl, rfl, ⟨rfl, (fun d hd => by cases hd), Nat.zero_le _, (by rw [List.take_zero, List.take_zero, tv_nil])⟩, Nat.zero_le _, World.ownsRow_nil _ _ _ _, Below.refl _ _⟩
 case round =>
  obtain ⟨i, c, S, rfl, rfl, hS, hi2, hown, hbl⟩ := hrel
  rcases Nat.lt_or_ge i n with hin | hin
  ·have k1 : (i : Int) < (n : Int) := by omega
   have hib : (i : Int) ≤ 1000000 := by omega
   obtain ⟨aA, rfl, -, sA⟩ := hva.out (by omega)
   have iA : i < A.length := by have := hn.out; omega
   have hcell := (sA.below hbl).cell i iA
   rw [← dg_in iA] at hcell
   have hx := dg_lt hA.out i
   have hy := dg_lt hB.out i
   have hc1 := hS.car
   have HB : ∀ wx, Below w.heap.size w wx → Calls Tryz.prog 130 #[.slice ab m cb, .int .i64 (i : Int)] wx fun e w' => e = .returned (.int .i64 ((dg B i : Nat) : Int)) ∧ w' = wx :=
    fun wx hh => (at_any _ B i (by omega) (by rw [← hm.out]; omega) wx (hb.out.below hh)).mono fun _ _ h => ⟨h.1, h.2.symm⟩
   have hstep := fun (d c' : Nat) h1 h2 h3 => hS.step (d := d) (c' := c') h1 h2 h3
   clear sA hS
   generalize dg A i = x at *
   generalize dg B i = y at *
   replace HB := Lib.hid HB
   replace hstep := Lib.hid hstep
   by_cases hneg : (x : Int) - (y : Int) - (c : Int) < 0
   ·have hst := Lib.hid (hstep.out (x + 10000 - y - c) 1 (by omega) (by omega) (by omega))
    go_wp2_with fail
    go_quiet ((go_at_call 130; exact Calls.quiet_of_same (HB.out _ (ibdrew hbl _))))
    have hown2 : (wr.drewN nq).ownsRow w.heap.size 3 1 u5 i (S.map iv) := hown
    go_wp2_with (at_builtin; refine wpList_append_own _ rfl _ _ 38 rfl w.heap.size 3 i0 (.int .i64 0) 1 8 Tryz.underlying38 hi hz0 hz1 hz2 rfl (by decide) _ _ _ rfl (hown2.alloc _) ⟨wr.heap.size, 0, none⟩ 1 1 [.int .i64 ((x : Int) - (y : Int) - (c : Int) + 10000)] rfl rfl ?c1 ?c2 ?c3 ?c4 ?c5 ?_)
    case c1 =>
     intro j u hj
     match j, hj with
     | 0, hj => simp at hj; subst hj; rw [add0]; exact cell_new (wr.drewN nq) _ _
    case c2 => intro u hu; simp at hu; subst hu; rfl
    case c3 => unfold maxLen; omega
    case c4 => omega
    case c5 => have := hbl.size; first | (simp; omega) | (simp; exact this) | (show w.heap.size ≤ _; simp; show w.heap.size ≤ wr.heap.size + 1; omega)
    intro v' w1 hown' hgrow _
    have hn' := Lib.hid (own_snoc (d := x + 10000 - y - c) (by omega) hown')
    have hb' := Lib.hid (below_app (ibdrew hbl nq) hbl.size hown2 hgrow)
    clear hown' hgrow hown hown2 hbl
    go_wp2_with fail
    go_roundw
    case rel => exact ⟨i + 1, 1, _, by first | rfl | go_num, by first | rfl | go_num, hst.out, by omega, hn'.out, hb'.out⟩
    case measure => simp [intOf]; omega
   ·have hst := Lib.hid (hstep.out (x - y - c) 0 (by omega) (by omega) (by omega))
    go_wp2_with fail
    go_quiet ((go_at_call 130; exact Calls.quiet_of_same (HB.out _ (ibdrew hbl _))))
    have hown2 : (wr.drewN nq).ownsRow w.heap.size 3 1 u5 i (S.map iv) := hown
    go_wp2_with (at_builtin; refine wpList_append_own _ rfl _ _ 38 rfl w.heap.size 3 i0 (.int .i64 0) 1 8 Tryz.underlying38 hi hz0 hz1 hz2 rfl (by decide) _ _ _ rfl (hown2.alloc _) ⟨wr.heap.size, 0, none⟩ 1 1 [.int .i64 ((x : Int) - (y : Int) - (c : Int))] rfl rfl ?d1 ?d2 ?d3 ?d4 ?d5 ?_)
    case d1 =>
     intro j u hj
     match j, hj with
     | 0, hj => simp at hj; subst hj; rw [add0]; exact cell_new (wr.drewN nq) _ _
    case d2 => intro u hu; simp at hu; subst hu; rfl
    case d3 => unfold maxLen; omega
    case d4 => omega
    case d5 => have := hbl.size; first | (simp; omega) | (simp; exact this) | (show w.heap.size ≤ _; simp; show w.heap.size ≤ wr.heap.size + 1; omega)
    intro v' w1 hown' hgrow _
    have hn' := Lib.hid (own_snoc (d := x - y - c) (by omega) hown')
    have hb' := Lib.hid (below_app (ibdrew hbl nq) hbl.size hown2 hgrow)
    clear hown' hgrow hown hown2 hbl
    go_wp2_with fail
    go_roundw
    case rel => exact ⟨i + 1, 0, _, by first | rfl | go_num, by first | rfl | go_num, hst.out, by omega, hn'.out, hb'.out⟩
    case measure => simp [intOf]; omega
  ·have k1 : ¬ (i : Int) < (n : Int) := by omega
   obtain rfl : i = n := by omega
   have hT := hfin.out S c hS
   have HT := trim_any u5 S hS.lt (by rw [hS.len]; omega) wr (Sl.owned hown hS.len.symm)
   rw [hT] at HT
   replace HT := Lib.hid HT
   clear hT hS hown
   go_wp2_with fail
   with_reducible refine Calls.mono HT.out ?_
   rintro e w1 ⟨v', rfl, hv, rfl⟩
   replace hv := Lib.hid hv
   go_wp2_with fail
   go_ret
   exact ⟨_, rfl, hv.out, hbl⟩
theorem rsub_any (va vb : Value) (a b : Nat) (la : (td a).length ≤ 1000000) (hle : b ≤ a) (w : World) (ha : Rn w va a) (hb : Rn w vb b) :
  Calls Tryz.prog 129 #[va, vb] w fun e w' => ∃ v, e = .returned v ∧ Rn w' v (a - b) ∧ Below w.heap.size w w' := by
 have := rsub_l va vb _ _ (td_lt a) (td_lt b) la (td_mono hle) (by rw [tv_td, tv_td]; exact hle) w ha hb
 rwa [tv_td, tv_td] at this
end Go.Proofs.YtaimebjkidegiaaGreatDoor.Rx
namespace Go.Proofs.YtaimebjkidegiaaGreatDoor.Rx
open Go.RowKit
open Go.Lib (decDigits)
attribute [local irreducible] tv dg cmpI
theorem pad_cons : ∀ (k r : Nat), pad (k + 1) r = dch (r / 10 ^ k % 10) :: pad k r
 | 0, r => by rw [pad, pad, Nat.pow_zero, Nat.div_one]; rfl
 | k + 1, r => by
  rw [pad, pad_cons k (r / 10), pad, List.cons_append, Nat.div_div_eq_div_mul, Nat.pow_succ, Nat.mul_comm 10]
theorem enc_dig (q : Nat) : Utf8.encode (48 + (q : Int) % 10) = ⟨#[dch (q % 10)]⟩ := by
 have h1 : Utf8.valid (48 + (q : Int) % 10) = true := by unfold Utf8.valid; simp; omega
 have h2 : (48 + (q : Int) % 10).toNat = 48 + q % 10 := by omega
 unfold Utf8.encode dch
 simp only [h1, if_true, h2]
 rw [if_pos (by omega)]
theorem ba_cons (c : UInt8) (S : List UInt8) : (⟨#[c]⟩ : ByteArray) ++ ⟨S.toArray⟩ = ⟨(c :: S).toArray⟩ := by
 apply ByteArray.ext
 simp [ByteArray.data_append]
theorem pad_dec {k r : Nat} (h1 : r < 10 ^ k) (h2 : k = 0 ∨ 0 < r / 10 ^ (k - 1)) (hr : 0 < r) : pad k r = decDigits r := by
  have hk : 0 < k := by rcases Nat.eq_zero_or_pos k with h | h; · rw [h, Nat.pow_zero] at h1; omega
                        · exact h
  obtain ⟨e1, e2⟩ := pad_eq k r hk h1
  have h3 : 0 < r / 10 ^ (k - 1) := by rcases h2 with h | h; · omega
                                       · exact h
  have h4 : (decDigits r).length = k := by
    refine Nat.le_antisymm e2 (Nat.le_of_not_lt fun hlt => ?_)
    have h5 : 10 ^ (k - 1) ≤ r := by
      rcases Nat.lt_or_ge r (10 ^ (k - 1)) with h | h
      · rw [Nat.div_eq_of_lt h] at h3; omega
      · exact h
    rcases Nat.eq_zero_or_pos (k - 1) with h0 | h0
    · have := dec_length_pos r; omega
    · have := (dec_length_lt h0).1 (show (decDigits r).length ≤ k - 1 by omega); omega
  rw [e1, h4, Nat.sub_self, List.replicate_zero, List.nil_append]
theorem dec_td {n K : Nat} (hl : (td n).length ≤ K) (hK : 0 < K) : (decDigits n).length ≤ 4 * K := by
 refine (dec_length_lt (by omega)).2 ?_
 have := td_length.1 hl
 rwa [show (10000 : Nat) = 10 ^ 4 by rfl, ← Nat.pow_mul] at this
/-- What Text has written behind digit i. -/
def TS (n i : Nat) (T : List UInt8) : Prop := (i < (td n).length ∧ decDigits n = decDigits (n / 10000 ^ i) ++ T) ∨ (i = (td n).length ∧ T = decDigits n)
theorem TS.start {n : Nat} (h : 0 < (td n).length) : TS n 0 [] := .inl ⟨h, by simp⟩
theorem TS.step {n i : Nat} {T : List UInt8} (h : TS n i T) (hl : i < (td n).length) (hi : i + 1 < (td n).length) : TS n (i + 1) (pad 4 ((td n)[i]'hl) ++ T) := by
 rcases h with ⟨h1, h2⟩ | ⟨h1, h2⟩
 ·refine .inl ⟨hi, ?_⟩
  have hd := (td_step h1).2
  have hq := (td_step hi).1
  have e : n / 10000 ^ i = n / 10000 ^ (i + 1) * 10 ^ 4 + (td n)[i] := by
   rw [hd, Nat.pow_succ, ← Nat.div_div_eq_div_mul]
   show _ = _ * 10000 + _
   omega
  have hlt : (td n)[i] < 10 ^ 4 := td_lt n _ (List.getElem_mem _)
  have := dec_mul_add 4 (n / 10000 ^ (i + 1)) ((td n)[i]) (by omega) hlt
  rw [h2, e, this, List.append_assoc]
 ·omega
theorem TS.last {n i : Nat} {T : List UInt8} (h : TS n i T) (hl : i < (td n).length) (hi : i + 1 = (td n).length) : 0 < (td n)[i]'hl ∧ TS n (i + 1) (decDigits ((td n)[i]'hl) ++ T) := by
 rcases h with ⟨h1, h2⟩ | ⟨h1, h2⟩
 ·have hd := td_step h1
  have h0 : n / 10000 ^ (i + 1) = 0 := td_end (by omega)
  have e : n / 10000 ^ i = (td n)[i] := by
   rw [hd.2]
   rw [Nat.pow_succ, ← Nat.div_div_eq_div_mul] at h0
   omega
  refine ⟨by rw [← e]; omega, .inr ⟨hi, ?_⟩⟩
  rw [h2, e]
 ·omega
theorem TS.len {n i : Nat} {T : List UInt8} (h : TS n i T) : T.length ≤ (decDigits n).length := by
 rcases h with ⟨h1, h2⟩ | ⟨h1, h2⟩
 ·rw [h2, List.length_append]; omega
 ·rw [h2]; exact Nat.le_refl _
theorem rtext_any (v : Value) (n : Nat) (hl : (td n).length ≤ 1000000) (w : World) (hv : Rn w v n) :
    Calls Tryz.prog 50 #[v] w fun e w' => e = .returned (.string (txt n)) ∧ Below w.heap.size w w' := by
  obtain ⟨aa, ca, ea, hva⟩ := hv.view
  subst ea
  have hdl := dec_td hl (by omega)
  obtain ⟨L, hL⟩ : ∃ L, L = (td n).length := ⟨_, rfl⟩
  rw [← hL] at hl hva ⊢
  replace hva := Lib.hid hva
  replace hdl := Lib.hid hdl
  clear hv
  rcases Nat.eq_zero_or_pos L with h0 | h0
  · have hz : n = 0 := td_nil.1 (List.eq_nil_of_length_eq_zero (by rw [← hL]; exact h0))
    have ht : txt n = ⟨#[48]⟩ := by
      unfold txt
      rw [hz, dec_small (by omega)]; rfl
    replace ht := Lib.hid ht
    subst h0
    clear hL hz
    go_enter Tryz.func50, Tryz.ntmps50
    go_wp2_with fail
    go_ret
    exact ⟨by rw [ht.out]; rfl, Below.refl _ _⟩
  · obtain ⟨aA, rfl, -, sA⟩ := hva.out h0
    have hTS := Lib.hid (TS.start (n := n) (by rw [← hL]; exact h0))
    have k1 : ((L : Int) == 0) = false := beq_eq_false_iff_ne.2 (by omega)
    have k1' : (L == 0) = false := beq_eq_false_iff_ne.2 (by omega)
    replace hL := Lib.hid hL
    replace sA := Lib.hid sA
    go_enter Tryz.func50, Tryz.ntmps50
    go_wp2_with fail
    go_loopw [3, 4] (fun s j wr => ∃ (i : Nat) (T : List UInt8), s = .string ⟨T.toArray⟩ ∧ j = .int .i64 (i : Int) ∧ i ≤ L ∧ TS n i T ∧ wr = w) (fun _ j _ => L - (intOf j).toNat)
    case atStart => exact ⟨0, [], rfl, rfl, Nat.zero_le _, hTS.out, rfl⟩
    case round =>
      obtain ⟨i, T, rfl, rfl, hi, hT, rfl⟩ := hrel
      rcases Nat.lt_or_ge i L with hin | hin
      · have k2 : (i : Int) < (L : Int) := by omega
        have hib : (i : Int) ≤ 1000000 := by omega
        have iA : i < (td n).length := by have := hL.out; omega
        have hcell := sA.out.cell i iA
        have hTl := hT.len
        have hdl' := hdl.out
        have hst := hT.step iA
        have hla := hT.last iA
        have hD := td_lt n _ (List.getElem_mem iA)
        clear hT
        obtain ⟨D, hDe⟩ : ∃ D, D = (td n)[i] := ⟨_, rfl⟩
        rw [← hDe] at hcell hD hst hla
        replace hst := Lib.hid hst
        replace hla := Lib.hid hla
        replace hDe := Lib.hid hDe
        go_wp2_with fail
        go_loopw [3, 5, 6] (fun s d j wx => ∃ (k : Nat), s = .string ⟨(pad k D ++ T).toArray⟩ ∧ d = .int .i64 ((D / 10 ^ k : Nat) : Int) ∧ j = .int .i64 (k : Int) ∧ k ≤ 4 ∧ (i + 1 = L → k = 0 ∨ 0 < D / 10 ^ (k - 1)) ∧ wx = wr) (fun _ _ j _ => 4 - (intOf j).toNat)
        case atStart => exact ⟨0, by rw [pad]; rfl, by rw [Nat.pow_zero, Nat.div_one], rfl, Nat.zero_le _, fun _ => .inl rfl, rfl⟩
        case round =>
          obtain ⟨k, rfl, rfl, rfl, hk, hlast, rfl⟩ := hrel
          have hTk : (pad k D ++ T).length ≤ 4000004 := by rw [List.length_append, pad_length]; omega
          have hnext : (pad (k + 1) D ++ T) = dch (D / 10 ^ k % 10) :: (pad k D ++ T) := by rw [pad_cons, List.cons_append]
          have hq : D / 10 ^ (k + 1) = D / 10 ^ k / 10 := by rw [Nat.pow_succ, ← Nat.div_div_eq_div_mul]
          obtain ⟨q, hqe⟩ : ∃ q, q = D / 10 ^ k := ⟨_, rfl⟩
          have hqD : q ≤ D := by rw [hqe]; exact Nat.div_le_self _ _
          rw [← hqe] at hnext hq ⊢
          generalize hSe : pad k D ++ T = S at *
          replace hSe := Lib.hid hSe
          replace hnext := Lib.hid hnext
          replace hq := Lib.hid hq
          replace hqe := Lib.hid hqe
          replace hlast := Lib.hid hlast
          have hcase : (k < 4 ∧ i + 1 < L) ∨ (k < 4 ∧ ¬ (i + 1 < L) ∧ 0 < q) ∨ (k < 4 ∧ ¬ (i + 1 < L) ∧ q = 0) ∨ k = 4 := by omega
          have henc := enc_dig q
          obtain ⟨ch, hch⟩ : ∃ ch, ch = dch (q % 10) := ⟨_, rfl⟩
          rw [← hch] at henc hnext
          replace hch := Lib.hid hch
          have hqB : (q : Int) ≤ 10000 := by omega
          have hsz : (⟨S.toArray⟩ : ByteArray).size = S.length := rfl
          rcases hcase with ⟨c1, c2⟩ | ⟨c1, c2, c3⟩ | ⟨c1, c2, c3⟩ | c1
          · have d1 : (k : Int) < 4 := by omega
            have d2 : (i : Int) + 1 < (L : Int) := by omega
            go_wp2_with fail
            go_roundw
            case rel => exact ⟨k + 1, (by rw [ba_cons, hnext.out]), (by rw [hq.out]; first | rfl | go_num), by first | rfl | go_num, by omega, (fun h => by omega), trivial⟩
            case measure => simp [intOf]; omega
          · have d1 : (k : Int) < 4 := by omega
            have d2 : ¬ (i : Int) + 1 < (L : Int) := by omega
            have d3 : (0 : Int) < (q : Int) := by omega
            go_wp2_with fail
            go_roundw
            case rel => exact ⟨k + 1, (by rw [ba_cons, hnext.out]), (by rw [hq.out]; first | rfl | go_num), by first | rfl | go_num, by omega, (fun h => .inr (by rw [Nat.add_sub_cancel, ← hqe.out]; omega)), trivial⟩
            case measure => simp [intOf]; omega
          · have hdone : TS n (i + 1) S := by
              have hl1 := hla.out (by have := hL.out; omega)
              have hp : pad k D = decDigits D := pad_dec (by have h1 := hqe.out; rw [c3] at h1; rcases Nat.lt_or_ge D (10 ^ k) with h | h; · exact h
                                                             · have := (Nat.le_div_iff_mul_le (Nat.pow_pos (n := k) (show 0 < 10 by omega))).2 (show 1 * 10 ^ k ≤ D by omega); omega) (hlast.out (by omega)) hl1.1
              rw [← hSe.out, hp]
              exact hl1.2
            replace hdone := Lib.hid hdone
            subst c3
            have d1 : (k : Int) < 4 := by omega
            have d2 : ¬ (i : Int) + 1 < (L : Int) := by omega
            go_wp2_with fail
            go_roundw
            case rel => exact ⟨i + 1, S, rfl, by first | rfl | go_num, by omega, hdone.out, by trivial⟩
            case measure => simp [intOf]; omega
          · have hdone : TS n (i + 1) S := by
              subst c1
              by_cases h : i + 1 < L
              · rw [← hSe.out]; exact hst.out (by have := hL.out; omega)
              · have hl1 := hla.out (by have := hL.out; omega)
                have hp : pad 4 D = decDigits D := pad_dec hD (hlast.out (by omega)) hl1.1
                rw [← hSe.out, hp]
                exact hl1.2
            replace hdone := Lib.hid hdone
            subst c1
            go_wp2_with fail
            go_roundw
            case rel => exact ⟨i + 1, S, rfl, by first | rfl | go_num, by omega, hdone.out, by trivial⟩
            case measure => simp [intOf]; omega
      · have k2 : ¬ (i : Int) < (L : Int) := by omega
        have hTe : T = decDigits n := by
          rcases hT with ⟨h1, h2⟩ | ⟨h1, h2⟩
          · have := hL.out; omega
          · exact h2
        have ht : txt n = ⟨T.toArray⟩ := by rw [hTe]; rfl
        replace ht := Lib.hid ht
        clear hT hTe
        go_wp2_with fail
        go_ret
        exact ⟨by rw [ht.out]; rfl, Below.refl _ _⟩
end Go.Proofs.YtaimebjkidegiaaGreatDoor.Rx
namespace Go.Proofs.YtaimebjkidegiaaGreatDoor.Rx
open Go.RowKit
attribute [local irreducible] lo hs tv dg cmpI txt decB
end Go.Proofs.YtaimebjkidegiaaGreatDoor.Rx
namespace Go.Proofs.YtaimebjkidegiaaGreatDoor.Rx
open Go.RowKit
attribute [local irreducible] tv dg cmpI txt decB
/-- What is appended, chunk by chunk. -/
structure PS (l : List UInt8) (S : List Nat) (t e : Nat) : Prop where
 len : S.length = t
 lt : ∀ d ∈ S, d < 10000
 pos : e = l.length - 4 * t
 eq : tv S + 10000 ^ t * dval (l.take e) = dval l
theorem PS.step {l : List UInt8} {S : List Nat} {t e : Nat} (h : PS l S t e) (hd : ∀ c ∈ l, isDig c) (he : 0 < e) :
  dval ((l.drop (e - 4)).take (e - (e - 4))) < 10000 ∧ PS l (S ++ [dval ((l.drop (e - 4)).take (e - (e - 4)))]) (t + 1) (e - 4) := by
 have hle : e ≤ l.length := by have := h.pos; omega
 have hch : ((l.drop (e - 4)).take (e - (e - 4))).length = e - (e - 4) := by rw [List.length_take, List.length_drop]; omega
 have hlt : dval ((l.drop (e - 4)).take (e - (e - 4))) < 10000 := by
  have h1 := dval_lt (l := (l.drop (e - 4)).take (e - (e - 4))) fun c hc => hd c (List.mem_of_mem_drop (List.mem_of_mem_take hc))
  rw [hch] at h1
  exact Nat.lt_of_lt_of_le h1 (Nat.le_trans (Nat.pow_le_pow_right (by omega) (show e - (e - 4) ≤ 4 by omega)) (by decide))
 refine ⟨hlt, by rw [List.length_append, h.len]; rfl, fun d hx => ?_, by have := h.pos; omega, ?_⟩
 ·rcases List.mem_append.1 hx with hx | hx
  ·exact h.lt d hx
  ·rw [List.mem_singleton.1 hx]; exact hlt
 ·have e1 : l.take e = l.take (e - 4) ++ (l.drop (e - 4)).take (e - (e - 4)) := by
   have := List.take_add (l := l) (i := e - 4) (j := e - (e - 4))
   rw [show e - 4 + (e - (e - 4)) = e by omega] at this
   exact this
  have e2 := h.eq
  rw [e1, dval_append, hch] at e2
  rw [tv_snoc, h.len, Nat.pow_succ]
  generalize dval ((l.drop (e - 4)).take (e - (e - 4))) = d at *
  rcases Nat.lt_or_ge e 4 with h4 | h4
  ·have h0 : dval (l.take (e - 4)) = 0 := by rw [show e - 4 = 0 by omega, List.take_zero, dval_nil]
   rw [h0, Nat.zero_mul, Nat.zero_add] at e2
   rw [h0, Nat.mul_zero]; omega
  ·rw [show e - (e - 4) = 4 by omega] at e2
   rw [Nat.mul_add, Nat.mul_comm (dval _) (10 ^ 4), ← Nat.mul_assoc, show (10 : Nat) ^ 4 = 10000 by rfl] at e2
   omega
theorem PS.start (l : List UInt8) : PS l [] 0 l.length := ⟨rfl, (fun d hd => by cases hd), by omega, by rw [tv_nil, List.take_length]; simp⟩
end Go.Proofs.YtaimebjkidegiaaGreatDoor.Rx
namespace Go.Proofs.YtaimebjkidegiaaGreatDoor
open Go.RowKit Go.Proofs.YtaimebjkidegiaaGreatDoor.Rx
attribute [local irreducible] lo hs sm s64 c64 d64 b64 mh ml pd pc qd qc val hiB str cmpI srD lz nb isq decB dval
theorem sl_upd {w w' : World} {k : Nat} {c : List Value} {v : Value} {l : List Nat} (h : Sl w v l) (hu : Upd k w w') (hd : Hd w k c) (hc : ∀ v ∈ c, ∀ n, v ≠ .int .i64 n) : Sl w' v l := by
 rcases h with h | ⟨a, c1, h1, h2, h3⟩
 ·exact .inl h
 ·refine .inr ⟨a, c1, h1, h2, fun i hi => ?_, by rw [hu.size]; exact h3.blk⟩
  have hx := h3.cell i hi
  exact (World.cell?_of_block (w := w) (hu.block _ (hd.no_int hc hx))).trans hx
theorem rfrom_false (a : Option Addr) (n c : Nat)  (w : World) :
  Calls Tryz.prog 193 #[.bool false, .slice a n c] w fun e w' => e = .returned (.agg #[.bool false, .slice a n c]) ∧ Below w.heap.size w w' := by
 have hL0 : GL w w [] := GL.start w
 obtain ⟨x1, hweq, hL0⟩ := GL.named (hL0.new rfl [.bool false, .slice none 0 0] 40)
 go_enter Tryz.func193, Tryz.ntmps193
 have hA := hL0.fc
 simp only [zF, Nat.reduceAdd] at hA
 obtain ⟨x2, hput1, hP⟩ := GL.named (hL0.put 0 (w.heap.size) _ rfl [.bool false, .slice a n c] rfl)
 simp only [setAll] at hput1
 simp only [List.set_cons_zero, List.set_cons_succ] at hP
 have hB1 := hP.fc
 simp only [zF, Nat.reduceAdd] at hB1
 replace hL0 := hP
 go_wp2_with fail
 exact bodyPost_ret (v := .agg #[.bool false, .slice a n c]) (by simp [results, Tryz.results193, go_sem, hB1]) rfl ⟨rfl, hL0.bl⟩
theorem rfrom_zero (a : Option Addr) (n c : Nat) (h : n = 0) (w : World) :
  Calls Tryz.prog 193 #[.bool true, .slice a n c] w fun e w' => e = .returned (.agg #[.bool false, .slice a n c]) ∧ Below w.heap.size w w' := by
 have hL0 : GL w w [] := GL.start w
 subst h
 obtain ⟨x1, hweq, hL0⟩ := GL.named (hL0.new rfl [.bool false, .slice none 0 0] 40)
 go_enter Tryz.func193, Tryz.ntmps193
 have hA := hL0.fc
 simp only [zF, Nat.reduceAdd] at hA
 obtain ⟨x2, hput1, hP⟩ := GL.named (hL0.put 0 (w.heap.size) _ rfl [.bool false, .slice a 0 c] rfl)
 simp only [setAll] at hput1
 simp only [List.set_cons_zero, List.set_cons_succ] at hP
 have hB1 := hP.fc
 simp only [zF, Nat.reduceAdd] at hB1
 replace hL0 := hP
 go_wp2_with fail
 exact bodyPost_ret (v := .agg #[.bool false, .slice a 0 c]) (by simp [results, Tryz.results193, go_sem, hB1]) rfl ⟨rfl, hL0.bl⟩
theorem rfrom_true (a : Option Addr) (n c : Nat) (h : 0 < n) (w : World) :
  Calls Tryz.prog 193 #[.bool true, .slice a n c] w fun e w' => e = .returned (.agg #[.bool true, .slice a n c]) ∧ Below w.heap.size w w' := by
 have hL0 : GL w w [] := GL.start w
 have f1 : decide ((0 : Int) < (n : Int)) = true := decide_eq_true (by omega)
 have f2 : decide (0 < n) = true := decide_eq_true h
 clear h
 obtain ⟨x1, hweq, hL0⟩ := GL.named (hL0.new rfl [.bool false, .slice none 0 0] 40)
 go_enter Tryz.func193, Tryz.ntmps193
 have hA := hL0.fc
 simp only [zF, Nat.reduceAdd] at hA
 obtain ⟨x2, hput1, hP⟩ := GL.named (hL0.put 0 (w.heap.size) _ rfl [.bool true, .slice a n c] rfl)
 simp only [setAll] at hput1
 simp only [List.set_cons_zero, List.set_cons_succ] at hP
 have hB1 := hP.fc
 simp only [zF, Nat.reduceAdd] at hB1
 replace hL0 := hP
 go_wp2_with fail
 exact bodyPost_ret (v := .agg #[.bool true, .slice a n c]) (by simp [results, Tryz.results193, go_sem, hB1]) rfl ⟨rfl, hL0.bl⟩
theorem td_len_zero (n : Nat) : (td n).length = 0 ↔ n = 0 := by
 constructor
 ·intro h
  have h1 := tv_td n
  rw [List.length_eq_zero_iff.1 h] at h1
  exact h1.symm
 ·rintro rfl; rw [td_zero]; rfl
theorem rfrom_any (s : Bool) (v : Value) (n : Nat) (w : World) (hv : Rn w v n) : Calls Tryz.prog 193 #[.bool s, v] w fun e w' => e = .returned (.agg #[.bool (s && decide (n ≠ 0)), v]) ∧ Below w.heap.size w w' := by
 obtain ⟨ao, c, rfl⟩ := hv.form
 have hz : (td n).length = 0 ↔ n = 0 := td_len_zero n
 cases s with
 | false => exact rfrom_false ao _ c w
 | true =>
  by_cases h : n = 0
  ·rw [Bool.true_and, decide_eq_false (by simpa using h)]; exact rfrom_zero ao _ c (hz.2 h) w
  ·rw [Bool.true_and, decide_eq_true h]; exact rfrom_true ao _ c (by omega) w
end Go.Proofs.YtaimebjkidegiaaGreatDoor
namespace Go.Proofs.YtaimebjkidegiaaGreatDoor
open Go.RowKit
section
variable {P : Program} {ops : Array Oper} {C : World → Prop}
/-- What an operation does: its value has the property in the world that it leaves. -/
def tyUpon (P : Program) (w : World) (T : Value → World → Prop) : Result Next → Prop
 | .ok (.value u) w' => Below w.heap.size w w' ∧ T u w'
 | .ok .skip w' => Below w.heap.size w w' ∧ T undef w'
 | .ok (.enter f args) w' => w' = w ∧ Calls P f args w (fun e w'' => ∃ u, e = .returned u ∧ T u w'' ∧ Below w.heap.size w w'')
 | _ => False
def TyAt (P : Program) (ops : Array Oper) (o : Oper) (a : Act) (w : World) (T : Value → World → Prop) : Prop :=
 if Region.wanted o (yielded ops a.tmps) then tyUpon P w T ((execOp a.eval o).run P w) else T undef w
theorem tyAt_none {o : Oper} {a : Act} {w : World} {T : Value → World → Prop} (hg : o.guard = none) (h : tyUpon P w T ((execOp a.eval o).run P w)) : TyAt P ops o a w T := by
 unfold TyAt
 rw [if_pos (by unfold Region.wanted; rw [hg])]
 exact h
/-- A call whose contract gives the property. -/
theorem ty_call {o : Oper} {a : Act} {w : World} {T : Value → World → Prop} {f : FuncId} {args : Array Value} (hr : (execOp a.eval o).run P w = .ok (.enter f args) w) (h : Calls P f args w fun e w'' => ∃ u, e = .returned u ∧ T u w'' ∧ Below w.heap.size w w'') : tyUpon P w T ((execOp a.eval o).run P w) := by
 rw [hr]; exact ⟨rfl, h⟩
/-- The frame with the values of the operations that have come up. -/
def putsIf : List Oper → Nat → (Nat → Bool) → (Nat → Value) → Act → Act
 | [], _, _, _, a => a
 | o :: l, k, b, v, a => putsIf l (k + 1) b v (if b k then a.put o.dst (v k) else a)
def putsV : List Oper → Nat → (Nat → Value) → Act → Act
 | [], _, _, a => a
 | o :: l, k, v, a => putsV l (k + 1) v (a.put o.dst (v k))
theorem putsIf_all {v : Nat → Value} {b : Nat → Bool} : ∀ (l : List Oper) (k : Nat) (a : Act), (∀ i, k ≤ i → i < k + l.length → b i = true) → putsIf l k b v a = putsV l k v a
 | [], _, _, _ => rfl
 | o :: l, k, a, h => by
  rw [putsIf, putsV, if_pos (h k (Nat.le_refl k) (by rw [List.length_cons]; omega))]
  exact putsIf_all l (k + 1) _ fun i h1 h2 => h i (by omega) (by rw [List.length_cons]; omega)
theorem putsIf_none {v : Nat → Value} {b : Nat → Bool} : ∀ (l : List Oper) (k : Nat) (a : Act), (∀ i, k ≤ i → i < k + l.length → b i = false) → putsIf l k b v a = a
 | [], _, _, _ => rfl
 | o :: l, k, a, h => by
  rw [putsIf, if_neg (by rw [h k (Nat.le_refl k) (by rw [List.length_cons]; omega)]; exact Bool.false_ne_true)]
  exact putsIf_none l (k + 1) _ fun i h1 h2 => h i (by omega) (by rw [List.length_cons]; omega)
theorem putsIf_congr {v v' : Nat → Value} {b b' : Nat → Bool} : ∀ (l : List Oper) (k : Nat) (a : Act), (∀ i, k ≤ i → i < k + l.length → b i = b' i ∧ (b i = true → v i = v' i)) → putsIf l k b v a = putsIf l k b' v' a
 | [], _, _, _ => rfl
 | o :: l, k, a, h => by
  obtain ⟨h1, h2⟩ := h k (Nat.le_refl k) (by rw [List.length_cons]; omega)
  rw [putsIf, putsIf]
  have e : (if b k = true then a.put o.dst (v k) else a) = (if b' k = true then a.put o.dst (v' k) else a) := by
   rw [← h1]
   by_cases hb : b k = true
   ·rw [if_pos hb, if_pos hb, h2 hb]
   ·rw [if_neg hb, if_neg hb]
  rw [e]
  exact putsIf_congr l (k + 1) _ fun i h1 h2 => h i (by omega) (by rw [List.length_cons]; omega)
/-- No two of them write one slot. -/
def apartD (d : Option Tmp) (l : List Oper) : Bool := l.all fun o => match d, o.dst with
 | some x, some y => !(x == y)
 | _, _ => true
def nodupD : List Oper → Bool
 | [] => true
 | o :: l => apartD o.dst l && nodupD l
theorem apartD_spec {d : Option Tmp} {l : List Oper} (h : apartD d l = true) {o : Oper} (ho : o ∈ l) {x : Tmp} (hx : d = some x) : o.dst ≠ some x := by
 intro e
 have := (List.all_eq_true.1 h) o ho
 subst hx
 simp only [e] at this
 simp at this
theorem put_late {v : Nat → Value} {b : Nat → Bool} {d : Option Tmp} {u : Value} : ∀ (l : List Oper) (k : Nat) (a : Act), apartD d l = true → putsIf l k b v (a.put d u) = (putsIf l k b v a).put d u
 | [], _, _, _ => rfl
 | o :: l, k, a, h => by
  have h0 := h
  simp only [apartD, List.all_cons, Bool.and_eq_true] at h
  rw [putsIf, putsIf]
  by_cases hb : b k = true
  ·rw [if_pos hb, if_pos hb]
   have : (a.put d u).put o.dst (v k) = (a.put o.dst (v k)).put d u := by
    cases d with
    | none => rfl
    | some x =>
     cases ho : o.dst with
     | none => rfl
     | some y =>
      have hne : y ≠ x := fun e => apartD_spec h0 List.mem_cons_self rfl (by rw [ho, e])
      exact Act.put_comm a u (v k) (fun d hd e => hne (Option.some.inj (e.trans hd.symm)))
   rw [this]
   exact put_late l (k + 1) _ h.2
  ·rw [if_neg hb, if_neg hb]; exact put_late l (k + 1) _ h.2
theorem put_at {v v' : Nat → Value} {b b' : Nat → Bool} {j : Nat} {u : Value} (hb : b j = false) (hb' : b' j = true) (hv : v' j = u) (hbb : ∀ i, i ≠ j → b' i = b i ∧ v' i = v i) :
  ∀ (l : List Oper) (k : Nat) (a : Act) (o : Oper), nodupD l = true → k ≤ j → l[j - k]? = some o → (putsIf l k b v a).put o.dst u = putsIf l k b' v' a
 | [], _, _, _, _, _, h => by simp at h
 | o1 :: l, k, a, o, hn, hk, h => by
  simp only [nodupD, Bool.and_eq_true] at hn
  rw [putsIf, putsIf]
  by_cases e : j = k
  ·subst e
   simp only [Nat.sub_self, List.getElem?_cons_zero, Option.some.injEq] at h
   subst h
   rw [if_neg (by rw [hb]; exact Bool.false_ne_true), if_pos hb', hv, ← put_late l (j + 1) a hn.1]
   exact putsIf_congr l (j + 1) _ fun i h1 h2 => ⟨(hbb i (by omega)).1.symm, fun _ => (hbb i (by omega)).2.symm⟩
  ·have hk' : k + 1 ≤ j := by omega
   rw [show j - k = (j - (k + 1)) + 1 by omega, List.getElem?_cons_succ] at h
   obtain ⟨h1, h2⟩ := hbb k (fun e' => e e'.symm)
   rw [h1, h2]
   exact put_at hb hb' hv hbb l (k + 1) _ o hn.2 hk' h
theorem put_get (a : Act) (d : Option Tmp) (u : Value) (t : Nat) : (a.put d u).tmps[t]? = if d = some t then (if t < a.tmps.size then some u else none) else a.tmps[t]? := by
 cases d with
 | none => simp [Act.put]
 | some x =>
  simp only [Act.put, Array.getElem?_setIfInBounds, Option.some.injEq]
  by_cases h : x = t
  ·subst h; simp
  ·simp [h]
theorem get_puts {v : Nat → Value} {b : Nat → Bool} {t : Nat} : ∀ (l : List Oper) (k : Nat) (a a' : Act), a.tmps[t]? = a'.tmps[t]? → (∀ i o, l[i]? = some o → o.dst = some t → b (k + i) = true) → (putsIf l k b v a).tmps[t]? = (putsV l k v a').tmps[t]?
 | [], _, _, _, h, _ => h
 | o :: l, k, a, a', h, hd => by
  rw [putsIf, putsV]
  refine get_puts l (k + 1) _ _ ?_ fun i o' ho' hd' => by have := hd (i + 1) o' (by simpa using ho') hd'; rwa [show k + (i + 1) = k + 1 + i by omega] at this
  have hsz : t < a.tmps.size ↔ t < a'.tmps.size := by
   constructor <;> intro h1
   ·rw [Array.getElem?_eq_getElem h1] at h; exact (Array.getElem?_eq_some_iff.1 h.symm).1
   ·rw [Array.getElem?_eq_getElem h1] at h; exact (Array.getElem?_eq_some_iff.1 h).1
  by_cases e : o.dst = some t
  ·have hb := hd 0 o (by simp) e
   rw [Nat.add_zero] at hb
   rw [if_pos hb, put_get, put_get, if_pos e, if_pos e]
   by_cases h2 : t < a.tmps.size
   ·rw [if_pos h2, if_pos (hsz.1 h2)]
   ·rw [if_neg h2, if_neg fun h3 => h2 (hsz.2 h3)]
  ·by_cases hb : b k = true
   ·rw [if_pos hb, put_get, put_get, if_neg e, if_neg e]; exact h
   ·rw [if_neg hb, put_get, if_neg e]; exact h
theorem wanted_same {a a' : Act} {o : Oper} (h : ∀ t ∈ o.looksAt ops, a.tmps[t]? = a'.tmps[t]?) : Region.wanted o (yielded ops a.tmps) = Region.wanted o (yielded ops a'.tmps) := by
 unfold Region.wanted
 cases hg : o.guard with
 | none => rfl
 | some gw =>
  obtain ⟨gg, want⟩ := gw
  have hy : yielded ops a.tmps gg = yielded ops a'.tmps gg := by
   unfold yielded
   cases ht : (ops[gg]?).bind (·.dst) with
   | none => rfl
   | some t =>
    have := h t (List.mem_append_right _ (by simp [hg, ht]))
    simp [this]
  simp only [hy]
theorem exec_same {a a' : Act} {o : Oper} (hs : ∀ cs b, o.op ≠ .select cs b) (h : ∀ t ∈ o.looksAt ops, a.tmps[t]? = a'.tmps[t]?) : execOp a.eval o = execOp a'.eval o :=
 execOp_congr o hs fun x hx => by
  cases x with
  | tmp t =>
   have ht : t ∈ o.looksAt ops := List.mem_append_left _ (List.mem_filterMap.2 ⟨_, by simpa using hx, rfl⟩)
   simp only [Act.eval, Array.getD_eq_getD_getElem?, h t ht]
  | _ => rfl
/-- Each of the first n waits for earlier ones alone, and for each of them that writes a slot that it looks at. -/
def depB (ops : Array Oper) (n : Nat) : Bool :=
 (List.range n).all fun j => (predsOf .any ops j).all (fun i => decide (i < j)) && match ops[j]? with
  | some o => (o.looksAt ops).all fun t => (List.range n).all fun i => match (ops[i]?).bind (·.dst) with
    | some d => !(d == t) || (predsOf .any ops j).contains i
    | none => true
  | none => true
theorem depB_pred {n j i : Nat} (h : depB ops n = true) (hj : j < n) (hi : i ∈ predsOf .any ops j) : i < j := by
 simp only [depB, List.all_eq_true, List.mem_range, Bool.and_eq_true, decide_eq_true_eq] at h
 exact (h j hj).1 i hi
theorem depB_looks {n j i : Nat} (h : depB ops n = true) (hj : j < n) (hi : i < n) {o o' : Oper} (ho : ops[j]? = some o) (ho' : ops[i]? = some o') {t : Tmp} (ht : t ∈ o.looksAt ops) (hd : o'.dst = some t) : i ∈ predsOf .any ops j := by
 simp only [depB, List.all_eq_true, List.mem_range, Bool.and_eq_true, decide_eq_true_eq] at h
 have h1 := (h j hj).2
 rw [ho] at h1
 simp only [List.all_eq_true, List.mem_range] at h1
 have h2 := h1 t ht i hi
 rw [ho'] at h2
 simp only [Option.bind_some, hd, beq_self_eq_true, Bool.not_true, Bool.false_or] at h2
 exact List.contains_iff_mem.1 h2
/-- A property that later worlds keep. -/
def Stays (T : Value → World → Prop) : Prop := ∀ v w w', Below w.heap.size w w' → T v w → T v w'
/-- How many of the first n have not come up. -/
def left (n : Nat) (listed : Array Bool) : Nat := (List.range n).countP fun i => !listed.getD i false
theorem left_zero {n : Nat} {listed : Array Bool} (h : left n listed = 0) : doneN n listed = true := by
 refine doneN_iff.2 fun i hi => ?_
 have := (List.countP_eq_zero.1 h) i (List.mem_range.2 hi)
 simpa using this
theorem left_some {n m : Nat} {listed : Array Bool} (h : left n listed = m + 1) : doneN n listed = false := by
 refine Bool.eq_false_iff.2 fun hd => ?_
 have : left n listed = 0 := List.countP_eq_zero.2 fun i hi => by simp [doneN_iff.1 hd i (List.mem_range.1 hi)]
 omega
theorem countP_drop {p q : Nat → Bool} {j : Nat} (hpq : ∀ i, i ≠ j → q i = p i) (hp : p j = true) (hq : q j = false) : ∀ (r : List Nat), r.Nodup → j ∈ r → r.countP p = r.countP q + 1
 | [], _, h => by cases h
 | x :: r, hn, h => by
  rw [List.nodup_cons] at hn
  rcases List.mem_cons.1 h with rfl | h
  ·rw [List.countP_cons_of_pos hp, List.countP_cons_of_neg (by rw [hq]; exact Bool.false_ne_true)]
   congr 1
   refine List.countP_congr fun i hi => ?_
   rw [hpq i (fun e => hn.1 (e ▸ hi))]
  ·have hx : x ≠ j := fun e => hn.1 (e ▸ h)
   have ih := countP_drop hpq hp hq r hn.2 h
   by_cases hpx : p x = true
   ·rw [List.countP_cons_of_pos hpx, List.countP_cons_of_pos (by rw [hpq x hx]; exact hpx), ih]
   ·rw [List.countP_cons_of_neg hpx, List.countP_cons_of_neg (by rw [hpq x hx]; exact hpx), ih]
theorem left_set {n j m : Nat} {listed : Array Bool} (hs : listed.size = ops.size) (hj : j < n) (hjs : j < ops.size) (hu : listed.getD j false = false) (h : left n listed = m + 1) : left n (listed.setIfInBounds j true) = m := by
 have := countP_drop (p := fun i => !listed.getD i false) (q := fun i => !(listed.setIfInBounds j true).getD i false) (j := j) (fun i hi => by simp only [getD_set_ne false (fun e => hi e.symm)]) (by simp [hu]) (by simp [hs, hjs]) (List.range n) List.nodup_range (List.mem_range.2 hj)
 unfold left at h ⊢
 omega
theorem ready_some {n m : Nat} {listed : Array Bool} (hs : listed.size = ops.size) (hn : n ≤ ops.size) (hD : depB ops n = true) (h : left n listed = m + 1) : Region.ready .any ops listed ≠ [] := by
  have hnd := left_some h
  have ex : ∃ i, i < n ∧ listed.getD i false = false := Classical.byContradiction fun hc => by
    have : doneN n listed = true := doneN_iff.2 fun i hi => by
      cases hv : listed.getD i false with
      | true => rfl
      | false => exact absurd ⟨i, hi, hv⟩ hc
    rw [this] at hnd; cases hnd
  have key : ∀ k i, i ≤ k → i < n → listed.getD i false = false → ∃ i, i ∈ Region.ready .any ops listed := by
    intro k
    induction k with
    | zero =>
      intro i hi h1 h2
      obtain rfl : i = 0 := by omega
      have ho : 0 < ops.size := by omega
      refine ⟨0, mem_ready.2 ⟨by have h3 : 0 < listed.size := by omega
                                 simpa [h3] using h2, ops[0], Array.getElem?_eq_getElem ho, fun e he hb => ?_⟩⟩
      have : e.on ∈ predsOf .any ops 0 := by
        unfold predsOf; rw [Array.getElem?_eq_getElem ho]
        exact List.mem_map.2 ⟨e, List.mem_filter.2 ⟨by simpa using he, hb⟩, rfl⟩
      have := depB_pred hD h1 this
      omega
    | succ k ih =>
      intro i hi h1 h2
      have ho : i < ops.size := by omega
      by_cases hall : ∀ p ∈ predsOf .any ops i, listed.getD p false = true
      · refine ⟨i, mem_ready.2 ⟨by have h3 : i < listed.size := by omega
                                   simpa [h3] using h2, ops[i], Array.getElem?_eq_getElem ho, fun e he hb => hall _ ?_⟩⟩
        unfold predsOf; rw [Array.getElem?_eq_getElem ho]
        exact List.mem_map.2 ⟨e, List.mem_filter.2 ⟨by simpa using he, hb⟩, rfl⟩
      · have : ∃ p, p ∈ predsOf .any ops i ∧ listed.getD p false = false := Classical.byContradiction fun hc => hall fun p hp => by
          cases hv : listed.getD p false with
          | true => rfl
          | false => exact absurd ⟨p, hp, hv⟩ hc
        obtain ⟨p, hp, hv⟩ := this
        have := depB_pred hD h1 hp
        exact ih p (by omega) (by omega) hv
  obtain ⟨i, h1, h2⟩ := ex
  obtain ⟨i, hi⟩ := key i i (Nat.le_refl _) h1 h2
  exact List.ne_nil_of_mem hi
theorem preds_of_ready {j : Nat} {listed : Array Bool} (hj : j ∈ Region.ready .any ops listed) : ∀ p ∈ predsOf .any ops j, listed.getD p false = true := by
 obtain ⟨-, o, ho, hall⟩ := mem_ready.1 hj
 intro p hp
 unfold predsOf at hp
 simp only [ho, List.mem_map, List.mem_filter] at hp
 obtain ⟨e, ⟨he, hb⟩, rfl⟩ := hp
 exact hall e (by simpa using he) hb
theorem wpAny_ty {n s : Nat} {l : List Oper} {T : Nat → Value → World → Prop} {w0 : World} {a0 : Act} {Q : Exit → Act → World → Prop} (hT : ∀ i, Stays (T i)) (hsel : Region.noSelect l.toArray = true) (hn : n ≤ l.length)
  (hB : barB .any l.toArray n = true) (hN : nodupD (l.take n) = true) (hD : depB l.toArray n = true)
  (hops : ∀ j o, j < n → l[j]? = some o → ∀ v w, Below w0.heap.size w0 w → (∀ p ∈ predsOf .any l.toArray j, T p (v p) w) → TyAt P l.toArray o (putsV (l.take n) 0 v a0) w (T j))
  (hend : ∀ v w, Below w0.heap.size w0 w → (∀ i, i < n → T i (v i) w) → wpAny P .any l.toArray Q s (canonL l.length n) (putsV (l.take n) 0 v a0) w) :
  ∀ (m : Nat) (listed : Array Bool) (v : Nat → Value) (w : World), left n listed = m → closedL .any l.toArray listed → sufL n l.toArray listed → Below w0.heap.size w0 w →
   (∀ i, i < n → listed.getD i false = true → T i (v i) w) → wpAny P .any l.toArray Q (s + m) listed (putsIf (l.take n) 0 (fun i => listed.getD i false) v a0) w := by
 intro m
 have hlen : (l.take n).length = n := by rw [List.length_take]; omega
 induction m with
 | zero =>
  intro listed v w hl hc hu hb ht
  have hd := left_zero hl
  rw [putsIf_all (l.take n) 0 a0 fun i _ h2 => doneN_iff.1 hd i (by omega)]
  have e := canon_of hu hd
  rw [show l.toArray.size = l.length by simp] at e
  rw [e]
  exact hend v w hb fun i hi => ht i hi (doneN_iff.1 hd i hi)
 | succ m ih =>
  intro listed v w hl hc hu hb ht
  have hnd := left_some hl
  refine ⟨fun h0 => absurd h0 (ready_some hu.1 (by simpa using hn) hD hl), fun j hj => ?_⟩
  have hjn := bar hB hc hj hnd
  obtain ⟨hju, o, ho, -⟩ := mem_ready.1 hj
  have hpre := preds_of_ready hj
  have hol : l[j]? = some o := by simpa using ho
  have hjs : j < l.toArray.size := (Array.getElem?_eq_some_iff.1 ho).1
  have hty := hops j o hjn hol v w hb fun p hp => ht p (by have := depB_pred hD hjn hp; omega) (hpre p hp)
  have hag : ∀ t ∈ o.looksAt l.toArray, (putsIf (l.take n) 0 (fun i => listed.getD i false) v a0).tmps[t]? = (putsV (l.take n) 0 v a0).tmps[t]? := fun t ht' =>
   get_puts (l.take n) 0 a0 a0 rfl fun i o' ho' hd' => by
    have hin : i < n := by rw [← hlen]; exact (List.getElem?_eq_some_iff.1 ho').1
    have ho2 : l.toArray[i]? = some o' := by rw [List.getElem?_take, if_pos hin] at ho'; simpa using ho'
    rw [Nat.zero_add]
    exact hpre i (depB_looks hD hjn hin ho ho2 ht' hd')
  have step : ∀ u w', Below w.heap.size w w' → T j u w' → wpAny P .any l.toArray Q (s + m) (listed.setIfInBounds j true) ((putsIf (l.take n) 0 (fun i => listed.getD i false) v a0).put o.dst u) w' := by
   intro u w' hw' hu'
   have e := put_at (v := v) (v' := fun i => if i = j then u else v i) (b := fun i => listed.getD i false) (b' := fun i => (listed.setIfInBounds j true).getD i false) (j := j) (u := u) (unl hju) (by simp [hu.1]; simpa using hjs) (by simp)
    (fun i hi => ⟨getD_set_ne false fun e => hi e.symm, by simp [hi]⟩) (l.take n) 0 a0 o hN (Nat.zero_le _) (by rw [Nat.sub_zero, List.getElem?_take, if_pos hjn]; exact hol)
   rw [e]
   refine ih _ _ w' (left_set (ops := l.toArray) hu.1 hjn hjs (unl hju) hl) (hc.set hj) ⟨by simpa using hu.1, fun k hk hks => by rw [getD_set_ne true (by omega)]; exact hu.2 k hk hks⟩ (hb.trans (hw'.mono hb.size)) fun i hi hli => ?_
   by_cases e : i = j
   ·subst e; simpa using hu'
   ·rw [getD_set_ne false fun e' => e e'.symm] at hli
    simp only [if_neg e]
    exact hT i _ _ _ hw' (ht i hi hli)
  unfold wpOp
  simp only [ho]
  unfold TyAt at hty
  rw [← wanted_same hag] at hty
  by_cases hw : Region.wanted o (yielded l.toArray (putsIf (l.take n) 0 (fun i => listed.getD i false) v a0).tmps) = true
  ·simp only [hw, if_true] at hty ⊢
   refine .inl ?_
   unfold Oper.wp
   rw [exec_same (fun cs b => Region.noSelect_spec hsel j o cs b ho) hag]
   generalize (execOp (putsV (l.take n) 0 v a0).eval o).run P w = r at *
   cases r with
   | ok nx w' =>
    cases nx <;> simp only [tyUpon] at hty <;> simp only [Oper.upon]
    case value u => exact step u w' hty.1 hty.2
    case skip => exact step undef w' hty.1 hty.2
    case enter f args =>
     obtain ⟨rfl, hcall⟩ := hty
     exact hcall.mono fun e w'' ⟨u, he, h1, h2⟩ => by subst he; exact step u w'' h2 h1
   | halt x w' => simp only [tyUpon] at hty
  ·simp only [hw] at hty ⊢
   exact step undef w (Below.refl _ _) hty
def tyB (n : Nat) (l : List Oper) : Bool :=
 Region.noSelect l.toArray && decide (n ≤ l.length) && barB .any l.toArray n && nodupD (l.take n) && depB l.toArray n && seqB .any l.toArray (l.length - n) n (canonL l.length n)
/-- **A region whose first n operations each give a value of a property; then the others, in their order.** -/
theorem region_ty (n : Nat) (T : Nat → Value → World → Prop) {id : Nat} {Q : Exit → Act → World → Prop} {a : Act} {w : World} {l : List Oper} (hm : P.follows .mixedOrders = true) (hB : tyB n l = true) (hT : ∀ i, Stays (T i))
  (hops : ∀ j o, j < n → l[j]? = some o → ∀ v w1, Below w.drew.heap.size w.drew w1 → (∀ p ∈ predsOf .any l.toArray j, T p (v p) w1) → TyAt P l.toArray o (putsV (l.take n) 0 v a) w1 (T j))
  (hend : ∀ v w1, Below w.drew.heap.size w.drew w1 → (∀ i, i < n → T i (v i) w1) → wpList P l.toArray Q (l.drop n) (putsV (l.take n) 0 v a) w1) : (Code.region id l.toArray true).wp P Q a w := by
 simp only [tyB, Bool.and_eq_true, decide_eq_true_eq] at hB
 obtain ⟨⟨⟨⟨⟨hs, hn⟩, hb⟩, hN⟩, hD⟩, hq⟩ := hB
 refine wp_region_any hm ?_
 have hrep : ∀ i, (Array.replicate l.length false).getD i false = false := fun i => by
  rcases Nat.lt_or_ge i l.length with h' | h' <;> simp [h']
 have h0 : closedL .any l.toArray (Array.replicate l.length false) := fun j o _ hl => by rw [hrep] at hl; cases hl
 have hleft : left n (Array.replicate l.length false) = n := by
  unfold left
  rw [List.countP_eq_length.2 fun i _ => by rw [hrep]; rfl, List.length_range]
 have h2 := wpAny_ty (P := P) (s := l.length - n) (Q := Q) (a0 := a) hT hs hn hb hN hD hops (fun v w1 h1 h2 => by
   have h3 := wpAny_of_seq (md := .any) (P := P) (Q' := Q) (l.drop n) n (canonL l.length n) (putsV (l.take n) 0 v a) w1 (fun j hj => by simp [List.getElem?_drop]) (by rw [List.length_drop]; exact hq) (hend v w1 h1 h2)
   rw [List.length_drop] at h3
   exact h3) n (Array.replicate l.length false) (fun _ => undef) w.drew hleft h0 ⟨by simp, fun j _ hj => by simp at hj; simp [hj]⟩ (Below.refl _ _) (fun i _ hl => by rw [hrep] at hl; cases hl)
 rw [putsIf_none (l.take n) 0 a fun i _ _ => hrep i, Nat.sub_add_cancel hn] at h2
 simpa using h2
theorem stays_nil : ∀ i : Nat, Stays (([] : List (Value → World → Prop)).getD i (fun _ _ => True)) := fun i => by simp [Stays]
theorem stays_cons {T : Value → World → Prop} {L : List (Value → World → Prop)} (h : Stays T) (hL : ∀ i : Nat, Stays (L.getD i (fun _ _ => True))) : ∀ i : Nat, Stays ((T :: L).getD i (fun _ _ => True))
 | 0 => h
 | i + 1 => by simpa using hL i
theorem stays_eq (c : Value) : Stays (fun u _ => u = c) := fun _ _ _ _ h => h
/-- The operations, one obligation each. -/
def hopsR (P : Program) (ops : Array Oper) (T : Nat → Value → World → Prop) (w0 : World) (F : (Nat → Value) → Act) : List Oper → Nat → Prop
 | [], _ => True
 | o :: l, k => (∀ v w1, Below w0.heap.size w0 w1 → (∀ p ∈ predsOf .any ops k, T p (v p) w1) → TyAt P ops o (F v) w1 (T k)) ∧ hopsR P ops T w0 F l (k + 1)
theorem hops_of {T : Nat → Value → World → Prop} {w0 : World} {F : (Nat → Value) → Act} : ∀ (l : List Oper) (k : Nat), hopsR P ops T w0 F l k → ∀ j o, l[j]? = some o → ∀ v w1, Below w0.heap.size w0 w1 → (∀ p ∈ predsOf .any ops (k + j), T p (v p) w1) → TyAt P ops o (F v) w1 (T (k + j))
 | [], _, _, j, o, h => by simp at h
 | o' :: l, k, hh, 0, o, h => by
  simp only [List.getElem?_cons_zero, Option.some.injEq] at h
  subst h; exact hh.1
 | o' :: l, k, hh, j + 1, o, h => by
  have := hops_of l (k + 1) hh.2 j o (by simpa using h)
  rwa [show k + 1 + j = k + (j + 1) by omega] at this
/-- region_ty, with its properties as a list. -/
theorem region_tl (n : Nat) (L : List (Value → World → Prop)) {id : Nat} {Q : Exit → Act → World → Prop} {a : Act} {w : World} {l : List Oper} (hm : P.follows .mixedOrders = true) (hB : tyB n l = true) (hT : ∀ i, Stays (L.getD i (fun _ _ => True)))
  (hops : hopsR P l.toArray (fun i => L.getD i (fun _ _ => True)) w.drew (fun v => putsV (l.take n) 0 v a) (l.take n) 0)
  (hend : ∀ v w1, Below w.drew.heap.size w.drew w1 → (∀ i, i < n → L.getD i (fun _ _ => True) (v i) w1) → wpList P l.toArray Q (l.drop n) (putsV (l.take n) 0 v a) w1) : (Code.region id l.toArray true).wp P Q a w :=
 region_ty n (fun i => L.getD i (fun _ _ => True)) hm hB hT (fun j o hj ho v w1 hb hp => by
  have := hops_of (l.take n) 0 hops j o (by rw [List.getElem?_take, if_pos hj]; exact ho) v w1 hb (by rw [Nat.zero_add]; exact hp)
  rwa [Nat.zero_add] at this) hend
end
end Go.Proofs.YtaimebjkidegiaaGreatDoor
namespace Go.Proofs.YtaimebjkidegiaaGreatDoor
open Go.RowKit Go.Proofs.YtaimebjkidegiaaGreatDoor.Rx
attribute [local irreducible] lo hs sm s64 c64 d64 b64 mh ml pd pc qd qc val hiB str cmpI srD lz nb isq decB dval
theorem rzmul_any (s t : Bool) (va vb : Value) (a b : Nat) (la : (td a).length ≤ 1000000) (lb : (td b).length ≤ 1000000) (w : World) (ha : Rn w va a) (hb : Rn w vb b) :
  Calls Tryz.prog 225 #[.agg #[.bool s, va], .agg #[.bool t, vb]] w fun e w' => (∃ v, e = .returned (.agg #[.bool (!(s == t) && decide (a * b ≠ 0)), v]) ∧ Rn w' v (a * b)) ∧ Below w.heap.size w w' := by
 have hL0 : GL w w [] := GL.start w
 have HA := Lib.hid (fun w h1 h2 => rmul_any va vb a b la lb w h1 h2)
 obtain ⟨aa, ca, rfl⟩ := ha.form
 obtain ⟨ab, cb, rfl⟩ := hb.form
 generalize (td a).length = na at *
 generalize (td b).length = nb at *
 obtain ⟨x1, hweq, hL0⟩ := GL.named (((hL0.new rfl [.bool s, .slice aa na ca] 40).new (K := w.heap.size + 1) (szA _ _) [.bool t, .slice ab nb cb] 40).new (K := w.heap.size + 1 + 1) (by simp only [World.size_alloc]) [.bool false, .slice none 0 0] 40)
 replace ha := Lib.hid (ha.below hL0.bl)
 replace hb := Lib.hid (hb.below hL0.bl)
 clear la lb
 go_enter Tryz.func225, Tryz.ntmps225
 have hA := hL0.fc
 simp only [zF, Nat.reduceAdd] at hA
 go_upto_region 1 with fail
 clear hA
 clear hweq
 refine region_tl 11 [fun u _ => u = .pointer (some ⟨w.heap.size, 0, none⟩), fun u _ => u = .bool s, fun u _ => u = .pointer (some ⟨w.heap.size + 1, 0, none⟩), fun u _ => u = .bool t, fun u _ => u = .bool (!(s == t)), fun u _ => u = .pointer (some ⟨w.heap.size, 1, none⟩), fun u _ => u = .slice aa na ca, fun u _ => u = .pointer (some ⟨w.heap.size + 1, 1, none⟩), fun u _ => u = .slice ab nb cb, fun u w => Rn w u (a * b), fun u w => ∃ v, u = .agg #[.bool (!(s == t) && decide (a * b ≠ 0)), v] ∧ Rn w v (a * b)] (by kernel_rfl) (by kernel_rfl) ?_ ?_ ?_
 ·repeat' first | exact stays_nil | apply stays_cons | exact stays_eq _ | exact fun _ _ _ hb h => h.below hb | exact fun _ _ _ hb ⟨v, e, h⟩ => ⟨v, e, h.below hb⟩
 ·simp only [List.take_succ_cons, List.take_zero, hopsR, and_true]
  refine ⟨?_, ?_, ?_, ?_, ?_, ?_, ?_, ?_, ?_, ?_, ?_⟩ <;> intro v w1 hb1 hp
  all_goals (have hc := (hL0.call (below_drew hb1)).fc; simp only [zF, Nat.reduceAdd] at hc; simp only [putsV, Act.put, zP, Nat.zero_add, Nat.reduceAdd])
  ·skip
   clear hp
   refine tyAt_none rfl ?_
   simp [tyUpon, execOp, go_sem, Act.eval, hc, Below.refl]
  ·skip
   have h0 : (fun u _ => u = .pointer (some ⟨w.heap.size, 0, none⟩)) (v 0) w1 := hp 0 (List.contains_iff_mem.1 (by kernel_rfl))
   clear hp
   refine tyAt_none rfl ?_
   simp [tyUpon, execOp, go_sem, Act.eval, hc, h0, Below.refl]
  ·skip
   clear hp
   refine tyAt_none rfl ?_
   simp [tyUpon, execOp, go_sem, Act.eval, hc, Below.refl]
  ·skip
   have h2 : (fun u _ => u = .pointer (some ⟨w.heap.size + 1, 0, none⟩)) (v 2) w1 := hp 2 (List.contains_iff_mem.1 (by kernel_rfl))
   clear hp
   refine tyAt_none rfl ?_
   simp [tyUpon, execOp, go_sem, Act.eval, hc, h2, Below.refl]
  ·skip
   have h1 : (fun u _ => u = .bool s) (v 1) w1 := hp 1 (List.contains_iff_mem.1 (by kernel_rfl))
   have h3 : (fun u _ => u = .bool t) (v 3) w1 := hp 3 (List.contains_iff_mem.1 (by kernel_rfl))
   clear hp
   refine tyAt_none rfl ?_
   simp [tyUpon, execOp, go_sem, Act.eval, hc, h1, h3, Below.refl]
  ·skip
   clear hp
   refine tyAt_none rfl ?_
   simp [tyUpon, execOp, go_sem, Act.eval, hc, Below.refl]
  ·skip
   have h5 : (fun u _ => u = .pointer (some ⟨w.heap.size, 1, none⟩)) (v 5) w1 := hp 5 (List.contains_iff_mem.1 (by kernel_rfl))
   clear hp
   refine tyAt_none rfl ?_
   simp [tyUpon, execOp, go_sem, Act.eval, hc, h5, Below.refl]
  ·skip
   clear hp
   refine tyAt_none rfl ?_
   simp [tyUpon, execOp, go_sem, Act.eval, hc, Below.refl]
  ·skip
   have h7 : (fun u _ => u = .pointer (some ⟨w.heap.size + 1, 1, none⟩)) (v 7) w1 := hp 7 (List.contains_iff_mem.1 (by kernel_rfl))
   clear hp
   refine tyAt_none rfl ?_
   simp [tyUpon, execOp, go_sem, Act.eval, hc, h7, Below.refl]
  ·skip
   have h6 : (fun u _ => u = .slice aa na ca) (v 6) w1 := hp 6 (List.contains_iff_mem.1 (by kernel_rfl))
   have h8 : (fun u _ => u = .slice ab nb cb) (v 8) w1 := hp 8 (List.contains_iff_mem.1 (by kernel_rfl))
   clear hp
   refine tyAt_none rfl ?_
   refine ty_call (f := 51) (args := #[.slice aa na ca, .slice ab nb cb]) (by simp [execOp, go_sem, Act.eval, h6, h8]) ?_
   exact (HA.out w1 (ha.out.below (below_drew hb1)) (hb.out.below (below_drew hb1))).mono fun e w2 ⟨v, h1, h2, h3⟩ => ⟨v, h1, h2, h3⟩
  ·skip
   have h4 : (fun u _ => u = .bool (!(s == t))) (v 4) w1 := hp 4 (List.contains_iff_mem.1 (by kernel_rfl))
   have h9 : (fun u w => Rn w u (a * b)) (v 9) w1 := hp 9 (List.contains_iff_mem.1 (by kernel_rfl))
   clear hp
   refine tyAt_none rfl ?_
   refine ty_call (f := 193) (args := #[.bool (!(s == t)), v 9]) (by simp [execOp, go_sem, Act.eval, h4]) ?_
   have hF := rfrom_any (!(s == t)) (v 9) (a * b) w1 h9
   exact hF.mono fun e w2 ⟨h1, h2⟩ => ⟨_, h1, ⟨v 9, rfl, Sl.below h9 h2⟩, h2⟩
 ·intro v w1 hb1 hv
  obtain ⟨u, hu, hru⟩ : ∃ u, v 10 = .agg #[.bool (!(s == t) && decide (a * b ≠ 0)), u] ∧ Rn w1 u (a * b) := hv 10 (by omega)
  obtain ⟨ao, c, rfl⟩ := hru.form
  generalize hd : (!(s == t) && decide (a * b ≠ 0)) = d at *
  replace hd := Lib.hid hd
  generalize hk : (td (a * b)).length = k at *
  replace hk := Lib.hid hk
  clear hv
  simp only [List.take_succ_cons, List.take_zero, putsV, Act.put, zP, List.drop_succ_cons, List.drop_zero, Nat.zero_add, Nat.reduceAdd, hu]
  replace hL0 := hL0.call (below_drew hb1)
  have hHd := hL0.get _ _ mZ
  have hA := hL0.fc
  simp only [zF, Nat.reduceAdd] at hA
  obtain ⟨x2, hput1, hP⟩ := GL.named (hL0.put 0 (w.heap.size + 1 + 1) _ rfl [.bool d, .slice ao k c] rfl)
  simp only [setAll] at hput1
  simp only [List.set_cons_zero, List.set_cons_succ] at hP
  have hB1 := hP.fc
  simp only [zF, Nat.reduceAdd] at hB1
  replace hL0 := hP
  have hvF := sl_upd hru (show Upd (w.heap.size + 1 + 1) w1 x2 by rw [← hput1]; exact ((Upd.refl _ _).setCell 0 _).setCell 1 _) hHd (by intro v hv n; simp only [List.mem_cons, List.not_mem_nil, or_false] at hv; rcases hv with rfl | rfl <;> simp)
  replace hvF := Lib.hid hvF
  clear hru hHd hb1 ha hb HA
  generalize v 0 = y0 at *
  generalize v 1 = y1 at *
  generalize v 2 = y2 at *
  generalize v 3 = y3 at *
  generalize v 4 = y4 at *
  generalize v 5 = y5 at *
  generalize v 6 = y6 at *
  generalize v 7 = y7 at *
  generalize v 8 = y8 at *
  generalize v 9 = y9 at *
  clear hu v
  go_wp2_with fail
  exact bodyPost_ret (v := .agg #[.bool d, .slice ao k c]) (by simp [results, Tryz.results225, go_sem, hB1]) rfl ⟨⟨_, by rw [hd.out], hvF.out⟩, hL0.bl⟩
theorem rzsign_zero (s : Bool) (a : Option Addr) (n c : Nat) (h : n = 0) (w : World) :
  Calls Tryz.prog 224 #[.agg #[.bool s, .slice a n c]] w fun e w' => e = .returned (.int .i64 0) ∧ Below w.heap.size w w' := by
 have hL0 : GL w w [] := GL.start w
 subst h
 obtain ⟨x1, hweq, hL0⟩ := GL.named (hL0.new rfl [.bool s, .slice a 0 c] 40)
 go_enter Tryz.func224, Tryz.ntmps224
 have hA := hL0.fc
 simp only [zF, Nat.reduceAdd] at hA
 go_wp2_with fail
 exact bodyPost_ret (v := .int .i64 0) (by simp [results, Tryz.results224, go_sem, hA]) rfl ⟨rfl, hL0.bl⟩
theorem rzsign_neg (a : Option Addr) (n c : Nat) (h : 0 < n) (w : World) :
  Calls Tryz.prog 224 #[.agg #[.bool true, .slice a n c]] w fun e w' => e = .returned (.int .i64 (-1)) ∧ Below w.heap.size w w' := by
 have hL0 : GL w w [] := GL.start w
 have f1 : (((n : Nat) : Int) == 0) = false := beq_eq_false_iff_ne.2 (by omega)
 have f2 : decide (n = 0) = false := decide_eq_false (by omega)
 clear h
 obtain ⟨x1, hweq, hL0⟩ := GL.named (hL0.new rfl [.bool true, .slice a n c] 40)
 go_enter Tryz.func224, Tryz.ntmps224
 have hA := hL0.fc
 simp only [zF, Nat.reduceAdd] at hA
 go_wp2_with fail
 exact bodyPost_ret (v := .int .i64 (-1)) (by simp [results, Tryz.results224, go_sem, hA]) rfl ⟨rfl, hL0.bl⟩
theorem rzsign_pos (a : Option Addr) (n c : Nat) (h : 0 < n) (w : World) :
  Calls Tryz.prog 224 #[.agg #[.bool false, .slice a n c]] w fun e w' => e = .returned (.int .i64 1) ∧ Below w.heap.size w w' := by
 have hL0 : GL w w [] := GL.start w
 have f1 : (((n : Nat) : Int) == 0) = false := beq_eq_false_iff_ne.2 (by omega)
 have f2 : decide (n = 0) = false := decide_eq_false (by omega)
 clear h
 obtain ⟨x1, hweq, hL0⟩ := GL.named (hL0.new rfl [.bool false, .slice a n c] 40)
 go_enter Tryz.func224, Tryz.ntmps224
 have hA := hL0.fc
 simp only [zF, Nat.reduceAdd] at hA
 go_wp2_with fail
 exact bodyPost_ret (v := .int .i64 1) (by simp [results, Tryz.results224, go_sem, hA]) rfl ⟨rfl, hL0.bl⟩
end Go.Proofs.YtaimebjkidegiaaGreatDoor
namespace Go.Proofs.YtaimebjkidegiaaGreatDoor
open Go.RowKit Go.Proofs.YtaimebjkidegiaaGreatDoor.Rx
/-- A struct of the reference that stands for an integer. -/
def RZ (w : World) (v : Value) (z : Int) : Prop := ∃ u, v = .agg #[.bool (decide (z < 0)), u] ∧ Rn w u z.natAbs
theorem RZ.below {w w' : World} {v : Value} {z : Int} (h : RZ w v z) (hb : Below w.heap.size w w') : RZ w' v z := by
 obtain ⟨u, h1, h2⟩ := h
 exact ⟨u, h1, Sl.below h2 hb⟩
theorem RZ.of {w : World} {b : Bool} {u : Value} {n : Nat} {z : Int} (h : Rn w u n) (hb : b = decide (z < 0)) (hn : n = z.natAbs) : RZ w (.agg #[.bool b, u]) z := ⟨u, by rw [hb], by rw [← hn]; exact h⟩
theorem rzmulI (vx vy : Value) (x y : Int) (lx : (td x.natAbs).length ≤ 1000000) (ly : (td y.natAbs).length ≤ 1000000) (w : World) (hx : RZ w vx x) (hy : RZ w vy y) :
  Calls Tryz.prog 225 #[vx, vy] w fun e w' => ∃ v, e = .returned v ∧ RZ w' v (x * y) ∧ Below w.heap.size w w' := by
 obtain ⟨va, rfl, ha⟩ := hx
 obtain ⟨vb, rfl, hb⟩ := hy
 refine (rzmul_any _ _ va vb _ _ lx ly w ha hb).mono fun e w' ⟨⟨v, h1, h2⟩, h3⟩ => ⟨_, h1, RZ.of h2 ?_ (Int.natAbs_mul x y).symm, h3⟩
 rcases Int.lt_trichotomy x 0 with h | h | h <;> rcases Int.lt_trichotomy y 0 with g | g | g
 ·have := Int.mul_pos_of_neg_of_neg h g
  rw [decide_eq_true h, decide_eq_true g, decide_eq_false (p := x * y < 0) (by omega)]; rfl
 ·subst g; simp
 ·have := Int.mul_neg_of_neg_of_pos h g
  have hn : x.natAbs * y.natAbs ≠ 0 := Nat.mul_ne_zero (by omega) (by omega)
  rw [decide_eq_true h, decide_eq_false (p := y < 0) (by omega), decide_eq_true this, decide_eq_true hn]; rfl
 ·subst h; simp
 ·subst h; simp
 ·subst h; simp
 ·have := Int.mul_neg_of_pos_of_neg h g
  have hn : x.natAbs * y.natAbs ≠ 0 := Nat.mul_ne_zero (by omega) (by omega)
  rw [decide_eq_false (p := x < 0) (by omega), decide_eq_true g, decide_eq_true this, decide_eq_true hn]; rfl
 ·subst g; simp
 ·have := Int.mul_pos h g
  rw [decide_eq_false (p := x < 0) (by omega), decide_eq_false (p := y < 0) (by omega), decide_eq_false (p := x * y < 0) (by omega)]; rfl
end Go.Proofs.YtaimebjkidegiaaGreatDoor
namespace Go.Proofs.YtaimebjkidegiaaGreatDoor
open Go.RowKit
attribute [local irreducible] lo hs sm s64 c64 d64 b64 mh ml pd pc qd qc val hiB str cmpI srD lz nb isq decB
/-- An integer, by its sign and its absolute value. -/
abbrev zV (s : Bool) (m : Nat) : Value := .agg #[.int .u64 ((lo m : Nat) : Int), .string (hs m), .bool s]
theorem ne0 {d : Nat} (h : d ≠ 0) : (((lo d : Nat) : Int) == 0) = false ∨ ((((lo d : Nat) : Int) == 0) = true ∧ ((hs d).toList == []) = false) := by
 have e := eq_zero (Nat.pos_of_ne_zero h)
 rwa [show ((lo 0 : Nat) : Int) = 0 by rw [lo_small Bs_pos]; rfl, show (hs 0).toList = [] by rw [hs_small Bs_pos, ByteArray.toList_eq]] at e
theorem zV_zero : zV false 0 = .agg #[.int .u64 0, .string ⟨#[]⟩, .bool false] := by unfold zV; rw [lo_small Bs_pos, hs_small Bs_pos]; rfl
theorem from_pos (n : Nat)  (w : World) :
  Calls Tryz.prog 19 #[.bool false, natV n] w fun e w' => e = .returned (zV false n) ∧ Below w.heap.size w w' := by
 have hL0 : GL w w [] := GL.start w
 obtain ⟨x1, hweq, hL0⟩ := GL.named ((hL0.new rfl [.int .u64 ((lo n : Nat) : Int), .string (hs n)] 30).new (K := w.heap.size + 1) (szA _ _) [.int .u64 0, .string ⟨#[]⟩, .bool false] 32)
 go_enter Tryz.func19, Tryz.ntmps19
 have hA := hL0.fc
 simp only [zF, Nat.reduceAdd] at hA
 go_upto_region 1 with fail
 clear hA
 clear hweq
 obtain ⟨α, iα, F, hF1, hF2⟩ := cls x1
 have hq := GL.fcC hF1 hL0
 simp only [zC, Nat.reduceAdd] at hq
 refine region_qs 8 (C := fun w' => ∃ x, w' = F x) (by kernel_rfl) (by kernel_rfl) (cls_drew hF2) ?_
 simp only [zT]
 repeat (go_big_quiet_step (first | fail))
 refine wpQuiet_nil ?_
 rintro wq ⟨xq, rfl⟩
 replace hL0 := hL0.call (hF1 xq)
 clear hq hF2
 generalize F xq = x2 at hL0 ⊢
 clear hF1 xq iα F α
 have hA := hL0.fc
 simp only [zF, Nat.reduceAdd] at hA
 obtain ⟨x3, hput1, hP⟩ := GL.named (hL0.put 0 (w.heap.size + 1) _ rfl [.int .u64 ((lo n : Nat) : Int), .string (hs n), .bool false] rfl)
 simp only [setAll] at hput1
 simp only [List.set_cons_zero, List.set_cons_succ] at hP
 have hB1 := hP.fc
 simp only [zF, Nat.reduceAdd] at hB1
 replace hL0 := hP
 go_wp2_with fail
 exact bodyPost_ret (v := zV false n) (by simp [results, Tryz.results19, go_sem, hB1]) rfl ⟨rfl, hL0.bl⟩
theorem from_zero  (w : World) :
  Calls Tryz.prog 19 #[.bool true, natV 0] w fun e w' => e = .returned (zV false 0) ∧ Below w.heap.size w w' := by
 have hL0 : GL w w [] := GL.start w
 rw [natV_zero]
 obtain ⟨x1, hweq, hL0⟩ := GL.named ((hL0.new rfl [.int .u64 0, .string ⟨#[]⟩] 30).new (K := w.heap.size + 1) (szA _ _) [.int .u64 0, .string ⟨#[]⟩, .bool false] 32)
 go_enter Tryz.func19, Tryz.ntmps19
 have hA := hL0.fc
 simp only [zF, Nat.reduceAdd] at hA
 go_upto_region 1 with fail
 clear hA
 clear hweq
 obtain ⟨α, iα, F, hF1, hF2⟩ := cls x1
 have hq := GL.fcC hF1 hL0
 simp only [zC, Nat.reduceAdd] at hq
 refine region_qs 8 (C := fun w' => ∃ x, w' = F x) (by kernel_rfl) (by kernel_rfl) (cls_drew hF2) ?_
 simp only [zT]
 repeat (go_big_quiet_step (first | fail))
 refine wpQuiet_nil ?_
 rintro wq ⟨xq, rfl⟩
 replace hL0 := hL0.call (hF1 xq)
 clear hq hF2
 generalize F xq = x2 at hL0 ⊢
 clear hF1 xq iα F α
 have hA := hL0.fc
 simp only [zF, Nat.reduceAdd] at hA
 obtain ⟨x3, hput1, hP⟩ := GL.named (hL0.put 0 (w.heap.size + 1) _ rfl [.int .u64 0, .string ⟨#[]⟩, .bool false] rfl)
 simp only [setAll] at hput1
 simp only [List.set_cons_zero, List.set_cons_succ] at hP
 have hB1 := hP.fc
 simp only [zF, Nat.reduceAdd] at hB1
 replace hL0 := hP
 go_wp2_with fail
 exact bodyPost_ret (v := zV false 0) (by rw [zV_zero]; simp [results, Tryz.results19, go_sem, hB1]) rfl ⟨rfl, hL0.bl⟩
theorem from_neg (n : Nat) (hn : n ≠ 0) (w : World) :
  Calls Tryz.prog 19 #[.bool true, natV n] w fun e w' => e = .returned (zV true n) ∧ Below w.heap.size w w' := by
 have hL0 : GL w w [] := GL.start w
 obtain ⟨x1, hweq, hL0⟩ := GL.named ((hL0.new rfl [.int .u64 ((lo n : Nat) : Int), .string (hs n)] 30).new (K := w.heap.size + 1) (szA _ _) [.int .u64 0, .string ⟨#[]⟩, .bool false] 32)
 rcases ne0 hn with e0 | ⟨e0, e1⟩
 all_goals (
  go_enter Tryz.func19, Tryz.ntmps19
  have hA := hL0.fc
  simp only [zF, Nat.reduceAdd] at hA
  go_upto_region 1 with fail
  clear hA
  clear hweq
  obtain ⟨α, iα, F, hF1, hF2⟩ := cls x1
  have hq := GL.fcC hF1 hL0
  simp only [zC, Nat.reduceAdd] at hq
  refine region_qs 8 (C := fun w' => ∃ x, w' = F x) (by kernel_rfl) (by kernel_rfl) (cls_drew hF2) ?_
  simp only [zT]
  repeat (go_big_quiet_step (first | fail))
  refine wpQuiet_nil ?_
  rintro wq ⟨xq, rfl⟩
  replace hL0 := hL0.call (hF1 xq)
  clear hq hF2
  generalize F xq = x2 at hL0 ⊢
  clear hF1 xq iα F α
  have hA := hL0.fc
  simp only [zF, Nat.reduceAdd] at hA
  obtain ⟨x3, hput1, hP⟩ := GL.named (hL0.put 0 (w.heap.size + 1) _ rfl [.int .u64 ((lo n : Nat) : Int), .string (hs n), .bool true] rfl)
  simp only [setAll] at hput1
  simp only [List.set_cons_zero, List.set_cons_succ] at hP
  have hB1 := hP.fc
  simp only [zF, Nat.reduceAdd] at hB1
  replace hL0 := hP
  go_wp2_with fail
  exact bodyPost_ret (v := zV true n) (by simp [results, Tryz.results19, go_sem, hB1]) rfl ⟨rfl, hL0.bl⟩)
theorem from_any (s : Bool) (n : Nat) (w : World) : Calls Tryz.prog 19 #[.bool s, natV n] w fun e w' => e = .returned (zV (s && decide (n ≠ 0)) n) ∧ Below w.heap.size w w' := by
 cases s with
 | false => exact from_pos n w
 | true =>
  by_cases h : n = 0
  ·subst h; exact from_zero w
  ·rw [Bool.true_and, decide_eq_true h]; exact from_neg n h w
theorem abs_any (s : Bool) (m : Nat) (w : World) :
  Calls Tryz.prog 123 #[zV s m] w fun e w' => e = .returned (natV m) ∧ Below w.heap.size w w' := by
 have hL0 : GL w w [] := GL.start w
 obtain ⟨x1, hweq, hL0⟩ := GL.named ((hL0.new rfl [.int .u64 ((lo m : Nat) : Int), .string (hs m), .bool s] 32).new (K := w.heap.size + 1) (szA _ _) [.int .u64 0, .string ⟨#[]⟩] 30)
 go_enter Tryz.func123, Tryz.ntmps123
 have hA := hL0.fc
 simp only [zF, Nat.reduceAdd] at hA
 obtain ⟨x2, hput1, hP⟩ := GL.named (hL0.put 0 (w.heap.size + 1) _ rfl [.int .u64 ((lo m : Nat) : Int), .string (hs m)] rfl)
 simp only [setAll] at hput1
 simp only [List.set_cons_zero, List.set_cons_succ] at hP
 have hB1 := hP.fc
 simp only [zF, Nat.reduceAdd] at hB1
 replace hL0 := hP
 go_wp2_with fail
 exact bodyPost_ret (v := natV m) (by simp [results, Tryz.results123, go_sem, hB1]) rfl ⟨rfl, hL0.bl⟩
theorem sign_neg (m : Nat) (w : World) :
  Calls Tryz.prog 117 #[zV true m] w fun e w' => e = .returned (.int .i64 (-1)) ∧ Below w.heap.size w w' := by
 have hL0 : GL w w [] := GL.start w
 obtain ⟨x1, hweq, hL0⟩ := GL.named (hL0.new rfl [.int .u64 ((lo m : Nat) : Int), .string (hs m), .bool true] 32)
 go_enter Tryz.func117, Tryz.ntmps117
 have hA := hL0.fc
 simp only [zF, Nat.reduceAdd] at hA
 go_wp2_with fail
 exact bodyPost_ret (v := .int .i64 (-1)) (by simp [results, Tryz.results117, go_sem, hA]) rfl ⟨rfl, hL0.bl⟩
theorem sign_zero  (w : World) :
  Calls Tryz.prog 117 #[zV false 0] w fun e w' => e = .returned (.int .i64 0) ∧ Below w.heap.size w w' := by
 have hL0 : GL w w [] := GL.start w
 rw [zV_zero]
 obtain ⟨x1, hweq, hL0⟩ := GL.named (hL0.new rfl [.int .u64 0, .string ⟨#[]⟩, .bool false] 32)
 go_enter Tryz.func117, Tryz.ntmps117
 have hA := hL0.fc
 simp only [zF, Nat.reduceAdd] at hA
 go_wp2_with fail
 exact bodyPost_ret (v := .int .i64 0) (by simp [results, Tryz.results117, go_sem, hA]) rfl ⟨rfl, hL0.bl⟩
theorem sign_pos (m : Nat) (hm : m ≠ 0) (w : World) :
  Calls Tryz.prog 117 #[zV false m] w fun e w' => e = .returned (.int .i64 1) ∧ Below w.heap.size w w' := by
 have hL0 : GL w w [] := GL.start w
 obtain ⟨x1, hweq, hL0⟩ := GL.named (hL0.new rfl [.int .u64 ((lo m : Nat) : Int), .string (hs m), .bool false] 32)
 rcases ne0 hm with e0 | ⟨e0, e1⟩
 all_goals (
  go_enter Tryz.func117, Tryz.ntmps117
  have hA := hL0.fc
  simp only [zF, Nat.reduceAdd] at hA
  go_wp2_with fail
  exact bodyPost_ret (v := .int .i64 1) (by simp [results, Tryz.results117, go_sem, hA]) rfl ⟨rfl, hL0.bl⟩)
theorem neg_true (m : Nat) (w : World) :
  Calls Tryz.prog 121 #[zV true m] w fun e w' => e = .returned (zV false m) ∧ Below w.heap.size w w' := by
 have hL0 : GL w w [] := GL.start w
 have HF := Lib.hid (fun w => from_any false m w)
 simp only [Bool.false_and] at HF
 obtain ⟨x1, hweq, hL0⟩ := GL.named ((hL0.new rfl [.int .u64 ((lo m : Nat) : Int), .string (hs m), .bool true] 32).new (K := w.heap.size + 1) (szA _ _) [.int .u64 0, .string ⟨#[]⟩, .bool false] 32)
 go_enter Tryz.func121, Tryz.ntmps121
 have hA := hL0.fc
 simp only [zF, Nat.reduceAdd] at hA
 go_wp2_with fail
 clear hA
 with_reducible refine Calls.mono (HF.out _) ?_
 rintro e x2 ⟨rfl, hb⟩
 replace hL0 := hL0.call hb
 clear hb hweq
 have hA := hL0.fc
 simp only [zF, Nat.reduceAdd] at hA
 obtain ⟨x3, hput1, hP⟩ := GL.named (hL0.put 0 (w.heap.size + 1) _ rfl [.int .u64 ((lo m : Nat) : Int), .string (hs m), .bool false] rfl)
 simp only [setAll] at hput1
 simp only [List.set_cons_zero, List.set_cons_succ] at hP
 have hB1 := hP.fc
 simp only [zF, Nat.reduceAdd] at hB1
 replace hL0 := hP
 go_wp2_with fail
 exact bodyPost_ret (v := zV false m) (by simp [results, Tryz.results121, go_sem, hB1]) rfl ⟨rfl, hL0.bl⟩
theorem neg_false (m : Nat) (w : World) :
  Calls Tryz.prog 121 #[zV false m] w fun e w' => e = .returned (zV (decide (m ≠ 0)) m) ∧ Below w.heap.size w w' := by
 have hL0 : GL w w [] := GL.start w
 have HF := Lib.hid (fun w => from_any true m w)
 simp only [Bool.true_and] at HF
 obtain ⟨d, hd⟩ : ∃ d, d = decide (m ≠ 0) := ⟨_, rfl⟩
 rw [← hd] at HF ⊢
 clear hd
 obtain ⟨x1, hweq, hL0⟩ := GL.named ((hL0.new rfl [.int .u64 ((lo m : Nat) : Int), .string (hs m), .bool false] 32).new (K := w.heap.size + 1) (szA _ _) [.int .u64 0, .string ⟨#[]⟩, .bool false] 32)
 go_enter Tryz.func121, Tryz.ntmps121
 have hA := hL0.fc
 simp only [zF, Nat.reduceAdd] at hA
 go_wp2_with fail
 clear hA
 with_reducible refine Calls.mono (HF.out _) ?_
 rintro e x2 ⟨rfl, hb⟩
 replace hL0 := hL0.call hb
 clear hb hweq
 have hA := hL0.fc
 simp only [zF, Nat.reduceAdd] at hA
 obtain ⟨x3, hput1, hP⟩ := GL.named (hL0.put 0 (w.heap.size + 1) _ rfl [.int .u64 ((lo m : Nat) : Int), .string (hs m), .bool d] rfl)
 simp only [setAll] at hput1
 simp only [List.set_cons_zero, List.set_cons_succ] at hP
 have hB1 := hP.fc
 simp only [zF, Nat.reduceAdd] at hB1
 replace hL0 := hP
 go_wp2_with fail
 exact bodyPost_ret (v := zV d m) (by simp [results, Tryz.results121, go_sem, hB1]) rfl ⟨rfl, hL0.bl⟩
end Go.Proofs.YtaimebjkidegiaaGreatDoor
namespace Go.Proofs.YtaimebjkidegiaaGreatDoor
open Go.RowKit
attribute [local irreducible] lo hs sm s64 c64 d64 b64 mh ml pd pc qd qc val hiB str cmpI srD lz nb isq decB
theorem ofp_any (m : Nat) (hm : m < 9223372036854775808) (w : World) :
  Calls Tryz.prog 23 #[.int .i64 (m : Int)] w fun e w' => e = .returned (zV false m) ∧ Below w.heap.size w w' := by
 have hL0 : GL w w [] := GL.start w
 have k0 : decide ((m : Int) < 0) = false := decide_eq_false (by omega)
 have hw : IntKind.u64.wrap (m : Int) = (m : Int) := wrapN _ (by omega)
 have HO := Lib.hid (fun w => of_any m (by unfold Bs; omega) w)
 have HF := Lib.hid (fun w => from_pos m w)
 obtain ⟨x1, hweq, hL0⟩ := GL.named (hL0.new rfl [.int .u64 0, .string ⟨#[]⟩, .bool false] 32)
 clear hm
 go_enter Tryz.func23, Tryz.ntmps23
 have hA := hL0.fc
 simp only [zF, Nat.reduceAdd] at hA
 go_wp2_with fail
 clear hA
 with_reducible refine Calls.mono (HO.out _) ?_
 rintro e x2 ⟨rfl, hb⟩
 replace hL0 := hL0.call hb
 clear hb hweq
 have hA := hL0.fc
 simp only [zF, Nat.reduceAdd] at hA
 go_wp2_with fail
 clear hA
 with_reducible refine Calls.mono (HF.out _) ?_
 rintro e x3 ⟨rfl, hb⟩
 replace hL0 := hL0.call hb
 clear hb
 have hA := hL0.fc
 simp only [zF, Nat.reduceAdd] at hA
 obtain ⟨x4, hput1, hP⟩ := GL.named (hL0.put 0 (w.heap.size) _ rfl [.int .u64 ((lo m : Nat) : Int), .string (hs m), .bool false] rfl)
 simp only [setAll] at hput1
 simp only [List.set_cons_zero, List.set_cons_succ] at hP
 have hB1 := hP.fc
 simp only [zF, Nat.reduceAdd] at hB1
 replace hL0 := hP
 go_wp2_with fail
 exact bodyPost_ret (v := zV false m) (by simp [results, Tryz.results23, go_sem, hB1]) rfl ⟨rfl, hL0.bl⟩
theorem ofn_any (z : Int) (m : Nat) (hz : z = -(m : Int)) (h0 : 0 < m) (hm : m ≤ 9223372036854775808) (w : World) :
  Calls Tryz.prog 23 #[.int .i64 z] w fun e w' => e = .returned (zV true m) ∧ Below w.heap.size w w' := by
 have hL0 : GL w w [] := GL.start w
 have k0 : decide (z < 0) = true := decide_eq_true (by omega)
 obtain ⟨q, hq⟩ : ∃ q : Nat, (q : Int) = 18446744073709551616 - m := ⟨(18446744073709551616 - (m : Int)).toNat, by omega⟩
 have hw : IntKind.u64.wrap z = (q : Int) := by rw [IntKind.wrap_u64]; omega
 have hw2 : IntKind.u64.wrap (-(q : Int)) = (m : Int) := by rw [IntKind.wrap_u64]; omega
 have HO := Lib.hid (fun w => of_any m (by unfold Bs; omega) w)
 have HF := Lib.hid (fun w => from_neg m (by omega) w)
 obtain ⟨x1, hweq, hL0⟩ := GL.named (hL0.new rfl [.int .u64 0, .string ⟨#[]⟩, .bool false] 32)
 clear hm h0 hz hq
 go_enter Tryz.func23, Tryz.ntmps23
 have hA := hL0.fc
 simp only [zF, Nat.reduceAdd] at hA
 go_wp2_with fail
 clear hA
 with_reducible refine Calls.mono (HO.out _) ?_
 rintro e x2 ⟨rfl, hb⟩
 replace hL0 := hL0.call hb
 clear hb hweq
 have hA := hL0.fc
 simp only [zF, Nat.reduceAdd] at hA
 go_wp2_with fail
 clear hA
 with_reducible refine Calls.mono (HF.out _) ?_
 rintro e x3 ⟨rfl, hb⟩
 replace hL0 := hL0.call hb
 clear hb
 have hA := hL0.fc
 simp only [zF, Nat.reduceAdd] at hA
 obtain ⟨x4, hput1, hP⟩ := GL.named (hL0.put 0 (w.heap.size) _ rfl [.int .u64 ((lo m : Nat) : Int), .string (hs m), .bool true] rfl)
 simp only [setAll] at hput1
 simp only [List.set_cons_zero, List.set_cons_succ] at hP
 have hB1 := hP.fc
 simp only [zF, Nat.reduceAdd] at hB1
 replace hL0 := hP
 go_wp2_with fail
 exact bodyPost_ret (v := zV true m) (by simp [results, Tryz.results23, go_sem, hB1]) rfl ⟨rfl, hL0.bl⟩
theorem icmp_true_true (m n : Nat) (w : World) :
  Calls Tryz.prog 273 #[zV true m, zV true n] w fun e w' => e = .returned (.int .i64 (cmpI n m)) ∧ Below w.heap.size w w' := by
 have hL0 : GL w w [] := GL.start w
 obtain ⟨x1, hweq, hL0⟩ := GL.named ((hL0.new rfl [.int .u64 ((lo m : Nat) : Int), .string (hs m), .bool true] 32).new (K := w.heap.size + 1) (szA _ _) [.int .u64 ((lo n : Nat) : Int), .string (hs n), .bool true] 32)
 have HC := Lib.hid (fun w => cmp_any n m w)
 go_enter Tryz.func273, Tryz.ntmps273
 have hA := hL0.fc
 simp only [zF, Nat.reduceAdd] at hA
 go_wp2_with fail
 clear hA
 with_reducible refine Calls.mono (HC.out _) ?_
 rintro e x2 ⟨rfl, hb⟩
 replace hL0 := hL0.call hb
 clear hb hweq
 have hA := hL0.fc
 simp only [zF, Nat.reduceAdd] at hA
 go_wp2_with fail
 exact bodyPost_ret (v := .int .i64 (cmpI n m)) (by simp [results, Tryz.results273, go_sem, hA]) rfl ⟨rfl, hL0.bl⟩
theorem icmp_true_false (m n : Nat) (w : World) :
  Calls Tryz.prog 273 #[zV true m, zV false n] w fun e w' => e = .returned (.int .i64 (-1)) ∧ Below w.heap.size w w' := by
 have hL0 : GL w w [] := GL.start w
 obtain ⟨x1, hweq, hL0⟩ := GL.named ((hL0.new rfl [.int .u64 ((lo m : Nat) : Int), .string (hs m), .bool true] 32).new (K := w.heap.size + 1) (szA _ _) [.int .u64 ((lo n : Nat) : Int), .string (hs n), .bool false] 32)
 go_enter Tryz.func273, Tryz.ntmps273
 have hA := hL0.fc
 simp only [zF, Nat.reduceAdd] at hA
 go_wp2_with fail
 exact bodyPost_ret (v := .int .i64 (-1)) (by simp [results, Tryz.results273, go_sem, hA]) rfl ⟨rfl, hL0.bl⟩
theorem icmp_false_true (m n : Nat) (w : World) :
  Calls Tryz.prog 273 #[zV false m, zV true n] w fun e w' => e = .returned (.int .i64 (1)) ∧ Below w.heap.size w w' := by
 have hL0 : GL w w [] := GL.start w
 obtain ⟨x1, hweq, hL0⟩ := GL.named ((hL0.new rfl [.int .u64 ((lo m : Nat) : Int), .string (hs m), .bool false] 32).new (K := w.heap.size + 1) (szA _ _) [.int .u64 ((lo n : Nat) : Int), .string (hs n), .bool true] 32)
 go_enter Tryz.func273, Tryz.ntmps273
 have hA := hL0.fc
 simp only [zF, Nat.reduceAdd] at hA
 go_wp2_with fail
 exact bodyPost_ret (v := .int .i64 (1)) (by simp [results, Tryz.results273, go_sem, hA]) rfl ⟨rfl, hL0.bl⟩
theorem icmp_false_false (m n : Nat) (w : World) :
  Calls Tryz.prog 273 #[zV false m, zV false n] w fun e w' => e = .returned (.int .i64 (cmpI m n)) ∧ Below w.heap.size w w' := by
 have hL0 : GL w w [] := GL.start w
 obtain ⟨x1, hweq, hL0⟩ := GL.named ((hL0.new rfl [.int .u64 ((lo m : Nat) : Int), .string (hs m), .bool false] 32).new (K := w.heap.size + 1) (szA _ _) [.int .u64 ((lo n : Nat) : Int), .string (hs n), .bool false] 32)
 have HC := Lib.hid (fun w => cmp_any m n w)
 go_enter Tryz.func273, Tryz.ntmps273
 have hA := hL0.fc
 simp only [zF, Nat.reduceAdd] at hA
 go_wp2_with fail
 clear hA
 with_reducible refine Calls.mono (HC.out _) ?_
 rintro e x2 ⟨rfl, hb⟩
 replace hL0 := hL0.call hb
 clear hb hweq
 have hA := hL0.fc
 simp only [zF, Nat.reduceAdd] at hA
 go_wp2_with fail
 exact bodyPost_ret (v := .int .i64 (cmpI m n)) (by simp [results, Tryz.results273, go_sem, hA]) rfl ⟨rfl, hL0.bl⟩
theorem imul_true_true (m n : Nat) (hm : (digs m).length ≤ 1000000000) (hn : (digs n).length ≤ 1000000000) (w : World) :
  Calls Tryz.prog 141 #[zV true m, zV true n] w fun e w' => e = .returned (zV false (m * n)) ∧ Below w.heap.size w w' := by
 have hL0 : GL w w [] := GL.start w
 have HM := Lib.hid (fun w => mul_any m n (by omega) (by omega) w)
 generalize m * n = p at *
 have HF := Lib.hid (fun w => from_any false p w)
 simp only [Bool.false_and] at HF
 clear hm hn
 obtain ⟨x1, hweq, hL0⟩ := GL.named (((hL0.new rfl [.int .u64 ((lo m : Nat) : Int), .string (hs m), .bool true] 32).new (K := w.heap.size + 1) (szA _ _) [.int .u64 ((lo n : Nat) : Int), .string (hs n), .bool true] 32).new (K := w.heap.size + 1 + 1) (by simp only [World.size_alloc]) [.int .u64 0, .string ⟨#[]⟩, .bool false] 32)
 go_enter Tryz.func141, Tryz.ntmps141
 have hA := hL0.fc
 simp only [zF, Nat.reduceAdd] at hA
 go_upto_region 1 with fail
 clear hA
 clear hweq
 obtain ⟨α, iα, F, hF1, hF2⟩ := cls x1
 have hq := GL.fcC hF1 hL0
 simp only [zC, Nat.reduceAdd] at hq
 refine region_qs 11 (C := fun w' => ∃ x, w' = F x) (by kernel_rfl) (by kernel_rfl) (cls_drew hF2) ?_
 simp only [zT]
 repeat (go_big_quiet_step (first | fail | (go_at_call 120; with_reducible exact cls_call hF1 hF2 HM.out _) | (go_at_call 19; with_reducible exact cls_call hF1 hF2 HF.out _)))
 refine wpQuiet_nil ?_
 rintro wq ⟨xq, rfl⟩
 replace hL0 := hL0.call (hF1 xq)
 clear hq hF2
 generalize F xq = x2 at hL0 ⊢
 clear hF1 xq iα F α
 have hA := hL0.fc
 simp only [zF, Nat.reduceAdd] at hA
 obtain ⟨x3, hput1, hP⟩ := GL.named (hL0.put 0 (w.heap.size + 1 + 1) _ rfl [.int .u64 ((lo p : Nat) : Int), .string (hs p), .bool false] rfl)
 simp only [setAll] at hput1
 simp only [List.set_cons_zero, List.set_cons_succ] at hP
 have hB1 := hP.fc
 simp only [zF, Nat.reduceAdd] at hB1
 replace hL0 := hP
 go_wp2_with fail
 exact bodyPost_ret (v := zV false p) (by simp [results, Tryz.results141, go_sem, hB1]) rfl ⟨rfl, hL0.bl⟩
theorem imul_true_false (m n : Nat) (hm : (digs m).length ≤ 1000000000) (hn : (digs n).length ≤ 1000000000) (w : World) :
  Calls Tryz.prog 141 #[zV true m, zV false n] w fun e w' => e = .returned (zV (decide (m * n ≠ 0)) (m * n)) ∧ Below w.heap.size w w' := by
 have hL0 : GL w w [] := GL.start w
 have HM := Lib.hid (fun w => mul_any m n (by omega) (by omega) w)
 generalize m * n = p at *
 have HF := Lib.hid (fun w => from_any true p w)
 simp only [Bool.true_and] at HF
 obtain ⟨d, hd⟩ : ∃ d, d = decide (p ≠ 0) := ⟨_, rfl⟩
 rw [← hd] at HF ⊢
 clear hd
 clear hm hn
 obtain ⟨x1, hweq, hL0⟩ := GL.named (((hL0.new rfl [.int .u64 ((lo m : Nat) : Int), .string (hs m), .bool true] 32).new (K := w.heap.size + 1) (szA _ _) [.int .u64 ((lo n : Nat) : Int), .string (hs n), .bool false] 32).new (K := w.heap.size + 1 + 1) (by simp only [World.size_alloc]) [.int .u64 0, .string ⟨#[]⟩, .bool false] 32)
 go_enter Tryz.func141, Tryz.ntmps141
 have hA := hL0.fc
 simp only [zF, Nat.reduceAdd] at hA
 go_upto_region 1 with fail
 clear hA
 clear hweq
 obtain ⟨α, iα, F, hF1, hF2⟩ := cls x1
 have hq := GL.fcC hF1 hL0
 simp only [zC, Nat.reduceAdd] at hq
 refine region_qs 11 (C := fun w' => ∃ x, w' = F x) (by kernel_rfl) (by kernel_rfl) (cls_drew hF2) ?_
 simp only [zT]
 repeat (go_big_quiet_step (first | fail | (go_at_call 120; with_reducible exact cls_call hF1 hF2 HM.out _) | (go_at_call 19; with_reducible exact cls_call hF1 hF2 HF.out _)))
 refine wpQuiet_nil ?_
 rintro wq ⟨xq, rfl⟩
 replace hL0 := hL0.call (hF1 xq)
 clear hq hF2
 generalize F xq = x2 at hL0 ⊢
 clear hF1 xq iα F α
 have hA := hL0.fc
 simp only [zF, Nat.reduceAdd] at hA
 obtain ⟨x3, hput1, hP⟩ := GL.named (hL0.put 0 (w.heap.size + 1 + 1) _ rfl [.int .u64 ((lo p : Nat) : Int), .string (hs p), .bool d] rfl)
 simp only [setAll] at hput1
 simp only [List.set_cons_zero, List.set_cons_succ] at hP
 have hB1 := hP.fc
 simp only [zF, Nat.reduceAdd] at hB1
 replace hL0 := hP
 go_wp2_with fail
 exact bodyPost_ret (v := zV d p) (by simp [results, Tryz.results141, go_sem, hB1]) rfl ⟨rfl, hL0.bl⟩
theorem imul_false_true (m n : Nat) (hm : (digs m).length ≤ 1000000000) (hn : (digs n).length ≤ 1000000000) (w : World) :
  Calls Tryz.prog 141 #[zV false m, zV true n] w fun e w' => e = .returned (zV (decide (m * n ≠ 0)) (m * n)) ∧ Below w.heap.size w w' := by
 have hL0 : GL w w [] := GL.start w
 have HM := Lib.hid (fun w => mul_any m n (by omega) (by omega) w)
 generalize m * n = p at *
 have HF := Lib.hid (fun w => from_any true p w)
 simp only [Bool.true_and] at HF
 obtain ⟨d, hd⟩ : ∃ d, d = decide (p ≠ 0) := ⟨_, rfl⟩
 rw [← hd] at HF ⊢
 clear hd
 clear hm hn
 obtain ⟨x1, hweq, hL0⟩ := GL.named (((hL0.new rfl [.int .u64 ((lo m : Nat) : Int), .string (hs m), .bool false] 32).new (K := w.heap.size + 1) (szA _ _) [.int .u64 ((lo n : Nat) : Int), .string (hs n), .bool true] 32).new (K := w.heap.size + 1 + 1) (by simp only [World.size_alloc]) [.int .u64 0, .string ⟨#[]⟩, .bool false] 32)
 go_enter Tryz.func141, Tryz.ntmps141
 have hA := hL0.fc
 simp only [zF, Nat.reduceAdd] at hA
 go_upto_region 1 with fail
 clear hA
 clear hweq
 obtain ⟨α, iα, F, hF1, hF2⟩ := cls x1
 have hq := GL.fcC hF1 hL0
 simp only [zC, Nat.reduceAdd] at hq
 refine region_qs 11 (C := fun w' => ∃ x, w' = F x) (by kernel_rfl) (by kernel_rfl) (cls_drew hF2) ?_
 simp only [zT]
 repeat (go_big_quiet_step (first | fail | (go_at_call 120; with_reducible exact cls_call hF1 hF2 HM.out _) | (go_at_call 19; with_reducible exact cls_call hF1 hF2 HF.out _)))
 refine wpQuiet_nil ?_
 rintro wq ⟨xq, rfl⟩
 replace hL0 := hL0.call (hF1 xq)
 clear hq hF2
 generalize F xq = x2 at hL0 ⊢
 clear hF1 xq iα F α
 have hA := hL0.fc
 simp only [zF, Nat.reduceAdd] at hA
 obtain ⟨x3, hput1, hP⟩ := GL.named (hL0.put 0 (w.heap.size + 1 + 1) _ rfl [.int .u64 ((lo p : Nat) : Int), .string (hs p), .bool d] rfl)
 simp only [setAll] at hput1
 simp only [List.set_cons_zero, List.set_cons_succ] at hP
 have hB1 := hP.fc
 simp only [zF, Nat.reduceAdd] at hB1
 replace hL0 := hP
 go_wp2_with fail
 exact bodyPost_ret (v := zV d p) (by simp [results, Tryz.results141, go_sem, hB1]) rfl ⟨rfl, hL0.bl⟩
theorem imul_false_false (m n : Nat) (hm : (digs m).length ≤ 1000000000) (hn : (digs n).length ≤ 1000000000) (w : World) :
  Calls Tryz.prog 141 #[zV false m, zV false n] w fun e w' => e = .returned (zV false (m * n)) ∧ Below w.heap.size w w' := by
 have hL0 : GL w w [] := GL.start w
 have HM := Lib.hid (fun w => mul_any m n (by omega) (by omega) w)
 generalize m * n = p at *
 have HF := Lib.hid (fun w => from_any false p w)
 simp only [Bool.false_and] at HF
 clear hm hn
 obtain ⟨x1, hweq, hL0⟩ := GL.named (((hL0.new rfl [.int .u64 ((lo m : Nat) : Int), .string (hs m), .bool false] 32).new (K := w.heap.size + 1) (szA _ _) [.int .u64 ((lo n : Nat) : Int), .string (hs n), .bool false] 32).new (K := w.heap.size + 1 + 1) (by simp only [World.size_alloc]) [.int .u64 0, .string ⟨#[]⟩, .bool false] 32)
 go_enter Tryz.func141, Tryz.ntmps141
 have hA := hL0.fc
 simp only [zF, Nat.reduceAdd] at hA
 go_upto_region 1 with fail
 clear hA
 clear hweq
 obtain ⟨α, iα, F, hF1, hF2⟩ := cls x1
 have hq := GL.fcC hF1 hL0
 simp only [zC, Nat.reduceAdd] at hq
 refine region_qs 11 (C := fun w' => ∃ x, w' = F x) (by kernel_rfl) (by kernel_rfl) (cls_drew hF2) ?_
 simp only [zT]
 repeat (go_big_quiet_step (first | fail | (go_at_call 120; with_reducible exact cls_call hF1 hF2 HM.out _) | (go_at_call 19; with_reducible exact cls_call hF1 hF2 HF.out _)))
 refine wpQuiet_nil ?_
 rintro wq ⟨xq, rfl⟩
 replace hL0 := hL0.call (hF1 xq)
 clear hq hF2
 generalize F xq = x2 at hL0 ⊢
 clear hF1 xq iα F α
 have hA := hL0.fc
 simp only [zF, Nat.reduceAdd] at hA
 obtain ⟨x3, hput1, hP⟩ := GL.named (hL0.put 0 (w.heap.size + 1 + 1) _ rfl [.int .u64 ((lo p : Nat) : Int), .string (hs p), .bool false] rfl)
 simp only [setAll] at hput1
 simp only [List.set_cons_zero, List.set_cons_succ] at hP
 have hB1 := hP.fc
 simp only [zF, Nat.reduceAdd] at hB1
 replace hL0 := hP
 go_wp2_with fail
 exact bodyPost_ret (v := zV false p) (by simp [results, Tryz.results141, go_sem, hB1]) rfl ⟨rfl, hL0.bl⟩
end Go.Proofs.YtaimebjkidegiaaGreatDoor
namespace Go.Proofs.YtaimebjkidegiaaGreatDoor
open Go.RowKit
attribute [local irreducible] lo hs sm s64 c64 d64 b64 mh ml pd pc qd qc val hiB str cmpI srD lz nb isq decB
theorem out_true (m n : Nat) (hm : (digs m).length ≤ 1000000000) (hn : (digs n).length ≤ 1000000000) (w : World) :
  Calls Tryz.prog 68 #[zV true m, natV n] w fun e w' => e = .returned (zV (decide (m + n ≠ 0)) (m + n)) ∧ Below w.heap.size w w' := by
 have hL0 : GL w w [] := GL.start w
 have HA := Lib.hid (fun w => add_any m n (by omega) (by omega) w)
 generalize m + n = p at *
 have HF := Lib.hid (fun w => from_any true p w)
 simp only [Bool.true_and] at HF
 obtain ⟨d, hd⟩ : ∃ d, d = decide (p ≠ 0) := ⟨_, rfl⟩
 rw [← hd] at HF ⊢
 clear hd
 clear hm hn
 obtain ⟨x1, hweq, hL0⟩ := GL.named (((hL0.new rfl [.int .u64 ((lo m : Nat) : Int), .string (hs m), .bool true] 32).new (K := w.heap.size + 1) (szA _ _) [.int .u64 ((lo n : Nat) : Int), .string (hs n)] 30).new (K := w.heap.size + 1 + 1) (by simp only [World.size_alloc]) [.int .u64 0, .string ⟨#[]⟩, .bool false] 32)
 go_enter Tryz.func68, Tryz.ntmps68
 have hA := hL0.fc
 simp only [zF, Nat.reduceAdd] at hA
 go_upto_region 1 with fail
 clear hA
 clear hweq
 obtain ⟨α, iα, F, hF1, hF2⟩ := cls x1
 have hq := GL.fcC hF1 hL0
 simp only [zC, Nat.reduceAdd] at hq
 refine region_qs 7 (C := fun w' => ∃ x, w' = F x) (by kernel_rfl) (by kernel_rfl) (cls_drew hF2) ?_
 simp only [zT]
 repeat (go_big_quiet_step (first | fail | (go_at_call 71; with_reducible exact cls_call hF1 hF2 HA.out _) | (go_at_call 19; with_reducible exact cls_call hF1 hF2 HF.out _)))
 refine wpQuiet_nil ?_
 rintro wq ⟨xq, rfl⟩
 replace hL0 := hL0.call (hF1 xq)
 clear hq hF2
 generalize F xq = x2 at hL0 ⊢
 clear hF1 xq iα F α
 have hA := hL0.fc
 simp only [zF, Nat.reduceAdd] at hA
 obtain ⟨x3, hput1, hP⟩ := GL.named (hL0.put 0 (w.heap.size + 1 + 1) _ rfl [.int .u64 ((lo p : Nat) : Int), .string (hs p), .bool d] rfl)
 simp only [setAll] at hput1
 simp only [List.set_cons_zero, List.set_cons_succ] at hP
 have hB1 := hP.fc
 simp only [zF, Nat.reduceAdd] at hB1
 replace hL0 := hP
 go_wp2_with fail
 exact bodyPost_ret (v := zV d p) (by simp [results, Tryz.results68, go_sem, hB1]) rfl ⟨rfl, hL0.bl⟩
theorem out_false (m n : Nat) (hm : (digs m).length ≤ 1000000000) (hn : (digs n).length ≤ 1000000000) (w : World) :
  Calls Tryz.prog 68 #[zV false m, natV n] w fun e w' => e = .returned (zV false (m + n)) ∧ Below w.heap.size w w' := by
 have hL0 : GL w w [] := GL.start w
 have HA := Lib.hid (fun w => add_any m n (by omega) (by omega) w)
 generalize m + n = p at *
 have HF := Lib.hid (fun w => from_any false p w)
 simp only [Bool.false_and] at HF
 clear hm hn
 obtain ⟨x1, hweq, hL0⟩ := GL.named (((hL0.new rfl [.int .u64 ((lo m : Nat) : Int), .string (hs m), .bool false] 32).new (K := w.heap.size + 1) (szA _ _) [.int .u64 ((lo n : Nat) : Int), .string (hs n)] 30).new (K := w.heap.size + 1 + 1) (by simp only [World.size_alloc]) [.int .u64 0, .string ⟨#[]⟩, .bool false] 32)
 go_enter Tryz.func68, Tryz.ntmps68
 have hA := hL0.fc
 simp only [zF, Nat.reduceAdd] at hA
 go_upto_region 1 with fail
 clear hA
 clear hweq
 obtain ⟨α, iα, F, hF1, hF2⟩ := cls x1
 have hq := GL.fcC hF1 hL0
 simp only [zC, Nat.reduceAdd] at hq
 refine region_qs 7 (C := fun w' => ∃ x, w' = F x) (by kernel_rfl) (by kernel_rfl) (cls_drew hF2) ?_
 simp only [zT]
 repeat (go_big_quiet_step (first | fail | (go_at_call 71; with_reducible exact cls_call hF1 hF2 HA.out _) | (go_at_call 19; with_reducible exact cls_call hF1 hF2 HF.out _)))
 refine wpQuiet_nil ?_
 rintro wq ⟨xq, rfl⟩
 replace hL0 := hL0.call (hF1 xq)
 clear hq hF2
 generalize F xq = x2 at hL0 ⊢
 clear hF1 xq iα F α
 have hA := hL0.fc
 simp only [zF, Nat.reduceAdd] at hA
 obtain ⟨x3, hput1, hP⟩ := GL.named (hL0.put 0 (w.heap.size + 1 + 1) _ rfl [.int .u64 ((lo p : Nat) : Int), .string (hs p), .bool false] rfl)
 simp only [setAll] at hput1
 simp only [List.set_cons_zero, List.set_cons_succ] at hP
 have hB1 := hP.fc
 simp only [zF, Nat.reduceAdd] at hB1
 replace hL0 := hP
 go_wp2_with fail
 exact bodyPost_ret (v := zV false p) (by simp [results, Tryz.results68, go_sem, hB1]) rfl ⟨rfl, hL0.bl⟩
theorem in_true_ge (m n : Nat) (h : n ≤ m) (hm : (digs m).length ≤ 1000000000) (hn : (digs n).length ≤ 1000000000) (w : World) :
  Calls Tryz.prog 69 #[zV true m, natV n] w fun e w' => e = .returned (zV (decide (m - n ≠ 0)) (m - n)) ∧ Below w.heap.size w w' := by
 have hL0 : GL w w [] := GL.start w
 have HS := Lib.hid (fun w => sub_ge m n h (by omega) w)
 generalize m - n = p at *
 have HF := Lib.hid (fun w => from_any true p w)
 simp only [Bool.true_and] at HF
 obtain ⟨d, hd⟩ : ∃ d, d = decide (p ≠ 0) := ⟨_, rfl⟩
 rw [← hd] at HF ⊢
 clear hd
 clear hm hn h
 obtain ⟨x1, hweq, hL0⟩ := GL.named (((hL0.new rfl [.int .u64 ((lo m : Nat) : Int), .string (hs m), .bool true] 32).new (K := w.heap.size + 1) (szA _ _) [.int .u64 ((lo n : Nat) : Int), .string (hs n)] 30).new (K := w.heap.size + 1 + 1) (by simp only [World.size_alloc]) [.int .u64 0, .string ⟨#[]⟩, .bool false] 32)
 go_enter Tryz.func69, Tryz.ntmps69
 have hA := hL0.fc
 simp only [zF, Nat.reduceAdd] at hA
 go_wp2_with fail
 clear hA
 with_reducible refine Calls.mono (HS.out _) ?_
 rintro e x2 ⟨rfl, hb⟩
 replace hL0 := hL0.call hb
 clear hb hweq
 obtain ⟨x3, hweq, hL0⟩ := GL.named (hL0.new rfl [.int .u64 ((lo p : Nat) : Int), .string (hs p)] 30)
 have hA := hL0.fc
 simp only [zF, Nat.reduceAdd] at hA
 go_wp2_with fail
 clear hA
 with_reducible refine Calls.mono (HF.out _) ?_
 rintro e x4 ⟨rfl, hb⟩
 replace hL0 := hL0.call hb
 clear hb hweq
 have hA := hL0.fc
 simp only [zF, Nat.reduceAdd] at hA
 obtain ⟨x5, hput1, hP⟩ := GL.named (hL0.put 1 (w.heap.size + 1 + 1) _ rfl [.int .u64 ((lo p : Nat) : Int), .string (hs p), .bool d] rfl)
 simp only [setAll] at hput1
 simp only [List.set_cons_zero, List.set_cons_succ] at hP
 have hB1 := hP.fc
 simp only [zF, Nat.reduceAdd] at hB1
 replace hL0 := hP
 go_wp2_with fail
 exact bodyPost_ret (v := zV d p) (by simp [results, Tryz.results69, go_sem, hB1]) rfl ⟨rfl, hL0.bl⟩
theorem in_true_lt (m n : Nat) (h : m < n) (hm : (digs m).length ≤ 1000000000) (hn : (digs n).length ≤ 1000000000) (w : World) :
  Calls Tryz.prog 69 #[zV true m, natV n] w fun e w' => e = .returned (zV false (n - m)) ∧ Below w.heap.size w w' := by
 have hL0 : GL w w [] := GL.start w
 have HS := Lib.hid (fun w => sub_lt m n h w)
 have HT := Lib.hid (fun w => sub_ge n m (by omega) (by omega) w)
 generalize n - m = p at *
 have HF := Lib.hid (fun w => from_any false p w)
 simp only [Bool.false_and] at HF
 clear hm hn h
 obtain ⟨x1, hweq, hL0⟩ := GL.named (((hL0.new rfl [.int .u64 ((lo m : Nat) : Int), .string (hs m), .bool true] 32).new (K := w.heap.size + 1) (szA _ _) [.int .u64 ((lo n : Nat) : Int), .string (hs n)] 30).new (K := w.heap.size + 1 + 1) (by simp only [World.size_alloc]) [.int .u64 0, .string ⟨#[]⟩, .bool false] 32)
 go_enter Tryz.func69, Tryz.ntmps69
 have hA := hL0.fc
 simp only [zF, Nat.reduceAdd] at hA
 go_wp2_with fail
 clear hA
 with_reducible refine Calls.mono (HS.out _) ?_
 rintro e x2 ⟨rfl, hb⟩
 replace hL0 := hL0.call hb
 clear hb hweq
 obtain ⟨x3, hweq, hL0⟩ := GL.named (hL0.new rfl [.int .u64 ((lo 0 : Nat) : Int), .string (hs 0)] 30)
 have hA := hL0.fc
 simp only [zF, Nat.reduceAdd] at hA
 go_wp2_with fail
 clear hA
 with_reducible refine Calls.mono (HT.out _) ?_
 rintro e x4 ⟨rfl, hb⟩
 replace hL0 := hL0.call hb
 clear hb hweq
 obtain ⟨x5, hweq, hL0⟩ := GL.named (hL0.new rfl [.int .u64 ((lo p : Nat) : Int), .string (hs p)] 30)
 have hA := hL0.fc
 simp only [zF, Nat.reduceAdd] at hA
 go_wp2_with fail
 clear hA
 with_reducible refine Calls.mono (HF.out _) ?_
 rintro e x6 ⟨rfl, hb⟩
 replace hL0 := hL0.call hb
 clear hb hweq
 have hA := hL0.fc
 simp only [zF, Nat.reduceAdd] at hA
 obtain ⟨x7, hput1, hP⟩ := GL.named (hL0.put 2 (w.heap.size + 1 + 1) _ rfl [.int .u64 ((lo p : Nat) : Int), .string (hs p), .bool false] rfl)
 simp only [setAll] at hput1
 simp only [List.set_cons_zero, List.set_cons_succ] at hP
 have hB1 := hP.fc
 simp only [zF, Nat.reduceAdd] at hB1
 replace hL0 := hP
 go_wp2_with fail
 exact bodyPost_ret (v := zV false p) (by simp [results, Tryz.results69, go_sem, hB1]) rfl ⟨rfl, hL0.bl⟩
theorem in_false_ge (m n : Nat) (h : n ≤ m) (hm : (digs m).length ≤ 1000000000) (hn : (digs n).length ≤ 1000000000) (w : World) :
  Calls Tryz.prog 69 #[zV false m, natV n] w fun e w' => e = .returned (zV false (m - n)) ∧ Below w.heap.size w w' := by
 have hL0 : GL w w [] := GL.start w
 have HS := Lib.hid (fun w => sub_ge m n h (by omega) w)
 generalize m - n = p at *
 have HF := Lib.hid (fun w => from_any false p w)
 simp only [Bool.false_and] at HF
 clear hm hn h
 obtain ⟨x1, hweq, hL0⟩ := GL.named (((hL0.new rfl [.int .u64 ((lo m : Nat) : Int), .string (hs m), .bool false] 32).new (K := w.heap.size + 1) (szA _ _) [.int .u64 ((lo n : Nat) : Int), .string (hs n)] 30).new (K := w.heap.size + 1 + 1) (by simp only [World.size_alloc]) [.int .u64 0, .string ⟨#[]⟩, .bool false] 32)
 go_enter Tryz.func69, Tryz.ntmps69
 have hA := hL0.fc
 simp only [zF, Nat.reduceAdd] at hA
 go_wp2_with fail
 clear hA
 with_reducible refine Calls.mono (HS.out _) ?_
 rintro e x2 ⟨rfl, hb⟩
 replace hL0 := hL0.call hb
 clear hb hweq
 obtain ⟨x3, hweq, hL0⟩ := GL.named (hL0.new rfl [.int .u64 ((lo p : Nat) : Int), .string (hs p)] 30)
 have hA := hL0.fc
 simp only [zF, Nat.reduceAdd] at hA
 go_wp2_with fail
 clear hA
 with_reducible refine Calls.mono (HF.out _) ?_
 rintro e x4 ⟨rfl, hb⟩
 replace hL0 := hL0.call hb
 clear hb hweq
 have hA := hL0.fc
 simp only [zF, Nat.reduceAdd] at hA
 obtain ⟨x5, hput1, hP⟩ := GL.named (hL0.put 1 (w.heap.size + 1 + 1) _ rfl [.int .u64 ((lo p : Nat) : Int), .string (hs p), .bool false] rfl)
 simp only [setAll] at hput1
 simp only [List.set_cons_zero, List.set_cons_succ] at hP
 have hB1 := hP.fc
 simp only [zF, Nat.reduceAdd] at hB1
 replace hL0 := hP
 go_wp2_with fail
 exact bodyPost_ret (v := zV false p) (by simp [results, Tryz.results69, go_sem, hB1]) rfl ⟨rfl, hL0.bl⟩
theorem in_false_lt (m n : Nat) (h : m < n) (hm : (digs m).length ≤ 1000000000) (hn : (digs n).length ≤ 1000000000) (w : World) :
  Calls Tryz.prog 69 #[zV false m, natV n] w fun e w' => e = .returned (zV (decide (n - m ≠ 0)) (n - m)) ∧ Below w.heap.size w w' := by
 have hL0 : GL w w [] := GL.start w
 have HS := Lib.hid (fun w => sub_lt m n h w)
 have HT := Lib.hid (fun w => sub_ge n m (by omega) (by omega) w)
 generalize n - m = p at *
 have HF := Lib.hid (fun w => from_any true p w)
 simp only [Bool.true_and] at HF
 obtain ⟨d, hd⟩ : ∃ d, d = decide (p ≠ 0) := ⟨_, rfl⟩
 rw [← hd] at HF ⊢
 clear hd
 clear hm hn h
 obtain ⟨x1, hweq, hL0⟩ := GL.named (((hL0.new rfl [.int .u64 ((lo m : Nat) : Int), .string (hs m), .bool false] 32).new (K := w.heap.size + 1) (szA _ _) [.int .u64 ((lo n : Nat) : Int), .string (hs n)] 30).new (K := w.heap.size + 1 + 1) (by simp only [World.size_alloc]) [.int .u64 0, .string ⟨#[]⟩, .bool false] 32)
 go_enter Tryz.func69, Tryz.ntmps69
 have hA := hL0.fc
 simp only [zF, Nat.reduceAdd] at hA
 go_wp2_with fail
 clear hA
 with_reducible refine Calls.mono (HS.out _) ?_
 rintro e x2 ⟨rfl, hb⟩
 replace hL0 := hL0.call hb
 clear hb hweq
 obtain ⟨x3, hweq, hL0⟩ := GL.named (hL0.new rfl [.int .u64 ((lo 0 : Nat) : Int), .string (hs 0)] 30)
 have hA := hL0.fc
 simp only [zF, Nat.reduceAdd] at hA
 go_wp2_with fail
 clear hA
 with_reducible refine Calls.mono (HT.out _) ?_
 rintro e x4 ⟨rfl, hb⟩
 replace hL0 := hL0.call hb
 clear hb hweq
 obtain ⟨x5, hweq, hL0⟩ := GL.named (hL0.new rfl [.int .u64 ((lo p : Nat) : Int), .string (hs p)] 30)
 have hA := hL0.fc
 simp only [zF, Nat.reduceAdd] at hA
 go_wp2_with fail
 clear hA
 with_reducible refine Calls.mono (HF.out _) ?_
 rintro e x6 ⟨rfl, hb⟩
 replace hL0 := hL0.call hb
 clear hb hweq
 have hA := hL0.fc
 simp only [zF, Nat.reduceAdd] at hA
 obtain ⟨x7, hput1, hP⟩ := GL.named (hL0.put 2 (w.heap.size + 1 + 1) _ rfl [.int .u64 ((lo p : Nat) : Int), .string (hs p), .bool d] rfl)
 simp only [setAll] at hput1
 simp only [List.set_cons_zero, List.set_cons_succ] at hP
 have hB1 := hP.fc
 simp only [zF, Nat.reduceAdd] at hB1
 replace hL0 := hP
 go_wp2_with fail
 exact bodyPost_ret (v := zV d p) (by simp [results, Tryz.results69, go_sem, hB1]) rfl ⟨rfl, hL0.bl⟩
theorem bysub_true_true (m n k : Nat) (u : Bool) (H : ∀ w, Calls Tryz.prog 69 #[zV true m, natV n] w fun e w' => e = .returned (zV u k) ∧ Below w.heap.size w w') (w : World) :
  Calls Tryz.prog 67 #[zV true m, zV true n, .func (.func 69) #[] #[], .func (.func 68) #[] #[]] w fun e w' => e = .returned (zV u k) ∧ Below w.heap.size w w' := by
 have hL0 : GL w w [] := GL.start w
 replace H := Lib.hid H
 obtain ⟨x1, hweq, hL0⟩ := GL.named (((hL0.new rfl [.int .u64 ((lo m : Nat) : Int), .string (hs m), .bool true] 32).new (K := w.heap.size + 1) (szA _ _) [.int .u64 ((lo n : Nat) : Int), .string (hs n), .bool true] 32).new (K := w.heap.size + 1 + 1) (by simp only [World.size_alloc]) [.int .u64 0, .string ⟨#[]⟩, .bool false] 32)
 go_enter Tryz.func67, Tryz.ntmps67
 have hA := hL0.fc
 simp only [zF, Nat.reduceAdd] at hA
 go_wp2_with fail
 clear hA
 with_reducible refine Calls.mono (H.out _) ?_
 rintro e x2 ⟨rfl, hb⟩
 replace hL0 := hL0.call hb
 clear hb hweq
 have hA := hL0.fc
 simp only [zF, Nat.reduceAdd] at hA
 obtain ⟨x3, hput1, hP⟩ := GL.named (hL0.put 0 (w.heap.size + 1 + 1) _ rfl [.int .u64 ((lo k : Nat) : Int), .string (hs k), .bool u] rfl)
 simp only [setAll] at hput1
 simp only [List.set_cons_zero, List.set_cons_succ] at hP
 have hB1 := hP.fc
 simp only [zF, Nat.reduceAdd] at hB1
 replace hL0 := hP
 go_wp2_with fail
 exact bodyPost_ret (v := zV u k) (by simp [results, Tryz.results67, go_sem, hB1]) rfl ⟨rfl, hL0.bl⟩
theorem bysub_true_false (m n k : Nat) (u : Bool) (H : ∀ w, Calls Tryz.prog 68 #[zV true m, natV n] w fun e w' => e = .returned (zV u k) ∧ Below w.heap.size w w') (w : World) :
  Calls Tryz.prog 67 #[zV true m, zV false n, .func (.func 69) #[] #[], .func (.func 68) #[] #[]] w fun e w' => e = .returned (zV u k) ∧ Below w.heap.size w w' := by
 have hL0 : GL w w [] := GL.start w
 replace H := Lib.hid H
 obtain ⟨x1, hweq, hL0⟩ := GL.named (((hL0.new rfl [.int .u64 ((lo m : Nat) : Int), .string (hs m), .bool true] 32).new (K := w.heap.size + 1) (szA _ _) [.int .u64 ((lo n : Nat) : Int), .string (hs n), .bool false] 32).new (K := w.heap.size + 1 + 1) (by simp only [World.size_alloc]) [.int .u64 0, .string ⟨#[]⟩, .bool false] 32)
 go_enter Tryz.func67, Tryz.ntmps67
 have hA := hL0.fc
 simp only [zF, Nat.reduceAdd] at hA
 go_wp2_with fail
 clear hA
 with_reducible refine Calls.mono (H.out _) ?_
 rintro e x2 ⟨rfl, hb⟩
 replace hL0 := hL0.call hb
 clear hb hweq
 have hA := hL0.fc
 simp only [zF, Nat.reduceAdd] at hA
 obtain ⟨x3, hput1, hP⟩ := GL.named (hL0.put 0 (w.heap.size + 1 + 1) _ rfl [.int .u64 ((lo k : Nat) : Int), .string (hs k), .bool u] rfl)
 simp only [setAll] at hput1
 simp only [List.set_cons_zero, List.set_cons_succ] at hP
 have hB1 := hP.fc
 simp only [zF, Nat.reduceAdd] at hB1
 replace hL0 := hP
 go_wp2_with fail
 exact bodyPost_ret (v := zV u k) (by simp [results, Tryz.results67, go_sem, hB1]) rfl ⟨rfl, hL0.bl⟩
theorem bysub_false_true (m n k : Nat) (u : Bool) (H : ∀ w, Calls Tryz.prog 68 #[zV false m, natV n] w fun e w' => e = .returned (zV u k) ∧ Below w.heap.size w w') (w : World) :
  Calls Tryz.prog 67 #[zV false m, zV true n, .func (.func 69) #[] #[], .func (.func 68) #[] #[]] w fun e w' => e = .returned (zV u k) ∧ Below w.heap.size w w' := by
 have hL0 : GL w w [] := GL.start w
 replace H := Lib.hid H
 obtain ⟨x1, hweq, hL0⟩ := GL.named (((hL0.new rfl [.int .u64 ((lo m : Nat) : Int), .string (hs m), .bool false] 32).new (K := w.heap.size + 1) (szA _ _) [.int .u64 ((lo n : Nat) : Int), .string (hs n), .bool true] 32).new (K := w.heap.size + 1 + 1) (by simp only [World.size_alloc]) [.int .u64 0, .string ⟨#[]⟩, .bool false] 32)
 go_enter Tryz.func67, Tryz.ntmps67
 have hA := hL0.fc
 simp only [zF, Nat.reduceAdd] at hA
 go_wp2_with fail
 clear hA
 with_reducible refine Calls.mono (H.out _) ?_
 rintro e x2 ⟨rfl, hb⟩
 replace hL0 := hL0.call hb
 clear hb hweq
 have hA := hL0.fc
 simp only [zF, Nat.reduceAdd] at hA
 obtain ⟨x3, hput1, hP⟩ := GL.named (hL0.put 0 (w.heap.size + 1 + 1) _ rfl [.int .u64 ((lo k : Nat) : Int), .string (hs k), .bool u] rfl)
 simp only [setAll] at hput1
 simp only [List.set_cons_zero, List.set_cons_succ] at hP
 have hB1 := hP.fc
 simp only [zF, Nat.reduceAdd] at hB1
 replace hL0 := hP
 go_wp2_with fail
 exact bodyPost_ret (v := zV u k) (by simp [results, Tryz.results67, go_sem, hB1]) rfl ⟨rfl, hL0.bl⟩
theorem bysub_false_false (m n k : Nat) (u : Bool) (H : ∀ w, Calls Tryz.prog 69 #[zV false m, natV n] w fun e w' => e = .returned (zV u k) ∧ Below w.heap.size w w') (w : World) :
  Calls Tryz.prog 67 #[zV false m, zV false n, .func (.func 69) #[] #[], .func (.func 68) #[] #[]] w fun e w' => e = .returned (zV u k) ∧ Below w.heap.size w w' := by
 have hL0 : GL w w [] := GL.start w
 replace H := Lib.hid H
 obtain ⟨x1, hweq, hL0⟩ := GL.named (((hL0.new rfl [.int .u64 ((lo m : Nat) : Int), .string (hs m), .bool false] 32).new (K := w.heap.size + 1) (szA _ _) [.int .u64 ((lo n : Nat) : Int), .string (hs n), .bool false] 32).new (K := w.heap.size + 1 + 1) (by simp only [World.size_alloc]) [.int .u64 0, .string ⟨#[]⟩, .bool false] 32)
 go_enter Tryz.func67, Tryz.ntmps67
 have hA := hL0.fc
 simp only [zF, Nat.reduceAdd] at hA
 go_wp2_with fail
 clear hA
 with_reducible refine Calls.mono (H.out _) ?_
 rintro e x2 ⟨rfl, hb⟩
 replace hL0 := hL0.call hb
 clear hb hweq
 have hA := hL0.fc
 simp only [zF, Nat.reduceAdd] at hA
 obtain ⟨x3, hput1, hP⟩ := GL.named (hL0.put 0 (w.heap.size + 1 + 1) _ rfl [.int .u64 ((lo k : Nat) : Int), .string (hs k), .bool u] rfl)
 simp only [setAll] at hput1
 simp only [List.set_cons_zero, List.set_cons_succ] at hP
 have hB1 := hP.fc
 simp only [zF, Nat.reduceAdd] at hB1
 replace hL0 := hP
 go_wp2_with fail
 exact bodyPost_ret (v := zV u k) (by simp [results, Tryz.results67, go_sem, hB1]) rfl ⟨rfl, hL0.bl⟩
theorem isub (s t u : Bool) (m n k : Nat) (H : ∀ w, Calls Tryz.prog 67 #[zV s m, zV t n, .func (.func 69) #[] #[], .func (.func 68) #[] #[]] w fun e w' => e = .returned (zV u k) ∧ Below w.heap.size w w') (w : World) :
  Calls Tryz.prog 146 #[zV s m, zV t n] w fun e w' => e = .returned (zV u k) ∧ Below w.heap.size w w' := by
 have hL0 : GL w w [] := GL.start w
 replace H := Lib.hid H
 obtain ⟨x1, hweq, hL0⟩ := GL.named (((hL0.new rfl [.int .u64 ((lo m : Nat) : Int), .string (hs m), .bool s] 32).new (K := w.heap.size + 1) (szA _ _) [.int .u64 ((lo n : Nat) : Int), .string (hs n), .bool t] 32).new (K := w.heap.size + 1 + 1) (by simp only [World.size_alloc]) [.int .u64 0, .string ⟨#[]⟩, .bool false] 32)
 go_enter Tryz.func146, Tryz.ntmps146
 have hA := hL0.fc
 simp only [zF, Nat.reduceAdd] at hA
 go_wp2_with fail
 clear hA
 with_reducible refine Calls.mono (H.out _) ?_
 rintro e x2 ⟨rfl, hb⟩
 replace hL0 := hL0.call hb
 clear hb hweq
 have hA := hL0.fc
 simp only [zF, Nat.reduceAdd] at hA
 obtain ⟨x3, hput1, hP⟩ := GL.named (hL0.put 0 (w.heap.size + 1 + 1) _ rfl [.int .u64 ((lo k : Nat) : Int), .string (hs k), .bool u] rfl)
 simp only [setAll] at hput1
 simp only [List.set_cons_zero, List.set_cons_succ] at hP
 have hB1 := hP.fc
 simp only [zF, Nat.reduceAdd] at hB1
 replace hL0 := hP
 go_wp2_with fail
 exact bodyPost_ret (v := zV u k) (by simp [results, Tryz.results146, go_sem, hB1]) rfl ⟨rfl, hL0.bl⟩
end Go.Proofs.YtaimebjkidegiaaGreatDoor
namespace Go.Proofs.YtaimebjkidegiaaGreatDoor
open Go.RowKit
attribute [local irreducible] lo hs sm s64 c64 d64 b64 mh ml pd pc qd qc val hiB str cmpI srD lz nb isq decB
theorem idiv_true_true_1 (m n : Nat) (h0 : n ≠ 0) (hr : m % n = 0) (hm : (digs m).length ≤ 1000000000) (hn : (digs n).length ≤ 1000000000) (w : World) :
  Calls Tryz.prog 21 #[zV true m, zV true n] w fun e w' => e = .returned (.tuple #[zV false (m / n), zV false (0), .bool true]) ∧ Below w.heap.size w w' := by
 have hL0 : GL w w [] := GL.start w
 have HD := Lib.hid (fun w => div_pos m n (by omega) (by omega) w)
 have hlq : (digs (m / n)).length ≤ 1000000000 := Nat.le_trans (digs_mono (Nat.div_le_self m n)) hm
 have hrn : m % n < n := Nat.mod_lt _ (by omega)
 generalize m / n = q at *
 rw [hr] at HD
 clear hr hrn
 have e0 : (((lo 0 : Nat) : Int) == 0) = true := by rw [lo_small Bs_pos]; rfl
 have e1 : ((hs 0).toList == []) = true := by rw [hs_small Bs_pos, ByteArray.toList_eq]; rfl
 have HF := Lib.hid (fun w => from_any false q w)
 simp only [Bool.false_and] at HF
 have HG := Lib.hid (fun w => from_pos 0 w)
 clear hm hn h0 hlq
 obtain ⟨x1, hweq, hL0⟩ := GL.named ((((hL0.new rfl [.int .u64 ((lo m : Nat) : Int), .string (hs m), .bool true] 32).new (K := w.heap.size + 1) (szA _ _) [.int .u64 ((lo n : Nat) : Int), .string (hs n), .bool true] 32).new (K := w.heap.size + 1 + 1) (by simp only [World.size_alloc]) [.int .u64 0, .string ⟨#[]⟩, .bool false] 32).new (K := w.heap.size + 1 + 1 + 1) (by simp only [World.size_alloc]) [.int .u64 0, .string ⟨#[]⟩, .bool false] 32)
 go_enter Tryz.func21, Tryz.ntmps21
 have hA := hL0.fc
 simp only [zF, Nat.reduceAdd] at hA
 go_wp2_with fail
 clear hA
 with_reducible refine Calls.mono (HD.out _) ?_
 rintro e x2 ⟨rfl, hb⟩
 replace hL0 := hL0.call hb
 clear hb hweq
 obtain ⟨x3, hweq, hL0⟩ := GL.named ((hL0.new rfl [.int .u64 ((lo q : Nat) : Int), .string (hs q)] 30).new (K := x2.heap.size + 1) (szA _ _) [.int .u64 ((lo 0 : Nat) : Int), .string (hs 0)] 30)
 have hA := hL0.fc
 simp only [zF, Nat.reduceAdd] at hA
 go_upto_region 7 with fail
 clear hA
 clear hweq
 obtain ⟨α, iα, F, hF1, hF2⟩ := cls x3
 have hq := GL.fcC hF1 hL0
 simp only [zC, Nat.reduceAdd] at hq
 refine region_qs 9 (C := fun w' => ∃ x, w' = F x) (by kernel_rfl) (by kernel_rfl) (cls_drew hF2) ?_
 simp only [zT]
 repeat (go_big_quiet_step (first | fail | (go_at_call 19; with_reducible exact cls_call hF1 hF2 HF.out _) | (go_at_call 19; with_reducible exact cls_call hF1 hF2 HG.out _)))
 refine wpQuiet_nil ?_
 rintro wq ⟨xq, rfl⟩
 replace hL0 := hL0.call (hF1 xq)
 clear hq hF2
 generalize F xq = x4 at hL0 ⊢
 clear hF1 xq iα F α
 have hA := hL0.fc
 simp only [zF, Nat.reduceAdd] at hA
 obtain ⟨x5, hput1, hP⟩ := GL.named (hL0.put 3 (w.heap.size + 1 + 1) _ rfl [.int .u64 ((lo q : Nat) : Int), .string (hs q), .bool false] rfl)
 simp only [setAll] at hput1
 simp only [List.set_cons_zero, List.set_cons_succ] at hP
 have hB1 := hP.fc
 simp only [zF, Nat.reduceAdd] at hB1
 replace hL0 := hP
 obtain ⟨x6, hput2, hP⟩ := GL.named (hL0.put 2 (w.heap.size + 1 + 1 + 1) _ rfl [.int .u64 ((lo 0 : Nat) : Int), .string (hs 0), .bool false] rfl)
 simp only [setAll] at hput2
 simp only [List.set_cons_zero, List.set_cons_succ] at hP
 have hB2 := hP.fc
 simp only [zF, Nat.reduceAdd] at hB2
 replace hL0 := hP
 go_wp2_with fail
 exact bodyPost_ret (v := .tuple #[zV false q, zV false 0, .bool true]) (by simp [results, Tryz.results21, go_sem, hB2]) rfl ⟨rfl, hL0.bl⟩
theorem idiv_true_true_2 (m n : Nat) (h0 : n ≠ 0) (hr : m % n ≠ 0) (hm : (digs m).length ≤ 1000000000) (hn : (digs n).length ≤ 1000000000) (w : World) :
  Calls Tryz.prog 21 #[zV true m, zV true n] w fun e w' => e = .returned (.tuple #[zV false (m / n + 1), zV false (n - m % n), .bool true]) ∧ Below w.heap.size w w' := by
 have hL0 : GL w w [] := GL.start w
 have HD := Lib.hid (fun w => div_pos m n (by omega) (by omega) w)
 have hlq : (digs (m / n)).length ≤ 1000000000 := Nat.le_trans (digs_mono (Nat.div_le_self m n)) hm
 have hrn : m % n < n := Nat.mod_lt _ (by omega)
 generalize m / n = q at *
 generalize m % n = r at *
 have HO := Lib.hid (fun w => of_val 1 1 rfl (by unfold Bs; omega) w)
 have HA := Lib.hid (fun w => add_any q 1 (by omega) (Nat.le_trans (digs_length_iff (k := 1).2 (by unfold Bs; decide)) (by omega)) w)
 have HS := Lib.hid (fun w => sub_ge n r (by omega) (by omega) w)
 generalize q + 1 = q1 at *
 generalize n - r = r1 at *
 have HF := Lib.hid (fun w => from_any false q1 w)
 simp only [Bool.false_and] at HF
 have HG := Lib.hid (fun w => from_pos r1 w)
 rcases ne0 hr with e0 | ⟨e0, e1⟩
 all_goals clear hm hn h0 hlq hrn hr
 all_goals (
  obtain ⟨x1, hweq, hL0⟩ := GL.named ((((hL0.new rfl [.int .u64 ((lo m : Nat) : Int), .string (hs m), .bool true] 32).new (K := w.heap.size + 1) (szA _ _) [.int .u64 ((lo n : Nat) : Int), .string (hs n), .bool true] 32).new (K := w.heap.size + 1 + 1) (by simp only [World.size_alloc]) [.int .u64 0, .string ⟨#[]⟩, .bool false] 32).new (K := w.heap.size + 1 + 1 + 1) (by simp only [World.size_alloc]) [.int .u64 0, .string ⟨#[]⟩, .bool false] 32)
  go_enter Tryz.func21, Tryz.ntmps21
  have hA := hL0.fc
  simp only [zF, Nat.reduceAdd] at hA
  go_wp2_with fail
  clear hA
  with_reducible refine Calls.mono (HD.out _) ?_
  rintro e x2 ⟨rfl, hb⟩
  replace hL0 := hL0.call hb
  clear hb hweq
  obtain ⟨x3, hweq, hL0⟩ := GL.named ((hL0.new rfl [.int .u64 ((lo q : Nat) : Int), .string (hs q)] 30).new (K := x2.heap.size + 1) (szA _ _) [.int .u64 ((lo r : Nat) : Int), .string (hs r)] 30)
  have hA := hL0.fc
  simp only [zF, Nat.reduceAdd] at hA
  go_upto_region 5 with fail
  clear hA
  clear hweq
  obtain ⟨α, iα, F, hF1, hF2⟩ := cls x3
  have hq := GL.fcC hF1 hL0
  simp only [zC, Nat.reduceAdd] at hq
  refine region_qs 3 (C := fun w' => ∃ x, w' = F x) (by kernel_rfl) (by kernel_rfl) (cls_drew hF2) ?_
  simp only [zT]
  repeat (go_big_quiet_step (first | fail | (go_at_call 17; with_reducible exact cls_call hF1 hF2 HO.out _) | (go_at_call 71; with_reducible exact cls_call hF1 hF2 HA.out _)))
  refine wpQuiet_nil ?_
  rintro wq ⟨xq, rfl⟩
  replace hL0 := hL0.call (hF1 xq)
  clear hq hF2
  generalize F xq = x4 at hL0 ⊢
  clear hF1 xq iα F α
  have hA := hL0.fc
  simp only [zF, Nat.reduceAdd] at hA
  obtain ⟨x5, hput1, hP⟩ := GL.named (hL0.put 1 (x2.heap.size) _ rfl [.int .u64 ((lo q1 : Nat) : Int), .string (hs q1)] rfl)
  simp only [setAll] at hput1
  simp only [List.set_cons_zero, List.set_cons_succ] at hP
  have hB1 := hP.fc
  simp only [zF, Nat.reduceAdd] at hB1
  replace hL0 := hP
  go_wp2_with fail
  clear hA
  with_reducible refine Calls.mono (HS.out _) ?_
  rintro e x6 ⟨rfl, hb⟩
  replace hL0 := hL0.call hb
  clear hb hput1 hB1
  have hA := hL0.fc
  simp only [zF, Nat.reduceAdd] at hA
  obtain ⟨x7, hput2, hP⟩ := GL.named (hL0.put 0 (x2.heap.size + 1) _ rfl [.int .u64 ((lo r1 : Nat) : Int), .string (hs r1)] rfl)
  simp only [setAll] at hput2
  simp only [List.set_cons_zero, List.set_cons_succ] at hP
  have hB2 := hP.fc
  simp only [zF, Nat.reduceAdd] at hB2
  replace hL0 := hP
  go_upto_region 7 with fail
  clear hA
  clear hput2 hB2
  obtain ⟨α, iα, F, hF1, hF2⟩ := cls x7
  have hq := GL.fcC hF1 hL0
  simp only [zC, Nat.reduceAdd] at hq
  refine region_qs 9 (C := fun w' => ∃ x, w' = F x) (by kernel_rfl) (by kernel_rfl) (cls_drew hF2) ?_
  simp only [zT]
  repeat (go_big_quiet_step (first | fail | (go_at_call 19; with_reducible exact cls_call hF1 hF2 HF.out _) | (go_at_call 19; with_reducible exact cls_call hF1 hF2 HG.out _)))
  refine wpQuiet_nil ?_
  rintro wq ⟨xq, rfl⟩
  replace hL0 := hL0.call (hF1 xq)
  clear hq hF2
  generalize F xq = x8 at hL0 ⊢
  clear hF1 xq iα F α
  have hA := hL0.fc
  simp only [zF, Nat.reduceAdd] at hA
  obtain ⟨x9, hput3, hP⟩ := GL.named (hL0.put 3 (w.heap.size + 1 + 1) _ rfl [.int .u64 ((lo q1 : Nat) : Int), .string (hs q1), .bool false] rfl)
  simp only [setAll] at hput3
  simp only [List.set_cons_zero, List.set_cons_succ] at hP
  have hB3 := hP.fc
  simp only [zF, Nat.reduceAdd] at hB3
  replace hL0 := hP
  obtain ⟨x10, hput4, hP⟩ := GL.named (hL0.put 2 (w.heap.size + 1 + 1 + 1) _ rfl [.int .u64 ((lo r1 : Nat) : Int), .string (hs r1), .bool false] rfl)
  simp only [setAll] at hput4
  simp only [List.set_cons_zero, List.set_cons_succ] at hP
  have hB4 := hP.fc
  simp only [zF, Nat.reduceAdd] at hB4
  replace hL0 := hP
  go_wp2_with fail
  exact bodyPost_ret (v := .tuple #[zV false q1, zV false r1, .bool true]) (by simp [results, Tryz.results21, go_sem, hB4]) rfl ⟨rfl, hL0.bl⟩)
theorem idiv_true_false_1 (m n : Nat) (h0 : n ≠ 0) (hr : m % n = 0) (hm : (digs m).length ≤ 1000000000) (hn : (digs n).length ≤ 1000000000) (w : World) :
  Calls Tryz.prog 21 #[zV true m, zV false n] w fun e w' => e = .returned (.tuple #[zV (decide (m / n ≠ 0)) (m / n), zV false (0), .bool true]) ∧ Below w.heap.size w w' := by
 have hL0 : GL w w [] := GL.start w
 have HD := Lib.hid (fun w => div_pos m n (by omega) (by omega) w)
 have hlq : (digs (m / n)).length ≤ 1000000000 := Nat.le_trans (digs_mono (Nat.div_le_self m n)) hm
 have hrn : m % n < n := Nat.mod_lt _ (by omega)
 generalize m / n = q at *
 rw [hr] at HD
 clear hr hrn
 have e0 : (((lo 0 : Nat) : Int) == 0) = true := by rw [lo_small Bs_pos]; rfl
 have e1 : ((hs 0).toList == []) = true := by rw [hs_small Bs_pos, ByteArray.toList_eq]; rfl
 have HF := Lib.hid (fun w => from_any true q w)
 simp only [Bool.true_and] at HF
 obtain ⟨d, hd⟩ : ∃ d, d = decide (q ≠ 0) := ⟨_, rfl⟩
 rw [← hd] at HF ⊢
 clear hd
 have HG := Lib.hid (fun w => from_pos 0 w)
 clear hm hn h0 hlq
 obtain ⟨x1, hweq, hL0⟩ := GL.named ((((hL0.new rfl [.int .u64 ((lo m : Nat) : Int), .string (hs m), .bool true] 32).new (K := w.heap.size + 1) (szA _ _) [.int .u64 ((lo n : Nat) : Int), .string (hs n), .bool false] 32).new (K := w.heap.size + 1 + 1) (by simp only [World.size_alloc]) [.int .u64 0, .string ⟨#[]⟩, .bool false] 32).new (K := w.heap.size + 1 + 1 + 1) (by simp only [World.size_alloc]) [.int .u64 0, .string ⟨#[]⟩, .bool false] 32)
 go_enter Tryz.func21, Tryz.ntmps21
 have hA := hL0.fc
 simp only [zF, Nat.reduceAdd] at hA
 go_wp2_with fail
 clear hA
 with_reducible refine Calls.mono (HD.out _) ?_
 rintro e x2 ⟨rfl, hb⟩
 replace hL0 := hL0.call hb
 clear hb hweq
 obtain ⟨x3, hweq, hL0⟩ := GL.named ((hL0.new rfl [.int .u64 ((lo q : Nat) : Int), .string (hs q)] 30).new (K := x2.heap.size + 1) (szA _ _) [.int .u64 ((lo 0 : Nat) : Int), .string (hs 0)] 30)
 have hA := hL0.fc
 simp only [zF, Nat.reduceAdd] at hA
 go_upto_region 7 with fail
 clear hA
 clear hweq
 obtain ⟨α, iα, F, hF1, hF2⟩ := cls x3
 have hq := GL.fcC hF1 hL0
 simp only [zC, Nat.reduceAdd] at hq
 refine region_qs 9 (C := fun w' => ∃ x, w' = F x) (by kernel_rfl) (by kernel_rfl) (cls_drew hF2) ?_
 simp only [zT]
 repeat (go_big_quiet_step (first | fail | (go_at_call 19; with_reducible exact cls_call hF1 hF2 HF.out _) | (go_at_call 19; with_reducible exact cls_call hF1 hF2 HG.out _)))
 refine wpQuiet_nil ?_
 rintro wq ⟨xq, rfl⟩
 replace hL0 := hL0.call (hF1 xq)
 clear hq hF2
 generalize F xq = x4 at hL0 ⊢
 clear hF1 xq iα F α
 have hA := hL0.fc
 simp only [zF, Nat.reduceAdd] at hA
 obtain ⟨x5, hput1, hP⟩ := GL.named (hL0.put 3 (w.heap.size + 1 + 1) _ rfl [.int .u64 ((lo q : Nat) : Int), .string (hs q), .bool d] rfl)
 simp only [setAll] at hput1
 simp only [List.set_cons_zero, List.set_cons_succ] at hP
 have hB1 := hP.fc
 simp only [zF, Nat.reduceAdd] at hB1
 replace hL0 := hP
 obtain ⟨x6, hput2, hP⟩ := GL.named (hL0.put 2 (w.heap.size + 1 + 1 + 1) _ rfl [.int .u64 ((lo 0 : Nat) : Int), .string (hs 0), .bool false] rfl)
 simp only [setAll] at hput2
 simp only [List.set_cons_zero, List.set_cons_succ] at hP
 have hB2 := hP.fc
 simp only [zF, Nat.reduceAdd] at hB2
 replace hL0 := hP
 go_wp2_with fail
 exact bodyPost_ret (v := .tuple #[zV d q, zV false 0, .bool true]) (by simp [results, Tryz.results21, go_sem, hB2]) rfl ⟨rfl, hL0.bl⟩
theorem idiv_true_false_2 (m n : Nat) (h0 : n ≠ 0) (hr : m % n ≠ 0) (hm : (digs m).length ≤ 1000000000) (hn : (digs n).length ≤ 1000000000) (w : World) :
  Calls Tryz.prog 21 #[zV true m, zV false n] w fun e w' => e = .returned (.tuple #[zV (decide (m / n + 1 ≠ 0)) (m / n + 1), zV false (n - m % n), .bool true]) ∧ Below w.heap.size w w' := by
 have hL0 : GL w w [] := GL.start w
 have HD := Lib.hid (fun w => div_pos m n (by omega) (by omega) w)
 have hlq : (digs (m / n)).length ≤ 1000000000 := Nat.le_trans (digs_mono (Nat.div_le_self m n)) hm
 have hrn : m % n < n := Nat.mod_lt _ (by omega)
 generalize m / n = q at *
 generalize m % n = r at *
 have HO := Lib.hid (fun w => of_val 1 1 rfl (by unfold Bs; omega) w)
 have HA := Lib.hid (fun w => add_any q 1 (by omega) (Nat.le_trans (digs_length_iff (k := 1).2 (by unfold Bs; decide)) (by omega)) w)
 have HS := Lib.hid (fun w => sub_ge n r (by omega) (by omega) w)
 generalize q + 1 = q1 at *
 generalize n - r = r1 at *
 have HF := Lib.hid (fun w => from_any true q1 w)
 simp only [Bool.true_and] at HF
 obtain ⟨d, hd⟩ : ∃ d, d = decide (q1 ≠ 0) := ⟨_, rfl⟩
 rw [← hd] at HF ⊢
 clear hd
 have HG := Lib.hid (fun w => from_pos r1 w)
 rcases ne0 hr with e0 | ⟨e0, e1⟩
 all_goals clear hm hn h0 hlq hrn hr
 all_goals (
  obtain ⟨x1, hweq, hL0⟩ := GL.named ((((hL0.new rfl [.int .u64 ((lo m : Nat) : Int), .string (hs m), .bool true] 32).new (K := w.heap.size + 1) (szA _ _) [.int .u64 ((lo n : Nat) : Int), .string (hs n), .bool false] 32).new (K := w.heap.size + 1 + 1) (by simp only [World.size_alloc]) [.int .u64 0, .string ⟨#[]⟩, .bool false] 32).new (K := w.heap.size + 1 + 1 + 1) (by simp only [World.size_alloc]) [.int .u64 0, .string ⟨#[]⟩, .bool false] 32)
  go_enter Tryz.func21, Tryz.ntmps21
  have hA := hL0.fc
  simp only [zF, Nat.reduceAdd] at hA
  go_wp2_with fail
  clear hA
  with_reducible refine Calls.mono (HD.out _) ?_
  rintro e x2 ⟨rfl, hb⟩
  replace hL0 := hL0.call hb
  clear hb hweq
  obtain ⟨x3, hweq, hL0⟩ := GL.named ((hL0.new rfl [.int .u64 ((lo q : Nat) : Int), .string (hs q)] 30).new (K := x2.heap.size + 1) (szA _ _) [.int .u64 ((lo r : Nat) : Int), .string (hs r)] 30)
  have hA := hL0.fc
  simp only [zF, Nat.reduceAdd] at hA
  go_upto_region 5 with fail
  clear hA
  clear hweq
  obtain ⟨α, iα, F, hF1, hF2⟩ := cls x3
  have hq := GL.fcC hF1 hL0
  simp only [zC, Nat.reduceAdd] at hq
  refine region_qs 3 (C := fun w' => ∃ x, w' = F x) (by kernel_rfl) (by kernel_rfl) (cls_drew hF2) ?_
  simp only [zT]
  repeat (go_big_quiet_step (first | fail | (go_at_call 17; with_reducible exact cls_call hF1 hF2 HO.out _) | (go_at_call 71; with_reducible exact cls_call hF1 hF2 HA.out _)))
  refine wpQuiet_nil ?_
  rintro wq ⟨xq, rfl⟩
  replace hL0 := hL0.call (hF1 xq)
  clear hq hF2
  generalize F xq = x4 at hL0 ⊢
  clear hF1 xq iα F α
  have hA := hL0.fc
  simp only [zF, Nat.reduceAdd] at hA
  obtain ⟨x5, hput1, hP⟩ := GL.named (hL0.put 1 (x2.heap.size) _ rfl [.int .u64 ((lo q1 : Nat) : Int), .string (hs q1)] rfl)
  simp only [setAll] at hput1
  simp only [List.set_cons_zero, List.set_cons_succ] at hP
  have hB1 := hP.fc
  simp only [zF, Nat.reduceAdd] at hB1
  replace hL0 := hP
  go_wp2_with fail
  clear hA
  with_reducible refine Calls.mono (HS.out _) ?_
  rintro e x6 ⟨rfl, hb⟩
  replace hL0 := hL0.call hb
  clear hb hput1 hB1
  have hA := hL0.fc
  simp only [zF, Nat.reduceAdd] at hA
  obtain ⟨x7, hput2, hP⟩ := GL.named (hL0.put 0 (x2.heap.size + 1) _ rfl [.int .u64 ((lo r1 : Nat) : Int), .string (hs r1)] rfl)
  simp only [setAll] at hput2
  simp only [List.set_cons_zero, List.set_cons_succ] at hP
  have hB2 := hP.fc
  simp only [zF, Nat.reduceAdd] at hB2
  replace hL0 := hP
  go_upto_region 7 with fail
  clear hA
  clear hput2 hB2
  obtain ⟨α, iα, F, hF1, hF2⟩ := cls x7
  have hq := GL.fcC hF1 hL0
  simp only [zC, Nat.reduceAdd] at hq
  refine region_qs 9 (C := fun w' => ∃ x, w' = F x) (by kernel_rfl) (by kernel_rfl) (cls_drew hF2) ?_
  simp only [zT]
  repeat (go_big_quiet_step (first | fail | (go_at_call 19; with_reducible exact cls_call hF1 hF2 HF.out _) | (go_at_call 19; with_reducible exact cls_call hF1 hF2 HG.out _)))
  refine wpQuiet_nil ?_
  rintro wq ⟨xq, rfl⟩
  replace hL0 := hL0.call (hF1 xq)
  clear hq hF2
  generalize F xq = x8 at hL0 ⊢
  clear hF1 xq iα F α
  have hA := hL0.fc
  simp only [zF, Nat.reduceAdd] at hA
  obtain ⟨x9, hput3, hP⟩ := GL.named (hL0.put 3 (w.heap.size + 1 + 1) _ rfl [.int .u64 ((lo q1 : Nat) : Int), .string (hs q1), .bool d] rfl)
  simp only [setAll] at hput3
  simp only [List.set_cons_zero, List.set_cons_succ] at hP
  have hB3 := hP.fc
  simp only [zF, Nat.reduceAdd] at hB3
  replace hL0 := hP
  obtain ⟨x10, hput4, hP⟩ := GL.named (hL0.put 2 (w.heap.size + 1 + 1 + 1) _ rfl [.int .u64 ((lo r1 : Nat) : Int), .string (hs r1), .bool false] rfl)
  simp only [setAll] at hput4
  simp only [List.set_cons_zero, List.set_cons_succ] at hP
  have hB4 := hP.fc
  simp only [zF, Nat.reduceAdd] at hB4
  replace hL0 := hP
  go_wp2_with fail
  exact bodyPost_ret (v := .tuple #[zV d q1, zV false r1, .bool true]) (by simp [results, Tryz.results21, go_sem, hB4]) rfl ⟨rfl, hL0.bl⟩)
theorem idiv_false_true (m n : Nat) (h0 : n ≠ 0) (hm : (digs m).length ≤ 1000000000) (hn : (digs n).length ≤ 1000000000) (w : World) :
  Calls Tryz.prog 21 #[zV false m, zV true n] w fun e w' => e = .returned (.tuple #[zV (decide (m / n ≠ 0)) (m / n), zV false (m % n), .bool true]) ∧ Below w.heap.size w w' := by
 have hL0 : GL w w [] := GL.start w
 have HD := Lib.hid (fun w => div_pos m n (by omega) (by omega) w)
 have hlq : (digs (m / n)).length ≤ 1000000000 := Nat.le_trans (digs_mono (Nat.div_le_self m n)) hm
 have hrn : m % n < n := Nat.mod_lt _ (by omega)
 generalize m / n = q at *
 generalize m % n = r at *
 have HF := Lib.hid (fun w => from_any true q w)
 simp only [Bool.true_and] at HF
 obtain ⟨d, hd⟩ : ∃ d, d = decide (q ≠ 0) := ⟨_, rfl⟩
 rw [← hd] at HF ⊢
 clear hd
 have HG := Lib.hid (fun w => from_pos r w)
 clear hm hn h0 hlq hrn
 obtain ⟨x1, hweq, hL0⟩ := GL.named ((((hL0.new rfl [.int .u64 ((lo m : Nat) : Int), .string (hs m), .bool false] 32).new (K := w.heap.size + 1) (szA _ _) [.int .u64 ((lo n : Nat) : Int), .string (hs n), .bool true] 32).new (K := w.heap.size + 1 + 1) (by simp only [World.size_alloc]) [.int .u64 0, .string ⟨#[]⟩, .bool false] 32).new (K := w.heap.size + 1 + 1 + 1) (by simp only [World.size_alloc]) [.int .u64 0, .string ⟨#[]⟩, .bool false] 32)
 go_enter Tryz.func21, Tryz.ntmps21
 have hA := hL0.fc
 simp only [zF, Nat.reduceAdd] at hA
 go_wp2_with fail
 clear hA
 with_reducible refine Calls.mono (HD.out _) ?_
 rintro e x2 ⟨rfl, hb⟩
 replace hL0 := hL0.call hb
 clear hb hweq
 obtain ⟨x3, hweq, hL0⟩ := GL.named ((hL0.new rfl [.int .u64 ((lo q : Nat) : Int), .string (hs q)] 30).new (K := x2.heap.size + 1) (szA _ _) [.int .u64 ((lo r : Nat) : Int), .string (hs r)] 30)
 have hA := hL0.fc
 simp only [zF, Nat.reduceAdd] at hA
 go_upto_region 7 with fail
 clear hA
 clear hweq
 obtain ⟨α, iα, F, hF1, hF2⟩ := cls x3
 have hq := GL.fcC hF1 hL0
 simp only [zC, Nat.reduceAdd] at hq
 refine region_qs 9 (C := fun w' => ∃ x, w' = F x) (by kernel_rfl) (by kernel_rfl) (cls_drew hF2) ?_
 simp only [zT]
 repeat (go_big_quiet_step (first | fail | (go_at_call 19; with_reducible exact cls_call hF1 hF2 HF.out _) | (go_at_call 19; with_reducible exact cls_call hF1 hF2 HG.out _)))
 refine wpQuiet_nil ?_
 rintro wq ⟨xq, rfl⟩
 replace hL0 := hL0.call (hF1 xq)
 clear hq hF2
 generalize F xq = x4 at hL0 ⊢
 clear hF1 xq iα F α
 have hA := hL0.fc
 simp only [zF, Nat.reduceAdd] at hA
 obtain ⟨x5, hput1, hP⟩ := GL.named (hL0.put 3 (w.heap.size + 1 + 1) _ rfl [.int .u64 ((lo q : Nat) : Int), .string (hs q), .bool d] rfl)
 simp only [setAll] at hput1
 simp only [List.set_cons_zero, List.set_cons_succ] at hP
 have hB1 := hP.fc
 simp only [zF, Nat.reduceAdd] at hB1
 replace hL0 := hP
 obtain ⟨x6, hput2, hP⟩ := GL.named (hL0.put 2 (w.heap.size + 1 + 1 + 1) _ rfl [.int .u64 ((lo r : Nat) : Int), .string (hs r), .bool false] rfl)
 simp only [setAll] at hput2
 simp only [List.set_cons_zero, List.set_cons_succ] at hP
 have hB2 := hP.fc
 simp only [zF, Nat.reduceAdd] at hB2
 replace hL0 := hP
 go_wp2_with fail
 exact bodyPost_ret (v := .tuple #[zV d q, zV false r, .bool true]) (by simp [results, Tryz.results21, go_sem, hB2]) rfl ⟨rfl, hL0.bl⟩
theorem idiv_false_false (m n : Nat) (h0 : n ≠ 0) (hm : (digs m).length ≤ 1000000000) (hn : (digs n).length ≤ 1000000000) (w : World) :
  Calls Tryz.prog 21 #[zV false m, zV false n] w fun e w' => e = .returned (.tuple #[zV false (m / n), zV false (m % n), .bool true]) ∧ Below w.heap.size w w' := by
 have hL0 : GL w w [] := GL.start w
 have HD := Lib.hid (fun w => div_pos m n (by omega) (by omega) w)
 have hlq : (digs (m / n)).length ≤ 1000000000 := Nat.le_trans (digs_mono (Nat.div_le_self m n)) hm
 have hrn : m % n < n := Nat.mod_lt _ (by omega)
 generalize m / n = q at *
 generalize m % n = r at *
 have HF := Lib.hid (fun w => from_any false q w)
 simp only [Bool.false_and] at HF
 have HG := Lib.hid (fun w => from_pos r w)
 clear hm hn h0 hlq hrn
 obtain ⟨x1, hweq, hL0⟩ := GL.named ((((hL0.new rfl [.int .u64 ((lo m : Nat) : Int), .string (hs m), .bool false] 32).new (K := w.heap.size + 1) (szA _ _) [.int .u64 ((lo n : Nat) : Int), .string (hs n), .bool false] 32).new (K := w.heap.size + 1 + 1) (by simp only [World.size_alloc]) [.int .u64 0, .string ⟨#[]⟩, .bool false] 32).new (K := w.heap.size + 1 + 1 + 1) (by simp only [World.size_alloc]) [.int .u64 0, .string ⟨#[]⟩, .bool false] 32)
 go_enter Tryz.func21, Tryz.ntmps21
 have hA := hL0.fc
 simp only [zF, Nat.reduceAdd] at hA
 go_wp2_with fail
 clear hA
 with_reducible refine Calls.mono (HD.out _) ?_
 rintro e x2 ⟨rfl, hb⟩
 replace hL0 := hL0.call hb
 clear hb hweq
 obtain ⟨x3, hweq, hL0⟩ := GL.named ((hL0.new rfl [.int .u64 ((lo q : Nat) : Int), .string (hs q)] 30).new (K := x2.heap.size + 1) (szA _ _) [.int .u64 ((lo r : Nat) : Int), .string (hs r)] 30)
 have hA := hL0.fc
 simp only [zF, Nat.reduceAdd] at hA
 go_upto_region 7 with fail
 clear hA
 clear hweq
 obtain ⟨α, iα, F, hF1, hF2⟩ := cls x3
 have hq := GL.fcC hF1 hL0
 simp only [zC, Nat.reduceAdd] at hq
 refine region_qs 9 (C := fun w' => ∃ x, w' = F x) (by kernel_rfl) (by kernel_rfl) (cls_drew hF2) ?_
 simp only [zT]
 repeat (go_big_quiet_step (first | fail | (go_at_call 19; with_reducible exact cls_call hF1 hF2 HF.out _) | (go_at_call 19; with_reducible exact cls_call hF1 hF2 HG.out _)))
 refine wpQuiet_nil ?_
 rintro wq ⟨xq, rfl⟩
 replace hL0 := hL0.call (hF1 xq)
 clear hq hF2
 generalize F xq = x4 at hL0 ⊢
 clear hF1 xq iα F α
 have hA := hL0.fc
 simp only [zF, Nat.reduceAdd] at hA
 obtain ⟨x5, hput1, hP⟩ := GL.named (hL0.put 3 (w.heap.size + 1 + 1) _ rfl [.int .u64 ((lo q : Nat) : Int), .string (hs q), .bool false] rfl)
 simp only [setAll] at hput1
 simp only [List.set_cons_zero, List.set_cons_succ] at hP
 have hB1 := hP.fc
 simp only [zF, Nat.reduceAdd] at hB1
 replace hL0 := hP
 obtain ⟨x6, hput2, hP⟩ := GL.named (hL0.put 2 (w.heap.size + 1 + 1 + 1) _ rfl [.int .u64 ((lo r : Nat) : Int), .string (hs r), .bool false] rfl)
 simp only [setAll] at hput2
 simp only [List.set_cons_zero, List.set_cons_succ] at hP
 have hB2 := hP.fc
 simp only [zF, Nat.reduceAdd] at hB2
 replace hL0 := hP
 go_wp2_with fail
 exact bodyPost_ret (v := .tuple #[zV false q, zV false r, .bool true]) (by simp [results, Tryz.results21, go_sem, hB2]) rfl ⟨rfl, hL0.bl⟩
end Go.Proofs.YtaimebjkidegiaaGreatDoor
namespace Go.Proofs.YtaimebjkidegiaaGreatDoor
open Go.RowKit
attribute [local irreducible] lo hs sm s64 c64 d64 b64 mh ml pd pc qd qc val hiB str cmpI srD lz nb isq decB
theorem dec_size {n k : Nat} (hk : 0 < k) (h : (digs n).length ≤ k) : (Lib.decDigits n).length ≤ 20 * k := by
 refine (dec_length_lt (by omega)).2 (Nat.lt_of_lt_of_le (digs_length_iff.1 h) ?_)
 rw [Nat.pow_mul]
 exact Nat.pow_le_pow_left (by unfold Bs; decide) k
theorem txt_small {n k : Nat} (hk : 0 < k) (h : (digs n).length ≤ k) : (txt n).size ≤ 20 * k := dec_size hk h
theorem itext_false (m : Nat) (hm : (digs m).length ≤ 1000000) (w : World) (htab : Tab w) :
  Calls Tryz.prog 143 #[zV false m] w fun e w' => e = .returned (.string (txt m)) ∧ Below w.heap.size w w' := by
 have hL0 : GL w w [] := GL.start w
 have HT := Lib.hid (fun w h => text_any m (by omega) w h)
 clear hm
 obtain ⟨x1, hweq, hL0⟩ := GL.named (hL0.new rfl [.int .u64 ((lo m : Nat) : Int), .string (hs m), .bool false] 32)
 go_enter Tryz.func143, Tryz.ntmps143
 have hA := hL0.fc
 simp only [zF, Nat.reduceAdd] at hA
 go_wp2_with fail
 clear hA
 with_reducible refine Calls.mono (HT.out _ (htab.below hL0.bl)) ?_
 rintro e x2 ⟨rfl, hb⟩
 replace hL0 := hL0.call hb
 clear hb hweq
 have hA := hL0.fc
 simp only [zF, Nat.reduceAdd] at hA
 go_wp2_with fail
 exact bodyPost_ret (v := .string (txt m)) (by simp [results, Tryz.results143, go_sem, hA]) rfl ⟨rfl, hL0.bl⟩
theorem itext_true (m : Nat) (hm : (digs m).length ≤ 1000000) (w : World) (htab : Tab w) :
  Calls Tryz.prog 143 #[zV true m] w fun e w' => e = .returned (.string (ByteArray.mk #[45] ++ txt m)) ∧ Below w.heap.size w w' := by
 have hL0 : GL w w [] := GL.start w
 have HT := Lib.hid (fun w h => text_any m (by omega) w h)
 have hts := txt_small (k := 1000000) (by omega) hm
 clear hm
 generalize txt m = t at *
 have hts2 : ((t.size : Nat) : Int) ≤ 20000000 := by omega
 obtain ⟨x1, hweq, hL0⟩ := GL.named (hL0.new rfl [.int .u64 ((lo m : Nat) : Int), .string (hs m), .bool true] 32)
 go_enter Tryz.func143, Tryz.ntmps143
 have hA := hL0.fc
 simp only [zF, Nat.reduceAdd] at hA
 go_wp2_with fail
 clear hA
 with_reducible refine Calls.mono (HT.out _ (htab.below hL0.bl)) ?_
 rintro e x2 ⟨rfl, hb⟩
 replace hL0 := hL0.call hb
 clear hb hweq
 have hA := hL0.fc
 simp only [zF, Nat.reduceAdd] at hA
 go_wp2_with fail
 exact bodyPost_ret (v := .string (ByteArray.mk #[45] ++ t)) (by simp [results, Tryz.results143, go_sem, hA]) rfl ⟨rfl, hL0.bl⟩
end Go.Proofs.YtaimebjkidegiaaGreatDoor
namespace Go.Proofs.YtaimebjkidegiaaGreatDoor
open Go.RowKit
attribute [local irreducible] lo hs
def zl (z : Int) : Nat := lo z.natAbs
def zh (z : Int) : ByteArray := hs z.natAbs
def zs (z : Int) : Bool := decide (z < 0)
/-- An integer. -/
abbrev intV (z : Int) : Value := .agg #[.int .u64 ((zl z : Nat) : Int), .string (zh z), .bool (zs z)]
theorem intV_zV (z : Int) : intV z = zV (decide (z < 0)) z.natAbs := rfl
theorem res_f {z : Int} {k : Nat} (h : z = (k : Int)) : intV z = zV false k := by subst h; rw [intV_zV, decide_eq_false (by omega), Int.natAbs_natCast]
theorem res_m {z : Int} {k : Nat} (h : z = -(k : Int)) : intV z = zV (decide (k ≠ 0)) k := by
 subst h
 rw [intV_zV, Int.natAbs_neg, Int.natAbs_natCast]
 congr 1
 by_cases h0 : k = 0
 ·subst h0; rfl
 ·rw [decide_eq_true (by omega), decide_eq_true h0]
theorem res_t {z : Int} {k : Nat} (h : z = -(k : Int)) (h0 : k ≠ 0) : intV z = zV true k := by rw [res_m h, decide_eq_true h0]
theorem int_cases (z : Int) : (∃ m : Nat, z = (m : Int) ∧ intV z = zV false m) ∨ (∃ m : Nat, m ≠ 0 ∧ z = -(m : Int) ∧ intV z = zV true m) := by
 rcases Decidable.em (z < 0) with h | h
 ·exact .inr ⟨z.natAbs, by omega, by omega, res_t (by omega) (by omega)⟩
 ·exact .inl ⟨z.natAbs, by omega, res_f (by omega)⟩
/-- The words that an integer's absolute value takes. -/
abbrev dI (z : Int) : Nat := (digs z.natAbs).length
theorem dI_nat (n : Nat) : dI (n : Int) = (digs n).length := by unfold dI; rw [Int.natAbs_natCast]
theorem dI_neg (z : Int) : dI (-z) = dI z := by unfold dI; rw [Int.natAbs_neg]
theorem dI_add {x y : Int} {k : Nat} (hx : dI x ≤ k) (hy : dI y ≤ k) : dI (x + y) ≤ k + 1 :=
 Nat.le_trans (digs_mono (Int.natAbs_add_le x y)) (digs_add_le hx hy)
theorem dI_sub {x y : Int} {k : Nat} (hx : dI x ≤ k) (hy : dI y ≤ k) : dI (x - y) ≤ k + 1 := by
 rw [Int.sub_eq_add_neg]; exact dI_add hx (by rw [dI_neg]; exact hy)
theorem dI_mul {x y : Int} {k m : Nat} (hx : dI x ≤ k) (hy : dI y ≤ m) : dI (x * y) ≤ k + m := by
 unfold dI; rw [Int.natAbs_mul]; exact digs_mul_le hx hy
theorem dI_mono {x y : Int} (h : x.natAbs ≤ y.natAbs) : dI x ≤ dI y := digs_mono h
theorem fromI (s : Bool) (n : Nat) (z : Int) (hz : z = if s then -(n : Int) else (n : Int)) (w : World) : Calls Tryz.prog 19 #[.bool s, natV n] w fun e w' => e = .returned (intV z) ∧ Below w.heap.size w w' := by
 cases s with
 | false => rw [res_f (z := z) (by simpa using hz)]; exact from_pos n w
 | true =>
  rw [res_m (z := z) (by simpa using hz)]
  have := from_any true n w
  rwa [Bool.true_and] at this
theorem ofI (z : Int) (h1 : -9223372036854775808 ≤ z) (h2 : z < 9223372036854775808) (w : World) : Calls Tryz.prog 23 #[.int .i64 z] w fun e w' => e = .returned (intV z) ∧ Below w.heap.size w w' := by
 rcases Decidable.em (z < 0) with h | h
 ·obtain ⟨m, hm⟩ : ∃ m : Nat, z = -(m : Int) := ⟨z.natAbs, by omega⟩
  rw [res_t hm (by omega)]; exact ofn_any z m hm (by omega) (by omega) w
 ·obtain ⟨m, rfl⟩ : ∃ m : Nat, z = (m : Int) := ⟨z.natAbs, by omega⟩
  rw [res_f rfl]; exact ofp_any m (by omega) w
theorem absI (z : Int) (w : World) : Calls Tryz.prog 123 #[intV z] w fun e w' => e = .returned (natV z.natAbs) ∧ Below w.heap.size w w' := abs_any _ _ w
def sgn (z : Int) : Int := if z < 0 then -1 else if z = 0 then 0 else 1
theorem signI (z : Int) (w : World) : Calls Tryz.prog 117 #[intV z] w fun e w' => e = .returned (.int .i64 (sgn z)) ∧ Below w.heap.size w w' := by
 rcases int_cases z with ⟨m, rfl, h⟩ | ⟨m, h0, rfl, h⟩ <;> rw [h]
 ·by_cases h0 : m = 0
  ·subst h0; exact sign_zero w
  ·rw [show sgn (m : Int) = 1 by unfold sgn; rw [if_neg (by omega), if_neg (by omega)]]; exact sign_pos m h0 w
 ·rw [show sgn (-(m : Int)) = -1 by unfold sgn; rw [if_pos (by omega)]]; exact sign_neg m w
theorem negI (z : Int) (w : World) : Calls Tryz.prog 121 #[intV z] w fun e w' => e = .returned (intV (-z)) ∧ Below w.heap.size w w' := by
 rcases int_cases z with ⟨m, rfl, h⟩ | ⟨m, h0, rfl, h⟩ <;> rw [h]
 ·rw [res_m (z := -(m : Int)) rfl]; exact neg_false m w
 ·rw [res_f (z := -(-(m : Int))) (k := m) (by omega)]; exact neg_true m w
def cmpZ (x y : Int) : Int := if x < y then -1 else if x = y then 0 else 1
theorem cmpII (x y : Int) (w : World) : Calls Tryz.prog 273 #[intV x, intV y] w fun e w' => e = .returned (.int .i64 (cmpZ x y)) ∧ Below w.heap.size w w' := by
 rcases int_cases x with ⟨m, rfl, hx⟩ | ⟨m, hm, rfl, hx⟩ <;> rcases int_cases y with ⟨n, rfl, hy⟩ | ⟨n, hn, rfl, hy⟩ <;> rw [hx, hy]
 ·rw [show cmpZ (m : Int) (n : Int) = cmpI m n by unfold cmpZ cmpI; split <;> split <;> (try split) <;> (try split) <;> omega]; exact icmp_false_false m n w
 ·rw [show cmpZ (m : Int) (-(n : Int)) = 1 by unfold cmpZ; rw [if_neg (by omega), if_neg (by omega)]]; exact icmp_false_true m n w
 ·rw [show cmpZ (-(m : Int)) (n : Int) = -1 by unfold cmpZ; rw [if_pos (by omega)]]; exact icmp_true_false m n w
 ·rw [show cmpZ (-(m : Int)) (-(n : Int)) = cmpI n m by unfold cmpZ cmpI; split <;> split <;> (try split) <;> (try split) <;> omega]; exact icmp_true_true m n w
theorem mulI (x y : Int) (hx : dI x ≤ 1000000000) (hy : dI y ≤ 1000000000) (w : World) : Calls Tryz.prog 141 #[intV x, intV y] w fun e w' => e = .returned (intV (x * y)) ∧ Below w.heap.size w w' := by
 rcases int_cases x with ⟨m, rfl, ex⟩ | ⟨m, hm, rfl, ex⟩ <;> rcases int_cases y with ⟨n, rfl, ey⟩ | ⟨n, hn, rfl, ey⟩ <;> rw [ex, ey] <;> simp only [dI_neg, dI_nat] at hx hy
 ·rw [res_f (k := m * n) (by simp)]; exact imul_false_false m n hx hy w
 ·rw [res_m (k := m * n) (by simp [Int.mul_neg])]; exact imul_false_true m n hx hy w
 ·rw [res_m (k := m * n) (by simp [Int.neg_mul])]; exact imul_true_false m n hx hy w
 ·rw [res_f (k := m * n) (by simp [Int.neg_mul, Int.mul_neg])]; exact imul_true_true m n hx hy w
theorem subI (x y : Int) (hx : dI x ≤ 1000000000) (hy : dI y ≤ 1000000000) (w : World) : Calls Tryz.prog 146 #[intV x, intV y] w fun e w' => e = .returned (intV (x - y)) ∧ Below w.heap.size w w' := by
 rcases int_cases x with ⟨m, rfl, ex⟩ | ⟨m, hm, rfl, ex⟩ <;> rcases int_cases y with ⟨n, rfl, ey⟩ | ⟨n, hn, rfl, ey⟩ <;> rw [ex, ey] <;> simp only [dI_neg, dI_nat] at hx hy
 ·rcases Nat.lt_or_ge m n with h | h
  ·rw [res_m (k := n - m) (by omega)]; exact isub _ _ _ m n _ (bysub_false_false m n _ _ (in_false_lt m n h hx hy)) w
  ·rw [res_f (k := m - n) (by omega)]; exact isub _ _ _ m n _ (bysub_false_false m n _ _ (in_false_ge m n h hx hy)) w
 ·rw [res_f (k := m + n) (by omega)]; exact isub _ _ _ m n _ (bysub_false_true m n _ _ (out_false m n hx hy)) w
 ·rw [res_m (k := m + n) (by omega)]; exact isub _ _ _ m n _ (bysub_true_false m n _ _ (out_true m n hx hy)) w
 ·rcases Nat.lt_or_ge m n with h | h
  ·rw [res_f (k := n - m) (by omega)]; exact isub _ _ _ m n _ (bysub_true_true m n _ _ (in_true_lt m n h hx hy)) w
  ·rw [res_m (k := m - n) (by omega)]; exact isub _ _ _ m n _ (bysub_true_true m n _ _ (in_true_ge m n h hx hy)) w
theorem intV_zero : intV 0 = zV false 0 := res_f rfl
theorem ediv_neg_pos {m n : Nat} (h0 : n ≠ 0) (hr : m % n ≠ 0) : -(m : Int) / (n : Int) = -((m / n + 1 : Nat) : Int) ∧ -(m : Int) % (n : Int) = ((n - m % n : Nat) : Int) := by
 have h1 := Nat.div_add_mod m n
 have h2 := Nat.mod_lt m (Nat.pos_of_ne_zero h0)
 refine (Int.ediv_emod_unique (by omega)).2 ⟨?_, by omega, by omega⟩
 have h3 : (m : Int) = (n : Int) * ((m / n : Nat) : Int) + ((m % n : Nat) : Int) := by
  have := congrArg (fun x : Nat => (x : Int)) h1
  simpa using this.symm
 have h4 : (n : Int) * -((m / n + 1 : Nat) : Int) = -((n : Int) * ((m / n : Nat) : Int)) - (n : Int) := by
  rw [Int.mul_neg, Int.natCast_add, Int.mul_add]; omega
 rw [h4]
 generalize (n : Int) * ((m / n : Nat) : Int) = X at *
 omega
theorem ediv_neg_zero {m n : Nat} (h0 : n ≠ 0) (hr : m % n = 0) : -(m : Int) / (n : Int) = -((m / n : Nat) : Int) ∧ -(m : Int) % (n : Int) = 0 := by
 have h1 := Nat.div_add_mod m n
 refine (Int.ediv_emod_unique (by omega)).2 ⟨?_, by omega, by omega⟩
 rw [hr, Nat.add_zero] at h1
 have h3 : (m : Int) = (n : Int) * ((m / n : Nat) : Int) := by
  have := congrArg (fun x : Nat => (x : Int)) h1
  simpa using this.symm
 rw [Int.mul_neg]
 omega
theorem divI (x y : Int) (h0 : y ≠ 0) (hx : dI x ≤ 1000000000) (hy : dI y ≤ 1000000000) (w : World) : Calls Tryz.prog 21 #[intV x, intV y] w fun e w' => e = .returned (.tuple #[intV (x / y), intV (x % y), .bool true]) ∧ Below w.heap.size w w' := by
 rcases int_cases x with ⟨m, rfl, ex⟩ | ⟨m, hm, rfl, ex⟩ <;> rcases int_cases y with ⟨n, rfl, ey⟩ | ⟨n, hn, rfl, ey⟩ <;> rw [ex, ey] <;> simp only [dI_neg, dI_nat] at hx hy
 ·rw [← Int.natCast_ediv, ← Int.natCast_emod, res_f (k := m / n) rfl, res_f (k := m % n) rfl]; exact idiv_false_false m n (by omega) hx hy w
 ·rw [Int.ediv_neg, Int.emod_neg, ← Int.natCast_ediv, ← Int.natCast_emod, res_m (k := m / n) rfl, res_f (k := m % n) rfl]; exact idiv_false_true m n hn hx hy w
 ·by_cases hr : m % n = 0
  ·obtain ⟨e1, e2⟩ := ediv_neg_zero (m := m) (n := n) (by omega) hr
   rw [e1, e2, res_m (k := m / n) rfl, intV_zero]; exact idiv_true_false_1 m n (by omega) hr hx hy w
  ·obtain ⟨e1, e2⟩ := ediv_neg_pos (m := m) (n := n) (by omega) hr
   rw [e1, e2, res_m (k := m / n + 1) rfl, res_f (k := n - m % n) rfl]; exact idiv_true_false_2 m n (by omega) hr hx hy w
 ·rw [Int.ediv_neg, Int.emod_neg]
  by_cases hr : m % n = 0
  ·obtain ⟨e1, e2⟩ := ediv_neg_zero (m := m) (n := n) hn hr
   rw [e1, e2, res_f (k := m / n) (Int.neg_neg _), intV_zero]; exact idiv_true_true_1 m n hn hr hx hy w
  ·obtain ⟨e1, e2⟩ := ediv_neg_pos (m := m) (n := n) hn hr
   rw [e1, e2, res_f (k := m / n + 1) (Int.neg_neg _), res_f (k := n - m % n) rfl]; exact idiv_true_true_2 m n hn hr hx hy w
/-- The decimal form. -/
def ztxt (z : Int) : ByteArray := if z < 0 then ByteArray.mk #[45] ++ txt z.natAbs else txt z.natAbs
theorem textI (z : Int) (hz : dI z ≤ 1000000) (w : World) (htab : Tab w) : Calls Tryz.prog 143 #[intV z] w fun e w' => e = .returned (.string (ztxt z)) ∧ Below w.heap.size w w' := by
 rcases int_cases z with ⟨m, rfl, h⟩ | ⟨m, h0, rfl, h⟩ <;> rw [h] <;> simp only [dI_neg, dI_nat] at hz <;> unfold ztxt
 ·rw [if_neg (by omega), Int.natAbs_natCast]; exact itext_false m hz w htab
 ·rw [if_pos (by omega), Int.natAbs_neg, Int.natAbs_natCast]; exact itext_true m hz w htab
end Go.Proofs.YtaimebjkidegiaaGreatDoor
namespace Go.Proofs.YtaimebjkidegiaaGreatDoor
open Go.RowKit
attribute [local irreducible] lo hs
/-- The document's recursion. -/
def xgcd (a b : Int) : Int × Int × Int :=
 if h : b = 0 then ((a.natAbs : Int), sgn a, 0)
 else let r := xgcd b (a % b); (r.1, r.2.2, r.2.1 - a / b * r.2.2)
termination_by b.natAbs
decreasing_by
 have h1 := Int.emod_lt a h
 have h2 := Int.emod_nonneg a h
 omega
theorem xgcd_zero (a : Int) : xgcd a 0 = ((a.natAbs : Int), sgn a, 0) := by rw [xgcd]; simp
theorem xgcd_step {a b : Int} (h : b ≠ 0) : xgcd a b = ((xgcd b (a % b)).1, (xgcd b (a % b)).2.2, (xgcd b (a % b)).2.1 - a / b * (xgcd b (a % b)).2.2) := by rw [xgcd, dif_neg h]
theorem sgn_mul (a : Int) : sgn a * a = (a.natAbs : Int) := by unfold sgn; split <;> (try split) <;> simp <;> omega
/-- What the rounds keep. -/
structure GI (a b G X N Y : Int) : Prop where
 g : (xgcd a b).1 = (xgcd G N).1
 x : (xgcd a b).2.1 = (xgcd G N).2.1 * X + (xgcd G N).2.2 * Y
 s : (G = a ∧ X = 1 ∧ N = b ∧ Y = 0) ∨ (G = b ∧ X = 0 ∧ Y = 1 ∧ 0 ≤ N ∧ N < b.natAbs) ∨
  (0 < G ∧ 0 ≤ N ∧ N < G ∧ X.natAbs ≤ 3 * b.natAbs ∧ X.natAbs * N.natAbs + Y.natAbs * G.natAbs ≤ 3 * b.natAbs ∧ G ≤ b.natAbs)
theorem GI.start (a b : Int) : GI a b a 1 b 0 := ⟨rfl, by omega, .inl ⟨rfl, rfl, rfl, rfl⟩⟩
theorem GI.next {a b G X N Y : Int} (h : GI a b G X N Y) (hN : N ≠ 0) : GI a b N Y (G % N) (X - G / N * Y) := by
 have e := xgcd_step (a := G) hN
 have n1 := Int.emod_lt G hN
 have n2 := Int.emod_nonneg G hN
 have n3 := Int.mul_ediv_add_emod G N
 refine ⟨by rw [h.g, e], ?_, ?_⟩
 ·rw [h.x, e]
  show (xgcd N (G % N)).2.2 * X + ((xgcd N (G % N)).2.1 - G / N * (xgcd N (G % N)).2.2) * Y = _
  generalize (xgcd N (G % N)).2.1 = p
  generalize (xgcd N (G % N)).2.2 = q
  generalize G / N = c
  grind
 ·rcases h.s with ⟨rfl, rfl, rfl, rfl⟩ | ⟨rfl, rfl, rfl, h1, h2⟩ | ⟨h1, h2, h3, h4, h5, h6⟩
  ·exact .inr (.inl ⟨rfl, rfl, by omega, n2, n1⟩)
  ·refine .inr (.inr ⟨by omega, n2, by omega, by omega, ?_, by omega⟩)
   generalize hr : G % N = r at *
   generalize hq : G / N = q at *
   have e1 : (0 - q * 1).natAbs * N.natAbs = (N * q).natAbs := by rw [Int.natAbs_mul, Nat.mul_comm]; congr 1; omega
   have e2 : N * q = G - r := by omega
   rw [e1, e2]
   rw [show (1 : Int).natAbs = 1 from rfl, Nat.one_mul]
   omega
  ·have y1 : Y.natAbs ≤ 3 * b.natAbs := by
    have : Y.natAbs * 1 ≤ Y.natAbs * G.natAbs := Nat.mul_le_mul_left _ (by omega)
    omega
   refine .inr (.inr ⟨by omega, n2, by omega, y1, ?_, by omega⟩)
   have q0 : 0 ≤ G / N := Int.ediv_nonneg (by omega) (by omega)
   generalize hr : G % N = r at *
   generalize hq : G / N = q at *
   refine Nat.le_trans ?_ h5
   have t1 : (X - q * Y).natAbs ≤ X.natAbs + q.natAbs * Y.natAbs := by
    have := Int.natAbs_sub_le X (q * Y)
    rwa [Int.natAbs_mul] at this
   have t2 := Nat.mul_le_mul_right N.natAbs t1
   have t3 : G.natAbs = N.natAbs * q.natAbs + r.natAbs := by
    have : (N * q).natAbs = N.natAbs * q.natAbs := Int.natAbs_mul _ _
    have h0 : 0 ≤ N * q := Int.mul_nonneg (by omega) q0
    omega
   rw [t3, Nat.mul_add]
   rw [Nat.add_mul] at t2
   have t4 : Y.natAbs * (N.natAbs * q.natAbs) = q.natAbs * Y.natAbs * N.natAbs := by
    rw [Nat.mul_comm q.natAbs, Nat.mul_assoc, Nat.mul_comm q.natAbs]
   omega
theorem GI.bounds {a b G X N Y : Int} (h : GI a b G X N Y) {k : Nat} (ha : dI a ≤ k) (hb : dI b ≤ k) : dI G ≤ k ∧ dI N ≤ k ∧ dI X ≤ k + 1 ∧ (N ≠ 0 → dI Y ≤ k + 1) := by
 have h3 : ∀ z : Int, z.natAbs ≤ 3 * b.natAbs + 1 → dI z ≤ k + 1 := fun z hz => by
  have := digs_length_iff.1 hb
  refine digs_length_iff.2 ?_
  rw [Nat.pow_succ]
  have hB : 16 ≤ Bs := by unfold Bs; omega
  have hp : 0 < Bs ^ k := Nat.pow_pos (by omega)
  have h5 : Bs ^ k * 16 ≤ Bs ^ k * Bs := Nat.mul_le_mul_left _ hB
  generalize Bs ^ k = P at *
  generalize P * Bs = R at *
  omega
 rcases h.s with ⟨rfl, rfl, rfl, rfl⟩ | ⟨rfl, rfl, rfl, h1, h2⟩ | ⟨h1, h2, h3', h4, h5, h6⟩
 ·exact ⟨ha, hb, h3 1 (by omega), fun _ => h3 0 (by omega)⟩
 ·exact ⟨hb, Nat.le_trans (dI_mono (by omega)) hb, h3 0 (by omega), fun _ => h3 1 (by omega)⟩
 ·refine ⟨Nat.le_trans (dI_mono (by omega)) hb, Nat.le_trans (dI_mono (by omega)) hb, h3 X (by omega), fun _ => h3 Y ?_⟩
  have : Y.natAbs * 1 ≤ Y.natAbs * G.natAbs := Nat.mul_le_mul_left _ (by omega)
  omega
theorem GI.last {a b G X Y : Int} (h : GI a b G X 0 Y) : (xgcd a b).1 = sgn G * G ∧ (xgcd a b).2.1 = sgn G * X := by
 refine ⟨by rw [h.g, xgcd_zero, sgn_mul], ?_⟩
 rw [h.x, xgcd_zero]
 show sgn G * X + 0 * Y = _
 omega
end Go.Proofs.YtaimebjkidegiaaGreatDoor
namespace Go.Proofs.YtaimebjkidegiaaGreatDoor
open Go.RowKit Go.Proofs.YtaimebjkidegiaaGreatDoor.Rx
def tln (n : Nat) : Nat := (td n).length
theorem rn_form {w : World} {v : Value} {n : Nat} (h : Rn w v n) : ∃ ao c, v = .slice ao (tln n) c := h.form
theorem rz_form {w : World} {v : Value} {z : Int} (h : RZ w v z) : ∃ ao c, v = .agg #[.bool (zs z), .slice ao (tln z.natAbs) c] := by
 obtain ⟨u, rfl, hu⟩ := h
 obtain ⟨ao, c, rfl⟩ := rn_form hu
 exact ⟨ao, c, rfl⟩
theorem rz_of {w : World} {ao : Option Addr} {c : Nat} {z : Int} (h : Rn w (.slice ao (tln z.natAbs) c) z.natAbs) : RZ w (.agg #[.bool (zs z), .slice ao (tln z.natAbs) c]) z := ⟨_, rfl, h⟩
theorem rz_rn {w : World} {b : Value} {s : Value} {z : Int} (h : RZ w (.agg #[b, s]) z) : Rn w s z.natAbs := by
 obtain ⟨u, h1, hu⟩ := h
 simp only [Value.agg.injEq, Array.mk.injEq, List.cons.injEq, and_true] at h1
 rw [h1.2]; exact hu
/-- The slices of digits that a call has got hold of. -/
def SS (W : World) (S : List (Value × Nat)) : Prop := ∀ p ∈ S, Rn W p.1 p.2
theorem SS.nil (W : World) : SS W [] := fun p hp => by cases hp
theorem SS.call {W W' : World} {S : List (Value × Nat)} (h : SS W S) (hb : Below W.heap.size W W') : SS W' S := fun p hp => Sl.below (h p hp) hb
theorem SS.new {W : World} {S : List (Value × Nat)} (h : SS W S) (o : Obj) : SS (W.alloc o) S := h.call ((Below.refl _ _).alloc (Nat.le_refl _) o)
theorem SS.cons {W : World} {S : List (Value × Nat)} (h : SS W S) {v : Value} {n : Nat} (hv : Rn W v n) : SS W ((v, n) :: S) := fun p hp => by
 rcases List.mem_cons.1 hp with rfl | hp
 ·exact hv
 ·exact h p hp
theorem SS.put {W W' : World} {S : List (Value × Nat)} (h : SS W S) {k : Nat} {c : List Value} (hu : Upd k W W') (hd : Hd W k c) (hc : ∀ v ∈ c, ∀ n, v ≠ .int .i64 n) : SS W' S := fun p hp => sl_upd (h p hp) hu hd hc
theorem SS.drew {W : World} {S : List (Value × Nat)} (h : SS W S) : SS W.drew S := fun p hp => Sl.drew (h p hp)
theorem SS.get {W : World} {S : List (Value × Nat)} (h : SS W S) {v : Value} {n : Nat} (hm : (v, n) ∈ S) : Rn W v n := h _ hm
theorem stays_rn (n : Nat) : Stays (fun u w => Rn w u n) := fun _ _ _ hb h => Sl.below h hb
theorem stays_rz (z : Int) : Stays (fun u w => RZ w u z) := fun _ _ _ hb h => h.below hb
/-- A typed region's properties, in short. -/
abbrev EV (v : Value) : Value → World → Prop := fun u _ => u = v
abbrev PZ (x : Int) : Value → World → Prop := fun u w => RZ w u x
abbrev PN (n : Nat) : Value → World → Prop := fun u w => Rn w u n
theorem LC {l : List Nat} {a : Nat} (h : l.contains a = true) : a ∈ l := List.contains_iff_mem.1 h
theorem GL.named2 {w0 W : World} {L : List (Nat × List Value)} {S : List (Value × Nat)} (h : GL w0 W L) (g : SS W S) : ∃ x, W = x ∧ GL w0 x L ∧ SS x S := ⟨W, rfl, h, g⟩
end Go.Proofs.YtaimebjkidegiaaGreatDoor
namespace Go.Proofs.YtaimebjkidegiaaGreatDoor
open Go.RowKit Go.Proofs.YtaimebjkidegiaaGreatDoor.Rx
def StrRow (w : World) (base : Nat) (v : Value) (n : Nat) (xs : List Value) : Prop :=
 w.ownsRow base 9 1 v n xs ∧ ∀ g, v.ownBlock = some g → ∀ i u, w.cell? ⟨g, i, none⟩ = some u → ∃ s, u = .string s
theorem StrRow.nil (w : World) (base : Nat) : StrRow w base (.slice none 0 0) 0 [] := ⟨World.ownsRow_nil _ _ _ _, fun g h => by cases h⟩
theorem str_cells {w : World} {g : Nat} {cs : Array Value} {t : TypeId} {fr : Nat × Nat} (hb : w.heap[g]? = some (.cells cs t fr)) (hs : ∀ u ∈ cs.toList, ∃ s, u = Value.string s) (i : Nat) (u : Value) (h : w.cell? ⟨g, i, none⟩ = some u) : ∃ s, u = .string s := by
 have h2 : cs[i]? = some u := by simpa [World.cell?, hb] using h
 exact hs u (by simpa using List.mem_of_getElem? (l := cs.toList) (by simpa using h2))
theorem str_zero (k : Nat) (u : Value) (h : u ∈ (Builtin.zeroCells (Value.string ⟨#[]⟩).cells k).toList) : ∃ s, u = Value.string s := by
 simp only [Builtin.zeroCells, Array.toList_map, List.mem_map] at h
 obtain ⟨j, _, rfl⟩ := h
 refine ⟨⟨#[]⟩, ?_⟩
 have : j % (Value.string ⟨#[]⟩).cells.size = 0 := by show j % 1 = 0; omega
 rw [this]; rfl
theorem infoStr : (Tryz.prog.info? 9).map (fun i => (i.zero, i.size, i.bytes)) = some (some (.string ⟨#[]⟩), 1, 16) := by kernel_rfl
theorem run_append_str (w : World) (base : Nat) (ty : TypeId) (v : Value) (n : Nat) (xs : List Value) (hown : StrRow w base v n xs)
  (a : Addr) (c : Nat) (s : ByteArray) (hnews : w.cell? a = some (.string s)) (h63 : n + 1 ≤ 1000000) (hbase : base ≤ w.heap.size) :
  ∃ v' w', (Builtin.append_ #[117, 117] ty #[v, .slice (some a) 1 c]).run Tryz.prog w = .ok v' w' ∧ StrRow w' base v' (n + 1) (xs ++ [.string s]) ∧ w.grownBy w' v.ownBlock := by
 obtain ⟨i, hi, hz, hsize, hby⟩ := info_parts infoStr
 have ht := Tryz.underlying117
 have hnw : ∀ j u, [Value.string s][j]? = some u → w.cell? (a.add j) = some u := fun j u hj => by
  match j, hj with
  | 0, hj => simp at hj; subst hj; simpa [Addr.add] using hnews
 have hl : [Value.string s].length = 1 * i.size := by rw [hsize]; rfl
 have h1 : ∀ u ∈ [Value.string s], u.oneCell' = true := fun u hu => by rw [List.mem_singleton.1 hu]; rfl
 obtain ⟨v', w', hr, ho, hg, _, _⟩ := run_append_own_at (P := Tryz.prog) w base 117 ty 9 i (.string ⟨#[]⟩) 1 16 ht hi hz hsize hby rfl (by decide) v n xs hown.1 a 1 c [.string s] rfl hnw h1 (by unfold maxLen; omega) (by omega) hbase
 refine ⟨v', w', hr, ⟨ho, ?_⟩, hg⟩
 rcases hown.1.2 with ⟨rfl, rfl⟩ | ⟨g, cap, cur, rfl, hbg, hgc, hnc, hcm, hcs, htake⟩
 ·have hr2 := run_append_nil (P := Tryz.prog) w 117 ty 9 i _ ht hi hz a 1 c [.string s] hl hnw (by decide) (by omega) (by rw [hby]; omega)
  rw [hr] at hr2
  cases hr2
  intro g hgg
  have e1 : w.heap.size = g := Option.some.inj hgg
  subst e1
  refine str_cells (heap_alloc_new w.drew _) fun u hu => ?_
  simp only [Array.toList_append, List.mem_append] at hu
  rcases hu with hu | hu
  ·exact ⟨s, by simpa using hu⟩
  ·exact str_zero _ u hu
 ·have hcur : ∀ u ∈ cur.toList, ∃ s, u = Value.string s := fun u hu => by
   obtain ⟨j, hj⟩ := List.getElem?_of_mem hu
   refine hown.2 g rfl j u ?_
   have : cur[j]? = some u := by simpa using hj
   simpa [World.cell?, hgc] using this
  by_cases hroom : n + 1 ≤ cap
  ·have hr2 := run_append_room (P := Tryz.prog) w 117 ty 9 i ht hi g n cap cur hgc a 1 c [.string s] hl hnw h1 hroom (by rw [hcs, hsize]; simp; omega)
   rw [hr] at hr2
   cases hr2
   intro k hk
   have e1 : g = k := Option.some.inj hk
   subst e1
   refine str_cells (setRow_heap w g cur _ 9 _ hgc) fun u hu => ?_
   simp only [List.mem_append] at hu
   rcases hu with (hu | hu) | hu
   ·exact hcur u (List.mem_of_mem_take hu)
   ·exact ⟨s, by simpa using hu⟩
   ·exact hcur u (List.mem_of_mem_drop hu)
  ·have holds : ∀ j u, xs[j]? = some u → w.cell? ((⟨g, 0, none⟩ : Addr).add j) = some u := hown.1.cells (g := g) rfl
   have hr2 := run_append_grow (P := Tryz.prog) w 117 ty 9 i _ ht hi hz ⟨g, 0, none⟩ n cap xs (by rw [hsize]; exact hown.1.1) holds a 1 c [.string s] hl hnw (by omega) (by omega) (growslice_fits (by omega) (by rw [hby]; omega))
   rw [hr] at hr2
   cases hr2
   intro k hk
   have e1 : w.heap.size = k := Option.some.inj hk
   subst e1
   refine str_cells (heap_alloc_new w.drew _) fun u hu => ?_
   simp only [Array.toList_append, List.mem_append] at hu
   rcases hu with (hu | hu) | hu
   ·rw [← htake] at hu; exact hcur u (List.mem_of_mem_take hu)
   ·exact ⟨s, by simpa using hu⟩
   ·exact str_zero _ u hu
theorem wp_append_str {w : World} {ops : Array Oper} {rest : List Oper} {o : Oper} {a : Act} {Q : Exit → Act → World → Prop} (hgd : o.guard = none) (s x : Operand)
  (ho : o.op = .call { callee := .builtin .append, args := #[s, x], argTypes := #[117, 117] }) (base : Nat) (v : Value) (n : Nat) (xs : List Value) (hs : a.eval s = v) (hown : StrRow w base v n xs)
  (ad : Addr) (c : Nat) (t : ByteArray) (hx : a.eval x = .slice (some ad) 1 c) (hnews : w.cell? ad = some (.string t)) (h63 : n + 1 ≤ 1000000) (hbase : base ≤ w.heap.size)
  (h : ∀ v' w', StrRow w' base v' (n + 1) (xs ++ [.string t]) → w.grownBy w' v.ownBlock → wpList Tryz.prog ops Q rest (a.put o.dst v') w') : wpList Tryz.prog ops Q (o :: rest) a w := by
 refine wpList_plain hgd fun K hK => ?_
 obtain ⟨v', w', hr, h2, h3⟩ := run_append_str w base o.type v n xs hown ad c t hnews h63 hbase
 unfold Oper.wp execOp
 simp only [ho, resolve, invoke, builtin, Sem.run_bind, Sem.run_pure, Result.andThen_ok, List.map_toArray, List.map_cons, List.map_nil, hs, hx, hr]
 exact hK _ _ (h v' w' h2 h3)
theorem StrRow.below {w w' : World} {base n : Nat} {v : Value} {xs : List Value} (h : StrRow w base v n xs) (hb : Below w.heap.size w w') : StrRow w' base v n xs := by
 have hlt := fun g hg => (h.1.lt g hg).2
 refine ⟨⟨h.1.1, ?_⟩, fun g hg i u hu => h.2 g hg i u ((hb.cell (p := ⟨g, i, none⟩) (hlt g hg)).symm.trans hu)⟩
 rcases h.1.2 with h1 | ⟨g, cap, cur, h1, h2, h3, h4⟩
 ·exact .inl h1
 ·exact .inr ⟨g, cap, cur, h1, h2, (hb.block g (hlt g (by rw [h1]; rfl))).trans h3, h4⟩
/-- What the walk asks of the row. -/
theorem StrRow.view {w : World} {base n : Nat} {v : Value} {xs : List Value} (h : StrRow w base v n xs) : ∃ ao c, v = .slice ao n c ∧ (0 < n → ∃ g, ao = some ⟨g, 0, none⟩ ∧ ∀ i u, xs[i]? = some u → w.cell? ⟨g, i, none⟩ = some u) := by
 rcases Nat.eq_zero_or_pos n with h0 | h0
 ·rcases h.1.2 with ⟨h1, h2⟩ | ⟨g, cap, cur, h1, _⟩
  ·exact ⟨none, 0, by rw [h1, h0], fun q => by omega⟩
  ·exact ⟨_, _, h1, fun q => by omega⟩
 ·obtain ⟨g, cap, rfl, _, _⟩ := h.1.form h0
  refine ⟨_, _, rfl, fun _ => ⟨g, rfl, fun i u hu => ?_⟩⟩
  have := World.ownsRow.cells h.1 (g := g) rfl i u hu
  rwa [add0] at this
/-- A number's digits don't lie in a row of strings. -/
theorem sl_grown {w w' : World} {base n : Nat} {v s : Value} {xs : List Value} {l : List Nat} (h : Sl w v l) (hs : StrRow w base s n xs) (hg : w.grownBy w' s.ownBlock) : Sl w' v l := by
 rcases h with h | ⟨a, c, rfl, hc, hd⟩
 ·exact .inl h
 cases l with
 | nil => exact .inl ⟨some a, c, rfl, rfl, fun e => by cases e⟩
 | cons d l =>
  have h0 := hd.cell 0 (by simp)
  have hne : some a.block ≠ s.ownBlock := fun e => by
   have ha : a.add 0 = a := by simp [Addr.add]
   rw [ha] at h0
   have hsp : a = ⟨a.block, a.off, none⟩ := by
    obtain ⟨b, o, sp⟩ := a
    cases sp with
    | none => rfl
    | some k => simp [World.cell?] at h0; split at h0 <;> simp at h0
   rw [hsp] at h0
   obtain ⟨t, ht⟩ := hs.2 _ e.symm _ _ h0
   cases ht
  refine .inr ⟨a, c, rfl, hc, fun i hi => (World.cell?_of_block (a := a.add i) ?_).trans (hd.cell i hi), Nat.lt_of_lt_of_le hd.blk hg.size⟩
  rw [addB]
  exact hg.block _ hd.blk hne
end Go.Proofs.YtaimebjkidegiaaGreatDoor
namespace Go.Proofs.YtaimebjkidegiaaGreatDoor
open Go.RowKit
attribute [local irreducible] lo hs sm s64 c64 d64 b64 mh ml pd pc qd qc val hiB str cmpI srD lz nb isq decB zl zh zs
theorem new_int (w : World) : (Instr.alloc 32 true (.tuple #[])).run Tryz.prog w = .ok (.pointer (some ⟨w.heap.size, 0, none⟩)) (w.alloc (.cells #[.int .u64 0, .string ⟨#[]⟩, .bool false] 32)) := by
 simp [go_sem, Instr.alloc]
theorem hd_put3 {w : World} {k : Nat} {x0 x1 x2 : Value} (h : Hd w k [x0, x1, x2]) (v0 v1 v2 : Value) : Hd (((w.setCell ⟨k, 0, none⟩ v0).setCell ⟨k, 1, none⟩ v1).setCell ⟨k, 2, none⟩ v2) k [v0, v1, v2] :=
 setAll_hd [v0, v1, v2] 0 w k [] [x0, x1, x2] rfl rfl h
theorem put_int (i0 i : Int) (s0 s : ByteArray) (b0 b : Bool) (w : World) (k : Nat) (h : Hd w k [.int .u64 i0, .string s0, .bool b0]) :
  ∃ w', (Instr.storeAt 32 (.pointer (some ⟨k, 0, none⟩)) (.agg #[.int .u64 i, .string s, .bool b])).run Tryz.prog w = .ok () w' ∧ Hd w' k [.int .u64 i, .string s, .bool b] ∧ Upd k w w' := by
 have h0 : w.cell? ⟨k, 0, none⟩ = some (.int .u64 i0) := h.cell 0 (by simp)
 have h1 : w.cell? ⟨k, 1, none⟩ = some (.string s0) := h.cell 1 (by simp)
 have h2 : w.cell? ⟨k, 2, none⟩ = some (.bool b0) := h.cell 2 (by simp)
 have hf := h.frz
 refine ⟨_, ?_, hd_put3 h (.int .u64 i) (.string s) (.bool b), (((Upd.refl k w).setCell 0 _).setCell 1 _).setCell 2 _⟩
 simp [go_sem, Instr.storeAt, Instr.sureAddr, h0, h1, h2, hf]
theorem z0 : zl 0 = 0 ∧ zh 0 = ⟨#[]⟩ ∧ zs 0 = false := ⟨by unfold zl; rw [show (0 : Int).natAbs = 0 from rfl, lo_small Bs_pos], by unfold zh; rw [show (0 : Int).natAbs = 0 from rfl, hs_small Bs_pos], by unfold zs; rfl⟩
end Go.Proofs.YtaimebjkidegiaaGreatDoor
namespace Go.Proofs.YtaimebjkidegiaaGreatDoor
open Go.RowKit
theorem canc {z : Int} {d : Nat} (hd : d ≠ 0) : (mkRat z d).num = z.tdiv (Nat.gcd z.natAbs d : Nat) ∧ (mkRat z d).den = d / Nat.gcd z.natAbs d := by
 have hg : ((Nat.gcd z.natAbs d : Nat) : Int) ∣ z := by rw [← Int.dvd_natAbs, Int.ofNat_dvd]; exact Nat.gcd_dvd_left _ _
 rw [Rat.num_mkRat, Rat.den_mkRat, if_neg hd, if_neg hd, Nat.gcd_comm d]
 exact ⟨(Int.tdiv_eq_ediv_of_dvd hg).symm, rfl⟩
theorem rmul_parts (a b : Rat) : (a * b).num = a.num.tdiv (Nat.gcd a.num.natAbs b.den : Nat) * b.num.tdiv (Nat.gcd b.num.natAbs a.den : Nat) ∧
  (a * b).den = b.den / Nat.gcd a.num.natAbs b.den * (a.den / Nat.gcd b.num.natAbs a.den) := by
 have h : a * b = Rat.mul a b := rfl
 rw [h]; unfold Rat.mul
 simp only [Int.divExact_eq_tdiv]
 exact ⟨trivial, Nat.mul_comm _ _⟩
theorem rinv_parts {a : Rat} (h : a ≠ 0) : (a⁻¹).num = (if a.num < 0 then -(a.den : Int) else (a.den : Int)) ∧ (a⁻¹).den = a.num.natAbs := by
 have h0 : a.num ≠ 0 := fun e => h (Rat.num_eq_zero.1 e)
 rw [Rat.num_inv, Rat.den_inv, if_neg h0]
 refine ⟨?_, rfl⟩
 split
 ·rename_i h1; rw [Int.sign_eq_neg_one_of_neg h1]; omega
 ·rw [Int.sign_eq_one_of_pos (by omega)]; omega
theorem radd_parts (a b : Rat) :
  (a + b).num = (a.num * ((b.den / Nat.gcd a.den b.den : Nat) : Int) + b.num * ((a.den / Nat.gcd a.den b.den : Nat) : Int)).tdiv (Nat.gcd (a.num * ((b.den / Nat.gcd a.den b.den : Nat) : Int) + b.num * ((a.den / Nat.gcd a.den b.den : Nat) : Int)).natAbs (Nat.gcd a.den b.den) : Nat) ∧
  (a + b).den = a.den / Nat.gcd a.den b.den * (b.den / Nat.gcd a.den b.den) * (Nat.gcd a.den b.den / Nat.gcd (a.num * ((b.den / Nat.gcd a.den b.den : Nat) : Int) + b.num * ((a.den / Nat.gcd a.den b.den : Nat) : Int)).natAbs (Nat.gcd a.den b.den)) := by
 have h : a + b = Rat.add a b := rfl
 rw [h]; unfold Rat.add
 by_cases hg : a.den.gcd b.den = 1
 ·simp only [hg, dif_pos]
  simp
 ·simp only [hg, dif_neg, not_false_eq_true, Rat.maybeNormalize_eq]
  refine ⟨Int.divExact_eq_tdiv .., ?_⟩
  generalize hx : a.num * ((b.den / Nat.gcd a.den b.den : Nat) : Int) + b.num * ((a.den / Nat.gcd a.den b.den : Nat) : Int) = x
  have e1 : b.den = b.den / Nat.gcd a.den b.den * Nat.gcd a.den b.den := (Nat.div_mul_cancel (Nat.gcd_dvd_right _ _)).symm
  generalize hg' : Nat.gcd a.den b.den = g at *
  generalize hq : b.den / g = q at *
  rw [e1, ← Nat.mul_assoc, Nat.mul_div_assoc _ (Nat.gcd_dvd_right _ _)]
def cmpQ (a b : Rat) : Int := if a < b then -1 else if a = b then 0 else 1
theorem cmpQ_parts (a b : Rat) : cmpQ a b = if a.num * b.den < b.num * a.den then -1 else if a.num * b.den = b.num * a.den then 0 else 1 := by
 unfold cmpQ
 have h1 := Rat.lt_iff a b
 have h2 := @Rat.eq_iff_mul_eq_mul a b
 by_cases h : a < b
 ·rw [if_pos h, if_pos (h1.1 h)]
 ·rw [if_neg h, if_neg (fun e => h (h1.2 e))]
  by_cases h' : a = b
  ·rw [if_pos h', if_pos (h2.1 h')]
  ·rw [if_neg h', if_neg (fun e => h' (h2.2 e))]
theorem rfloor (a : Rat) : a.floor = a.num / (a.den : Int) := Rat.floor_def a
def rceil (a : Rat) : Int := -(-a).floor
def sgnQ (a : Rat) : Int := if a < 0 then -1 else if a = 0 then 0 else 1
theorem sgnQ_num (a : Rat) : sgnQ a = if a.num < 0 then -1 else if a.num = 0 then 0 else 1 := by
 unfold sgnQ
 have h1 : a < 0 ↔ a.num < 0 := by rw [← Rat.not_le, ← Rat.num_nonneg]; omega
 have h2 : a = 0 ↔ a.num = 0 := Rat.num_eq_zero.symm
 simp only [h1, h2]
theorem num_le_add (a b : Rat) : (a + b).num.natAbs ≤ (a.num * b.den + b.num * a.den).natAbs := by
 rw [Rat.num_add]; exact Int.natAbs_ediv_le_natAbs _ _
theorem den_le_add (a b : Rat) : (a + b).den ≤ a.den * b.den := by
 rw [Rat.den_add]; exact Nat.div_le_self _ _
theorem num_le_mul (a b : Rat) : (a * b).num.natAbs ≤ (a.num * b.num).natAbs := by
 rw [Rat.num_mul]; exact Int.natAbs_ediv_le_natAbs _ _
theorem den_le_mul (a b : Rat) : (a * b).den ≤ a.den * b.den := by
 rw [Rat.den_mul]; exact Nat.div_le_self _ _
/-- The denominator as it is kept: 0 stands for 1. -/
def fe (q : Rat) : Nat := if q.den = 1 then 0 else q.den
theorem fe_one {q : Rat} (h : q.den = 1) : fe q = 0 := if_pos h
theorem fe_ne {q : Rat} (h : q.den ≠ 1) : fe q = q.den := if_neg h
/-- A fraction: its numerator, and its denominator as it is kept. -/
abbrev frV (n : Int) (e : Nat) : Value := .agg #[.int .u64 ((zl n : Nat) : Int), .string (zh n), .bool (zs n), .int .u64 ((lo e : Nat) : Int), .string (hs e)]
abbrev fracV (q : Rat) : Value := frV q.num (fe q)
/-- What == sees of two naturals that differ. -/
theorem ne_nat {a b : Nat} (h : a ≠ b) : (((lo a : Nat) : Int) == ((lo b : Nat) : Int)) = false ∨ ((((lo a : Nat) : Int) == ((lo b : Nat) : Int)) = true ∧ ((hs a).toList == (hs b).toList) = false) := by
 by_cases h1 : lo a = lo b
 ·right
  refine ⟨by rw [h1]; exact beq_self_eq_true _, beq_eq_false_iff_ne.2 fun h3 => h ?_⟩
  rw [hs_toList, hs_toList] at h3
  have h4 := hiB_inj h3
  have h5 := divmod a
  have h6 := divmod b
  rw [h4, h1, ← h6] at h5
  exact h5
 ·left
  exact beq_eq_false_iff_ne.2 fun h2 => h1 (by omega)
/-- At most k words in the numerator and in the denominator. -/
def Sz (q : Rat) (k : Nat) : Prop := dI q.num ≤ k ∧ (digs q.den).length ≤ k
theorem Sz.n {q : Rat} {k : Nat} (h : Sz q k) : dI q.num ≤ k := h.1
theorem Sz.d {q : Rat} {k : Nat} (h : Sz q k) : (digs q.den).length ≤ k := h.2
theorem Sz.mono {q : Rat} {k m : Nat} (h : Sz q k) (hm : k ≤ m) : Sz q m := ⟨Nat.le_trans h.1 hm, Nat.le_trans h.2 hm⟩
theorem Sz.neg {q : Rat} {k : Nat} (h : Sz q k) : Sz (-q) k := ⟨by rw [Rat.neg_num, dI_neg]; exact h.1, h.2⟩
theorem Sz.add {p q : Rat} {k m : Nat} (hp : Sz p k) (hq : Sz q m) : Sz (p + q) (k + m + 1) := by
 constructor
 ·refine Nat.le_trans (dI_mono (num_le_add p q)) (dI_add (k := k + m) (dI_mul hp.1 (by rw [dI_nat]; exact hq.2)) ?_)
  rw [Nat.add_comm k m]
  exact dI_mul hq.1 (by rw [dI_nat]; exact hp.2)
 ·exact Nat.le_trans (digs_mono (den_le_add p q)) (Nat.le_trans (digs_mul_le hp.2 hq.2) (by omega))
theorem Sz.sub {p q : Rat} {k m : Nat} (hp : Sz p k) (hq : Sz q m) : Sz (p - q) (k + m + 1) := by
 rw [Rat.sub_eq_add_neg]; exact hp.add hq.neg
theorem Sz.mul {p q : Rat} {k m : Nat} (hp : Sz p k) (hq : Sz q m) : Sz (p * q) (k + m) :=
 ⟨Nat.le_trans (dI_mono (num_le_mul p q)) (dI_mul hp.1 hq.1), Nat.le_trans (digs_mono (den_le_mul p q)) (digs_mul_le hp.2 hq.2)⟩
theorem Sz.inv {q : Rat} {k : Nat} (h : Sz q k) (h0 : q ≠ 0) : Sz q⁻¹ k := by
 obtain ⟨h1, h2⟩ := rinv_parts h0
 refine ⟨?_, by rw [h2]; exact h.1⟩
 rw [h1]
 split
 ·rw [dI_neg, dI_nat]; exact h.2
 ·rw [dI_nat]; exact h.2
theorem Sz.int {z : Int} {k : Nat} (h : dI z ≤ k) (hk : 0 < k) : Sz (z : Rat) k :=
 ⟨h, Nat.le_trans (digs_length_iff (k := 1).2 (by show (z : Rat).den < _; rw [Rat.den_intCast, Nat.pow_one]; exact Bs_gt)) hk⟩
theorem Sz.mk {z : Int} {d k : Nat} (hz : dI z ≤ k) (hd : (digs d).length ≤ k) (h0 : d ≠ 0) : Sz (mkRat z d) k := by
 obtain ⟨h1, h2⟩ := canc (z := z) h0
 refine ⟨?_, ?_⟩
 ·rw [h1]
  refine Nat.le_trans (dI_mono ?_) hz
  rw [Int.natAbs_tdiv]
  exact Nat.div_le_self _ _
 ·rw [h2]; exact Nat.le_trans (digs_mono (Nat.div_le_self _ _)) hd
theorem new_natc (w : World) : (Instr.alloc 30 true (.tuple #[])).run Tryz.prog w = .ok (.pointer (some ⟨w.heap.size, 0, none⟩)) (w.alloc (.cells #[.int .u64 0, .string ⟨#[]⟩] 30)) := by
 simp [go_sem, Instr.alloc]
theorem put_natc (i0 i : Int) (s0 s : ByteArray) (w : World) (k : Nat) (h : Hd w k [.int .u64 i0, .string s0]) :
  ∃ w', (Instr.storeAt 30 (.pointer (some ⟨k, 0, none⟩)) (.agg #[.int .u64 i, .string s])).run Tryz.prog w = .ok () w' ∧ Hd w' k [.int .u64 i, .string s] ∧ Upd k w w' := by
 have h0 : w.cell? ⟨k, 0, none⟩ = some (.int .u64 i0) := h.cell 0 (by simp)
 have h1 : w.cell? ⟨k, 1, none⟩ = some (.string s0) := h.cell 1 (by simp)
 have hf := h.frz
 refine ⟨_, ?_, setAll_hd [.int .u64 i, .string s] 0 w k [] [.int .u64 i0, .string s0] rfl rfl h, (((Upd.refl k w).setCell 0 _).setCell 1 _)⟩
 simp [go_sem, Instr.storeAt, Instr.sureAddr, h0, h1, hf, setAll]
theorem new_frac (w : World) : (Instr.alloc 34 true (.tuple #[])).run Tryz.prog w = .ok (.pointer (some ⟨w.heap.size, 0, none⟩)) (w.alloc (.cells #[.int .u64 0, .string ⟨#[]⟩, .bool false, .int .u64 0, .string ⟨#[]⟩] 34)) := by
 simp [go_sem, Instr.alloc]
theorem put_frac (i0 i : Int) (s0 s : ByteArray) (b0 b : Bool) (j0 j : Int) (t0 t : ByteArray) (w : World) (k : Nat) (h : Hd w k [.int .u64 i0, .string s0, .bool b0, .int .u64 j0, .string t0]) :
  ∃ w', (Instr.storeAt 34 (.pointer (some ⟨k, 0, none⟩)) (.agg #[.int .u64 i, .string s, .bool b, .int .u64 j, .string t])).run Tryz.prog w = .ok () w' ∧ Hd w' k [.int .u64 i, .string s, .bool b, .int .u64 j, .string t] ∧ Upd k w w' := by
 have h0 : w.cell? ⟨k, 0, none⟩ = some (.int .u64 i0) := h.cell 0 (by simp)
 have h1 : w.cell? ⟨k, 1, none⟩ = some (.string s0) := h.cell 1 (by simp)
 have h2 : w.cell? ⟨k, 2, none⟩ = some (.bool b0) := h.cell 2 (by simp)
 have h3 : w.cell? ⟨k, 3, none⟩ = some (.int .u64 j0) := h.cell 3 (by simp)
 have h4 : w.cell? ⟨k, 4, none⟩ = some (.string t0) := h.cell 4 (by simp)
 have hf := h.frz
 refine ⟨_, ?_, setAll_hd [.int .u64 i, .string s, .bool b, .int .u64 j, .string t] 0 w k [] [.int .u64 i0, .string s0, .bool b0, .int .u64 j0, .string t0] rfl rfl h, ((((((Upd.refl k w).setCell 0 _).setCell 1 _).setCell 2 _).setCell 3 _).setCell 4 _)⟩
 simp [go_sem, Instr.storeAt, Instr.sureAddr, h0, h1, h2, h3, h4, hf, setAll]
/-- A property of worlds that stays while memory is only made. -/
def Keeps (K : World → Prop) : Prop := ∀ w w', Below w.heap.size w w' → K w → K w'
theorem Keeps.at {K : World → Prop} (h : Keeps K) {w w' : World} (hb : Below w.heap.size w w') (hk : K w) : K w' := h _ _ hb hk
theorem Keeps.tab : Keeps Tab := fun _ _ hb h => h.below hb
theorem Keeps.and {K L : World → Prop} (h : Keeps K) (g : Keeps L) : Keeps (fun w => K w ∧ L w) := fun _ _ hb ⟨a, b⟩ => ⟨h _ _ hb a, g _ _ hb b⟩
end Go.Proofs.YtaimebjkidegiaaGreatDoor
namespace Go.Proofs.YtaimebjkidegiaaGreatDoor
open Go.RowKit
attribute [local irreducible] lo hs sm s64 c64 d64 b64 mh ml pd pc qd qc val hiB str cmpI srD lz nb isq decB zl zh zs
theorem cls_box {α : Type} {F : α → World} {z : World} (h1 : ∀ x, Below z.heap.size z (F x)) {w : World} {L : List (Nat × List Value)} (hL : GL w z L) (k : Nat) (c : List Value) (hm : (k, c) ∈ L) : cellsC F k 0 c :=
 cellsC_of c 0 fun x => cells_of c 0 [] rfl ((hL.get k c hm).below (h1 x))
end Go.Proofs.YtaimebjkidegiaaGreatDoor
namespace Go.Proofs.YtaimebjkidegiaaGreatDoor
open Go.RowKit
attribute [local irreducible] lo hs sm s64 c64 d64 b64 mh ml pd pc qd qc val hiB str cmpI srD lz nb isq decB zl zh zs dval
end Go.Proofs.YtaimebjkidegiaaGreatDoor
namespace Go.Proofs.YtaimebjkidegiaaGreatDoor
open Go.RowKit
attribute [local irreducible] lo hs zl zh zs
theorem Ws.len {w : World} {a : Option Addr} {n c : Nat} {l : List Nat} (h : Ws w (.slice a n c) l) : l.length = n := by
 rcases h with ⟨ao, c1, h1, h2⟩ | ⟨a1, c1, h1, h2⟩
 ·simp only [Value.slice.injEq] at h1; rw [h2, h1.2.1]; rfl
 ·simp only [Value.slice.injEq] at h1; rw [h1.2.1]
end Go.Proofs.YtaimebjkidegiaaGreatDoor
namespace Go.Proofs.YtaimebjkidegiaaGreatDoor
open Go.RowKit
attribute [local irreducible] lo hs sm s64 c64 d64 b64 mh ml pd pc qd qc val hiB str cmpI srD lz nb isq decB zl zh zs
theorem whole_yes (n : Int) (w : World) :
  Calls Tryz.prog 119 #[frV n 0] w fun xe w' => xe = .returned (.bool true) ∧ Below w.heap.size w w' := by
 have hL0 : GL w w [] := GL.start w
 have e0 : (((lo 0 : Nat) : Int) == 0) = true := by rw [lo_small Bs_pos]; rfl
 have e1 : ((hs 0).toList == []) = true := by rw [hs_small Bs_pos, ByteArray.toList_eq]; rfl
 obtain ⟨x1, hweq, hL0⟩ := GL.named (hL0.new rfl [.int .u64 ((zl n : Nat) : Int), .string (zh n), .bool (zs n), .int .u64 ((lo 0 : Nat) : Int), .string (hs 0)] 34)
 go_enter Tryz.func119, Tryz.ntmps119
 have hN0 := cells_of _ 0 [] rfl (hL0.get _ _ mZ)
 simp only [zF, Nat.reduceAdd] at hN0
 go_wp2_with fail
 exact bodyPost_ret (v := .bool true) (by simp [results, Tryz.results119, go_sem, hN0]) rfl ⟨rfl, hL0.bl⟩
theorem whole_no (n : Int) (e : Nat) (he : e ≠ 0) (w : World) :
  Calls Tryz.prog 119 #[frV n e] w fun xe w' => xe = .returned (.bool false) ∧ Below w.heap.size w w' := by
 have hL0 : GL w w [] := GL.start w
 have hz := ne0 he
 clear he
 rcases hz with e0 | ⟨e0, e1⟩
 all_goals (
  obtain ⟨x1, hweq, hL0⟩ := GL.named (hL0.new rfl [.int .u64 ((zl n : Nat) : Int), .string (zh n), .bool (zs n), .int .u64 ((lo e : Nat) : Int), .string (hs e)] 34)
  go_enter Tryz.func119, Tryz.ntmps119
  have hN0 := cells_of _ 0 [] rfl (hL0.get _ _ mZ)
  simp only [zF, Nat.reduceAdd] at hN0
  go_wp2_with fail
  exact bodyPost_ret (v := .bool false) (by simp [results, Tryz.results119, go_sem, hN0]) rfl ⟨rfl, hL0.bl⟩)
theorem den_one_w (n : Int) (HW : RT 119 #[frV n 0] (.bool true)) (HO : RT 17 #[.int .u64 1] (natV 1)) (w : World) :
  Calls Tryz.prog 45 #[frV n 0] w fun xe w' => xe = .returned (natV 1) ∧ Below w.heap.size w w' := by
 have hL0 : GL w w [] := GL.start w
 replace HW := Lib.hid HW
 replace HO := Lib.hid HO
 obtain ⟨x1, hweq, hL0⟩ := GL.named ((hL0.new rfl [.int .u64 ((zl n : Nat) : Int), .string (zh n), .bool (zs n), .int .u64 ((lo 0 : Nat) : Int), .string (hs 0)] 34).new (K := w.heap.size + 1) (szA _ _) [.int .u64 0, .string ⟨#[]⟩] 30)
 go_enter Tryz.func45, Tryz.ntmps45
 have hN0 := cells_of _ 0 [] rfl (hL0.get _ _ (mK mZ))
 simp only [zF, Nat.reduceAdd] at hN0
 go_wp2_with fail
 clear hN0
 with_reducible refine Calls.mono (HW.out _) ?_
 rintro e x2 ⟨rfl, hb⟩
 replace hL0 := hL0.call hb
 clear hb hweq
 go_wp2_with fail
 with_reducible refine Calls.mono (HO.out _) ?_
 rintro e x3 ⟨rfl, hb⟩
 replace hL0 := hL0.call hb
 clear hb
 have hA := hL0.fc
 simp only [zF, Nat.reduceAdd] at hA
 obtain ⟨x4, hput1, hP⟩ := GL.named (hL0.put 0 (w.heap.size + 1) _ rfl [.int .u64 ((lo 1 : Nat) : Int), .string (hs 1)] rfl)
 simp only [setAll] at hput1
 simp only [List.set_cons_zero, List.set_cons_succ] at hP
 have hB1 := hP.fc
 simp only [zF, Nat.reduceAdd] at hB1
 replace hL0 := hP
 go_wp2_with fail
 exact bodyPost_ret (v := natV 1) (by simp [results, Tryz.results45, go_sem, hB1]) rfl ⟨rfl, hL0.bl⟩
theorem den_part_w (n : Int) (e : Nat) (HW : RT 119 #[frV n e] (.bool false)) (w : World) :
  Calls Tryz.prog 45 #[frV n e] w fun xe w' => xe = .returned (natV e) ∧ Below w.heap.size w w' := by
 have hL0 : GL w w [] := GL.start w
 replace HW := Lib.hid HW
 obtain ⟨x1, hweq, hL0⟩ := GL.named ((hL0.new rfl [.int .u64 ((zl n : Nat) : Int), .string (zh n), .bool (zs n), .int .u64 ((lo e : Nat) : Int), .string (hs e)] 34).new (K := w.heap.size + 1) (szA _ _) [.int .u64 0, .string ⟨#[]⟩] 30)
 go_enter Tryz.func45, Tryz.ntmps45
 have hN0 := cells_of _ 0 [] rfl (hL0.get _ _ (mK mZ))
 simp only [zF, Nat.reduceAdd] at hN0
 go_wp2_with fail
 clear hN0
 with_reducible refine Calls.mono (HW.out _) ?_
 rintro e x2 ⟨rfl, hb⟩
 replace hL0 := hL0.call hb
 clear hb hweq
 have hA := hL0.fc
 simp only [zF, Nat.reduceAdd] at hA
 obtain ⟨x3, hput1, hP⟩ := GL.named (hL0.put 0 (w.heap.size + 1) _ rfl [.int .u64 ((lo e : Nat) : Int), .string (hs e)] rfl)
 simp only [setAll] at hput1
 simp only [List.set_cons_zero, List.set_cons_succ] at hP
 have hB1 := hP.fc
 simp only [zF, Nat.reduceAdd] at hB1
 replace hL0 := hP
 go_wp2_with fail
 exact bodyPost_ret (v := natV e) (by simp [results, Tryz.results45, go_sem, hB1]) rfl ⟨rfl, hL0.bl⟩
theorem lowest_one (n : Int) (HO : RT 17 #[.int .u64 1] (natV 1)) (w : World) :
  Calls Tryz.prog 172 #[intV n, natV 1] w fun xe w' => xe = .returned (.agg #[.int .u64 ((zl n : Nat) : Int), .string (zh n), .bool (zs n), .int .u64 0, .string ⟨#[]⟩]) ∧ Below w.heap.size w w' := by
 have hL0 : GL w w [] := GL.start w
 replace HO := Lib.hid HO
 obtain ⟨x1, hweq, hL0⟩ := GL.named (((hL0.new rfl [.int .u64 ((zl n : Nat) : Int), .string (zh n), .bool (zs n)] 32).new (K := w.heap.size + 1) (szA _ _) [.int .u64 ((lo 1 : Nat) : Int), .string (hs 1)] 30).new (K := w.heap.size + 1 + 1) (by simp only [World.size_alloc]) [.int .u64 0, .string ⟨#[]⟩, .bool false, .int .u64 0, .string ⟨#[]⟩] 34)
 go_enter Tryz.func172, Tryz.ntmps172
 go_upto_region 1 with fail
 clear hweq
 obtain ⟨α, iα, F, hF1, hF2⟩ := cls x1
 have hq0 := cls_box hF1 hL0 _ _ (mK mZ)
 simp only [zC, Nat.reduceAdd] at hq0
 refine region_qs 3 (C := fun w' => ∃ x, w' = F x) (by kernel_rfl) (by kernel_rfl) (cls_drew hF2) ?_
 simp only [zT]
 repeat (go_big_quiet_step (first | fail | (go_at_call 17; with_reducible exact cls_call hF1 hF2 HO.out _)))
 refine wpQuiet_nil ?_
 rintro wq ⟨xq, rfl⟩
 replace hL0 := hL0.call (hF1 xq)
 clear  hq0 hF2
 generalize F xq = x2 at hL0 ⊢
 clear hF1 xq iα F α
 have hA := hL0.fc
 simp only [zF, Nat.reduceAdd] at hA
 obtain ⟨x3, hput1, hP⟩ := GL.named (hL0.put 0 (w.heap.size + 1 + 1) _ rfl [.int .u64 ((zl n : Nat) : Int), .string (zh n), .bool (zs n), .int .u64 0, .string ⟨#[]⟩] rfl)
 simp only [setAll] at hput1
 simp only [List.set_cons_zero, List.set_cons_succ] at hP
 have hB1 := hP.fc
 simp only [zF, Nat.reduceAdd] at hB1
 replace hL0 := hP
 go_wp2_with fail
 exact bodyPost_ret (v := .agg #[.int .u64 ((zl n : Nat) : Int), .string (zh n), .bool (zs n), .int .u64 0, .string ⟨#[]⟩]) (by simp [results, Tryz.results172, go_sem, hB1]) rfl ⟨rfl, hL0.bl⟩
theorem lowest_part (n : Int) (d : Nat) (HO : RT 17 #[.int .u64 1] (natV 1)) (hd : d ≠ 1) (w : World) :
  Calls Tryz.prog 172 #[intV n, natV d] w fun xe w' => xe = .returned (frV n d) ∧ Below w.heap.size w w' := by
 have hL0 : GL w w [] := GL.start w
 replace HO := Lib.hid HO
 have hz := ne_nat hd
 clear hd
 rcases hz with e0 | ⟨e0, e1⟩
 all_goals (
  obtain ⟨x1, hweq, hL0⟩ := GL.named (((hL0.new rfl [.int .u64 ((zl n : Nat) : Int), .string (zh n), .bool (zs n)] 32).new (K := w.heap.size + 1) (szA _ _) [.int .u64 ((lo d : Nat) : Int), .string (hs d)] 30).new (K := w.heap.size + 1 + 1) (by simp only [World.size_alloc]) [.int .u64 0, .string ⟨#[]⟩, .bool false, .int .u64 0, .string ⟨#[]⟩] 34)
  go_enter Tryz.func172, Tryz.ntmps172
  go_upto_region 1 with fail
  clear hweq
  obtain ⟨α, iα, F, hF1, hF2⟩ := cls x1
  have hq0 := cls_box hF1 hL0 _ _ (mK mZ)
  simp only [zC, Nat.reduceAdd] at hq0
  refine region_qs 3 (C := fun w' => ∃ x, w' = F x) (by kernel_rfl) (by kernel_rfl) (cls_drew hF2) ?_
  simp only [zT]
  repeat (go_big_quiet_step (first | fail | (go_at_call 17; with_reducible exact cls_call hF1 hF2 HO.out _)))
  refine wpQuiet_nil ?_
  rintro wq ⟨xq, rfl⟩
  replace hL0 := hL0.call (hF1 xq)
  clear  hq0 hF2
  generalize F xq = x2 at hL0 ⊢
  clear hF1 xq iα F α
  have hA := hL0.fc
  simp only [zF, Nat.reduceAdd] at hA
  obtain ⟨x3, hput1, hP⟩ := GL.named (hL0.put 0 (w.heap.size + 1 + 1) _ rfl [.int .u64 ((zl n : Nat) : Int), .string (zh n), .bool (zs n), .int .u64 ((lo d : Nat) : Int), .string (hs d)] rfl)
  simp only [setAll] at hput1
  simp only [List.set_cons_zero, List.set_cons_succ] at hP
  have hB1 := hP.fc
  simp only [zF, Nat.reduceAdd] at hB1
  replace hL0 := hP
  go_wp2_with fail
  exact bodyPost_ret (v := frV n d) (by simp [results, Tryz.results172, go_sem, hB1]) rfl ⟨rfl, hL0.bl⟩)
theorem pon_one (n : Nat) (HO : RT 17 #[.int .u64 1] (natV 1)) (w : World) :
  Calls Tryz.prog 184 #[natV n, natV 1] w fun xe w' => xe = .returned (natV n) ∧ Below w.heap.size w w' := by
 have hL0 : GL w w [] := GL.start w
 replace HO := Lib.hid HO
 obtain ⟨x1, hweq, hL0⟩ := GL.named (((hL0.new rfl [.int .u64 ((lo n : Nat) : Int), .string (hs n)] 30).new (K := w.heap.size + 1) (szA _ _) [.int .u64 ((lo 1 : Nat) : Int), .string (hs 1)] 30).new (K := w.heap.size + 1 + 1) (by simp only [World.size_alloc]) [.int .u64 0, .string ⟨#[]⟩] 30)
 go_enter Tryz.func184, Tryz.ntmps184
 go_upto_region 1 with fail
 clear hweq
 obtain ⟨α, iα, F, hF1, hF2⟩ := cls x1
 have hq0 := cls_box hF1 hL0 _ _ (mK mZ)
 simp only [zC, Nat.reduceAdd] at hq0
 refine region_qs 3 (C := fun w' => ∃ x, w' = F x) (by kernel_rfl) (by kernel_rfl) (cls_drew hF2) ?_
 simp only [zT]
 repeat (go_big_quiet_step (first | fail | (go_at_call 17; with_reducible exact cls_call hF1 hF2 HO.out _)))
 refine wpQuiet_nil ?_
 rintro wq ⟨xq, rfl⟩
 replace hL0 := hL0.call (hF1 xq)
 clear  hq0 hF2
 generalize F xq = x2 at hL0 ⊢
 clear hF1 xq iα F α
 have hA := hL0.fc
 simp only [zF, Nat.reduceAdd] at hA
 obtain ⟨x3, hput1, hP⟩ := GL.named (hL0.put 0 (w.heap.size + 1 + 1) _ rfl [.int .u64 ((lo n : Nat) : Int), .string (hs n)] rfl)
 simp only [setAll] at hput1
 simp only [List.set_cons_zero, List.set_cons_succ] at hP
 have hB1 := hP.fc
 simp only [zF, Nat.reduceAdd] at hB1
 replace hL0 := hP
 go_wp2_with fail
 exact bodyPost_ret (v := natV n) (by simp [results, Tryz.results184, go_sem, hB1]) rfl ⟨rfl, hL0.bl⟩
theorem pon_div (n d q r : Nat) (HO : RT 17 #[.int .u64 1] (natV 1)) (HD : RT 22 #[natV n, natV d] (.tuple #[natV q, natV r, .bool true])) (hd : d ≠ 1) (w : World) :
  Calls Tryz.prog 184 #[natV n, natV d] w fun xe w' => xe = .returned (natV q) ∧ Below w.heap.size w w' := by
 have hL0 : GL w w [] := GL.start w
 replace HO := Lib.hid HO
 replace HD := Lib.hid HD
 have hz := ne_nat hd
 clear hd
 rcases hz with e0 | ⟨e0, e1⟩
 all_goals (
  obtain ⟨x1, hweq, hL0⟩ := GL.named (((hL0.new rfl [.int .u64 ((lo n : Nat) : Int), .string (hs n)] 30).new (K := w.heap.size + 1) (szA _ _) [.int .u64 ((lo d : Nat) : Int), .string (hs d)] 30).new (K := w.heap.size + 1 + 1) (by simp only [World.size_alloc]) [.int .u64 0, .string ⟨#[]⟩] 30)
  go_enter Tryz.func184, Tryz.ntmps184
  go_upto_region 1 with fail
  clear hweq
  obtain ⟨α, iα, F, hF1, hF2⟩ := cls x1
  have hq0 := cls_box hF1 hL0 _ _ (mK mZ)
  simp only [zC, Nat.reduceAdd] at hq0
  refine region_qs 3 (C := fun w' => ∃ x, w' = F x) (by kernel_rfl) (by kernel_rfl) (cls_drew hF2) ?_
  simp only [zT]
  repeat (go_big_quiet_step (first | fail | (go_at_call 17; with_reducible exact cls_call hF1 hF2 HO.out _)))
  refine wpQuiet_nil ?_
  rintro wq ⟨xq, rfl⟩
  replace hL0 := hL0.call (hF1 xq)
  clear  hq0 hF2
  generalize F xq = x2 at hL0 ⊢
  clear hF1 xq iα F α
  have hN0 := cells_of _ 0 [] rfl (hL0.get _ _ (mK mZ))
  simp only [zF, Nat.reduceAdd] at hN0
  have hN1 := cells_of _ 0 [] rfl (hL0.get _ _ (mK (mK mZ)))
  simp only [zF, Nat.reduceAdd] at hN1
  go_wp2_with fail
  clear hN0 hN1
  with_reducible refine Calls.mono (HD.out _) ?_
  rintro e x3 ⟨rfl, hb⟩
  replace hL0 := hL0.call hb
  clear hb
  obtain ⟨x4, hweq, hL0⟩ := GL.named ((hL0.new rfl [.int .u64 ((lo q : Nat) : Int), .string (hs q)] 30).new (K := x3.heap.size + 1) (szA _ _) [.int .u64 ((lo r : Nat) : Int), .string (hs r)] 30)
  have hA := hL0.fc
  simp only [zF, Nat.reduceAdd] at hA
  obtain ⟨x5, hput1, hP⟩ := GL.named (hL0.put 2 (w.heap.size + 1 + 1) _ rfl [.int .u64 ((lo q : Nat) : Int), .string (hs q)] rfl)
  simp only [setAll] at hput1
  simp only [List.set_cons_zero, List.set_cons_succ] at hP
  have hB1 := hP.fc
  simp only [zF, Nat.reduceAdd] at hB1
  replace hL0 := hP
  go_wp2_with fail
  exact bodyPost_ret (v := natV q) (by simp [results, Tryz.results184, go_sem, hB1]) rfl ⟨rfl, hL0.bl⟩)
theorem part_true (z s u : Int) (a g q : Nat) (HS : RT 117 #[intV z] (.int .i64 s)) (HA : RT 123 #[intV z] (natV a)) (HP : RT 184 #[natV a, natV g] (natV q)) (HF : RT 19 #[.bool true, natV q] (intV u)) (hsg : decide (s < 0) = true) (w : World) :
  Calls Tryz.prog 216 #[intV z, natV g] w fun xe w' => xe = .returned (intV u) ∧ Below w.heap.size w w' := by
 have hL0 : GL w w [] := GL.start w
 replace HS := Lib.hid HS
 replace HA := Lib.hid HA
 replace HP := Lib.hid HP
 replace HF := Lib.hid HF
 obtain ⟨x1, hweq, hL0⟩ := GL.named (((hL0.new rfl [.int .u64 ((zl z : Nat) : Int), .string (zh z), .bool (zs z)] 32).new (K := w.heap.size + 1) (szA _ _) [.int .u64 ((lo g : Nat) : Int), .string (hs g)] 30).new (K := w.heap.size + 1 + 1) (by simp only [World.size_alloc]) [.int .u64 0, .string ⟨#[]⟩, .bool false] 32)
 go_enter Tryz.func216, Tryz.ntmps216
 go_upto_region 1 with fail
 clear hweq
 obtain ⟨α, iα, F, hF1, hF2⟩ := cls x1
 have hq0 := cls_box hF1 hL0 _ _ (mK mZ)
 simp only [zC, Nat.reduceAdd] at hq0
 have hq1 := cls_box hF1 hL0 _ _ (mK (mK mZ))
 simp only [zC, Nat.reduceAdd] at hq1
 refine region_qs 8 (C := fun w' => ∃ x, w' = F x) (by kernel_rfl) (by kernel_rfl) (cls_drew hF2) ?_
 simp only [zT]
 repeat (go_big_quiet_step (first | fail | (go_at_call 117; with_reducible exact cls_call hF1 hF2 HS.out _) | (go_at_call 123; with_reducible exact cls_call hF1 hF2 HA.out _) | (go_at_call 184; with_reducible exact cls_call hF1 hF2 HP.out _) | (go_at_call 19; with_reducible exact cls_call hF1 hF2 HF.out _)))
 refine wpQuiet_nil ?_
 rintro wq ⟨xq, rfl⟩
 replace hL0 := hL0.call (hF1 xq)
 clear  hq0 hq1 hF2
 generalize F xq = x2 at hL0 ⊢
 clear hF1 xq iα F α
 have hA := hL0.fc
 simp only [zF, Nat.reduceAdd] at hA
 obtain ⟨x3, hput1, hP⟩ := GL.named (hL0.put 0 (w.heap.size + 1 + 1) _ rfl [.int .u64 ((zl u : Nat) : Int), .string (zh u), .bool (zs u)] rfl)
 simp only [setAll] at hput1
 simp only [List.set_cons_zero, List.set_cons_succ] at hP
 have hB1 := hP.fc
 simp only [zF, Nat.reduceAdd] at hB1
 replace hL0 := hP
 go_wp2_with fail
 exact bodyPost_ret (v := intV u) (by simp [results, Tryz.results216, go_sem, hB1]) rfl ⟨rfl, hL0.bl⟩
theorem part_false (z s u : Int) (a g q : Nat) (HS : RT 117 #[intV z] (.int .i64 s)) (HA : RT 123 #[intV z] (natV a)) (HP : RT 184 #[natV a, natV g] (natV q)) (HF : RT 19 #[.bool false, natV q] (intV u)) (hsg : decide (s < 0) = false) (w : World) :
  Calls Tryz.prog 216 #[intV z, natV g] w fun xe w' => xe = .returned (intV u) ∧ Below w.heap.size w w' := by
 have hL0 : GL w w [] := GL.start w
 replace HS := Lib.hid HS
 replace HA := Lib.hid HA
 replace HP := Lib.hid HP
 replace HF := Lib.hid HF
 obtain ⟨x1, hweq, hL0⟩ := GL.named (((hL0.new rfl [.int .u64 ((zl z : Nat) : Int), .string (zh z), .bool (zs z)] 32).new (K := w.heap.size + 1) (szA _ _) [.int .u64 ((lo g : Nat) : Int), .string (hs g)] 30).new (K := w.heap.size + 1 + 1) (by simp only [World.size_alloc]) [.int .u64 0, .string ⟨#[]⟩, .bool false] 32)
 go_enter Tryz.func216, Tryz.ntmps216
 go_upto_region 1 with fail
 clear hweq
 obtain ⟨α, iα, F, hF1, hF2⟩ := cls x1
 have hq0 := cls_box hF1 hL0 _ _ (mK mZ)
 simp only [zC, Nat.reduceAdd] at hq0
 have hq1 := cls_box hF1 hL0 _ _ (mK (mK mZ))
 simp only [zC, Nat.reduceAdd] at hq1
 refine region_qs 8 (C := fun w' => ∃ x, w' = F x) (by kernel_rfl) (by kernel_rfl) (cls_drew hF2) ?_
 simp only [zT]
 repeat (go_big_quiet_step (first | fail | (go_at_call 117; with_reducible exact cls_call hF1 hF2 HS.out _) | (go_at_call 123; with_reducible exact cls_call hF1 hF2 HA.out _) | (go_at_call 184; with_reducible exact cls_call hF1 hF2 HP.out _) | (go_at_call 19; with_reducible exact cls_call hF1 hF2 HF.out _)))
 refine wpQuiet_nil ?_
 rintro wq ⟨xq, rfl⟩
 replace hL0 := hL0.call (hF1 xq)
 clear  hq0 hq1 hF2
 generalize F xq = x2 at hL0 ⊢
 clear hF1 xq iα F α
 have hA := hL0.fc
 simp only [zF, Nat.reduceAdd] at hA
 obtain ⟨x3, hput1, hP⟩ := GL.named (hL0.put 0 (w.heap.size + 1 + 1) _ rfl [.int .u64 ((zl u : Nat) : Int), .string (zh u), .bool (zs u)] rfl)
 simp only [setAll] at hput1
 simp only [List.set_cons_zero, List.set_cons_succ] at hP
 have hB1 := hP.fc
 simp only [zF, Nat.reduceAdd] at hB1
 replace hL0 := hP
 go_wp2_with fail
 exact bodyPost_ret (v := intV u) (by simp [results, Tryz.results216, go_sem, hB1]) rfl ⟨rfl, hL0.bl⟩
theorem cancel_w (z u : Int) (a d g v : Nat) (HA : RT 123 #[intV z] (natV a)) (HG : RT 118 #[natV a, natV d] (natV g)) (HP : RT 216 #[intV z, natV g] (intV u)) (HQ : RT 184 #[natV d, natV g] (natV v)) (w : World) :
  Calls Tryz.prog 171 #[intV z, natV d] w fun xe w' => xe = .returned (.tuple #[intV u, natV v]) ∧ Below w.heap.size w w' := by
 have hL0 : GL w w [] := GL.start w
 replace HA := Lib.hid HA
 replace HG := Lib.hid HG
 replace HP := Lib.hid HP
 replace HQ := Lib.hid HQ
 obtain ⟨x1, hweq, hL0⟩ := GL.named ((((hL0.new rfl [.int .u64 ((zl z : Nat) : Int), .string (zh z), .bool (zs z)] 32).new (K := w.heap.size + 1) (szA _ _) [.int .u64 ((lo d : Nat) : Int), .string (hs d)] 30).new (K := w.heap.size + 1 + 1) (by simp only [World.size_alloc]) [.int .u64 0, .string ⟨#[]⟩, .bool false] 32).new (K := w.heap.size + 1 + 1 + 1) (by simp only [World.size_alloc]) [.int .u64 0, .string ⟨#[]⟩] 30)
 go_enter Tryz.func171, Tryz.ntmps171
 go_upto_region 1 with fail
 clear hweq
 refine region_gh (by kernel_rfl) (by kernel_rfl) ?_
 refine lex_seg (gl := []) 4 (by kernel_rfl) ?_
 intro α iα F hF1 hF2
 have hq := GL.seg hF1 hL0
 simp only [zC, Nat.reduceAdd] at hq
 simp only [zT]
 repeat (go_big_quiet_step (first | fail | (go_at_call 123; with_reducible exact seg_call hF2 HA.out _) | (go_at_call 118; with_reducible exact seg_call hF2 HG.out _)))
 refine wpQuiet_nil ?_
 clear hq hF1 hF2 iα F α
 refine lex_new [.int .u64 0, .string ⟨#[]⟩] 6 30 30 rfl rfl (of_decide_eq_true (by kernel_rfl)) (by kernel_rfl) rfl new_natc ?_
 simp only [Act.put, zP]
 refine lex_put [.int .u64 ((lo g : Nat) : Int), .string (hs g)] [.int .u64 0, .string ⟨#[]⟩] 6 30 (.tmp 10) rfl (by kernel_rfl) (by simp [toG, upd]) rfl (fun w k h => put_natc _ _ _ _ w k h) ?_
 simp only [Act.put]
 refine lexG_nil ?_
 intro κ x2 hS
 replace hL0 := hL0.ghs hS [(6, [.int .u64 ((lo g : Nat) : Int), .string (hs g)])] (by simp) (by intro p hp; simp only [List.mem_cons, List.not_mem_nil, or_false] at hp; rcases hp with rfl <;> exact ⟨_, by simp only [toG, upd]; rfl⟩)
 simp only [List.map_cons, List.map_nil, List.cons_append, List.nil_append] at hL0
 simp only [over_toG, over_nil, Act.put, zP]
 clear hS
 generalize κ 6 = k2_6 at *
 go_upto_region 2 with fail
 obtain ⟨α, iα, F, hF1, hF2⟩ := cls x2
 have hq0 := cls_box hF1 hL0 _ _ mZ
 simp only [zC, Nat.reduceAdd] at hq0
 have hq1 := cls_box hF1 hL0 _ _ (mK (mK (mK mZ)))
 simp only [zC, Nat.reduceAdd] at hq1
 have hq2 := cls_box hF1 hL0 _ _ (mK (mK (mK (mK mZ))))
 simp only [zC, Nat.reduceAdd] at hq2
 refine region_qs 6 (C := fun w' => ∃ x, w' = F x) (by kernel_rfl) (by kernel_rfl) (cls_drew hF2) ?_
 simp only [zT]
 repeat (go_big_quiet_step (first | fail | (go_at_call 216; with_reducible exact cls_call hF1 hF2 HP.out _) | (go_at_call 184; with_reducible exact cls_call hF1 hF2 HQ.out _)))
 refine wpQuiet_nil ?_
 rintro wq ⟨xq, rfl⟩
 replace hL0 := hL0.call (hF1 xq)
 clear  hq0 hq1 hq2 hF2
 generalize F xq = x3 at hL0 ⊢
 clear hF1 xq iα F α
 have hA := hL0.fc
 simp only [zF, Nat.reduceAdd] at hA
 obtain ⟨x4, hput1, hP⟩ := GL.named (hL0.put 2 (w.heap.size + 1 + 1) _ rfl [.int .u64 ((zl u : Nat) : Int), .string (zh u), .bool (zs u)] rfl)
 simp only [setAll] at hput1
 simp only [List.set_cons_zero, List.set_cons_succ] at hP
 have hB1 := hP.fc
 simp only [zF, Nat.reduceAdd] at hB1
 replace hL0 := hP
 obtain ⟨x5, hput2, hP⟩ := GL.named (hL0.put 1 (w.heap.size + 1 + 1 + 1) _ rfl [.int .u64 ((lo v : Nat) : Int), .string (hs v)] rfl)
 simp only [setAll] at hput2
 simp only [List.set_cons_zero, List.set_cons_succ] at hP
 have hB2 := hP.fc
 simp only [zF, Nat.reduceAdd] at hB2
 replace hL0 := hP
 go_wp2_with fail
 exact bodyPost_ret (v := .tuple #[intV u, natV v]) (by simp [results, Tryz.results171, go_sem, hB2]) rfl ⟨rfl, hL0.bl⟩
theorem times_one (z : Int) (HO : RT 17 #[.int .u64 1] (natV 1)) (w : World) :
  Calls Tryz.prog 185 #[intV z, natV 1] w fun xe w' => xe = .returned (intV z) ∧ Below w.heap.size w w' := by
 have hL0 : GL w w [] := GL.start w
 replace HO := Lib.hid HO
 obtain ⟨x1, hweq, hL0⟩ := GL.named (((hL0.new rfl [.int .u64 ((zl z : Nat) : Int), .string (zh z), .bool (zs z)] 32).new (K := w.heap.size + 1) (szA _ _) [.int .u64 ((lo 1 : Nat) : Int), .string (hs 1)] 30).new (K := w.heap.size + 1 + 1) (by simp only [World.size_alloc]) [.int .u64 0, .string ⟨#[]⟩, .bool false] 32)
 go_enter Tryz.func185, Tryz.ntmps185
 go_upto_region 1 with fail
 clear hweq
 obtain ⟨α, iα, F, hF1, hF2⟩ := cls x1
 have hq0 := cls_box hF1 hL0 _ _ (mK mZ)
 simp only [zC, Nat.reduceAdd] at hq0
 refine region_qs 3 (C := fun w' => ∃ x, w' = F x) (by kernel_rfl) (by kernel_rfl) (cls_drew hF2) ?_
 simp only [zT]
 repeat (go_big_quiet_step (first | fail | (go_at_call 17; with_reducible exact cls_call hF1 hF2 HO.out _)))
 refine wpQuiet_nil ?_
 rintro wq ⟨xq, rfl⟩
 replace hL0 := hL0.call (hF1 xq)
 clear  hq0 hF2
 generalize F xq = x2 at hL0 ⊢
 clear hF1 xq iα F α
 have hA := hL0.fc
 simp only [zF, Nat.reduceAdd] at hA
 obtain ⟨x3, hput1, hP⟩ := GL.named (hL0.put 0 (w.heap.size + 1 + 1) _ rfl [.int .u64 ((zl z : Nat) : Int), .string (zh z), .bool (zs z)] rfl)
 simp only [setAll] at hput1
 simp only [List.set_cons_zero, List.set_cons_succ] at hP
 have hB1 := hP.fc
 simp only [zF, Nat.reduceAdd] at hB1
 replace hL0 := hP
 go_wp2_with fail
 exact bodyPost_ret (v := intV z) (by simp [results, Tryz.results185, go_sem, hB1]) rfl ⟨rfl, hL0.bl⟩
theorem times_mul (z f p : Int) (d : Nat) (HO : RT 17 #[.int .u64 1] (natV 1)) (HF : RT 19 #[.bool false, natV d] (intV f)) (HM : RT 141 #[intV z, intV f] (intV p)) (hd : d ≠ 1) (w : World) :
  Calls Tryz.prog 185 #[intV z, natV d] w fun xe w' => xe = .returned (intV p) ∧ Below w.heap.size w w' := by
 have hL0 : GL w w [] := GL.start w
 replace HO := Lib.hid HO
 replace HF := Lib.hid HF
 replace HM := Lib.hid HM
 have hz := ne_nat hd
 clear hd
 rcases hz with e0 | ⟨e0, e1⟩
 all_goals (
  obtain ⟨x1, hweq, hL0⟩ := GL.named (((hL0.new rfl [.int .u64 ((zl z : Nat) : Int), .string (zh z), .bool (zs z)] 32).new (K := w.heap.size + 1) (szA _ _) [.int .u64 ((lo d : Nat) : Int), .string (hs d)] 30).new (K := w.heap.size + 1 + 1) (by simp only [World.size_alloc]) [.int .u64 0, .string ⟨#[]⟩, .bool false] 32)
  go_enter Tryz.func185, Tryz.ntmps185
  go_upto_region 1 with fail
  clear hweq
  obtain ⟨α, iα, F, hF1, hF2⟩ := cls x1
  have hq0 := cls_box hF1 hL0 _ _ (mK mZ)
  simp only [zC, Nat.reduceAdd] at hq0
  refine region_qs 3 (C := fun w' => ∃ x, w' = F x) (by kernel_rfl) (by kernel_rfl) (cls_drew hF2) ?_
  simp only [zT]
  repeat (go_big_quiet_step (first | fail | (go_at_call 17; with_reducible exact cls_call hF1 hF2 HO.out _)))
  refine wpQuiet_nil ?_
  rintro wq ⟨xq, rfl⟩
  replace hL0 := hL0.call (hF1 xq)
  clear  hq0 hF2
  generalize F xq = x2 at hL0 ⊢
  clear hF1 xq iα F α
  go_upto_region 3 with fail
  obtain ⟨α, iα, F, hF1, hF2⟩ := cls x2
  have hq0 := cls_box hF1 hL0 _ _ (mK mZ)
  simp only [zC, Nat.reduceAdd] at hq0
  have hq1 := cls_box hF1 hL0 _ _ (mK (mK mZ))
  simp only [zC, Nat.reduceAdd] at hq1
  refine region_qs 4 (C := fun w' => ∃ x, w' = F x) (by kernel_rfl) (by kernel_rfl) (cls_drew hF2) ?_
  simp only [zT]
  repeat (go_big_quiet_step (first | fail | (go_at_call 19; with_reducible exact cls_call hF1 hF2 HF.out _) | (go_at_call 141; with_reducible exact cls_call hF1 hF2 HM.out _)))
  refine wpQuiet_nil ?_
  rintro wq ⟨xq, rfl⟩
  replace hL0 := hL0.call (hF1 xq)
  clear  hq0 hq1 hF2
  generalize F xq = x3 at hL0 ⊢
  clear hF1 xq iα F α
  have hA := hL0.fc
  simp only [zF, Nat.reduceAdd] at hA
  obtain ⟨x4, hput1, hP⟩ := GL.named (hL0.put 0 (w.heap.size + 1 + 1) _ rfl [.int .u64 ((zl p : Nat) : Int), .string (zh p), .bool (zs p)] rfl)
  simp only [setAll] at hput1
  simp only [List.set_cons_zero, List.set_cons_succ] at hP
  have hB1 := hP.fc
  simp only [zF, Nat.reduceAdd] at hB1
  replace hL0 := hP
  go_wp2_with fail
  exact bodyPost_ret (v := intV p) (by simp [results, Tryz.results185, go_sem, hB1]) rfl ⟨rfl, hL0.bl⟩)
theorem int_w (k z : Int) (HO : RT 23 #[.int .i64 k] (intV z)) (w : World) :
  Calls Tryz.prog 36 #[.int .i64 k] w fun xe w' => xe = .returned (.agg #[.int .u64 ((zl z : Nat) : Int), .string (zh z), .bool (zs z), .int .u64 0, .string ⟨#[]⟩]) ∧ Below w.heap.size w w' := by
 have hL0 : GL w w [] := GL.start w
 replace HO := Lib.hid HO
 obtain ⟨x1, hweq, hL0⟩ := GL.named (hL0.new rfl [.int .u64 0, .string ⟨#[]⟩, .bool false, .int .u64 0, .string ⟨#[]⟩] 34)
 go_enter Tryz.func36, Tryz.ntmps36
 go_wp2_with fail
 with_reducible refine Calls.mono (HO.out _) ?_
 rintro e x2 ⟨rfl, hb⟩
 replace hL0 := hL0.call hb
 clear hb hweq
 have hA := hL0.fc
 simp only [zF, Nat.reduceAdd] at hA
 obtain ⟨x3, hput1, hP⟩ := GL.named (hL0.put 0 (w.heap.size) _ rfl [.int .u64 ((zl z : Nat) : Int), .string (zh z), .bool (zs z), .int .u64 0, .string ⟨#[]⟩] rfl)
 simp only [setAll] at hput1
 simp only [List.set_cons_zero, List.set_cons_succ] at hP
 have hB1 := hP.fc
 simp only [zF, Nat.reduceAdd] at hB1
 replace hL0 := hP
 go_wp2_with fail
 exact bodyPost_ret (v := .agg #[.int .u64 ((zl z : Nat) : Int), .string (zh z), .bool (zs z), .int .u64 0, .string ⟨#[]⟩]) (by simp [results, Tryz.results36, go_sem, hB1]) rfl ⟨rfl, hL0.bl⟩
theorem fof_true (x y s z p : Int) (a b : Int) (d e : Nat) (c : Int) (HO : RT 23 #[.int .i64 a] (intV x)) (HQ : RT 23 #[.int .i64 b] (intV y)) (HS : RT 117 #[intV y] (.int .i64 s)) (HN : RT 121 #[intV x] (intV z)) (HA : RT 123 #[intV y] (natV d)) (HF : RT 122 #[intV z, natV d] (.tuple #[frV p e, .int .i64 c])) (hsg : decide (s < 0) = true) (w : World) :
  Calls Tryz.prog 47 #[.int .i64 a, .int .i64 b] w fun xe w' => xe = .returned (.tuple #[frV p e, .int .i64 c]) ∧ Below w.heap.size w w' := by
 have hL0 : GL w w [] := GL.start w
 replace HO := Lib.hid HO
 replace HQ := Lib.hid HQ
 replace HS := Lib.hid HS
 replace HN := Lib.hid HN
 replace HA := Lib.hid HA
 replace HF := Lib.hid HF
 obtain ⟨x1, hweq, hL0⟩ := GL.named (hL0.new rfl [.int .u64 0, .string ⟨#[]⟩, .bool false, .int .u64 0, .string ⟨#[]⟩] 34)
 go_enter Tryz.func47, Tryz.ntmps47
 go_wp2_with fail
 with_reducible refine Calls.mono (HO.out _) ?_
 rintro e x2 ⟨rfl, hb⟩
 replace hL0 := hL0.call hb
 clear hb hweq
 go_wp2_with fail
 with_reducible refine Calls.mono (HQ.out _) ?_
 rintro e x3 ⟨rfl, hb⟩
 replace hL0 := hL0.call hb
 clear hb
 obtain ⟨x4, hweq, hL0⟩ := GL.named ((hL0.new rfl [.int .u64 ((zl x : Nat) : Int), .string (zh x), .bool (zs x)] 32).new (K := x3.heap.size + 1) (szA _ _) [.int .u64 ((zl y : Nat) : Int), .string (zh y), .bool (zs y)] 32)
 have hN0 := cells_of _ 0 [] rfl (hL0.get _ _ mZ)
 simp only [zF, Nat.reduceAdd] at hN0
 go_wp2_with fail
 clear hN0
 with_reducible refine Calls.mono (HS.out _) ?_
 rintro e x5 ⟨rfl, hb⟩
 replace hL0 := hL0.call hb
 clear hb hweq
 have hN0 := cells_of _ 0 [] rfl (hL0.get _ _ (mK mZ))
 simp only [zF, Nat.reduceAdd] at hN0
 go_wp2_with fail
 clear hN0
 with_reducible refine Calls.mono (HN.out _) ?_
 rintro e x6 ⟨rfl, hb⟩
 replace hL0 := hL0.call hb
 clear hb
 have hA := hL0.fc
 simp only [zF, Nat.reduceAdd] at hA
 obtain ⟨x7, hput1, hP⟩ := GL.named (hL0.put 1 (x3.heap.size) _ rfl [.int .u64 ((zl z : Nat) : Int), .string (zh z), .bool (zs z)] rfl)
 simp only [setAll] at hput1
 simp only [List.set_cons_zero, List.set_cons_succ] at hP
 have hB1 := hP.fc
 simp only [zF, Nat.reduceAdd] at hB1
 replace hL0 := hP
 go_upto_region 4 with fail
 clear hA
 clear hput1 hB1
 obtain ⟨α, iα, F, hF1, hF2⟩ := cls x7
 have hq0 := cls_box hF1 hL0 _ _ mZ
 simp only [zC, Nat.reduceAdd] at hq0
 have hq1 := cls_box hF1 hL0 _ _ (mK mZ)
 simp only [zC, Nat.reduceAdd] at hq1
 refine region_qs 6 (C := fun w' => ∃ x, w' = F x) (by kernel_rfl) (by kernel_rfl) (cls_drew hF2) ?_
 simp only [zT]
 repeat (go_big_quiet_step (first | fail | (go_at_call 123; with_reducible exact cls_call hF1 hF2 HA.out _) | (go_at_call 122; with_reducible exact cls_call hF1 hF2 HF.out _)))
 refine wpQuiet_nil ?_
 rintro wq ⟨xq, rfl⟩
 replace hL0 := hL0.call (hF1 xq)
 clear  hq0 hq1 hF2
 generalize F xq = x8 at hL0 ⊢
 clear hF1 xq iα F α
 have hA := hL0.fc
 simp only [zF, Nat.reduceAdd] at hA
 obtain ⟨x9, hput2, hP⟩ := GL.named (hL0.put 2 (w.heap.size) _ rfl [.int .u64 ((zl p : Nat) : Int), .string (zh p), .bool (zs p), .int .u64 ((lo e : Nat) : Int), .string (hs e)] rfl)
 simp only [setAll] at hput2
 simp only [List.set_cons_zero, List.set_cons_succ] at hP
 have hB2 := hP.fc
 simp only [zF, Nat.reduceAdd] at hB2
 replace hL0 := hP
 go_wp2_with fail
 exact bodyPost_ret (v := .tuple #[frV p e, .int .i64 c]) (by simp [results, Tryz.results47, go_sem, hB2]) rfl ⟨rfl, hL0.bl⟩
theorem fof_false (x y s z p : Int) (a b : Int) (d e : Nat) (c : Int) (HO : RT 23 #[.int .i64 a] (intV x)) (HQ : RT 23 #[.int .i64 b] (intV y)) (HS : RT 117 #[intV y] (.int .i64 s)) (HA : RT 123 #[intV y] (natV d)) (HF : RT 122 #[intV x, natV d] (.tuple #[frV p e, .int .i64 c])) (hsg : decide (s < 0) = false) (w : World) :
  Calls Tryz.prog 47 #[.int .i64 a, .int .i64 b] w fun xe w' => xe = .returned (.tuple #[frV p e, .int .i64 c]) ∧ Below w.heap.size w w' := by
 have hL0 : GL w w [] := GL.start w
 replace HO := Lib.hid HO
 replace HQ := Lib.hid HQ
 replace HS := Lib.hid HS
 replace HA := Lib.hid HA
 replace HF := Lib.hid HF
 obtain ⟨x1, hweq, hL0⟩ := GL.named (hL0.new rfl [.int .u64 0, .string ⟨#[]⟩, .bool false, .int .u64 0, .string ⟨#[]⟩] 34)
 go_enter Tryz.func47, Tryz.ntmps47
 go_wp2_with fail
 with_reducible refine Calls.mono (HO.out _) ?_
 rintro e x2 ⟨rfl, hb⟩
 replace hL0 := hL0.call hb
 clear hb hweq
 go_wp2_with fail
 with_reducible refine Calls.mono (HQ.out _) ?_
 rintro e x3 ⟨rfl, hb⟩
 replace hL0 := hL0.call hb
 clear hb
 obtain ⟨x4, hweq, hL0⟩ := GL.named ((hL0.new rfl [.int .u64 ((zl x : Nat) : Int), .string (zh x), .bool (zs x)] 32).new (K := x3.heap.size + 1) (szA _ _) [.int .u64 ((zl y : Nat) : Int), .string (zh y), .bool (zs y)] 32)
 have hN0 := cells_of _ 0 [] rfl (hL0.get _ _ mZ)
 simp only [zF, Nat.reduceAdd] at hN0
 go_wp2_with fail
 clear hN0
 with_reducible refine Calls.mono (HS.out _) ?_
 rintro e x5 ⟨rfl, hb⟩
 replace hL0 := hL0.call hb
 clear hb hweq
 go_upto_region 4 with fail
 obtain ⟨α, iα, F, hF1, hF2⟩ := cls x5
 have hq0 := cls_box hF1 hL0 _ _ mZ
 simp only [zC, Nat.reduceAdd] at hq0
 have hq1 := cls_box hF1 hL0 _ _ (mK mZ)
 simp only [zC, Nat.reduceAdd] at hq1
 refine region_qs 6 (C := fun w' => ∃ x, w' = F x) (by kernel_rfl) (by kernel_rfl) (cls_drew hF2) ?_
 simp only [zT]
 repeat (go_big_quiet_step (first | fail | (go_at_call 123; with_reducible exact cls_call hF1 hF2 HA.out _) | (go_at_call 122; with_reducible exact cls_call hF1 hF2 HF.out _)))
 refine wpQuiet_nil ?_
 rintro wq ⟨xq, rfl⟩
 replace hL0 := hL0.call (hF1 xq)
 clear  hq0 hq1 hF2
 generalize F xq = x6 at hL0 ⊢
 clear hF1 xq iα F α
 have hA := hL0.fc
 simp only [zF, Nat.reduceAdd] at hA
 obtain ⟨x7, hput1, hP⟩ := GL.named (hL0.put 2 (w.heap.size) _ rfl [.int .u64 ((zl p : Nat) : Int), .string (zh p), .bool (zs p), .int .u64 ((lo e : Nat) : Int), .string (hs e)] rfl)
 simp only [setAll] at hput1
 simp only [List.set_cons_zero, List.set_cons_succ] at hP
 have hB1 := hP.fc
 simp only [zF, Nat.reduceAdd] at hB1
 replace hL0 := hP
 go_wp2_with fail
 exact bodyPost_ret (v := .tuple #[frV p e, .int .i64 c]) (by simp [results, Tryz.results47, go_sem, hB1]) rfl ⟨rfl, hL0.bl⟩
theorem floor_w (n y q r : Int) (e d : Nat) (HD : RT 45 #[frV n e] (natV d)) (HF : RT 19 #[.bool false, natV d] (intV y)) (HV : RT 21 #[intV n, intV y] (.tuple #[intV q, intV r, .bool true])) (w : World) :
  Calls Tryz.prog 228 #[frV n e] w fun xe w' => xe = .returned (intV q) ∧ Below w.heap.size w w' := by
 have hL0 : GL w w [] := GL.start w
 replace HD := Lib.hid HD
 replace HF := Lib.hid HF
 replace HV := Lib.hid HV
 obtain ⟨x1, hweq, hL0⟩ := GL.named ((hL0.new rfl [.int .u64 ((zl n : Nat) : Int), .string (zh n), .bool (zs n), .int .u64 ((lo e : Nat) : Int), .string (hs e)] 34).new (K := w.heap.size + 1) (szA _ _) [.int .u64 0, .string ⟨#[]⟩, .bool false] 32)
 go_enter Tryz.func228, Tryz.ntmps228
 go_upto_region 1 with fail
 clear hweq
 refine region_gh (by kernel_rfl) (by kernel_rfl) ?_
 refine lex_seg (gl := []) 10 (by kernel_rfl) ?_
 intro α iα F hF1 hF2
 have hq := GL.seg hF1 hL0
 simp only [zC, Nat.reduceAdd] at hq
 simp only [zT]
 repeat (go_big_quiet_step (first | fail | (go_at_call 45; with_reducible exact seg_call hF2 HD.out _) | (go_at_call 19; with_reducible exact seg_call hF2 HF.out _) | (go_at_call 21; with_reducible exact seg_call hF2 HV.out _)))
 refine wpQuiet_nil ?_
 clear hq hF1 hF2 iα F α
 refine lex_new [.int .u64 0, .string ⟨#[]⟩, .bool false] 3 32 32 rfl rfl (of_decide_eq_true (by kernel_rfl)) (by kernel_rfl) rfl new_int ?_
 simp only [Act.put, zP]
 refine lex_new [.int .u64 0, .string ⟨#[]⟩, .bool false] 4 32 32 rfl rfl (of_decide_eq_true (by kernel_rfl)) (by kernel_rfl) rfl new_int ?_
 simp only [Act.put, zP]
 refine lex_put [.int .u64 ((zl q : Nat) : Int), .string (zh q), .bool (zs q)] [.int .u64 0, .string ⟨#[]⟩, .bool false] 3 32 (.tmp 13) rfl (by kernel_rfl) (by simp [toG, upd]) rfl (fun w k h => put_int _ _ _ _ _ _ w k h) ?_
 simp only [Act.put]
 refine lex_put [.int .u64 ((zl r : Nat) : Int), .string (zh r), .bool (zs r)] [.int .u64 0, .string ⟨#[]⟩, .bool false] 4 32 (.tmp 14) rfl (by kernel_rfl) (by simp [toG, upd]) rfl (fun w k h => put_int _ _ _ _ _ _ w k h) ?_
 simp only [Act.put]
 refine lex_seg (gl := [(4, [.int .u64 ((zl r : Nat) : Int), .string (zh r), .bool (zs r)], true), (3, [.int .u64 ((zl q : Nat) : Int), .string (zh q), .bool (zs q)], true), (4, [.int .u64 0, .string ⟨#[]⟩, .bool false], false), (3, [.int .u64 0, .string ⟨#[]⟩, .bool false], false)]) 1 (by kernel_rfl) ?_
 intro α iα F hF1 hF2
 have hq := GL.seg hF1 hL0
 simp only [zC, Nat.reduceAdd] at hq
 simp only [zT]
 repeat (go_big_quiet_step (first | fail | (go_at_call 45; with_reducible exact seg_call hF2 HD.out _) | (go_at_call 19; with_reducible exact seg_call hF2 HF.out _) | (go_at_call 21; with_reducible exact seg_call hF2 HV.out _)))
 refine wpQuiet_nil ?_
 clear hq hF1 hF2 iα F α
 refine lexG_nil ?_
 intro κ x2 hS
 replace hL0 := hL0.ghs hS [(4, [.int .u64 ((zl r : Nat) : Int), .string (zh r), .bool (zs r)]), (3, [.int .u64 ((zl q : Nat) : Int), .string (zh q), .bool (zs q)])] (by simp) (by intro p hp; simp only [List.mem_cons, List.not_mem_nil, or_false] at hp; rcases hp with rfl | rfl <;> exact ⟨_, by simp only [toG, upd]; rfl⟩)
 simp only [List.map_cons, List.map_nil, List.cons_append, List.nil_append] at hL0
 simp only [over_toG, over_nil, Act.put, zP]
 clear hS
 generalize κ 4 = k2_4 at *
 generalize κ 3 = k2_3 at *
 have hA := hL0.fc
 simp only [zF, Nat.reduceAdd] at hA
 obtain ⟨x3, hput1, hP⟩ := GL.named (hL0.put 2 (w.heap.size + 1) _ rfl [.int .u64 ((zl q : Nat) : Int), .string (zh q), .bool (zs q)] rfl)
 simp only [setAll] at hput1
 simp only [List.set_cons_zero, List.set_cons_succ] at hP
 have hB1 := hP.fc
 simp only [zF, Nat.reduceAdd] at hB1
 replace hL0 := hP
 go_wp2_with fail
 exact bodyPost_ret (v := intV q) (by simp [results, Tryz.results228, go_sem, hB1]) rfl ⟨rfl, hL0.bl⟩
theorem ceil_w (n m q p : Int) (e : Nat) (HN : RT 257 #[frV n e] (frV m e)) (HF : RT 228 #[frV m e] (intV q)) (HG : RT 121 #[intV q] (intV p)) (w : World) :
  Calls Tryz.prog 229 #[frV n e] w fun xe w' => xe = .returned (intV p) ∧ Below w.heap.size w w' := by
 have hL0 : GL w w [] := GL.start w
 replace HN := Lib.hid HN
 replace HF := Lib.hid HF
 replace HG := Lib.hid HG
 obtain ⟨x1, hweq, hL0⟩ := GL.named ((hL0.new rfl [.int .u64 ((zl n : Nat) : Int), .string (zh n), .bool (zs n), .int .u64 ((lo e : Nat) : Int), .string (hs e)] 34).new (K := w.heap.size + 1) (szA _ _) [.int .u64 0, .string ⟨#[]⟩, .bool false] 32)
 go_enter Tryz.func229, Tryz.ntmps229
 have hN0 := cells_of _ 0 [] rfl (hL0.get _ _ (mK mZ))
 simp only [zF, Nat.reduceAdd] at hN0
 go_wp2_with fail
 clear hN0
 with_reducible refine Calls.mono (HN.out _) ?_
 rintro e x2 ⟨rfl, hb⟩
 replace hL0 := hL0.call hb
 clear hb hweq
 go_wp2_with fail
 with_reducible refine Calls.mono (HF.out _) ?_
 rintro e x3 ⟨rfl, hb⟩
 replace hL0 := hL0.call hb
 clear hb
 go_wp2_with fail
 with_reducible refine Calls.mono (HG.out _) ?_
 rintro e x4 ⟨rfl, hb⟩
 replace hL0 := hL0.call hb
 clear hb
 have hA := hL0.fc
 simp only [zF, Nat.reduceAdd] at hA
 obtain ⟨x5, hput1, hP⟩ := GL.named (hL0.put 0 (w.heap.size + 1) _ rfl [.int .u64 ((zl p : Nat) : Int), .string (zh p), .bool (zs p)] rfl)
 simp only [setAll] at hput1
 simp only [List.set_cons_zero, List.set_cons_succ] at hP
 have hB1 := hP.fc
 simp only [zF, Nat.reduceAdd] at hB1
 replace hL0 := hP
 go_wp2_with fail
 exact bodyPost_ret (v := intV p) (by simp [results, Tryz.results229, go_sem, hB1]) rfl ⟨rfl, hL0.bl⟩
theorem fneg_w (n m : Int) (e : Nat) (HN : RT 121 #[intV n] (intV m)) (w : World) :
  Calls Tryz.prog 257 #[frV n e] w fun xe w' => xe = .returned (frV m e) ∧ Below w.heap.size w w' := by
 have hL0 : GL w w [] := GL.start w
 replace HN := Lib.hid HN
 obtain ⟨x1, hweq, hL0⟩ := GL.named ((hL0.new rfl [.int .u64 ((zl n : Nat) : Int), .string (zh n), .bool (zs n), .int .u64 ((lo e : Nat) : Int), .string (hs e)] 34).new (K := w.heap.size + 1) (szA _ _) [.int .u64 0, .string ⟨#[]⟩, .bool false, .int .u64 0, .string ⟨#[]⟩] 34)
 go_enter Tryz.func257, Tryz.ntmps257
 go_upto_region 1 with fail
 clear hweq
 obtain ⟨α, iα, F, hF1, hF2⟩ := cls x1
 have hq0 := cls_box hF1 hL0 _ _ (mK mZ)
 simp only [zC, Nat.reduceAdd] at hq0
 refine region_qs 6 (C := fun w' => ∃ x, w' = F x) (by kernel_rfl) (by kernel_rfl) (cls_drew hF2) ?_
 simp only [zT]
 repeat (go_big_quiet_step (first | fail | (go_at_call 121; with_reducible exact cls_call hF1 hF2 HN.out _)))
 refine wpQuiet_nil ?_
 rintro wq ⟨xq, rfl⟩
 replace hL0 := hL0.call (hF1 xq)
 clear  hq0 hF2
 generalize F xq = x2 at hL0 ⊢
 clear hF1 xq iα F α
 have hA := hL0.fc
 simp only [zF, Nat.reduceAdd] at hA
 obtain ⟨x3, hput1, hP⟩ := GL.named (hL0.put 0 (w.heap.size + 1) _ rfl [.int .u64 ((zl m : Nat) : Int), .string (zh m), .bool (zs m), .int .u64 ((lo e : Nat) : Int), .string (hs e)] rfl)
 simp only [setAll] at hput1
 simp only [List.set_cons_zero, List.set_cons_succ] at hP
 have hB1 := hP.fc
 simp only [zF, Nat.reduceAdd] at hB1
 replace hL0 := hP
 go_wp2_with fail
 exact bodyPost_ret (v := frV m e) (by simp [results, Tryz.results257, go_sem, hB1]) rfl ⟨rfl, hL0.bl⟩
end Go.Proofs.YtaimebjkidegiaaGreatDoor
