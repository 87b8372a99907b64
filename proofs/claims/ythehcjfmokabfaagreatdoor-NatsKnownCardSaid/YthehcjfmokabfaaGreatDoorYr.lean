/-
  The reference of layer 1, walks E: numbers; OfWords, Cmp.
-/
import Derived.Test.YthehcjfmokabfaaGreatDoorYq
import Derived.Test.YthehcjfmokabfaaGreatDoorYk
import Derived.Test.YthehcjfmokabfaaGreatDoorYn
set_option linter.unusedVariables false
set_option linter.unusedSimpArgs false
namespace Go.Proofs.YthehcjfmokabfaaGreatDoor.Rx
open Go.RowKit
attribute [local irreducible] tv dg

/-- A slice that holds a number's digits. -/
abbrev Rn (w : World) (v : Value) (n : Nat) : Prop := Sl w v (td n)
theorem rn_nil (w : World) : Rn w (.slice none 0 0) 0 := by
  show Sl _ _ (td 0)
  rw [td_zero]; exact Sl.nil _
theorem radd_any (va vb : Value) (a b : Nat) (la : (td a).length ≤ 1000000) (lb : (td b).length ≤ 1000000) (w : World) (ha : Rn w va a) (hb : Rn w vb b) :
    Calls Tryz.prog 54 #[va, vb] w fun e w' => ∃ v, e = .returned v ∧ Rn w' v (a + b) ∧ Below w.heap.size w w' := by
  have := radd_l va vb _ _ (td_lt a) (td_lt b) la lb w ha hb
  rwa [tv_td, tv_td] at this
theorem rmul_any (va vb : Value) (a b : Nat) (la : (td a).length ≤ 1000000) (lb : (td b).length ≤ 1000000) (w : World) (ha : Rn w va a) (hb : Rn w vb b) :
    Calls Tryz.prog 59 #[va, vb] w fun e w' => ∃ v, e = .returned v ∧ Rn w' v (a * b) ∧ Below w.heap.size w w' := by
  have := rmul_l va vb _ _ (td_lt a) (td_lt b) la lb w ha hb
  rwa [tv_td, tv_td] at this
theorem td_add_le {a b k : Nat} (ha : (td a).length ≤ k) (hb : (td b).length ≤ k) : (td (a + b)).length ≤ k + 1 := by
  have h1 := td_length.1 ha
  have h2 := td_length.1 hb
  refine td_length.2 ?_
  rw [Nat.pow_succ]
  omega
theorem td_mul_le {a b k m : Nat} (ha : (td a).length ≤ k) (hb : (td b).length ≤ m) : (td (a * b)).length ≤ k + m := by
  have h1 := td_length.1 ha
  have h2 := td_length.1 hb
  refine td_length.2 ?_
  rw [Nat.pow_add]
  exact Nat.lt_of_le_of_lt (Nat.mul_le_mul_left _ (Nat.le_of_lt h2)) (Nat.mul_lt_mul_of_pos_right h1 (Nat.pow_pos (by omega)))
/-- The reference's digits of a number of few words. -/
theorem td_made {l : List Nat} (h : ∀ x ∈ l, x < 4294967296) : (td (made l)).length ≤ 3 * l.length := by
  refine td_length.2 ?_
  induction l with
  | nil => exact Nat.one_pos
  | cons x l ih =>
    have h1 := ih fun y hy => h y (List.mem_cons_of_mem _ hy)
    have h2 := h x List.mem_cons_self
    rw [made, List.length_cons, Nat.mul_add, Nat.pow_add]
    rw [show (10000 : Nat) ^ (3 * 1) = 1000000000000 by rfl]
    generalize 10000 ^ (3 * l.length) = X at *
    omega

theorem rof_val (z : Int) (d : Nat) (hz : z = (d : Int)) (hd : d < 18446744073709551616) (w : World) :
    Calls Tryz.prog 92 #[.int .u64 z] w fun e w' => ∃ v, e = .returned v ∧ Rn w' v d ∧ Below w.heap.size w w' := by rw [hz]; exact rof_any d hd w

set_option maxHeartbeats 4000000 in
set_option maxRecDepth 100000 in
theorem rofw_row (a : Addr) (cc : Nat) (l : List Nat) (hl : l.length ≤ 1000) (w : World) (hw : Wd w a l) :
    Calls Tryz.prog 49 #[.slice (some a) l.length cc] w fun e w' => ∃ v, e = .returned v ∧ Rn w' v (made l) ∧ Below w.heap.size w w' := by
  obtain ⟨n, hn⟩ : ∃ n, n = l.length := ⟨_, rfl⟩
  rw [← hn] at hl ⊢
  have HW := Lib.hid hw
  have hst : made (l.drop n) = 0 := by rw [List.drop_eq_nil_of_le (by omega)]; rfl
  replace hst := Lib.hid hst
  replace hn := Lib.hid hn
  clear hw
  go_enter Tryz.func49, Tryz.ntmps49
  go_wp2_with fail
  go_loopw [3, 4] (fun v z wr => ∃ (j : Nat), j ≤ n ∧ z = .int .i64 ((j : Int) - 1) ∧ Rn wr v (made (l.drop j)) ∧ Below w.heap.size w wr) (fun _ z _ => (intOf z + 1).toNat)
  case atStart => exact ⟨n, Nat.le_refl _, by first | rfl | go_num, by rw [hst.out]; exact rn_nil _, Below.refl _ _⟩
  case round =>
    obtain ⟨j, hj, rfl, hv, hbl⟩ := hrel
    replace hv := Lib.hid hv
    cases j with
    | zero =>
      rw [List.drop_zero] at hv
      go_wp2_with fail
      go_ret
      exact ⟨_, rfl, hv.out, hbl⟩
    | succ i =>
      have hi : i < l.length := by have := hn.out; omega
      obtain ⟨x, hx⟩ : ∃ x, x = l[i] := ⟨_, rfl⟩
      have hx32 : x < 4294967296 := by rw [hx]; exact HW.out.lt _ (List.getElem_mem hi)
      have hmd : made (l.drop i) = made (l.drop (i + 1)) * 4294967296 + x := by
        rw [List.drop_eq_getElem_cons hi, made, ← hx]; omega
      have hcell : wr.cell? (a.add i) = some (.int .u32 (x : Int)) := by rw [hx]; exact (HW.out.below hbl).cell i hi
      have hlt := fun (y : Nat) (hy : y ∈ l.drop (i + 1)) => HW.out.lt y (List.mem_of_mem_drop hy)
      have htd : (td (made (l.drop (i + 1)))).length ≤ 3000 := Nat.le_trans (td_made hlt) (by rw [List.length_drop]; have := hn.out; omega)
      have htd2 : (td (made (l.drop (i + 1)) * 4294967296)).length ≤ 3003 := td_mul_le htd (show (td 4294967296).length ≤ 3 from td_length.2 (by decide))
      generalize made (l.drop (i + 1)) = m at *
      obtain ⟨C, hC⟩ : ∃ C, C = 4294967296 := ⟨_, rfl⟩
      have O1 := fun w => rof_val 4294967296 C (by rw [hC]; rfl) (by omega) w
      have O2 := fun w => rof_any x (by omega) w
      have M := fun va vb w ha hb => rmul_any va vb m C (by omega) (by have : (td C).length ≤ 3 := by rw [hC]; exact td_length.2 (by decide)
                                                                       omega) w ha hb
      have A := fun va vb w ha hb => radd_any va vb (m * C) x (by rw [hC]; omega) (by have : (td x).length ≤ 3 := td_length.2 (by omega)
                                                                                      omega) w ha hb
      rw [hC, ← hmd, ← hC] at A
      rw [← hC] at hmd
      replace hmd := Lib.hid hmd
      replace O1 := Lib.hid O1
      replace O2 := Lib.hid O2
      replace M := Lib.hid M
      replace A := Lib.hid A
      have hin : (i : Int) < (n : Int) := by have := hn.out; omega
      have hib : (i : Int) ≤ 1000 := by omega
      have hwx : IntKind.u64.wrap (x : Int) = (x : Int) := wrapN _ (by omega)
      have e1 : (((i + 1 : Nat) : Int) - 1) = (i : Int) := by omega
      rw [e1]
      clear hx hC htd htd2 hlt hx32
      go_wp2_with fail
      have hcd : wr.drew.cell? (a.add i) = some (.int .u32 (x : Int)) := hcell
      have hak : (a.add i).block < wr.drew.heap.size := by rw [addB]; exact Nat.lt_of_lt_of_le HW.out.blk hbl.size
      have hv0 := Lib.hid hv.out.drew
      go_region_held3 (fun w' => w'.cell? (a.add i) = some (.int .u32 (x : Int)))
        (first | exact hcd | exact hc1 | exact hc2 | exact hc3 | exact hc4)
        (first
          | (go_at_call 92; ((with_reducible refine Calls.mono (O1.out _) ?_); rintro e w1 ⟨v1, rfl, hv1, hb1⟩; have hc1 := (hb1.cell (p := a.add i) hak).trans hcd; replace hv1 := Lib.hid hv1))
          | (go_at_call 59; ((with_reducible refine Calls.mono (M.out _ _ _ (hv0.out.below hb1) hv1.out) ?_); rintro e w2 ⟨v2, rfl, hv2, hb2⟩; have hc2 := (hb2.cell (p := a.add i) (Nat.lt_of_lt_of_le hak hb1.size)).trans hc1; replace hv2 := Lib.hid hv2))
          | (go_at_call 92; ((with_reducible refine Calls.mono (O2.out _) ?_); rintro e w3 ⟨v3, rfl, hv3, hb3⟩; have hc3 := (hb3.cell (p := a.add i) (Nat.lt_of_lt_of_le hak (Nat.le_trans hb1.size hb2.size))).trans hc2; replace hv3 := Lib.hid hv3))
          | (go_at_call 54; ((with_reducible refine Calls.mono (A.out _ _ _ (hv2.out.below hb3) hv3.out) ?_); rintro e w4 ⟨v4, rfl, hv4, hb4⟩; have hc4 := (hb4.cell (p := a.add i) (Nat.lt_of_lt_of_le hak (Nat.le_trans hb1.size (Nat.le_trans hb2.size hb3.size)))).trans hc3; replace hv4 := Lib.hid hv4)))
      go_wp2_with fail
      go_roundw
      case rel => exact ⟨i, by omega, by first | rfl | go_num, hv4.out, (((hbl.drew.trans (hb1.mono hbl.size)).trans (hb2.mono (Nat.le_trans hbl.size hb1.size))).trans (hb3.mono (Nat.le_trans hbl.size (Nat.le_trans hb1.size hb2.size)))).trans (hb4.mono (Nat.le_trans hbl.size (Nat.le_trans hb1.size (Nat.le_trans hb2.size hb3.size))))⟩
      case measure => simp [intOf]
end Go.Proofs.YthehcjfmokabfaaGreatDoor.Rx

/-
  The reference of layer 1, walks F: OfWords at every slice; Cmp, Sub.
-/
namespace Go.Proofs.YthehcjfmokabfaaGreatDoor.Rx
open Go.RowKit
attribute [local irreducible] tv dg cmpI

theorem rofw_nil (ao : Option Addr) (c : Nat) (w : World) :
    Calls Tryz.prog 49 #[.slice ao 0 c] w fun e w' => ∃ v, e = .returned v ∧ Rn w' v 0 ∧ Below w.heap.size w w' := by
  go_enter Tryz.func49, Tryz.ntmps49
  go_wp2_with fail
  go_loopw [3, 4] (fun v z wr => v = .slice none 0 0 ∧ z = .int .i64 (-1) ∧ wr = w) (fun _ z _ => (intOf z + 1).toNat)
  case atStart => exact ⟨rfl, rfl, rfl⟩
  case round =>
    obtain ⟨rfl, rfl, rfl⟩ := hrel
    go_wp2_with fail
    go_ret
    exact ⟨_, rfl, rn_nil _, Below.refl _ _⟩
theorem rofw_any (v : Value) (l : List Nat) (hl : l.length ≤ 1000) (w : World) (h : Ws w v l) :
    Calls Tryz.prog 49 #[v] w fun e w' => ∃ v, e = .returned v ∧ Rn w' v (made l) ∧ Below w.heap.size w w' := by
  rcases h with ⟨ao, c, rfl, rfl⟩ | ⟨a, c, rfl, h2⟩
  · exact rofw_nil ao c w
  · exact rofw_row a c l hl w h2

/-- Digits from a place on, compared. -/
theorem tv_split {l : List Nat} {i : Nat} (h : i < l.length) : tv l = tv (l.take i) + 10000 ^ i * (l[i] + 10000 * tv (l.drop (i + 1))) := by
  have e := tv_append (l.take i) (l.drop i)
  rw [List.take_append_drop, List.length_take, Nat.min_eq_left (Nat.le_of_lt h), List.drop_eq_getElem_cons h] at e
  rw [e]
  rw [tv_cons]
theorem tv_less {A B : List Nat} {i : Nat} (hA : ∀ d ∈ A, d < 10000) (ha : i < A.length) (hb : i < B.length) (hd : A.drop (i + 1) = B.drop (i + 1)) (h : A[i] < B[i]) : tv A < tv B := by
  rw [tv_split ha, tv_split hb, hd]
  have h1 := tv_lt (l := A.take i) fun d hd => hA d (List.mem_of_mem_take hd)
  rw [List.length_take, Nat.min_eq_left (Nat.le_of_lt ha)] at h1
  have h2 : 10000 ^ i * (A[i] + 10000 * tv (B.drop (i + 1)) + 1) ≤ 10000 ^ i * (B[i] + 10000 * tv (B.drop (i + 1))) := Nat.mul_le_mul_left _ (by omega)
  rw [Nat.mul_add _ _ 1, Nat.mul_one] at h2
  omega

set_option maxHeartbeats 4000000 in
set_option maxRecDepth 100000 in
theorem rcmp_any (va vb : Value) (a b : Nat) (la : (td a).length ≤ 1000000) (lb : (td b).length ≤ 1000000) (w : World) (ha : Rn w va a) (hb : Rn w vb b) :
    Calls Tryz.prog 50 #[va, vb] w fun e w' => e = .returned (.int .i64 (cmpI a b)) ∧ Below w.heap.size w w' := by
  obtain ⟨aa, ca, ea, hva⟩ := ha.view
  obtain ⟨ab, cb, eb, hvb⟩ := hb.view
  subst ea eb
  have hA := td_lt a
  have hB := td_lt b
  have va1 := tv_td a
  have vb1 := tv_td b
  have hlt : (td a).length < (td b).length → cmpI a b = -1 := fun h => cmpI_lt (Nat.lt_of_not_le fun h2 => by have := td_mono h2; omega)
  have hgt : (td b).length < (td a).length → cmpI a b = 1 := fun h => cmpI_gt (Nat.lt_of_not_le fun h2 => by have := td_mono h2; omega)
  have hless : tv (td a) < tv (td b) → cmpI a b = -1 := fun h => cmpI_lt (by rwa [va1, vb1] at h)
  have hmore : tv (td b) < tv (td a) → cmpI a b = 1 := fun h => cmpI_gt (by rwa [va1, vb1] at h)
  have hsame : td a = td b → cmpI a b = 0 := fun h => by rw [show a = b by rw [← va1, ← vb1, h]]; exact cmpI_eq b
  clear va1 vb1 ha hb
  generalize td a = A at *
  generalize td b = B at *
  obtain ⟨n, hn⟩ : ∃ n, n = A.length := ⟨_, rfl⟩
  obtain ⟨m, hm⟩ : ∃ m, m = B.length := ⟨_, rfl⟩
  rw [← hn] at la hlt hgt hva ⊢
  rw [← hm] at lb hlt hgt hvb ⊢
  replace hA := Lib.hid hA
  replace hB := Lib.hid hB
  replace hlt := Lib.hid hlt
  replace hgt := Lib.hid hgt
  replace hless := Lib.hid hless
  replace hmore := Lib.hid hmore
  replace hsame := Lib.hid hsame
  replace hva := Lib.hid hva
  replace hvb := Lib.hid hvb
  replace hn := Lib.hid hn
  replace hm := Lib.hid hm
  rcases Nat.lt_trichotomy n m with h | h | h
  · have k1 : (n : Int) < (m : Int) := by omega
    rw [hlt.out h]
    go_enter Tryz.func50, Tryz.ntmps50
    go_wp2_with fail
    go_ret
    exact ⟨rfl, Below.refl _ _⟩
  · subst h
    go_enter Tryz.func50, Tryz.ntmps50
    go_wp2_with fail
    go_loopw [5] (fun z wr => ∃ j : Nat, j ≤ n ∧ z = .int .i64 ((j : Int) - 1) ∧ A.drop j = B.drop j ∧ Below w.heap.size w wr) (fun z _ => (intOf z + 1).toNat)
    case atStart => exact ⟨n, Nat.le_refl _, by first | rfl | go_num, by rw [List.drop_eq_nil_of_le (by rw [← hn.out]; exact Nat.le_refl _), List.drop_eq_nil_of_le (by rw [← hm.out]; exact Nat.le_refl _)], Below.refl _ _⟩
    case round =>
      obtain ⟨j, hj, rfl, hd, hbl⟩ := hrel
      cases j with
      | zero =>
        rw [List.drop_zero, List.drop_zero] at hd
        have hres := Lib.hid (hsame.out hd)
        clear hd
        go_wp2_with fail
        go_ret
        exact ⟨by rw [hres.out]; rfl, hbl⟩
      | succ i =>
        obtain ⟨aA, rfl, -, sA⟩ := hva.out (by omega)
        obtain ⟨aB, rfl, -, sB⟩ := hvb.out (by omega)
        have iA : i < A.length := by have := hn.out; omega
        have iB : i < B.length := by have := hm.out; omega
        have cA := (sA.below (hbl.mono (Nat.le_refl _))).cell i iA
        have cB := (sB.below (hbl.mono (Nat.le_refl _))).cell i iB
        have q1 := Lib.hid (fun h => tv_less hA.out iA iB hd h)
        have q2 := Lib.hid (fun h => tv_less hB.out iB iA hd.symm h)
        have q3 : A[i] = B[i] → A.drop i = B.drop i := fun h => by rw [List.drop_eq_getElem_cons iA, List.drop_eq_getElem_cons iB, h, hd]
        replace q3 := Lib.hid q3
        have xb := hA.out _ (List.getElem_mem iA)
        have yb := hB.out _ (List.getElem_mem iB)
        clear hd sA sB
        generalize A[i] = x at *
        generalize B[i] = y at *
        have e1 : (((i + 1 : Nat) : Int) - 1) = (i : Int) := by omega
        have hin : (i : Int) < (n : Int) := by omega
        rw [e1]
        rcases Nat.lt_trichotomy x y with h | h | h
        · have k1 : (x : Int) < (y : Int) := by omega
          have hres := hless.out (q1.out h)
          replace hres := Lib.hid hres
          go_wp2_with fail
          go_quiet (fail)
          go_wp2_with fail
          go_ret
          exact ⟨by rw [hres.out]; rfl, by first | exact ibdrew hbl _ | exact ibdrew (ibdrew hbl _) _⟩
        · subst h
          have k1 : ¬ (x : Int) < (x : Int) := by omega
          go_wp2_with fail
          go_quiet (fail)
          go_wp2_with fail
          go_quiet (fail)
          go_wp2_with fail
          go_roundw
          case rel => exact ⟨i, by omega, by first | rfl | go_num, q3.out (by trivial), ibdrew hbl _⟩
          case measure => simp [intOf]
        · have k1 : ¬ (x : Int) < (y : Int) := by omega
          have k2 : (y : Int) < (x : Int) := by omega
          have hres := hmore.out (q2.out h)
          replace hres := Lib.hid hres
          go_wp2_with fail
          go_quiet (fail)
          go_wp2_with fail
          go_quiet (fail)
          go_wp2_with fail
          go_ret
          exact ⟨by rw [hres.out]; rfl, by first | exact ibdrew hbl _ | exact ibdrew (ibdrew hbl _) _⟩
  · have k1 : ¬ (n : Int) < (m : Int) := by omega
    have k2 : (m : Int) < (n : Int) := by omega
    rw [hgt.out h]
    go_enter Tryz.func50, Tryz.ntmps50
    go_wp2_with fail
    go_ret
    exact ⟨rfl, Below.refl _ _⟩
end Go.Proofs.YthehcjfmokabfaaGreatDoor.Rx

/-
  The reference of layer 1, walks G: Sub.
-/
namespace Go.Proofs.YthehcjfmokabfaaGreatDoor.Rx
open Go.RowKit
attribute [local irreducible] tv dg cmpI

theorem cell_new (w : World) (v : Value) (t : TypeId) : (w.alloc (.cells #[v] t)).cell? ⟨w.heap.size, 0, none⟩ = some v := by
  rw [cell_of_row _ _ 0 _ _ _ (heap_alloc_new w _)]; rfl
/-- What Sub's rounds keep. -/
structure SubS (A B S : List Nat) (i c : Nat) : Prop where
  len : S.length = i
  lt : ∀ d ∈ S, d < 10000
  car : c ≤ 1
  eq : tv (A.take i) + 10000 ^ i * c = tv S + tv (B.take i)
theorem SubS.step {A B S : List Nat} {i c d c' : Nat} (h : SubS A B S i c) (hd : d < 10000) (hc : c' ≤ 1) (he : d + dg B i + c = dg A i + 10000 * c') : SubS A B (S ++ [d]) (i + 1) c' := by
  refine ⟨by rw [List.length_append, h.len]; rfl, fun x hx => ?_, hc, ?_⟩
  · rcases List.mem_append.1 hx with hx | hx
    · exact h.lt x hx
    · rw [List.mem_singleton.1 hx]; exact hd
  · rw [tv_snoc, h.len, tv_take, tv_take, Nat.pow_succ]
    have h4 := h.eq
    have h6 : 10000 ^ i * d + 10000 ^ i * dg B i + 10000 ^ i * c = 10000 ^ i * dg A i + 10000 ^ i * 10000 * c' := by
      rw [Nat.mul_assoc, ← Nat.mul_add, ← Nat.mul_add, ← Nat.mul_add, he]
    generalize 10000 ^ i * d = p1 at *
    generalize 10000 ^ i * dg B i = p2 at *
    generalize 10000 ^ i * c = p3 at *
    generalize 10000 ^ i * dg A i = p4 at *
    generalize 10000 ^ i * 10000 * c' = p5 at *
    omega
theorem SubS.done {A B S : List Nat} {c : Nat} (h : SubS A B S A.length c) (hB : B.length ≤ A.length) (hle : tv B ≤ tv A) : tv S = tv A - tv B := by
  have e := h.eq
  rw [List.take_of_length_le (Nat.le_refl _), List.take_of_length_le hB] at e
  have h1 := tv_lt h.lt
  rw [h.len] at h1
  have hc := h.car
  rcases Nat.eq_zero_or_pos c with h0 | h0
  · rw [h0, Nat.mul_zero] at e; omega
  · rw [show c = 1 by omega, Nat.mul_one] at e; omega

set_option maxHeartbeats 4000000 in
set_option maxRecDepth 100000 in
theorem rsub_l (va vb : Value) (A B : List Nat) (hA : ∀ d ∈ A, d < 10000) (hB : ∀ d ∈ B, d < 10000) (lA : A.length ≤ 1000000) (lB : B.length ≤ A.length) (hle : tv B ≤ tv A) (w : World) (ha : Sl w va A) (hb : Sl w vb B) :
    Calls Tryz.prog 56 #[va, vb] w fun e w' => ∃ v, e = .returned v ∧ Sl w' v (td (tv A - tv B)) ∧ Below w.heap.size w w' := by
  obtain ⟨i0, hi, hz0, hz1, hz2⟩ := info_parts Tryz.infoI
  obtain ⟨aa, ca, ea, hva⟩ := ha.view
  obtain ⟨ab, cb, eb⟩ := hb.form
  subst ea eb
  obtain ⟨n, hn⟩ : ∃ n, n = A.length := ⟨_, rfl⟩
  obtain ⟨m, hm⟩ : ∃ m, m = B.length := ⟨_, rfl⟩
  have hfin := fun (S : List Nat) c (h : SubS A B S A.length c) => h.done lB hle
  rw [← hn] at lA hva hfin lB ⊢
  rw [← hm] at lB hb ⊢
  replace hn := Lib.hid hn
  replace hm := Lib.hid hm
  replace hA := Lib.hid hA
  replace hB := Lib.hid hB
  replace hb := Lib.hid hb
  replace hva := Lib.hid hva
  replace hfin := Lib.hid hfin
  clear ha hle
  go_enter Tryz.func56, Tryz.ntmps56
  go_wp2_with fail
  go_loopw [5, 6, 7] (fun v u j wr => ∃ (i c : Nat) (S : List Nat), u = .int .i64 (c : Int) ∧ j = .int .i64 (i : Int) ∧ SubS A B S i c ∧ i ≤ n ∧ wr.ownsRow w.heap.size 3 1 v i (S.map iv) ∧ Below w.heap.size w wr) (fun _ _ j _ => n - (intOf j).toNat)
  case atStart => exact ⟨0, 0, [], rfl, rfl, ⟨rfl, (fun d hd => by cases hd), Nat.zero_le _, (by rw [List.take_zero, List.take_zero, tv_nil])⟩, Nat.zero_le _, World.ownsRow_nil _ _ _ _, Below.refl _ _⟩
  case round =>
    obtain ⟨i, c, S, rfl, rfl, hS, hi2, hown, hbl⟩ := hrel
    rcases Nat.lt_or_ge i n with hin | hin
    · have k1 : (i : Int) < (n : Int) := by omega
      have hib : (i : Int) ≤ 1000000 := by omega
      obtain ⟨aA, rfl, -, sA⟩ := hva.out (by omega)
      have iA : i < A.length := by have := hn.out; omega
      have hcell := (sA.below hbl).cell i iA
      rw [← dg_in iA] at hcell
      have hx := dg_lt hA.out i
      have hy := dg_lt hB.out i
      have hc1 := hS.car
      have HB : ∀ wx, Below w.heap.size w wx → Calls Tryz.prog 98 #[.slice ab m cb, .int .i64 (i : Int)] wx fun e w' => e = .returned (.int .i64 ((dg B i : Nat) : Int)) ∧ w' = wx :=
        fun wx hh => (at_any _ B i (by omega) (by rw [← hm.out]; omega) wx (hb.out.below hh)).mono fun _ _ h => ⟨h.1, h.2.symm⟩
      have hstep := fun (d c' : Nat) h1 h2 h3 => hS.step (d := d) (c' := c') h1 h2 h3
      clear sA hS
      generalize dg A i = x at *
      generalize dg B i = y at *
      replace HB := Lib.hid HB
      replace hstep := Lib.hid hstep
      by_cases hneg : (x : Int) - (y : Int) - (c : Int) < 0
      · have hst := Lib.hid (hstep.out (x + 10000 - y - c) 1 (by omega) (by omega) (by omega))
        go_wp2_with fail
        go_quiet ((go_at_call 98; exact Calls.quiet_of_same (HB.out _ (ibdrew hbl _))))
        have hown2 : (wr.drewN nq).ownsRow w.heap.size 3 1 u5 i (S.map iv) := hown
        go_wp2_with (at_builtin; refine wpList_append_own _ rfl _ _ 42 rfl w.heap.size 3 i0 (.int .i64 0) 1 8 Tryz.underlying42 hi hz0 hz1 hz2 rfl (by decide) _ _ _ rfl (hown2.alloc _) ⟨wr.heap.size, 0, none⟩ 1 1 [.int .i64 ((x : Int) - (y : Int) - (c : Int) + 10000)] rfl rfl ?c1 ?c2 ?c3 ?c4 ?c5 ?_)
        case c1 =>
          intro j u hj
          match j, hj with
          | 0, hj => simp at hj; subst hj; rw [add0]; exact cell_new (wr.drewN nq) _ _
        case c2 => intro u hu; simp at hu; subst hu; rfl
        case c3 => unfold maxLen; omega
        case c4 => omega
        case c5 => have := hbl.size; first | (simp; omega) | (simp; exact this) | (show w.heap.size ≤ _; simp; show w.heap.size ≤ wr.heap.size + 1; omega)
        intro v' w1 hown' hgrow _
        have hn' := Lib.hid (own_snoc (d := x + 10000 - y - c) (by omega) hown')
        have hb' := Lib.hid (below_app (ibdrew hbl nq) hbl.size hown2 hgrow)
        clear hown' hgrow hown hown2 hbl
        go_wp2_with fail
        go_roundw
        case rel => exact ⟨i + 1, 1, _, by first | rfl | go_num, by first | rfl | go_num, hst.out, by omega, hn'.out, hb'.out⟩
        case measure => simp [intOf]; omega
      · have hst := Lib.hid (hstep.out (x - y - c) 0 (by omega) (by omega) (by omega))
        go_wp2_with fail
        go_quiet ((go_at_call 98; exact Calls.quiet_of_same (HB.out _ (ibdrew hbl _))))
        have hown2 : (wr.drewN nq).ownsRow w.heap.size 3 1 u5 i (S.map iv) := hown
        go_wp2_with (at_builtin; refine wpList_append_own _ rfl _ _ 42 rfl w.heap.size 3 i0 (.int .i64 0) 1 8 Tryz.underlying42 hi hz0 hz1 hz2 rfl (by decide) _ _ _ rfl (hown2.alloc _) ⟨wr.heap.size, 0, none⟩ 1 1 [.int .i64 ((x : Int) - (y : Int) - (c : Int))] rfl rfl ?d1 ?d2 ?d3 ?d4 ?d5 ?_)
        case d1 =>
          intro j u hj
          match j, hj with
          | 0, hj => simp at hj; subst hj; rw [add0]; exact cell_new (wr.drewN nq) _ _
        case d2 => intro u hu; simp at hu; subst hu; rfl
        case d3 => unfold maxLen; omega
        case d4 => omega
        case d5 => have := hbl.size; first | (simp; omega) | (simp; exact this) | (show w.heap.size ≤ _; simp; show w.heap.size ≤ wr.heap.size + 1; omega)
        intro v' w1 hown' hgrow _
        have hn' := Lib.hid (own_snoc (d := x - y - c) (by omega) hown')
        have hb' := Lib.hid (below_app (ibdrew hbl nq) hbl.size hown2 hgrow)
        clear hown' hgrow hown hown2 hbl
        go_wp2_with fail
        go_roundw
        case rel => exact ⟨i + 1, 0, _, by first | rfl | go_num, by first | rfl | go_num, hst.out, by omega, hn'.out, hb'.out⟩
        case measure => simp [intOf]; omega
    · have k1 : ¬ (i : Int) < (n : Int) := by omega
      obtain rfl : i = n := by omega
      have hT := hfin.out S c hS
      have HT := trim_any u5 S hS.lt (by rw [hS.len]; omega) wr (Sl.owned hown hS.len.symm)
      rw [hT] at HT
      replace HT := Lib.hid HT
      clear hT hS hown
      go_wp2_with fail
      with_reducible refine Calls.mono HT.out ?_
      rintro e w1 ⟨v', rfl, hv, rfl⟩
      replace hv := Lib.hid hv
      go_wp2_with fail
      go_ret
      exact ⟨_, rfl, hv.out, hbl⟩
theorem rsub_any (va vb : Value) (a b : Nat) (la : (td a).length ≤ 1000000) (hle : b ≤ a) (w : World) (ha : Rn w va a) (hb : Rn w vb b) :
    Calls Tryz.prog 56 #[va, vb] w fun e w' => ∃ v, e = .returned v ∧ Rn w' v (a - b) ∧ Below w.heap.size w w' := by
  have := rsub_l va vb _ _ (td_lt a) (td_lt b) la (td_mono hle) (by rw [tv_td, tv_td]; exact hle) w ha hb
  rwa [tv_td, tv_td] at this
end Go.Proofs.YthehcjfmokabfaaGreatDoor.Rx

/-
  The reference of layer 1, walks H: Text.
-/
namespace Go.Proofs.YthehcjfmokabfaaGreatDoor.Rx
open Go.RowKit
open Go.Lib (decDigits)
attribute [local irreducible] tv dg cmpI

theorem pad_cons : ∀ (k r : Nat), pad (k + 1) r = dch (r / 10 ^ k % 10) :: pad k r
  | 0, r => by rw [pad, pad, Nat.pow_zero, Nat.div_one]; rfl
  | k + 1, r => by
    rw [pad, pad_cons k (r / 10), pad, List.cons_append, Nat.div_div_eq_div_mul, Nat.pow_succ, Nat.mul_comm 10]
theorem enc_dig (q : Nat) : Utf8.encode (48 + (q : Int) % 10) = ⟨#[dch (q % 10)]⟩ := by
  have h1 : Utf8.valid (48 + (q : Int) % 10) = true := by unfold Utf8.valid; simp; omega
  have h2 : (48 + (q : Int) % 10).toNat = 48 + q % 10 := by omega
  unfold Utf8.encode dch
  simp only [h1, if_true, h2]
  rw [if_pos (by omega)]
theorem ba_cons (c : UInt8) (S : List UInt8) : (⟨#[c]⟩ : ByteArray) ++ ⟨S.toArray⟩ = ⟨(c :: S).toArray⟩ := by
  apply ByteArray.ext
  simp [ByteArray.data_append]
theorem pad_dec {k r : Nat} (h1 : r < 10 ^ k) (h2 : k = 0 ∨ 0 < r / 10 ^ (k - 1)) (hr : 0 < r) : pad k r = decDigits r := by
  have hk : 0 < k := by rcases Nat.eq_zero_or_pos k with h | h; · rw [h, Nat.pow_zero] at h1; omega
                        · exact h
  obtain ⟨e1, e2⟩ := pad_eq k r hk h1
  have h3 : 0 < r / 10 ^ (k - 1) := by rcases h2 with h | h; · omega
                                       · exact h
  have h4 : (decDigits r).length = k := by
    refine Nat.le_antisymm e2 (Nat.le_of_not_lt fun hlt => ?_)
    have h5 : 10 ^ (k - 1) ≤ r := by
      rcases Nat.lt_or_ge r (10 ^ (k - 1)) with h | h
      · rw [Nat.div_eq_of_lt h] at h3; omega
      · exact h
    rcases Nat.eq_zero_or_pos (k - 1) with h0 | h0
    · have := dec_length_pos r; omega
    · have := (dec_length_lt h0).1 (show (decDigits r).length ≤ k - 1 by omega); omega
  rw [e1, h4, Nat.sub_self, List.replicate_zero, List.nil_append]

theorem dec_td {n K : Nat} (hl : (td n).length ≤ K) (hK : 0 < K) : (decDigits n).length ≤ 4 * K := by
  refine (dec_length_lt (by omega)).2 ?_
  have := td_length.1 hl
  rwa [show (10000 : Nat) = 10 ^ 4 by rfl, ← Nat.pow_mul] at this
/-- What Text has written behind digit i. -/
def TS (n i : Nat) (T : List UInt8) : Prop := (i < (td n).length ∧ decDigits n = decDigits (n / 10000 ^ i) ++ T) ∨ (i = (td n).length ∧ T = decDigits n)
theorem TS.start {n : Nat} (h : 0 < (td n).length) : TS n 0 [] := .inl ⟨h, by simp⟩
theorem TS.step {n i : Nat} {T : List UInt8} (h : TS n i T) (hl : i < (td n).length) (hi : i + 1 < (td n).length) : TS n (i + 1) (pad 4 ((td n)[i]'hl) ++ T) := by
  rcases h with ⟨h1, h2⟩ | ⟨h1, h2⟩
  · refine .inl ⟨hi, ?_⟩
    have hd := (td_step h1).2
    have hq := (td_step hi).1
    have e : n / 10000 ^ i = n / 10000 ^ (i + 1) * 10 ^ 4 + (td n)[i] := by
      rw [hd, Nat.pow_succ, ← Nat.div_div_eq_div_mul]
      show _ = _ * 10000 + _
      omega
    have hlt : (td n)[i] < 10 ^ 4 := td_lt n _ (List.getElem_mem _)
    have := dec_mul_add 4 (n / 10000 ^ (i + 1)) ((td n)[i]) (by omega) hlt
    rw [h2, e, this, List.append_assoc]
  · omega
theorem TS.last {n i : Nat} {T : List UInt8} (h : TS n i T) (hl : i < (td n).length) (hi : i + 1 = (td n).length) : 0 < (td n)[i]'hl ∧ TS n (i + 1) (decDigits ((td n)[i]'hl) ++ T) := by
  rcases h with ⟨h1, h2⟩ | ⟨h1, h2⟩
  · have hd := td_step h1
    have h0 : n / 10000 ^ (i + 1) = 0 := td_end (by omega)
    have e : n / 10000 ^ i = (td n)[i] := by
      rw [hd.2]
      rw [Nat.pow_succ, ← Nat.div_div_eq_div_mul] at h0
      omega
    refine ⟨by rw [← e]; omega, .inr ⟨hi, ?_⟩⟩
    rw [h2, e]
  · omega
theorem TS.len {n i : Nat} {T : List UInt8} (h : TS n i T) : T.length ≤ (decDigits n).length := by
  rcases h with ⟨h1, h2⟩ | ⟨h1, h2⟩
  · rw [h2, List.length_append]; omega
  · rw [h2]; exact Nat.le_refl _

set_option maxHeartbeats 4000000 in
set_option maxRecDepth 100000 in
theorem rtext_any (v : Value) (n : Nat) (hl : (td n).length ≤ 1000000) (w : World) (hv : Rn w v n) :
    Calls Tryz.prog 36 #[v] w fun e w' => e = .returned (.string (txt n)) ∧ Below w.heap.size w w' := by
  obtain ⟨aa, ca, ea, hva⟩ := hv.view
  subst ea
  have hdl := dec_td hl (by omega)
  obtain ⟨L, hL⟩ : ∃ L, L = (td n).length := ⟨_, rfl⟩
  rw [← hL] at hl hva ⊢
  replace hva := Lib.hid hva
  replace hdl := Lib.hid hdl
  clear hv
  rcases Nat.eq_zero_or_pos L with h0 | h0
  · have hz : n = 0 := td_nil.1 (List.eq_nil_of_length_eq_zero (by rw [← hL]; exact h0))
    have ht : txt n = ⟨#[48]⟩ := by
      unfold txt
      rw [hz, dec_small (by omega)]; rfl
    replace ht := Lib.hid ht
    subst h0
    clear hL hz
    go_enter Tryz.func36, Tryz.ntmps36
    go_wp2_with fail
    go_ret
    exact ⟨by rw [ht.out]; rfl, Below.refl _ _⟩
  · obtain ⟨aA, rfl, -, sA⟩ := hva.out h0
    have hTS := Lib.hid (TS.start (n := n) (by rw [← hL]; exact h0))
    have k1 : ((L : Int) == 0) = false := beq_eq_false_iff_ne.2 (by omega)
    have k1' : (L == 0) = false := beq_eq_false_iff_ne.2 (by omega)
    replace hL := Lib.hid hL
    replace sA := Lib.hid sA
    go_enter Tryz.func36, Tryz.ntmps36
    go_wp2_with fail
    go_loopw [3, 4] (fun s j wr => ∃ (i : Nat) (T : List UInt8), s = .string ⟨T.toArray⟩ ∧ j = .int .i64 (i : Int) ∧ i ≤ L ∧ TS n i T ∧ wr = w) (fun _ j _ => L - (intOf j).toNat)
    case atStart => exact ⟨0, [], rfl, rfl, Nat.zero_le _, hTS.out, rfl⟩
    case round =>
      obtain ⟨i, T, rfl, rfl, hi, hT, rfl⟩ := hrel
      rcases Nat.lt_or_ge i L with hin | hin
      · have k2 : (i : Int) < (L : Int) := by omega
        have hib : (i : Int) ≤ 1000000 := by omega
        have iA : i < (td n).length := by have := hL.out; omega
        have hcell := sA.out.cell i iA
        have hTl := hT.len
        have hdl' := hdl.out
        have hst := hT.step iA
        have hla := hT.last iA
        have hD := td_lt n _ (List.getElem_mem iA)
        clear hT
        obtain ⟨D, hDe⟩ : ∃ D, D = (td n)[i] := ⟨_, rfl⟩
        rw [← hDe] at hcell hD hst hla
        replace hst := Lib.hid hst
        replace hla := Lib.hid hla
        replace hDe := Lib.hid hDe
        go_wp2_with fail
        go_loopw [3, 5, 6] (fun s d j wx => ∃ (k : Nat), s = .string ⟨(pad k D ++ T).toArray⟩ ∧ d = .int .i64 ((D / 10 ^ k : Nat) : Int) ∧ j = .int .i64 (k : Int) ∧ k ≤ 4 ∧ (i + 1 = L → k = 0 ∨ 0 < D / 10 ^ (k - 1)) ∧ wx = wr) (fun _ _ j _ => 4 - (intOf j).toNat)
        case atStart => exact ⟨0, by rw [pad]; rfl, by rw [Nat.pow_zero, Nat.div_one], rfl, Nat.zero_le _, fun _ => .inl rfl, rfl⟩
        case round =>
          obtain ⟨k, rfl, rfl, rfl, hk, hlast, rfl⟩ := hrel
          have hTk : (pad k D ++ T).length ≤ 4000004 := by rw [List.length_append, pad_length]; omega
          have hnext : (pad (k + 1) D ++ T) = dch (D / 10 ^ k % 10) :: (pad k D ++ T) := by rw [pad_cons, List.cons_append]
          have hq : D / 10 ^ (k + 1) = D / 10 ^ k / 10 := by rw [Nat.pow_succ, ← Nat.div_div_eq_div_mul]
          obtain ⟨q, hqe⟩ : ∃ q, q = D / 10 ^ k := ⟨_, rfl⟩
          have hqD : q ≤ D := by rw [hqe]; exact Nat.div_le_self _ _
          rw [← hqe] at hnext hq ⊢
          generalize hSe : pad k D ++ T = S at *
          replace hSe := Lib.hid hSe
          replace hnext := Lib.hid hnext
          replace hq := Lib.hid hq
          replace hqe := Lib.hid hqe
          replace hlast := Lib.hid hlast
          have hcase : (k < 4 ∧ i + 1 < L) ∨ (k < 4 ∧ ¬ (i + 1 < L) ∧ 0 < q) ∨ (k < 4 ∧ ¬ (i + 1 < L) ∧ q = 0) ∨ k = 4 := by omega
          have henc := enc_dig q
          obtain ⟨ch, hch⟩ : ∃ ch, ch = dch (q % 10) := ⟨_, rfl⟩
          rw [← hch] at henc hnext
          replace hch := Lib.hid hch
          have hqB : (q : Int) ≤ 10000 := by omega
          have hsz : (⟨S.toArray⟩ : ByteArray).size = S.length := rfl
          rcases hcase with ⟨c1, c2⟩ | ⟨c1, c2, c3⟩ | ⟨c1, c2, c3⟩ | c1
          · have d1 : (k : Int) < 4 := by omega
            have d2 : (i : Int) + 1 < (L : Int) := by omega
            go_wp2_with fail
            go_roundw
            case rel => exact ⟨k + 1, (by rw [ba_cons, hnext.out]), (by rw [hq.out]; first | rfl | go_num), by first | rfl | go_num, by omega, (fun h => by omega), trivial⟩
            case measure => simp [intOf]; omega
          · have d1 : (k : Int) < 4 := by omega
            have d2 : ¬ (i : Int) + 1 < (L : Int) := by omega
            have d3 : (0 : Int) < (q : Int) := by omega
            go_wp2_with fail
            go_roundw
            case rel => exact ⟨k + 1, (by rw [ba_cons, hnext.out]), (by rw [hq.out]; first | rfl | go_num), by first | rfl | go_num, by omega, (fun h => .inr (by rw [Nat.add_sub_cancel, ← hqe.out]; omega)), trivial⟩
            case measure => simp [intOf]; omega
          · have hdone : TS n (i + 1) S := by
              have hl1 := hla.out (by have := hL.out; omega)
              have hp : pad k D = decDigits D := pad_dec (by have h1 := hqe.out; rw [c3] at h1; rcases Nat.lt_or_ge D (10 ^ k) with h | h; · exact h
                                                             · have := (Nat.le_div_iff_mul_le (Nat.pow_pos (n := k) (show 0 < 10 by omega))).2 (show 1 * 10 ^ k ≤ D by omega); omega) (hlast.out (by omega)) hl1.1
              rw [← hSe.out, hp]
              exact hl1.2
            replace hdone := Lib.hid hdone
            subst c3
            have d1 : (k : Int) < 4 := by omega
            have d2 : ¬ (i : Int) + 1 < (L : Int) := by omega
            go_wp2_with fail
            go_roundw
            case rel => exact ⟨i + 1, S, rfl, by first | rfl | go_num, by omega, hdone.out, by trivial⟩
            case measure => simp [intOf]; omega
          · have hdone : TS n (i + 1) S := by
              subst c1
              by_cases h : i + 1 < L
              · rw [← hSe.out]; exact hst.out (by have := hL.out; omega)
              · have hl1 := hla.out (by have := hL.out; omega)
                have hp : pad 4 D = decDigits D := pad_dec hD (hlast.out (by omega)) hl1.1
                rw [← hSe.out, hp]
                exact hl1.2
            replace hdone := Lib.hid hdone
            subst c1
            go_wp2_with fail
            go_roundw
            case rel => exact ⟨i + 1, S, rfl, by first | rfl | go_num, by omega, hdone.out, by trivial⟩
            case measure => simp [intOf]; omega
      · have k2 : ¬ (i : Int) < (L : Int) := by omega
        have hTe : T = decDigits n := by
          rcases hT with ⟨h1, h2⟩ | ⟨h1, h2⟩
          · have := hL.out; omega
          · exact h2
        have ht : txt n = ⟨T.toArray⟩ := by rw [hTe]; rfl
        replace ht := Lib.hid ht
        clear hT hTe
        go_wp2_with fail
        go_ret
        exact ⟨by rw [ht.out]; rfl, Below.refl _ _⟩
end Go.Proofs.YthehcjfmokabfaaGreatDoor.Rx

/-
  The reference of layer 1 in the laws: same.
-/
namespace Go.Proofs.YthehcjfmokabfaaGreatDoor.Rx
open Go.RowKit
attribute [local irreducible] lo hs tv dg cmpI txt decB

theorem box_alloc (w : World) (n : Nat) : NX (w.alloc (.cells #[.int .u64 ((lo n : Nat) : Int), .string (hs n)] 32)) w.heap.size n := by
  obtain ⟨w1, h1, h2, h3, h4⟩ := boxes1 w (.int .u64 ((lo n : Nat) : Int)) (.string (hs n)) 32
  rw [h1]; exact ⟨h2, h4⟩

set_option maxHeartbeats 2000000 in
set_option maxRecDepth 100000 in
theorem same_any (n : Nat) (v : Value) (hd : (digs n).length ≤ 1000000) (ht : (td n).length ≤ 1000000) (w : World) (htab : Tab w) (hv : Rn w v n) :
    Calls Tryz.prog 52 #[natV n, v] w fun e w' => e = .returned (.bool true) ∧ Below w.heap.size w w' := by
  obtain ⟨w0, hw0, hA, hb0, hsz⟩ := boxes1 w (.int .u64 ((lo n : Nat) : Int)) (.string (hs n)) 32
  obtain ⟨a0, a1, af⟩ := id hA
  have T1 := Lib.hid (fun (wx : World) (hh : Below w.heap.size w wx) => text_any n hd wx (htab.below hh))
  have T2 := Lib.hid (fun (wx : World) (hh : Below w.heap.size w wx) => rtext_any v n ht wx (hv.below hh))
  clear hv htab hA
  go_enter Tryz.func52, Tryz.ntmps52
  go_wp2_with fail
  with_reducible refine Calls.mono (T1.out _ hb0) ?_
  rintro e w1 ⟨rfl, hb1⟩
  have hb01 := hb0.trans (hb1.mono hb0.size)
  go_wp2_with fail
  with_reducible refine Calls.mono (T2.out _ hb01) ?_
  rintro e w2 ⟨rfl, hb2⟩
  have hb02 := hb01.trans (hb2.mono hb01.size)
  clear hb1 hb2 hb01
  go_wp2_with fail
  go_ret
  exact ⟨rfl, hb02⟩
end Go.Proofs.YthehcjfmokabfaaGreatDoor.Rx
