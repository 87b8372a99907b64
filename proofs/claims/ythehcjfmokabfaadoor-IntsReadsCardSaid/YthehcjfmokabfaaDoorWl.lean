/-
  Layer 1, walks L: divideByDigit, shiftLeft, shiftRight.
-/
import Derived.Test.YthehcjfmokabfaaDoorWk
import Derived.Test.YthehcjfmokabfaaDoorWi
set_option linter.unusedVariables false
set_option linter.unusedSimpArgs false
namespace Go.Proofs.YthehcjfmokabfaaDoor
open Go.RowKit
attribute [local irreducible] lo hs sm s64 c64 d64 b64 mh ml pd pc qd qc val hiB str

theorem div64_zero (l y : Nat) (h : 0 < y) (hl : l < Bs) (w : World) :
    Calls Tryd.prog 73 #[.int .u64 0, .int .u64 (l : Int), .int .u64 (y : Int)] w fun e w' =>
      e = .returned (.tuple #[.int .u64 ((l / y : Nat) : Int), .int .u64 ((l % y : Nat) : Int)]) ∧ ∃ n, w' = w.drewN n := by
  have t0 : ((y : Int) == 0) = false := by simp; omega
  have e1 : ((l / y : Nat) : Int) = (l : Int) / (y : Int) := by omega
  have e2 : ((l % y : Nat) : Int) = (l : Int) % (y : Int) := by omega
  rw [e1, e2]
  have HW := Lib.hid (wrapN (l / y) (by have := Nat.div_le_self l y; unfold Bs at hl; omega))
  rw [e1] at HW
  clear e1 e2
  go_enter Tryd.func73, Tryd.ntmps73
  go_wp2
  go_quiet (fail)
  go_wp2
  go_ret2
  exact ⟨ret2 HW.out rfl, nq, rfl⟩
/-- Div64, hi = 0 or not. -/
theorem div64_all (hi lo y : Nat) (hlt : hi < y) (hy : y < Bs) (hlo : lo < Bs) (w : World) :
    Calls Tryd.prog 73 #[.int .u64 (hi : Int), .int .u64 (lo : Int), .int .u64 (y : Int)] w fun e w' =>
      e = .returned (.tuple #[.int .u64 (((hi * Bs + lo) / y : Nat) : Int), .int .u64 (((hi * Bs + lo) % y : Nat) : Int)]) ∧ ∃ n, w' = w.drewN n := by
  by_cases h0 : hi = 0
  · subst h0
    rw [Nat.zero_mul, Nat.zero_add]
    exact div64_zero lo y hlt hlo w
  · exact (div64_any hi lo y h0 hlt hy hlo w).mono fun e w' ⟨he, hw⟩ => ⟨he, 0, hw.symm⟩

/-- After i places from the high end: the quotient's digits so far, and the rest. -/
structure DvI (l : List Nat) (y i rest : Nat) (Q : List Nat) : Prop where
  len : Q.length = i
  dig : Dig Q
  lt : rest < y
  eq : val (l.drop (l.length - i)) = val Q * y + rest
theorem DvI.start (l : List Nat) (y : Nat) (hy : 0 < y) : DvI l y 0 0 [] := ⟨rfl, Dig.nil, hy, by simp [val]⟩
theorem DvI.step {l Q : List Nat} {y i rest : Nat} (h : DvI l y i rest Q) (hl : Dig l) (hy : y < Bs) (hi : i < l.length) :
    DvI l y (i + 1) ((rest * Bs + l[l.length - 1 - i]'(by omega)) % y) ((rest * Bs + l[l.length - 1 - i]'(by omega)) / y :: Q) := by
  have hd := hl.get (l.length - 1 - i) (by omega)
  have hlt := h.lt
  refine ⟨by rw [List.length_cons, h.len], Dig.cons ?_ h.dig, Nat.mod_lt _ (by omega), ?_⟩
  · refine (Nat.div_lt_iff_lt_mul (by omega)).2 ?_
    have : rest * Bs + Bs ≤ y * Bs := by rw [← Nat.succ_mul]; exact Nat.mul_le_mul_right _ hlt
    rw [Nat.mul_comm Bs y]; omega
  · have e : l.drop (l.length - (i + 1)) = l[l.length - 1 - i]'(by omega) :: l.drop (l.length - i) := by
      have e1 : l.length - (i + 1) = l.length - 1 - i := by omega
      have e2 : l.length - i = l.length - 1 - i + 1 := by omega
      rw [e1, e2]; exact List.drop_eq_getElem_cons (by omega)
    generalize hx : l[l.length - 1 - i]'(by omega) = x at *
    rw [e, val_cons, val_cons, h.eq]
    have hq := Nat.div_add_mod' (rest * Bs + x) y
    rw [Nat.add_mul, Nat.mul_add, ← Nat.mul_assoc, Nat.mul_comm Bs rest]; omega
theorem DvI.done {l Q : List Nat} {y rest : Nat} (h : DvI l y l.length rest Q) : val Q = val l / y ∧ rest = val l % y := by
  have e := h.eq
  rw [Nat.sub_self, List.drop_zero] at e
  have hlt := h.lt
  constructor
  · rw [e, Nat.mul_comm, Nat.mul_add_div (by omega), Nat.div_eq_of_lt hlt, Nat.add_zero]
  · rw [e, Nat.mul_comm, Nat.mul_add_mod, Nat.mod_eq_of_lt hlt]

set_option maxHeartbeats 1000000 in
set_option maxRecDepth 100000 in
theorem divideByDigit_any (g c y : Nat) (l C : List Nat) (hd : Dig l) (hy0 : 0 < y) (hy : y < Bs) (hl : l.length ≤ 1099511627776) (w : World) (hdb : DB w g (l ++ C)) :
    Calls Tryd.prog 47 #[.slice (some ⟨g, 0, none⟩) l.length c, .int .u64 (y : Int)] w fun e w' =>
      e = .returned (.int .u64 ((val l % y : Nat) : Int)) ∧ ∃ Q : List Nat, (Q.length = l.length ∧ Dig Q ∧ val Q = val l / y) ∧ DB w' g (Q ++ C) ∧ w.grownBy w' (some g) := by
  go_enter Tryd.func47, Tryd.ntmps47
  go_wp2
  go_loopw [5, 10] (fun x z wr => ∃ (i rest : Nat) (Q : List Nat), i ≤ l.length ∧ x = .int .u64 rest ∧ z = .int .i64 i ∧ DvI l y i rest Q ∧ DB wr g (l.take (l.length - i) ++ (Q ++ C)) ∧ w.grownBy wr (some g)) (fun _ z _ => l.length - (intOf z).toNat)
  case atStart => exact ⟨0, 0, [], Nat.zero_le _, rfl, rfl, DvI.start l y hy0, by simpa using hdb, grown_refl w _⟩
  case round =>
    obtain ⟨i, rest, Q, hi, rfl, rfl, hI, hdb1, hg1⟩ := hrel
    by_cases hil : i < l.length
    · have hlt := hI.lt
      have hstep := hI.step hd hy hil
      have hdx := hd.get (l.length - 1 - i) (by omega)
      have hlen : l.length - 1 - i < (l.take (l.length - i) ++ (Q ++ C)).length := by rw [List.length_append, List.length_take]; omega
      have hcell := hdb1.cell _ hlen
      have hget : (l.take (l.length - i) ++ (Q ++ C))[l.length - 1 - i]'hlen = l[l.length - 1 - i]'(by omega) := by
        rw [List.getElem_append_left (by rw [List.length_take]; omega), List.getElem_take]
      rw [hget] at hcell
      have hfz := hdb1.frozen (l.length - 1 - i)
      have hset : (l.take (l.length - i) ++ (Q ++ C)).set (l.length - 1 - i) ((rest * Bs + l[l.length - 1 - i]'(by omega)) / y) = l.take (l.length - (i + 1)) ++ (((rest * Bs + l[l.length - 1 - i]'(by omega)) / y :: Q) ++ C) := by
        have e1 : l.length - i = (l.length - 1 - i) + 1 := by omega
        have e2 : l.length - (i + 1) = l.length - 1 - i := by omega
        rw [e1, e2, List.take_succ_eq_append_getElem (by omega), List.append_assoc, List.set_append_right _ _ (by rw [List.length_take]; omega), List.length_take]
        rw [show l.length - 1 - i - min (l.length - 1 - i) l.length = 0 by omega]
        simp
      have hnext := hdb1.set _ hlen ((rest * Bs + l[l.length - 1 - i]'(by omega)) / y)
      rw [hset] at hnext
      have hD := div64_all rest (l[l.length - 1 - i]'(by omega)) y hlt hy hdx
      generalize l[l.length - 1 - i]'(by omega) = x at *
      have hbound : l.length - 1 - i < l.length := by omega
      have HD := Lib.hid hD
      have HN := Lib.hid hnext
      have HS := Lib.hid hstep
      clear hD hnext hstep hlen hI hget hset hdx hlt
      have HDB := Lib.hid hdb1
      clear hdb1
      go_wp2_with fail
      refine (HD.out _).mono ?_
      rintro e w1 ⟨rfl, nq, rfl⟩
      go_wp2
      go_roundw
      case rel =>
        refine ⟨i + 1, _, _, by omega, rfl, by go_num, HS.out, ?_, grown_trans (grown_trans hg1 ?_) (grown_set _ _ _ _)⟩
        · exact HN.out
        · exact ⟨rfl, rfl, rfl, Nat.le_refl _, fun _ _ _ => rfl⟩
      case measure => simp [intOf]; omega
    · have hik : i = l.length := by omega
      subst hik
      obtain ⟨hv, hrest⟩ := hI.done
      have HV := Lib.hid hv
      have HR := Lib.hid hrest
      rw [Nat.sub_self, List.take_zero, List.nil_append] at hdb1
      clear hv hrest
      go_wp2
      go_ret
      exact ⟨congrArg (fun k : Nat => Ending.returned (.int .u64 (k : Int))) HR.out, Q, ⟨hI.len, hI.dig, HV.out⟩, hdb1, hg1⟩
end Go.Proofs.YthehcjfmokabfaaDoor
