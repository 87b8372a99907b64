/-
  Layer 1, walks L: divideByDigit, shiftLeft, shiftRight.
-/
import Derived.Test.YtecdnohhengfaaaGreatDoorYa
import Derived.BigRegion
import Derived.Deep.CutBlock
import Derived.BigQuiet
import Derived.BigGuard
import Derived.Lib.ItoaNum
import Derived.Lib.ItoaMem
import Derived.Lib.FrozenHead2
import Derived.Lib.OthersKept
set_option linter.unusedVariables false
set_option linter.unusedSimpArgs false
namespace Go.Proofs.YtecdnohhengfaaaGreatDoor
open Go.RowKit
attribute [local irreducible] lo hs sm s64 c64 d64 b64 mh ml pd pc qd qc val hiB str

theorem div64_zero (l y : Nat) (h : 0 < y) (hl : l < Bs) (w : World) :
    Calls Tryz.prog 186 #[.int .u64 0, .int .u64 (l : Int), .int .u64 (y : Int)] w fun e w' =>
      e = .returned (.tuple #[.int .u64 ((l / y : Nat) : Int), .int .u64 ((l % y : Nat) : Int)]) ∧ ∃ n, w' = w.drewN n := by
  have t0 : ((y : Int) == 0) = false := by simp; omega
  have e1 : ((l / y : Nat) : Int) = (l : Int) / (y : Int) := by omega
  have e2 : ((l % y : Nat) : Int) = (l : Int) % (y : Int) := by omega
  rw [e1, e2]
  have HW := Lib.hid (wrapN (l / y) (by have := Nat.div_le_self l y; unfold Bs at hl; omega))
  rw [e1] at HW
  clear e1 e2
  go_enter Tryz.func186, Tryz.ntmps186
  go_wp2
  go_quiet (fail)
  go_wp2
  go_ret2
  exact ⟨ret2 HW.out rfl, nq, rfl⟩
/-- Div64, hi = 0 or not. -/
theorem div64_all (hi lo y : Nat) (hlt : hi < y) (hy : y < Bs) (hlo : lo < Bs) (w : World) :
    Calls Tryz.prog 186 #[.int .u64 (hi : Int), .int .u64 (lo : Int), .int .u64 (y : Int)] w fun e w' =>
      e = .returned (.tuple #[.int .u64 (((hi * Bs + lo) / y : Nat) : Int), .int .u64 (((hi * Bs + lo) % y : Nat) : Int)]) ∧ ∃ n, w' = w.drewN n := by
  by_cases h0 : hi = 0
  · subst h0
    rw [Nat.zero_mul, Nat.zero_add]
    exact div64_zero lo y hlt hlo w
  · exact (div64_any hi lo y h0 hlt hy hlo w).mono fun e w' ⟨he, hw⟩ => ⟨he, 0, hw.symm⟩

/-- After i places from the high end: the quotient's digits so far, and the rest. -/
structure DvI (l : List Nat) (y i rest : Nat) (Q : List Nat) : Prop where
  len : Q.length = i
  dig : Dig Q
  lt : rest < y
  eq : val (l.drop (l.length - i)) = val Q * y + rest
theorem DvI.start (l : List Nat) (y : Nat) (hy : 0 < y) : DvI l y 0 0 [] := ⟨rfl, Dig.nil, hy, by simp [val]⟩
theorem DvI.step {l Q : List Nat} {y i rest : Nat} (h : DvI l y i rest Q) (hl : Dig l) (hy : y < Bs) (hi : i < l.length) :
    DvI l y (i + 1) ((rest * Bs + l[l.length - 1 - i]'(by omega)) % y) ((rest * Bs + l[l.length - 1 - i]'(by omega)) / y :: Q) := by
  have hd := hl.get (l.length - 1 - i) (by omega)
  have hlt := h.lt
  refine ⟨by rw [List.length_cons, h.len], Dig.cons ?_ h.dig, Nat.mod_lt _ (by omega), ?_⟩
  · refine (Nat.div_lt_iff_lt_mul (by omega)).2 ?_
    have : rest * Bs + Bs ≤ y * Bs := by rw [← Nat.succ_mul]; exact Nat.mul_le_mul_right _ hlt
    rw [Nat.mul_comm Bs y]; omega
  · have e : l.drop (l.length - (i + 1)) = l[l.length - 1 - i]'(by omega) :: l.drop (l.length - i) := by
      have e1 : l.length - (i + 1) = l.length - 1 - i := by omega
      have e2 : l.length - i = l.length - 1 - i + 1 := by omega
      rw [e1, e2]; exact List.drop_eq_getElem_cons (by omega)
    generalize hx : l[l.length - 1 - i]'(by omega) = x at *
    rw [e, val_cons, val_cons, h.eq]
    have hq := Nat.div_add_mod' (rest * Bs + x) y
    rw [Nat.add_mul, Nat.mul_add, ← Nat.mul_assoc, Nat.mul_comm Bs rest]; omega
theorem DvI.done {l Q : List Nat} {y rest : Nat} (h : DvI l y l.length rest Q) : val Q = val l / y ∧ rest = val l % y := by
  have e := h.eq
  rw [Nat.sub_self, List.drop_zero] at e
  have hlt := h.lt
  constructor
  · rw [e, Nat.mul_comm, Nat.mul_add_div (by omega), Nat.div_eq_of_lt hlt, Nat.add_zero]
  · rw [e, Nat.mul_comm, Nat.mul_add_mod, Nat.mod_eq_of_lt hlt]

set_option maxHeartbeats 1000000 in
set_option maxRecDepth 100000 in
theorem divideByDigit_any (g c y : Nat) (l C : List Nat) (hd : Dig l) (hy0 : 0 < y) (hy : y < Bs) (hl : l.length ≤ 1099511627776) (w : World) (hdb : DB w g (l ++ C)) :
    Calls Tryz.prog 133 #[.slice (some ⟨g, 0, none⟩) l.length c, .int .u64 (y : Int)] w fun e w' =>
      e = .returned (.int .u64 ((val l % y : Nat) : Int)) ∧ ∃ Q : List Nat, (Q.length = l.length ∧ Dig Q ∧ val Q = val l / y) ∧ DB w' g (Q ++ C) ∧ w.grownBy w' (some g) := by
  go_enter Tryz.func133, Tryz.ntmps133
  go_wp2
  go_loopw [5, 10] (fun x z wr => ∃ (i rest : Nat) (Q : List Nat), i ≤ l.length ∧ x = .int .u64 rest ∧ z = .int .i64 i ∧ DvI l y i rest Q ∧ DB wr g (l.take (l.length - i) ++ (Q ++ C)) ∧ w.grownBy wr (some g)) (fun _ z _ => l.length - (intOf z).toNat)
  case atStart => exact ⟨0, 0, [], Nat.zero_le _, rfl, rfl, DvI.start l y hy0, by simpa using hdb, grown_refl w _⟩
  case round =>
    obtain ⟨i, rest, Q, hi, rfl, rfl, hI, hdb1, hg1⟩ := hrel
    by_cases hil : i < l.length
    · have hlt := hI.lt
      have hstep := hI.step hd hy hil
      have hdx := hd.get (l.length - 1 - i) (by omega)
      have hlen : l.length - 1 - i < (l.take (l.length - i) ++ (Q ++ C)).length := by rw [List.length_append, List.length_take]; omega
      have hcell := hdb1.cell _ hlen
      have hget : (l.take (l.length - i) ++ (Q ++ C))[l.length - 1 - i]'hlen = l[l.length - 1 - i]'(by omega) := by
        rw [List.getElem_append_left (by rw [List.length_take]; omega), List.getElem_take]
      rw [hget] at hcell
      have hfz := hdb1.frozen (l.length - 1 - i)
      have hset : (l.take (l.length - i) ++ (Q ++ C)).set (l.length - 1 - i) ((rest * Bs + l[l.length - 1 - i]'(by omega)) / y) = l.take (l.length - (i + 1)) ++ (((rest * Bs + l[l.length - 1 - i]'(by omega)) / y :: Q) ++ C) := by
        have e1 : l.length - i = (l.length - 1 - i) + 1 := by omega
        have e2 : l.length - (i + 1) = l.length - 1 - i := by omega
        rw [e1, e2, List.take_succ_eq_append_getElem (by omega), List.append_assoc, List.set_append_right _ _ (by rw [List.length_take]; omega), List.length_take]
        rw [show l.length - 1 - i - min (l.length - 1 - i) l.length = 0 by omega]
        simp
      have hnext := hdb1.set _ hlen ((rest * Bs + l[l.length - 1 - i]'(by omega)) / y)
      rw [hset] at hnext
      have hD := div64_all rest (l[l.length - 1 - i]'(by omega)) y hlt hy hdx
      generalize l[l.length - 1 - i]'(by omega) = x at *
      have hbound : l.length - 1 - i < l.length := by omega
      have HD := Lib.hid hD
      have HN := Lib.hid hnext
      have HS := Lib.hid hstep
      clear hD hnext hstep hlen hI hget hset hdx hlt
      have HDB := Lib.hid hdb1
      clear hdb1
      go_wp2_with fail
      refine (HD.out _).mono ?_
      rintro e w1 ⟨rfl, nq, rfl⟩
      go_wp2
      go_roundw
      case rel =>
        refine ⟨i + 1, _, _, by omega, rfl, by go_num, HS.out, ?_, grown_trans (grown_trans hg1 ?_) (grown_set _ _ _ _)⟩
        · exact HN.out
        · exact ⟨rfl, rfl, rfl, Nat.le_refl _, fun _ _ _ => rfl⟩
      case measure => simp [intOf]; omega
    · have hik : i = l.length := by omega
      subst hik
      obtain ⟨hv, hrest⟩ := hI.done
      have HV := Lib.hid hv
      have HR := Lib.hid hrest
      rw [Nat.sub_self, List.take_zero, List.nil_append] at hdb1
      clear hv hrest
      go_wp2
      go_ret
      exact ⟨congrArg (fun k : Nat => Ending.returned (.int .u64 (k : Int))) HR.out, Q, ⟨hI.len, hI.dig, HV.out⟩, hdb1, hg1⟩
end Go.Proofs.YtecdnohhengfaaaGreatDoor

/-
  Layer 1, walks M: shiftLeft, shiftRight.
-/
namespace Go.Proofs.YtecdnohhengfaaaGreatDoor
open Go.RowKit
attribute [local irreducible] lo hs sm s64 c64 d64 b64 mh ml pd pc qd qc val hiB str

theorem Bs_split {n : Nat} (h : n ≤ 64) : Bs = 2 ^ (64 - n) * 2 ^ n := by rw [Bs_pow, ← Nat.pow_add]; congr 1; omega
/-- the digit that a shift to the left leaves: of x, and of z below it -/
def slD (n x z : Nat) : Nat := x * 2 ^ n % Bs + z / 2 ^ (64 - n)
theorem slD_lt {n x z : Nat} (h : n ≤ 64) (hz : z < Bs) : slD n x z < Bs := by
  have hp : 0 < 2 ^ n := Nat.pow_pos (by omega)
  have hq : 0 < 2 ^ (64 - n) := Nat.pow_pos (by omega)
  unfold slD
  have e : x * 2 ^ n % Bs = (x % 2 ^ (64 - n)) * 2 ^ n := by rw [Bs_split h, Nat.mul_mod_mul_right]
  have h1 : x % 2 ^ (64 - n) + 1 ≤ 2 ^ (64 - n) := Nat.mod_lt _ hq
  have h2 := Nat.mul_le_mul_right (2 ^ n) h1
  rw [← Bs_split h, Nat.add_mul, Nat.one_mul] at h2
  have h3 : z / 2 ^ (64 - n) < 2 ^ n := (Nat.div_lt_iff_lt_mul hq).2 (by rw [Nat.mul_comm, ← Bs_split h]; exact hz)
  omega
theorem slD_or {n x z : Nat} (h : n ≤ 64) (hz : z < Bs) : bits .or .u64 (IntKind.u64.wrap ((x : Int) * 2 ^ n)) ((z : Int) / 2 ^ (64 - n)) = ((slD n x z : Nat) : Int) := by
  have hq : 0 < 2 ^ (64 - n) := Nat.pow_pos (by omega)
  have e1 : (x : Int) * 2 ^ n = ((x * 2 ^ n : Nat) : Int) := by rw [Int.natCast_mul, Int.natCast_pow]; rfl
  have e2 : (z : Int) / 2 ^ (64 - n) = ((z / 2 ^ (64 - n) : Nat) : Int) := by rw [Int.natCast_ediv, Int.natCast_pow]; rfl
  have e3 : x * 2 ^ n % 18446744073709551616 = 2 ^ n * (x % 2 ^ (64 - n)) := by
    have : x * 2 ^ n % Bs = (x % 2 ^ (64 - n)) * 2 ^ n := by rw [Bs_split h, Nat.mul_mod_mul_right]
    rw [Nat.mul_comm (2 ^ n)]; exact this
  have h3 : z / 2 ^ (64 - n) < 2 ^ n := (Nat.div_lt_iff_lt_mul hq).2 (by rw [Nat.mul_comm, ← Bs_split h]; exact hz)
  have h4 := slD_lt (x := x) h hz
  unfold slD at h4 ⊢
  rw [e1, e2, wrapM, e3]
  have e4 : x * 2 ^ n % Bs = 2 ^ n * (x % 2 ^ (64 - n)) := e3
  rw [e4] at h4 ⊢
  exact or_add n _ _ h3 h4

theorem sh_wrap (x n : Nat) : IntKind.u64.wrap ((x : Int) * 2 ^ n) = ((x * 2 ^ n % Bs : Nat) : Int) := by
  have e1 : (x : Int) * 2 ^ n = ((x * 2 ^ n : Nat) : Int) := by rw [Int.natCast_mul, Int.natCast_pow]; rfl
  rw [e1, wrapM]; rfl
/-- After i places from the high end. -/
structure SlI (D : List Nat) (n i : Nat) (F : List Nat) : Prop where
  len : F.length = i
  dig : Dig F
  eq : val F = val (D.drop (D.length - i)) * 2 ^ n / Bs
theorem SlI.start (D : List Nat) (n : Nat) : SlI D n 0 [] := ⟨rfl, Dig.nil, by simp [val]⟩
theorem drop_at (D : List Nat) (i : Nat) (hi : i < D.length) : D.drop (D.length - (i + 1)) = D[D.length - i - 1]'(by omega) :: D.drop (D.length - i) := by
  have e1 : D.length - (i + 1) = D.length - i - 1 := by omega
  have e2 : D.length - i = D.length - i - 1 + 1 := by omega
  rw [e1, List.drop_eq_getElem_cons (by omega), ← e2]
theorem low_digit (D : List Nat) (j : Nat) (hD : Dig D) (hj : j < (D ++ [0]).length) : (D ++ [0])[j] = val (D.drop j) % Bs := by
  rcases Nat.lt_or_ge j D.length with h | h
  · rw [List.getElem_append_left h, List.drop_eq_getElem_cons h, val_cons, Nat.add_mul_mod_self_left, Nat.mod_eq_of_lt (hD.get j h)]
  · rw [List.drop_eq_nil_of_le h, val_nil]
    simp at hj
    have : j = D.length := by omega
    subst this
    simp
theorem SlI.step {D F : List Nat} {n i : Nat} (h : SlI D n i F) (hD : Dig D) (hn : n ≤ 64) (hi : i < D.length) :
    SlI D n (i + 1) (slD n ((D ++ [0])[D.length - i]'(by simp; omega)) (D[D.length - i - 1]'(by omega)) :: F) := by
  have hz := hD.get (D.length - i - 1) (by omega)
  refine ⟨by rw [List.length_cons, h.len], Dig.cons (slD_lt hn hz) h.dig, ?_⟩
  have hp : 0 < 2 ^ n := Nat.pow_pos (by omega)
  have hq : 0 < 2 ^ (64 - n) := Nat.pow_pos (by omega)
  rw [drop_at D i hi, val_cons, val_cons, h.eq, low_digit D _ hD]
  generalize hV : val (D.drop (D.length - i)) = V at *
  generalize D[D.length - i - 1]'(by omega) = z at *
  unfold slD
  have e1 : (z + Bs * V) * 2 ^ n / Bs = z / 2 ^ (64 - n) + V * 2 ^ n := by
    rw [Nat.add_mul, Nat.mul_assoc, Nat.add_mul_div_left _ _ Bs_pos]
    congr 1
    rw [Bs_split hn, Nat.mul_div_mul_right _ _ hp]
  have e2 : V % Bs * 2 ^ n % Bs = V * 2 ^ n % Bs := by rw [Nat.mod_mul_mod]
  have e3 := Nat.mod_add_div (V * 2 ^ n) Bs
  rw [e1, e2]; omega
theorem SlI.done {D F : List Nat} {n : Nat} (h : SlI D n D.length F) (hD : Dig D) (hne : 0 < D.length) :
    (D[0] * 2 ^ n % Bs :: F).length = D.length + 1 ∧ Dig (D[0] * 2 ^ n % Bs :: F) ∧ val (D[0] * 2 ^ n % Bs :: F) = val D * 2 ^ n := by
  refine ⟨by rw [List.length_cons, h.len], Dig.cons (Nat.mod_lt _ Bs_pos) h.dig, ?_⟩
  have e := h.eq
  rw [Nat.sub_self, List.drop_zero] at e
  have e0 : D[0] = val D % Bs := by
    have := low_digit D 0 hD (by simp)
    rw [List.getElem_append_left hne, List.drop_zero] at this; exact this
  rw [val_cons, e, e0]
  have e2 : val D % Bs * 2 ^ n % Bs = val D * 2 ^ n % Bs := by rw [Nat.mod_mul_mod]
  rw [e2]; exact Nat.mod_add_div _ _

set_option maxHeartbeats 4000000 in
set_option maxRecDepth 100000 in
theorem shiftLeft_any (g c n : Nat) (D : List Nat) (hD : Dig D) (hn : n < 64) (hne : 0 < D.length) (hl : D.length ≤ 1099511627776) (w : World) (hg : g < w.heap.size) (hr : Rd w g 0 D) :
    Calls Tryz.prog 203 #[.slice (some ⟨g, 0, none⟩) D.length c, .int .i64 (n : Int)] w fun e w' =>
      ∃ O : List Nat, e = .returned (.slice (some ⟨w.heap.size, 0, none⟩) (D.length + 1) (D.length + 1)) ∧ (O.length = D.length + 1 ∧ Dig O ∧ val O = val D * 2 ^ n) ∧ DB w' w.heap.size O ∧ Below w.heap.size w w' := by
  have hmk : ∀ w, (Instr.makeSlice 158 (.int .i64 ((D.length : Int) + 1)) (.int .i64 ((D.length : Int) + 1))).run Tryz.prog w = .ok (.slice (some ⟨w.heap.size, 0, none⟩) (D.length + 1) (D.length + 1)) (w.alloc (zobj (D.length + 1))) :=
    fun w => make64 w _ (D.length + 1) (by omega) (by omega)
  have hrx : Rd (w.alloc (zobj (D.length + 1))) g 0 D := hr.below (below1 w _) hg
  have hcp := fun ty => copy64 (w.alloc (zobj (D.length + 1))) w.heap.size (D.length + 1) g 0 c [] (List.replicate (D.length + 1) 0) [] D (by simp) (by simpa using DB.zeros w (D.length + 1)) hrx ty
  rw [drop_zeros] at hcp
  simp only [List.length_nil, List.length_replicate, List.nil_append, List.append_nil] at hcp
  have hdb0 : DB (cpW (w.alloc (zobj (D.length + 1))) w.heap.size (D ++ [0])) w.heap.size (D ++ [0]) := (DB.zeros w (D.length + 1)).cp (D ++ [0])
  have hb0 : Below w.heap.size w (cpW (w.alloc (zobj (D.length + 1))) w.heap.size (D ++ [0])) := (below1 w _).trans (grown_below (cp_grown _ w.heap.size _) (Nat.le_refl _) (by simp))
  have HDB := Lib.hid hdb0
  clear hdb0
  have hm64 : min n 64 = n := by omega
  go_enter Tryz.func203, Tryz.ntmps203
  go_wp2
  go_loopw [17] (fun z wr => ∃ (i : Nat) (F : List Nat), i ≤ D.length ∧ z = .int .i64 i ∧ SlI D n i F ∧ DB wr w.heap.size ((D ++ [0]).take (D.length - i + 1) ++ F) ∧ Below w.heap.size w wr) (fun z _ => D.length - (intOf z).toNat)
  case atStart => exact ⟨0, [], Nat.zero_le _, rfl, SlI.start D n, by rw [Nat.sub_zero, List.take_of_length_le (by simp), List.append_nil]; exact HDB.out, hb0⟩
  case round =>
    obtain ⟨i, F, hi, rfl, hI, hdb1, hb1⟩ := hrel
    by_cases hil : i < D.length
    · have hstep := hI.step hD (Nat.le_of_lt hn) hil
      have hz := hD.get (D.length - i - 1) (by omega)
      have hlt : ((D ++ [0]).take (D.length - i + 1)).length = D.length - i + 1 := by rw [List.length_take]; simp <;> omega
      have hlen : D.length - i < ((D ++ [0]).take (D.length - i + 1) ++ F).length := by rw [List.length_append, hlt]; omega
      have hcell := hdb1.cell _ hlen
      rw [List.getElem_append_left (by omega), List.getElem_take] at hcell
      have hcell2 := hdb1.cell (D.length - i - 1) (by omega)
      rw [List.getElem_append_left (by omega), List.getElem_take, List.getElem_append_left (by omega)] at hcell2
      have hfz := hdb1.frozen (D.length - i)
      have hor := slD_or (n := n) (x := (D ++ [0])[D.length - i]'(by simp; omega)) (Nat.le_of_lt hn) hz
      have hnext := hdb1.set _ hlen (slD n ((D ++ [0])[D.length - i]'(by simp; omega)) (D[D.length - i - 1]'(by omega)))
      rw [List.set_append_left _ _ (by omega)] at hnext
      have hset : ((D ++ [0]).take (D.length - i + 1)).set (D.length - i) (slD n ((D ++ [0])[D.length - i]'(by simp; omega)) (D[D.length - i - 1]'(by omega))) ++ F =
          (D ++ [0]).take (D.length - (i + 1) + 1) ++ (slD n ((D ++ [0])[D.length - i]'(by simp; omega)) (D[D.length - i - 1]'(by omega)) :: F) := by
        have e1 : D.length - (i + 1) + 1 = D.length - i := by omega
        rw [e1, List.take_succ_eq_append_getElem (by simp; omega), List.set_append_right _ _ (by rw [List.length_take]; simp; omega), List.length_take, Nat.min_eq_left (by simp; omega), Nat.sub_self]
        simp
      rw [hset] at hnext
      generalize (D ++ [0])[D.length - i]'(by simp; omega) = x at *
      generalize D[D.length - i - 1]'(by omega) = z at *
      have HN := Lib.hid hnext
      have HS := Lib.hid hstep
      clear hnext hstep hlen hI hset hlt hz hdb1 hcp hmk
      go_wp2
      go_region
      all_goals go_wp2
      all_goals go_roundw
      case rel => exact ⟨i + 1, _, by omega, by go_num, HS.out, HN.out, (hb1.setCell (Nat.le_refl _) _).drew⟩
      case measure => simp [intOf]; omega
    · have hik : i = D.length := by omega
      subst hik
      have hdone := hI.done hD hne
      rw [Nat.sub_self, List.take_succ_eq_append_getElem (by simp), List.take_zero, List.nil_append, List.getElem_append_left hne] at hdb1
      have hcell := hdb1.cell 0 (by simp)
      have hfz := hdb1.frozen 0
      have hnext := hdb1.set 0 (by simp) (D[0] * 2 ^ n % Bs)
      rw [show ([D[0]] ++ F).set 0 (D[0] * 2 ^ n % Bs) = D[0] * 2 ^ n % Bs :: F by simp] at hnext
      have hw := sh_wrap D[0] n
      rw [show ([D[0]] ++ F)[0]'(by simp) = D[0] by simp] at hcell
      generalize D[0] * 2 ^ n % Bs = v at *
      generalize D[0] = x at *
      have HN := Lib.hid hnext
      have HE := Lib.hid hdone
      clear hnext hdone hI hdb1
      go_wp2
      go_ret
      exact ⟨_, rfl, HE.out, HN.out, hb1.setCell (Nat.le_refl _) _⟩

/-- the digit that a shift to the right leaves: of x, and of z above it -/
def srD (n x z : Nat) : Nat := x / 2 ^ n + z * 2 ^ (64 - n) % Bs
theorem srD_sum {n x X : Nat} (h : n ≤ 64) : (x + Bs * X) / 2 ^ n = srD n x (X % Bs) + Bs * (X / 2 ^ n) := by
  have hp : 0 < 2 ^ n := Nat.pow_pos (by omega)
  unfold srD
  have e1 : (x + Bs * X) / 2 ^ n = x / 2 ^ n + 2 ^ (64 - n) * X := by
    rw [Bs_split h, Nat.mul_right_comm, Nat.add_mul_div_right _ _ hp]
  have e2 : X % Bs * 2 ^ (64 - n) % Bs = 2 ^ (64 - n) * (X % 2 ^ n) := by
    rw [Nat.mod_mul_mod]
    have : Bs = 2 ^ n * 2 ^ (64 - n) := by rw [Nat.mul_comm]; exact Bs_split h
    rw [this, Nat.mul_mod_mul_right, Nat.mul_comm]
  have e3 := Nat.mod_add_div X (2 ^ n)
  have e4 : 2 ^ (64 - n) * X = 2 ^ (64 - n) * (X % 2 ^ n) + 2 ^ (64 - n) * (2 ^ n * (X / 2 ^ n)) := by rw [← Nat.mul_add, e3]
  rw [e1, e2, e4, ← Nat.mul_assoc, ← Bs_split h]; omega
theorem srD_lt {n x z : Nat} (h : n ≤ 64) (hx : x < Bs) : srD n x z < Bs := by
  have hp : 0 < 2 ^ n := Nat.pow_pos (by omega)
  have hq : 0 < 2 ^ (64 - n) := Nat.pow_pos (by omega)
  unfold srD
  have hB : Bs = 2 ^ n * 2 ^ (64 - n) := by rw [Nat.mul_comm]; exact Bs_split h
  have e : z * 2 ^ (64 - n) % Bs = (z % 2 ^ n) * 2 ^ (64 - n) := by rw [hB, Nat.mul_mod_mul_right]
  have h1 : z % 2 ^ n + 1 ≤ 2 ^ n := Nat.mod_lt _ hp
  have h2 := Nat.mul_le_mul_right (2 ^ (64 - n)) h1
  rw [← hB, Nat.add_mul, Nat.one_mul] at h2
  have h3 : x / 2 ^ n < 2 ^ (64 - n) := (Nat.div_lt_iff_lt_mul hp).2 (by rw [← Bs_split h]; exact hx)
  omega
theorem srD_or {n x z : Nat} (h : n ≤ 64) (hx : x < Bs) : bits .or .u64 ((x : Int) / 2 ^ n) (IntKind.u64.wrap ((z : Int) * 2 ^ (64 - n))) = ((srD n x z : Nat) : Int) := by
  have hp : 0 < 2 ^ n := Nat.pow_pos (by omega)
  have e2 : (x : Int) / 2 ^ n = ((x / 2 ^ n : Nat) : Int) := by rw [Int.natCast_ediv, Int.natCast_pow]; rfl
  have hB : Bs = 2 ^ n * 2 ^ (64 - n) := by rw [Nat.mul_comm]; exact Bs_split h
  have e : z * 2 ^ (64 - n) % Bs = 2 ^ (64 - n) * (z % 2 ^ n) := by rw [hB, Nat.mul_mod_mul_right, Nat.mul_comm]
  have h3 : x / 2 ^ n < 2 ^ (64 - n) := (Nat.div_lt_iff_lt_mul hp).2 (by rw [← Bs_split h]; exact hx)
  have h4 := srD_lt (z := z) h hx
  unfold srD at h4 ⊢
  rw [sh_wrap, e2, e]
  rw [e] at h4
  rw [bits_or_u64_nat _ _ (Nat.lt_of_le_of_lt (Nat.le_add_right _ _) h4) (Nat.lt_of_le_of_lt (Nat.le_add_left _ _) h4), Nat.or_comm, ← Nat.two_pow_add_eq_or_of_lt h3, Nat.add_comm]

theorem gdrew {w w' : World} {r : Option Nat} (h : w.grownBy w' r) : w.grownBy w'.drew r := ⟨h.os, h.tape, h.output, h.size, h.block⟩
structure SrI (D : List Nat) (n i : Nat) (P : List Nat) : Prop where
  len : P.length = i
  dig : Dig P
  eq : val P + Bs ^ i * (val (D.drop i) / 2 ^ n) = val D / 2 ^ n
theorem SrI.start (D : List Nat) (n : Nat) : SrI D n 0 [] := ⟨rfl, Dig.nil, by simp [val]⟩
theorem next_digit (D : List Nat) (j : Nat) (hD : Dig D) : D.getD j 0 = val (D.drop j) % Bs := by
  rcases Nat.lt_or_ge j D.length with h | h
  · rw [List.drop_eq_getElem_cons h, val_cons, Nat.add_mul_mod_self_left, Nat.mod_eq_of_lt (hD.get j h)]; simp [h]
  · rw [List.drop_eq_nil_of_le h, val_nil]; simp [h]
theorem SrI.step {D P : List Nat} {n i : Nat} (h : SrI D n i P) (hD : Dig D) (hn : n ≤ 64) (hi : i < D.length) :
    SrI D n (i + 1) (P ++ [srD n D[i] (D.getD (i + 1) 0)]) := by
  refine ⟨by rw [List.length_append, h.len]; rfl, h.dig.app (Dig.cons (srD_lt hn (hD.get i hi)) Dig.nil), ?_⟩
  have he := h.eq
  rw [List.drop_eq_getElem_cons hi, val_cons, srD_sum hn, ← next_digit D (i + 1) hD] at he
  rw [val_snoc, h.len, Nat.pow_succ, ← he, Nat.mul_add, Nat.mul_assoc]; omega
theorem SrI.done {D P : List Nat} {n : Nat} (h : SrI D n D.length P) : P.length = D.length ∧ Dig P ∧ val P = val D / 2 ^ n := by
  have e := h.eq
  rw [List.drop_length, val_nil, Nat.zero_div, Nat.mul_zero, Nat.add_zero] at e
  exact ⟨h.len, h.dig, e⟩

set_option maxHeartbeats 4000000 in
set_option maxRecDepth 100000 in
theorem shiftRight_any (g c n : Nat) (D C : List Nat) (hD : Dig D) (hn : n < 64) (hl : D.length ≤ 1099511627776) (w : World) (hdb : DB w g (D ++ C)) :
    Calls Tryz.prog 205 #[.slice (some ⟨g, 0, none⟩) D.length c, .int .i64 (n : Int)] w fun e w' =>
      e = .returned (.tuple #[]) ∧ ∃ O : List Nat, (O.length = D.length ∧ Dig O ∧ val O = val D / 2 ^ n) ∧ DB w' g (O ++ C) ∧ w.grownBy w' (some g) := by
  have hm64 : min n 64 = n := by omega
  go_enter Tryz.func205, Tryz.ntmps205
  go_wp2
  go_loopw [7] (fun z wr => ∃ (i : Nat) (P : List Nat), i ≤ D.length ∧ z = .int .i64 i ∧ SrI D n i P ∧ DB wr g (P ++ (D.drop i ++ C)) ∧ w.grownBy wr (some g)) (fun z _ => D.length - (intOf z).toNat)
  case atStart => exact ⟨0, [], Nat.zero_le _, rfl, SrI.start D n, by simpa using hdb, grown_refl w _⟩
  case round =>
    obtain ⟨i, P, hi, rfl, hI, hdb1, hg1⟩ := hrel
    by_cases hil : i < D.length
    · have hstep := hI.step hD (Nat.le_of_lt hn) hil
      have hPl := hI.len
      have hx := hD.get i hil
      have e2 : ((D[i] : Nat) : Int) / 2 ^ n = ((D[i] / 2 ^ n : Nat) : Int) := by rw [Int.natCast_ediv, Int.natCast_pow]; rfl
      have hsplit : P ++ (D.drop i ++ C) = P ++ D[i] :: (D.drop (i + 1) ++ C) := by rw [List.drop_eq_getElem_cons hil]; rfl
      rw [hsplit] at hdb1
      have hlen : i < (P ++ D[i] :: (D.drop (i + 1) ++ C)).length := by simp; omega
      have hcell := hdb1.cell i hlen
      rw [show (P ++ D[i] :: (D.drop (i + 1) ++ C))[i]'hlen = D[i] by rw [List.getElem_append_right (by omega)]; simp [hPl]] at hcell
      have hfz := hdb1.frozen i
      have set_ : ∀ y : Nat, (P ++ D[i] :: (D.drop (i + 1) ++ C)).set i y = P ++ [y] ++ (D.drop (i + 1) ++ C) := fun y => by
        rw [List.set_append_right _ _ (by omega), hPl, Nat.sub_self]; simp
      by_cases hlast : i + 1 < D.length
      · have hor := srD_or (n := n) (z := D.getD (i + 1) 0) (Nat.le_of_lt hn) hx
        have hn1 := hdb1.set i hlen (D[i] / 2 ^ n)
        rw [set_] at hn1
        have hcell2 := hdb1.cell (i + 1) (by simp; omega)
        rw [show (P ++ D[i] :: (D.drop (i + 1) ++ C))[i + 1]'(by simp; omega) = D.getD (i + 1) 0 by
          rw [List.getElem_append_right (by omega)]
          have : i + 1 - P.length = 0 + 1 := by omega
          simp only [this, List.getElem_cons_succ]
          rw [List.getElem_append_left (by simp; omega)]
          simp [hlast]] at hcell2
        have hn2 := hn1.set i (by simp; omega) (srD n D[i] (D.getD (i + 1) 0))
        rw [show (P ++ [D[i] / 2 ^ n] ++ (D.drop (i + 1) ++ C)).set i (srD n D[i] (D.getD (i + 1) 0)) = P ++ [srD n D[i] (D.getD (i + 1) 0)] ++ (D.drop (i + 1) ++ C) by
          rw [List.append_assoc, List.set_append_right _ _ (by omega), hPl, Nat.sub_self]; simp] at hn2
        rw [e2] at hor
        have hcell3 : (wr.setCell ⟨g, i, none⟩ (.int .u64 ((D[i] / 2 ^ n : Nat) : Int))).cell? ⟨g, i + 1, none⟩ = some (.int .u64 ((D.getD (i + 1) 0 : Nat) : Int)) := (World.cell?_setCell_other _ _ _ _ (by simp)).trans hcell2
        have hcell4 : (wr.setCell ⟨g, i, none⟩ (.int .u64 ((D[i] / 2 ^ n : Nat) : Int))).cell? ⟨g, i, none⟩ = some (.int .u64 ((D[i] / 2 ^ n : Nat) : Int)) := World.cell?_setCell_same _ _ _ hcell
        generalize D.getD (i + 1) 0 = z at *
        generalize hxq : D[i] / 2 ^ n = xq at *
        generalize D[i] = x at *
        have HN := Lib.hid hn2
        have HS := Lib.hid hstep
        have HPL := Lib.hid hPl
        clear hn1 hn2 hstep hlen hI hsplit set_ hdb1 hx hPl hxq
        go_wp2
        go_region
        all_goals go_wp2
        all_goals go_roundw
        case rel =>
          exact ⟨i + 1, _, by omega, by go_num, HS.out, HN.out, grown_trans hg1 (gdrew (grown_trans (grown_set _ g i _) (grown_set _ g i _)))⟩
        case measure => simp [intOf]; omega
      · have hz : D.getD (i + 1) 0 = 0 := by simp [hlast]
        have hsr : srD n D[i] 0 = D[i] / 2 ^ n := by unfold srD; simp
        rw [hz, hsr] at hstep
        have hn1 := hdb1.set i hlen (D[i] / 2 ^ n)
        rw [set_] at hn1
        generalize hxq : D[i] / 2 ^ n = xq at *
        generalize D[i] = x at *
        have HN := Lib.hid hn1
        have HS := Lib.hid hstep
        clear hn1 hstep hlen hI hsplit set_ hdb1 hx hPl hxq hz hsr
        go_wp2
        go_roundw
        case rel => exact ⟨i + 1, _, by omega, by go_num, HS.out, HN.out, grown_trans hg1 (grown_set _ g i _)⟩
        case measure => simp [intOf]; omega
    · have hik : i = D.length := by omega
      subst hik
      have hdone := hI.done
      rw [List.drop_length, List.nil_append] at hdb1
      have HE := Lib.hid hdone
      clear hdone hI
      go_wp2
      go_end0
      exact ⟨rfl, P, HE.out, hdb1, hg1⟩
end Go.Proofs.YtecdnohhengfaaaGreatDoor

/-
  Layer 1, walks N: guess, takeMultiple, divide.
-/
namespace Go.Proofs.YtecdnohhengfaaaGreatDoor
open Go.RowKit
attribute [local irreducible] lo hs sm s64 c64 d64 b64 mh ml pd pc qd qc val hiB str

/-- what guess returns -/
def gs (p2 p1 p0 t s : Nat) : Nat := if p2 = t then Bs - 1 else ((p2 * Bs + p1) * Bs + p0) / (t * Bs + s)

theorem two_le {d s r p0 : Nat} (hp : p0 < Bs) : (mh d s < r ∨ mh d s = r ∧ ml d s ≤ p0) ↔ d * s ≤ r * Bs + p0 := by
  have h1 := mul_spec d s
  have h2 := ml_lt d s
  generalize mh d s = a at *
  generalize ml d s = b at *
  rw [← h1, Nat.mul_comm Bs a]
  have mono : ∀ x y : Nat, x < y → x * Bs + Bs ≤ y * Bs := fun x y h => by rw [← Nat.succ_mul]; exact Nat.mul_le_mul_right _ h
  constructor
  · rintro (h | ⟨h, h'⟩)
    · have := mono a r h; omega
    · subst h; omega
  · intro h
    rcases Nat.lt_trichotomy a r with h3 | h3 | h3
    · exact .inl h3
    · subst h3; exact .inr ⟨rfl, by omega⟩
    · have := mono r a h3; omega

set_option maxHeartbeats 4000000 in
set_option maxRecDepth 100000 in
theorem guess_any (g o c gy oy cy : Nat) (P Y : List Nat) (n : Nat) (hP : Dig P) (hY : Dig Y) (hPl : P.length = n + 1) (hYl : Y.length = n) (h2 : 2 ≤ n) (hm : n ≤ 1099511627776) (hle : P[n]'(by omega) ≤ Y[n - 1]'(by omega)) (ht : 0 < Y[n - 1]'(by omega))
    (w : World) (hp : Rd w g o P) (hy : Rd w gy oy Y) :
    Calls Tryz.prog 219 #[.slice (some ⟨g, o, none⟩) P.length c, .slice (some ⟨gy, oy, none⟩) Y.length cy] w fun e w' =>
      e = .returned (.int .u64 ((gs (P[n]'(by omega)) (P[n - 1]'(by omega)) (P[n - 2]'(by omega)) (Y[n - 1]'(by omega)) (Y[n - 2]'(by omega)) : Nat) : Int)) ∧ ∃ k, w' = w.drewN k := by
  have c2 := hp n (by omega)
  have c1 := hp (n - 1) (by omega)
  have c0 := hp (n - 2) (by omega)
  have ct := hy (n - 1) (by omega)
  have cs := hy (n - 2) (by omega)
  have b1 := hP.get (n - 1) (by omega)
  have b0 := hP.get (n - 2) (by omega)
  have bt := hY.get (n - 1) (by omega)
  have bs := hY.get (n - 2) (by omega)
  generalize P[n]'(by omega) = p2 at *
  generalize P[n - 1]'(by omega) = p1 at *
  generalize P[n - 2]'(by omega) = p0 at *
  generalize Y[n - 1]'(by omega) = t at *
  generalize Y[n - 2]'(by omega) = s at *
  rw [hPl, hYl]
  clear hp hy hP hY hPl hYl
  have q1 : (1 : Int) ≤ (n : Int) := by omega
  have q2 : (2 : Int) ≤ (n : Int) := by omega
  unfold gs
  by_cases heq : p2 = t
  · rw [if_pos heq]
    have hbe : ((p2 : Int) == (t : Int)) = true := by simp; omega
    have HB : Hid (((Bs - 1 : Nat) : Int) = 18446744073709551615) := by show _ = _; unfold Bs; rfl
    clear heq
    go_enter Tryz.func219, Tryz.ntmps219
    go_wp2
    go_step3
    go_wp2
    go_quiet (fail)
    go_wp2
    rw [Exit.noGoto_ret]
    go_ret
    exact ⟨congrArg (fun k : Int => Ending.returned (.int .u64 k)) HB.out.symm, _, rfl⟩
  · rw [if_neg heq]
    have hbe : ((p2 : Int) == (t : Int)) = false := by simp; omega
    have hlt : p2 < t := by omega
    have hD := div64_all p2 p1 t hlt bt b1
    have hq0 : (p2 * Bs + p1) / t < Bs := (Nat.div_lt_iff_lt_mul ht).2 (by
      have : p2 * Bs + Bs ≤ t * Bs := by rw [← Nat.succ_mul]; exact Nat.mul_le_mul_right _ hlt
      rw [Nat.mul_comm Bs t]; omega)
    have hst : (p2 * Bs + p1) / t * t + (p2 * Bs + p1) % t = p2 * Bs + p1 := Nat.div_add_mod' _ _
    have hge : ((p2 * Bs + p1) * Bs + p0) / (t * Bs + s) ≤ (p2 * Bs + p1) / t := knu_start ht b0
    have hr0 : (p2 * Bs + p1) % t < Bs := Nat.lt_of_lt_of_le (Nat.mod_lt _ ht) (Nat.le_of_lt bt)
    generalize (p2 * Bs + p1) / t = d0 at *
    generalize (p2 * Bs + p1) % t = r0 at *
    generalize hPP : p2 * Bs + p1 = PP at *
    generalize hQ : (PP * Bs + p0) / (t * Bs + s) = Q3 at *
    have HD := Lib.hid hD
    have HI : Hid (d0 * t + r0 = PP ∧ Q3 ≤ d0 ∧ d0 < Bs ∧ r0 < Bs) := ⟨hst, hge, hq0, hr0⟩
    have HQ := Lib.hid hQ
    clear hD hst hge hq0 hr0 hPP hQ heq hlt hle
    go_enter Tryz.func219, Tryz.ntmps219
    go_wp2
    go_step3
    go_wp2
    go_quiet (fail)
    generalize hW1 : w.drewN nq = w1
    have e2 : w1.cell? ⟨g, o + n, none⟩ = some (.int .u64 (p2 : Int)) := by rw [← hW1]; exact c2
    have e1 : w1.cell? ⟨g, o + (n - 1), none⟩ = some (.int .u64 (p1 : Int)) := by rw [← hW1]; exact c1
    have e0 : w1.cell? ⟨g, o + (n - 2), none⟩ = some (.int .u64 (p0 : Int)) := by rw [← hW1]; exact c0
    have HW1 : Hid (∃ k, w1 = w.drewN k) := ⟨nq, hW1.symm⟩
    clear hW1 c2 c1 c0 ct cs
    go_wp2
    go_quiet ((go_at_call 186; exact Calls.quiet_of (HD.out _)))
    generalize hW2 : w1.drewN nq = w2
    have f0 : w2.cell? ⟨g, o + (n - 2), none⟩ = some (.int .u64 (p0 : Int)) := by rw [← hW2]; exact e0
    have HW2 : Hid (∃ k, w2 = w.drewN k) := by
      obtain ⟨k, hk⟩ := HW1.out
      exact ⟨k + nq, by rw [← hW2, hk, World.drewN_drewN]⟩
    clear hW2 e2 e1 e0 HW1 HD
    go_wp2
    go_step3
    go_wp2
    go_loop [8, 9] (fun x y => ∃ d r : Nat, x = .int .u64 d ∧ y = .int .u64 r ∧ d * t + r = PP ∧ Q3 ≤ d ∧ d < Bs ∧ r < Bs) (fun x _ => (intOf x).toNat)
    case atStart => exact ⟨d0, r0, rfl, rfl, HI.out⟩
    case round =>
      clear HI
      obtain ⟨d, r, rfl, rfl, hI, hge, hdB, hrB⟩ := hrel
      have HM := Lib.hid (mul64 d s hdB bs)
      by_cases ha : mh d s < r
      · have hex := knu_exit hI ht (by rw [HQ.out]; exact hge) ((two_le b0).1 (.inl ha))
        rw [HQ.out] at hex
        subst hex
        clear hI hge
        go_wp2_with (go_at_call 156; refine (HM.out _).mono ?_; rintro e w3 ⟨rfl, rfl⟩)
        rw [Exit.noGoto_ret]
        go_ret
        exact ⟨rfl, HW2.out⟩
      · by_cases hb : mh d s = r
        · by_cases hc : ml d s ≤ p0
          · have hex := knu_exit hI ht (by rw [HQ.out]; exact hge) ((two_le b0).1 (.inr ⟨hb, hc⟩))
            rw [HQ.out] at hex
            subst hex
            have hbe : (((mh d s : Nat) : Int) == (r : Int)) = true := by simp; omega
            clear hI hge hb
            go_wp2_with (go_at_call 156; refine (HM.out _).mono ?_; rintro e w3 ⟨rfl, rfl⟩)
            rw [Exit.noGoto_ret]
            go_ret
            exact ⟨rfl, HW2.out⟩
          · skip
            have hno : ¬ d * s ≤ r * Bs + p0 := fun h => by
              rcases (two_le b0).2 h with h1 | ⟨h1, h2⟩
              · exact ha h1
              · exact hc h2
            obtain ⟨hd1, hI', hge'⟩ := knu_step hI b0 bs ht (by rw [HQ.out]; exact hge) (Nat.lt_of_not_le hno)
            rw [HQ.out] at hge'
            have hadd := add64c r t
            have hsum := s64_spec r t 0
            have hs64 := s64_lt r t 0
            have hcle := c64_le (c := 0) hrB bt (by omega)
            clear hno hI hge
            have hbe : (((mh d s : Nat) : Int) == (r : Int)) = true := by simp; omega
            clear hb
            by_cases hcy : c64 r t 0 = 0
            · have hpos : decide (0 < c64 r t 0) = false := by simp; omega
              have H1 : Hid ((d - 1) * t + s64 r t 0 = PP ∧ Q3 ≤ d - 1 ∧ d - 1 < Bs ∧ s64 r t 0 < Bs) := ⟨by rw [hcy, Nat.mul_zero] at hsum; omega, hge', by omega, hs64⟩
              have HD1 : Hid (((d : Int) - 1) = ((d - 1 : Nat) : Int)) := by show _ = _; omega
              clear hsum hI' hge' hcy hcle hs64
              have hd2 : (1 : Int) ≤ (d : Int) := by omega
              have hd3 : (d : Int) ≤ 18446744073709551615 := by unfold Bs at hdB; omega
              go_wp2_with (go_at_call 156; refine (HM.out _).mono ?_; rintro e w3 ⟨rfl, rfl⟩)
              go_round
              case rel => exact ⟨d - 1, s64 r t 0, by rw [HD1.out], rfl, H1.out⟩
              case measure => simp [intOf]; omega
            · have hpos : decide (0 < c64 r t 0) = true := by simp; omega
              have hex : d - 1 = Q3 := by
                have hle : (d - 1) * s ≤ (r + t) * Bs + p0 := by
                  have h1 : (d - 1) * s ≤ Bs * Bs := Nat.mul_le_mul (by omega) (by omega)
                  have h2 : Bs * Bs ≤ (r + t) * Bs := Nat.mul_le_mul_right _ (by
                    have : Bs * 1 ≤ Bs * c64 r t 0 := Nat.mul_le_mul_left _ (by omega)
                    omega)
                  omega
                have := knu_exit hI' ht (by rw [HQ.out]; exact hge') hle
                rw [HQ.out] at this; exact this
              have HD1 : Hid (((d : Int) - 1) = (Q3 : Int)) := by show _ = _; omega
              clear hsum hI' hge' hcy hcle hs64 hex
              have hd2 : (1 : Int) ≤ (d : Int) := by omega
              have hd3 : (d : Int) ≤ 18446744073709551615 := by unfold Bs at hdB; omega
              go_wp2_with (go_at_call 156; refine (HM.out _).mono ?_; rintro e w3 ⟨rfl, rfl⟩)
              rw [Exit.noGoto_ret]
              go_ret
              exact ⟨congrArg (fun k : Int => Ending.returned (.int .u64 k)) HD1.out, HW2.out⟩
        · skip
          have hno : ¬ d * s ≤ r * Bs + p0 := fun h => by
            rcases (two_le b0).2 h with h1 | ⟨h1, h2⟩
            · exact ha h1
            · exact hb h1
          obtain ⟨hd1, hI', hge'⟩ := knu_step hI b0 bs ht (by rw [HQ.out]; exact hge) (Nat.lt_of_not_le hno)
          rw [HQ.out] at hge'
          have hadd := add64c r t
          have hsum := s64_spec r t 0
          have hs64 := s64_lt r t 0
          have hcle := c64_le (c := 0) hrB bt (by omega)
          clear hno hI hge
          have hbe : (((mh d s : Nat) : Int) == (r : Int)) = false := by simp; omega
          clear hb
          by_cases hcy : c64 r t 0 = 0
          · have hpos : decide (0 < c64 r t 0) = false := by simp; omega
            have H1 : Hid ((d - 1) * t + s64 r t 0 = PP ∧ Q3 ≤ d - 1 ∧ d - 1 < Bs ∧ s64 r t 0 < Bs) := ⟨by rw [hcy, Nat.mul_zero] at hsum; omega, hge', by omega, hs64⟩
            have HD1 : Hid (((d : Int) - 1) = ((d - 1 : Nat) : Int)) := by show _ = _; omega
            clear hsum hI' hge' hcy hcle hs64
            have hd2 : (1 : Int) ≤ (d : Int) := by omega
            have hd3 : (d : Int) ≤ 18446744073709551615 := by unfold Bs at hdB; omega
            go_wp2_with (go_at_call 156; refine (HM.out _).mono ?_; rintro e w3 ⟨rfl, rfl⟩)
            go_round
            case rel => exact ⟨d - 1, s64 r t 0, by rw [HD1.out], rfl, H1.out⟩
            case measure => simp [intOf]; omega
          · have hpos : decide (0 < c64 r t 0) = true := by simp; omega
            have hex : d - 1 = Q3 := by
              have hle : (d - 1) * s ≤ (r + t) * Bs + p0 := by
                have h1 : (d - 1) * s ≤ Bs * Bs := Nat.mul_le_mul (by omega) (by omega)
                have h2 : Bs * Bs ≤ (r + t) * Bs := Nat.mul_le_mul_right _ (by
                  have : Bs * 1 ≤ Bs * c64 r t 0 := Nat.mul_le_mul_left _ (by omega)
                  omega)
                omega
              have := knu_exit hI' ht (by rw [HQ.out]; exact hge') hle
              rw [HQ.out] at this; exact this
            have HD1 : Hid (((d : Int) - 1) = (Q3 : Int)) := by show _ = _; omega
            clear hsum hI' hge' hcy hcle hs64 hex
            have hd2 : (1 : Int) ≤ (d : Int) := by omega
            have hd3 : (d : Int) ≤ 18446744073709551615 := by unfold Bs at hdB; omega
            go_wp2_with (go_at_call 156; refine (HM.out _).mono ?_; rintro e w3 ⟨rfl, rfl⟩)
            rw [Exit.noGoto_ret]
            go_ret
            exact ⟨congrArg (fun k : Int => Ending.returned (.int .u64 k)) HD1.out, HW2.out⟩

/-- what takeMultiple asks of its two numbers, and what its guess is worth -/
theorem gs_ok (P Y : List Nat) (m : Nat) (hP : Dig P) (hY : Dig Y) (hPl : P.length = m + 3) (hYl : Y.length = m + 2) (htop : Bs ≤ 2 * Y[m + 1]) (hlt : val P < Bs * val Y) :
    P[m + 2] ≤ Y[m + 1] ∧ (gs P[m + 2] P[m + 1] P[m] Y[m + 1] Y[m] = val P / val Y ∨ gs P[m + 2] P[m + 1] P[m] Y[m + 1] Y[m] = val P / val Y + 1) ∧ gs P[m + 2] P[m + 1] P[m] Y[m + 1] Y[m] < Bs := by
  have hP0 := hP.get m (by omega)
  have hP1 := hP.get (m + 1) (by omega)
  have hP2 := hP.get (m + 2) (by omega)
  have hY0 := hY.get m (by omega)
  have hY1 := hY.get (m + 1) (by omega)
  have lp := val_lt (hP.take m)
  have ly := val_lt (hY.take m)
  rw [List.length_take, Nat.min_eq_left (by omega)] at lp ly
  have eP : val P = ((P[m + 2] * Bs + P[m + 1]) * Bs + P[m]) * Bs ^ m + val (P.take m) := by
    have e1 := take_snoc P m (by omega)
    have e2 := take_snoc P (m + 1) (by omega)
    have e3 := take_snoc P (m + 2) (by omega)
    rw [List.take_of_length_le (by omega)] at e3
    have p1 : Bs ^ (m + 1) = Bs ^ m * Bs := Nat.pow_succ _ _
    have p2 : Bs ^ (m + 2) = Bs ^ m * Bs * Bs := by rw [Nat.pow_succ, p1]
    rw [e3, e2, e1, p1, p2]
    generalize Bs ^ m = M
    have q1 : M * Bs * P[m + 1] = P[m + 1] * Bs * M := by ac_rfl
    have q2 : M * Bs * Bs * P[m + 2] = P[m + 2] * Bs * Bs * M := by ac_rfl
    rw [q1, q2, Nat.mul_comm M, Nat.add_mul, Nat.add_mul, Nat.add_mul]; omega
  have eY : val Y = (Y[m + 1] * Bs + Y[m]) * Bs ^ m + val (Y.take m) := by
    have e1 := take_snoc Y m (by omega)
    have e2 := take_snoc Y (m + 1) (by omega)
    rw [List.take_of_length_le (by omega)] at e2
    have p1 : Bs ^ (m + 1) = Bs ^ m * Bs := Nat.pow_succ _ _
    rw [e2, e1, p1]
    generalize Bs ^ m = M
    have q1 : M * Bs * Y[m + 1] = Y[m + 1] * Bs * M := by ac_rfl
    rw [q1, Nat.mul_comm M, Nat.add_mul]; omega
  generalize val (P.take m) = lu at *
  generalize val (Y.take m) = lv at *
  generalize val P = U at *
  generalize val Y = V at *
  generalize P[m + 2] = p2 at *
  generalize P[m + 1] = p1 at *
  generalize P[m] = p0 at *
  generalize Y[m + 1] = t at *
  generalize Y[m] = s at *
  generalize hM : Bs ^ m = M at *
  have hMp : 0 < M := by rw [← hM]; exact Nat.pow_pos Bs_pos
  have hBp := Bs_pos
  have ht : 0 < t := by omega
  have hYp : 0 < t * Bs + s := by have := Nat.mul_pos ht hBp; omega
  have hVp : 0 < V := by have := Nat.mul_pos hYp hMp; omega
  -- the quotient is a digit
  have hq : U / V < Bs := (Nat.div_lt_iff_lt_mul hVp).2 hlt
  have hle : p2 ≤ t := by
    have h1 : U < Bs * ((t * Bs + s + 1) * M) := by
      refine Nat.lt_of_lt_of_le hlt (Nat.mul_le_mul_left _ ?_)
      rw [Nat.succ_mul]; omega
    have h2 : (p2 * Bs * Bs) * M ≤ U := by
      rw [eP]; refine Nat.le_trans (Nat.mul_le_mul_right _ ?_) (Nat.le_add_right _ _)
      rw [Nat.add_mul]; omega
    have h3 : (p2 * Bs * Bs) * M < (Bs * (t * Bs + s + 1)) * M := by rw [Nat.mul_assoc Bs]; omega
    have h4 := Nat.lt_of_mul_lt_mul_right h3
    have h5 : Bs * (t * Bs + s + 1) ≤ Bs * ((t + 1) * Bs) := Nat.mul_le_mul_left _ (by rw [Nat.succ_mul]; omega)
    have h6 : p2 * Bs * Bs < (t + 1) * Bs * Bs := by rw [Nat.mul_comm ((t + 1) * Bs)]; omega
    have h7 := Nat.lt_of_mul_lt_mul_right (Nat.lt_of_mul_lt_mul_right h6)
    omega
  refine ⟨hle, ?_⟩
  unfold gs
  by_cases h : p2 = t
  · rw [if_pos h]
    have := knu_top (U := U) (V := V) (t := t) (N := Bs * M) (r := (p1 * Bs + p0) * M + lu) (s := s * M + lv) (by
      rw [eP, h]; simp only [Nat.add_mul, Nat.mul_assoc]; omega) (by rw [eY]; simp only [Nat.add_mul, Nat.mul_assoc]; omega) (by
      have : (s + 1) * M ≤ Bs * M := Nat.mul_le_mul_right _ hY0
      rw [Nat.succ_mul] at this; omega) htop hlt
    omega
  · rw [if_neg h]
    have k1 := knu_le (U := U) (V := V) eP eY lp hYp
    have hqY : U / V < t * Bs + s := by
      have : Bs * 1 ≤ t * Bs := by rw [Nat.mul_comm t]; exact Nat.mul_le_mul_left _ ht
      omega
    have k2 := knu_ge (U := U) (V := V) eP eY ly hYp hqY
    have k3 : ((p2 * Bs + p1) * Bs + p0) / (t * Bs + s) < Bs := by
      refine (Nat.div_lt_iff_lt_mul hYp).2 ?_
      have h1 : (p2 + 1) * Bs ≤ t * Bs := Nat.mul_le_mul_right _ (by omega)
      rw [Nat.succ_mul] at h1
      have h2 : (p2 * Bs + p1 + 1) * Bs ≤ t * Bs * Bs := Nat.mul_le_mul_right _ (by omega)
      rw [Nat.succ_mul] at h2
      rw [Nat.mul_add, Nat.mul_comm Bs (t * Bs)]; omega
    omega

theorem grown_drewN (w : World) (k : Nat) (r : Option Nat) : w.grownBy (w.drewN k) r := ⟨rfl, rfl, rfl, Nat.le_refl _, fun _ _ _ => rfl⟩
set_option maxHeartbeats 2000000 in
set_option maxRecDepth 100000 in
theorem takeMultiple_any (g gy c cy m : Nat) (A D C Y : List Nat) (hD : Dig D) (hY : Dig Y) (hDl : D.length = m + 3) (hYl : Y.length = m + 2) (hm : m ≤ 1000000000000) (htop : Bs ≤ 2 * Y[m + 1]) (hlt : val D < Bs * val Y) (hne : gy ≠ g)
    (w : World) (hdb : DB w g (A ++ D ++ C)) (hgy : gy < w.heap.size) (hr : Rd w gy 0 Y) :
    Calls Tryz.prog 204 #[.slice (some ⟨g, A.length, none⟩) D.length c, .slice (some ⟨gy, 0, none⟩) Y.length cy] w fun e w' =>
      e = .returned (.int .u64 ((val D / val Y : Nat) : Int)) ∧ ∃ D' : List Nat, (D'.length = D.length ∧ Dig D' ∧ val D' = val D % val Y) ∧ DB w' g (A ++ D' ++ C) ∧ w.grownBy w' (some g) := by
  obtain ⟨hle, hor, hGB⟩ := gs_ok D Y m hD hY hDl hYl htop hlt
  have hpr : Rd w g A.length D := fun i hi => by
    have h1 : A.length + i < (A ++ D ++ C).length := by simp; omega
    rw [hdb.cell _ h1]
    congr 3
    rw [List.getElem_append_left (by simp; omega), List.getElem_append_right (by omega)]
    simp
  have hG := guess_any g A.length c gy 0 cy D Y (m + 2) hD hY (by omega) (by omega) (by omega) (by omega) hle (by have := Bs_gt; simp only [show m + 2 - 1 = m + 1 from rfl]; omega) w hpr hr
  simp only [show m + 2 - 1 = m + 1 from rfl, show m + 2 - 2 = m from rfl] at hG
  generalize gs D[m + 2] D[m + 1] D[m] Y[m + 1] Y[m] = G at *
  have hT := fun w hdb hgy hr => takeProduct_any g gy 0 c cy G A D C Y hD hY hGB (by omega) (by omega) hne w hdb hgy hr
  have hAT := fun (D' : List Nat) (hD' : Dig D') (hl : D'.length = D.length) w hdb hgy hr => addTo_any g gy 0 c cy A D' C Y hD' hY (by omega : Y.length ≤ D'.length) (by omega : D'.length ≤ 1099511627776) hne w hdb hgy hr
  have hVY : 0 < val Y := by
    rcases Nat.eq_zero_or_pos (val Y) with h | h
    · rw [h] at hlt; omega
    · exact h
  have hdm := Nat.div_add_mod' (val D) (val Y)
  have hmlt := Nat.mod_lt (val D) hVY
  have hDB := val_lt hD
  have HG := Lib.hid hG
  have HT := Lib.hid hT
  have HA := Lib.hid hAT
  clear hG hT hAT hle
  rcases hor with hq | hq
  · -- the guess is the quotient
    have HQ := Lib.hid hq
    have HDM := Lib.hid hdm
    clear hq hdm
    clear htop
    clear hDl hYl
    go_enter Tryz.func204, Tryz.ntmps204
    go_wp2_with fail
    refine HG.out.mono ?_
    rintro e w1 ⟨rfl, k, rfl⟩
    go_wp2_with fail
    refine (HT.out (w.drewN k) hdb hgy hr).mono ?_
    rintro e w2 ⟨b, D', rfl, ⟨hl, hd, hv⟩, hdb2, hg2⟩
    have hD'lt := val_lt hd
    obtain rfl : b = false := by
      cases b with
      | false => rfl
      | true =>
        rw [HQ.out] at hv
        have := HDM.out
        rw [hl] at hD'lt
        simp at hv; omega
    have HV : Hid (val D' = val D % val Y) := by
      show _ = _
      rw [HQ.out] at hv
      have := HDM.out
      simp at hv; omega
    have HL := Lib.hid hl
    clear hv hl hD'lt
    go_wp2
    go_ret
    exact ⟨congrArg (fun k : Nat => Ending.returned (.int .u64 (k : Int))) HQ.out, D', ⟨HL.out, hd, HV.out⟩, hdb2, grown_trans (grown_drewN _ _ _) hg2⟩
  · -- the guess is one too great
    have HQ := Lib.hid hq
    have HDM := Lib.hid hdm
    clear hq hdm
    clear htop
    go_enter Tryz.func204, Tryz.ntmps204
    have HDL := Lib.hid hDl
    have HYL := Lib.hid hYl
    clear hDl hYl
    go_wp2_with fail
    refine HG.out.mono ?_
    rintro e w1 ⟨rfl, k, rfl⟩
    go_wp2_with fail
    refine (HT.out (w.drewN k) hdb hgy hr).mono ?_
    rintro e w2 ⟨b, D', rfl, ⟨hl, hd, hv⟩, hdb2, hg2⟩
    have hD'lt := val_lt hd
    obtain rfl : b = true := by
      cases b with
      | true => rfl
      | false =>
        rw [HQ.out, Nat.succ_mul] at hv
        have := HDM.out
        simp at hv; omega
    have hr2 : Rd w2 gy 0 Y := fun i hi => (grown_cell hg2 hne hgy).trans (hr i hi)
    have hA2 := HA.out D' hd hl w2 hdb2 (Nat.lt_of_lt_of_le hgy hg2.size) hr2
    have hval : (val D' + val Y) % Bs ^ D'.length = val D % val Y := by
      rw [HQ.out, Nat.succ_mul] at hv
      have := HDM.out
      have e : val D' + val Y = val D % val Y + Bs ^ D'.length * 1 := by rw [hl]; rw [if_pos rfl] at hv; omega
      rw [e, Nat.add_mul_mod_self_left, Nat.mod_eq_of_lt (by rw [hl]; exact Nat.lt_of_le_of_lt (Nat.mod_le _ _) hDB)]
    rw [hval, hl] at hA2
    have HA2 := Lib.hid hA2
    clear hv hl hD'lt hA2 hval
    have hG1 : (1 : Int) ≤ (G : Int) := by
      have : 1 ≤ G := by rw [HQ.out]; exact Nat.le_add_left _ _
      omega
    have hG2 : (G : Int) ≤ 18446744073709551615 := by unfold Bs at hGB; omega
    have HQ' : Hid ((G : Int) - 1 = ((val D / val Y : Nat) : Int)) := by
      show _ = _
      have := HQ.out
      generalize val D / val Y = q at *
      omega
    go_wp2_with fail
    refine HA2.out.mono ?_
    rintro e w3 ⟨rfl, D2, ⟨hl2, hd2, hv2⟩, hdb3, hg3⟩
    have HL2 := Lib.hid hl2
    have HV2 := Lib.hid hv2
    clear hl2 hv2
    go_wp2
    go_ret
    exact ⟨congrArg (fun k : Int => Ending.returned (.int .u64 k)) HQ'.out, D2, ⟨HL2.out, hd2, HV2.out⟩, hdb3, grown_trans (grown_trans (grown_drewN _ _ _) hg2) hg3⟩
end Go.Proofs.YtecdnohhengfaaaGreatDoor

/-
  Layer 1, walks O: divide.
-/
namespace Go.Proofs.YtecdnohhengfaaaGreatDoor
open Go.RowKit
attribute [local irreducible] lo hs sm s64 c64 d64 b64 mh ml pd pc qd qc val hiB str

theorem lz_any (y : Nat) (hy : y < Bs) (w : World) : Calls Tryz.prog 202 #[.int .u64 (y : Int)] w fun e w' => e = .returned (.int .i64 ((lz y : Nat) : Int)) ∧ w = w' := by
  have hbl := bl_le y (by rw [← Bs_pow]; exact hy)
  refine (Tryz.bits_LeadingZeros64 (y : Int) w (by omega) (by unfold Bs at hy; omega)).mono fun e w' ⟨he, hw⟩ => ⟨?_, hw.symm⟩
  rw [he, Int.toNat_natCast]
  refine congrArg (fun k : Int => Ending.returned (.int .i64 k)) ?_
  unfold lz; omega

/-- Long division: J digits of the quotient are still to come. -/
structure LdI (U V J len : Nat) (R Q : List Nat) : Prop where
  rlen : R.length = len
  rdig : Dig R
  qdig : Dig Q
  lt : val R < Bs ^ J * V
  eq : U = val R + Bs ^ J * (val Q * V)
theorem LdI.split {U V J n len : Nat} {R Q : List Nat} (h : LdI U V (J + 1) len R Q) (hV : V < Bs ^ n) (hl : len = J + (n + 1) + (len - (J + (n + 1)))) :
    R = R.take J ++ (R.drop J).take (n + 1) ++ (R.drop J).drop (n + 1) ∧ (R.take J).length = J ∧ ((R.drop J).take (n + 1)).length = n + 1 ∧ val ((R.drop J).drop (n + 1)) = 0 ∧ val R = val (R.take J) + Bs ^ J * val ((R.drop J).take (n + 1)) ∧
      val ((R.drop J).take (n + 1)) < Bs * V := by
  have hR : R = R.take J ++ ((R.drop J).take (n + 1) ++ (R.drop J).drop (n + 1)) := by rw [List.take_append_drop, List.take_append_drop]
  have hrl := h.rlen
  have l1 : (R.take J).length = J := by rw [List.length_take]; omega
  have l2 : ((R.drop J).take (n + 1)).length = n + 1 := by rw [List.length_take, List.length_drop]; omega
  have hv : val R = val (R.take J) + Bs ^ J * (val ((R.drop J).take (n + 1)) + Bs ^ (n + 1) * val ((R.drop J).drop (n + 1))) := by
    conv => lhs; rw [hR, val_append, val_append, l1, l2]
  have hlt := h.lt
  have hp : 0 < Bs ^ J := Nat.pow_pos Bs_pos
  have hlt2 : Bs ^ J * (val ((R.drop J).take (n + 1)) + Bs ^ (n + 1) * val ((R.drop J).drop (n + 1))) < Bs ^ J * (Bs * V) := by
    rw [Nat.pow_succ, Nat.mul_assoc] at hlt; omega
  have h3 := Nat.lt_of_mul_lt_mul_left hlt2
  have h4 : Bs * V < Bs ^ (n + 1) := by rw [Nat.pow_succ, Nat.mul_comm]; exact Nat.mul_lt_mul_of_pos_right hV Bs_pos
  have h0 : val ((R.drop J).drop (n + 1)) = 0 := by
    rcases Nat.eq_zero_or_pos (val ((R.drop J).drop (n + 1))) with h | h
    · exact h
    · have : Bs ^ (n + 1) * 1 ≤ Bs ^ (n + 1) * val ((R.drop J).drop (n + 1)) := Nat.mul_le_mul_left _ h
      omega
  rw [h0, Nat.mul_zero, Nat.add_zero] at hv h3
  exact ⟨by rw [List.append_assoc]; exact hR, l1, l2, h0, hv, h3⟩
theorem LdI.step {U V J n len : Nat} {R Q D' : List Nat} (h : LdI U V (J + 1) len R Q) (hV : V < Bs ^ n) (hV0 : 0 < V) (hl : len = J + (n + 1) + (len - (J + (n + 1)))) (hDl : D'.length = n + 1) (hDd : Dig D') (hDv : val D' = val ((R.drop J).take (n + 1)) % V) :
    LdI U V J len (R.take J ++ D' ++ (R.drop J).drop (n + 1)) (val ((R.drop J).take (n + 1)) / V :: Q) := by
  obtain ⟨hR, l1, l2, h0, hv, hlt⟩ := h.split hV hl
  have hrl := h.rlen
  have hdm := Nat.div_add_mod' (val ((R.drop J).take (n + 1))) V
  have hval : val (R.take J ++ D' ++ (R.drop J).drop (n + 1)) = val (R.take J) + Bs ^ J * val D' := by
    rw [val_append, val_append, h0, l1, Nat.mul_zero, Nat.add_zero]
  have hAl := val_lt (h.rdig.take J)
  rw [l1] at hAl
  refine ⟨?_, ((h.rdig.take J).app hDd).app ((h.rdig.drop J).drop (n + 1)), Dig.cons ?_ h.qdig, ?_, ?_⟩
  · rw [List.length_append, List.length_append, l1, hDl, List.length_drop, List.length_drop]; omega
  · exact (Nat.div_lt_iff_lt_mul hV0).2 hlt
  · rw [hval, hDv]
    have h1 : val ((R.drop J).take (n + 1)) % V + 1 ≤ V := Nat.mod_lt _ hV0
    have h2 := Nat.mul_le_mul_left (Bs ^ J) h1
    rw [Nat.mul_succ] at h2
    omega
  · rw [hval, hDv, h.eq, hv, val_cons]
    generalize val ((R.drop J).take (n + 1)) / V = q at *
    generalize val ((R.drop J).take (n + 1)) % V = r at *
    rw [← hdm, Nat.pow_succ]
    have e1 : Bs ^ J * (q * V + r) = Bs ^ J * (q * V) + Bs ^ J * r := Nat.mul_add _ _ _
    have e2 : Bs ^ J * ((q + Bs * val Q) * V) = Bs ^ J * (q * V) + Bs ^ J * Bs * (val Q * V) := by
      rw [Nat.add_mul, Nat.mul_add]; congr 1; ac_rfl
    rw [e1, e2]; omega
theorem LdI.done {U V len : Nat} {R Q : List Nat} (h : LdI U V 0 len R Q) : val Q = U / V ∧ val R = U % V := by
  have hlt := h.lt
  have he := h.eq
  rw [Nat.pow_zero, Nat.one_mul] at hlt he
  constructor
  · rw [he, Nat.add_comm, Nat.mul_comm, Nat.mul_add_div (by omega), Nat.div_eq_of_lt hlt, Nat.add_zero]
  · rw [he, Nat.add_comm, Nat.mul_comm, Nat.mul_add_mod, Nat.mod_eq_of_lt hlt]
/-- the divisor, shifted until its highest digit is at least half the base -/
theorem norm_div (b n : Nat) (hn : (digs b).length = n + 1) (t : Nat) (ht : t = (digs b)[n]'(by omega)) :
    lz t ≤ 63 ∧ b * 2 ^ lz t < Bs ^ (n + 1) ∧ Bs ^ (n + 1) ≤ 2 * (b * 2 ^ lz t) ∧ (digs (b * 2 ^ lz t)).length = n + 1 ∧ ∀ h, Bs ≤ 2 * (digs (b * 2 ^ lz t))[n]'h := by
  have htB : t < Bs := by rw [ht]; exact (digs_dig b).get n (by omega)
  have ht0 : t ≠ 0 := by
    have := top_digs b (by intro h; rw [h] at hn; simp at hn)
    rw [List.getLast_eq_getElem] at this
    simp only [hn, Nat.add_sub_cancel] at this
    rw [ht]; exact this
  obtain ⟨h1, h2, h3⟩ := lz_spec t ht0 htB
  generalize lz t = s at *
  have hp : 0 < 2 ^ s := Nat.pow_pos (by omega)
  have eb : b = val ((digs b).take n) + Bs ^ n * t := by
    conv => lhs; rw [← val_digs b, ← List.take_of_length_le (Nat.le_of_eq hn), take_snoc _ n (by omega), ← ht]
  have lb := val_lt ((digs_dig b).take n)
  rw [List.length_take, Nat.min_eq_left (by omega)] at lb
  generalize val ((digs b).take n) = lw at *
  have hM : 0 < Bs ^ n := Nat.pow_pos Bs_pos
  have e1 : b * 2 ^ s = lw * 2 ^ s + Bs ^ n * (t * 2 ^ s) := by rw [eb, Nat.add_mul, Nat.mul_assoc]
  have l1 : b * 2 ^ s < Bs ^ (n + 1) := by
    -- t * 2^s + 2^s ≤ Bs
    have hd : Bs = 2 ^ (64 - s) * 2 ^ s := Bs_split (by omega)
    have h4 : t < 2 ^ (64 - s) := by rw [hd] at h3; exact Nat.lt_of_mul_lt_mul_right h3
    have h5 := Nat.mul_le_mul_right (2 ^ s) (show t + 1 ≤ 2 ^ (64 - s) from h4)
    rw [← hd, Nat.succ_mul] at h5
    have h6 := Nat.mul_le_mul_left (Bs ^ n) h5
    rw [Nat.mul_add] at h6
    have h7 : lw * 2 ^ s < Bs ^ n * 2 ^ s := Nat.mul_lt_mul_of_pos_right lb hp
    rw [e1, Nat.pow_succ]; omega
  have l2 : Bs ^ (n + 1) ≤ 2 * (b * 2 ^ s) := by
    have := Nat.mul_le_mul_left (Bs ^ n) h2
    rw [e1, Nat.pow_succ, Nat.mul_add]
    have e3 : Bs ^ n * (2 * (t * 2 ^ s)) = 2 * (Bs ^ n * (t * 2 ^ s)) := by ac_rfl
    omega
  have hlen : (digs (b * 2 ^ s)).length = n + 1 := by
    refine Nat.le_antisymm (digs_length_iff.2 l1) (Nat.lt_of_not_le fun h => ?_)
    have := digs_length_iff.1 h
    rw [Nat.pow_succ] at l2
    have h8 : Bs ^ n * 2 ≤ Bs ^ n * Bs := Nat.mul_le_mul_left _ Bs_gt
    omega
  refine ⟨h1, l1, l2, hlen, fun h => ?_⟩
  have ev : b * 2 ^ s = val ((digs (b * 2 ^ s)).take n) + Bs ^ n * (digs (b * 2 ^ s))[n] := by
    conv => lhs; rw [← val_digs (b * 2 ^ s), ← List.take_of_length_le (Nat.le_of_eq hlen), take_snoc _ n (by omega)]
  have lv := val_lt ((digs_dig (b * 2 ^ s)).take n)
  rw [List.length_take, Nat.min_eq_left (by omega)] at lv
  generalize val ((digs (b * 2 ^ s)).take n) = lx at *
  generalize (digs (b * 2 ^ s))[n] = top at *
  rw [Nat.pow_succ] at l2
  have h9 : Bs ^ n * Bs < Bs ^ n * (2 * top + 2) := by
    rw [Nat.mul_add]
    have e3 : Bs ^ n * (2 * top) = 2 * (Bs ^ n * top) := by ac_rfl
    omega
  have h10 := Nat.lt_of_mul_lt_mul_left h9
  have hev : Bs % 2 = 0 := by unfold Bs; rfl
  omega

set_option maxHeartbeats 8000000 in
set_option maxRecDepth 100000 in
theorem divide_any (gx gy cx cy m : Nat) (a b : Nat) (hbl : (digs b).length = m + 2) (hab : (digs b).length ≤ (digs a).length) (hal : (digs a).length ≤ 1000000000000) (w : World) (hgx : gx < w.heap.size) (hgy : gy < w.heap.size) (hrx : Rd w gx 0 (digs a)) (hry : Rd w gy 0 (digs b)) :
    Calls Tryz.prog 174 #[.slice (some ⟨gx, 0, none⟩) (digs a).length cx, .slice (some ⟨gy, 0, none⟩) (digs b).length cy] w fun e w' =>
      ∃ gq cq zq gr cr zr, e = .returned (.tuple #[.slice (some ⟨gq, 0, none⟩) (digs (a / b)).length cq, .slice (some ⟨gr, 0, none⟩) (digs (a % b)).length cr]) ∧
        DB w' gq (digs (a / b) ++ List.replicate zq 0) ∧ DB w' gr (digs (a % b) ++ List.replicate zr 0) ∧ gq ≠ gr ∧ w.heap.size ≤ gq ∧ w.heap.size ≤ gr ∧ (digs (a / b)).length ≤ cq ∧ (digs (a % b)).length ≤ cr ∧ Below w.heap.size w w' := by
  obtain ⟨t, ht⟩ : ∃ t, t = (digs b)[m + 1]'(by omega) := ⟨_, rfl⟩
  obtain ⟨hs, hV1, hV2, hVl, htop⟩ := norm_div b (m + 1) hbl t ht
  have htB : t < Bs := by rw [ht]; exact (digs_dig b).get _ (by omega)
  have HL := Lib.hid (lz_any t htB)
  generalize lz t = s at *
  have hct := hry (m + 1) (by omega)
  rw [← ht] at hct
  rw [Nat.zero_add] at hct
  obtain ⟨V, hV⟩ : ∃ V, V = b * 2 ^ s := ⟨_, rfl⟩
  obtain ⟨U, hU⟩ : ∃ U, U = a * 2 ^ s := ⟨_, rfl⟩
  rw [← hV] at hV1 hV2 hVl htop
  obtain ⟨L, hL⟩ : ∃ L, (digs a).length + 1 = L + (m + 2) := ⟨(digs a).length + 1 - (m + 2), by omega⟩
  have hL1 : (digs a).length + 1 ≤ L + (m + 2) := by omega
  have hL2 : L + (m + 2) ≤ (digs a).length + 1 := by omega
  have hmk : ∀ w, (Instr.makeSlice 158 (.int .i64 (((digs a).length : Int) - ((m : Int) + 2) + 1)) (.int .i64 (((digs a).length : Int) - ((m : Int) + 2) + 1))).run Tryz.prog w = .ok (.slice (some ⟨w.heap.size, 0, none⟩) L L) (w.alloc (zobj L)) :=
    fun w => make64 w _ L (by omega) (by omega)
  have hS1 := shiftLeft_any gx cx s (digs a) (digs_dig a) (by omega) (by omega) (by omega)
  have hS2 := shiftLeft_any gy cy s (digs b) (digs_dig b) (by omega) (by omega) (by omega)
  rw [val_digs, ← hU] at hS1
  rw [val_digs, ← hV, hbl] at hS2
  have HS1 := Lib.hid hS1
  have HS2 := Lib.hid hS2
  rw [hbl]
  clear hL hS1 hS2 htB ht
  go_enter Tryz.func174, Tryz.ntmps174
  go_wp2_with fail
  refine (HL.out _).mono ?_
  rintro e w0 ⟨rfl, rfl⟩
  go_wp2_with fail
  refine (HS1.out w hgx hrx).mono ?_
  rintro e w1 ⟨R0, rfl, ⟨hR0l, hR0d, hR0v⟩, hdbR, hb1⟩
  have hry1 : Rd w1 gy 0 (digs b) := hry.below hb1 hgy
  have hg1 := hdbR.lt
  have HR0 : Hid (R0.length = (digs a).length + 1 ∧ Dig R0 ∧ val R0 = U) := ⟨hR0l, hR0d, hR0v⟩
  clear hR0l hR0d hR0v
  go_wp2_with fail
  refine (HS2.out w1 (by omega) hry1).mono ?_
  rintro e w2 ⟨B0, rfl, ⟨hB0l, hB0d, hB0v⟩, hdbB, hb2⟩
  have hT := trim_any w1.heap.size 0 (m + 2 + 1) B0 hB0d (by rw [hB0l]; unfold maxLen; omega) (Nat.le_of_eq hB0l) w2 hdbB.rd0
  rw [hB0l, hB0v, hVl] at hT
  obtain ⟨zb, hzb⟩ := norm B0 hB0d
  rw [hB0v] at hzb
  rw [hzb] at hdbB
  have HT := Lib.hid hT
  clear hT hB0l hB0v hzb
  go_wp2_with fail
  refine HT.out.mono ?_
  rintro e w2' ⟨rfl, rfl⟩
  rw [show m + 1 + 1 = m + 2 from rfl]
  have hg2 := hdbB.lt
  have hV0 : 0 < V := by
    have := Nat.pow_pos (n := m + 1 + 1) Bs_pos
    omega
  have hB3 : Below w.heap.size w w2 := hb1.trans (hb2.mono hb1.size)
  have hdbR2 : DB w2 w.heap.size R0 := hdbR.below hb2 hdbR.lt
  have HV : Hid (V < Bs ^ (m + 2) ∧ 0 < V ∧ Bs ^ (m + 2) ≤ 2 * V ∧ (digs V).length = m + 2 ∧ V = b * 2 ^ s ∧ U = a * 2 ^ s) := ⟨hV1, hV0, hV2, hVl, hV, hU⟩
  have HTOP := Lib.hid htop
  have HBL := Lib.hid hbl
  -- the shifted dividend is below Bs^L * V
  have HULT : Hid (U < Bs ^ L * V) := by
    show _ < _
    have h1 : U < Bs ^ (digs a).length * 2 ^ s := by rw [hU]; exact Nat.mul_lt_mul_of_pos_right (lt_pow_digs a) (Nat.pow_pos (by omega))
    have h2 : 2 ^ s * 2 ≤ Bs := by rw [Bs_pow, ← Nat.pow_succ]; exact Nat.pow_le_pow_right (by omega) (by omega)
    have h3 : Bs ^ (digs a).length * (2 ^ s * 2) ≤ Bs ^ (digs a).length * Bs := Nat.mul_le_mul_left _ h2
    have h4 : Bs ^ L * Bs ^ (m + 2) ≤ Bs ^ L * (2 * V) := Nat.mul_le_mul_left _ hV2
    rw [← Nat.pow_add] at h4
    have h5 : Bs ^ (L + (m + 2)) = Bs ^ (digs a).length * Bs := by rw [← Nat.pow_succ]; congr 1; omega
    rw [h5] at h4
    have e1 : Bs ^ L * (2 * V) = 2 * (Bs ^ L * V) := by ac_rfl
    have e2 : Bs ^ (digs a).length * (2 ^ s * 2) = 2 * (Bs ^ (digs a).length * 2 ^ s) := by ac_rfl
    omega
  clear hV1 hV2 hVl hV hU hV0 htop hbl hdbR hct hry1 HS1 HS2 HT HL
  go_wp2
  go_loopw [33] (fun x wr => ∃ (i : Nat) (R Q : List Nat), i ≤ L ∧ x = .int .i64 i ∧ Q.length = i ∧ LdI U V (L - i) ((digs a).length + 1) R Q ∧ DB wr w.heap.size R ∧ DB wr w1.heap.size (digs V ++ List.replicate zb 0) ∧ DB wr w2.heap.size (List.replicate (L - i) 0 ++ Q) ∧ Below w.heap.size w wr) (fun x _ => L - (intOf x).toNat)
  case atStart =>
    obtain ⟨r1, r2, r3⟩ := HR0.out
    refine ⟨0, R0, [], Nat.zero_le _, rfl, rfl, ⟨r1, r2, Dig.nil, by rw [r3, Nat.sub_zero]; exact HULT.out, by rw [r3]; simp [val_nil]⟩, hdbR2.alloc _, hdbB.alloc _, ?_, hB3.alloc hB3.size _⟩
    have := DB.zeros w2 L
    rwa [Nat.sub_zero, List.append_nil]
  case round =>
    obtain ⟨i, R, Q, hi, rfl, hQl, hI, hdR, hdV, hdQ, hbw⟩ := hrel
    have hgq := hdQ.lt
    have hgw : w.heap.size < w1.heap.size := hg1
    have hgv : w1.heap.size < w2.heap.size := hg2
    by_cases hil : i < L
    · obtain ⟨J, hJ⟩ : ∃ J, J = L - 1 - i := ⟨_, rfl⟩
      have hJ1 : L - i = J + 1 := by omega
      rw [hJ1] at hI hdQ
      obtain ⟨v1, v0, v2, vl, ev1, ev2⟩ := HV.out
      clear ev1 ev2
      have hlen : (digs a).length + 1 = J + (m + 2 + 1) + ((digs a).length + 1 - (J + (m + 2 + 1))) := by omega
      obtain ⟨hR, l1, l2, c0, hRv, hDlt⟩ := hI.split v1 hlen
      have hIs := hI.rdig
      have hIn := fun D' h1 h2 h3 => hI.step (D' := D') v1 v0 hlen h1 h2 h3
      rw [hR] at hdR
      have hTM := takeMultiple_any w.heap.size w1.heap.size ((digs a).length + 1 - J) (m + 2 + 1) m (R.take J) ((R.drop J).take (m + 2 + 1)) ((R.drop J).drop (m + 2 + 1)) (digs V) ((hIs.drop J).take _) (digs_dig V) l2 vl (by omega) (HTOP.out (by omega)) (by rw [val_digs]; exact hDlt) (by omega) wr hdR (by omega) hdV.rdl
      rw [l1, l2, vl, val_digs] at hTM
      have HTM := Lib.hid hTM
      have HIN := Lib.hid hIn
      have HQL := Lib.hid hQl
      have HJ1 := Lib.hid hJ1
      have hqc := hdQ.cell J (by simp; omega)
      obtain ⟨xq, hxq⟩ : ∃ x : Int, wr.cell? ⟨w2.heap.size, J, none⟩ = some (.int .u64 x) := ⟨_, hqc⟩
      have hne : ¬ (digs a).length + 1 = J := by omega
      have hset : ∀ q : Nat, (List.replicate (J + 1) 0 ++ Q).set J q = List.replicate J 0 ++ (q :: Q) := fun q => by
        rw [List.replicate_succ', List.append_assoc, List.set_append_right _ _ (by simp)]; simp
      have HSET := Lib.hid hset
      generalize val ((R.drop J).take (m + 2 + 1)) = vd at *
      clear hTM hIn hQl hJ1 hR l1 l2 c0 hRv hDlt hlen v1 v0 v2 vl hqc hset hI hdR
      subst hJ
      go_wp2_with fail
      rw [show L - 1 - i + (m + 2) + 1 - (L - 1 - i) = m + 2 + 1 by omega]
      refine HTM.out.mono ?_
      rintro e w4 ⟨rfl, D', ⟨hDl, hDd, hDv⟩, hdR4, hg4⟩
      have hI4 := HIN.out D' hDl hDd hDv
      have hdV4 : DB w4 w1.heap.size (digs V ++ List.replicate zb 0) := hdV.keep (hg4.block _ hdV.lt (fun h => by have := Option.some.inj h; omega))
      have hdQ4 : DB w4 w2.heap.size (List.replicate (L - 1 - i + 1) 0 ++ Q) := hdQ.keep (hg4.block _ hdQ.lt (fun h => by have := Option.some.inj h; omega))
      have hx4 := (grown_cell (i := L - 1 - i) hg4 (show w2.heap.size ≠ w.heap.size by omega) hdQ.lt).trans hxq
      have hf4 := hdQ4.frozen (L - 1 - i)
      have hb4 : Below w.heap.size w w4 := hbw.trans (grown_below hg4 (Nat.le_refl _) hbw.size)
      have hn4 := hdQ4.set (L - 1 - i) (by simp; omega) (vd / V)
      rw [HSET.out] at hn4
      have HN := Lib.hid hn4
      have HI4 := Lib.hid hI4
      clear hDl hDv hI4 hn4 hdQ4 hdQ hdV
      go_wp2
      go_roundw
      case rel =>
        refine ⟨i + 1, R.take (L - 1 - i) ++ D' ++ (R.drop (L - 1 - i)).drop (m + 2 + 1), vd / V :: Q, by omega, by go_num, by rw [List.length_cons, HQL.out], ?_, ?_, ?_, ?_, hb4.setCell (by show w.heap.size ≤ w2.heap.size; omega) _⟩
        · rw [show L - (i + 1) = L - 1 - i by omega]; exact HI4.out
        · exact hdR4.keep (heap_setCell_other _ _ _ _ (by show w.heap.size ≠ w2.heap.size; omega))
        · exact hdV4.keep (heap_setCell_other _ _ _ _ (by show w1.heap.size ≠ w2.heap.size; omega))
        · rw [show L - (i + 1) = L - 1 - i by omega]; exact HN.out
      case measure => simp [intOf]; omega
    · have hiL : i = L := by omega
      subst hiL
      rw [Nat.sub_self] at hI hdQ
      rw [List.replicate_zero, List.nil_append] at hdQ
      obtain ⟨hqv, hrv⟩ := hI.done
      obtain ⟨_, v0, _, _, ev, eu⟩ := HV.out
      have hp2 : 0 < 2 ^ s := Nat.pow_pos (by omega)
      rw [ev, eu, Nat.mul_div_mul_right _ _ hp2] at hqv
      rw [ev, eu, Nat.mul_mod_mul_right] at hrv
      have hrl := hI.rlen
      have hSR := shiftRight_any w.heap.size ((digs a).length + 1) s R [] hI.rdig (by omega) (by omega) wr (by rw [List.append_nil]; exact hdR)
      rw [hrl, hrv, Nat.mul_div_cancel _ hp2] at hSR
      have HSR := Lib.hid hSR
      have HQV : Hid (Q.length = i ∧ Dig Q ∧ val Q = a / b) := ⟨hQl, hI.qdig, hqv⟩
      clear hSR hqv hrv hrl hI ev eu hQl
      go_wp2_with fail
      refine HSR.out.mono ?_
      rintro e w5 ⟨rfl, O, ⟨hOl, hOd, hOv⟩, hdO, hg5⟩
      rw [List.append_nil] at hdO
      have hdQ5 : DB w5 w2.heap.size Q := hdQ.keep (hg5.block _ hdQ.lt (fun h => by have := Option.some.inj h; omega))
      have hb5 : Below w.heap.size w w5 := hbw.trans (grown_below hg5 (Nat.le_refl _) hbw.size)
      obtain ⟨q1, q2, q3⟩ := HQV.out
      have hT1 := trim_any w2.heap.size 0 i Q q2 (by rw [q1]; unfold maxLen; omega) (Nat.le_of_eq q1) w5 hdQ5.rd0
      rw [q1, q3] at hT1
      have hT2 := trim_any w.heap.size 0 ((digs a).length + 1) O hOd (by rw [hOl]; unfold maxLen; omega) (Nat.le_of_eq hOl) w5 hdO.rd0
      rw [hOl, hOv] at hT2
      obtain ⟨zq, hzq⟩ := norm Q q2
      obtain ⟨zr, hzr⟩ := norm O hOd
      have hcq : (digs (a / b)).length ≤ i := by
        have := congrArg List.length hzq
        rw [q1, q3, List.length_append] at this; omega
      have hcr : (digs (a % b)).length ≤ (digs a).length + 1 := by
        have := congrArg List.length hzr
        rw [hOl, hOv, List.length_append] at this; omega
      rw [q3] at hzq
      rw [hOv] at hzr
      rw [hzq] at hdQ5
      rw [hzr] at hdO
      have HT1 := Lib.hid hT1
      have HT2 := Lib.hid hT2
      have HF : Hid (DB w5 w2.heap.size (digs (a / b) ++ List.replicate zq 0) ∧ DB w5 w.heap.size (digs (a % b) ++ List.replicate zr 0) ∧ w2.heap.size ≠ w.heap.size ∧ w.heap.size ≤ w2.heap.size ∧ w.heap.size ≤ w.heap.size ∧ (digs (a / b)).length ≤ i ∧ (digs (a % b)).length ≤ (digs a).length + 1 ∧ Below w.heap.size w w5) :=
        ⟨hdQ5, hdO, by omega, by omega, Nat.le_refl _, hcq, hcr, hb5⟩
      clear q1 q3 hzq hzr hOl hOv hT1 hT2 hcq hcr hdQ hdR
      go_wp2_with fail
      refine HT1.out.mono ?_
      rintro e w6 ⟨rfl, rfl⟩
      go_wp2_with fail
      refine HT2.out.mono ?_
      rintro e w6 ⟨rfl, rfl⟩
      go_wp2
      go_ret2
      exact ⟨w2.heap.size, i, zq, w.heap.size, (digs a).length + 1, zr, rfl, HF.out⟩
end Go.Proofs.YtecdnohhengfaaaGreatDoor

/-
  Layer 1, walks J: Mul.
-/
namespace Go.Proofs.YtecdnohhengfaaaGreatDoor
open Go.RowKit
attribute [local irreducible] lo hs sm s64 c64 d64 b64 mh ml pd pc qd qc val hiB str

set_option maxHeartbeats 1000000 in
theorem mul_small (a b : Nat) (ha : a < Bs) (hb : b < Bs) (w : World) :
    Calls Tryz.prog 92 #[natV a, natV b] w fun e w' => e = .returned (natV (a * b)) ∧ Below w.heap.size w w' := by
  have sa := sm_true.2 ha
  have sb := sm_true.2 hb
  have hv : ml (lo a) (lo b) + Bs * mh (lo a) (lo b) = a * b := by rw [mul_spec, lo_small ha, lo_small hb]
  have HM := Lib.hid (mul64 (lo a) (lo b) (lo_lt a) (lo_lt b))
  have HT := Lib.hid (twoDigits_any (mh (lo a) (lo b)) (ml (lo a) (lo b)) (by have := mh_lt (lo_lt a) (lo_lt b); have := Bs_gt; omega) (ml_lt _ _))
  rw [hv] at HT
  clear hv
  go_enter Tryz.func92, Tryz.ntmps92
  go_wp2_with fail
  refine (small_any a _).mono ?_
  rintro e w1 ⟨rfl, hb1⟩
  obtain ⟨hc1, hf1⟩ := bcell hb1
  go_wp2_with fail
  refine (small_any b _).mono ?_
  rintro e w2 ⟨rfl, hb2⟩
  have hb12 := hb1.trans (hb2.mono hb1.size)
  obtain ⟨hc2, hf2⟩ := bcell hb12
  clear hc1 hf1
  go_wp2_with fail
  refine (HM.out _).mono ?_
  rintro e w2' ⟨rfl, rfl⟩
  go_wp2_with fail
  refine (HT.out _).mono ?_
  rintro e w3 ⟨rfl, hb3⟩
  have hb13 := hb12.trans (hb3.mono hb12.size)
  clear hc2 hf2
  obtain ⟨q0, q1, qf⟩ : Bx w3 (w.heap.size + 2) (.int .u64 0) (.string ⟨#[]⟩) := Bx.below (Bx.of _ _ _ _ _ (al3 w _ _ _)) hb13 (by simp)
  go_wp2
  exact bodyPost_ret (v := natV (a * b)) (by simp [results, Tryz.results92, go_sem, q0, q1]) rfl ⟨rfl, (((below3 w _ _ _).trans (hb13.mono (by simp <;> omega))).setCell (by simp <;> omega) _).setCell (by simp <;> omega) _⟩

set_option maxHeartbeats 4000000 in
set_option maxRecDepth 100000 in
theorem mul_bigA (a b : Nat) (ha : Bs ≤ a) (hla : (digs a).length ≤ 549755813887) (hlb : (digs b).length ≤ 549755813887) (w : World) :
    Calls Tryz.prog 92 #[natV a, natV b] w fun e w' => e = .returned (natV (a * b)) ∧ Below w.heap.size w w' := by
  have sa := sm_false.2 ha
  have hla' : (digs a).length ≤ 1099511627776 := by omega
  have hlb' : (digs b).length ≤ 1099511627776 := by omega
  go_enter Tryz.func92, Tryz.ntmps92
  go_wp2_with fail
  refine (small_any a _).mono ?_
  rintro e w1 ⟨rfl, hb1⟩
  obtain ⟨a0, a1, af⟩ := (Bx.of _ _ _ _ _ (al3_1 w _ _ _)).below hb1 (by simp <;> omega)
  obtain ⟨b0, b1, bf⟩ := (Bx.of _ _ _ _ _ (al3_2 w _ _ _)).below hb1 (by simp <;> omega)
  obtain ⟨r0, r1, rf⟩ := (Bx.of _ _ _ _ _ (al3 w _ _ _)).below hb1 (by simp)
  have hbw := (below3 w _ _ _).trans (hb1.mono (by simp <;> omega))
  have hs1 : w.heap.size + 3 ≤ w1.heap.size := by have := hb1.size; simp at this; omega
  clear hb1
  go_wp2_with fail
  go_region_held3 (fun w' => w'.cell? ⟨w.heap.size, 0, none⟩ = some (.int .u64 ((lo a : Nat) : Int)) ∧ w'.cell? ⟨w.heap.size, 1, none⟩ = some (.string (hs a)) ∧ w'.cell? ⟨w.heap.size + 1, 0, none⟩ = some (.int .u64 ((lo b : Nat) : Int)) ∧ w'.cell? ⟨w.heap.size + 1, 1, none⟩ = some (.string (hs b)))
    (first | exact ⟨a0, a1, b0, b1⟩ | exact ⟨a0', a1', b0', b1'⟩ | exact ⟨a0'', a1'', b0'', b1''⟩)
    (first
      | (go_at_call 131; ((with_reducible refine Calls.mono (digits_any a hla' _) ?_); rintro e w2 ⟨gx, cx, zx, rfl, hcx, hgx, hdx, hb2⟩; obtain ⟨a0', a1', af'⟩ := Bx.below (w := w1.drew) ⟨a0, a1, af⟩ hb2 (by simp <;> omega); obtain ⟨b0', b1', bf'⟩ := Bx.below (w := w1.drew) ⟨b0, b1, bf⟩ hb2 (by simp <;> omega)))
      | (go_at_call 131; ((with_reducible refine Calls.mono (digits_any b hlb' _) ?_); rintro e w3 ⟨gy, cy, zy, rfl, hcy, hgy, hdy, hb3⟩; obtain ⟨a0'', a1'', af''⟩ := Bx.below (w := w2) ⟨a0', a1', af'⟩ hb3 (by have := hb2.size; simp at this; omega); obtain ⟨b0'', b1'', bf''⟩ := Bx.below (w := w2) ⟨b0', b1', bf'⟩ hb3 (by have := hb2.size; simp at this; omega))))
  have dx3 : DB w3 gx (digs a ++ List.replicate zx 0) := hdx.below hb3 hdx.lt
  have hB3 : Below w1.heap.size w1 w3 := (((Below.refl w1.heap.size w1).drew).trans hb2).trans (hb3.mono hb2.size)
  have dy3 := hdy
  have hz3 := hB3.size
  clear a0' a1' af' b0' b1' bf' a0'' a1'' af'' b0'' b1'' bf'' a0 a1 af b0 b1 bf hdx hdy hb2 hb3 hgx hgy
  have hmk : ∀ w, (Instr.makeSlice 158 (.int .i64 (((digs a).length : Int) + ((digs b).length : Int))) (.int .i64 (((digs a).length : Int) + ((digs b).length : Int)))).run Tryz.prog w = .ok (.slice (some ⟨w.heap.size, 0, none⟩) ((digs a).length + (digs b).length) ((digs a).length + (digs b).length)) (w.alloc (zobj ((digs a).length + (digs b).length))) :=
    fun w => make64 w _ ((digs a).length + (digs b).length) (by omega) (by omega)
  go_wp2
  go_loopw [36] (fun x wr => ∃ (i : Nat) (Q : List Nat), i ≤ (digs a).length ∧ x = .int .i64 i ∧ Q.length = i + (digs b).length ∧ Dig Q ∧ val Q = val ((digs a).take i) * b ∧ DB wr w3.heap.size (Q ++ List.replicate ((digs a).length - i) 0) ∧ (w3.alloc (zobj ((digs a).length + (digs b).length))).grownBy wr (some w3.heap.size)) (fun x _ => (digs a).length - (intOf x).toNat)
  case atStart =>
    refine ⟨0, List.replicate (digs b).length 0, Nat.zero_le _, rfl, by simp, Dig.zeros _, by simp [val_zeros, val], ?_, grown_refl _ _⟩
    have h := DB.zeros w3 ((digs a).length + (digs b).length)
    rw [Nat.sub_zero, List.replicate_append_replicate, Nat.add_comm (digs b).length]; exact h
  case round =>
    obtain ⟨i, Q, hi, rfl, hQl, hQd, hQv, hdb, hg⟩ := hrel
    have hgx3 := dx3.lt
    have hgy3 := dy3.lt
    by_cases hik : i < (digs a).length
    · have hxc : wr.cell? ⟨gx, i, none⟩ = some (.int .u64 (((digs a)[i] : Nat) : Int)) := by
        rw [grown_cell hg (by omega) (by simp; omega), World.cell?_alloc_lt _ _ _ (by exact hgx3)]
        have := dx3.rdl i hik
        rwa [Nat.zero_add] at this
      have hry : Rd wr gy 0 (digs b) := fun j hj => by
        rw [grown_cell hg (by omega) (by simp; omega), World.cell?_alloc_lt _ _ _ (by exact hgy3)]
        exact dy3.rdl j hj
      have hgw : w3.heap.size < wr.heap.size := hdb.lt
      have hsplit : Q ++ List.replicate ((digs a).length - i) 0 = Q.take i ++ (Q.drop i ++ List.replicate ((digs a).length - i) 0) ++ [] := by
        rw [List.append_nil, ← List.append_assoc, List.take_append_drop]
      rw [hsplit] at hdb
      have hdigD : Dig (Q.drop i ++ List.replicate ((digs a).length - i) 0) := (hQd.drop i).app (Dig.zeros _)
      have hlQ : (Q.take i).length = i := by rw [List.length_take]; omega
      have hlD : (Q.drop i ++ List.replicate ((digs a).length - i) 0).length = (digs a).length + (digs b).length - i := by rw [List.length_append, List.length_drop, List.length_replicate]; omega
      have hdm : (Q.drop i ++ List.replicate ((digs a).length - i) 0).drop (digs b).length = 0 :: List.replicate ((digs a).length - i - 1) 0 := by
        rw [List.drop_left' (by rw [List.length_drop]; omega)]
        obtain ⟨j, hj⟩ : ∃ j, (digs a).length - i = j + 1 := ⟨(digs a).length - i - 1, by omega⟩
        rw [hj]; rfl
      have htm : (Q.drop i ++ List.replicate ((digs a).length - i) 0).take (digs b).length = Q.drop i := List.take_left' (by rw [List.length_drop]; omega)
      have hAP := addProduct_any w3.heap.size gy 0 ((digs a).length + (digs b).length - i) cy ((digs a)[i]) (Q.take i) (Q.drop i ++ List.replicate ((digs a).length - i) 0) [] (digs b) hdigD (digs_dig b) ((digs_dig a).get i hik) (by rw [hlD]; omega) (by rw [hlD]; omega) (by omega) wr hdb (by omega) hry
      rw [hlQ, hlD, hdm] at hAP
      have hst := take_snoc (digs a) i hik
      have hdI := (digs_dig a).get i hik
      generalize hdi : (digs a)[i] = dI at *
      have HAP := Lib.hid hAP
      have HST := Lib.hid hst
      have HTM := Lib.hid htm
      have HQV := Lib.hid hQv
      have HQL := Lib.hid hQl
      have HLQ := Lib.hid hlQ
      have hne : ¬ (digs a).length + (digs b).length = i := by omega
      clear hAP hst htm hQv hdm hlD hdigD hsplit hdi hdb hlQ hQl hdI
      go_wp2_with fail
      refine HAP.out.mono ?_
      rintro e w4 ⟨carry, P, rfl, hI, hdb4, hg4⟩
      have hPl := hI.len
      have hPd := hI.dig
      have HC := Lib.hid hI.le
      have hPe := hI.eq
      rw [HTM.out, List.take_length, val_digs] at hPe
      have hQl := HQL.out
      have hlQ := HLQ.out
      have hlen : i + (digs b).length < (Q.take i ++ (P ++ 0 :: List.replicate ((digs a).length - i - 1) 0) ++ []).length := by
        simp only [List.length_append, List.length_cons, List.length_nil, List.length_replicate, hlQ, hPl]; omega
      have hcell := hdb4.cell _ hlen
      have hfz := hdb4.frozen (i + (digs b).length)
      have hnext := hdb4.set _ hlen carry
      have hset : (Q.take i ++ (P ++ 0 :: List.replicate ((digs a).length - i - 1) 0) ++ []).set (i + (digs b).length) carry = (Q.take i ++ (P ++ [carry])) ++ List.replicate ((digs a).length - (i + 1)) 0 := by
        have := set_mid (Q.take i) P (List.replicate ((digs a).length - i - 1) 0) [] 0 carry
        rw [hlQ, hPl] at this
        rw [this, List.append_nil, Nat.sub_sub]; simp
      rw [hset] at hnext
      obtain ⟨x, hx⟩ : ∃ x : Int, w4.cell? ⟨w3.heap.size, i + (digs b).length, none⟩ = some (.int .u64 x) := ⟨_, hcell⟩
      have hval : val (Q.take i ++ (P ++ [carry])) = val ((digs a).take (i + 1)) * b := by
        rw [HST.out, val_append, val_snoc, hPl, hlQ, hPe]
        have h1 : val Q = val (Q.take i) + Bs ^ i * val (Q.drop i) := by
          conv => lhs; rw [← List.take_append_drop i Q, val_append, hlQ]
        have h2 := HQV.out
        rw [Nat.mul_add, Nat.add_mul, ← h2, h1, Nat.mul_assoc]; omega
      have HV := Lib.hid hval
      have HN := Lib.hid hnext
      have HPL := Lib.hid hPl
      clear hcell hlen hset hnext hdb4 hPl hQl hlQ hval hPe hI
      go_wp2
      go_roundw
      case rel =>
        refine ⟨i + 1, Q.take i ++ (P ++ [carry]), by omega, by go_num, ?_, (hQd.take i).app (hPd.app (Dig.cons ?_ Dig.nil)), HV.out, HN.out, grown_trans (grown_trans hg hg4) (grown_set _ _ _ _)⟩
        · rw [List.length_append, List.length_append, HLQ.out, HPL.out, List.length_singleton]; omega
        · exact HC.out
      case measure => simp [intOf]; omega
    · have hik' : i = (digs a).length := by omega
      subst hik'
      rw [List.take_length, val_digs] at hQv
      rw [Nat.sub_self, List.replicate_zero, List.append_nil] at hdb
      have hP := pack_any w3.heap.size 0 ((digs a).length + (digs b).length) Q hQd (by omega) (by omega) wr hdb.lt hdb.rd0
      rw [hQl, hQv] at hP
      have HP := Lib.hid hP
      have hB4 : Below w1.heap.size w1 wr := (hB3.alloc hB3.size _).trans (grown_below hg (by omega) (by simp; omega))
      clear hP hQv hQl
      go_wp2_with fail
      refine HP.out.mono ?_
      rintro e w6 ⟨rfl, hb6⟩
      have hB6 := hB4.trans (hb6.mono hB4.size)
      obtain ⟨r0', r1', rf'⟩ := Bx.below ⟨r0, r1, rf⟩ hB6 (by omega)
      go_wp2
      exact bodyPost_ret (v := natV (a * b)) (by simp [results, Tryz.results92, go_sem, r0', r1']) rfl ⟨rfl, ((hbw.trans (hB6.mono (by omega))).setCell (by simp <;> omega) _).setCell (by simp <;> omega) _⟩

set_option maxHeartbeats 4000000 in
set_option maxRecDepth 100000 in
theorem mul_bigB (a b : Nat) (ha : a < Bs) (hb : Bs ≤ b) (hla : (digs a).length ≤ 549755813887) (hlb : (digs b).length ≤ 549755813887) (w : World) :
    Calls Tryz.prog 92 #[natV a, natV b] w fun e w' => e = .returned (natV (a * b)) ∧ Below w.heap.size w w' := by
  have sa := sm_true.2 ha
  have sb := sm_false.2 hb
  have hla' : (digs a).length ≤ 1099511627776 := by omega
  have hlb' : (digs b).length ≤ 1099511627776 := by omega
  go_enter Tryz.func92, Tryz.ntmps92
  go_wp2_with fail
  refine (small_any a _).mono ?_
  rintro e w0 ⟨rfl, hb0⟩
  obtain ⟨hc0, hf0⟩ := bcell hb0
  go_wp2_with fail
  refine (small_any b _).mono ?_
  rintro e w1 ⟨rfl, hb01⟩
  have hb1 := hb0.trans (hb01.mono hb0.size)
  obtain ⟨a0, a1, af⟩ := (Bx.of _ _ _ _ _ (al3_1 w _ _ _)).below hb1 (by simp <;> omega)
  obtain ⟨b0, b1, bf⟩ := (Bx.of _ _ _ _ _ (al3_2 w _ _ _)).below hb1 (by simp <;> omega)
  obtain ⟨r0, r1, rf⟩ := (Bx.of _ _ _ _ _ (al3 w _ _ _)).below hb1 (by simp)
  have hbw := (below3 w _ _ _).trans (hb1.mono (by simp <;> omega))
  have hs1 : w.heap.size + 3 ≤ w1.heap.size := by have := hb1.size; simp at this; omega
  clear hb1 hb0 hb01 hc0 hf0
  go_wp2_with fail
  go_region_held3 (fun w' => w'.cell? ⟨w.heap.size, 0, none⟩ = some (.int .u64 ((lo a : Nat) : Int)) ∧ w'.cell? ⟨w.heap.size, 1, none⟩ = some (.string (hs a)) ∧ w'.cell? ⟨w.heap.size + 1, 0, none⟩ = some (.int .u64 ((lo b : Nat) : Int)) ∧ w'.cell? ⟨w.heap.size + 1, 1, none⟩ = some (.string (hs b)))
    (first | exact ⟨a0, a1, b0, b1⟩ | exact ⟨a0', a1', b0', b1'⟩ | exact ⟨a0'', a1'', b0'', b1''⟩)
    (first
      | (go_at_call 131; ((with_reducible refine Calls.mono (digits_any a hla' _) ?_); rintro e w2 ⟨gx, cx, zx, rfl, hcx, hgx, hdx, hb2⟩; obtain ⟨a0', a1', af'⟩ := Bx.below (w := w1.drew) ⟨a0, a1, af⟩ hb2 (by simp <;> omega); obtain ⟨b0', b1', bf'⟩ := Bx.below (w := w1.drew) ⟨b0, b1, bf⟩ hb2 (by simp <;> omega)))
      | (go_at_call 131; ((with_reducible refine Calls.mono (digits_any b hlb' _) ?_); rintro e w3 ⟨gy, cy, zy, rfl, hcy, hgy, hdy, hb3⟩; obtain ⟨a0'', a1'', af''⟩ := Bx.below (w := w2) ⟨a0', a1', af'⟩ hb3 (by have := hb2.size; simp at this; omega); obtain ⟨b0'', b1'', bf''⟩ := Bx.below (w := w2) ⟨b0', b1', bf'⟩ hb3 (by have := hb2.size; simp at this; omega))))
  have dx3 : DB w3 gx (digs a ++ List.replicate zx 0) := hdx.below hb3 hdx.lt
  have hB3 : Below w1.heap.size w1 w3 := (((Below.refl w1.heap.size w1).drew).trans hb2).trans (hb3.mono hb2.size)
  have dy3 := hdy
  have hz3 := hB3.size
  clear a0' a1' af' b0' b1' bf' a0'' a1'' af'' b0'' b1'' bf'' a0 a1 af b0 b1 bf hdx hdy hb2 hb3 hgx hgy
  have hmk : ∀ w, (Instr.makeSlice 158 (.int .i64 (((digs a).length : Int) + ((digs b).length : Int))) (.int .i64 (((digs a).length : Int) + ((digs b).length : Int)))).run Tryz.prog w = .ok (.slice (some ⟨w.heap.size, 0, none⟩) ((digs a).length + (digs b).length) ((digs a).length + (digs b).length)) (w.alloc (zobj ((digs a).length + (digs b).length))) :=
    fun w => make64 w _ ((digs a).length + (digs b).length) (by omega) (by omega)
  go_wp2
  go_loopw [36] (fun x wr => ∃ (i : Nat) (Q : List Nat), i ≤ (digs a).length ∧ x = .int .i64 i ∧ Q.length = i + (digs b).length ∧ Dig Q ∧ val Q = val ((digs a).take i) * b ∧ DB wr w3.heap.size (Q ++ List.replicate ((digs a).length - i) 0) ∧ (w3.alloc (zobj ((digs a).length + (digs b).length))).grownBy wr (some w3.heap.size)) (fun x _ => (digs a).length - (intOf x).toNat)
  case atStart =>
    refine ⟨0, List.replicate (digs b).length 0, Nat.zero_le _, rfl, by simp, Dig.zeros _, by simp [val_zeros, val], ?_, grown_refl _ _⟩
    have h := DB.zeros w3 ((digs a).length + (digs b).length)
    rw [Nat.sub_zero, List.replicate_append_replicate, Nat.add_comm (digs b).length]; exact h
  case round =>
    obtain ⟨i, Q, hi, rfl, hQl, hQd, hQv, hdb, hg⟩ := hrel
    have hgx3 := dx3.lt
    have hgy3 := dy3.lt
    by_cases hik : i < (digs a).length
    · have hxc : wr.cell? ⟨gx, i, none⟩ = some (.int .u64 (((digs a)[i] : Nat) : Int)) := by
        rw [grown_cell hg (by omega) (by simp; omega), World.cell?_alloc_lt _ _ _ (by exact hgx3)]
        have := dx3.rdl i hik
        rwa [Nat.zero_add] at this
      have hry : Rd wr gy 0 (digs b) := fun j hj => by
        rw [grown_cell hg (by omega) (by simp; omega), World.cell?_alloc_lt _ _ _ (by exact hgy3)]
        exact dy3.rdl j hj
      have hgw : w3.heap.size < wr.heap.size := hdb.lt
      have hsplit : Q ++ List.replicate ((digs a).length - i) 0 = Q.take i ++ (Q.drop i ++ List.replicate ((digs a).length - i) 0) ++ [] := by
        rw [List.append_nil, ← List.append_assoc, List.take_append_drop]
      rw [hsplit] at hdb
      have hdigD : Dig (Q.drop i ++ List.replicate ((digs a).length - i) 0) := (hQd.drop i).app (Dig.zeros _)
      have hlQ : (Q.take i).length = i := by rw [List.length_take]; omega
      have hlD : (Q.drop i ++ List.replicate ((digs a).length - i) 0).length = (digs a).length + (digs b).length - i := by rw [List.length_append, List.length_drop, List.length_replicate]; omega
      have hdm : (Q.drop i ++ List.replicate ((digs a).length - i) 0).drop (digs b).length = 0 :: List.replicate ((digs a).length - i - 1) 0 := by
        rw [List.drop_left' (by rw [List.length_drop]; omega)]
        obtain ⟨j, hj⟩ : ∃ j, (digs a).length - i = j + 1 := ⟨(digs a).length - i - 1, by omega⟩
        rw [hj]; rfl
      have htm : (Q.drop i ++ List.replicate ((digs a).length - i) 0).take (digs b).length = Q.drop i := List.take_left' (by rw [List.length_drop]; omega)
      have hAP := addProduct_any w3.heap.size gy 0 ((digs a).length + (digs b).length - i) cy ((digs a)[i]) (Q.take i) (Q.drop i ++ List.replicate ((digs a).length - i) 0) [] (digs b) hdigD (digs_dig b) ((digs_dig a).get i hik) (by rw [hlD]; omega) (by rw [hlD]; omega) (by omega) wr hdb (by omega) hry
      rw [hlQ, hlD, hdm] at hAP
      have hst := take_snoc (digs a) i hik
      have hdI := (digs_dig a).get i hik
      generalize hdi : (digs a)[i] = dI at *
      have HAP := Lib.hid hAP
      have HST := Lib.hid hst
      have HTM := Lib.hid htm
      have HQV := Lib.hid hQv
      have HQL := Lib.hid hQl
      have HLQ := Lib.hid hlQ
      have hne : ¬ (digs a).length + (digs b).length = i := by omega
      clear hAP hst htm hQv hdm hlD hdigD hsplit hdi hdb hlQ hQl hdI
      go_wp2_with fail
      refine HAP.out.mono ?_
      rintro e w4 ⟨carry, P, rfl, hI, hdb4, hg4⟩
      have hPl := hI.len
      have hPd := hI.dig
      have HC := Lib.hid hI.le
      have hPe := hI.eq
      rw [HTM.out, List.take_length, val_digs] at hPe
      have hQl := HQL.out
      have hlQ := HLQ.out
      have hlen : i + (digs b).length < (Q.take i ++ (P ++ 0 :: List.replicate ((digs a).length - i - 1) 0) ++ []).length := by
        simp only [List.length_append, List.length_cons, List.length_nil, List.length_replicate, hlQ, hPl]; omega
      have hcell := hdb4.cell _ hlen
      have hfz := hdb4.frozen (i + (digs b).length)
      have hnext := hdb4.set _ hlen carry
      have hset : (Q.take i ++ (P ++ 0 :: List.replicate ((digs a).length - i - 1) 0) ++ []).set (i + (digs b).length) carry = (Q.take i ++ (P ++ [carry])) ++ List.replicate ((digs a).length - (i + 1)) 0 := by
        have := set_mid (Q.take i) P (List.replicate ((digs a).length - i - 1) 0) [] 0 carry
        rw [hlQ, hPl] at this
        rw [this, List.append_nil, Nat.sub_sub]; simp
      rw [hset] at hnext
      obtain ⟨x, hx⟩ : ∃ x : Int, w4.cell? ⟨w3.heap.size, i + (digs b).length, none⟩ = some (.int .u64 x) := ⟨_, hcell⟩
      have hval : val (Q.take i ++ (P ++ [carry])) = val ((digs a).take (i + 1)) * b := by
        rw [HST.out, val_append, val_snoc, hPl, hlQ, hPe]
        have h1 : val Q = val (Q.take i) + Bs ^ i * val (Q.drop i) := by
          conv => lhs; rw [← List.take_append_drop i Q, val_append, hlQ]
        have h2 := HQV.out
        rw [Nat.mul_add, Nat.add_mul, ← h2, h1, Nat.mul_assoc]; omega
      have HV := Lib.hid hval
      have HN := Lib.hid hnext
      have HPL := Lib.hid hPl
      clear hcell hlen hset hnext hdb4 hPl hQl hlQ hval hPe hI
      go_wp2
      go_roundw
      case rel =>
        refine ⟨i + 1, Q.take i ++ (P ++ [carry]), by omega, by go_num, ?_, (hQd.take i).app (hPd.app (Dig.cons ?_ Dig.nil)), HV.out, HN.out, grown_trans (grown_trans hg hg4) (grown_set _ _ _ _)⟩
        · rw [List.length_append, List.length_append, HLQ.out, HPL.out, List.length_singleton]; omega
        · exact HC.out
      case measure => simp [intOf]; omega
    · have hik' : i = (digs a).length := by omega
      subst hik'
      rw [List.take_length, val_digs] at hQv
      rw [Nat.sub_self, List.replicate_zero, List.append_nil] at hdb
      have hP := pack_any w3.heap.size 0 ((digs a).length + (digs b).length) Q hQd (by omega) (by omega) wr hdb.lt hdb.rd0
      rw [hQl, hQv] at hP
      have HP := Lib.hid hP
      have hB4 : Below w1.heap.size w1 wr := (hB3.alloc hB3.size _).trans (grown_below hg (by omega) (by simp; omega))
      clear hP hQv hQl
      go_wp2_with fail
      refine HP.out.mono ?_
      rintro e w6 ⟨rfl, hb6⟩
      have hB6 := hB4.trans (hb6.mono hB4.size)
      obtain ⟨r0', r1', rf'⟩ := Bx.below ⟨r0, r1, rf⟩ hB6 (by omega)
      go_wp2
      exact bodyPost_ret (v := natV (a * b)) (by simp [results, Tryz.results92, go_sem, r0', r1']) rfl ⟨rfl, ((hbw.trans (hB6.mono (by omega))).setCell (by simp <;> omega) _).setCell (by simp <;> omega) _⟩

theorem mul_any (a b : Nat) (hla : (digs a).length ≤ 549755813887) (hlb : (digs b).length ≤ 549755813887) (w : World) :
    Calls Tryz.prog 92 #[natV a, natV b] w fun e w' => e = .returned (natV (a * b)) ∧ Below w.heap.size w w' := by
  rcases Nat.lt_or_ge a Bs with ha | ha
  · rcases Nat.lt_or_ge b Bs with hb | hb
    · exact mul_small a b ha hb w
    · exact mul_bigB a b ha hb hla hlb w
  · exact mul_bigA a b ha hla hlb w
end Go.Proofs.YtecdnohhengfaaaGreatDoor

/-
  Layer 1, walks P: Div.
-/
namespace Go.Proofs.YtecdnohhengfaaaGreatDoor
open Go.RowKit
attribute [local irreducible] lo hs sm s64 c64 d64 b64 mh ml pd pc qd qc val hiB str

theorem al4 (w : World) (A B C D : Obj) : ((((w.alloc A).alloc B).alloc C).alloc D).heap[w.heap.size + 3]? = some D := by
  have := heap_alloc_new (((w.alloc A).alloc B).alloc C) D
  simpa using this
theorem al4_3 (w : World) (A B C D : Obj) : ((((w.alloc A).alloc B).alloc C).alloc D).heap[w.heap.size + 2]? = some C := (Below.heap_alloc _ _ _ (by simp)).trans (al3 w A B C)
theorem al4_2 (w : World) (A B C D : Obj) : ((((w.alloc A).alloc B).alloc C).alloc D).heap[w.heap.size + 1]? = some B := (Below.heap_alloc _ _ _ (by simp <;> omega)).trans (al3_2 w A B C)
theorem al4_1 (w : World) (A B C D : Obj) : ((((w.alloc A).alloc B).alloc C).alloc D).heap[w.heap.size]? = some A := (Below.heap_alloc _ _ _ (by simp <;> omega)).trans (al3_1 w A B C)
theorem below4 (w : World) (A B C D : Obj) : Below w.heap.size w ((((w.alloc A).alloc B).alloc C).alloc D) := (below3 w A B C).alloc (by simp <;> omega) _

/-- The world behind the four boxes of Div. -/
theorem boxes4 (w : World) (A1 A2 B1 B2 C1 C2 D1 D2 : Value) (t : TypeId) : ∃ w0, ((((w.alloc (.cells #[A1, A2] t)).alloc (.cells #[B1, B2] t)).alloc (.cells #[C1, C2] t)).alloc (.cells #[D1, D2] t)) = w0 ∧
    Bx w0 w.heap.size A1 A2 ∧ Bx w0 (w.heap.size + 1) B1 B2 ∧ Bx w0 (w.heap.size + 2) C1 C2 ∧ Bx w0 (w.heap.size + 3) D1 D2 ∧ Below w.heap.size w w0 ∧ w.heap.size + 4 ≤ w0.heap.size :=
  ⟨_, rfl, Bx.of _ _ _ _ _ (al4_1 w _ _ _ _), Bx.of _ _ _ _ _ (al4_2 w _ _ _ _), Bx.of _ _ _ _ _ (al4_3 w _ _ _ _), Bx.of _ _ _ _ _ (al4 w _ _ _ _), below4 w _ _ _ _, by simp⟩
theorem of_zero (w : World) : Calls Tryz.prog 88 #[.int .u64 0] w fun e w' => e = .returned (natV 0) ∧ Below w.heap.size w w' := of_any 0 Bs_pos w

theorem cmpI_ge {a b : Nat} (h : b ≤ a) : decide (cmpI a b < 0) = false := by
  rcases Nat.lt_or_eq_of_le h with h | h
  · rw [cmpI_gt h]; rfl
  · rw [h, cmpI_eq]; rfl

/-- Div's four boxes in a later world. -/
structure B4 (w : World) (k : Nat) (a b : Nat) : Prop where
  A : Bx w k (.int .u64 ((lo a : Nat) : Int)) (.string (hs a))
  B : Bx w (k + 1) (.int .u64 ((lo b : Nat) : Int)) (.string (hs b))
  C : Bx w (k + 2) (.int .u64 0) (.string ⟨#[]⟩)
  D : Bx w (k + 3) (.int .u64 0) (.string ⟨#[]⟩)
  sz : k + 4 ≤ w.heap.size
theorem B4.below {w w' : World} {k a b : Nat} (h : B4 w k a b) (hb : Below w.heap.size w w') : B4 w' k a b :=
  ⟨h.A.below hb (by have := h.sz; omega), h.B.below hb (by have := h.sz; omega), h.C.below hb (by have := h.sz; omega), h.D.below hb (by have := h.sz; omega), Nat.le_trans h.sz hb.size⟩
theorem B4.belowN {w w' : World} {k a b : Nat} (h : B4 w k a b) (hb : Below (k + 4) w w') : B4 w' k a b :=
  ⟨h.A.below hb (by omega), h.B.below hb (by omega), h.C.below hb (by omega), h.D.below hb (by omega), Nat.le_trans h.sz hb.size⟩
theorem divD (gx cx a b : Nat) (C : List Nat) (hb : 0 < b) (hbB : b < Bs) (ha : (digs a).length ≤ 1000000000000) (w : World) (hdb : DB w gx (digs a ++ C)) :
    Calls Tryz.prog 133 #[.slice (some ⟨gx, 0, none⟩) (digs a).length cx, .int .u64 (b : Int)] w fun e w' =>
      e = .returned (.int .u64 ((a % b : Nat) : Int)) ∧ ∃ Q : List Nat, Q.length = (digs a).length ∧ Dig Q ∧ val Q = a / b ∧ DB w' gx (Q ++ C) ∧ w.grownBy w' (some gx) := by
  refine (divideByDigit_any gx cx b (digs a) C (digs_dig a) hb hbB (by omega) w hdb).mono ?_
  rintro e w' ⟨rfl, Q, ⟨h1, h2, h3⟩, h4, h5⟩
  rw [show val (digs a) = a from val_digs a] at h3
  exact ⟨by rw [show val (digs a) = a from val_digs a], Q, h1, h2, h3, h4, h5⟩
theorem packQ (g c n q : Nat) (Q C : List Nat) (hl : Q.length = n) (hd : Dig Q) (hv : val Q = q) (hn : n ≤ 1000000000000) (hc : n ≤ c) (w : World) (hdb : DB w g (Q ++ C)) :
    Calls Tryz.prog 154 #[.slice (some ⟨g, 0, none⟩) n c] w fun e w' => e = .returned (natV q) ∧ Below w.heap.size w w' := by
  subst hl; subst hv
  exact pack_any g 0 c Q hd (by omega) hc w hdb.lt hdb.rdl
theorem digs_mono {a b : Nat} (h : b ≤ a) : (digs b).length ≤ (digs a).length := digs_length_iff.2 (Nat.lt_of_le_of_lt h (digs_length_iff.1 (Nat.le_refl _)))
theorem digs_two {b : Nat} (h : ¬ b < Bs) : ∃ m, (digs b).length = m + 2 := by
  rcases Nat.lt_or_ge (digs b).length 2 with h2 | h2
  · exact absurd (by have := digs_length_iff.1 (show (digs b).length ≤ 1 by omega); rwa [Nat.pow_one] at this) h
  · exact ⟨(digs b).length - 2, by omega⟩
theorem divW (gx gy cx cy a b : Nat) (X Y : List Nat) (hb : ¬ b < Bs) (hab : b ≤ a) (ha : (digs a).length ≤ 1000000000000) (w : World) (hdx : DB w gx (digs a ++ X)) (hdy : DB w gy (digs b ++ Y)) :
    Calls Tryz.prog 174 #[.slice (some ⟨gx, 0, none⟩) (digs a).length cx, .slice (some ⟨gy, 0, none⟩) (digs b).length cy] w fun e w' =>
      ∃ gq cq zq gr cr zr, e = .returned (.tuple #[.slice (some ⟨gq, 0, none⟩) (digs (a / b)).length cq, .slice (some ⟨gr, 0, none⟩) (digs (a % b)).length cr]) ∧
        DB w' gq (digs (a / b) ++ List.replicate zq 0) ∧ DB w' gr (digs (a % b) ++ List.replicate zr 0) ∧ gq ≠ gr ∧ w.heap.size ≤ gq ∧ w.heap.size ≤ gr ∧ (digs (a / b)).length ≤ cq ∧ (digs (a % b)).length ≤ cr ∧ Below w.heap.size w w' := by
  obtain ⟨m, hm⟩ := digs_two hb
  exact divide_any gx gy cx cy m a b hm (digs_mono hab) ha w hdx.lt hdy.lt hdx.rdl hdy.rdl
theorem packD (g c q z : Nat) (hn : (digs q).length ≤ 1000000000000) (hc : (digs q).length ≤ c) (w : World) (hdb : DB w g (digs q ++ List.replicate z 0)) :
    Calls Tryz.prog 154 #[.slice (some ⟨g, 0, none⟩) (digs q).length c] w fun e w' => e = .returned (natV q) ∧ Below w.heap.size w w' :=
  packQ g c _ q (digs q) _ rfl (digs_dig q) (val_digs q) hn hc w hdb
theorem B4.step {w0 w1 w2 : World} {k a b : Nat} (h0 : Below k w0 w1) (h : B4 w1 k a b) (hb : Below w1.heap.size w1 w2) : Below k w0 w2 := h0.trans (hb.mono (by have := h.sz; omega))

attribute [local irreducible] cmpI
set_option maxHeartbeats 2000000 in
set_option maxRecDepth 100000 in
theorem div_pos (a b : Nat) (hb : 0 < b) (ha : (digs a).length ≤ 1000000000000) (w : World) :
    Calls Tryz.prog 112 #[natV a, natV b] w fun e w' => e = .returned (.tuple #[natV (a / b), natV (a % b), .bool true]) ∧ Below w.heap.size w w' := by
  have heq : ((((lo b : Nat) : Int) == ((lo 0 : Nat) : Int)) = false) ∨ ((((lo b : Nat) : Int) == ((lo 0 : Nat) : Int)) = true ∧ ((hs b).toList == (hs 0).toList) = false) := by
    by_cases h : lo b = lo 0
    · right
      refine ⟨by rw [h]; simp, ?_⟩
      rw [hs_eq, decide_eq_false]
      intro h2
      have h3 : b % Bs = 0 % Bs := by have h4 := h; unfold lo at h4; exact h4
      have := Nat.div_add_mod b Bs
      rw [h2, h3] at this
      simp at this; omega
    · left
      rw [beq_eq_false_iff_ne]; omega
  obtain ⟨w0, hw0, hA, hB, hC, hD, hbw, hsz⟩ := boxes4 w (.int .u64 ((lo a : Nat) : Int)) (.string (hs a)) (.int .u64 ((lo b : Nat) : Int)) (.string (hs b)) (.int .u64 0) (.string ⟨#[]⟩) (.int .u64 0) (.string ⟨#[]⟩) 32
  go_enter Tryz.func112, Tryz.ntmps112
  go_wp2
  clear hw0
  have hB1 := hB
  have H0 : B4 w0 w.heap.size a b := ⟨hA, hB, hC, hD, hsz⟩
  rcases heq with he1 | ⟨he1, he2⟩ <;> (
    obtain ⟨b0, b1, bf⟩ := hB
    go_region_held3 (fun w' => w'.cell? ⟨w.heap.size + 1, 0, none⟩ = some (.int .u64 ((lo b : Nat) : Int)) ∧ w'.cell? ⟨w.heap.size + 1, 1, none⟩ = some (.string (hs b)))
      (first | exact ⟨b0, b1⟩ | exact ⟨b0', b1'⟩)
      (first
        | (go_at_call 88; ((with_reducible refine Calls.mono (of_zero _) ?_); rintro e w1 ⟨rfl, hb1⟩; obtain ⟨b0', b1', bf'⟩ := Bx.below (w := w0.drew) ⟨b0, b1, bf⟩ hb1 (by simp <;> omega))))
    have hb01 := (Below.refl w0.heap.size w0).drew.trans hb1
    have H1 := H0.below hb01
    have hB1 := hbw.trans (hb01.mono (by omega))
    clear b0' b1' bf' b0 b1 bf hA hC hD hb01 hb1 H0 hbw hsz
    have HC := Lib.hid (fun w => cmp_any a b w)
    rcases Nat.lt_or_ge a b with hab | hab
    · obtain ⟨⟨a0, a1, af⟩, ⟨b0, b1, bf⟩, -⟩ := id H1
      rw [cmpI_lt hab] at HC
      go_wp2_with fail
      refine (HC.out _).mono ?_
      rintro e w2 ⟨rfl, hb2⟩
      have H2 := H1.below hb2
      have hB2 := H1.step hB1 hb2
      clear a0 a1 af b0 b1 bf HC hB1 hb2 H1
      obtain ⟨⟨a0, a1, af⟩, ⟨b0, b1, bf⟩, ⟨c0, c1, cf⟩, ⟨d0, d1, df⟩, hsz⟩ := id H2
      go_wp2_with fail
      go_region
      go_wp2_with fail
      have hq : natV (a / b) = natV 0 := congrArg natV (Nat.div_eq_of_lt hab)
      have hr : natV (a % b) = natV a := congrArg natV (Nat.mod_eq_of_lt hab)
      exact bodyPost_ret (v := .tuple #[natV (a / b), natV (a % b), .bool true]) (by rw [hq, hr, natV_zero]; simp [results, Tryz.results112, go_sem, c0, c1, cf, d0, d1, df]) rfl ⟨rfl, ((((hB2.setCell (by simp <;> omega) _).setCell (by simp <;> omega) _).setCell (by simp <;> omega) _).setCell (by simp <;> omega) _).drew⟩
    · have hcm := cmpI_ge hab
      obtain ⟨⟨a0, a1, af⟩, ⟨b0, b1, bf⟩, -⟩ := id H1
      go_wp2_with fail
      refine (HC.out _).mono ?_
      rintro e w2 ⟨rfl, hb2⟩
      have H2 := H1.below hb2
      have hB2 := H1.step hB1 hb2
      clear a0 a1 af b0 b1 bf HC hB1 hb2 H1
      obtain ⟨⟨a0, a1, af⟩, ⟨b0, b1, bf⟩, -⟩ := id H2
      go_wp2_with fail
      have HS := Lib.hid (fun w => small_any a w)
      by_cases hsa : a < Bs
      · have hs1 : sm a = true := by unfold sm; exact decide_eq_true hsa
        refine (HS.out _).mono ?_
        rintro e w3 ⟨rfl, hb3⟩
        have H3 := H2.below hb3
        have hB3 := H2.step hB2 hb3
        clear a0 a1 af b0 b1 bf hB2 hb3 H2
        obtain ⟨⟨a0, a1, af⟩, ⟨b0, b1, bf⟩, ⟨c0, c1, cf⟩, ⟨d0, d1, df⟩, hsz⟩ := id H3
        have hsb : b < Bs := Nat.lt_of_le_of_lt hab hsa
        have hla : lo a = a := lo_small hsa
        have hlb : lo b = b := lo_small hsb
        have hb0 : ¬ b = 0 := by omega
        have hwq : IntKind.u64.wrap ((a : Int) / (b : Int)) = (a : Int) / (b : Int) := by
          have := Nat.div_le_self a b
          rw [← Int.natCast_ediv]; exact wrapN _ (Nat.lt_of_le_of_lt this hsa)
        have htm : ((a % b : Nat) : Int) = (a : Int).tmod (b : Int) := by rw [Int.tmod_eq_emod_of_nonneg (by omega), Int.natCast_emod]
        have hwm : IntKind.u64.wrap ((a : Int).tmod (b : Int)) = (a : Int).tmod (b : Int) := by
          have := Nat.mod_le a b
          rw [← htm]; exact wrapN _ (Nat.lt_of_le_of_lt this hsa)
        have HO := fun w => of_any (a / b) (Nat.lt_of_le_of_lt (Nat.div_le_self _ _) hsa) w
        rw [Int.natCast_ediv] at HO
        replace HO := Lib.hid HO
        have HO2 := fun w => of_any (a % b) (Nat.lt_of_le_of_lt (Nat.mod_le _ _) hsa) w
        rw [htm] at HO2
        clear htm
        replace HO2 := Lib.hid HO2
        rw [hla] at a0
        rw [hlb] at b0
        have hla' := Lib.hid hla
        have hlb' := Lib.hid hlb
        clear hsa hsb hla hlb
        go_wp2_with fail
        go_region_held3 (fun w' => w'.cell? ⟨w.heap.size, 0, none⟩ = some (.int .u64 ((a : Nat) : Int)) ∧ w'.cell? ⟨w.heap.size + 1, 0, none⟩ = some (.int .u64 ((b : Nat) : Int)))
          (first | with_reducible exact ⟨a0, b0⟩ | with_reducible exact ⟨a0', b0'⟩ | with_reducible exact ⟨a0'', b0''⟩ | (constructor <;> simp [go_sem, a0'', b0'']; done) | (constructor <;> simp [go_sem, a0, b0]; done))
          (first
            | (go_at_call 88; ((with_reducible refine Calls.mono (HO.out _) ?_); rintro e w4 ⟨rfl, hb4⟩; have H4 := H3.below ((Below.refl w3.heap.size w3).drew.trans hb4); have a0' := (H4.A.1); rw [hla'.out] at a0'; have b0' := H4.B.1; rw [hlb'.out] at b0'))
            | (go_at_call 88; ((with_reducible refine Calls.mono (HO2.out _) ?_); rintro e w5 ⟨rfl, hb5⟩; have H5 := H4.below hb5; have a0'' := (H5.A.1); rw [hla'.out] at a0''; have b0'' := H5.B.1; rw [hlb'.out] at b0''; obtain ⟨c0', c1', cf'⟩ := H5.C; obtain ⟨d0', d1', df'⟩ := H5.D)))
        clear hwq hwm hb0
        go_wp2_with fail
        exact bodyPost_ret (v := .tuple #[natV (a / b), natV (a % b), .bool true]) (by simp [results, Tryz.results112, go_sem, c0', c1', cf', d0', d1', df']) rfl ⟨rfl, ((((H4.step (H3.step hB3 ((Below.refl w3.heap.size w3).drew.trans hb4)) hb5).setCell (by simp <;> omega) _).setCell (by simp <;> omega) _).setCell (by simp <;> omega) _).setCell (by simp <;> omega) _⟩
      · have hs1 : sm a = false := by unfold sm; exact decide_eq_false hsa
        refine (HS.out _).mono ?_
        rintro e w3 ⟨rfl, hb3⟩
        have H3 := H2.below hb3
        have hB3 := H2.step hB2 hb3
        clear a0 a1 af b0 b1 bf hB2 hb3 H2 HS
        obtain ⟨⟨a0, a1, af⟩, ⟨b0, b1, bf⟩, -⟩ := id H3
        go_wp2_with fail
        have HS := Lib.hid (fun w => small_any b w)
        refine (HS.out _).mono ?_
        rintro e w4 ⟨rfl, hb4⟩
        have H4 := H3.below hb4
        have hB4 := H3.step hB3 hb4
        clear a0 a1 af b0 b1 bf hB3 hb4 H3 HS
        have hsz4 := H4.sz
        have HDa := Lib.hid (fun w => digits_any a (by omega) w)
        by_cases hsb : b < Bs
        · have hs2 : sm b = true := by unfold sm; exact decide_eq_true hsb
          have hlb : lo b = b := lo_small hsb
          obtain ⟨⟨a0, a1, af⟩, ⟨b0, b1, bf⟩, -⟩ := id H4
          go_wp2_with fail
          refine (HDa.out _).mono ?_
          rintro e w5 ⟨gx, cx, zx, rfl, hcx, hgx, hdx, hb5⟩
          have H5 := H4.below hb5
          have hB5 := H4.step hB4 hb5
          clear a0 a1 af b0 b1 bf hb5 hB4 H4 HDa
          obtain ⟨⟨a0, a1, af⟩, ⟨b0, b1, bf⟩, -⟩ := id H5
          rw [hlb] at b0
          clear hlb
          go_wp2_with fail
          have HDD := Lib.hid (divD gx cx a b (List.replicate zx 0) hb hsb ha w5 hdx)
          have hgx4 : w.heap.size + 4 ≤ gx := Nat.le_trans hsz4 hgx
          have HO := fun w => of_any (a % b) (Nat.lt_of_lt_of_le (Nat.mod_lt _ hb) (Nat.le_of_lt hsb)) w
          have HP := fun Q h1 h2 h3 => packQ gx cx (digs a).length (a / b) Q (List.replicate zx 0) h1 h2 h3 ha hcx
          replace HO := Lib.hid HO
          replace HP := Lib.hid HP
          clear hsb hdx
          refine (HDD.out).mono ?_
          rintro e w6 ⟨rfl, Q, hQ1, hQ2, hQ3, hdq, hg6⟩
          have hb6 := grown_below hg6 hgx4 H5.sz
          have H6 := H5.belowN hb6
          have hB6 := hB5.trans (hb6.mono (by omega))
          clear a0 a1 af b0 b1 bf hb6 hg6 hB5 H5 HDD
          go_wp2_with fail
          refine (HP.out Q hQ1 hQ2 hQ3 _ hdq).mono ?_
          rintro e w7 ⟨rfl, hb7⟩
          have H7 := H6.below hb7
          have hB7 := H6.step hB6 hb7
          clear hb7 hB6 H6 HP hdq
          go_wp2_with fail
          refine (HO.out _).mono ?_
          rintro e w8 ⟨rfl, hb8⟩
          have H8 := H7.below hb8
          have hB8 := H7.step hB7 hb8
          clear hb8 hB7 H7 HO
          obtain ⟨-, -, ⟨c0, c1, cf⟩, ⟨d0, d1, df⟩, hsz⟩ := id H8
          go_wp2_with fail
          exact bodyPost_ret (v := .tuple #[natV (a / b), natV (a % b), .bool true]) (by simp [results, Tryz.results112, go_sem, c0, c1, cf, d0, d1, df]) rfl ⟨rfl, (((hB8.setCell (by simp <;> omega) _).setCell (by simp <;> omega) _).setCell (by simp <;> omega) _).setCell (by simp <;> omega) _⟩
        · have hs2 : sm b = false := by unfold sm; exact decide_eq_false hsb
          obtain ⟨⟨a0, a1, af⟩, ⟨b0, b1, bf⟩, -⟩ := id H4
          go_wp2_with fail
          have HDb := Lib.hid (fun w => digits_any b (by have := digs_mono hab; omega) w)
          have hql : (digs (a / b)).length ≤ 1000000000000 := Nat.le_trans (digs_mono (Nat.div_le_self a b)) ha
          have hrl : (digs (a % b)).length ≤ 1000000000000 := Nat.le_trans (digs_mono (Nat.mod_le a b)) ha
          have HDV := fun gx gy cx cy zx zy => divW gx gy cx cy a b (List.replicate zx 0) (List.replicate zy 0) hsb hab ha
          have HPq := fun g c z => packD g c (a / b) z hql
          have HPr := fun g c z => packD g c (a % b) z hrl
          replace HDV := Lib.hid HDV
          replace HPq := Lib.hid HPq
          replace HPr := Lib.hid HPr
          clear hql hrl ha
          go_region_held3 (fun w' => w'.cell? ⟨w.heap.size, 0, none⟩ = some (.int .u64 ((lo a : Nat) : Int)) ∧ w'.cell? ⟨w.heap.size, 1, none⟩ = some (.string (hs a)) ∧ w'.cell? ⟨w.heap.size + 1, 0, none⟩ = some (.int .u64 ((lo b : Nat) : Int)) ∧ w'.cell? ⟨w.heap.size + 1, 1, none⟩ = some (.string (hs b)))
            (first | with_reducible exact ⟨a0, a1, b0, b1⟩ | with_reducible exact ⟨a0', a1', b0', b1'⟩ | with_reducible exact ⟨a0'', a1'', b0'', b1''⟩ | exact ⟨a0, a1, b0, b1⟩)
            (first
              | (go_at_call 131; ((with_reducible refine Calls.mono (HDa.out _) ?_); rintro e w5 ⟨gx, cx, zx, rfl, hcx, hgx, hdx, hb5⟩; have H5 := H4.below ((Below.refl w4.heap.size w4).drew.trans hb5); obtain ⟨⟨a0', a1', af'⟩, ⟨b0', b1', bf'⟩, -⟩ := id H5))
              | (go_at_call 131; ((with_reducible refine Calls.mono (HDb.out _) ?_); rintro e w6 ⟨gy, cy, zy, rfl, hcy, hgy, hdy, hb6⟩; have H6 := H5.below hb6; obtain ⟨⟨a0'', a1'', af''⟩, ⟨b0'', b1'', bf''⟩, -⟩ := id H6))
              | (go_at_call 174; ((with_reducible refine Calls.mono (HDV.out gx gy cx cy zx zy _ (hdx.below hb6 hdx.lt) hdy) ?_); rintro e w7 ⟨gq, cq, zq, gr, cr, zr, rfl, hdq, hdr, hqr, hgq, hgr, hcq, hcr, hb7⟩; have H7 := H6.below hb7; obtain ⟨⟨a0', a1', af'⟩, ⟨b0', b1', bf'⟩, -⟩ := id H7)))
          have hB7 := H6.step (H5.step (H4.step hB4 ((Below.refl w4.heap.size w4).drew.trans hb5)) hb6) hb7
          have hgr6 : w7.heap.size > gr := hdr.lt
          clear a0 a1 af b0 b1 bf a0' a1' af' b0' b1' bf' HDa HDb HDV hdx hdy hb5 hb6 hb7 hgq hgr hqr H4 H5 H6 hB4
          go_wp2_with fail
          refine (HPq.out gq cq zq hcq _ hdq).mono ?_
          rintro e w8 ⟨rfl, hb8⟩
          have H8 := H7.below hb8
          have hB8 := H7.step hB7 hb8
          have hdr8 := hdr.below hb8 hgr6
          clear hb8 hB7 H7 HPq hdq hdr hgr6
          go_wp2_with fail
          refine (HPr.out gr cr zr hcr _ hdr8).mono ?_
          rintro e w9 ⟨rfl, hb9⟩
          have H9 := H8.below hb9
          have hB9 := H8.step hB8 hb9
          clear hb9 hB8 H8 HPr hdr8
          obtain ⟨-, -, ⟨c0, c1, cf⟩, ⟨d0, d1, df⟩, hsz⟩ := id H9
          go_wp2_with fail
          exact bodyPost_ret (v := .tuple #[natV (a / b), natV (a % b), .bool true]) (by simp [results, Tryz.results112, go_sem, c0, c1, cf, d0, d1, df]) rfl ⟨rfl, (((hB9.setCell (by simp <;> omega) _).setCell (by simp <;> omega) _).setCell (by simp <;> omega) _).setCell (by simp <;> omega) _⟩)
end Go.Proofs.YtecdnohhengfaaaGreatDoor

/-
  Layer 1, walks Q: gcdOfDigits, above, certainSteps, combine, descend, Gcd.
-/
namespace Go.Proofs.YtecdnohhengfaaaGreatDoor
open Go.RowKit
attribute [local irreducible] lo hs sm s64 c64 d64 b64 mh ml pd pc qd qc val hiB str cmpI srD

theorem above_val (D : List Nat) (hD : Dig D) (at_ s : Nat) (hs : s < 64) (h : at_ < D.length) :
    val D / 2 ^ (64 * at_ + s) % Bs = srD s D[at_] (D.getD (at_ + 1) 0) := by
  have h1 : val D / Bs ^ at_ = val (D.drop at_) := by
    have h2 : val D = val (D.take at_) + Bs ^ at_ * val (D.drop at_) := by
      have := val_append (D.take at_) (D.drop at_)
      rw [List.take_append_drop, List.length_take, Nat.min_eq_left (Nat.le_of_lt h)] at this
      exact this
    have h3 : val (D.take at_) < Bs ^ at_ := by
      have := val_lt (hD.take at_)
      rwa [List.length_take, Nat.min_eq_left (Nat.le_of_lt h)] at this
    rw [h2, Nat.add_mul_div_left _ _ (Nat.pow_pos Bs_pos), Nat.div_eq_of_lt h3, Nat.zero_add]
  rw [Nat.pow_add, Nat.pow_mul, show (2 : Nat) ^ 64 = Bs from Bs_pow.symm, ← Nat.div_div_eq_div_mul, h1, List.drop_eq_getElem_cons h, val_cons, srD_sum (Nat.le_of_lt hs), Nat.add_mul_mod_self_left, next_digit D (at_ + 1) hD]
  exact Nat.mod_eq_of_lt (srD_lt (Nat.le_of_lt hs) (hD.get at_ h))
theorem above_past (D : List Nat) (hD : Dig D) (at_ s : Nat) (h : D.length ≤ at_) : val D / 2 ^ (64 * at_ + s) % Bs = 0 := by
  have h1 := val_lt hD
  have h2 : val D < 2 ^ (64 * at_ + s) := by
    refine Nat.lt_of_lt_of_le h1 ?_
    rw [Bs_pow, ← Nat.pow_mul]
    exact Nat.pow_le_pow_right (by omega) (by omega)
  rw [Nat.div_eq_of_lt h2]; exact Nat.zero_mod _

set_option maxHeartbeats 2000000 in
set_option maxRecDepth 100000 in
theorem above_any (g c at_ s n : Nat) (D : List Nat) (hD : Dig D) (hn : n = 64 * at_ + s) (hs : s < 64) (hatl : at_ ≤ 1099511627776) (hl : D.length ≤ 1099511627776) (w : World) (hr : Rd w g 0 D) :
    Calls Tryz.prog 217 #[.slice (some ⟨g, 0, none⟩) D.length c, .int .i64 (n : Int)] w fun e w' =>
      e = .returned (.int .u64 ((val D / 2 ^ n % Bs : Nat) : Int)) ∧ w = w' := by
  have hm64 : min s 64 = s := by omega
  have hdq : (n : Int) / 64 = (at_ : Int) := by omega
  have hdm : (n : Int).tmod 64 = (s : Int) := by rw [Int.tmod_eq_emod_of_nonneg (by omega)]; omega
  by_cases hat : at_ < D.length
  · have hv := above_val D hD at_ s hs hat
    rw [← hn] at hv
    rw [hv]
    clear hn hv
    have hx := hD.get at_ hat
    have hcell := hr at_ hat
    rw [Nat.zero_add] at hcell
    have hd0 : decide (D.length ≤ at_) = false := by rw [decide_eq_false_iff_not]; omega
    have e2 : ((D[at_] : Nat) : Int) / 2 ^ s = ((D[at_] / 2 ^ s : Nat) : Int) := by rw [Int.natCast_ediv, Int.natCast_pow]; rfl
    by_cases hlast : at_ + 1 < D.length
    · have hor := srD_or (n := s) (z := D.getD (at_ + 1) 0) (Nat.le_of_lt hs) hx
      have hcell2 := hr (at_ + 1) hlast
      rw [Nat.zero_add, show D[at_ + 1] = D.getD (at_ + 1) 0 by simp [hlast]] at hcell2
      rw [e2] at hor
      generalize D[at_] / 2 ^ s = xq at *
      generalize D.getD (at_ + 1) 0 = z at *
      generalize D[at_] = x at *
      clear hx hr hD
      go_enter Tryz.func217, Tryz.ntmps217
      go_upto_region 2 with fail
      clear hdq hdm
      go_wp2
      go_ret
      exact ⟨rfl, rfl⟩
    · have hz : D.getD (at_ + 1) 0 = 0 := by simp [hlast]
      have hsr : srD s D[at_] 0 = D[at_] / 2 ^ s := by unfold srD; simp
      rw [hz, hsr]
      generalize D[at_] / 2 ^ s = xq at *
      generalize D[at_] = x at *
      clear hx hr hD hz hsr
      go_enter Tryz.func217, Tryz.ntmps217
      go_upto_region 2 with fail
      clear hdq hdm
      go_wp2
      go_ret
      exact ⟨rfl, rfl⟩
  · have hv := above_past D hD at_ s (Nat.le_of_not_lt hat)
    rw [← hn] at hv
    rw [hv]
    have hd0 : decide (D.length ≤ at_) = true := by rw [decide_eq_true_eq]; omega
    clear hn hv hr hD
    go_enter Tryz.func217, Tryz.ntmps217
    go_wp2
    go_ret
    exact ⟨rfl, rfl⟩

/-- The quotient that the highest digits tell is that of the two numbers at hand. -/
theorem Leh.quot {p0 q0 s A B C D p q k : Int} (h : Leh p0 q0 s A B C D p q) (hC : 0 < q + C) (hD : 0 < q + D) (k1 : k = (p + A) / (q + C)) (k2 : k = (p + B) / (q + D)) :
    0 ≤ k ∧ k * q ≤ p ∧ p - k * q < q := by
  have hk : 0 ≤ k := by rw [k1]; exact Int.ediv_nonneg (by have := h.c1; omega) (by omega)
  have m1 : k * (q + C) ≤ p + A := by rw [k1]; exact Int.ediv_mul_le _ (by omega)
  have m2 : k * (q + D) ≤ p + B := by rw [k2]; exact Int.ediv_mul_le _ (by omega)
  have m3 : p + A < (k + 1) * (q + C) := by rw [k1]; exact Int.lt_ediv_add_one_mul_self _ hC
  have m4 : p + B < (k + 1) * (q + D) := by rw [k2]; exact Int.lt_ediv_add_one_mul_self _ hD
  have neg : ∀ j c : Int, 0 ≤ j → c ≤ 0 → j * c ≤ 0 := fun j c hj hc => Int.mul_nonpos_of_nonneg_of_nonpos hj hc
  have pos : ∀ j c : Int, 0 ≤ j → 0 ≤ c → 0 ≤ j * c := fun j c hj hc => Int.mul_nonneg hj hc
  have e1 : (k + 1) * q = k * q + q := by rw [Int.add_mul, Int.one_mul]
  rw [Int.mul_add] at m1 m2 m3 m4
  have h1 := h.hA; have h2 := h.hB; have h3 := h.hC; have h4 := h.hD
  rcases h.hs with e | e <;> rw [e] at h1 h2 h3 h4
  · have := pos k D hk (by omega); have := neg (k + 1) C (by omega) (by omega)
    exact ⟨hk, by omega, by omega⟩
  · have := pos k C hk (by omega); have := neg (k + 1) D (by omega) (by omega)
    exact ⟨hk, by omega, by omega⟩

/-- What holds between two of certainSteps' rounds. -/
structure CS (x y : Nat) (p0 q0 A B C D p q : Int) : Prop where
  sg : ∃ s, Leh p0 q0 s A B C D p q
  t : ∃ X Y, LehT x y A B C D X Y
  bA : -p0 ≤ A ∧ A ≤ p0 ∧ -p0 ≤ B ∧ B ≤ p0
  bq : p ≤ p0 ∧ q ≤ p0 ∧ q0 ≤ p0
theorem CS.start {x y : Nat} {p0 q0 : Int} (h : y ≤ x) (hp : 0 < p0) (hq : 0 ≤ q0) (hqp : q0 ≤ p0) : CS x y p0 q0 1 0 0 1 p0 q0 :=
  ⟨⟨1, Leh.start hp hq⟩, ⟨x, y, LehT.start h⟩, by omega, by omega⟩
theorem CS.bounds {x y : Nat} {p0 q0 A B C D p q : Int} (h : CS x y p0 q0 A B C D p q) :
    0 < p ∧ 0 ≤ q ∧ p ≤ p0 ∧ q ≤ p0 ∧ -p0 ≤ A ∧ A ≤ p0 ∧ -p0 ≤ B ∧ B ≤ p0 ∧ -p0 ≤ C ∧ C ≤ p0 ∧ -p0 ≤ D ∧ D ≤ p0 ∧ 0 < p + A ∧ 0 < p + B ∧ 0 ≤ q + C ∧ 0 ≤ q + D := by
  obtain ⟨⟨s, hL⟩, -, hA, hq⟩ := h
  have h1 := hL.bound
  have h2 := hL.pos
  have := hL.c1; have := hL.c2; have := hL.c3; have := hL.c4
  omega
theorem CS.step {x y T xl yl : Nat} {p0 q0 A B C D p q k : Int} (h : CS x y p0 q0 A B C D p q) (hC : 0 < q + C) (hD : 0 < q + D) (k1 : k = (p + A) / (q + C)) (k2 : k = (p + B) / (q + D))
    (hx : (x : Int) = p0 * T + xl) (hy : (y : Int) = q0 * T + yl) (hxl : xl < T) (hyl : yl < T) :
    CS x y p0 q0 C D (A - k * C) (B - k * D) q (p - k * q) ∧ 0 ≤ k ∧ k * q ≤ p ∧ 0 ≤ p - k * q ∧ p - k * q < q ∧ 0 ≤ k * q := by
  have hb := h.bounds
  obtain ⟨⟨s, hL⟩, ⟨X, Y, hT⟩, hA, hq⟩ := h
  obtain ⟨q1, q2, q3⟩ := hL.quot hC hD k1 k2
  have hn : 0 ≤ k * q := Int.mul_nonneg q1 (by omega)
  exact ⟨⟨⟨_, hL.step hC hD k1 k2⟩, ⟨_, _, LehT.step hL hT hC hD k1 k2 hx hy hxl hyl⟩, by omega, by omega⟩, q1, q2, by omega, q3, hn⟩

theorem boxes2 (w : World) (A1 A2 B1 B2 : Value) (t : TypeId) : ∃ w0, ((w.alloc (.cells #[A1, A2] t)).alloc (.cells #[B1, B2] t)) = w0 ∧
    Bx w0 w.heap.size A1 A2 ∧ Bx w0 (w.heap.size + 1) B1 B2 ∧ Below w.heap.size w w0 ∧ w.heap.size + 2 ≤ w0.heap.size :=
  ⟨_, rfl, Bx.of _ _ _ _ _ (al2_1 w _ _), Bx.of _ _ _ _ _ (al2 w _ _), below2 w _ _, by simp⟩
theorem aboveW (g c N a m : Nat) (X : List Nat) (hm : (digs a).length = m) (hl : m ≤ 1000000000000) (hN : N ≤ 64 * 1000000000000) (hv : a / 2 ^ N < Bs) (w : World) (hdx : DB w g (digs a ++ X)) :
    Calls Tryz.prog 217 #[.slice (some ⟨g, 0, none⟩) m c, .int .i64 (N : Int)] w fun e w' =>
      e = .returned (.int .u64 ((a / 2 ^ N : Nat) : Int)) ∧ w = w' := by
  subst hm
  refine (above_any g c (N / 64) (N % 64) N (digs a) (digs_dig a) (by omega) (by omega) (by omega) (by omega) w hdx.rdl).mono ?_
  rintro e w' ⟨rfl, rfl⟩
  rw [val_digs, Nat.mod_eq_of_lt hv]
  exact ⟨rfl, rfl⟩
theorem window (a m t : Nat) (hm : (digs a).length = m) (h2 : 2 ≤ m) (ht : t = (digs a)[m - 1]'(by omega)) :
    t < Bs ∧ ∃ N, 64 * m = N + 62 + lz t ∧ a / 2 ^ N < 4611686018427387904 ∧ 0 < a / 2 ^ N := by
  obtain ⟨n, rfl⟩ : ∃ n, m = n + 1 := ⟨m - 1, by omega⟩
  obtain ⟨h1, h3, h4, -, -⟩ := norm_div a n hm t ht
  have htB : t < Bs := by rw [ht]; exact (digs_dig a).get _ (by omega)
  refine ⟨htB, 64 * (n + 1) - 62 - lz t, by omega, ?_, ?_⟩
  · rw [Nat.div_lt_iff_lt_mul (Nat.pow_pos (by omega))]
    have h5 : 4611686018427387904 * 2 ^ (64 * (n + 1) - 62 - lz t) * 2 ^ lz t = Bs ^ (n + 1) := by
      rw [show (4611686018427387904 : Nat) = 2 ^ 62 from rfl, ← Nat.pow_add, ← Nat.pow_add, Bs_pow, ← Nat.pow_mul]
      congr 1; omega
    exact Nat.lt_of_mul_lt_mul_right (a := 2 ^ lz t) (by rw [h5]; exact h3)
  · rw [Nat.div_pos_iff]
    refine ⟨Nat.pow_pos (by omega), ?_⟩
    have h5 : 2 ^ (64 * (n + 1) - 62 - lz t) * 2 ^ 62 * 2 ^ lz t = Bs ^ (n + 1) := by
      rw [← Nat.pow_add, ← Nat.pow_add, Bs_pow, ← Nat.pow_mul]
      congr 1; omega
    have h6 : 2 ^ (64 * (n + 1) - 62 - lz t) * 2 ^ lz t * 4 ≤ a * 2 ^ lz t * 2 := by
      have h7 : 2 ^ (64 * (n + 1) - 62 - lz t) * 2 ^ lz t * 4 ≤ Bs ^ (n + 1) := by
        rw [← h5, Nat.mul_right_comm _ (2 ^ 62)]
        exact Nat.mul_le_mul_left (2 ^ (64 * (n + 1) - 62 - lz t) * 2 ^ lz t) (show 4 ≤ 2 ^ 62 by decide)
      omega
    exact Nat.le_of_mul_le_mul_right (c := 2 ^ lz t) (by omega) (Nat.pow_pos (by omega))

theorem put4 {w : World} {k : Nat} {x y z u : Value} (hA : Bx w k x y) (hB : Bx w (k + 1) z u) (x' y' z' u' : Value) :
    Bx ((((w.setCell ⟨k, 0, none⟩ x').setCell ⟨k, 1, none⟩ y').setCell ⟨k + 1, 0, none⟩ z').setCell ⟨k + 1, 1, none⟩ u') k x' y' ∧
    Bx ((((w.setCell ⟨k, 0, none⟩ x').setCell ⟨k, 1, none⟩ y').setCell ⟨k + 1, 0, none⟩ z').setCell ⟨k + 1, 1, none⟩ u') (k + 1) z' u' := by
  obtain ⟨a0, a1, af⟩ := hA
  obtain ⟨b0, b1, bf⟩ := hB
  constructor <;> refine ⟨?_, ?_, fun j => ?_⟩ <;> simp [go_sem, a0, a1, af, b0, b1, bf]
attribute [local irreducible] lz
set_option maxHeartbeats 2000000 in
set_option maxRecDepth 100000 in
theorem certain_any (gx gy cx cy a b m n : Nat) (X Y : List Nat) (hn : (digs b).length = n) (hn2 : 2 ≤ n) (hm : (digs a).length = m) (hab : b ≤ a) (hal : m ≤ 1000000000000) (w : World) (hdx : DB w gx (digs a ++ X)) (hdy : DB w gy (digs b ++ Y)) :
    Calls Tryz.prog 195 #[.slice (some ⟨gx, 0, none⟩) m cx, .slice (some ⟨gy, 0, none⟩) n cy] w fun e w' =>
      ∃ A B C D p q p0 q0 : Int, e = .returned (.tuple #[.agg #[.int .i64 A, .int .i64 B], .agg #[.int .i64 C, .int .i64 D]]) ∧ CS a b p0 q0 A B C D p q ∧ p0 ≤ 4611686018427387904 ∧ Below w.heap.size w w' := by
  obtain ⟨w0, hw0, hA, hB, hbw, hsz⟩ := boxes2 w (.int .i64 0) (.int .i64 0) (.int .i64 0) (.int .i64 0) 228
  have hnm : n ≤ m := by rw [← hn, ← hm]; exact digs_mono hab
  obtain ⟨t, ht⟩ : ∃ t, t = (digs a)[m - 1]'(by omega) := ⟨_, rfl⟩
  obtain ⟨htB, N, hN, hP, hP0⟩ := window a m t hm (by omega) ht
  have hlz : lz t ≤ 63 := (norm_div a (m - 1) (by omega) t ht).1
  have hdx0 := hdx.below hbw hdx.lt
  have hdy0 := hdy.below hbw hdy.lt
  have hcell := hdx0.cell (m - 1) (by simp; omega)
  rw [List.getElem_append_left (by omega), ← ht] at hcell
  have hQ : b / 2 ^ N ≤ a / 2 ^ N := Nat.div_le_div_right hab
  have H1 := fun w h => aboveW gx cx N a m X hm hal (by omega) (by unfold Bs; omega) w h
  have H2 := fun w h => aboveW gy cy N b n Y hn (by omega) (by omega) (by unfold Bs; omega) w h
  replace H1 := Lib.hid H1
  replace H2 := Lib.hid H2
  have hxT : (a : Int) = ((a / 2 ^ N : Nat) : Int) * ((2 ^ N : Nat) : Int) + ((a % 2 ^ N : Nat) : Int) := by
    have := Nat.div_add_mod a (2 ^ N)
    rw [← Int.natCast_mul, ← Int.natCast_add, Nat.mul_comm, this]
  have hyT : (b : Int) = ((b / 2 ^ N : Nat) : Int) * ((2 ^ N : Nat) : Int) + ((b % 2 ^ N : Nat) : Int) := by
    have := Nat.div_add_mod b (2 ^ N)
    rw [← Int.natCast_mul, ← Int.natCast_add, Nat.mul_comm, this]
  have hxl : a % 2 ^ N < 2 ^ N := Nat.mod_lt _ (Nat.pow_pos (by omega))
  have hyl : b % 2 ^ N < 2 ^ N := Nat.mod_lt _ (Nat.pow_pos (by omega))
  generalize a / 2 ^ N = P at *
  generalize b / 2 ^ N = Q at *
  generalize a % 2 ^ N = xl at *
  generalize b % 2 ^ N = yl at *
  generalize 2 ^ N = T at *
  have hS := CS.start (p0 := ((P : Nat) : Int)) (q0 := ((Q : Nat) : Int)) hab (by omega) (by omega) (by omega)
  have hwP : IntKind.i64.wrap ((P : Nat) : Int) = ((P : Nat) : Int) := IntWalk.i64_in _ (by omega)
  have hwQ : IntKind.i64.wrap ((Q : Nat) : Int) = ((Q : Nat) : Int) := IntWalk.i64_in _ (by omega)
  have HS := Lib.hid hS
  have HX := Lib.hid hxT
  have HY := Lib.hid hyT
  have HD := Lib.hid (And.intro hdx0 hdy0)
  have HDrop : (m : Int) * 64 - (lz t : Int) - 62 = (N : Int) := by omega
  have HL := Lib.hid (lz_any t htB)
  clear hS hxT hyT hdx0 hdy0 hdx hdy htB ht hN
  go_enter Tryz.func195, Tryz.ntmps195
  go_wp2_with fail
  refine (HL.out _).mono ?_
  rintro e w1 ⟨rfl, rfl⟩
  go_wp2_with fail
  refine (H1.out _ HD.out.1).mono ?_
  rintro e w1 ⟨rfl, rfl⟩
  go_wp2_with fail
  refine (H2.out _ HD.out.2).mono ?_
  rintro e w1 ⟨rfl, rfl⟩
  obtain ⟨a0, a1, af⟩ := id hA
  obtain ⟨b0, b1, bf⟩ := id hB
  clear HL H1 H2 HDrop hcell hlz
  go_wp2_with fail
  go_loopw [7, 8, 9] (fun z7 z8 _ wr => ∃ A B C D p q : Int, z7 = .int .i64 p ∧ z8 = .int .i64 q ∧ CS a b P Q A B C D p q ∧
    Bx wr w.heap.size (.int .i64 A) (.int .i64 B) ∧ Bx wr (w.heap.size + 1) (.int .i64 C) (.int .i64 D) ∧ Below w.heap.size w wr ∧ w.heap.size + 2 ≤ wr.heap.size) (fun _ z8 _ _ => (intOf z8).toNat)
  case atStart =>
    have hp := put4 hA hB (.int .i64 1) (.int .i64 0) (.int .i64 0) (.int .i64 1)
    exact ⟨1, 0, 0, 1, P, Q, rfl, rfl, HS.out, hp.1, hp.2, (((hbw.setCell (by simp <;> omega) _).setCell (by simp <;> omega) _).setCell (by simp <;> omega) _).setCell (by simp <;> omega) _, by simp; omega⟩
  case round =>
    obtain ⟨A, B, C, D, p, q, rfl, rfl, hCS, hA, hB, hbw, hsz⟩ := hrel
    clear a0 a1 af b0 b1 bf HS
    have hbd := hCS.bounds
    have hCS := Lib.hid hCS
    obtain ⟨u, hu⟩ : ∃ u, u = q + C := ⟨_, rfl⟩
    obtain ⟨v, hv⟩ : ∃ v, v = q + D := ⟨_, rfl⟩
    obtain ⟨f, hf⟩ : ∃ f, f = p + A := ⟨_, rfl⟩
    obtain ⟨g, hg⟩ : ∃ g, g = p + B := ⟨_, rfl⟩
    have wu : IntKind.i64.wrap (q + C) = u := by rw [hu]; exact IntWalk.i64_in _ (by omega)
    have wv : IntKind.i64.wrap (q + D) = v := by rw [hv]; exact IntWalk.i64_in _ (by omega)
    have wf : IntKind.i64.wrap (p + A) = f := by rw [hf]; exact IntWalk.i64_in _ (by omega)
    have wg : IntKind.i64.wrap (p + B) = g := by rw [hg]; exact IntWalk.i64_in _ (by omega)
    have hu0 : 0 ≤ u := by omega
    have hv0 : 0 ≤ v := by omega
    have HBD := Lib.hid hbd
    have Hu := Lib.hid hu
    have Hv := Lib.hid hv
    have Hf := Lib.hid hf
    have Hg := Lib.hid hg
    obtain ⟨a0, a1, af⟩ := id hA
    obtain ⟨b0, b1, bf⟩ := id hB
    clear hbd hu hv hf hg
    by_cases hu1 : u = 0
    · have hwu0 : decide (u = 0) = true := decide_eq_true hu1
      go_wp2_with fail
      go_region
      go_wp2_with fail
      have hp := put4 hA hB (.int .i64 A) (.int .i64 B) (.int .i64 C) (.int .i64 D)
      obtain ⟨⟨p0, p1, -⟩, ⟨p2, p3, -⟩⟩ := hp
      exact bodyPost_ret (v := .tuple #[.agg #[.int .i64 A, .int .i64 B], .agg #[.int .i64 C, .int .i64 D]]) (by simp [results, Tryz.results195, go_sem, a0, a1, b0, b1, af, bf]) rfl
        ⟨A, B, C, D, p, q, P, Q, rfl, hCS.out, by omega, ((((hbw.setCell (by simp <;> omega) _).setCell (by simp <;> omega) _).setCell (by simp <;> omega) _).setCell (by simp <;> omega) _).drew⟩
    · have hwu0 : (u != 0) = true := bne_iff_ne.2 hu1
      by_cases hv1 : v = 0
      · have hwv0 : decide (v = 0) = true := decide_eq_true hv1
        go_wp2_with fail
        go_region
        go_wp2_with fail
        have hp := put4 hA hB (.int .i64 A) (.int .i64 B) (.int .i64 C) (.int .i64 D)
        obtain ⟨⟨p0, p1, -⟩, ⟨p2, p3, -⟩⟩ := hp
        exact bodyPost_ret (v := .tuple #[.agg #[.int .i64 A, .int .i64 B], .agg #[.int .i64 C, .int .i64 D]]) (by simp [results, Tryz.results195, go_sem, a0, a1, b0, b1, af, bf]) rfl
          ⟨A, B, C, D, p, q, P, Q, rfl, hCS.out, by omega, ((((hbw.setCell (by simp <;> omega) _).setCell (by simp <;> omega) _).setCell (by simp <;> omega) _).setCell (by simp <;> omega) _).drew⟩
      · have hwv0 : (v != 0) = true := bne_iff_ne.2 hv1
        have hf0 : 0 ≤ f := by have := HBD.out; have := Hf.out; omega
        have hg0 : 0 ≤ g := by have := HBD.out; have := Hg.out; omega
        obtain ⟨k, hk⟩ : ∃ k, k = f / u := ⟨_, rfl⟩
        obtain ⟨l, hl⟩ : ∃ l, l = g / v := ⟨_, rfl⟩
        have hkb : 0 ≤ k ∧ k ≤ f := ⟨by rw [hk]; exact Int.ediv_nonneg hf0 hu0, by rw [hk]; exact Int.ediv_le_self _ hf0⟩
        have hlb : 0 ≤ l ∧ l ≤ g := ⟨by rw [hl]; exact Int.ediv_nonneg hg0 hv0, by rw [hl]; exact Int.ediv_le_self _ hg0⟩
        have hff : f ≤ 9223372036854775807 ∧ g ≤ 9223372036854775807 := by have := HBD.out; have := Hf.out; have := Hg.out; omega
        have tk : f.tdiv u = k := by rw [hk]; exact Int.tdiv_eq_ediv_of_nonneg hf0
        have tl : g.tdiv v = l := by rw [hl]; exact Int.tdiv_eq_ediv_of_nonneg hg0
        have wk : IntKind.i64.wrap k = k := IntWalk.i64_in _ (by omega)
        have wl : IntKind.i64.wrap l = l := IntWalk.i64_in _ (by omega)
        have Hk := Lib.hid hk
        have Hl := Lib.hid hl
        clear hk hl hff hkb hlb
        by_cases hkl : k = l
        · subst hkl
          have hstep := hCS.out.step (T := T) (xl := xl) (yl := yl) (k := k) (by have := Hu.out; omega) (by have := Hv.out; omega) (by rw [← Hf.out, ← Hu.out]; exact Hk.out) (by rw [← Hg.out, ← Hv.out]; exact Hl.out) HX.out HY.out hxl hyl
          obtain ⟨hn, n1, n2, n3, n4, n5⟩ := hstep
          have nb := hn.bounds
          have ob := HBD.out
          obtain ⟨kq, hkq⟩ : ∃ z, z = k * q := ⟨_, rfl⟩
          obtain ⟨kc, hkc⟩ : ∃ z, z = k * C := ⟨_, rfl⟩
          obtain ⟨kd, hkd⟩ : ∃ z, z = k * D := ⟨_, rfl⟩
          rw [← hkq, ← hkc, ← hkd] at nb
          rw [← hkq] at n2 n3 n4 n5
          rw [← hkq, ← hkc, ← hkd] at hn
          obtain ⟨q', hq'⟩ : ∃ z, z = p - kq := ⟨_, rfl⟩
          obtain ⟨C', hC'⟩ : ∃ z, z = A - kc := ⟨_, rfl⟩
          obtain ⟨D', hD'⟩ : ∃ z, z = B - kd := ⟨_, rfl⟩
          rw [← hq', ← hC', ← hD'] at nb hn
          rw [← hq'] at n3 n4
          have w1 : IntKind.i64.wrap (k * q) = kq := by rw [← hkq]; exact IntWalk.i64_in _ (by omega)
          have w2 : IntKind.i64.wrap (k * C) = kc := by rw [← hkc]; exact IntWalk.i64_in _ (by omega)
          have w3 : IntKind.i64.wrap (k * D) = kd := by rw [← hkd]; exact IntWalk.i64_in _ (by omega)
          have w4 : IntKind.i64.wrap (p - kq) = q' := by rw [← hq']; exact IntWalk.i64_in _ (by omega)
          have w5 : IntKind.i64.wrap (A - kc) = C' := by rw [← hC']; exact IntWalk.i64_in _ (by omega)
          have w6 : IntKind.i64.wrap (B - kd) = D' := by rw [← hD']; exact IntWalk.i64_in _ (by omega)
          have HN := Lib.hid hn
          have HM := Lib.hid (And.intro n3 n4)
          clear nb ob n1 n2 n3 n4 n5 hkq hkc hkd hq' hC' hD' hn hCS Hk Hl Hu Hv Hf Hg HBD
          go_wp2_with fail
          go_region
          go_wp2_with fail
          have hp := put4 hA hB (.int .i64 C) (.int .i64 D) (.int .i64 C') (.int .i64 D')
          refine ⟨⟨C, D, C', D', q, q', rfl, rfl, HN.out, hp.1, hp.2, ((((hbw.setCell (by simp <;> omega) _).setCell (by simp <;> omega) _).setCell (by simp <;> omega) _).setCell (by simp <;> omega) _).drew, by simp; omega⟩, ?_⟩
          have := HM.out
          simp [intOf]; omega
        · have hkl0 : (k != l) = true := bne_iff_ne.2 hkl
          go_wp2_with fail
          go_region
          go_wp2_with fail
          have hp := put4 hA hB (.int .i64 A) (.int .i64 B) (.int .i64 C) (.int .i64 D)
          obtain ⟨⟨p0, p1, -⟩, ⟨p2, p3, -⟩⟩ := hp
          exact bodyPost_ret (v := .tuple #[.agg #[.int .i64 A, .int .i64 B], .agg #[.int .i64 C, .int .i64 D]]) (by simp [results, Tryz.results195, go_sem, a0, a1, b0, b1, af, bf]) rfl
            ⟨A, B, C, D, p, q, P, Q, rfl, hCS.out, by omega, ((((hbw.setCell (by simp <;> omega) _).setCell (by simp <;> omega) _).setCell (by simp <;> omega) _).setCell (by simp <;> omega) _).drew⟩
end Go.Proofs.YtecdnohhengfaaaGreatDoor

/-
  Layer 1, walks R: difference, combine, descend, gcdOfDigits, Gcd.
-/
namespace Go.Proofs.YtecdnohhengfaaaGreatDoor
open Go.RowKit
attribute [local irreducible] lo hs sm s64 c64 d64 b64 mh ml pd pc qd qc val hiB str cmpI srD lz

theorem addP0 (g gy c cy f K n : Nat) (D Y : List Nat) (hK : D.length = K) (hn : Y.length = n) (hD : Dig D) (hY : Dig Y) (hf : f < Bs) (hle : n ≤ K) (hl : K ≤ 1099511627776) (hne : gy ≠ g) (w : World) (hdb : DB w g D) (hgy : gy < w.heap.size) (hr : Rd w gy 0 Y) :
    Calls Tryz.prog 157 #[.slice (some ⟨g, 0, none⟩) K c, .slice (some ⟨gy, 0, none⟩) n cy, .int .u64 (f : Int)] w fun e w' =>
      ∃ (carry : Nat) (P : List Nat), e = .returned (.int .u64 (carry : Int)) ∧ MulI D Y f n carry P ∧ DB w' g (P ++ D.drop n) ∧ w.grownBy w' (some g) := by
  subst hK; subst hn
  refine (addProduct_any g gy 0 c cy f [] D [] Y hD hY hf hle hl hne w (by simpa using hdb) hgy hr).mono ?_
  rintro e w' ⟨carry, P, h1, h2, h3, h4⟩
  exact ⟨carry, P, h1, h2, by simpa using h3, h4⟩
theorem takeP0 (g gy c cy f K n : Nat) (D Y : List Nat) (hK : D.length = K) (hn : Y.length = n) (hD : Dig D) (hY : Dig Y) (hf : f < Bs) (hle : n < K) (hl : K ≤ 1099511627776) (hne : gy ≠ g) (w : World) (hdb : DB w g D) (hgy : gy < w.heap.size) (hr : Rd w gy 0 Y) :
    Calls Tryz.prog 220 #[.slice (some ⟨g, 0, none⟩) K c, .slice (some ⟨gy, 0, none⟩) n cy, .int .u64 (f : Int)] w fun e w' =>
      ∃ (b : Bool) (D' : List Nat), e = .returned (.bool b) ∧ (D'.length = K ∧ Dig D' ∧ val D' + f * val Y = val D + if b then Bs ^ K else 0) ∧ DB w' g D' ∧ w.grownBy w' (some g) := by
  subst hK; subst hn
  refine (takeProduct_any g gy 0 c cy f [] D [] Y hD hY hf hle hl hne w (by simpa using hdb) hgy hr).mono ?_
  rintro e w' ⟨b, D', h1, h2, h3, h4⟩
  exact ⟨b, D', h1, h2, by simpa using h3, h4⟩
theorem trim0 (g c K : Nat) (l : List Nat) (hK : l.length = K) (hd : Dig l) (hl : K ≤ maxLen) (hcap : K ≤ c) (w : World) (hdb : DB w g l) :
    Calls Tryz.prog 132 #[.slice (some ⟨g, 0, none⟩) K c] w fun e w' =>
      e = .returned (.slice (some ⟨g, 0, none⟩) (digs (val l)).length c) ∧ w = w' := by
  subst hK
  exact trim_any g 0 c l hd hl hcap w hdb.rd0

/-- The first product, with its carry put at its place. -/
theorem dif_first {K n x a carry : Nat} {P : List Nat} (hn : (digs x).length = n) (hnK : n < K) (h : MulI (List.replicate K 0) (digs x) a n carry P) :
    ((P ++ List.drop n (List.replicate K 0)).set n carry).length = K ∧ Dig ((P ++ List.drop n (List.replicate K 0)).set n carry) ∧ val ((P ++ List.drop n (List.replicate K 0)).set n carry) = a * x := by
  have e : (P ++ List.drop n (List.replicate K 0)).set n carry = P ++ carry :: List.replicate (K - n - 1) 0 := by
    rw [List.set_append_right _ _ (by rw [h.len]; exact Nat.le_refl _), h.len, Nat.sub_self, List.drop_replicate]
    obtain ⟨j, hj⟩ : ∃ j, K - n = j + 1 := ⟨K - n - 1, by omega⟩
    rw [hj, List.replicate_succ, List.set_cons_zero]; rfl
  have he := h.eq
  rw [List.take_replicate, Nat.min_eq_left (Nat.le_of_lt hnK), val_zeros, ← hn, List.take_length, val_digs, Nat.zero_add, hn] at he
  rw [e]
  refine ⟨by simp [h.len]; omega, h.dig.app (Dig.cons h.le (Dig.zeros _)), ?_⟩
  rw [val_append, val_cons, val_zeros, h.len, Nat.mul_zero, Nat.add_zero]; exact he
theorem dif_last {K b y d v : Nat} {D' : List Nat} {c : Bool} (hK : D'.length = K) (hD : Dig D') (h : val D' + b * y = b * y + d + if c then v else 0) (hv : v = Bs ^ K) : val D' = d := by
  have h1 := val_lt hD
  rw [hK, ← hv] at h1
  cases c <;> simp at h <;> omega

set_option maxHeartbeats 2000000 in
set_option maxRecDepth 100000 in
theorem difference_any (gx gy cx cy a b x y d n m : Nat) (X Y : List Nat) (ha : a < Bs) (hb : b < Bs) (hn : (digs x).length = n) (hm : (digs y).length = m) (hnl : n ≤ 1000000000000) (hml : m ≤ 1000000000000)
    (hd : a * x = b * y + d) (w : World) (hdx : DB w gx (digs x ++ X)) (hdy : DB w gy (digs y ++ Y)) :
    Calls Tryz.prog 218 #[.slice (some ⟨gx, 0, none⟩) n cx, .slice (some ⟨gy, 0, none⟩) m cy, .int .u64 (a : Int), .int .u64 (b : Int)] w fun e w' =>
      ∃ g c z, e = .returned (.slice (some ⟨g, 0, none⟩) (digs d).length c) ∧ DB w' g (digs d ++ List.replicate z 0) ∧ (digs d).length ≤ c ∧ w.heap.size ≤ g ∧ Below w.heap.size w w' := by
  obtain ⟨K, hK⟩ : ∃ K, K = max n m + 1 := ⟨_, rfl⟩
  have hmk : (Instr.makeSlice 158 (.int .i64 (K : Int)) (.int .i64 (K : Int))).run Tryz.prog w = .ok (.slice (some ⟨w.heap.size, 0, none⟩) K K) (w.alloc (zobj K)) := make64 w _ K (by omega) (by omega)
  have hmax : max (n : Int) (m : Int) + 1 = (K : Int) := by omega
  have hz := DB.zeros w K
  have hbz : Below w.heap.size w (w.alloc (zobj K)) := (Below.refl _ _).alloc (Nat.le_refl _) _
  have hsz : w.heap.size < (w.alloc (zobj K)).heap.size := by simp
  have hdx0 := hdx.alloc (zobj K)
  have hdy0 := hdy.alloc (zobj K)
  have hgx : gx < w.heap.size := hdx.lt
  have hgy : gy < w.heap.size := hdy.lt
  have HA := Lib.hid (addP0 w.heap.size gx K cx a K n (List.replicate K 0) (digs x) (by simp) hn (Dig.zeros K) (digs_dig x) ha (by omega) (by omega) (by omega) (w.alloc (zobj K)) hz (by omega) hdx0.rdl)
  clear hdx hdx0 hz
  generalize hW : w.alloc (zobj K) = W1 at *
  have HB := fun D hD => takeP0 w.heap.size gy K cy b K m D (digs y) hD hm
  have HT := fun D hD => trim0 w.heap.size K K D hD
  replace HB := Lib.hid HB
  replace HT := Lib.hid HT
  replace hK := Lib.hid hK
  replace hd := Lib.hid hd
  replace hn := Lib.hid hn
  replace hm := Lib.hid hm
  go_enter Tryz.func218, Tryz.ntmps218
  go_wp2_with fail
  refine (HA.out).mono ?_
  rintro e w2 ⟨carry, P, rfl, hP, hdP, hg2⟩
  have hcb := hP.le
  have hPl := hP.len
  have hKn := hK.out
  have hset := hdP.set n (by simp [hPl]; omega) carry
  have hcell := hdP.cell n (by simp [hPl]; omega)
  have hfz := hdP.frozen n
  generalize hU : w2.setCell ⟨w.heap.size, n, none⟩ (.int .u64 (carry : Int)) = W3 at *
  have hnK : n < K := by omega
  clear hKn
  obtain ⟨q1, q2, q3⟩ := dif_first hn.out hnK hP
  generalize (P ++ List.drop n (List.replicate K 0)).set n carry = D3 at *
  have hg3 : W1.grownBy W3 (some w.heap.size) := by rw [← hU]; exact grown_trans hg2 (grown_set _ _ _ _)
  have hB3 := hbz.trans (grown_below hg3 (Nat.le_refl _) (Nat.le_of_lt hsz))
  have hdy3 := hdy.below hB3 hgy
  have HB3 := Lib.hid (HB.out D3 q1 q2 (digs_dig y) hb (by have := hK.out; omega) (by omega) (by omega) W3 hset hdy3.lt hdy3.rdl)
  have hB3 := Lib.hid hB3
  have hs3 : w.heap.size < W3.heap.size := hset.lt
  go_wp2_with fail
  refine (HB3.out).mono ?_
  rintro e w4 ⟨c, D4, rfl, ⟨h1, h2, h3⟩, hd4, hg4⟩
  rw [q3, hd.out, val_digs] at h3
  have hv := dif_last h1 h2 h3 rfl
  have HT4 := Lib.hid (HT.out D4 h1 h2 (by unfold maxLen; omega) (Nat.le_refl _) w4 hd4)
  rw [hv] at HT4
  clear hW hU HB HT HB3 hg2 hg3 h3 hcell hfz hP hdP
  go_wp2_with fail
  refine (HT4.out).mono ?_
  rintro e w5 ⟨rfl, rfl⟩
  go_wp2_with fail
  go_ret
  obtain ⟨z, hz⟩ := norm D4 h2
  rw [hv] at hz
  refine ⟨_, _, z, rfl, by rw [← hz]; exact hd4, ?_, Nat.le_refl _, hB3.out.trans (grown_below hg4 (Nat.le_refl _) (Nat.le_of_lt hs3))⟩
  have := congrArg List.length hz
  simp at this; omega

theorem boxes1 (w : World) (A1 A2 : Value) (t : TypeId) : ∃ w0, w.alloc (.cells #[A1, A2] t) = w0 ∧ Bx w0 w.heap.size A1 A2 ∧ Below w.heap.size w w0 ∧ w.heap.size < w0.heap.size :=
  ⟨_, rfl, Bx.of _ _ _ _ _ (al1 w _), (Below.refl _ _).alloc (Nat.le_refl _) _, by simp⟩

set_option maxHeartbeats 2000000 in
set_option maxRecDepth 100000 in
theorem combine_any (gx gy cx cy x y d n m : Nat) (A B : Int) (X Y : List Nat) (hn : (digs x).length = n) (hm : (digs y).length = m) (hnl : n ≤ 1000000000000) (hml : m ≤ 1000000000000)
    (hA1 : -4611686018427387904 ≤ A) (hA2 : A ≤ 4611686018427387904) (hB1 : -4611686018427387904 ≤ B) (hB2 : B ≤ 4611686018427387904) (hs1 : A ≤ 0 → 0 ≤ B) (hs2 : 0 < A → B ≤ 0)
    (hd : (d : Int) = A * x + B * y) (w : World) (hdx : DB w gx (digs x ++ X)) (hdy : DB w gy (digs y ++ Y)) :
    Calls Tryz.prog 196 #[.slice (some ⟨gx, 0, none⟩) n cx, .slice (some ⟨gy, 0, none⟩) m cy, .agg #[.int .i64 A, .int .i64 B]] w fun e w' =>
      ∃ g c z, e = .returned (.slice (some ⟨g, 0, none⟩) (digs d).length c) ∧ DB w' g (digs d ++ List.replicate z 0) ∧ (digs d).length ≤ c ∧ w.heap.size ≤ g ∧ Below w.heap.size w w' := by
  obtain ⟨w0, hw0, hbx, hbw, hsz⟩ := boxes1 w (.int .i64 A) (.int .i64 B) 228
  obtain ⟨a0, a1, af⟩ := hbx
  have hdx0 := hdx.below hbw hdx.lt
  have hdy0 := hdy.below hbw hdy.lt
  by_cases hA : A ≤ 0
  · have hB := hs1 hA
    obtain ⟨a, ha⟩ := Int.eq_ofNat_of_zero_le (show 0 ≤ -A by omega)
    obtain ⟨b, hb⟩ := Int.eq_ofNat_of_zero_le hB
    have hsum : b * y = a * x + d := by
      have h1 : A * (x : Int) = -((a * x : Nat) : Int) := by rw [Int.natCast_mul, ← ha, Int.neg_mul, Int.neg_neg]
      have h2 : B * (y : Int) = ((b * y : Nat) : Int) := by rw [Int.natCast_mul, ← hb]
      rw [h1, h2] at hd; omega
    have HD := Lib.hid (difference_any gy gx cy cx b a y x d m n Y X (by unfold Bs; omega) (by unfold Bs; omega) hm hn hml hnl hsum w0 hdy0 hdx0)
    have hA0 : decide (A ≤ 0) = true := decide_eq_true hA
    have r1 : IntKind.i64.wrap (-A) = -A := IntWalk.i64_in _ (by omega)
    have r2 : IntKind.u64.wrap (-A) = (a : Int) := by rw [ha]; exact wrapN _ (by omega)
    have r3 : IntKind.u64.wrap B = (b : Int) := by rw [hb]; exact wrapN _ (by omega)
    clear hdx hdy hdx0 hdy0 hsum hd ha hb hA hB hA1 hA2 hB1 hB2 hs1 hs2
    go_enter Tryz.func196, Tryz.ntmps196
    go_wp2_with fail
    refine (HD.out).mono ?_
    rintro e w1 ⟨g, c, z, rfl, h1, h2, h3, h4⟩
    go_wp2_with fail
    go_ret
    exact ⟨g, c, z, rfl, h1, h2, by omega, hbw.trans (h4.mono (by omega))⟩
  · have hB := hs2 (by omega)
    obtain ⟨a, ha⟩ := Int.eq_ofNat_of_zero_le (show 0 ≤ A by omega)
    obtain ⟨b, hb⟩ := Int.eq_ofNat_of_zero_le (show 0 ≤ -B by omega)
    have hsum : a * x = b * y + d := by
      have h1 : A * (x : Int) = ((a * x : Nat) : Int) := by rw [Int.natCast_mul, ← ha]
      have h2 : B * (y : Int) = -((b * y : Nat) : Int) := by rw [Int.natCast_mul, ← hb, Int.neg_mul, Int.neg_neg]
      rw [h1, h2] at hd; omega
    have HD := Lib.hid (difference_any gx gy cx cy a b x y d n m X Y (by unfold Bs; omega) (by unfold Bs; omega) hn hm hnl hml hsum w0 hdx0 hdy0)
    have hA0 : decide (A ≤ 0) = false := decide_eq_false hA
    have r1 : IntKind.i64.wrap (-B) = -B := IntWalk.i64_in _ (by omega)
    have r2 : IntKind.u64.wrap (-B) = (b : Int) := by rw [hb]; exact wrapN _ (by omega)
    have r3 : IntKind.u64.wrap A = (a : Int) := by rw [ha]; exact wrapN _ (by omega)
    clear hdx hdy hdx0 hdy0 hsum hd ha hb hB hA1 hA2 hB1 hB2 hs1 hs2
    go_enter Tryz.func196, Tryz.ntmps196
    go_wp2_with fail
    refine (HD.out).mono ?_
    rintro e w1 ⟨g, c, z, rfl, h1, h2, h3, h4⟩
    go_wp2_with fail
    go_ret
    exact ⟨g, c, z, rfl, h1, h2, by omega, hbw.trans (h4.mono (by omega))⟩

theorem digs_big {b : Nat} (h : 2 ≤ (digs b).length) : ¬ b < Bs := fun hb => by
  have := digs_length_iff (n := b) (k := 1)
  rw [Nat.pow_one] at this
  have := this.2 hb; omega
theorem sgn1 {A B : Int} {X x y : Nat} (hy : 0 < y) (hX : (X : Int) = A * x + B * y) {s : Int} (hs : s = 1 ∨ s = -1) (h1 : 0 ≤ s * A) (h2 : s * B ≤ 0) : (A ≤ 0 → 0 ≤ B) ∧ (0 < A → B ≤ 0) := by
  rcases hs with e | e <;> subst e
  · constructor
    · intro hA
      have h0 : A = 0 := by omega
      rw [h0, Int.zero_mul, Int.zero_add] at hX
      rcases Int.lt_or_le B 0 with hB | hB
      · have : B * (y : Int) < 0 := Int.mul_neg_of_neg_of_pos hB (by omega)
        omega
      · exact hB
    · intro _; omega
  · constructor
    · intro _; omega
    · intro _; omega

set_option maxHeartbeats 2000000 in
set_option maxRecDepth 100000 in
theorem descend_any (gx gy cx cy x y n m : Nat) (X Y : List Nat) (hn : (digs x).length = n) (hm : (digs y).length = m) (hnl : n ≤ 1000000000000) (hm2 : 2 ≤ m) (hyx : y ≤ x) (hcy : m ≤ cy) (w : World) (hdx : DB w gx (digs x ++ X)) (hdy : DB w gy (digs y ++ Y)) :
    Calls Tryz.prog 153 #[.slice (some ⟨gx, 0, none⟩) n cx, .slice (some ⟨gy, 0, none⟩) m cy] w fun e w' =>
      ∃ (x' y' gX cX gY cY : Nat) (ZX ZY : List Nat), e = .returned (.tuple #[.slice (some ⟨gX, 0, none⟩) (digs x').length cX, .slice (some ⟨gY, 0, none⟩) (digs y').length cY]) ∧
        DB w' gX (digs x' ++ ZX) ∧ DB w' gY (digs y' ++ ZY) ∧ (digs x').length ≤ cX ∧ (digs y').length ≤ cY ∧ Nat.gcd x' y' = Nat.gcd x y ∧ y' ≤ x' ∧ y' < y ∧ x' ≤ y ∧ gX ≠ gY ∧ (gX = gy ∨ w.heap.size ≤ gX) ∧ w.heap.size ≤ gY ∧ Below w.heap.size w w' := by
  have hml : m ≤ 1000000000000 := by rw [← hm]; exact Nat.le_trans (digs_mono hyx) (by omega)
  have hyB : ¬ y < Bs := digs_big (by omega)
  have hy0 : 0 < y := by unfold Bs at hyB; omega
  have HC := Lib.hid (certain_any gx gy cx cy x y n m X Y hm hm2 hn hyx hnl w hdx hdy)
  have HDV := fun w h1 h2 => divW gx gy cx cy x y X Y hyB hyx (by omega) w h1 h2
  rw [hn, hm] at HDV
  replace HDV := Lib.hid HDV
  have HCO := fun A B d w h1 h2 h3 h4 h5 h6 h7 h8 h9 => combine_any gx gy cx cy x y d n m A B X Y hn hm hnl hml h1 h2 h3 h4 h5 h6 h7 w h8 h9
  replace HCO := Lib.hid HCO
  go_enter Tryz.func153, Tryz.ntmps153
  go_wp2_with fail
  refine (HC.out).mono ?_
  rintro e w1 ⟨A, B, C, D, p, q, p0, q0, rfl, hCS, hp0, hb1⟩
  obtain ⟨w2, hw2, hA, hB, hb2, hsz⟩ := boxes2 w1 (.int .i64 0) (.int .i64 0) (.int .i64 0) (.int .i64 0) 228
  have hp4 := put4 hA hB (.int .i64 A) (.int .i64 B) (.int .i64 C) (.int .i64 D)
  obtain ⟨a0, a1, af⟩ := id hA
  obtain ⟨b0, b1, bf⟩ := id hB
  have hb3 : Below w1.heap.size w1 ((((w2.setCell ⟨w1.heap.size, 0, none⟩ (.int .i64 A)).setCell ⟨w1.heap.size, 1, none⟩ (.int .i64 B)).setCell ⟨w1.heap.size + 1, 0, none⟩ (.int .i64 C)).setCell ⟨w1.heap.size + 1, 1, none⟩ (.int .i64 D)) :=
    (((hb2.setCell (by simp) _).setCell (by simp) _).setCell (by simp) _).setCell (by simp) _
  have hsz3 : w1.heap.size + 2 ≤ ((((w2.setCell ⟨w1.heap.size, 0, none⟩ (.int .i64 A)).setCell ⟨w1.heap.size, 1, none⟩ (.int .i64 B)).setCell ⟨w1.heap.size + 1, 0, none⟩ (.int .i64 C)).setCell ⟨w1.heap.size + 1, 1, none⟩ (.int .i64 D)).heap.size := by simpa using hsz
  generalize hw3 : ((((w2.setCell ⟨w1.heap.size, 0, none⟩ (.int .i64 A)).setCell ⟨w1.heap.size, 1, none⟩ (.int .i64 B)).setCell ⟨w1.heap.size + 1, 0, none⟩ (.int .i64 C)).setCell ⟨w1.heap.size + 1, 1, none⟩ (.int .i64 D)) = w3 at *
  obtain ⟨h3A, h3B⟩ := hp4
  obtain ⟨c0, c1, cf⟩ := id h3A
  obtain ⟨d0, d1, df⟩ := id h3B
  have hB3 := hb1.trans (hb3.mono hb1.size)
  have hdx3 := Lib.hid (hdx.below hB3 hdx.lt)
  have hdy3 := Lib.hid (hdy.below hB3 hdy.lt)
  have hbd := Lib.hid hCS.bounds
  obtain ⟨⟨s, hL⟩, ⟨X1, Y1, hT⟩, -, -⟩ := hCS
  have hs := hbd.out
  have s1 := sgn1 hy0 hT.hX hL.hs hL.hA hL.hB
  have s2 : (C ≤ 0 → 0 ≤ D) ∧ (0 < C → D ≤ 0) := sgn1 hy0 hT.hY (s := -s) (by have := hL.hs; omega) (by have := hL.hC; rw [Int.neg_mul]; omega) (by have := hL.hD; rw [Int.neg_mul]; omega)
  have HC1 := Lib.hid (fun w => HCO.out A B X1 w (by omega) (by omega) (by omega) (by omega) s1.1 s1.2 hT.hX)
  have HC2 := Lib.hid (fun w => HCO.out C D Y1 w (by omega) (by omega) (by omega) (by omega) s2.1 s2.2 hT.hY)
  have HT := Lib.hid hT
  clear hs s1 s2 hbd hL hT hp0 hA hB HC HCO
  by_cases hB0 : B = 0
  · have hB1 : (B == 0) = true := by rw [hB0]; rfl
    clear hB0
    go_wp2_with fail
    refine (HDV.out _ hdx3.out hdy3.out).mono ?_
    rintro e w4 ⟨gq, cq, zq, gr, cr, zr, rfl, hdq, hdr, hqr, hgq, hgr, hcq, hcr, hb4⟩
    have hdy4 := Lib.hid (hdy3.out.below hb4 hdy3.out.lt)
    have hB4 := Lib.hid (hB3.trans (hb4.mono hB3.size))
    clear HDV HC1 HC2 a0 a1 af b0 b1 bf c0 c1 cf d0 d1 df h3A h3B hw2 hw3
    go_wp2_with fail
    go_ret2
    exact ⟨y, x % y, gy, cy, gr, cr, Y, List.replicate zr 0, by rw [hm]; rfl, hdy4.out, hdr, by omega, hcr, by rw [Nat.gcd_comm y, ← Nat.gcd_rec, Nat.gcd_comm], Nat.le_of_lt (Nat.mod_lt _ hy0), Nat.mod_lt _ hy0, Nat.le_refl _, by have := hdy3.out.lt; omega, .inl rfl, by have := hB3.size; omega, hB4.out⟩
  · have hB1 : (B == 0) = false := beq_eq_false_iff_ne.2 hB0
    go_wp2_with fail
    go_region_held3 (fun w' => w'.cell? ⟨w1.heap.size, 0, none⟩ = some (.int .i64 A) ∧ w'.cell? ⟨w1.heap.size, 1, none⟩ = some (.int .i64 B) ∧ w'.cell? ⟨w1.heap.size + 1, 0, none⟩ = some (.int .i64 C) ∧ w'.cell? ⟨w1.heap.size + 1, 1, none⟩ = some (.int .i64 D))
      (first | with_reducible exact ⟨c0, c1, d0, d1⟩ | with_reducible exact ⟨c0', c1', d0', d1'⟩ | with_reducible exact ⟨c0'', c1'', d0'', d1''⟩ | exact ⟨c0, c1, d0, d1⟩)
      (first
        | (go_at_call 196; ((with_reducible refine Calls.mono (HC1.out _ (hdx3.out.keep rfl) (hdy3.out.keep rfl)) ?_); rintro e w4 ⟨g1, k1, z1, rfl, hd1, hk1, hg1, hb4⟩; have hb34 := (Below.refl w3.heap.size w3).drew.trans hb4; obtain ⟨c0', c1', cf'⟩ := h3A.below hb34 (by omega); obtain ⟨d0', d1', df'⟩ := h3B.below hb34 (by omega)))
        | (go_at_call 196; ((with_reducible refine Calls.mono (HC2.out _ (hdx3.out.below hb34 hdx3.out.lt) (hdy3.out.below hb34 hdy3.out.lt)) ?_); rintro e w5 ⟨g2, k2, z2, rfl, hd2, hk2, hg2, hb5⟩; have hb35 := hb34.trans (hb5.mono hb34.size); obtain ⟨c0'', c1'', cf''⟩ := h3A.below hb35 (by omega); obtain ⟨d0'', d1'', df''⟩ := h3B.below hb35 (by omega))))
    go_wp2_with fail
    go_ret2
    have h5 := HT.out.prog
    have h6 : B ≠ 0 ∧ X1 ≤ y ∧ Y1 < X1 := by
      rcases h5 with h5 | h5
      · exact absurd h5.2.1 hB0
      · exact h5
    exact ⟨X1, Y1, g1, k1, g2, k2, List.replicate z1 0, List.replicate z2 0, rfl, hd1.below hb5 hd1.lt, hd2, hk1, hk2, HT.out.gcd, HT.out.le, by omega, h6.2.1, by have := hd1.lt; omega, .inr (Nat.le_trans hB3.size hg1), Nat.le_trans (Nat.le_trans hB3.size hb34.size) hg2, hB3.trans (hb35.mono hB3.size)⟩
end Go.Proofs.YtecdnohhengfaaaGreatDoor

/-
  Layer 1, walks S: gcdOfDigits, Gcd.
-/
namespace Go.Proofs.YtecdnohhengfaaaGreatDoor
open Go.RowKit
attribute [local irreducible] lo hs sm s64 c64 d64 b64 mh ml pd pc qd qc val hiB str cmpI srD lz

set_option maxHeartbeats 2000000 in
set_option maxRecDepth 100000 in
theorem gcdDigits_any (a b : Nat) (ha : a < Bs) (hb : b < Bs) (w : World) :
    Calls Tryz.prog 152 #[.int .u64 (a : Int), .int .u64 (b : Int)] w fun e w' =>
      e = .returned (.int .u64 ((Nat.gcd a b : Nat) : Int)) ∧ Below w.heap.size w w' := by
  go_enter Tryz.func152, Tryz.ntmps152
  go_wp2
  go_loopw [0, 1] (fun z0 z1 wr => ∃ x y : Nat, z0 = .int .u64 x ∧ z1 = .int .u64 y ∧ x < Bs ∧ y < Bs ∧ Nat.gcd x y = Nat.gcd a b ∧ Below w.heap.size w wr) (fun _ z1 _ => (intOf z1).toNat)
  case atStart => exact ⟨a, b, rfl, rfl, ha, hb, rfl, Below.refl _ _⟩
  case round =>
    obtain ⟨x, y, rfl, rfl, hx, hy, hg, hbw⟩ := hrel
    by_cases hy0 : y = 0
    · subst hy0
      rw [Nat.gcd_zero_right] at hg
      subst hg
      clear hx hy ha hb
      go_wp2
      go_ret
      exact ⟨rfl, hbw⟩
    · have h1 : ((y : Int) != 0) = true := bne_iff_ne.2 (by omega)
      have htm : (x : Int).tmod (y : Int) = ((x % y : Nat) : Int) := by rw [Int.tmod_eq_emod_of_nonneg (by omega), Int.natCast_emod]
      have hlt : x % y < y := Nat.mod_lt _ (by omega)
      have hgc : Nat.gcd y (x % y) = Nat.gcd a b := by rw [← hg, Nat.gcd_comm y, ← Nat.gcd_rec, Nat.gcd_comm]
      generalize hm : x % y = m at *
      have hwm : IntKind.u64.wrap (m : Int) = (m : Int) := wrapN _ (by unfold Bs at hy; omega)
      have HL := Lib.hid hlt
      have HY := Lib.hid hy
      clear hlt hx hg ha hb hm hy
      go_wp2
      go_region
      all_goals go_wp2
      all_goals go_roundw
      case rel => exact ⟨y, m, rfl, rfl, HY.out, Nat.lt_trans HL.out HY.out, hgc, hbw.drew⟩
      case measure => have := HL.out; simp [intOf]; omega

/-- The number that a slice's cells hold. -/
def rdv (z : Value) (w : World) : Nat := match z with
  | .slice (some ⟨g, _, _⟩) n _ => val ((List.range n).map fun i => match w.cell? ⟨g, i, none⟩ with | some (.int _ d) => d.toNat | _ => 0)
  | _ => 0
theorem rdv_eq {w : World} {g c y : Nat} {Z : List Nat} (h : DB w g (digs y ++ Z)) : rdv (.slice (some ⟨g, 0, none⟩) (digs y).length c) w = y := by
  unfold rdv
  simp only
  rw [show (List.range (digs y).length).map (fun i => match w.cell? ⟨g, i, none⟩ with | some (.int _ d) => d.toNat | _ => 0) = digs y from ?_, val_digs]
  apply List.ext_getElem (by simp)
  intro i h1 h2
  have h3 := h.rdl i h2
  rw [Nat.zero_add] at h3
  simp [h3]

/-- Gcd's three boxes. -/
structure B3 (w : World) (k : Nat) (a b : Nat) : Prop where
  A : Bx w k (.int .u64 ((lo a : Nat) : Int)) (.string (hs a))
  B : Bx w (k + 1) (.int .u64 ((lo b : Nat) : Int)) (.string (hs b))
  C : Bx w (k + 2) (.int .u64 0) (.string ⟨#[]⟩)
  sz : k + 3 ≤ w.heap.size
theorem B3.below {w w' : World} {k a b : Nat} (h : B3 w k a b) (hb : Below w.heap.size w w') : B3 w' k a b :=
  ⟨h.A.below hb (by have := h.sz; omega), h.B.below hb (by have := h.sz; omega), h.C.below hb (by have := h.sz; omega), Nat.le_trans h.sz hb.size⟩
theorem B3.step {w0 w1 w2 : World} {k a b : Nat} (h0 : Below k w0 w1) (h : B3 w1 k a b) (hb : Below w1.heap.size w1 w2) : Below k w0 w2 := h0.trans (hb.mono (by have := h.sz; omega))
theorem boxes3 (w : World) (A1 A2 B1 B2 C1 C2 : Value) (t : TypeId) : ∃ w0, (((w.alloc (.cells #[A1, A2] t)).alloc (.cells #[B1, B2] t)).alloc (.cells #[C1, C2] t)) = w0 ∧
    Bx w0 w.heap.size A1 A2 ∧ Bx w0 (w.heap.size + 1) B1 B2 ∧ Bx w0 (w.heap.size + 2) C1 C2 ∧ Below w.heap.size w w0 ∧ w.heap.size + 3 ≤ w0.heap.size :=
  ⟨_, rfl, Bx.of _ _ _ _ _ (al3_1 w _ _ _), Bx.of _ _ _ _ _ (al3_2 w _ _ _), Bx.of _ _ _ _ _ (al3 w _ _ _), below3 w _ _ _, by simp⟩
theorem B3.swap {w : World} {k a b : Nat} (h : B3 w k a b) (h' : ((((w.setCell ⟨k, 0, none⟩ (.int .u64 ((lo b : Nat) : Int))).setCell ⟨k, 1, none⟩ (.string (hs b))).setCell ⟨k + 1, 0, none⟩ (.int .u64 ((lo a : Nat) : Int))).setCell ⟨k + 1, 1, none⟩ (.string (hs a))).heap.size = w.heap.size) :
    B3 ((((w.setCell ⟨k, 0, none⟩ (.int .u64 ((lo b : Nat) : Int))).setCell ⟨k, 1, none⟩ (.string (hs b))).setCell ⟨k + 1, 0, none⟩ (.int .u64 ((lo a : Nat) : Int))).setCell ⟨k + 1, 1, none⟩ (.string (hs a))) k b a := by
  have hp := put4 h.A h.B (.int .u64 ((lo b : Nat) : Int)) (.string (hs b)) (.int .u64 ((lo a : Nat) : Int)) (.string (hs a))
  refine ⟨hp.1, hp.2, ?_, by rw [h']; exact h.sz⟩
  obtain ⟨c0, c1, cf⟩ := h.C
  refine ⟨?_, ?_, fun j => ?_⟩ <;> simp [go_sem, c0, c1, cf]

set_option maxHeartbeats 2000000 in
set_option maxRecDepth 100000 in
theorem gcd_any (a b : Nat) (ha : (digs a).length ≤ 1000000000000) (hb : (digs b).length ≤ 1000000000000) (w : World) :
    Calls Tryz.prog 87 #[natV a, natV b] w fun e w' => e = .returned (natV (Nat.gcd a b)) ∧ Below w.heap.size w w' := by
  obtain ⟨w0, hw0, hA, hB, hC, hbw, hsz⟩ := boxes3 w (.int .u64 ((lo a : Nat) : Int)) (.string (hs a)) (.int .u64 ((lo b : Nat) : Int)) (.string (hs b)) (.int .u64 0) (.string ⟨#[]⟩) 32
  have H0 : B3 w0 w.heap.size a b := ⟨hA, hB, hC, hsz⟩
  clear hA hB hC hsz
  have HC := Lib.hid (fun w => cmp_any a b w)
  obtain ⟨⟨a0, a1, af⟩, ⟨b0, b1, bf⟩, -⟩ := id H0
  go_enter Tryz.func87, Tryz.ntmps87
  go_wp2_with fail
  refine (HC.out _).mono ?_
  rintro e w1 ⟨rfl, hb1⟩
  have H1 := H0.below hb1
  have hB1 := H0.step hbw hb1
  clear a0 a1 af b0 b1 bf HC H0 hb1 hbw hw0
  go_upto_if 10 with fail
  go_cut [] from 11 to 12 (fun wx => ∃ x y : Nat, ((x = a ∧ y = b) ∨ (x = b ∧ y = a)) ∧ y ≤ x ∧ B3 wx w.heap.size x y ∧ Below w.heap.size w wx)
  case first =>
    obtain ⟨⟨a0, a1, af⟩, ⟨b0, b1, bf⟩, -⟩ := id H1
    rcases Nat.lt_or_ge a b with hab | hab
    · have hcm : cmpI a b < 0 := by rw [cmpI_lt hab]; decide
      go_wp2_with fail
      go_meet
      exact ⟨b, a, .inr ⟨rfl, rfl⟩, Nat.le_of_lt hab, H1.swap (by simp), (((hB1.setCell (by simp) _).setCell (by simp) _).setCell (by simp) _).setCell (by simp) _⟩
    · have hcm : ¬ cmpI a b < 0 := of_decide_eq_false (cmpI_ge hab)
      go_wp2_with fail
      go_meet
      exact ⟨a, b, .inl ⟨rfl, rfl⟩, hab, H1, hB1⟩
  case rest =>
    clear H1 hB1
    obtain ⟨x, y, hxy, hyx, H1, hB1⟩ := hcut
    have hlx : (digs x).length ≤ 1000000000000 := by rcases hxy with ⟨rfl, rfl⟩ | ⟨rfl, rfl⟩ <;> assumption
    have hg : Nat.gcd x y = Nat.gcd a b := by
      rcases hxy with ⟨rfl, rfl⟩ | ⟨rfl, rfl⟩
      · rfl
      · exact Nat.gcd_comm _ _
    have HGC := Lib.hid (congrArg (fun n => Ending.returned (natV n)) hg)
    clear ha hb hg hxy
    have HS := Lib.hid (fun w => small_any x w)
    obtain ⟨⟨a0, a1, af⟩, ⟨b0, b1, bf⟩, -⟩ := id H1
    by_cases hsx : x < Bs
    · have hs1 : sm x = true := by unfold sm; exact decide_eq_true hsx
      have hsy : y < Bs := Nat.lt_of_le_of_lt hyx hsx
      have hgB : Nat.gcd x y < Bs := by
        rcases Nat.eq_zero_or_pos y with h | h
        · rw [h, Nat.gcd_zero_right]; exact hsx
        · exact Nat.lt_of_le_of_lt (Nat.gcd_le_right x h) hsy
      go_wp2_with fail
      refine (HS.out _).mono ?_
      rintro e w2 ⟨rfl, hb2⟩
      have H2 := H1.below hb2
      have hB2 := H1.step hB1 hb2
      have HG := gcdDigits_any x y hsx hsy
      have HO := of_any (Nat.gcd x y) hgB
      replace HG := Lib.hid HG
      replace HO := Lib.hid HO
      clear a0 a1 af b0 b1 bf HS H1 hb2 hB1
      obtain ⟨⟨a0, a1, af⟩, ⟨b0, b1, bf⟩, -⟩ := id H2
      rw [lo_small hsx] at a0
      rw [lo_small hsy] at b0
      clear hsx hsy hgB
      go_wp2_with fail
      refine (HG.out _).mono ?_
      rintro e w3 ⟨rfl, hb3⟩
      have H3 := H2.below hb3
      have hB3 := H2.step hB2 hb3
      clear a0 a1 af b0 b1 bf HG H2 hb3 hB2
      go_wp2_with fail
      refine (HO.out _).mono ?_
      rintro e w4 ⟨rfl, hb4⟩
      have H4 := H3.below hb4
      have hB4 := H3.step hB3 hb4
      obtain ⟨-, -, ⟨c0, c1, cf⟩, hsz⟩ := id H4
      clear HO H3 hb4 hB3
      go_wp2_with fail
      exact bodyPost_ret (v := natV (Nat.gcd x y)) (by simp [results, Tryz.results87, go_sem, c0, c1]) rfl ⟨HGC.out, (hB4.setCell (by simp <;> omega) _).setCell (by simp <;> omega) _⟩
    · have hs1 : sm x = false := by unfold sm; exact decide_eq_false hsx
      go_wp2_with fail
      refine (HS.out _).mono ?_
      rintro e w2 ⟨rfl, hb2⟩
      have H2 := H1.below hb2
      have hB2 := H1.step hB1 hb2
      clear a0 a1 af b0 b1 bf HS H1 hb2 hB1
      obtain ⟨⟨a0, a1, af⟩, ⟨b0, b1, bf⟩, -⟩ := id H2
      go_wp2_with fail
      have HDa := Lib.hid (fun w => digits_any x (by omega) w)
      have HDb := Lib.hid (fun w => digits_any y (by have := digs_mono hyx; omega) w)
      go_region_held3 (fun w' => w'.cell? ⟨w.heap.size, 0, none⟩ = some (.int .u64 ((lo x : Nat) : Int)) ∧ w'.cell? ⟨w.heap.size, 1, none⟩ = some (.string (hs x)) ∧ w'.cell? ⟨w.heap.size + 1, 0, none⟩ = some (.int .u64 ((lo y : Nat) : Int)) ∧ w'.cell? ⟨w.heap.size + 1, 1, none⟩ = some (.string (hs y)))
        (first | with_reducible exact ⟨a0, a1, b0, b1⟩ | with_reducible exact ⟨a0', a1', b0', b1'⟩ | with_reducible exact ⟨a0'', a1'', b0'', b1''⟩ | exact ⟨a0, a1, b0, b1⟩)
        (first
          | (go_at_call 131; ((with_reducible refine Calls.mono (HDa.out _) ?_); rintro e w3 ⟨gx, cx, zx, rfl, hcx, hgx, hdx, hb3⟩; have H3 := H2.below ((Below.refl w2.heap.size w2).drew.trans hb3); obtain ⟨⟨a0', a1', af'⟩, ⟨b0', b1', bf'⟩, -⟩ := id H3))
          | (go_at_call 131; ((with_reducible refine Calls.mono (HDb.out _) ?_); rintro e w4 ⟨gy, cy, zy, rfl, hcy, hgy, hdy, hb4⟩; have H4 := H3.below hb4; obtain ⟨⟨a0'', a1'', af''⟩, ⟨b0'', b1'', bf''⟩, -⟩ := id H4)))
      have hB4 := H3.step (H2.step hB2 ((Below.refl w2.heap.size w2).drew.trans hb3)) hb4
      have hdx4 := hdx.below hb4 hdx.lt
      have hne : gx ≠ gy := by have := hdx.lt; omega
      have hsz4 := H2.sz
      have hsz5 := H3.sz
      clear a0 a1 af b0 b1 bf a0' a1' af' b0' b1' bf' a0'' a1'' af'' b0'' b1'' bf'' HDa HDb H2 H3 hB2 hb3 hb4 hdx
      go_wp2_with fail
      go_loopw [5, 6] (fun z5 z6 wr => ∃ (x' y' gX cX gY cY : Nat) (ZX ZY : List Nat), z5 = .slice (some ⟨gX, 0, none⟩) (digs x').length cX ∧ z6 = .slice (some ⟨gY, 0, none⟩) (digs y').length cY ∧
        DB wr gX (digs x' ++ ZX) ∧ DB wr gY (digs y' ++ ZY) ∧ (digs x').length ≤ cX ∧ (digs y').length ≤ cY ∧ Nat.gcd x' y' = Nat.gcd x y ∧ y' ≤ x' ∧ (digs x').length ≤ 1000000000000 ∧ gX ≠ gY ∧ w.heap.size + 3 ≤ gX ∧ w.heap.size + 3 ≤ gY ∧ B3 wr w.heap.size x y ∧ Below w.heap.size w wr) (fun _ z6 wr => rdv z6 wr)
      case atStart => exact ⟨x, y, gx, cx, gy, cy, _, _, rfl, rfl, hdx4, hdy, hcx, hcy, rfl, hyx, hlx, hne, by have := hsz4; simp at hgx; omega, by omega, H4, hB4⟩
      case round =>
        obtain ⟨x', y', gX, cX, gY, cY, ZX, ZY, rfl, rfl, hX, hY, hcX, hcY, hg, hle, hl, hne', hgX, hgY, H5, hB5⟩ := hrel
        clear hdx4 hdy hcx hcy hne H4 hB4 hgx hgy hsz4 hsz5 hlx hyx
        obtain ⟨m, hm⟩ : ∃ m, (digs y').length = m := ⟨_, rfl⟩
        obtain ⟨n, hn⟩ : ∃ n, (digs x').length = n := ⟨_, rfl⟩
        have hmv := rdv_eq (c := cY) hY
        rw [hm] at hmv hcY ⊢
        rw [hn] at hcX hl ⊢
        rcases Nat.lt_or_ge 1 m with hm1 | hm1
        · have HD := Lib.hid (descend_any gX gY cX cY x' y' n m ZX ZY hn hm hl hm1 hle hcY wr hX hY)
          go_wp2_with fail
          refine (HD.out).mono ?_
          rintro e w6 ⟨x2, y2, gX2, cX2, gY2, cY2, ZX2, ZY2, rfl, r1, r2, r3, r4, r5, r6, r7, r8, r9, r10, r11, hb6⟩
          have H6 := H5.below hb6
          have hB6 := H5.step hB5 hb6
          have hl2 : (digs x2).length ≤ 1000000000000 := Nat.le_trans (digs_mono (Nat.le_trans r8 hle)) (by omega)
          have hsz5 := H5.sz
          go_wp2_with fail
          go_roundw
          case rel => exact ⟨x2, y2, gX2, cX2, gY2, cY2, ZX2, ZY2, rfl, rfl, r1, r2, r3, r4, r5.trans hg, r6, hl2, r9, by omega, by omega, H6, hB6⟩
          case measure => rw [hmv, rdv_eq r2]; exact r7
        · have hd1 : decide (1 < m) = false := by rw [decide_eq_false_iff_not]; omega
          rcases Nat.eq_zero_or_pos m with hm0 | hm0
          · subst hm0
            have hy0 : y' = 0 := digs_eq_nil.1 (List.length_eq_zero_iff.1 hm)
            have HP := Lib.hid (packQ gX cX n x' (digs x') ZX hn (digs_dig x') (val_digs x') (by omega) hcX wr hX)
            have hgx : x' = Nat.gcd x y := by rw [← hg, hy0, Nat.gcd_zero_right]
            have HE := Lib.hid ((congrArg (fun n => Ending.returned (natV n)) hgx).trans HGC.out)
            clear hmv hm hn hX hY hg hgx hle hl hy0
            go_wp2_with fail
            refine (HP.out).mono ?_
            rintro e w6 ⟨rfl, hb6⟩
            have H6 := H5.below hb6
            have hB6 := H5.step hB5 hb6
            obtain ⟨-, -, ⟨c0, c1, cf⟩, hsz⟩ := id H6
            go_wp2_with fail
            exact bodyPost_ret (v := natV x') (by simp [results, Tryz.results87, go_sem, c0, c1]) rfl ⟨HE.out, (hB6.setCell (by simp <;> omega) _).setCell (by simp <;> omega) _⟩
          · have hm2 : m = 1 := by omega
            subst hm2
            have hyB : y' < Bs := by have := digs_length_iff.1 (show (digs y').length ≤ 1 by omega); rwa [Nat.pow_one] at this
            have hy0 : 0 < y' := by
              rcases Nat.eq_zero_or_pos y' with h | h
              · rw [h, digs_zero] at hm; simp at hm
              · exact h
            have hdy : digs y' = [y'] := by rw [digs_pos (by omega), Nat.mod_eq_of_lt hyB, Nat.div_eq_of_lt hyB, digs_zero]
            have hcell := hY.cell 0 (by rw [hdy]; simp)
            simp only [hdy, List.cons_append, List.getElem_cons_zero] at hcell
            have HDD := fun w h => divD gX cX x' y' ZX hy0 hyB (by omega) w h
            rw [hn] at HDD
            have HGG := fun w => gcdDigits_any y' (x' % y') hyB (Nat.lt_trans (Nat.mod_lt _ hy0) hyB) w
            have hgg : Nat.gcd y' (x' % y') = Nat.gcd x y := by rw [← hg, Nat.gcd_comm y', ← Nat.gcd_rec, Nat.gcd_comm]
            have HO := fun w => of_any (Nat.gcd y' (x' % y')) (Nat.lt_of_le_of_lt (Nat.gcd_le_left _ hy0) hyB) w
            have HE := Lib.hid ((congrArg (fun n => Ending.returned (natV n)) hgg).trans HGC.out)
            generalize Nat.gcd y' (x' % y') = g at *
            generalize x' % y' = r at *
            replace HDD := Lib.hid HDD
            replace HGG := Lib.hid HGG
            replace HO := Lib.hid HO
            have hsz5 := H5.sz
            clear hmv hm hn hg hgg hle hl hyB hy0 hdy
            go_wp2_with fail
            go_region_held3 (fun w' => w'.cell? ⟨gY, 0, none⟩ = some (.int .u64 (y' : Int)))
              (first | with_reducible exact hcell | with_reducible exact hc2 | with_reducible exact hc3 | with_reducible exact hc4 | (simp [go_sem, hc4]; done) | (simp [go_sem, hcell]; done))
              (first
                | (go_at_call 133; ((with_reducible refine Calls.mono (HDD.out _ (hX.keep rfl)) ?_); rintro e w6 ⟨rfl, Q, hQ1, hQ2, hQ3, hdq, hg6⟩; have hb6 := (Below.refl (w.heap.size + 3) wr).drew.trans (grown_below hg6 hgX hsz5); have hc2 := (grown_cell (i := 0) hg6 (Ne.symm hne') hY.lt).trans hcell))
                | (go_at_call 152; ((with_reducible refine Calls.mono (HGG.out _) ?_); rintro e w7 ⟨rfl, hb7⟩; have hc3 := (hb7.cell (p := ⟨gY, 0, none⟩) (Nat.lt_of_lt_of_le hY.lt hb6.size)).trans hc2; have hb67 := hb6.trans (hb7.mono (Nat.le_trans hsz5 hb6.size))))
                | (go_at_call 88; ((with_reducible refine Calls.mono (HO.out _) ?_); rintro e w8 ⟨rfl, hb8⟩; have hc4 := (hb8.cell (p := ⟨gY, 0, none⟩) (Nat.lt_of_lt_of_le hY.lt hb67.size)).trans hc3; have hb68 := hb67.trans (hb8.mono (Nat.le_trans hsz5 hb67.size)); obtain ⟨c0, c1, cf⟩ := H5.C.below hb68 (by omega))))
            go_wp2_with fail
            have hB8 := hB5.trans (hb68.mono (by omega))
            exact bodyPost_ret (v := natV g) (by simp [results, Tryz.results87, go_sem, c0, c1]) rfl ⟨HE.out, (hB8.setCell (by simp <;> omega) _).setCell (by simp <;> omega) _⟩
end Go.Proofs.YtecdnohhengfaaaGreatDoor

/-
  Layer 1, walks T: Bits, powerOfTwo, halfOfSum, Sqrt.
-/
namespace Go.Proofs.YtecdnohhengfaaaGreatDoor
open Go.RowKit
attribute [local irreducible] lo hs sm s64 c64 d64 b64 mh ml pd pc qd qc val hiB str cmpI srD lz

/-- The number of binary digits. -/
def nb (n : Nat) : Nat := if n = 0 then 0 else n.log2 + 1
theorem nb_zero : nb 0 = 0 := rfl
theorem nb_of {n k : Nat} (h1 : 2 ^ k ≤ n) (h2 : n < 2 ^ (k + 1)) : nb n = k + 1 := by
  have h0 : n ≠ 0 := by intro h; rw [h] at h1; have := Nat.pow_pos (n := k) (show 0 < 2 by omega); omega
  unfold nb
  rw [if_neg h0, (Nat.log2_eq_iff h0).2 ⟨h1, h2⟩]
theorem nb_spec {n : Nat} (h : n ≠ 0) : ∃ k, nb n = k + 1 ∧ 2 ^ k ≤ n ∧ n < 2 ^ (k + 1) :=
  ⟨n.log2, by unfold nb; rw [if_neg h], Nat.log2_self_le h, Nat.lt_log2_self⟩
theorem nb_lt (n : Nat) : n < 2 ^ nb n := by
  by_cases h : n = 0
  · subst h; decide
  · obtain ⟨k, e, _, h2⟩ := nb_spec h
    rw [e]; exact h2
theorem nb_bl {x : Nat} (h : x < Bs) : Lib.bitLen x = nb x := by
  by_cases h0 : x = 0
  · subst h0; decide
  · obtain ⟨k, e, h1, h2⟩ := bl_spec x h0 (by rw [← Bs_pow]; exact h)
    rw [e, nb_of h1 h2]
theorem nb_top {n L t : Nat} (ht : t ≠ 0) (h1 : t * Bs ^ L ≤ n) (h2 : n < (t + 1) * Bs ^ L) : nb n = L * 64 + nb t := by
  obtain ⟨k, e, k1, k2⟩ := nb_spec ht
  have hp : Bs ^ L = 2 ^ (L * 64) := by rw [Bs_pow, ← Nat.pow_mul, Nat.mul_comm]
  rw [hp] at h1 h2
  rw [e, ← Nat.add_assoc]
  apply nb_of
  · rw [Nat.add_comm, Nat.pow_add]; exact Nat.le_trans (Nat.mul_le_mul_right _ k1) h1
  · rw [show L * 64 + k + 1 = (k + 1) + L * 64 by omega, Nat.pow_add]
    exact Nat.lt_of_lt_of_le h2 (Nat.mul_le_mul_right _ k2)
theorem nb_high (n L : Nat) (hL : (digs (n / Bs)).length = L + 1) : nb n = (L + 1) * 64 + nb ((digs (n / Bs))[L]'(by omega)) := by
  have hm := val_digs (n / Bs)
  rw [← List.take_of_length_le (Nat.le_of_eq hL), take_snoc _ L (by omega)] at hm
  have h0 : digs (n / Bs) ≠ [] := by intro h; rw [h] at hL; simp at hL
  have ht : (digs (n / Bs))[L]'(by omega) ≠ 0 := by
    have := top_digs (n / Bs) h0
    rw [List.getLast_eq_getElem] at this
    simpa [hL] using this
  have hv := val_lt ((digs_dig (n / Bs)).take L)
  rw [List.length_take, Nat.min_eq_left (by omega)] at hv
  generalize (digs (n / Bs))[L]'(by omega) = t at *
  generalize val ((digs (n / Bs)).take L) = v at *
  have hn := Nat.div_add_mod n Bs
  have hlt : n % Bs < Bs := Nat.mod_lt _ Bs_pos
  rw [← hm] at hn
  have e1 : Bs * (v + Bs ^ L * t) = Bs * v + t * Bs ^ (L + 1) := by rw [Nat.mul_add, Nat.pow_succ]; congr 1; rw [← Nat.mul_assoc, Nat.mul_comm, Nat.mul_comm Bs]
  have e2 : Bs * v + Bs ≤ Bs ^ (L + 1) := by
    rw [← Nat.mul_succ, Nat.pow_succ, Nat.mul_comm]; exact Nat.mul_le_mul_right _ hv
  rw [e1] at hn
  apply nb_top ht
  · omega
  · rw [Nat.add_mul, Nat.one_mul]; omega
theorem len64 (x : Nat) (h : x < Bs) (w : World) : Calls Tryz.prog 181 #[.int .u64 (x : Int)] w fun e w' => e = .returned (.int .i64 ((nb x : Nat) : Int)) ∧ w = w' := by
  refine (Tryz.bits_Len64 (x : Int) w (by omega) (by unfold Bs at h; omega)).mono fun e w' ⟨he, hw⟩ => ⟨?_, hw.symm⟩
  rw [he, Int.toNat_natCast, nb_bl h]
theorem lenU (x : Nat) (h : x < Bs) (w : World) : Calls Tryz.prog 183 #[.int .u64 (x : Int)] w fun e w' => e = .returned (.int .i64 ((nb x : Nat) : Int)) ∧ w = w' := by
  refine (Tryz.bits_Len (x : Int) w (by omega) (by unfold Bs at h; omega)).mono fun e w' ⟨he, hw⟩ => ⟨?_, hw.symm⟩
  rw [he, Int.toNat_natCast, nb_bl h]
theorem nb_le64 {x : Nat} (h : x < Bs) : nb x ≤ 64 := by
  rw [← nb_bl h]; exact bl_le x (by rw [← Bs_pow]; exact h)

attribute [local irreducible] nb
set_option maxHeartbeats 2000000 in
set_option maxRecDepth 100000 in
theorem bits_any (n : Nat) (hn : (digs n).length ≤ 1099511627776) (w : World) :
    Calls Tryz.prog 118 #[natV n] w fun e w' => e = .returned (.int .i64 ((nb n : Nat) : Int)) ∧ Below w.heap.size w w' := by
  obtain ⟨w0, hw0, hA, hbw, hsz⟩ := boxes1 w (.int .u64 ((lo n : Nat) : Int)) (.string (hs n)) 32
  have HS := Lib.hid (fun w => small_any n w)
  obtain ⟨a0, a1, af⟩ := id hA
  by_cases hb : n < Bs
  · have hs1 : sm n = true := by unfold sm; exact decide_eq_true hb
    have HL := Lib.hid (fun w => len64 n hb w)
    have hlo := Lib.hid (lo_small hb)
    clear hb
    go_enter Tryz.func118, Tryz.ntmps118
    go_wp2_with fail
    refine (HS.out _).mono ?_
    rintro e w1 ⟨rfl, hb1⟩
    obtain ⟨c0, c1, cf⟩ := hA.below hb1 hsz
    rw [hlo.out] at c0
    clear hlo a0 a1 af
    go_wp2_with fail
    refine (HL.out _).mono ?_
    rintro e w2 ⟨rfl, rfl⟩
    go_wp2_with fail
    go_ret
    exact ⟨rfl, hbw.trans (hb1.mono hbw.size)⟩
  · have hs1 : sm n = false := by unfold sm; exact decide_eq_false hb
    obtain ⟨L, hL⟩ : ∃ L, (digs (n / Bs)).length = L + 1 := by
      have : digs (n / Bs) ≠ [] := by
        intro h
        have := digs_eq_nil.1 h
        rw [Nat.div_eq_zero_iff] at this
        rcases this with h | h
        · unfold Bs at h; omega
        · exact hb h
      exact ⟨(digs (n / Bs)).length - 1, by have := List.length_pos_iff.2 this; omega⟩
    have hLb : L + 1 ≤ 1099511627776 := by rw [← hL]; exact Nat.le_trans (digs_mono (Nat.div_le_self n Bs)) hn
    have hnb := nb_high n L hL
    have htB : (digs (n / Bs))[L]'(by omega) < Bs := (digs_dig _).get L (by omega)
    have hsize : (hs n).size = 8 * (L + 1) := by rw [hs_size, hL]
    have HD := fun w => digitAt_any (hs n) 0 (by omega) (by rw [hsize]; unfold maxLen; omega) w
    rw [hs_piece n 0 (by omega)] at HD
    have hidx : (digs (n / Bs)).length - 1 - 0 = L := by omega
    simp only [hidx] at HD
    rw [hnb]
    generalize (digs (n / Bs))[L]'(by omega) = t at *
    have HL : Hid (∀ w, Calls Tryz.prog 181 #[.int .u64 (t : Int)] w fun e w' => e = .returned (.int .i64 ((nb t : Nat) : Int)) ∧ w' = w) := Lib.hid (fun w => (len64 t htB w).mono fun _ _ h => ⟨h.1, h.2.symm⟩)
    have ht64 := nb_le64 htB
    have HD : Hid (∀ w, Calls Tryz.prog 182 #[.string (hs n), .int .i64 0] w fun e w' => e = .returned (.int .u64 (t : Int)) ∧ ∃ n, w' = w.drewN n) := Lib.hid HD
    clear hnb htB hidx hL hb hn
    obtain ⟨K, hK⟩ : ∃ K, K = L + 1 := ⟨_, rfl⟩
    rw [← hK] at hsize hLb ⊢
    have hdv : ((8 * K : Nat) : Int) / 8 = (K : Int) := by omega
    go_enter Tryz.func118, Tryz.ntmps118
    go_wp2_with fail
    refine (HS.out _).mono ?_
    rintro e w1 ⟨rfl, hb1⟩
    obtain ⟨c0, c1, cf⟩ := hA.below hb1 hsz
    clear a0 a1 af
    go_wp2_with fail
    go_quiet (first | (go_at_call 182; exact Calls.quiet_of (HD.out _)) | (go_at_call 181; exact Calls.quiet_of_same (HL.out _)))
    go_wp2
    go_ret
    refine ⟨congrArg (fun k : Int => Ending.returned (.int .i64 k)) ?_, bdrew (hbw.trans (hb1.mono hbw.size)) nq⟩
    rw [hK]; omega

theorem digs_add_le {a b k : Nat} (ha : (digs a).length ≤ k) (hb : (digs b).length ≤ k) : (digs (a + b)).length ≤ k + 1 := by
  have h1 := digs_length_iff.1 ha
  have h2 := digs_length_iff.1 hb
  refine digs_length_iff.2 ?_
  rw [Nat.pow_succ]
  have h3 : Bs ^ k * 2 ≤ Bs ^ k * Bs := Nat.mul_le_mul_left _ Bs_gt
  omega
end Go.Proofs.YtecdnohhengfaaaGreatDoor

/-
  Layer 1, walks U: Sqrt, Pow.
-/
namespace Go.Proofs.YtecdnohhengfaaaGreatDoor
open Go.RowKit
attribute [local irreducible] lo hs sm s64 c64 d64 b64 mh ml pd pc qd qc val hiB str cmpI srD lz nb isq

theorem eq_zero {b : Nat} (hb : 0 < b) : ((((lo b : Nat) : Int) == ((lo 0 : Nat) : Int)) = false) ∨ ((((lo b : Nat) : Int) == ((lo 0 : Nat) : Int)) = true ∧ ((hs b).toList == (hs 0).toList) = false) := by
  by_cases h : lo b = lo 0
  · right
    refine ⟨by rw [h]; simp, ?_⟩
    rw [hs_eq, decide_eq_false]
    intro h2
    have h3 : b % Bs = 0 % Bs := by have h4 := h; unfold lo at h4; exact h4
    have := Nat.div_add_mod b Bs
    rw [h2, h3] at this
    simp at this; omega
  · left
    rw [beq_eq_false_iff_ne]; omega
theorem nb_len {a k : Nat} (h : (digs a).length ≤ k) : nb a ≤ 64 * k := by
  by_cases h0 : a = 0
  · subst h0; rw [nb_zero]; omega
  · obtain ⟨j, e, h1, h2⟩ := nb_spec h0
    rw [e]
    have h3 := digs_length_iff.1 h
    rw [Bs_pow, ← Nat.pow_mul] at h3
    have := (Nat.pow_lt_pow_iff_right (show 1 < 2 by omega)).1 (Nat.lt_of_le_of_lt h1 h3)
    omega

theorem put2 {w : World} {k : Nat} {x y : Value} (hA : Bx w k x y) (x' y' : Value) : Bx ((w.setCell ⟨k, 0, none⟩ x').setCell ⟨k, 1, none⟩ y') k x' y' := by
  obtain ⟨a0, a1, af⟩ := hA
  refine ⟨?_, ?_, fun j => ?_⟩ <;> simp [go_sem, a0, a1, af]
/-- Sqrt's two boxes. -/
structure B2 (w : World) (k : Nat) (a : Nat) : Prop where
  A : Bx w k (.int .u64 ((lo a : Nat) : Int)) (.string (hs a))
  C : Bx w (k + 1) (.int .u64 0) (.string ⟨#[]⟩)
  sz : k + 2 ≤ w.heap.size
theorem B2.below {w w' : World} {k a : Nat} (h : B2 w k a) (hb : Below w.heap.size w w') : B2 w' k a :=
  ⟨h.A.below hb (by have := h.sz; omega), h.C.below hb (by have := h.sz; omega), Nat.le_trans h.sz hb.size⟩
theorem B2.belowN {w w' : World} {k a : Nat} (h : B2 w k a) (hb : Below (k + 2) w w') : B2 w' k a :=
  ⟨h.A.below hb (by omega), h.C.below hb (by omega), Nat.le_trans h.sz hb.size⟩
theorem B2.step {w0 w1 w2 : World} {k a : Nat} (h0 : Below k w0 w1) (h : B2 w1 k a) (hb : Below w1.heap.size w1 w2) : Below k w0 w2 := h0.trans (hb.mono (by have := h.sz; omega))

end Go.Proofs.YtecdnohhengfaaaGreatDoor

/-
  Layer 1, walks V: Pow.
-/
namespace Go.Proofs.YtecdnohhengfaaaGreatDoor
open Go.RowKit
attribute [local irreducible] lo hs sm s64 c64 d64 b64 mh ml pd pc qd qc val hiB str cmpI srD lz nb isq

/-- What Pow's second test asks. -/
def great (a n : Nat) : Bool := decide (4096 < n) || (decide (0 < n) && decide (262144 / n < nb a))
theorem pow_len {a n k : Nat} (hk : k ≤ n) (hg : n = 0 ∨ nb a ≤ 262144 / n) : (digs (a ^ k)).length ≤ 4097 := by
  obtain ⟨N, hN⟩ : ∃ N, N = 4097 := ⟨_, rfl⟩
  rw [← hN]
  refine digs_length_iff.2 ?_
  rcases hg with h | h
  · have : k = 0 := by omega
    rw [this, Nat.pow_zero]
    exact Nat.one_lt_pow (by omega) Bs_gt
  · have h1 : k * nb a ≤ 262144 := Nat.le_trans (Nat.mul_le_mul hk h) (Nat.mul_div_le 262144 n)
    have h2 : a ^ k ≤ 2 ^ (k * nb a) := by
      rw [Nat.mul_comm, Nat.pow_mul]; exact Nat.pow_le_pow_left (Nat.le_of_lt (nb_lt a)) k
    refine Nat.lt_of_le_of_lt h2 ?_
    rw [Bs_pow, ← Nat.pow_mul]
    exact Nat.pow_lt_pow_right (by omega) (by omega)

theorem digs_mul_le {a b k m : Nat} (ha : (digs a).length ≤ k) (hb : (digs b).length ≤ m) : (digs (a * b)).length ≤ k + m := by
  have h1 := digs_length_iff.1 ha
  have h2 := digs_length_iff.1 hb
  refine digs_length_iff.2 ?_
  rw [Nat.pow_add]
  exact Nat.mul_lt_mul'' h1 h2

theorem i64_and1 (n : Int) : bits .and .i64 n 1 = n % 2 := by
  have h127 : (BitVec.ofInt 64 1).toNat = 2 ^ 1 - 1 := by decide
  have key : (BitVec.ofInt 64 n &&& BitVec.ofInt 64 1).toNat = (n % ((2 ^ 64 : Nat) : Int)).toNat % 2 ^ 1 := by
    rw [BitVec.toNat_and, BitVec.toNat_ofInt, h127, Nat.and_two_pow_sub_one_eq_mod]
  show IntKind.i64.wrap ((BitVec.ofInt 64 n &&& BitVec.ofInt 64 1).toNat : Nat) = n % 2
  rw [key, IntKind.wrap_i64]
  omega

theorem pow_bit (n k : Nat) : bits .and .i64 ((n : Int) / 2 ^ k) 1 = ((n / 2 ^ k % 2 : Nat) : Int) := by
  rw [i64_and1]
  have h : ((n : Int) / 2 ^ k) = ((n / 2 ^ k : Nat) : Int) := by
    rw [Int.natCast_ediv, Int.natCast_pow]; rfl
  rw [h]
  generalize n / 2 ^ k = x
  omega

theorem pow_half (a n k : Nat) : a ^ (n / 2 ^ k) = a ^ (n / 2 ^ (k + 1)) * a ^ (n / 2 ^ (k + 1)) * a ^ (n / 2 ^ k % 2) := by
  rw [← Nat.pow_add, ← Nat.pow_add, Nat.pow_succ, ← Nat.div_div_eq_div_mul]
  congr 1
  generalize n / 2 ^ k = x
  omega

set_option maxHeartbeats 2000000 in
set_option maxRecDepth 100000 in
theorem pow_ok (a n : Nat) (h : n ≤ 4096) (hg : n = 0 ∨ nb a ≤ 262144 / n) (hla : (digs a).length ≤ 1000000000) (w : World) :
    Calls Tryz.prog 119 #[natV a, .int .i64 (n : Int)] w fun e w' => e = .returned (.tuple #[natV (a ^ n), .int .i64 0]) ∧ Below w.heap.size w w' := by
  obtain ⟨w0, hw0, hA, hB, hbw, hsz⟩ := boxes2 w (.int .u64 ((lo a : Nat) : Int)) (.string (hs a)) (.int .u64 0) (.string ⟨#[]⟩) 32
  obtain ⟨a0, a1, af⟩ := id hA
  have H0 : B2 w0 w.heap.size a := ⟨hA, hB, hsz⟩
  have h1 : decide ((4096 : Int) < (n : Int)) = false := decide_eq_false (by omega)
  have h2 : decide (4096 < n) = false := decide_eq_false (by omega)
  go_enter Tryz.func119, Tryz.ntmps119
  go_upto_region 3 with fail
  go_cut [24] from 12 to 24 (fun z wx => z = .bool false ∧ B2 wx w.heap.size a ∧ Below w.heap.size w wx)
  case first =>
    rcases Nat.eq_zero_or_pos n with h0 | h0
    · subst h0
      have h3 : decide ((0 : Int) < ((0 : Nat) : Int)) = false := rfl
      go_quiet (fail)
      go_wp2_with fail
      go_meet
      exact ⟨rfl, H0.below (bdrew (Below.refl _ _) nq), bdrew hbw nq⟩
    · have hq1 : nb a ≤ 262144 / n := by omega
      obtain ⟨q, hq⟩ : ∃ q, q = 262144 / n := ⟨_, rfl⟩
      have hqb : q ≤ 262144 := by rw [hq]; exact Nat.div_le_self _ _
      have htd : (262144 : Int).tdiv (n : Int) = (q : Int) := by
        rw [Int.tdiv_eq_ediv_of_nonneg (by omega), hq]; rfl
      have hed : (262144 : Int) / (n : Int) = (q : Int) := by rw [hq]; rfl
      have hnb := nb_len hla
      have HBt := Lib.hid (fun w => bits_any a (by omega) w)
      rw [← hq] at hq1
      have HG := Lib.hid hg
      clear hg
      generalize nb a = B at *
      have h3 : decide ((0 : Int) < (n : Int)) = true := decide_eq_true (by omega)
      have h4 : ¬ n = 0 := by omega
      have h5 : decide (q < B) = false := decide_eq_false (by omega)
      have h6 : decide ((q : Int) < (B : Int)) = false := decide_eq_false (by omega)
      have hwq : IntKind.i64.wrap (q : Int) = (q : Int) := IntWalk.i64_in _ (by omega)
      clear hq hnb hla
      go_region_held3 (fun w' => w'.cell? ⟨w.heap.size, 0, none⟩ = some (.int .u64 ((lo a : Nat) : Int)) ∧ w'.cell? ⟨w.heap.size, 1, none⟩ = some (.string (hs a)))
        (first | exact ⟨a0, a1⟩ | exact ⟨a0', a1'⟩)
        (first
          | (go_at_call 118; ((with_reducible refine Calls.mono (HBt.out _) ?_); rintro e w1 ⟨rfl, hb1⟩; obtain ⟨a0', a1', af'⟩ := hA.below ((Below.refl w0.heap.size w0).drew.trans hb1) (by omega))))
      have hb01 := (Below.refl w0.heap.size w0).drew.trans hb1
      go_wp2_with fail
      go_meet
      exact ⟨rfl, H0.below hb01, hbw.trans (hb01.mono (by omega))⟩
  case rest =>
    obtain ⟨rfl, H1, hB1⟩ := hcut
    have HO := Lib.hid (fun w => of_any 1 Bs_gt w)
    have HLn := Lib.hid (fun w => lenU n (by unfold Bs; omega) w)
    have hlen := nb_lt n
    have hlb : nb n ≤ 64 := nb_le64 (by unfold Bs; omega)
    have hwn : IntKind.u64.wrap (n : Int) = (n : Int) := wrapN _ (by omega)
    have HG := Lib.hid hg
    obtain ⟨L, hL⟩ : ∃ L, L = nb n := ⟨_, rfl⟩
    rw [← hL] at HLn hlen hlb
    have hlen := Lib.hid hlen
    clear hg hA hB hbw hsz a0 a1 af H0 hw0 hL
    go_wp2_with fail
    refine (HO.out _).mono ?_
    rintro e w2 ⟨rfl, hb2⟩
    have H2 := H1.below hb2
    have hB2 := H1.step hB1 hb2
    obtain ⟨w3, hw3, hP, hb3, hsz3⟩ := boxes1 w2 (.int .u64 ((lo 1 : Nat) : Int)) (.string (hs 1)) 32
    have H3 := H2.below hb3
    have hB3 := H2.step hB2 hb3
    have hK : w.heap.size + 2 ≤ w2.heap.size := H2.sz
    clear hb2 H1 hB1 HO hb3 H2 hB2
    go_wp2_with fail
    refine (HLn.out _).mono ?_
    rintro e w4 ⟨rfl, rfl⟩
    clear HLn
    go_wp2_with fail
    go_loopw [8, 31] (fun _ z wr => ∃ i : Nat, i ≤ L ∧ z = .int .i64 i ∧ Bx wr w2.heap.size (.int .u64 ((lo (a ^ (n / 2 ^ (L - i))) : Nat) : Int)) (.string (hs (a ^ (n / 2 ^ (L - i))))) ∧ w2.heap.size < wr.heap.size ∧ B2 wr w.heap.size a ∧ Below w.heap.size w wr) (fun _ z _ => L - (intOf z).toNat)
    case atStart => exact ⟨0, Nat.zero_le _, rfl, by rw [Nat.sub_zero, Nat.div_eq_of_lt hlen.out, Nat.pow_zero]; exact hP, hsz3, H3, hB3⟩
    case round =>
      obtain ⟨i, hi, rfl, hP, hs4, H4, hB4⟩ := hrel
      clear hw3 H3 hB3 hsz3
      obtain ⟨p, hp⟩ : ∃ p, p = a ^ (n / 2 ^ (L - i)) := ⟨_, rfl⟩
      rw [← hp] at hP
      rcases Nat.lt_or_eq_of_le hi with hiL | hiL
      · have hlp : (digs p).length ≤ 4097 := by rw [hp]; exact pow_len (Nat.div_le_self _ _) HG.out
        have HM := Lib.hid (fun w => mul_any p p (by omega) (by omega) w)
        obtain ⟨k, hk⟩ : ∃ k : Nat, L = k + 1 + i := ⟨L - 1 - i, by omega⟩
        obtain ⟨f, hf⟩ : ∃ f, f = n / 2 ^ k := ⟨_, rfl⟩
        obtain ⟨s, hs⟩ : ∃ s, s = p * p := ⟨_, rfl⟩
        rw [← hs] at HM
        have HS := Lib.hid hs
        have HF := Lib.hid hf
        have HP := Lib.hid hp
        clear hs hf hp
        obtain ⟨p0, p1, pf⟩ := id hP
        go_wp2_with fail
        refine (HM.out _).mono ?_
        rintro e w5 ⟨rfl, hb5⟩
        have H5 := H4.below hb5
        have hB5 := H4.step hB4 hb5
        obtain ⟨q0, q1, qf⟩ := hP.below hb5 hs4
        clear p0 p1 pf hP HM H4 hB4
        have hkk : (L : Int) - 1 - (i : Int) = (k : Int) := by omega
        have hkL : L - i = k + 1 := by omega
        have hkL' : L - (i + 1) = k := by omega
        have hR5 := (show Bx w5 w2.heap.size _ _ from ⟨q0, q1, qf⟩)
        have hs5 : w2.heap.size < w5.heap.size := Nat.lt_of_lt_of_le hs4 hb5.size
        obtain ⟨w6, hw6⟩ : ∃ w6, (w5.setCell ⟨w2.heap.size, 0, none⟩ (.int .u64 ((lo s : Nat) : Int))).setCell ⟨w2.heap.size, 1, none⟩ (.string (hs s)) = w6 := ⟨_, rfl⟩
        have hR6 : Bx w6 w2.heap.size (.int .u64 ((lo s : Nat) : Int)) (.string (hs s)) := by rw [← hw6]; exact put2 hR5 _ _
        have hb6 : Below (w.heap.size + 2) w5 w6 := by rw [← hw6]; exact ((Below.refl _ _).setCell hK _).setCell hK _
        have H6 := H5.belowN hb6
        have hB6 := hB5.trans (hb6.mono (by omega))
        have hs6 : w2.heap.size < w6.heap.size := Nat.lt_of_lt_of_le hs5 hb6.size
        have hbt := pow_bit n k
        have hph := pow_half a n k
        rw [hkL] at HP
        have HK := Lib.hid hk
        clear hk
        rw [← HP.out, ← HS.out] at hph
        clear H5 hB5 hR5 hs5 hb5 hb6
        have hbt2 : n / 2 ^ k % 2 = 0 ∨ n / 2 ^ k % 2 = 1 := by generalize n / 2 ^ k = x; omega
        have hlf := pow_len (a := a) (k := n / 2 ^ k) (Nat.div_le_self n _) HG.out
        rcases hbt2 with hz | hz
        · rw [hz] at hbt hph
          rw [Nat.pow_zero, Nat.mul_one] at hph
          have HH := Lib.hid hph
          have hbt' : bits BinOp.and IntKind.i64 ((n : Int) / 2 ^ k) 1 = 0 := hbt
          clear hph hz hlf hbt hkL
          go_wp2_with fail
          go_roundw
          case rel => exact ⟨i + 1, hiL, rfl, by rw [hkL', HH.out]; exact hR6, hs6, H6, hB6⟩
          case measure => simp [intOf]; omega
        · rw [hz] at hbt hph
          rw [Nat.pow_one] at hph
          have hbt' : bits BinOp.and IntKind.i64 ((n : Int) / 2 ^ k) 1 = 1 := hbt
          have hls : (digs s).length ≤ 8200 := by
            have h1 := digs_mul_le hlp hlp
            rw [← HS.out] at h1; omega
          have HM2 := Lib.hid (fun w => mul_any s a (by omega) (by omega) w)
          rw [← hph] at HM2
          obtain ⟨q, hq⟩ : ∃ q, q = a ^ (n / 2 ^ k) := ⟨_, rfl⟩
          rw [← hq] at HM2
          have HQ := Lib.hid hq
          clear hph hz hlf hbt hkL hq hls
          obtain ⟨r0, r1, rf⟩ := id hR6
          obtain ⟨⟨a0, a1, af⟩, -⟩ := id H6
          go_wp2_with fail
          refine (HM2.out _).mono ?_
          rintro e w7 ⟨rfl, hb7⟩
          have H7 := H6.below hb7
          have hB7 := H6.step hB6 hb7
          have hR7 := hR6.below hb7 hs6
          have hs7 : w2.heap.size < w7.heap.size := Nat.lt_of_lt_of_le hs6 hb7.size
          have hR8 := put2 hR7 (.int .u64 ((lo q : Nat) : Int)) (.string (hs q))
          have hb8 : Below (w.heap.size + 2) w7 ((w7.setCell ⟨w2.heap.size, 0, none⟩ (.int .u64 ((lo q : Nat) : Int))).setCell ⟨w2.heap.size, 1, none⟩ (.string (hs q))) := ((Below.refl _ _).setCell hK _).setCell hK _
          have H8 := Lib.hid (H7.belowN hb8)
          have hB8 := Lib.hid (hB7.trans (hb8.mono (by omega)))
          have hs8 := Lib.hid (Nat.lt_of_lt_of_le hs7 hb8.size)
          obtain ⟨r0', r1', rf'⟩ := id hR7
          replace hR8 := Lib.hid hR8
          clear r0 r1 rf a0 a1 af hb8 hb7 H6 hB6 hR6 hs6 HM2 hR7 H7 hB7 hs7 hw6
          go_wp2_with fail
          go_roundw
          case rel => exact ⟨i + 1, hiL, rfl, by rw [hkL', ← HQ.out]; exact hR8.out, hs8.out, H8.out, hB8.out⟩
          case measure => simp [intOf]; omega
      · have hpn : p = a ^ n := by rw [hp, hiL, Nat.sub_self, Nat.pow_zero, Nat.div_one]
        have HPN := Lib.hid hpn
        clear hp hpn
        obtain ⟨p0, p1, pf⟩ := id hP
        obtain ⟨-, ⟨c0, c1, cf⟩, -⟩ := id H4
        go_wp2_with fail
        exact bodyPost_ret (v := .tuple #[natV p, .int .i64 0]) (by simp [results, Tryz.results119, go_sem, c0, c1]) rfl ⟨by rw [HPN.out], (hB4.setCell (by simp <;> omega) _).setCell (by simp <;> omega) _⟩
end Go.Proofs.YtecdnohhengfaaaGreatDoor



/-
  Layer 1: decimal forms, as mathematics.
-/
namespace Go.Proofs.YtecdnohhengfaaaGreatDoor
open Go.Lib (decDigits nDigits)

theorem snoc_ind {α : Type} {p : List α → Prop} (l : List α) (nil : p []) (append_singleton : ∀ m c, p m → p (m ++ [c])) : p l := by
  have h : ∀ r : List α, p r.reverse := by
    intro r
    induction r with
    | nil => exact nil
    | cons c r ih => rw [List.reverse_cons]; exact append_singleton _ _ ih
  have := h l.reverse
  rwa [List.reverse_reverse] at this
theorem head_snoc {α : Type} {m : List α} (l : List α) (h : m ≠ []) : (m ++ l).head? = m.head? := by
  cases m with
  | nil => exact absurd rfl h
  | cons c m => rfl

/-- The byte of a decimal digit. -/
def dch (d : Nat) : UInt8 := UInt8.ofNat (48 + d)
theorem dch_toNat {d : Nat} (h : d < 10) : (dch d).toNat = 48 + d := by
  unfold dch; rw [UInt8.toNat_ofNat']; omega

theorem dec_small {u : Nat} (h : u < 10) : decDigits u = [dch u] := by rw [decDigits, dif_pos h]; rfl
theorem dec_big {u : Nat} (h : ¬ u < 10) : decDigits u = decDigits (u / 10) ++ [dch (u % 10)] := by rw [decDigits, dif_neg h]; rfl

/-- k decimal digits of r, with leading zeros. -/
def pad : Nat → Nat → List UInt8
  | 0, _ => []
  | k + 1, r => pad k (r / 10) ++ [dch (r % 10)]

theorem dec_mul_add : ∀ (k q r : Nat), 0 < q → r < 10 ^ k → decDigits (q * 10 ^ k + r) = decDigits q ++ pad k r
  | 0, q, r, _, hr => by
    rw [Nat.pow_zero] at hr
    rw [pad, List.append_nil, show r = 0 by omega, Nat.pow_zero, Nat.mul_one, Nat.add_zero]
  | k + 1, q, r, hq, hr => by
    rw [Nat.pow_succ] at hr ⊢
    have h1 : 1 ≤ 10 ^ k := Nat.one_le_pow _ _ (by omega)
    have h2 : q * (10 ^ k * 10) = (q * 10 ^ k) * 10 := by rw [Nat.mul_assoc]
    rw [h2]
    have h3 : 1 ≤ q * 10 ^ k := Nat.mul_pos hq h1
    have h4 := dec_mul_add k q (r / 10) hq (by omega)
    generalize q * 10 ^ k = x at *
    rw [dec_big (by omega), show (x * 10 + r) / 10 = x + r / 10 by omega, show (x * 10 + r) % 10 = r % 10 by omega, h4, pad, List.append_assoc]

theorem pad_zero : ∀ k, pad k 0 = List.replicate k 48
  | 0 => rfl
  | k + 1 => by
    rw [pad, show 0 / 10 = 0 from rfl, pad_zero k]
    show List.replicate k 48 ++ [48] = _
    rw [← List.replicate_succ']

theorem pad_eq : ∀ (k r : Nat), 0 < k → r < 10 ^ k → pad k r = List.replicate (k - (decDigits r).length) 48 ++ decDigits r ∧ (decDigits r).length ≤ k
  | k + 1, r, _, hr => by
    rcases Nat.lt_or_ge r 10 with h | h
    · rw [pad, show r / 10 = 0 by omega, show r % 10 = r by omega, pad_zero, dec_small h]
      exact ⟨rfl, by show 1 ≤ k + 1; omega⟩
    · have hk : 0 < k := by
        rcases Nat.eq_zero_or_pos k with rfl | h'
        · rw [Nat.pow_succ, Nat.pow_zero] at hr; omega
        · exact h'
      rw [Nat.pow_succ] at hr
      obtain ⟨h1, h2⟩ := pad_eq k (r / 10) hk (by omega)
      rw [pad, h1, dec_big (by omega : ¬ r < 10), List.length_append, List.append_assoc]
      refine ⟨?_, by show _ + 1 ≤ k + 1; omega⟩
      congr 2
      show _ = k + 1 - (_ + 1)
      omega

theorem dec_length_pos (n : Nat) : 0 < (decDigits n).length := by
  rcases Nat.lt_or_ge n 10 with h | h
  · rw [dec_small h]; exact Nat.one_pos
  · rw [dec_big (by omega), List.length_append]; exact Nat.lt_of_lt_of_le Nat.one_pos (Nat.le_add_left 1 _)
theorem dec_ne_nil (n : Nat) : decDigits n ≠ [] := fun h => by have := dec_length_pos n; rw [h] at this; exact absurd this (by simp)
theorem dec_length_lt {n k : Nat} (hk : 0 < k) : (decDigits n).length ≤ k ↔ n < 10 ^ k := by
  induction k generalizing n with
  | zero => omega
  | succ k ih =>
    rcases Nat.lt_or_ge n 10 with h | h
    · rw [dec_small h]
      have : 10 ≤ 10 ^ (k + 1) := by rw [Nat.pow_succ]; have := Nat.one_le_pow k 10 (by omega); omega
      exact ⟨fun _ => by omega, fun _ => by show 1 ≤ k + 1; omega⟩
    · rw [dec_big (by omega), List.length_append, Nat.pow_succ]
      rcases Nat.eq_zero_or_pos k with rfl | h'
      · have := dec_length_pos (n / 10)
        rw [Nat.pow_zero]
        constructor
        · intro h1
          have h2 : (decDigits (n / 10)).length + 1 ≤ 0 + 1 := h1
          omega
        · intro h1; omega
      · have := ih (n := n / 10) h'
        constructor
        · intro h1
          have h2 : (decDigits (n / 10)).length + 1 ≤ k + 1 := h1
          have := this.1 (by omega)
          omega
        · intro h1
          have := this.2 (by omega)
          show _ + 1 ≤ k + 1
          omega

/-- The number that decimal digits spell. -/
def dval (l : List UInt8) : Nat := l.foldl (fun n c => n * 10 + (c.toNat - 48)) 0
theorem dval_nil : dval [] = 0 := rfl
theorem dval_snoc (l : List UInt8) (c : UInt8) : dval (l ++ [c]) = dval l * 10 + (c.toNat - 48) := by
  unfold dval; rw [List.foldl_append]; rfl
theorem dval_append (l m : List UInt8) : dval (l ++ m) = dval l * 10 ^ m.length + dval m := by
  induction m using snoc_ind with
  | nil => simp [dval_nil]
  | append_singleton m c ih =>
    rw [← List.append_assoc, dval_snoc, ih, dval_snoc, List.length_append, show [c].length = 1 from rfl, Nat.pow_succ, Nat.add_mul, Nat.mul_assoc]
    omega

def isDig (c : UInt8) : Prop := 48 ≤ c.toNat ∧ c.toNat ≤ 57

theorem dval_lt {l : List UInt8} (h : ∀ c ∈ l, isDig c) : dval l < 10 ^ l.length := by
  induction l using snoc_ind with
  | nil => exact Nat.one_pos
  | append_singleton m c ih =>
    have h1 := ih fun x hx => h x (List.mem_append_left _ hx)
    have h2 := h c (List.mem_append_right _ (List.mem_singleton.2 rfl))
    unfold isDig at h2
    rw [dval_snoc, List.length_append, show [c].length = 1 from rfl, Nat.pow_succ]
    omega

theorem dval_dec (n : Nat) : dval (decDigits n) = n := by
  induction n using Nat.strongRecOn with
  | _ n ih =>
    rcases Nat.lt_or_ge n 10 with h | h
    · rw [dec_small h]
      show 0 * 10 + ((dch n).toNat - 48) = n
      rw [dch_toNat h]; omega
    · rw [dec_big (by omega), dval_snoc, ih (n / 10) (by omega), dch_toNat (by omega)]; omega

theorem dec_isDig (n : Nat) : ∀ c ∈ decDigits n, isDig c := by
  induction n using Nat.strongRecOn with
  | _ n ih =>
    rcases Nat.lt_or_ge n 10 with h | h
    · rw [dec_small h]
      intro c hc
      rw [List.mem_singleton.1 hc]
      unfold isDig; rw [dch_toNat h]; omega
    · rw [dec_big (by omega)]
      intro c hc
      rcases List.mem_append.1 hc with hc | hc
      · exact ih (n / 10) (by omega) c hc
      · rw [List.mem_singleton.1 hc]
        unfold isDig; rw [dch_toNat (by omega)]; omega

/-- What a decimal form is. -/
def isDec (l : List UInt8) : Prop := (∀ c ∈ l, isDig c) ∧ (l = [48] ∨ l ≠ [] ∧ l.head? ≠ some 48)

theorem dec_isDec (n : Nat) : isDec (decDigits n) := by
  refine ⟨dec_isDig n, ?_⟩
  rcases Nat.eq_zero_or_pos n with h0 | h0
  · left; rw [h0, dec_small (by omega)]; rfl
  · right
    refine ⟨dec_ne_nil n, ?_⟩
    induction n using Nat.strongRecOn with
    | _ n ih =>
      rcases Nat.lt_or_ge n 10 with h | h
      · rw [dec_small h]
        show some (dch n) ≠ some 48
        intro he
        have h1 := congrArg UInt8.toNat (Option.some.inj he)
        rw [dch_toNat h] at h1
        have h2 : (48 : UInt8).toNat = 48 := rfl
        omega
      · rw [dec_big (by omega), head_snoc _ (dec_ne_nil _)]
        exact ih (n / 10) (by omega) (by omega)

/-- The base of the decimal chunks. -/
def CB : Nat := 10000000000000000000
theorem CB_pow : CB = 10 ^ 19 := by unfold CB; rfl
theorem CB_pos : 0 < CB := by unfold CB; omega
theorem CB_gt : 1 < CB := by unfold CB; omega

theorem chunk_split (a k : Nat) : a / CB ^ k = a / CB ^ (k + 1) * CB + a / CB ^ k % CB := by
  rw [Nat.pow_succ, ← Nat.div_div_eq_div_mul]
  have := Nat.div_add_mod (a / CB ^ k) CB
  rw [Nat.mul_comm] at this
  exact this.symm

/-- One chunk more of the decimal form. -/
theorem chunk_dec (a k : Nat) (h : 0 < a / CB ^ (k + 1)) :
    decDigits (a / CB ^ k) = decDigits (a / CB ^ (k + 1)) ++ (List.replicate (19 - (decDigits (a / CB ^ k % CB)).length) 48 ++ decDigits (a / CB ^ k % CB))
      ∧ (decDigits (a / CB ^ k % CB)).length ≤ 19 := by
  have h1 : a / CB ^ k % CB < 10 ^ 19 := by rw [← CB_pow]; exact Nat.mod_lt _ CB_pos
  obtain ⟨h2, h3⟩ := pad_eq 19 (a / CB ^ k % CB) (by omega) h1
  refine ⟨?_, h3⟩
  rw [← h2, ← dec_mul_add 19 _ _ h h1, ← CB_pow, ← chunk_split]

/-- The first number of chunks that leaves nothing. -/
theorem chunk_top (a : Nat) (h : 0 < a) : ∃ k, 0 < a / CB ^ k ∧ a / CB ^ (k + 1) = 0 := by
  have h0 : ∃ n, a / CB ^ n = 0 := ⟨a, Nat.div_eq_of_lt (Nat.lt_pow_self CB_gt)⟩
  have key : ∀ n, a / CB ^ n = 0 → ∃ k, 0 < a / CB ^ k ∧ a / CB ^ (k + 1) = 0 := by
    intro n
    induction n with
    | zero => intro hn; rw [Nat.pow_zero, Nat.div_one] at hn; omega
    | succ n ih =>
      intro hn
      rcases Nat.eq_zero_or_pos (a / CB ^ n) with h1 | h1
      · exact ih h1
      · exact ⟨n, h1, hn⟩
  obtain ⟨n, hn⟩ := h0
  exact key n hn
end Go.Proofs.YtecdnohhengfaaaGreatDoor

/-
  Layer 1, walks W: strings.Repeat of "0", FormatUint.
-/
namespace Go.Proofs.YtecdnohhengfaaaGreatDoor
open Go.RowKit

theorem hp_no (s : ByteArray) (h : Lib.hasPrefix s.data.toList [48] = false) (w : World) :
    Calls Tryz.prog 189 #[.string s, .string ⟨#[48]⟩] w fun e w' => e = .returned (.bool false) ∧ w' = w := by
  refine (Tryz.strings_HasPrefix s ⟨#[48]⟩ w).mono ?_
  rintro e w' ⟨rfl, rfl⟩
  exact ⟨by rw [show Lib.hasPrefix s.data.toList (⟨#[48]⟩ : ByteArray).data.toList = false from h], rfl⟩
theorem hp_yes (s : ByteArray) (h : Lib.hasPrefix s.data.toList [48] = true) (w : World) :
    Calls Tryz.prog 189 #[.string s, .string ⟨#[48]⟩] w fun e w' => e = .returned (.bool true) ∧ w' = w := by
  refine (Tryz.strings_HasPrefix s ⟨#[48]⟩ w).mono ?_
  rintro e w' ⟨rfl, rfl⟩
  exact ⟨by rw [show Lib.hasPrefix s.data.toList (⟨#[48]⟩ : ByteArray).data.toList = true from h], rfl⟩

theorem rep_extract_fin : ∀ k : Fin 65, (⟨(List.replicate 64 (48 : UInt8)).toArray⟩ : ByteArray).extract 0 k.val = ⟨(List.replicate k.val (48 : UInt8)).toArray⟩ := by decide +kernel
theorem rep_extract (s : ByteArray) (hs : s.data.toList = List.replicate 64 48) (k : Nat) (h : k ≤ 64) : s.extract 0 k = ⟨(List.replicate k (48 : UInt8)).toArray⟩ := by
  have e : s = ⟨(List.replicate 64 (48 : UInt8)).toArray⟩ := by
    cases s with
    | mk d => rw [show d = d.toList.toArray by simp, hs]
  rw [e]
  exact rep_extract_fin ⟨k, by omega⟩

set_option maxHeartbeats 2000000 in
set_option maxRecDepth 100000 in
theorem rep0_many (k : Nat) (h2 : 2 ≤ k) (h : k ≤ 64) (w : World) :
    Calls Tryz.prog 135 #[.string ⟨#[48]⟩, .int .i64 (k : Int)] w fun e w' => e = .returned (.string ⟨(List.replicate k (48 : UInt8)).toArray⟩) ∧ Below w.heap.size w w' := by
  have h0 : (k : Int) ≠ 0 := by omega
  have h1 : (k : Int) ≠ 1 := by omega
  have h3 : decide ((k : Int) < 0) = false := decide_eq_false (by omega)
  have h4 : decide ((k : Int) ≤ 64) = true := decide_eq_true (by omega)
  have hw : IntKind.u64.wrap (k : Int) = (k : Int) := by rw [IntKind.wrap_u64]; omega
  have hM := Lib.hid (fun w => Tryz.bits_Mul 1 k (by omega) (by omega) w)
  rw [Nat.one_mul, Nat.div_eq_of_lt (by omega), Nat.mod_eq_of_lt (by omega)] at hM
  go_enter Tryz.func135, Tryz.ntmps135
  go_wp2_with fail
  refine (hM.out _).mono ?_
  rintro e w1 ⟨rfl, rfl⟩
  clear hM
  have h5 : decide ((k : Int) ≤ 128) = true := decide_eq_true (by omega)
  go_wp2_with fail
  refine (hp_no _ (by decide +kernel) _).mono ?_
  rintro e w2 ⟨rfl, rfl⟩
  go_wp2_with fail
  refine (hp_no _ (by decide +kernel) _).mono ?_
  rintro e w3 ⟨rfl, rfl⟩
  go_wp2_with fail
  refine (hp_yes _ (by decide +kernel) _).mono ?_
  rintro e w4 ⟨rfl, rfl⟩
  go_wp2_with fail
  exact bodyPost_ret (v := .string ⟨(List.replicate k (48 : UInt8)).toArray⟩) (by simp [-List.toArray_replicate, results, Tryz.results135, go_sem]; exact rep_extract _ (by decide +kernel) k h) rfl ⟨rfl, Below.refl _ _⟩

set_option maxRecDepth 100000 in
theorem rep0_any (k : Nat) (h : k ≤ 64) (w : World) :
    Calls Tryz.prog 135 #[.string ⟨#[48]⟩, .int .i64 (k : Int)] w fun e w' => e = .returned (.string ⟨(List.replicate k (48 : UInt8)).toArray⟩) ∧ Below w.heap.size w w' := by
  rcases Nat.lt_or_ge k 2 with h2 | h2
  · have h3 : k = 0 ∨ k = 1 := by omega
    rcases h3 with rfl | rfl
    · go_enter Tryz.func135, Tryz.ntmps135
      go_wp2_with fail
      exact bodyPost_ret (v := .string ⟨#[]⟩) (by simp [results, Tryz.results135, go_sem]) rfl ⟨rfl, Below.refl _ _⟩
    · go_enter Tryz.func135, Tryz.ntmps135
      go_wp2_with fail
      exact bodyPost_ret (v := .string ⟨#[48]⟩) (by simp [results, Tryz.results135, go_sem]) rfl ⟨rfl, Below.refl _ _⟩
  · exact rep0_many k h2 h w

/-- The table of the powers of ten lies where the program's start laid it. -/
def Tab (w : World) : Prop := Lib.TabIs Tryz.prog w "internal/strconv.uint64pow10" .u64 Lib.pow10Tab
theorem Tab.below {w w' : World} (h : Tab w) (hb : Below w.heap.size w w') : Tab w' := by
  unfold Tab Lib.TabIs World.var? at h ⊢
  cases hg : Tryz.prog.globalNamed "internal/strconv.uint64pow10" with
  | none => rw [hg] at h; simp at h
  | some g =>
    rw [hg] at h
    simp only [Option.bind_some] at h ⊢
    have hlt : g < w.heap.size := by
      rcases Nat.lt_or_ge g w.heap.size with h' | h'
      · exact h'
      · rw [Array.getElem?_eq_none h'] at h; cases h
    rw [hb.block g hlt]
    exact h

theorem holds0 (w : World) (T : TypeId) (nd : Nat) (hs : nd ≤ 24) : Sort.Holds (fun (b : UInt8) => Value.int .u8 (b.toNat : Int)) (w.alloc (.cells Lib.zeros24 T)) w.heap.size 0 (Array.replicate nd (0 : UInt8)) := fun j hj => by
  have hj' : j < nd := by simpa using hj
  refine ⟨?_, World.frozen?_alloc_new _ _ _ _⟩
  rw [World.cell?_alloc_new, Lib.zeros24_at _ (by omega), getElem!_pos _ j hj]
  simp

theorem fin0 (w : World) (o : Obj) (dk : Array UInt8) (k : Nat) : Below w.heap.size w ((Sort.putRow (fun (b : UInt8) => Value.int .u8 (b.toNat : Int)) (w.alloc o) w.heap.size 0 dk).drewN k) := by
  rw [Sort.alloc_eq_grow]
  obtain ⟨os', _, e⟩ := Sort.putRow_grow_new (fun (b : UInt8) => Value.int .u8 (b.toNat : Int)) w #[o] w.heap.size 0 dk (Nat.le_refl _)
  rw [e]
  refine ⟨rfl, rfl, rfl, ?_, ?_⟩
  · show _ ≤ (w.heap ++ os').size
    rw [Array.size_append]; omega
  · intro k hk
    show (w.heap ++ os')[k]? = _
    rw [Array.getElem?_append_left hk]

set_option maxHeartbeats 2000000 in
set_option maxRecDepth 100000 in
theorem fmtInner (u : Nat) (hu : u < Bs) (w : World) (htab : Tab w) :
    Calls Tryz.prog 185 #[.int .u64 (u : Int), .int .i64 10] w fun e w' => e = .returned (.string ⟨(Lib.decDigits u).toArray⟩) ∧ Below w.heap.size w w' := by
  have hu64 : u < 18446744073709551616 := hu
  rcases Nat.lt_or_ge u 100 with hs | hs
  · go_enter Tryz.func185, Tryz.ntmps185
    go_wp2_with (go_at_call 208; refine (Tryz.internal_strconv_small u hs _).mono ?_; rintro e w' ⟨rfl, rfl⟩)
    exact bodyPost_ret (v := .string ⟨(Lib.decDigits u).toArray⟩) (by simp [results, Tryz.results185, go_sem]) rfl ⟨rfl, Below.refl _ _⟩
  · have hu1 : 1 ≤ u := by omega
    have hnd20 : Lib.nDigits u ≤ 20 := by have := Lib.numDigits_eq u hu1 hu64; split at this <;> omega
    have hb3 : Lib.nDigits u ≤ 24 := by omega
    have hal : Tryz.prog.arrayLen 241 = 24 := by simp [Program.arrayLen, Tryz.underlying241]
    have hsl1 : ∀ W, (Instr.sliceAt 241 (.pointer (some ⟨w.heap.size, 0, none⟩)) none (some (.int .i64 (Lib.nDigits u : Int))) none).run Tryz.prog W = .ok (.slice (some ⟨w.heap.size, 0, none⟩) (Lib.nDigits u) 24) W := fun W => by
      rw [run_sliceAt_array_h W 241 ⟨w.heap.size, 0, none⟩ (by simp [Program.arrayLen, Program.elem, Tryz.underlying241]) .i64 (Lib.nDigits u : Int) (by omega) (by rw [hal]; omega)]
      go_simp
    have hH0 := holds0 w 241 (Lib.nDigits u) (by omega)
    have hfmt := Tryz.internal_strconv_formatBase10 w.heap.size 0 24 u (Array.replicate (Lib.nDigits u) 0) (w.alloc (.cells Lib.zeros24 241)) hH0 (by rw [Array.size_replicate]; exact Lib.lt_pow_nDigits u) hu64 (by rw [Array.size_replicate]; omega)
    rw [Array.size_replicate] at hfmt
    have HH0 := Lib.hid hH0
    clear hH0 hal
    have h100 : decide ((u : Int) < 100) = false := decide_eq_false (by omega)
    go_enter Tryz.func185, Tryz.ntmps185
    go_wp2_with (first
      | (go_at_call 209; refine (Tryz.internal_strconv_numDigits u hu1 hu64 _ (Lib.tabIs_alloc htab _)).mono ?_; rintro e w' ⟨rfl, rfl⟩))
    go_at_call 210
    refine hfmt.mono ?_
    rintro e w' ⟨rfl, k, v', dk, rfl, hF⟩
    have hcv : (convert 163 9 (.slice (some ⟨w.heap.size, 0, none⟩) (Lib.nDigits u) 24)).run Tryz.prog ((Sort.putRow (fun (b : UInt8) => Value.int .u8 (b.toNat : Int)) (w.alloc (.cells Lib.zeros24 241)) w.heap.size 0 dk).drewN k) = .ok (.string ⟨(Lib.decDigits u).toArray⟩) ((Sort.putRow (fun (b : UInt8) => Value.int .u8 (b.toNat : Int)) (w.alloc (.cells Lib.zeros24 241)) w.heap.size 0 dk).drewN k) := by
      have h := run_convert_bytes_back (P := Tryz.prog) ((Sort.putRow (fun (b : UInt8) => Value.int .u8 (b.toNat : Int)) (w.alloc (.cells Lib.zeros24 241)) w.heap.size 0 dk).drewN k) 163 9 5 ⟨w.heap.size, 0, none⟩ 24 (Lib.decDigits u) Tryz.underlying163 Tryz.underlying5 Tryz.underlying9 (fun j hj => by
        rw [Lib.row_is_numeral hF j hj, Lib.add_plain, World.cell?_drewN]
        exact Sort.cell?_putRow (fun (b : UInt8) => Value.int .u8 (b.toNat : Int)) _ w.heap.size 0 _ dk HH0.out (by rw [hF.size, Array.size_replicate]) j (by rw [hF.size]; rw [Lib.decDigits_length] at hj; exact hj))
      rw [Lib.decDigits_length] at h
      exact h
    have hb0 := fin0 w (.cells Lib.zeros24 241) dk k
    go_wp2
    exact bodyPost_ret (v := .string ⟨(Lib.decDigits u).toArray⟩) (by simp [results, Tryz.results185, go_sem]) rfl ⟨rfl, hb0⟩

set_option maxRecDepth 100000 in
theorem fmt_any (u : Nat) (hu : u < Bs) (w : World) (htab : Tab w) :
    Calls Tryz.prog 130 #[.int .u64 (u : Int), .int .i64 10] w fun e w' => e = .returned (.string ⟨(Lib.decDigits u).toArray⟩) ∧ Below w.heap.size w w' := by
  have H := Lib.hid (fmtInner u hu w htab)
  go_enter Tryz.func130, Tryz.ntmps130
  go_wp2_with fail
  refine H.out.mono ?_
  rintro e w1 ⟨rfl, hb⟩
  go_wp2_with fail
  exact bodyPost_ret (v := .string ⟨(Lib.decDigits u).toArray⟩) (by simp [results, Tryz.results130, go_sem]) rfl ⟨rfl, hb⟩
end Go.Proofs.YtecdnohhengfaaaGreatDoor

/-
  Layer 1, walks X: the builder: copyCheck, WriteString.
-/
namespace Go.Proofs.YtecdnohhengfaaaGreatDoor
open Go.RowKit

theorem sizeB : (Tryz.prog.info? 165).map (fun i => i.size) = some 2 := by kernel_rfl

theorem liesB : liesAt Tryz.prog Tryz.prog.depth 165 (2 / Tryz.prog.cellsOf 165) 0 165 1 = true := by kernel_rfl
theorem infoU8 : (Tryz.prog.info? 5).map (fun i => (i.zero, i.size, i.bytes)) = some (some (.int .u8 0), 1, 1) := by kernel_rfl

set_option maxHeartbeats 1000000 in
set_option maxRecDepth 100000 in
theorem check_used (b : Nat) (w : World) (h0 : w.cell? ⟨b, 0, none⟩ = some (.pointer (some ⟨b, 0, none⟩))) :
    Calls Tryz.prog 187 #[.pointer (some ⟨b, 0, none⟩)] w fun e w' => e = .returned (.tuple #[]) ∧ w' = w := by
  obtain ⟨j, hj, _⟩ := Option.map_eq_some_iff.1 sizeB
  go_enter Tryz.func187, Tryz.ntmps187
  go_wp2
  rw [Lib.run_neq_ptr_same w _ Tryz.underlying162 hj]
  go_wp2
  go_end0
  exact ⟨rfl, rfl⟩

set_option maxHeartbeats 1000000 in
set_option maxRecDepth 100000 in
theorem check_fresh (b : Nat) (w : World) (h0 : w.cell? ⟨b, 0, none⟩ = some (.pointer none)) (hsh : w.shape? b = some (165, 2)) (hfz : w.frozen? ⟨b, 0, none⟩ = false) :
    Calls Tryz.prog 187 #[.pointer (some ⟨b, 0, none⟩)] w fun e w' => e = .returned (.tuple #[]) ∧ w' = w.setCell ⟨b, 0, none⟩ (.pointer (some ⟨b, 0, none⟩)) := by
  obtain ⟨j, hj, hjs⟩ := Option.map_eq_some_iff.1 sizeB
  go_enter Tryz.func187, Tryz.ntmps187
  go_wp2
  rw [Lib.run_to_unsafe w ⟨b, 0, none⟩ Tryz.underlying162 Tryz.underlying245 hj (by rw [hjs]; decide) hsh (Nat.zero_lt_succ 1)]
  simp only [Result.andThen]
  rw [Oper.upon_value]
  go_wp2
  rw [run_callFunc_extern Tryz.func212 (by kernel_rfl) (by kernel_rfl) (by kernel_rfl) (e := Extern.AbiNoEscape.same) (by kernel_rfl)]
  rw [Lib.run_noEscape]
  simp only [Result.andThen]
  rw [Oper.upon_value]
  go_wp2
  rw [Lib.run_from_unsafe w ⟨b, 0, none⟩ Tryz.underlying245 Tryz.underlying162 hj hsh liesB]
  simp only [Result.andThen]
  rw [Oper.upon_value]
  go_wp2
  go_end0
  exact ⟨rfl, rfl⟩

theorem check_any (B b : Nat) (bs : List Value) (w : World) (h : Lib.IsBuilderF 165 5 B b bs w) :
    Calls Tryz.prog 187 #[.pointer (some ⟨b, 0, none⟩)] w fun e w' => e = .returned (.tuple #[]) ∧ (Lib.BuilderAtF 165 5 B b (.pointer (some ⟨b, 0, none⟩)) bs w' ∧ Below B w w' ∧ Lib.OthersKept 5 (some b) w w') := by
  rcases h with h | h
  · refine (check_fresh b w h.cell0 h.shape h.frozen0).mono ?_
    rintro e w' ⟨rfl, rfl⟩
    exact ⟨rfl, h.used _, (Below.refl B w).setCell (p := ⟨b, 0, none⟩) h.1 _, (Lib.OthersKept.refl _ _ w).setCell ⟨b, 0, none⟩ rfl _⟩
  · refine (check_used b w h.cell0).mono ?_
    rintro e w' ⟨rfl, rfl⟩
    exact ⟨rfl, h, Below.refl B _, Lib.OthersKept.refl _ _ _⟩

set_option maxHeartbeats 2000000 in
set_option maxRecDepth 100000 in
theorem write_any (B b : Nat) (bs : List Value) (s : ByteArray) (w : World) (h : Lib.IsBuilderF 165 5 B b bs w) (hlen : bs.length + s.size ≤ 140737488355328) (hBw : B ≤ w.heap.size) :
    Calls Tryz.prog 134 #[.pointer (some ⟨b, 0, none⟩), .string s] w fun e w' => e = .returned (.tuple #[.int .i64 s.size, .nilIface]) ∧ (Lib.IsBuilderF 165 5 B b (bs ++ Lib.strCells s) w' ∧ Below B w w' ∧ Lib.OthersKept 5 (some b) w w') := by
  obtain ⟨i0, hi, hz0, hz1, hz2⟩ := info_parts infoU8
  go_enter Tryz.func134, Tryz.ntmps134
  go_wp2_with (go_at_call 187; refine (check_any B b bs _ h).mono ?_)
  rintro e w1 ⟨rfl, h1, hb1, hk1⟩
  obtain ⟨hB, v, hbk, hown, hne⟩ := h1
  have c0 : w1.cell? ⟨b, 0, none⟩ = some (.pointer (some ⟨b, 0, none⟩)) := by rw [Lib.cell_of_heap hbk]; rfl
  have c1 : w1.cell? ⟨b, 1, none⟩ = some v := by rw [Lib.cell_of_heap hbk]; rfl
  go_wp2_with (at_builtin; refine Lib.wpList_append_own_stringF _ rfl _ _ 163 9 rfl B 5 i0 Tryz.underlying163 Tryz.underlying9 hi hz0 hz1 hz2 _ _ _ rfl hown s rfl ?c3 ?c4 ?c5 ?_)
  case c3 => unfold maxLen; omega
  case c4 => omega
  case c5 => have := hb1.size; omega
  intro v' w2 hown' hgrow _
  have hlt : b < w1.heap.size := by
    rcases Nat.lt_or_ge b w1.heap.size with h' | h'
    · exact h'
    · simp [Array.getElem?_eq_none h'] at hbk
  have hb2 : w2.heap[b]? = some (.cells #[.pointer (some ⟨b, 0, none⟩), v] 165 (0, 0)) := by
    rw [hgrow.block b hlt (fun e => hne e.symm)]
    exact hbk
  have d0 : w2.cell? ⟨b, 0, none⟩ = some (.pointer (some ⟨b, 0, none⟩)) := by rw [Lib.cell_of_heap hb2]; rfl
  have d1 : w2.cell? ⟨b, 1, none⟩ = some v := by rw [Lib.cell_of_heap hb2]; rfl
  have f1 : w2.frozen? ⟨b, 1, none⟩ = false := Lib.frozen_of_heap hb2 1
  obtain ⟨ao, n', cap, rfl⟩ : ∃ ao n' cap, v' = .slice ao n' cap := by
    rcases hown'.2 with ⟨hv, _⟩ | ⟨g, cap, cur, fz, hv, _⟩
    · exact ⟨_, _, _, hv⟩
    · exact ⟨_, _, _, hv⟩
  go_wp2
  go_ret2
  refine ⟨rfl, ?_, ?_, (hk1.grown hgrow (Lib.ownsRowF_kind hown)).setCell ⟨b, 1, none⟩ rfl _⟩
  · exact .inr (Lib.BuilderAtF.put (T := 165) (e := 5) hB hb2 (bs' := bs ++ Lib.strCells s) (by simpa [Lib.strCells_length] using hown') (by decide))
  · exact (hb1.grown hgrow (by have := hb1.size; omega) (fun k hk => (hown.lt k hk).1)).setCell (p := ⟨b, 1, none⟩) hB _
end Go.Proofs.YtecdnohhengfaaaGreatDoor
