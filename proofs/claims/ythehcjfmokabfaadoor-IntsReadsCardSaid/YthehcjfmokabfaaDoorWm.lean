/-
  Layer 1, walks M: shiftLeft, shiftRight.
-/
import Derived.Test.YthehcjfmokabfaaDoorWl
import Derived.BigRegion
set_option linter.unusedVariables false
set_option linter.unusedSimpArgs false
namespace Go.Proofs.YthehcjfmokabfaaDoor
open Go.RowKit
attribute [local irreducible] lo hs sm s64 c64 d64 b64 mh ml pd pc qd qc val hiB str

theorem Bs_split {n : Nat} (h : n ≤ 64) : Bs = 2 ^ (64 - n) * 2 ^ n := by rw [Bs_pow, ← Nat.pow_add]; congr 1; omega
/-- the digit that a shift to the left leaves: of x, and of z below it -/
def slD (n x z : Nat) : Nat := x * 2 ^ n % Bs + z / 2 ^ (64 - n)
theorem slD_lt {n x z : Nat} (h : n ≤ 64) (hz : z < Bs) : slD n x z < Bs := by
  have hp : 0 < 2 ^ n := Nat.pow_pos (by omega)
  have hq : 0 < 2 ^ (64 - n) := Nat.pow_pos (by omega)
  unfold slD
  have e : x * 2 ^ n % Bs = (x % 2 ^ (64 - n)) * 2 ^ n := by rw [Bs_split h, Nat.mul_mod_mul_right]
  have h1 : x % 2 ^ (64 - n) + 1 ≤ 2 ^ (64 - n) := Nat.mod_lt _ hq
  have h2 := Nat.mul_le_mul_right (2 ^ n) h1
  rw [← Bs_split h, Nat.add_mul, Nat.one_mul] at h2
  have h3 : z / 2 ^ (64 - n) < 2 ^ n := (Nat.div_lt_iff_lt_mul hq).2 (by rw [Nat.mul_comm, ← Bs_split h]; exact hz)
  omega
theorem slD_or {n x z : Nat} (h : n ≤ 64) (hz : z < Bs) : bits .or .u64 (IntKind.u64.wrap ((x : Int) * 2 ^ n)) ((z : Int) / 2 ^ (64 - n)) = ((slD n x z : Nat) : Int) := by
  have hq : 0 < 2 ^ (64 - n) := Nat.pow_pos (by omega)
  have e1 : (x : Int) * 2 ^ n = ((x * 2 ^ n : Nat) : Int) := by rw [Int.natCast_mul, Int.natCast_pow]; rfl
  have e2 : (z : Int) / 2 ^ (64 - n) = ((z / 2 ^ (64 - n) : Nat) : Int) := by rw [Int.natCast_ediv, Int.natCast_pow]; rfl
  have e3 : x * 2 ^ n % 18446744073709551616 = 2 ^ n * (x % 2 ^ (64 - n)) := by
    have : x * 2 ^ n % Bs = (x % 2 ^ (64 - n)) * 2 ^ n := by rw [Bs_split h, Nat.mul_mod_mul_right]
    rw [Nat.mul_comm (2 ^ n)]; exact this
  have h3 : z / 2 ^ (64 - n) < 2 ^ n := (Nat.div_lt_iff_lt_mul hq).2 (by rw [Nat.mul_comm, ← Bs_split h]; exact hz)
  have h4 := slD_lt (x := x) h hz
  unfold slD at h4 ⊢
  rw [e1, e2, wrapM, e3]
  have e4 : x * 2 ^ n % Bs = 2 ^ n * (x % 2 ^ (64 - n)) := e3
  rw [e4] at h4 ⊢
  exact or_add n _ _ h3 h4

theorem sh_wrap (x n : Nat) : IntKind.u64.wrap ((x : Int) * 2 ^ n) = ((x * 2 ^ n % Bs : Nat) : Int) := by
  have e1 : (x : Int) * 2 ^ n = ((x * 2 ^ n : Nat) : Int) := by rw [Int.natCast_mul, Int.natCast_pow]; rfl
  rw [e1, wrapM]; rfl
/-- After i places from the high end. -/
structure SlI (D : List Nat) (n i : Nat) (F : List Nat) : Prop where
  len : F.length = i
  dig : Dig F
  eq : val F = val (D.drop (D.length - i)) * 2 ^ n / Bs
theorem SlI.start (D : List Nat) (n : Nat) : SlI D n 0 [] := ⟨rfl, Dig.nil, by simp [val]⟩
theorem drop_at (D : List Nat) (i : Nat) (hi : i < D.length) : D.drop (D.length - (i + 1)) = D[D.length - i - 1]'(by omega) :: D.drop (D.length - i) := by
  have e1 : D.length - (i + 1) = D.length - i - 1 := by omega
  have e2 : D.length - i = D.length - i - 1 + 1 := by omega
  rw [e1, List.drop_eq_getElem_cons (by omega), ← e2]
theorem low_digit (D : List Nat) (j : Nat) (hD : Dig D) (hj : j < (D ++ [0]).length) : (D ++ [0])[j] = val (D.drop j) % Bs := by
  rcases Nat.lt_or_ge j D.length with h | h
  · rw [List.getElem_append_left h, List.drop_eq_getElem_cons h, val_cons, Nat.add_mul_mod_self_left, Nat.mod_eq_of_lt (hD.get j h)]
  · rw [List.drop_eq_nil_of_le h, val_nil]
    simp at hj
    have : j = D.length := by omega
    subst this
    simp
theorem SlI.step {D F : List Nat} {n i : Nat} (h : SlI D n i F) (hD : Dig D) (hn : n ≤ 64) (hi : i < D.length) :
    SlI D n (i + 1) (slD n ((D ++ [0])[D.length - i]'(by simp; omega)) (D[D.length - i - 1]'(by omega)) :: F) := by
  have hz := hD.get (D.length - i - 1) (by omega)
  refine ⟨by rw [List.length_cons, h.len], Dig.cons (slD_lt hn hz) h.dig, ?_⟩
  have hp : 0 < 2 ^ n := Nat.pow_pos (by omega)
  have hq : 0 < 2 ^ (64 - n) := Nat.pow_pos (by omega)
  rw [drop_at D i hi, val_cons, val_cons, h.eq, low_digit D _ hD]
  generalize hV : val (D.drop (D.length - i)) = V at *
  generalize D[D.length - i - 1]'(by omega) = z at *
  unfold slD
  have e1 : (z + Bs * V) * 2 ^ n / Bs = z / 2 ^ (64 - n) + V * 2 ^ n := by
    rw [Nat.add_mul, Nat.mul_assoc, Nat.add_mul_div_left _ _ Bs_pos]
    congr 1
    rw [Bs_split hn, Nat.mul_div_mul_right _ _ hp]
  have e2 : V % Bs * 2 ^ n % Bs = V * 2 ^ n % Bs := by rw [Nat.mod_mul_mod]
  have e3 := Nat.mod_add_div (V * 2 ^ n) Bs
  rw [e1, e2]; omega
theorem SlI.done {D F : List Nat} {n : Nat} (h : SlI D n D.length F) (hD : Dig D) (hne : 0 < D.length) :
    (D[0] * 2 ^ n % Bs :: F).length = D.length + 1 ∧ Dig (D[0] * 2 ^ n % Bs :: F) ∧ val (D[0] * 2 ^ n % Bs :: F) = val D * 2 ^ n := by
  refine ⟨by rw [List.length_cons, h.len], Dig.cons (Nat.mod_lt _ Bs_pos) h.dig, ?_⟩
  have e := h.eq
  rw [Nat.sub_self, List.drop_zero] at e
  have e0 : D[0] = val D % Bs := by
    have := low_digit D 0 hD (by simp)
    rw [List.getElem_append_left hne, List.drop_zero] at this; exact this
  rw [val_cons, e, e0]
  have e2 : val D % Bs * 2 ^ n % Bs = val D * 2 ^ n % Bs := by rw [Nat.mod_mul_mod]
  rw [e2]; exact Nat.mod_add_div _ _

set_option maxHeartbeats 4000000 in
set_option maxRecDepth 100000 in
theorem shiftLeft_any (g c n : Nat) (D : List Nat) (hD : Dig D) (hn : n < 64) (hne : 0 < D.length) (hl : D.length ≤ 1099511627776) (w : World) (hg : g < w.heap.size) (hr : Rd w g 0 D) :
    Calls Tryd.prog 89 #[.slice (some ⟨g, 0, none⟩) D.length c, .int .i64 (n : Int)] w fun e w' =>
      ∃ O : List Nat, e = .returned (.slice (some ⟨w.heap.size, 0, none⟩) (D.length + 1) (D.length + 1)) ∧ (O.length = D.length + 1 ∧ Dig O ∧ val O = val D * 2 ^ n) ∧ DB w' w.heap.size O ∧ Below w.heap.size w w' := by
  have hmk : ∀ w, (Instr.makeSlice 81 (.int .i64 ((D.length : Int) + 1)) (.int .i64 ((D.length : Int) + 1))).run Tryd.prog w = .ok (.slice (some ⟨w.heap.size, 0, none⟩) (D.length + 1) (D.length + 1)) (w.alloc (zobj (D.length + 1))) :=
    fun w => make64 w _ (D.length + 1) (by omega) (by omega)
  have hrx : Rd (w.alloc (zobj (D.length + 1))) g 0 D := hr.below (below1 w _) hg
  have hcp := fun ty => copy64 (w.alloc (zobj (D.length + 1))) w.heap.size (D.length + 1) g 0 c [] (List.replicate (D.length + 1) 0) [] D (by simp) (by simpa using DB.zeros w (D.length + 1)) hrx ty
  rw [drop_zeros] at hcp
  simp only [List.length_nil, List.length_replicate, List.nil_append, List.append_nil] at hcp
  have hdb0 : DB (cpW (w.alloc (zobj (D.length + 1))) w.heap.size (D ++ [0])) w.heap.size (D ++ [0]) := (DB.zeros w (D.length + 1)).cp (D ++ [0])
  have hb0 : Below w.heap.size w (cpW (w.alloc (zobj (D.length + 1))) w.heap.size (D ++ [0])) := (below1 w _).trans (grown_below (cp_grown _ w.heap.size _) (Nat.le_refl _) (by simp))
  have HDB := Lib.hid hdb0
  clear hdb0
  have hm64 : min n 64 = n := by omega
  go_enter Tryd.func89, Tryd.ntmps89
  go_wp2
  go_loopw [17] (fun z wr => ∃ (i : Nat) (F : List Nat), i ≤ D.length ∧ z = .int .i64 i ∧ SlI D n i F ∧ DB wr w.heap.size ((D ++ [0]).take (D.length - i + 1) ++ F) ∧ Below w.heap.size w wr) (fun z _ => D.length - (intOf z).toNat)
  case atStart => exact ⟨0, [], Nat.zero_le _, rfl, SlI.start D n, by rw [Nat.sub_zero, List.take_of_length_le (by simp), List.append_nil]; exact HDB.out, hb0⟩
  case round =>
    obtain ⟨i, F, hi, rfl, hI, hdb1, hb1⟩ := hrel
    by_cases hil : i < D.length
    · have hstep := hI.step hD (Nat.le_of_lt hn) hil
      have hz := hD.get (D.length - i - 1) (by omega)
      have hlt : ((D ++ [0]).take (D.length - i + 1)).length = D.length - i + 1 := by rw [List.length_take]; simp <;> omega
      have hlen : D.length - i < ((D ++ [0]).take (D.length - i + 1) ++ F).length := by rw [List.length_append, hlt]; omega
      have hcell := hdb1.cell _ hlen
      rw [List.getElem_append_left (by omega), List.getElem_take] at hcell
      have hcell2 := hdb1.cell (D.length - i - 1) (by omega)
      rw [List.getElem_append_left (by omega), List.getElem_take, List.getElem_append_left (by omega)] at hcell2
      have hfz := hdb1.frozen (D.length - i)
      have hor := slD_or (n := n) (x := (D ++ [0])[D.length - i]'(by simp; omega)) (Nat.le_of_lt hn) hz
      have hnext := hdb1.set _ hlen (slD n ((D ++ [0])[D.length - i]'(by simp; omega)) (D[D.length - i - 1]'(by omega)))
      rw [List.set_append_left _ _ (by omega)] at hnext
      have hset : ((D ++ [0]).take (D.length - i + 1)).set (D.length - i) (slD n ((D ++ [0])[D.length - i]'(by simp; omega)) (D[D.length - i - 1]'(by omega))) ++ F =
          (D ++ [0]).take (D.length - (i + 1) + 1) ++ (slD n ((D ++ [0])[D.length - i]'(by simp; omega)) (D[D.length - i - 1]'(by omega)) :: F) := by
        have e1 : D.length - (i + 1) + 1 = D.length - i := by omega
        rw [e1, List.take_succ_eq_append_getElem (by simp; omega), List.set_append_right _ _ (by rw [List.length_take]; simp; omega), List.length_take, Nat.min_eq_left (by simp; omega), Nat.sub_self]
        simp
      rw [hset] at hnext
      generalize (D ++ [0])[D.length - i]'(by simp; omega) = x at *
      generalize D[D.length - i - 1]'(by omega) = z at *
      have HN := Lib.hid hnext
      have HS := Lib.hid hstep
      clear hnext hstep hlen hI hset hlt hz hdb1 hcp hmk
      go_wp2
      go_region
      all_goals go_wp2
      all_goals go_roundw
      case rel => exact ⟨i + 1, _, by omega, by go_num, HS.out, HN.out, (hb1.setCell (Nat.le_refl _) _).drew⟩
      case measure => simp [intOf]; omega
    · have hik : i = D.length := by omega
      subst hik
      have hdone := hI.done hD hne
      rw [Nat.sub_self, List.take_succ_eq_append_getElem (by simp), List.take_zero, List.nil_append, List.getElem_append_left hne] at hdb1
      have hcell := hdb1.cell 0 (by simp)
      have hfz := hdb1.frozen 0
      have hnext := hdb1.set 0 (by simp) (D[0] * 2 ^ n % Bs)
      rw [show ([D[0]] ++ F).set 0 (D[0] * 2 ^ n % Bs) = D[0] * 2 ^ n % Bs :: F by simp] at hnext
      have hw := sh_wrap D[0] n
      rw [show ([D[0]] ++ F)[0]'(by simp) = D[0] by simp] at hcell
      generalize D[0] * 2 ^ n % Bs = v at *
      generalize D[0] = x at *
      have HN := Lib.hid hnext
      have HE := Lib.hid hdone
      clear hnext hdone hI hdb1
      go_wp2
      go_ret
      exact ⟨_, rfl, HE.out, HN.out, hb1.setCell (Nat.le_refl _) _⟩

/-- the digit that a shift to the right leaves: of x, and of z above it -/
def srD (n x z : Nat) : Nat := x / 2 ^ n + z * 2 ^ (64 - n) % Bs
theorem srD_sum {n x X : Nat} (h : n ≤ 64) : (x + Bs * X) / 2 ^ n = srD n x (X % Bs) + Bs * (X / 2 ^ n) := by
  have hp : 0 < 2 ^ n := Nat.pow_pos (by omega)
  unfold srD
  have e1 : (x + Bs * X) / 2 ^ n = x / 2 ^ n + 2 ^ (64 - n) * X := by
    rw [Bs_split h, Nat.mul_right_comm, Nat.add_mul_div_right _ _ hp]
  have e2 : X % Bs * 2 ^ (64 - n) % Bs = 2 ^ (64 - n) * (X % 2 ^ n) := by
    rw [Nat.mod_mul_mod]
    have : Bs = 2 ^ n * 2 ^ (64 - n) := by rw [Nat.mul_comm]; exact Bs_split h
    rw [this, Nat.mul_mod_mul_right, Nat.mul_comm]
  have e3 := Nat.mod_add_div X (2 ^ n)
  have e4 : 2 ^ (64 - n) * X = 2 ^ (64 - n) * (X % 2 ^ n) + 2 ^ (64 - n) * (2 ^ n * (X / 2 ^ n)) := by rw [← Nat.mul_add, e3]
  rw [e1, e2, e4, ← Nat.mul_assoc, ← Bs_split h]; omega
theorem srD_lt {n x z : Nat} (h : n ≤ 64) (hx : x < Bs) : srD n x z < Bs := by
  have hp : 0 < 2 ^ n := Nat.pow_pos (by omega)
  have hq : 0 < 2 ^ (64 - n) := Nat.pow_pos (by omega)
  unfold srD
  have hB : Bs = 2 ^ n * 2 ^ (64 - n) := by rw [Nat.mul_comm]; exact Bs_split h
  have e : z * 2 ^ (64 - n) % Bs = (z % 2 ^ n) * 2 ^ (64 - n) := by rw [hB, Nat.mul_mod_mul_right]
  have h1 : z % 2 ^ n + 1 ≤ 2 ^ n := Nat.mod_lt _ hp
  have h2 := Nat.mul_le_mul_right (2 ^ (64 - n)) h1
  rw [← hB, Nat.add_mul, Nat.one_mul] at h2
  have h3 : x / 2 ^ n < 2 ^ (64 - n) := (Nat.div_lt_iff_lt_mul hp).2 (by rw [← Bs_split h]; exact hx)
  omega
theorem srD_or {n x z : Nat} (h : n ≤ 64) (hx : x < Bs) : bits .or .u64 ((x : Int) / 2 ^ n) (IntKind.u64.wrap ((z : Int) * 2 ^ (64 - n))) = ((srD n x z : Nat) : Int) := by
  have hp : 0 < 2 ^ n := Nat.pow_pos (by omega)
  have e2 : (x : Int) / 2 ^ n = ((x / 2 ^ n : Nat) : Int) := by rw [Int.natCast_ediv, Int.natCast_pow]; rfl
  have hB : Bs = 2 ^ n * 2 ^ (64 - n) := by rw [Nat.mul_comm]; exact Bs_split h
  have e : z * 2 ^ (64 - n) % Bs = 2 ^ (64 - n) * (z % 2 ^ n) := by rw [hB, Nat.mul_mod_mul_right, Nat.mul_comm]
  have h3 : x / 2 ^ n < 2 ^ (64 - n) := (Nat.div_lt_iff_lt_mul hp).2 (by rw [← Bs_split h]; exact hx)
  have h4 := srD_lt (z := z) h hx
  unfold srD at h4 ⊢
  rw [sh_wrap, e2, e]
  rw [e] at h4
  rw [bits_or_u64_nat _ _ (Nat.lt_of_le_of_lt (Nat.le_add_right _ _) h4) (Nat.lt_of_le_of_lt (Nat.le_add_left _ _) h4), Nat.or_comm, ← Nat.two_pow_add_eq_or_of_lt h3, Nat.add_comm]

theorem gdrew {w w' : World} {r : Option Nat} (h : w.grownBy w' r) : w.grownBy w'.drew r := ⟨h.os, h.tape, h.output, h.size, h.block⟩
structure SrI (D : List Nat) (n i : Nat) (P : List Nat) : Prop where
  len : P.length = i
  dig : Dig P
  eq : val P + Bs ^ i * (val (D.drop i) / 2 ^ n) = val D / 2 ^ n
theorem SrI.start (D : List Nat) (n : Nat) : SrI D n 0 [] := ⟨rfl, Dig.nil, by simp [val]⟩
theorem next_digit (D : List Nat) (j : Nat) (hD : Dig D) : D.getD j 0 = val (D.drop j) % Bs := by
  rcases Nat.lt_or_ge j D.length with h | h
  · rw [List.drop_eq_getElem_cons h, val_cons, Nat.add_mul_mod_self_left, Nat.mod_eq_of_lt (hD.get j h)]; simp [h]
  · rw [List.drop_eq_nil_of_le h, val_nil]; simp [h]
theorem SrI.step {D P : List Nat} {n i : Nat} (h : SrI D n i P) (hD : Dig D) (hn : n ≤ 64) (hi : i < D.length) :
    SrI D n (i + 1) (P ++ [srD n D[i] (D.getD (i + 1) 0)]) := by
  refine ⟨by rw [List.length_append, h.len]; rfl, h.dig.app (Dig.cons (srD_lt hn (hD.get i hi)) Dig.nil), ?_⟩
  have he := h.eq
  rw [List.drop_eq_getElem_cons hi, val_cons, srD_sum hn, ← next_digit D (i + 1) hD] at he
  rw [val_snoc, h.len, Nat.pow_succ, ← he, Nat.mul_add, Nat.mul_assoc]; omega
theorem SrI.done {D P : List Nat} {n : Nat} (h : SrI D n D.length P) : P.length = D.length ∧ Dig P ∧ val P = val D / 2 ^ n := by
  have e := h.eq
  rw [List.drop_length, val_nil, Nat.zero_div, Nat.mul_zero, Nat.add_zero] at e
  exact ⟨h.len, h.dig, e⟩

set_option maxHeartbeats 4000000 in
set_option maxRecDepth 100000 in
theorem shiftRight_any (g c n : Nat) (D C : List Nat) (hD : Dig D) (hn : n < 64) (hl : D.length ≤ 1099511627776) (w : World) (hdb : DB w g (D ++ C)) :
    Calls Tryd.prog 91 #[.slice (some ⟨g, 0, none⟩) D.length c, .int .i64 (n : Int)] w fun e w' =>
      e = .returned (.tuple #[]) ∧ ∃ O : List Nat, (O.length = D.length ∧ Dig O ∧ val O = val D / 2 ^ n) ∧ DB w' g (O ++ C) ∧ w.grownBy w' (some g) := by
  have hm64 : min n 64 = n := by omega
  go_enter Tryd.func91, Tryd.ntmps91
  go_wp2
  go_loopw [7] (fun z wr => ∃ (i : Nat) (P : List Nat), i ≤ D.length ∧ z = .int .i64 i ∧ SrI D n i P ∧ DB wr g (P ++ (D.drop i ++ C)) ∧ w.grownBy wr (some g)) (fun z _ => D.length - (intOf z).toNat)
  case atStart => exact ⟨0, [], Nat.zero_le _, rfl, SrI.start D n, by simpa using hdb, grown_refl w _⟩
  case round =>
    obtain ⟨i, P, hi, rfl, hI, hdb1, hg1⟩ := hrel
    by_cases hil : i < D.length
    · have hstep := hI.step hD (Nat.le_of_lt hn) hil
      have hPl := hI.len
      have hx := hD.get i hil
      have e2 : ((D[i] : Nat) : Int) / 2 ^ n = ((D[i] / 2 ^ n : Nat) : Int) := by rw [Int.natCast_ediv, Int.natCast_pow]; rfl
      have hsplit : P ++ (D.drop i ++ C) = P ++ D[i] :: (D.drop (i + 1) ++ C) := by rw [List.drop_eq_getElem_cons hil]; rfl
      rw [hsplit] at hdb1
      have hlen : i < (P ++ D[i] :: (D.drop (i + 1) ++ C)).length := by simp; omega
      have hcell := hdb1.cell i hlen
      rw [show (P ++ D[i] :: (D.drop (i + 1) ++ C))[i]'hlen = D[i] by rw [List.getElem_append_right (by omega)]; simp [hPl]] at hcell
      have hfz := hdb1.frozen i
      have set_ : ∀ y : Nat, (P ++ D[i] :: (D.drop (i + 1) ++ C)).set i y = P ++ [y] ++ (D.drop (i + 1) ++ C) := fun y => by
        rw [List.set_append_right _ _ (by omega), hPl, Nat.sub_self]; simp
      by_cases hlast : i + 1 < D.length
      · have hor := srD_or (n := n) (z := D.getD (i + 1) 0) (Nat.le_of_lt hn) hx
        have hn1 := hdb1.set i hlen (D[i] / 2 ^ n)
        rw [set_] at hn1
        have hcell2 := hdb1.cell (i + 1) (by simp; omega)
        rw [show (P ++ D[i] :: (D.drop (i + 1) ++ C))[i + 1]'(by simp; omega) = D.getD (i + 1) 0 by
          rw [List.getElem_append_right (by omega)]
          have : i + 1 - P.length = 0 + 1 := by omega
          simp only [this, List.getElem_cons_succ]
          rw [List.getElem_append_left (by simp; omega)]
          simp [hlast]] at hcell2
        have hn2 := hn1.set i (by simp; omega) (srD n D[i] (D.getD (i + 1) 0))
        rw [show (P ++ [D[i] / 2 ^ n] ++ (D.drop (i + 1) ++ C)).set i (srD n D[i] (D.getD (i + 1) 0)) = P ++ [srD n D[i] (D.getD (i + 1) 0)] ++ (D.drop (i + 1) ++ C) by
          rw [List.append_assoc, List.set_append_right _ _ (by omega), hPl, Nat.sub_self]; simp] at hn2
        rw [e2] at hor
        have hcell3 : (wr.setCell ⟨g, i, none⟩ (.int .u64 ((D[i] / 2 ^ n : Nat) : Int))).cell? ⟨g, i + 1, none⟩ = some (.int .u64 ((D.getD (i + 1) 0 : Nat) : Int)) := (World.cell?_setCell_other _ _ _ _ (by simp)).trans hcell2
        have hcell4 : (wr.setCell ⟨g, i, none⟩ (.int .u64 ((D[i] / 2 ^ n : Nat) : Int))).cell? ⟨g, i, none⟩ = some (.int .u64 ((D[i] / 2 ^ n : Nat) : Int)) := World.cell?_setCell_same _ _ _ hcell
        generalize D.getD (i + 1) 0 = z at *
        generalize hxq : D[i] / 2 ^ n = xq at *
        generalize D[i] = x at *
        have HN := Lib.hid hn2
        have HS := Lib.hid hstep
        have HPL := Lib.hid hPl
        clear hn1 hn2 hstep hlen hI hsplit set_ hdb1 hx hPl hxq
        go_wp2
        go_region
        all_goals go_wp2
        all_goals go_roundw
        case rel =>
          exact ⟨i + 1, _, by omega, by go_num, HS.out, HN.out, grown_trans hg1 (gdrew (grown_trans (grown_set _ g i _) (grown_set _ g i _)))⟩
        case measure => simp [intOf]; omega
      · have hz : D.getD (i + 1) 0 = 0 := by simp [hlast]
        have hsr : srD n D[i] 0 = D[i] / 2 ^ n := by unfold srD; simp
        rw [hz, hsr] at hstep
        have hn1 := hdb1.set i hlen (D[i] / 2 ^ n)
        rw [set_] at hn1
        generalize hxq : D[i] / 2 ^ n = xq at *
        generalize D[i] = x at *
        have HN := Lib.hid hn1
        have HS := Lib.hid hstep
        clear hn1 hstep hlen hI hsplit set_ hdb1 hx hPl hxq hz hsr
        go_wp2
        go_roundw
        case rel => exact ⟨i + 1, _, by omega, by go_num, HS.out, HN.out, grown_trans hg1 (grown_set _ g i _)⟩
        case measure => simp [intOf]; omega
    · have hik : i = D.length := by omega
      subst hik
      have hdone := hI.done
      rw [List.drop_length, List.nil_append] at hdb1
      have HE := Lib.hid hdone
      clear hdone hI
      go_wp2
      go_end0
      exact ⟨rfl, P, HE.out, hdb1, hg1⟩
end Go.Proofs.YthehcjfmokabfaaDoor
