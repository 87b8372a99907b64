/-
  Layer 1, walks G: addTo, takeFrom: digits added and taken in place.
-/
import Derived.Test.YthehcjfmokabfaaDoorWf
set_option linter.unusedVariables false
set_option linter.unusedSimpArgs false
namespace Go.Proofs.YthehcjfmokabfaaDoor
open Go.RowKit

theorem set_mid (A P R C : List Nat) (x s : Nat) : (A ++ (P ++ x :: R) ++ C).set (A.length + P.length) s = A ++ ((P ++ [s]) ++ R) ++ C := by
  rw [List.append_assoc, List.set_append_right _ _ (by omega), Nat.add_sub_cancel_left, List.append_assoc, List.set_append_right _ _ (by omega), Nat.sub_self]
  simp
theorem get_mid (A P R C : List Nat) (x : Nat) (h : A.length + P.length < (A ++ (P ++ x :: R) ++ C).length) : (A ++ (P ++ x :: R) ++ C)[A.length + P.length] = x := by
  simp [List.getElem_append_right]
theorem drop_cons (D : List Nat) (k : Nat) (h : k < D.length) : D.drop k = D[k] :: D.drop (k + 1) := List.drop_eq_getElem_cons h
theorem take_snoc (D : List Nat) (k : Nat) (h : k < D.length) : val (D.take (k + 1)) = val (D.take k) + Bs ^ k * D[k] := by
  rw [List.take_succ_eq_append_getElem h, val_snoc, List.length_take, Nat.min_eq_left (Nat.le_of_lt h)]
theorem grown_refl (w : World) (r : Option Nat) : w.grownBy w r := ⟨rfl, rfl, rfl, Nat.le_refl _, fun _ _ _ => rfl⟩
theorem grown_trans {a b c : World} {r : Option Nat} (h : a.grownBy b r) (k : b.grownBy c r) : a.grownBy c r :=
  ⟨k.os.trans h.os, k.tape.trans h.tape, k.output.trans h.output, Nat.le_trans h.size k.size, fun i hi hr => (k.block i (Nat.lt_of_lt_of_le hi h.size) hr).trans (h.block i hi hr)⟩
theorem grown_set (w : World) (g i : Nat) (v : Value) : w.grownBy (w.setCell ⟨g, i, none⟩ v) (some g) :=
  ⟨rfl, rfl, rfl, by simp, fun k _ hne => heap_setCell_other w _ k v (fun h => hne (by rw [h]))⟩
theorem grown_cell {w w' : World} {g gy i : Nat} (h : w.grownBy w' (some g)) (hne : gy ≠ g) (hlt : gy < w.heap.size) : w'.cell? ⟨gy, i, none⟩ = w.cell? ⟨gy, i, none⟩ :=
  World.cell?_of_block (a := ⟨gy, i, none⟩) (h.block gy hlt (fun e => hne (Option.some.inj e)))
theorem grown_below {w w' : World} {g B : Nat} (h : w.grownBy w' (some g)) (hB : B ≤ g) (hs : B ≤ w.heap.size) : Below B w w' :=
  ⟨h.os, h.tape, h.output, h.size, fun k hk => h.block k (by omega) (fun e => by have := Option.some.inj e; omega)⟩
theorem below_grown {w w' : World} {g : Nat} (h : Below w.heap.size w w') : w.grownBy w' (some g) := ⟨h.os, h.tape, h.output, h.size, fun k hk _ => h.block k hk⟩

/-- After k places: the sum's digits so far, and the carry. -/
structure AddI (D Y : List Nat) (k carry : Nat) (P : List Nat) : Prop where
  len : P.length = k
  dig : Dig P
  le : carry ≤ 1
  eq : val P + Bs ^ k * carry = val (D.take k) + val (Y.take k)
theorem AddI.start (D Y : List Nat) : AddI D Y 0 0 [] := ⟨rfl, Dig.nil, by omega, by simp [val]⟩
theorem AddI.step {D Y P : List Nat} {k carry y : Nat} (h : AddI D Y k carry P) (hD : Dig D) (hk : k < D.length) (hy : y < Bs) (hY : val (Y.take (k + 1)) = val (Y.take k) + Bs ^ k * y) :
    AddI D Y (k + 1) (c64 D[k] y carry) (P ++ [s64 D[k] y carry]) := by
  refine ⟨by rw [List.length_append, h.len]; rfl, h.dig.app (Dig.cons (s64_lt _ _ _) Dig.nil), c64_le (hD.get k hk) hy h.le, ?_⟩
  have e := s64_spec D[k] y carry
  have e1 : Bs ^ (k + 1) * c64 D[k] y carry = Bs ^ k * (Bs * c64 D[k] y carry) := by rw [Nat.pow_succ, Nat.mul_assoc]
  rw [val_snoc, h.len, take_snoc D k hk, hY, e1, Nat.add_assoc, ← Nat.mul_add, e, Nat.mul_add, Nat.mul_add]
  have := h.eq
  omega
theorem AddI.done {D Y P : List Nat} {k carry : Nat} (h : AddI D Y k carry P) (hD : Dig D) (hk : k ≤ D.length) (hY : Y.length ≤ k) (hend : k = D.length ∨ carry = 0) :
    (P ++ D.drop k).length = D.length ∧ Dig (P ++ D.drop k) ∧ val (P ++ D.drop k) = (val D + val Y) % Bs ^ D.length := by
  have hl : (P ++ D.drop k).length = D.length := by rw [List.length_append, h.len, List.length_drop]; omega
  have hd : Dig (P ++ D.drop k) := h.dig.app (hD.drop k)
  refine ⟨hl, hd, ?_⟩
  have hlt := val_lt hd
  rw [hl] at hlt
  have hs : val D = val (D.take k) + Bs ^ k * val (D.drop k) := by
    conv => lhs; rw [← List.take_append_drop k D, val_append, List.length_take, Nat.min_eq_left hk]
  have he := h.eq
  rw [List.take_of_length_le hY] at he
  have hv : val (P ++ D.drop k) = val P + Bs ^ k * val (D.drop k) := by rw [val_append, h.len]
  rcases hend with h0 | h0
  · subst h0
    have e : val D + val Y = val (P ++ D.drop D.length) + Bs ^ D.length * carry := by omega
    rw [e, Nat.add_mul_mod_self_left, Nat.mod_eq_of_lt hlt]
  · rw [h0] at he
    rw [show val D + val Y = val (P ++ D.drop k) by omega, Nat.mod_eq_of_lt hlt]

set_option maxHeartbeats 1000000 in
set_option maxRecDepth 100000 in
theorem addTo_any (g gy oy c cy : Nat) (A D C Y : List Nat) (hD : Dig D) (hY : Dig Y) (hle : Y.length ≤ D.length) (hl : D.length ≤ 1099511627776) (hne : gy ≠ g) (w : World) (hdb : DB w g (A ++ D ++ C)) (hgy : gy < w.heap.size) (hr : Rd w gy oy Y) :
    Calls Tryd.prog 75 #[.slice (some ⟨g, A.length, none⟩) D.length c, .slice (some ⟨gy, oy, none⟩) Y.length cy] w fun e w' =>
      e = .returned (.tuple #[]) ∧ ∃ D' : List Nat, (D'.length = D.length ∧ Dig D' ∧ val D' = (val D + val Y) % Bs ^ D.length) ∧ DB w' g (A ++ D' ++ C) ∧ w.grownBy w' (some g) := by
  go_enter Tryd.func75, Tryd.ntmps75
  go_wp2
  go_loopw [4, 10] (fun x y wr => ∃ (k carry : Nat) (P : List Nat), k ≤ Y.length ∧ x = .int .u64 carry ∧ y = .int .i64 k ∧ AddI D Y k carry P ∧ DB wr g (A ++ (P ++ D.drop k) ++ C) ∧ w.grownBy wr (some g)) (fun _ y _ => Y.length - (intOf y).toNat)
  case atStart => exact ⟨0, 0, [], Nat.zero_le _, rfl, rfl, AddI.start D Y, by simpa using hdb, grown_refl w _⟩
  case round =>
    obtain ⟨k, carry, P, hk, rfl, rfl, hI, hdb1, hg1⟩ := hrel
    by_cases hky : k < Y.length
    · have hkd : k < D.length := by omega
      have hPl := hI.len
      have hc1 := hI.le
      have hstep := hI.step hD hkd (hY.get k hky) (take_snoc Y k hky)
      rw [drop_cons D k hkd] at hdb1
      have hlen : A.length + P.length < (A ++ (P ++ D[k] :: D.drop (k + 1)) ++ C).length := by simp; omega
      have hcell := hdb1.cell _ hlen
      rw [get_mid] at hcell
      have hfz := hdb1.frozen (A.length + P.length)
      have hnext := hdb1.set _ hlen (s64 D[k] Y[k] carry)
      rw [set_mid] at hnext
      rw [hPl] at hcell hfz hnext
      have hyc := (grown_cell (i := oy + k) hg1 hne hgy).trans (hr k hky)
      have hadd := add64 D[k] Y[k] carry hc1
      generalize D[k] = dk at *
      generalize Y[k] = yk at *
      have HN := Lib.hid hnext
      have HS := Lib.hid hstep
      clear hnext hstep hPl hlen hI hdb1
      go_wp2
      go_roundw
      case rel => exact ⟨k + 1, _, _, by omega, rfl, by go_num, HS.out, HN.out, grown_trans hg1 (grown_set _ _ _ _)⟩
      case measure => simp [intOf]; omega
    · have hky' : k = Y.length := by omega
      subst hky'
      go_wp2
      go_loopw [4, 7] (fun x y wr => ∃ (k carry : Nat) (P : List Nat), Y.length ≤ k ∧ k ≤ D.length ∧ x = .int .u64 carry ∧ y = .int .i64 k ∧ AddI D Y k carry P ∧ DB wr g (A ++ (P ++ D.drop k) ++ C) ∧ w.grownBy wr (some g)) (fun _ y _ => D.length - (intOf y).toNat)
      case atStart => exact ⟨Y.length, carry, P, Nat.le_refl _, hle, rfl, rfl, hI, hdb1, hg1⟩
      case round =>
        clear hI hdb1 hg1
        obtain ⟨k, carry, P, hYk, hkD, rfl, rfl, hI, hdb1, hg1⟩ := hrel
        by_cases hkd : k < D.length
        · by_cases h0 : carry = 0
          · have HE := Lib.hid (hI.done hD hkD hYk (.inr h0))
            subst h0
            clear hI
            go_wp2
            go_end0
            exact ⟨rfl, _, HE.out, hdb1, hg1⟩
          · have hPl := hI.len
            have hc1 := hI.le
            have hYt : val (Y.take (k + 1)) = val (Y.take k) + Bs ^ k * 0 := by
              rw [List.take_of_length_le (by omega), List.take_of_length_le (by omega)]; simp
            have hstep := hI.step hD hkd Bs_pos hYt
            rw [drop_cons D k hkd] at hdb1
            have hlen : A.length + P.length < (A ++ (P ++ D[k] :: D.drop (k + 1)) ++ C).length := by simp; omega
            have hcell := hdb1.cell _ hlen
            rw [get_mid] at hcell
            have hfz := hdb1.frozen (A.length + P.length)
            have hnext := hdb1.set _ hlen (s64 D[k] 0 carry)
            rw [set_mid] at hnext
            rw [hPl] at hcell hfz hnext
            have hadd := add64z D[k] carry hc1
            have hpos : decide (0 < carry) = true := by simp; omega
            generalize D[k] = dk at *
            have HN := Lib.hid hnext
            have HS := Lib.hid hstep
            clear hnext hstep hPl hlen hI hdb1 hYt
            go_wp2
            go_roundw
            case rel => exact ⟨k + 1, _, _, by omega, by omega, rfl, by go_num, HS.out, HN.out, grown_trans hg1 (grown_set _ _ _ _)⟩
            case measure => simp [intOf]; omega
        · have HE := Lib.hid (hI.done hD hkD hYk (.inl (by omega)))
          go_wp2
          all_goals go_end0
          all_goals exact ⟨rfl, _, HE.out, hdb1, hg1⟩

/-- After k places: the difference's digits so far, and the borrow. -/
structure SubI (D Y : List Nat) (k borrow : Nat) (P : List Nat) : Prop where
  len : P.length = k
  dig : Dig P
  le : borrow ≤ 1
  eq : val P + val (Y.take k) = val (D.take k) + Bs ^ k * borrow
theorem SubI.start (D Y : List Nat) : SubI D Y 0 0 [] := ⟨rfl, Dig.nil, by omega, by simp [val]⟩
theorem SubI.step {D Y P : List Nat} {k borrow y : Nat} (h : SubI D Y k borrow P) (hD : Dig D) (hk : k < D.length) (hy : y < Bs) (hY : val (Y.take (k + 1)) = val (Y.take k) + Bs ^ k * y) :
    SubI D Y (k + 1) (b64 D[k] y borrow) (P ++ [d64 D[k] y borrow]) := by
  refine ⟨by rw [List.length_append, h.len]; rfl, h.dig.app (Dig.cons (d64_lt _ _ _) Dig.nil), b64_le _ _ _, ?_⟩
  have e := d64_spec hy (hD.get k hk) h.le
  have e1 : Bs ^ (k + 1) * b64 D[k] y borrow = Bs ^ k * (Bs * b64 D[k] y borrow) := by rw [Nat.pow_succ, Nat.mul_assoc]
  have e2 := congrArg (Bs ^ k * ·) e
  simp only [Nat.mul_add] at e2
  rw [val_snoc, h.len, take_snoc D k hk, hY, e1]
  have := h.eq
  omega
theorem SubI.done {D Y P : List Nat} {k borrow : Nat} (h : SubI D Y k borrow P) (hD : Dig D) (hk : k ≤ D.length) (hY : Y.length ≤ k) (hge : val Y ≤ val D) (hend : k = D.length ∨ borrow = 0) :
    (P ++ D.drop k).length = D.length ∧ Dig (P ++ D.drop k) ∧ val (P ++ D.drop k) + val Y = val D := by
  have hl : (P ++ D.drop k).length = D.length := by rw [List.length_append, h.len, List.length_drop]; omega
  have hd : Dig (P ++ D.drop k) := h.dig.app (hD.drop k)
  refine ⟨hl, hd, ?_⟩
  have hs : val D = val (D.take k) + Bs ^ k * val (D.drop k) := by
    conv => lhs; rw [← List.take_append_drop k D, val_append, List.length_take, Nat.min_eq_left hk]
  have he := h.eq
  rw [List.take_of_length_le hY] at he
  have hv : val (P ++ D.drop k) = val P + Bs ^ k * val (D.drop k) := by rw [val_append, h.len]
  rcases hend with h0 | h0
  · subst h0
    rw [List.drop_length] at hs hv ⊢
    rw [hv]
    have hP := val_lt h.dig
    rw [h.len] at hP
    have hb := h.le
    rcases Nat.eq_zero_or_pos borrow with hb0 | hb0
    · rw [hb0] at he; simp [val] at *; omega
    · rw [show borrow = 1 by omega] at he; simp [val] at *; omega
  · rw [h0] at he; omega

set_option maxHeartbeats 1000000 in
set_option maxRecDepth 100000 in
theorem takeFrom_any (g gy oy c cy : Nat) (A D C Y : List Nat) (hD : Dig D) (hY : Dig Y) (hle : Y.length ≤ D.length) (hl : D.length ≤ 1099511627776) (hne : gy ≠ g) (w : World) (hdb : DB w g (A ++ D ++ C)) (hgy : gy < w.heap.size) (hr : Rd w gy oy Y) (hge : val Y ≤ val D) :
    Calls Tryd.prog 76 #[.slice (some ⟨g, A.length, none⟩) D.length c, .slice (some ⟨gy, oy, none⟩) Y.length cy] w fun e w' =>
      e = .returned (.tuple #[]) ∧ ∃ D' : List Nat, (D'.length = D.length ∧ Dig D' ∧ val D' + val Y = val D) ∧ DB w' g (A ++ D' ++ C) ∧ w.grownBy w' (some g) := by
  go_enter Tryd.func76, Tryd.ntmps76
  go_wp2
  go_loopw [4, 10] (fun x y wr => ∃ (k carry : Nat) (P : List Nat), k ≤ Y.length ∧ x = .int .u64 carry ∧ y = .int .i64 k ∧ SubI D Y k carry P ∧ DB wr g (A ++ (P ++ D.drop k) ++ C) ∧ w.grownBy wr (some g)) (fun _ y _ => Y.length - (intOf y).toNat)
  case atStart => exact ⟨0, 0, [], Nat.zero_le _, rfl, rfl, SubI.start D Y, by simpa using hdb, grown_refl w _⟩
  case round =>
    obtain ⟨k, carry, P, hk, rfl, rfl, hI, hdb1, hg1⟩ := hrel
    by_cases hky : k < Y.length
    · have hkd : k < D.length := by omega
      have hPl := hI.len
      have hc1 := hI.le
      have hstep := hI.step hD hkd (hY.get k hky) (take_snoc Y k hky)
      rw [drop_cons D k hkd] at hdb1
      have hlen : A.length + P.length < (A ++ (P ++ D[k] :: D.drop (k + 1)) ++ C).length := by simp; omega
      have hcell := hdb1.cell _ hlen
      rw [get_mid] at hcell
      have hfz := hdb1.frozen (A.length + P.length)
      have hnext := hdb1.set _ hlen (d64 D[k] Y[k] carry)
      rw [set_mid] at hnext
      rw [hPl] at hcell hfz hnext
      have hyc := (grown_cell (i := oy + k) hg1 hne hgy).trans (hr k hky)
      have hadd := sub64 D[k] Y[k] carry hc1
      generalize D[k] = dk at *
      generalize Y[k] = yk at *
      have HN := Lib.hid hnext
      have HS := Lib.hid hstep
      clear hnext hstep hPl hlen hI hdb1
      go_wp2
      go_roundw
      case rel => exact ⟨k + 1, _, _, by omega, rfl, by go_num, HS.out, HN.out, grown_trans hg1 (grown_set _ _ _ _)⟩
      case measure => simp [intOf]; omega
    · have hky' : k = Y.length := by omega
      subst hky'
      go_wp2
      go_loopw [4, 7] (fun x y wr => ∃ (k carry : Nat) (P : List Nat), Y.length ≤ k ∧ k ≤ D.length ∧ x = .int .u64 carry ∧ y = .int .i64 k ∧ SubI D Y k carry P ∧ DB wr g (A ++ (P ++ D.drop k) ++ C) ∧ w.grownBy wr (some g)) (fun _ y _ => D.length - (intOf y).toNat)
      case atStart => exact ⟨Y.length, carry, P, Nat.le_refl _, hle, rfl, rfl, hI, hdb1, hg1⟩
      case round =>
        clear hI hdb1 hg1
        obtain ⟨k, carry, P, hYk, hkD, rfl, rfl, hI, hdb1, hg1⟩ := hrel
        by_cases hkd : k < D.length
        · by_cases h0 : carry = 0
          · have HE := Lib.hid (hI.done hD hkD hYk hge (.inr h0))
            subst h0
            clear hI
            go_wp2
            go_end0
            exact ⟨rfl, _, HE.out, hdb1, hg1⟩
          · have hPl := hI.len
            have hc1 := hI.le
            have hYt : val (Y.take (k + 1)) = val (Y.take k) + Bs ^ k * 0 := by
              rw [List.take_of_length_le (by omega), List.take_of_length_le (by omega)]; simp
            have hstep := hI.step hD hkd Bs_pos hYt
            rw [drop_cons D k hkd] at hdb1
            have hlen : A.length + P.length < (A ++ (P ++ D[k] :: D.drop (k + 1)) ++ C).length := by simp; omega
            have hcell := hdb1.cell _ hlen
            rw [get_mid] at hcell
            have hfz := hdb1.frozen (A.length + P.length)
            have hnext := hdb1.set _ hlen (d64 D[k] 0 carry)
            rw [set_mid] at hnext
            rw [hPl] at hcell hfz hnext
            have hadd := sub64z D[k] carry hc1
            have hpos : decide (0 < carry) = true := by simp; omega
            generalize D[k] = dk at *
            have HN := Lib.hid hnext
            have HS := Lib.hid hstep
            clear hnext hstep hPl hlen hI hdb1 hYt
            go_wp2
            go_roundw
            case rel => exact ⟨k + 1, _, _, by omega, by omega, rfl, by go_num, HS.out, HN.out, grown_trans hg1 (grown_set _ _ _ _)⟩
            case measure => simp [intOf]; omega
        · have HE := Lib.hid (hI.done hD hkD hYk hge (.inl (by omega)))
          go_wp2
          all_goals go_end0
          all_goals exact ⟨rfl, _, HE.out, hdb1, hg1⟩
end Go.Proofs.YthehcjfmokabfaaDoor
