/-
  Layer 1, walks H: addProduct, takeProduct.
-/
import Derived.Test.YthehcjfmokabfaaDoorWg
set_option linter.unusedVariables false
set_option linter.unusedSimpArgs false
namespace Go.Proofs.YthehcjfmokabfaaDoor
open Go.RowKit

/-- One digit of a sum with a product, and what is carried. -/
def pd (d y f c : Nat) : Nat := s64 (s64 d (ml y f) 0) c 0
def pc (d y f c : Nat) : Nat := mh y f + c64 d (ml y f) 0 + c64 (s64 d (ml y f) 0) c 0
theorem p_spec (d y f c : Nat) : pd d y f c + Bs * pc d y f c = d + y * f + c := by
  unfold pd pc
  have h1 := s64_spec d (ml y f) 0
  have h2 := s64_spec (s64 d (ml y f) 0) c 0
  have h3 := mul_spec y f
  rw [Nat.mul_add, Nat.mul_add]; omega
theorem sq_bound {a b : Nat} (ha : a < Bs) (hb : b < Bs) : a * b + Bs + Bs ≤ Bs * Bs + 1 := by
  have h1 : a * b ≤ (Bs - 1) * (Bs - 1) := Nat.mul_le_mul (by omega) (by omega)
  obtain ⟨t, ht⟩ : ∃ t, Bs = t + 1 := ⟨Bs - 1, by have := Bs_pos; omega⟩
  rw [ht] at h1 ⊢
  simp only [Nat.add_sub_cancel] at h1
  rw [Nat.add_mul, Nat.mul_add]; omega
theorem pc_lt {d y f c : Nat} (hd : d < Bs) (hy : y < Bs) (hf : f < Bs) (hc : c < Bs) : pc d y f c < Bs := by
  have h := p_spec d y f c
  have h2 := sq_bound hy hf
  have : Bs * pc d y f c < Bs * Bs := by omega
  exact Nat.lt_of_mul_lt_mul_left this
theorem pd_lt (d y f c : Nat) : pd d y f c < Bs := s64_lt _ _ _
/-- One digit of a difference with a product, and what is borrowed. -/
def qd (d y f c : Nat) : Nat := d64 (d64 d (ml y f) 0) c 0
def qc (d y f c : Nat) : Nat := mh y f + b64 d (ml y f) 0 + b64 (d64 d (ml y f) 0) c 0
theorem q_spec {d y f c : Nat} (hd : d < Bs) (hc : c < Bs) : qd d y f c + y * f + c = d + Bs * qc d y f c := by
  unfold qd qc
  have h1 := d64_spec (c := 0) (ml_lt y f) hd (by omega)
  have h2 := d64_spec (c := 0) hc (d64_lt d (ml y f) 0) (by omega)
  have h3 := mul_spec y f
  rw [Nat.mul_add, Nat.mul_add]; omega
theorem qd_lt (d y f c : Nat) : qd d y f c < Bs := d64_lt _ _ _
theorem qc_lt {d y f c : Nat} (hd : d < Bs) (hy : y < Bs) (hf : f < Bs) (hc : c < Bs) : qc d y f c < Bs := by
  have h := q_spec (y := y) (f := f) hd hc
  have h1 := qd_lt d y f c
  have h2 := sq_bound hy hf
  have : Bs * qc d y f c < Bs * Bs := by omega
  exact Nat.lt_of_mul_lt_mul_left this

structure MulI (D Y : List Nat) (f k carry : Nat) (P : List Nat) : Prop where
  len : P.length = k
  dig : Dig P
  le : carry < Bs
  eq : val P + Bs ^ k * carry = val (D.take k) + f * val (Y.take k)
theorem MulI.start (D Y : List Nat) (f : Nat) : MulI D Y f 0 0 [] := ⟨rfl, Dig.nil, Bs_pos, by simp [val]⟩
theorem MulI.step {D Y P : List Nat} {f k carry : Nat} (h : MulI D Y f k carry P) (hD : Dig D) (hY : Dig Y) (hf : f < Bs) (hk : k < D.length) (hky : k < Y.length) :
    MulI D Y f (k + 1) (pc D[k] Y[k] f carry) (P ++ [pd D[k] Y[k] f carry]) := by
  refine ⟨by rw [List.length_append, h.len]; rfl, h.dig.app (Dig.cons (pd_lt _ _ _ _) Dig.nil), pc_lt (hD.get k hk) (hY.get k hky) hf h.le, ?_⟩
  have e := congrArg (Bs ^ k * ·) (p_spec D[k] Y[k] f carry)
  simp only [Nat.mul_add] at e
  have e1 : Bs ^ (k + 1) * pc D[k] Y[k] f carry = Bs ^ k * (Bs * pc D[k] Y[k] f carry) := by rw [Nat.pow_succ, Nat.mul_assoc]
  have e2 : f * (Bs ^ k * Y[k]) = Bs ^ k * (Y[k] * f) := by rw [Nat.mul_left_comm, Nat.mul_comm f]
  rw [val_snoc, h.len, take_snoc D k hk, take_snoc Y k hky, e1, Nat.mul_add, e2]
  have := h.eq
  omega
structure TakI (D Y : List Nat) (f k carry : Nat) (P : List Nat) : Prop where
  len : P.length = k
  dig : Dig P
  le : carry < Bs
  eq : val P + f * val (Y.take k) = val (D.take k) + Bs ^ k * carry
theorem TakI.start (D Y : List Nat) (f : Nat) : TakI D Y f 0 0 [] := ⟨rfl, Dig.nil, Bs_pos, by simp [val]⟩
theorem TakI.step {D Y P : List Nat} {f k carry : Nat} (h : TakI D Y f k carry P) (hD : Dig D) (hY : Dig Y) (hf : f < Bs) (hk : k < D.length) (hky : k < Y.length) :
    TakI D Y f (k + 1) (qc D[k] Y[k] f carry) (P ++ [qd D[k] Y[k] f carry]) := by
  refine ⟨by rw [List.length_append, h.len]; rfl, h.dig.app (Dig.cons (qd_lt _ _ _ _) Dig.nil), qc_lt (hD.get k hk) (hY.get k hky) hf h.le, ?_⟩
  have e := congrArg (Bs ^ k * ·) (q_spec (y := Y[k]) (f := f) (hD.get k hk) h.le)
  simp only [Nat.mul_add] at e
  have e1 : Bs ^ (k + 1) * qc D[k] Y[k] f carry = Bs ^ k * (Bs * qc D[k] Y[k] f carry) := by rw [Nat.pow_succ, Nat.mul_assoc]
  have e2 : f * (Bs ^ k * Y[k]) = Bs ^ k * (Y[k] * f) := by rw [Nat.mul_left_comm, Nat.mul_comm f]
  rw [val_snoc, h.len, take_snoc D k hk, take_snoc Y k hky, e1, Nat.mul_add, e2]
  have := h.eq
  omega
theorem TakI.step' {D Y P : List Nat} {f k carry : Nat} (h : TakI D Y f k carry P) (hD : Dig D) (hk : k < D.length) (hky : Y.length ≤ k) :
    TakI D Y f (k + 1) (b64 D[k] carry 0) (P ++ [d64 D[k] carry 0]) := by
  refine ⟨by rw [List.length_append, h.len]; rfl, h.dig.app (Dig.cons (d64_lt _ _ _) Dig.nil), by have := b64_le D[k] carry 0; have := Bs_gt; omega, ?_⟩
  have e := congrArg (Bs ^ k * ·) (d64_spec (c := 0) h.le (hD.get k hk) (by omega))
  simp only [Nat.mul_add] at e
  have e1 : Bs ^ (k + 1) * b64 D[k] carry 0 = Bs ^ k * (Bs * b64 D[k] carry 0) := by rw [Nat.pow_succ, Nat.mul_assoc]
  have he := h.eq
  rw [List.take_of_length_le hky] at he
  rw [val_snoc, h.len, take_snoc D k hk, List.take_of_length_le (by omega : Y.length ≤ k + 1), e1]
  omega
theorem TakI.done {D Y P : List Nat} {f k carry : Nat} (h : TakI D Y f k carry P) (hD : Dig D) (hk : k ≤ D.length) (hY : Y.length ≤ k) (hlt : Y.length < D.length) (h1 : k = Y.length ∨ carry ≤ 1) (hend : k = D.length ∨ carry = 0) :
    (P ++ D.drop k).length = D.length ∧ Dig (P ++ D.drop k) ∧ val (P ++ D.drop k) + f * val Y = val D + if decide (0 < carry) then Bs ^ D.length else 0 := by
  have hl : (P ++ D.drop k).length = D.length := by rw [List.length_append, h.len, List.length_drop]; omega
  refine ⟨hl, h.dig.app (hD.drop k), ?_⟩
  have hs : val D = val (D.take k) + Bs ^ k * val (D.drop k) := by
    conv => lhs; rw [← List.take_append_drop k D, val_append, List.length_take, Nat.min_eq_left hk]
  have he := h.eq
  rw [List.take_of_length_le hY] at he
  have hv : val (P ++ D.drop k) = val P + Bs ^ k * val (D.drop k) := by rw [val_append, h.len]
  by_cases h0 : carry = 0
  · rw [h0] at he ⊢; simp at he ⊢; omega
  · have hk' : k = D.length := hend.resolve_right h0
    have hc : carry = 1 := by omega
    rw [hc] at he ⊢
    subst hk'
    simp at he ⊢; omega

set_option maxHeartbeats 1000000 in
set_option maxRecDepth 100000 in
theorem addProduct_any (g gy oy c cy f : Nat) (A D C Y : List Nat) (hD : Dig D) (hY : Dig Y) (hf : f < Bs) (hle : Y.length ≤ D.length) (hl : D.length ≤ 1099511627776) (hne : gy ≠ g) (w : World) (hdb : DB w g (A ++ D ++ C)) (hgy : gy < w.heap.size) (hr : Rd w gy oy Y) :
    Calls Tryd.prog 64 #[.slice (some ⟨g, A.length, none⟩) D.length c, .slice (some ⟨gy, oy, none⟩) Y.length cy, .int .u64 (f : Int)] w fun e w' =>
      ∃ (carry : Nat) (P : List Nat), e = .returned (.int .u64 (carry : Int)) ∧ MulI D Y f Y.length carry P ∧ DB w' g (A ++ (P ++ D.drop Y.length) ++ C) ∧ w.grownBy w' (some g) := by
  go_enter Tryd.func64, Tryd.ntmps64
  go_wp2
  go_loopw [7, 16] (fun x y wr => ∃ (k carry : Nat) (P : List Nat), k ≤ Y.length ∧ x = .int .u64 carry ∧ y = .int .i64 k ∧ MulI D Y f k carry P ∧ DB wr g (A ++ (P ++ D.drop k) ++ C) ∧ w.grownBy wr (some g)) (fun _ y _ => Y.length - (intOf y).toNat)
  case atStart => exact ⟨0, 0, [], Nat.zero_le _, rfl, rfl, MulI.start D Y f, by simpa using hdb, grown_refl w _⟩
  case round =>
    obtain ⟨k, carry, P, hk, rfl, rfl, hI, hdb1, hg1⟩ := hrel
    by_cases hky : k < Y.length
    · have hkd : k < D.length := by omega
      have hPl := hI.len
      have hc1 := hI.le
      have hyl := hY.get k hky
      have hstep := hI.step hD hY hf hkd hky
      have hpc := pc_lt (hD.get k hkd) hyl hf hc1
      rw [drop_cons D k hkd] at hdb1
      have hlen : A.length + P.length < (A ++ (P ++ D[k] :: D.drop (k + 1)) ++ C).length := by simp; omega
      have hcell := hdb1.cell _ hlen
      rw [get_mid] at hcell
      have hfz := hdb1.frozen (A.length + P.length)
      have hnext := hdb1.set _ hlen (pd D[k] Y[k] f carry)
      rw [set_mid] at hnext
      rw [hPl] at hcell hfz hnext
      have hyc := (grown_cell (i := oy + k) hg1 hne hgy).trans (hr k hky)
      generalize D[k] = dk at *
      generalize Y[k] = yk at *
      have hadd1 := add64c dk (ml yk f)
      have hadd2 := add64c (s64 dk (ml yk f) 0) carry
      have b1 : ((mh yk f : Nat) : Int) + ((c64 dk (ml yk f) 0 : Nat) : Int) ≤ 18446744073709551615 := by unfold pc Bs at hpc; omega
      have b2 : ((mh yk f : Nat) : Int) + ((c64 dk (ml yk f) 0 : Nat) : Int) + ((c64 (s64 dk (ml yk f) 0) carry 0 : Nat) : Int) ≤ 18446744073709551615 := by unfold pc Bs at hpc; omega
      have HM := Lib.hid (mul64 yk f hyl hf)
      have HN := Lib.hid hnext
      have HS := Lib.hid hstep
      clear hnext hstep hPl hlen hI hdb1 hpc hyl hc1
      go_wp2_with (go_at_call 63; refine (HM.out _).mono ?_; rintro e w1 ⟨rfl, rfl⟩)
      go_roundw
      case rel => exact ⟨k + 1, _, _, by omega, by unfold pc; go_num, by go_num, HS.out, HN.out, grown_trans hg1 (grown_set _ _ _ _)⟩
      case measure => simp [intOf]; omega
    · have hky' : k = Y.length := by omega
      subst hky'
      go_wp2
      go_ret
      exact ⟨carry, P, rfl, hI, hdb1, hg1⟩

set_option maxHeartbeats 2000000 in
set_option maxRecDepth 100000 in
theorem takeProduct_any (g gy oy c cy f : Nat) (A D C Y : List Nat) (hD : Dig D) (hY : Dig Y) (hf : f < Bs) (hle : Y.length < D.length) (hl : D.length ≤ 1099511627776) (hne : gy ≠ g) (w : World) (hdb : DB w g (A ++ D ++ C)) (hgy : gy < w.heap.size) (hr : Rd w gy oy Y) :
    Calls Tryd.prog 103 #[.slice (some ⟨g, A.length, none⟩) D.length c, .slice (some ⟨gy, oy, none⟩) Y.length cy, .int .u64 (f : Int)] w fun e w' =>
      ∃ (b : Bool) (D' : List Nat), e = .returned (.bool b) ∧ (D'.length = D.length ∧ Dig D' ∧ val D' + f * val Y = val D + if b then Bs ^ D.length else 0) ∧ DB w' g (A ++ D' ++ C) ∧ w.grownBy w' (some g) := by
  go_enter Tryd.func103, Tryd.ntmps103
  go_wp2
  go_loopw [7, 17] (fun x y wr => ∃ (k carry : Nat) (P : List Nat), k ≤ Y.length ∧ x = .int .u64 carry ∧ y = .int .i64 k ∧ TakI D Y f k carry P ∧ DB wr g (A ++ (P ++ D.drop k) ++ C) ∧ w.grownBy wr (some g)) (fun _ y _ => Y.length - (intOf y).toNat)
  case atStart => exact ⟨0, 0, [], Nat.zero_le _, rfl, rfl, TakI.start D Y f, by simpa using hdb, grown_refl w _⟩
  case round =>
    obtain ⟨k, carry, P, hk, rfl, rfl, hI, hdb1, hg1⟩ := hrel
    by_cases hky : k < Y.length
    · have hkd : k < D.length := by omega
      have hPl := hI.len
      have hc1 := hI.le
      have hyl := hY.get k hky
      have hstep := hI.step hD hY hf hkd hky
      have hpc := qc_lt (hD.get k hkd) hyl hf hc1
      rw [drop_cons D k hkd] at hdb1
      have hlen : A.length + P.length < (A ++ (P ++ D[k] :: D.drop (k + 1)) ++ C).length := by simp; omega
      have hcell := hdb1.cell _ hlen
      rw [get_mid] at hcell
      have hfz := hdb1.frozen (A.length + P.length)
      have hnext := hdb1.set _ hlen (qd D[k] Y[k] f carry)
      rw [set_mid] at hnext
      rw [hPl] at hcell hfz hnext
      have hyc := (grown_cell (i := oy + k) hg1 hne hgy).trans (hr k hky)
      generalize D[k] = dk at *
      generalize Y[k] = yk at *
      have hadd1 := sub64c dk (ml yk f)
      have hadd2 := sub64c (d64 dk (ml yk f) 0) carry
      have b1 : ((mh yk f : Nat) : Int) + ((b64 dk (ml yk f) 0 : Nat) : Int) ≤ 18446744073709551615 := by unfold qc Bs at hpc; omega
      have b2 : ((mh yk f : Nat) : Int) + ((b64 dk (ml yk f) 0 : Nat) : Int) + ((b64 (d64 dk (ml yk f) 0) carry 0 : Nat) : Int) ≤ 18446744073709551615 := by unfold qc Bs at hpc; omega
      have HM := Lib.hid (mul64 yk f hyl hf)
      have HN := Lib.hid hnext
      have HS := Lib.hid hstep
      clear hnext hstep hPl hlen hI hdb1 hpc hyl hc1
      go_wp2_with (go_at_call 63; refine (HM.out _).mono ?_; rintro e w1 ⟨rfl, rfl⟩)
      go_roundw
      case rel => exact ⟨k + 1, _, _, by omega, by unfold qc; go_num, by go_num, HS.out, HN.out, grown_trans hg1 (grown_set _ _ _ _)⟩
      case measure => simp [intOf]; omega
    · have hky' : k = Y.length := by omega
      subst hky'
      go_wp2
      go_loopw [7, 14] (fun x y wr => ∃ (k carry : Nat) (P : List Nat), Y.length ≤ k ∧ k ≤ D.length ∧ (k = Y.length ∨ carry ≤ 1) ∧ x = .int .u64 carry ∧ y = .int .i64 k ∧ TakI D Y f k carry P ∧ DB wr g (A ++ (P ++ D.drop k) ++ C) ∧ w.grownBy wr (some g)) (fun _ y _ => D.length - (intOf y).toNat)
      case atStart => exact ⟨Y.length, carry, P, Nat.le_refl _, Nat.le_of_lt hle, .inl rfl, rfl, rfl, hI, hdb1, hg1⟩
      case round =>
        clear hI hdb1 hg1
        obtain ⟨k, carry, P, hYk, hkD, hor, rfl, rfl, hI, hdb1, hg1⟩ := hrel
        by_cases hkd : k < D.length
        · by_cases h0 : carry = 0
          · have HE := Lib.hid (hI.done hD hkD hYk hle hor (.inr h0))
            subst h0
            clear hor hI
            go_wp2
            go_ret
            exact ⟨_, _, rfl, HE.out, hdb1, hg1⟩
          · have hPl := hI.len
            have hc1 := hI.le
            have hstep := hI.step' hD hkd hYk
            rw [drop_cons D k hkd] at hdb1
            have hlen : A.length + P.length < (A ++ (P ++ D[k] :: D.drop (k + 1)) ++ C).length := by simp; omega
            have hcell := hdb1.cell _ hlen
            rw [get_mid] at hcell
            have hfz := hdb1.frozen (A.length + P.length)
            have hnext := hdb1.set _ hlen (d64 D[k] carry 0)
            rw [set_mid] at hnext
            rw [hPl] at hcell hfz hnext
            have hadd := sub64c D[k] carry
            have hb := b64_le D[k] carry 0
            generalize D[k] = dk at *
            have HB := Lib.hid hb
            have HN := Lib.hid hnext
            have HS := Lib.hid hstep
            have hpos : decide (0 < carry) = true := by simp; omega
            clear hnext hstep hPl hlen hI hdb1 hor hb hc1
            go_wp2
            go_roundw
            case rel => exact ⟨k + 1, _, _, by omega, by omega, .inr HB.out, rfl, by go_num, HS.out, HN.out, grown_trans hg1 (grown_set _ _ _ _)⟩
            case measure => simp [intOf]; omega
        · have HE := Lib.hid (hI.done hD hkD hYk hle hor (.inl (by omega)))
          clear hor hI
          go_wp2
          all_goals go_ret
          all_goals exact ⟨_, _, rfl, HE.out, hdb1, hg1⟩
end Go.Proofs.YthehcjfmokabfaaDoor
