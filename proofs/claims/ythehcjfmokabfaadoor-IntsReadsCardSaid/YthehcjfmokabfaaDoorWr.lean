/-
  Layer 1, walks R: difference, combine, descend, gcdOfDigits, Gcd.
-/
import Derived.Test.YthehcjfmokabfaaDoorWq
set_option linter.unusedVariables false
set_option linter.unusedSimpArgs false
namespace Go.Proofs.YthehcjfmokabfaaDoor
open Go.RowKit
attribute [local irreducible] lo hs sm s64 c64 d64 b64 mh ml pd pc qd qc val hiB str cmpI srD lz

theorem addP0 (g gy c cy f K n : Nat) (D Y : List Nat) (hK : D.length = K) (hn : Y.length = n) (hD : Dig D) (hY : Dig Y) (hf : f < Bs) (hle : n ≤ K) (hl : K ≤ 1099511627776) (hne : gy ≠ g) (w : World) (hdb : DB w g D) (hgy : gy < w.heap.size) (hr : Rd w gy 0 Y) :
    Calls Tryd.prog 64 #[.slice (some ⟨g, 0, none⟩) K c, .slice (some ⟨gy, 0, none⟩) n cy, .int .u64 (f : Int)] w fun e w' =>
      ∃ (carry : Nat) (P : List Nat), e = .returned (.int .u64 (carry : Int)) ∧ MulI D Y f n carry P ∧ DB w' g (P ++ D.drop n) ∧ w.grownBy w' (some g) := by
  subst hK; subst hn
  refine (addProduct_any g gy 0 c cy f [] D [] Y hD hY hf hle hl hne w (by simpa using hdb) hgy hr).mono ?_
  rintro e w' ⟨carry, P, h1, h2, h3, h4⟩
  exact ⟨carry, P, h1, h2, by simpa using h3, h4⟩
theorem takeP0 (g gy c cy f K n : Nat) (D Y : List Nat) (hK : D.length = K) (hn : Y.length = n) (hD : Dig D) (hY : Dig Y) (hf : f < Bs) (hle : n < K) (hl : K ≤ 1099511627776) (hne : gy ≠ g) (w : World) (hdb : DB w g D) (hgy : gy < w.heap.size) (hr : Rd w gy 0 Y) :
    Calls Tryd.prog 103 #[.slice (some ⟨g, 0, none⟩) K c, .slice (some ⟨gy, 0, none⟩) n cy, .int .u64 (f : Int)] w fun e w' =>
      ∃ (b : Bool) (D' : List Nat), e = .returned (.bool b) ∧ (D'.length = K ∧ Dig D' ∧ val D' + f * val Y = val D + if b then Bs ^ K else 0) ∧ DB w' g D' ∧ w.grownBy w' (some g) := by
  subst hK; subst hn
  refine (takeProduct_any g gy 0 c cy f [] D [] Y hD hY hf hle hl hne w (by simpa using hdb) hgy hr).mono ?_
  rintro e w' ⟨b, D', h1, h2, h3, h4⟩
  exact ⟨b, D', h1, h2, by simpa using h3, h4⟩
theorem trim0 (g c K : Nat) (l : List Nat) (hK : l.length = K) (hd : Dig l) (hl : K ≤ maxLen) (hcap : K ≤ c) (w : World) (hdb : DB w g l) :
    Calls Tryd.prog 53 #[.slice (some ⟨g, 0, none⟩) K c] w fun e w' =>
      e = .returned (.slice (some ⟨g, 0, none⟩) (digs (val l)).length c) ∧ w = w' := by
  subst hK
  exact trim_any g 0 c l hd hl hcap w hdb.rd0

/-- The first product, with its carry put at its place. -/
theorem dif_first {K n x a carry : Nat} {P : List Nat} (hn : (digs x).length = n) (hnK : n < K) (h : MulI (List.replicate K 0) (digs x) a n carry P) :
    ((P ++ List.drop n (List.replicate K 0)).set n carry).length = K ∧ Dig ((P ++ List.drop n (List.replicate K 0)).set n carry) ∧ val ((P ++ List.drop n (List.replicate K 0)).set n carry) = a * x := by
  have e : (P ++ List.drop n (List.replicate K 0)).set n carry = P ++ carry :: List.replicate (K - n - 1) 0 := by
    rw [List.set_append_right _ _ (by rw [h.len]; exact Nat.le_refl _), h.len, Nat.sub_self, List.drop_replicate]
    obtain ⟨j, hj⟩ : ∃ j, K - n = j + 1 := ⟨K - n - 1, by omega⟩
    rw [hj, List.replicate_succ, List.set_cons_zero]; rfl
  have he := h.eq
  rw [List.take_replicate, Nat.min_eq_left (Nat.le_of_lt hnK), val_zeros, ← hn, List.take_length, val_digs, Nat.zero_add, hn] at he
  rw [e]
  refine ⟨by simp [h.len]; omega, h.dig.app (Dig.cons h.le (Dig.zeros _)), ?_⟩
  rw [val_append, val_cons, val_zeros, h.len, Nat.mul_zero, Nat.add_zero]; exact he
theorem dif_last {K b y d v : Nat} {D' : List Nat} {c : Bool} (hK : D'.length = K) (hD : Dig D') (h : val D' + b * y = b * y + d + if c then v else 0) (hv : v = Bs ^ K) : val D' = d := by
  have h1 := val_lt hD
  rw [hK, ← hv] at h1
  cases c <;> simp at h <;> omega

set_option maxHeartbeats 2000000 in
set_option maxRecDepth 100000 in
theorem difference_any (gx gy cx cy a b x y d n m : Nat) (X Y : List Nat) (ha : a < Bs) (hb : b < Bs) (hn : (digs x).length = n) (hm : (digs y).length = m) (hnl : n ≤ 1000000000000) (hml : m ≤ 1000000000000)
    (hd : a * x = b * y + d) (w : World) (hdx : DB w gx (digs x ++ X)) (hdy : DB w gy (digs y ++ Y)) :
    Calls Tryd.prog 92 #[.slice (some ⟨gx, 0, none⟩) n cx, .slice (some ⟨gy, 0, none⟩) m cy, .int .u64 (a : Int), .int .u64 (b : Int)] w fun e w' =>
      ∃ g c z, e = .returned (.slice (some ⟨g, 0, none⟩) (digs d).length c) ∧ DB w' g (digs d ++ List.replicate z 0) ∧ (digs d).length ≤ c ∧ w.heap.size ≤ g ∧ Below w.heap.size w w' := by
  obtain ⟨K, hK⟩ : ∃ K, K = max n m + 1 := ⟨_, rfl⟩
  have hmk : (Instr.makeSlice 81 (.int .i64 (K : Int)) (.int .i64 (K : Int))).run Tryd.prog w = .ok (.slice (some ⟨w.heap.size, 0, none⟩) K K) (w.alloc (zobj K)) := make64 w _ K (by omega) (by omega)
  have hmax : max (n : Int) (m : Int) + 1 = (K : Int) := by omega
  have hz := DB.zeros w K
  have hbz : Below w.heap.size w (w.alloc (zobj K)) := (Below.refl _ _).alloc (Nat.le_refl _) _
  have hsz : w.heap.size < (w.alloc (zobj K)).heap.size := by simp
  have hdx0 := hdx.alloc (zobj K)
  have hdy0 := hdy.alloc (zobj K)
  have hgx : gx < w.heap.size := hdx.lt
  have hgy : gy < w.heap.size := hdy.lt
  have HA := Lib.hid (addP0 w.heap.size gx K cx a K n (List.replicate K 0) (digs x) (by simp) hn (Dig.zeros K) (digs_dig x) ha (by omega) (by omega) (by omega) (w.alloc (zobj K)) hz (by omega) hdx0.rdl)
  clear hdx hdx0 hz
  generalize hW : w.alloc (zobj K) = W1 at *
  have HB := fun D hD => takeP0 w.heap.size gy K cy b K m D (digs y) hD hm
  have HT := fun D hD => trim0 w.heap.size K K D hD
  replace HB := Lib.hid HB
  replace HT := Lib.hid HT
  replace hK := Lib.hid hK
  replace hd := Lib.hid hd
  replace hn := Lib.hid hn
  replace hm := Lib.hid hm
  go_enter Tryd.func92, Tryd.ntmps92
  go_wp2_with fail
  refine (HA.out).mono ?_
  rintro e w2 ⟨carry, P, rfl, hP, hdP, hg2⟩
  have hcb := hP.le
  have hPl := hP.len
  have hKn := hK.out
  have hset := hdP.set n (by simp [hPl]; omega) carry
  have hcell := hdP.cell n (by simp [hPl]; omega)
  have hfz := hdP.frozen n
  generalize hU : w2.setCell ⟨w.heap.size, n, none⟩ (.int .u64 (carry : Int)) = W3 at *
  have hnK : n < K := by omega
  clear hKn
  obtain ⟨q1, q2, q3⟩ := dif_first hn.out hnK hP
  generalize (P ++ List.drop n (List.replicate K 0)).set n carry = D3 at *
  have hg3 : W1.grownBy W3 (some w.heap.size) := by rw [← hU]; exact grown_trans hg2 (grown_set _ _ _ _)
  have hB3 := hbz.trans (grown_below hg3 (Nat.le_refl _) (Nat.le_of_lt hsz))
  have hdy3 := hdy.below hB3 hgy
  have HB3 := Lib.hid (HB.out D3 q1 q2 (digs_dig y) hb (by have := hK.out; omega) (by omega) (by omega) W3 hset hdy3.lt hdy3.rdl)
  have hB3 := Lib.hid hB3
  have hs3 : w.heap.size < W3.heap.size := hset.lt
  go_wp2_with fail
  refine (HB3.out).mono ?_
  rintro e w4 ⟨c, D4, rfl, ⟨h1, h2, h3⟩, hd4, hg4⟩
  rw [q3, hd.out, val_digs] at h3
  have hv := dif_last h1 h2 h3 rfl
  have HT4 := Lib.hid (HT.out D4 h1 h2 (by unfold maxLen; omega) (Nat.le_refl _) w4 hd4)
  rw [hv] at HT4
  clear hW hU HB HT HB3 hg2 hg3 h3 hcell hfz hP hdP
  go_wp2_with fail
  refine (HT4.out).mono ?_
  rintro e w5 ⟨rfl, rfl⟩
  go_wp2_with fail
  go_ret
  obtain ⟨z, hz⟩ := norm D4 h2
  rw [hv] at hz
  refine ⟨_, _, z, rfl, by rw [← hz]; exact hd4, ?_, Nat.le_refl _, hB3.out.trans (grown_below hg4 (Nat.le_refl _) (Nat.le_of_lt hs3))⟩
  have := congrArg List.length hz
  simp at this; omega

theorem boxes1 (w : World) (A1 A2 : Value) (t : TypeId) : ∃ w0, w.alloc (.cells #[A1, A2] t) = w0 ∧ Bx w0 w.heap.size A1 A2 ∧ Below w.heap.size w w0 ∧ w.heap.size < w0.heap.size :=
  ⟨_, rfl, Bx.of _ _ _ _ _ (al1 w _), (Below.refl _ _).alloc (Nat.le_refl _) _, by simp⟩

set_option maxHeartbeats 2000000 in
set_option maxRecDepth 100000 in
theorem combine_any (gx gy cx cy x y d n m : Nat) (A B : Int) (X Y : List Nat) (hn : (digs x).length = n) (hm : (digs y).length = m) (hnl : n ≤ 1000000000000) (hml : m ≤ 1000000000000)
    (hA1 : -4611686018427387904 ≤ A) (hA2 : A ≤ 4611686018427387904) (hB1 : -4611686018427387904 ≤ B) (hB2 : B ≤ 4611686018427387904) (hs1 : A ≤ 0 → 0 ≤ B) (hs2 : 0 < A → B ≤ 0)
    (hd : (d : Int) = A * x + B * y) (w : World) (hdx : DB w gx (digs x ++ X)) (hdy : DB w gy (digs y ++ Y)) :
    Calls Tryd.prog 71 #[.slice (some ⟨gx, 0, none⟩) n cx, .slice (some ⟨gy, 0, none⟩) m cy, .agg #[.int .i64 A, .int .i64 B]] w fun e w' =>
      ∃ g c z, e = .returned (.slice (some ⟨g, 0, none⟩) (digs d).length c) ∧ DB w' g (digs d ++ List.replicate z 0) ∧ (digs d).length ≤ c ∧ w.heap.size ≤ g ∧ Below w.heap.size w w' := by
  obtain ⟨w0, hw0, hbx, hbw, hsz⟩ := boxes1 w (.int .i64 A) (.int .i64 B) 118
  obtain ⟨a0, a1, af⟩ := hbx
  have hdx0 := hdx.below hbw hdx.lt
  have hdy0 := hdy.below hbw hdy.lt
  by_cases hA : A ≤ 0
  · have hB := hs1 hA
    obtain ⟨a, ha⟩ := Int.eq_ofNat_of_zero_le (show 0 ≤ -A by omega)
    obtain ⟨b, hb⟩ := Int.eq_ofNat_of_zero_le hB
    have hsum : b * y = a * x + d := by
      have h1 : A * (x : Int) = -((a * x : Nat) : Int) := by rw [Int.natCast_mul, ← ha, Int.neg_mul, Int.neg_neg]
      have h2 : B * (y : Int) = ((b * y : Nat) : Int) := by rw [Int.natCast_mul, ← hb]
      rw [h1, h2] at hd; omega
    have HD := Lib.hid (difference_any gy gx cy cx b a y x d m n Y X (by unfold Bs; omega) (by unfold Bs; omega) hm hn hml hnl hsum w0 hdy0 hdx0)
    have hA0 : decide (A ≤ 0) = true := decide_eq_true hA
    have r1 : IntKind.i64.wrap (-A) = -A := IntWalk.i64_in _ (by omega)
    have r2 : IntKind.u64.wrap (-A) = (a : Int) := by rw [ha]; exact wrapN _ (by omega)
    have r3 : IntKind.u64.wrap B = (b : Int) := by rw [hb]; exact wrapN _ (by omega)
    clear hdx hdy hdx0 hdy0 hsum hd ha hb hA hB hA1 hA2 hB1 hB2 hs1 hs2
    go_enter Tryd.func71, Tryd.ntmps71
    go_wp2_with fail
    refine (HD.out).mono ?_
    rintro e w1 ⟨g, c, z, rfl, h1, h2, h3, h4⟩
    go_wp2_with fail
    go_ret
    exact ⟨g, c, z, rfl, h1, h2, by omega, hbw.trans (h4.mono (by omega))⟩
  · have hB := hs2 (by omega)
    obtain ⟨a, ha⟩ := Int.eq_ofNat_of_zero_le (show 0 ≤ A by omega)
    obtain ⟨b, hb⟩ := Int.eq_ofNat_of_zero_le (show 0 ≤ -B by omega)
    have hsum : a * x = b * y + d := by
      have h1 : A * (x : Int) = ((a * x : Nat) : Int) := by rw [Int.natCast_mul, ← ha]
      have h2 : B * (y : Int) = -((b * y : Nat) : Int) := by rw [Int.natCast_mul, ← hb, Int.neg_mul, Int.neg_neg]
      rw [h1, h2] at hd; omega
    have HD := Lib.hid (difference_any gx gy cx cy a b x y d n m X Y (by unfold Bs; omega) (by unfold Bs; omega) hn hm hnl hml hsum w0 hdx0 hdy0)
    have hA0 : decide (A ≤ 0) = false := decide_eq_false hA
    have r1 : IntKind.i64.wrap (-B) = -B := IntWalk.i64_in _ (by omega)
    have r2 : IntKind.u64.wrap (-B) = (b : Int) := by rw [hb]; exact wrapN _ (by omega)
    have r3 : IntKind.u64.wrap A = (a : Int) := by rw [ha]; exact wrapN _ (by omega)
    clear hdx hdy hdx0 hdy0 hsum hd ha hb hB hA1 hA2 hB1 hB2 hs1 hs2
    go_enter Tryd.func71, Tryd.ntmps71
    go_wp2_with fail
    refine (HD.out).mono ?_
    rintro e w1 ⟨g, c, z, rfl, h1, h2, h3, h4⟩
    go_wp2_with fail
    go_ret
    exact ⟨g, c, z, rfl, h1, h2, by omega, hbw.trans (h4.mono (by omega))⟩

theorem digs_big {b : Nat} (h : 2 ≤ (digs b).length) : ¬ b < Bs := fun hb => by
  have := digs_length_iff (n := b) (k := 1)
  rw [Nat.pow_one] at this
  have := this.2 hb; omega
theorem sgn1 {A B : Int} {X x y : Nat} (hy : 0 < y) (hX : (X : Int) = A * x + B * y) {s : Int} (hs : s = 1 ∨ s = -1) (h1 : 0 ≤ s * A) (h2 : s * B ≤ 0) : (A ≤ 0 → 0 ≤ B) ∧ (0 < A → B ≤ 0) := by
  rcases hs with e | e <;> subst e
  · constructor
    · intro hA
      have h0 : A = 0 := by omega
      rw [h0, Int.zero_mul, Int.zero_add] at hX
      rcases Int.lt_or_le B 0 with hB | hB
      · have : B * (y : Int) < 0 := Int.mul_neg_of_neg_of_pos hB (by omega)
        omega
      · exact hB
    · intro _; omega
  · constructor
    · intro _; omega
    · intro _; omega

set_option maxHeartbeats 2000000 in
set_option maxRecDepth 100000 in
theorem descend_any (gx gy cx cy x y n m : Nat) (X Y : List Nat) (hn : (digs x).length = n) (hm : (digs y).length = m) (hnl : n ≤ 1000000000000) (hm2 : 2 ≤ m) (hyx : y ≤ x) (hcy : m ≤ cy) (w : World) (hdx : DB w gx (digs x ++ X)) (hdy : DB w gy (digs y ++ Y)) :
    Calls Tryd.prog 45 #[.slice (some ⟨gx, 0, none⟩) n cx, .slice (some ⟨gy, 0, none⟩) m cy] w fun e w' =>
      ∃ (x' y' gX cX gY cY : Nat) (ZX ZY : List Nat), e = .returned (.tuple #[.slice (some ⟨gX, 0, none⟩) (digs x').length cX, .slice (some ⟨gY, 0, none⟩) (digs y').length cY]) ∧
        DB w' gX (digs x' ++ ZX) ∧ DB w' gY (digs y' ++ ZY) ∧ (digs x').length ≤ cX ∧ (digs y').length ≤ cY ∧ Nat.gcd x' y' = Nat.gcd x y ∧ y' ≤ x' ∧ y' < y ∧ x' ≤ y ∧ gX ≠ gY ∧ (gX = gy ∨ w.heap.size ≤ gX) ∧ w.heap.size ≤ gY ∧ Below w.heap.size w w' := by
  have hml : m ≤ 1000000000000 := by rw [← hm]; exact Nat.le_trans (digs_mono hyx) (by omega)
  have hyB : ¬ y < Bs := digs_big (by omega)
  have hy0 : 0 < y := by unfold Bs at hyB; omega
  have HC := Lib.hid (certain_any gx gy cx cy x y n m X Y hm hm2 hn hyx hnl w hdx hdy)
  have HDV := fun w h1 h2 => divW gx gy cx cy x y X Y hyB hyx (by omega) w h1 h2
  rw [hn, hm] at HDV
  replace HDV := Lib.hid HDV
  have HCO := fun A B d w h1 h2 h3 h4 h5 h6 h7 h8 h9 => combine_any gx gy cx cy x y d n m A B X Y hn hm hnl hml h1 h2 h3 h4 h5 h6 h7 w h8 h9
  replace HCO := Lib.hid HCO
  go_enter Tryd.func45, Tryd.ntmps45
  go_wp2_with fail
  refine (HC.out).mono ?_
  rintro e w1 ⟨A, B, C, D, p, q, p0, q0, rfl, hCS, hp0, hb1⟩
  obtain ⟨w2, hw2, hA, hB, hb2, hsz⟩ := boxes2 w1 (.int .i64 0) (.int .i64 0) (.int .i64 0) (.int .i64 0) 118
  have hp4 := put4 hA hB (.int .i64 A) (.int .i64 B) (.int .i64 C) (.int .i64 D)
  obtain ⟨a0, a1, af⟩ := id hA
  obtain ⟨b0, b1, bf⟩ := id hB
  have hb3 : Below w1.heap.size w1 ((((w2.setCell ⟨w1.heap.size, 0, none⟩ (.int .i64 A)).setCell ⟨w1.heap.size, 1, none⟩ (.int .i64 B)).setCell ⟨w1.heap.size + 1, 0, none⟩ (.int .i64 C)).setCell ⟨w1.heap.size + 1, 1, none⟩ (.int .i64 D)) :=
    (((hb2.setCell (by simp) _).setCell (by simp) _).setCell (by simp) _).setCell (by simp) _
  have hsz3 : w1.heap.size + 2 ≤ ((((w2.setCell ⟨w1.heap.size, 0, none⟩ (.int .i64 A)).setCell ⟨w1.heap.size, 1, none⟩ (.int .i64 B)).setCell ⟨w1.heap.size + 1, 0, none⟩ (.int .i64 C)).setCell ⟨w1.heap.size + 1, 1, none⟩ (.int .i64 D)).heap.size := by simpa using hsz
  generalize hw3 : ((((w2.setCell ⟨w1.heap.size, 0, none⟩ (.int .i64 A)).setCell ⟨w1.heap.size, 1, none⟩ (.int .i64 B)).setCell ⟨w1.heap.size + 1, 0, none⟩ (.int .i64 C)).setCell ⟨w1.heap.size + 1, 1, none⟩ (.int .i64 D)) = w3 at *
  obtain ⟨h3A, h3B⟩ := hp4
  obtain ⟨c0, c1, cf⟩ := id h3A
  obtain ⟨d0, d1, df⟩ := id h3B
  have hB3 := hb1.trans (hb3.mono hb1.size)
  have hdx3 := Lib.hid (hdx.below hB3 hdx.lt)
  have hdy3 := Lib.hid (hdy.below hB3 hdy.lt)
  have hbd := Lib.hid hCS.bounds
  obtain ⟨⟨s, hL⟩, ⟨X1, Y1, hT⟩, -, -⟩ := hCS
  have hs := hbd.out
  have s1 := sgn1 hy0 hT.hX hL.hs hL.hA hL.hB
  have s2 : (C ≤ 0 → 0 ≤ D) ∧ (0 < C → D ≤ 0) := sgn1 hy0 hT.hY (s := -s) (by have := hL.hs; omega) (by have := hL.hC; rw [Int.neg_mul]; omega) (by have := hL.hD; rw [Int.neg_mul]; omega)
  have HC1 := Lib.hid (fun w => HCO.out A B X1 w (by omega) (by omega) (by omega) (by omega) s1.1 s1.2 hT.hX)
  have HC2 := Lib.hid (fun w => HCO.out C D Y1 w (by omega) (by omega) (by omega) (by omega) s2.1 s2.2 hT.hY)
  have HT := Lib.hid hT
  clear hs s1 s2 hbd hL hT hp0 hA hB HC HCO
  by_cases hB0 : B = 0
  · have hB1 : (B == 0) = true := by rw [hB0]; rfl
    clear hB0
    go_wp2_with fail
    refine (HDV.out _ hdx3.out hdy3.out).mono ?_
    rintro e w4 ⟨gq, cq, zq, gr, cr, zr, rfl, hdq, hdr, hqr, hgq, hgr, hcq, hcr, hb4⟩
    have hdy4 := Lib.hid (hdy3.out.below hb4 hdy3.out.lt)
    have hB4 := Lib.hid (hB3.trans (hb4.mono hB3.size))
    clear HDV HC1 HC2 a0 a1 af b0 b1 bf c0 c1 cf d0 d1 df h3A h3B hw2 hw3
    go_wp2_with fail
    go_ret2
    exact ⟨y, x % y, gy, cy, gr, cr, Y, List.replicate zr 0, by rw [hm]; rfl, hdy4.out, hdr, by omega, hcr, by rw [Nat.gcd_comm y, ← Nat.gcd_rec, Nat.gcd_comm], Nat.le_of_lt (Nat.mod_lt _ hy0), Nat.mod_lt _ hy0, Nat.le_refl _, by have := hdy3.out.lt; omega, .inl rfl, by have := hB3.size; omega, hB4.out⟩
  · have hB1 : (B == 0) = false := beq_eq_false_iff_ne.2 hB0
    go_wp2_with fail
    go_region_held3 (fun w' => w'.cell? ⟨w1.heap.size, 0, none⟩ = some (.int .i64 A) ∧ w'.cell? ⟨w1.heap.size, 1, none⟩ = some (.int .i64 B) ∧ w'.cell? ⟨w1.heap.size + 1, 0, none⟩ = some (.int .i64 C) ∧ w'.cell? ⟨w1.heap.size + 1, 1, none⟩ = some (.int .i64 D))
      (first | with_reducible exact ⟨c0, c1, d0, d1⟩ | with_reducible exact ⟨c0', c1', d0', d1'⟩ | with_reducible exact ⟨c0'', c1'', d0'', d1''⟩ | exact ⟨c0, c1, d0, d1⟩)
      (first
        | (go_at_call 71; ((with_reducible refine Calls.mono (HC1.out _ (hdx3.out.keep rfl) (hdy3.out.keep rfl)) ?_); rintro e w4 ⟨g1, k1, z1, rfl, hd1, hk1, hg1, hb4⟩; have hb34 := (Below.refl w3.heap.size w3).drew.trans hb4; obtain ⟨c0', c1', cf'⟩ := h3A.below hb34 (by omega); obtain ⟨d0', d1', df'⟩ := h3B.below hb34 (by omega)))
        | (go_at_call 71; ((with_reducible refine Calls.mono (HC2.out _ (hdx3.out.below hb34 hdx3.out.lt) (hdy3.out.below hb34 hdy3.out.lt)) ?_); rintro e w5 ⟨g2, k2, z2, rfl, hd2, hk2, hg2, hb5⟩; have hb35 := hb34.trans (hb5.mono hb34.size); obtain ⟨c0'', c1'', cf''⟩ := h3A.below hb35 (by omega); obtain ⟨d0'', d1'', df''⟩ := h3B.below hb35 (by omega))))
    go_wp2_with fail
    go_ret2
    have h5 := HT.out.prog
    have h6 : B ≠ 0 ∧ X1 ≤ y ∧ Y1 < X1 := by
      rcases h5 with h5 | h5
      · exact absurd h5.2.1 hB0
      · exact h5
    exact ⟨X1, Y1, g1, k1, g2, k2, List.replicate z1 0, List.replicate z2 0, rfl, hd1.below hb5 hd1.lt, hd2, hk1, hk2, HT.out.gcd, HT.out.le, by omega, h6.2.1, by have := hd1.lt; omega, .inr (Nat.le_trans hB3.size hg1), Nat.le_trans (Nat.le_trans hB3.size hb34.size) hg2, hB3.trans (hb35.mono hB3.size)⟩
end Go.Proofs.YthehcjfmokabfaaDoor
