/-
  Layer 1, walks S: gcdOfDigits, Gcd.
-/
import Derived.Test.YthehcjfmokabfaaDoorWr
set_option linter.unusedVariables false
set_option linter.unusedSimpArgs false
namespace Go.Proofs.YthehcjfmokabfaaDoor
open Go.RowKit
attribute [local irreducible] lo hs sm s64 c64 d64 b64 mh ml pd pc qd qc val hiB str cmpI srD lz

set_option maxHeartbeats 2000000 in
set_option maxRecDepth 100000 in
theorem gcdDigits_any (a b : Nat) (ha : a < Bs) (hb : b < Bs) (w : World) :
    Calls Tryd.prog 43 #[.int .u64 (a : Int), .int .u64 (b : Int)] w fun e w' =>
      e = .returned (.int .u64 ((Nat.gcd a b : Nat) : Int)) ∧ Below w.heap.size w w' := by
  go_enter Tryd.func43, Tryd.ntmps43
  go_wp2
  go_loopw [0, 1] (fun z0 z1 wr => ∃ x y : Nat, z0 = .int .u64 x ∧ z1 = .int .u64 y ∧ x < Bs ∧ y < Bs ∧ Nat.gcd x y = Nat.gcd a b ∧ Below w.heap.size w wr) (fun _ z1 _ => (intOf z1).toNat)
  case atStart => exact ⟨a, b, rfl, rfl, ha, hb, rfl, Below.refl _ _⟩
  case round =>
    obtain ⟨x, y, rfl, rfl, hx, hy, hg, hbw⟩ := hrel
    by_cases hy0 : y = 0
    · subst hy0
      rw [Nat.gcd_zero_right] at hg
      subst hg
      clear hx hy ha hb
      go_wp2
      go_ret
      exact ⟨rfl, hbw⟩
    · have h1 : ((y : Int) != 0) = true := bne_iff_ne.2 (by omega)
      have htm : (x : Int).tmod (y : Int) = ((x % y : Nat) : Int) := by rw [Int.tmod_eq_emod_of_nonneg (by omega), Int.natCast_emod]
      have hlt : x % y < y := Nat.mod_lt _ (by omega)
      have hgc : Nat.gcd y (x % y) = Nat.gcd a b := by rw [← hg, Nat.gcd_comm y, ← Nat.gcd_rec, Nat.gcd_comm]
      generalize hm : x % y = m at *
      have hwm : IntKind.u64.wrap (m : Int) = (m : Int) := wrapN _ (by unfold Bs at hy; omega)
      have HL := Lib.hid hlt
      have HY := Lib.hid hy
      clear hlt hx hg ha hb hm hy
      go_wp2
      go_region
      all_goals go_wp2
      all_goals go_roundw
      case rel => exact ⟨y, m, rfl, rfl, HY.out, Nat.lt_trans HL.out HY.out, hgc, hbw.drew⟩
      case measure => have := HL.out; simp [intOf]; omega

/-- The number that a slice's cells hold. -/
def rdv (z : Value) (w : World) : Nat := match z with
  | .slice (some ⟨g, _, _⟩) n _ => val ((List.range n).map fun i => match w.cell? ⟨g, i, none⟩ with | some (.int _ d) => d.toNat | _ => 0)
  | _ => 0
theorem rdv_eq {w : World} {g c y : Nat} {Z : List Nat} (h : DB w g (digs y ++ Z)) : rdv (.slice (some ⟨g, 0, none⟩) (digs y).length c) w = y := by
  unfold rdv
  simp only
  rw [show (List.range (digs y).length).map (fun i => match w.cell? ⟨g, i, none⟩ with | some (.int _ d) => d.toNat | _ => 0) = digs y from ?_, val_digs]
  apply List.ext_getElem (by simp)
  intro i h1 h2
  have h3 := h.rdl i h2
  rw [Nat.zero_add] at h3
  simp [h3]

/-- Gcd's three boxes. -/
structure B3 (w : World) (k : Nat) (a b : Nat) : Prop where
  A : Bx w k (.int .u64 ((lo a : Nat) : Int)) (.string (hs a))
  B : Bx w (k + 1) (.int .u64 ((lo b : Nat) : Int)) (.string (hs b))
  C : Bx w (k + 2) (.int .u64 0) (.string ⟨#[]⟩)
  sz : k + 3 ≤ w.heap.size
theorem B3.below {w w' : World} {k a b : Nat} (h : B3 w k a b) (hb : Below w.heap.size w w') : B3 w' k a b :=
  ⟨h.A.below hb (by have := h.sz; omega), h.B.below hb (by have := h.sz; omega), h.C.below hb (by have := h.sz; omega), Nat.le_trans h.sz hb.size⟩
theorem B3.step {w0 w1 w2 : World} {k a b : Nat} (h0 : Below k w0 w1) (h : B3 w1 k a b) (hb : Below w1.heap.size w1 w2) : Below k w0 w2 := h0.trans (hb.mono (by have := h.sz; omega))
theorem boxes3 (w : World) (A1 A2 B1 B2 C1 C2 : Value) (t : TypeId) : ∃ w0, (((w.alloc (.cells #[A1, A2] t)).alloc (.cells #[B1, B2] t)).alloc (.cells #[C1, C2] t)) = w0 ∧
    Bx w0 w.heap.size A1 A2 ∧ Bx w0 (w.heap.size + 1) B1 B2 ∧ Bx w0 (w.heap.size + 2) C1 C2 ∧ Below w.heap.size w w0 ∧ w.heap.size + 3 ≤ w0.heap.size :=
  ⟨_, rfl, Bx.of _ _ _ _ _ (al3_1 w _ _ _), Bx.of _ _ _ _ _ (al3_2 w _ _ _), Bx.of _ _ _ _ _ (al3 w _ _ _), below3 w _ _ _, by simp⟩
theorem B3.swap {w : World} {k a b : Nat} (h : B3 w k a b) (h' : ((((w.setCell ⟨k, 0, none⟩ (.int .u64 ((lo b : Nat) : Int))).setCell ⟨k, 1, none⟩ (.string (hs b))).setCell ⟨k + 1, 0, none⟩ (.int .u64 ((lo a : Nat) : Int))).setCell ⟨k + 1, 1, none⟩ (.string (hs a))).heap.size = w.heap.size) :
    B3 ((((w.setCell ⟨k, 0, none⟩ (.int .u64 ((lo b : Nat) : Int))).setCell ⟨k, 1, none⟩ (.string (hs b))).setCell ⟨k + 1, 0, none⟩ (.int .u64 ((lo a : Nat) : Int))).setCell ⟨k + 1, 1, none⟩ (.string (hs a))) k b a := by
  have hp := put4 h.A h.B (.int .u64 ((lo b : Nat) : Int)) (.string (hs b)) (.int .u64 ((lo a : Nat) : Int)) (.string (hs a))
  refine ⟨hp.1, hp.2, ?_, by rw [h']; exact h.sz⟩
  obtain ⟨c0, c1, cf⟩ := h.C
  refine ⟨?_, ?_, fun j => ?_⟩ <;> simp [go_sem, c0, c1, cf]

set_option maxHeartbeats 2000000 in
set_option maxRecDepth 100000 in
theorem gcd_any (a b : Nat) (ha : (digs a).length ≤ 1000000000000) (hb : (digs b).length ≤ 1000000000000) (w : World) :
    Calls Tryd.prog 21 #[natV a, natV b] w fun e w' => e = .returned (natV (Nat.gcd a b)) ∧ Below w.heap.size w w' := by
  obtain ⟨w0, hw0, hA, hB, hC, hbw, hsz⟩ := boxes3 w (.int .u64 ((lo a : Nat) : Int)) (.string (hs a)) (.int .u64 ((lo b : Nat) : Int)) (.string (hs b)) (.int .u64 0) (.string ⟨#[]⟩) 25
  have H0 : B3 w0 w.heap.size a b := ⟨hA, hB, hC, hsz⟩
  clear hA hB hC hsz
  have HC := Lib.hid (fun w => cmp_any a b w)
  obtain ⟨⟨a0, a1, af⟩, ⟨b0, b1, bf⟩, -⟩ := id H0
  go_enter Tryd.func21, Tryd.ntmps21
  go_wp2_with fail
  refine (HC.out _).mono ?_
  rintro e w1 ⟨rfl, hb1⟩
  have H1 := H0.below hb1
  have hB1 := H0.step hbw hb1
  clear a0 a1 af b0 b1 bf HC H0 hb1 hbw hw0
  go_upto_if 10 with fail
  go_cut [] from 11 to 12 (fun wx => ∃ x y : Nat, ((x = a ∧ y = b) ∨ (x = b ∧ y = a)) ∧ y ≤ x ∧ B3 wx w.heap.size x y ∧ Below w.heap.size w wx)
  case first =>
    obtain ⟨⟨a0, a1, af⟩, ⟨b0, b1, bf⟩, -⟩ := id H1
    rcases Nat.lt_or_ge a b with hab | hab
    · have hcm : cmpI a b < 0 := by rw [cmpI_lt hab]; decide
      go_wp2_with fail
      go_meet
      exact ⟨b, a, .inr ⟨rfl, rfl⟩, Nat.le_of_lt hab, H1.swap (by simp), (((hB1.setCell (by simp) _).setCell (by simp) _).setCell (by simp) _).setCell (by simp) _⟩
    · have hcm : ¬ cmpI a b < 0 := of_decide_eq_false (cmpI_ge hab)
      go_wp2_with fail
      go_meet
      exact ⟨a, b, .inl ⟨rfl, rfl⟩, hab, H1, hB1⟩
  case rest =>
    clear H1 hB1
    obtain ⟨x, y, hxy, hyx, H1, hB1⟩ := hcut
    have hlx : (digs x).length ≤ 1000000000000 := by rcases hxy with ⟨rfl, rfl⟩ | ⟨rfl, rfl⟩ <;> assumption
    have hg : Nat.gcd x y = Nat.gcd a b := by
      rcases hxy with ⟨rfl, rfl⟩ | ⟨rfl, rfl⟩
      · rfl
      · exact Nat.gcd_comm _ _
    have HGC := Lib.hid (congrArg (fun n => Ending.returned (natV n)) hg)
    clear ha hb hg hxy
    have HS := Lib.hid (fun w => small_any x w)
    obtain ⟨⟨a0, a1, af⟩, ⟨b0, b1, bf⟩, -⟩ := id H1
    by_cases hsx : x < Bs
    · have hs1 : sm x = true := by unfold sm; exact decide_eq_true hsx
      have hsy : y < Bs := Nat.lt_of_le_of_lt hyx hsx
      have hgB : Nat.gcd x y < Bs := by
        rcases Nat.eq_zero_or_pos y with h | h
        · rw [h, Nat.gcd_zero_right]; exact hsx
        · exact Nat.lt_of_le_of_lt (Nat.gcd_le_right x h) hsy
      go_wp2_with fail
      refine (HS.out _).mono ?_
      rintro e w2 ⟨rfl, hb2⟩
      have H2 := H1.below hb2
      have hB2 := H1.step hB1 hb2
      have HG := gcdDigits_any x y hsx hsy
      have HO := of_any (Nat.gcd x y) hgB
      replace HG := Lib.hid HG
      replace HO := Lib.hid HO
      clear a0 a1 af b0 b1 bf HS H1 hb2 hB1
      obtain ⟨⟨a0, a1, af⟩, ⟨b0, b1, bf⟩, -⟩ := id H2
      rw [lo_small hsx] at a0
      rw [lo_small hsy] at b0
      clear hsx hsy hgB
      go_wp2_with fail
      refine (HG.out _).mono ?_
      rintro e w3 ⟨rfl, hb3⟩
      have H3 := H2.below hb3
      have hB3 := H2.step hB2 hb3
      clear a0 a1 af b0 b1 bf HG H2 hb3 hB2
      go_wp2_with fail
      refine (HO.out _).mono ?_
      rintro e w4 ⟨rfl, hb4⟩
      have H4 := H3.below hb4
      have hB4 := H3.step hB3 hb4
      obtain ⟨-, -, ⟨c0, c1, cf⟩, hsz⟩ := id H4
      clear HO H3 hb4 hB3
      go_wp2_with fail
      exact bodyPost_ret (v := natV (Nat.gcd x y)) (by simp [results, Tryd.results21, go_sem, c0, c1]) rfl ⟨HGC.out, (hB4.setCell (by simp <;> omega) _).setCell (by simp <;> omega) _⟩
    · have hs1 : sm x = false := by unfold sm; exact decide_eq_false hsx
      go_wp2_with fail
      refine (HS.out _).mono ?_
      rintro e w2 ⟨rfl, hb2⟩
      have H2 := H1.below hb2
      have hB2 := H1.step hB1 hb2
      clear a0 a1 af b0 b1 bf HS H1 hb2 hB1
      obtain ⟨⟨a0, a1, af⟩, ⟨b0, b1, bf⟩, -⟩ := id H2
      go_wp2_with fail
      have HDa := Lib.hid (fun w => digits_any x (by omega) w)
      have HDb := Lib.hid (fun w => digits_any y (by have := digs_mono hyx; omega) w)
      go_region_held3 (fun w' => w'.cell? ⟨w.heap.size, 0, none⟩ = some (.int .u64 ((lo x : Nat) : Int)) ∧ w'.cell? ⟨w.heap.size, 1, none⟩ = some (.string (hs x)) ∧ w'.cell? ⟨w.heap.size + 1, 0, none⟩ = some (.int .u64 ((lo y : Nat) : Int)) ∧ w'.cell? ⟨w.heap.size + 1, 1, none⟩ = some (.string (hs y)))
        (first | with_reducible exact ⟨a0, a1, b0, b1⟩ | with_reducible exact ⟨a0', a1', b0', b1'⟩ | with_reducible exact ⟨a0'', a1'', b0'', b1''⟩ | exact ⟨a0, a1, b0, b1⟩)
        (first
          | (go_at_call 44; ((with_reducible refine Calls.mono (HDa.out _) ?_); rintro e w3 ⟨gx, cx, zx, rfl, hcx, hgx, hdx, hb3⟩; have H3 := H2.below ((Below.refl w2.heap.size w2).drew.trans hb3); obtain ⟨⟨a0', a1', af'⟩, ⟨b0', b1', bf'⟩, -⟩ := id H3))
          | (go_at_call 44; ((with_reducible refine Calls.mono (HDb.out _) ?_); rintro e w4 ⟨gy, cy, zy, rfl, hcy, hgy, hdy, hb4⟩; have H4 := H3.below hb4; obtain ⟨⟨a0'', a1'', af''⟩, ⟨b0'', b1'', bf''⟩, -⟩ := id H4)))
      have hB4 := H3.step (H2.step hB2 ((Below.refl w2.heap.size w2).drew.trans hb3)) hb4
      have hdx4 := hdx.below hb4 hdx.lt
      have hne : gx ≠ gy := by have := hdx.lt; omega
      have hsz4 := H2.sz
      have hsz5 := H3.sz
      clear a0 a1 af b0 b1 bf a0' a1' af' b0' b1' bf' a0'' a1'' af'' b0'' b1'' bf'' HDa HDb H2 H3 hB2 hb3 hb4 hdx
      go_wp2_with fail
      go_loopw [5, 6] (fun z5 z6 wr => ∃ (x' y' gX cX gY cY : Nat) (ZX ZY : List Nat), z5 = .slice (some ⟨gX, 0, none⟩) (digs x').length cX ∧ z6 = .slice (some ⟨gY, 0, none⟩) (digs y').length cY ∧
        DB wr gX (digs x' ++ ZX) ∧ DB wr gY (digs y' ++ ZY) ∧ (digs x').length ≤ cX ∧ (digs y').length ≤ cY ∧ Nat.gcd x' y' = Nat.gcd x y ∧ y' ≤ x' ∧ (digs x').length ≤ 1000000000000 ∧ gX ≠ gY ∧ w.heap.size + 3 ≤ gX ∧ w.heap.size + 3 ≤ gY ∧ B3 wr w.heap.size x y ∧ Below w.heap.size w wr) (fun _ z6 wr => rdv z6 wr)
      case atStart => exact ⟨x, y, gx, cx, gy, cy, _, _, rfl, rfl, hdx4, hdy, hcx, hcy, rfl, hyx, hlx, hne, by have := hsz4; simp at hgx; omega, by omega, H4, hB4⟩
      case round =>
        obtain ⟨x', y', gX, cX, gY, cY, ZX, ZY, rfl, rfl, hX, hY, hcX, hcY, hg, hle, hl, hne', hgX, hgY, H5, hB5⟩ := hrel
        clear hdx4 hdy hcx hcy hne H4 hB4 hgx hgy hsz4 hsz5 hlx hyx
        obtain ⟨m, hm⟩ : ∃ m, (digs y').length = m := ⟨_, rfl⟩
        obtain ⟨n, hn⟩ : ∃ n, (digs x').length = n := ⟨_, rfl⟩
        have hmv := rdv_eq (c := cY) hY
        rw [hm] at hmv hcY ⊢
        rw [hn] at hcX hl ⊢
        rcases Nat.lt_or_ge 1 m with hm1 | hm1
        · have HD := Lib.hid (descend_any gX gY cX cY x' y' n m ZX ZY hn hm hl hm1 hle hcY wr hX hY)
          go_wp2_with fail
          refine (HD.out).mono ?_
          rintro e w6 ⟨x2, y2, gX2, cX2, gY2, cY2, ZX2, ZY2, rfl, r1, r2, r3, r4, r5, r6, r7, r8, r9, r10, r11, hb6⟩
          have H6 := H5.below hb6
          have hB6 := H5.step hB5 hb6
          have hl2 : (digs x2).length ≤ 1000000000000 := Nat.le_trans (digs_mono (Nat.le_trans r8 hle)) (by omega)
          have hsz5 := H5.sz
          go_wp2_with fail
          go_roundw
          case rel => exact ⟨x2, y2, gX2, cX2, gY2, cY2, ZX2, ZY2, rfl, rfl, r1, r2, r3, r4, r5.trans hg, r6, hl2, r9, by omega, by omega, H6, hB6⟩
          case measure => rw [hmv, rdv_eq r2]; exact r7
        · have hd1 : decide (1 < m) = false := by rw [decide_eq_false_iff_not]; omega
          rcases Nat.eq_zero_or_pos m with hm0 | hm0
          · subst hm0
            have hy0 : y' = 0 := digs_eq_nil.1 (List.length_eq_zero_iff.1 hm)
            have HP := Lib.hid (packQ gX cX n x' (digs x') ZX hn (digs_dig x') (val_digs x') (by omega) hcX wr hX)
            have hgx : x' = Nat.gcd x y := by rw [← hg, hy0, Nat.gcd_zero_right]
            have HE := Lib.hid ((congrArg (fun n => Ending.returned (natV n)) hgx).trans HGC.out)
            clear hmv hm hn hX hY hg hgx hle hl hy0
            go_wp2_with fail
            refine (HP.out).mono ?_
            rintro e w6 ⟨rfl, hb6⟩
            have H6 := H5.below hb6
            have hB6 := H5.step hB5 hb6
            obtain ⟨-, -, ⟨c0, c1, cf⟩, hsz⟩ := id H6
            go_wp2_with fail
            exact bodyPost_ret (v := natV x') (by simp [results, Tryd.results21, go_sem, c0, c1]) rfl ⟨HE.out, (hB6.setCell (by simp <;> omega) _).setCell (by simp <;> omega) _⟩
          · have hm2 : m = 1 := by omega
            subst hm2
            have hyB : y' < Bs := by have := digs_length_iff.1 (show (digs y').length ≤ 1 by omega); rwa [Nat.pow_one] at this
            have hy0 : 0 < y' := by
              rcases Nat.eq_zero_or_pos y' with h | h
              · rw [h, digs_zero] at hm; simp at hm
              · exact h
            have hdy : digs y' = [y'] := by rw [digs_pos (by omega), Nat.mod_eq_of_lt hyB, Nat.div_eq_of_lt hyB, digs_zero]
            have hcell := hY.cell 0 (by rw [hdy]; simp)
            simp only [hdy, List.cons_append, List.getElem_cons_zero] at hcell
            have HDD := fun w h => divD gX cX x' y' ZX hy0 hyB (by omega) w h
            rw [hn] at HDD
            have HGG := fun w => gcdDigits_any y' (x' % y') hyB (Nat.lt_trans (Nat.mod_lt _ hy0) hyB) w
            have hgg : Nat.gcd y' (x' % y') = Nat.gcd x y := by rw [← hg, Nat.gcd_comm y', ← Nat.gcd_rec, Nat.gcd_comm]
            have HO := fun w => of_any (Nat.gcd y' (x' % y')) (Nat.lt_of_le_of_lt (Nat.gcd_le_left _ hy0) hyB) w
            have HE := Lib.hid ((congrArg (fun n => Ending.returned (natV n)) hgg).trans HGC.out)
            generalize Nat.gcd y' (x' % y') = g at *
            generalize x' % y' = r at *
            replace HDD := Lib.hid HDD
            replace HGG := Lib.hid HGG
            replace HO := Lib.hid HO
            have hsz5 := H5.sz
            clear hmv hm hn hg hgg hle hl hyB hy0 hdy
            go_wp2_with fail
            go_region_held3 (fun w' => w'.cell? ⟨gY, 0, none⟩ = some (.int .u64 (y' : Int)))
              (first | with_reducible exact hcell | with_reducible exact hc2 | with_reducible exact hc3 | with_reducible exact hc4 | (simp [go_sem, hc4]; done) | (simp [go_sem, hcell]; done))
              (first
                | (go_at_call 47; ((with_reducible refine Calls.mono (HDD.out _ (hX.keep rfl)) ?_); rintro e w6 ⟨rfl, Q, hQ1, hQ2, hQ3, hdq, hg6⟩; have hb6 := (Below.refl (w.heap.size + 3) wr).drew.trans (grown_below hg6 hgX hsz5); have hc2 := (grown_cell (i := 0) hg6 (Ne.symm hne') hY.lt).trans hcell))
                | (go_at_call 43; ((with_reducible refine Calls.mono (HGG.out _) ?_); rintro e w7 ⟨rfl, hb7⟩; have hc3 := (hb7.cell (p := ⟨gY, 0, none⟩) (Nat.lt_of_lt_of_le hY.lt hb6.size)).trans hc2; have hb67 := hb6.trans (hb7.mono (Nat.le_trans hsz5 hb6.size))))
                | (go_at_call 42; ((with_reducible refine Calls.mono (HO.out _) ?_); rintro e w8 ⟨rfl, hb8⟩; have hc4 := (hb8.cell (p := ⟨gY, 0, none⟩) (Nat.lt_of_lt_of_le hY.lt hb67.size)).trans hc3; have hb68 := hb67.trans (hb8.mono (Nat.le_trans hsz5 hb67.size)); obtain ⟨c0, c1, cf⟩ := H5.C.below hb68 (by omega))))
            go_wp2_with fail
            have hB8 := hB5.trans (hb68.mono (by omega))
            exact bodyPost_ret (v := natV g) (by simp [results, Tryd.results21, go_sem, c0, c1]) rfl ⟨HE.out, (hB8.setCell (by simp <;> omega) _).setCell (by simp <;> omega) _⟩
end Go.Proofs.YthehcjfmokabfaaDoor
