/-
  Layer 1, walks P: Div.
-/
import Derived.Test.YthehcjfmokabfaaDoorWo
import Derived.Test.YthehcjfmokabfaaDoorWj
set_option linter.unusedVariables false
set_option linter.unusedSimpArgs false
namespace Go.Proofs.YthehcjfmokabfaaDoor
open Go.RowKit
attribute [local irreducible] lo hs sm s64 c64 d64 b64 mh ml pd pc qd qc val hiB str

theorem al4 (w : World) (A B C D : Obj) : ((((w.alloc A).alloc B).alloc C).alloc D).heap[w.heap.size + 3]? = some D := by
  have := heap_alloc_new (((w.alloc A).alloc B).alloc C) D
  simpa using this
theorem al4_3 (w : World) (A B C D : Obj) : ((((w.alloc A).alloc B).alloc C).alloc D).heap[w.heap.size + 2]? = some C := (Below.heap_alloc _ _ _ (by simp)).trans (al3 w A B C)
theorem al4_2 (w : World) (A B C D : Obj) : ((((w.alloc A).alloc B).alloc C).alloc D).heap[w.heap.size + 1]? = some B := (Below.heap_alloc _ _ _ (by simp <;> omega)).trans (al3_2 w A B C)
theorem al4_1 (w : World) (A B C D : Obj) : ((((w.alloc A).alloc B).alloc C).alloc D).heap[w.heap.size]? = some A := (Below.heap_alloc _ _ _ (by simp <;> omega)).trans (al3_1 w A B C)
theorem below4 (w : World) (A B C D : Obj) : Below w.heap.size w ((((w.alloc A).alloc B).alloc C).alloc D) := (below3 w A B C).alloc (by simp <;> omega) _

/-- The world behind the four boxes of Div. -/
theorem boxes4 (w : World) (A1 A2 B1 B2 C1 C2 D1 D2 : Value) (t : TypeId) : ∃ w0, ((((w.alloc (.cells #[A1, A2] t)).alloc (.cells #[B1, B2] t)).alloc (.cells #[C1, C2] t)).alloc (.cells #[D1, D2] t)) = w0 ∧
    Bx w0 w.heap.size A1 A2 ∧ Bx w0 (w.heap.size + 1) B1 B2 ∧ Bx w0 (w.heap.size + 2) C1 C2 ∧ Bx w0 (w.heap.size + 3) D1 D2 ∧ Below w.heap.size w w0 ∧ w.heap.size + 4 ≤ w0.heap.size :=
  ⟨_, rfl, Bx.of _ _ _ _ _ (al4_1 w _ _ _ _), Bx.of _ _ _ _ _ (al4_2 w _ _ _ _), Bx.of _ _ _ _ _ (al4_3 w _ _ _ _), Bx.of _ _ _ _ _ (al4 w _ _ _ _), below4 w _ _ _ _, by simp⟩
theorem of_zero (w : World) : Calls Tryd.prog 42 #[.int .u64 0] w fun e w' => e = .returned (natV 0) ∧ Below w.heap.size w w' := of_any 0 Bs_pos w

set_option maxHeartbeats 2000000 in
set_option maxRecDepth 100000 in
theorem div_zero (a : Nat) (w : World) :
    Calls Tryd.prog 48 #[natV a, natV 0] w fun e w' => e = .returned (.tuple #[natV 0, natV 0, .bool false]) ∧ Below w.heap.size w w' := by
  obtain ⟨w0, hw0, hA, hB, hC, hD, hbw, hsz⟩ := boxes4 w (.int .u64 ((lo a : Nat) : Int)) (.string (hs a)) (.int .u64 ((lo 0 : Nat) : Int)) (.string (hs 0)) (.int .u64 0) (.string ⟨#[]⟩) (.int .u64 0) (.string ⟨#[]⟩) 25
  go_enter Tryd.func48, Tryd.ntmps48
  go_wp2
  clear hw0
  obtain ⟨b0, b1, bf⟩ := hB
  go_region_held3 (fun w' => w'.cell? ⟨w.heap.size + 1, 0, none⟩ = some (.int .u64 ((lo 0 : Nat) : Int)) ∧ w'.cell? ⟨w.heap.size + 1, 1, none⟩ = some (.string (hs 0)))
    (first | exact ⟨b0, b1⟩ | exact ⟨b0', b1'⟩)
    (first
      | (go_at_call 42; ((with_reducible refine Calls.mono (of_zero _) ?_); rintro e w1 ⟨rfl, hb1⟩; obtain ⟨b0', b1', bf'⟩ := Bx.below (w := w0.drew) ⟨b0, b1, bf⟩ hb1 (by simp <;> omega))))
  have hb01 := (Below.refl w0.heap.size w0).drew.trans hb1
  obtain ⟨c0, c1, cf⟩ := hC.below hb01 (by omega)
  obtain ⟨d0, d1, df⟩ := hD.below hb01 (by omega)
  go_wp2
  exact bodyPost_ret (v := .tuple #[natV 0, natV 0, .bool false]) (by rw [natV_zero]; simp [results, Tryd.results48, go_sem, c0, c1, cf, d0, d1, df]) rfl ⟨rfl, ((((hbw.trans (hb01.mono (by omega))).setCell (by simp <;> omega) _).setCell (by simp <;> omega) _).setCell (by simp <;> omega) _).setCell (by simp <;> omega) _⟩

theorem cmpI_ge {a b : Nat} (h : b ≤ a) : decide (cmpI a b < 0) = false := by
  rcases Nat.lt_or_eq_of_le h with h | h
  · rw [cmpI_gt h]; rfl
  · rw [h, cmpI_eq]; rfl

/-- Div's four boxes in a later world. -/
structure B4 (w : World) (k : Nat) (a b : Nat) : Prop where
  A : Bx w k (.int .u64 ((lo a : Nat) : Int)) (.string (hs a))
  B : Bx w (k + 1) (.int .u64 ((lo b : Nat) : Int)) (.string (hs b))
  C : Bx w (k + 2) (.int .u64 0) (.string ⟨#[]⟩)
  D : Bx w (k + 3) (.int .u64 0) (.string ⟨#[]⟩)
  sz : k + 4 ≤ w.heap.size
theorem B4.below {w w' : World} {k a b : Nat} (h : B4 w k a b) (hb : Below w.heap.size w w') : B4 w' k a b :=
  ⟨h.A.below hb (by have := h.sz; omega), h.B.below hb (by have := h.sz; omega), h.C.below hb (by have := h.sz; omega), h.D.below hb (by have := h.sz; omega), Nat.le_trans h.sz hb.size⟩
theorem B4.belowN {w w' : World} {k a b : Nat} (h : B4 w k a b) (hb : Below (k + 4) w w') : B4 w' k a b :=
  ⟨h.A.below hb (by omega), h.B.below hb (by omega), h.C.below hb (by omega), h.D.below hb (by omega), Nat.le_trans h.sz hb.size⟩
theorem divD (gx cx a b : Nat) (C : List Nat) (hb : 0 < b) (hbB : b < Bs) (ha : (digs a).length ≤ 1000000000000) (w : World) (hdb : DB w gx (digs a ++ C)) :
    Calls Tryd.prog 47 #[.slice (some ⟨gx, 0, none⟩) (digs a).length cx, .int .u64 (b : Int)] w fun e w' =>
      e = .returned (.int .u64 ((a % b : Nat) : Int)) ∧ ∃ Q : List Nat, Q.length = (digs a).length ∧ Dig Q ∧ val Q = a / b ∧ DB w' gx (Q ++ C) ∧ w.grownBy w' (some gx) := by
  refine (divideByDigit_any gx cx b (digs a) C (digs_dig a) hb hbB (by omega) w hdb).mono ?_
  rintro e w' ⟨rfl, Q, ⟨h1, h2, h3⟩, h4, h5⟩
  rw [show val (digs a) = a from val_digs a] at h3
  exact ⟨by rw [show val (digs a) = a from val_digs a], Q, h1, h2, h3, h4, h5⟩
theorem packQ (g c n q : Nat) (Q C : List Nat) (hl : Q.length = n) (hd : Dig Q) (hv : val Q = q) (hn : n ≤ 1000000000000) (hc : n ≤ c) (w : World) (hdb : DB w g (Q ++ C)) :
    Calls Tryd.prog 46 #[.slice (some ⟨g, 0, none⟩) n c] w fun e w' => e = .returned (natV q) ∧ Below w.heap.size w w' := by
  subst hl; subst hv
  exact pack_any g 0 c Q hd (by omega) hc w hdb.lt hdb.rdl
theorem digs_mono {a b : Nat} (h : b ≤ a) : (digs b).length ≤ (digs a).length := digs_length_iff.2 (Nat.lt_of_le_of_lt h (digs_length_iff.1 (Nat.le_refl _)))
theorem digs_two {b : Nat} (h : ¬ b < Bs) : ∃ m, (digs b).length = m + 2 := by
  rcases Nat.lt_or_ge (digs b).length 2 with h2 | h2
  · exact absurd (by have := digs_length_iff.1 (show (digs b).length ≤ 1 by omega); rwa [Nat.pow_one] at this) h
  · exact ⟨(digs b).length - 2, by omega⟩
theorem divW (gx gy cx cy a b : Nat) (X Y : List Nat) (hb : ¬ b < Bs) (hab : b ≤ a) (ha : (digs a).length ≤ 1000000000000) (w : World) (hdx : DB w gx (digs a ++ X)) (hdy : DB w gy (digs b ++ Y)) :
    Calls Tryd.prog 70 #[.slice (some ⟨gx, 0, none⟩) (digs a).length cx, .slice (some ⟨gy, 0, none⟩) (digs b).length cy] w fun e w' =>
      ∃ gq cq zq gr cr zr, e = .returned (.tuple #[.slice (some ⟨gq, 0, none⟩) (digs (a / b)).length cq, .slice (some ⟨gr, 0, none⟩) (digs (a % b)).length cr]) ∧
        DB w' gq (digs (a / b) ++ List.replicate zq 0) ∧ DB w' gr (digs (a % b) ++ List.replicate zr 0) ∧ gq ≠ gr ∧ w.heap.size ≤ gq ∧ w.heap.size ≤ gr ∧ (digs (a / b)).length ≤ cq ∧ (digs (a % b)).length ≤ cr ∧ Below w.heap.size w w' := by
  obtain ⟨m, hm⟩ := digs_two hb
  exact divide_any gx gy cx cy m a b hm (digs_mono hab) ha w hdx.lt hdy.lt hdx.rdl hdy.rdl
theorem packD (g c q z : Nat) (hn : (digs q).length ≤ 1000000000000) (hc : (digs q).length ≤ c) (w : World) (hdb : DB w g (digs q ++ List.replicate z 0)) :
    Calls Tryd.prog 46 #[.slice (some ⟨g, 0, none⟩) (digs q).length c] w fun e w' => e = .returned (natV q) ∧ Below w.heap.size w w' :=
  packQ g c _ q (digs q) _ rfl (digs_dig q) (val_digs q) hn hc w hdb
theorem B4.step {w0 w1 w2 : World} {k a b : Nat} (h0 : Below k w0 w1) (h : B4 w1 k a b) (hb : Below w1.heap.size w1 w2) : Below k w0 w2 := h0.trans (hb.mono (by have := h.sz; omega))

attribute [local irreducible] cmpI
set_option maxHeartbeats 2000000 in
set_option maxRecDepth 100000 in
theorem div_pos (a b : Nat) (hb : 0 < b) (ha : (digs a).length ≤ 1000000000000) (w : World) :
    Calls Tryd.prog 48 #[natV a, natV b] w fun e w' => e = .returned (.tuple #[natV (a / b), natV (a % b), .bool true]) ∧ Below w.heap.size w w' := by
  have heq : ((((lo b : Nat) : Int) == ((lo 0 : Nat) : Int)) = false) ∨ ((((lo b : Nat) : Int) == ((lo 0 : Nat) : Int)) = true ∧ ((hs b).toList == (hs 0).toList) = false) := by
    by_cases h : lo b = lo 0
    · right
      refine ⟨by rw [h]; simp, ?_⟩
      rw [hs_eq, decide_eq_false]
      intro h2
      have h3 : b % Bs = 0 % Bs := by have h4 := h; unfold lo at h4; exact h4
      have := Nat.div_add_mod b Bs
      rw [h2, h3] at this
      simp at this; omega
    · left
      rw [beq_eq_false_iff_ne]; omega
  obtain ⟨w0, hw0, hA, hB, hC, hD, hbw, hsz⟩ := boxes4 w (.int .u64 ((lo a : Nat) : Int)) (.string (hs a)) (.int .u64 ((lo b : Nat) : Int)) (.string (hs b)) (.int .u64 0) (.string ⟨#[]⟩) (.int .u64 0) (.string ⟨#[]⟩) 25
  go_enter Tryd.func48, Tryd.ntmps48
  go_wp2
  clear hw0
  have hB1 := hB
  have H0 : B4 w0 w.heap.size a b := ⟨hA, hB, hC, hD, hsz⟩
  rcases heq with he1 | ⟨he1, he2⟩ <;> (
    obtain ⟨b0, b1, bf⟩ := hB
    go_region_held3 (fun w' => w'.cell? ⟨w.heap.size + 1, 0, none⟩ = some (.int .u64 ((lo b : Nat) : Int)) ∧ w'.cell? ⟨w.heap.size + 1, 1, none⟩ = some (.string (hs b)))
      (first | exact ⟨b0, b1⟩ | exact ⟨b0', b1'⟩)
      (first
        | (go_at_call 42; ((with_reducible refine Calls.mono (of_zero _) ?_); rintro e w1 ⟨rfl, hb1⟩; obtain ⟨b0', b1', bf'⟩ := Bx.below (w := w0.drew) ⟨b0, b1, bf⟩ hb1 (by simp <;> omega))))
    have hb01 := (Below.refl w0.heap.size w0).drew.trans hb1
    have H1 := H0.below hb01
    have hB1 := hbw.trans (hb01.mono (by omega))
    clear b0' b1' bf' b0 b1 bf hA hC hD hb01 hb1 H0 hbw hsz
    have HC := Lib.hid (fun w => cmp_any a b w)
    rcases Nat.lt_or_ge a b with hab | hab
    · obtain ⟨⟨a0, a1, af⟩, ⟨b0, b1, bf⟩, -⟩ := id H1
      rw [cmpI_lt hab] at HC
      go_wp2_with fail
      refine (HC.out _).mono ?_
      rintro e w2 ⟨rfl, hb2⟩
      have H2 := H1.below hb2
      have hB2 := H1.step hB1 hb2
      clear a0 a1 af b0 b1 bf HC hB1 hb2 H1
      obtain ⟨⟨a0, a1, af⟩, ⟨b0, b1, bf⟩, ⟨c0, c1, cf⟩, ⟨d0, d1, df⟩, hsz⟩ := id H2
      go_wp2_with fail
      go_region
      go_wp2_with fail
      have hq : natV (a / b) = natV 0 := congrArg natV (Nat.div_eq_of_lt hab)
      have hr : natV (a % b) = natV a := congrArg natV (Nat.mod_eq_of_lt hab)
      exact bodyPost_ret (v := .tuple #[natV (a / b), natV (a % b), .bool true]) (by rw [hq, hr, natV_zero]; simp [results, Tryd.results48, go_sem, c0, c1, cf, d0, d1, df]) rfl ⟨rfl, ((((hB2.setCell (by simp <;> omega) _).setCell (by simp <;> omega) _).setCell (by simp <;> omega) _).setCell (by simp <;> omega) _).drew⟩
    · have hcm := cmpI_ge hab
      obtain ⟨⟨a0, a1, af⟩, ⟨b0, b1, bf⟩, -⟩ := id H1
      go_wp2_with fail
      refine (HC.out _).mono ?_
      rintro e w2 ⟨rfl, hb2⟩
      have H2 := H1.below hb2
      have hB2 := H1.step hB1 hb2
      clear a0 a1 af b0 b1 bf HC hB1 hb2 H1
      obtain ⟨⟨a0, a1, af⟩, ⟨b0, b1, bf⟩, -⟩ := id H2
      go_wp2_with fail
      have HS := Lib.hid (fun w => small_any a w)
      by_cases hsa : a < Bs
      · have hs1 : sm a = true := by unfold sm; exact decide_eq_true hsa
        refine (HS.out _).mono ?_
        rintro e w3 ⟨rfl, hb3⟩
        have H3 := H2.below hb3
        have hB3 := H2.step hB2 hb3
        clear a0 a1 af b0 b1 bf hB2 hb3 H2
        obtain ⟨⟨a0, a1, af⟩, ⟨b0, b1, bf⟩, ⟨c0, c1, cf⟩, ⟨d0, d1, df⟩, hsz⟩ := id H3
        have hsb : b < Bs := Nat.lt_of_le_of_lt hab hsa
        have hla : lo a = a := lo_small hsa
        have hlb : lo b = b := lo_small hsb
        have hb0 : ¬ b = 0 := by omega
        have hwq : IntKind.u64.wrap ((a : Int) / (b : Int)) = (a : Int) / (b : Int) := by
          have := Nat.div_le_self a b
          rw [← Int.natCast_ediv]; exact wrapN _ (Nat.lt_of_le_of_lt this hsa)
        have htm : ((a % b : Nat) : Int) = (a : Int).tmod (b : Int) := by rw [Int.tmod_eq_emod_of_nonneg (by omega), Int.natCast_emod]
        have hwm : IntKind.u64.wrap ((a : Int).tmod (b : Int)) = (a : Int).tmod (b : Int) := by
          have := Nat.mod_le a b
          rw [← htm]; exact wrapN _ (Nat.lt_of_le_of_lt this hsa)
        have HO := fun w => of_any (a / b) (Nat.lt_of_le_of_lt (Nat.div_le_self _ _) hsa) w
        rw [Int.natCast_ediv] at HO
        replace HO := Lib.hid HO
        have HO2 := fun w => of_any (a % b) (Nat.lt_of_le_of_lt (Nat.mod_le _ _) hsa) w
        rw [htm] at HO2
        clear htm
        replace HO2 := Lib.hid HO2
        rw [hla] at a0
        rw [hlb] at b0
        have hla' := Lib.hid hla
        have hlb' := Lib.hid hlb
        clear hsa hsb hla hlb
        go_wp2_with fail
        go_region_held3 (fun w' => w'.cell? ⟨w.heap.size, 0, none⟩ = some (.int .u64 ((a : Nat) : Int)) ∧ w'.cell? ⟨w.heap.size + 1, 0, none⟩ = some (.int .u64 ((b : Nat) : Int)))
          (first | with_reducible exact ⟨a0, b0⟩ | with_reducible exact ⟨a0', b0'⟩ | with_reducible exact ⟨a0'', b0''⟩ | (constructor <;> simp [go_sem, a0'', b0'']; done) | (constructor <;> simp [go_sem, a0, b0]; done))
          (first
            | (go_at_call 42; ((with_reducible refine Calls.mono (HO.out _) ?_); rintro e w4 ⟨rfl, hb4⟩; have H4 := H3.below ((Below.refl w3.heap.size w3).drew.trans hb4); have a0' := (H4.A.1); rw [hla'.out] at a0'; have b0' := H4.B.1; rw [hlb'.out] at b0'))
            | (go_at_call 42; ((with_reducible refine Calls.mono (HO2.out _) ?_); rintro e w5 ⟨rfl, hb5⟩; have H5 := H4.below hb5; have a0'' := (H5.A.1); rw [hla'.out] at a0''; have b0'' := H5.B.1; rw [hlb'.out] at b0''; obtain ⟨c0', c1', cf'⟩ := H5.C; obtain ⟨d0', d1', df'⟩ := H5.D)))
        clear hwq hwm hb0
        go_wp2_with fail
        exact bodyPost_ret (v := .tuple #[natV (a / b), natV (a % b), .bool true]) (by simp [results, Tryd.results48, go_sem, c0', c1', cf', d0', d1', df']) rfl ⟨rfl, ((((H4.step (H3.step hB3 ((Below.refl w3.heap.size w3).drew.trans hb4)) hb5).setCell (by simp <;> omega) _).setCell (by simp <;> omega) _).setCell (by simp <;> omega) _).setCell (by simp <;> omega) _⟩
      · have hs1 : sm a = false := by unfold sm; exact decide_eq_false hsa
        refine (HS.out _).mono ?_
        rintro e w3 ⟨rfl, hb3⟩
        have H3 := H2.below hb3
        have hB3 := H2.step hB2 hb3
        clear a0 a1 af b0 b1 bf hB2 hb3 H2 HS
        obtain ⟨⟨a0, a1, af⟩, ⟨b0, b1, bf⟩, -⟩ := id H3
        go_wp2_with fail
        have HS := Lib.hid (fun w => small_any b w)
        refine (HS.out _).mono ?_
        rintro e w4 ⟨rfl, hb4⟩
        have H4 := H3.below hb4
        have hB4 := H3.step hB3 hb4
        clear a0 a1 af b0 b1 bf hB3 hb4 H3 HS
        have hsz4 := H4.sz
        have HDa := Lib.hid (fun w => digits_any a (by omega) w)
        by_cases hsb : b < Bs
        · have hs2 : sm b = true := by unfold sm; exact decide_eq_true hsb
          have hlb : lo b = b := lo_small hsb
          obtain ⟨⟨a0, a1, af⟩, ⟨b0, b1, bf⟩, -⟩ := id H4
          go_wp2_with fail
          refine (HDa.out _).mono ?_
          rintro e w5 ⟨gx, cx, zx, rfl, hcx, hgx, hdx, hb5⟩
          have H5 := H4.below hb5
          have hB5 := H4.step hB4 hb5
          clear a0 a1 af b0 b1 bf hb5 hB4 H4 HDa
          obtain ⟨⟨a0, a1, af⟩, ⟨b0, b1, bf⟩, -⟩ := id H5
          rw [hlb] at b0
          clear hlb
          go_wp2_with fail
          have HDD := Lib.hid (divD gx cx a b (List.replicate zx 0) hb hsb ha w5 hdx)
          have hgx4 : w.heap.size + 4 ≤ gx := Nat.le_trans hsz4 hgx
          have HO := fun w => of_any (a % b) (Nat.lt_of_lt_of_le (Nat.mod_lt _ hb) (Nat.le_of_lt hsb)) w
          have HP := fun Q h1 h2 h3 => packQ gx cx (digs a).length (a / b) Q (List.replicate zx 0) h1 h2 h3 ha hcx
          replace HO := Lib.hid HO
          replace HP := Lib.hid HP
          clear hsb hdx
          refine (HDD.out).mono ?_
          rintro e w6 ⟨rfl, Q, hQ1, hQ2, hQ3, hdq, hg6⟩
          have hb6 := grown_below hg6 hgx4 H5.sz
          have H6 := H5.belowN hb6
          have hB6 := hB5.trans (hb6.mono (by omega))
          clear a0 a1 af b0 b1 bf hb6 hg6 hB5 H5 HDD
          go_wp2_with fail
          refine (HP.out Q hQ1 hQ2 hQ3 _ hdq).mono ?_
          rintro e w7 ⟨rfl, hb7⟩
          have H7 := H6.below hb7
          have hB7 := H6.step hB6 hb7
          clear hb7 hB6 H6 HP hdq
          go_wp2_with fail
          refine (HO.out _).mono ?_
          rintro e w8 ⟨rfl, hb8⟩
          have H8 := H7.below hb8
          have hB8 := H7.step hB7 hb8
          clear hb8 hB7 H7 HO
          obtain ⟨-, -, ⟨c0, c1, cf⟩, ⟨d0, d1, df⟩, hsz⟩ := id H8
          go_wp2_with fail
          exact bodyPost_ret (v := .tuple #[natV (a / b), natV (a % b), .bool true]) (by simp [results, Tryd.results48, go_sem, c0, c1, cf, d0, d1, df]) rfl ⟨rfl, (((hB8.setCell (by simp <;> omega) _).setCell (by simp <;> omega) _).setCell (by simp <;> omega) _).setCell (by simp <;> omega) _⟩
        · have hs2 : sm b = false := by unfold sm; exact decide_eq_false hsb
          obtain ⟨⟨a0, a1, af⟩, ⟨b0, b1, bf⟩, -⟩ := id H4
          go_wp2_with fail
          have HDb := Lib.hid (fun w => digits_any b (by have := digs_mono hab; omega) w)
          have hql : (digs (a / b)).length ≤ 1000000000000 := Nat.le_trans (digs_mono (Nat.div_le_self a b)) ha
          have hrl : (digs (a % b)).length ≤ 1000000000000 := Nat.le_trans (digs_mono (Nat.mod_le a b)) ha
          have HDV := fun gx gy cx cy zx zy => divW gx gy cx cy a b (List.replicate zx 0) (List.replicate zy 0) hsb hab ha
          have HPq := fun g c z => packD g c (a / b) z hql
          have HPr := fun g c z => packD g c (a % b) z hrl
          replace HDV := Lib.hid HDV
          replace HPq := Lib.hid HPq
          replace HPr := Lib.hid HPr
          clear hql hrl ha
          go_region_held3 (fun w' => w'.cell? ⟨w.heap.size, 0, none⟩ = some (.int .u64 ((lo a : Nat) : Int)) ∧ w'.cell? ⟨w.heap.size, 1, none⟩ = some (.string (hs a)) ∧ w'.cell? ⟨w.heap.size + 1, 0, none⟩ = some (.int .u64 ((lo b : Nat) : Int)) ∧ w'.cell? ⟨w.heap.size + 1, 1, none⟩ = some (.string (hs b)))
            (first | with_reducible exact ⟨a0, a1, b0, b1⟩ | with_reducible exact ⟨a0', a1', b0', b1'⟩ | with_reducible exact ⟨a0'', a1'', b0'', b1''⟩ | exact ⟨a0, a1, b0, b1⟩)
            (first
              | (go_at_call 44; ((with_reducible refine Calls.mono (HDa.out _) ?_); rintro e w5 ⟨gx, cx, zx, rfl, hcx, hgx, hdx, hb5⟩; have H5 := H4.below ((Below.refl w4.heap.size w4).drew.trans hb5); obtain ⟨⟨a0', a1', af'⟩, ⟨b0', b1', bf'⟩, -⟩ := id H5))
              | (go_at_call 44; ((with_reducible refine Calls.mono (HDb.out _) ?_); rintro e w6 ⟨gy, cy, zy, rfl, hcy, hgy, hdy, hb6⟩; have H6 := H5.below hb6; obtain ⟨⟨a0'', a1'', af''⟩, ⟨b0'', b1'', bf''⟩, -⟩ := id H6))
              | (go_at_call 70; ((with_reducible refine Calls.mono (HDV.out gx gy cx cy zx zy _ (hdx.below hb6 hdx.lt) hdy) ?_); rintro e w7 ⟨gq, cq, zq, gr, cr, zr, rfl, hdq, hdr, hqr, hgq, hgr, hcq, hcr, hb7⟩; have H7 := H6.below hb7; obtain ⟨⟨a0', a1', af'⟩, ⟨b0', b1', bf'⟩, -⟩ := id H7)))
          have hB7 := H6.step (H5.step (H4.step hB4 ((Below.refl w4.heap.size w4).drew.trans hb5)) hb6) hb7
          have hgr6 : w7.heap.size > gr := hdr.lt
          clear a0 a1 af b0 b1 bf a0' a1' af' b0' b1' bf' HDa HDb HDV hdx hdy hb5 hb6 hb7 hgq hgr hqr H4 H5 H6 hB4
          go_wp2_with fail
          refine (HPq.out gq cq zq hcq _ hdq).mono ?_
          rintro e w8 ⟨rfl, hb8⟩
          have H8 := H7.below hb8
          have hB8 := H7.step hB7 hb8
          have hdr8 := hdr.below hb8 hgr6
          clear hb8 hB7 H7 HPq hdq hdr hgr6
          go_wp2_with fail
          refine (HPr.out gr cr zr hcr _ hdr8).mono ?_
          rintro e w9 ⟨rfl, hb9⟩
          have H9 := H8.below hb9
          have hB9 := H8.step hB8 hb9
          clear hb9 hB8 H8 HPr hdr8
          obtain ⟨-, -, ⟨c0, c1, cf⟩, ⟨d0, d1, df⟩, hsz⟩ := id H9
          go_wp2_with fail
          exact bodyPost_ret (v := .tuple #[natV (a / b), natV (a % b), .bool true]) (by simp [results, Tryd.results48, go_sem, c0, c1, cf, d0, d1, df]) rfl ⟨rfl, (((hB9.setCell (by simp <;> omega) _).setCell (by simp <;> omega) _).setCell (by simp <;> omega) _).setCell (by simp <;> omega) _⟩)
end Go.Proofs.YthehcjfmokabfaaDoor
