/-
  The law answers true at every input, and leaves its arguments as they were: a part of the proof. CONDITIONS: the package-level tables start as the program's text lays them (the card ties them).
-/
import Derived.Test.YthffglapmkkohaaGreatDoorZea
set_option linter.unusedVariables false
set_option linter.unusedSimpArgs false
set_option maxHeartbeats 16000000
set_option maxRecDepth 100000
namespace Go.Proofs.YthffglapmkkohaaGreatDoor
open Go.RowKit
attribute [local irreducible] lo hs sm s64 c64 d64 b64 mh ml pd pc qd qc val hiB str
theorem al4 (w : World) (A B C D : Obj) : ((((w.alloc A).alloc B).alloc C).alloc D).heap[w.heap.size + 3]? = some D := by
 have := heap_alloc_new (((w.alloc A).alloc B).alloc C) D
 simpa using this
theorem al4_3 (w : World) (A B C D : Obj) : ((((w.alloc A).alloc B).alloc C).alloc D).heap[w.heap.size + 2]? = some C := (Below.heap_alloc _ _ _ (by simp)).trans (al3 w A B C)
theorem al4_2 (w : World) (A B C D : Obj) : ((((w.alloc A).alloc B).alloc C).alloc D).heap[w.heap.size + 1]? = some B := (Below.heap_alloc _ _ _ (by simp <;> omega)).trans (al3_2 w A B C)
theorem al4_1 (w : World) (A B C D : Obj) : ((((w.alloc A).alloc B).alloc C).alloc D).heap[w.heap.size]? = some A := (Below.heap_alloc _ _ _ (by simp <;> omega)).trans (al3_1 w A B C)
theorem below4 (w : World) (A B C D : Obj) : Below w.heap.size w ((((w.alloc A).alloc B).alloc C).alloc D) := (below3 w A B C).alloc (by simp <;> omega) _
/-- The world behind the four boxes of Div. -/
theorem boxes4 (w : World) (A1 A2 B1 B2 C1 C2 D1 D2 : Value) (t : TypeId) : ∃ w0, ((((w.alloc (.cells #[A1, A2] t)).alloc (.cells #[B1, B2] t)).alloc (.cells #[C1, C2] t)).alloc (.cells #[D1, D2] t)) = w0 ∧
  Bx w0 w.heap.size A1 A2 ∧ Bx w0 (w.heap.size + 1) B1 B2 ∧ Bx w0 (w.heap.size + 2) C1 C2 ∧ Bx w0 (w.heap.size + 3) D1 D2 ∧ Below w.heap.size w w0 ∧ w.heap.size + 4 ≤ w0.heap.size :=
 ⟨_, rfl, Bx.of _ _ _ _ _ (al4_1 w _ _ _ _), Bx.of _ _ _ _ _ (al4_2 w _ _ _ _), Bx.of _ _ _ _ _ (al4_3 w _ _ _ _), Bx.of _ _ _ _ _ (al4 w _ _ _ _), below4 w _ _ _ _, by simp⟩
theorem of_zero (w : World) : Calls Tryz.prog 133 #[.int .u64 0] w fun e w' => e = .returned (natV 0) ∧ Below w.heap.size w w' := of_any 0 Bs_pos w
theorem cmpI_ge {a b : Nat} (h : b ≤ a) : decide (cmpI a b < 0) = false := by
 rcases Nat.lt_or_eq_of_le h with h | h
 ·rw [cmpI_gt h]; rfl
 ·rw [h, cmpI_eq]; rfl
/-- Div's four boxes in a later world. -/
structure B4 (w : World) (k : Nat) (a b : Nat) : Prop where
 A : Bx w k (.int .u64 ((lo a : Nat) : Int)) (.string (hs a))
 B : Bx w (k + 1) (.int .u64 ((lo b : Nat) : Int)) (.string (hs b))
 C : Bx w (k + 2) (.int .u64 0) (.string ⟨#[]⟩)
 D : Bx w (k + 3) (.int .u64 0) (.string ⟨#[]⟩)
 sz : k + 4 ≤ w.heap.size
theorem B4.below {w w' : World} {k a b : Nat} (h : B4 w k a b) (hb : Below w.heap.size w w') : B4 w' k a b :=
 ⟨h.A.below hb (by have := h.sz; omega), h.B.below hb (by have := h.sz; omega), h.C.below hb (by have := h.sz; omega), h.D.below hb (by have := h.sz; omega), Nat.le_trans h.sz hb.size⟩
theorem B4.belowN {w w' : World} {k a b : Nat} (h : B4 w k a b) (hb : Below (k + 4) w w') : B4 w' k a b :=
 ⟨h.A.below hb (by omega), h.B.below hb (by omega), h.C.below hb (by omega), h.D.below hb (by omega), Nat.le_trans h.sz hb.size⟩
theorem divD (gx cx a b : Nat) (C : List Nat) (hb : 0 < b) (hbB : b < Bs) (ha : (digs a).length ≤ 1000000000000) (w : World) (hdb : DB w gx (digs a ++ C)) :
  Calls Tryz.prog 172 #[.slice (some ⟨gx, 0, none⟩) (digs a).length cx, .int .u64 (b : Int)] w fun e w' =>
   e = .returned (.int .u64 ((a % b : Nat) : Int)) ∧ ∃ Q : List Nat, Q.length = (digs a).length ∧ Dig Q ∧ val Q = a / b ∧ DB w' gx (Q ++ C) ∧ w.grownBy w' (some gx) := by
 refine (divideByDigit_any gx cx b (digs a) C (digs_dig a) hb hbB (by omega) w hdb).mono ?_
 rintro e w' ⟨rfl, Q, ⟨h1, h2, h3⟩, h4, h5⟩
 rw [show val (digs a) = a from val_digs a] at h3
 exact ⟨by rw [show val (digs a) = a from val_digs a], Q, h1, h2, h3, h4, h5⟩
theorem packQ (g c n q : Nat) (Q C : List Nat) (hl : Q.length = n) (hd : Dig Q) (hv : val Q = q) (hn : n ≤ 1000000000000) (hc : n ≤ c) (w : World) (hdb : DB w g (Q ++ C)) :
  Calls Tryz.prog 147 #[.slice (some ⟨g, 0, none⟩) n c] w fun e w' => e = .returned (natV q) ∧ Below w.heap.size w w' := by
 subst hl; subst hv
 exact pack_any g 0 c Q hd (by omega) hc w hdb.lt hdb.rdl
theorem digs_mono {a b : Nat} (h : b ≤ a) : (digs b).length ≤ (digs a).length := digs_length_iff.2 (Nat.lt_of_le_of_lt h (digs_length_iff.1 (Nat.le_refl _)))
theorem digs_two {b : Nat} (h : ¬ b < Bs) : ∃ m, (digs b).length = m + 2 := by
 rcases Nat.lt_or_ge (digs b).length 2 with h2 | h2
 ·exact absurd (by have := digs_length_iff.1 (show (digs b).length ≤ 1 by omega); rwa [Nat.pow_one] at this) h
 ·exact ⟨(digs b).length - 2, by omega⟩
theorem divW (gx gy cx cy a b : Nat) (X Y : List Nat) (hb : ¬ b < Bs) (hab : b ≤ a) (ha : (digs a).length ≤ 1000000000000) (w : World) (hdx : DB w gx (digs a ++ X)) (hdy : DB w gy (digs b ++ Y)) :
  Calls Tryz.prog 195 #[.slice (some ⟨gx, 0, none⟩) (digs a).length cx, .slice (some ⟨gy, 0, none⟩) (digs b).length cy] w fun e w' =>
   ∃ gq cq zq gr cr zr, e = .returned (.tuple #[.slice (some ⟨gq, 0, none⟩) (digs (a / b)).length cq, .slice (some ⟨gr, 0, none⟩) (digs (a % b)).length cr]) ∧
    DB w' gq (digs (a / b) ++ List.replicate zq 0) ∧ DB w' gr (digs (a % b) ++ List.replicate zr 0) ∧ gq ≠ gr ∧ w.heap.size ≤ gq ∧ w.heap.size ≤ gr ∧ (digs (a / b)).length ≤ cq ∧ (digs (a % b)).length ≤ cr ∧ Below w.heap.size w w' := by
 obtain ⟨m, hm⟩ := digs_two hb
 exact divide_any gx gy cx cy m a b hm (digs_mono hab) ha w hdx.lt hdy.lt hdx.rdl hdy.rdl
theorem packD (g c q z : Nat) (hn : (digs q).length ≤ 1000000000000) (hc : (digs q).length ≤ c) (w : World) (hdb : DB w g (digs q ++ List.replicate z 0)) :
  Calls Tryz.prog 147 #[.slice (some ⟨g, 0, none⟩) (digs q).length c] w fun e w' => e = .returned (natV q) ∧ Below w.heap.size w w' :=
 packQ g c _ q (digs q) _ rfl (digs_dig q) (val_digs q) hn hc w hdb
theorem B4.step {w0 w1 w2 : World} {k a b : Nat} (h0 : Below k w0 w1) (h : B4 w1 k a b) (hb : Below w1.heap.size w1 w2) : Below k w0 w2 := h0.trans (hb.mono (by have := h.sz; omega))
attribute [local irreducible] cmpI
theorem div_pos (a b : Nat) (hb : 0 < b) (ha : (digs a).length ≤ 1000000000000) (w : World) :
  Calls Tryz.prog 173 #[natV a, natV b] w fun e w' => e = .returned (.tuple #[natV (a / b), natV (a % b), .bool true]) ∧ Below w.heap.size w w' := by
 have heq : ((((lo b : Nat) : Int) == ((lo 0 : Nat) : Int)) = false) ∨ ((((lo b : Nat) : Int) == ((lo 0 : Nat) : Int)) = true ∧ ((hs b).toList == (hs 0).toList) = false) := by
  by_cases h : lo b = lo 0
  ·right
   refine ⟨by rw [h]; simp, ?_⟩
   rw [hs_eq, decide_eq_false]
   intro h2
   have h3 : b % Bs = 0 % Bs := by have h4 := h; unfold lo at h4; exact h4
   have := Nat.div_add_mod b Bs
   rw [h2, h3] at this
   simp at this; omega
  ·left
   rw [beq_eq_false_iff_ne]; omega
 obtain ⟨w0, hw0, hA, hB, hC, hD, hbw, hsz⟩ := boxes4 w (.int .u64 ((lo a : Nat) : Int)) (.string (hs a)) (.int .u64 ((lo b : Nat) : Int)) (.string (hs b)) (.int .u64 0) (.string ⟨#[]⟩) (.int .u64 0) (.string ⟨#[]⟩) 32
 go_enter Tryz.func173, Tryz.ntmps173
 go_wp2
 clear hw0
 have hB1 := hB
 have H0 : B4 w0 w.heap.size a b := ⟨hA, hB, hC, hD, hsz⟩
 rcases heq with he1 | ⟨he1, he2⟩ <;> (
  obtain ⟨b0, b1, bf⟩ := hB
  go_region_held3 (fun w' => w'.cell? ⟨w.heap.size + 1, 0, none⟩ = some (.int .u64 ((lo b : Nat) : Int)) ∧ w'.cell? ⟨w.heap.size + 1, 1, none⟩ = some (.string (hs b)))
   (first | exact ⟨b0, b1⟩ | exact ⟨b0', b1'⟩)
   (first
    | (go_at_call 133; ((with_reducible refine Calls.mono (of_zero _) ?_); rintro e w1 ⟨rfl, hb1⟩; obtain ⟨b0', b1', bf'⟩ := Bx.below (w := w0.drew) ⟨b0, b1, bf⟩ hb1 (by simp <;> omega))))
  have hb01 := (Below.refl w0.heap.size w0).drew.trans hb1
  have H1 := H0.below hb01
  have hB1 := hbw.trans (hb01.mono (by omega))
  clear b0' b1' bf' b0 b1 bf hA hC hD hb01 hb1 H0 hbw hsz
  have HC := Lib.hid (fun w => cmp_any a b w)
  rcases Nat.lt_or_ge a b with hab | hab
  ·obtain ⟨⟨a0, a1, af⟩, ⟨b0, b1, bf⟩, -⟩ := id H1
   rw [cmpI_lt hab] at HC
   go_wp2_with fail
   refine (HC.out _).mono ?_
   rintro e w2 ⟨rfl, hb2⟩
   have H2 := H1.below hb2
   have hB2 := H1.step hB1 hb2
   clear a0 a1 af b0 b1 bf HC hB1 hb2 H1
   obtain ⟨⟨a0, a1, af⟩, ⟨b0, b1, bf⟩, ⟨c0, c1, cf⟩, ⟨d0, d1, df⟩, hsz⟩ := id H2
   go_wp2_with fail
   go_region
   go_wp2_with fail
   have hq : natV (a / b) = natV 0 := congrArg natV (Nat.div_eq_of_lt hab)
   have hr : natV (a % b) = natV a := congrArg natV (Nat.mod_eq_of_lt hab)
   exact bodyPost_ret (v := .tuple #[natV (a / b), natV (a % b), .bool true]) (by rw [hq, hr, natV_zero]; simp [results, Tryz.results173, go_sem, c0, c1, cf, d0, d1, df]) rfl ⟨rfl, ((((hB2.setCell (by simp <;> omega) _).setCell (by simp <;> omega) _).setCell (by simp <;> omega) _).setCell (by simp <;> omega) _).drew⟩
  ·have hcm := cmpI_ge hab
   obtain ⟨⟨a0, a1, af⟩, ⟨b0, b1, bf⟩, -⟩ := id H1
   go_wp2_with fail
   refine (HC.out _).mono ?_
   rintro e w2 ⟨rfl, hb2⟩
   have H2 := H1.below hb2
   have hB2 := H1.step hB1 hb2
   clear a0 a1 af b0 b1 bf HC hB1 hb2 H1
   obtain ⟨⟨a0, a1, af⟩, ⟨b0, b1, bf⟩, -⟩ := id H2
   go_wp2_with fail
   have HS := Lib.hid (fun w => small_any a w)
   by_cases hsa : a < Bs
   ·have hs1 : sm a = true := by unfold sm; exact decide_eq_true hsa
    refine (HS.out _).mono ?_
    rintro e w3 ⟨rfl, hb3⟩
    have H3 := H2.below hb3
    have hB3 := H2.step hB2 hb3
    clear a0 a1 af b0 b1 bf hB2 hb3 H2
    obtain ⟨⟨a0, a1, af⟩, ⟨b0, b1, bf⟩, ⟨c0, c1, cf⟩, ⟨d0, d1, df⟩, hsz⟩ := id H3
    have hsb : b < Bs := Nat.lt_of_le_of_lt hab hsa
    have hla : lo a = a := lo_small hsa
    have hlb : lo b = b := lo_small hsb
    have hb0 : ¬ b = 0 := by omega
    have hwq : IntKind.u64.wrap ((a : Int) / (b : Int)) = (a : Int) / (b : Int) := by
     have := Nat.div_le_self a b
     rw [← Int.natCast_ediv]; exact wrapN _ (Nat.lt_of_le_of_lt this hsa)
    have htm : ((a % b : Nat) : Int) = (a : Int).tmod (b : Int) := by rw [Int.tmod_eq_emod_of_nonneg (by omega), Int.natCast_emod]
    have hwm : IntKind.u64.wrap ((a : Int).tmod (b : Int)) = (a : Int).tmod (b : Int) := by
     have := Nat.mod_le a b
     rw [← htm]; exact wrapN _ (Nat.lt_of_le_of_lt this hsa)
    have HO := fun w => of_any (a / b) (Nat.lt_of_le_of_lt (Nat.div_le_self _ _) hsa) w
    rw [Int.natCast_ediv] at HO
    replace HO := Lib.hid HO
    have HO2 := fun w => of_any (a % b) (Nat.lt_of_le_of_lt (Nat.mod_le _ _) hsa) w
    rw [htm] at HO2
    clear htm
    replace HO2 := Lib.hid HO2
    rw [hla] at a0
    rw [hlb] at b0
    have hla' := Lib.hid hla
    have hlb' := Lib.hid hlb
    clear hsa hsb hla hlb
    go_wp2_with fail
    go_region_held3 (fun w' => w'.cell? ⟨w.heap.size, 0, none⟩ = some (.int .u64 ((a : Nat) : Int)) ∧ w'.cell? ⟨w.heap.size + 1, 0, none⟩ = some (.int .u64 ((b : Nat) : Int)))
     (first | with_reducible exact ⟨a0, b0⟩ | with_reducible exact ⟨a0', b0'⟩ | with_reducible exact ⟨a0'', b0''⟩ | (constructor <;> simp [go_sem, a0'', b0'']; done) | (constructor <;> simp [go_sem, a0, b0]; done))
     (first
      | (go_at_call 133; ((with_reducible refine Calls.mono (HO.out _) ?_); rintro e w4 ⟨rfl, hb4⟩; have H4 := H3.below ((Below.refl w3.heap.size w3).drew.trans hb4); have a0' := (H4.A.1); rw [hla'.out] at a0'; have b0' := H4.B.1; rw [hlb'.out] at b0'))
      | (go_at_call 133; ((with_reducible refine Calls.mono (HO2.out _) ?_); rintro e w5 ⟨rfl, hb5⟩; have H5 := H4.below hb5; have a0'' := (H5.A.1); rw [hla'.out] at a0''; have b0'' := H5.B.1; rw [hlb'.out] at b0''; obtain ⟨c0', c1', cf'⟩ := H5.C; obtain ⟨d0', d1', df'⟩ := H5.D)))
    clear hwq hwm hb0
    go_wp2_with fail
    exact bodyPost_ret (v := .tuple #[natV (a / b), natV (a % b), .bool true]) (by simp [results, Tryz.results173, go_sem, c0', c1', cf', d0', d1', df']) rfl ⟨rfl, ((((H4.step (H3.step hB3 ((Below.refl w3.heap.size w3).drew.trans hb4)) hb5).setCell (by simp <;> omega) _).setCell (by simp <;> omega) _).setCell (by simp <;> omega) _).setCell (by simp <;> omega) _⟩
   ·have hs1 : sm a = false := by unfold sm; exact decide_eq_false hsa
    refine (HS.out _).mono ?_
    rintro e w3 ⟨rfl, hb3⟩
    have H3 := H2.below hb3
    have hB3 := H2.step hB2 hb3
    clear a0 a1 af b0 b1 bf hB2 hb3 H2 HS
    obtain ⟨⟨a0, a1, af⟩, ⟨b0, b1, bf⟩, -⟩ := id H3
    go_wp2_with fail
    have HS := Lib.hid (fun w => small_any b w)
    refine (HS.out _).mono ?_
    rintro e w4 ⟨rfl, hb4⟩
    have H4 := H3.below hb4
    have hB4 := H3.step hB3 hb4
    clear a0 a1 af b0 b1 bf hB3 hb4 H3 HS
    have hsz4 := H4.sz
    have HDa := Lib.hid (fun w => digits_any a (by omega) w)
    by_cases hsb : b < Bs
    ·have hs2 : sm b = true := by unfold sm; exact decide_eq_true hsb
     have hlb : lo b = b := lo_small hsb
     obtain ⟨⟨a0, a1, af⟩, ⟨b0, b1, bf⟩, -⟩ := id H4
     go_wp2_with fail
     refine (HDa.out _).mono ?_
     rintro e w5 ⟨gx, cx, zx, rfl, hcx, hgx, hdx, hb5⟩
     have H5 := H4.below hb5
     have hB5 := H4.step hB4 hb5
     clear a0 a1 af b0 b1 bf hb5 hB4 H4 HDa
     obtain ⟨⟨a0, a1, af⟩, ⟨b0, b1, bf⟩, -⟩ := id H5
     rw [hlb] at b0
     clear hlb
     go_wp2_with fail
     have HDD := Lib.hid (divD gx cx a b (List.replicate zx 0) hb hsb ha w5 hdx)
     have hgx4 : w.heap.size + 4 ≤ gx := Nat.le_trans hsz4 hgx
     have HO := fun w => of_any (a % b) (Nat.lt_of_lt_of_le (Nat.mod_lt _ hb) (Nat.le_of_lt hsb)) w
     have HP := fun Q h1 h2 h3 => packQ gx cx (digs a).length (a / b) Q (List.replicate zx 0) h1 h2 h3 ha hcx
     replace HO := Lib.hid HO
     replace HP := Lib.hid HP
     clear hsb hdx
     refine (HDD.out).mono ?_
     rintro e w6 ⟨rfl, Q, hQ1, hQ2, hQ3, hdq, hg6⟩
     have hb6 := grown_below hg6 hgx4 H5.sz
     have H6 := H5.belowN hb6
     have hB6 := hB5.trans (hb6.mono (by omega))
     clear a0 a1 af b0 b1 bf hb6 hg6 hB5 H5 HDD
     go_wp2_with fail
     refine (HP.out Q hQ1 hQ2 hQ3 _ hdq).mono ?_
     rintro e w7 ⟨rfl, hb7⟩
     have H7 := H6.below hb7
     have hB7 := H6.step hB6 hb7
     clear hb7 hB6 H6 HP hdq
     go_wp2_with fail
     refine (HO.out _).mono ?_
     rintro e w8 ⟨rfl, hb8⟩
     have H8 := H7.below hb8
     have hB8 := H7.step hB7 hb8
     clear hb8 hB7 H7 HO
     obtain ⟨-, -, ⟨c0, c1, cf⟩, ⟨d0, d1, df⟩, hsz⟩ := id H8
     go_wp2_with fail
     exact bodyPost_ret (v := .tuple #[natV (a / b), natV (a % b), .bool true]) (by simp [results, Tryz.results173, go_sem, c0, c1, cf, d0, d1, df]) rfl ⟨rfl, (((hB8.setCell (by simp <;> omega) _).setCell (by simp <;> omega) _).setCell (by simp <;> omega) _).setCell (by simp <;> omega) _⟩
    ·have hs2 : sm b = false := by unfold sm; exact decide_eq_false hsb
     obtain ⟨⟨a0, a1, af⟩, ⟨b0, b1, bf⟩, -⟩ := id H4
     go_wp2_with fail
     have HDb := Lib.hid (fun w => digits_any b (by have := digs_mono hab; omega) w)
     have hql : (digs (a / b)).length ≤ 1000000000000 := Nat.le_trans (digs_mono (Nat.div_le_self a b)) ha
     have hrl : (digs (a % b)).length ≤ 1000000000000 := Nat.le_trans (digs_mono (Nat.mod_le a b)) ha
     have HDV := fun gx gy cx cy zx zy => divW gx gy cx cy a b (List.replicate zx 0) (List.replicate zy 0) hsb hab ha
     have HPq := fun g c z => packD g c (a / b) z hql
     have HPr := fun g c z => packD g c (a % b) z hrl
     replace HDV := Lib.hid HDV
     replace HPq := Lib.hid HPq
     replace HPr := Lib.hid HPr
     clear hql hrl ha
     go_region_held3 (fun w' => w'.cell? ⟨w.heap.size, 0, none⟩ = some (.int .u64 ((lo a : Nat) : Int)) ∧ w'.cell? ⟨w.heap.size, 1, none⟩ = some (.string (hs a)) ∧ w'.cell? ⟨w.heap.size + 1, 0, none⟩ = some (.int .u64 ((lo b : Nat) : Int)) ∧ w'.cell? ⟨w.heap.size + 1, 1, none⟩ = some (.string (hs b)))
      (first | with_reducible exact ⟨a0, a1, b0, b1⟩ | with_reducible exact ⟨a0', a1', b0', b1'⟩ | with_reducible exact ⟨a0'', a1'', b0'', b1''⟩ | exact ⟨a0, a1, b0, b1⟩)
      (first
       | (go_at_call 145; ((with_reducible refine Calls.mono (HDa.out _) ?_); rintro e w5 ⟨gx, cx, zx, rfl, hcx, hgx, hdx, hb5⟩; have H5 := H4.below ((Below.refl w4.heap.size w4).drew.trans hb5); obtain ⟨⟨a0', a1', af'⟩, ⟨b0', b1', bf'⟩, -⟩ := id H5))
       | (go_at_call 145; ((with_reducible refine Calls.mono (HDb.out _) ?_); rintro e w6 ⟨gy, cy, zy, rfl, hcy, hgy, hdy, hb6⟩; have H6 := H5.below hb6; obtain ⟨⟨a0'', a1'', af''⟩, ⟨b0'', b1'', bf''⟩, -⟩ := id H6))
       | (go_at_call 195; ((with_reducible refine Calls.mono (HDV.out gx gy cx cy zx zy _ (hdx.below hb6 hdx.lt) hdy) ?_); rintro e w7 ⟨gq, cq, zq, gr, cr, zr, rfl, hdq, hdr, hqr, hgq, hgr, hcq, hcr, hb7⟩; have H7 := H6.below hb7; obtain ⟨⟨a0', a1', af'⟩, ⟨b0', b1', bf'⟩, -⟩ := id H7)))
     have hB7 := H6.step (H5.step (H4.step hB4 ((Below.refl w4.heap.size w4).drew.trans hb5)) hb6) hb7
     have hgr6 : w7.heap.size > gr := hdr.lt
     clear a0 a1 af b0 b1 bf a0' a1' af' b0' b1' bf' HDa HDb HDV hdx hdy hb5 hb6 hb7 hgq hgr hqr H4 H5 H6 hB4
     go_wp2_with fail
     refine (HPq.out gq cq zq hcq _ hdq).mono ?_
     rintro e w8 ⟨rfl, hb8⟩
     have H8 := H7.below hb8
     have hB8 := H7.step hB7 hb8
     have hdr8 := hdr.below hb8 hgr6
     clear hb8 hB7 H7 HPq hdq hdr hgr6
     go_wp2_with fail
     refine (HPr.out gr cr zr hcr _ hdr8).mono ?_
     rintro e w9 ⟨rfl, hb9⟩
     have H9 := H8.below hb9
     have hB9 := H8.step hB8 hb9
     clear hb9 hB8 H8 HPr hdr8
     obtain ⟨-, -, ⟨c0, c1, cf⟩, ⟨d0, d1, df⟩, hsz⟩ := id H9
     go_wp2_with fail
     exact bodyPost_ret (v := .tuple #[natV (a / b), natV (a % b), .bool true]) (by simp [results, Tryz.results173, go_sem, c0, c1, cf, d0, d1, df]) rfl ⟨rfl, (((hB9.setCell (by simp <;> omega) _).setCell (by simp <;> omega) _).setCell (by simp <;> omega) _).setCell (by simp <;> omega) _⟩)
end Go.Proofs.YthffglapmkkohaaGreatDoor
namespace Go.Proofs.YthffglapmkkohaaGreatDoor
open Go.RowKit
attribute [local irreducible] lo hs sm s64 c64 d64 b64 mh ml pd pc qd qc val hiB str cmpI srD
theorem above_val (D : List Nat) (hD : Dig D) (at_ s : Nat) (hs : s < 64) (h : at_ < D.length) :
  val D / 2 ^ (64 * at_ + s) % Bs = srD s D[at_] (D.getD (at_ + 1) 0) := by
 have h1 : val D / Bs ^ at_ = val (D.drop at_) := by
  have h2 : val D = val (D.take at_) + Bs ^ at_ * val (D.drop at_) := by
   have := val_append (D.take at_) (D.drop at_)
   rw [List.take_append_drop, List.length_take, Nat.min_eq_left (Nat.le_of_lt h)] at this
   exact this
  have h3 : val (D.take at_) < Bs ^ at_ := by
   have := val_lt (hD.take at_)
   rwa [List.length_take, Nat.min_eq_left (Nat.le_of_lt h)] at this
  rw [h2, Nat.add_mul_div_left _ _ (Nat.pow_pos Bs_pos), Nat.div_eq_of_lt h3, Nat.zero_add]
 rw [Nat.pow_add, Nat.pow_mul, show (2 : Nat) ^ 64 = Bs from Bs_pow.symm, ← Nat.div_div_eq_div_mul, h1, List.drop_eq_getElem_cons h, val_cons, srD_sum (Nat.le_of_lt hs), Nat.add_mul_mod_self_left, next_digit D (at_ + 1) hD]
 exact Nat.mod_eq_of_lt (srD_lt (Nat.le_of_lt hs) (hD.get at_ h))
theorem above_past (D : List Nat) (hD : Dig D) (at_ s : Nat) (h : D.length ≤ at_) : val D / 2 ^ (64 * at_ + s) % Bs = 0 := by
 have h1 := val_lt hD
 have h2 : val D < 2 ^ (64 * at_ + s) := by
  refine Nat.lt_of_lt_of_le h1 ?_
  rw [Bs_pow, ← Nat.pow_mul]
  exact Nat.pow_le_pow_right (by omega) (by omega)
 rw [Nat.div_eq_of_lt h2]; exact Nat.zero_mod _
theorem above_any (g c at_ s n : Nat) (D : List Nat) (hD : Dig D) (hn : n = 64 * at_ + s) (hs : s < 64) (hatl : at_ ≤ 1099511627776) (hl : D.length ≤ 1099511627776) (w : World) (hr : Rd w g 0 D) :
  Calls Tryz.prog 213 #[.slice (some ⟨g, 0, none⟩) D.length c, .int .i64 (n : Int)] w fun e w' =>
   e = .returned (.int .u64 ((val D / 2 ^ n % Bs : Nat) : Int)) ∧ w = w' := by
 have hm64 : min s 64 = s := by omega
 have hdq : (n : Int) / 64 = (at_ : Int) := by omega
 have hdm : (n : Int).tmod 64 = (s : Int) := by rw [Int.tmod_eq_emod_of_nonneg (by omega)]; omega
 by_cases hat : at_ < D.length
 ·have hv := above_val D hD at_ s hs hat
  rw [← hn] at hv
  rw [hv]
  clear hn hv
  have hx := hD.get at_ hat
  have hcell := hr at_ hat
  rw [Nat.zero_add] at hcell
  have hd0 : decide (D.length ≤ at_) = false := by rw [decide_eq_false_iff_not]; omega
  have e2 : ((D[at_] : Nat) : Int) / 2 ^ s = ((D[at_] / 2 ^ s : Nat) : Int) := by rw [Int.natCast_ediv, Int.natCast_pow]; rfl
  by_cases hlast : at_ + 1 < D.length
  ·have hor := srD_or (n := s) (z := D.getD (at_ + 1) 0) (Nat.le_of_lt hs) hx
   have hcell2 := hr (at_ + 1) hlast
   rw [Nat.zero_add, show D[at_ + 1] = D.getD (at_ + 1) 0 by simp [hlast]] at hcell2
   rw [e2] at hor
   generalize D[at_] / 2 ^ s = xq at *
   generalize D.getD (at_ + 1) 0 = z at *
   generalize D[at_] = x at *
   clear hx hr hD
   go_enter Tryz.func213, Tryz.ntmps213
   go_upto_region 2 with fail
   clear hdq hdm
   go_wp2
   go_ret
   exact ⟨rfl, rfl⟩
  ·have hz : D.getD (at_ + 1) 0 = 0 := by simp [hlast]
   have hsr : srD s D[at_] 0 = D[at_] / 2 ^ s := by unfold srD; simp
   rw [hz, hsr]
   generalize D[at_] / 2 ^ s = xq at *
   generalize D[at_] = x at *
   clear hx hr hD hz hsr
   go_enter Tryz.func213, Tryz.ntmps213
   go_upto_region 2 with fail
   clear hdq hdm
   go_wp2
   go_ret
   exact ⟨rfl, rfl⟩
 ·have hv := above_past D hD at_ s (Nat.le_of_not_lt hat)
  rw [← hn] at hv
  rw [hv]
  have hd0 : decide (D.length ≤ at_) = true := by rw [decide_eq_true_eq]; omega
  clear hn hv hr hD
  go_enter Tryz.func213, Tryz.ntmps213
  go_wp2
  go_ret
  exact ⟨rfl, rfl⟩
/-- The quotient that the highest digits tell is that of the two numbers at hand. -/
theorem Leh.quot {p0 q0 s A B C D p q k : Int} (h : Leh p0 q0 s A B C D p q) (hC : 0 < q + C) (hD : 0 < q + D) (k1 : k = (p + A) / (q + C)) (k2 : k = (p + B) / (q + D)) :
  0 ≤ k ∧ k * q ≤ p ∧ p - k * q < q := by
 have hk : 0 ≤ k := by rw [k1]; exact Int.ediv_nonneg (by have := h.c1; omega) (by omega)
 have m1 : k * (q + C) ≤ p + A := by rw [k1]; exact Int.ediv_mul_le _ (by omega)
 have m2 : k * (q + D) ≤ p + B := by rw [k2]; exact Int.ediv_mul_le _ (by omega)
 have m3 : p + A < (k + 1) * (q + C) := by rw [k1]; exact Int.lt_ediv_add_one_mul_self _ hC
 have m4 : p + B < (k + 1) * (q + D) := by rw [k2]; exact Int.lt_ediv_add_one_mul_self _ hD
 have neg : ∀ j c : Int, 0 ≤ j → c ≤ 0 → j * c ≤ 0 := fun j c hj hc => Int.mul_nonpos_of_nonneg_of_nonpos hj hc
 have pos : ∀ j c : Int, 0 ≤ j → 0 ≤ c → 0 ≤ j * c := fun j c hj hc => Int.mul_nonneg hj hc
 have e1 : (k + 1) * q = k * q + q := by rw [Int.add_mul, Int.one_mul]
 rw [Int.mul_add] at m1 m2 m3 m4
 have h1 := h.hA; have h2 := h.hB; have h3 := h.hC; have h4 := h.hD
 rcases h.hs with e | e <;> rw [e] at h1 h2 h3 h4
 ·have := pos k D hk (by omega); have := neg (k + 1) C (by omega) (by omega)
  exact ⟨hk, by omega, by omega⟩
 ·have := pos k C hk (by omega); have := neg (k + 1) D (by omega) (by omega)
  exact ⟨hk, by omega, by omega⟩
/-- What holds between two of certainSteps' rounds. -/
structure CS (x y : Nat) (p0 q0 A B C D p q : Int) : Prop where
 sg : ∃ s, Leh p0 q0 s A B C D p q
 t : ∃ X Y, LehT x y A B C D X Y
 bA : -p0 ≤ A ∧ A ≤ p0 ∧ -p0 ≤ B ∧ B ≤ p0
 bq : p ≤ p0 ∧ q ≤ p0 ∧ q0 ≤ p0
theorem CS.start {x y : Nat} {p0 q0 : Int} (h : y ≤ x) (hp : 0 < p0) (hq : 0 ≤ q0) (hqp : q0 ≤ p0) : CS x y p0 q0 1 0 0 1 p0 q0 :=
 ⟨⟨1, Leh.start hp hq⟩, ⟨x, y, LehT.start h⟩, by omega, by omega⟩
theorem CS.bounds {x y : Nat} {p0 q0 A B C D p q : Int} (h : CS x y p0 q0 A B C D p q) :
  0 < p ∧ 0 ≤ q ∧ p ≤ p0 ∧ q ≤ p0 ∧ -p0 ≤ A ∧ A ≤ p0 ∧ -p0 ≤ B ∧ B ≤ p0 ∧ -p0 ≤ C ∧ C ≤ p0 ∧ -p0 ≤ D ∧ D ≤ p0 ∧ 0 < p + A ∧ 0 < p + B ∧ 0 ≤ q + C ∧ 0 ≤ q + D := by
 obtain ⟨⟨s, hL⟩, -, hA, hq⟩ := h
 have h1 := hL.bound
 have h2 := hL.pos
 have := hL.c1; have := hL.c2; have := hL.c3; have := hL.c4
 omega
theorem CS.step {x y T xl yl : Nat} {p0 q0 A B C D p q k : Int} (h : CS x y p0 q0 A B C D p q) (hC : 0 < q + C) (hD : 0 < q + D) (k1 : k = (p + A) / (q + C)) (k2 : k = (p + B) / (q + D))
  (hx : (x : Int) = p0 * T + xl) (hy : (y : Int) = q0 * T + yl) (hxl : xl < T) (hyl : yl < T) :
  CS x y p0 q0 C D (A - k * C) (B - k * D) q (p - k * q) ∧ 0 ≤ k ∧ k * q ≤ p ∧ 0 ≤ p - k * q ∧ p - k * q < q ∧ 0 ≤ k * q := by
 have hb := h.bounds
 obtain ⟨⟨s, hL⟩, ⟨X, Y, hT⟩, hA, hq⟩ := h
 obtain ⟨q1, q2, q3⟩ := hL.quot hC hD k1 k2
 have hn : 0 ≤ k * q := Int.mul_nonneg q1 (by omega)
 exact ⟨⟨⟨_, hL.step hC hD k1 k2⟩, ⟨_, _, LehT.step hL hT hC hD k1 k2 hx hy hxl hyl⟩, by omega, by omega⟩, q1, q2, by omega, q3, hn⟩
theorem boxes2 (w : World) (A1 A2 B1 B2 : Value) (t : TypeId) : ∃ w0, ((w.alloc (.cells #[A1, A2] t)).alloc (.cells #[B1, B2] t)) = w0 ∧
  Bx w0 w.heap.size A1 A2 ∧ Bx w0 (w.heap.size + 1) B1 B2 ∧ Below w.heap.size w w0 ∧ w.heap.size + 2 ≤ w0.heap.size :=
 ⟨_, rfl, Bx.of _ _ _ _ _ (al2_1 w _ _), Bx.of _ _ _ _ _ (al2 w _ _), below2 w _ _, by simp⟩
theorem aboveW (g c N a m : Nat) (X : List Nat) (hm : (digs a).length = m) (hl : m ≤ 1000000000000) (hN : N ≤ 64 * 1000000000000) (hv : a / 2 ^ N < Bs) (w : World) (hdx : DB w g (digs a ++ X)) :
  Calls Tryz.prog 213 #[.slice (some ⟨g, 0, none⟩) m c, .int .i64 (N : Int)] w fun e w' =>
   e = .returned (.int .u64 ((a / 2 ^ N : Nat) : Int)) ∧ w = w' := by
 subst hm
 refine (above_any g c (N / 64) (N % 64) N (digs a) (digs_dig a) (by omega) (by omega) (by omega) (by omega) w hdx.rdl).mono ?_
 rintro e w' ⟨rfl, rfl⟩
 rw [val_digs, Nat.mod_eq_of_lt hv]
 exact ⟨rfl, rfl⟩
theorem window (a m t : Nat) (hm : (digs a).length = m) (h2 : 2 ≤ m) (ht : t = (digs a)[m - 1]'(by omega)) :
  t < Bs ∧ ∃ N, 64 * m = N + 62 + lz t ∧ a / 2 ^ N < 4611686018427387904 ∧ 0 < a / 2 ^ N := by
 obtain ⟨n, rfl⟩ : ∃ n, m = n + 1 := ⟨m - 1, by omega⟩
 obtain ⟨h1, h3, h4, -, -⟩ := norm_div a n hm t ht
 have htB : t < Bs := by rw [ht]; exact (digs_dig a).get _ (by omega)
 refine ⟨htB, 64 * (n + 1) - 62 - lz t, by omega, ?_, ?_⟩
 ·rw [Nat.div_lt_iff_lt_mul (Nat.pow_pos (by omega))]
  have h5 : 4611686018427387904 * 2 ^ (64 * (n + 1) - 62 - lz t) * 2 ^ lz t = Bs ^ (n + 1) := by
   rw [show (4611686018427387904 : Nat) = 2 ^ 62 from rfl, ← Nat.pow_add, ← Nat.pow_add, Bs_pow, ← Nat.pow_mul]
   congr 1; omega
  exact Nat.lt_of_mul_lt_mul_right (a := 2 ^ lz t) (by rw [h5]; exact h3)
 ·rw [Nat.div_pos_iff]
  refine ⟨Nat.pow_pos (by omega), ?_⟩
  have h5 : 2 ^ (64 * (n + 1) - 62 - lz t) * 2 ^ 62 * 2 ^ lz t = Bs ^ (n + 1) := by
   rw [← Nat.pow_add, ← Nat.pow_add, Bs_pow, ← Nat.pow_mul]
   congr 1; omega
  have h6 : 2 ^ (64 * (n + 1) - 62 - lz t) * 2 ^ lz t * 4 ≤ a * 2 ^ lz t * 2 := by
   have h7 : 2 ^ (64 * (n + 1) - 62 - lz t) * 2 ^ lz t * 4 ≤ Bs ^ (n + 1) := by
    rw [← h5, Nat.mul_right_comm _ (2 ^ 62)]
    exact Nat.mul_le_mul_left (2 ^ (64 * (n + 1) - 62 - lz t) * 2 ^ lz t) (show 4 ≤ 2 ^ 62 by decide)
   omega
  exact Nat.le_of_mul_le_mul_right (c := 2 ^ lz t) (by omega) (Nat.pow_pos (by omega))
theorem put4 {w : World} {k : Nat} {x y z u : Value} (hA : Bx w k x y) (hB : Bx w (k + 1) z u) (x' y' z' u' : Value) :
  Bx ((((w.setCell ⟨k, 0, none⟩ x').setCell ⟨k, 1, none⟩ y').setCell ⟨k + 1, 0, none⟩ z').setCell ⟨k + 1, 1, none⟩ u') k x' y' ∧
  Bx ((((w.setCell ⟨k, 0, none⟩ x').setCell ⟨k, 1, none⟩ y').setCell ⟨k + 1, 0, none⟩ z').setCell ⟨k + 1, 1, none⟩ u') (k + 1) z' u' := by
 obtain ⟨a0, a1, af⟩ := hA
 obtain ⟨b0, b1, bf⟩ := hB
 constructor <;> refine ⟨?_, ?_, fun j => ?_⟩ <;> simp [go_sem, a0, a1, af, b0, b1, bf]
attribute [local irreducible] lz
theorem certain_any (gx gy cx cy a b m n : Nat) (X Y : List Nat) (hn : (digs b).length = n) (hn2 : 2 ≤ n) (hm : (digs a).length = m) (hab : b ≤ a) (hal : m ≤ 1000000000000) (w : World) (hdx : DB w gx (digs a ++ X)) (hdy : DB w gy (digs b ++ Y)) :
  Calls Tryz.prog 194 #[.slice (some ⟨gx, 0, none⟩) m cx, .slice (some ⟨gy, 0, none⟩) n cy] w fun e w' =>
   ∃ A B C D p q p0 q0 : Int, e = .returned (.tuple #[.agg #[.int .i64 A, .int .i64 B], .agg #[.int .i64 C, .int .i64 D]]) ∧ CS a b p0 q0 A B C D p q ∧ p0 ≤ 4611686018427387904 ∧ Below w.heap.size w w' := by
 obtain ⟨w0, hw0, hA, hB, hbw, hsz⟩ := boxes2 w (.int .i64 0) (.int .i64 0) (.int .i64 0) (.int .i64 0) 225
 have hnm : n ≤ m := by rw [← hn, ← hm]; exact digs_mono hab
 obtain ⟨t, ht⟩ : ∃ t, t = (digs a)[m - 1]'(by omega) := ⟨_, rfl⟩
 obtain ⟨htB, N, hN, hP, hP0⟩ := window a m t hm (by omega) ht
 have hlz : lz t ≤ 63 := (norm_div a (m - 1) (by omega) t ht).1
 have hdx0 := hdx.below hbw hdx.lt
 have hdy0 := hdy.below hbw hdy.lt
 have hcell := hdx0.cell (m - 1) (by simp; omega)
 rw [List.getElem_append_left (by omega), ← ht] at hcell
 have hQ : b / 2 ^ N ≤ a / 2 ^ N := Nat.div_le_div_right hab
 have H1 := fun w h => aboveW gx cx N a m X hm hal (by omega) (by unfold Bs; omega) w h
 have H2 := fun w h => aboveW gy cy N b n Y hn (by omega) (by omega) (by unfold Bs; omega) w h
 replace H1 := Lib.hid H1
 replace H2 := Lib.hid H2
 have hxT : (a : Int) = ((a / 2 ^ N : Nat) : Int) * ((2 ^ N : Nat) : Int) + ((a % 2 ^ N : Nat) : Int) := by
  have := Nat.div_add_mod a (2 ^ N)
  rw [← Int.natCast_mul, ← Int.natCast_add, Nat.mul_comm, this]
 have hyT : (b : Int) = ((b / 2 ^ N : Nat) : Int) * ((2 ^ N : Nat) : Int) + ((b % 2 ^ N : Nat) : Int) := by
  have := Nat.div_add_mod b (2 ^ N)
  rw [← Int.natCast_mul, ← Int.natCast_add, Nat.mul_comm, this]
 have hxl : a % 2 ^ N < 2 ^ N := Nat.mod_lt _ (Nat.pow_pos (by omega))
 have hyl : b % 2 ^ N < 2 ^ N := Nat.mod_lt _ (Nat.pow_pos (by omega))
 generalize a / 2 ^ N = P at *
 generalize b / 2 ^ N = Q at *
 generalize a % 2 ^ N = xl at *
 generalize b % 2 ^ N = yl at *
 generalize 2 ^ N = T at *
 have hS := CS.start (p0 := ((P : Nat) : Int)) (q0 := ((Q : Nat) : Int)) hab (by omega) (by omega) (by omega)
 have hwP : IntKind.i64.wrap ((P : Nat) : Int) = ((P : Nat) : Int) := IntWalk.i64_in _ (by omega)
 have hwQ : IntKind.i64.wrap ((Q : Nat) : Int) = ((Q : Nat) : Int) := IntWalk.i64_in _ (by omega)
 have HS := Lib.hid hS
 have HX := Lib.hid hxT
 have HY := Lib.hid hyT
 have HD := Lib.hid (And.intro hdx0 hdy0)
 have HDrop : (m : Int) * 64 - (lz t : Int) - 62 = (N : Int) := by omega
 have HL := Lib.hid (lz_any t htB)
 clear hS hxT hyT hdx0 hdy0 hdx hdy htB ht hN
 go_enter Tryz.func194, Tryz.ntmps194
 go_wp2_with fail
 refine (HL.out _).mono ?_
 rintro e w1 ⟨rfl, rfl⟩
 go_wp2_with fail
 refine (H1.out _ HD.out.1).mono ?_
 rintro e w1 ⟨rfl, rfl⟩
 go_wp2_with fail
 refine (H2.out _ HD.out.2).mono ?_
 rintro e w1 ⟨rfl, rfl⟩
 obtain ⟨a0, a1, af⟩ := id hA
 obtain ⟨b0, b1, bf⟩ := id hB
 clear HL H1 H2 HDrop hcell hlz
 go_wp2_with fail
 go_loopw [7, 8, 9] (fun z7 z8 _ wr => ∃ A B C D p q : Int, z7 = .int .i64 p ∧ z8 = .int .i64 q ∧ CS a b P Q A B C D p q ∧
  Bx wr w.heap.size (.int .i64 A) (.int .i64 B) ∧ Bx wr (w.heap.size + 1) (.int .i64 C) (.int .i64 D) ∧ Below w.heap.size w wr ∧ w.heap.size + 2 ≤ wr.heap.size) (fun _ z8 _ _ => (intOf z8).toNat)
 case atStart =>
  have hp := put4 hA hB (.int .i64 1) (.int .i64 0) (.int .i64 0) (.int .i64 1)
  exact ⟨1, 0, 0, 1, P, Q, rfl, rfl, HS.out, hp.1, hp.2, (((hbw.setCell (by simp <;> omega) _).setCell (by simp <;> omega) _).setCell (by simp <;> omega) _).setCell (by simp <;> omega) _, by simp; omega⟩
 case round =>
  obtain ⟨A, B, C, D, p, q, rfl, rfl, hCS, hA, hB, hbw, hsz⟩ := hrel
  clear a0 a1 af b0 b1 bf HS
  have hbd := hCS.bounds
  have hCS := Lib.hid hCS
  obtain ⟨u, hu⟩ : ∃ u, u = q + C := ⟨_, rfl⟩
  obtain ⟨v, hv⟩ : ∃ v, v = q + D := ⟨_, rfl⟩
  obtain ⟨f, hf⟩ : ∃ f, f = p + A := ⟨_, rfl⟩
  obtain ⟨g, hg⟩ : ∃ g, g = p + B := ⟨_, rfl⟩
  have wu : IntKind.i64.wrap (q + C) = u := by rw [hu]; exact IntWalk.i64_in _ (by omega)
  have wv : IntKind.i64.wrap (q + D) = v := by rw [hv]; exact IntWalk.i64_in _ (by omega)
  have wf : IntKind.i64.wrap (p + A) = f := by rw [hf]; exact IntWalk.i64_in _ (by omega)
  have wg : IntKind.i64.wrap (p + B) = g := by rw [hg]; exact IntWalk.i64_in _ (by omega)
  have hu0 : 0 ≤ u := by omega
  have hv0 : 0 ≤ v := by omega
  have HBD := Lib.hid hbd
  have Hu := Lib.hid hu
  have Hv := Lib.hid hv
  have Hf := Lib.hid hf
  have Hg := Lib.hid hg
  obtain ⟨a0, a1, af⟩ := id hA
  obtain ⟨b0, b1, bf⟩ := id hB
  clear hbd hu hv hf hg
  by_cases hu1 : u = 0
  ·have hwu0 : decide (u = 0) = true := decide_eq_true hu1
   go_wp2_with fail
   go_region
   go_wp2_with fail
   have hp := put4 hA hB (.int .i64 A) (.int .i64 B) (.int .i64 C) (.int .i64 D)
   obtain ⟨⟨p0, p1, -⟩, ⟨p2, p3, -⟩⟩ := hp
   exact bodyPost_ret (v := .tuple #[.agg #[.int .i64 A, .int .i64 B], .agg #[.int .i64 C, .int .i64 D]]) (by simp [results, Tryz.results194, go_sem, a0, a1, b0, b1, af, bf]) rfl
    ⟨A, B, C, D, p, q, P, Q, rfl, hCS.out, by omega, ((((hbw.setCell (by simp <;> omega) _).setCell (by simp <;> omega) _).setCell (by simp <;> omega) _).setCell (by simp <;> omega) _).drew⟩
  ·have hwu0 : (u != 0) = true := bne_iff_ne.2 hu1
   by_cases hv1 : v = 0
   ·have hwv0 : decide (v = 0) = true := decide_eq_true hv1
    go_wp2_with fail
    go_region
    go_wp2_with fail
    have hp := put4 hA hB (.int .i64 A) (.int .i64 B) (.int .i64 C) (.int .i64 D)
    obtain ⟨⟨p0, p1, -⟩, ⟨p2, p3, -⟩⟩ := hp
    exact bodyPost_ret (v := .tuple #[.agg #[.int .i64 A, .int .i64 B], .agg #[.int .i64 C, .int .i64 D]]) (by simp [results, Tryz.results194, go_sem, a0, a1, b0, b1, af, bf]) rfl
     ⟨A, B, C, D, p, q, P, Q, rfl, hCS.out, by omega, ((((hbw.setCell (by simp <;> omega) _).setCell (by simp <;> omega) _).setCell (by simp <;> omega) _).setCell (by simp <;> omega) _).drew⟩
   ·have hwv0 : (v != 0) = true := bne_iff_ne.2 hv1
    have hf0 : 0 ≤ f := by have := HBD.out; have := Hf.out; omega
    have hg0 : 0 ≤ g := by have := HBD.out; have := Hg.out; omega
    obtain ⟨k, hk⟩ : ∃ k, k = f / u := ⟨_, rfl⟩
    obtain ⟨l, hl⟩ : ∃ l, l = g / v := ⟨_, rfl⟩
    have hkb : 0 ≤ k ∧ k ≤ f := ⟨by rw [hk]; exact Int.ediv_nonneg hf0 hu0, by rw [hk]; exact Int.ediv_le_self _ hf0⟩
    have hlb : 0 ≤ l ∧ l ≤ g := ⟨by rw [hl]; exact Int.ediv_nonneg hg0 hv0, by rw [hl]; exact Int.ediv_le_self _ hg0⟩
    have hff : f ≤ 9223372036854775807 ∧ g ≤ 9223372036854775807 := by have := HBD.out; have := Hf.out; have := Hg.out; omega
    have tk : f.tdiv u = k := by rw [hk]; exact Int.tdiv_eq_ediv_of_nonneg hf0
    have tl : g.tdiv v = l := by rw [hl]; exact Int.tdiv_eq_ediv_of_nonneg hg0
    have wk : IntKind.i64.wrap k = k := IntWalk.i64_in _ (by omega)
    have wl : IntKind.i64.wrap l = l := IntWalk.i64_in _ (by omega)
    have Hk := Lib.hid hk
    have Hl := Lib.hid hl
    clear hk hl hff hkb hlb
    by_cases hkl : k = l
    ·subst hkl
     have hstep := hCS.out.step (T := T) (xl := xl) (yl := yl) (k := k) (by have := Hu.out; omega) (by have := Hv.out; omega) (by rw [← Hf.out, ← Hu.out]; exact Hk.out) (by rw [← Hg.out, ← Hv.out]; exact Hl.out) HX.out HY.out hxl hyl
     obtain ⟨hn, n1, n2, n3, n4, n5⟩ := hstep
     have nb := hn.bounds
     have ob := HBD.out
     obtain ⟨kq, hkq⟩ : ∃ z, z = k * q := ⟨_, rfl⟩
     obtain ⟨kc, hkc⟩ : ∃ z, z = k * C := ⟨_, rfl⟩
     obtain ⟨kd, hkd⟩ : ∃ z, z = k * D := ⟨_, rfl⟩
     rw [← hkq, ← hkc, ← hkd] at nb
     rw [← hkq] at n2 n3 n4 n5
     rw [← hkq, ← hkc, ← hkd] at hn
     obtain ⟨q', hq'⟩ : ∃ z, z = p - kq := ⟨_, rfl⟩
     obtain ⟨C', hC'⟩ : ∃ z, z = A - kc := ⟨_, rfl⟩
     obtain ⟨D', hD'⟩ : ∃ z, z = B - kd := ⟨_, rfl⟩
     rw [← hq', ← hC', ← hD'] at nb hn
     rw [← hq'] at n3 n4
     have w1 : IntKind.i64.wrap (k * q) = kq := by rw [← hkq]; exact IntWalk.i64_in _ (by omega)
     have w2 : IntKind.i64.wrap (k * C) = kc := by rw [← hkc]; exact IntWalk.i64_in _ (by omega)
     have w3 : IntKind.i64.wrap (k * D) = kd := by rw [← hkd]; exact IntWalk.i64_in _ (by omega)
     have w4 : IntKind.i64.wrap (p - kq) = q' := by rw [← hq']; exact IntWalk.i64_in _ (by omega)
     have w5 : IntKind.i64.wrap (A - kc) = C' := by rw [← hC']; exact IntWalk.i64_in _ (by omega)
     have w6 : IntKind.i64.wrap (B - kd) = D' := by rw [← hD']; exact IntWalk.i64_in _ (by omega)
     have HN := Lib.hid hn
     have HM := Lib.hid (And.intro n3 n4)
     clear nb ob n1 n2 n3 n4 n5 hkq hkc hkd hq' hC' hD' hn hCS Hk Hl Hu Hv Hf Hg HBD
     go_wp2_with fail
     go_region
     go_wp2_with fail
     have hp := put4 hA hB (.int .i64 C) (.int .i64 D) (.int .i64 C') (.int .i64 D')
     refine ⟨⟨C, D, C', D', q, q', rfl, rfl, HN.out, hp.1, hp.2, ((((hbw.setCell (by simp <;> omega) _).setCell (by simp <;> omega) _).setCell (by simp <;> omega) _).setCell (by simp <;> omega) _).drew, by simp; omega⟩, ?_⟩
     have := HM.out
     simp [intOf]; omega
    ·have hkl0 : (k != l) = true := bne_iff_ne.2 hkl
     go_wp2_with fail
     go_region
     go_wp2_with fail
     have hp := put4 hA hB (.int .i64 A) (.int .i64 B) (.int .i64 C) (.int .i64 D)
     obtain ⟨⟨p0, p1, -⟩, ⟨p2, p3, -⟩⟩ := hp
     exact bodyPost_ret (v := .tuple #[.agg #[.int .i64 A, .int .i64 B], .agg #[.int .i64 C, .int .i64 D]]) (by simp [results, Tryz.results194, go_sem, a0, a1, b0, b1, af, bf]) rfl
      ⟨A, B, C, D, p, q, P, Q, rfl, hCS.out, by omega, ((((hbw.setCell (by simp <;> omega) _).setCell (by simp <;> omega) _).setCell (by simp <;> omega) _).setCell (by simp <;> omega) _).drew⟩
end Go.Proofs.YthffglapmkkohaaGreatDoor
namespace Go.Proofs.YthffglapmkkohaaGreatDoor
open Go.RowKit
attribute [local irreducible] lo hs sm s64 c64 d64 b64 mh ml pd pc qd qc val hiB str cmpI srD lz
theorem addP0 (g gy c cy f K n : Nat) (D Y : List Nat) (hK : D.length = K) (hn : Y.length = n) (hD : Dig D) (hY : Dig Y) (hf : f < Bs) (hle : n ≤ K) (hl : K ≤ 1099511627776) (hne : gy ≠ g) (w : World) (hdb : DB w g D) (hgy : gy < w.heap.size) (hr : Rd w gy 0 Y) :
  Calls Tryz.prog 146 #[.slice (some ⟨g, 0, none⟩) K c, .slice (some ⟨gy, 0, none⟩) n cy, .int .u64 (f : Int)] w fun e w' =>
   ∃ (carry : Nat) (P : List Nat), e = .returned (.int .u64 (carry : Int)) ∧ MulI D Y f n carry P ∧ DB w' g (P ++ D.drop n) ∧ w.grownBy w' (some g) := by
 subst hK; subst hn
 refine (addProduct_any g gy 0 c cy f [] D [] Y hD hY hf hle hl hne w (by simpa using hdb) hgy hr).mono ?_
 rintro e w' ⟨carry, P, h1, h2, h3, h4⟩
 exact ⟨carry, P, h1, h2, by simpa using h3, h4⟩
theorem takeP0 (g gy c cy f K n : Nat) (D Y : List Nat) (hK : D.length = K) (hn : Y.length = n) (hD : Dig D) (hY : Dig Y) (hf : f < Bs) (hle : n < K) (hl : K ≤ 1099511627776) (hne : gy ≠ g) (w : World) (hdb : DB w g D) (hgy : gy < w.heap.size) (hr : Rd w gy 0 Y) :
  Calls Tryz.prog 227 #[.slice (some ⟨g, 0, none⟩) K c, .slice (some ⟨gy, 0, none⟩) n cy, .int .u64 (f : Int)] w fun e w' =>
   ∃ (b : Bool) (D' : List Nat), e = .returned (.bool b) ∧ (D'.length = K ∧ Dig D' ∧ val D' + f * val Y = val D + if b then Bs ^ K else 0) ∧ DB w' g D' ∧ w.grownBy w' (some g) := by
 subst hK; subst hn
 refine (takeProduct_any g gy 0 c cy f [] D [] Y hD hY hf hle hl hne w (by simpa using hdb) hgy hr).mono ?_
 rintro e w' ⟨b, D', h1, h2, h3, h4⟩
 exact ⟨b, D', h1, h2, by simpa using h3, h4⟩
theorem trim0 (g c K : Nat) (l : List Nat) (hK : l.length = K) (hd : Dig l) (hl : K ≤ maxLen) (hcap : K ≤ c) (w : World) (hdb : DB w g l) :
  Calls Tryz.prog 177 #[.slice (some ⟨g, 0, none⟩) K c] w fun e w' =>
   e = .returned (.slice (some ⟨g, 0, none⟩) (digs (val l)).length c) ∧ w = w' := by
 subst hK
 exact trim_any g 0 c l hd hl hcap w hdb.rd0
/-- The first product, with its carry put at its place. -/
theorem dif_first {K n x a carry : Nat} {P : List Nat} (hn : (digs x).length = n) (hnK : n < K) (h : MulI (List.replicate K 0) (digs x) a n carry P) :
  ((P ++ List.drop n (List.replicate K 0)).set n carry).length = K ∧ Dig ((P ++ List.drop n (List.replicate K 0)).set n carry) ∧ val ((P ++ List.drop n (List.replicate K 0)).set n carry) = a * x := by
 have e : (P ++ List.drop n (List.replicate K 0)).set n carry = P ++ carry :: List.replicate (K - n - 1) 0 := by
  rw [List.set_append_right _ _ (by rw [h.len]; exact Nat.le_refl _), h.len, Nat.sub_self, List.drop_replicate]
  obtain ⟨j, hj⟩ : ∃ j, K - n = j + 1 := ⟨K - n - 1, by omega⟩
  rw [hj, List.replicate_succ, List.set_cons_zero]; rfl
 have he := h.eq
 rw [List.take_replicate, Nat.min_eq_left (Nat.le_of_lt hnK), val_zeros, ← hn, List.take_length, val_digs, Nat.zero_add, hn] at he
 rw [e]
 refine ⟨by simp [h.len]; omega, h.dig.app (Dig.cons h.le (Dig.zeros _)), ?_⟩
 rw [val_append, val_cons, val_zeros, h.len, Nat.mul_zero, Nat.add_zero]; exact he
theorem dif_last {K b y d v : Nat} {D' : List Nat} {c : Bool} (hK : D'.length = K) (hD : Dig D') (h : val D' + b * y = b * y + d + if c then v else 0) (hv : v = Bs ^ K) : val D' = d := by
 have h1 := val_lt hD
 rw [hK, ← hv] at h1
 cases c <;> simp at h <;> omega
theorem difference_any (gx gy cx cy a b x y d n m : Nat) (X Y : List Nat) (ha : a < Bs) (hb : b < Bs) (hn : (digs x).length = n) (hm : (digs y).length = m) (hnl : n ≤ 1000000000000) (hml : m ≤ 1000000000000)
  (hd : a * x = b * y + d) (w : World) (hdx : DB w gx (digs x ++ X)) (hdy : DB w gy (digs y ++ Y)) :
  Calls Tryz.prog 217 #[.slice (some ⟨gx, 0, none⟩) n cx, .slice (some ⟨gy, 0, none⟩) m cy, .int .u64 (a : Int), .int .u64 (b : Int)] w fun e w' =>
   ∃ g c z, e = .returned (.slice (some ⟨g, 0, none⟩) (digs d).length c) ∧ DB w' g (digs d ++ List.replicate z 0) ∧ (digs d).length ≤ c ∧ w.heap.size ≤ g ∧ Below w.heap.size w w' := by
 obtain ⟨K, hK⟩ : ∃ K, K = max n m + 1 := ⟨_, rfl⟩
 have hmk : (Instr.makeSlice 172 (.int .i64 (K : Int)) (.int .i64 (K : Int))).run Tryz.prog w = .ok (.slice (some ⟨w.heap.size, 0, none⟩) K K) (w.alloc (zobj K)) := make64 w _ K (by omega) (by omega)
 have hmax : max (n : Int) (m : Int) + 1 = (K : Int) := by omega
 have hz := DB.zeros w K
 have hbz : Below w.heap.size w (w.alloc (zobj K)) := (Below.refl _ _).alloc (Nat.le_refl _) _
 have hsz : w.heap.size < (w.alloc (zobj K)).heap.size := by simp
 have hdx0 := hdx.alloc (zobj K)
 have hdy0 := hdy.alloc (zobj K)
 have hgx : gx < w.heap.size := hdx.lt
 have hgy : gy < w.heap.size := hdy.lt
 have HA := Lib.hid (addP0 w.heap.size gx K cx a K n (List.replicate K 0) (digs x) (by simp) hn (Dig.zeros K) (digs_dig x) ha (by omega) (by omega) (by omega) (w.alloc (zobj K)) hz (by omega) hdx0.rdl)
 clear hdx hdx0 hz
 generalize hW : w.alloc (zobj K) = W1 at *
 have HB := fun D hD => takeP0 w.heap.size gy K cy b K m D (digs y) hD hm
 have HT := fun D hD => trim0 w.heap.size K K D hD
 replace HB := Lib.hid HB
 replace HT := Lib.hid HT
 replace hK := Lib.hid hK
 replace hd := Lib.hid hd
 replace hn := Lib.hid hn
 replace hm := Lib.hid hm
 go_enter Tryz.func217, Tryz.ntmps217
 go_wp2_with fail
 refine (HA.out).mono ?_
 rintro e w2 ⟨carry, P, rfl, hP, hdP, hg2⟩
 have hcb := hP.le
 have hPl := hP.len
 have hKn := hK.out
 have hset := hdP.set n (by simp [hPl]; omega) carry
 have hcell := hdP.cell n (by simp [hPl]; omega)
 have hfz := hdP.frozen n
 generalize hU : w2.setCell ⟨w.heap.size, n, none⟩ (.int .u64 (carry : Int)) = W3 at *
 have hnK : n < K := by omega
 clear hKn
 obtain ⟨q1, q2, q3⟩ := dif_first hn.out hnK hP
 generalize (P ++ List.drop n (List.replicate K 0)).set n carry = D3 at *
 have hg3 : W1.grownBy W3 (some w.heap.size) := by rw [← hU]; exact grown_trans hg2 (grown_set _ _ _ _)
 have hB3 := hbz.trans (grown_below hg3 (Nat.le_refl _) (Nat.le_of_lt hsz))
 have hdy3 := hdy.below hB3 hgy
 have HB3 := Lib.hid (HB.out D3 q1 q2 (digs_dig y) hb (by have := hK.out; omega) (by omega) (by omega) W3 hset hdy3.lt hdy3.rdl)
 have hB3 := Lib.hid hB3
 have hs3 : w.heap.size < W3.heap.size := hset.lt
 go_wp2_with fail
 refine (HB3.out).mono ?_
 rintro e w4 ⟨c, D4, rfl, ⟨h1, h2, h3⟩, hd4, hg4⟩
 rw [q3, hd.out, val_digs] at h3
 have hv := dif_last h1 h2 h3 rfl
 have HT4 := Lib.hid (HT.out D4 h1 h2 (by unfold maxLen; omega) (Nat.le_refl _) w4 hd4)
 rw [hv] at HT4
 clear hW hU HB HT HB3 hg2 hg3 h3 hcell hfz hP hdP
 go_wp2_with fail
 refine (HT4.out).mono ?_
 rintro e w5 ⟨rfl, rfl⟩
 go_wp2_with fail
 go_ret
 obtain ⟨z, hz⟩ := norm D4 h2
 rw [hv] at hz
 refine ⟨_, _, z, rfl, by rw [← hz]; exact hd4, ?_, Nat.le_refl _, hB3.out.trans (grown_below hg4 (Nat.le_refl _) (Nat.le_of_lt hs3))⟩
 have := congrArg List.length hz
 simp at this; omega
theorem boxes1 (w : World) (A1 A2 : Value) (t : TypeId) : ∃ w0, w.alloc (.cells #[A1, A2] t) = w0 ∧ Bx w0 w.heap.size A1 A2 ∧ Below w.heap.size w w0 ∧ w.heap.size < w0.heap.size :=
 ⟨_, rfl, Bx.of _ _ _ _ _ (al1 w _), (Below.refl _ _).alloc (Nat.le_refl _) _, by simp⟩
theorem combine_any (gx gy cx cy x y d n m : Nat) (A B : Int) (X Y : List Nat) (hn : (digs x).length = n) (hm : (digs y).length = m) (hnl : n ≤ 1000000000000) (hml : m ≤ 1000000000000)
  (hA1 : -4611686018427387904 ≤ A) (hA2 : A ≤ 4611686018427387904) (hB1 : -4611686018427387904 ≤ B) (hB2 : B ≤ 4611686018427387904) (hs1 : A ≤ 0 → 0 ≤ B) (hs2 : 0 < A → B ≤ 0)
  (hd : (d : Int) = A * x + B * y) (w : World) (hdx : DB w gx (digs x ++ X)) (hdy : DB w gy (digs y ++ Y)) :
  Calls Tryz.prog 196 #[.slice (some ⟨gx, 0, none⟩) n cx, .slice (some ⟨gy, 0, none⟩) m cy, .agg #[.int .i64 A, .int .i64 B]] w fun e w' =>
   ∃ g c z, e = .returned (.slice (some ⟨g, 0, none⟩) (digs d).length c) ∧ DB w' g (digs d ++ List.replicate z 0) ∧ (digs d).length ≤ c ∧ w.heap.size ≤ g ∧ Below w.heap.size w w' := by
 obtain ⟨w0, hw0, hbx, hbw, hsz⟩ := boxes1 w (.int .i64 A) (.int .i64 B) 225
 obtain ⟨a0, a1, af⟩ := hbx
 have hdx0 := hdx.below hbw hdx.lt
 have hdy0 := hdy.below hbw hdy.lt
 by_cases hA : A ≤ 0
 ·have hB := hs1 hA
  obtain ⟨a, ha⟩ := Int.eq_ofNat_of_zero_le (show 0 ≤ -A by omega)
  obtain ⟨b, hb⟩ := Int.eq_ofNat_of_zero_le hB
  have hsum : b * y = a * x + d := by
   have h1 : A * (x : Int) = -((a * x : Nat) : Int) := by rw [Int.natCast_mul, ← ha, Int.neg_mul, Int.neg_neg]
   have h2 : B * (y : Int) = ((b * y : Nat) : Int) := by rw [Int.natCast_mul, ← hb]
   rw [h1, h2] at hd; omega
  have HD := Lib.hid (difference_any gy gx cy cx b a y x d m n Y X (by unfold Bs; omega) (by unfold Bs; omega) hm hn hml hnl hsum w0 hdy0 hdx0)
  have hA0 : decide (A ≤ 0) = true := decide_eq_true hA
  have r1 : IntKind.i64.wrap (-A) = -A := IntWalk.i64_in _ (by omega)
  have r2 : IntKind.u64.wrap (-A) = (a : Int) := by rw [ha]; exact wrapN _ (by omega)
  have r3 : IntKind.u64.wrap B = (b : Int) := by rw [hb]; exact wrapN _ (by omega)
  clear hdx hdy hdx0 hdy0 hsum hd ha hb hA hB hA1 hA2 hB1 hB2 hs1 hs2
  go_enter Tryz.func196, Tryz.ntmps196
  go_wp2_with fail
  refine (HD.out).mono ?_
  rintro e w1 ⟨g, c, z, rfl, h1, h2, h3, h4⟩
  go_wp2_with fail
  go_ret
  exact ⟨g, c, z, rfl, h1, h2, by omega, hbw.trans (h4.mono (by omega))⟩
 ·have hB := hs2 (by omega)
  obtain ⟨a, ha⟩ := Int.eq_ofNat_of_zero_le (show 0 ≤ A by omega)
  obtain ⟨b, hb⟩ := Int.eq_ofNat_of_zero_le (show 0 ≤ -B by omega)
  have hsum : a * x = b * y + d := by
   have h1 : A * (x : Int) = ((a * x : Nat) : Int) := by rw [Int.natCast_mul, ← ha]
   have h2 : B * (y : Int) = -((b * y : Nat) : Int) := by rw [Int.natCast_mul, ← hb, Int.neg_mul, Int.neg_neg]
   rw [h1, h2] at hd; omega
  have HD := Lib.hid (difference_any gx gy cx cy a b x y d n m X Y (by unfold Bs; omega) (by unfold Bs; omega) hn hm hnl hml hsum w0 hdx0 hdy0)
  have hA0 : decide (A ≤ 0) = false := decide_eq_false hA
  have r1 : IntKind.i64.wrap (-B) = -B := IntWalk.i64_in _ (by omega)
  have r2 : IntKind.u64.wrap (-B) = (b : Int) := by rw [hb]; exact wrapN _ (by omega)
  have r3 : IntKind.u64.wrap A = (a : Int) := by rw [ha]; exact wrapN _ (by omega)
  clear hdx hdy hdx0 hdy0 hsum hd ha hb hB hA1 hA2 hB1 hB2 hs1 hs2
  go_enter Tryz.func196, Tryz.ntmps196
  go_wp2_with fail
  refine (HD.out).mono ?_
  rintro e w1 ⟨g, c, z, rfl, h1, h2, h3, h4⟩
  go_wp2_with fail
  go_ret
  exact ⟨g, c, z, rfl, h1, h2, by omega, hbw.trans (h4.mono (by omega))⟩
theorem digs_big {b : Nat} (h : 2 ≤ (digs b).length) : ¬ b < Bs := fun hb => by
 have := digs_length_iff (n := b) (k := 1)
 rw [Nat.pow_one] at this
 have := this.2 hb; omega
theorem sgn1 {A B : Int} {X x y : Nat} (hy : 0 < y) (hX : (X : Int) = A * x + B * y) {s : Int} (hs : s = 1 ∨ s = -1) (h1 : 0 ≤ s * A) (h2 : s * B ≤ 0) : (A ≤ 0 → 0 ≤ B) ∧ (0 < A → B ≤ 0) := by
 rcases hs with e | e <;> subst e
 ·constructor
  ·intro hA
   have h0 : A = 0 := by omega
   rw [h0, Int.zero_mul, Int.zero_add] at hX
   rcases Int.lt_or_le B 0 with hB | hB
   ·have : B * (y : Int) < 0 := Int.mul_neg_of_neg_of_pos hB (by omega)
    omega
   ·exact hB
  ·intro _; omega
 ·constructor
  ·intro _; omega
  ·intro _; omega
theorem descend_any (gx gy cx cy x y n m : Nat) (X Y : List Nat) (hn : (digs x).length = n) (hm : (digs y).length = m) (hnl : n ≤ 1000000000000) (hm2 : 2 ≤ m) (hyx : y ≤ x) (hcy : m ≤ cy) (w : World) (hdx : DB w gx (digs x ++ X)) (hdy : DB w gy (digs y ++ Y)) :
  Calls Tryz.prog 171 #[.slice (some ⟨gx, 0, none⟩) n cx, .slice (some ⟨gy, 0, none⟩) m cy] w fun e w' =>
   ∃ (x' y' gX cX gY cY : Nat) (ZX ZY : List Nat), e = .returned (.tuple #[.slice (some ⟨gX, 0, none⟩) (digs x').length cX, .slice (some ⟨gY, 0, none⟩) (digs y').length cY]) ∧
    DB w' gX (digs x' ++ ZX) ∧ DB w' gY (digs y' ++ ZY) ∧ (digs x').length ≤ cX ∧ (digs y').length ≤ cY ∧ Nat.gcd x' y' = Nat.gcd x y ∧ y' ≤ x' ∧ y' < y ∧ x' ≤ y ∧ gX ≠ gY ∧ (gX = gy ∨ w.heap.size ≤ gX) ∧ w.heap.size ≤ gY ∧ Below w.heap.size w w' := by
 have hml : m ≤ 1000000000000 := by rw [← hm]; exact Nat.le_trans (digs_mono hyx) (by omega)
 have hyB : ¬ y < Bs := digs_big (by omega)
 have hy0 : 0 < y := by unfold Bs at hyB; omega
 have HC := Lib.hid (certain_any gx gy cx cy x y n m X Y hm hm2 hn hyx hnl w hdx hdy)
 have HDV := fun w h1 h2 => divW gx gy cx cy x y X Y hyB hyx (by omega) w h1 h2
 rw [hn, hm] at HDV
 replace HDV := Lib.hid HDV
 have HCO := fun A B d w h1 h2 h3 h4 h5 h6 h7 h8 h9 => combine_any gx gy cx cy x y d n m A B X Y hn hm hnl hml h1 h2 h3 h4 h5 h6 h7 w h8 h9
 replace HCO := Lib.hid HCO
 go_enter Tryz.func171, Tryz.ntmps171
 go_wp2_with fail
 refine (HC.out).mono ?_
 rintro e w1 ⟨A, B, C, D, p, q, p0, q0, rfl, hCS, hp0, hb1⟩
 obtain ⟨w2, hw2, hA, hB, hb2, hsz⟩ := boxes2 w1 (.int .i64 0) (.int .i64 0) (.int .i64 0) (.int .i64 0) 225
 have hp4 := put4 hA hB (.int .i64 A) (.int .i64 B) (.int .i64 C) (.int .i64 D)
 obtain ⟨a0, a1, af⟩ := id hA
 obtain ⟨b0, b1, bf⟩ := id hB
 have hb3 : Below w1.heap.size w1 ((((w2.setCell ⟨w1.heap.size, 0, none⟩ (.int .i64 A)).setCell ⟨w1.heap.size, 1, none⟩ (.int .i64 B)).setCell ⟨w1.heap.size + 1, 0, none⟩ (.int .i64 C)).setCell ⟨w1.heap.size + 1, 1, none⟩ (.int .i64 D)) :=
  (((hb2.setCell (by simp) _).setCell (by simp) _).setCell (by simp) _).setCell (by simp) _
 have hsz3 : w1.heap.size + 2 ≤ ((((w2.setCell ⟨w1.heap.size, 0, none⟩ (.int .i64 A)).setCell ⟨w1.heap.size, 1, none⟩ (.int .i64 B)).setCell ⟨w1.heap.size + 1, 0, none⟩ (.int .i64 C)).setCell ⟨w1.heap.size + 1, 1, none⟩ (.int .i64 D)).heap.size := by simpa using hsz
 generalize hw3 : ((((w2.setCell ⟨w1.heap.size, 0, none⟩ (.int .i64 A)).setCell ⟨w1.heap.size, 1, none⟩ (.int .i64 B)).setCell ⟨w1.heap.size + 1, 0, none⟩ (.int .i64 C)).setCell ⟨w1.heap.size + 1, 1, none⟩ (.int .i64 D)) = w3 at *
 obtain ⟨h3A, h3B⟩ := hp4
 obtain ⟨c0, c1, cf⟩ := id h3A
 obtain ⟨d0, d1, df⟩ := id h3B
 have hB3 := hb1.trans (hb3.mono hb1.size)
 have hdx3 := Lib.hid (hdx.below hB3 hdx.lt)
 have hdy3 := Lib.hid (hdy.below hB3 hdy.lt)
 have hbd := Lib.hid hCS.bounds
 obtain ⟨⟨s, hL⟩, ⟨X1, Y1, hT⟩, -, -⟩ := hCS
 have hs := hbd.out
 have s1 := sgn1 hy0 hT.hX hL.hs hL.hA hL.hB
 have s2 : (C ≤ 0 → 0 ≤ D) ∧ (0 < C → D ≤ 0) := sgn1 hy0 hT.hY (s := -s) (by have := hL.hs; omega) (by have := hL.hC; rw [Int.neg_mul]; omega) (by have := hL.hD; rw [Int.neg_mul]; omega)
 have HC1 := Lib.hid (fun w => HCO.out A B X1 w (by omega) (by omega) (by omega) (by omega) s1.1 s1.2 hT.hX)
 have HC2 := Lib.hid (fun w => HCO.out C D Y1 w (by omega) (by omega) (by omega) (by omega) s2.1 s2.2 hT.hY)
 have HT := Lib.hid hT
 clear hs s1 s2 hbd hL hT hp0 hA hB HC HCO
 by_cases hB0 : B = 0
 ·have hB1 : (B == 0) = true := by rw [hB0]; rfl
  clear hB0
  go_wp2_with fail
  refine (HDV.out _ hdx3.out hdy3.out).mono ?_
  rintro e w4 ⟨gq, cq, zq, gr, cr, zr, rfl, hdq, hdr, hqr, hgq, hgr, hcq, hcr, hb4⟩
  have hdy4 := Lib.hid (hdy3.out.below hb4 hdy3.out.lt)
  have hB4 := Lib.hid (hB3.trans (hb4.mono hB3.size))
  clear HDV HC1 HC2 a0 a1 af b0 b1 bf c0 c1 cf d0 d1 df h3A h3B hw2 hw3
  go_wp2_with fail
  go_ret2
  exact ⟨y, x % y, gy, cy, gr, cr, Y, List.replicate zr 0, by rw [hm]; rfl, hdy4.out, hdr, by omega, hcr, by rw [Nat.gcd_comm y, ← Nat.gcd_rec, Nat.gcd_comm], Nat.le_of_lt (Nat.mod_lt _ hy0), Nat.mod_lt _ hy0, Nat.le_refl _, by have := hdy3.out.lt; omega, .inl rfl, by have := hB3.size; omega, hB4.out⟩
 ·have hB1 : (B == 0) = false := beq_eq_false_iff_ne.2 hB0
  go_wp2_with fail
  go_region_held3 (fun w' => w'.cell? ⟨w1.heap.size, 0, none⟩ = some (.int .i64 A) ∧ w'.cell? ⟨w1.heap.size, 1, none⟩ = some (.int .i64 B) ∧ w'.cell? ⟨w1.heap.size + 1, 0, none⟩ = some (.int .i64 C) ∧ w'.cell? ⟨w1.heap.size + 1, 1, none⟩ = some (.int .i64 D))
   (first | with_reducible exact ⟨c0, c1, d0, d1⟩ | with_reducible exact ⟨c0', c1', d0', d1'⟩ | with_reducible exact ⟨c0'', c1'', d0'', d1''⟩ | exact ⟨c0, c1, d0, d1⟩)
   (first
    | (go_at_call 196; ((with_reducible refine Calls.mono (HC1.out _ (hdx3.out.keep rfl) (hdy3.out.keep rfl)) ?_); rintro e w4 ⟨g1, k1, z1, rfl, hd1, hk1, hg1, hb4⟩; have hb34 := (Below.refl w3.heap.size w3).drew.trans hb4; obtain ⟨c0', c1', cf'⟩ := h3A.below hb34 (by omega); obtain ⟨d0', d1', df'⟩ := h3B.below hb34 (by omega)))
    | (go_at_call 196; ((with_reducible refine Calls.mono (HC2.out _ (hdx3.out.below hb34 hdx3.out.lt) (hdy3.out.below hb34 hdy3.out.lt)) ?_); rintro e w5 ⟨g2, k2, z2, rfl, hd2, hk2, hg2, hb5⟩; have hb35 := hb34.trans (hb5.mono hb34.size); obtain ⟨c0'', c1'', cf''⟩ := h3A.below hb35 (by omega); obtain ⟨d0'', d1'', df''⟩ := h3B.below hb35 (by omega))))
  go_wp2_with fail
  go_ret2
  have h5 := HT.out.prog
  have h6 : B ≠ 0 ∧ X1 ≤ y ∧ Y1 < X1 := by
   rcases h5 with h5 | h5
   ·exact absurd h5.2.1 hB0
   ·exact h5
  exact ⟨X1, Y1, g1, k1, g2, k2, List.replicate z1 0, List.replicate z2 0, rfl, hd1.below hb5 hd1.lt, hd2, hk1, hk2, HT.out.gcd, HT.out.le, by omega, h6.2.1, by have := hd1.lt; omega, .inr (Nat.le_trans hB3.size hg1), Nat.le_trans (Nat.le_trans hB3.size hb34.size) hg2, hB3.trans (hb35.mono hB3.size)⟩
end Go.Proofs.YthffglapmkkohaaGreatDoor
namespace Go.Proofs.YthffglapmkkohaaGreatDoor
open Go.RowKit
attribute [local irreducible] lo hs sm s64 c64 d64 b64 mh ml pd pc qd qc val hiB str cmpI srD lz
theorem gcdDigits_any (a b : Nat) (ha : a < Bs) (hb : b < Bs) (w : World) :
  Calls Tryz.prog 170 #[.int .u64 (a : Int), .int .u64 (b : Int)] w fun e w' =>
   e = .returned (.int .u64 ((Nat.gcd a b : Nat) : Int)) ∧ Below w.heap.size w w' := by
 go_enter Tryz.func170, Tryz.ntmps170
 go_wp2
 go_loopw [0, 1] (fun z0 z1 wr => ∃ x y : Nat, z0 = .int .u64 x ∧ z1 = .int .u64 y ∧ x < Bs ∧ y < Bs ∧ Nat.gcd x y = Nat.gcd a b ∧ Below w.heap.size w wr) (fun _ z1 _ => (intOf z1).toNat)
 case atStart => exact ⟨a, b, rfl, rfl, ha, hb, rfl, Below.refl _ _⟩
 case round =>
  obtain ⟨x, y, rfl, rfl, hx, hy, hg, hbw⟩ := hrel
  by_cases hy0 : y = 0
  ·subst hy0
   rw [Nat.gcd_zero_right] at hg
   subst hg
   clear hx hy ha hb
   go_wp2
   go_ret
   exact ⟨rfl, hbw⟩
  ·have h1 : ((y : Int) != 0) = true := bne_iff_ne.2 (by omega)
   have htm : (x : Int).tmod (y : Int) = ((x % y : Nat) : Int) := by rw [Int.tmod_eq_emod_of_nonneg (by omega), Int.natCast_emod]
   have hlt : x % y < y := Nat.mod_lt _ (by omega)
   have hgc : Nat.gcd y (x % y) = Nat.gcd a b := by rw [← hg, Nat.gcd_comm y, ← Nat.gcd_rec, Nat.gcd_comm]
   generalize hm : x % y = m at *
   have hwm : IntKind.u64.wrap (m : Int) = (m : Int) := wrapN _ (by unfold Bs at hy; omega)
   have HL := Lib.hid hlt
   have HY := Lib.hid hy
   clear hlt hx hg ha hb hm hy
   go_wp2
   go_region
   all_goals go_wp2
   all_goals go_roundw
   case rel => exact ⟨y, m, rfl, rfl, HY.out, Nat.lt_trans HL.out HY.out, hgc, hbw.drew⟩
   case measure => have := HL.out; simp [intOf]; omega
/-- The number that a slice's cells hold. -/
def rdv (z : Value) (w : World) : Nat := match z with
 | .slice (some ⟨g, _, _⟩) n _ => val ((List.range n).map fun i => match w.cell? ⟨g, i, none⟩ with | some (.int _ d) => d.toNat | _ => 0)
 | _ => 0
theorem rdv_eq {w : World} {g c y : Nat} {Z : List Nat} (h : DB w g (digs y ++ Z)) : rdv (.slice (some ⟨g, 0, none⟩) (digs y).length c) w = y := by
 unfold rdv
 simp only
 rw [show (List.range (digs y).length).map (fun i => match w.cell? ⟨g, i, none⟩ with | some (.int _ d) => d.toNat | _ => 0) = digs y from ?_, val_digs]
 apply List.ext_getElem (by simp)
 intro i h1 h2
 have h3 := h.rdl i h2
 rw [Nat.zero_add] at h3
 simp [h3]
/-- Gcd's three boxes. -/
structure B3 (w : World) (k : Nat) (a b : Nat) : Prop where
 A : Bx w k (.int .u64 ((lo a : Nat) : Int)) (.string (hs a))
 B : Bx w (k + 1) (.int .u64 ((lo b : Nat) : Int)) (.string (hs b))
 C : Bx w (k + 2) (.int .u64 0) (.string ⟨#[]⟩)
 sz : k + 3 ≤ w.heap.size
theorem B3.below {w w' : World} {k a b : Nat} (h : B3 w k a b) (hb : Below w.heap.size w w') : B3 w' k a b :=
 ⟨h.A.below hb (by have := h.sz; omega), h.B.below hb (by have := h.sz; omega), h.C.below hb (by have := h.sz; omega), Nat.le_trans h.sz hb.size⟩
theorem B3.step {w0 w1 w2 : World} {k a b : Nat} (h0 : Below k w0 w1) (h : B3 w1 k a b) (hb : Below w1.heap.size w1 w2) : Below k w0 w2 := h0.trans (hb.mono (by have := h.sz; omega))
theorem boxes3 (w : World) (A1 A2 B1 B2 C1 C2 : Value) (t : TypeId) : ∃ w0, (((w.alloc (.cells #[A1, A2] t)).alloc (.cells #[B1, B2] t)).alloc (.cells #[C1, C2] t)) = w0 ∧
  Bx w0 w.heap.size A1 A2 ∧ Bx w0 (w.heap.size + 1) B1 B2 ∧ Bx w0 (w.heap.size + 2) C1 C2 ∧ Below w.heap.size w w0 ∧ w.heap.size + 3 ≤ w0.heap.size :=
 ⟨_, rfl, Bx.of _ _ _ _ _ (al3_1 w _ _ _), Bx.of _ _ _ _ _ (al3_2 w _ _ _), Bx.of _ _ _ _ _ (al3 w _ _ _), below3 w _ _ _, by simp⟩
theorem B3.swap {w : World} {k a b : Nat} (h : B3 w k a b) (h' : ((((w.setCell ⟨k, 0, none⟩ (.int .u64 ((lo b : Nat) : Int))).setCell ⟨k, 1, none⟩ (.string (hs b))).setCell ⟨k + 1, 0, none⟩ (.int .u64 ((lo a : Nat) : Int))).setCell ⟨k + 1, 1, none⟩ (.string (hs a))).heap.size = w.heap.size) :
  B3 ((((w.setCell ⟨k, 0, none⟩ (.int .u64 ((lo b : Nat) : Int))).setCell ⟨k, 1, none⟩ (.string (hs b))).setCell ⟨k + 1, 0, none⟩ (.int .u64 ((lo a : Nat) : Int))).setCell ⟨k + 1, 1, none⟩ (.string (hs a))) k b a := by
 have hp := put4 h.A h.B (.int .u64 ((lo b : Nat) : Int)) (.string (hs b)) (.int .u64 ((lo a : Nat) : Int)) (.string (hs a))
 refine ⟨hp.1, hp.2, ?_, by rw [h']; exact h.sz⟩
 obtain ⟨c0, c1, cf⟩ := h.C
 refine ⟨?_, ?_, fun j => ?_⟩ <;> simp [go_sem, c0, c1, cf]
theorem gcd_any (a b : Nat) (ha : (digs a).length ≤ 1000000000000) (hb : (digs b).length ≤ 1000000000000) (w : World) :
  Calls Tryz.prog 134 #[natV a, natV b] w fun e w' => e = .returned (natV (Nat.gcd a b)) ∧ Below w.heap.size w w' := by
 obtain ⟨w0, hw0, hA, hB, hC, hbw, hsz⟩ := boxes3 w (.int .u64 ((lo a : Nat) : Int)) (.string (hs a)) (.int .u64 ((lo b : Nat) : Int)) (.string (hs b)) (.int .u64 0) (.string ⟨#[]⟩) 32
 have H0 : B3 w0 w.heap.size a b := ⟨hA, hB, hC, hsz⟩
 clear hA hB hC hsz
 have HC := Lib.hid (fun w => cmp_any a b w)
 obtain ⟨⟨a0, a1, af⟩, ⟨b0, b1, bf⟩, -⟩ := id H0
 go_enter Tryz.func134, Tryz.ntmps134
 go_wp2_with fail
 refine (HC.out _).mono ?_
 rintro e w1 ⟨rfl, hb1⟩
 have H1 := H0.below hb1
 have hB1 := H0.step hbw hb1
 clear a0 a1 af b0 b1 bf HC H0 hb1 hbw hw0
 go_upto_if 10 with fail
 go_cut [] from 11 to 12 (fun wx => ∃ x y : Nat, ((x = a ∧ y = b) ∨ (x = b ∧ y = a)) ∧ y ≤ x ∧ B3 wx w.heap.size x y ∧ Below w.heap.size w wx)
 case first =>
  obtain ⟨⟨a0, a1, af⟩, ⟨b0, b1, bf⟩, -⟩ := id H1
  rcases Nat.lt_or_ge a b with hab | hab
  ·have hcm : cmpI a b < 0 := by rw [cmpI_lt hab]; decide
   go_wp2_with fail
   go_meet
   exact ⟨b, a, .inr ⟨rfl, rfl⟩, Nat.le_of_lt hab, H1.swap (by simp), (((hB1.setCell (by simp) _).setCell (by simp) _).setCell (by simp) _).setCell (by simp) _⟩
  ·have hcm : ¬ cmpI a b < 0 := of_decide_eq_false (cmpI_ge hab)
   go_wp2_with fail
   go_meet
   exact ⟨a, b, .inl ⟨rfl, rfl⟩, hab, H1, hB1⟩
 case rest =>
  clear H1 hB1
  obtain ⟨x, y, hxy, hyx, H1, hB1⟩ := hcut
  have hlx : (digs x).length ≤ 1000000000000 := by rcases hxy with ⟨rfl, rfl⟩ | ⟨rfl, rfl⟩ <;> assumption
  have hg : Nat.gcd x y = Nat.gcd a b := by
   rcases hxy with ⟨rfl, rfl⟩ | ⟨rfl, rfl⟩
   ·rfl
   ·exact Nat.gcd_comm _ _
  have HGC := Lib.hid (congrArg (fun n => Ending.returned (natV n)) hg)
  clear ha hb hg hxy
  have HS := Lib.hid (fun w => small_any x w)
  obtain ⟨⟨a0, a1, af⟩, ⟨b0, b1, bf⟩, -⟩ := id H1
  by_cases hsx : x < Bs
  ·have hs1 : sm x = true := by unfold sm; exact decide_eq_true hsx
   have hsy : y < Bs := Nat.lt_of_le_of_lt hyx hsx
   have hgB : Nat.gcd x y < Bs := by
    rcases Nat.eq_zero_or_pos y with h | h
    ·rw [h, Nat.gcd_zero_right]; exact hsx
    ·exact Nat.lt_of_le_of_lt (Nat.gcd_le_right x h) hsy
   go_wp2_with fail
   refine (HS.out _).mono ?_
   rintro e w2 ⟨rfl, hb2⟩
   have H2 := H1.below hb2
   have hB2 := H1.step hB1 hb2
   have HG := gcdDigits_any x y hsx hsy
   have HO := of_any (Nat.gcd x y) hgB
   replace HG := Lib.hid HG
   replace HO := Lib.hid HO
   clear a0 a1 af b0 b1 bf HS H1 hb2 hB1
   obtain ⟨⟨a0, a1, af⟩, ⟨b0, b1, bf⟩, -⟩ := id H2
   rw [lo_small hsx] at a0
   rw [lo_small hsy] at b0
   clear hsx hsy hgB
   go_wp2_with fail
   refine (HG.out _).mono ?_
   rintro e w3 ⟨rfl, hb3⟩
   have H3 := H2.below hb3
   have hB3 := H2.step hB2 hb3
   clear a0 a1 af b0 b1 bf HG H2 hb3 hB2
   go_wp2_with fail
   refine (HO.out _).mono ?_
   rintro e w4 ⟨rfl, hb4⟩
   have H4 := H3.below hb4
   have hB4 := H3.step hB3 hb4
   obtain ⟨-, -, ⟨c0, c1, cf⟩, hsz⟩ := id H4
   clear HO H3 hb4 hB3
   go_wp2_with fail
   exact bodyPost_ret (v := natV (Nat.gcd x y)) (by simp [results, Tryz.results134, go_sem, c0, c1]) rfl ⟨HGC.out, (hB4.setCell (by simp <;> omega) _).setCell (by simp <;> omega) _⟩
  ·have hs1 : sm x = false := by unfold sm; exact decide_eq_false hsx
   go_wp2_with fail
   refine (HS.out _).mono ?_
   rintro e w2 ⟨rfl, hb2⟩
   have H2 := H1.below hb2
   have hB2 := H1.step hB1 hb2
   clear a0 a1 af b0 b1 bf HS H1 hb2 hB1
   obtain ⟨⟨a0, a1, af⟩, ⟨b0, b1, bf⟩, -⟩ := id H2
   go_wp2_with fail
   have HDa := Lib.hid (fun w => digits_any x (by omega) w)
   have HDb := Lib.hid (fun w => digits_any y (by have := digs_mono hyx; omega) w)
   go_region_held3 (fun w' => w'.cell? ⟨w.heap.size, 0, none⟩ = some (.int .u64 ((lo x : Nat) : Int)) ∧ w'.cell? ⟨w.heap.size, 1, none⟩ = some (.string (hs x)) ∧ w'.cell? ⟨w.heap.size + 1, 0, none⟩ = some (.int .u64 ((lo y : Nat) : Int)) ∧ w'.cell? ⟨w.heap.size + 1, 1, none⟩ = some (.string (hs y)))
    (first | with_reducible exact ⟨a0, a1, b0, b1⟩ | with_reducible exact ⟨a0', a1', b0', b1'⟩ | with_reducible exact ⟨a0'', a1'', b0'', b1''⟩ | exact ⟨a0, a1, b0, b1⟩)
    (first
     | (go_at_call 145; ((with_reducible refine Calls.mono (HDa.out _) ?_); rintro e w3 ⟨gx, cx, zx, rfl, hcx, hgx, hdx, hb3⟩; have H3 := H2.below ((Below.refl w2.heap.size w2).drew.trans hb3); obtain ⟨⟨a0', a1', af'⟩, ⟨b0', b1', bf'⟩, -⟩ := id H3))
     | (go_at_call 145; ((with_reducible refine Calls.mono (HDb.out _) ?_); rintro e w4 ⟨gy, cy, zy, rfl, hcy, hgy, hdy, hb4⟩; have H4 := H3.below hb4; obtain ⟨⟨a0'', a1'', af''⟩, ⟨b0'', b1'', bf''⟩, -⟩ := id H4)))
   have hB4 := H3.step (H2.step hB2 ((Below.refl w2.heap.size w2).drew.trans hb3)) hb4
   have hdx4 := hdx.below hb4 hdx.lt
   have hne : gx ≠ gy := by have := hdx.lt; omega
   have hsz4 := H2.sz
   have hsz5 := H3.sz
   clear a0 a1 af b0 b1 bf a0' a1' af' b0' b1' bf' a0'' a1'' af'' b0'' b1'' bf'' HDa HDb H2 H3 hB2 hb3 hb4 hdx
   go_wp2_with fail
   go_loopw [5, 6] (fun z5 z6 wr => ∃ (x' y' gX cX gY cY : Nat) (ZX ZY : List Nat), z5 = .slice (some ⟨gX, 0, none⟩) (digs x').length cX ∧ z6 = .slice (some ⟨gY, 0, none⟩) (digs y').length cY ∧
    DB wr gX (digs x' ++ ZX) ∧ DB wr gY (digs y' ++ ZY) ∧ (digs x').length ≤ cX ∧ (digs y').length ≤ cY ∧ Nat.gcd x' y' = Nat.gcd x y ∧ y' ≤ x' ∧ (digs x').length ≤ 1000000000000 ∧ gX ≠ gY ∧ w.heap.size + 3 ≤ gX ∧ w.heap.size + 3 ≤ gY ∧ B3 wr w.heap.size x y ∧ Below w.heap.size w wr) (fun _ z6 wr => rdv z6 wr)
   case atStart => exact ⟨x, y, gx, cx, gy, cy, _, _, rfl, rfl, hdx4, hdy, hcx, hcy, rfl, hyx, hlx, hne, by have := hsz4; simp at hgx; omega, by omega, H4, hB4⟩
   case round =>
    obtain ⟨x', y', gX, cX, gY, cY, ZX, ZY, rfl, rfl, hX, hY, hcX, hcY, hg, hle, hl, hne', hgX, hgY, H5, hB5⟩ := hrel
    clear hdx4 hdy hcx hcy hne H4 hB4 hgx hgy hsz4 hsz5 hlx hyx
    obtain ⟨m, hm⟩ : ∃ m, (digs y').length = m := ⟨_, rfl⟩
    obtain ⟨n, hn⟩ : ∃ n, (digs x').length = n := ⟨_, rfl⟩
    have hmv := rdv_eq (c := cY) hY
    rw [hm] at hmv hcY ⊢
    rw [hn] at hcX hl ⊢
    rcases Nat.lt_or_ge 1 m with hm1 | hm1
    ·have HD := Lib.hid (descend_any gX gY cX cY x' y' n m ZX ZY hn hm hl hm1 hle hcY wr hX hY)
     go_wp2_with fail
     refine (HD.out).mono ?_
     rintro e w6 ⟨x2, y2, gX2, cX2, gY2, cY2, ZX2, ZY2, rfl, r1, r2, r3, r4, r5, r6, r7, r8, r9, r10, r11, hb6⟩
     have H6 := H5.below hb6
     have hB6 := H5.step hB5 hb6
     have hl2 : (digs x2).length ≤ 1000000000000 := Nat.le_trans (digs_mono (Nat.le_trans r8 hle)) (by omega)
     have hsz5 := H5.sz
     go_wp2_with fail
     go_roundw
     case rel => exact ⟨x2, y2, gX2, cX2, gY2, cY2, ZX2, ZY2, rfl, rfl, r1, r2, r3, r4, r5.trans hg, r6, hl2, r9, by omega, by omega, H6, hB6⟩
     case measure => rw [hmv, rdv_eq r2]; exact r7
    ·have hd1 : decide (1 < m) = false := by rw [decide_eq_false_iff_not]; omega
     rcases Nat.eq_zero_or_pos m with hm0 | hm0
     ·subst hm0
      have hy0 : y' = 0 := digs_eq_nil.1 (List.length_eq_zero_iff.1 hm)
      have HP := Lib.hid (packQ gX cX n x' (digs x') ZX hn (digs_dig x') (val_digs x') (by omega) hcX wr hX)
      have hgx : x' = Nat.gcd x y := by rw [← hg, hy0, Nat.gcd_zero_right]
      have HE := Lib.hid ((congrArg (fun n => Ending.returned (natV n)) hgx).trans HGC.out)
      clear hmv hm hn hX hY hg hgx hle hl hy0
      go_wp2_with fail
      refine (HP.out).mono ?_
      rintro e w6 ⟨rfl, hb6⟩
      have H6 := H5.below hb6
      have hB6 := H5.step hB5 hb6
      obtain ⟨-, -, ⟨c0, c1, cf⟩, hsz⟩ := id H6
      go_wp2_with fail
      exact bodyPost_ret (v := natV x') (by simp [results, Tryz.results134, go_sem, c0, c1]) rfl ⟨HE.out, (hB6.setCell (by simp <;> omega) _).setCell (by simp <;> omega) _⟩
     ·have hm2 : m = 1 := by omega
      subst hm2
      have hyB : y' < Bs := by have := digs_length_iff.1 (show (digs y').length ≤ 1 by omega); rwa [Nat.pow_one] at this
      have hy0 : 0 < y' := by
       rcases Nat.eq_zero_or_pos y' with h | h
       ·rw [h, digs_zero] at hm; simp at hm
       ·exact h
      have hdy : digs y' = [y'] := by rw [digs_pos (by omega), Nat.mod_eq_of_lt hyB, Nat.div_eq_of_lt hyB, digs_zero]
      have hcell := hY.cell 0 (by rw [hdy]; simp)
      simp only [hdy, List.cons_append, List.getElem_cons_zero] at hcell
      have HDD := fun w h => divD gX cX x' y' ZX hy0 hyB (by omega) w h
      rw [hn] at HDD
      have HGG := fun w => gcdDigits_any y' (x' % y') hyB (Nat.lt_trans (Nat.mod_lt _ hy0) hyB) w
      have hgg : Nat.gcd y' (x' % y') = Nat.gcd x y := by rw [← hg, Nat.gcd_comm y', ← Nat.gcd_rec, Nat.gcd_comm]
      have HO := fun w => of_any (Nat.gcd y' (x' % y')) (Nat.lt_of_le_of_lt (Nat.gcd_le_left _ hy0) hyB) w
      have HE := Lib.hid ((congrArg (fun n => Ending.returned (natV n)) hgg).trans HGC.out)
      generalize Nat.gcd y' (x' % y') = g at *
      generalize x' % y' = r at *
      replace HDD := Lib.hid HDD
      replace HGG := Lib.hid HGG
      replace HO := Lib.hid HO
      have hsz5 := H5.sz
      clear hmv hm hn hg hgg hle hl hyB hy0 hdy
      go_wp2_with fail
      go_region_held3 (fun w' => w'.cell? ⟨gY, 0, none⟩ = some (.int .u64 (y' : Int)))
       (first | with_reducible exact hcell | with_reducible exact hc2 | with_reducible exact hc3 | with_reducible exact hc4 | (simp [go_sem, hc4]; done) | (simp [go_sem, hcell]; done))
       (first
        | (go_at_call 172; ((with_reducible refine Calls.mono (HDD.out _ (hX.keep rfl)) ?_); rintro e w6 ⟨rfl, Q, hQ1, hQ2, hQ3, hdq, hg6⟩; have hb6 := (Below.refl (w.heap.size + 3) wr).drew.trans (grown_below hg6 hgX hsz5); have hc2 := (grown_cell (i := 0) hg6 (Ne.symm hne') hY.lt).trans hcell))
        | (go_at_call 170; ((with_reducible refine Calls.mono (HGG.out _) ?_); rintro e w7 ⟨rfl, hb7⟩; have hc3 := (hb7.cell (p := ⟨gY, 0, none⟩) (Nat.lt_of_lt_of_le hY.lt hb6.size)).trans hc2; have hb67 := hb6.trans (hb7.mono (Nat.le_trans hsz5 hb6.size))))
        | (go_at_call 133; ((with_reducible refine Calls.mono (HO.out _) ?_); rintro e w8 ⟨rfl, hb8⟩; have hc4 := (hb8.cell (p := ⟨gY, 0, none⟩) (Nat.lt_of_lt_of_le hY.lt hb67.size)).trans hc3; have hb68 := hb67.trans (hb8.mono (Nat.le_trans hsz5 hb67.size)); obtain ⟨c0, c1, cf⟩ := H5.C.below hb68 (by omega))))
      go_wp2_with fail
      have hB8 := hB5.trans (hb68.mono (by omega))
      exact bodyPost_ret (v := natV g) (by simp [results, Tryz.results134, go_sem, c0, c1]) rfl ⟨HE.out, (hB8.setCell (by simp <;> omega) _).setCell (by simp <;> omega) _⟩
end Go.Proofs.YthffglapmkkohaaGreatDoor
namespace Go.Proofs.YthffglapmkkohaaGreatDoor
open Go.RowKit
attribute [local irreducible] lo hs sm s64 c64 d64 b64 mh ml pd pc qd qc val hiB str cmpI srD lz
/-- The number of binary digits. -/
def nb (n : Nat) : Nat := if n = 0 then 0 else n.log2 + 1
attribute [local irreducible] nb
theorem digs_add_le {a b k : Nat} (ha : (digs a).length ≤ k) (hb : (digs b).length ≤ k) : (digs (a + b)).length ≤ k + 1 := by
 have h1 := digs_length_iff.1 ha
 have h2 := digs_length_iff.1 hb
 refine digs_length_iff.2 ?_
 rw [Nat.pow_succ]
 have h3 : Bs ^ k * 2 ≤ Bs ^ k * Bs := Nat.mul_le_mul_left _ Bs_gt
 omega
end Go.Proofs.YthffglapmkkohaaGreatDoor
namespace Go.Proofs.YthffglapmkkohaaGreatDoor
open Go.RowKit
attribute [local irreducible] lo hs sm s64 c64 d64 b64 mh ml pd pc qd qc val hiB str cmpI srD lz nb
theorem eq_zero {b : Nat} (hb : 0 < b) : ((((lo b : Nat) : Int) == ((lo 0 : Nat) : Int)) = false) ∨ ((((lo b : Nat) : Int) == ((lo 0 : Nat) : Int)) = true ∧ ((hs b).toList == (hs 0).toList) = false) := by
 by_cases h : lo b = lo 0
 ·right
  refine ⟨by rw [h]; simp, ?_⟩
  rw [hs_eq, decide_eq_false]
  intro h2
  have h3 : b % Bs = 0 % Bs := by have h4 := h; unfold lo at h4; exact h4
  have := Nat.div_add_mod b Bs
  rw [h2, h3] at this
  simp at this; omega
 ·left
  rw [beq_eq_false_iff_ne]; omega
theorem put2 {w : World} {k : Nat} {x y : Value} (hA : Bx w k x y) (x' y' : Value) : Bx ((w.setCell ⟨k, 0, none⟩ x').setCell ⟨k, 1, none⟩ y') k x' y' := by
 obtain ⟨a0, a1, af⟩ := hA
 refine ⟨?_, ?_, fun j => ?_⟩ <;> simp [go_sem, a0, a1, af]
/-- Sqrt's two boxes. -/
structure B2 (w : World) (k : Nat) (a : Nat) : Prop where
 A : Bx w k (.int .u64 ((lo a : Nat) : Int)) (.string (hs a))
 C : Bx w (k + 1) (.int .u64 0) (.string ⟨#[]⟩)
 sz : k + 2 ≤ w.heap.size
theorem B2.below {w w' : World} {k a : Nat} (h : B2 w k a) (hb : Below w.heap.size w w') : B2 w' k a :=
 ⟨h.A.below hb (by have := h.sz; omega), h.C.below hb (by have := h.sz; omega), Nat.le_trans h.sz hb.size⟩
theorem B2.belowN {w w' : World} {k a : Nat} (h : B2 w k a) (hb : Below (k + 2) w w') : B2 w' k a :=
 ⟨h.A.below hb (by omega), h.C.below hb (by omega), Nat.le_trans h.sz hb.size⟩
theorem B2.step {w0 w1 w2 : World} {k a : Nat} (h0 : Below k w0 w1) (h : B2 w1 k a) (hb : Below w1.heap.size w1 w2) : Below k w0 w2 := h0.trans (hb.mono (by have := h.sz; omega))
end Go.Proofs.YthffglapmkkohaaGreatDoor
namespace Go.Proofs.YthffglapmkkohaaGreatDoor
open Go.RowKit
attribute [local irreducible] lo hs sm s64 c64 d64 b64 mh ml pd pc qd qc val hiB str cmpI srD lz nb
/-- What Pow's second test asks. -/
def great (a n : Nat) : Bool := decide (4096 < n) || (decide (0 < n) && decide (262144 / n < nb a))
theorem digs_mul_le {a b k m : Nat} (ha : (digs a).length ≤ k) (hb : (digs b).length ≤ m) : (digs (a * b)).length ≤ k + m := by
 have h1 := digs_length_iff.1 ha
 have h2 := digs_length_iff.1 hb
 refine digs_length_iff.2 ?_
 rw [Nat.pow_add]
 exact Nat.mul_lt_mul'' h1 h2
end Go.Proofs.YthffglapmkkohaaGreatDoor
namespace Go.Proofs.YthffglapmkkohaaGreatDoor
open Go.Lib (decDigits nDigits)
theorem snoc_ind {α : Type} {p : List α → Prop} (l : List α) (nil : p []) (append_singleton : ∀ m c, p m → p (m ++ [c])) : p l := by
 have h : ∀ r : List α, p r.reverse := by
  intro r
  induction r with
  | nil => exact nil
  | cons c r ih => rw [List.reverse_cons]; exact append_singleton _ _ ih
 have := h l.reverse
 rwa [List.reverse_reverse] at this
/-- The byte of a decimal digit. -/
def dch (d : Nat) : UInt8 := UInt8.ofNat (48 + d)
theorem dec_small {u : Nat} (h : u < 10) : decDigits u = [dch u] := by rw [decDigits, dif_pos h]; rfl
theorem dec_big {u : Nat} (h : ¬ u < 10) : decDigits u = decDigits (u / 10) ++ [dch (u % 10)] := by rw [decDigits, dif_neg h]; rfl
/-- k decimal digits of r, with leading zeros. -/
def pad : Nat → Nat → List UInt8
 | 0, _ => []
 | k + 1, r => pad k (r / 10) ++ [dch (r % 10)]
theorem dec_mul_add : ∀ (k q r : Nat), 0 < q → r < 10 ^ k → decDigits (q * 10 ^ k + r) = decDigits q ++ pad k r
 | 0, q, r, _, hr => by
  rw [Nat.pow_zero] at hr
  rw [pad, List.append_nil, show r = 0 by omega, Nat.pow_zero, Nat.mul_one, Nat.add_zero]
 | k + 1, q, r, hq, hr => by
  rw [Nat.pow_succ] at hr ⊢
  have h1 : 1 ≤ 10 ^ k := Nat.one_le_pow _ _ (by omega)
  have h2 : q * (10 ^ k * 10) = (q * 10 ^ k) * 10 := by rw [Nat.mul_assoc]
  rw [h2]
  have h3 : 1 ≤ q * 10 ^ k := Nat.mul_pos hq h1
  have h4 := dec_mul_add k q (r / 10) hq (by omega)
  generalize q * 10 ^ k = x at *
  rw [dec_big (by omega), show (x * 10 + r) / 10 = x + r / 10 by omega, show (x * 10 + r) % 10 = r % 10 by omega, h4, pad, List.append_assoc]
theorem pad_zero : ∀ k, pad k 0 = List.replicate k 48
 | 0 => rfl
 | k + 1 => by
  rw [pad, show 0 / 10 = 0 from rfl, pad_zero k]
  show List.replicate k 48 ++ [48] = _
  rw [← List.replicate_succ']
theorem pad_eq : ∀ (k r : Nat), 0 < k → r < 10 ^ k → pad k r = List.replicate (k - (decDigits r).length) 48 ++ decDigits r ∧ (decDigits r).length ≤ k
 | k + 1, r, _, hr => by
  rcases Nat.lt_or_ge r 10 with h | h
  ·rw [pad, show r / 10 = 0 by omega, show r % 10 = r by omega, pad_zero, dec_small h]
   exact ⟨rfl, by show 1 ≤ k + 1; omega⟩
  ·have hk : 0 < k := by
    rcases Nat.eq_zero_or_pos k with rfl | h'
    ·rw [Nat.pow_succ, Nat.pow_zero] at hr; omega
    ·exact h'
   rw [Nat.pow_succ] at hr
   obtain ⟨h1, h2⟩ := pad_eq k (r / 10) hk (by omega)
   rw [pad, h1, dec_big (by omega : ¬ r < 10), List.length_append, List.append_assoc]
   refine ⟨?_, by show _ + 1 ≤ k + 1; omega⟩
   congr 2
   show _ = k + 1 - (_ + 1)
   omega
theorem dec_length_pos (n : Nat) : 0 < (decDigits n).length := by
 rcases Nat.lt_or_ge n 10 with h | h
 ·rw [dec_small h]; exact Nat.one_pos
 ·rw [dec_big (by omega), List.length_append]; exact Nat.lt_of_lt_of_le Nat.one_pos (Nat.le_add_left 1 _)
theorem dec_length_lt {n k : Nat} (hk : 0 < k) : (decDigits n).length ≤ k ↔ n < 10 ^ k := by
 induction k generalizing n with
 | zero => omega
 | succ k ih =>
  rcases Nat.lt_or_ge n 10 with h | h
  ·rw [dec_small h]
   have : 10 ≤ 10 ^ (k + 1) := by rw [Nat.pow_succ]; have := Nat.one_le_pow k 10 (by omega); omega
   exact ⟨fun _ => by omega, fun _ => by show 1 ≤ k + 1; omega⟩
  ·rw [dec_big (by omega), List.length_append, Nat.pow_succ]
   rcases Nat.eq_zero_or_pos k with rfl | h'
   ·have := dec_length_pos (n / 10)
    rw [Nat.pow_zero]
    constructor
    ·intro h1
     have h2 : (decDigits (n / 10)).length + 1 ≤ 0 + 1 := h1
     omega
    ·intro h1; omega
   ·have := ih (n := n / 10) h'
    constructor
    ·intro h1
     have h2 : (decDigits (n / 10)).length + 1 ≤ k + 1 := h1
     have := this.1 (by omega)
     omega
    ·intro h1
     have := this.2 (by omega)
     show _ + 1 ≤ k + 1
     omega
/-- The number that decimal digits spell. -/
def dval (l : List UInt8) : Nat := l.foldl (fun n c => n * 10 + (c.toNat - 48)) 0
theorem dval_nil : dval [] = 0 := rfl
theorem dval_snoc (l : List UInt8) (c : UInt8) : dval (l ++ [c]) = dval l * 10 + (c.toNat - 48) := by
 unfold dval; rw [List.foldl_append]; rfl
theorem dval_append (l m : List UInt8) : dval (l ++ m) = dval l * 10 ^ m.length + dval m := by
 induction m using snoc_ind with
 | nil => simp [dval_nil]
 | append_singleton m c ih =>
  rw [← List.append_assoc, dval_snoc, ih, dval_snoc, List.length_append, show [c].length = 1 from rfl, Nat.pow_succ, Nat.add_mul, Nat.mul_assoc]
  omega
def isDig (c : UInt8) : Prop := 48 ≤ c.toNat ∧ c.toNat ≤ 57
theorem dval_lt {l : List UInt8} (h : ∀ c ∈ l, isDig c) : dval l < 10 ^ l.length := by
 induction l using snoc_ind with
 | nil => exact Nat.one_pos
 | append_singleton m c ih =>
  have h1 := ih fun x hx => h x (List.mem_append_left _ hx)
  have h2 := h c (List.mem_append_right _ (List.mem_singleton.2 rfl))
  unfold isDig at h2
  rw [dval_snoc, List.length_append, show [c].length = 1 from rfl, Nat.pow_succ]
  omega
/-- The base of the decimal chunks. -/
def CB : Nat := 10000000000000000000
theorem CB_pow : CB = 10 ^ 19 := by unfold CB; rfl
theorem CB_pos : 0 < CB := by unfold CB; omega
theorem CB_gt : 1 < CB := by unfold CB; omega
theorem chunk_split (a k : Nat) : a / CB ^ k = a / CB ^ (k + 1) * CB + a / CB ^ k % CB := by
 rw [Nat.pow_succ, ← Nat.div_div_eq_div_mul]
 have := Nat.div_add_mod (a / CB ^ k) CB
 rw [Nat.mul_comm] at this
 exact this.symm
/-- One chunk more of the decimal form. -/
theorem chunk_dec (a k : Nat) (h : 0 < a / CB ^ (k + 1)) :
  decDigits (a / CB ^ k) = decDigits (a / CB ^ (k + 1)) ++ (List.replicate (19 - (decDigits (a / CB ^ k % CB)).length) 48 ++ decDigits (a / CB ^ k % CB))
   ∧ (decDigits (a / CB ^ k % CB)).length ≤ 19 := by
 have h1 : a / CB ^ k % CB < 10 ^ 19 := by rw [← CB_pow]; exact Nat.mod_lt _ CB_pos
 obtain ⟨h2, h3⟩ := pad_eq 19 (a / CB ^ k % CB) (by omega) h1
 refine ⟨?_, h3⟩
 rw [← h2, ← dec_mul_add 19 _ _ h h1, ← CB_pow, ← chunk_split]
/-- The first number of chunks that leaves nothing. -/
theorem chunk_top (a : Nat) (h : 0 < a) : ∃ k, 0 < a / CB ^ k ∧ a / CB ^ (k + 1) = 0 := by
 have h0 : ∃ n, a / CB ^ n = 0 := ⟨a, Nat.div_eq_of_lt (Nat.lt_pow_self CB_gt)⟩
 have key : ∀ n, a / CB ^ n = 0 → ∃ k, 0 < a / CB ^ k ∧ a / CB ^ (k + 1) = 0 := by
  intro n
  induction n with
  | zero => intro hn; rw [Nat.pow_zero, Nat.div_one] at hn; omega
  | succ n ih =>
   intro hn
   rcases Nat.eq_zero_or_pos (a / CB ^ n) with h1 | h1
   ·exact ih h1
   ·exact ⟨n, h1, hn⟩
 obtain ⟨n, hn⟩ := h0
 exact key n hn
end Go.Proofs.YthffglapmkkohaaGreatDoor
namespace Go.Proofs.YthffglapmkkohaaGreatDoor
open Go.RowKit
theorem hp_no (s : ByteArray) (h : Lib.hasPrefix s.data.toList [48] = false) (w : World) :
  Calls Tryz.prog 204 #[.string s, .string ⟨#[48]⟩] w fun e w' => e = .returned (.bool false) ∧ w' = w := by
 refine (Tryz.strings_HasPrefix s ⟨#[48]⟩ w).mono ?_
 rintro e w' ⟨rfl, rfl⟩
 exact ⟨by rw [show Lib.hasPrefix s.data.toList (⟨#[48]⟩ : ByteArray).data.toList = false from h], rfl⟩
theorem hp_yes (s : ByteArray) (h : Lib.hasPrefix s.data.toList [48] = true) (w : World) :
  Calls Tryz.prog 204 #[.string s, .string ⟨#[48]⟩] w fun e w' => e = .returned (.bool true) ∧ w' = w := by
 refine (Tryz.strings_HasPrefix s ⟨#[48]⟩ w).mono ?_
 rintro e w' ⟨rfl, rfl⟩
 exact ⟨by rw [show Lib.hasPrefix s.data.toList (⟨#[48]⟩ : ByteArray).data.toList = true from h], rfl⟩
theorem rep_extract_fin : ∀ k : Fin 65, (⟨(List.replicate 64 (48 : UInt8)).toArray⟩ : ByteArray).extract 0 k.val = ⟨(List.replicate k.val (48 : UInt8)).toArray⟩ := by decide +kernel
theorem rep_extract (s : ByteArray) (hs : s.data.toList = List.replicate 64 48) (k : Nat) (h : k ≤ 64) : s.extract 0 k = ⟨(List.replicate k (48 : UInt8)).toArray⟩ := by
 have e : s = ⟨(List.replicate 64 (48 : UInt8)).toArray⟩ := by
  cases s with
  | mk d => rw [show d = d.toList.toArray by simp, hs]
 rw [e]
 exact rep_extract_fin ⟨k, by omega⟩
theorem rep0_many (k : Nat) (h2 : 2 ≤ k) (h : k ≤ 64) (w : World) :
  Calls Tryz.prog 187 #[.string ⟨#[48]⟩, .int .i64 (k : Int)] w fun e w' => e = .returned (.string ⟨(List.replicate k (48 : UInt8)).toArray⟩) ∧ Below w.heap.size w w' := by
 have h0 : (k : Int) ≠ 0 := by omega
 have h1 : (k : Int) ≠ 1 := by omega
 have h3 : decide ((k : Int) < 0) = false := decide_eq_false (by omega)
 have h4 : decide ((k : Int) ≤ 64) = true := decide_eq_true (by omega)
 have hw : IntKind.u64.wrap (k : Int) = (k : Int) := by rw [IntKind.wrap_u64]; omega
 have hM := Lib.hid (fun w => Tryz.bits_Mul 1 k (by omega) (by omega) w)
 rw [Nat.one_mul, Nat.div_eq_of_lt (by omega), Nat.mod_eq_of_lt (by omega)] at hM
 go_enter Tryz.func187, Tryz.ntmps187
 go_wp2_with fail
 refine (hM.out _).mono ?_
 rintro e w1 ⟨rfl, rfl⟩
 clear hM
 have h5 : decide ((k : Int) ≤ 128) = true := decide_eq_true (by omega)
 go_wp2_with fail
 refine (hp_no _ (by decide +kernel) _).mono ?_
 rintro e w2 ⟨rfl, rfl⟩
 go_wp2_with fail
 refine (hp_no _ (by decide +kernel) _).mono ?_
 rintro e w3 ⟨rfl, rfl⟩
 go_wp2_with fail
 refine (hp_yes _ (by decide +kernel) _).mono ?_
 rintro e w4 ⟨rfl, rfl⟩
 go_wp2_with fail
 exact bodyPost_ret (v := .string ⟨(List.replicate k (48 : UInt8)).toArray⟩) (by simp [-List.toArray_replicate, results, Tryz.results187, go_sem]; exact rep_extract _ (by decide +kernel) k h) rfl ⟨rfl, Below.refl _ _⟩
theorem rep0_any (k : Nat) (h : k ≤ 64) (w : World) :
  Calls Tryz.prog 187 #[.string ⟨#[48]⟩, .int .i64 (k : Int)] w fun e w' => e = .returned (.string ⟨(List.replicate k (48 : UInt8)).toArray⟩) ∧ Below w.heap.size w w' := by
 rcases Nat.lt_or_ge k 2 with h2 | h2
 ·have h3 : k = 0 ∨ k = 1 := by omega
  rcases h3 with rfl | rfl
  ·go_enter Tryz.func187, Tryz.ntmps187
   go_wp2_with fail
   exact bodyPost_ret (v := .string ⟨#[]⟩) (by simp [results, Tryz.results187, go_sem]) rfl ⟨rfl, Below.refl _ _⟩
  ·go_enter Tryz.func187, Tryz.ntmps187
   go_wp2_with fail
   exact bodyPost_ret (v := .string ⟨#[48]⟩) (by simp [results, Tryz.results187, go_sem]) rfl ⟨rfl, Below.refl _ _⟩
 ·exact rep0_many k h2 h w
/-- The table of the powers of ten lies where the program's start laid it. -/
def Tab (w : World) : Prop := Lib.TabIs Tryz.prog w "internal/strconv.uint64pow10" .u64 Lib.pow10Tab
theorem Tab.below {w w' : World} (h : Tab w) (hb : Below w.heap.size w w') : Tab w' := by
 unfold Tab Lib.TabIs World.var? at h ⊢
 cases hg : Tryz.prog.globalNamed "internal/strconv.uint64pow10" with
 | none => rw [hg] at h; simp at h
 | some g =>
  rw [hg] at h
  simp only [Option.bind_some] at h ⊢
  have hlt : g < w.heap.size := by
   rcases Nat.lt_or_ge g w.heap.size with h' | h'
   ·exact h'
   ·rw [Array.getElem?_eq_none h'] at h; cases h
  rw [hb.block g hlt]
  exact h
theorem holds0 (w : World) (T : TypeId) (nd : Nat) (hs : nd ≤ 24) : Sort.Holds (fun (b : UInt8) => Value.int .u8 (b.toNat : Int)) (w.alloc (.cells Lib.zeros24 T)) w.heap.size 0 (Array.replicate nd (0 : UInt8)) := fun j hj => by
 have hj' : j < nd := by simpa using hj
 refine ⟨?_, World.frozen?_alloc_new _ _ _ _⟩
 rw [World.cell?_alloc_new, Lib.zeros24_at _ (by omega), getElem!_pos _ j hj]
 simp
theorem fin0 (w : World) (o : Obj) (dk : Array UInt8) (k : Nat) : Below w.heap.size w ((Sort.putRow (fun (b : UInt8) => Value.int .u8 (b.toNat : Int)) (w.alloc o) w.heap.size 0 dk).drewN k) := by
 rw [Sort.alloc_eq_grow]
 obtain ⟨os', _, e⟩ := Sort.putRow_grow_new (fun (b : UInt8) => Value.int .u8 (b.toNat : Int)) w #[o] w.heap.size 0 dk (Nat.le_refl _)
 rw [e]
 refine ⟨rfl, rfl, rfl, ?_, ?_⟩
 ·show _ ≤ (w.heap ++ os').size
  rw [Array.size_append]; omega
 ·intro k hk
  show (w.heap ++ os')[k]? = _
  rw [Array.getElem?_append_left hk]
theorem fmtInner (u : Nat) (hu : u < Bs) (w : World) (htab : Tab w) :
  Calls Tryz.prog 202 #[.int .u64 (u : Int), .int .i64 10] w fun e w' => e = .returned (.string ⟨(Lib.decDigits u).toArray⟩) ∧ Below w.heap.size w w' := by
 have hu64 : u < 18446744073709551616 := hu
 rcases Nat.lt_or_ge u 100 with hs | hs
 ·go_enter Tryz.func202, Tryz.ntmps202
  go_wp2_with (go_at_call 219; refine (Tryz.internal_strconv_small u hs _).mono ?_; rintro e w' ⟨rfl, rfl⟩)
  exact bodyPost_ret (v := .string ⟨(Lib.decDigits u).toArray⟩) (by simp [results, Tryz.results202, go_sem]) rfl ⟨rfl, Below.refl _ _⟩
 ·have hu1 : 1 ≤ u := by omega
  have hnd20 : Lib.nDigits u ≤ 20 := by have := Lib.numDigits_eq u hu1 hu64; split at this <;> omega
  have hb3 : Lib.nDigits u ≤ 24 := by omega
  have hal : Tryz.prog.arrayLen 248 = 24 := by simp [Program.arrayLen, Tryz.underlying248]
  have hsl1 : ∀ W, (Instr.sliceAt 248 (.pointer (some ⟨w.heap.size, 0, none⟩)) none (some (.int .i64 (Lib.nDigits u : Int))) none).run Tryz.prog W = .ok (.slice (some ⟨w.heap.size, 0, none⟩) (Lib.nDigits u) 24) W := fun W => by
   rw [run_sliceAt_array_h W 248 ⟨w.heap.size, 0, none⟩ (by simp [Program.arrayLen, Program.elem, Tryz.underlying248]) .i64 (Lib.nDigits u : Int) (by omega) (by rw [hal]; omega)]
   go_simp
  have hH0 := holds0 w 248 (Lib.nDigits u) (by omega)
  have hfmt := Tryz.internal_strconv_formatBase10 w.heap.size 0 24 u (Array.replicate (Lib.nDigits u) 0) (w.alloc (.cells Lib.zeros24 248)) hH0 (by rw [Array.size_replicate]; exact Lib.lt_pow_nDigits u) hu64 (by rw [Array.size_replicate]; omega)
  rw [Array.size_replicate] at hfmt
  have HH0 := Lib.hid hH0
  clear hH0 hal
  have h100 : decide ((u : Int) < 100) = false := decide_eq_false (by omega)
  go_enter Tryz.func202, Tryz.ntmps202
  go_wp2_with (first
   | (go_at_call 220; refine (Tryz.internal_strconv_numDigits u hu1 hu64 _ (Lib.tabIs_alloc htab _)).mono ?_; rintro e w' ⟨rfl, rfl⟩))
  go_at_call 221
  refine hfmt.mono ?_
  rintro e w' ⟨rfl, k, v', dk, rfl, hF⟩
  have hcv : (convert 97 9 (.slice (some ⟨w.heap.size, 0, none⟩) (Lib.nDigits u) 24)).run Tryz.prog ((Sort.putRow (fun (b : UInt8) => Value.int .u8 (b.toNat : Int)) (w.alloc (.cells Lib.zeros24 248)) w.heap.size 0 dk).drewN k) = .ok (.string ⟨(Lib.decDigits u).toArray⟩) ((Sort.putRow (fun (b : UInt8) => Value.int .u8 (b.toNat : Int)) (w.alloc (.cells Lib.zeros24 248)) w.heap.size 0 dk).drewN k) := by
   have h := run_convert_bytes_back (P := Tryz.prog) ((Sort.putRow (fun (b : UInt8) => Value.int .u8 (b.toNat : Int)) (w.alloc (.cells Lib.zeros24 248)) w.heap.size 0 dk).drewN k) 97 9 5 ⟨w.heap.size, 0, none⟩ 24 (Lib.decDigits u) Tryz.underlying97 Tryz.underlying5 Tryz.underlying9 (fun j hj => by
    rw [Lib.row_is_numeral hF j hj, Lib.add_plain, World.cell?_drewN]
    exact Sort.cell?_putRow (fun (b : UInt8) => Value.int .u8 (b.toNat : Int)) _ w.heap.size 0 _ dk HH0.out (by rw [hF.size, Array.size_replicate]) j (by rw [hF.size]; rw [Lib.decDigits_length] at hj; exact hj))
   rw [Lib.decDigits_length] at h
   exact h
  have hb0 := fin0 w (.cells Lib.zeros24 248) dk k
  go_wp2
  exact bodyPost_ret (v := .string ⟨(Lib.decDigits u).toArray⟩) (by simp [results, Tryz.results202, go_sem]) rfl ⟨rfl, hb0⟩
theorem fmt_any (u : Nat) (hu : u < Bs) (w : World) (htab : Tab w) :
  Calls Tryz.prog 186 #[.int .u64 (u : Int), .int .i64 10] w fun e w' => e = .returned (.string ⟨(Lib.decDigits u).toArray⟩) ∧ Below w.heap.size w w' := by
 have H := Lib.hid (fmtInner u hu w htab)
 go_enter Tryz.func186, Tryz.ntmps186
 go_wp2_with fail
 refine H.out.mono ?_
 rintro e w1 ⟨rfl, hb⟩
 go_wp2_with fail
 exact bodyPost_ret (v := .string ⟨(Lib.decDigits u).toArray⟩) (by simp [results, Tryz.results186, go_sem]) rfl ⟨rfl, hb⟩
end Go.Proofs.YthffglapmkkohaaGreatDoor
namespace Go.Proofs.YthffglapmkkohaaGreatDoor
open Go.RowKit
theorem sizeB : (Tryz.prog.info? 189).map (fun i => i.size) = some 2 := by kernel_rfl
theorem liesB : liesAt Tryz.prog Tryz.prog.depth 189 (2 / Tryz.prog.cellsOf 189) 0 189 1 = true := by kernel_rfl
theorem infoU8 : (Tryz.prog.info? 5).map (fun i => (i.zero, i.size, i.bytes)) = some (some (.int .u8 0), 1, 1) := by kernel_rfl
theorem check_used (b : Nat) (w : World) (h0 : w.cell? ⟨b, 0, none⟩ = some (.pointer (some ⟨b, 0, none⟩))) :
  Calls Tryz.prog 188 #[.pointer (some ⟨b, 0, none⟩)] w fun e w' => e = .returned (.tuple #[]) ∧ w' = w := by
 obtain ⟨j, hj, _⟩ := Option.map_eq_some_iff.1 sizeB
 go_enter Tryz.func188, Tryz.ntmps188
 go_wp2
 rw [Lib.run_neq_ptr_same w _ Tryz.underlying187 hj]
 go_wp2
 go_end0
 exact ⟨rfl, rfl⟩
theorem check_fresh (b : Nat) (w : World) (h0 : w.cell? ⟨b, 0, none⟩ = some (.pointer none)) (hsh : w.shape? b = some (189, 2)) (hfz : w.frozen? ⟨b, 0, none⟩ = false) :
  Calls Tryz.prog 188 #[.pointer (some ⟨b, 0, none⟩)] w fun e w' => e = .returned (.tuple #[]) ∧ w' = w.setCell ⟨b, 0, none⟩ (.pointer (some ⟨b, 0, none⟩)) := by
 obtain ⟨j, hj, hjs⟩ := Option.map_eq_some_iff.1 sizeB
 go_enter Tryz.func188, Tryz.ntmps188
 go_wp2
 rw [Lib.run_to_unsafe w ⟨b, 0, none⟩ Tryz.underlying187 Tryz.underlying234 hj (by rw [hjs]; decide) hsh (Nat.zero_lt_succ 1)]
 simp only [Result.andThen]
 rw [Oper.upon_value]
 go_wp2
 rw [run_callFunc_extern Tryz.func206 (by kernel_rfl) (by kernel_rfl) (by kernel_rfl) (e := Extern.AbiNoEscape.same) (by kernel_rfl)]
 rw [Lib.run_noEscape]
 simp only [Result.andThen]
 rw [Oper.upon_value]
 go_wp2
 rw [Lib.run_from_unsafe w ⟨b, 0, none⟩ Tryz.underlying234 Tryz.underlying187 hj hsh liesB]
 simp only [Result.andThen]
 rw [Oper.upon_value]
 go_wp2
 go_end0
 exact ⟨rfl, rfl⟩
theorem check_any (B b : Nat) (bs : List Value) (w : World) (h : Lib.IsBuilderF 189 5 B b bs w) :
  Calls Tryz.prog 188 #[.pointer (some ⟨b, 0, none⟩)] w fun e w' => e = .returned (.tuple #[]) ∧ (Lib.BuilderAtF 189 5 B b (.pointer (some ⟨b, 0, none⟩)) bs w' ∧ Below B w w' ∧ Lib.OthersKept 5 (some b) w w') := by
 rcases h with h | h
 ·refine (check_fresh b w h.cell0 h.shape h.frozen0).mono ?_
  rintro e w' ⟨rfl, rfl⟩
  exact ⟨rfl, h.used _, (Below.refl B w).setCell (p := ⟨b, 0, none⟩) h.1 _, (Lib.OthersKept.refl _ _ w).setCell ⟨b, 0, none⟩ rfl _⟩
 ·refine (check_used b w h.cell0).mono ?_
  rintro e w' ⟨rfl, rfl⟩
  exact ⟨rfl, h, Below.refl B _, Lib.OthersKept.refl _ _ _⟩
theorem write_any (B b : Nat) (bs : List Value) (s : ByteArray) (w : World) (h : Lib.IsBuilderF 189 5 B b bs w) (hlen : bs.length + s.size ≤ 140737488355328) (hBw : B ≤ w.heap.size) :
  Calls Tryz.prog 165 #[.pointer (some ⟨b, 0, none⟩), .string s] w fun e w' => e = .returned (.tuple #[.int .i64 s.size, .nilIface]) ∧ (Lib.IsBuilderF 189 5 B b (bs ++ Lib.strCells s) w' ∧ Below B w w' ∧ Lib.OthersKept 5 (some b) w w') := by
 obtain ⟨i0, hi, hz0, hz1, hz2⟩ := info_parts infoU8
 go_enter Tryz.func165, Tryz.ntmps165
 go_wp2_with (go_at_call 188; refine (check_any B b bs _ h).mono ?_)
 rintro e w1 ⟨rfl, h1, hb1, hk1⟩
 obtain ⟨hB, v, hbk, hown, hne⟩ := h1
 have c0 : w1.cell? ⟨b, 0, none⟩ = some (.pointer (some ⟨b, 0, none⟩)) := by rw [Lib.cell_of_heap hbk]; rfl
 have c1 : w1.cell? ⟨b, 1, none⟩ = some v := by rw [Lib.cell_of_heap hbk]; rfl
 go_wp2_with (at_builtin; refine Lib.wpList_append_own_stringF _ rfl _ _ 97 9 rfl B 5 i0 Tryz.underlying97 Tryz.underlying9 hi hz0 hz1 hz2 _ _ _ rfl hown s rfl ?c3 ?c4 ?c5 ?_)
 case c3 => unfold maxLen; omega
 case c4 => omega
 case c5 => have := hb1.size; omega
 intro v' w2 hown' hgrow _
 have hlt : b < w1.heap.size := by
  rcases Nat.lt_or_ge b w1.heap.size with h' | h'
  ·exact h'
  ·simp [Array.getElem?_eq_none h'] at hbk
 have hb2 : w2.heap[b]? = some (.cells #[.pointer (some ⟨b, 0, none⟩), v] 189 (0, 0)) := by
  rw [hgrow.block b hlt (fun e => hne e.symm)]
  exact hbk
 have d0 : w2.cell? ⟨b, 0, none⟩ = some (.pointer (some ⟨b, 0, none⟩)) := by rw [Lib.cell_of_heap hb2]; rfl
 have d1 : w2.cell? ⟨b, 1, none⟩ = some v := by rw [Lib.cell_of_heap hb2]; rfl
 have f1 : w2.frozen? ⟨b, 1, none⟩ = false := Lib.frozen_of_heap hb2 1
 obtain ⟨ao, n', cap, rfl⟩ : ∃ ao n' cap, v' = .slice ao n' cap := by
  rcases hown'.2 with ⟨hv, _⟩ | ⟨g, cap, cur, fz, hv, _⟩
  ·exact ⟨_, _, _, hv⟩
  ·exact ⟨_, _, _, hv⟩
 go_wp2
 go_ret2
 refine ⟨rfl, ?_, ?_, (hk1.grown hgrow (Lib.ownsRowF_kind hown)).setCell ⟨b, 1, none⟩ rfl _⟩
 ·exact .inr (Lib.BuilderAtF.put (T := 189) (e := 5) hB hb2 (bs' := bs ++ Lib.strCells s) (by simpa [Lib.strCells_length] using hown') (by decide))
 ·exact (hb1.grown hgrow (by have := hb1.size; omega) (fun k hk => (hown.lt k hk).1)).setCell (p := ⟨b, 1, none⟩) hB _
end Go.Proofs.YthffglapmkkohaaGreatDoor
namespace Go.Proofs.YthffglapmkkohaaGreatDoor
open Go.RowKit
attribute [local irreducible] lo hs sm s64 c64 d64 b64 mh ml pd pc qd qc val hiB str cmpI srD lz nb
/-- The text of a number, as a value. -/
def txt (n : Nat) : ByteArray := ⟨(Lib.decDigits n).toArray⟩
theorem text_small (n : Nat) (h : n < Bs) (w : World) (htab : Tab w) :
  Calls Tryz.prog 163 #[natV n] w fun e w' => e = .returned (.string (txt n)) ∧ Below w.heap.size w w' := by
 obtain ⟨w0, hw0, hA, hb0, hsz0⟩ := boxes1 w (.int .u64 ((lo n : Nat) : Int)) (.string (hs n)) 32
 obtain ⟨a0, a1, af⟩ := id hA
 have HS := Lib.hid (fun w => small_any n w)
 have HF := Lib.hid (fun w ht => fmt_any (lo n) (lo_lt n) w ht)
 have hsm : sm n = true := sm_true.2 h
 rw [hsm] at HS
 have HL := Lib.hid (lo_small h)
 have ht0 : Tab w0 := htab.below hb0
 go_enter Tryz.func163, Tryz.ntmps163
 go_wp2_with fail
 refine (HS.out _).mono ?_
 rintro e w1 ⟨rfl, hb1⟩
 obtain ⟨c0, c1, cf⟩ := hA.below hb1 hsz0
 have ht1 := Lib.hid (ht0.below hb1)
 clear a0 a1 af hA ht0
 go_wp2_with fail
 refine (HF.out _ ht1.out).mono ?_
 rintro e w2 ⟨rfl, hb2⟩
 go_wp2_with fail
 have e : txt n = ⟨(Lib.decDigits (lo n)).toArray⟩ := by unfold txt; rw [HL.out]
 have s0 := hb0.size
 have s1 := hb1.size
 exact bodyPost_ret (v := .string (txt n)) (by simp [results, Tryz.results163, go_sem, e]) rfl ⟨rfl, (hb0.trans (hb1.mono s0)).trans (hb2.mono (by omega))⟩
/-- The length of a slice, out of its value. -/
def sLen : Value → Nat
 | .slice _ n _ => n
 | _ => 0
def chunkV (a j : Nat) : Value := .int .u64 ((a / CB ^ j % CB : Nat) : Int)
def chunksV (a k : Nat) : List Value := (List.range k).map (chunkV a)
theorem chunksV_succ (a k : Nat) : chunksV a (k + 1) = chunksV a k ++ [chunkV a k] := by simp [chunksV, List.range_succ]
theorem chunksV_at (a k j : Nat) (h : j < k) : (chunksV a k)[j]? = some (chunkV a j) := by simp [chunksV, h]
theorem infoU64 : (Tryz.prog.info? 30).map (fun i => (i.zero, i.size, i.bytes)) = some (some (.int .u64 0), 1, 8) := by kernel_rfl
/-- The chunks of the number, in a row of the call's own. -/
def Ch (w : World) (B a : Nat) (ch : Value) (k : Nat) : Prop := w.ownsRow B 30 1 ch k (chunksV a k)
theorem Ch.form {w : World} {B a k : Nat} {ch : Value} (h : Ch w B a ch k) : ∃ ao c, ch = .slice ao k c := by
 rcases h.2 with ⟨rfl, rfl⟩ | ⟨g, c, cur, rfl, _⟩
 ·exact ⟨_, _, rfl⟩
 ·exact ⟨_, _, rfl⟩
theorem Ch.keep {w w' : World} {B a k : Nat} {ch : Value} (h : Ch w B a ch k) {row : Option Nat} (hg : w.grownBy w' row) (hne : ch.ownBlock = none ∨ ch.ownBlock ≠ row) : Ch w' B a ch k := World.ownsRow.kept h hg hne
theorem below_none {w w' : World} (h : Below w.heap.size w w') : w.grownBy w' none := ⟨h.os, h.tape, h.output, h.size, fun k hk _ => h.block k hk⟩
theorem Ch.below {w w' : World} {B a k : Nat} {ch : Value} (h : Ch w B a ch k) (hb : Below w.heap.size w w') : Ch w' B a ch k := by
 refine h.keep (below_none hb) ?_
 rcases Ch.form h with ⟨ao, c, rfl⟩
 cases ao with
 | none => exact .inl rfl
 | some a => exact .inr (by simp [Value.ownBlock])
theorem chunk_bound {a top L : Nat} (hl : (digs a).length ≤ L) (h : 0 < a / CB ^ top) : top ≤ 2 * L := by
 have h1 : CB ^ top ≤ a := by
  rcases Nat.lt_or_ge a (CB ^ top) with h' | h'
  ·rw [Nat.div_eq_of_lt h'] at h; omega
  ·exact h'
 have h2 := digs_length_iff.1 hl
 have h3 : Bs ^ L ≤ CB ^ (2 * L) := by
  rw [Nat.pow_mul]
  exact Nat.pow_le_pow_left (by unfold Bs CB; decide) L
 have h4 : CB ^ top < CB ^ (2 * L) := Nat.lt_of_le_of_lt h1 (Nat.lt_of_lt_of_le h2 h3)
 exact Nat.le_of_lt ((Nat.pow_lt_pow_iff_right CB_gt).1 h4)
theorem divC (g c q : Nat) (Z : List Nat) (hq : (digs q).length ≤ 1000000) (w : World) (hdb : DB w g (digs q ++ Z)) :
  Calls Tryz.prog 172 #[.slice (some ⟨g, 0, none⟩) (digs q).length c, .int .u64 10000000000000000000] w fun e w' =>
   e = .returned (.int .u64 ((q % CB : Nat) : Int)) ∧ ∃ (Z' : List Nat) (Q : List Nat), Q.length = (digs q).length ∧ Dig Q ∧ val Q = q / CB ∧ DB w' g (Q ++ Z) ∧ DB w' g (digs (q / CB) ++ Z') ∧ w.grownBy w' (some g) := by
 refine (divD g c q CB Z CB_pos (by unfold CB Bs; omega) (by omega) w hdb).mono ?_
 rintro e w' ⟨rfl, Q, h1, h2, h3, h4, h5⟩
 obtain ⟨z, hz⟩ := norm Q h2
 refine ⟨rfl, List.replicate z 0 ++ Z, Q, h1, h2, h3, h4, ?_, h5⟩
 rw [← List.append_assoc, ← h3, ← hz]; exact h4
theorem trimQ (g c n q : Nat) (Q Z : List Nat) (hl : Q.length = n) (hd : Dig Q) (hv : val Q = q) (hn : n ≤ 1000000) (hc : n ≤ c) (w : World) (hdb : DB w g (Q ++ Z)) :
  Calls Tryz.prog 177 #[.slice (some ⟨g, 0, none⟩) n c] w fun e w' => e = .returned (.slice (some ⟨g, 0, none⟩) (digs q).length c) ∧ w = w' := by
 subst hl; subst hv
 exact trim_any g 0 c Q hd (by unfold maxLen; omega) hc w hdb.rdl
theorem chunk_zero {a k K : Nat} (hK : 0 < a / CB ^ (K - 1)) (hk : k < K) : 0 < a / CB ^ k :=
 Nat.lt_of_lt_of_le hK (Nat.div_le_div_left (Nat.pow_le_pow_right CB_pos (by omega)) (Nat.pow_pos CB_pos))
/-- The row of the chunks, as it lies. -/
def CR (w : World) (gC a K : Nat) : Prop := ∃ cur : Array Value, w.heap[gC]? = some (.cells cur 30 (0, 0)) ∧ ∀ j, j < K → cur[j]? = some (chunkV a j)
theorem CR.cell {w : World} {gC a K : Nat} (h : CR w gC a K) (j : Nat) (hj : j < K) : w.cell? ⟨gC, j, none⟩ = some (.int .u64 ((a / CB ^ j % CB : Nat) : Int)) := by
 obtain ⟨cur, h1, h2⟩ := h
 rw [cell_of_row w gC j cur _ _ h1, h2 j hj]; rfl
theorem CR.below {w w' : World} {gC a K B : Nat} (h : CR w gC a K) (hb : Below B w w') (hg : gC < B) : CR w' gC a K := by
 obtain ⟨cur, h1, h2⟩ := h
 exact ⟨cur, (hb.block gC hg).trans h1, h2⟩
theorem Ch.row {w : World} {B a k : Nat} {ch : Value} (h : Ch w B a ch k) (hk : 0 < k) : ∃ gC c, ch = .slice (some ⟨gC, 0, none⟩) k c ∧ gC < w.heap.size ∧ CR w gC a k := by
 obtain ⟨h1, h2⟩ := h
 rcases h2 with ⟨_, rfl⟩ | ⟨g, c, cur, rfl, hb, hg, hnc, hcm, hcs, ht⟩
 ·omega
 ·refine ⟨g, c, rfl, (Array.getElem?_eq_some_iff.1 hg).1, cur, hg, fun j hj => ?_⟩
  rw [Nat.mul_one] at ht
  have h3 := congrArg (fun l : List Value => l[j]?) ht
  simp only [chunksV_at a k j hj, List.getElem?_take, if_pos hj] at h3
  simpa using h3
theorem bf_below {B b : Nat} {bs : List Value} {w w' : World} (h : Lib.IsBuilderF 189 5 B b bs w) (hb : Below w.heap.size w w') : Lib.IsBuilderF 189 5 B b bs w' := by
 have key : ∀ p, Lib.BuilderAtF 189 5 B b p bs w → Lib.BuilderAtF 189 5 B b p bs w' := by
  intro p h
  have hlt := h.lt
  obtain ⟨hB, v, hbk, hown, hne⟩ := h
  refine ⟨hB, v, (hb.block b hlt).trans hbk, hown.kept (row := none) (below_none hb) ?_, hne⟩
  cases v.ownBlock with
  | none => exact .inl rfl
  | some x => exact .inr (by simp)
 rcases h with h | h
 ·exact .inl (key _ h)
 ·exact .inr (key _ h)
theorem write_l (B b : Nat) (l m : List UInt8) (w : World) (h : Lib.IsBuilderF 189 5 B b (Lib.byteCells l) w) (hlen : l.length + m.length ≤ 140737488355328) (hBw : B ≤ w.heap.size) :
  Calls Tryz.prog 165 #[.pointer (some ⟨b, 0, none⟩), .string ⟨m.toArray⟩] w fun e w' => e = .returned (.tuple #[.int .i64 m.length, .nilIface]) ∧ Lib.IsBuilderF 189 5 B b (Lib.byteCells (l ++ m)) w' ∧ Below B w w' := by
 refine (write_any B b (Lib.byteCells l) ⟨m.toArray⟩ w h (by rw [Lib.byteCells_length]; exact hlen) hBw).mono ?_
 rintro e w' ⟨rfl, h1, h2, -⟩
 refine ⟨rfl, ?_, h2⟩
 rw [Lib.byteCells_append]; exact h1
theorem dec_len_bound {n L : Nat} (hl : (digs n).length ≤ L) (hL : 0 < L) : (Lib.decDigits n).length ≤ 20 * L := by
 refine (dec_length_lt (by omega)).2 ?_
 refine Nat.lt_of_lt_of_le (digs_length_iff.1 hl) ?_
 rw [Nat.pow_mul]
 exact Nat.pow_le_pow_left (by unfold Bs; decide) L
theorem chunk_last {a top : Nat} (hend : a / CB ^ (top + 1) = 0) : a / CB ^ top % CB = a / CB ^ top := by
 have := chunk_split a top
 rw [hend, Nat.zero_mul, Nat.zero_add] at this
 exact this.symm
theorem text_big (a : Nat) (h : ¬ a < Bs) (hl : (digs a).length ≤ 1000000) (w : World) (htab : Tab w) :
  Calls Tryz.prog 163 #[natV a] w fun e w' => e = .returned (.string (txt a)) ∧ Below w.heap.size w w' := by
 obtain ⟨w0, hw0, hA, hb0, hsz0⟩ := boxes1 w (.int .u64 ((lo a : Nat) : Int)) (.string (hs a)) 32
 obtain ⟨a0, a1, af⟩ := id hA
 have HS := Lib.hid (fun w => small_any a w)
 have hsm : sm a = false := sm_false.2 (by omega)
 rw [hsm] at HS
 have HD := Lib.hid (fun w => digits_any a (by omega) w)
 have ht0 : Tab w0 := htab.below hb0
 clear hsm
 go_enter Tryz.func163, Tryz.ntmps163
 go_wp2_with fail
 refine (HS.out _).mono ?_
 rintro e w1 ⟨rfl, hb1⟩
 obtain ⟨c0, c1, cf⟩ := hA.below hb1 hsz0
 have ht1 := ht0.below hb1
 have hB1 := hb0.trans (hb1.mono hb0.size)
 have hs1 := Nat.lt_of_lt_of_le hsz0 hb1.size
 clear a0 a1 af hA ht0 HS hb0 hb1 hw0 hsz0
 go_wp2_with fail
 refine (HD.out _).mono ?_
 rintro e w2 ⟨g, c, z, rfl, hc, hg, hd, hb2⟩
 have ht2 := ht1.below hb2
 have hB2 := hB1.trans (hb2.mono (by omega))
 have hs2 := Nat.lt_of_lt_of_le hs1 hb2.size
 clear c0 c1 cf ht1 HD hb2 hB1
 obtain ⟨top, htop, hend⟩ := chunk_top a (by unfold Bs at h; omega)
 obtain ⟨i0, hi, hz0, hz1, hz2⟩ := info_parts infoU64
 have htb : top ≤ 2 * 1000000 := chunk_bound hl htop
 have hg0 : w.heap.size ≤ g := by omega
 clear h hg
 go_wp2_with fail
 go_loopw [3, 4] (fun ch d wr => ∃ (k gD cD : Nat) (Z : List Nat), k ≤ top + 1 ∧ d = .slice (some ⟨gD, 0, none⟩) (digs (a / CB ^ k)).length cD ∧ (digs (a / CB ^ k)).length ≤ cD ∧ DB wr gD (digs (a / CB ^ k) ++ Z) ∧ Ch wr w.heap.size a ch k ∧ ch.ownBlock ≠ some gD ∧ Below w.heap.size w wr ∧ w.heap.size ≤ gD) (fun ch _ _ => top + 1 - sLen ch)
 case atStart =>
  refine ⟨0, g, c, List.replicate z 0, Nat.zero_le _, ?_, ?_, ?_, ⟨rfl, .inl ⟨rfl, rfl⟩⟩, by simp [Value.ownBlock], hB2, hg0⟩
  ·rw [Nat.pow_zero, Nat.div_one]
  ·rw [Nat.pow_zero, Nat.div_one]; exact hc
  ·rw [Nat.pow_zero, Nat.div_one]; exact hd
 case round =>
  obtain ⟨k, gD, cD, Z, hk, rfl, hcD, hdD, hch, hne, hBr, hgD⟩ := hrel
  clear hd hg0 ht2 hB2 hs2 hc
  obtain ⟨ao, cc, rfl⟩ := hch.form
  obtain ⟨q, hq⟩ : ∃ q, q = a / CB ^ k := ⟨_, rfl⟩
  have hlq : (digs q).length ≤ 1000000 := by rw [hq]; exact Nat.le_trans (digs_mono (Nat.div_le_self _ _)) hl
  rw [← hq] at hcD hdD
  have hq0 : q = 0 → k = top + 1 := by
   intro h0
   rcases Nat.lt_or_ge k (top + 1) with h' | h'
   ·have := chunk_zero (K := top + 1) (by rw [Nat.add_sub_cancel]; exact htop) h'
    omega
   ·omega
  have hq1 : 0 < q → k ≤ top := by
   intro h0
   rcases Nat.lt_or_ge top k with h' | h'
   ·obtain rfl : k = top + 1 := by omega
    omega
   ·exact h'
  rw [← hq]
  have HQ := Lib.hid hq
  clear hq
  rcases Nat.eq_zero_or_pos q with h0 | h0
  ·obtain rfl := hq0 h0
   subst h0
   obtain ⟨gC, cC, hcc, hgC, hCR⟩ := hch.row (Nat.succ_pos top)
   have hcc1 : ao = some ⟨gC, 0, none⟩ ∧ cc = cC := by simpa using hcc
   obtain ⟨rfl, rfl⟩ := hcc1
   have hd0 : digs 0 = [] := digs_zero
   have hl0 : decide (0 < (digs 0).length) = false := by rw [hd0]; rfl
   clear hq0 hq1 hch hcc hdD hcD HQ hne hi hz0 hz1 hz2
   have hcell := hCR.cell top (by omega)
   rw [chunk_last hend] at hcell
   obtain ⟨m, hm⟩ : ∃ m, m = a / CB ^ top := ⟨_, rfl⟩
   have hmB : m < Bs := by rw [hm, ← chunk_last hend]; exact Nat.lt_trans (Nat.mod_lt _ CB_pos) (by unfold CB Bs; omega)
   have hla := dec_len_bound hl (by omega)
   have hlm : (Lib.decDigits m).length ≤ 20 * 1000000 := dec_len_bound (by rw [hm]; exact Nat.le_trans (digs_mono (Nat.div_le_self _ _)) hl) (by omega)
   rw [← hm] at hcell
   obtain ⟨wb, hwb⟩ : ∃ wb, wr.alloc (.cells #[.pointer none, .slice none 0 0] 189) = wb := ⟨_, rfl⟩
   have hbb : Below wr.heap.size wr wb := by rw [← hwb]; exact (Below.refl _ _).alloc (Nat.le_refl _) _
   have hIB : Lib.IsBuilderF 189 5 wr.heap.size wr.heap.size (Lib.byteCells []) wb := by rw [← hwb]; exact Lib.IsBuilderF.of (Lib.fresh_isBuilder _ _ wr)
   have hsb : wr.heap.size < wb.heap.size := by rw [← hwb]; simp
   have hcb := (hbb.cell (p := ⟨gC, top, none⟩) hgC).trans hcell
   have HM := Lib.hid hm
   have htr := Lib.hid (htab.below hBr)
   have htb' := Lib.hid (htr.out.below hbb)
   have HF := Lib.hid (fun w ht => fmt_any m hmB w ht)
   clear hm hcell hd0
   go_wp2_with fail
   with_reducible refine Calls.mono (HF.out _ htb'.out) ?_
   rintro e w3 ⟨rfl, hb3⟩
   have hB3 := hbb.trans (hb3.mono hbb.size)
   have hI3 := bf_below hIB hb3
   have hs3 := hB3.size
   have HW := Lib.hid (write_l wr.heap.size wr.heap.size [] (Lib.decDigits m) w3 hI3 (by simp; omega) hs3)
   clear HF hI3 hIB hb3 hbb hwb hcb hsb hl0
   go_wp2_with fail
   with_reducible refine Calls.mono HW.out ?_
   rintro e w4 ⟨rfl, hI4, hb4⟩
   have hB4 := hB3.trans hb4
   have hs4 := hB4.size
   rw [List.nil_append, HM.out] at hI4
   clear HW hB3 hb4 hs3 hlm hmB HM htb'
   go_wp2_with fail
   go_loopw [36] (fun z wx => ∃ i : Nat, i ≤ top ∧ z = .int .i64 i ∧ Lib.IsBuilderF 189 5 wr.heap.size wr.heap.size (Lib.byteCells (Lib.decDigits (a / CB ^ (top - i)))) wx ∧ Below wr.heap.size wr wx) (fun z _ => top - (intOf z).toNat)
   case atStart => exact ⟨0, Nat.zero_le _, rfl, hI4, hB4⟩
   case round =>
    obtain ⟨i, hi, rfl, hIx, hBx⟩ := hrel
    clear hI4 hB4 hs4
    have hsx := hBx.size
    rcases Nat.lt_or_eq_of_le hi with hiT | rfl
    ·have hdec := chunk_dec a (top - 1 - i) (by rw [show top - 1 - i + 1 = top - i by omega]; exact chunk_zero (K := top + 1) (by rw [Nat.add_sub_cancel]; exact htop) (by omega))
     rw [show top - 1 - i + 1 = top - i by omega] at hdec
     have hc := (hCR.below hBx hgC).cell (top - 1 - i) (by omega)
     have hlN : (Lib.decDigits (a / CB ^ (top - 1 - i))).length ≤ 20 * 1000000 := dec_len_bound (Nat.le_trans (digs_mono (Nat.div_le_self _ _)) hl) (by omega)
     have huB : a / CB ^ (top - 1 - i) % CB < Bs := Nat.lt_trans (Nat.mod_lt _ CB_pos) (by unfold CB Bs; omega)
     obtain ⟨u, hu⟩ : ∃ u, u = a / CB ^ (top - 1 - i) % CB := ⟨_, rfl⟩
     rw [← hu] at hdec hc huB
     obtain ⟨nx, hnx⟩ : ∃ nx, nx = a / CB ^ (top - 1 - i) := ⟨_, rfl⟩
     obtain ⟨pv, hpv⟩ : ∃ pv, pv = a / CB ^ (top - i) := ⟨_, rfl⟩
     rw [← hnx, ← hpv] at hdec
     rw [← hnx] at hlN
     rw [← hpv] at hIx
     have HN := Lib.hid hnx
     clear hu hnx hpv
     obtain ⟨hdec, hlu⟩ := hdec
     rw [hdec, List.length_append, List.length_append, List.length_replicate] at hlN
     have HDec := Lib.hid hdec
     clear hdec
     have HF := Lib.hid (fun w ht => fmt_any u huB w ht)
     have htx := Lib.hid (htr.out.below (hBx))
     have hlu2 : (19 : Int) - ((Lib.decDigits u).length : Int) = ((19 - (Lib.decDigits u).length : Nat) : Int) := by omega
     have HR := Lib.hid (fun w => rep0_any (19 - (Lib.decDigits u).length) (by omega) w)
     obtain ⟨zl, hzl⟩ : ∃ zl, zl = 19 - (Lib.decDigits u).length := ⟨_, rfl⟩
     rw [← hzl] at HR hlu2 hlN HDec
     obtain ⟨rp, hrp⟩ : ∃ rp, rp = List.replicate zl (48 : UInt8) := ⟨_, rfl⟩
     have hrl : rp.length = zl := by rw [hrp, List.length_replicate]
     rw [← hrp] at HR HDec
     clear hrp
     go_wp2_with fail
     with_reducible refine Calls.mono (HF.out _ htx.out) ?_
     rintro e w5 ⟨rfl, hb5⟩
     have hI5 := bf_below hIx hb5
     have hB5 := hBx.trans (hb5.mono hsx)
     have hs5 := hB5.size
     clear HF hIx hb5 hBx hsx hc htx hzl hlu
     obtain ⟨su, hsu⟩ : ∃ su, su = Lib.decDigits u := ⟨_, rfl⟩
     rw [← hsu] at hlu2 hlN HDec ⊢
     have hsl : (⟨su.toArray⟩ : ByteArray).size = su.length := rfl
     clear hsu
     go_wp2_with fail
     with_reducible refine Calls.mono (HR.out _) ?_
     rintro e w6 ⟨rfl, hb6⟩
     have hI6 := bf_below hI5 hb6
     have hB6 := hB5.trans (hb6.mono hs5)
     have hs6 := hB6.size
     have HW6 := Lib.hid (write_l _ _ (Lib.decDigits pv) rp w6 hI6 (by omega) hs6)
     clear HR hI5 hb6 hB5 hs5 hlu2
     go_wp2_with fail
     with_reducible refine Calls.mono HW6.out ?_
     rintro e w7 ⟨rfl, hI7, hb7⟩
     have hB7 := hB6.trans hb7
     have hs7 := hB7.size
     have HW7 := Lib.hid (write_l _ _ (Lib.decDigits pv ++ rp) su w7 hI7 (by rw [List.length_append]; omega) hs7)
     clear HW6 hI6 hb7 hB6 hs6
     go_wp2_with fail
     with_reducible refine Calls.mono HW7.out ?_
     rintro e w8 ⟨rfl, hI8, hb8⟩
     have hB8 := hB7.trans hb8
     rw [List.append_assoc, ← HDec.out, HN.out, show top - 1 - i = top - (i + 1) by omega] at hI8
     clear HW7 hI7 hb8 hB7 hs7
     go_wp2_with fail
     go_roundw
     case rel => exact ⟨i + 1, by omega, rfl, hI8, hB8⟩
     case measure => simp [intOf]; omega
    ·rw [Nat.sub_self, Nat.pow_zero, Nat.div_one] at hIx
     have HS := Lib.hid (Tryz.Builder_String_any_k _ _ _ _ hIx hsx)
     go_wp2_with fail
     with_reducible refine Calls.mono HS.out ?_
     rintro e w5 ⟨rfl, -, hb5, -⟩
     have hB5 := hBx.trans hb5
     go_wp2_with fail
     exact bodyPost_ret (v := .string (txt a)) (by simp [results, Tryz.results163, go_sem, txt]) rfl ⟨rfl, hBr.trans (hB5.mono hBr.size)⟩
  ·have hkt : k ≤ top := hq1 h0
   have hlp : 0 < (digs q).length := by rw [digs_pos (by omega)]; exact Nat.succ_pos _
   have hlp1 : decide ((0 : Int) < ((digs q).length : Int)) = true := decide_eq_true (by omega)
   have HDv := Lib.hid (fun w h => divC gD cD q Z hlq w h)
   have hlp2 : decide (0 < (digs q).length) = true := decide_eq_true hlp
   clear hlp hq0 hq1
   go_wp2_with fail
   with_reducible refine Calls.mono (HDv.out _ hdD) ?_
   rintro e w3 ⟨rfl, Z', Q, hQ1, hQ2, hQ3, hQ4, hQ5, hg3⟩
   have hch3 := hch.keep hg3 (.inr hne)
   have hB3 : Below w.heap.size w w3 := hBr.grown hg3 hBr.size (fun k hk => by obtain rfl := Option.some.inj hk; exact hgD)
   have hs3 := hB3.size
   have hlt3 := hQ4.lt
   have hr : chunkV a k = .int .u64 ((q % CB : Nat) : Int) := by rw [HQ.out]; rfl
   obtain ⟨r, hrr⟩ : ∃ r, r = q % CB := ⟨_, rfl⟩
   rw [← hrr] at hr ⊢
   clear HDv hdD hch hrr
   have HR := Lib.hid hr
   clear hr
   go_wp2_with (at_builtin; refine wpList_append_lies _ rfl (.tmp 21) (.tmp 24) 172 rfl w.heap.size 30 i0 (.int .u64 0) 1 8 Tryz.underlying172 hi hz0 hz1 hz2 rfl (by decide) (.slice ao k cc) k (chunksV a k) (by rfl) (World.ownsRow.alloc hch3 _) ⟨w3.heap.size, 0, none⟩ 1 1 [.int .u64 (r : Int)] (by rfl) rfl (World.news_of_block (heap_alloc_new w3 _)) (by simp [Value.oneCell']) (by decide) (by unfold maxLen; omega) (by omega) (by simp; omega) (w3.heap.size + 1) (by simp) ?_)
   rintro g4 cap4 w4 hown4 hgrow4 hat4 hlt4
   have hch4 : Ch w4 w.heap.size a (.slice (some ⟨g4, 0, none⟩) (k + 1) cap4) (k + 1) := by
    unfold Ch
    rw [chunksV_succ, HR.out]; exact hown4
   have hB4 : Below w.heap.size w w4 := (hB3.alloc hs3 _).grown hgrow4 (by simp; omega) (fun k' hk' => (World.ownsRow.lt hch3 k' hk').1)
   have hd4 : ∀ l, DB w3 gD l → DB w4 gD l := fun l h => h.keep ((hgrow4.block gD (by simp; omega) (Ne.symm hne)).trans (heap_alloc_old w3 _ hlt3))
   have hne4 : (Value.slice (some ⟨g4, 0, none⟩) (k + 1) cap4).ownBlock ≠ some gD := by
    rcases hat4 with h' | h'
    ·rw [h'] at hne; exact hne
    ·simp only [Value.ownBlock, h']
     intro he
     have := Option.some.inj he
     omega
   have hQ4' := hd4 _ hQ4
   have hQ5' := hd4 _ hQ5
   clear hch3 hB3 hgrow4 hat4 hown4 hd4 hQ4 hQ5 hg3
   have HTr := Lib.hid (trimQ gD cD (digs q).length (q / CB) Q Z hQ1 hQ2 hQ3 hlq hcD w4 hQ4')
   have hq' : q / CB = a / CB ^ (k + 1) := by rw [HQ.out, Nat.pow_succ, Nat.div_div_eq_div_mul]
   have hcD' : (digs (q / CB)).length ≤ cD := Nat.le_trans (digs_mono (Nat.div_le_self _ _)) hcD
   rw [hq'] at HTr hQ5' hcD'
   clear hQ4' hQ1 hQ2 hQ3 hq'
   go_wp2_with fail
   with_reducible refine Calls.mono HTr.out ?_
   rintro e w5 ⟨rfl, rfl⟩
   clear HTr
   go_wp2_with fail
   go_roundw
   case rel => exact ⟨k + 1, gD, cD, Z', by omega, rfl, hcD', hQ5', hch4, hne4, hB4, hgD⟩
   case measure => simp [sLen]; omega
theorem text_any (a : Nat) (hl : (digs a).length ≤ 1000000) (w : World) (htab : Tab w) :
  Calls Tryz.prog 163 #[natV a] w fun e w' => e = .returned (.string (txt a)) ∧ Below w.heap.size w w' := by
 by_cases h : a < Bs
 ·exact text_small a h w htab
 ·exact text_big a h hl w htab
end Go.Proofs.YthffglapmkkohaaGreatDoor
namespace Go.Proofs.YthffglapmkkohaaGreatDoor
open Go.RowKit
attribute [local irreducible] lo hs sm val hiB
/-- A string, out of its bytes. -/
def st (l : List UInt8) : ByteArray := ⟨l.toArray⟩
end Go.Proofs.YthffglapmkkohaaGreatDoor
namespace Go.Proofs.YthffglapmkkohaaGreatDoor
open Go.RowKit
/-- What the loop of timesPlus keeps. -/
structure TimI (l : List Nat) (f s i carry : Nat) (O : List Nat) : Prop where
 len : O.length = i
 dig : Dig O
 lt : carry < Bs
 eq : val O + carry * Bs ^ i = val (l.take i) * f + s
theorem TimI.start (l : List Nat) (f s : Nat) (hs : s < Bs) : TimI l f s 0 s [] := ⟨rfl, Dig.nil, hs, by simp [val]⟩
theorem tim_arith (V T X d f s o over low carry mh B : Nat) (e1 : o + B * over = low + carry) (e2 : low + B * mh = d * f) (e0 : V + carry * X = T * f + s) :
  V + X * o + (mh + over) * (X * B) = (T + X * d) * f + s := by
 have h1 : X * o + X * (B * over) = X * low + X * carry := by rw [← Nat.mul_add, e1, Nat.mul_add]
 have h2 : X * low + X * (B * mh) = X * (d * f) := by rw [← Nat.mul_add, e2]
 have h3 : (mh + over) * (X * B) = X * (B * mh) + X * (B * over) := by
  rw [Nat.add_mul, Nat.mul_comm mh, Nat.mul_comm over, Nat.mul_assoc, Nat.mul_assoc]
 have h4 : (T + X * d) * f = T * f + X * (d * f) := by rw [Nat.add_mul, Nat.mul_assoc]
 have h5 : carry * X = X * carry := Nat.mul_comm _ _
 rw [h3, h4]
 rw [h5] at e0
 generalize X * o = a1 at *
 generalize X * (B * over) = a2 at *
 generalize X * (B * mh) = a3 at *
 generalize X * (d * f) = a4 at *
 generalize X * low = a5 at *
 generalize X * carry = a6 at *
 generalize T * f = a7 at *
 omega
theorem TimI.step {l O : List Nat} {f s i carry : Nat} (h : TimI l f s i carry O) (hd : Dig l) (hf : f < Bs) (hi : i < l.length) :
  TimI l f s (i + 1) (mh l[i] f + c64 (ml l[i] f) carry 0) (O ++ [s64 (ml l[i] f) carry 0]) := by
 have hdi := hd.get i hi
 have h1 := s64_spec (ml l[i] f) carry 0
 have h2 := mul_spec l[i] f
 have h3 := mh_lt hdi hf
 have h4 : c64 (ml l[i] f) carry 0 ≤ 1 := c64_le (ml_lt _ _) h.lt (by omega)
 have hB := Bs_gt
 refine ⟨by rw [List.length_append, h.len]; rfl, (fun x hx => by
  rcases List.mem_append.1 hx with hx | hx
  ·exact h.dig x hx
  ·rw [List.mem_singleton.1 hx]; exact s64_lt _ _ _), by omega, ?_⟩
 rw [List.take_add_one, List.getElem?_eq_getElem hi]
 show val (O ++ [_]) + _ = val (l.take i ++ [l[i]]) * f + s
 rw [val_append, val_append, h.len, List.length_take, Nat.min_eq_left (by omega), Nat.pow_succ]
 have v1 : ∀ x, val [x] = x := fun x => by simp [val]
 rw [v1, v1]
 exact tim_arith _ _ _ _ _ _ _ _ _ _ _ _ (by rw [Nat.add_zero] at h1; exact h1) h2 h.eq
end Go.Proofs.YthffglapmkkohaaGreatDoor
namespace Go.Proofs.YthffglapmkkohaaGreatDoor
open Go.RowKit
attribute [local irreducible] lo hs sm s64 c64 d64 b64 mh ml pd pc qd qc val hiB str cmpI srD lz nb
/-- The number with the given 32-bit words, the least first. -/
def made : List Nat → Nat
 | [] => 0
 | x :: l => x + 4294967296 * made l
/-- A slice of 32-bit words. -/
structure Wd (w : World) (a : Addr) (l : List Nat) : Prop where
 lt : ∀ x ∈ l, x < 4294967296
 cell : ∀ (i : Nat) (h : i < l.length), w.cell? (a.add i) = some (.int .u32 ((l[i] : Nat) : Int))
 blk : a.block < w.heap.size
theorem Wd.below {w w' : World} {a : Addr} {l : List Nat} (h : Wd w a l) (hb : Below w.heap.size w w') : Wd w' a l :=
 ⟨h.lt, fun i hi => (hb.cell (p := a.add i) (by rw [show (a.add i).block = a.block from by unfold Addr.add; split <;> rfl]; exact h.blk)).trans (h.cell i hi), Nat.lt_of_lt_of_le h.blk hb.size⟩
theorem of_val (z : Int) (d : Nat) (hz : z = (d : Int)) (hd : d < Bs) (w : World) :
  Calls Tryz.prog 133 #[.int .u64 z] w fun e w' => e = .returned (natV d) ∧ Below w.heap.size w w' := by rw [hz]; exact of_any d hd w
/-- What Made's rounds keep. -/
structure MS (w w' : World) (a : Addr) (l : List Nat) (m : Nat) : Prop where
 O : Bx w' (w.heap.size + 1) (.int .u64 ((lo m : Nat) : Int)) (.string (hs m))
 R : Bx w' w.heap.size (.int .u64 0) (.string ⟨#[]⟩)
 W : Wd w' a l
 sz : w.heap.size + 2 ≤ w'.heap.size
 bl : Below w.heap.size w w'
theorem MS.below {w w' w'' : World} {a : Addr} {l : List Nat} {m : Nat} (h : MS w w' a l m) (hb : Below w'.heap.size w' w'') : MS w w'' a l m :=
 ⟨h.O.below hb (by have := h.sz; omega), h.R.below hb (by have := h.sz; omega), h.W.below hb, Nat.le_trans h.sz hb.size, h.bl.trans (hb.mono (by have := h.sz; omega))⟩
theorem MS.drew {w w' : World} {a : Addr} {l : List Nat} {m : Nat} (h : MS w w' a l m) : MS w w'.drew a l m := ⟨h.O, h.R, ⟨h.W.lt, h.W.cell, h.W.blk⟩, h.sz, h.bl.drew⟩
theorem MS.put {w w' : World} {a : Addr} {l : List Nat} {m : Nat} (h : MS w w' a l m) (ha : a.block < w.heap.size) (m' : Nat) :
  MS w ((w'.setCell ⟨w.heap.size + 1, 0, none⟩ (.int .u64 ((lo m' : Nat) : Int))).setCell ⟨w.heap.size + 1, 1, none⟩ (.string (hs m'))) a l m' := by
 have hb : Below (w.heap.size + 1) w' ((w'.setCell ⟨w.heap.size + 1, 0, none⟩ (.int .u64 ((lo m' : Nat) : Int))).setCell ⟨w.heap.size + 1, 1, none⟩ (.string (hs m'))) := ((Below.refl _ _).setCell (p := ⟨w.heap.size + 1, 0, none⟩) (Nat.le_refl _) _).setCell (p := ⟨w.heap.size + 1, 1, none⟩) (Nat.le_refl _) _
 refine ⟨put2 h.O _ _, h.R.below hb (by omega), ⟨h.W.lt, fun i hi => ?_, Nat.lt_of_lt_of_le h.W.blk hb.size⟩, Nat.le_trans h.sz hb.size, h.bl.trans (hb.mono (by omega))⟩
 exact (hb.cell (p := a.add i) (by rw [show (a.add i).block = a.block from by unfold Addr.add; split <;> rfl]; omega)).trans (h.W.cell i hi)
theorem MS.cells {w w' : World} {a : Addr} {l : List Nat} {m : Nat} (h : MS w w' a l m) (i x : Nat) (hi : i < l.length) (hx : x = l[i]) :
  w'.cell? ⟨w.heap.size + 1, 0, none⟩ = some (.int .u64 ((lo m : Nat) : Int)) ∧ w'.cell? ⟨w.heap.size + 1, 1, none⟩ = some (.string (hs m)) ∧ w'.cell? (a.add i) = some (.int .u32 (x : Int)) :=
 ⟨h.O.1, h.O.2.1, by rw [hx]; exact h.W.cell i hi⟩
/-- A slice of words, nil or not. -/
def Ws (w : World) (v : Value) (l : List Nat) : Prop := (∃ ao c, v = .slice ao 0 c ∧ l = []) ∨ ∃ a c, v = .slice (some a) l.length c ∧ Wd w a l
theorem Ws.below {w w' : World} {v : Value} {l : List Nat} (h : Ws w v l) (hb : Below w.heap.size w w') : Ws w' v l := by
 rcases h with h | ⟨a, c, h1, h2⟩
 ·exact .inl h
 ·exact .inr ⟨a, c, h1, h2.below hb⟩
theorem Ws.lt {w : World} {v : Value} {l : List Nat} (h : Ws w v l) : ∀ x ∈ l, x < 4294967296 := by
 rcases h with ⟨_, _, _, rfl⟩ | ⟨a, c, _, h2⟩
 ·intro x hx; cases hx
 ·exact h2.lt
end Go.Proofs.YthffglapmkkohaaGreatDoor
namespace Go.Proofs.YthffglapmkkohaaGreatDoor
open Go.RowKit
attribute [local irreducible] lo hs sm s64 c64 d64 b64 mh ml pd pc qd qc val hiB str cmpI srD lz nb
/-- A box that holds a number. -/
structure NX (w : World) (k n : Nat) : Prop where
 b : Bx w k (.int .u64 ((lo n : Nat) : Int)) (.string (hs n))
 lt : k < w.heap.size
theorem NX.below {w w' : World} {k n : Nat} (h : NX w k n) (hb : Below w.heap.size w w') : NX w' k n := ⟨h.b.below hb h.lt, Nat.lt_of_lt_of_le h.lt hb.size⟩
/-- The boxes that a call has made, with what they hold. -/
structure NL (w0 W : World) (L : List (Nat × Nat)) : Prop where
 bl : Below w0.heap.size w0 W
 all : ∀ p ∈ L, w0.heap.size ≤ p.1 ∧ NX W p.1 p.2
 nd : (L.map (·.1)).Nodup
theorem NL.start (w : World) : NL w w [] := ⟨Below.refl _ _, (fun p hp => by cases hp), List.nodup_nil⟩
theorem NL.call {w0 W W' : World} {L : List (Nat × Nat)} (h : NL w0 W L) (hb : Below W.heap.size W W') : NL w0 W' L :=
 ⟨h.bl.trans (hb.mono h.bl.size), fun p hp => ⟨(h.all p hp).1, (h.all p hp).2.below hb⟩, h.nd⟩
theorem NL.drew {w0 W : World} {L : List (Nat × Nat)} (h : NL w0 W L) : NL w0 W.drew L :=
 ⟨h.bl.drew, fun p hp => ⟨(h.all p hp).1, (h.all p hp).2.b, (h.all p hp).2.lt⟩, h.nd⟩
theorem szA (W : World) (o : Obj) : (W.alloc o).heap.size = W.heap.size + 1 := World.size_alloc _ _
theorem NL.new {w0 W : World} {L : List (Nat × Nat)} {K : Nat} (h : NL w0 W L) (hK : W.heap.size = K) (n : Nat) (t : TypeId) : NL w0 (W.alloc (.cells #[.int .u64 ((lo n : Nat) : Int), .string (hs n)] t)) ((K, n) :: L) := by
 subst hK
 obtain ⟨w1, h1, h2, h3, h4⟩ := boxes1 W (.int .u64 ((lo n : Nat) : Int)) (.string (hs n)) t
 rw [h1]
 refine ⟨h.bl.trans (h3.mono h.bl.size), fun p hp => ?_, ?_⟩
 ·rcases List.mem_cons.1 hp with rfl | hp
  ·exact ⟨h.bl.size, h2, h4⟩
  ·exact ⟨(h.all p hp).1, (h.all p hp).2.below h3⟩
 ·rw [List.map_cons, List.nodup_cons]
  refine ⟨fun hm => ?_, h.nd⟩
  obtain ⟨p, hp, he⟩ := List.mem_map.1 hm
  have := (h.all p hp).2.lt
  simp only at he
  omega
theorem NL.tail {w0 W : World} {L : List (Nat × Nat)} {x : Nat × Nat} (h : NL w0 W (x :: L)) : NL w0 W L :=
 ⟨h.bl, fun p hp => h.all p (List.mem_cons_of_mem _ hp), (List.nodup_cons.1 h.nd).2⟩
theorem NL.swap {w0 W : World} {L : List (Nat × Nat)} {x y : Nat × Nat} (h : NL w0 W (x :: y :: L)) : NL w0 W (y :: x :: L) := by
 refine ⟨h.bl, fun p hp => h.all p ?_, ?_⟩
 ·simp only [List.mem_cons] at hp ⊢
  rcases hp with h | h | h
  ·exact .inr (.inl h)
  ·exact .inl h
  ·exact .inr (.inr h)
 ·have := h.nd
  simp only [List.map_cons, List.nodup_cons, List.mem_cons, not_or] at this ⊢
  exact ⟨⟨fun e => this.1.1 e.symm, this.2.1⟩, this.1.2, this.2.2⟩
theorem NL.get {w0 W : World} {L : List (Nat × Nat)} (h : NL w0 W L) (k n : Nat) (hm : (k, n) ∈ L) : W.cell? ⟨k, 0, none⟩ = some (.int .u64 ((lo n : Nat) : Int)) ∧ W.cell? ⟨k, 1, none⟩ = some (.string (hs n)) :=
 ⟨(h.all _ hm).2.b.1, (h.all _ hm).2.b.2.1⟩
theorem NL.frozen {w0 W : World} {L : List (Nat × Nat)} (h : NL w0 W L) (k n : Nat) (hm : (k, n) ∈ L) : ∀ j, W.frozen? ⟨k, j, none⟩ = false := (h.all _ hm).2.b.2.2
theorem NL.cells {w0 W : World} {L : List (Nat × Nat)} {k n : Nat} (hm : (k, n) ∈ L) (h : NL w0 W L) : W.cell? ⟨k, 0, none⟩ = some (.int .u64 ((lo n : Nat) : Int)) ∧ W.cell? ⟨k, 1, none⟩ = some (.string (hs n)) := h.get k n hm
/-- A box's number is none of these. -/
def ne (k : Nat) : List (Nat × Nat) → Prop
 | [] => True
 | p :: L => k ≠ p.1 ∧ p.1 ≠ k ∧ ne k L
theorem ne_of {k : Nat} : ∀ {L : List (Nat × Nat)}, k ∉ L.map (·.1) → ne k L
 | [], _ => trivial
 | p :: L, h => by
  simp only [List.map_cons, List.mem_cons, not_or] at h
  exact ⟨h.1, fun e => h.1 e.symm, ne_of h.2⟩
theorem alloc_cell {W : World} (o : Obj) {k j : Nat} (h : k < W.heap.size) : (W.alloc o).cell? ⟨k, j, none⟩ = W.cell? ⟨k, j, none⟩ := (Below.refl W.heap.size W |>.alloc (Nat.le_refl _) o).cell (p := ⟨k, j, none⟩) h
theorem alloc_frozen {W : World} (o : Obj) {k j : Nat} (h : k < W.heap.size) : (W.alloc o).frozen? ⟨k, j, none⟩ = W.frozen? ⟨k, j, none⟩ := (Below.refl W.heap.size W |>.alloc (Nat.le_refl _) o).frozen (p := ⟨k, j, none⟩) h
/-- What the boxes hold, one fact each. -/
def fc (W : World) : List (Nat × Nat) → Prop
 | [] => True
 | p :: L => W.cell? ⟨p.1, 0, none⟩ = some (.int .u64 ((lo p.2 : Nat) : Int)) ∧ W.cell? ⟨p.1, 1, none⟩ = some (.string (hs p.2)) ∧ (∀ j, W.frozen? ⟨p.1, j, none⟩ = false) ∧ (∀ o, (W.alloc o).cell? ⟨p.1, 0, none⟩ = some (.int .u64 ((lo p.2 : Nat) : Int))) ∧ (∀ o, (W.alloc o).cell? ⟨p.1, 1, none⟩ = some (.string (hs p.2))) ∧ (∀ o j, (W.alloc o).frozen? ⟨p.1, j, none⟩ = false) ∧ (p.1 ≠ W.heap.size ∧ W.heap.size ≠ p.1 ∧ p.1 ≠ W.heap.size + 1 ∧ W.heap.size + 1 ≠ p.1) ∧ ne p.1 L ∧ fc W L
theorem NL.fc {w0 W : World} : ∀ {L : List (Nat × Nat)}, NL w0 W L → fc W L
 | [], _ => trivial
 | p :: L, h => ⟨(h.all p List.mem_cons_self).2.b.1, (h.all p List.mem_cons_self).2.b.2.1, (h.all p List.mem_cons_self).2.b.2.2, (fun o => by rw [alloc_cell o (h.all p List.mem_cons_self).2.lt]; exact (h.all p List.mem_cons_self).2.b.1), (fun o => by rw [alloc_cell o (h.all p List.mem_cons_self).2.lt]; exact (h.all p List.mem_cons_self).2.b.2.1), (fun o j => by rw [alloc_frozen o (h.all p List.mem_cons_self).2.lt]; exact (h.all p List.mem_cons_self).2.b.2.2 j), (by have := (h.all p List.mem_cons_self).2.lt; omega), ne_of (List.nodup_cons.1 h.nd).1, h.tail.fc⟩
/-- The cells of boxes, one behind the other. -/
def cl (W : World) : List (Nat × Nat) → Prop
 | [] => True
 | [p] => W.cell? ⟨p.1, 0, none⟩ = some (.int .u64 ((lo p.2 : Nat) : Int)) ∧ W.cell? ⟨p.1, 1, none⟩ = some (.string (hs p.2))
 | p :: q :: L => W.cell? ⟨p.1, 0, none⟩ = some (.int .u64 ((lo p.2 : Nat) : Int)) ∧ W.cell? ⟨p.1, 1, none⟩ = some (.string (hs p.2)) ∧ cl W (q :: L)
theorem cl_of {W : World} : ∀ {C : List (Nat × Nat)}, (∀ p ∈ C, W.cell? ⟨p.1, 0, none⟩ = some (.int .u64 ((lo p.2 : Nat) : Int)) ∧ W.cell? ⟨p.1, 1, none⟩ = some (.string (hs p.2))) → cl W C
 | [], _ => trivial
 | [p], h => h p List.mem_cons_self
 | p :: q :: L, h => ⟨(h p List.mem_cons_self).1, (h p List.mem_cons_self).2, cl_of fun r hr => h r (List.mem_cons_of_mem _ hr)⟩
/-- Old boxes, read in a newer world. -/
theorem NL.keep {w w0 W : World} {L C : List (Nat × Nat)} {L0 : List (Nat × Nat)} (h0 : NL w w0 L0) (hC : C ⊆ L0) (h : NL w0 W L) : cl W C :=
 cl_of fun p hp => by
  have hx := h0.all p (hC hp)
  exact ⟨(h.bl.cell (p := ⟨p.1, 0, none⟩) hx.2.lt).trans hx.2.b.1, (h.bl.cell (p := ⟨p.1, 1, none⟩) hx.2.lt).trans hx.2.b.2.1⟩
theorem NL.join {w w0 W : World} {L L0 : List (Nat × Nat)} (h0 : NL w w0 L0) (h : NL w0 W L) : NL w W (L ++ L0) := by
 refine ⟨h0.bl.trans (h.bl.mono h0.bl.size), fun p hp => ?_, ?_⟩
 ·rcases List.mem_append.1 hp with hp | hp
  ·exact ⟨Nat.le_trans h0.bl.size (h.all p hp).1, (h.all p hp).2⟩
  ·exact ⟨(h0.all p hp).1, (h0.all p hp).2.below h.bl⟩
 ·rw [List.map_append, List.nodup_append]
  refine ⟨h.nd, h0.nd, fun a ha b hb => ?_⟩
  obtain ⟨p, hp, rfl⟩ := List.mem_map.1 ha
  obtain ⟨r, hr, rfl⟩ := List.mem_map.1 hb
  have h1 := (h.all p hp).1
  have h2 := (h0.all r hr).2.lt
  omega
end Go.Proofs.YthffglapmkkohaaGreatDoor
namespace Go.Proofs.YthffglapmkkohaaGreatDoor
open Go.RowKit
attribute [local irreducible] lo hs sm s64 c64 d64 b64 mh ml pd pc qd qc val hiB str cmpI srD lz nb
/-- The worlds that keep what w0 holds, as the values of a function. -/
theorem cls (w0 : World) : ∃ (α : Type) (_ : Nonempty α) (F : α → World), (∀ x, Below w0.heap.size w0 (F x)) ∧ (∀ W, Below w0.heap.size w0 W → ∃ x, W = F x) :=
 ⟨{W : World // Below w0.heap.size w0 W}, ⟨⟨w0, Below.refl _ _⟩⟩, fun x => x.1, fun x => x.2, fun W h => ⟨⟨W, h⟩, rfl⟩⟩
theorem region_cls {P : Program} {α : Type} {F : α → World} {id : Nat} {Q : Exit → Act → World → Prop} {a : Act} {w : World} {l : List Oper} (hm : P.follows .mixedOrders = true) (hB : Region.lexB .any l.toArray = true)
  (hC : ∃ x, w.drew = F x) (h : wpQuiet P l.toArray (fun w' => ∃ x, w' = F x) (fun a' => ∀ w', (∃ x, w' = F x) → Q .normal a' w') l a) : (Code.region id l.toArray true).wp P Q a w :=
 wp_region_quiet (C := fun w' => ∃ x, w' = F x) hm hB hC (by simpa using h)
theorem cls_call {α : Type} {F : α → World} {w0 : World} (h1 : ∀ x, Below w0.heap.size w0 (F x)) (h2 : ∀ W, Below w0.heap.size w0 W → ∃ x, W = F x) {P : Program} {f : FuncId} {args : Array Value} {v : Value}
  (h : ∀ w, Calls P f args w fun e w' => e = .returned v ∧ Below w.heap.size w w') (x : α) : Calls P f args (F x) fun e w'' => e = .returned v ∧ ∃ y, w'' = F y :=
 (h (F x)).mono fun _ _ ⟨he, hb⟩ => ⟨he, h2 _ ((h1 x).trans (hb.mono (h1 x).size))⟩
theorem cls_callT {α : Type} {F : α → World} {w0 : World} (h1 : ∀ x, Below w0.heap.size w0 (F x)) (h2 : ∀ W, Below w0.heap.size w0 W → ∃ x, W = F x) (ht : Tab w0) {f : FuncId} {args : Array Value} {v : Value}
  (h : ∀ w, Tab w → Calls Tryz.prog f args w fun e w' => e = .returned v ∧ Below w.heap.size w w') (x : α) : Calls Tryz.prog f args (F x) fun e w'' => e = .returned v ∧ ∃ y, w'' = F y :=
 (h (F x) (ht.below (h1 x))).mono fun _ _ ⟨he, hb⟩ => ⟨he, h2 _ ((h1 x).trans (hb.mono (h1 x).size))⟩
theorem cls_drew {α : Type} {F : α → World} {w0 : World} (h2 : ∀ W, Below w0.heap.size w0 W → ∃ x, W = F x) : ∃ x, w0.drew = F x := h2 _ (Below.refl _ _).drew
end Go.Proofs.YthffglapmkkohaaGreatDoor
namespace Go.Proofs.YthffglapmkkohaaGreatDoor
open Go Go.RowKit
theorem runN_next {P : Program} {n m : Nat} {a b c : Machine} (h1 : runN P n a = .next b) (h2 : runN P (n + m) a = .next c) : runN P m b = .next c := by
 rw [runN_add, h1] at h2
 exact h2
/-- A frame of no function: once its callee has returned, nothing goes on. -/
def deadF (P : Program) : Frame := { fn := P.funcs.size, tmps := #[], todo := [.code (.refuse "")], defers := [], mode := .run, kind := .normal }
theorem dead_finish (P : Program) (v : Value) : (deadF P).finish v = deadF P := rfl
theorem dead_stops {P : Program} {w : World} : ∀ m, step P (lone (deadF P) [] w) ≠ .next m := by
 have h : ∃ o w', step P (lone (deadF P) [] w) = .ended o w' := by
  generalize hs : stepG P true { frame := deadF P, callers := [], status := .running, dying := none } w = s
  have hb : ∃ o w', s.bare = .ended o w' := by
   rw [← hs]
   exact ⟨_, _, by simp [stepG, stepG.exec, deadF]; exact ⟨rfl, rfl⟩⟩
  obtain ⟨o, w', hb⟩ := hb
  exact ⟨o, w', step_lone_ended (by rw [hs]; exact hb)⟩
 obtain ⟨o, w', h⟩ := h
 intro m hm
 rw [h] at hm
 cases hm
theorem Calls.uniq {P : Program} {f : FuncId} {args : Array Value} {w : World} {v1 v2 : Value} {A B : World → Prop}
  (h1 : Calls P f args w fun e w' => e = .returned v1 ∧ A w') (h2 : Calls P f args w fun e w' => e = .returned v2 ∧ B w') : v1 = v2 := by
 obtain ⟨e1, w1, fr1, ⟨rfl, -⟩, c1, f1, l1⟩ := h1 [deadF P]
 obtain ⟨e2, w2, fr2, ⟨rfl, -⟩, c2, f2, l2⟩ := h2 [deadF P]
 obtain ⟨n1, s1⟩ := (show Steps P _ _ from c1)
 obtain ⟨n2, s2⟩ := (show Steps P _ _ from c2)
 have key : ∀ {n m : Nat} {fr fr' : Frame} {w w' : World} {v v' : Value} {M : Machine}, runN P n M = .next (lone fr [deadF P] w) → runN P (n + m) M = .next (lone fr' [deadF P] w') →
   fr.leaving P w (.returned v) → fr'.leaving P w' (.returned v') → fr = fr' ∧ w = w' := by
  intro n m fr fr' w w' v v' M a b la lb
  have hc := runN_next a b
  have hst := step_leave_returned (cs := []) (c := deadF P) la
  rw [dead_finish] at hst
  cases m with
  | zero =>
   simp only [runN] at hc
   have := Stepped.next.inj hc
   simp [lone] at this
   exact ⟨this.2, this.1⟩
  | succ m =>
   simp only [runN, hst] at hc
   cases m with
   | zero =>
    simp only [runN] at hc
    have := Stepped.next.inj hc
    simp [lone] at this
   | succ m =>
    simp only [runN] at hc
    cases hd : step P (lone (deadF P) [] w) with
    | next m' => exact absurd hd (dead_stops m')
    | ended o w'' => rw [hd] at hc; cases hc
 have hh : fr1 = fr2 ∧ w1 = w2 := by
  rcases Nat.le_total n1 n2 with h | h
  ·obtain ⟨m, rfl⟩ := Nat.exists_eq_add_of_le h
   exact key s1 s2 l1 l2
  ·obtain ⟨m, rfl⟩ := Nat.exists_eq_add_of_le h
   have := key s2 s1 l2 l1
   exact ⟨this.1.symm, this.2.symm⟩
 obtain ⟨rfl, rfl⟩ := hh
 obtain ⟨-, -, -, fn1, hf1, hr1⟩ := l1
 obtain ⟨-, -, -, fn2, hf2, hr2⟩ := l2
 rw [hf1] at hf2
 obtain rfl := Option.some.inj hf2
 rw [hr1] at hr2
 exact (Result.ok.inj hr2).1
/-- What a box holds. -/
structure Hd (w : World) (k : Nat) (c : List Value) : Prop where
 cell : ∀ i (h : i < c.length), w.cell? ⟨k, i, none⟩ = some c[i]
 frz : ∀ j, w.frozen? ⟨k, j, none⟩ = false
 lt : k < w.heap.size
 row : ∃ arr t, w.heap[k]? = some (.cells arr t (0, 0)) ∧ arr.size = c.length
theorem Hd.below {w w' : World} {k : Nat} {c : List Value} (h : Hd w k c) (hb : Below w.heap.size w w') : Hd w' k c :=
 ⟨fun i hi => (hb.cell (p := ⟨k, i, none⟩) h.lt).trans (h.cell i hi), fun j => (hb.frozen (p := ⟨k, j, none⟩) h.lt).trans (h.frz j), Nat.lt_of_lt_of_le h.lt hb.size, by rw [hb.block k h.lt]; exact h.row⟩
theorem row_set {w : World} {k n : Nat} (h : ∃ arr t, w.heap[k]? = some (.cells arr t (0, 0)) ∧ arr.size = n) (i : Nat) (v : Value) : ∃ arr t, (w.setCell ⟨k, i, none⟩ v).heap[k]? = some (.cells arr t (0, 0)) ∧ arr.size = n := by
 obtain ⟨arr, t, h1, h2⟩ := h
 exact ⟨_, t, heap_setCell_same w k i arr t v h1, by simpa using h2⟩
/-- Only the block k has turned. -/
structure Upd (k : Nat) (w w' : World) : Prop where
 os : w'.os = w.os
 tape : w'.tape = w.tape
 output : w'.output = w.output
 size : w'.heap.size = w.heap.size
 block : ∀ j, j ≠ k → w'.heap[j]? = w.heap[j]?
theorem Upd.refl (k : Nat) (w : World) : Upd k w w := ⟨rfl, rfl, rfl, rfl, fun _ _ => rfl⟩
theorem Upd.setCell {k : Nat} {a w : World} (h : Upd k a w) (i : Nat) (v : Value) : Upd k a (w.setCell ⟨k, i, none⟩ v) :=
 ⟨h.os, h.tape, h.output, by rw [← h.size]; simp [World.setCell], fun j hj => (Below.heap_setCell _ _ _ _ hj).trans (h.block j hj)⟩
theorem Upd.below {k B : Nat} {w w' : World} (h : Upd k w w') (hB : B ≤ k) : Below B w w' :=
 ⟨h.os, h.tape, h.output, Nat.le_of_eq h.size.symm, fun j hj => h.block j (by omega)⟩
theorem Upd.hd {k j : Nat} {c : List Value} {w w' : World} (h : Upd k w w') (hj : j ≠ k) (hd : Hd w j c) : Hd w' j c :=
 ⟨fun i hi => (World.cell?_of_block (w := w) (h.block j hj)).trans (hd.cell i hi), fun i => (World.frozen?_of_block (w := w) (h.block j hj)).trans (hd.frz i), by rw [h.size]; exact hd.lt, by rw [h.block j hj]; exact hd.row⟩
inductive Eff where
 | quiet (v : Value)
 | new (c : List Value)
 | put (d : Nat) (c : List Value)
def Eff.val : Eff → Value
 | .quiet v => v
 | _ => undef
/-- The new boxes: by the slot that holds the box's address, what it holds, and whether it has been stored into. -/
abbrev Gh := Nat → Option (List Value × Bool)
def upd (g : Gh) (d : Nat) (x : List Value × Bool) : Gh := fun t => if t = d then some x else g t
theorem upd_same (g : Gh) (d : Nat) (x : List Value × Bool) : upd g d x d = some x := by simp [upd]
theorem upd_ne (g : Gh) {d t : Nat} (x : List Value × Bool) (h : t ≠ d) : upd g d x t = g t := by simp [upd, h]
theorem upd_comm (g : Gh) {d t : Nat} (x y : List Value × Bool) (h : d ≠ t) : upd (upd g d x) t y = upd (upd g t y) d x := by
 funext s
 by_cases h1 : s = t
 ·subst h1; rw [upd_same, upd_ne _ _ (fun e => h e.symm), upd_same]
 ·by_cases h2 : s = d
  ·subst h2; rw [upd_ne _ _ h1, upd_same, upd_same]
  ·rw [upd_ne _ _ h1, upd_ne _ _ h2, upd_ne _ _ h2, upd_ne _ _ h1]
theorem upd_none {g : Gh} {d t : Nat} {x : List Value × Bool} (h : upd g d x t = none) : t ≠ d ∧ g t = none := by
 by_cases h1 : t = d
 ·subst h1; rw [upd_same] at h; cases h
 ·exact ⟨h1, by rwa [upd_ne _ _ h1] at h⟩
def Eff.gh (o : Oper) (g : Gh) : Eff → Gh
 | .quiet _ => g
 | .new c => match o.dst with | some d => upd g d (c, false) | none => g
 | .put d c => upd g d (c, true)
/-- The slot that an operation's guard looks at. -/
def guardT (ops : Array Oper) (o : Oper) : List Nat := match o.guard with | some (g, _) => ((ops[g]?).bind (·.dst)).toList | none => []
theorem guardT_looks {ops : Array Oper} {o : Oper} {t : Nat} (h : t ∈ guardT ops o) : t ∈ o.looksAt ops := List.mem_append_right _ h
def operT : Operand → List Nat | .tmp t => [t] | _ => []
theorem oper_looks {ops : Array Oper} {o : Oper} {x : Operand} (hx : x ∈ o.op.operands) {t : Nat} (h : t ∈ operT x) : t ∈ o.looksAt ops := by
 cases x <;> simp only [operT, List.mem_singleton, List.not_mem_nil] at h
 subst h
 exact List.mem_append_left _ (List.mem_filterMap.2 ⟨_, by simpa using hx, rfl⟩)
section
variable {P : Program} {ops : Array Oper} {md : Region.Mode} {w0 : World}
/-- What an operation does, in every world that keeps what was there. -/
def Valid (P : Program) (ops : Array Oper) (w0 : World) (o : Oper) (a : Act) (g : Gh) : Eff → Prop
 | .quiet v => (∀ t ∈ o.looksAt ops, g t = none) ∧ (∀ d, o.dst = some d → g d = none) ∧
   ((Region.wanted o (yielded ops a.tmps) = true ∧ ∀ w, Below w0.heap.size w0 w → o.quietAt P a (fun w'' => Below w.heap.size w w'') w v) ∨ (Region.wanted o (yielded ops a.tmps) = false ∧ v = undef))
 | .new c => (∀ t ∈ guardT ops o, g t = none) ∧ Region.wanted o (yielded ops a.tmps) = true ∧ ∃ d e t, o.op = .alloc e ∧ o.dst = some d ∧ d < a.tmps.size ∧ g d = none ∧
   ∀ w, (Instr.alloc e true (.tuple #[])).run P w = .ok (.pointer (some ⟨w.heap.size, 0, none⟩)) (w.alloc (.cells c.toArray t))
 | .put d c => (∀ t ∈ guardT ops o, g t = none) ∧ (∀ d, o.dst = some d → g d = none) ∧ Region.wanted o (yielded ops a.tmps) = true ∧ ∃ t x c0, o.op = .store t (.tmp d) x ∧ (∀ t ∈ operT x, g t = none) ∧ g d = some (c0, false) ∧
   ∀ w k, Hd w k c0 → ∃ w', (Instr.storeAt t (.pointer (some ⟨k, 0, none⟩)) (a.eval x)).run P w = .ok () w' ∧ Hd w' k c ∧ Upd k w w'
theorem size_put (a : Act) (dst : Option Tmp) (v : Value) : (a.put dst v).tmps.size = a.tmps.size := by cases dst <;> simp [Act.put]
theorem quietAt_put {C : World → Prop} {o : Oper} (hs : ∀ cs b, o.op ≠ .select cs b) {a : Act} {dst : Option Tmp} {v u : Value} {w : World} (h : ∀ d, dst = some d → d ∉ o.looksAt ops) :
  o.quietAt P (a.put dst v) C w u ↔ o.quietAt P a C w u := by unfold Oper.quietAt; rw [execOp_put o hs a dst v h]
theorem eval_put' {o : Oper} {x : Operand} (hx : x ∈ o.op.operands) {a : Act} {dst : Option Tmp} {v : Value} (h : ∀ d, dst = some d → d ∉ o.looksAt ops) : (a.put dst v).eval x = a.eval x :=
 Act.eval_put fun d hd e => h d hd (oper_looks hx (by subst e; simp [operT]))
theorem Valid.back {oi oj : Oper} {a : Act} {g : Gh} {yi yj : Eff} (hap : oi.apart ops oj = true) (hsi : ∀ cs b, oi.op ≠ .select cs b) (hsj : ∀ cs b, oj.op ≠ .select cs b)
  (hi : Valid P ops w0 oi a g yi) (hj : Valid P ops w0 oj (a.put oi.dst yi.val) (yi.gh oi g) yj) :
  Valid P ops w0 oj a g yj ∧ Valid P ops w0 oi (a.put oj.dst yj.val) (yj.gh oj g) yi ∧ yi.gh oi (yj.gh oj g) = yj.gh oj (yi.gh oi g) := by
 obtain ⟨h1, h2, h3⟩ := Oper.apart_spec hap
 have gi : ∀ {t}, yi.gh oi g t = none → g t = none := fun {t} h => by
  cases yi with
  | quiet v => exact h
  | new c => cases hd : oi.dst <;> simp only [Eff.gh, hd] at h; exact h; exact (upd_none h).2
  | put d c => exact (upd_none h).2
 have hwj := wanted_put (ops := ops) oj a oi.dst yi.val h1
 have hwi := fun (u : Value) => wanted_put (ops := ops) oi a oj.dst u h3
 -- backward: oj at (a, g)
 have A : Valid P ops w0 oj a g yj := by
  cases yj with
  | quiet v =>
   obtain ⟨q1, q2, q3⟩ := hj
   rw [hwj] at q3
   refine ⟨fun t ht => gi (q1 t ht), fun d hd => gi (q2 d hd), ?_⟩
   rcases q3 with ⟨q3, q4⟩ | q3
   ·exact .inl ⟨q3, fun w hw => (quietAt_put hsj h1).1 (q4 w hw)⟩
   ·exact .inr q3
  | new c =>
   obtain ⟨q1, q2, d, e, t, q3, q4, q5, q6, q7⟩ := hj
   rw [hwj] at q2
   rw [size_put] at q5
   exact ⟨fun t ht => gi (q1 t ht), q2, d, e, t, q3, q4, q5, gi q6, q7⟩
  | put d c =>
   obtain ⟨q1, q0, q2, t, x, c0, q3, q4, q5, q6⟩ := hj
   rw [hwj] at q2
   have hx : x ∈ oj.op.operands := by rw [q3]; simp [Op.operands]
   have hd : d ∈ oj.looksAt ops := oper_looks (x := .tmp d) (by rw [q3]; simp [Op.operands]) (by simp [operT])
   rw [eval_put' hx h1] at q6
   refine ⟨fun t ht => gi (q1 t ht), fun d hd => gi (q0 d hd), q2, t, x, c0, q3, fun t ht => gi (q4 t ht), ?_, q6⟩
   cases yi with
   | quiet v => exact q5
   | new c' =>
    obtain ⟨-, -, d', e', t', -, r4, -⟩ := hi
    simp only [Eff.gh, r4] at q5
    have hne : d ≠ d' := fun e => h1 d' r4 (by rw [← e]; exact hd)
    rwa [upd_ne _ _ hne] at q5
   | put d' c' =>
    simp only [Eff.gh] at q5
    by_cases e : d = d'
    ·subst e; rw [upd_same] at q5; simp at q5
    ·rwa [upd_ne _ _ e] at q5
 -- forward
 have gj : ∀ {t}, g t = none → (∀ d, oj.dst = some d → d ≠ t) → yj.gh oj g t = none := fun {t} h hn => by
  cases yj with
  | quiet v => exact h
  | new c =>
   obtain ⟨-, -, d, e, t', -, r4, -⟩ := A
   simp only [Eff.gh, r4]
   rw [upd_ne _ _ (fun e => hn d r4 e.symm)]; exact h
  | put d c =>
   obtain ⟨-, -, -, t', x, c0, -, -, r5, -⟩ := A
   simp only [Eff.gh]
   rw [upd_ne _ _ (fun e => by subst e; rw [h] at r5; cases r5)]; exact h
 have nl : ∀ {t}, t ∈ oi.looksAt ops → ∀ d, oj.dst = some d → d ≠ t := fun {t} ht d hd e => h3 d hd (e ▸ ht)
 have nd : ∀ {t}, oi.dst = some t → ∀ d, oj.dst = some d → d ≠ t := fun {t} ht d hd e => h2 t ht (e ▸ hd)
 have B : Valid P ops w0 oi (a.put oj.dst yj.val) (yj.gh oj g) yi := by
  cases yi with
  | quiet v =>
   obtain ⟨q1, q2, q3⟩ := hi
   refine ⟨fun t ht => gj (q1 t ht) (nl ht), fun d hd => gj (q2 d hd) (nd hd), ?_⟩
   rw [hwi]
   rcases q3 with ⟨q3, q4⟩ | q3
   ·exact .inl ⟨q3, fun w hw => (quietAt_put hsi h3).2 (q4 w hw)⟩
   ·exact .inr q3
  | new c =>
   obtain ⟨q1, q2, d, e, t, q3, q4, q5, q6, q7⟩ := hi
   exact ⟨fun t ht => gj (q1 t ht) (nl (guardT_looks ht)), by rw [hwi]; exact q2, d, e, t, q3, q4, by rw [size_put]; exact q5, gj q6 (nd q4), q7⟩
  | put d c =>
   obtain ⟨q1, q0, q2, t, x, c0, q3, q4, q5, q6⟩ := hi
   have hx : x ∈ oi.op.operands := by rw [q3]; simp [Op.operands]
   refine ⟨fun t ht => gj (q1 t ht) (nl (guardT_looks ht)), fun d hd => gj (q0 d hd) (nd hd), by rw [hwi]; exact q2, t, x, c0, q3, fun t ht => gj (q4 t ht) (nl (oper_looks hx ht)), ?_, by rw [eval_put' hx h3]; exact q6⟩
   cases yj with
   | quiet v => exact q5
   | new c' =>
    obtain ⟨-, -, d', e', t', -, r4, -, r6, -⟩ := A
    simp only [Eff.gh, r4]
    rw [upd_ne _ _ (fun e => by subst e; rw [r6] at q5; cases q5)]; exact q5
   | put d' c' =>
    obtain ⟨-, -, -, t', x', c0', -, -, r5, -⟩ := hj
    simp only [Eff.gh] at r5 ⊢
    have hne : d ≠ d' := fun e => by subst e; rw [upd_same] at r5; simp at r5
    rw [upd_ne _ _ hne]; exact q5
 refine ⟨A, B, ?_⟩
 cases yi with
 | quiet v => rfl
 | new c =>
  obtain ⟨-, -, d, e, t, q3, q4, q5, q6, q7⟩ := hi
  cases yj with
  | quiet v => rfl
  | new c' =>
   obtain ⟨-, -, d', e', t', -, r4, -, r6, -⟩ := hj
   simp only [Eff.gh, q4, r4] at r6 ⊢
   exact upd_comm _ _ _ (fun e => (upd_none r6).1 e.symm |>.elim) |> fun h => by first | exact h | exact h.symm
  | put d' c' =>
   obtain ⟨-, -, -, t', x', c0', r3, -⟩ := hj
   have hd : d' ∈ oj.looksAt ops := oper_looks (x := .tmp d') (by rw [r3]; simp [Op.operands]) (by simp [operT])
   simp only [Eff.gh, q4]
   exact upd_comm _ _ _ (fun e => h1 d q4 (by rw [← e]; exact hd))
 | put d c =>
  obtain ⟨-, -, -, t, x, c0, -, -, q5, -⟩ := hi
  cases yj with
  | quiet v => rfl
  | new c' =>
   obtain ⟨-, -, d', e', t', -, r4, -, r6, -⟩ := hj
   simp only [Eff.gh, r4] at r6 ⊢
   exact upd_comm _ _ _ (fun e => (upd_none r6).1 e.symm |>.elim) |> fun h => by first | exact h | exact h.symm
  | put d' c' =>
   obtain ⟨-, -, -, t', x', c0', -, -, r5, -⟩ := hj
   simp only [Eff.gh] at r5 ⊢
   have hne : d' ≠ d := fun e => by subst e; rw [upd_same] at r5; simp at r5
   exact upd_comm _ _ _ hne
def gOp (P : Program) (ops : Array Oper) (w0 : World) (i : Nat) (K : Act → Gh → Prop) (a : Act) (g : Gh) : Prop :=
 match ops[i]? with
 | none => K a g
 | some o => ∃ y, Valid P ops w0 o a g y ∧ K (a.put o.dst y.val) (y.gh o g)
theorem gOp_mono {i : Nat} {a : Act} {g : Gh} {K K' : Act → Gh → Prop} (h : ∀ a g, K a g → K' a g) (hh : gOp P ops w0 i K a g) : gOp P ops w0 i K' a g := by
 unfold gOp at *
 split
 ·exact h _ _ (by simpa [*] using hh)
 ·rename_i o ho
  simp only [ho] at hh
  obtain ⟨y, h1, h2⟩ := hh
  exact ⟨y, h1, h _ _ h2⟩
theorem gOp_of {i : Nat} {o : Oper} {y : Eff} {a : Act} {g : Gh} (hi : ops[i]? = some o) (hy : Valid P ops w0 o a g y) {K : Act → Gh → Prop} (h : K (a.put o.dst y.val) (y.gh o g)) : gOp P ops w0 i K a g := by
 unfold gOp; simp only [hi]; exact ⟨y, hy, h⟩
def wpAnyG (P : Program) (md : Region.Mode) (ops : Array Oper) (w0 : World) (Q : Act → Gh → Prop) : Nat → Array Bool → Act → Gh → Prop
 | 0, listed, a, g => Region.ready md ops listed = [] ∧ Q a g
 | fuel + 1, listed, a, g => (Region.ready md ops listed = [] → Q a g) ∧ ∀ i ∈ Region.ready md ops listed, gOp P ops w0 i (wpAnyG P md ops w0 Q fuel (listed.setIfInBounds i true)) a g
theorem gOp_put {j : Nat} {oi oj : Oper} {y : Eff} (hj : ops[j]? = some oj) (hap : oi.apart ops oj = true) (hsi : ∀ cs b, oi.op ≠ .select cs b) (hsj : ∀ cs b, oj.op ≠ .select cs b) {K : Act → Gh → Prop} {a : Act} {g : Gh}
  (hy : Valid P ops w0 oi a g y) (h : gOp P ops w0 j K (a.put oi.dst y.val) (y.gh oi g)) :
  gOp P ops w0 j (fun a' g' => Valid P ops w0 oi a' g' y ∧ K (a'.put oi.dst y.val) (y.gh oi g')) a g := by
 obtain ⟨h1, h2, h3⟩ := Oper.apart_spec hap
 unfold gOp at *
 simp only [hj] at *
 obtain ⟨z, hz, hK⟩ := h
 obtain ⟨A, B, C⟩ := Valid.back hap hsi hsj hy hz
 refine ⟨z, A, B, ?_⟩
 rw [C, ← Act.put_comm a y.val z.val h2]
 exact hK
theorem wpAnyG_first {Q : Act → Gh → Prop} {i : Nat} {oi : Oper} {y : Eff} (hi : ops[i]? = some oi) (hsel : ∀ (j : Nat) (o : Oper) cs b, ops[j]? = some o → o.op ≠ .select cs b) :
  ∀ (fuel : Nat) (listed : Array Bool) (a : Act) (g : Gh),
   (∀ j oj, ops[j]? = some oj → j ≠ i → listed.getD j true = false → (∀ e ∈ oj.after, Region.binds md e = true → e.on ≠ i) → oi.apart ops oj = true) →
   i ∈ Region.ready md ops listed → Valid P ops w0 oi a g y →
   wpAnyG P md ops w0 Q fuel (listed.setIfInBounds i true) (a.put oi.dst y.val) (y.gh oi g) → wpAnyG P md ops w0 Q (fuel + 1) listed a g := by
 intro fuel
 induction fuel with
 | zero =>
  intro listed a g _ hr hy H
  refine ⟨fun h => (by rw [h] at hr; cases hr), fun j hj => ?_⟩
  by_cases hji : j = i
  ·subst hji; exact gOp_of hi hy H
  ·have := ready_mono hj hji
   rw [H.1] at this
   cases this
 | succ fuel ih =>
  intro listed a g hfree hr hy H
  refine ⟨fun h => (by rw [h] at hr; cases hr), fun j hj => ?_⟩
  by_cases hji : j = i
  ·subst hji; exact gOp_of hi hy H
  ·have h1 := H.2 j (ready_mono hj hji)
   obtain ⟨hjun, oj, hoj, hall⟩ := mem_ready.1 hj
   have hnot : ∀ e ∈ oj.after, Region.binds md e = true → e.on ≠ i := fun e he hb heq => by
    have h1 := hall e he hb
    have h0 := (mem_ready.1 hr).1
    rw [heq] at h1
    rcases Nat.lt_or_ge i listed.size with h' | h'
    ·simp [h'] at h0 h1; rw [h0] at h1; cases h1
    ·simp [Array.getElem?_eq_none h'] at h1
   have h2 := gOp_put hoj (hfree j oj hoj hji hjun hnot) (fun cs b => hsel i oi cs b hi) (fun cs b => hsel j oj cs b hoj) hy h1
   have hfree' : ∀ k ok, ops[k]? = some ok → k ≠ i → (listed.setIfInBounds j true).getD k true = false →
     (∀ e ∈ ok.after, Region.binds md e = true → e.on ≠ i) → oi.apart ops ok = true := fun k ok hk hki hun hno => by
    refine hfree k ok hk hki ?_ hno
    by_cases hjk : j = k
    ·subst hjk; exact hjun
    ·rw [getD_set_ne true hjk] at hun; exact hun
   refine gOp_mono (fun a' g' h3 => ih (listed.setIfInBounds j true) a' g' hfree' (ready_mono hr (Ne.symm hji)) h3.1 ?_) h2
   rw [Array.setIfInBounds_comm _ _ hji]
   exact h3.2
/-- The walk in the order of the text. -/
def wpLexG (P : Program) (ops : Array Oper) (w0 : World) (Q : Act → Gh → Prop) : List Oper → Act → Gh → Prop
 | [], a, g => Q a g
 | o :: rest, a, g => ∃ y, Valid P ops w0 o a g y ∧ wpLexG P ops w0 Q rest (a.put o.dst y.val) (y.gh o g)
theorem wpAnyG_lex {Q : Act → Gh → Prop} (hs : Region.noSelect ops = true) : ∀ (l : List Oper) (k : Nat) (listed : Array Bool) (a : Act) (g : Gh), (∀ j, l[j]? = ops[k + j]?) →
  Region.lexFrom md ops l.length k listed = true → wpLexG P ops w0 Q l a g → wpAnyG P md ops w0 Q l.length listed a g
 | [], _, _, _, _, _, hB, h => ⟨by simpa [Region.lexFrom] using hB, h⟩
 | o :: l, k, listed, a, g, hl, hB, h => by
  have h0 : ops[k]? = some o := by simpa using (hl 0).symm
  simp only [List.length_cons, Region.lexFrom, Bool.and_eq_true] at hB
  obtain ⟨⟨hr, hf⟩, hB'⟩ := hB
  obtain ⟨y, hy, hK⟩ := h
  exact wpAnyG_first h0 (Region.noSelect_spec hs) l.length listed a g (Region.free_spec h0 hf) (by simpa using hr) hy
   (wpAnyG_lex hs l (k + 1) _ _ _ (fun j => by have := hl (j + 1); simpa [Nat.add_assoc, Nat.add_comm 1 j] using this) hB' hK)
/-- The frame with the boxes' addresses in their slots. -/
def over (κ : Nat → Nat) (g : Gh) (a : Act) : Act := { a with tmps := a.tmps.mapIdx fun t v => if (g t).isSome then .pointer (some ⟨κ t, 0, none⟩) else v }
theorem over_get (κ : Nat → Nat) (g : Gh) (a : Act) (t : Nat) (h : g t = none) : (over κ g a).tmps[t]? = a.tmps[t]? := by
 simp [over, h]
theorem over_eval {κ : Nat → Nat} {g : Gh} {a : Act} {x : Operand} (h : ∀ t ∈ operT x, g t = none) : (over κ g a).eval x = a.eval x := by
 cases x with
 | tmp t =>
  have := over_get κ g a t (h t (by simp [operT]))
  simp only [Act.eval, Array.getD_eq_getD_getElem?, this]
 | _ => rfl
theorem over_at {κ : Nat → Nat} {g : Gh} {a : Act} {d : Nat} {x : List Value × Bool} (h : g d = some x) (hd : d < a.tmps.size) : (over κ g a).eval (.tmp d) = .pointer (some ⟨κ d, 0, none⟩) := by
 simp [Act.eval, over, Array.getD_eq_getD_getElem?, h, hd]
theorem over_put {κ : Nat → Nat} {g : Gh} {a : Act} {dst : Option Tmp} {v : Value} (h : ∀ d, dst = some d → g d = none) : (over κ g a).put dst v = over κ g (a.put dst v) := by
 cases dst with
 | none => rfl
 | some d =>
  have hd := h d rfl
  simp only [over, Act.put]
  congr 1
  apply Array.ext_getElem?
  intro i
  by_cases hi : d = i
  ·subst hi
   by_cases hs : d < a.tmps.size
   ·simp [hs, hd]
   ·simp [hs]
  ·simp [Array.getElem?_setIfInBounds_ne hi]
theorem over_congr {κ κ' : Nat → Nat} {g g' : Gh} (a : Act) (h : ∀ t, (g t).isSome = (g' t).isSome ∧ ((g t).isSome = true → κ t = κ' t)) : over κ g a = over κ' g' a := by
 simp only [over]
 congr 1
 apply Array.ext_getElem?
 intro i
 simp only [Array.getElem?_mapIdx]
 cases a.tmps[i]? with
 | none => rfl
 | some v =>
  simp only [Option.map_some]
  obtain ⟨h1, h2⟩ := h i
  cases hg : (g i).isSome
  ·rw [hg] at h1; simp [← h1]
  ·rw [hg] at h1; simp [← h1, h2 hg]
theorem over_new {κ : Nat → Nat} {g : Gh} {a : Act} {d : Nat} (x : List Value × Bool) (h : g d = none) (k : Nat) (hd : d < a.tmps.size) :
  (over κ g a).put (some d) (.pointer (some ⟨k, 0, none⟩)) = over (fun t => if t = d then k else κ t) (upd g d x) (a.put (some d) undef) := by
 simp only [over, Act.put]
 congr 1
 apply Array.ext_getElem?
 intro i
 by_cases hi : d = i
 ·subst hi
  simp [hd, upd_same]
 ·have hi' : ¬ i = d := fun e => hi e.symm
  simp [Array.getElem?_setIfInBounds_ne hi, upd_ne g x hi', hi']
theorem wanted_over {κ : Nat → Nat} {g : Gh} {a : Act} {o : Oper} (h : ∀ t ∈ guardT ops o, g t = none) : Region.wanted o (yielded ops (over κ g a).tmps) = Region.wanted o (yielded ops a.tmps) := by
 unfold Region.wanted
 cases hg : o.guard with
 | none => rfl
 | some gw =>
  obtain ⟨gg, want⟩ := gw
  have hy : yielded ops (over κ g a).tmps gg = yielded ops a.tmps gg := by
   unfold yielded
   cases ht : (ops[gg]?).bind (·.dst) with
   | none => rfl
   | some t =>
    have := over_get κ g a t (h t (by simp [guardT, hg, ht]))
    simp [this]
  simp only [hy]
theorem exec_over {κ : Nat → Nat} {g : Gh} {a : Act} {o : Oper} (hs : ∀ cs b, o.op ≠ .select cs b) (h : ∀ t ∈ o.looksAt ops, g t = none) : execOp (over κ g a).eval o = execOp a.eval o :=
 execOp_congr o hs fun x hx => over_eval fun t ht => h t (oper_looks hx ht)
/-- What is known of a world, and where the boxes are. -/
structure Sim (w0 : World) (g : Gh) (κ : Nat → Nat) (w : World) : Prop where
 base : Below w0.heap.size w0 w
 hd : ∀ d c b, g d = some (c, b) → w0.heap.size ≤ κ d ∧ Hd w (κ d) c
 inj : ∀ d d', (g d).isSome → (g d').isSome → d ≠ d' → κ d ≠ κ d'
theorem Sim.below {g : Gh} {κ : Nat → Nat} {w w' : World} (h : Sim w0 g κ w) (hb : Below w.heap.size w w') : Sim w0 g κ w' :=
 ⟨h.base.trans (hb.mono h.base.size), fun d c b hd => ⟨(h.hd d c b hd).1, (h.hd d c b hd).2.below hb⟩, h.inj⟩
theorem Sim.new {g : Gh} {κ : Nat → Nat} {w : World} (h : Sim w0 g κ w) {d : Nat} (hd : g d = none) (c : List Value) (t : TypeId) :
  Sim w0 (upd g d (c, false)) (fun s => if s = d then w.heap.size else κ s) (w.alloc (.cells c.toArray t)) := by
 have hb : Below w.heap.size w (w.alloc (.cells c.toArray t)) := (Below.refl _ _).alloc (Nat.le_refl _) _
 have hsz : (w.alloc (.cells c.toArray t)).heap.size = w.heap.size + 1 := World.size_alloc _ _
 refine ⟨h.base.trans (hb.mono h.base.size), fun s c' b hs => ?_, fun s s' h1 h2 hne => ?_⟩
 ·by_cases e : s = d
  ·subst e
   rw [upd_same] at hs
   simp only [Option.some.injEq, Prod.mk.injEq] at hs
   obtain ⟨rfl, rfl⟩ := hs
   simp only [if_true]
   have hrow := heap_alloc_new w (.cells c.toArray t)
   exact ⟨h.base.size, fun i hi => by rw [cell_of_row _ _ i _ _ _ hrow]; simp [hi], fun j => frozen_of_row _ _ j _ _ hrow, by rw [hsz]; omega, _, _, hrow, by simp⟩
  ·rw [upd_ne _ _ e] at hs
   simp only [e, if_false]
   exact ⟨(h.hd s c' b hs).1, (h.hd s c' b hs).2.below hb⟩
 ·have lt : ∀ {s}, s ≠ d → (upd g d (c, false) s).isSome → κ s < w.heap.size := fun {s} e hs => by
   rw [upd_ne _ _ e] at hs
   obtain ⟨⟨c', b⟩, hx⟩ := Option.isSome_iff_exists.1 hs
   exact (h.hd s c' b hx).2.lt
  by_cases e : s = d
  ·have e' : s' ≠ d := fun e' => hne (e.trans e'.symm)
   have := lt e' h2
   simp only [e, e', if_true, if_false]; omega
  ·by_cases e' : s' = d
   ·have := lt e h1
    simp only [e, e', if_true, if_false]; omega
   ·simp only [e, e', if_false]
    rw [upd_ne _ _ e] at h1; rw [upd_ne _ _ e'] at h2
    exact h.inj s s' h1 h2 hne
theorem Sim.put {g : Gh} {κ : Nat → Nat} {w w' : World} (h : Sim w0 g κ w) {d : Nat} {c0 c : List Value} {b : Bool} (hd : g d = some (c0, b)) (hh : Hd w' (κ d) c) (hu : Upd (κ d) w w') : Sim w0 (upd g d (c, true)) κ w' := by
 have hk := (h.hd d c0 b hd).1
 refine ⟨h.base.trans (hu.below hk), fun s c' b' hs => ?_, fun s s' h1 h2 hne => ?_⟩
 ·by_cases e : s = d
  ·subst e
   rw [upd_same] at hs
   simp only [Option.some.injEq, Prod.mk.injEq] at hs
   obtain ⟨rfl, rfl⟩ := hs
   exact ⟨hk, hh⟩
  ·rw [upd_ne _ _ e] at hs
   exact ⟨(h.hd s c' b' hs).1, hu.hd (h.inj s d (by rw [hs]; rfl) (by rw [hd]; rfl) e) (h.hd s c' b' hs).2⟩
 ·have up : ∀ {s}, (upd g d (c, true) s).isSome → (g s).isSome := fun {s} hs => by
   by_cases e : s = d
   ·subst e; rw [hd]; rfl
   ·rwa [upd_ne _ _ e] at hs
  exact h.inj s s' (up h1) (up h2) hne
theorem wp_of_valid {o : Oper} (hs : ∀ cs b, o.op ≠ .select cs b) {a : Act} {g : Gh} {κ : Nat → Nat} {y : Eff} {w : World} {K : Act → Gh → Prop} {K' : Act → World → Prop} {Q' : Exit → Act → World → Prop}
  (hy : Valid P ops w0 o a g y) (hw : Sim w0 g κ w) (hsz : ∀ d, (g d).isSome → d < a.tmps.size) (hk : K (a.put o.dst y.val) (y.gh o g))
  (h : ∀ a' g' κ' w', Sim w0 g' κ' w' → (∀ d, (g' d).isSome → d < a'.tmps.size) → K a' g' → K' (over κ' g' a') w') :
  (if Region.wanted o (yielded ops (over κ g a).tmps) then o.wp P (over κ g a) w K' Q' ∨ (o.asks P (over κ g a) w ∧ LetsOut Q') else K' ((over κ g a).put o.dst undef) w) := by
 cases y with
 | quiet v =>
  obtain ⟨q1, q2, q3⟩ := hy
  rw [wanted_over fun t ht => q1 t (guardT_looks ht)]
  have fin : ∀ w', Sim w0 g κ w' → K' ((over κ g a).put o.dst v) w' := fun w' hw' => by
   rw [over_put q2]; exact h _ _ _ _ hw' (by rw [size_put]; exact hsz) hk
  rcases q3 with ⟨q3, q4⟩ | ⟨q3, rfl⟩
  ·simp only [q3, if_true]
   refine .inl ?_
   have q5 := q4 w hw.base
   unfold Oper.quietAt at q5
   unfold Oper.wp
   rw [exec_over hs q1]
   generalize (execOp a.eval o).run P w = r at *
   cases r with
   | ok n w' =>
    cases n <;> simp only [Oper.quietUpon] at q5 <;> simp only [Oper.upon]
    case value u =>
     obtain ⟨rfl, rfl⟩ := q5
     exact fin _ hw
    case skip =>
     obtain ⟨rfl, e2⟩ := q5
     rw [← e2]
     exact fin _ hw
    case enter f args =>
     obtain ⟨rfl, hc⟩ := q5
     exact hc.mono fun e w'' ⟨he, hw''⟩ => by subst he; exact fin _ (hw.below hw'')
   | halt x w' => simp only [Oper.quietUpon] at q5
  ·simp only [q3, Bool.false_eq_true, if_false]
   exact fin _ hw
 | new c =>
  obtain ⟨q1, q2, d, e, t, q3, q4, q5, q6, q7⟩ := hy
  rw [wanted_over q1]
  simp only [q2, if_true]
  refine .inl ?_
  unfold Oper.wp
  have hr : (execOp (over κ g a).eval o).run P w = .ok (.value (.pointer (some ⟨w.heap.size, 0, none⟩))) (w.alloc (.cells c.toArray t)) := by
   simp only [execOp, q3]
   rw [Sem.run_bind, q7 w]
   rfl
  rw [hr]
  simp only [Oper.upon, q4]
  rw [over_new (c, false) q6 _ q5]
  simp only [Eff.val, Eff.gh, q4] at hk
  refine h _ _ _ _ (hw.new q6 c t) (fun s hs => ?_) hk
  rw [size_put]
  by_cases e : s = d
  ·subst e; exact q5
  ·rw [upd_ne _ _ e] at hs; exact hsz s hs
 | put d c =>
  obtain ⟨q1, q0, q2, t, x, c0, q3, q4, q5, q6⟩ := hy
  rw [wanted_over q1]
  simp only [q2, if_true]
  refine .inl ?_
  unfold Oper.wp
  have hd := hw.hd d c0 false q5
  obtain ⟨w', r1, r2, r3⟩ := q6 w (κ d) hd.2
  have hr : (execOp (over κ g a).eval o).run P w = .ok .skip w' := by
   simp only [execOp, q3]
   rw [over_at q5 (hsz d (by rw [q5]; rfl)), over_eval q4, Sem.run_bind, r1]
   rfl
  rw [hr]
  simp only [Oper.upon]
  rw [over_put q0]
  simp only [Eff.val, Eff.gh] at hk
  have hc : over κ g (a.put o.dst undef) = over κ (upd g d (c, true)) (a.put o.dst undef) := over_congr _ fun s => by
   by_cases e : s = d
   ·subst e; rw [upd_same, q5]; simp
   ·rw [upd_ne _ _ e]; simp
  rw [hc]
  refine h _ _ _ _ (hw.put q5 r2 r3) (fun s hs => ?_) hk
  rw [size_put]
  by_cases e : s = d
  ·subst e; exact hsz s (by rw [q5]; rfl)
  ·rw [upd_ne _ _ e] at hs; exact hsz s hs
theorem wpAny_of_gh (hsel : ∀ (j : Nat) (o : Oper) cs b, ops[j]? = some o → o.op ≠ .select cs b) {Q : Act → Gh → Prop} {Q' : Exit → Act → World → Prop} (hQ : ∀ a g κ w, Sim w0 g κ w → Q a g → Q' .normal (over κ g a) w) :
    ∀ (fuel : Nat) (listed : Array Bool) (a : Act) (g : Gh) (κ : Nat → Nat) (w : World), Sim w0 g κ w → (∀ d, (g d).isSome → d < a.tmps.size) → wpAnyG P md ops w0 Q fuel listed a g → wpAny P md ops Q' fuel listed (over κ g a) w
  | 0, _, _, _, _, _, hw, _, h => ⟨h.1, hQ _ _ _ _ hw h.2⟩
  | fuel + 1, listed, a, g, κ, w, hw, hz, h => ⟨fun h0 => hQ _ _ _ _ hw (h.1 h0), fun i hi => by
      have hg := h.2 i hi
      unfold gOp at hg
      unfold wpOp
      cases ho : ops[i]? with
      | none => simp only [ho] at hg; exact wpAny_of_gh hsel hQ fuel _ _ _ _ _ hw hz hg
      | some o =>
        simp only [ho] at hg
        obtain ⟨y, hy, hk⟩ := hg
        exact wp_of_valid (hsel i o · · ho) hy hw hz hk (fun a' g' κ' w' hw' hz' hk' => wpAny_of_gh hsel hQ fuel _ _ _ _ _ hw' hz' hk')⟩
theorem over_none (κ : Nat → Nat) (a : Act) : over κ (fun _ => none) a = a := by
 unfold over
 cases a with
 | mk t d =>
  simp only [Act.mk.injEq, and_true]
  apply Array.ext_getElem?
  intro i
  simp
/-- **One walk in the order of the text serves every order.** -/
theorem region_gh {id : Nat} {Q : Exit → Act → World → Prop} {a : Act} {w : World} {l : List Oper} (hm : P.follows .mixedOrders = true) (hB : Region.lexB .any l.toArray = true)
  (h : wpLexG P l.toArray w.drew (fun a' g' => ∀ κ w', Sim w.drew g' κ w' → Q .normal (over κ g' a') w') l a (fun _ => none)) : (Code.region id l.toArray true).wp P Q a w := by
 simp only [Region.lexB, Bool.and_eq_true] at hB
 have hsel := Region.noSelect_spec hB.1
 refine wp_region_any hm ?_
 have h1 := wpAnyG_lex (md := .any) (P := P) (w0 := w.drew) hB.1 l 0 (Array.replicate l.length false) a (fun _ => none) (by simp) (by simpa using hB.2) h
 have h2 := wpAny_of_gh (Q' := Q) hsel (fun a' g' κ w' hw' hq => hq κ w' hw') _ _ _ _ (fun _ => 0) w.drew ⟨Below.refl _ _, (fun _ _ _ h => by cases h), (fun _ _ h => by cases h)⟩ (fun _ h => by cases h) h1
 rw [over_none] at h2
 simpa using h2
/-- The new boxes, as a list. -/
def toG : List (Nat × List Value × Bool) → Gh
 | [] => fun _ => none
 | (d, x) :: l => upd (toG l) d x
theorem toG_none {l : List (Nat × List Value × Bool)} {t : Nat} (h : ∀ p ∈ l, p.1 ≠ t) : toG l t = none := by
 induction l with
 | nil => rfl
 | cons p l ih =>
  obtain ⟨d, x⟩ := p
  rw [toG, upd_ne _ _ (fun e => h _ List.mem_cons_self e.symm)]
  exact ih fun q hq => h q (List.mem_cons_of_mem _ hq)
/-- Slots apart from the boxes' own. -/
def clearT (l : List (Nat × List Value × Bool)) (ts : List Nat) : Bool := ts.all fun t => (l.map (·.1)).all fun d => !(d == t)
theorem clearT_spec {l : List (Nat × List Value × Bool)} {ts : List Nat} (h : clearT l ts = true) : ∀ t ∈ ts, toG l t = none := fun t ht => by
 unfold clearT at h
 rw [List.all_eq_true] at h
 have := h t ht
 rw [List.all_eq_true] at this
 exact toG_none fun p hp e => by
  have := this p.1 (List.mem_map.2 ⟨p, hp, rfl⟩)
  simp [e] at this
def seesT (ops : Array Oper) (o : Oper) : List Nat := o.looksAt ops ++ o.dst.toList
variable {Q : Act → Gh → Prop}
theorem lexG_nil {a : Act} {g : Gh} (h : Q a g) : wpLexG P ops w0 Q [] a g := h
theorem quiet_uniq {o : Oper} {a : Act} {z : World} {u v : Value} {C D : World → Prop} (h1 : o.quietAt P a C z u) (h2 : o.quietAt P a D z v) : u = v := by
 unfold Oper.quietAt at h1 h2
 generalize (execOp a.eval o).run P z = r at *
 cases r with
 | ok n w' =>
  cases n <;> simp only [Oper.quietUpon] at h1 h2
  case value x => rw [← h1.2, ← h2.2]
  case skip => rw [h1.2, h2.2]
  case enter f args => exact Calls.uniq h1.2 h2.2
 | halt x w' => simp only [Oper.quietUpon] at h1
theorem lex_quiet {g : Gh} {l2 : List Oper} : ∀ {l1 : List Oper} {a : Act}, (∀ o ∈ l1, ∀ t ∈ seesT ops o, g t = none) →
  (∀ z, Below w0.heap.size w0 z → wpQuiet P ops (fun w'' => Below z.heap.size z w'') (fun a' => wpLexG P ops w0 Q l2 a' g) l1 a) → wpLexG P ops w0 Q (l1 ++ l2) a g
 | [], a, _, h => h w0 (Below.refl _ _)
 | o :: l1, a, hb, h => by
  have hb0 := hb o List.mem_cons_self
  have v1 : ∀ t ∈ o.looksAt ops, g t = none := fun t ht => hb0 t (List.mem_append_left _ ht)
  have v2 : ∀ d, o.dst = some d → g d = none := fun d hd => hb0 d (List.mem_append_right _ (by rw [hd]; simp))
  have rest := fun {a'} => lex_quiet (l2 := l2) (l1 := l1) (a := a') fun o' ho' => hb o' (List.mem_cons_of_mem _ ho')
  rw [List.cons_append]
  by_cases hw : Region.wanted o (yielded ops a.tmps) = true
  ·simp only [wpQuiet, hw, if_true, Oper.quiet] at h
   obtain ⟨v, hv, -⟩ := h w0 (Below.refl _ _)
   have hall : ∀ z, Below w0.heap.size w0 z → (∀ w, Below z.heap.size z w → o.quietAt P a (fun w'' => Below z.heap.size z w'') w v) ∧ wpQuiet P ops (fun w'' => Below z.heap.size z w'') (fun a' => wpLexG P ops w0 Q l2 a' g) l1 (a.put o.dst v) := fun z hz => by
    obtain ⟨u, hu, hn⟩ := h z hz
    obtain rfl : u = v := quiet_uniq (hu z (Below.refl _ _)) (hv z hz)
    exact ⟨hu, hn⟩
   exact ⟨.quiet v, ⟨v1, v2, .inl ⟨hw, fun w hww => (hall w hww).1 w (Below.refl _ _)⟩⟩, rest fun z hz => (hall z hz).2⟩
  ·simp only [wpQuiet, hw] at h
   exact ⟨.quiet undef, ⟨v1, v2, .inr ⟨by simpa using hw, rfl⟩⟩, rest h⟩
/-- A stretch of the text that only reads and calls. -/
theorem lex_seg (n : Nat) {gl : List (Nat × List Value × Bool)} {l : List Oper} {a : Act} (hb : (l.take n).all (fun o => clearT gl (seesT ops o)) = true)
  (h : ∀ (α : Type) (_ : Nonempty α) (F : α → World), (∀ x, Below w0.heap.size w0 (F x)) → (∀ x W, Below (F x).heap.size (F x) W → ∃ y, W = F y) →
   wpQuiet P ops (fun w'' => ∃ x, w'' = F x) (fun a' => wpLexG P ops w0 Q (l.drop n) a' (toG gl)) (l.take n) a) : wpLexG P ops w0 Q l a (toG gl) := by
 have key : wpLexG P ops w0 Q (l.take n ++ l.drop n) a (toG gl) := by
  refine lex_quiet (fun o ho => ?_) fun z hz => ?_
  ·rw [List.all_eq_true] at hb
   exact clearT_spec (hb o ho)
  ·have := h {W : World // Below z.heap.size z W} ⟨⟨z, Below.refl _ _⟩⟩ (fun x => x.1) (fun x => hz.trans (x.2.mono hz.size)) (fun x W hW => ⟨⟨W, x.2.trans (hW.mono x.2.size)⟩, rfl⟩)
   have e : (fun w'' => ∃ x : {W : World // Below z.heap.size z W}, w'' = x.1) = fun w'' => Below z.heap.size z w'' := by
    funext w''
    exact propext ⟨fun ⟨x, hx⟩ => hx ▸ x.2, fun hx => ⟨⟨w'', hx⟩, rfl⟩⟩
   rwa [e] at this
 rwa [List.take_append_drop] at key
theorem seg_call {α : Type} {F : α → World} (h2 : ∀ x W, Below (F x).heap.size (F x) W → ∃ y, W = F y) {f : FuncId} {args : Array Value} {v : Value}
  (h : ∀ w, Calls P f args w fun e w' => e = .returned v ∧ Below w.heap.size w w') (x : α) : Calls P f args (F x) fun e w'' => e = .returned v ∧ ∃ y, w'' = F y :=
 (h (F x)).mono fun _ _ ⟨he, hb⟩ => ⟨he, h2 x _ hb⟩
/-- A new box. -/
theorem lex_new {gl : List (Nat × List Value × Bool)} {o : Oper} {rest : List Oper} {a : Act} (c : List Value) (d : Nat) (e t : TypeId) (ho : o.op = .alloc e) (hd : o.dst = some d) (hz : d < a.tmps.size)
  (hc : clearT gl (d :: guardT ops o) = true) (hw : Region.wanted o (yielded ops a.tmps) = true)
  (hr : ∀ w, (Instr.alloc e true (.tuple #[])).run P w = .ok (.pointer (some ⟨w.heap.size, 0, none⟩)) (w.alloc (.cells c.toArray t)))
  (h : wpLexG P ops w0 Q rest (a.put (some d) undef) (toG ((d, c, false) :: gl))) : wpLexG P ops w0 Q (o :: rest) a (toG gl) := by
 have hcs := clearT_spec hc
 refine ⟨.new c, ⟨fun t ht => hcs t (List.mem_cons_of_mem _ ht), hw, d, e, t, ho, hd, hz, hcs d List.mem_cons_self, hr⟩, ?_⟩
 simpa only [Eff.val, Eff.gh, hd, toG] using h
/-- A store into a new box. -/
theorem lex_put {gl : List (Nat × List Value × Bool)} {o : Oper} {rest : List Oper} {a : Act} (c c0 : List Value) (d : Nat) (t : TypeId) (x : Operand) (ho : o.op = .store t (.tmp d) x)
  (hc : clearT gl (operT x ++ guardT ops o ++ o.dst.toList) = true) (hg : toG gl d = some (c0, false)) (hw : Region.wanted o (yielded ops a.tmps) = true)
  (hr : ∀ w k, Hd w k c0 → ∃ w', (Instr.storeAt t (.pointer (some ⟨k, 0, none⟩)) (a.eval x)).run P w = .ok () w' ∧ Hd w' k c ∧ Upd k w w')
  (h : wpLexG P ops w0 Q rest (a.put o.dst undef) (toG ((d, c, true) :: gl))) : wpLexG P ops w0 Q (o :: rest) a (toG gl) := by
 have hcs := clearT_spec hc
 refine ⟨.put d c, ⟨fun t ht => hcs t (by simp [ht]), fun d' hd' => hcs d' (by simp [hd']), hw, t, x, c0, ho, fun t ht => hcs t (by simp [ht]), hg, hr⟩, ?_⟩
 simpa only [Eff.val, Eff.gh, toG] using h
theorem over_toG (κ : Nat → Nat) (d : Nat) (x : List Value × Bool) (l : List (Nat × List Value × Bool)) (a : Act) :
  over κ (toG ((d, x) :: l)) a = (over κ (toG l) a).put (some d) (.pointer (some ⟨κ d, 0, none⟩)) := by
 simp only [over, Act.put, toG]
 congr 1
 apply Array.ext_getElem?
 intro i
 by_cases hi : d = i
 ·subst hi
  by_cases hs : d < a.tmps.size
  ·simp [hs, upd_same]
  ·simp [hs]
 ·have hi' : ¬ i = d := fun e => hi e.symm
  simp [Array.getElem?_setIfInBounds_ne hi, upd_ne (toG l) x hi']
theorem over_nil (κ : Nat → Nat) (a : Act) : over κ (toG []) a = a := over_none κ a
end
end Go.Proofs.YthffglapmkkohaaGreatDoor
namespace Go.Proofs.YthffglapmkkohaaGreatDoor
open Go.RowKit
attribute [local irreducible] lo hs sm s64 c64 d64 b64 mh ml pd pc qd qc val hiB str cmpI srD lz nb
/-- The cells of a number. -/
abbrev nc (n : Nat) : List Value := [.int .u64 ((lo n : Nat) : Int), .string (hs n)]
theorem Hd.nx {w : World} {k n : Nat} (h : Hd w k (nc n)) : NX w k n :=
 ⟨⟨h.cell 0 (by simp), h.cell 1 (by simp), fun j => h.frz j⟩, h.lt⟩
theorem below_drew {x W : World} (hb : Below x.drew.heap.size x.drew W) : Below x.heap.size x W := ((Below.refl x.heap.size x).drew).trans hb
theorem NL.plus {w W : World} {L : List (Nat × Nat)} {k n : Nat} (h : NL w W L) (hw : w.heap.size ≤ k) (hk : ∀ p ∈ L, p.1 ≠ k) (hx : NX W k n) : NL w W ((k, n) :: L) := by
 refine ⟨h.bl, fun p hp => ?_, ?_⟩
 ·rcases List.mem_cons.1 hp with rfl | hp
  ·exact ⟨hw, hx⟩
  ·exact h.all p hp
 ·rw [List.map_cons, List.nodup_cons]
  exact ⟨fun hm => by obtain ⟨p, hp, he⟩ := List.mem_map.1 hm; exact hk p hp he, h.nd⟩
/-- The boxes that a region has made. -/
theorem NL.ghs {w x W : World} {L : List (Nat × Nat)} {g : Gh} {κ : Nat → Nat} (h : NL w x L) (hS : Sim x.drew g κ W) : ∀ (ds : List (Nat × Nat)), (ds.map (·.1)).Nodup → (∀ p ∈ ds, ∃ b, g p.1 = some (nc p.2, b)) →
  NL w W (ds.map (fun p => (κ p.1, p.2)) ++ L)
 | [], _, _ => h.call (below_drew hS.base)
 | p :: ds, hn, hg => by
  rw [List.map_cons, List.nodup_cons] at hn
  have ih := NL.ghs h hS ds hn.2 fun q hq => hg q (List.mem_cons_of_mem _ hq)
  obtain ⟨b, hb⟩ := hg p List.mem_cons_self
  obtain ⟨h1, h2⟩ := hS.hd _ _ _ hb
  refine ih.plus (Nat.le_trans h.bl.size h1) (fun q hq => ?_) h2.nx
  rcases List.mem_append.1 hq with hq | hq
  ·obtain ⟨r, hr, rfl⟩ := List.mem_map.1 hq
   obtain ⟨b', hb'⟩ := hg r (List.mem_cons_of_mem _ hr)
   exact hS.inj _ _ (by rw [hb']; rfl) (by rw [hb]; rfl) fun e => hn.1 (List.mem_map.2 ⟨r, hr, e⟩)
  ·have := (h.all q hq).2.lt
   have h1' : x.heap.size ≤ κ p.1 := h1
   omega
end Go.Proofs.YthffglapmkkohaaGreatDoor
namespace Go.Proofs.YthffglapmkkohaaGreatDoor
open Go.RowKit
section
variable {P : Program} {ops : Array Oper} {md : Region.Mode} {C : World → Prop}
def doneN (n : Nat) (listed : Array Bool) : Bool := (List.range n).all fun i => listed.getD i false
theorem doneN_iff {n : Nat} {listed : Array Bool} : doneN n listed = true ↔ ∀ i, i < n → listed.getD i false = true := by
 simp only [doneN, List.all_eq_true, List.mem_range]
theorem unl {listed : Array Bool} {i : Nat} (h : listed.getD i true = false) : listed.getD i false = false := by
 rcases Nat.lt_or_ge i listed.size with h' | h'
 ·simpa [h'] using h
 ·simp [Array.getElem?_eq_none h'] at h
/-- What has come up has what it waits for behind it. -/
def closedL (md : Region.Mode) (ops : Array Oper) (listed : Array Bool) : Prop := ∀ j o, ops[j]? = some o → listed.getD j false = true → ∀ e ∈ o.after, Region.binds md e = true → listed.getD e.on false = true
theorem closedL.set {listed : Array Bool} {j : Nat} (h : closedL md ops listed) (hj : j ∈ Region.ready md ops listed) : closedL md ops (listed.setIfInBounds j true) := by
 intro k o hk hl e he hb
 by_cases hkj : j = k
 ·subst hkj
  obtain ⟨-, o', ho', hall⟩ := mem_ready.1 hj
  rw [hk] at ho'
  obtain rfl := Option.some.inj ho'
  exact getD_set_true (hall e he hb)
 ·rw [getD_set_ne false hkj] at hl
  exact getD_set_true (h k o hk hl e he hb)
/-- What an operation waits for. -/
def predsOf (md : Region.Mode) (ops : Array Oper) (i : Nat) : List Nat := match ops[i]? with
 | none => []
 | some o => (o.after.toList.filter fun e => Region.binds md e).map fun e => e.on
def ancOf (md : Region.Mode) (ops : Array Oper) (j : Nat) : List Nat := (List.range ops.size).reverse.foldl (fun S i => if S.contains i then S ++ predsOf md ops i else S) (predsOf md ops j)
theorem preds_listed {listed : Array Bool} (h : closedL md ops listed) {i : Nat} (hi : listed.getD i false = true) : ∀ x ∈ predsOf md ops i, listed.getD x false = true := by
 intro x hx
 unfold predsOf at hx
 cases ho : ops[i]? with
 | none => simp [ho] at hx
 | some o =>
  simp only [ho, List.mem_map, List.mem_filter] at hx
  obtain ⟨e, ⟨he, hb⟩, rfl⟩ := hx
  exact h i o ho hi e (by simpa using he) hb
theorem fold_listed {listed : Array Bool} (h : closedL md ops listed) : ∀ (r S : List Nat), (∀ x ∈ S, listed.getD x false = true) →
  ∀ x ∈ r.foldl (fun S i => if S.contains i then S ++ predsOf md ops i else S) S, listed.getD x false = true
 | [], S, hS => hS
 | i :: r, S, hS => by
  rw [List.foldl_cons]
  refine fold_listed h r _ ?_
  by_cases hc : S.contains i = true
  ·rw [if_pos hc]
   intro x hx
   rcases List.mem_append.1 hx with hx | hx
   ·exact hS x hx
   ·exact preds_listed h (hS i (by simpa using hc)) x hx
  ·rw [if_neg hc]; exact hS
/-- The last operations wait for the first n. -/
def barB (md : Region.Mode) (ops : Array Oper) (n : Nat) : Bool := (List.range ops.size).all fun j => decide (j < n) || (List.range n).all fun i => (ancOf md ops j).contains i
theorem bar {n : Nat} {listed : Array Bool} {j : Nat} (hB : barB md ops n = true) (h : closedL md ops listed) (hj : j ∈ Region.ready md ops listed) (hd : doneN n listed = false) : j < n := by
 rcases Nat.lt_or_ge j n with hn | hn
 ·exact hn
 ·exfalso
  obtain ⟨-, o, ho, hall⟩ := mem_ready.1 hj
  have hjs : j < ops.size := (Array.getElem?_eq_some_iff.1 ho).1
  simp only [barB, List.all_eq_true, List.mem_range, Bool.or_eq_true, decide_eq_true_eq] at hB
  rcases hB j hjs with h1 | h1
  ·omega
  ·have hp : ∀ x ∈ predsOf md ops j, listed.getD x false = true := by
    intro x hx
    unfold predsOf at hx
    simp only [ho, List.mem_map, List.mem_filter] at hx
    obtain ⟨e, ⟨he, hb⟩, rfl⟩ := hx
    exact hall e (by simpa using he) hb
   have h2 : doneN n listed = true := doneN_iff.2 fun i hi => fold_listed h _ _ hp i (List.contains_iff_mem.1 (h1 i hi))
   rw [h2] at hd; cases hd
/-- Whatever order is picked from here on, till the first n have come up. -/
def wpAnyB (P : Program) (md : Region.Mode) (ops : Array Oper) (C : World → Prop) (n : Nat) (Q : Act → Prop) : Nat → Array Bool → Act → Prop
 | 0, listed, a => doneN n listed = true ∧ Q a
 | fuel + 1, listed, a => doneN n listed = false ∧ Region.ready md ops listed ≠ [] ∧ ∀ i ∈ Region.ready md ops listed, qOp P ops C i (wpAnyB P md ops C n Q fuel (listed.setIfInBounds i true)) a
theorem wpAnyB_first {n : Nat} {Q : Act → Prop} {i : Nat} {oi : Oper} {v : Value} (hi : ops[i]? = some oi) (hin : i < n) (hB : barB md ops n = true) (hsel : ∀ (j : Nat) (o : Oper) cs b, ops[j]? = some o → o.op ≠ .select cs b) :
  ∀ (fuel : Nat) (listed : Array Bool) (a : Act), closedL md ops listed →
   (∀ j oj, ops[j]? = some oj → j ≠ i → listed.getD j true = false → (∀ e ∈ oj.after, Region.binds md e = true → e.on ≠ i) → oi.apart ops oj = true) →
   i ∈ Region.ready md ops listed → YieldsIn P ops C oi v a →
   wpAnyB P md ops C n Q fuel (listed.setIfInBounds i true) (a.put oi.dst v) → wpAnyB P md ops C n Q (fuel + 1) listed a := by
 intro fuel
 induction fuel with
 | zero =>
  intro listed a hc _ hr hy H
  have hiu := (mem_ready.1 hr).1
  have hnd : doneN n listed = false := Bool.eq_false_iff.2 fun h => by have := doneN_iff.1 h i hin; rw [unl hiu] at this; cases this
  refine ⟨hnd, List.ne_nil_of_mem hr, fun j hj => ?_⟩
  by_cases hji : j = i
  ·subst hji; exact hy.qOp hi H
  ·have hjn := bar hB hc hj hnd
   have h1 := doneN_iff.1 H.1 j hjn
   rw [getD_set_ne false (fun e => hji e.symm), unl (mem_ready.1 hj).1] at h1
   cases h1
 | succ fuel ih =>
  intro listed a hc hfree hr hy H
  have hiu := (mem_ready.1 hr).1
  have hnd : doneN n listed = false := Bool.eq_false_iff.2 fun h => by have := doneN_iff.1 h i hin; rw [unl hiu] at this; cases this
  refine ⟨hnd, List.ne_nil_of_mem hr, fun j hj => ?_⟩
  by_cases hji : j = i
  ·subst hji; exact hy.qOp hi H
  ·have h1 := H.2.2 j (ready_mono hj hji)
   obtain ⟨hjun, oj, hoj, hall⟩ := mem_ready.1 hj
   have hnot : ∀ e ∈ oj.after, Region.binds md e = true → e.on ≠ i := fun e he hb heq => by
    have h1 := hall e he hb
    rw [heq, unl hiu] at h1
    cases h1
   have h2 := qOp_put hoj (hfree j oj hoj hji hjun hnot) (fun cs b => hsel i oi cs b hi) (fun cs b => hsel j oj cs b hoj) hy h1
   have hfree' : ∀ k ok, ops[k]? = some ok → k ≠ i → (listed.setIfInBounds j true).getD k true = false →
     (∀ e ∈ ok.after, Region.binds md e = true → e.on ≠ i) → oi.apart ops ok = true := fun k ok hk hki hun hno => by
    refine hfree k ok hk hki ?_ hno
    by_cases hjk : j = k
    ·subst hjk; exact hjun
    ·rw [getD_set_ne true hjk] at hun; exact hun
   refine qOp_mono (fun a' h3 => ih (listed.setIfInBounds j true) a' (hc.set hj) hfree' (ready_mono hr (Ne.symm hji)) h3.1 ?_) h2
   rw [Array.setIfInBounds_comm _ _ hji]
   exact h3.2
def lexTo (md : Region.Mode) (ops : Array Oper) (n : Nat) : Nat → Nat → Array Bool → Bool
 | 0, _, listed => doneN n listed
 | fuel + 1, k, listed => (Region.ready md ops listed).contains k && Region.free md ops listed k && decide (k < n) && lexTo md ops n fuel (k + 1) (listed.setIfInBounds k true)
theorem wpAnyB_lex {n : Nat} {Q : Act → Prop} (hs : Region.noSelect ops = true) (hB : barB md ops n = true) : ∀ (l : List Oper) (k : Nat) (listed : Array Bool) (a : Act), (∀ j, j < l.length → l[j]? = ops[k + j]?) → closedL md ops listed →
  lexTo md ops n l.length k listed = true → wpQuiet P ops C Q l a → wpAnyB P md ops C n Q l.length listed a
 | [], _, _, _, _, _, hL, h => ⟨hL, h⟩
 | o :: l, k, listed, a, hl, hc, hL, h => by
  have h0 : ops[k]? = some o := by simpa using (hl 0 (by simp)).symm
  simp only [List.length_cons, lexTo, Bool.and_eq_true, decide_eq_true_eq] at hL
  obtain ⟨⟨⟨hr, hf⟩, hk⟩, hL'⟩ := hL
  have hr' : k ∈ Region.ready md ops listed := by simpa using hr
  have hq : qOp P ops C k (wpQuiet P ops C Q l) a := by unfold qOp; simp only [h0]; exact h
  obtain ⟨v, hy, hK⟩ := yieldsIn_of_qOp h0 hq
  exact wpAnyB_first h0 hk hB (Region.noSelect_spec hs) l.length listed a hc (Region.free_spec h0 hf) hr' hy
   (wpAnyB_lex hs hB l (k + 1) _ _ (fun j hj => by have := hl (j + 1) (by rw [List.length_cons]; omega); simpa [Nat.add_assoc, Nat.add_comm 1 j] using this) (hc.set hr') hL' hK)
/-- The first n have come up, and no other. -/
def canonL (s n : Nat) : Array Bool := ((List.range s).map fun i => decide (i < n)).toArray
def sufL (n : Nat) (ops : Array Oper) (listed : Array Bool) : Prop := listed.size = ops.size ∧ ∀ j, n ≤ j → j < ops.size → listed.getD j true = false
theorem canon_of {n : Nat} {listed : Array Bool} (h : sufL n ops listed) (hd : doneN n listed = true) : listed = canonL ops.size n := by
 apply Array.ext
 ·simp [canonL, h.1]
 ·intro i h1 h2
  have hs : i < ops.size := h.1 ▸ h1
  simp only [canonL, List.getElem_toArray, List.getElem_map, List.getElem_range]
  by_cases hi : i < n
  ·have := doneN_iff.1 hd i hi
   simpa [h1, hi] using this
  ·have := h.2 i (by omega) hs
   simpa [h1, hi] using this
theorem wpAny_of_B {n m : Nat} {Q : Act → Prop} {Q' : Exit → Act → World → Prop} (hB : barB md ops n = true) (hQ : ∀ a w, C w → Q a → wpAny P md ops Q' m (canonL ops.size n) a w) :
  ∀ (fuel : Nat) (listed : Array Bool) (a : Act) (w : World), C w → closedL md ops listed → sufL n ops listed → wpAnyB P md ops C n Q fuel listed a → wpAny P md ops Q' (m + fuel) listed a w
 | 0, listed, a, w, hw, hc, hu, h => by rw [canon_of hu h.1]; exact hQ a w hw h.2
 | fuel + 1, listed, a, w, hw, hc, hu, h => ⟨fun h0 => absurd h0 h.2.1, fun i hi => by
   have hin := bar hB hc hi h.1
   refine wpOp_of_qOp hw (fun a' w' hw' hh => wpAny_of_B hB hQ fuel _ a' w' hw' (hc.set hi) ⟨by simpa using hu.1, fun j hj hjs => ?_⟩ hh) (h.2.2 i hi)
   rw [getD_set_ne true (by omega)]; exact hu.2 j hj hjs⟩
theorem wpQuiet_mono {Q Q' : Act → Prop} (h : ∀ a, Q a → Q' a) : ∀ (l : List Oper) (a : Act), wpQuiet P ops C Q l a → wpQuiet P ops C Q' l a
 | [], a, hh => h a hh
 | o :: l, a, hh => by
  simp only [wpQuiet] at hh ⊢
  split
  ·rename_i hw
   simp only [hw, if_true] at hh
   exact Oper.quiet_mono (fun a' => wpQuiet_mono h l a') hh
  ·rename_i hw
   simp only [hw] at hh
   exact wpQuiet_mono h l _ hh
/-- One order only. -/
def seqB (md : Region.Mode) (ops : Array Oper) : Nat → Nat → Array Bool → Bool
 | 0, _, listed => (Region.ready md ops listed).isEmpty
 | fuel + 1, k, listed => Region.ready md ops listed == [k] && seqB md ops fuel (k + 1) (listed.setIfInBounds k true)
theorem wpAny_of_seq {Q' : Exit → Act → World → Prop} : ∀ (l : List Oper) (k : Nat) (listed : Array Bool) (a : Act) (w : World), (∀ j, j < l.length → l[j]? = ops[k + j]?) → seqB md ops l.length k listed = true →
  wpList P ops Q' l a w → wpAny P md ops Q' l.length listed a w
 | [], _, _, _, _, _, hS, h => ⟨by simpa [seqB] using hS, h⟩
 | o :: l, k, listed, a, w, hl, hS, h => by
  have h0 : ops[k]? = some o := by simpa using (hl 0 (by simp)).symm
  simp only [List.length_cons, seqB, Bool.and_eq_true, beq_iff_eq] at hS
  obtain ⟨hr, hS'⟩ := hS
  have ih := fun a w => wpAny_of_seq (Q' := Q') l (k + 1) (listed.setIfInBounds k true) a w (fun j hj => by have := hl (j + 1) (by rw [List.length_cons]; omega); simpa [Nat.add_assoc, Nat.add_comm 1 j] using this) hS'
  rw [List.length_cons]
  unfold wpAny
  refine ⟨fun h1 => absurd h1 (by rw [hr]; simp), fun i hi => ?_⟩
  rw [hr] at hi
  obtain rfl := List.mem_singleton.1 hi
  unfold wpOp
  simp only [h0]
  simp only [wpList] at h
  split
  ·rename_i hw
   simp only [hw, if_true] at h
   rcases h with h | h
   ·exact .inl (Oper.wp_mono ih h)
   ·exact .inr h
  ·rename_i hw
   simp only [hw] at h
   exact ih _ _ h
def qaB (n : Nat) (l : List Oper) : Bool :=
 Region.noSelect l.toArray && decide (n ≤ l.length) && barB .any l.toArray n && lexTo .any l.toArray n n 0 (Array.replicate l.length false)
/-- **First what only reads and calls, in any order; then the others, in any order of theirs.** -/
theorem region_qa (n : Nat) {id : Nat} {Q : Exit → Act → World → Prop} {a : Act} {w : World} {l : List Oper} (hm : P.follows .mixedOrders = true) (hB : qaB n l = true) (hC : C w.drew)
  (h : wpQuiet P l.toArray C (fun a' => ∀ w', C w' → wpAny P .any l.toArray Q (l.length - n) (canonL l.length n) a' w') (l.take n) a) : (Code.region id l.toArray true).wp P Q a w := by
 simp only [qaB, Bool.and_eq_true, decide_eq_true_eq] at hB
 obtain ⟨⟨⟨hs, hn⟩, hb⟩, hl⟩ := hB
 refine wp_region_any hm ?_
 have hlen : (l.take n).length = n := by rw [List.length_take]; omega
 have h0 : closedL .any l.toArray (Array.replicate l.length false) := fun j o _ hl => by
  rcases Nat.lt_or_ge j l.length with h' | h' <;> simp [h'] at hl
 have h1 := wpAnyB_lex (md := .any) (n := n) hs hb (l.take n) 0 (Array.replicate l.length false) a (fun j hj => by rw [hlen] at hj; simp [List.getElem?_take, hj]) h0 (by rw [hlen]; exact hl) h
 rw [hlen] at h1
 have h2 := wpAny_of_B (m := l.length - n) (Q' := Q) hb (fun a' w' hw' hh => by simpa using hh w' hw') n (Array.replicate l.length false) a w.drew hC h0 ⟨by simp, fun j _ hj => by simp at hj; simp [hj]⟩ h1
 rw [Nat.sub_add_cancel hn] at h2
 simpa using h2
def qsB (n : Nat) (l : List Oper) : Bool := qaB n l && seqB .any l.toArray (l.length - n) n (canonL l.length n)
/-- **First what only reads and calls, in any order; then the stores.** -/
theorem region_qs (n : Nat) {id : Nat} {Q : Exit → Act → World → Prop} {a : Act} {w : World} {l : List Oper} (hm : P.follows .mixedOrders = true) (hB : qsB n l = true) (hC : C w.drew)
  (h : wpQuiet P l.toArray C (fun a' => ∀ w', C w' → wpList P l.toArray Q (l.drop n) a' w') (l.take n) a) : (Code.region id l.toArray true).wp P Q a w := by
 simp only [qsB, Bool.and_eq_true] at hB
 refine region_qa n hm hB.1 hC ?_
 refine wpQuiet_mono (fun a' hh w' hw' => ?_) _ _ h
 have h3 := wpAny_of_seq (md := .any) (P := P) (Q' := Q) (l.drop n) n (canonL l.length n) a' w' (fun j hj => by simp [List.getElem?_drop]) (by rw [List.length_drop]; exact hB.2) (hh w' hw')
 rw [List.length_drop] at h3
 exact h3
end
end Go.Proofs.YthffglapmkkohaaGreatDoor
namespace Go.Proofs.YthffglapmkkohaaGreatDoor
open Go.RowKit
/-- Cells stored one behind the other. -/
def setAll (W : World) (k : Nat) : Nat → List Value → World
 | _, [] => W
 | i, v :: vs => setAll (W.setCell ⟨k, i, none⟩ v) k (i + 1) vs
theorem setAll_upd (k : Nat) : ∀ (c : List Value) (i : Nat) (W : World), Upd k W (setAll W k i c)
 | [], _, W => Upd.refl k W
 | v :: vs, i, W => by
  have h1 := (Upd.refl k W).setCell i v
  have h2 := setAll_upd k vs (i + 1) (W.setCell ⟨k, i, none⟩ v)
  exact ⟨h2.os.trans h1.os, h2.tape.trans h1.tape, h2.output.trans h1.output, h2.size.trans h1.size, fun j hj => (h2.block j hj).trans (h1.block j hj)⟩
theorem hd_set {W : World} {k : Nat} {c : List Value} (h : Hd W k c) (i : Nat) (v : Value) (hi : i < c.length) : Hd (W.setCell ⟨k, i, none⟩ v) k (c.set i v) := by
 refine ⟨fun j hj => ?_, fun j => by simp [go_sem, h.frz j], by simp [World.setCell]; exact h.lt, by rw [List.length_set]; exact row_set h.row i v⟩
 rw [List.length_set] at hj
 by_cases e : i = j
 ·subst e
  rw [World.cell?_setCell_same _ _ _ (h.cell i hi)]
  simp
 ·rw [World.cell?_setCell_other _ _ _ _ (by intro h; simp only [Addr.mk.injEq] at h; omega), h.cell j hj]
  simp [e]
theorem setAll_hd : ∀ (c : List Value) (i : Nat) (W : World) (k : Nat) (p s : List Value), p.length = i → s.length = c.length → Hd W k (p ++ s) → Hd (setAll W k i c) k (p ++ c)
 | [], i, W, k, p, s, hp, hs, h => by
  rw [List.length_nil, List.length_eq_zero_iff] at hs
  subst hs; exact h
 | v :: vs, i, W, k, p, s, hp, hs, h => by
  cases s with
  | nil => simp at hs
  | cons s0 s =>
   have h1 := hd_set h i v (by rw [List.length_append, List.length_cons]; omega)
   rw [show (p ++ s0 :: s).set i v = (p ++ [v]) ++ s by subst hp; simp] at h1
   have h2 := setAll_hd vs (i + 1) (W.setCell ⟨k, i, none⟩ v) k (p ++ [v]) s (by simp [hp]) (by simpa using hs) h1
   rw [List.append_assoc] at h2
   exact h2
/-- The boxes that a call has made, with what they hold. -/
structure GL (w0 W : World) (L : List (Nat × List Value)) : Prop where
 bl : Below w0.heap.size w0 W
 all : ∀ p ∈ L, w0.heap.size ≤ p.1 ∧ Hd W p.1 p.2
 nd : (L.map (·.1)).Nodup
theorem GL.start (w : World) : GL w w [] := ⟨Below.refl _ _, (fun p hp => by cases hp), List.nodup_nil⟩
theorem GL.call {w0 W W' : World} {L : List (Nat × List Value)} (h : GL w0 W L) (hb : Below W.heap.size W W') : GL w0 W' L :=
 ⟨h.bl.trans (hb.mono h.bl.size), fun p hp => ⟨(h.all p hp).1, (h.all p hp).2.below hb⟩, h.nd⟩
theorem GL.drew {w0 W : World} {L : List (Nat × List Value)} (h : GL w0 W L) : GL w0 W.drew L :=
 ⟨h.bl.drew, fun p hp => ⟨(h.all p hp).1, (h.all p hp).2.cell, (h.all p hp).2.frz, (h.all p hp).2.lt, (h.all p hp).2.row⟩, h.nd⟩
theorem hd_new (W : World) (c : List Value) (t : TypeId) : Hd (W.alloc (.cells c.toArray t)) W.heap.size c := by
 have hrow := heap_alloc_new W (.cells c.toArray t)
 exact ⟨fun i hi => by rw [cell_of_row _ _ i _ _ _ hrow]; simp [hi], fun j => frozen_of_row _ _ j _ _ hrow, by rw [World.size_alloc]; omega, _, _, hrow, by simp⟩
theorem GL.new {w0 W : World} {L : List (Nat × List Value)} {K : Nat} (h : GL w0 W L) (hK : W.heap.size = K) (c : List Value) (t : TypeId) : GL w0 (W.alloc (.cells c.toArray t)) ((K, c) :: L) := by
 subst hK
 have hb : Below W.heap.size W (W.alloc (.cells c.toArray t)) := (Below.refl _ _).alloc (Nat.le_refl _) _
 refine ⟨h.bl.trans (hb.mono h.bl.size), fun p hp => ?_, ?_⟩
 ·rcases List.mem_cons.1 hp with rfl | hp
  ·exact ⟨h.bl.size, hd_new W c t⟩
  ·exact ⟨(h.all p hp).1, (h.all p hp).2.below hb⟩
 ·rw [List.map_cons, List.nodup_cons]
  refine ⟨fun hm => ?_, h.nd⟩
  obtain ⟨p, hp, he⟩ := List.mem_map.1 hm
  have := (h.all p hp).2.lt
  simp only at he
  omega
theorem GL.put {w0 W : World} {L : List (Nat × List Value)} (h : GL w0 W L) (i k : Nat) (c0 : List Value) (hi : L[i]? = some (k, c0)) (c : List Value) (hc : c.length = c0.length) :
  GL w0 (setAll W k 0 c) (L.set i (k, c)) := by
 have hu := setAll_upd k c 0 W
 obtain ⟨hil, he⟩ := List.getElem?_eq_some_iff.1 hi
 have hm : (k, c0) ∈ L := he ▸ List.getElem_mem hil
 have hk := h.all _ hm
 have hd := setAll_hd c 0 W k [] c0 rfl hc.symm hk.2
 have hmap : (L.set i (k, c)).map (·.1) = L.map (·.1) := by
  rw [List.map_set]
  apply List.ext_getElem?
  intro j
  by_cases e : i = j
  ·subst e
   rw [List.getElem?_set_self (by simpa using hil), List.getElem?_map, hi]; rfl
  ·rw [List.getElem?_set_ne e]
 refine ⟨h.bl.trans (hu.below hk.1), fun p hp => ?_, by rw [hmap]; exact h.nd⟩
 obtain ⟨j, hj, hpj⟩ := List.getElem_of_mem hp
 by_cases e : i = j
 ·subst e
  rw [List.getElem_set_self] at hpj
  subst hpj
  exact ⟨hk.1, hd⟩
 ·rw [List.getElem_set_ne e] at hpj
  rw [List.length_set] at hj
  have hp' : p ∈ L := hpj ▸ List.getElem_mem hj
  have hne : p.1 ≠ k := fun e2 => by
   have h1 : (L.map (·.1))[i]? = some k := by rw [List.getElem?_map, hi]; rfl
   have h2 : (L.map (·.1))[j]? = some k := by rw [List.getElem?_map, List.getElem?_eq_getElem hj, hpj]; simp [e2]
   exact e ((List.getElem?_inj (by simpa using hil) h.nd).1 (h1.trans h2.symm))
  exact ⟨(h.all p hp').1, hu.hd hne (h.all p hp').2⟩
theorem GL.get {w0 W : World} {L : List (Nat × List Value)} (h : GL w0 W L) (k : Nat) (c : List Value) (hm : (k, c) ∈ L) : Hd W k c := (h.all _ hm).2
theorem GL.weak {w0 W : World} {L L' : List (Nat × List Value)} (h : GL w0 W L) (hs : L'.Sublist L) : GL w0 W L' :=
 ⟨h.bl, fun p hp => h.all p (hs.subset hp), h.nd.sublist (hs.map _)⟩
/-- No int lies in a box that holds none. -/
theorem Hd.no_int {w : World} {k : Nat} {c : List Value} (h : Hd w k c) (hc : ∀ v ∈ c, ∀ n, v ≠ .int .i64 n) {a : Addr} {n : Int} (hx : w.cell? a = some (.int .i64 n)) : a.block ≠ k := by
 intro e
 obtain ⟨arr, t, h1, h2⟩ := h.row
 unfold World.cell? at hx
 rw [e, h1] at hx
 simp only at hx
 split at hx
 ·cases hx
 ·rename_i hs
  have ho : a.off < c.length := by
   have := (Array.getElem?_eq_some_iff.1 hx).1
   omega
  have h3 := h.cell a.off ho
  unfold World.cell? at h3
  simp only [h1] at h3
  rw [if_neg (by simp)] at h3
  rw [hx] at h3
  exact hc c[a.off] (List.getElem_mem ho) n (Option.some.inj h3).symm
/-- What cells hold, one fact each. -/
def cellsF (W : World) (k : Nat) : Nat → List Value → Prop
 | _, [] => True
 | i, v :: vs => W.cell? ⟨k, i, none⟩ = some v ∧ cellsF W k (i + 1) vs
theorem cells_of {W : World} {k : Nat} : ∀ (c : List Value) (i : Nat) (p : List Value), p.length = i → Hd W k (p ++ c) → cellsF W k i c
 | [], _, _, _, _ => trivial
 | v :: vs, i, p, hp, h => ⟨by have := h.cell i (by rw [List.length_append, List.length_cons]; omega); rw [this]; subst hp; simp,
   cells_of vs (i + 1) (p ++ [v]) (by simp [hp]) (by rw [List.append_assoc]; exact h)⟩
def neK (k : Nat) : List (Nat × List Value) → Prop
 | [] => True
 | p :: L => k ≠ p.1 ∧ p.1 ≠ k ∧ neK k L
theorem neK_of {k : Nat} : ∀ {L : List (Nat × List Value)}, k ∉ L.map (·.1) → neK k L
 | [], _ => trivial
 | p :: L, h => by
  simp only [List.map_cons, List.mem_cons, not_or] at h
  exact ⟨h.1, fun e => h.1 e.symm, neK_of h.2⟩
def fcG (W : World) : List (Nat × List Value) → Prop
 | [] => True
 | p :: L => cellsF W p.1 0 p.2 ∧ (∀ j, W.frozen? ⟨p.1, j, none⟩ = false) ∧ neK p.1 L ∧ fcG W L
theorem GL.fc {w0 W : World} : ∀ {L : List (Nat × List Value)}, GL w0 W L → fcG W L
 | [], _ => trivial
 | p :: L, h => ⟨cells_of p.2 0 [] rfl (h.all p List.mem_cons_self).2, (h.all p List.mem_cons_self).2.frz, neK_of (List.nodup_cons.1 h.nd).1,
   GL.fc (L := L) ⟨h.bl, fun q hq => h.all q (List.mem_cons_of_mem _ hq), (List.nodup_cons.1 h.nd).2⟩⟩
def cellsC {α : Type} (F : α → World) (k : Nat) : Nat → List Value → Prop
 | _, [] => True
 | i, v :: vs => (∀ x, (F x).cell? ⟨k, i, none⟩ = some v) ∧ cellsC F k (i + 1) vs
theorem cellsC_of {α : Type} {F : α → World} {k : Nat} : ∀ (c : List Value) (i : Nat), (∀ x, cellsF (F x) k i c) → cellsC F k i c
 | [], _, _ => trivial
 | v :: vs, i, h => ⟨fun x => (h x).1, cellsC_of vs (i + 1) fun x => (h x).2⟩
def fcC {α : Type} (F : α → World) : List (Nat × List Value) → Prop
 | [] => True
 | p :: L => cellsC F p.1 0 p.2 ∧ fcC F L
theorem GL.fcC {α : Type} {F : α → World} {z : World} (h1 : ∀ x, Below z.heap.size z (F x)) {w : World} : ∀ {L : List (Nat × List Value)}, GL w z L → fcC F L
 | [], _ => trivial
 | p :: L, h => ⟨cellsC_of p.2 0 fun x => cells_of p.2 0 [] rfl ((h.all p List.mem_cons_self).2.below (h1 x)), GL.fcC h1 (L := L) ⟨h.bl, fun q hq => h.all q (List.mem_cons_of_mem _ hq), (List.nodup_cons.1 h.nd).2⟩⟩
/-- The boxes that a region has made. -/
theorem GL.ghs {w x W : World} {L : List (Nat × List Value)} {g : Gh} {κ : Nat → Nat} (h : GL w x L) (hS : Sim x.drew g κ W) : ∀ (ds : List (Nat × List Value)), (ds.map (·.1)).Nodup → (∀ p ∈ ds, ∃ b, g p.1 = some (p.2, b)) →
  GL w W (ds.map (fun p => (κ p.1, p.2)) ++ L)
 | [], _, _ => h.call (below_drew hS.base)
 | p :: ds, hn, hg => by
  rw [List.map_cons, List.nodup_cons] at hn
  have ih := GL.ghs h hS ds hn.2 fun q hq => hg q (List.mem_cons_of_mem _ hq)
  obtain ⟨b, hb⟩ := hg p List.mem_cons_self
  obtain ⟨h1, h2⟩ := hS.hd _ _ _ hb
  refine ⟨ih.bl, fun q hq => ?_, ?_⟩
  ·rw [List.map_cons, List.cons_append] at hq
   rcases List.mem_cons.1 hq with rfl | hq
   ·exact ⟨Nat.le_trans h.bl.size h1, h2⟩
   ·exact ih.all q hq
  ·rw [List.map_cons, List.cons_append, List.map_cons, List.nodup_cons]
   refine ⟨fun hm => ?_, ih.nd⟩
   obtain ⟨q, hq, he⟩ := List.mem_map.1 hm
   rcases List.mem_append.1 hq with hq | hq
   ·obtain ⟨r, hr, rfl⟩ := List.mem_map.1 hq
    obtain ⟨b', hb'⟩ := hg r (List.mem_cons_of_mem _ hr)
    exact hS.inj _ _ (by rw [hb']; rfl) (by rw [hb]; rfl) (fun e => hn.1 (List.mem_map.2 ⟨r, hr, e⟩)) he
   ·have := (h.all q hq).2.lt
    have h1' : x.heap.size ≤ κ p.1 := h1
    simp only at he
    omega
theorem GL.seg {α : Type} {F : α → World} {x : World} (h1 : ∀ y, Below x.drew.heap.size x.drew (F y)) {w : World} {L : List (Nat × List Value)} (hL : GL w x L) : Go.Proofs.YthffglapmkkohaaGreatDoor.fcC F L := GL.fcC (fun y => below_drew (h1 y)) hL
theorem GL.named {w0 W : World} {L : List (Nat × List Value)} (h : GL w0 W L) : ∃ x, W = x ∧ GL w0 x L := ⟨W, rfl, h⟩
theorem zF : (∀ W : World, fcG W [] = True) ∧ (∀ (W : World) p L, fcG W (p :: L) = (cellsF W p.1 0 p.2 ∧ (∀ j, W.frozen? ⟨p.1, j, none⟩ = false) ∧ neK p.1 L ∧ fcG W L)) ∧ (∀ (W : World) k i, cellsF W k i [] = True) ∧ (∀ (W : World) k i v vs, cellsF W k i (v :: vs) = (W.cell? ⟨k, i, none⟩ = some v ∧ cellsF W k (i + 1) vs)) ∧ (∀ k, neK k [] = True) ∧ (∀ k p L, neK k (p :: L) = (k ≠ p.1 ∧ p.1 ≠ k ∧ neK k L)) ∧ (∀ p : Prop, (p ∧ True) = p) ∧ (∀ n : Nat, 0 + n = n) ∧ (∀ a b : Nat, (a ≠ b) = ¬ (a = b)) := ⟨fun _ => rfl, fun _ _ _ => rfl, fun _ _ _ => rfl, fun _ _ _ _ _ => rfl, fun _ => rfl, fun _ _ _ => rfl, and_true, Nat.zero_add, fun _ _ => rfl⟩
theorem zC {α : Type} : (∀ F : α → World, fcC F [] = True) ∧ (∀ (F : α → World) p L, fcC F (p :: L) = (cellsC F p.1 0 p.2 ∧ fcC F L)) ∧ (∀ (F : α → World) k i, cellsC F k i [] = True) ∧ (∀ (F : α → World) k i v vs, cellsC F k i (v :: vs) = ((∀ x, (F x).cell? ⟨k, i, none⟩ = some v) ∧ cellsC F k (i + 1) vs)) ∧ (∀ p : Prop, (p ∧ True) = p) ∧ (∀ n : Nat, 0 + n = n) := ⟨fun _ => rfl, fun _ _ _ => rfl, fun _ _ _ => rfl, fun _ _ _ _ _ => rfl, and_true, Nat.zero_add⟩
theorem zT {α : Type} : (∀ (i : Nat) (a : α) (l : List α), (a :: l).take (i + 1) = a :: l.take i) ∧ (∀ l : List α, l.take 0 = []) ∧ (∀ (i : Nat) (a : α) (l : List α), (a :: l).drop (i + 1) = l.drop i) ∧ (∀ l : List α, l.drop 0 = l) ∧ (∀ i : Nat, ([] : List α).take i = []) ∧ (∀ i : Nat, ([] : List α).drop i = []) := ⟨fun _ _ _ => List.take_succ_cons, fun _ => List.take_zero, fun _ _ _ => List.drop_succ_cons, fun _ => List.drop_zero, fun _ => List.take_nil, fun _ => List.drop_nil⟩
theorem zP {α : Type} : (∀ (l : List α) (i : Nat) (a : α), l.toArray.setIfInBounds i a = (l.set i a).toArray) ∧ (∀ (a b : α) (l : List α) (i : Nat), (a :: l).set (i + 1) b = a :: l.set i b) ∧ (∀ (a b : α) (l : List α), (a :: l).set 0 b = b :: l) := ⟨fun l i a => by simp, fun _ _ _ _ => List.set_cons_succ, fun _ _ _ => List.set_cons_zero⟩
theorem mK {α : Type} {a b : α} {l : List α} (h : a ∈ l) : a ∈ b :: l := List.mem_cons_of_mem _ h
theorem mZ {α : Type} {a : α} {l : List α} : a ∈ a :: l := List.mem_cons_self
end Go.Proofs.YthffglapmkkohaaGreatDoor
namespace Go.Proofs.YthffglapmkkohaaGreatDoor
open Go.RowKit
attribute [local irreducible] lo hs sm s64 c64 d64 b64 mh ml pd pc qd qc val hiB str cmpI srD lz nb
/-- An integer, by its sign and its absolute value. -/
abbrev zV (s : Bool) (m : Nat) : Value := .agg #[.int .u64 ((lo m : Nat) : Int), .string (hs m), .bool s]
theorem ne0 {d : Nat} (h : d ≠ 0) : (((lo d : Nat) : Int) == 0) = false ∨ ((((lo d : Nat) : Int) == 0) = true ∧ ((hs d).toList == []) = false) := by
 have e := eq_zero (Nat.pos_of_ne_zero h)
 rwa [show ((lo 0 : Nat) : Int) = 0 by rw [lo_small Bs_pos]; rfl, show (hs 0).toList = [] by rw [hs_small Bs_pos, ByteArray.toList_eq]] at e
theorem zV_zero : zV false 0 = .agg #[.int .u64 0, .string ⟨#[]⟩, .bool false] := by unfold zV; rw [lo_small Bs_pos, hs_small Bs_pos]; rfl
theorem from_pos (n : Nat)  (w : World) :
  Calls Tryz.prog 132 #[.bool false, natV n] w fun e w' => e = .returned (zV false n) ∧ Below w.heap.size w w' := by
 have hL0 : GL w w [] := GL.start w
 obtain ⟨x1, hweq, hL0⟩ := GL.named ((hL0.new rfl [.int .u64 ((lo n : Nat) : Int), .string (hs n)] 32).new (K := w.heap.size + 1) (szA _ _) [.int .u64 0, .string ⟨#[]⟩, .bool false] 34)
 go_enter Tryz.func132, Tryz.ntmps132
 have hA := hL0.fc
 simp only [zF, Nat.reduceAdd] at hA
 go_upto_region 1 with fail
 clear hA
 clear hweq
 obtain ⟨α, iα, F, hF1, hF2⟩ := cls x1
 have hq := GL.fcC hF1 hL0
 simp only [zC, Nat.reduceAdd] at hq
 refine region_qs 8 (C := fun w' => ∃ x, w' = F x) (by kernel_rfl) (by kernel_rfl) (cls_drew hF2) ?_
 simp only [zT]
 repeat (go_big_quiet_step (first | fail))
 refine wpQuiet_nil ?_
 rintro wq ⟨xq, rfl⟩
 replace hL0 := hL0.call (hF1 xq)
 clear hq hF2
 generalize F xq = x2 at hL0 ⊢
 clear hF1 xq iα F α
 have hA := hL0.fc
 simp only [zF, Nat.reduceAdd] at hA
 obtain ⟨x3, hput1, hP⟩ := GL.named (hL0.put 0 (w.heap.size + 1) _ rfl [.int .u64 ((lo n : Nat) : Int), .string (hs n), .bool false] rfl)
 simp only [setAll] at hput1
 simp only [List.set_cons_zero, List.set_cons_succ] at hP
 have hB1 := hP.fc
 simp only [zF, Nat.reduceAdd] at hB1
 replace hL0 := hP
 go_wp2_with fail
 exact bodyPost_ret (v := zV false n) (by simp [results, Tryz.results132, go_sem, hB1]) rfl ⟨rfl, hL0.bl⟩
theorem from_zero  (w : World) :
  Calls Tryz.prog 132 #[.bool true, natV 0] w fun e w' => e = .returned (zV false 0) ∧ Below w.heap.size w w' := by
 have hL0 : GL w w [] := GL.start w
 rw [natV_zero]
 obtain ⟨x1, hweq, hL0⟩ := GL.named ((hL0.new rfl [.int .u64 0, .string ⟨#[]⟩] 32).new (K := w.heap.size + 1) (szA _ _) [.int .u64 0, .string ⟨#[]⟩, .bool false] 34)
 go_enter Tryz.func132, Tryz.ntmps132
 have hA := hL0.fc
 simp only [zF, Nat.reduceAdd] at hA
 go_upto_region 1 with fail
 clear hA
 clear hweq
 obtain ⟨α, iα, F, hF1, hF2⟩ := cls x1
 have hq := GL.fcC hF1 hL0
 simp only [zC, Nat.reduceAdd] at hq
 refine region_qs 8 (C := fun w' => ∃ x, w' = F x) (by kernel_rfl) (by kernel_rfl) (cls_drew hF2) ?_
 simp only [zT]
 repeat (go_big_quiet_step (first | fail))
 refine wpQuiet_nil ?_
 rintro wq ⟨xq, rfl⟩
 replace hL0 := hL0.call (hF1 xq)
 clear hq hF2
 generalize F xq = x2 at hL0 ⊢
 clear hF1 xq iα F α
 have hA := hL0.fc
 simp only [zF, Nat.reduceAdd] at hA
 obtain ⟨x3, hput1, hP⟩ := GL.named (hL0.put 0 (w.heap.size + 1) _ rfl [.int .u64 0, .string ⟨#[]⟩, .bool false] rfl)
 simp only [setAll] at hput1
 simp only [List.set_cons_zero, List.set_cons_succ] at hP
 have hB1 := hP.fc
 simp only [zF, Nat.reduceAdd] at hB1
 replace hL0 := hP
 go_wp2_with fail
 exact bodyPost_ret (v := zV false 0) (by rw [zV_zero]; simp [results, Tryz.results132, go_sem, hB1]) rfl ⟨rfl, hL0.bl⟩
theorem from_neg (n : Nat) (hn : n ≠ 0) (w : World) :
  Calls Tryz.prog 132 #[.bool true, natV n] w fun e w' => e = .returned (zV true n) ∧ Below w.heap.size w w' := by
 have hL0 : GL w w [] := GL.start w
 obtain ⟨x1, hweq, hL0⟩ := GL.named ((hL0.new rfl [.int .u64 ((lo n : Nat) : Int), .string (hs n)] 32).new (K := w.heap.size + 1) (szA _ _) [.int .u64 0, .string ⟨#[]⟩, .bool false] 34)
 rcases ne0 hn with e0 | ⟨e0, e1⟩
 all_goals (
  go_enter Tryz.func132, Tryz.ntmps132
  have hA := hL0.fc
  simp only [zF, Nat.reduceAdd] at hA
  go_upto_region 1 with fail
  clear hA
  clear hweq
  obtain ⟨α, iα, F, hF1, hF2⟩ := cls x1
  have hq := GL.fcC hF1 hL0
  simp only [zC, Nat.reduceAdd] at hq
  refine region_qs 8 (C := fun w' => ∃ x, w' = F x) (by kernel_rfl) (by kernel_rfl) (cls_drew hF2) ?_
  simp only [zT]
  repeat (go_big_quiet_step (first | fail))
  refine wpQuiet_nil ?_
  rintro wq ⟨xq, rfl⟩
  replace hL0 := hL0.call (hF1 xq)
  clear hq hF2
  generalize F xq = x2 at hL0 ⊢
  clear hF1 xq iα F α
  have hA := hL0.fc
  simp only [zF, Nat.reduceAdd] at hA
  obtain ⟨x3, hput1, hP⟩ := GL.named (hL0.put 0 (w.heap.size + 1) _ rfl [.int .u64 ((lo n : Nat) : Int), .string (hs n), .bool true] rfl)
  simp only [setAll] at hput1
  simp only [List.set_cons_zero, List.set_cons_succ] at hP
  have hB1 := hP.fc
  simp only [zF, Nat.reduceAdd] at hB1
  replace hL0 := hP
  go_wp2_with fail
  exact bodyPost_ret (v := zV true n) (by simp [results, Tryz.results132, go_sem, hB1]) rfl ⟨rfl, hL0.bl⟩)
theorem from_any (s : Bool) (n : Nat) (w : World) : Calls Tryz.prog 132 #[.bool s, natV n] w fun e w' => e = .returned (zV (s && decide (n ≠ 0)) n) ∧ Below w.heap.size w w' := by
 cases s with
 | false => exact from_pos n w
 | true =>
  by_cases h : n = 0
  ·subst h; exact from_zero w
  ·rw [Bool.true_and, decide_eq_true h]; exact from_neg n h w
theorem abs_any (s : Bool) (m : Nat) (w : World) :
  Calls Tryz.prog 124 #[zV s m] w fun e w' => e = .returned (natV m) ∧ Below w.heap.size w w' := by
 have hL0 : GL w w [] := GL.start w
 obtain ⟨x1, hweq, hL0⟩ := GL.named ((hL0.new rfl [.int .u64 ((lo m : Nat) : Int), .string (hs m), .bool s] 34).new (K := w.heap.size + 1) (szA _ _) [.int .u64 0, .string ⟨#[]⟩] 32)
 go_enter Tryz.func124, Tryz.ntmps124
 have hA := hL0.fc
 simp only [zF, Nat.reduceAdd] at hA
 obtain ⟨x2, hput1, hP⟩ := GL.named (hL0.put 0 (w.heap.size + 1) _ rfl [.int .u64 ((lo m : Nat) : Int), .string (hs m)] rfl)
 simp only [setAll] at hput1
 simp only [List.set_cons_zero, List.set_cons_succ] at hP
 have hB1 := hP.fc
 simp only [zF, Nat.reduceAdd] at hB1
 replace hL0 := hP
 go_wp2_with fail
 exact bodyPost_ret (v := natV m) (by simp [results, Tryz.results124, go_sem, hB1]) rfl ⟨rfl, hL0.bl⟩
theorem sign_neg (m : Nat) (w : World) :
  Calls Tryz.prog 121 #[zV true m] w fun e w' => e = .returned (.int .i64 (-1)) ∧ Below w.heap.size w w' := by
 have hL0 : GL w w [] := GL.start w
 obtain ⟨x1, hweq, hL0⟩ := GL.named (hL0.new rfl [.int .u64 ((lo m : Nat) : Int), .string (hs m), .bool true] 34)
 go_enter Tryz.func121, Tryz.ntmps121
 have hA := hL0.fc
 simp only [zF, Nat.reduceAdd] at hA
 go_wp2_with fail
 exact bodyPost_ret (v := .int .i64 (-1)) (by simp [results, Tryz.results121, go_sem, hA]) rfl ⟨rfl, hL0.bl⟩
theorem sign_zero  (w : World) :
  Calls Tryz.prog 121 #[zV false 0] w fun e w' => e = .returned (.int .i64 0) ∧ Below w.heap.size w w' := by
 have hL0 : GL w w [] := GL.start w
 rw [zV_zero]
 obtain ⟨x1, hweq, hL0⟩ := GL.named (hL0.new rfl [.int .u64 0, .string ⟨#[]⟩, .bool false] 34)
 go_enter Tryz.func121, Tryz.ntmps121
 have hA := hL0.fc
 simp only [zF, Nat.reduceAdd] at hA
 go_wp2_with fail
 exact bodyPost_ret (v := .int .i64 0) (by simp [results, Tryz.results121, go_sem, hA]) rfl ⟨rfl, hL0.bl⟩
theorem sign_pos (m : Nat) (hm : m ≠ 0) (w : World) :
  Calls Tryz.prog 121 #[zV false m] w fun e w' => e = .returned (.int .i64 1) ∧ Below w.heap.size w w' := by
 have hL0 : GL w w [] := GL.start w
 obtain ⟨x1, hweq, hL0⟩ := GL.named (hL0.new rfl [.int .u64 ((lo m : Nat) : Int), .string (hs m), .bool false] 34)
 rcases ne0 hm with e0 | ⟨e0, e1⟩
 all_goals (
  go_enter Tryz.func121, Tryz.ntmps121
  have hA := hL0.fc
  simp only [zF, Nat.reduceAdd] at hA
  go_wp2_with fail
  exact bodyPost_ret (v := .int .i64 1) (by simp [results, Tryz.results121, go_sem, hA]) rfl ⟨rfl, hL0.bl⟩)
theorem neg_true (m : Nat) (w : World) :
  Calls Tryz.prog 122 #[zV true m] w fun e w' => e = .returned (zV false m) ∧ Below w.heap.size w w' := by
 have hL0 : GL w w [] := GL.start w
 have HF := Lib.hid (fun w => from_any false m w)
 simp only [Bool.false_and] at HF
 obtain ⟨x1, hweq, hL0⟩ := GL.named ((hL0.new rfl [.int .u64 ((lo m : Nat) : Int), .string (hs m), .bool true] 34).new (K := w.heap.size + 1) (szA _ _) [.int .u64 0, .string ⟨#[]⟩, .bool false] 34)
 go_enter Tryz.func122, Tryz.ntmps122
 have hA := hL0.fc
 simp only [zF, Nat.reduceAdd] at hA
 go_wp2_with fail
 clear hA
 with_reducible refine Calls.mono (HF.out _) ?_
 rintro e x2 ⟨rfl, hb⟩
 replace hL0 := hL0.call hb
 clear hb hweq
 have hA := hL0.fc
 simp only [zF, Nat.reduceAdd] at hA
 obtain ⟨x3, hput1, hP⟩ := GL.named (hL0.put 0 (w.heap.size + 1) _ rfl [.int .u64 ((lo m : Nat) : Int), .string (hs m), .bool false] rfl)
 simp only [setAll] at hput1
 simp only [List.set_cons_zero, List.set_cons_succ] at hP
 have hB1 := hP.fc
 simp only [zF, Nat.reduceAdd] at hB1
 replace hL0 := hP
 go_wp2_with fail
 exact bodyPost_ret (v := zV false m) (by simp [results, Tryz.results122, go_sem, hB1]) rfl ⟨rfl, hL0.bl⟩
theorem neg_false (m : Nat) (w : World) :
  Calls Tryz.prog 122 #[zV false m] w fun e w' => e = .returned (zV (decide (m ≠ 0)) m) ∧ Below w.heap.size w w' := by
 have hL0 : GL w w [] := GL.start w
 have HF := Lib.hid (fun w => from_any true m w)
 simp only [Bool.true_and] at HF
 obtain ⟨d, hd⟩ : ∃ d, d = decide (m ≠ 0) := ⟨_, rfl⟩
 rw [← hd] at HF ⊢
 clear hd
 obtain ⟨x1, hweq, hL0⟩ := GL.named ((hL0.new rfl [.int .u64 ((lo m : Nat) : Int), .string (hs m), .bool false] 34).new (K := w.heap.size + 1) (szA _ _) [.int .u64 0, .string ⟨#[]⟩, .bool false] 34)
 go_enter Tryz.func122, Tryz.ntmps122
 have hA := hL0.fc
 simp only [zF, Nat.reduceAdd] at hA
 go_wp2_with fail
 clear hA
 with_reducible refine Calls.mono (HF.out _) ?_
 rintro e x2 ⟨rfl, hb⟩
 replace hL0 := hL0.call hb
 clear hb hweq
 have hA := hL0.fc
 simp only [zF, Nat.reduceAdd] at hA
 obtain ⟨x3, hput1, hP⟩ := GL.named (hL0.put 0 (w.heap.size + 1) _ rfl [.int .u64 ((lo m : Nat) : Int), .string (hs m), .bool d] rfl)
 simp only [setAll] at hput1
 simp only [List.set_cons_zero, List.set_cons_succ] at hP
 have hB1 := hP.fc
 simp only [zF, Nat.reduceAdd] at hB1
 replace hL0 := hP
 go_wp2_with fail
 exact bodyPost_ret (v := zV d m) (by simp [results, Tryz.results122, go_sem, hB1]) rfl ⟨rfl, hL0.bl⟩
end Go.Proofs.YthffglapmkkohaaGreatDoor
namespace Go.Proofs.YthffglapmkkohaaGreatDoor
open Go.RowKit
attribute [local irreducible] lo hs sm s64 c64 d64 b64 mh ml pd pc qd qc val hiB str cmpI srD lz nb
theorem ofp_any (m : Nat) (hm : m < 9223372036854775808) (w : World) :
  Calls Tryz.prog 62 #[.int .i64 (m : Int)] w fun e w' => e = .returned (zV false m) ∧ Below w.heap.size w w' := by
 have hL0 : GL w w [] := GL.start w
 have k0 : decide ((m : Int) < 0) = false := decide_eq_false (by omega)
 have hw : IntKind.u64.wrap (m : Int) = (m : Int) := wrapN _ (by omega)
 have HO := Lib.hid (fun w => of_any m (by unfold Bs; omega) w)
 have HF := Lib.hid (fun w => from_pos m w)
 obtain ⟨x1, hweq, hL0⟩ := GL.named (hL0.new rfl [.int .u64 0, .string ⟨#[]⟩, .bool false] 34)
 clear hm
 go_enter Tryz.func62, Tryz.ntmps62
 have hA := hL0.fc
 simp only [zF, Nat.reduceAdd] at hA
 go_wp2_with fail
 clear hA
 with_reducible refine Calls.mono (HO.out _) ?_
 rintro e x2 ⟨rfl, hb⟩
 replace hL0 := hL0.call hb
 clear hb hweq
 have hA := hL0.fc
 simp only [zF, Nat.reduceAdd] at hA
 go_wp2_with fail
 clear hA
 with_reducible refine Calls.mono (HF.out _) ?_
 rintro e x3 ⟨rfl, hb⟩
 replace hL0 := hL0.call hb
 clear hb
 have hA := hL0.fc
 simp only [zF, Nat.reduceAdd] at hA
 obtain ⟨x4, hput1, hP⟩ := GL.named (hL0.put 0 (w.heap.size) _ rfl [.int .u64 ((lo m : Nat) : Int), .string (hs m), .bool false] rfl)
 simp only [setAll] at hput1
 simp only [List.set_cons_zero, List.set_cons_succ] at hP
 have hB1 := hP.fc
 simp only [zF, Nat.reduceAdd] at hB1
 replace hL0 := hP
 go_wp2_with fail
 exact bodyPost_ret (v := zV false m) (by simp [results, Tryz.results62, go_sem, hB1]) rfl ⟨rfl, hL0.bl⟩
theorem ofn_any (z : Int) (m : Nat) (hz : z = -(m : Int)) (h0 : 0 < m) (hm : m ≤ 9223372036854775808) (w : World) :
  Calls Tryz.prog 62 #[.int .i64 z] w fun e w' => e = .returned (zV true m) ∧ Below w.heap.size w w' := by
 have hL0 : GL w w [] := GL.start w
 have k0 : decide (z < 0) = true := decide_eq_true (by omega)
 obtain ⟨q, hq⟩ : ∃ q : Nat, (q : Int) = 18446744073709551616 - m := ⟨(18446744073709551616 - (m : Int)).toNat, by omega⟩
 have hw : IntKind.u64.wrap z = (q : Int) := by rw [IntKind.wrap_u64]; omega
 have hw2 : IntKind.u64.wrap (-(q : Int)) = (m : Int) := by rw [IntKind.wrap_u64]; omega
 have HO := Lib.hid (fun w => of_any m (by unfold Bs; omega) w)
 have HF := Lib.hid (fun w => from_neg m (by omega) w)
 obtain ⟨x1, hweq, hL0⟩ := GL.named (hL0.new rfl [.int .u64 0, .string ⟨#[]⟩, .bool false] 34)
 clear hm h0 hz hq
 go_enter Tryz.func62, Tryz.ntmps62
 have hA := hL0.fc
 simp only [zF, Nat.reduceAdd] at hA
 go_wp2_with fail
 clear hA
 with_reducible refine Calls.mono (HO.out _) ?_
 rintro e x2 ⟨rfl, hb⟩
 replace hL0 := hL0.call hb
 clear hb hweq
 have hA := hL0.fc
 simp only [zF, Nat.reduceAdd] at hA
 go_wp2_with fail
 clear hA
 with_reducible refine Calls.mono (HF.out _) ?_
 rintro e x3 ⟨rfl, hb⟩
 replace hL0 := hL0.call hb
 clear hb
 have hA := hL0.fc
 simp only [zF, Nat.reduceAdd] at hA
 obtain ⟨x4, hput1, hP⟩ := GL.named (hL0.put 0 (w.heap.size) _ rfl [.int .u64 ((lo m : Nat) : Int), .string (hs m), .bool true] rfl)
 simp only [setAll] at hput1
 simp only [List.set_cons_zero, List.set_cons_succ] at hP
 have hB1 := hP.fc
 simp only [zF, Nat.reduceAdd] at hB1
 replace hL0 := hP
 go_wp2_with fail
 exact bodyPost_ret (v := zV true m) (by simp [results, Tryz.results62, go_sem, hB1]) rfl ⟨rfl, hL0.bl⟩
theorem icmp_true_true (m n : Nat) (w : World) :
  Calls Tryz.prog 208 #[zV true m, zV true n] w fun e w' => e = .returned (.int .i64 (cmpI n m)) ∧ Below w.heap.size w w' := by
 have hL0 : GL w w [] := GL.start w
 obtain ⟨x1, hweq, hL0⟩ := GL.named ((hL0.new rfl [.int .u64 ((lo m : Nat) : Int), .string (hs m), .bool true] 34).new (K := w.heap.size + 1) (szA _ _) [.int .u64 ((lo n : Nat) : Int), .string (hs n), .bool true] 34)
 have HC := Lib.hid (fun w => cmp_any n m w)
 go_enter Tryz.func208, Tryz.ntmps208
 have hA := hL0.fc
 simp only [zF, Nat.reduceAdd] at hA
 go_wp2_with fail
 clear hA
 with_reducible refine Calls.mono (HC.out _) ?_
 rintro e x2 ⟨rfl, hb⟩
 replace hL0 := hL0.call hb
 clear hb hweq
 have hA := hL0.fc
 simp only [zF, Nat.reduceAdd] at hA
 go_wp2_with fail
 exact bodyPost_ret (v := .int .i64 (cmpI n m)) (by simp [results, Tryz.results208, go_sem, hA]) rfl ⟨rfl, hL0.bl⟩
theorem icmp_true_false (m n : Nat) (w : World) :
  Calls Tryz.prog 208 #[zV true m, zV false n] w fun e w' => e = .returned (.int .i64 (-1)) ∧ Below w.heap.size w w' := by
 have hL0 : GL w w [] := GL.start w
 obtain ⟨x1, hweq, hL0⟩ := GL.named ((hL0.new rfl [.int .u64 ((lo m : Nat) : Int), .string (hs m), .bool true] 34).new (K := w.heap.size + 1) (szA _ _) [.int .u64 ((lo n : Nat) : Int), .string (hs n), .bool false] 34)
 go_enter Tryz.func208, Tryz.ntmps208
 have hA := hL0.fc
 simp only [zF, Nat.reduceAdd] at hA
 go_wp2_with fail
 exact bodyPost_ret (v := .int .i64 (-1)) (by simp [results, Tryz.results208, go_sem, hA]) rfl ⟨rfl, hL0.bl⟩
theorem icmp_false_true (m n : Nat) (w : World) :
  Calls Tryz.prog 208 #[zV false m, zV true n] w fun e w' => e = .returned (.int .i64 (1)) ∧ Below w.heap.size w w' := by
 have hL0 : GL w w [] := GL.start w
 obtain ⟨x1, hweq, hL0⟩ := GL.named ((hL0.new rfl [.int .u64 ((lo m : Nat) : Int), .string (hs m), .bool false] 34).new (K := w.heap.size + 1) (szA _ _) [.int .u64 ((lo n : Nat) : Int), .string (hs n), .bool true] 34)
 go_enter Tryz.func208, Tryz.ntmps208
 have hA := hL0.fc
 simp only [zF, Nat.reduceAdd] at hA
 go_wp2_with fail
 exact bodyPost_ret (v := .int .i64 (1)) (by simp [results, Tryz.results208, go_sem, hA]) rfl ⟨rfl, hL0.bl⟩
theorem icmp_false_false (m n : Nat) (w : World) :
  Calls Tryz.prog 208 #[zV false m, zV false n] w fun e w' => e = .returned (.int .i64 (cmpI m n)) ∧ Below w.heap.size w w' := by
 have hL0 : GL w w [] := GL.start w
 obtain ⟨x1, hweq, hL0⟩ := GL.named ((hL0.new rfl [.int .u64 ((lo m : Nat) : Int), .string (hs m), .bool false] 34).new (K := w.heap.size + 1) (szA _ _) [.int .u64 ((lo n : Nat) : Int), .string (hs n), .bool false] 34)
 have HC := Lib.hid (fun w => cmp_any m n w)
 go_enter Tryz.func208, Tryz.ntmps208
 have hA := hL0.fc
 simp only [zF, Nat.reduceAdd] at hA
 go_wp2_with fail
 clear hA
 with_reducible refine Calls.mono (HC.out _) ?_
 rintro e x2 ⟨rfl, hb⟩
 replace hL0 := hL0.call hb
 clear hb hweq
 have hA := hL0.fc
 simp only [zF, Nat.reduceAdd] at hA
 go_wp2_with fail
 exact bodyPost_ret (v := .int .i64 (cmpI m n)) (by simp [results, Tryz.results208, go_sem, hA]) rfl ⟨rfl, hL0.bl⟩
theorem imul_true_true (m n : Nat) (hm : (digs m).length ≤ 1000000000) (hn : (digs n).length ≤ 1000000000) (w : World) :
  Calls Tryz.prog 68 #[zV true m, zV true n] w fun e w' => e = .returned (zV false (m * n)) ∧ Below w.heap.size w w' := by
 have hL0 : GL w w [] := GL.start w
 have HM := Lib.hid (fun w => mul_any m n (by omega) (by omega) w)
 generalize m * n = p at *
 have HF := Lib.hid (fun w => from_any false p w)
 simp only [Bool.false_and] at HF
 clear hm hn
 obtain ⟨x1, hweq, hL0⟩ := GL.named (((hL0.new rfl [.int .u64 ((lo m : Nat) : Int), .string (hs m), .bool true] 34).new (K := w.heap.size + 1) (szA _ _) [.int .u64 ((lo n : Nat) : Int), .string (hs n), .bool true] 34).new (K := w.heap.size + 1 + 1) (by simp only [World.size_alloc]) [.int .u64 0, .string ⟨#[]⟩, .bool false] 34)
 go_enter Tryz.func68, Tryz.ntmps68
 have hA := hL0.fc
 simp only [zF, Nat.reduceAdd] at hA
 go_upto_region 1 with fail
 clear hA
 clear hweq
 obtain ⟨α, iα, F, hF1, hF2⟩ := cls x1
 have hq := GL.fcC hF1 hL0
 simp only [zC, Nat.reduceAdd] at hq
 refine region_qs 11 (C := fun w' => ∃ x, w' = F x) (by kernel_rfl) (by kernel_rfl) (cls_drew hF2) ?_
 simp only [zT]
 repeat (go_big_quiet_step (first | fail | (go_at_call 69; with_reducible exact cls_call hF1 hF2 HM.out _) | (go_at_call 132; with_reducible exact cls_call hF1 hF2 HF.out _)))
 refine wpQuiet_nil ?_
 rintro wq ⟨xq, rfl⟩
 replace hL0 := hL0.call (hF1 xq)
 clear hq hF2
 generalize F xq = x2 at hL0 ⊢
 clear hF1 xq iα F α
 have hA := hL0.fc
 simp only [zF, Nat.reduceAdd] at hA
 obtain ⟨x3, hput1, hP⟩ := GL.named (hL0.put 0 (w.heap.size + 1 + 1) _ rfl [.int .u64 ((lo p : Nat) : Int), .string (hs p), .bool false] rfl)
 simp only [setAll] at hput1
 simp only [List.set_cons_zero, List.set_cons_succ] at hP
 have hB1 := hP.fc
 simp only [zF, Nat.reduceAdd] at hB1
 replace hL0 := hP
 go_wp2_with fail
 exact bodyPost_ret (v := zV false p) (by simp [results, Tryz.results68, go_sem, hB1]) rfl ⟨rfl, hL0.bl⟩
theorem imul_true_false (m n : Nat) (hm : (digs m).length ≤ 1000000000) (hn : (digs n).length ≤ 1000000000) (w : World) :
  Calls Tryz.prog 68 #[zV true m, zV false n] w fun e w' => e = .returned (zV (decide (m * n ≠ 0)) (m * n)) ∧ Below w.heap.size w w' := by
 have hL0 : GL w w [] := GL.start w
 have HM := Lib.hid (fun w => mul_any m n (by omega) (by omega) w)
 generalize m * n = p at *
 have HF := Lib.hid (fun w => from_any true p w)
 simp only [Bool.true_and] at HF
 obtain ⟨d, hd⟩ : ∃ d, d = decide (p ≠ 0) := ⟨_, rfl⟩
 rw [← hd] at HF ⊢
 clear hd
 clear hm hn
 obtain ⟨x1, hweq, hL0⟩ := GL.named (((hL0.new rfl [.int .u64 ((lo m : Nat) : Int), .string (hs m), .bool true] 34).new (K := w.heap.size + 1) (szA _ _) [.int .u64 ((lo n : Nat) : Int), .string (hs n), .bool false] 34).new (K := w.heap.size + 1 + 1) (by simp only [World.size_alloc]) [.int .u64 0, .string ⟨#[]⟩, .bool false] 34)
 go_enter Tryz.func68, Tryz.ntmps68
 have hA := hL0.fc
 simp only [zF, Nat.reduceAdd] at hA
 go_upto_region 1 with fail
 clear hA
 clear hweq
 obtain ⟨α, iα, F, hF1, hF2⟩ := cls x1
 have hq := GL.fcC hF1 hL0
 simp only [zC, Nat.reduceAdd] at hq
 refine region_qs 11 (C := fun w' => ∃ x, w' = F x) (by kernel_rfl) (by kernel_rfl) (cls_drew hF2) ?_
 simp only [zT]
 repeat (go_big_quiet_step (first | fail | (go_at_call 69; with_reducible exact cls_call hF1 hF2 HM.out _) | (go_at_call 132; with_reducible exact cls_call hF1 hF2 HF.out _)))
 refine wpQuiet_nil ?_
 rintro wq ⟨xq, rfl⟩
 replace hL0 := hL0.call (hF1 xq)
 clear hq hF2
 generalize F xq = x2 at hL0 ⊢
 clear hF1 xq iα F α
 have hA := hL0.fc
 simp only [zF, Nat.reduceAdd] at hA
 obtain ⟨x3, hput1, hP⟩ := GL.named (hL0.put 0 (w.heap.size + 1 + 1) _ rfl [.int .u64 ((lo p : Nat) : Int), .string (hs p), .bool d] rfl)
 simp only [setAll] at hput1
 simp only [List.set_cons_zero, List.set_cons_succ] at hP
 have hB1 := hP.fc
 simp only [zF, Nat.reduceAdd] at hB1
 replace hL0 := hP
 go_wp2_with fail
 exact bodyPost_ret (v := zV d p) (by simp [results, Tryz.results68, go_sem, hB1]) rfl ⟨rfl, hL0.bl⟩
theorem imul_false_true (m n : Nat) (hm : (digs m).length ≤ 1000000000) (hn : (digs n).length ≤ 1000000000) (w : World) :
  Calls Tryz.prog 68 #[zV false m, zV true n] w fun e w' => e = .returned (zV (decide (m * n ≠ 0)) (m * n)) ∧ Below w.heap.size w w' := by
 have hL0 : GL w w [] := GL.start w
 have HM := Lib.hid (fun w => mul_any m n (by omega) (by omega) w)
 generalize m * n = p at *
 have HF := Lib.hid (fun w => from_any true p w)
 simp only [Bool.true_and] at HF
 obtain ⟨d, hd⟩ : ∃ d, d = decide (p ≠ 0) := ⟨_, rfl⟩
 rw [← hd] at HF ⊢
 clear hd
 clear hm hn
 obtain ⟨x1, hweq, hL0⟩ := GL.named (((hL0.new rfl [.int .u64 ((lo m : Nat) : Int), .string (hs m), .bool false] 34).new (K := w.heap.size + 1) (szA _ _) [.int .u64 ((lo n : Nat) : Int), .string (hs n), .bool true] 34).new (K := w.heap.size + 1 + 1) (by simp only [World.size_alloc]) [.int .u64 0, .string ⟨#[]⟩, .bool false] 34)
 go_enter Tryz.func68, Tryz.ntmps68
 have hA := hL0.fc
 simp only [zF, Nat.reduceAdd] at hA
 go_upto_region 1 with fail
 clear hA
 clear hweq
 obtain ⟨α, iα, F, hF1, hF2⟩ := cls x1
 have hq := GL.fcC hF1 hL0
 simp only [zC, Nat.reduceAdd] at hq
 refine region_qs 11 (C := fun w' => ∃ x, w' = F x) (by kernel_rfl) (by kernel_rfl) (cls_drew hF2) ?_
 simp only [zT]
 repeat (go_big_quiet_step (first | fail | (go_at_call 69; with_reducible exact cls_call hF1 hF2 HM.out _) | (go_at_call 132; with_reducible exact cls_call hF1 hF2 HF.out _)))
 refine wpQuiet_nil ?_
 rintro wq ⟨xq, rfl⟩
 replace hL0 := hL0.call (hF1 xq)
 clear hq hF2
 generalize F xq = x2 at hL0 ⊢
 clear hF1 xq iα F α
 have hA := hL0.fc
 simp only [zF, Nat.reduceAdd] at hA
 obtain ⟨x3, hput1, hP⟩ := GL.named (hL0.put 0 (w.heap.size + 1 + 1) _ rfl [.int .u64 ((lo p : Nat) : Int), .string (hs p), .bool d] rfl)
 simp only [setAll] at hput1
 simp only [List.set_cons_zero, List.set_cons_succ] at hP
 have hB1 := hP.fc
 simp only [zF, Nat.reduceAdd] at hB1
 replace hL0 := hP
 go_wp2_with fail
 exact bodyPost_ret (v := zV d p) (by simp [results, Tryz.results68, go_sem, hB1]) rfl ⟨rfl, hL0.bl⟩
theorem imul_false_false (m n : Nat) (hm : (digs m).length ≤ 1000000000) (hn : (digs n).length ≤ 1000000000) (w : World) :
  Calls Tryz.prog 68 #[zV false m, zV false n] w fun e w' => e = .returned (zV false (m * n)) ∧ Below w.heap.size w w' := by
 have hL0 : GL w w [] := GL.start w
 have HM := Lib.hid (fun w => mul_any m n (by omega) (by omega) w)
 generalize m * n = p at *
 have HF := Lib.hid (fun w => from_any false p w)
 simp only [Bool.false_and] at HF
 clear hm hn
 obtain ⟨x1, hweq, hL0⟩ := GL.named (((hL0.new rfl [.int .u64 ((lo m : Nat) : Int), .string (hs m), .bool false] 34).new (K := w.heap.size + 1) (szA _ _) [.int .u64 ((lo n : Nat) : Int), .string (hs n), .bool false] 34).new (K := w.heap.size + 1 + 1) (by simp only [World.size_alloc]) [.int .u64 0, .string ⟨#[]⟩, .bool false] 34)
 go_enter Tryz.func68, Tryz.ntmps68
 have hA := hL0.fc
 simp only [zF, Nat.reduceAdd] at hA
 go_upto_region 1 with fail
 clear hA
 clear hweq
 obtain ⟨α, iα, F, hF1, hF2⟩ := cls x1
 have hq := GL.fcC hF1 hL0
 simp only [zC, Nat.reduceAdd] at hq
 refine region_qs 11 (C := fun w' => ∃ x, w' = F x) (by kernel_rfl) (by kernel_rfl) (cls_drew hF2) ?_
 simp only [zT]
 repeat (go_big_quiet_step (first | fail | (go_at_call 69; with_reducible exact cls_call hF1 hF2 HM.out _) | (go_at_call 132; with_reducible exact cls_call hF1 hF2 HF.out _)))
 refine wpQuiet_nil ?_
 rintro wq ⟨xq, rfl⟩
 replace hL0 := hL0.call (hF1 xq)
 clear hq hF2
 generalize F xq = x2 at hL0 ⊢
 clear hF1 xq iα F α
 have hA := hL0.fc
 simp only [zF, Nat.reduceAdd] at hA
 obtain ⟨x3, hput1, hP⟩ := GL.named (hL0.put 0 (w.heap.size + 1 + 1) _ rfl [.int .u64 ((lo p : Nat) : Int), .string (hs p), .bool false] rfl)
 simp only [setAll] at hput1
 simp only [List.set_cons_zero, List.set_cons_succ] at hP
 have hB1 := hP.fc
 simp only [zF, Nat.reduceAdd] at hB1
 replace hL0 := hP
 go_wp2_with fail
 exact bodyPost_ret (v := zV false p) (by simp [results, Tryz.results68, go_sem, hB1]) rfl ⟨rfl, hL0.bl⟩
end Go.Proofs.YthffglapmkkohaaGreatDoor
namespace Go.Proofs.YthffglapmkkohaaGreatDoor
open Go.RowKit
attribute [local irreducible] lo hs sm s64 c64 d64 b64 mh ml pd pc qd qc val hiB str cmpI srD lz nb
theorem out_true (m n : Nat) (hm : (digs m).length ≤ 1000000000) (hn : (digs n).length ≤ 1000000000) (w : World) :
  Calls Tryz.prog 138 #[zV true m, natV n] w fun e w' => e = .returned (zV (decide (m + n ≠ 0)) (m + n)) ∧ Below w.heap.size w w' := by
 have hL0 : GL w w [] := GL.start w
 have HA := Lib.hid (fun w => add_any m n (by omega) (by omega) w)
 generalize m + n = p at *
 have HF := Lib.hid (fun w => from_any true p w)
 simp only [Bool.true_and] at HF
 obtain ⟨d, hd⟩ : ∃ d, d = decide (p ≠ 0) := ⟨_, rfl⟩
 rw [← hd] at HF ⊢
 clear hd
 clear hm hn
 obtain ⟨x1, hweq, hL0⟩ := GL.named (((hL0.new rfl [.int .u64 ((lo m : Nat) : Int), .string (hs m), .bool true] 34).new (K := w.heap.size + 1) (szA _ _) [.int .u64 ((lo n : Nat) : Int), .string (hs n)] 32).new (K := w.heap.size + 1 + 1) (by simp only [World.size_alloc]) [.int .u64 0, .string ⟨#[]⟩, .bool false] 34)
 go_enter Tryz.func138, Tryz.ntmps138
 have hA := hL0.fc
 simp only [zF, Nat.reduceAdd] at hA
 go_upto_region 1 with fail
 clear hA
 clear hweq
 obtain ⟨α, iα, F, hF1, hF2⟩ := cls x1
 have hq := GL.fcC hF1 hL0
 simp only [zC, Nat.reduceAdd] at hq
 refine region_qs 7 (C := fun w' => ∃ x, w' = F x) (by kernel_rfl) (by kernel_rfl) (cls_drew hF2) ?_
 simp only [zT]
 repeat (go_big_quiet_step (first | fail | (go_at_call 174; with_reducible exact cls_call hF1 hF2 HA.out _) | (go_at_call 132; with_reducible exact cls_call hF1 hF2 HF.out _)))
 refine wpQuiet_nil ?_
 rintro wq ⟨xq, rfl⟩
 replace hL0 := hL0.call (hF1 xq)
 clear hq hF2
 generalize F xq = x2 at hL0 ⊢
 clear hF1 xq iα F α
 have hA := hL0.fc
 simp only [zF, Nat.reduceAdd] at hA
 obtain ⟨x3, hput1, hP⟩ := GL.named (hL0.put 0 (w.heap.size + 1 + 1) _ rfl [.int .u64 ((lo p : Nat) : Int), .string (hs p), .bool d] rfl)
 simp only [setAll] at hput1
 simp only [List.set_cons_zero, List.set_cons_succ] at hP
 have hB1 := hP.fc
 simp only [zF, Nat.reduceAdd] at hB1
 replace hL0 := hP
 go_wp2_with fail
 exact bodyPost_ret (v := zV d p) (by simp [results, Tryz.results138, go_sem, hB1]) rfl ⟨rfl, hL0.bl⟩
theorem out_false (m n : Nat) (hm : (digs m).length ≤ 1000000000) (hn : (digs n).length ≤ 1000000000) (w : World) :
  Calls Tryz.prog 138 #[zV false m, natV n] w fun e w' => e = .returned (zV false (m + n)) ∧ Below w.heap.size w w' := by
 have hL0 : GL w w [] := GL.start w
 have HA := Lib.hid (fun w => add_any m n (by omega) (by omega) w)
 generalize m + n = p at *
 have HF := Lib.hid (fun w => from_any false p w)
 simp only [Bool.false_and] at HF
 clear hm hn
 obtain ⟨x1, hweq, hL0⟩ := GL.named (((hL0.new rfl [.int .u64 ((lo m : Nat) : Int), .string (hs m), .bool false] 34).new (K := w.heap.size + 1) (szA _ _) [.int .u64 ((lo n : Nat) : Int), .string (hs n)] 32).new (K := w.heap.size + 1 + 1) (by simp only [World.size_alloc]) [.int .u64 0, .string ⟨#[]⟩, .bool false] 34)
 go_enter Tryz.func138, Tryz.ntmps138
 have hA := hL0.fc
 simp only [zF, Nat.reduceAdd] at hA
 go_upto_region 1 with fail
 clear hA
 clear hweq
 obtain ⟨α, iα, F, hF1, hF2⟩ := cls x1
 have hq := GL.fcC hF1 hL0
 simp only [zC, Nat.reduceAdd] at hq
 refine region_qs 7 (C := fun w' => ∃ x, w' = F x) (by kernel_rfl) (by kernel_rfl) (cls_drew hF2) ?_
 simp only [zT]
 repeat (go_big_quiet_step (first | fail | (go_at_call 174; with_reducible exact cls_call hF1 hF2 HA.out _) | (go_at_call 132; with_reducible exact cls_call hF1 hF2 HF.out _)))
 refine wpQuiet_nil ?_
 rintro wq ⟨xq, rfl⟩
 replace hL0 := hL0.call (hF1 xq)
 clear hq hF2
 generalize F xq = x2 at hL0 ⊢
 clear hF1 xq iα F α
 have hA := hL0.fc
 simp only [zF, Nat.reduceAdd] at hA
 obtain ⟨x3, hput1, hP⟩ := GL.named (hL0.put 0 (w.heap.size + 1 + 1) _ rfl [.int .u64 ((lo p : Nat) : Int), .string (hs p), .bool false] rfl)
 simp only [setAll] at hput1
 simp only [List.set_cons_zero, List.set_cons_succ] at hP
 have hB1 := hP.fc
 simp only [zF, Nat.reduceAdd] at hB1
 replace hL0 := hP
 go_wp2_with fail
 exact bodyPost_ret (v := zV false p) (by simp [results, Tryz.results138, go_sem, hB1]) rfl ⟨rfl, hL0.bl⟩
theorem in_true_ge (m n : Nat) (h : n ≤ m) (hm : (digs m).length ≤ 1000000000) (hn : (digs n).length ≤ 1000000000) (w : World) :
  Calls Tryz.prog 139 #[zV true m, natV n] w fun e w' => e = .returned (zV (decide (m - n ≠ 0)) (m - n)) ∧ Below w.heap.size w w' := by
 have hL0 : GL w w [] := GL.start w
 have HS := Lib.hid (fun w => sub_ge m n h (by omega) w)
 generalize m - n = p at *
 have HF := Lib.hid (fun w => from_any true p w)
 simp only [Bool.true_and] at HF
 obtain ⟨d, hd⟩ : ∃ d, d = decide (p ≠ 0) := ⟨_, rfl⟩
 rw [← hd] at HF ⊢
 clear hd
 clear hm hn h
 obtain ⟨x1, hweq, hL0⟩ := GL.named (((hL0.new rfl [.int .u64 ((lo m : Nat) : Int), .string (hs m), .bool true] 34).new (K := w.heap.size + 1) (szA _ _) [.int .u64 ((lo n : Nat) : Int), .string (hs n)] 32).new (K := w.heap.size + 1 + 1) (by simp only [World.size_alloc]) [.int .u64 0, .string ⟨#[]⟩, .bool false] 34)
 go_enter Tryz.func139, Tryz.ntmps139
 have hA := hL0.fc
 simp only [zF, Nat.reduceAdd] at hA
 go_wp2_with fail
 clear hA
 with_reducible refine Calls.mono (HS.out _) ?_
 rintro e x2 ⟨rfl, hb⟩
 replace hL0 := hL0.call hb
 clear hb hweq
 obtain ⟨x3, hweq, hL0⟩ := GL.named (hL0.new rfl [.int .u64 ((lo p : Nat) : Int), .string (hs p)] 32)
 have hA := hL0.fc
 simp only [zF, Nat.reduceAdd] at hA
 go_wp2_with fail
 clear hA
 with_reducible refine Calls.mono (HF.out _) ?_
 rintro e x4 ⟨rfl, hb⟩
 replace hL0 := hL0.call hb
 clear hb hweq
 have hA := hL0.fc
 simp only [zF, Nat.reduceAdd] at hA
 obtain ⟨x5, hput1, hP⟩ := GL.named (hL0.put 1 (w.heap.size + 1 + 1) _ rfl [.int .u64 ((lo p : Nat) : Int), .string (hs p), .bool d] rfl)
 simp only [setAll] at hput1
 simp only [List.set_cons_zero, List.set_cons_succ] at hP
 have hB1 := hP.fc
 simp only [zF, Nat.reduceAdd] at hB1
 replace hL0 := hP
 go_wp2_with fail
 exact bodyPost_ret (v := zV d p) (by simp [results, Tryz.results139, go_sem, hB1]) rfl ⟨rfl, hL0.bl⟩
theorem in_true_lt (m n : Nat) (h : m < n) (hm : (digs m).length ≤ 1000000000) (hn : (digs n).length ≤ 1000000000) (w : World) :
  Calls Tryz.prog 139 #[zV true m, natV n] w fun e w' => e = .returned (zV false (n - m)) ∧ Below w.heap.size w w' := by
 have hL0 : GL w w [] := GL.start w
 have HS := Lib.hid (fun w => sub_lt m n h w)
 have HT := Lib.hid (fun w => sub_ge n m (by omega) (by omega) w)
 generalize n - m = p at *
 have HF := Lib.hid (fun w => from_any false p w)
 simp only [Bool.false_and] at HF
 clear hm hn h
 obtain ⟨x1, hweq, hL0⟩ := GL.named (((hL0.new rfl [.int .u64 ((lo m : Nat) : Int), .string (hs m), .bool true] 34).new (K := w.heap.size + 1) (szA _ _) [.int .u64 ((lo n : Nat) : Int), .string (hs n)] 32).new (K := w.heap.size + 1 + 1) (by simp only [World.size_alloc]) [.int .u64 0, .string ⟨#[]⟩, .bool false] 34)
 go_enter Tryz.func139, Tryz.ntmps139
 have hA := hL0.fc
 simp only [zF, Nat.reduceAdd] at hA
 go_wp2_with fail
 clear hA
 with_reducible refine Calls.mono (HS.out _) ?_
 rintro e x2 ⟨rfl, hb⟩
 replace hL0 := hL0.call hb
 clear hb hweq
 obtain ⟨x3, hweq, hL0⟩ := GL.named (hL0.new rfl [.int .u64 ((lo 0 : Nat) : Int), .string (hs 0)] 32)
 have hA := hL0.fc
 simp only [zF, Nat.reduceAdd] at hA
 go_wp2_with fail
 clear hA
 with_reducible refine Calls.mono (HT.out _) ?_
 rintro e x4 ⟨rfl, hb⟩
 replace hL0 := hL0.call hb
 clear hb hweq
 obtain ⟨x5, hweq, hL0⟩ := GL.named (hL0.new rfl [.int .u64 ((lo p : Nat) : Int), .string (hs p)] 32)
 have hA := hL0.fc
 simp only [zF, Nat.reduceAdd] at hA
 go_wp2_with fail
 clear hA
 with_reducible refine Calls.mono (HF.out _) ?_
 rintro e x6 ⟨rfl, hb⟩
 replace hL0 := hL0.call hb
 clear hb hweq
 have hA := hL0.fc
 simp only [zF, Nat.reduceAdd] at hA
 obtain ⟨x7, hput1, hP⟩ := GL.named (hL0.put 2 (w.heap.size + 1 + 1) _ rfl [.int .u64 ((lo p : Nat) : Int), .string (hs p), .bool false] rfl)
 simp only [setAll] at hput1
 simp only [List.set_cons_zero, List.set_cons_succ] at hP
 have hB1 := hP.fc
 simp only [zF, Nat.reduceAdd] at hB1
 replace hL0 := hP
 go_wp2_with fail
 exact bodyPost_ret (v := zV false p) (by simp [results, Tryz.results139, go_sem, hB1]) rfl ⟨rfl, hL0.bl⟩
theorem in_false_ge (m n : Nat) (h : n ≤ m) (hm : (digs m).length ≤ 1000000000) (hn : (digs n).length ≤ 1000000000) (w : World) :
  Calls Tryz.prog 139 #[zV false m, natV n] w fun e w' => e = .returned (zV false (m - n)) ∧ Below w.heap.size w w' := by
 have hL0 : GL w w [] := GL.start w
 have HS := Lib.hid (fun w => sub_ge m n h (by omega) w)
 generalize m - n = p at *
 have HF := Lib.hid (fun w => from_any false p w)
 simp only [Bool.false_and] at HF
 clear hm hn h
 obtain ⟨x1, hweq, hL0⟩ := GL.named (((hL0.new rfl [.int .u64 ((lo m : Nat) : Int), .string (hs m), .bool false] 34).new (K := w.heap.size + 1) (szA _ _) [.int .u64 ((lo n : Nat) : Int), .string (hs n)] 32).new (K := w.heap.size + 1 + 1) (by simp only [World.size_alloc]) [.int .u64 0, .string ⟨#[]⟩, .bool false] 34)
 go_enter Tryz.func139, Tryz.ntmps139
 have hA := hL0.fc
 simp only [zF, Nat.reduceAdd] at hA
 go_wp2_with fail
 clear hA
 with_reducible refine Calls.mono (HS.out _) ?_
 rintro e x2 ⟨rfl, hb⟩
 replace hL0 := hL0.call hb
 clear hb hweq
 obtain ⟨x3, hweq, hL0⟩ := GL.named (hL0.new rfl [.int .u64 ((lo p : Nat) : Int), .string (hs p)] 32)
 have hA := hL0.fc
 simp only [zF, Nat.reduceAdd] at hA
 go_wp2_with fail
 clear hA
 with_reducible refine Calls.mono (HF.out _) ?_
 rintro e x4 ⟨rfl, hb⟩
 replace hL0 := hL0.call hb
 clear hb hweq
 have hA := hL0.fc
 simp only [zF, Nat.reduceAdd] at hA
 obtain ⟨x5, hput1, hP⟩ := GL.named (hL0.put 1 (w.heap.size + 1 + 1) _ rfl [.int .u64 ((lo p : Nat) : Int), .string (hs p), .bool false] rfl)
 simp only [setAll] at hput1
 simp only [List.set_cons_zero, List.set_cons_succ] at hP
 have hB1 := hP.fc
 simp only [zF, Nat.reduceAdd] at hB1
 replace hL0 := hP
 go_wp2_with fail
 exact bodyPost_ret (v := zV false p) (by simp [results, Tryz.results139, go_sem, hB1]) rfl ⟨rfl, hL0.bl⟩
theorem in_false_lt (m n : Nat) (h : m < n) (hm : (digs m).length ≤ 1000000000) (hn : (digs n).length ≤ 1000000000) (w : World) :
  Calls Tryz.prog 139 #[zV false m, natV n] w fun e w' => e = .returned (zV (decide (n - m ≠ 0)) (n - m)) ∧ Below w.heap.size w w' := by
 have hL0 : GL w w [] := GL.start w
 have HS := Lib.hid (fun w => sub_lt m n h w)
 have HT := Lib.hid (fun w => sub_ge n m (by omega) (by omega) w)
 generalize n - m = p at *
 have HF := Lib.hid (fun w => from_any true p w)
 simp only [Bool.true_and] at HF
 obtain ⟨d, hd⟩ : ∃ d, d = decide (p ≠ 0) := ⟨_, rfl⟩
 rw [← hd] at HF ⊢
 clear hd
 clear hm hn h
 obtain ⟨x1, hweq, hL0⟩ := GL.named (((hL0.new rfl [.int .u64 ((lo m : Nat) : Int), .string (hs m), .bool false] 34).new (K := w.heap.size + 1) (szA _ _) [.int .u64 ((lo n : Nat) : Int), .string (hs n)] 32).new (K := w.heap.size + 1 + 1) (by simp only [World.size_alloc]) [.int .u64 0, .string ⟨#[]⟩, .bool false] 34)
 go_enter Tryz.func139, Tryz.ntmps139
 have hA := hL0.fc
 simp only [zF, Nat.reduceAdd] at hA
 go_wp2_with fail
 clear hA
 with_reducible refine Calls.mono (HS.out _) ?_
 rintro e x2 ⟨rfl, hb⟩
 replace hL0 := hL0.call hb
 clear hb hweq
 obtain ⟨x3, hweq, hL0⟩ := GL.named (hL0.new rfl [.int .u64 ((lo 0 : Nat) : Int), .string (hs 0)] 32)
 have hA := hL0.fc
 simp only [zF, Nat.reduceAdd] at hA
 go_wp2_with fail
 clear hA
 with_reducible refine Calls.mono (HT.out _) ?_
 rintro e x4 ⟨rfl, hb⟩
 replace hL0 := hL0.call hb
 clear hb hweq
 obtain ⟨x5, hweq, hL0⟩ := GL.named (hL0.new rfl [.int .u64 ((lo p : Nat) : Int), .string (hs p)] 32)
 have hA := hL0.fc
 simp only [zF, Nat.reduceAdd] at hA
 go_wp2_with fail
 clear hA
 with_reducible refine Calls.mono (HF.out _) ?_
 rintro e x6 ⟨rfl, hb⟩
 replace hL0 := hL0.call hb
 clear hb hweq
 have hA := hL0.fc
 simp only [zF, Nat.reduceAdd] at hA
 obtain ⟨x7, hput1, hP⟩ := GL.named (hL0.put 2 (w.heap.size + 1 + 1) _ rfl [.int .u64 ((lo p : Nat) : Int), .string (hs p), .bool d] rfl)
 simp only [setAll] at hput1
 simp only [List.set_cons_zero, List.set_cons_succ] at hP
 have hB1 := hP.fc
 simp only [zF, Nat.reduceAdd] at hB1
 replace hL0 := hP
 go_wp2_with fail
 exact bodyPost_ret (v := zV d p) (by simp [results, Tryz.results139, go_sem, hB1]) rfl ⟨rfl, hL0.bl⟩
theorem byadd_true_true (m n k : Nat) (u : Bool) (H : ∀ w, Calls Tryz.prog 138 #[zV true m, natV n] w fun e w' => e = .returned (zV u k) ∧ Below w.heap.size w w') (w : World) :
  Calls Tryz.prog 137 #[zV true m, zV true n, .func (.func 138) #[] #[], .func (.func 139) #[] #[]] w fun e w' => e = .returned (zV u k) ∧ Below w.heap.size w w' := by
 have hL0 : GL w w [] := GL.start w
 replace H := Lib.hid H
 obtain ⟨x1, hweq, hL0⟩ := GL.named (((hL0.new rfl [.int .u64 ((lo m : Nat) : Int), .string (hs m), .bool true] 34).new (K := w.heap.size + 1) (szA _ _) [.int .u64 ((lo n : Nat) : Int), .string (hs n), .bool true] 34).new (K := w.heap.size + 1 + 1) (by simp only [World.size_alloc]) [.int .u64 0, .string ⟨#[]⟩, .bool false] 34)
 go_enter Tryz.func137, Tryz.ntmps137
 have hA := hL0.fc
 simp only [zF, Nat.reduceAdd] at hA
 go_wp2_with fail
 clear hA
 with_reducible refine Calls.mono (H.out _) ?_
 rintro e x2 ⟨rfl, hb⟩
 replace hL0 := hL0.call hb
 clear hb hweq
 have hA := hL0.fc
 simp only [zF, Nat.reduceAdd] at hA
 obtain ⟨x3, hput1, hP⟩ := GL.named (hL0.put 0 (w.heap.size + 1 + 1) _ rfl [.int .u64 ((lo k : Nat) : Int), .string (hs k), .bool u] rfl)
 simp only [setAll] at hput1
 simp only [List.set_cons_zero, List.set_cons_succ] at hP
 have hB1 := hP.fc
 simp only [zF, Nat.reduceAdd] at hB1
 replace hL0 := hP
 go_wp2_with fail
 exact bodyPost_ret (v := zV u k) (by simp [results, Tryz.results137, go_sem, hB1]) rfl ⟨rfl, hL0.bl⟩
theorem byadd_true_false (m n k : Nat) (u : Bool) (H : ∀ w, Calls Tryz.prog 139 #[zV true m, natV n] w fun e w' => e = .returned (zV u k) ∧ Below w.heap.size w w') (w : World) :
  Calls Tryz.prog 137 #[zV true m, zV false n, .func (.func 138) #[] #[], .func (.func 139) #[] #[]] w fun e w' => e = .returned (zV u k) ∧ Below w.heap.size w w' := by
 have hL0 : GL w w [] := GL.start w
 replace H := Lib.hid H
 obtain ⟨x1, hweq, hL0⟩ := GL.named (((hL0.new rfl [.int .u64 ((lo m : Nat) : Int), .string (hs m), .bool true] 34).new (K := w.heap.size + 1) (szA _ _) [.int .u64 ((lo n : Nat) : Int), .string (hs n), .bool false] 34).new (K := w.heap.size + 1 + 1) (by simp only [World.size_alloc]) [.int .u64 0, .string ⟨#[]⟩, .bool false] 34)
 go_enter Tryz.func137, Tryz.ntmps137
 have hA := hL0.fc
 simp only [zF, Nat.reduceAdd] at hA
 go_wp2_with fail
 clear hA
 with_reducible refine Calls.mono (H.out _) ?_
 rintro e x2 ⟨rfl, hb⟩
 replace hL0 := hL0.call hb
 clear hb hweq
 have hA := hL0.fc
 simp only [zF, Nat.reduceAdd] at hA
 obtain ⟨x3, hput1, hP⟩ := GL.named (hL0.put 0 (w.heap.size + 1 + 1) _ rfl [.int .u64 ((lo k : Nat) : Int), .string (hs k), .bool u] rfl)
 simp only [setAll] at hput1
 simp only [List.set_cons_zero, List.set_cons_succ] at hP
 have hB1 := hP.fc
 simp only [zF, Nat.reduceAdd] at hB1
 replace hL0 := hP
 go_wp2_with fail
 exact bodyPost_ret (v := zV u k) (by simp [results, Tryz.results137, go_sem, hB1]) rfl ⟨rfl, hL0.bl⟩
theorem byadd_false_true (m n k : Nat) (u : Bool) (H : ∀ w, Calls Tryz.prog 139 #[zV false m, natV n] w fun e w' => e = .returned (zV u k) ∧ Below w.heap.size w w') (w : World) :
  Calls Tryz.prog 137 #[zV false m, zV true n, .func (.func 138) #[] #[], .func (.func 139) #[] #[]] w fun e w' => e = .returned (zV u k) ∧ Below w.heap.size w w' := by
 have hL0 : GL w w [] := GL.start w
 replace H := Lib.hid H
 obtain ⟨x1, hweq, hL0⟩ := GL.named (((hL0.new rfl [.int .u64 ((lo m : Nat) : Int), .string (hs m), .bool false] 34).new (K := w.heap.size + 1) (szA _ _) [.int .u64 ((lo n : Nat) : Int), .string (hs n), .bool true] 34).new (K := w.heap.size + 1 + 1) (by simp only [World.size_alloc]) [.int .u64 0, .string ⟨#[]⟩, .bool false] 34)
 go_enter Tryz.func137, Tryz.ntmps137
 have hA := hL0.fc
 simp only [zF, Nat.reduceAdd] at hA
 go_wp2_with fail
 clear hA
 with_reducible refine Calls.mono (H.out _) ?_
 rintro e x2 ⟨rfl, hb⟩
 replace hL0 := hL0.call hb
 clear hb hweq
 have hA := hL0.fc
 simp only [zF, Nat.reduceAdd] at hA
 obtain ⟨x3, hput1, hP⟩ := GL.named (hL0.put 0 (w.heap.size + 1 + 1) _ rfl [.int .u64 ((lo k : Nat) : Int), .string (hs k), .bool u] rfl)
 simp only [setAll] at hput1
 simp only [List.set_cons_zero, List.set_cons_succ] at hP
 have hB1 := hP.fc
 simp only [zF, Nat.reduceAdd] at hB1
 replace hL0 := hP
 go_wp2_with fail
 exact bodyPost_ret (v := zV u k) (by simp [results, Tryz.results137, go_sem, hB1]) rfl ⟨rfl, hL0.bl⟩
theorem byadd_false_false (m n k : Nat) (u : Bool) (H : ∀ w, Calls Tryz.prog 138 #[zV false m, natV n] w fun e w' => e = .returned (zV u k) ∧ Below w.heap.size w w') (w : World) :
  Calls Tryz.prog 137 #[zV false m, zV false n, .func (.func 138) #[] #[], .func (.func 139) #[] #[]] w fun e w' => e = .returned (zV u k) ∧ Below w.heap.size w w' := by
 have hL0 : GL w w [] := GL.start w
 replace H := Lib.hid H
 obtain ⟨x1, hweq, hL0⟩ := GL.named (((hL0.new rfl [.int .u64 ((lo m : Nat) : Int), .string (hs m), .bool false] 34).new (K := w.heap.size + 1) (szA _ _) [.int .u64 ((lo n : Nat) : Int), .string (hs n), .bool false] 34).new (K := w.heap.size + 1 + 1) (by simp only [World.size_alloc]) [.int .u64 0, .string ⟨#[]⟩, .bool false] 34)
 go_enter Tryz.func137, Tryz.ntmps137
 have hA := hL0.fc
 simp only [zF, Nat.reduceAdd] at hA
 go_wp2_with fail
 clear hA
 with_reducible refine Calls.mono (H.out _) ?_
 rintro e x2 ⟨rfl, hb⟩
 replace hL0 := hL0.call hb
 clear hb hweq
 have hA := hL0.fc
 simp only [zF, Nat.reduceAdd] at hA
 obtain ⟨x3, hput1, hP⟩ := GL.named (hL0.put 0 (w.heap.size + 1 + 1) _ rfl [.int .u64 ((lo k : Nat) : Int), .string (hs k), .bool u] rfl)
 simp only [setAll] at hput1
 simp only [List.set_cons_zero, List.set_cons_succ] at hP
 have hB1 := hP.fc
 simp only [zF, Nat.reduceAdd] at hB1
 replace hL0 := hP
 go_wp2_with fail
 exact bodyPost_ret (v := zV u k) (by simp [results, Tryz.results137, go_sem, hB1]) rfl ⟨rfl, hL0.bl⟩
theorem iadd (s t u : Bool) (m n k : Nat) (H : ∀ w, Calls Tryz.prog 137 #[zV s m, zV t n, .func (.func 138) #[] #[], .func (.func 139) #[] #[]] w fun e w' => e = .returned (zV u k) ∧ Below w.heap.size w w') (w : World) :
  Calls Tryz.prog 64 #[zV s m, zV t n] w fun e w' => e = .returned (zV u k) ∧ Below w.heap.size w w' := by
 have hL0 : GL w w [] := GL.start w
 replace H := Lib.hid H
 obtain ⟨x1, hweq, hL0⟩ := GL.named (((hL0.new rfl [.int .u64 ((lo m : Nat) : Int), .string (hs m), .bool s] 34).new (K := w.heap.size + 1) (szA _ _) [.int .u64 ((lo n : Nat) : Int), .string (hs n), .bool t] 34).new (K := w.heap.size + 1 + 1) (by simp only [World.size_alloc]) [.int .u64 0, .string ⟨#[]⟩, .bool false] 34)
 go_enter Tryz.func64, Tryz.ntmps64
 have hA := hL0.fc
 simp only [zF, Nat.reduceAdd] at hA
 go_wp2_with fail
 clear hA
 with_reducible refine Calls.mono (H.out _) ?_
 rintro e x2 ⟨rfl, hb⟩
 replace hL0 := hL0.call hb
 clear hb hweq
 have hA := hL0.fc
 simp only [zF, Nat.reduceAdd] at hA
 obtain ⟨x3, hput1, hP⟩ := GL.named (hL0.put 0 (w.heap.size + 1 + 1) _ rfl [.int .u64 ((lo k : Nat) : Int), .string (hs k), .bool u] rfl)
 simp only [setAll] at hput1
 simp only [List.set_cons_zero, List.set_cons_succ] at hP
 have hB1 := hP.fc
 simp only [zF, Nat.reduceAdd] at hB1
 replace hL0 := hP
 go_wp2_with fail
 exact bodyPost_ret (v := zV u k) (by simp [results, Tryz.results64, go_sem, hB1]) rfl ⟨rfl, hL0.bl⟩
end Go.Proofs.YthffglapmkkohaaGreatDoor
namespace Go.Proofs.YthffglapmkkohaaGreatDoor
open Go.RowKit
attribute [local irreducible] lo hs sm s64 c64 d64 b64 mh ml pd pc qd qc val hiB str cmpI srD lz nb
theorem dec_size {n k : Nat} (hk : 0 < k) (h : (digs n).length ≤ k) : (Lib.decDigits n).length ≤ 20 * k := by
 refine (dec_length_lt (by omega)).2 (Nat.lt_of_lt_of_le (digs_length_iff.1 h) ?_)
 rw [Nat.pow_mul]
 exact Nat.pow_le_pow_left (by unfold Bs; decide) k
theorem txt_small {n k : Nat} (hk : 0 < k) (h : (digs n).length ≤ k) : (txt n).size ≤ 20 * k := dec_size hk h
theorem itext_false (m : Nat) (hm : (digs m).length ≤ 1000000) (w : World) (htab : Tab w) :
  Calls Tryz.prog 162 #[zV false m] w fun e w' => e = .returned (.string (txt m)) ∧ Below w.heap.size w w' := by
 have hL0 : GL w w [] := GL.start w
 have HT := Lib.hid (fun w h => text_any m (by omega) w h)
 clear hm
 obtain ⟨x1, hweq, hL0⟩ := GL.named (hL0.new rfl [.int .u64 ((lo m : Nat) : Int), .string (hs m), .bool false] 34)
 go_enter Tryz.func162, Tryz.ntmps162
 have hA := hL0.fc
 simp only [zF, Nat.reduceAdd] at hA
 go_wp2_with fail
 clear hA
 with_reducible refine Calls.mono (HT.out _ (htab.below hL0.bl)) ?_
 rintro e x2 ⟨rfl, hb⟩
 replace hL0 := hL0.call hb
 clear hb hweq
 have hA := hL0.fc
 simp only [zF, Nat.reduceAdd] at hA
 go_wp2_with fail
 exact bodyPost_ret (v := .string (txt m)) (by simp [results, Tryz.results162, go_sem, hA]) rfl ⟨rfl, hL0.bl⟩
theorem itext_true (m : Nat) (hm : (digs m).length ≤ 1000000) (w : World) (htab : Tab w) :
  Calls Tryz.prog 162 #[zV true m] w fun e w' => e = .returned (.string (ByteArray.mk #[45] ++ txt m)) ∧ Below w.heap.size w w' := by
 have hL0 : GL w w [] := GL.start w
 have HT := Lib.hid (fun w h => text_any m (by omega) w h)
 have hts := txt_small (k := 1000000) (by omega) hm
 clear hm
 generalize txt m = t at *
 have hts2 : ((t.size : Nat) : Int) ≤ 20000000 := by omega
 obtain ⟨x1, hweq, hL0⟩ := GL.named (hL0.new rfl [.int .u64 ((lo m : Nat) : Int), .string (hs m), .bool true] 34)
 go_enter Tryz.func162, Tryz.ntmps162
 have hA := hL0.fc
 simp only [zF, Nat.reduceAdd] at hA
 go_wp2_with fail
 clear hA
 with_reducible refine Calls.mono (HT.out _ (htab.below hL0.bl)) ?_
 rintro e x2 ⟨rfl, hb⟩
 replace hL0 := hL0.call hb
 clear hb hweq
 have hA := hL0.fc
 simp only [zF, Nat.reduceAdd] at hA
 go_wp2_with fail
 exact bodyPost_ret (v := .string (ByteArray.mk #[45] ++ t)) (by simp [results, Tryz.results162, go_sem, hA]) rfl ⟨rfl, hL0.bl⟩
end Go.Proofs.YthffglapmkkohaaGreatDoor
namespace Go.Proofs.YthffglapmkkohaaGreatDoor
open Go.RowKit
attribute [local irreducible] lo hs
def zl (z : Int) : Nat := lo z.natAbs
def zh (z : Int) : ByteArray := hs z.natAbs
def zs (z : Int) : Bool := decide (z < 0)
/-- An integer. -/
abbrev intV (z : Int) : Value := .agg #[.int .u64 ((zl z : Nat) : Int), .string (zh z), .bool (zs z)]
theorem intV_zV (z : Int) : intV z = zV (decide (z < 0)) z.natAbs := rfl
theorem res_f {z : Int} {k : Nat} (h : z = (k : Int)) : intV z = zV false k := by subst h; rw [intV_zV, decide_eq_false (by omega), Int.natAbs_natCast]
theorem res_m {z : Int} {k : Nat} (h : z = -(k : Int)) : intV z = zV (decide (k ≠ 0)) k := by
 subst h
 rw [intV_zV, Int.natAbs_neg, Int.natAbs_natCast]
 congr 1
 by_cases h0 : k = 0
 ·subst h0; rfl
 ·rw [decide_eq_true (by omega), decide_eq_true h0]
theorem res_t {z : Int} {k : Nat} (h : z = -(k : Int)) (h0 : k ≠ 0) : intV z = zV true k := by rw [res_m h, decide_eq_true h0]
theorem int_cases (z : Int) : (∃ m : Nat, z = (m : Int) ∧ intV z = zV false m) ∨ (∃ m : Nat, m ≠ 0 ∧ z = -(m : Int) ∧ intV z = zV true m) := by
 rcases Decidable.em (z < 0) with h | h
 ·exact .inr ⟨z.natAbs, by omega, by omega, res_t (by omega) (by omega)⟩
 ·exact .inl ⟨z.natAbs, by omega, res_f (by omega)⟩
theorem intV_inj {x y : Int} (h : intV x = intV y) : x = y := by
 rw [intV_zV, intV_zV] at h
 simp only [zV, Value.agg.injEq, Array.mk.injEq, List.cons.injEq, Value.int.injEq, Value.string.injEq, Value.bool.injEq, and_true, true_and] at h
 obtain ⟨h1, h2, h3⟩ := h
 have h4 : x.natAbs = y.natAbs := natV_inj (by unfold natV; rw [h1, h2])
 by_cases hx : x < 0
 ·rw [decide_eq_true hx] at h3
  have : y < 0 := by simpa using h3.symm
  omega
 ·rw [decide_eq_false hx] at h3
  have : ¬ y < 0 := by simpa using h3.symm
  omega
/-- What == sees of two integers that differ. -/
theorem ne_int {x y : Int} (h : x ≠ y) : (((zl x : Nat) : Int) == ((zl y : Nat) : Int)) = false ∨ ((((zl x : Nat) : Int) == ((zl y : Nat) : Int)) = true ∧ ((zh x).toList == (zh y).toList) = false) ∨
  ((((zl x : Nat) : Int) == ((zl y : Nat) : Int)) = true ∧ ((zh x).toList == (zh y).toList) = true ∧ (zs x == zs y) = false) := by
 by_cases h1 : zl x = zl y
 ·right
  have e1 : (((zl x : Nat) : Int) == ((zl y : Nat) : Int)) = true := by rw [h1]; exact beq_self_eq_true _
  by_cases h2 : zh x = zh y
  ·right
   refine ⟨e1, by rw [h2]; exact beq_self_eq_true _, ?_⟩
   rw [beq_eq_false_iff_ne]
   intro h3
   exact h (intV_inj (by unfold intV; rw [h1, h2, h3]))
  ·left
   refine ⟨e1, beq_eq_false_iff_ne.2 fun h3 => h2 ?_⟩
   unfold zh at h3 ⊢
   rw [hs_toList, hs_toList] at h3
   have h4 := hiB_inj h3
   have h5 := divmod x.natAbs
   have h6 := divmod y.natAbs
   have h7 : lo x.natAbs = lo y.natAbs := h1
   rw [h4, h7, ← h6] at h5
   rw [h5]
 ·left
  exact beq_eq_false_iff_ne.2 fun h2 => h1 (by omega)
/-- The words that an integer's absolute value takes. -/
abbrev dI (z : Int) : Nat := (digs z.natAbs).length
theorem dI_nat (n : Nat) : dI (n : Int) = (digs n).length := by unfold dI; rw [Int.natAbs_natCast]
theorem dI_neg (z : Int) : dI (-z) = dI z := by unfold dI; rw [Int.natAbs_neg]
theorem dI_add {x y : Int} {k : Nat} (hx : dI x ≤ k) (hy : dI y ≤ k) : dI (x + y) ≤ k + 1 :=
 Nat.le_trans (digs_mono (Int.natAbs_add_le x y)) (digs_add_le hx hy)
theorem dI_mul {x y : Int} {k m : Nat} (hx : dI x ≤ k) (hy : dI y ≤ m) : dI (x * y) ≤ k + m := by
 unfold dI; rw [Int.natAbs_mul]; exact digs_mul_le hx hy
theorem dI_mono {x y : Int} (h : x.natAbs ≤ y.natAbs) : dI x ≤ dI y := digs_mono h
theorem fromI (s : Bool) (n : Nat) (z : Int) (hz : z = if s then -(n : Int) else (n : Int)) (w : World) : Calls Tryz.prog 132 #[.bool s, natV n] w fun e w' => e = .returned (intV z) ∧ Below w.heap.size w w' := by
 cases s with
 | false => rw [res_f (z := z) (by simpa using hz)]; exact from_pos n w
 | true =>
  rw [res_m (z := z) (by simpa using hz)]
  have := from_any true n w
  rwa [Bool.true_and] at this
theorem ofI (z : Int) (h1 : -9223372036854775808 ≤ z) (h2 : z < 9223372036854775808) (w : World) : Calls Tryz.prog 62 #[.int .i64 z] w fun e w' => e = .returned (intV z) ∧ Below w.heap.size w w' := by
 rcases Decidable.em (z < 0) with h | h
 ·obtain ⟨m, hm⟩ : ∃ m : Nat, z = -(m : Int) := ⟨z.natAbs, by omega⟩
  rw [res_t hm (by omega)]; exact ofn_any z m hm (by omega) (by omega) w
 ·obtain ⟨m, rfl⟩ : ∃ m : Nat, z = (m : Int) := ⟨z.natAbs, by omega⟩
  rw [res_f rfl]; exact ofp_any m (by omega) w
theorem absI (z : Int) (w : World) : Calls Tryz.prog 124 #[intV z] w fun e w' => e = .returned (natV z.natAbs) ∧ Below w.heap.size w w' := abs_any _ _ w
def sgn (z : Int) : Int := if z < 0 then -1 else if z = 0 then 0 else 1
theorem signI (z : Int) (w : World) : Calls Tryz.prog 121 #[intV z] w fun e w' => e = .returned (.int .i64 (sgn z)) ∧ Below w.heap.size w w' := by
 rcases int_cases z with ⟨m, rfl, h⟩ | ⟨m, h0, rfl, h⟩ <;> rw [h]
 ·by_cases h0 : m = 0
  ·subst h0; exact sign_zero w
  ·rw [show sgn (m : Int) = 1 by unfold sgn; rw [if_neg (by omega), if_neg (by omega)]]; exact sign_pos m h0 w
 ·rw [show sgn (-(m : Int)) = -1 by unfold sgn; rw [if_pos (by omega)]]; exact sign_neg m w
theorem negI (z : Int) (w : World) : Calls Tryz.prog 122 #[intV z] w fun e w' => e = .returned (intV (-z)) ∧ Below w.heap.size w w' := by
 rcases int_cases z with ⟨m, rfl, h⟩ | ⟨m, h0, rfl, h⟩ <;> rw [h]
 ·rw [res_m (z := -(m : Int)) rfl]; exact neg_false m w
 ·rw [res_f (z := -(-(m : Int))) (k := m) (by omega)]; exact neg_true m w
def cmpZ (x y : Int) : Int := if x < y then -1 else if x = y then 0 else 1
theorem cmpII (x y : Int) (w : World) : Calls Tryz.prog 208 #[intV x, intV y] w fun e w' => e = .returned (.int .i64 (cmpZ x y)) ∧ Below w.heap.size w w' := by
 rcases int_cases x with ⟨m, rfl, hx⟩ | ⟨m, hm, rfl, hx⟩ <;> rcases int_cases y with ⟨n, rfl, hy⟩ | ⟨n, hn, rfl, hy⟩ <;> rw [hx, hy]
 ·rw [show cmpZ (m : Int) (n : Int) = cmpI m n by unfold cmpZ cmpI; split <;> split <;> (try split) <;> (try split) <;> omega]; exact icmp_false_false m n w
 ·rw [show cmpZ (m : Int) (-(n : Int)) = 1 by unfold cmpZ; rw [if_neg (by omega), if_neg (by omega)]]; exact icmp_false_true m n w
 ·rw [show cmpZ (-(m : Int)) (n : Int) = -1 by unfold cmpZ; rw [if_pos (by omega)]]; exact icmp_true_false m n w
 ·rw [show cmpZ (-(m : Int)) (-(n : Int)) = cmpI n m by unfold cmpZ cmpI; split <;> split <;> (try split) <;> (try split) <;> omega]; exact icmp_true_true m n w
theorem mulI (x y : Int) (hx : dI x ≤ 1000000000) (hy : dI y ≤ 1000000000) (w : World) : Calls Tryz.prog 68 #[intV x, intV y] w fun e w' => e = .returned (intV (x * y)) ∧ Below w.heap.size w w' := by
 rcases int_cases x with ⟨m, rfl, ex⟩ | ⟨m, hm, rfl, ex⟩ <;> rcases int_cases y with ⟨n, rfl, ey⟩ | ⟨n, hn, rfl, ey⟩ <;> rw [ex, ey] <;> simp only [dI_neg, dI_nat] at hx hy
 ·rw [res_f (k := m * n) (by simp)]; exact imul_false_false m n hx hy w
 ·rw [res_m (k := m * n) (by simp [Int.mul_neg])]; exact imul_false_true m n hx hy w
 ·rw [res_m (k := m * n) (by simp [Int.neg_mul])]; exact imul_true_false m n hx hy w
 ·rw [res_f (k := m * n) (by simp [Int.neg_mul, Int.mul_neg])]; exact imul_true_true m n hx hy w
theorem addI (x y : Int) (hx : dI x ≤ 1000000000) (hy : dI y ≤ 1000000000) (w : World) : Calls Tryz.prog 64 #[intV x, intV y] w fun e w' => e = .returned (intV (x + y)) ∧ Below w.heap.size w w' := by
 rcases int_cases x with ⟨m, rfl, ex⟩ | ⟨m, hm, rfl, ex⟩ <;> rcases int_cases y with ⟨n, rfl, ey⟩ | ⟨n, hn, rfl, ey⟩ <;> rw [ex, ey] <;> simp only [dI_neg, dI_nat] at hx hy
 ·rw [res_f (k := m + n) (by omega)]; exact iadd _ _ _ m n _ (byadd_false_false m n _ _ (out_false m n hx hy)) w
 ·rcases Nat.lt_or_ge m n with h | h
  ·rw [res_m (k := n - m) (by omega)]; exact iadd _ _ _ m n _ (byadd_false_true m n _ _ (in_false_lt m n h hx hy)) w
  ·rw [res_f (k := m - n) (by omega)]; exact iadd _ _ _ m n _ (byadd_false_true m n _ _ (in_false_ge m n h hx hy)) w
 ·rcases Nat.lt_or_ge m n with h | h
  ·rw [res_f (k := n - m) (by omega)]; exact iadd _ _ _ m n _ (byadd_true_false m n _ _ (in_true_lt m n h hx hy)) w
  ·rw [res_m (k := m - n) (by omega)]; exact iadd _ _ _ m n _ (byadd_true_false m n _ _ (in_true_ge m n h hx hy)) w
 ·rw [res_m (k := m + n) (by omega)]; exact iadd _ _ _ m n _ (byadd_true_true m n _ _ (out_true m n hx hy)) w
/-- The decimal form. -/
def ztxt (z : Int) : ByteArray := if z < 0 then ByteArray.mk #[45] ++ txt z.natAbs else txt z.natAbs
theorem textI (z : Int) (hz : dI z ≤ 1000000) (w : World) (htab : Tab w) : Calls Tryz.prog 162 #[intV z] w fun e w' => e = .returned (.string (ztxt z)) ∧ Below w.heap.size w w' := by
 rcases int_cases z with ⟨m, rfl, h⟩ | ⟨m, h0, rfl, h⟩ <;> rw [h] <;> simp only [dI_neg, dI_nat] at hz <;> unfold ztxt
 ·rw [if_neg (by omega), Int.natAbs_natCast]; exact itext_false m hz w htab
 ·rw [if_pos (by omega), Int.natAbs_neg, Int.natAbs_natCast]; exact itext_true m hz w htab
end Go.Proofs.YthffglapmkkohaaGreatDoor
namespace Go.Proofs.YthffglapmkkohaaGreatDoor
open Go.RowKit
attribute [local irreducible] lo hs
/-- The document's recursion. -/
def xgcd (a b : Int) : Int × Int × Int :=
 if h : b = 0 then ((a.natAbs : Int), sgn a, 0)
 else let r := xgcd b (a % b); (r.1, r.2.2, r.2.1 - a / b * r.2.2)
termination_by b.natAbs
decreasing_by
 have h1 := Int.emod_lt a h
 have h2 := Int.emod_nonneg a h
 omega
theorem xgcd_zero (a : Int) : xgcd a 0 = ((a.natAbs : Int), sgn a, 0) := by rw [xgcd]; simp
theorem xgcd_step {a b : Int} (h : b ≠ 0) : xgcd a b = ((xgcd b (a % b)).1, (xgcd b (a % b)).2.2, (xgcd b (a % b)).2.1 - a / b * (xgcd b (a % b)).2.2) := by rw [xgcd, dif_neg h]
theorem sgn_mul (a : Int) : sgn a * a = (a.natAbs : Int) := by unfold sgn; split <;> (try split) <;> simp <;> omega
/-- What the rounds keep. -/
structure GI (a b G X N Y : Int) : Prop where
 g : (xgcd a b).1 = (xgcd G N).1
 x : (xgcd a b).2.1 = (xgcd G N).2.1 * X + (xgcd G N).2.2 * Y
 s : (G = a ∧ X = 1 ∧ N = b ∧ Y = 0) ∨ (G = b ∧ X = 0 ∧ Y = 1 ∧ 0 ≤ N ∧ N < b.natAbs) ∨
  (0 < G ∧ 0 ≤ N ∧ N < G ∧ X.natAbs ≤ 3 * b.natAbs ∧ X.natAbs * N.natAbs + Y.natAbs * G.natAbs ≤ 3 * b.natAbs ∧ G ≤ b.natAbs)
theorem GI.start (a b : Int) : GI a b a 1 b 0 := ⟨rfl, by omega, .inl ⟨rfl, rfl, rfl, rfl⟩⟩
theorem GI.next {a b G X N Y : Int} (h : GI a b G X N Y) (hN : N ≠ 0) : GI a b N Y (G % N) (X - G / N * Y) := by
 have e := xgcd_step (a := G) hN
 have n1 := Int.emod_lt G hN
 have n2 := Int.emod_nonneg G hN
 have n3 := Int.mul_ediv_add_emod G N
 refine ⟨by rw [h.g, e], ?_, ?_⟩
 ·rw [h.x, e]
  show (xgcd N (G % N)).2.2 * X + ((xgcd N (G % N)).2.1 - G / N * (xgcd N (G % N)).2.2) * Y = _
  generalize (xgcd N (G % N)).2.1 = p
  generalize (xgcd N (G % N)).2.2 = q
  generalize G / N = c
  grind
 ·rcases h.s with ⟨rfl, rfl, rfl, rfl⟩ | ⟨rfl, rfl, rfl, h1, h2⟩ | ⟨h1, h2, h3, h4, h5, h6⟩
  ·exact .inr (.inl ⟨rfl, rfl, by omega, n2, n1⟩)
  ·refine .inr (.inr ⟨by omega, n2, by omega, by omega, ?_, by omega⟩)
   generalize hr : G % N = r at *
   generalize hq : G / N = q at *
   have e1 : (0 - q * 1).natAbs * N.natAbs = (N * q).natAbs := by rw [Int.natAbs_mul, Nat.mul_comm]; congr 1; omega
   have e2 : N * q = G - r := by omega
   rw [e1, e2]
   rw [show (1 : Int).natAbs = 1 from rfl, Nat.one_mul]
   omega
  ·have y1 : Y.natAbs ≤ 3 * b.natAbs := by
    have : Y.natAbs * 1 ≤ Y.natAbs * G.natAbs := Nat.mul_le_mul_left _ (by omega)
    omega
   refine .inr (.inr ⟨by omega, n2, by omega, y1, ?_, by omega⟩)
   have q0 : 0 ≤ G / N := Int.ediv_nonneg (by omega) (by omega)
   generalize hr : G % N = r at *
   generalize hq : G / N = q at *
   refine Nat.le_trans ?_ h5
   have t1 : (X - q * Y).natAbs ≤ X.natAbs + q.natAbs * Y.natAbs := by
    have := Int.natAbs_sub_le X (q * Y)
    rwa [Int.natAbs_mul] at this
   have t2 := Nat.mul_le_mul_right N.natAbs t1
   have t3 : G.natAbs = N.natAbs * q.natAbs + r.natAbs := by
    have : (N * q).natAbs = N.natAbs * q.natAbs := Int.natAbs_mul _ _
    have h0 : 0 ≤ N * q := Int.mul_nonneg (by omega) q0
    omega
   rw [t3, Nat.mul_add]
   rw [Nat.add_mul] at t2
   have t4 : Y.natAbs * (N.natAbs * q.natAbs) = q.natAbs * Y.natAbs * N.natAbs := by
    rw [Nat.mul_comm q.natAbs, Nat.mul_assoc, Nat.mul_comm q.natAbs]
   omega
theorem GI.bounds {a b G X N Y : Int} (h : GI a b G X N Y) {k : Nat} (ha : dI a ≤ k) (hb : dI b ≤ k) : dI G ≤ k ∧ dI N ≤ k ∧ dI X ≤ k + 1 ∧ (N ≠ 0 → dI Y ≤ k + 1) := by
 have h3 : ∀ z : Int, z.natAbs ≤ 3 * b.natAbs + 1 → dI z ≤ k + 1 := fun z hz => by
  have := digs_length_iff.1 hb
  refine digs_length_iff.2 ?_
  rw [Nat.pow_succ]
  have hB : 16 ≤ Bs := by unfold Bs; omega
  have hp : 0 < Bs ^ k := Nat.pow_pos (by omega)
  have h5 : Bs ^ k * 16 ≤ Bs ^ k * Bs := Nat.mul_le_mul_left _ hB
  generalize Bs ^ k = P at *
  generalize P * Bs = R at *
  omega
 rcases h.s with ⟨rfl, rfl, rfl, rfl⟩ | ⟨rfl, rfl, rfl, h1, h2⟩ | ⟨h1, h2, h3', h4, h5, h6⟩
 ·exact ⟨ha, hb, h3 1 (by omega), fun _ => h3 0 (by omega)⟩
 ·exact ⟨hb, Nat.le_trans (dI_mono (by omega)) hb, h3 0 (by omega), fun _ => h3 1 (by omega)⟩
 ·refine ⟨Nat.le_trans (dI_mono (by omega)) hb, Nat.le_trans (dI_mono (by omega)) hb, h3 X (by omega), fun _ => h3 Y ?_⟩
  have : Y.natAbs * 1 ≤ Y.natAbs * G.natAbs := Nat.mul_le_mul_left _ (by omega)
  omega
theorem GI.last {a b G X Y : Int} (h : GI a b G X 0 Y) : (xgcd a b).1 = sgn G * G ∧ (xgcd a b).2.1 = sgn G * X := by
 refine ⟨by rw [h.g, xgcd_zero, sgn_mul], ?_⟩
 rw [h.x, xgcd_zero]
 show sgn G * X + 0 * Y = _
 omega
end Go.Proofs.YthffglapmkkohaaGreatDoor
namespace Go.Proofs.YthffglapmkkohaaGreatDoor
open Go.RowKit
attribute [local irreducible] lo hs sm s64 c64 d64 b64 mh ml pd pc qd qc val hiB str cmpI srD lz nb zl zh zs
theorem new_int (w : World) : (Instr.alloc 34 true (.tuple #[])).run Tryz.prog w = .ok (.pointer (some ⟨w.heap.size, 0, none⟩)) (w.alloc (.cells #[.int .u64 0, .string ⟨#[]⟩, .bool false] 34)) := by
 simp [go_sem, Instr.alloc]
theorem hd_put3 {w : World} {k : Nat} {x0 x1 x2 : Value} (h : Hd w k [x0, x1, x2]) (v0 v1 v2 : Value) : Hd (((w.setCell ⟨k, 0, none⟩ v0).setCell ⟨k, 1, none⟩ v1).setCell ⟨k, 2, none⟩ v2) k [v0, v1, v2] :=
 setAll_hd [v0, v1, v2] 0 w k [] [x0, x1, x2] rfl rfl h
theorem put_int (i0 i : Int) (s0 s : ByteArray) (b0 b : Bool) (w : World) (k : Nat) (h : Hd w k [.int .u64 i0, .string s0, .bool b0]) :
  ∃ w', (Instr.storeAt 34 (.pointer (some ⟨k, 0, none⟩)) (.agg #[.int .u64 i, .string s, .bool b])).run Tryz.prog w = .ok () w' ∧ Hd w' k [.int .u64 i, .string s, .bool b] ∧ Upd k w w' := by
 have h0 : w.cell? ⟨k, 0, none⟩ = some (.int .u64 i0) := h.cell 0 (by simp)
 have h1 : w.cell? ⟨k, 1, none⟩ = some (.string s0) := h.cell 1 (by simp)
 have h2 : w.cell? ⟨k, 2, none⟩ = some (.bool b0) := h.cell 2 (by simp)
 have hf := h.frz
 refine ⟨_, ?_, hd_put3 h (.int .u64 i) (.string s) (.bool b), (((Upd.refl k w).setCell 0 _).setCell 1 _).setCell 2 _⟩
 simp [go_sem, Instr.storeAt, Instr.sureAddr, h0, h1, h2, hf]
theorem z0 : zl 0 = 0 ∧ zh 0 = ⟨#[]⟩ ∧ zs 0 = false := ⟨by unfold zl; rw [show (0 : Int).natAbs = 0 from rfl, lo_small Bs_pos], by unfold zh; rw [show (0 : Int).natAbs = 0 from rfl, hs_small Bs_pos], by unfold zs; rfl⟩
end Go.Proofs.YthffglapmkkohaaGreatDoor
