/-
  The law answers true at every input, and leaves its arguments as they were: a part of the proof. CONDITIONS: the package-level tables start as the program's text lays them (the card ties them).
-/
import Derived.Test.YtjdjhlmcbffocaaGreatDoorZae
import Derived.Test.YtjdjhlmcbffocaaGreatDoorTie
import Derived.Test.YtjdjhlmcbffocaaGreatDoorCards
set_option linter.unusedVariables false
set_option linter.unusedSimpArgs false
set_option linter.unusedSectionVars false
namespace Go.Proofs.YtjdjhlmcbffocaaGreatDoor
open Go.RowKit
attribute [local irreducible] lo hs sm s64 c64 d64 b64 mh ml pd pc qd qc val hiB str cmpI srD lz nb zl zh zs fe
def okq (q : Rat) : Bool := decide (q.num.natAbs < 18446744073709551616 ∧ q.den < 18446744073709551616)
theorem okq_sz {q : Rat} (h : okq q = true) : Sz q 1 := by
 have := of_decide_eq_true h
 exact szc q this.1 this.2
/-- The sizes of an elimination, checked. -/
def ckE (R n c : Nat) (G : Gd) : Bool :=
 ((List.range (c + 1)).all fun k => okq (descE R ⟨G, [], 1⟩ k).f && (List.range R).all fun i => (List.range n).all fun j => okq ((descE R ⟨G, [], 1⟩ k).G i j)) &&
 ((List.range ((descE R ⟨G, [], 1⟩ c).pv.length + 1)).all fun m => (List.range R).all fun i => (List.range n).all fun j => okq (ascE (descE R ⟨G, [], 1⟩ c).pv (descE R ⟨G, [], 1⟩ c).G m i j))
theorem ckE_sz {R n c : Nat} {G : Gd} (h : ckE R n c G = true) (hn : n ≤ 5000) (hR : R ≤ 5000) (hc : c ≤ n) : ESz R n c 1 G := by
 unfold ckE at h
 rw [Bool.and_eq_true, List.all_eq_true, List.all_eq_true] at h
 refine ⟨fun k hk => ?_, fun m hm i hi j hj => ?_, by omega, hn, hR, hc⟩
 ·have h1 := h.1 k (List.mem_range.2 (by omega))
  rw [Bool.and_eq_true, List.all_eq_true] at h1
  refine ⟨okq_sz h1.1, fun i hi j hj => ?_⟩
  have h2 := h1.2 i (List.mem_range.2 hi)
  rw [List.all_eq_true] at h2
  exact okq_sz (h2 j (List.mem_range.2 hj))
 ·have h1 := h.2 m (List.mem_range.2 (by omega))
  rw [List.all_eq_true] at h1
  have h2 := h1 i (List.mem_range.2 hi)
  rw [List.all_eq_true] at h2
  exact okq_sz (h2 j (List.mem_range.2 hj))
def e1W : Mx := mW 2 3 [1, 2, 3, 2, 4, 7]
def e2W : Mx := mW 2 2 [1, 2, 2, 4]
def e3W : Mx := mW 2 2 [1, 2, 3, 4]
def ebW : List Rat := oW [1, 3]
def D1W : ES := descE 2 ⟨rowsE e1W, [], 1⟩ 3
def A1W : Gd := ascE D1W.pv D1W.G D1W.pv.length
def erW : Mx := ⟨2, 3, prtE 6 3 0 A1W 2⟩
def ekW : List Rat := tabV 3 (kvE D1W.pv A1W 1)
def D2W : ES := descE 2 ⟨augE e1W ebW, [], 1⟩ 3
def A2W : Gd := ascE D2W.pv D2W.G D2W.pv.length
def esW : List Rat := tabV 3 (solE D2W.pv A2W 3)
def D3W : ES := descE 2 ⟨augE e2W ebW, [], 1⟩ 2
def etW : Mx := turM 2 2 e2W
def D4W : ES := descE 3 ⟨agE etW ebW, [], 1⟩ 2
def D5W : ES := descE 2 ⟨rowsE e3W, [], 1⟩ 2
def D6W : ES := descE 2 ⟨ivE e3W, [], 1⟩ 2
def A6W : Gd := ascE D6W.pv D6W.G D6W.pv.length
def eiW : Mx := ⟨2, 2, prtE 4 2 2 A6W 2⟩
def epW : Mx := tabM 1 1 fun i j => ent e3W ([0].getD i 0) ([0].getD j 0)
def D7W : ES := descE 1 ⟨rowsE epW, [], 1⟩ 1
theorem ge1 : GM e1W 2 3 1 := gmW rfl rfl rfl (by kernel_rfl)
theorem ge2 : GM e2W 2 2 1 := gmW rfl rfl rfl (by kernel_rfl)
theorem ge3 : GM e3W 2 2 1 := gmW rfl rfl rfl (by kernel_rfl)
theorem get9 : GM etW 2 2 1 := gmW rfl rfl rfl (by kernel_rfl)
theorem ger : GM erW 2 3 1 := gmW rfl rfl rfl (by decide +kernel)
theorem gei : GM eiW 2 2 1 := gmW rfl rfl rfl (by decide +kernel)
theorem gep : GM epW 1 1 1 := gmW rfl rfl rfl (by decide +kernel)
theorem z1 : ESz 2 3 3 1 (rowsE e1W) := ckE_sz (by decide +kernel) (by decide) (by decide) (by decide)
theorem z2 : ESz 2 4 3 1 (augE e1W ebW) := ckE_sz (by decide +kernel) (by decide) (by decide) (by decide)
theorem z3 : ESz 2 3 2 1 (augE e2W ebW) := ckE_sz (by decide +kernel) (by decide) (by decide) (by decide)
theorem z4 : ESz 3 3 2 1 (agE etW ebW) := ckE_sz (by decide +kernel) (by decide) (by decide) (by decide)
theorem z5 : ESz 2 2 2 1 (rowsE e3W) := ckE_sz (by decide +kernel) (by decide) (by decide) (by decide)
theorem z6 : ESz 2 4 2 1 (ivE e3W) := ckE_sz (by decide +kernel) (by decide) (by decide) (by decide)
theorem z7 : ESz 1 1 1 1 (rowsE epW) := ckE_sz (by decide +kernel) (by decide) (by decide) (by decide)
theorem d1p : D1W.pv = [0, 2] := by decide +kernel
theorem d2p : D2W.pv = [0, 2] := by decide +kernel
theorem d3p : D3W.pv = [0] ∧ D3W.G 1 2 ≠ 0 := by decide +kernel
theorem d4p : D4W.pv = [0, 1] ∧ D4W.G 2 2 = 0 := by decide +kernel
theorem d5p : (if D5W.pv.length < 2 then 0 else D5W.f) = (((-2 : Int)) : Rat) := by decide +kernel
theorem d6p : D6W.pv = [0, 1] := by decide +kernel
theorem d7p : (if D7W.pv.length < 1 then 0 else D7W.f) = (((1 : Int)) : Rat) := by decide +kernel
theorem hd_slq9 {w : World} {b c : Nat} {l : List Rat} (h : Hd w b (frCs l)) : SlQ w (.slice (some ⟨b, 0, none⟩) l.length c) l := .inr ⟨b, c, rfl, hd_fs h⟩
theorem hd_mt {w : World} {b N : Nat} {x : Mx} (h : Hd w b (frCs x.l)) (hl : N = x.l.length) : MT w (.agg #[.int .i64 (x.r : Int), .int .i64 (x.c : Int), .slice (some ⟨b, 0, none⟩) N N]) x := by
 subst hl
 exact ⟨_, rfl, hd_slq9 h, _, _, _, rfl, Nat.le_refl _⟩
theorem f1p : (freeL D1W.pv 3).map (fun k => tabV 3 (kvE D1W.pv A1W k)) = [ekW] := by decide +kernel
theorem f2p : (freeL D2W.pv 3).map (fun k => tabV 3 (kvE D2W.pv A2W k)) = [ekW] := by decide +kernel
theorem oe1 : OKM e1W := ge1.ok (by decide) (by decide)
theorem oe2 : OKM e2W := ge2.ok (by decide) (by decide)
theorem oe3 : OKM e3W := ge3.ok (by decide) (by decide)
theorem oet : OKM etW := get9.ok (by decide) (by decide)
theorem oep : OKM epW := gep.ok (by decide) (by decide)
theorem w_red (u : Value) (w : World) (h : MT w u e1W) : Calls Tryz.prog 50 #[u] w fun e w' => (∃ pv s, e = .returned (.tuple #[pv, s, .int .i64 0]) ∧ MT w' pv erW ∧ ILs w' s [0, 2]) ∧ Below w.heap.size w w' := by
 obtain ⟨u1, rfl, hu⟩ := h
 refine (ereduce_w e1W oe1 1 z1 D1W rfl u1 w hu (by decide)).mono ?_
 rintro e w' ⟨⟨b, s, rfl, hH, hI⟩, hb⟩
 rw [d1p] at hI
 exact ⟨⟨_, s, rfl, hd_mt (x := erW) (N := e1W.r * e1W.c) hH rfl, hI⟩, hb⟩
theorem w_ker (u : Value) (w : World) (h : MT w u e1W) : Calls Tryz.prog 65 #[u] w fun e w' => (∃ s, e = .returned (.tuple #[s, .int .i64 0]) ∧ VLs w' s [ekW]) ∧ Below w.heap.size w w' := by
 obtain ⟨u1, rfl, hu⟩ := h
 refine (ekern_w e1W oe1 1 z1 D1W rfl u1 w hu).mono ?_
 rintro e w' ⟨⟨v, rfl, hv⟩, hb⟩
 exact ⟨⟨v, rfl, by rw [← f1p]; exact hv⟩, hb⟩
theorem w_solve (u s : Value) (w : World) (h : MT w u e1W) (hs : SlQ w s ebW) : Calls Tryz.prog 69 #[u, s] w fun e w' => (∃ v, e = .returned v ∧ SOk esW ekW v w') ∧ Below w.heap.size w w' := by
 obtain ⟨u1, rfl, hu⟩ := h
 refine (esolve_w e1W oe1 ebW rfl 1 z2 D2W rfl u1 s w hu hs).mono ?_
 rintro e w' ⟨h1 | h1, hb⟩
 ·obtain ⟨-, b, v, rfl, hH, hv⟩ := h1
  refine ⟨⟨_, rfl, _, _, rfl, hd_slq9 (l := esW) hH, ?_⟩, hb⟩
  rw [← f2p]
  exact hv
 ·obtain ⟨⟨i, h1, h2, -⟩, -⟩ := h1
  have : e1W.r = 2 := rfl
  rw [d2p] at h1
  simp at h1
  omega
theorem w_none (u s : Value) (w : World) (h : MT w u e2W) (hs : SlQ w s ebW) : Calls Tryz.prog 69 #[u, s] w fun e w' => e = .returned (.tuple #[.agg #[.slice none 0 0, .slice none 0 0], .int .i64 6]) ∧ Below w.heap.size w w' := by
 obtain ⟨u1, rfl, hu⟩ := h
 refine (esolve_w e2W oe2 ebW rfl 1 z3 D3W rfl u1 s w hu hs).mono ?_
 rintro e w' ⟨h1 | h1, hb⟩
 ·exact absurd (h1.1 1 (by rw [d3p.1]; decide) (by decide)) d3p.2
 ·exact ⟨h1.2, hb⟩
theorem w_ag (u s : Value) (w : World) (h : MT w u e2W) (hs : SlQ w s ebW) : Calls Tryz.prog 70 #[u, s] w fun e w' => (∃ v, e = .returned v ∧ AOk v) ∧ Below w.heap.size w w' := by
 obtain ⟨u1, rfl, hu⟩ := h
 refine (eagainst_w e2W etW oe2 oet rfl rfl ebW rfl 1 z4 D4W rfl (fun u w h => MTurnG ge2 (by decide) (by decide) u w h) u1 s w hu hs).mono ?_
 rintro e w' ⟨h1 | h1, hb⟩
 ·obtain ⟨-, b, rfl, -⟩ := h1
  exact ⟨⟨_, rfl, b, rfl⟩, hb⟩
 ·obtain ⟨⟨i, h1, h2, h3⟩, -⟩ := h1
  rw [d4p.1] at h1
  have : etW.r + 1 = 3 := rfl
  simp at h1
  obtain rfl : i = 2 := by omega
  exact absurd d4p.2 h3
theorem w_det (u : Value) (w : World) (h : MT w u e3W) : Calls Tryz.prog 57 #[u] w fun e w' => e = .returned (.tuple #[fracV (((-2 : Int)) : Rat), .int .i64 0]) ∧ Below w.heap.size w w' := by
 obtain ⟨u1, rfl, hu⟩ := h
 have := edet_w e3W oe3 1 z5 D5W rfl u1 w hu rfl
 rwa [show (if D5W.pv.length < e3W.r then 0 else D5W.f) = (((-2 : Int)) : Rat) from d5p] at this
theorem w_inv (u : Value) (w : World) (h : MT w u e3W) : Calls Tryz.prog 73 #[u] w fun e w' => (∃ pv, e = .returned (.tuple #[pv, .int .i64 0]) ∧ MT w' pv eiW) ∧ Below w.heap.size w w' := by
 obtain ⟨u1, rfl, hu⟩ := h
 refine (einverse_w e3W oe3 rfl (by decide) 1 z6 D6W rfl u1 w hu).mono ?_
 rintro e w' ⟨h1 | h1, hb⟩
 ·obtain ⟨-, b, rfl, hH⟩ := h1
  exact ⟨⟨_, rfl, hd_mt (x := eiW) (N := e3W.r * e3W.r) hH rfl⟩, hb⟩
 ·exact absurd h1.1 (by rw [d6p]; decide)
theorem w_min (u : Value) (w : World) (h : MT w u e3W) : Calls Tryz.prog 76 #[u, .int .i64 1] w fun e w' => e = .returned (.tuple #[fracV (((1 : Int)) : Rat), .int .i64 0]) ∧ Below w.heap.size w w' := by
 obtain ⟨u1, rfl, hu⟩ := h
 refine eminor_w e3W epW oe3 1 (by decide) (by decide) _ (fun u s t w h g f => ?_) (fun u w h => ?_) u1 w hu
 ·obtain ⟨u1, rfl, hu⟩ := h
  refine (mPartV e3W [0] [0] oe3 (by decide) (by decide) (by decide) (by decide) u1 s t w hu g f).mono ?_
  rintro e w' ⟨t, rfl, h1, hb⟩
  exact ⟨_, rfl, ⟨t, rfl, h1.cq⟩, hb⟩
 ·obtain ⟨u1, rfl, hu⟩ := h
  have := edet0_w epW oep 1 z7 D7W rfl u1 w hu
  rwa [show (if D7W.pv.length < epW.r then 0 else D7W.f) = (((1 : Int)) : Rat) from d7p] at this
set_option maxRecDepth 10000 in
theorem eworks_any (w : World) (ht : Tab w) : Calls Tryz.prog 49 #[] w fun xe w' => xe = .returned (.bool true) ∧ Below w.heap.size w w' := by
 have sk : ∀ q ∈ ekW, Sz q 1 := szl (by decide +kernel)
 have ss : ∀ q ∈ esW, Sz q 1 := szl (by decide +kernel)
 exact eworks_w e1W erW e2W e3W eiW ekW ebW esW (((-2 : Int)) : Rat) (((1 : Int)) : Rat)
  (fun p w h => (mof_at 2 3 [1, 2, 3, 2, 4, 7] (by decide) (by decide) (by decide) (by decide) rfl p w h).mono fun e w' ⟨pv, h1, h2, h3⟩ => ⟨⟨pv, h1, h2⟩, h3⟩)
  w_red w_ker
  (fun p w h => (of_at [1, 3] (by decide) (by decide) p w h).mono fun e w' ⟨pv, h1, h2, h3⟩ => ⟨⟨pv, h1, h2⟩, h3⟩)
  w_solve
  (fun p w hT h => mtext_at erW 2 3 _ ger (by decide) (by decide) (by decide +kernel) (by decide +kernel) (by decide +kernel) p w hT h)
  (fun a b w h1 h2 => esame_w [0, 2] (by decide) a b w h1 h2)
  (fun p w hT h => text_at ekW (jrow ekW) _ (by decide +kernel) sk rfl (by decide +kernel) (by decide +kernel) p w hT h)
  (fun p w hT h => text_at esW (jrow esW) _ (by decide +kernel) ss rfl (by decide +kernel) (by decide +kernel) p w hT h)
  (fun p w h => (mof_at 2 2 [1, 2, 2, 4] (by decide) (by decide) (by decide) (by decide) rfl p w h).mono fun e w' ⟨pv, h1, h2, h3⟩ => ⟨⟨pv, h1, h2⟩, h3⟩)
  w_none w_ag
  (fun p w h => (mof_at 2 2 [1, 2, 3, 4] (by decide) (by decide) (by decide) (by decide) rfl p w h).mono fun e w' ⟨pv, h1, h2, h3⟩ => ⟨⟨pv, h1, h2⟩, h3⟩)
  w_det w_inv w_min
  (fun w => intF (-2) (by decide) (by decide) w) (fun w => intF 1 (by decide) (by decide) w)
  (fun p w hT h => mtext_at eiW 2 2 _ gei (by decide) (by decide) (by decide +kernel) (by decide +kernel) (by decide +kernel) p w hT h)
  rfl rfl rfl rfl rfl rfl rfl rfl rfl rfl (by decide +kernel) w ht
end Go.Proofs.YtjdjhlmcbffocaaGreatDoor
namespace Go.Proofs.YtjdjhlmcbffocaaGreatDoor
open Go.RowKit
attribute [local irreducible] lo hs sm s64 c64 d64 b64 mh ml pd pc qd qc val hiB str cmpI srD lz nb zl zh zs fe rowV tabV gv bsV
theorem desc_zero {R c : Nat} {G : Gd} (h : ∀ i k, i < R → k < c → G i k = 0) : ∀ k, k ≤ c → descE R ⟨G, [], 1⟩ k = ⟨G, [], 1⟩ := by
 intro k
 induction k with
 | zero => intro _; rfl
 | succ k ih =>
  intro hk
  show stepE R k (descE R ⟨G, [], 1⟩ k) = _
  rw [ih (by omega)]
  unfold stepE
  have hf : fnd G k 0 R = none := by
   cases e : fnd G k 0 R with
   | none => rfl
   | some i =>
    obtain ⟨-, h2, h3, -⟩ := fnd_some e
    exact absurd (h i k (by omega) (by omega)) h3
  simp [hf]
theorem zsz {R n c : Nat} {G : Gd} (h : ∀ i k, i < R → k < c → G i k = 0) (hs : ∀ i j, i < R → j < n → Sz (G i j) 1) (hn : n ≤ 5000) (hR : R ≤ 5000) (hc : c ≤ n) : ESz R n c 1 G := by
 have hD := desc_zero h
 refine ⟨fun k hk => ?_, fun m hm i hi j hj => ?_, by omega, hn, hR, hc⟩
 ·rw [hD k hk]
  exact ⟨szc 1 (by decide) (by decide), fun i hi j hj => hs i j hi hj⟩
 ·rw [hD c (Nat.le_refl _)] at hm ⊢
  obtain rfl : m = 0 := by simpa using hm
  exact hs i j hi hj
theorem sz_zero : Sz (0 : Rat) 1 := szc 0 (by decide) (by decide)
theorem sz_one : Sz (1 : Rat) 1 := szc 1 (by decide) (by decide)
def zM9 (R C m : Nat) : Mx := ⟨R, C, List.replicate m 0⟩
theorem zM9_ok {R C m : Nat} (hR : R ≤ 40) (hC : C ≤ 40) (hm : m = R * C) : OKM (zM9 R C m) := ⟨by show R ≤ 2048; omega, by show C ≤ 2048; omega, by show (List.replicate m (0 : Rat)).length = R * C; rw [List.length_replicate, hm]⟩
theorem gv_rep9 (m p : Nat) : gv (List.replicate m 0) p = 0 := by
 rcases Nat.lt_or_ge p m with h | h
 ·rw [rep_tab]; exact gv_tab h
 ·unfold gv; simp [h]
theorem zM9_ent {R C m i k : Nat} : ent (zM9 R C m) i k = 0 := gv_rep9 m (i * C + k)
theorem zr_row {R C m : Nat} (i j : Nat) : rowsE (zM9 R C m) i j = 0 := by unfold rowsE; rw [zM9_ent]; split <;> rfl
section
variable (R C m : Nat) (hR : R ≤ 40) (hC : C ≤ 40) (hm : m = R * C)
include hR hC hm
theorem ezReduce (p : Value) (w : World) (h : XM w p (R : Int) (C : Int) m) : Calls Tryz.prog 50 #[p] w fun e w' => (∃ pv sv, e = .returned (.tuple #[pv, sv, .int .i64 0]) ∧ WS pv ∧ YS sv) ∧ Below w.heap.size w w' := by
 obtain ⟨ao, d, rfl, hd, hs⟩ := h
 have hu : CQ w (.slice ao m d) (zM9 R C m).l := ⟨hs, _, _, _, rfl, hd⟩
 have hle := Nat.mul_le_mul hR hC
 refine (ereduce_w (zM9 R C m) (zM9_ok hR hC hm) 1 (zsz (R := R) (n := C) (c := C) (G := rowsE (zM9 R C m)) (fun i k _ _ => zr_row i k) (fun i j _ _ => by rw [zr_row]; exact sz_zero) (by omega) (by omega) (Nat.le_refl _)) _ (desc_zero (fun i k _ _ => zr_row i k) C (Nat.le_refl _)) _ w hu (by show R * C ≤ 1000000; omega)).mono ?_
 rintro e w' ⟨⟨b, t, rfl, hH, hI⟩, hb⟩
 exact ⟨⟨_, t, rfl, ⟨_, _, _, _, _, rfl⟩, ils_form hI⟩, hb⟩
theorem ezRank (p : Value) (w : World) (h : XM w p (R : Int) (C : Int) m) : Calls Tryz.prog 53 #[p] w fun e w' => e = .returned (.tuple #[.int .i64 0, .int .i64 0]) ∧ Below w.heap.size w w' := by
 obtain ⟨ao, d, rfl, hd, hs⟩ := h
 have hu : CQ w (.slice ao m d) (zM9 R C m).l := ⟨hs, _, _, _, rfl, hd⟩
 exact erank_w (zM9 R C m) (zM9_ok hR hC hm) 1 (zsz (R := R) (n := C) (c := C) (G := rowsE (zM9 R C m)) (fun i k _ _ => zr_row i k) (fun i j _ _ => by rw [zr_row]; exact sz_zero) (by omega) (by omega) (Nat.le_refl _)) _ (desc_zero (fun i k _ _ => zr_row i k) C (Nat.le_refl _)) _ w hu
theorem ezKernel (p : Value) (w : World) (h : XM w p (R : Int) (C : Int) m) : Calls Tryz.prog 65 #[p] w fun e w' => (∃ sv, e = .returned (.tuple #[sv, .int .i64 0]) ∧ YS sv) ∧ Below w.heap.size w w' := by
 obtain ⟨ao, d, rfl, hd, hs⟩ := h
 have hu : CQ w (.slice ao m d) (zM9 R C m).l := ⟨hs, _, _, _, rfl, hd⟩
 refine (ekern_w (zM9 R C m) (zM9_ok hR hC hm) 1 (zsz (R := R) (n := C) (c := C) (G := rowsE (zM9 R C m)) (fun i k _ _ => zr_row i k) (fun i j _ _ => by rw [zr_row]; exact sz_zero) (by omega) (by omega) (Nat.le_refl _)) _ (desc_zero (fun i k _ _ => zr_row i k) C (Nat.le_refl _)) _ w hu).mono ?_
 rintro e w' ⟨⟨v, rfl, hv⟩, hb⟩
 exact ⟨⟨v, rfl, vls_form hv⟩, hb⟩
theorem zr_aug (q i j : Nat) : augE (zM9 R C m) (List.replicate q 0) i j = 0 := by
 unfold augE
 rw [zr_row, gv_rep9]
 split <;> rfl
theorem zr_iv (i j : Nat) (hj : j < C) : ivE (zM9 R C m) i j = 0 := by
 unfold ivE
 rw [zr_row, if_neg (by show ¬ j = C + i; omega)]
theorem zr_tur (i j : Nat) (hi : i < C) (hj : j < R) : ent (tabM C R fun i k => ent (zM9 R C m) k i) i j = 0 := by
 rw [ent_tab hi hj, zM9_ent]
theorem zr_ag (q i j : Nat) (hi : i < C + 1) (hj : j < R) : agE (tabM C R fun i k => ent (zM9 R C m) k i) (List.replicate q 0) i j = 0 := by
 unfold agE
 by_cases h : i = C
 ·rw [if_pos (by exact h), if_pos (by exact hj), gv_rep9]
 ·rw [if_neg (by exact h)]
  unfold rowsE
  rw [if_pos (by exact hj)]
  exact zr_tur R C m hR hC hm i j (by omega) hj
theorem ezSolveN (q : Nat) (hq : q ≤ 49) (hn : (q : Int) ≠ (R : Int)) (p s : Value) (w : World) (h : XM w p (R : Int) (C : Int) m) (hv : SlQ w s (List.replicate q 0)) : Calls Tryz.prog 69 #[p, s] w fun e w' => e = .returned (.tuple #[.agg #[.slice none 0 0, .slice none 0 0], .int .i64 1]) ∧ Below w.heap.size w w' := by
 obtain ⟨ao, d, rfl, hd, hs⟩ := h
 have hu : CQ w (.slice ao m d) (zM9 R C m).l := ⟨hs, _, _, _, rfl, hd⟩
 obtain ⟨bo, bd, rfl⟩ := slq_form' hv
 rw [List.length_replicate]
 exact esolve_e (R : Int) (C : Int) 1 m d ao bo q bd (by decide) (fun w => efw_arg (R : Int) (C : Int) 0 ao bo m d q bd (fun w => mcheck_ok R C m d ao (by omega) (by omega) hm w) rfl (by omega) hn w) w
theorem ezAgN (q : Nat) (hq : q ≤ 49) (hn : (q : Int) ≠ (R : Int)) (p s : Value) (w : World) (h : XM w p (R : Int) (C : Int) m) (hv : SlQ w s (List.replicate q 0)) : Calls Tryz.prog 70 #[p, s] w fun e w' => e = .returned (.tuple #[.slice none 0 0, .int .i64 1]) ∧ Below w.heap.size w w' := by
 obtain ⟨ao, d, rfl, hd, hs⟩ := h
 have hu : CQ w (.slice ao m d) (zM9 R C m).l := ⟨hs, _, _, _, rfl, hd⟩
 obtain ⟨bo, bd, rfl⟩ := slq_form' hv
 rw [List.length_replicate]
 exact eag_e (R : Int) (C : Int) 1 m d ao bo q bd (by decide) (fun w => efw_arg (R : Int) (C : Int) 0 ao bo m d q bd (fun w => mcheck_ok R C m d ao (by omega) (by omega) hm w) rfl (by omega) hn w) w
theorem ezSolveY (q : Nat) (hn : q = R) (p s : Value) (w : World) (h : XM w p (R : Int) (C : Int) m) (hv : SlQ w s (List.replicate q 0)) : Calls Tryz.prog 69 #[p, s] w fun e w' => (∃ a b es, e = .returned (.tuple #[.agg #[a, b], .int .i64 es]) ∧ YS a ∧ YS b) ∧ Below w.heap.size w w' := by
 obtain ⟨ao, d, rfl, hd, hs⟩ := h
 have hu : CQ w (.slice ao m d) (zM9 R C m).l := ⟨hs, _, _, _, rfl, hd⟩
 refine (esolve_w (zM9 R C m) (zM9_ok hR hC hm) (List.replicate q 0) (by rw [List.length_replicate]; exact hn) 1 (zsz (R := R) (n := C + 1) (c := C) (G := augE (zM9 R C m) (List.replicate q 0)) (fun i k _ _ => zr_aug R C m hR hC hm q i k) (fun i j _ _ => by rw [zr_aug R C m hR hC hm]; exact sz_zero) (by omega) (by omega) (by omega)) _ (desc_zero (fun i k _ _ => zr_aug R C m hR hC hm q i k) C (Nat.le_refl _)) _ _ w hu hv).mono ?_
 rintro e w' ⟨h1 | h1, hb⟩
 ·obtain ⟨-, b, v, rfl, -, hv⟩ := h1
  exact ⟨⟨_, _, _, rfl, ⟨_, _, _, rfl⟩, vls_form hv⟩, hb⟩
 ·obtain ⟨-, rfl⟩ := h1
  exact ⟨⟨_, _, _, rfl, ⟨_, _, _, rfl⟩, ⟨_, _, _, rfl⟩⟩, hb⟩
theorem ezAgY (q : Nat) (hn : q = R) (p s : Value) (w : World) (h : XM w p (R : Int) (C : Int) m) (hv : SlQ w s (List.replicate q 0)) : Calls Tryz.prog 70 #[p, s] w fun e w' => (∃ a ea, e = .returned (.tuple #[a, .int .i64 ea]) ∧ YS a) ∧ Below w.heap.size w w' := by
 obtain ⟨ao, d, rfl, hd, hs⟩ := h
 have hu : CQ w (.slice ao m d) (zM9 R C m).l := ⟨hs, _, _, _, rfl, hd⟩
 have hle := Nat.mul_le_mul hR hC
 refine (eagainst_w (zM9 R C m) (tabM C R fun i k => ent (zM9 R C m) k i) (zM9_ok hR hC hm) ⟨by show C ≤ 2048; omega, by show R ≤ 2048; omega, by show (tabM C R fun i k => ent (zM9 R C m) k i).l.length = C * R; unfold tabM; exact tabV_len _ _⟩ rfl rfl (List.replicate q 0) (by rw [List.length_replicate]; exact hn) 1 (zsz (R := C + 1) (n := R + 1) (c := R) (G := agE (tabM C R fun i k => ent (zM9 R C m) k i) (List.replicate q 0)) (fun i k hi hk => zr_ag R C m hR hC hm q i k hi hk) (fun i j hi hj => by
  by_cases hj2 : j < R
  ·rw [zr_ag R C m hR hC hm q i j hi hj2]; exact sz_zero
  ·unfold agE
   by_cases h : i = C
   ·rw [if_pos (by exact h), if_neg (by exact hj2)]; exact sz_one
   ·rw [if_neg (by exact h)]; unfold rowsE; rw [if_neg (by exact hj2)]; exact sz_zero) (by omega) (by omega) (by omega)) _ (desc_zero (fun i k hi hk => zr_ag R C m hR hC hm q i k hi hk) R (Nat.le_refl _)) (fun u w h => by
   obtain ⟨u1, rfl, hu⟩ := h
   refine (mTurnV (zM9 R C m) (zM9_ok hR hC hm) (by show R * C ≤ 100000; omega) u1 w hu).mono ?_
   rintro e w' ⟨t, rfl, h1, hb⟩
   exact ⟨_, rfl, ⟨t, rfl, h1.cq⟩, hb⟩) _ _ w hu hv).mono ?_
 rintro e w' ⟨h1 | h1, hb⟩
 ·obtain ⟨-, b, rfl, -⟩ := h1
  exact ⟨⟨_, _, rfl, ⟨_, _, _, rfl⟩⟩, hb⟩
 ·obtain ⟨-, rfl⟩ := h1
  exact ⟨⟨_, _, rfl, ⟨_, _, _, rfl⟩⟩, hb⟩
theorem ezInvN (hn : (R : Int) ≠ (C : Int)) (p : Value) (w : World) (h : XM w p (R : Int) (C : Int) m) : Calls Tryz.prog 73 #[p] w fun e w' => e = .returned (.tuple #[.agg #[.int .i64 0, .int .i64 0, .slice none 0 0], .int .i64 1]) ∧ Below w.heap.size w w' := by
 obtain ⟨ao, d, rfl, hd, hs⟩ := h
 have hu : CQ w (.slice ao m d) (zM9 R C m).l := ⟨hs, _, _, _, rfl, hd⟩
 exact einv_e (R : Int) (C : Int) 1 m d ao (by decide) (fun w => efs_arg (R : Int) (C : Int) 0 ao m d (fun w => mcheck_ok R C m d ao (by omega) (by omega) hm w) rfl hn w) w
theorem ezDetN (hn : (R : Int) ≠ (C : Int)) (p : Value) (w : World) (h : XM w p (R : Int) (C : Int) m) : Calls Tryz.prog 57 #[p] w fun e w' => e = .returned (.tuple #[.agg #[.int .u64 0, .string ⟨#[]⟩, .bool false, .int .u64 0, .string ⟨#[]⟩], .int .i64 1]) ∧ Below w.heap.size w w' := by
 obtain ⟨ao, d, rfl, hd, hs⟩ := h
 have hu : CQ w (.slice ao m d) (zM9 R C m).l := ⟨hs, _, _, _, rfl, hd⟩
 exact edet_e (R : Int) (C : Int) 1 m d ao (by decide) (fun w => efs_arg (R : Int) (C : Int) 0 ao m d (fun w => mcheck_ok R C m d ao (by omega) (by omega) hm w) rfl hn w) w
theorem ezInvY (hn : R = C) (p : Value) (w : World) (h : XM w p (R : Int) (C : Int) m) : Calls Tryz.prog 73 #[p] w fun e w' => (∃ pv ei, e = .returned (.tuple #[pv, .int .i64 ei]) ∧ WS pv) ∧ Below w.heap.size w w' := by
 obtain ⟨ao, d, rfl, hd, hs⟩ := h
 have hu : CQ w (.slice ao m d) (zM9 R C m).l := ⟨hs, _, _, _, rfl, hd⟩
 refine (einverse_w (zM9 R C m) (zM9_ok hR hC hm) hn (by show R ≤ 1000; omega) 1 (zsz (R := R) (n := C + R) (c := C) (G := ivE (zM9 R C m)) (fun i k _ hk => zr_iv R C m hR hC hm i k hk) (fun i j _ _ => by unfold ivE; rw [zr_row]; split; exact sz_one; exact sz_zero) (by omega) (by omega) (by omega)) _ (desc_zero (fun i k _ hk => zr_iv R C m hR hC hm i k hk) C (Nat.le_refl _)) _ w hu).mono ?_
 rintro e w' ⟨h1 | h1, hb⟩
 ·obtain ⟨-, b, rfl, -⟩ := h1
  exact ⟨⟨_, _, rfl, ⟨_, _, _, _, _, rfl⟩⟩, hb⟩
 ·obtain ⟨-, rfl⟩ := h1
  exact ⟨⟨_, _, rfl, ⟨_, _, _, _, _, rfl⟩⟩, hb⟩
theorem ezDetY (hn : R = C) (dq : Rat) (hq : dq = if 0 < R then 0 else 1) (p : Value) (w : World) (h : XM w p (R : Int) (C : Int) m) : Calls Tryz.prog 57 #[p] w fun e w' => e = .returned (.tuple #[.agg #[.int .u64 ((zl (dq).num : Nat) : Int), .string (zh (dq).num), .bool (zs (dq).num), .int .u64 ((lo (fe (dq)) : Nat) : Int), .string (hs (fe (dq)))], .int .i64 0]) ∧ Below w.heap.size w w' := by
 obtain ⟨ao, d, rfl, hd, hs⟩ := h
 have hu : CQ w (.slice ao m d) (zM9 R C m).l := ⟨hs, _, _, _, rfl, hd⟩
 subst hq
 exact edet_w (zM9 R C m) (zM9_ok hR hC hm) 1 (zsz (R := R) (n := C) (c := C) (G := rowsE (zM9 R C m)) (fun i k _ _ => zr_row i k) (fun i j _ _ => by rw [zr_row]; exact sz_zero) (by omega) (by omega) (Nat.le_refl _)) _ (desc_zero (fun i k _ _ => zr_row i k) C (Nat.le_refl _)) _ w hu hn
theorem ezMinor (mq : Rat) (hq : mq = 1) (p : Value) (w : World) (h : XM w p (R : Int) (C : Int) m) : Calls Tryz.prog 76 #[p, .int .i64 0] w fun e w' => e = .returned (.tuple #[.agg #[.int .u64 ((zl (mq).num : Nat) : Int), .string (zh (mq).num), .bool (zs (mq).num), .int .u64 ((lo (fe (mq)) : Nat) : Int), .string (hs (fe (mq)))], .int .i64 0]) ∧ Below w.heap.size w w' := by
 obtain ⟨ao, d, rfl, hd, hs⟩ := h
 have hu : CQ w (.slice ao m d) (zM9 R C m).l := ⟨hs, _, _, _, rfl, hd⟩
 have oky : OKM (tabM 0 0 fun i j => ent (zM9 R C m) (([] : List Nat).getD i 0) (([] : List Nat).getD j 0)) := ⟨by show 0 ≤ 2048; omega, by show 0 ≤ 2048; omega, by unfold tabM; exact tabV_len _ _⟩
 refine eminor_w (zM9 R C m) (tabM 0 0 fun i j => ent (zM9 R C m) (([] : List Nat).getD i 0) (([] : List Nat).getD j 0)) (zM9_ok hR hC hm) 0 (Nat.zero_le _) (Nat.zero_le _) mq (fun u s t w h g f => ?_) (fun u w h => ?_) _ w hu
 ·obtain ⟨u1, rfl, hu⟩ := h
  refine (mPartV (zM9 R C m) [] [] (zM9_ok hR hC hm) (by decide) (by decide) (fun p hp => by cases hp) (fun p hp => by cases hp) u1 s t w hu g f).mono ?_
  rintro e w' ⟨t, rfl, h1, hb⟩
  exact ⟨_, rfl, ⟨t, rfl, h1.cq⟩, hb⟩
 ·obtain ⟨u1, rfl, hu⟩ := h
  subst hq
  exact edet0_w _ oky 1 (zsz (R := 0) (n := 0) (c := 0) (fun i k hi _ => absurd hi (Nat.not_lt_zero _)) (fun i k hi _ => absurd hi (Nat.not_lt_zero _)) (by omega) (by omega) (by omega)) _ (desc_zero (fun i k hi _ => absurd hi (Nat.not_lt_zero _)) 0 (Nat.le_refl _)) u1 w hu
end
end Go.Proofs.YtjdjhlmcbffocaaGreatDoor
namespace Go.Proofs.YtjdjhlmcbffocaaGreatDoor
open Go.RowKit
attribute [local irreducible] lo hs sm s64 c64 d64 b64 mh ml pd pc qd qc val hiB str cmpI srD lz nb zl zh zs fe rowV tabV gv bsV tabM
theorem t40 {z : Int} (h : 0 ≤ z) : ∃ d : Nat, Int.tmod z 40 = (d : Int) ∧ (d : Int) ≤ 39 := by
 rw [Int.tmod_eq_emod_of_nonneg h]
 exact ⟨(z % 40).toNat, by omega, by omega⟩
theorem t50 {z : Int} (h : 0 ≤ z) : ∃ d : Nat, Int.tmod z 50 = (d : Int) ∧ (d : Int) ≤ 49 := by
 rw [Int.tmod_eq_emod_of_nonneg h]
 exact ⟨(z % 50).toNat, by omega, by omega⟩
theorem hs2_any (s : Value) (w : World) (hv : SlQ w s (List.replicate 2049 0)) : Calls Tryz.prog 69 #[.agg #[.int .i64 0, .int .i64 0, .slice none 0 0], s] w fun e w' => e = .returned (.tuple #[.agg #[.slice none 0 0, .slice none 0 0], .int .i64 3]) ∧ Below w.heap.size w w' := by
 obtain ⟨bo, bd, rfl⟩ := slq_form' hv
 rw [List.length_replicate]
 exact esolve_e 0 0 3 0 0 none bo 2049 bd (by decide) (fun w => efw_lim 0 0 0 none bo 0 0 2049 bd (fun w => mcheck_ok 0 0 0 0 none (by decide) (by decide) rfl w) rfl (by decide) w) w
theorem ha2_any (s : Value) (w : World) (hv : SlQ w s (List.replicate 2049 0)) : Calls Tryz.prog 70 #[.agg #[.int .i64 (-1), .int .i64 0, .slice none 0 0], s] w fun e w' => e = .returned (.tuple #[.slice none 0 0, .int .i64 1]) ∧ Below w.heap.size w w' := by
 obtain ⟨bo, bd, rfl⟩ := slq_form' hv
 rw [List.length_replicate]
 exact eag_e (-1) 0 1 0 0 none bo 2049 bd (by decide) (fun w => efw_e (-1) 0 1 none bo 0 0 2049 bd (fun w => mcheck_err (-1) 0 1 0 0 none (by decide) (fun w => msize_neg1 (-1) 0 (by decide) w) w) (by decide) w) w
/-- An invalid matrix. -/
theorem eerr_of (r c zn zq t : Int) (m q : Nat) (ezn : Int.tmod zn 40 = (m : Int)) (m39 : (m : Int) ≤ 39) (ezq : Int.tmod zq 50 = (q : Int)) (q49 : (q : Int) ≤ 49) (ht0 : t ≠ 0)
  (HK : ∀ (d : Nat) (ao : Option Addr) (w : World), Calls Tryz.prog 77 #[.agg #[.int .i64 r, .int .i64 c, .slice ao m d]] w fun e w' => e = .returned (.int .i64 t) ∧ Below w.heap.size w w') (w : World) (ht : Tab w) :
  Calls Tryz.prog 14 #[.int .i64 r, .int .i64 c, .int .u8 zn, .int .u8 zq] w fun e w' => e = .returned (.bool true) ∧ Below w.heap.size w w' := by
 refine eerr_bad r c zn zq m q t ezn m39 ezq q49 (fun w ht => eworks_any w ht) ht0 ?_ ?_ ?_ ?_ ?_ ?_ ?_ ?_ hs2_any ha2_any ?_ w ht
 ·rintro p w ⟨ao, d, rfl, -, -⟩
  exact HK d ao w
 ·rintro p w ⟨ao, d, rfl, -, -⟩
  exact ereduce_e r c t m d ao ht0 (HK d ao) w
 ·rintro p w ⟨ao, d, rfl, -, -⟩
  exact erank_e r c t m d ao ht0 (HK d ao) w
 ·rintro p w ⟨ao, d, rfl, -, -⟩
  exact ekern_e r c t m d ao ht0 (HK d ao) w
 ·rintro p s w ⟨ao, d, rfl, -, -⟩ hv
  obtain ⟨bo, bd, rfl⟩ := slq_form' hv
  rw [List.length_replicate]
  exact esolve_e r c t m d ao bo q bd ht0 (fun w => efw_e r c t ao bo m d q bd (HK d ao) ht0 w) w
 ·rintro p s w ⟨ao, d, rfl, -, -⟩ hv
  obtain ⟨bo, bd, rfl⟩ := slq_form' hv
  rw [List.length_replicate]
  exact eag_e r c t m d ao bo q bd ht0 (fun w => efw_e r c t ao bo m d q bd (HK d ao) ht0 w) w
 ·rintro p w ⟨ao, d, rfl, -, -⟩
  exact einv_e r c t m d ao ht0 (fun w => efs_e r c t ao m d (HK d ao) ht0 w) w
 ·rintro p w ⟨ao, d, rfl, -, -⟩
  exact edet_e r c t m d ao ht0 (fun w => efs_e r c t ao m d (HK d ao) ht0 w) w
 ·rintro p w ⟨ao, d, rfl, -, -⟩
  exact eminor_e r c t m d ao 0 ht0 (HK d ao) w
set_option maxHeartbeats 4000000 in
set_option maxRecDepth 10000 in
theorem eerr_any (r c zn zq : Int) (hz : 0 ≤ zn) (hz2 : 0 ≤ zq) (W : World) (ht : Tab W) :
  Calls Tryz.prog 14 #[.int .i64 r, .int .i64 c, .int .u8 zn, .int .u8 zq] W fun e w' => e = .returned (.bool true) ∧ Below W.heap.size W w' := by
 obtain ⟨m, ezn, m39⟩ := t40 hz
 obtain ⟨q, ezq, q49⟩ := t50 hz2
 by_cases h1 : r < 0
 ·exact eerr_of r c zn zq 1 m q ezn m39 ezq q49 (by decide) (fun d ao w => mcheck_err r c 1 m d ao (by decide) (fun w => msize_neg1 r c h1 w) w) W ht
 by_cases h2 : c < 0
 ·exact eerr_of r c zn zq 1 m q ezn m39 ezq q49 (by decide) (fun d ao w => mcheck_err r c 1 m d ao (by decide) (fun w => msize_neg2 r c h1 h2 w) w) W ht
 by_cases h3 : 2048 < r
 ·exact eerr_of r c zn zq 3 m q ezn m39 ezq q49 (by decide) (fun d ao w => mcheck_err r c 3 m d ao (by decide) (fun w => msize_big1 r c h1 h2 h3 w) w) W ht
 by_cases h4 : 2048 < c
 ·exact eerr_of r c zn zq 3 m q ezn m39 ezq q49 (by decide) (fun d ao w => mcheck_err r c 3 m d ao (by decide) (fun w => msize_big2 r c h1 h2 h3 h4 w) w) W ht
 obtain ⟨R, rfl⟩ : ∃ R : Nat, r = (R : Int) := ⟨r.toNat, by omega⟩
 obtain ⟨C, rfl⟩ : ∃ C : Nat, c = (C : Int) := ⟨c.toNat, by omega⟩
 have hR : R ≤ 2048 := by omega
 have hC : C ≤ 2048 := by omega
 by_cases h5 : m = R * C
 case neg => exact eerr_of (R : Int) (C : Int) zn zq 1 m q ezn m39 ezq q49 (by decide) (fun d ao w => mcheck_len R C m d (R * C) ao hR hC rfl h5 w) W ht
 have HCk : ∀ (p0 : Value) (w : World), XM w p0 R C m → Calls Tryz.prog 77 #[p0] w fun e w' => e = .returned (.int .i64 0) ∧ Below w.heap.size w w' := fun p w h => by
  obtain ⟨ao, d, rfl, -, -⟩ := h
  exact mcheck_ok R C m d ao hR hC h5 w
 by_cases h6 : (40 : Int) < (R : Int)
 ·exact eerr_big1 R C zn zq m q ezn m39 ezq q49 (fun w ht => eworks_any w ht) HCk h6 W ht
 by_cases h7 : (40 : Int) < (C : Int)
 ·exact eerr_big2 R C zn zq m q ezn m39 ezq q49 (fun w ht => eworks_any w ht) HCk h6 h7 W ht
 have hR4 : R ≤ 40 := by omega
 have hC4 : C ≤ 40 := by omega
 have hq4 : q ≤ 49 := by omega
 have KR := ezReduce R C m hR4 hC4 h5
 have KK := ezRank R C m hR4 hC4 h5
 have KE := ezKernel R C m hR4 hC4 h5
 have KM := ezMinor R C m hR4 hC4 h5 1 rfl
 by_cases hs : (q : Int) = (R : Int)
 ·have e1 : ((q : Int) != (R : Int)) = false := by simp [hs]
  have e2 : ((q : Int) == (R : Int)) = true := by simp [hs]
  have KS := ezSolveY R C m hR4 hC4 h5 q (by omega)
  have KA := ezAgY R C m hR4 hC4 h5 q (by omega)
  by_cases hc : (R : Int) = (C : Int)
  ·exact eerr_oknn R C zn zq m q (if 0 < R then 0 else 1) 1 ezn m39 ezq q49 (fun w ht => eworks_any w ht) h6 h7 HCk KR KK KE (fun p s w h hv => KS p s w h hv) (fun p s w h hv => KA p s w h hv) (ezInvY R C m hR4 hC4 h5 (by omega)) (ezDetY R C m hR4 hC4 h5 (by omega) _ rfl) hs2_any ha2_any KM e1 e2 (by simp [hc]) (by simp [hc]) W ht
  ·exact eerr_oknq R C zn zq m q 1 ezn m39 ezq q49 (fun w ht => eworks_any w ht) h6 h7 HCk KR KK KE (fun p s w h hv => KS p s w h hv) (fun p s w h hv => KA p s w h hv) (ezInvN R C m hR4 hC4 h5 hc) (ezDetN R C m hR4 hC4 h5 hc) hs2_any ha2_any KM e1 e2 (by simpa using hc) (by simpa using hc) W ht
 ·have e1 : ((q : Int) != (R : Int)) = true := by simpa using hs
  have e2 : ((q : Int) == (R : Int)) = false := by simpa using hs
  have KS := ezSolveN R C m hR4 hC4 h5 q hq4 hs
  have KA := ezAgN R C m hR4 hC4 h5 q hq4 hs
  by_cases hc : (R : Int) = (C : Int)
  ·exact eerr_oksn R C zn zq m q (if 0 < R then 0 else 1) 1 ezn m39 ezq q49 (fun w ht => eworks_any w ht) h6 h7 HCk KR KK KE (fun p s w h hv => KS p s w h hv) (fun p s w h hv => KA p s w h hv) (ezInvY R C m hR4 hC4 h5 (by omega)) (ezDetY R C m hR4 hC4 h5 (by omega) _ rfl) hs2_any ha2_any KM e1 e2 (by simp [hc]) (by simp [hc]) W ht
  ·exact eerr_oksq R C zn zq m q 1 ezn m39 ezq q49 (fun w ht => eworks_any w ht) h6 h7 HCk KR KK KE (fun p s w h hv => KS p s w h hv) (fun p s w h hv => KA p s w h hv) (ezInvN R C m hR4 hC4 h5 hc) (ezDetN R C m hR4 hC4 h5 hc) hs2_any ha2_any KM e1 e2 (by simpa using hc) (by simpa using hc) W ht
end Go.Proofs.YtjdjhlmcbffocaaGreatDoor
namespace Go.Proofs.YtjdjhlmcbffocaaGreatDoor
open Go.ChangeShapes Go.WideShapes Go.ChangeAt Go.RowKit
theorem own : ownKnob Tryz.prog.godebug = none := by kernel_rfl
theorem cells24 : Tryz.prog.cellsOf 30 = 1 := by kernel_rfl
/-- The variables that every row of this layer lists. -/
def laidAll : List (String × DataW Unit) := [("math/bits.deBruijn32tab", Rows.laid_math_bits_deBruijn32tab), ("math/bits.deBruijn64tab", Rows.laid_math_bits_deBruijn64tab), ("internal/strconv.uint64pow10", Rows.laid_internal_strconv_uint64pow10)]
theorem gPow : Tryz.prog.globalNamed "internal/strconv.uint64pow10" = some 3 := by kernel_rfl
theorem gPowType : (Tryz.prog.globals[3]?).map (·.type) = some 307 := by kernel_rfl
theorem cells20 : Tryz.prog.cellsOf 307 = 20 := by kernel_rfl
theorem tab_of {W : World} (h : laidMetH Tryz.prog laidAll W) : Tab W := by
 have h1 := laidMetH.filter (fun x => x.1 == "internal/strconv.uint64pow10") h
 have e : laidAll.filter (fun x => x.1 == "internal/strconv.uint64pow10") = [("internal/strconv.uint64pow10", Rows.laid_internal_strconv_uint64pow10)] := by kernel_rfl
 rw [e, MakeChecks.laidMetH_plain _ _ _ (by kernel_rfl)] at h1
 exact Lib.tabIs_of_head (rest := []) gPow gPowType Tryz.underlying307 Tryz.underlying30 cells24 cells20 (show laidMet Tryz.prog (("internal/strconv.uint64pow10", Lib.tabData .u64 Lib.pow10Tab) :: []) W from h1)
end Go.Proofs.YtjdjhlmcbffocaaGreatDoor
