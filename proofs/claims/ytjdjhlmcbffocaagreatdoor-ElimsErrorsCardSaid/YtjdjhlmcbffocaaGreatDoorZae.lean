/-
  The law answers true at every input, and leaves its arguments as they were: a part of the proof. CONDITIONS: the package-level tables start as the program's text lays them (the card ties them).
-/
import Derived.Test.YtjdjhlmcbffocaaGreatDoorZad
set_option linter.unusedVariables false
set_option linter.unusedSimpArgs false
namespace Go.Proofs.YtjdjhlmcbffocaaGreatDoor
open Go.RowKit
attribute [local irreducible] lo hs sm s64 c64 d64 b64 mh ml pd pc qd qc val hiB str cmpI srD lz nb zl zh zs fe rowV tabV gv bsV tabM
theorem Chs.bl {B : Nat} {w w' : World} (h : Chs (fun k => B ≤ k) w w') (hB : B ≤ w.heap.size) : Below B w w' := h.below hB fun k hk e => by omega
theorem ils_own {W : World} {B : Nat} {pa : Option Addr} {c : Nat} {pv : List Nat} (h : W.ownsRow B 3 1 (.slice pa pv.length c) pv.length (pvE pv)) (c2 : Nat) : ILs W (.slice pa pv.length c2) (pv.map Int.ofNat) := by
 have hlt := h.lt
 have hl : (pv.map Int.ofNat).length = pv.length := List.length_map _
 rcases id h.2 with ⟨e1, e2⟩ | ⟨z, cap, cur, e1, hb, -⟩
 ·have e3 : pv = [] := List.eq_nil_of_length_eq_zero e2
  subst e3
  exact ⟨pa, c2, 0, rfl, fun h => absurd h (Nat.lt_irrefl 0), fun i hi => absurd hi (Nat.not_lt_zero i)⟩
 ·obtain ⟨rfl, rfl⟩ : pa = some ⟨z, 0, none⟩ ∧ c = cap := by simpa using e1
  refine ⟨_, c2, z, by rw [hl], fun _ => ⟨rfl, (hlt z rfl).2⟩, fun i hi => ?_⟩
  rw [hl] at hi
  rw [List.getElem_map]
  exact (h.cellAt i (by omega)).trans (pv_at hi)
section
variable (x : Mx) (hx : OKM x) (K : Nat) (hs : ESz x.r x.c x.c K (rowsE x)) (D : ES) (hD : descE x.r ⟨rowsE x, [], 1⟩ x.c = D) (u : Value) (w : World) (hu : CQ w u x.l)
include hx hs hD hu
set_option maxHeartbeats 8000000 in
set_option maxRecDepth 100000 in
theorem erank_w : Calls Tryz.prog 53 #[.agg #[.int .i64 (x.r : Int), .int .i64 (x.c : Int), u]] w fun e w' => e = .returned (.tuple #[.int .i64 (D.pv.length : Int), .int .i64 0]) ∧ Below w.heap.size w w' := by
 obtain ⟨ao, d, rfl, hcap⟩ := hu.form
 have HK := Lib.hid (mcheck_ok x.r x.c x.l.length d ao hx.r hx.c hx.len)
 have HG := Lib.hid (fun (w : World) (h : CQ w (.slice ao x.l.length d) x.l) => egridOf_w x hx 0 (by omega) _ w h)
 obtain ⟨N, hN⟩ : ∃ N, N = x.l.length := ⟨_, rfl⟩
 rw [← hN] at HK HG hu hcap ⊢
 clear hN
 have hL0 : GL w w [] := GL.start w
 replace hL0 := hL0.new rfl [.int .i64 (x.r : Int), .int .i64 (x.c : Int), .slice ao N d] 56
 generalize hweq : w.alloc (.cells #[.int .i64 (x.r : Int), .int .i64 (x.c : Int), .slice ao N d] 56) = x0 at hL0
 have hA := hL0.fc
 simp only [fcG, cellsF, neK, and_true, ne_eq, Nat.zero_add, Nat.reduceAdd] at hA
 go_enter Tryz.func53, Tryz.ntmps53
 go_wp2_with fail
 with_reducible refine Calls.mono (HK.out _) ?_
 rintro e x1 ⟨rfl, hb⟩
 replace hL0 := hL0.call hb
 clear hA hb hweq HK
 have hA := hL0.fc
 simp only [fcG, cellsF, neK, and_true, ne_eq, Nat.zero_add, Nat.reduceAdd] at hA
 go_wp2_with fail
 refine Calls.mono (HG.out _ (hu.below hL0.bl)) ?_
 rintro e w1 ⟨⟨g, rfl, ru, bk, hG⟩, hb⟩
 clear hA HG
 have hL1 := hL0.call hb
 have hA := hL1.fc
 simp only [fcG, cellsF, neK, and_true, ne_eq, Nat.zero_add, Nat.reduceAdd] at hA
 have HD := Lib.hid (edesc_any hs w1 hG D hD)
 go_wp2_with fail
 with_reducible refine Calls.mono HD.out ?_
 rintro e w2 ⟨rfl, ⟨pu, bk2, hG2⟩, hc⟩
 have hB := hb.trans (hc.bl hb.size)
 replace hL0 := hL0.call hB
 clear hA HD hc hb hG hL1 hB
 obtain ⟨pa, pc, hpu⟩ := hG2.pform
 subst hpu
 have c1 := hG2.cells.2.1
 go_wp2_with fail
 exact bodyPost_ret (v := .tuple #[.int .i64 (D.pv.length : Int), .int .i64 0]) (by simp [results, Tryz.results53, go_sem]) rfl ⟨rfl, hL0.bl⟩
set_option maxHeartbeats 8000000 in
set_option maxRecDepth 100000 in
theorem ekern_w : Calls Tryz.prog 65 #[.agg #[.int .i64 (x.r : Int), .int .i64 (x.c : Int), u]] w fun e w' => (∃ v, e = .returned (.tuple #[v, .int .i64 0]) ∧ VLs w' v ((freeL D.pv x.c).map fun k => tabV x.c (kvE D.pv (ascE D.pv D.G D.pv.length) k))) ∧ Below w.heap.size w w' := by
 obtain ⟨ao, d, rfl, hcap⟩ := hu.form
 have HK := Lib.hid (mcheck_ok x.r x.c x.l.length d ao hx.r hx.c hx.len)
 have HG := Lib.hid (fun (w : World) (h : CQ w (.slice ao x.l.length d) x.l) => egridOf_w x hx 0 (by omega) _ w h)
 obtain ⟨N, hN⟩ : ∃ N, N = x.l.length := ⟨_, rfl⟩
 rw [← hN] at HK HG hu hcap ⊢
 clear hN
 have hL0 : GL w w [] := GL.start w
 replace hL0 := hL0.new rfl [.int .i64 (x.r : Int), .int .i64 (x.c : Int), .slice ao N d] 56
 generalize hweq : w.alloc (.cells #[.int .i64 (x.r : Int), .int .i64 (x.c : Int), .slice ao N d] 56) = x0 at hL0
 have hA := hL0.fc
 simp only [fcG, cellsF, neK, and_true, ne_eq, Nat.zero_add, Nat.reduceAdd] at hA
 have hI := (desc_ok (R := x.r) (rowsE x) 1 x.c).1
 rw [hD] at hI
 have hRd := (red_ok x.r x.c (rowsE x)).1
 have hlc : D.pv.length ≤ x.c := by have := hRd.len_le; unfold redE at this; rw [hD] at this; exact this
 clear hRd
 go_enter Tryz.func65, Tryz.ntmps65
 go_wp2_with fail
 with_reducible refine Calls.mono (HK.out _) ?_
 rintro e x1 ⟨rfl, hb⟩
 replace hL0 := hL0.call hb
 clear hA hb hweq HK
 have hA := hL0.fc
 simp only [fcG, cellsF, neK, and_true, ne_eq, Nat.zero_add, Nat.reduceAdd] at hA
 go_wp2_with fail
 refine Calls.mono (HG.out _ (hu.below hL0.bl)) ?_
 rintro e w1 ⟨⟨g, rfl, ru, bk, hG⟩, hb⟩
 clear hA HG
 have hL1 := hL0.call hb
 have hA := hL1.fc
 simp only [fcG, cellsF, neK, and_true, ne_eq, Nat.zero_add, Nat.reduceAdd] at hA
 have HD := Lib.hid (edesc_any hs w1 hG D hD)
 go_wp2_with fail
 with_reducible refine Calls.mono HD.out ?_
 rintro e w2 ⟨rfl, ⟨pu, bk2, hG2⟩, hc⟩
 replace hb := hb.trans (hc.bl hb.size)
 clear hA HD hc hG hL1
 have HA := Lib.hid (easc_any hs D hD w2 hG2)
 go_wp2_with fail
 with_reducible refine Calls.mono HA.out ?_
 rintro e w3 ⟨rfl, hG3, hc⟩
 replace hb := hb.trans (hc.bl hb.size)
 clear HA hc hG2
 have hL1 := hL0.call hb
 have hA := hL1.fc
 simp only [fcG, cellsF, neK, and_true, ne_eq, Nat.zero_add, Nat.reduceAdd] at hA
 have HKe := Lib.hid (ekernel_w _ g x.r x.c x.c _ _ bk2 _ D.pv D.f (Nat.le_refl _) (by have := hx.c; omega) (by have := hx.r; omega) hI.le hlc hI.lt hI.up w3 hG3)
 clear hI
 go_wp2_with fail
 with_reducible refine Calls.mono HKe.out ?_
 rintro e w4 ⟨⟨v, rfl, hv⟩, hb4⟩
 replace hL1 := hL1.call hb4
 clear hA HKe
 go_wp2_with fail
 exact bodyPost_ret (v := .tuple #[v, .int .i64 0]) (by simp [results, Tryz.results65, go_sem]) rfl ⟨⟨v, rfl, hv.vls⟩, hL1.bl⟩
set_option maxHeartbeats 8000000 in
set_option maxRecDepth 100000 in
theorem edet0_w : Calls Tryz.prog 135 #[.agg #[.int .i64 (x.r : Int), .int .i64 (x.c : Int), u]] w fun e w' => e = .returned (fracV (if D.pv.length < x.r then 0 else D.f)) ∧ Below w.heap.size w w' := by
 obtain ⟨q, hq⟩ : ∃ q, q = if D.pv.length < x.r then 0 else D.f := ⟨_, rfl⟩
 rw [← hq]
 replace hq := Lib.hid hq
 obtain ⟨ao, d, rfl, hcap⟩ := hu.form
 have HG := Lib.hid (fun (w : World) (h : CQ w (.slice ao x.l.length d) x.l) => egridOf_w x hx 0 (by omega) _ w h)
 obtain ⟨N, hN⟩ : ∃ N, N = x.l.length := ⟨_, rfl⟩
 rw [← hN] at HG hu hcap ⊢
 clear hN
 have hL0 : GL w w [] := GL.start w
 replace hL0 := (hL0.new rfl [.int .i64 (x.r : Int), .int .i64 (x.c : Int), .slice ao N d] 56).new (K := w.heap.size + 1) (by simp) (frC 0) 36
 obtain ⟨x0, hx0⟩ : ∃ y, y = (w.alloc (.cells [.int .i64 (x.r : Int), .int .i64 (x.c : Int), .slice ao N d].toArray 56)).alloc (.cells (frC 0).toArray 36) := ⟨_, rfl⟩
 rw [← hx0] at hL0
 rw [frC_zero] at hx0
 have hweq := hx0.symm
 clear hx0
 have hF := hL0
 rw [frC_zero] at hF
 have hA := hF.fc
 simp only [fcG, cellsF, neK, and_true, ne_eq, Nat.zero_add, Nat.reduceAdd] at hA
 go_enter Tryz.func135, Tryz.ntmps135
 go_wp2_with fail
 refine Calls.mono (HG.out _ (hu.below hL0.bl)) ?_
 rintro e w1 ⟨⟨g, rfl, ru, bk, hG⟩, hb⟩
 clear hA HG hF hweq
 have hL1 := hL0.call hb
 have hA := hL1.fc
 simp only [frC_zero, fcG, cellsF, neK, and_true, ne_eq, Nat.zero_add, Nat.reduceAdd] at hA
 have HD := Lib.hid (edesc_any hs w1 hG D hD)
 go_wp2_with fail
 with_reducible refine Calls.mono HD.out ?_
 rintro e w2 ⟨rfl, ⟨pu, bk2, hG2⟩, hc⟩
 replace hb := hb.trans (hc.bl hb.size)
 replace hL0 := hL0.call hb
 clear hA HD hc hb hG hL1
 obtain ⟨pa, pc, hpu⟩ := hG2.pform
 subst hpu
 have c1 := hG2.cells.2.1
 have hF := hL0
 rw [frC_zero] at hF
 have hA := hF.fc
 simp only [fcG, cellsF, neK, and_true, ne_eq, Nat.zero_add, Nat.reduceAdd] at hA
 go_upto_region 3 with fail
 go_region
 replace hL0 := hL0.drew
 replace hG2 := hG2.below ((Below.refl _ _).drew)
 clear hA hF c1
 generalize w2.drew = w3 at hL0 hG2 ⊢
 obtain ⟨-, -, f0, f1, f2, f3, f4⟩ := hG2.cells
 simp only [Nat.reduceAdd] at f1 f2 f3 f4
 by_cases hlt : D.pv.length < x.r
 ·have hq0 : q = 0 := by rw [hq.out, if_pos hlt]
  have hz : fracV q = .agg #[.int .u64 0, .string ⟨#[]⟩, .bool false, .int .u64 0, .string ⟨#[]⟩] := by rw [hq0]; have := frV_q0; simpa [fracV] using this
  have h1 : (D.pv.length : Int) < (x.r : Int) := by omega
  have hF := hL0
  rw [frC_zero] at hF
  have hP := hF.put 0 (w.heap.size + 1) _ rfl [.int .u64 0, .string ⟨#[]⟩, .bool false, .int .u64 0, .string ⟨#[]⟩] rfl
  obtain ⟨y, hy⟩ : ∃ y, setAll w3 (w.heap.size + 1) 0 [.int .u64 0, .string ⟨#[]⟩, .bool false, .int .u64 0, .string ⟨#[]⟩] = y := ⟨_, rfl⟩
  rw [hy] at hP
  simp only [setAll, Nat.zero_add, Nat.reduceAdd] at hy
  simp only [List.set_cons_zero] at hP
  have hA := hF.fc
  simp only [fcG, cellsF, neK, and_true, ne_eq, Nat.zero_add, Nat.reduceAdd] at hA
  have hB := hP.fc
  simp only [fcG, cellsF, neK, and_true, ne_eq, Nat.zero_add, Nat.reduceAdd] at hB
  clear f0 f1 f2 f3 f4 hL0 hF
  replace hz := Lib.hid hz
  replace hq0 := Lib.hid hq0
  go_wp2_with fail
  exact bodyPost_ret (v := .agg #[.int .u64 0, .string ⟨#[]⟩, .bool false, .int .u64 0, .string ⟨#[]⟩]) (by simp [results, Tryz.results135, go_sem, hB]) rfl ⟨by rw [hz.out], hP.bl⟩
 ·have hq0 : q = D.f := by rw [hq.out, if_neg hlt]
  rw [← hq0] at f0 f1 f2 f3 f4
  have h1 : ¬ (D.pv.length : Int) < (x.r : Int) := by omega
  have hF := hL0
  rw [frC_zero] at hF
  have hP := hL0.box5 q
  obtain ⟨y, hy⟩ : ∃ y, put5 w3 (w.heap.size + 1) 0 q = y := ⟨_, rfl⟩
  rw [hy] at hP
  simp only [put5, Nat.zero_add] at hy
  have hA := hF.fc
  simp only [fcG, cellsF, neK, and_true, ne_eq, Nat.zero_add, Nat.reduceAdd] at hA
  unfold frC at hP
  have hB := hP.fc
  simp only [fcG, cellsF, neK, and_true, ne_eq, Nat.zero_add, Nat.reduceAdd] at hB
  clear hL0 hF
  replace hq0 := Lib.hid hq0
  go_wp2_with fail
  exact bodyPost_ret (v := fracV q) (by simp [results, Tryz.results135, go_sem, hB]) rfl ⟨rfl, hP.bl⟩
end
end Go.Proofs.YtjdjhlmcbffocaaGreatDoor
namespace Go.Proofs.YtjdjhlmcbffocaaGreatDoor
open Go.RowKit
attribute [local irreducible] lo hs sm s64 c64 d64 b64 mh ml pd pc qd qc val hiB str cmpI srD lz nb zl zh zs fe rowV tabV gv bsV tabM
theorem eclip_w (pa : Option Addr) (l c : Nat) (hl : l ≤ c) (hb : l ≤ 100000) (w : World) : Calls Tryz.prog 127 #[.slice pa l c] w fun xe w' => xe = .returned (.slice pa l l) ∧ Below w.heap.size w w' := by
 obtain ⟨i0, hi0, hz1, hz2, hz3⟩ := info_parts infoRw
 have hsz : ∀ W, (sizeOf 3).run Tryz.prog W = .ok 1 W := fun W => by simp [sizeOf, typeInfo, hi0, hz2]
 have b1 : (0 : Int) ≤ (l : Int) := by omega
 have b2 : (l : Int) ≤ (c : Int) := by omega
 have b3 : (l : Int) ≤ (l : Int) := by omega
 have hsl : ∀ W, (Instr.slice 24 (.slice pa l c) none (some (.int .i64 (l : Int))) (some (.int .i64 (l : Int)))).run Tryz.prog W = .ok (.slice pa l l) W := fun W => by
  cases pa with
  | none => simp [Instr.slice, Instr.sliceBounds, run_underlying Tryz.underlying24, run_sliceBound, b1, b2, hsz, go_sem, Addr.add]
  | some a => simp [Instr.slice, Instr.sliceBounds, run_underlying Tryz.underlying24, run_sliceBound, b1, b2, hsz, go_sem, Addr.add]
 clear b1 b2 b3 hsz
 go_enter Tryz.func127, Tryz.ntmps127
 go_wp2_with fail
 exact bodyPost_ret (v := .slice pa l l) (by simp [results, Tryz.results127, go_sem]) rfl ⟨rfl, Below.refl _ _⟩
/-- A matrix that a call has made. -/
abbrev PRp (B : Nat) (r c : Int) (N : Nat) (l : List Rat) : Value → World → Prop := fun v W => ∃ b, v = .agg #[.int .i64 r, .int .i64 c, .slice (some ⟨b, 0, none⟩) N N] ∧ B ≤ b ∧ Hd W b (frCs l)
theorem stays_prp (B : Nat) (r c : Int) (N : Nat) (l : List Rat) : Stays (PRp B r c N l) := fun _ _ _ hb ⟨b, h1, h2, h3⟩ => ⟨b, h1, h2, h3.below hb⟩
section
variable (x : Mx) (hx : OKM x) (K : Nat) (hs : ESz x.r x.c x.c K (rowsE x)) (D : ES) (hD : descE x.r ⟨rowsE x, [], 1⟩ x.c = D) (u : Value) (w : World) (hu : CQ w u x.l)
include hx hs hD hu
set_option maxHeartbeats 8000000 in
set_option maxRecDepth 100000 in
theorem edet_w (hsq : x.r = x.c) : Calls Tryz.prog 57 #[.agg #[.int .i64 (x.r : Int), .int .i64 (x.c : Int), u]] w fun e w' => e = .returned (.tuple #[fracV (if D.pv.length < x.r then 0 else D.f), .int .i64 0]) ∧ Below w.heap.size w w' := by
 have HD := Lib.hid (fun (w : World) (h : CQ w u x.l) => edet0_w x hx K hs D hD u w h)
 obtain ⟨q, hq⟩ : ∃ q, q = if D.pv.length < x.r then 0 else D.f := ⟨_, rfl⟩
 rw [← hq] at HD ⊢
 clear hq hs hD
 obtain ⟨ao, d, rfl, hcap⟩ := hu.form
 have HF := Lib.hid (efs_ok (x.r : Int) (x.c : Int) 0 ao x.l.length d (mcheck_ok x.r x.c x.l.length d ao hx.r hx.c hx.len) rfl (by rw [hsq]))
 clear hsq
 obtain ⟨N, hN⟩ : ∃ N, N = x.l.length := ⟨_, rfl⟩
 rw [← hN] at HD HF hu hcap ⊢
 clear hN
 have hL0 : GL w w [] := GL.start w
 replace hL0 := (hL0.new rfl [.int .i64 (x.r : Int), .int .i64 (x.c : Int), .slice ao N d] 56).new (K := w.heap.size + 1) (by simp) (frC 0) 36
 obtain ⟨x0, hx0⟩ : ∃ y, y = (w.alloc (.cells [.int .i64 (x.r : Int), .int .i64 (x.c : Int), .slice ao N d].toArray 56)).alloc (.cells (frC 0).toArray 36) := ⟨_, rfl⟩
 rw [← hx0] at hL0
 rw [frC_zero] at hx0
 have hweq := hx0.symm
 clear hx0
 have hA := hL0.fc
 simp only [frC_zero, fcG, cellsF, neK, and_true, ne_eq, Nat.zero_add, Nat.reduceAdd] at hA
 go_enter Tryz.func57, Tryz.ntmps57
 go_wp2_with fail
 with_reducible refine Calls.mono (HF.out _) ?_
 rintro e x1 ⟨rfl, hb⟩
 replace hL0 := hL0.call hb
 clear hA hb hweq HF
 have hA := hL0.fc
 simp only [frC_zero, fcG, cellsF, neK, and_true, ne_eq, Nat.zero_add, Nat.reduceAdd] at hA
 go_wp2_with fail
 with_reducible refine Calls.mono (HD.out _ (hu.below hL0.bl)) ?_
 rintro e x2 ⟨rfl, hb⟩
 replace hL0 := hL0.call hb
 clear hA hb HD
 have hP := hL0.box5 q
 obtain ⟨y, hy⟩ : ∃ y, put5 x2 (w.heap.size + 1) 0 q = y := ⟨_, rfl⟩
 rw [hy] at hP
 simp only [put5, Nat.zero_add] at hy
 have hA := hL0.fc
 simp only [frC_zero, fcG, cellsF, neK, and_true, ne_eq, Nat.zero_add, Nat.reduceAdd] at hA
 unfold frC at hP
 have hB := hP.fc
 simp only [fcG, cellsF, neK, and_true, ne_eq, Nat.zero_add, Nat.reduceAdd] at hB
 clear hL0
 go_wp2_with fail
 exact bodyPost_ret (v := .tuple #[fracV q, .int .i64 0]) (by simp [results, Tryz.results57, go_sem, hB]) rfl ⟨rfl, hP.bl⟩
set_option maxHeartbeats 8000000 in
set_option maxRecDepth 100000 in
theorem ereduce_w (hN1 : x.r * x.c ≤ 1000000) : Calls Tryz.prog 50 #[.agg #[.int .i64 (x.r : Int), .int .i64 (x.c : Int), u]] w fun e w' => (∃ b s, e = .returned (.tuple #[.agg #[.int .i64 (x.r : Int), .int .i64 (x.c : Int), .slice (some ⟨b, 0, none⟩) (x.r * x.c) (x.r * x.c)], s, .int .i64 0]) ∧ Hd w' b (frCs (prtE (x.r * x.c) x.c 0 (ascE D.pv D.G D.pv.length) x.r)) ∧ ILs w' s (D.pv.map Int.ofNat)) ∧ Below w.heap.size w w' := by
 obtain ⟨ao, d, rfl, hcap⟩ := hu.form
 have HK := Lib.hid (mcheck_ok x.r x.c x.l.length d ao hx.r hx.c hx.len)
 have HG := Lib.hid (fun (w : World) (h : CQ w (.slice ao x.l.length d) x.l) => egridOf_w x hx 0 (by omega) _ w h)
 have hlen := hx.len
 obtain ⟨N, hN⟩ : ∃ N, N = x.l.length := ⟨_, rfl⟩
 rw [← hlen, ← hN]
 rw [← hN] at HK HG hu hcap hlen
 clear hN
 have hL0 : GL w w [] := GL.start w
 replace hL0 := (hL0.new rfl [.int .i64 (x.r : Int), .int .i64 (x.c : Int), .slice ao N d] 56).new (K := w.heap.size + 1) (by simp) [.int .i64 0, .int .i64 0, .slice none 0 0] 56
 generalize hweq : (w.alloc (.cells #[.int .i64 (x.r : Int), .int .i64 (x.c : Int), .slice ao N d] 56)).alloc (.cells #[.int .i64 0, .int .i64 0, .slice none 0 0] 56) = x0 at hL0
 have hA := hL0.fc
 simp only [fcG, cellsF, neK, and_true, ne_eq, Nat.zero_add, Nat.reduceAdd] at hA
 replace hlen := Lib.hid hlen
 go_enter Tryz.func50, Tryz.ntmps50
 go_wp2_with fail
 with_reducible refine Calls.mono (HK.out _) ?_
 rintro e x1 ⟨rfl, hb⟩
 replace hL0 := hL0.call hb
 clear hA hb hweq HK
 have hA := hL0.fc
 simp only [fcG, cellsF, neK, and_true, ne_eq, Nat.zero_add, Nat.reduceAdd] at hA
 go_wp2_with fail
 refine Calls.mono (HG.out _ (hu.below hL0.bl)) ?_
 rintro e w1 ⟨⟨g, rfl, ru, bk, hG⟩, hb⟩
 clear hA HG
 have hL1 := hL0.call hb
 have hA := hL1.fc
 simp only [fcG, cellsF, neK, and_true, ne_eq, Nat.zero_add, Nat.reduceAdd] at hA
 have HD := Lib.hid (edesc_any hs w1 hG D hD)
 have hw8 := Lib.hid (show w.heap.size + 2 ≤ x1.heap.size by have := (hL0.get _ _ List.mem_cons_self).lt; omega)
 go_wp2_with fail
 with_reducible refine Calls.mono HD.out ?_
 rintro e w2 ⟨rfl, ⟨pu, bk2, hG2⟩, hc⟩
 replace hb := hb.trans (hc.bl hb.size)
 clear hA HD hc hG hL1
 have HA := Lib.hid (easc_any hs D hD w2 hG2)
 go_wp2_with fail
 with_reducible refine Calls.mono HA.out ?_
 rintro e w3 ⟨rfl, hG3, hc⟩
 replace hb := hb.trans (hc.bl hb.size)
 replace hL0 := hL0.call hb
 clear HA hc hG2 hb
 have hlD : D.pv.length ≤ 100000 := by have := (desc_ok (R := x.r) (rowsE x) 1 x.c).1.le; rw [hD] at this; have := hx.r; omega
 obtain ⟨A, hA9⟩ : ∃ A, A = ascE D.pv D.G D.pv.length := ⟨_, rfl⟩
 rw [← hA9] at hG3
 replace hA9 := Lib.hid hA9
 obtain ⟨pa, pc, hpu⟩ := hG3.pform
 subst hpu
 have hpc : D.pv.length ≤ pc := by
  rcases id hG3.hp.2 with ⟨e1, e2⟩ | ⟨z, cap, cur, e1, -, -, e2, -⟩
  ·omega
  ·obtain ⟨-, rfl⟩ : pa = some ⟨z, 0, none⟩ ∧ pc = cap := by simpa using e1
   omega
 have HP := fun (W : World) (hb : Below w3.heap.size w3 W) => epart_w _ g x.r x.c 0 x.c N ru _ bk2 A D.pv D.f (by have := hx.c; omega) (by have := hx.r; omega) (by omega) hlen.out (by rw [hlen.out]; exact hN1) W (hG3.below hb)
 have hw3 := Lib.hid (show w.heap.size + 2 ≤ w3.heap.size by have := (hL0.get _ _ List.mem_cons_self).lt; omega)
 have c1 := hG3.cells.2.1
 have HC := Lib.hid (eclip_w pa D.pv.length pc hpc hlD)
 go_upto_region 7 with fail
 refine region_tl 9 [EV (.pointer (some ⟨g, 0, none⟩)), EV (.pointer (some ⟨w.heap.size, 1, none⟩)), EV (.int .i64 (x.c : Int)), PRp (w.heap.size + 2) (x.r : Int) (x.c : Int) N (prtE N x.c 0 A x.r), EV (.pointer (some ⟨g, 0, none⟩)), EV (.pointer (some ⟨g, 0, none⟩)), EV (.pointer (some ⟨g, 1, none⟩)), EV (.slice pa D.pv.length pc), EV (.slice pa D.pv.length D.pv.length)] (by kernel_rfl) (by kernel_rfl) ?_ ?_ ?_
 ·exact (stays_cons (stays_eq _) (stays_cons (stays_eq _) (stays_cons (stays_eq _) (stays_cons (stays_prp _ _ _ _ _) (stays_cons (stays_eq _) (stays_cons (stays_eq _) (stays_cons (stays_eq _) (stays_cons (stays_eq _) (stays_cons (stays_eq _) stays_nil)))))))))
 ·simp only [List.take_succ_cons, List.take_zero, hopsR, and_true]
  refine ⟨?_, ?_, ?_, ?_, ?_, ?_, ?_, ?_, ?_⟩ <;> intro fv w1 hb1 hp
  all_goals (simp only [putsV, Act.put, List.setIfInBounds_toArray, List.set_cons_succ, List.set_cons_zero, Nat.zero_add, Nat.reduceAdd])
  ·refine tyAt_none rfl ?_
   simp [tyUpon, execOp, go_sem, Act.eval, Below.refl]
  ·refine tyAt_none rfl ?_
   simp [tyUpon, execOp, go_sem, Act.eval, Below.refl]
  ·have h1 : EV (.pointer (some ⟨w.heap.size, 1, none⟩)) (fv 1) w1 := hp 1 (LC (by kernel_rfl))
   refine tyAt_none rfl ?_
   have hc := (hL0.call (below_drew hb1)).fc
   simp only [fcG, cellsF, neK, and_true, ne_eq, Nat.zero_add, Nat.reduceAdd] at hc
   simp [tyUpon, execOp, go_sem, Act.eval, h1, hc, Below.refl]
  ·have h0 : EV (.pointer (some ⟨g, 0, none⟩)) (fv 0) w1 := hp 0 (LC (by kernel_rfl))
   have h2 : EV (.int .i64 (x.c : Int)) (fv 2) w1 := hp 2 (LC (by kernel_rfl))
   refine tyAt_none rfl ?_
   refine ty_call (f := 126) (args := #[.pointer (some ⟨g, 0, none⟩), .int .i64 0, .int .i64 (x.c : Int)]) (by simp [execOp, go_sem, Act.eval, h0, h2]) ?_
   exact (HP w1 (below_drew hb1)).mono fun e w2 ⟨⟨b, h1, h2, h3⟩, h4⟩ => ⟨_, h1, ⟨b, rfl, Nat.le_trans (Nat.le_trans hw3.out (below_drew hb1).size) h2, h3⟩, h4⟩
  ·refine tyAt_none rfl ?_
   simp [tyUpon, execOp, go_sem, Act.eval, Below.refl]
  ·have h4 : EV (.pointer (some ⟨g, 0, none⟩)) (fv 4) w1 := hp 4 (LC (by kernel_rfl))
   refine tyAt_none rfl ?_
   simp [tyUpon, execOp, go_sem, Act.eval, h4, Below.refl]
  ·have h5 : EV (.pointer (some ⟨g, 0, none⟩)) (fv 5) w1 := hp 5 (LC (by kernel_rfl))
   refine tyAt_none rfl ?_
   simp [tyUpon, execOp, go_sem, Act.eval, h5, Below.refl]
  ·have h6 : EV (.pointer (some ⟨g, 1, none⟩)) (fv 6) w1 := hp 6 (LC (by kernel_rfl))
   refine tyAt_none rfl ?_
   have hc := keepsC (below_drew hb1) c1
   simp [tyUpon, execOp, go_sem, Act.eval, h6, hc, Below.refl]
  ·have h7 : EV (.slice pa D.pv.length pc) (fv 7) w1 := hp 7 (LC (by kernel_rfl))
   refine tyAt_none rfl ?_
   refine ty_call (f := 127) (args := #[.slice pa D.pv.length pc]) (by simp [execOp, go_sem, Act.eval, h7]) ?_
   exact (HC.out w1).mono fun e w2 ⟨h1, h2⟩ => ⟨_, h1, rfl, h2⟩
 ·intro fv u1 hb1 hv
  have ev0 : fv 0 = _ := hv 0 (by omega)
  have ev1 : fv 1 = _ := hv 1 (by omega)
  have ev2 : fv 2 = _ := hv 2 (by omega)
  obtain ⟨b9, ev3, hb9, hH9⟩ := hv 3 (by omega)
  have ev4 : fv 4 = _ := hv 4 (by omega)
  have ev5 : fv 5 = _ := hv 5 (by omega)
  have ev6 : fv 6 = _ := hv 6 (by omega)
  have ev7 : fv 7 = _ := hv 7 (by omega)
  have ev8 : fv 8 = _ := hv 8 (by omega)
  simp only [List.take_succ_cons, List.take_zero, putsV, Act.put, List.setIfInBounds_toArray, List.set_cons_succ, List.set_cons_zero, List.drop_succ_cons, List.drop_zero, Nat.zero_add, Nat.reduceAdd, ev0, ev1, ev2, ev3, ev4, ev5, ev6, ev7, ev8]
  have hbd := below_drew hb1
  replace hL0 := hL0.call hbd
  replace hG3 := hG3.below hbd
  have hil := ils_own hG3.hp D.pv.length
  clear hbd hb1 hv ev0 ev1 ev2 ev3 ev4 ev5 ev6 ev7 ev8 fv c1 HC HP hpc hlD
  have hP := hL0.put 0 (w.heap.size + 1) _ rfl [.int .i64 (x.r : Int), .int .i64 (x.c : Int), .slice (some ⟨b9, 0, none⟩) N N] rfl
  have hu := setAll_upd (w.heap.size + 1) [.int .i64 (x.r : Int), .int .i64 (x.c : Int), .slice (some ⟨b9, 0, none⟩) N N] 0 u1
  obtain ⟨y, hy⟩ : ∃ y, setAll u1 (w.heap.size + 1) 0 [.int .i64 (x.r : Int), .int .i64 (x.c : Int), .slice (some ⟨b9, 0, none⟩) N N] = y := ⟨_, rfl⟩
  rw [hy] at hP hu
  simp only [setAll, Nat.zero_add, Nat.reduceAdd] at hy
  simp only [List.set_cons_zero] at hP
  have hA := hL0.fc
  simp only [fcG, cellsF, neK, and_true, ne_eq, Nat.zero_add, Nat.reduceAdd] at hA
  have hB := hP.fc
  simp only [fcG, cellsF, neK, and_true, ne_eq, Nat.zero_add, Nat.reduceAdd] at hB
  have hH8 := hH9.chs (Chs.of_upd hu) fun e => by omega
  have hil2 : ILs y (.slice pa D.pv.length D.pv.length) (D.pv.map Int.ofNat) := by
   have h1 := own_chs hG3.hp (Chs.of_upd hu) fun z hz e => by have := (hG3.hp.lt z hz).1; have := hw8.out; omega
   exact ils_own h1 _
  rw [hA9.out] at hH8
  clear hL0 hH9 hG3 hu hil
  go_wp2_with fail
  exact bodyPost_ret (v := .tuple #[.agg #[.int .i64 (x.r : Int), .int .i64 (x.c : Int), .slice (some ⟨b9, 0, none⟩) N N], .slice pa D.pv.length D.pv.length, .int .i64 0]) (by simp [results, Tryz.results50, go_sem, hB]) rfl ⟨⟨b9, _, rfl, hH8, hil2⟩, hP.bl⟩
end
end Go.Proofs.YtjdjhlmcbffocaaGreatDoor
namespace Go.Proofs.YtjdjhlmcbffocaaGreatDoor
open Go.RowKit
attribute [local irreducible] lo hs sm s64 c64 d64 b64 mh ml pd pc qd qc val hiB str cmpI srD lz nb zl zh zs fe rowV tabV gv bsV tabM
/-- The rows with the first m right-hand sides behind them. -/
def augP (x : Mx) (b : List Rat) (m : Nat) : Gd := fun i j => if j = x.c ∧ i < m then gv b i else rowsE x i j
def augE (x : Mx) (b : List Rat) : Gd := fun i j => if j = x.c then gv b i else rowsE x i j
theorem aug_zero (x : Mx) (b : List Rat) : augP x b 0 = rowsE x := by funext i j; unfold augP; rw [if_neg fun h => by omega]
theorem aug_row (x : Mx) (b : List Rat) (m : Nat) : (tabV (x.c + 1) (augP x b m m)).set x.c (gv b m) = tabV (x.c + 1) (augP x b (m + 1) m) := by
 refine List.ext_getElem (by rw [List.length_set, tabV_len, tabV_len]) fun a h1 h2 => ?_
 have ha : a < x.c + 1 := by rwa [tabV_len] at h2
 rw [List.getElem_set, ← gv_get h2, gv_tab ha]
 unfold augP
 by_cases e : x.c = a
 ·rw [if_pos e, if_pos ⟨e.symm, by omega⟩]
 ·rw [if_neg e, if_neg fun h => e h.1.symm]
  have h3 : a < (tabV (x.c + 1) fun j => if j = x.c ∧ m < m then gv b m else rowsE x m j).length := by rw [tabV_len]; exact ha
  rw [← gv_get h3, gv_tab ha, if_neg fun h => e h.1.symm]
theorem aug_step (x : Mx) (b : List Rat) (m : Nat) : (fun a => if a = m then augP x b (m + 1) m else augP x b m a) = augP x b (m + 1) := by
 funext a j
 by_cases e : a = m
 ·subst e; rw [if_pos rfl]
 ·rw [if_neg e]
  unfold augP
  by_cases g : j = x.c ∧ a < m
  ·rw [if_pos g, if_pos ⟨g.1, by omega⟩]
  ·rw [if_neg g, if_neg fun h => g ⟨h.1, by omega⟩]
/-- What Solve returns. -/
def SolP (c R : Nat) (D : ES) (e : Ending) (w' : World) : Prop :=
 ((∀ i, D.pv.length ≤ i → i < R → D.G i c = 0) ∧ ∃ b v, e = .returned (.tuple #[.agg #[.slice (some ⟨b, 0, none⟩) c c, v], .int .i64 0]) ∧ Hd w' b (frCs (tabV c (solE D.pv (ascE D.pv D.G D.pv.length) c))) ∧ VLs w' v ((freeL D.pv c).map fun k => tabV c (kvE D.pv (ascE D.pv D.G D.pv.length) k))) ∨
 ((∃ i, D.pv.length ≤ i ∧ i < R ∧ D.G i c ≠ 0) ∧ e = .returned (.tuple #[.agg #[.slice none 0 0, .slice none 0 0], .int .i64 6]))
set_option maxHeartbeats 16000000 in
set_option maxRecDepth 100000 in
theorem esolve_w (x : Mx) (hx : OKM x) (b : List Rat) (hbl : b.length = x.r) (K : Nat) (hs : ESz x.r (x.c + 1) x.c K (augE x b)) (D : ES) (hD : descE x.r ⟨augE x b, [], 1⟩ x.c = D) (u s : Value) (w : World) (hu : CQ w u x.l) (hv : SlQ w s b) :
  Calls Tryz.prog 69 #[.agg #[.int .i64 (x.r : Int), .int .i64 (x.c : Int), u], s] w fun e w' => SolP x.c x.r D e w' ∧ Below w.heap.size w w' := by
 obtain ⟨ao, d, rfl, hcap⟩ := hu.form
 obtain ⟨bo, bc, rfl⟩ := slq_form' hv
 have hxr := hx.r
 have hxc := hx.c
 have HF := Lib.hid (efw_ok (x.r : Int) (x.c : Int) 0 ao bo x.l.length d b.length bc (mcheck_ok x.r x.c x.l.length d ao hx.r hx.c hx.len) rfl (by omega) (by rw [hbl]))
 have HG := Lib.hid (fun (w : World) (h : CQ w (.slice ao x.l.length d) x.l) => egridOf_w x hx 1 (by omega) _ w h)
 obtain ⟨N, hN⟩ : ∃ N, N = x.l.length := ⟨_, rfl⟩
 rw [← hN] at HF HG hu hcap ⊢
 rw [hbl] at HF hv ⊢
 clear hN
 have hL0 : GL w w [] := GL.start w
 replace hL0 := (hL0.new rfl [.int .i64 (x.r : Int), .int .i64 (x.c : Int), .slice ao N d] 56).new (K := w.heap.size + 1) (by simp) [.slice none 0 0, .slice none 0 0] 117
 generalize hweq : (w.alloc (.cells #[.int .i64 (x.r : Int), .int .i64 (x.c : Int), .slice ao N d] 56)).alloc (.cells #[.slice none 0 0, .slice none 0 0] 117) = x0 at hL0
 have hA := hL0.fc
 simp only [fcG, cellsF, neK, and_true, ne_eq, Nat.zero_add, Nat.reduceAdd] at hA
 have rb : (x.r : Int) ≤ 2048 := by omega
 have cb : (x.c : Int) ≤ 2048 := by omega
 have c00 : (0 : Int) ≤ (x.c : Int) := Int.natCast_nonneg _
 have cn : (x.c : Int) < ((x.c + 1 : Nat) : Int) := by omega
 go_enter Tryz.func69, Tryz.ntmps69
 go_wp2_with fail
 with_reducible refine Calls.mono (HF.out _) ?_
 rintro e x1 ⟨rfl, hb⟩
 replace hL0 := hL0.call hb
 clear hA hb hweq HF
 have hA := hL0.fc
 simp only [fcG, cellsF, neK, and_true, ne_eq, Nat.zero_add, Nat.reduceAdd] at hA
 have hw8 := Lib.hid (show w.heap.size + 2 ≤ x1.heap.size by have := (hL0.get _ _ List.mem_cons_self).lt; omega)
 have hv1 := hv.below hL0.bl
 go_wp2_with fail
 refine Calls.mono (HG.out _ (hu.below hL0.bl)) ?_
 rintro e w1 ⟨⟨g, rfl, ru, bk, hG⟩, hb⟩
 clear hA HG
 have hL1 := hL0.call hb
 have hv2 := hv1.below hb
 obtain ⟨ra, rc, hru⟩ := hG.rform
 subst hru
 rw [← aug_zero x b] at hG
 go_wp2_with fail
 go_loopg [23] x.r (fun gk iv wr => ∃ (i : Nat) (zi : Int), i + gk = x.r ∧ iv = .int .i64 zi ∧ zi = (i : Int) ∧ GR x1.heap.size wr g (.slice ra x.r rc) (.slice none 0 0) x.r (x.c + 1) bk (augP x b i) [] 1 ∧ Below x1.heap.size x1 wr)
 case atStart => exact ⟨0, 0, Nat.zero_add x.r, by first | rfl | go_num, rfl, hG, hb⟩
 case round =>
  clear hG hb hL1 hv2
  obtain ⟨i, zi, hir, rfl, hzi, hG, hb⟩ := hrel
  rcases Nat.lt_or_ge i x.r with hi | hi
  ·subst hzi
   have k1 : (i : Int) < (x.r : Int) := by omega
   have k0 : (0 : Int) ≤ (i : Int) := Int.natCast_nonneg _
   have kb : (i : Int) ≤ 5000 := by omega
   have hL1 := hL0.call hb
   have hv2 := hv1.below hb
   obtain ⟨bg, rfl, -, ff⟩ := slq_at hv2 i (by rw [hbl]; exact hi)
   obtain ⟨f0, f1, f2, f3, f4⟩ := fsc ff i (by rw [hbl]; exact hi)
   clear ff
   obtain ⟨q, hq⟩ : ∃ q, q = gv b i := ⟨_, rfl⟩
   rw [← hq] at f0 f1 f2 f3 f4
   replace hq := Lib.hid hq
   have hM := (GL.start wr).new rfl (frC 0) 36
   obtain ⟨y1, hy1⟩ : ∃ y, y = wr.alloc (.cells (frC 0).toArray 36) := ⟨_, rfl⟩
   rw [← hy1] at hM
   have hP := hM.box5 q
   obtain ⟨y2, hy⟩ : ∃ y, put5 y1 wr.heap.size 0 q = y := ⟨_, rfl⟩
   rw [hy] at hP
   simp only [put5, Nat.zero_add] at hy
   rw [frC_zero] at hy1 hM
   have hweq := hy1.symm
   have hA1 := hM.fc
   simp only [fcG, cellsF, neK, and_true, ne_eq, Nat.zero_add, Nat.reduceAdd] at hA1
   clear hy1 hM
   have hb2 := hb.trans (hP.bl.mono hb.size)
   have hG2 := hG.below hP.bl
   have hL2 := hL0.call hb2
   obtain ⟨z, rc2, hz9, hzB, -, -, hzg, hrw2, hzf2⟩ := hG2.rpos (by omega)
   obtain ⟨rfl, rfl⟩ : ra = some ⟨z, 0, none⟩ ∧ rc = rc2 := by simpa using hz9
   have ci := hrw2 i hi
   have c0 := hG2.cells.1
   have hA := hL2.fc
   simp only [fcG, cellsF, neK, and_true, ne_eq, Nat.zero_add, Nat.reduceAdd] at hA
   have hP2 := hP
   unfold frC at hP2
   have hB := hP2.fc
   simp only [fcG, cellsF, neK, and_true, ne_eq, Nat.zero_add, Nat.reduceAdd] at hB
   clear hz9 hzf2 hrw2 hP2
   go_upto_region 8 with fail
   clear hweq hy hA1 f0 f1 f2 f3 f4
   obtain ⟨hrB, hrH⟩ := hG2.hB i hi
   obtain ⟨o0, o1, o2, o3, o4⟩ := (hd_fs hrH).cell x.c (by rw [tabV_len]; omega)
   have zz := hrH.frz
   have hk1 : bk i < y2.heap.size := hrH.lt
   have hgw : wr.heap.size ≤ wr.heap.size := Nat.le_refl _
   have hn1 : bk i ≠ wr.heap.size := fun e => by have := (hG.hB i hi).2.lt; omega
   have hn2 : bk i ≠ w.heap.size := fun e => by have := hw8.out; omega
   have hn3 : bk i ≠ g := hG2.ng i hi
   have hn4 : bk i ≠ z := fun e => hG2.nr i hi (by rw [e]; rfl)
   go_region
   have hX := put5_hd hrH x.c q (by rw [tabV_len]; omega)
   have hu9 := put5_upd y2 (bk i) (x.c * 5) q
   rw [hq.out, aug_row x b i, ← hq.out] at hX
   have hG3 := hG2.row i hi _ (Chs.of_upd hu9) hX
   rw [aug_step x b i] at hG3
   have hb3 := hb2.trans (hu9.below hrB)
   unfold put5 at hG3 hb3
   replace hG3 := hG3.below ((Below.refl _ _).drew)
   replace hb3 := hb3.trans ((Below.refl _ _).drew)
   go_wp2_with fail
   go_roundg (x.r - (i + 1))
   case measure => omega
   case rel => exact ⟨i + 1, _, by omega, by first | rfl | go_num, by omega, hG3, hb3⟩
  ·obtain rfl : x.r = i := by omega
   subst hzi
   have k1 : ¬ (x.r : Int) < (x.r : Int) := by omega
   have hG2 := hG.congr (H := augE x b) fun i hi j _ => by
    unfold augP augE
    by_cases e : j = x.c
    ·rw [if_pos ⟨e, hi⟩, if_pos e]
    ·rw [if_neg fun h => e h.1, if_neg e]
   have hI := (desc_ok (R := x.r) (augE x b) 1 x.c).1
   have hRd := (red_ok x.r x.c (augE x b)).1
   have hlc : D.pv.length ≤ x.c := by have := hRd.len_le; unfold redE at this; rw [hD] at this; exact this
   have hsa := hs.sa
   rw [hD] at hI hsa
   have hL1 := hL0.call hb
   have hA := hL1.fc
   simp only [fcG, cellsF, neK, and_true, ne_eq, Nat.zero_add, Nat.reduceAdd] at hA
   clear hG hRd
   by_cases hz : ∀ i, D.pv.length ≤ i → i < x.r → D.G i x.c = 0
   ·have HS := Lib.hid (esolve_ok x1.heap.size g x.r (x.c + 1) x.c K _ _ bk ⟨augE x b, [], 1⟩ hs.kb (Nat.lt_succ_self _) hs.nb hs.rb (fun k _ => desc_le x.r _ k) hs.ds D hD hsa hI.lt hI.up hz _ hG2)
    replace hz := Lib.hid hz
    clear hsa
    go_wp2_with fail
    with_reducible refine Calls.mono HS.out ?_
    rintro e y1 ⟨⟨bx, rfl, hbx, hX, pu2, bk2, hG3⟩, hc⟩
    have hbb := hb.trans (hc.bl hb.size)
    have hL2 := hL0.call hbb
    have hws := Lib.hid hb.size
    clear hA HS hc hG2 hL1 hb
    have hA := hL2.fc
    simp only [fcG, cellsF, neK, and_true, ne_eq, Nat.zero_add, Nat.reduceAdd] at hA
    have HKe := Lib.hid (ekernel_w _ g x.r (x.c + 1) x.c _ _ bk2 _ D.pv D.f (Nat.le_succ _) (by omega) (by omega) hI.le hlc hI.lt hI.up y1 hG3)
    clear hI
    go_wp2_with fail
    with_reducible refine Calls.mono HKe.out ?_
    rintro e y2 ⟨⟨v, rfl, hvl⟩, hb4⟩
    replace hL2 := hL2.call hb4
    replace hX := hX.below hb4
    clear hA HKe hG3
    obtain ⟨vo, vn, vc, rfl⟩ := hvl.form
    have hP := hL2.put 0 (w.heap.size + 1) _ rfl [.slice (some ⟨bx, 0, none⟩) x.c x.c, .slice vo vn vc] rfl
    have hu := setAll_upd (w.heap.size + 1) [.slice (some ⟨bx, 0, none⟩) x.c x.c, .slice vo vn vc] 0 y2
    obtain ⟨y, hy⟩ : ∃ y, setAll y2 (w.heap.size + 1) 0 [.slice (some ⟨bx, 0, none⟩) x.c x.c, .slice vo vn vc] = y := ⟨_, rfl⟩
    rw [hy] at hP hu
    simp only [setAll, Nat.zero_add, Nat.reduceAdd] at hy
    simp only [List.set_cons_zero] at hP
    have hA := hL2.fc
    simp only [fcG, cellsF, neK, and_true, ne_eq, Nat.zero_add, Nat.reduceAdd] at hA
    have hB := hP.fc
    simp only [fcG, cellsF, neK, and_true, ne_eq, Nat.zero_add, Nat.reduceAdd] at hB
    have hys : w.heap.size + 2 ≤ bx := by have := hw8.out; have := hws.out; omega
    have hv2 := (hvl.upd hu (by have := hw8.out; have := hbb.size; omega)).vls
    have hX2 := hX.chs (Chs.of_upd hu) fun e => by omega
    go_wp2_with fail
    exact bodyPost_ret (v := .tuple #[.agg #[.slice (some ⟨bx, 0, none⟩) x.c x.c, .slice vo vn vc], .int .i64 0]) (by simp [results, Tryz.results69, go_sem, hB]) rfl ⟨.inl ⟨hz.out, bx, _, rfl, hX2, hv2⟩, hP.bl⟩
   ·have hno : ∃ i, D.pv.length ≤ i ∧ i < x.r ∧ D.G i x.c ≠ 0 := Classical.byContradiction fun hc => hz fun i h1 h2 => Classical.byContradiction fun h3 => hc ⟨i, h1, h2, h3⟩
    have HS := Lib.hid (esolve_no x1.heap.size g x.r (x.c + 1) x.c K _ _ bk ⟨augE x b, [], 1⟩ hs.kb (Nat.lt_succ_self _) hs.nb hs.rb (fun k _ => desc_le x.r _ k) hs.ds (by rw [hD]; exact hno) _ hG2)
    replace hno := Lib.hid hno
    clear hsa hI hz
    go_wp2_with fail
    with_reducible refine Calls.mono HS.out ?_
    rintro e y1 ⟨rfl, hc⟩
    have hbb := hb.trans (hc.bl hb.size)
    have hL2 := hL0.call hbb
    clear hA HS hc hG2 hL1 hb
    have hP := hL2.put 0 (w.heap.size + 1) _ rfl [.slice none 0 0, .slice none 0 0] rfl
    obtain ⟨y, hy⟩ : ∃ y, setAll y1 (w.heap.size + 1) 0 [.slice none 0 0, .slice none 0 0] = y := ⟨_, rfl⟩
    rw [hy] at hP
    simp only [setAll, Nat.zero_add, Nat.reduceAdd] at hy
    simp only [List.set_cons_zero] at hP
    have hA := hL2.fc
    simp only [fcG, cellsF, neK, and_true, ne_eq, Nat.zero_add, Nat.reduceAdd] at hA
    have hB := hP.fc
    simp only [fcG, cellsF, neK, and_true, ne_eq, Nat.zero_add, Nat.reduceAdd] at hB
    go_wp2_with fail
    exact bodyPost_ret (v := .tuple #[.agg #[.slice none 0 0, .slice none 0 0], .int .i64 6]) (by simp [results, Tryz.results69, go_sem, hB]) rfl ⟨.inr ⟨hno.out, rfl⟩, hP.bl⟩
end Go.Proofs.YtjdjhlmcbffocaaGreatDoor
namespace Go.Proofs.YtjdjhlmcbffocaaGreatDoor
open Go.RowKit
attribute [local irreducible] lo hs sm s64 c64 d64 b64 mh ml pd pc qd qc val hiB str cmpI srD lz nb zl zh zs fe rowV tabV gv bsV tabM
/-- The system for a certificate: y is the turned matrix, b the right-hand side. -/
def agE (y : Mx) (b : List Rat) : Gd := fun i => if i = y.r then (fun j => if j < y.c then gv b j else 1) else rowsE y i
def AgP (c R : Nat) (D : ES) (e : Ending) (w' : World) : Prop :=
 ((∀ i, D.pv.length ≤ i → i < R → D.G i c = 0) ∧ ∃ b, e = .returned (.tuple #[.slice (some ⟨b, 0, none⟩) c c, .int .i64 0]) ∧ Hd w' b (frCs (tabV c (solE D.pv (ascE D.pv D.G D.pv.length) c)))) ∨
 ((∃ i, D.pv.length ≤ i ∧ i < R ∧ D.G i c ≠ 0) ∧ e = .returned (.tuple #[.slice none 0 0, .int .i64 6]))
theorem last_laid (c : Nat) (b : List Rat) (hb : b.length = c) (o : Rat) (ho : o = 1) : (laid (List.replicate (c + 1) 0) 0 b).set c o = tabV (c + 1) fun j => if j < c then gv b j else 1 := by
 have e : b = tabV c (gv b) := (tab_gv' hb).symm
 have e2 : laid (List.replicate (c + 1) 0) 0 b = tabV (c + 1) fun p => if p < c then gv b p else 0 := by
  rw [rep_tab]
  conv => lhs; rw [e]
  rw [laid_tab (by omega)]
  refine tab_ext fun p hp => ?_
  by_cases h : p < c
  ·rw [if_pos (by omega), if_pos h, Nat.sub_zero]
  ·rw [if_neg (by omega), if_neg h]
 rw [e2]
 refine List.ext_getElem (by rw [List.length_set, tabV_len, tabV_len]) fun a h1 h2 => ?_
 have ha : a < c + 1 := by rwa [tabV_len] at h2
 rw [List.getElem_set, ← gv_get h2, gv_tab ha]
 by_cases h : c = a
 ·rw [if_pos h, if_neg (by omega), ho]
 ·rw [if_neg h]
  have h3 : a < (tabV (c + 1) fun p => if p < c then gv b p else 0).length := by rw [tabV_len]; exact ha
  rw [← gv_get h3, gv_tab ha, if_pos (by omega), if_pos (by omega)]
set_option maxHeartbeats 16000000 in
set_option maxRecDepth 100000 in
theorem eagainst_w (x y : Mx) (hx : OKM x) (hyo : OKM y) (hyr : y.r = x.c) (hyc : y.c = x.r) (b : List Rat) (hbl : b.length = x.r) (K : Nat) (hs : ESz (y.r + 1) (y.c + 1) y.c K (agE y b)) (D : ES) (hD : descE (y.r + 1) ⟨agE y b, [], 1⟩ y.c = D)
  (HT : ∀ (u : Value) (w : World), MT w u x → Calls Tryz.prog 63 #[u] w fun e w' => ∃ pv, e = .returned (.tuple #[pv, .int .i64 0]) ∧ MT w' pv y ∧ Below w.heap.size w w') (u s : Value) (w : World) (hu : CQ w u x.l) (hv : SlQ w s b) :
  Calls Tryz.prog 70 #[.agg #[.int .i64 (x.r : Int), .int .i64 (x.c : Int), u], s] w fun e w' => AgP y.c (y.r + 1) D e w' ∧ Below w.heap.size w w' := by
 obtain ⟨ao, d, rfl, hcap⟩ := hu.form
 obtain ⟨bo, bc, rfl⟩ := slq_form' hv
 have hxr := hx.r
 have hxc := hx.c
 have HF := Lib.hid (efw_ok (x.r : Int) (x.c : Int) 0 ao bo x.l.length d b.length bc (mcheck_ok x.r x.c x.l.length d ao hx.r hx.c hx.len) rfl (by omega) (by rw [hbl]))
 have HG := Lib.hid (fun (u : Value) (w : World) (h : CQ w u y.l) => egridOf_w y hyo 1 (by omega) u w h)
 obtain ⟨N, hN⟩ : ∃ N, N = x.l.length := ⟨_, rfl⟩
 rw [← hN] at HF hu hcap ⊢
 rw [hbl] at HF hv ⊢
 clear hN
 obtain ⟨n, hn⟩ : ∃ n, n = x.r + 1 := ⟨_, rfl⟩
 have hmk := fun W => makeV W (n : Int) n rfl (by omega)
 have hnn : (x.r : Int) + 1 = (n : Int) := by omega
 have rb : (x.r : Int) ≤ 2048 := by omega
 have nb1 : (n : Int) ≤ 2049 := by omega
 have rn : (x.r : Int) < (n : Int) := by omega
 have r00 : (0 : Int) ≤ (x.r : Int) := Int.natCast_nonneg _
 replace HT := Lib.hid HT
 replace hn := Lib.hid hn
 replace hyr := Lib.hid hyr
 replace hyc := Lib.hid hyc
 replace hbl := Lib.hid hbl
 obtain ⟨o1, ho1⟩ : ∃ o : Rat, o = 1 := ⟨_, rfl⟩
 have HI : ∀ w, Calls Tryz.prog 17 #[.int .i64 1] w fun xe w' => xe = .returned (fracV o1) ∧ Below w.heap.size w w' := fun w => by rw [ho1]; exact intF 1 (by decide) (by decide) w
 replace HI := Lib.hid HI
 replace ho1 := Lib.hid ho1
 have hL0 : GL w w [] := GL.start w
 replace hL0 := hL0.new rfl [.int .i64 (x.r : Int), .int .i64 (x.c : Int), .slice ao N d] 56
 generalize hweq : w.alloc (.cells #[.int .i64 (x.r : Int), .int .i64 (x.c : Int), .slice ao N d] 56) = x0 at hL0
 have hA := hL0.fc
 simp only [fcG, cellsF, neK, and_true, ne_eq, Nat.zero_add, Nat.reduceAdd] at hA
 go_enter Tryz.func70, Tryz.ntmps70
 go_wp2_with fail
 with_reducible refine Calls.mono (HF.out _) ?_
 rintro e x1 ⟨rfl, hb⟩
 replace hL0 := hL0.call hb
 clear hA hb hweq HF
 have hA := hL0.fc
 simp only [fcG, cellsF, neK, and_true, ne_eq, Nat.zero_add, Nat.reduceAdd] at hA
 have hv1 := hv.below hL0.bl
 go_wp2_with fail
 refine Calls.mono (HT.out _ _ ⟨_, rfl, hu.below hL0.bl⟩) ?_
 rintro e x2 ⟨pv9, rfl, ⟨u9, rfl, hu9⟩, hb⟩
 replace hL0 := hL0.call hb
 replace hv1 := hv1.below hb
 clear hA hb HT
 obtain ⟨uo, ud, rfl, hcap9⟩ := hu9.form
 replace hL0 := hL0.new rfl [.int .i64 0, .int .i64 0, .slice none 0 0] 56
 generalize hweq : x2.alloc (.cells #[.int .i64 0, .int .i64 0, .slice none 0 0] 56) = x3 at hL0
 have hb3 : Below x2.heap.size x2 x3 := by rw [← hweq]; exact (Below.refl _ _).alloc (Nat.le_refl _) _
 have hP := hL0.put 0 x2.heap.size _ rfl [.int .i64 (y.r : Int), .int .i64 (y.c : Int), .slice uo y.l.length ud] rfl
 obtain ⟨x4, hy⟩ : ∃ q, setAll x3 x2.heap.size 0 [.int .i64 (y.r : Int), .int .i64 (y.c : Int), .slice uo y.l.length ud] = q := ⟨_, rfl⟩
 have hb4 : Below x2.heap.size x2 x4 := hb3.trans (by rw [← hy]; exact (setAll_upd _ _ _ _).below (Nat.le_refl _))
 rw [hy] at hP
 simp only [setAll, Nat.zero_add, Nat.reduceAdd] at hy
 simp only [List.set_cons_zero] at hP
 have hA := hL0.fc
 simp only [fcG, cellsF, neK, and_true, ne_eq, Nat.zero_add, Nat.reduceAdd] at hA
 have hB := hP.fc
 simp only [fcG, cellsF, neK, and_true, ne_eq, Nat.zero_add, Nat.reduceAdd] at hB
 have hu4 := hu9.below hb4
 replace hv1 := hv1.below hb4
 clear hb3
 replace hL0 := hP
 clear hP
 go_wp2_with fail
 refine Calls.mono (HG.out _ _ hu4) ?_
 rintro e w1 ⟨⟨g, rfl, ru, bk, hG⟩, hb⟩
 have hbs := hb.size
 have hL1 := hL0.call hb
 replace hv1 := hv1.below hb
 clear hA hB HG hweq hy hu4
 obtain ⟨ra, rc, hru⟩ := hG.rform
 subst hru
 have hA := hL1.fc
 simp only [fcG, cellsF, neK, and_true, ne_eq, Nat.zero_add, Nat.reduceAdd] at hA
 have hN9 := (GL.start w1).new rfl (frCs (List.replicate n 0)) 36
 generalize hweq : w1.alloc (.cells (frCs (List.replicate n 0)).toArray 36) = w2 at hN9
 have hH := hN9.get _ _ List.mem_cons_self
 have hnot := hG.fresh (Nat.le_refl _)
 replace hG := hG.below hN9.bl
 have hb2 := hb.trans (hN9.bl.mono hbs)
 replace hv1 := hv1.below hN9.bl
 have hS : b.length = Nat.min x.r n := by rw [hbl.out]; have := hn.out; exact (Nat.min_eq_left (by omega)).symm
 have hfit : 0 + b.length ≤ (List.replicate n (0 : Rat)).length := by rw [hbl.out, List.length_replicate]; have := hn.out; omega
 have hpos : 0 < b.length → ∃ g o, bo = some ⟨g, o, none⟩ ∧ FO w2 g o b := fun h0 => by
  obtain ⟨bg, e1, -, ff⟩ := slq_at hv1 0 h0
  exact ⟨bg, 0, e1, fs_fo ff⟩
 replace hS := Lib.hid hS
 replace hfit := Lib.hid hfit
 replace hpos := Lib.hid hpos
 replace hH := Lib.hid hH
 clear hN9 hL1
 go_wp2_with (refine wp_copyF rfl _ _ _ _ rfl undVV (some ⟨w1.heap.size, 0, none⟩) bo n n x.r bc rfl rfl b hS.out w1.heap.size 0 (List.replicate n 0) hH.out hfit.out (fun h0 => ⟨rfl, hpos.out h0⟩) ?_)
 intro w3 hH3 hup
 replace hG := hG.chs (Chs.of_upd hup) fun d e => by rw [e]; exact hnot
 replace hb2 := hb2.trans (hup.below hbs)
 obtain ⟨d9, hd9⟩ : ∃ d, d = w1.heap.size := ⟨_, rfl⟩
 rw [← hd9] at hH3 hnot hbs ⊢
 clear hup hpos hS hfit hH hA hweq hmk hd9 hv1
 have hL1 := hL0.call hb2
 have hA := hL1.fc
 simp only [fcG, cellsF, neK, and_true, ne_eq, Nat.zero_add, Nat.reduceAdd] at hA
 go_upto_region 8 with fail
 obtain ⟨α, iα, F, hF1, hF2⟩ := cls w3
 have hq2 := GL.fcC hF1 hL1
 simp only [fcC, cellsC, and_true, Nat.zero_add, Nat.reduceAdd] at hq2
 clear hA
 refine region_qs 5 (C := fun w' => ∃ x, w' = F x) (by kernel_rfl) (by kernel_rfl) (cls_drew hF2) ?_
 simp only [List.take_succ_cons, List.take_zero, List.drop_succ_cons, List.drop_zero, List.take_nil, List.drop_nil]
 repeat (go_big_quiet_step (first | fail | (go_at_call 17; with_reducible exact cls_call hF1 hF2 HI.out _)))
 refine wpQuiet_nil ?_
 rintro wq ⟨xq, rfl⟩
 replace hG := hG.below (hF1 xq)
 replace hH3 := hH3.below (hF1 xq)
 replace hb2 := hb2.trans ((hF1 xq).mono hb2.size)
 clear hq2 hF2 hL1
 generalize F xq = w4 at hG hH3 hb2 ⊢
 clear hF1 xq iα F α
 have hll : x.r < (laid (List.replicate n 0) 0 b).length := by rw [laid_len, List.length_replicate]; have := hn.out; omega
 obtain ⟨z0, z1, z2, z3, z4⟩ := (hd_fs hH3).cell x.r hll
 have zz := hH3.frz
 have hX := put5_hd hH3 x.r o1 hll
 have hu5 := put5_upd w4 d9 (x.r * 5) o1
 obtain ⟨w5, hy⟩ : ∃ q, put5 w4 d9 (x.r * 5) o1 = q := ⟨_, rfl⟩
 rw [hy] at hX hu5
 unfold put5 at hy
 rw [hn.out, last_laid x.r b hbl.out o1 ho1.out, ← hyc.out] at hX
 replace hG := hG.chs (Chs.of_upd hu5) fun d e => by rw [e]; exact hnot
 replace hb2 := hb2.trans (hu5.below hbs)
 clear hH3 hu5
 have hM := (GL.start w5).new rfl [.slice (some ⟨d9, 0, none⟩) n n] 28
 generalize hweq : w5.alloc (.cells #[.slice (some ⟨d9, 0, none⟩) n n] 28) = w6 at hM
 have g0 := hG.cells.1
 have hcu := (hM.get _ _ List.mem_cons_self).cell 0 (by simp)
 simp only [List.getElem_cons_zero] at hcu
 replace hG := hG.below hM.bl
 replace hX := hX.below hM.bl
 replace hb2 := hb2.trans (hM.bl.mono hb2.size)
 replace hcu := Lib.hid hcu
 have hnc : n = y.c + 1 := by rw [hyc.out]; exact hn.out
 have hyr9 : y.r ≤ 5000 := by have := hyo.r; omega
 clear hM
 replace hnc := Lib.hid hnc
 go_wp2_with (at_builtin; refine wp_appendW rfl _ _ rfl x4.heap.size (.slice ra y.r rc) y.r (rwE (y.c + 1) bk y.r) rfl hG.hr ⟨_, 0, none⟩ (.slice (some ⟨d9, 0, none⟩) n n) rfl 1 rfl hcu.out (by omega) hG.bs ?_)
 intro v' w8 h8 hgr hor
 rw [hnc.out] at h8
 obtain ⟨hG3, hHd, hup⟩ := hG.grow hbs hnot hX h8 hgr hor
 obtain ⟨va, vc, rfl⟩ := own_form12 h8
 have hgB2 := hG.gB
 have hpl := hG.hr.lt
 have hzz := hHd.frz
 have d0 := hHd.cell 0 (by simp)
 simp only [List.getElem_cons_zero, List.getElem_cons_succ] at d0
 have hgrb : Below x4.heap.size w6 w8 := (Chs.of_grown hgr).below hG.bs fun k hk e => by have := (hpl k e.symm).1; omega
 generalize hput : w8.setCell ⟨g, 0, none⟩ (.slice va (y.r + 1) vc) = w9 at hup hG3
 replace hb2 := (hb2.trans hgrb).trans (hup.below hgB2)
 have hL1 := hL0.call hb2
 have hA := hL1.fc
 simp only [fcG, cellsF, neK, and_true, ne_eq, Nat.zero_add, Nat.reduceAdd] at hA
 have hG4 : GR x4.heap.size w9 g (.slice va (y.r + 1) vc) (.slice none 0 0) (y.r + 1) (y.c + 1) (fun i => if i = y.r then d9 else bk i) (agE y b) [] 1 := hG3
 have hsa := hs.sa
 have hI := (desc_ok (R := y.r + 1) (agE y b) 1 y.c).1
 rw [hD] at hI hsa
 clear hup hgr hor hpl h8 hgrb hG3 hG hX hcu hHd z0 z1 z2 z3 z4 zz hy hll g0 hL1
 by_cases hz : ∀ i, D.pv.length ≤ i → i < y.r + 1 → D.G i y.c = 0
 ·have HS := Lib.hid (esolve_ok x4.heap.size g (y.r + 1) (y.c + 1) y.c K _ _ _ ⟨agE y b, [], 1⟩ hs.kb (Nat.lt_succ_self _) hs.nb hs.rb (fun k _ => desc_le _ _ k) hs.ds D hD hsa hI.lt hI.up hz _ hG4)
  rw [hyc.out] at HS
  replace hz := Lib.hid hz
  clear hsa hI
  go_wp2_with fail
  with_reducible refine Calls.mono HS.out ?_
  rintro e y1 ⟨⟨bx, rfl, hbx, hX, pu2, bk2, hG5⟩, hc⟩
  have hbb := hb2.trans (hc.bl hb2.size)
  have hL2 := hL0.call hbb
  clear hA HS hc hG4 hG5
  rw [← hyc.out] at hX
  go_wp2_with fail
  exact bodyPost_ret (v := .tuple #[.slice (some ⟨bx, 0, none⟩) x.r x.r, .int .i64 0]) (by simp [results, Tryz.results70, go_sem]) rfl ⟨.inl ⟨hz.out, bx, by rw [hyc.out], hX⟩, hL2.bl⟩
 ·have hno : ∃ i, D.pv.length ≤ i ∧ i < y.r + 1 ∧ D.G i y.c ≠ 0 := Classical.byContradiction fun hc => hz fun i h1 h2 => Classical.byContradiction fun h3 => hc ⟨i, h1, h2, h3⟩
  have HS := Lib.hid (esolve_no x4.heap.size g (y.r + 1) (y.c + 1) y.c K _ _ _ ⟨agE y b, [], 1⟩ hs.kb (Nat.lt_succ_self _) hs.nb hs.rb (fun k _ => desc_le _ _ k) hs.ds (by rw [hD]; exact hno) _ hG4)
  rw [hyc.out] at HS
  replace hno := Lib.hid hno
  clear hsa hI hz
  go_wp2_with fail
  with_reducible refine Calls.mono HS.out ?_
  rintro e y1 ⟨rfl, hc⟩
  have hbb := hb2.trans (hc.bl hb2.size)
  have hL2 := hL0.call hbb
  clear hA HS hc hG4
  go_wp2_with fail
  exact bodyPost_ret (v := .tuple #[.slice none 0 0, .int .i64 6]) (by simp [results, Tryz.results70, go_sem]) rfl ⟨.inr ⟨hno.out, rfl⟩, hL2.bl⟩
end Go.Proofs.YtjdjhlmcbffocaaGreatDoor
namespace Go.Proofs.YtjdjhlmcbffocaaGreatDoor
open Go.RowKit
attribute [local irreducible] lo hs sm s64 c64 d64 b64 mh ml pd pc qd qc val hiB str cmpI srD lz nb zl zh zs fe rowV tabV gv bsV tabM
/-- The rows with the first m unit rows behind them. -/
def ivP (x : Mx) (m : Nat) : Gd := fun i j => if j = x.c + i ∧ i < m then 1 else rowsE x i j
def ivE (x : Mx) : Gd := fun i j => if j = x.c + i then 1 else rowsE x i j
theorem iv_zero (x : Mx) : ivP x 0 = rowsE x := by funext i j; unfold ivP; rw [if_neg fun h => by omega]
theorem iv_row (x : Mx) (n m : Nat) (hm : x.c + m < n) (o : Rat) (ho : o = 1) : (tabV n (ivP x m m)).set (x.c + m) o = tabV n (ivP x (m + 1) m) := by
 refine List.ext_getElem (by rw [List.length_set, tabV_len, tabV_len]) fun a h1 h2 => ?_
 have ha : a < n := by rwa [tabV_len] at h2
 rw [List.getElem_set, ← gv_get h2, gv_tab ha]
 unfold ivP
 by_cases e : x.c + m = a
 ·rw [if_pos e, if_pos ⟨e.symm, by omega⟩, ho]
 ·rw [if_neg e, if_neg fun h => e h.1.symm]
  have h3 : a < (tabV n fun j => if j = x.c + m ∧ m < m then 1 else rowsE x m j).length := by rw [tabV_len]; exact ha
  rw [← gv_get h3, gv_tab ha, if_neg fun h => e h.1.symm]
theorem iv_step (x : Mx) (m : Nat) : (fun a => if a = m then ivP x (m + 1) m else ivP x m a) = ivP x (m + 1) := by
 funext a j
 by_cases e : a = m
 ·subst e; rw [if_pos rfl]
 ·rw [if_neg e]
  unfold ivP
  by_cases g : j = x.c + a ∧ a < m
  ·rw [if_pos g, if_pos ⟨g.1, by omega⟩]
  ·rw [if_neg g, if_neg fun h => g ⟨h.1, by omega⟩]
def InP (r c N : Nat) (D : ES) (e : Ending) (w' : World) : Prop :=
 (¬ D.pv.length < r ∧ ∃ b, e = .returned (.tuple #[.agg #[.int .i64 (r : Int), .int .i64 (r : Int), .slice (some ⟨b, 0, none⟩) N N], .int .i64 0]) ∧ Hd w' b (frCs (prtE N r c (ascE D.pv D.G D.pv.length) r))) ∨
 (D.pv.length < r ∧ e = .returned (.tuple #[.agg #[.int .i64 0, .int .i64 0, .slice none 0 0], .int .i64 6]))
set_option maxHeartbeats 16000000 in
set_option maxRecDepth 100000 in
theorem einverse_w (x : Mx) (hx : OKM x) (hsq : x.r = x.c) (hr9 : x.r ≤ 1000) (K : Nat) (hs : ESz x.r (x.c + x.r) x.c K (ivE x)) (D : ES) (hD : descE x.r ⟨ivE x, [], 1⟩ x.c = D) (u : Value) (w : World) (hu : CQ w u x.l) :
  Calls Tryz.prog 73 #[.agg #[.int .i64 (x.r : Int), .int .i64 (x.c : Int), u]] w fun e w' => InP x.r x.c (x.r * x.r) D e w' ∧ Below w.heap.size w w' := by
 obtain ⟨ao, d, rfl, hcap⟩ := hu.form
 have hxr := hx.r
 have HF := Lib.hid (efs_ok (x.r : Int) (x.c : Int) 0 ao x.l.length d (mcheck_ok x.r x.c x.l.length d ao hx.r hx.c hx.len) rfl (by rw [hsq]))
 have HG := Lib.hid (fun (w : World) (h : CQ w (.slice ao x.l.length d) x.l) => egridOf_w x hx x.r (by omega) _ w h)
 obtain ⟨N, hN⟩ : ∃ N, N = x.l.length := ⟨_, rfl⟩
 rw [← hN] at HF HG hu hcap ⊢
 clear hN
 obtain ⟨M, hM9⟩ : ∃ M, M = x.r * x.r := ⟨_, rfl⟩
 rw [← hM9]
 have hMb : M ≤ 1000000 := by rw [hM9]; exact Nat.mul_le_mul hr9 hr9
 have rb : (x.r : Int) ≤ 1000 := by omega
 have cb : (x.c : Int) ≤ 1000 := by omega
 have c00 : (0 : Int) ≤ (x.c : Int) := Int.natCast_nonneg _
 have hxc9 : x.c ≤ 1000 := by omega
 replace hM9 := Lib.hid hM9
 replace hsq := Lib.hid hsq
 obtain ⟨o1, ho1⟩ : ∃ o : Rat, o = 1 := ⟨_, rfl⟩
 have HI : ∀ w, Calls Tryz.prog 17 #[.int .i64 1] w fun xe w' => xe = .returned (fracV o1) ∧ Below w.heap.size w w' := fun w => by rw [ho1]; exact intF 1 (by decide) (by decide) w
 replace HI := Lib.hid HI
 replace ho1 := Lib.hid ho1
 have hL0 : GL w w [] := GL.start w
 replace hL0 := (hL0.new rfl [.int .i64 (x.r : Int), .int .i64 (x.c : Int), .slice ao N d] 56).new (K := w.heap.size + 1) (by simp) [.int .i64 0, .int .i64 0, .slice none 0 0] 56
 generalize hweq : (w.alloc (.cells #[.int .i64 (x.r : Int), .int .i64 (x.c : Int), .slice ao N d] 56)).alloc (.cells #[.int .i64 0, .int .i64 0, .slice none 0 0] 56) = x0 at hL0
 have hA := hL0.fc
 simp only [fcG, cellsF, neK, and_true, ne_eq, Nat.zero_add, Nat.reduceAdd] at hA
 go_enter Tryz.func73, Tryz.ntmps73
 go_wp2_with fail
 with_reducible refine Calls.mono (HF.out _) ?_
 rintro e x1 ⟨rfl, hb⟩
 replace hL0 := hL0.call hb
 clear hA hb hweq HF
 have hA := hL0.fc
 simp only [fcG, cellsF, neK, and_true, ne_eq, Nat.zero_add, Nat.reduceAdd] at hA
 have hw8 := Lib.hid (show w.heap.size + 2 ≤ x1.heap.size by have := (hL0.get _ _ List.mem_cons_self).lt; omega)
 go_wp2_with fail
 refine Calls.mono (HG.out _ (hu.below hL0.bl)) ?_
 rintro e w1 ⟨⟨g, rfl, ru, bk, hG⟩, hb⟩
 clear hA HG
 obtain ⟨ra, rc, hru⟩ := hG.rform
 subst hru
 have c0 := hG.cells.1
 rw [← iv_zero x] at hG
 go_wp2_with fail
 clear c0
 go_loopg [23] x.r (fun gk iv wr => ∃ (i : Nat) (zi : Int), i + gk = x.r ∧ iv = .int .i64 zi ∧ zi = (i : Int) ∧ GR x1.heap.size wr g (.slice ra x.r rc) (.slice none 0 0) x.r (x.c + x.r) bk (ivP x i) [] 1 ∧ Below x1.heap.size x1 wr)
 case atStart => exact ⟨0, 0, Nat.zero_add x.r, by first | rfl | go_num, rfl, hG, hb⟩
 case round =>
  clear hG hb
  obtain ⟨i, zi, hir, rfl, hzi, hG, hb⟩ := hrel
  rcases Nat.lt_or_ge i x.r with hi | hi
  ·subst hzi
   have k1 : (i : Int) < (x.r : Int) := by omega
   have k0 : (0 : Int) ≤ (i : Int) := Int.natCast_nonneg _
   have kb : (i : Int) ≤ 5000 := by omega
   have hL1 := hL0.call hb
   obtain ⟨z, rc2, hz9, -, -, -, -, hrw2, hzf2⟩ := hG.rpos (by omega)
   obtain ⟨rfl, rfl⟩ : ra = some ⟨z, 0, none⟩ ∧ rc = rc2 := by simpa using hz9
   have ci := hrw2 i hi
   obtain ⟨t, ht⟩ : ∃ t, t = x.c + i := ⟨_, rfl⟩
   have htc : (x.c : Int) + (i : Int) = (t : Int) := by omega
   obtain ⟨n, hn⟩ : ∃ n, n = x.c + x.r := ⟨_, rfl⟩
   rw [← hn] at ci
   have tn : (t : Int) < (n : Int) := by omega
   have t0 : (0 : Int) ≤ (t : Int) := Int.natCast_nonneg _
   have tb : (t : Int) ≤ 5000 := by omega
   replace ht := Lib.hid ht
   replace hn := Lib.hid hn
   clear hz9 hzf2 hrw2
   go_upto_region 8 with fail
   clear ci
   obtain ⟨α, iα, F, hF1, hF2⟩ := cls wr
   have hq2 := GL.fcC hF1 hL1
   simp only [fcC, cellsC, and_true, Nat.zero_add, Nat.reduceAdd] at hq2
   refine region_qs 7 (C := fun w' => ∃ x, w' = F x) (by kernel_rfl) (by kernel_rfl) (cls_drew hF2) ?_
   simp only [List.take_succ_cons, List.take_zero, List.drop_succ_cons, List.drop_zero, List.take_nil, List.drop_nil]
   repeat (go_big_quiet_step (first | fail | (go_at_call 17; with_reducible exact cls_call hF1 hF2 HI.out _)))
   refine wpQuiet_nil ?_
   rintro wq ⟨xq, rfl⟩
   replace hG := hG.below (hF1 xq)
   replace hb := hb.trans ((hF1 xq).mono hb.size)
   clear hq2 hF2 hL1
   generalize F xq = y2 at hG hb ⊢
   clear hF1 xq iα F α
   obtain ⟨hrB, hrH⟩ := hG.hB i hi
   have htn : t < (tabV (x.c + x.r) (ivP x i i)).length := by rw [tabV_len]; have := ht.out; omega
   obtain ⟨z0, z1, z2, z3, z4⟩ := (hd_fs hrH).cell t htn
   have zz := hrH.frz
   have hX := put5_hd hrH t o1 htn
   have hu9 := put5_upd y2 (bk i) (t * 5) o1
   obtain ⟨y3, hy⟩ : ∃ q, put5 y2 (bk i) (t * 5) o1 = q := ⟨_, rfl⟩
   rw [hy] at hX hu9
   unfold put5 at hy
   rw [ht.out, iv_row x _ i (by omega) o1 ho1.out] at hX
   replace hG := hG.row i hi _ (Chs.of_upd hu9) hX
   rw [iv_step x i] at hG
   replace hb := hb.trans (hu9.below hrB)
   clear hX hu9 hrH hrB
   go_wp2_with fail
   go_roundg (x.r - (i + 1))
   case measure => omega
   case rel => exact ⟨i + 1, _, by omega, by first | rfl | go_num, by omega, hG, hb⟩
  ·obtain rfl : x.r = i := by omega
   subst hzi
   have k1 : ¬ (x.r : Int) < (x.r : Int) := by omega
   have hG2 := hG.congr (H := ivE x) fun i hi j _ => by
    unfold ivP ivE
    by_cases e : j = x.c + i
    ·rw [if_pos ⟨e, hi⟩, if_pos e]
    ·rw [if_neg fun h => e h.1, if_neg e]
   have HD := Lib.hid (edesc_any hs _ hG2 D hD)
   have hL1 := hL0.call hb
   have hA := hL1.fc
   simp only [fcG, cellsF, neK, and_true, ne_eq, Nat.zero_add, Nat.reduceAdd] at hA
   clear hG
   go_wp2_with fail
   with_reducible refine Calls.mono HD.out ?_
   rintro e y4 ⟨rfl, ⟨pu, bk2, hG3⟩, hc⟩
   replace hb := hb.trans (hc.bl hb.size)
   clear hA HD hc hG2 hL1
   obtain ⟨pa, pc, hpu⟩ := hG3.pform
   subst hpu
   have c1 := hG3.cells.2.1
   have hL1 := hL0.call hb
   have hA := hL1.fc
   simp only [fcG, cellsF, neK, and_true, ne_eq, Nat.zero_add, Nat.reduceAdd] at hA
   go_upto_region 11 with fail
   go_region
   replace hG3 := hG3.below ((Below.refl _ _).drew)
   replace hb := hb.trans ((Below.refl _ _).drew)
   clear hA hL1 c1
   generalize y4.drew = y5 at hG3 hb ⊢
   have hL1 := hL0.call hb
   have hA := hL1.fc
   simp only [fcG, cellsF, neK, and_true, ne_eq, Nat.zero_add, Nat.reduceAdd] at hA
   by_cases hlt : D.pv.length < x.r
   ·have h1 : (D.pv.length : Int) < (x.r : Int) := by omega
    have hP := hL1.put 0 (w.heap.size + 1) _ rfl [.int .i64 0, .int .i64 0, .slice none 0 0] rfl
    obtain ⟨y, hy⟩ : ∃ q, setAll y5 (w.heap.size + 1) 0 [.int .i64 0, .int .i64 0, .slice none 0 0] = q := ⟨_, rfl⟩
    rw [hy] at hP
    simp only [setAll, Nat.zero_add, Nat.reduceAdd] at hy
    simp only [List.set_cons_zero] at hP
    have hB := hP.fc
    simp only [fcG, cellsF, neK, and_true, ne_eq, Nat.zero_add, Nat.reduceAdd] at hB
    replace hlt := Lib.hid hlt
    go_wp2_with fail
    exact bodyPost_ret (v := .tuple #[.agg #[.int .i64 0, .int .i64 0, .slice none 0 0], .int .i64 6]) (by simp [results, Tryz.results73, go_sem, hB]) rfl ⟨.inr ⟨hlt.out, rfl⟩, hP.bl⟩
   ·have h1 : ¬ (D.pv.length : Int) < (x.r : Int) := by omega
    have HA := Lib.hid (easc_any hs D hD y5 hG3)
    replace hlt := Lib.hid hlt
    go_wp2_with fail
    with_reducible refine Calls.mono HA.out ?_
    rintro e y6 ⟨rfl, hG4, hc⟩
    replace hb := hb.trans (hc.bl hb.size)
    clear HA hc hG3 hL1 hA
    have hL1 := hL0.call hb
    have hA := hL1.fc
    simp only [fcG, cellsF, neK, and_true, ne_eq, Nat.zero_add, Nat.reduceAdd] at hA
    have HP := Lib.hid (epart_w _ g x.r (x.c + x.r) x.c x.r M _ _ bk2 _ D.pv D.f (by omega) (by omega) (Nat.le_refl _) hM9.out hMb y6 hG4)
    go_wp2_with fail
    with_reducible refine Calls.mono HP.out ?_
    rintro e y7 ⟨⟨b9, rfl, hb9, hH9⟩, hb4⟩
    replace hL1 := hL1.call hb4
    have hbs := hb.size
    clear hA HP hG4
    have hP := hL1.put 0 (w.heap.size + 1) _ rfl [.int .i64 (x.r : Int), .int .i64 (x.r : Int), .slice (some ⟨b9, 0, none⟩) M M] rfl
    have hu := setAll_upd (w.heap.size + 1) [.int .i64 (x.r : Int), .int .i64 (x.r : Int), .slice (some ⟨b9, 0, none⟩) M M] 0 y7
    obtain ⟨y, hy⟩ : ∃ q, setAll y7 (w.heap.size + 1) 0 [.int .i64 (x.r : Int), .int .i64 (x.r : Int), .slice (some ⟨b9, 0, none⟩) M M] = q := ⟨_, rfl⟩
    rw [hy] at hP hu
    simp only [setAll, Nat.zero_add, Nat.reduceAdd] at hy
    simp only [List.set_cons_zero] at hP
    have hA := hL1.fc
    simp only [fcG, cellsF, neK, and_true, ne_eq, Nat.zero_add, Nat.reduceAdd] at hA
    have hB := hP.fc
    simp only [fcG, cellsF, neK, and_true, ne_eq, Nat.zero_add, Nat.reduceAdd] at hB
    have hH8 := hH9.chs (Chs.of_upd hu) fun e => by have := hw8.out; omega
    clear hH9 hu
    go_wp2_with fail
    exact bodyPost_ret (v := .tuple #[.agg #[.int .i64 (x.r : Int), .int .i64 (x.r : Int), .slice (some ⟨b9, 0, none⟩) M M], .int .i64 0]) (by simp [results, Tryz.results73, go_sem, hB]) rfl ⟨.inl ⟨hlt.out, b9, rfl, hH8⟩, hP.bl⟩
end Go.Proofs.YtjdjhlmcbffocaaGreatDoor
namespace Go.Proofs.YtjdjhlmcbffocaaGreatDoor
open Go.RowKit
attribute [local irreducible] lo hs sm s64 c64 d64 b64 mh ml pd pc qd qc val hiB str cmpI srD lz nb zl zh zs fe rowV tabV gv bsV tabM
def fillI (n m : Nat) : List Value := (List.range n).map fun i => .int .i64 (if i < m then (i : Int) else 0)
theorem fill_zero (n : Nat) : List.replicate n (.int .i64 0) = fillI n 0 := by
 refine List.ext_getElem (by simp [fillI]) fun a h1 h2 => ?_
 simp [fillI]
theorem made_ints (n : Nat) : madeCells (Value.cells (.int .i64 0)) (n * 1) = (fillI n 0).toArray := by
 apply Array.ext_getElem?
 intro i
 have e2 : (fillI n 0).toArray[i]? = (fillI n 0)[i]? := List.getElem?_toArray
 rw [e2, Nat.mul_one, ← fill_zero]
 rcases Nat.lt_or_ge i n with h | h
 ·rw [List.getElem?_eq_getElem (by rw [List.length_replicate]; exact h), List.getElem_replicate]
  simp only [madeCells, Array.getElem?_map, Array.getElem?_range, h, if_true, Option.map_some]
  have : i % (Value.cells (.int .i64 0)).size = 0 := by show i % 1 = 0; omega
  rw [this]; rfl
 ·rw [Array.getElem?_eq_none (by rw [size_madeCells]; exact h), List.getElem?_eq_none (by rw [List.length_replicate]; exact h)]
theorem makeIn (w : World) (c : Int) (n : Nat) (hc : c = n) (h : n ≤ 1000000) :
  (Instr.makeSlice 24 (.int .i64 c) (.int .i64 c)).run Tryz.prog w = .ok (.slice (some ⟨w.heap.size, 0, none⟩) n n) (w.alloc (.cells (fillI n 0).toArray 3)) := by
 subst hc
 obtain ⟨i, hi, hz, h1, h2⟩ := info_parts infoRw
 have := run_make (P := Tryz.prog) w 24 3 i _ undRw hi hz .i64 .i64 (n : Int) (n : Int) (by omega) (Int.le_refl _) (by rw [h2]; omega) (by omega)
 rw [this, h1]
 simp only [Int.toNat_natCast, made_ints]
theorem fill_len (n m : Nat) : (fillI n m).length = n := by simp [fillI]
theorem fillI_step (n m : Nat) (h : m < n) : (fillI n m).set m (.int .i64 (m : Int)) = fillI n (m + 1) := by
 refine List.ext_getElem (by simp [fillI]) fun a h1 h2 => ?_
 rw [List.getElem_set]
 simp only [fillI, List.getElem_map, List.getElem_range]
 by_cases e : m = a
 ·subst e; rw [if_pos rfl, if_pos (by omega)]
 ·rw [if_neg e]
  by_cases g : a < m
  ·rw [if_pos g, if_pos (by omega)]
  ·rw [if_neg g, if_neg (by omega)]
theorem fill_all (n : Nat) : fillI n n = ((List.range n).map Int.ofNat).map (.int .i64) := by
 refine List.ext_getElem (by simp [fillI]) fun a h1 h2 => ?_
 have ha : a < n := by simpa [fillI] using h1
 simp [fillI, ha]
set_option maxHeartbeats 16000000 in
set_option maxRecDepth 100000 in
theorem eminor_w (x y : Mx) (hx : OKM x) (n : Nat) (hnr : n ≤ x.r) (hnc : n ≤ x.c) (q : Rat)
  (HP : ∀ (u s t : Value) (w : World), MT w u x → ILs w s ((List.range n).map Int.ofNat) → ILs w t ((List.range n).map Int.ofNat) → Calls Tryz.prog 42 #[u, s, t] w fun e w' => ∃ pv, e = .returned (.tuple #[pv, .int .i64 0]) ∧ MT w' pv y ∧ Below w.heap.size w w')
  (HT : ∀ (u : Value) (w : World), MT w u y → Calls Tryz.prog 135 #[u] w fun e w' => e = .returned (fracV q) ∧ Below w.heap.size w w') (u : Value) (w : World) (hu : CQ w u x.l) :
  Calls Tryz.prog 76 #[.agg #[.int .i64 (x.r : Int), .int .i64 (x.c : Int), u], .int .i64 (n : Int)] w fun e w' => e = .returned (.tuple #[fracV q, .int .i64 0]) ∧ Below w.heap.size w w' := by
 obtain ⟨ao, d, rfl, hcap⟩ := hu.form
 have hxr := hx.r
 have HK := Lib.hid (mcheck_ok x.r x.c x.l.length d ao hx.r hx.c hx.len)
 obtain ⟨N, hN⟩ : ∃ N, N = x.l.length := ⟨_, rfl⟩
 rw [← hN] at HK hu hcap ⊢
 clear hN
 have hmk := fun W => makeIn W (n : Int) n rfl (by omega)
 have n0 : ¬ (n : Int) < 0 := by omega
 have n00 : (0 : Int) ≤ (n : Int) := by omega
 have nr : ¬ (x.r : Int) < (n : Int) := by omega
 have nc : ¬ (x.c : Int) < (n : Int) := by omega
 have nb1 : (n : Int) ≤ 2048 := by omega
 replace HP := Lib.hid HP
 replace HT := Lib.hid HT
 replace hnr := Lib.hid hnr
 replace hnc := Lib.hid hnc
 have hL0 : GL w w [] := GL.start w
 replace hL0 := (hL0.new rfl [.int .i64 (x.r : Int), .int .i64 (x.c : Int), .slice ao N d] 56).new (K := w.heap.size + 1) (by simp) (frC 0) 36
 obtain ⟨x0, hx0⟩ : ∃ y, y = (w.alloc (.cells [.int .i64 (x.r : Int), .int .i64 (x.c : Int), .slice ao N d].toArray 56)).alloc (.cells (frC 0).toArray 36) := ⟨_, rfl⟩
 rw [← hx0] at hL0
 rw [frC_zero] at hx0
 have hweq := hx0.symm
 clear hx0
 have hA := hL0.fc
 simp only [frC_zero, fcG, cellsF, neK, and_true, ne_eq, Nat.zero_add, Nat.reduceAdd] at hA
 go_enter Tryz.func76, Tryz.ntmps76
 go_wp2_with fail
 with_reducible refine Calls.mono (HK.out _) ?_
 rintro e x1 ⟨rfl, hb⟩
 replace hL0 := hL0.call hb
 clear hA hb hweq HK
 have hA := hL0.fc
 simp only [frC_zero, fcG, cellsF, neK, and_true, ne_eq, Nat.zero_add, Nat.reduceAdd] at hA
 have hN9 := (GL.start x1).new rfl (fillI n 0) 3
 generalize hweq : x1.alloc (.cells (fillI n 0).toArray 3) = x2 at hN9
 have hH := hN9.get _ _ List.mem_cons_self
 have hb := hN9.bl
 clear hN9
 go_wp2_with fail
 obtain ⟨d9, hd9⟩ : ∃ d, d = x1.heap.size := ⟨_, rfl⟩
 have hdb : x1.heap.size ≤ d9 := by omega
 rw [← hd9] at hH ⊢
 clear hd9 hA hweq hmk
 go_loopg [36] n (fun gk iv wr => ∃ (i : Nat) (zi : Int), i + gk = n ∧ iv = .int .i64 zi ∧ zi = (i : Int) ∧ Hd wr d9 (fillI n i) ∧ Below x1.heap.size x1 wr)
 case atStart => exact ⟨0, 0, Nat.zero_add n, by first | rfl | go_num, rfl, hH, hb⟩
 case round =>
  clear hH hb
  obtain ⟨i, zi, hir, rfl, hzi, hH, hb⟩ := hrel
  rcases Nat.lt_or_ge i n with hi | hi
  ·subst hzi
   have k1 : (i : Int) < (n : Int) := by omega
   have k0 : (0 : Int) ≤ (i : Int) := Int.natCast_nonneg _
   have kb : (i : Int) ≤ 5000 := by omega
   have oc := hH.cell i (by rw [fill_len]; exact hi)
   have zz := hH.frz
   have hX := hd_set hH i (.int .i64 (i : Int)) (by rw [fill_len]; exact hi)
   have hu9 : Upd d9 wr (wr.setCell ⟨d9, i, none⟩ (.int .i64 (i : Int))) := (Upd.refl d9 wr).setCell _ _
   rw [fillI_step n i hi] at hX
   generalize hput : wr.setCell ⟨d9, i, none⟩ (.int .i64 (i : Int)) = y2 at hX hu9
   replace hb := hb.trans (hu9.below hdb)
   clear hu9
   go_wp2_with fail
   go_roundg (n - (i + 1))
   case measure => omega
   case rel => exact ⟨i + 1, _, by omega, by first | rfl | go_num, by omega, hX, hb⟩
  ·obtain rfl : n = i := by omega
   subst hzi
   have k1 : ¬ (n : Int) < (n : Int) := by omega
   have hil : ILs wr (.slice (some ⟨d9, 0, none⟩) n n) ((List.range n).map Int.ofNat) := ils_at hH (fill_all n) (by simp)
   have hL1 := hL0.call hb
   have hA := hL1.fc
   simp only [frC_zero, fcG, cellsF, neK, and_true, ne_eq, Nat.zero_add, Nat.reduceAdd] at hA
   have hmt : MT wr (.agg #[.int .i64 (x.r : Int), .int .i64 (x.c : Int), .slice ao N d]) x := ⟨_, rfl, hu.below hL1.bl⟩
   go_wp2_with fail
   with_reducible refine Calls.mono (HP.out _ _ _ _ hmt hil hil) ?_
   rintro e y3 ⟨pv9, rfl, ⟨u9, rfl, hu9⟩, hb3⟩
   replace hL1 := hL1.call hb3
   clear hA hil hmt HP hH
   obtain ⟨uo, ud, rfl, hcap9⟩ := hu9.form
   have hM := (GL.start y3).new rfl [.int .i64 0, .int .i64 0, .slice none 0 0] 56
   generalize hweq : y3.alloc (.cells #[.int .i64 0, .int .i64 0, .slice none 0 0] 56) = y4 at hM
   have hP := hM.put 0 y3.heap.size _ rfl [.int .i64 (y.r : Int), .int .i64 (y.c : Int), .slice uo y.l.length ud] rfl
   obtain ⟨y5, hy⟩ : ∃ q, setAll y4 y3.heap.size 0 [.int .i64 (y.r : Int), .int .i64 (y.c : Int), .slice uo y.l.length ud] = q := ⟨_, rfl⟩
   rw [hy] at hP
   simp only [setAll, Nat.zero_add, Nat.reduceAdd] at hy
   simp only [List.set_cons_zero] at hP
   have hA := hM.fc
   simp only [fcG, cellsF, neK, and_true, ne_eq, Nat.zero_add, Nat.reduceAdd] at hA
   have hB := hP.fc
   simp only [fcG, cellsF, neK, and_true, ne_eq, Nat.zero_add, Nat.reduceAdd] at hB
   have hmt : MT y5 (.agg #[.int .i64 (y.r : Int), .int .i64 (y.c : Int), .slice uo y.l.length ud]) y := ⟨_, rfl, hu9.below hP.bl⟩
   replace hL1 := hL1.call hP.bl
   go_wp2_with fail
   with_reducible refine Calls.mono (HT.out _ _ hmt) ?_
   rintro e y6 ⟨rfl, hb6⟩
   replace hL1 := hL1.call hb6
   clear hA hB hy hweq hmt hM hP
   have hP := hL1.box5 q
   obtain ⟨y7, hy⟩ : ∃ y, put5 y6 (w.heap.size + 1) 0 q = y := ⟨_, rfl⟩
   rw [hy] at hP
   simp only [put5, Nat.zero_add] at hy
   have hA := hL1.fc
   simp only [frC_zero, fcG, cellsF, neK, and_true, ne_eq, Nat.zero_add, Nat.reduceAdd] at hA
   unfold frC at hP
   have hB := hP.fc
   simp only [fcG, cellsF, neK, and_true, ne_eq, Nat.zero_add, Nat.reduceAdd] at hB
   clear hL1
   go_wp2_with fail
   exact bodyPost_ret (v := .tuple #[fracV q, .int .i64 0]) (by simp [results, Tryz.results76, go_sem, hB]) rfl ⟨rfl, hP.bl⟩
end Go.Proofs.YtjdjhlmcbffocaaGreatDoor
namespace Go.Proofs.YtjdjhlmcbffocaaGreatDoor
open Go.RowKit
attribute [local irreducible] lo hs sm s64 c64 d64 b64 mh ml pd pc qd qc val hiB str cmpI srD lz nb zl zh zs fe rowV tabV gv bsV tabM
set_option maxHeartbeats 4000000 in
set_option maxRecDepth 100000 in
theorem ereduce_e (r c e : Int) (n d : Nat) (ao : Option Addr) (he : e ≠ 0) (HK : ∀ w, Calls Tryz.prog 77 #[.agg #[.int .i64 r, .int .i64 c, .slice ao n d]] w fun xe w' => xe = .returned (.int .i64 e) ∧ Below w.heap.size w w') (w : World) : Calls Tryz.prog 50 #[.agg #[.int .i64 r, .int .i64 c, .slice ao n d]] w fun xe w' => xe = .returned (.tuple #[.agg #[.int .i64 0, .int .i64 0, .slice none 0 0], .slice none 0 0, .int .i64 e]) ∧ Below w.heap.size w w' := by
 replace HK := Lib.hid HK
 have h1 : (e != 0) = true := by simpa using he
 have h2 : (e == 0) = false := by simpa using he
 clear he
 have hL0 : GL w w [] := GL.start w
 replace hL0 := ((hL0.new rfl [.int .i64 r, .int .i64 c, .slice ao n d] 56).new (K := w.heap.size + 1) (szA _ _) [.int .i64 0, .int .i64 0, .slice none 0 0] 56)
 generalize hweq : ((w.alloc (.cells #[.int .i64 r, .int .i64 c, .slice ao n d] 56)).alloc (.cells #[.int .i64 0, .int .i64 0, .slice none 0 0] 56)) = x1 at hL0
 have hA := hL0.fc
 simp only [fcG, cellsF, neK, and_true, ne_eq, Nat.zero_add, Nat.reduceAdd] at hA
 go_enter Tryz.func50, Tryz.ntmps50
 go_wp2_with fail
 with_reducible refine Calls.mono (HK.out _) ?_
 rintro e y1 ⟨rfl, hb⟩
 replace hL0 := hL0.call hb
 clear hb hA hweq HK
 have hA := cells_of _ 0 [] rfl (hL0.get _ _ List.mem_cons_self)
 simp only [cellsF, and_true, Nat.zero_add, Nat.reduceAdd] at hA
 have zf := (hL0.get _ _ List.mem_cons_self).frz
 have hPt := hL0.put 0 (w.heap.size + 1) _ rfl [.int .i64 0, .int .i64 0, .slice none 0 0] rfl
 simp only [setAll, List.set_cons_zero, List.set_cons_succ] at hPt
 generalize hput1 : (((y1.setCell ⟨w.heap.size + 1, 0, none⟩ (.int .i64 0)).setCell ⟨w.heap.size + 1, 1, none⟩ (.int .i64 0)).setCell ⟨w.heap.size + 1, 2, none⟩ (.slice none 0 0)) = y9 at hPt
 have hB1 := cells_of _ 0 [] rfl (hPt.get _ _ List.mem_cons_self)
 simp only [cellsF, and_true, Nat.zero_add, Nat.reduceAdd] at hB1
 clear hL0
 go_wp2_with fail
 exact bodyPost_ret (v := .tuple #[.agg #[.int .i64 0, .int .i64 0, .slice none 0 0], .slice none 0 0, .int .i64 e]) (by simp [results, Tryz.results50, go_sem, hB1]) rfl ⟨rfl, hPt.bl⟩
set_option maxHeartbeats 4000000 in
set_option maxRecDepth 100000 in
theorem erank_e (r c e : Int) (n d : Nat) (ao : Option Addr) (he : e ≠ 0) (HK : ∀ w, Calls Tryz.prog 77 #[.agg #[.int .i64 r, .int .i64 c, .slice ao n d]] w fun xe w' => xe = .returned (.int .i64 e) ∧ Below w.heap.size w w') (w : World) : Calls Tryz.prog 53 #[.agg #[.int .i64 r, .int .i64 c, .slice ao n d]] w fun xe w' => xe = .returned (.tuple #[.int .i64 0, .int .i64 e]) ∧ Below w.heap.size w w' := by
 replace HK := Lib.hid HK
 have h1 : (e != 0) = true := by simpa using he
 have h2 : (e == 0) = false := by simpa using he
 clear he
 have hL0 : GL w w [] := GL.start w
 replace hL0 := (hL0.new rfl [.int .i64 r, .int .i64 c, .slice ao n d] 56)
 generalize hweq : (w.alloc (.cells #[.int .i64 r, .int .i64 c, .slice ao n d] 56)) = x1 at hL0
 have hA := hL0.fc
 simp only [fcG, cellsF, neK, and_true, ne_eq, Nat.zero_add, Nat.reduceAdd] at hA
 go_enter Tryz.func53, Tryz.ntmps53
 go_wp2_with fail
 with_reducible refine Calls.mono (HK.out _) ?_
 rintro e y1 ⟨rfl, hb⟩
 replace hL0 := hL0.call hb
 clear hb hA hweq HK
 have hA := hL0.fc
 simp only [fcG, cellsF, neK, and_true, ne_eq, Nat.zero_add, Nat.reduceAdd] at hA
 go_wp2_with fail
 exact bodyPost_ret (v := .tuple #[.int .i64 0, .int .i64 e]) (by simp [results, Tryz.results53, go_sem]) rfl ⟨rfl, hL0.bl⟩
set_option maxHeartbeats 4000000 in
set_option maxRecDepth 100000 in
theorem ekern_e (r c e : Int) (n d : Nat) (ao : Option Addr) (he : e ≠ 0) (HK : ∀ w, Calls Tryz.prog 77 #[.agg #[.int .i64 r, .int .i64 c, .slice ao n d]] w fun xe w' => xe = .returned (.int .i64 e) ∧ Below w.heap.size w w') (w : World) : Calls Tryz.prog 65 #[.agg #[.int .i64 r, .int .i64 c, .slice ao n d]] w fun xe w' => xe = .returned (.tuple #[.slice none 0 0, .int .i64 e]) ∧ Below w.heap.size w w' := by
 replace HK := Lib.hid HK
 have h1 : (e != 0) = true := by simpa using he
 have h2 : (e == 0) = false := by simpa using he
 clear he
 have hL0 : GL w w [] := GL.start w
 replace hL0 := (hL0.new rfl [.int .i64 r, .int .i64 c, .slice ao n d] 56)
 generalize hweq : (w.alloc (.cells #[.int .i64 r, .int .i64 c, .slice ao n d] 56)) = x1 at hL0
 have hA := hL0.fc
 simp only [fcG, cellsF, neK, and_true, ne_eq, Nat.zero_add, Nat.reduceAdd] at hA
 go_enter Tryz.func65, Tryz.ntmps65
 go_wp2_with fail
 with_reducible refine Calls.mono (HK.out _) ?_
 rintro e y1 ⟨rfl, hb⟩
 replace hL0 := hL0.call hb
 clear hb hA hweq HK
 have hA := hL0.fc
 simp only [fcG, cellsF, neK, and_true, ne_eq, Nat.zero_add, Nat.reduceAdd] at hA
 go_wp2_with fail
 exact bodyPost_ret (v := .tuple #[.slice none 0 0, .int .i64 e]) (by simp [results, Tryz.results65, go_sem]) rfl ⟨rfl, hL0.bl⟩
set_option maxHeartbeats 4000000 in
set_option maxRecDepth 100000 in
theorem edet_e (r c e : Int) (n d : Nat) (ao : Option Addr) (he : e ≠ 0) (HK : ∀ w, Calls Tryz.prog 134 #[.agg #[.int .i64 r, .int .i64 c, .slice ao n d]] w fun xe w' => xe = .returned (.int .i64 e) ∧ Below w.heap.size w w') (w : World) : Calls Tryz.prog 57 #[.agg #[.int .i64 r, .int .i64 c, .slice ao n d]] w fun xe w' => xe = .returned (.tuple #[.agg #[.int .u64 0, .string ⟨#[]⟩, .bool false, .int .u64 0, .string ⟨#[]⟩], .int .i64 e]) ∧ Below w.heap.size w w' := by
 replace HK := Lib.hid HK
 have h1 : (e != 0) = true := by simpa using he
 have h2 : (e == 0) = false := by simpa using he
 clear he
 have hL0 : GL w w [] := GL.start w
 replace hL0 := ((hL0.new rfl [.int .i64 r, .int .i64 c, .slice ao n d] 56).new (K := w.heap.size + 1) (szA _ _) [.int .u64 0, .string ⟨#[]⟩, .bool false, .int .u64 0, .string ⟨#[]⟩] 36)
 generalize hweq : ((w.alloc (.cells #[.int .i64 r, .int .i64 c, .slice ao n d] 56)).alloc (.cells #[.int .u64 0, .string ⟨#[]⟩, .bool false, .int .u64 0, .string ⟨#[]⟩] 36)) = x1 at hL0
 have hA := hL0.fc
 simp only [fcG, cellsF, neK, and_true, ne_eq, Nat.zero_add, Nat.reduceAdd] at hA
 go_enter Tryz.func57, Tryz.ntmps57
 go_wp2_with fail
 with_reducible refine Calls.mono (HK.out _) ?_
 rintro e y1 ⟨rfl, hb⟩
 replace hL0 := hL0.call hb
 clear hb hA hweq HK
 have hA := cells_of _ 0 [] rfl (hL0.get _ _ List.mem_cons_self)
 simp only [cellsF, and_true, Nat.zero_add, Nat.reduceAdd] at hA
 have zf := (hL0.get _ _ List.mem_cons_self).frz
 have hPt := hL0.put 0 (w.heap.size + 1) _ rfl [.int .u64 0, .string ⟨#[]⟩, .bool false, .int .u64 0, .string ⟨#[]⟩] rfl
 simp only [setAll, List.set_cons_zero, List.set_cons_succ] at hPt
 generalize hput1 : (((((y1.setCell ⟨w.heap.size + 1, 0, none⟩ (.int .u64 0)).setCell ⟨w.heap.size + 1, 1, none⟩ (.string ⟨#[]⟩)).setCell ⟨w.heap.size + 1, 2, none⟩ (.bool false)).setCell ⟨w.heap.size + 1, 3, none⟩ (.int .u64 0)).setCell ⟨w.heap.size + 1, 4, none⟩ (.string ⟨#[]⟩)) = y9 at hPt
 have hB1 := cells_of _ 0 [] rfl (hPt.get _ _ List.mem_cons_self)
 simp only [cellsF, and_true, Nat.zero_add, Nat.reduceAdd] at hB1
 clear hL0
 go_wp2_with fail
 exact bodyPost_ret (v := .tuple #[.agg #[.int .u64 0, .string ⟨#[]⟩, .bool false, .int .u64 0, .string ⟨#[]⟩], .int .i64 e]) (by simp [results, Tryz.results57, go_sem, hB1]) rfl ⟨rfl, hPt.bl⟩
set_option maxHeartbeats 4000000 in
set_option maxRecDepth 100000 in
theorem einv_e (r c e : Int) (n d : Nat) (ao : Option Addr) (he : e ≠ 0) (HK : ∀ w, Calls Tryz.prog 134 #[.agg #[.int .i64 r, .int .i64 c, .slice ao n d]] w fun xe w' => xe = .returned (.int .i64 e) ∧ Below w.heap.size w w') (w : World) : Calls Tryz.prog 73 #[.agg #[.int .i64 r, .int .i64 c, .slice ao n d]] w fun xe w' => xe = .returned (.tuple #[.agg #[.int .i64 0, .int .i64 0, .slice none 0 0], .int .i64 e]) ∧ Below w.heap.size w w' := by
 replace HK := Lib.hid HK
 have h1 : (e != 0) = true := by simpa using he
 have h2 : (e == 0) = false := by simpa using he
 clear he
 have hL0 : GL w w [] := GL.start w
 replace hL0 := ((hL0.new rfl [.int .i64 r, .int .i64 c, .slice ao n d] 56).new (K := w.heap.size + 1) (szA _ _) [.int .i64 0, .int .i64 0, .slice none 0 0] 56)
 generalize hweq : ((w.alloc (.cells #[.int .i64 r, .int .i64 c, .slice ao n d] 56)).alloc (.cells #[.int .i64 0, .int .i64 0, .slice none 0 0] 56)) = x1 at hL0
 have hA := hL0.fc
 simp only [fcG, cellsF, neK, and_true, ne_eq, Nat.zero_add, Nat.reduceAdd] at hA
 go_enter Tryz.func73, Tryz.ntmps73
 go_wp2_with fail
 with_reducible refine Calls.mono (HK.out _) ?_
 rintro e y1 ⟨rfl, hb⟩
 replace hL0 := hL0.call hb
 clear hb hA hweq HK
 have hA := cells_of _ 0 [] rfl (hL0.get _ _ List.mem_cons_self)
 simp only [cellsF, and_true, Nat.zero_add, Nat.reduceAdd] at hA
 have zf := (hL0.get _ _ List.mem_cons_self).frz
 have hPt := hL0.put 0 (w.heap.size + 1) _ rfl [.int .i64 0, .int .i64 0, .slice none 0 0] rfl
 simp only [setAll, List.set_cons_zero, List.set_cons_succ] at hPt
 generalize hput1 : (((y1.setCell ⟨w.heap.size + 1, 0, none⟩ (.int .i64 0)).setCell ⟨w.heap.size + 1, 1, none⟩ (.int .i64 0)).setCell ⟨w.heap.size + 1, 2, none⟩ (.slice none 0 0)) = y9 at hPt
 have hB1 := cells_of _ 0 [] rfl (hPt.get _ _ List.mem_cons_self)
 simp only [cellsF, and_true, Nat.zero_add, Nat.reduceAdd] at hB1
 clear hL0
 go_wp2_with fail
 exact bodyPost_ret (v := .tuple #[.agg #[.int .i64 0, .int .i64 0, .slice none 0 0], .int .i64 e]) (by simp [results, Tryz.results73, go_sem, hB1]) rfl ⟨rfl, hPt.bl⟩
set_option maxHeartbeats 4000000 in
set_option maxRecDepth 100000 in
theorem eminor_e (r c e : Int) (n d : Nat) (ao : Option Addr) (k : Int) (he : e ≠ 0) (HK : ∀ w, Calls Tryz.prog 77 #[.agg #[.int .i64 r, .int .i64 c, .slice ao n d]] w fun xe w' => xe = .returned (.int .i64 e) ∧ Below w.heap.size w w') (w : World) : Calls Tryz.prog 76 #[.agg #[.int .i64 r, .int .i64 c, .slice ao n d], .int .i64 k] w fun xe w' => xe = .returned (.tuple #[.agg #[.int .u64 0, .string ⟨#[]⟩, .bool false, .int .u64 0, .string ⟨#[]⟩], .int .i64 e]) ∧ Below w.heap.size w w' := by
 replace HK := Lib.hid HK
 have h1 : (e != 0) = true := by simpa using he
 have h2 : (e == 0) = false := by simpa using he
 clear he
 have hL0 : GL w w [] := GL.start w
 replace hL0 := ((hL0.new rfl [.int .i64 r, .int .i64 c, .slice ao n d] 56).new (K := w.heap.size + 1) (szA _ _) [.int .u64 0, .string ⟨#[]⟩, .bool false, .int .u64 0, .string ⟨#[]⟩] 36)
 generalize hweq : ((w.alloc (.cells #[.int .i64 r, .int .i64 c, .slice ao n d] 56)).alloc (.cells #[.int .u64 0, .string ⟨#[]⟩, .bool false, .int .u64 0, .string ⟨#[]⟩] 36)) = x1 at hL0
 have hA := hL0.fc
 simp only [fcG, cellsF, neK, and_true, ne_eq, Nat.zero_add, Nat.reduceAdd] at hA
 go_enter Tryz.func76, Tryz.ntmps76
 go_wp2_with fail
 with_reducible refine Calls.mono (HK.out _) ?_
 rintro e y1 ⟨rfl, hb⟩
 replace hL0 := hL0.call hb
 clear hb hA hweq HK
 have hA := cells_of _ 0 [] rfl (hL0.get _ _ List.mem_cons_self)
 simp only [cellsF, and_true, Nat.zero_add, Nat.reduceAdd] at hA
 have zf := (hL0.get _ _ List.mem_cons_self).frz
 have hPt := hL0.put 0 (w.heap.size + 1) _ rfl [.int .u64 0, .string ⟨#[]⟩, .bool false, .int .u64 0, .string ⟨#[]⟩] rfl
 simp only [setAll, List.set_cons_zero, List.set_cons_succ] at hPt
 generalize hput1 : (((((y1.setCell ⟨w.heap.size + 1, 0, none⟩ (.int .u64 0)).setCell ⟨w.heap.size + 1, 1, none⟩ (.string ⟨#[]⟩)).setCell ⟨w.heap.size + 1, 2, none⟩ (.bool false)).setCell ⟨w.heap.size + 1, 3, none⟩ (.int .u64 0)).setCell ⟨w.heap.size + 1, 4, none⟩ (.string ⟨#[]⟩)) = y9 at hPt
 have hB1 := cells_of _ 0 [] rfl (hPt.get _ _ List.mem_cons_self)
 simp only [cellsF, and_true, Nat.zero_add, Nat.reduceAdd] at hB1
 clear hL0
 go_wp2_with fail
 exact bodyPost_ret (v := .tuple #[.agg #[.int .u64 0, .string ⟨#[]⟩, .bool false, .int .u64 0, .string ⟨#[]⟩], .int .i64 e]) (by simp [results, Tryz.results76, go_sem, hB1]) rfl ⟨rfl, hPt.bl⟩
set_option maxHeartbeats 4000000 in
set_option maxRecDepth 100000 in
theorem esolve_e (r c e : Int) (n d : Nat) (ao : Option Addr) (bo : Option Addr) (bl bd : Nat) (he : e ≠ 0) (HK : ∀ w, Calls Tryz.prog 144 #[.agg #[.int .i64 r, .int .i64 c, .slice ao n d], .slice bo bl bd] w fun xe w' => xe = .returned (.int .i64 e) ∧ Below w.heap.size w w') (w : World) : Calls Tryz.prog 69 #[.agg #[.int .i64 r, .int .i64 c, .slice ao n d], .slice bo bl bd] w fun xe w' => xe = .returned (.tuple #[.agg #[.slice none 0 0, .slice none 0 0], .int .i64 e]) ∧ Below w.heap.size w w' := by
 replace HK := Lib.hid HK
 have h1 : (e != 0) = true := by simpa using he
 have h2 : (e == 0) = false := by simpa using he
 clear he
 have hL0 : GL w w [] := GL.start w
 replace hL0 := ((hL0.new rfl [.int .i64 r, .int .i64 c, .slice ao n d] 56).new (K := w.heap.size + 1) (szA _ _) [.slice none 0 0, .slice none 0 0] 117)
 generalize hweq : ((w.alloc (.cells #[.int .i64 r, .int .i64 c, .slice ao n d] 56)).alloc (.cells #[.slice none 0 0, .slice none 0 0] 117)) = x1 at hL0
 have hA := hL0.fc
 simp only [fcG, cellsF, neK, and_true, ne_eq, Nat.zero_add, Nat.reduceAdd] at hA
 go_enter Tryz.func69, Tryz.ntmps69
 go_wp2_with fail
 with_reducible refine Calls.mono (HK.out _) ?_
 rintro e y1 ⟨rfl, hb⟩
 replace hL0 := hL0.call hb
 clear hb hA hweq HK
 have hA := cells_of _ 0 [] rfl (hL0.get _ _ List.mem_cons_self)
 simp only [cellsF, and_true, Nat.zero_add, Nat.reduceAdd] at hA
 have zf := (hL0.get _ _ List.mem_cons_self).frz
 have hPt := hL0.put 0 (w.heap.size + 1) _ rfl [.slice none 0 0, .slice none 0 0] rfl
 simp only [setAll, List.set_cons_zero, List.set_cons_succ] at hPt
 generalize hput1 : ((y1.setCell ⟨w.heap.size + 1, 0, none⟩ (.slice none 0 0)).setCell ⟨w.heap.size + 1, 1, none⟩ (.slice none 0 0)) = y9 at hPt
 have hB1 := cells_of _ 0 [] rfl (hPt.get _ _ List.mem_cons_self)
 simp only [cellsF, and_true, Nat.zero_add, Nat.reduceAdd] at hB1
 clear hL0
 go_wp2_with fail
 exact bodyPost_ret (v := .tuple #[.agg #[.slice none 0 0, .slice none 0 0], .int .i64 e]) (by simp [results, Tryz.results69, go_sem, hB1]) rfl ⟨rfl, hPt.bl⟩
set_option maxHeartbeats 4000000 in
set_option maxRecDepth 100000 in
theorem eag_e (r c e : Int) (n d : Nat) (ao : Option Addr) (bo : Option Addr) (bl bd : Nat) (he : e ≠ 0) (HK : ∀ w, Calls Tryz.prog 144 #[.agg #[.int .i64 r, .int .i64 c, .slice ao n d], .slice bo bl bd] w fun xe w' => xe = .returned (.int .i64 e) ∧ Below w.heap.size w w') (w : World) : Calls Tryz.prog 70 #[.agg #[.int .i64 r, .int .i64 c, .slice ao n d], .slice bo bl bd] w fun xe w' => xe = .returned (.tuple #[.slice none 0 0, .int .i64 e]) ∧ Below w.heap.size w w' := by
 replace HK := Lib.hid HK
 have h1 : (e != 0) = true := by simpa using he
 have h2 : (e == 0) = false := by simpa using he
 clear he
 have hL0 : GL w w [] := GL.start w
 replace hL0 := (hL0.new rfl [.int .i64 r, .int .i64 c, .slice ao n d] 56)
 generalize hweq : (w.alloc (.cells #[.int .i64 r, .int .i64 c, .slice ao n d] 56)) = x1 at hL0
 have hA := hL0.fc
 simp only [fcG, cellsF, neK, and_true, ne_eq, Nat.zero_add, Nat.reduceAdd] at hA
 go_enter Tryz.func70, Tryz.ntmps70
 go_wp2_with fail
 with_reducible refine Calls.mono (HK.out _) ?_
 rintro e y1 ⟨rfl, hb⟩
 replace hL0 := hL0.call hb
 clear hb hA hweq HK
 have hA := hL0.fc
 simp only [fcG, cellsF, neK, and_true, ne_eq, Nat.zero_add, Nat.reduceAdd] at hA
 go_wp2_with fail
 exact bodyPost_ret (v := .tuple #[.slice none 0 0, .int .i64 e]) (by simp [results, Tryz.results70, go_sem]) rfl ⟨rfl, hL0.bl⟩
end Go.Proofs.YtjdjhlmcbffocaaGreatDoor
namespace Go.Proofs.YtjdjhlmcbffocaaGreatDoor
open Go.RowKit
attribute [local irreducible] lo hs sm s64 c64 d64 b64 mh ml pd pc qd qc val hiB str cmpI srD lz nb zl zh zs fe rowV tabV gv bsV tabM
set_option maxHeartbeats 4000000 in
set_option maxRecDepth 100000 in
theorem rtextV (x : List Rat) (n k : Nat) (Jt : List UInt8) (hx : x.length = n) (hn : n ≤ 10000) (hk : k ≤ 1000) (sx : ∀ q ∈ x, Sz q k) (hJ : Lib.join ((x.map qtxt).map (·.data.toList)) [32] = Jt) (hJl : Jt.length ≤ 1000000) (va : Value) (w : World) (ht : Tab w) (hv : RQ w va x) :
  Calls Tryz.prog 81 #[va] w fun xe w' => xe = .returned (.string ⟨([91] ++ Jt ++ [93]).toArray⟩) ∧ Below w.heap.size w w' := by
 obtain ⟨ao, c, rfl, hf⟩ := id hv
 rw [hx] at hv hf ⊢
 have HT := Lib.hid (fun i (hi : i < n) w ht => textF (gv x i) k (qsk x sx i (by omega)) (by omega) w ht)
 obtain ⟨tx, htx⟩ : ∃ tx, tx = x.map qtxt := ⟨_, rfl⟩
 have hti : ∀ i, i < n → tx.take (i + 1) = tx.take i ++ [qtxt (gv x i)] := fun i hi => by
  rw [htx, List.take_succ_eq_append_getElem (by rw [List.length_map]; omega), List.getElem_map, gv_get (by omega)]
 have htl : tx.length = n := by rw [htx, List.length_map, hx]
 rw [← htx] at hJ
 replace hti := Lib.hid hti
 replace htl := Lib.hid htl
 replace hJ := Lib.hid hJ
 replace hJl := Lib.hid hJl
 replace hf := Lib.hid hf
 replace ht := Lib.hid ht
 replace hn := Lib.hid hn
 clear sx hv htx
 go_enter Tryz.func81, Tryz.ntmps81
 go_wp2_with fail
 go_loopg [3, 8] n (fun gk sv iv wr => ∃ (k : Nat) (zi : Int) (vs : Value), k + gk = n ∧ vs = sv ∧ iv = .int .i64 zi ∧ zi = (k : Int) ∧ OwnS wr w.heap.size vs k (tx.take k) ∧ Below w.heap.size w wr)
 case atStart => exact ⟨0, 0, _, Nat.zero_add n, rfl, by first | rfl | go_num, rfl, World.ownsRow_nil _ _ _ _, Below.refl _ _⟩
 case round =>
  obtain ⟨k, zi, vs, hik, rfl, rfl, hzi, hown, hB⟩ := hrel
  replace hown := Lib.hid hown
  have hnn := hn.out
  rcases Nat.lt_or_ge k n with hin | hin
  ·subst hzi
   have k1 : (k : Int) < (n : Int) := by omega
   have k0 : (0 : Int) ≤ (k : Int) := Int.natCast_nonneg _
   have kb : (k : Int) ≤ 10000 := by omega
   obtain ⟨g, o, rfl, hfs⟩ := hf.out (by omega)
   have hcs := (hfs.below hB) k (by omega)
   have HT1 := HT.out k hin
   have hti1 := hti.out k hin
   generalize gv x k = q at hcs HT1 hti1
   obtain ⟨S, hS⟩ : ∃ S, S = qtxt q := ⟨_, rfl⟩
   rw [← hS] at HT1 hti1
   replace HT1 := Lib.hid HT1
   replace hti1 := Lib.hid hti1
   clear hS hfs
   obtain ⟨f0, f1, f2, f3, f4⟩ := hcs
   have hL0 : GL wr wr [] := GL.start wr
   replace hL0 := hL0.new rfl [.int .u64 ((zl q.num : Nat) : Int), .string (zh q.num), .bool (zs q.num), .int .u64 ((lo (fe q) : Nat) : Int), .string (hs (fe q))] 36
   generalize hweq : wr.alloc (.cells #[.int .u64 ((zl q.num : Nat) : Int), .string (zh q.num), .bool (zs q.num), .int .u64 ((lo (fe q) : Nat) : Int), .string (hs (fe q))] 36) = y2 at hL0
   have hN0 := cells_of _ 0 [] rfl (hL0.get _ _ List.mem_cons_self)
   simp only [cellsF, and_true, Nat.zero_add, Nat.reduceAdd] at hN0
   have hB2 := Lib.hid (hB.trans (hL0.bl.mono hB.size))
   go_wp2_with fail
   with_reducible refine Calls.mono (HT1.out _ (ht.out.below hB2.out)) ?_
   rintro e y3 ⟨rfl, hb3⟩
   replace hL0 := hL0.call hb3
   have hown3 := Lib.hid (ownS_below hown.out hL0.bl)
   have hB3 := Lib.hid (hB.trans (hL0.bl.mono hB.size))
   clear hb3 hN0 hweq f0 f1 f2 f3 f4 hL0 hB2 hB hown
   have hL1 : GL y3 y3 [] := GL.start y3
   replace hL1 := hL1.new rfl [.string S] 9
   generalize hweq : y3.alloc (.cells #[.string S] 9) = y4 at hL1
   have hown4 := Lib.hid (ownS_below hown3.out hL1.bl)
   have hB4 := Lib.hid (hB3.out.trans (hL1.bl.mono hB3.out.size))
   have hH := Lib.hid (hL1.get _ _ List.mem_cons_self)
   go_wp2_with (at_builtin; refine wp_appendS rfl _ _ rfl _ _ _ _ rfl hown4.out _ S rfl hH.out (by omega) hB4.out.size ?_)
   intro v' w5 hown5 hgrow _
   have hB5 := hB4.out.grown hgrow hB4.out.size (fun j hj => (hown4.out.lt j hj).1)
   rw [← hti1.out] at hown5
   replace hown5 := Lib.hid hown5
   clear hgrow hown4 hB4 hown3 hB3 hH hweq
   go_wp2_with fail
   go_roundg (gk - 1)
   case measure => omega
   case rel => exact ⟨k + 1, _, _, by omega, rfl, by first | rfl | go_num, by omega, hown5.out, hB5⟩
  ·obtain rfl : k = n := by omega
   subst hzi
   have k1 : ¬ (k : Int) < (k : Int) := by omega
   rw [List.take_of_length_le (Nat.le_of_eq htl.out)] at hown
   have hJ2 : Calls Tryz.prog 132 #[vs, .string ⟨#[32]⟩] wr fun e w' => e = .returned (.string ⟨Jt.toArray⟩) ∧ Below wr.heap.size wr w' := by
    by_cases h0 : k = 0
    ·have e0 : tx = [] := List.eq_nil_of_length_eq_zero (by rw [htl.out, h0])
     obtain ⟨a, c2, hvs⟩ := ownS_form hown.out
     rw [hvs, h0]
     rw [e0] at hJ
     refine (Tryz.strings_Join_none a c2 ⟨#[32]⟩ wr).mono ?_
     rintro e w' ⟨rfl, rfl⟩
     exact ⟨by rw [← hJ.out]; rfl, Below.refl _ _⟩
    ·obtain ⟨g9, c9, hvs, hc9, hg9, hce9⟩ := ownS_cells hown.out (by rw [htl.out]; omega)
     rw [hvs]
     have := Tryz.strings_Join g9 0 c9 tx ⟨#[32]⟩ wr hce9 hg9 (by rw [htl.out]; omega) hc9 (by
      have h1 := hJl.out
      rw [← hJ.out] at h1
      exact Nat.le_trans h1 (by decide))
     rw [show (⟨#[32]⟩ : ByteArray).data.toList = [32] from rfl, hJ.out] at this
     exact this
   replace hJ2 := Lib.hid hJ2
   have j1 : (Jt.length : Int) ≤ 1000000 := by have := hJl.out; omega
   have j2 : ¬ (9223372036854775807 : Int) < 1 + (Jt.length : Int) := by omega
   have j3 : ¬ (9223372036854775806 : Int) < (Jt.length : Int) := by omega
   have j4 : 1 + (Jt.length : Int) ≤ 9223372036854775807 := by omega
   have j5 : ¬ (9223372036854775807 : Int) < 1 + (Jt.length : Int) + 1 := by omega
   have j6 : ¬ (9223372036854775806 : Int) < 1 + (Jt.length : Int) := by omega
   replace hB := Lib.hid hB
   obtain ⟨a9, c9, hvs⟩ := ownS_form hown.out
   subst hvs
   clear hown
   go_wp2_with fail
   refine hJ2.out.mono ?_
   rintro e y9 ⟨rfl, hb9⟩
   replace hb9 := Lib.hid (hB.out.trans (hb9.mono hB.out.size))
   go_wp2_with fail
   exact bodyPost_ret (v := .string ⟨([91] ++ Jt ++ [93]).toArray⟩) (by simp [results, Tryz.results81, go_sem]; apply ByteArray.ext; simp) rfl ⟨rfl, hb9.out⟩
set_option maxHeartbeats 4000000 in
set_option maxRecDepth 100000 in
theorem mcheck_err (r c : Int) (e : Int) (n d : Nat) (ao : Option Addr) (he : e ≠ 0) (HS : ∀ w, Calls Tryz.prog 113 #[.int .i64 r, .int .i64 c] w fun xe w' => xe = .returned (.int .i64 e) ∧ Below w.heap.size w w') (w : World) : Calls Tryz.prog 77 #[.agg #[.int .i64 r, .int .i64 c, .slice ao n d]] w fun xe w' => xe = .returned (.int .i64 e) ∧ Below w.heap.size w w' := by
 replace HS := Lib.hid HS
 have h1 : (e != 0) = true := by simpa using he
 have h2 : (e == 0) = false := by simpa using he
 clear he
 have hL0 : GL w w [] := GL.start w
 replace hL0 := (hL0.new rfl [.int .i64 r, .int .i64 c, .slice ao n d] 56)
 generalize hweq : (w.alloc (.cells #[.int .i64 r, .int .i64 c, .slice ao n d] 56)) = x1 at hL0
 have hA := hL0.fc
 simp only [fcG, cellsF, neK, and_true, ne_eq, Nat.zero_add, Nat.reduceAdd] at hA
 go_enter Tryz.func77, Tryz.ntmps77
 go_wp2_with fail
 with_reducible refine Calls.mono (HS.out _) ?_
 rintro e y1 ⟨rfl, hb⟩
 replace hL0 := hL0.call hb
 clear hb hA hweq HS
 replace hL0 := Lib.hid hL0
 go_wp2_with fail
 exact bodyPost_ret (v := .int .i64 e) (by simp [results, Tryz.results77, go_sem]) rfl ⟨rfl, hL0.out.bl⟩
set_option maxHeartbeats 4000000 in
set_option maxRecDepth 100000 in
theorem mcheck_len (r c n d m : Nat) (ao : Option Addr) (hr : r ≤ 2048) (hc : c ≤ 2048) (hm : m = r * c) (hn : n ≠ m) (w : World) : Calls Tryz.prog 77 #[.agg #[.int .i64 (r : Int), .int .i64 (c : Int), .slice ao n d]] w fun xe w' => xe = .returned (.int .i64 1) ∧ Below w.heap.size w w' := by
 have HS := Lib.hid (msize_ok r c hr hc)
 have hmul : (r : Int) * (c : Int) = (m : Int) := by rw [hm, Int.natCast_mul]
 have hle : m ≤ 2048 * 2048 := by rw [hm]; exact Nat.mul_le_mul hr hc
 have hb1 : (m : Int) ≤ 5000000 := by omega
 have hb0 : (0 : Int) ≤ (m : Int) := Int.natCast_nonneg _
 have h1 : ((n : Int) != (m : Int)) = true := by simp; omega
 have h2 : ((n : Int) == (m : Int)) = false := by simp; omega
 have h3 : (n == m) = false := by simp; omega
 have h4 : ¬ (n : Int) = (m : Int) := by omega
 clear hr hc hm hle hn
 have hL0 : GL w w [] := GL.start w
 replace hL0 := (hL0.new rfl [.int .i64 (r : Int), .int .i64 (c : Int), .slice ao n d] 56)
 generalize hweq : (w.alloc (.cells #[.int .i64 (r : Int), .int .i64 (c : Int), .slice ao n d] 56)) = x1 at hL0
 have hA := hL0.fc
 simp only [fcG, cellsF, neK, and_true, ne_eq, Nat.zero_add, Nat.reduceAdd] at hA
 go_enter Tryz.func77, Tryz.ntmps77
 go_wp2_with fail
 with_reducible refine Calls.mono (HS.out _) ?_
 rintro e y1 ⟨rfl, hb⟩
 replace hL0 := hL0.call hb
 clear hb hA hweq HS
 have hA := hL0.fc
 simp only [fcG, cellsF, neK, and_true, ne_eq, Nat.zero_add, Nat.reduceAdd] at hA
 go_wp2_with fail
 exact bodyPost_ret (v := .int .i64 1) (by simp [results, Tryz.results77, go_sem]) rfl ⟨rfl, hL0.bl⟩
set_option maxHeartbeats 4000000 in
set_option maxRecDepth 100000 in
theorem mOf_ok (r c : Nat) (zs : List Int) (hm : zs.length ≤ 100000) (hz : ∀ z ∈ zs, -9223372036854775808 ≤ z ∧ z < 9223372036854775808) (hr : r ≤ 2048) (hc : c ≤ 2048) (hl : zs.length = r * c) (s : Value) (w : World) (hs : ILs w s zs) :
  Calls Tryz.prog 102 #[.int .i64 (r : Int), .int .i64 (c : Int), s] w fun xe w' => ∃ v, xe = .returned (.tuple #[.agg #[.int .i64 (r : Int), .int .i64 (c : Int), v], .int .i64 0]) ∧ NV w.heap.size (tabV zs.length (ofV zs)) v w' ∧ Below w.heap.size w w' := by
 have HV := Lib.hid fun w h => vofV zs hm hz s w h
 have HK := fun d ao => mcheck_ok r c zs.length d ao hr hc hl
 clear hr hc hl hm hz
 have hle : (tabV zs.length (ofV zs)).length = zs.length := tabV_len _ _
 rw [← hle] at HK
 clear hle
 generalize tabV zs.length (ofV zs) = tl at HV HK ⊢
 replace HK := Lib.hid HK
 obtain ⟨ao, c1, -, rfl, -⟩ := id hs
 have hL0 : GL w w [] := GL.start w
 replace hL0 := (hL0.new rfl [.int .i64 0, .int .i64 0, .slice none 0 0] 56)
 generalize hweq : (w.alloc (.cells #[.int .i64 0, .int .i64 0, .slice none 0 0] 56)) = x1 at hL0
 have hs1 := Lib.hid (hs.below hL0.bl)
 clear hs
 go_enter Tryz.func102, Tryz.ntmps102
 have hx0 := Lib.hid hL0
 go_wp2_with fail
 with_reducible refine Calls.mono (HV.out _ hs1.out) ?_
 rintro e y1 ⟨u, rfl, hnv, hb⟩
 replace hL0 := hL0.call hb
 clear hb hweq hs1 HV
 replace hx0 := hx0.out
 obtain ⟨gu, rfl, hge, hHd⟩ := hnv
 replace hL0 := GL.tnew (M := []) hL0 hx0 hHd hge (fun p hp => by cases hp)
 simp only [List.nil_append] at hL0
 have hge2 := Lib.hid (Nat.le_trans hx0.bl.size hge)
 clear hx0 hge hHd
 have hL1 := hL0.new rfl [.int .i64 (r : Int), .int .i64 (c : Int), .slice (some ⟨gu, 0, none⟩) tl.length tl.length] 56
 generalize hweq : y1.alloc (.cells #[.int .i64 (r : Int), .int .i64 (c : Int), .slice (some ⟨gu, 0, none⟩) tl.length tl.length] 56) = y2 at hL1
 clear hL0
 have hL0 := hL1
 clear hL1
 have hA := cells_of _ 0 [] rfl (hL0.get _ _ List.mem_cons_self)
 simp only [cellsF, and_true, Nat.zero_add, Nat.reduceAdd] at hA
 go_wp2_with fail
 with_reducible refine Calls.mono (HK.out _ _ _) ?_
 rintro e y3 ⟨rfl, hb⟩
 replace hL0 := hL0.call hb
 clear hb hA hweq HK
 have hC := cells_of _ 0 [] rfl (hL0.get _ _ List.mem_cons_self)
 simp only [cellsF, and_true, Nat.zero_add, Nat.reduceAdd] at hC
 have hA := cells_of _ 0 [] rfl (hL0.get _ _ (List.mem_cons_of_mem _ (List.mem_cons_of_mem _ List.mem_cons_self)))
 simp only [cellsF, and_true, Nat.zero_add, Nat.reduceAdd] at hA
 have zf := (hL0.get _ _ (List.mem_cons_of_mem _ (List.mem_cons_of_mem _ List.mem_cons_self))).frz
 have hPt := hL0.put 2 (w.heap.size) _ rfl [.int .i64 (r : Int), .int .i64 (c : Int), .slice (some ⟨gu, 0, none⟩) tl.length tl.length] rfl
 simp only [setAll, List.set_cons_zero, List.set_cons_succ] at hPt
 generalize hput1 : (((y3.setCell ⟨w.heap.size, 0, none⟩ (.int .i64 (r : Int))).setCell ⟨w.heap.size, 1, none⟩ (.int .i64 (c : Int))).setCell ⟨w.heap.size, 2, none⟩ (.slice (some ⟨gu, 0, none⟩) tl.length tl.length)) = y4 at hPt
 have hB1 := cells_of _ 0 [] rfl (hPt.get _ _ (List.mem_cons_of_mem _ (List.mem_cons_of_mem _ List.mem_cons_self)))
 simp only [cellsF, and_true, Nat.zero_add, Nat.reduceAdd] at hB1
 have hNV : NV w.heap.size tl (.slice (some ⟨gu, 0, none⟩) tl.length tl.length) y4 := ⟨gu, rfl, hge2.out, hPt.get _ _ (List.mem_cons_of_mem _ List.mem_cons_self)⟩
 replace hNV := Lib.hid hNV
 clear hL0 hge2
 go_wp2_with fail
 exact bodyPost_ret (v := .tuple #[.agg #[.int .i64 (r : Int), .int .i64 (c : Int), .slice (some ⟨gu, 0, none⟩) tl.length tl.length], .int .i64 0]) (by simp [results, Tryz.results102, go_sem, hB1]) rfl ⟨_, rfl, hNV.out, hPt.bl⟩
set_option maxHeartbeats 4000000 in
set_option maxRecDepth 100000 in
theorem mindex_in (i n : Int) (h0 : 0 ≤ i) (h1 : i < n) (w : World) : Calls Tryz.prog 107 #[.int .i64 i, .int .i64 n] w fun xe w' => xe = .returned (.bool true) ∧ Below w.heap.size w w' := by
 go_enter Tryz.func107, Tryz.ntmps107
 go_wp2_with fail
 exact bodyPost_ret (v := .bool true) (by simp [results, Tryz.results107, go_sem]) rfl ⟨rfl, Below.refl _ _⟩
set_option maxHeartbeats 4000000 in
set_option maxRecDepth 100000 in
theorem mindices_ok (ps : List Nat) (n : Nat) (hm : ps.length ≤ 100000) (hp : ∀ p ∈ ps, p < n) (v : Value) (w : World) (hv : ILs w v (ps.map Int.ofNat)) : Calls Tryz.prog 118 #[v, .int .i64 (n : Int)] w fun xe w' => xe = .returned (.bool true) ∧ Below w.heap.size w w' := by
 obtain ⟨ao, c, g, rfl, h2, h3⟩ := hv
 rw [List.length_map] at h2 ⊢
 obtain ⟨m, hme⟩ : ∃ m, m = ps.length := ⟨_, rfl⟩
 rw [← hme] at h2 hm ⊢
 have h4 : ∀ i, i < m → ∃ p : Nat, p < n ∧ w.cell? ⟨g, i, none⟩ = some (.int .i64 (p : Int)) := fun i hi => by
  have e := h3 i (by rw [List.length_map, ← hme]; exact hi)
  rw [List.getElem_map] at e
  exact ⟨_, hp _ (List.getElem_mem (by rw [← hme]; exact hi)), e⟩
 clear hp h3 hme
 replace h2 := Lib.hid h2
 replace h4 := Lib.hid h4
 replace hm := Lib.hid hm
 go_enter Tryz.func118, Tryz.ntmps118
 go_wp2_with fail
 go_loopg [9] m (fun gk iv wr => ∃ (k : Nat) (zi : Int), k + gk = m ∧ iv = .int .i64 zi ∧ zi = (k : Int) ∧ Below w.heap.size w wr)
 case atStart => exact ⟨0, 0, Nat.zero_add m, by first | rfl | go_num, rfl, Below.refl _ _⟩
 case round =>
  obtain ⟨k, zi, hik, rfl, hzi, hbl⟩ := hrel
  have hmm := hm.out
  rcases Nat.lt_or_ge k m with hin | hin
  ·subst hzi
   have k1 : (k : Int) < (m : Int) := by omega
   have k0 : (0 : Int) ≤ (k : Int) := Int.natCast_nonneg _
   have kb : (k : Int) ≤ 100000 := by omega
   obtain ⟨p, hp, hcell⟩ := h4.out k hin
   replace hcell := keepsC hbl hcell
   obtain ⟨rfl, -⟩ := h2.out (by omega)
   have HI := Lib.hid (mindex_in (p : Int) (n : Int) (Int.natCast_nonneg _) (by omega))
   replace hbl := Lib.hid hbl
   clear hp
   go_wp2_with fail
   with_reducible refine Calls.mono (HI.out _) ?_
   rintro e y2 ⟨rfl, hb⟩
   have hb2 := Lib.hid (hbl.out.trans (hb.mono hbl.out.size))
   clear hb hbl hcell
   go_wp2_with fail
   go_roundg (m - (k + 1))
   case measure => omega
   case rel => exact ⟨k + 1, _, by omega, by first | rfl | go_num, by omega, hb2.out⟩
  ·obtain rfl : k = m := by omega
   subst hzi
   have k1 : ¬ (k : Int) < (k : Int) := by omega
   replace hbl := Lib.hid hbl
   go_wp2_with fail
   exact bodyPost_ret (v := .bool true) (by simp [results, Tryz.results118, go_sem]) rfl ⟨rfl, hbl.out⟩
set_option maxHeartbeats 4000000 in
set_option maxRecDepth 100000 in
theorem mPartV (x : Mx) (ps qs : List Nat) (hx : OKM x) (hm : ps.length ≤ 100) (hq : qs.length ≤ 100) (hp : ∀ p ∈ ps, p < x.r) (hr : ∀ p ∈ qs, p < x.c) (u s t : Value) (w : World) (hu : CQ w u x.l) (hs : ILs w s (ps.map Int.ofNat)) (ht : ILs w t (qs.map Int.ofNat)) :
  Calls Tryz.prog 42 #[.agg #[.int .i64 (x.r : Int), .int .i64 (x.c : Int), u], s, t] w fun xe w' => ∃ v, xe = .returned (.tuple #[.agg #[.int .i64 (ps.length : Int), .int .i64 (qs.length : Int), v], .int .i64 0]) ∧ NV w.heap.size (tabM ps.length qs.length fun i j => ent x (ps.getD i 0) (qs.getD j 0)).l v w' ∧ Below w.heap.size w w' := by
 have HB : ∀ b1 b2 b3 ux va vb (w : World), (BM w b1 ux x ∧ ILs w va (ps.map Int.ofNat) ∧ ILs w vb (qs.map Int.ofNat) ∧ w.cell? ⟨b2, 0, none⟩ = some va ∧ w.cell? ⟨b3, 0, none⟩ = some vb) → Calls Tryz.prog 108 #[.int .i64 (ps.length : Int), .int .i64 (qs.length : Int), .func (.func 119) #[] #[.pointer (some ⟨b1, 0, none⟩), .pointer (some ⟨b2, 0, none⟩), .pointer (some ⟨b3, 0, none⟩)]] w fun xe w' => ∃ v, xe = .returned (.agg #[.int .i64 (ps.length : Int), .int .i64 (qs.length : Int), v]) ∧ NV w.heap.size (tabM ps.length qs.length fun i j => ent x (ps.getD i 0) (qs.getD j 0)).l v w' ∧ Below w.heap.size w w' := fun b1 b2 b3 ux va vb w h =>
  mbuild_w 119 #[.pointer (some ⟨b1, 0, none⟩), .pointer (some ⟨b2, 0, none⟩), .pointer (some ⟨b3, 0, none⟩)] enmpart ps.length qs.length (fun i j => ent x (ps.getD i 0) (qs.getD j 0)) (fun w => BM w b1 ux x ∧ ILs w va (ps.map Int.ofNat) ∧ ILs w vb (qs.map Int.ofNat) ∧ w.cell? ⟨b2, 0, none⟩ = some va ∧ w.cell? ⟨b3, 0, none⟩ = some vb) (Keeps.and (BM.keeps _ _ _) (Keeps.and (ILs.keeps _ _) (Keeps.and (ILs.keeps _ _) (Keeps.and (keepsB _ _) (keepsB _ _))))) (fun i k hi hk w h => mpart_at x hx ps qs hp hr b1 b2 b3 ux va vb i k hi hk w h) (by omega) (by omega) (by have := Nat.mul_le_mul hm hq; omega) w h
 have HK := fun (d : Nat) (ao : Option Addr) => mcheck_ok x.r x.c x.l.length d ao hx.r hx.c hx.len
 have HS := Lib.hid (msize_ok ps.length qs.length (by omega) (by omega))
 have HI := Lib.hid fun w h => mindices_ok ps x.r (by omega) hp s w h
 have HJ := Lib.hid fun w h => mindices_ok qs x.c (by omega) hr t w h
 clear hp hr hx hm hq
 generalize (tabM ps.length qs.length fun i j => ent x (ps.getD i 0) (qs.getD j 0)).l = tl at HB ⊢
 obtain ⟨ao, d, rfl, -⟩ := id hu.form
 obtain ⟨a5, d5, g5, rfl, -⟩ := id hs
 obtain ⟨a6, d6, g6, rfl, -⟩ := id ht
 rw [List.length_map] at hs ht HI HJ ⊢
 replace HK := Lib.hid (HK d ao)
 replace HB := Lib.hid HB
 have hL0 : GL w w [] := GL.start w
 replace hL0 := ((((hL0.new rfl [.int .i64 (x.r : Int), .int .i64 (x.c : Int), (.slice ao x.l.length d)] 56).new (K := w.heap.size + 1) (szA _ _) [.slice a5 ps.length d5] 24).new (K := w.heap.size + 1 + 1) (by simp only [World.size_alloc]) [.slice a6 qs.length d6] 24).new (K := w.heap.size + 1 + 1 + 1) (by simp only [World.size_alloc]) [.int .i64 0, .int .i64 0, .slice none 0 0] 56)
 generalize hweq : ((((w.alloc (.cells #[.int .i64 (x.r : Int), .int .i64 (x.c : Int), (.slice ao x.l.length d)] 56)).alloc (.cells #[.slice a5 ps.length d5] 24)).alloc (.cells #[.slice a6 qs.length d6] 24)).alloc (.cells #[.int .i64 0, .int .i64 0, .slice none 0 0] 56)) = x1 at hL0
 have hu1 := Lib.hid (hu.below hL0.bl)
 have hs1 := Lib.hid (hs.below hL0.bl)
 have ht1 := Lib.hid (ht.below hL0.bl)
 clear hu hs ht
 have hA := hL0.fc
 simp only [fcG, cellsF, neK, and_true, ne_eq, Nat.zero_add, Nat.reduceAdd] at hA
 go_enter Tryz.func42, Tryz.ntmps42
 go_wp2_with fail
 with_reducible refine Calls.mono (HK.out _) ?_
 rintro e y1 ⟨rfl, hb⟩
 replace hu1 := Lib.hid (hu1.out.below hb)
 replace hs1 := Lib.hid (hs1.out.below hb)
 replace ht1 := Lib.hid (ht1.out.below hb)
 replace hL0 := hL0.call hb
 clear hb hA hweq HK
 have hA := hL0.fc
 simp only [fcG, cellsF, neK, and_true, ne_eq, Nat.zero_add, Nat.reduceAdd] at hA
 go_wp2_with fail
 with_reducible refine Calls.mono (HS.out _) ?_
 rintro e y2 ⟨rfl, hb⟩
 replace hu1 := Lib.hid (hu1.out.below hb)
 replace hs1 := Lib.hid (hs1.out.below hb)
 replace ht1 := Lib.hid (ht1.out.below hb)
 replace hL0 := hL0.call hb
 clear hb hA HS
 have hA := hL0.fc
 simp only [fcG, cellsF, neK, and_true, ne_eq, Nat.zero_add, Nat.reduceAdd] at hA
 go_wp2_with fail
 with_reducible refine Calls.mono (HI.out _ hs1.out) ?_
 rintro e y3 ⟨rfl, hb⟩
 replace hu1 := Lib.hid (hu1.out.below hb)
 replace hs1 := Lib.hid (hs1.out.below hb)
 replace ht1 := Lib.hid (ht1.out.below hb)
 replace hL0 := hL0.call hb
 clear hb hA HI
 have hA := hL0.fc
 simp only [fcG, cellsF, neK, and_true, ne_eq, Nat.zero_add, Nat.reduceAdd] at hA
 go_wp2_with fail
 with_reducible refine Calls.mono (HJ.out _ ht1.out) ?_
 rintro e y4 ⟨rfl, hb⟩
 replace hu1 := Lib.hid (hu1.out.below hb)
 replace hs1 := Lib.hid (hs1.out.below hb)
 replace ht1 := Lib.hid (ht1.out.below hb)
 replace hL0 := hL0.call hb
 clear hb hA HJ
 have hB1 := BM.of (hL0.get _ _ (List.mem_cons_of_mem _ (List.mem_cons_of_mem _ (List.mem_cons_of_mem _ List.mem_cons_self)))) hu1.out
 have hc1 := (hL0.get _ _ (List.mem_cons_of_mem _ (List.mem_cons_of_mem _ List.mem_cons_self))).cell 0 (by simp)
 simp only [List.getElem_cons_zero, List.getElem_cons_succ] at hc1
 have hc2 := (hL0.get _ _ (List.mem_cons_of_mem _ List.mem_cons_self)).cell 0 (by simp)
 simp only [List.getElem_cons_zero, List.getElem_cons_succ] at hc2
 replace HB := Lib.hid (HB.out _ _ _ _ _ _ _ ⟨hB1, hs1.out, ht1.out, hc1, hc2⟩)
 clear hc1 hc2 hB1 hu1 hs1 ht1
 have hx0 := Lib.hid hL0
 have hA := cells_of _ 0 [] rfl (hL0.get _ _ (List.mem_cons_of_mem _ (List.mem_cons_of_mem _ List.mem_cons_self)))
 simp only [cellsF, and_true, Nat.zero_add, Nat.reduceAdd] at hA
 have zA := (hL0.get _ _ (List.mem_cons_of_mem _ (List.mem_cons_of_mem _ List.mem_cons_self))).frz
 have hC := cells_of _ 0 [] rfl (hL0.get _ _ (List.mem_cons_of_mem _ List.mem_cons_self))
 simp only [cellsF, and_true, Nat.zero_add, Nat.reduceAdd] at hC
 have zC := (hL0.get _ _ (List.mem_cons_of_mem _ List.mem_cons_self)).frz
 go_wp2_with fail
 with_reducible refine Calls.mono (HB.out) ?_
 rintro e y5 ⟨u, rfl, hnv, hb⟩
 replace hL0 := hL0.call hb
 clear hb hA hC zA zC
 replace hx0 := hx0.out
 obtain ⟨gu, rfl, hge, hHd⟩ := hnv
 replace hL0 := GL.tnew (M := []) hL0 hx0 hHd hge (fun p hp => by cases hp)
 simp only [List.nil_append] at hL0
 have hge2 := Lib.hid (Nat.le_trans hx0.bl.size hge)
 clear hx0 hge hHd
 have hA := cells_of _ 0 [] rfl (hL0.get _ _ (List.mem_cons_of_mem _ List.mem_cons_self))
 simp only [cellsF, and_true, Nat.zero_add, Nat.reduceAdd] at hA
 have zf := (hL0.get _ _ (List.mem_cons_of_mem _ List.mem_cons_self)).frz
 have hPt := hL0.put 1 (w.heap.size + 1 + 1 + 1) _ rfl [.int .i64 (ps.length : Int), .int .i64 (qs.length : Int), .slice (some ⟨gu, 0, none⟩) tl.length tl.length] rfl
 simp only [setAll, List.set_cons_zero, List.set_cons_succ] at hPt
 generalize hput1 : (((y5.setCell ⟨w.heap.size + 1 + 1 + 1, 0, none⟩ (.int .i64 (ps.length : Int))).setCell ⟨w.heap.size + 1 + 1 + 1, 1, none⟩ (.int .i64 (qs.length : Int))).setCell ⟨w.heap.size + 1 + 1 + 1, 2, none⟩ (.slice (some ⟨gu, 0, none⟩) tl.length tl.length)) = y6 at hPt
 have hB1 := cells_of _ 0 [] rfl (hPt.get _ _ (List.mem_cons_of_mem _ List.mem_cons_self))
 simp only [cellsF, and_true, Nat.zero_add, Nat.reduceAdd] at hB1
 have hNV : NV w.heap.size tl (.slice (some ⟨gu, 0, none⟩) tl.length tl.length) y6 := ⟨gu, rfl, hge2.out, hPt.get _ _ List.mem_cons_self⟩
 replace hNV := Lib.hid hNV
 clear hL0 hge2
 go_wp2_with fail
 exact bodyPost_ret (v := .tuple #[.agg #[.int .i64 (ps.length : Int), .int .i64 (qs.length : Int), .slice (some ⟨gu, 0, none⟩) tl.length tl.length], .int .i64 0]) (by simp [results, Tryz.results42, go_sem, hB1]) rfl ⟨_, rfl, hNV.out, hPt.bl⟩
set_option maxHeartbeats 4000000 in
set_option maxRecDepth 100000 in
theorem mTextV (x : Mx) (S : Nat → ByteArray) (Jt : List UInt8) (hx : OKM x) (HT : ∀ i, i < x.r → ∀ (v : Value) (w : World), Tab w → RQ w v (rowL x i) → Calls Tryz.prog 81 #[v] w fun xe w' => xe = .returned (.string (S i)) ∧ Below w.heap.size w w') (hJ : Lib.join (((List.range x.r).map S).map (·.data.toList)) [32] = Jt) (hJl : Jt.length ≤ 1000000) (u : Value) (w : World) (ht : Tab w) (hu : CQ w u x.l) :
  Calls Tryz.prog 54 #[.agg #[.int .i64 (x.r : Int), .int .i64 (x.c : Int), u]] w fun xe w' => xe = .returned (.string ⟨Jt.toArray⟩) ∧ Below w.heap.size w w' := by
 have HR := Lib.hid fun i (hi : i < x.r) w0 (h : CQ w0 u x.l) => mrowV x hx i hi u w0 h
 obtain ⟨ao, d, rfl, -⟩ := id hu.form
 have HK := Lib.hid (mcheck_ok x.r x.c x.l.length d ao hx.r hx.c hx.len)
 have hn := Lib.hid hx.r
 obtain ⟨n, hne⟩ : ∃ n, n = x.r := ⟨_, rfl⟩
 rw [← hne] at HR HK hn hJ HT ⊢
 obtain ⟨tx, htx⟩ : ∃ tx, tx = (List.range n).map S := ⟨_, rfl⟩
 have hti : ∀ i, i < n → tx.take (i + 1) = tx.take i ++ [S i] := fun i hi => by
  rw [htx, List.take_succ_eq_append_getElem (by rw [List.length_map, List.length_range]; omega), List.getElem_map, List.getElem_range]
 have htl : tx.length = n := by rw [htx, List.length_map, List.length_range]
 rw [← htx] at hJ
 replace hti := Lib.hid hti
 replace htl := Lib.hid htl
 replace hJ := Lib.hid hJ
 replace hJl := Lib.hid hJl
 replace ht := Lib.hid ht
 replace HT := Lib.hid HT
 clear htx hx hne
 have hL0 : GL w w [] := GL.start w
 replace hL0 := (hL0.new rfl [.int .i64 (n : Int), .int .i64 (x.c : Int), .slice ao x.l.length d] 56)
 generalize hweq : (w.alloc (.cells #[.int .i64 (n : Int), .int .i64 (x.c : Int), .slice ao x.l.length d] 56)) = x1 at hL0
 have hu1 := Lib.hid (hu.below hL0.bl)
 clear hu
 have hA := hL0.fc
 simp only [fcG, cellsF, neK, and_true, ne_eq, Nat.zero_add, Nat.reduceAdd] at hA
 go_enter Tryz.func54, Tryz.ntmps54
 go_wp2_with fail
 with_reducible refine Calls.mono (HK.out _) ?_
 rintro e y1 ⟨rfl, hb⟩
 replace hu1 := Lib.hid (hu1.out.below hb)
 replace hL0 := hL0.call hb
 clear hb hA hweq HK
 have hA := hL0.fc
 simp only [fcG, cellsF, neK, and_true, ne_eq, Nat.zero_add, Nat.reduceAdd] at hA
 go_wp2_with fail
 clear hA
 obtain ⟨x1, hx1⟩ : ∃ x1, x1 = y1 := ⟨_, rfl⟩
 rw [← hx1] at hL0 hu1 ⊢
 replace hx1 := hx1.symm
 obtain ⟨b, hbw⟩ : ∃ b, b = w.heap.size := ⟨_, rfl⟩
 rw [← hbw] at hL0 ⊢
 replace hbw := Lib.hid hbw
 have hbx := Lib.hid (show b < x1.heap.size from (hL0.get _ _ List.mem_cons_self).lt)
 have hbc := Lib.hid (hL0.get _ _ List.mem_cons_self)
 have hwx := Lib.hid hL0.bl
 clear hL0 hx1
 go_loopg [3, 10] n (fun gk sv iv wr => ∃ (k : Nat) (zi : Int) (vs : Value), k + gk = n ∧ vs = sv ∧ iv = .int .i64 zi ∧ zi = (k : Int) ∧ OwnS wr x1.heap.size vs k (tx.take k) ∧ Below x1.heap.size x1 wr)
 case atStart => exact ⟨0, 0, _, Nat.zero_add n, rfl, by first | rfl | go_num, rfl, World.ownsRow_nil _ _ _ _, Below.refl _ _⟩
 case round =>
  obtain ⟨k, zi, vs, hik, rfl, rfl, hzi, hown, hB⟩ := hrel
  replace hown := Lib.hid hown
  have hnn := hn.out
  rcases Nat.lt_or_ge k n with hin | hin
  ·subst hzi
   have k1 : (k : Int) < (n : Int) := by omega
   have k0 : (0 : Int) ≤ (k : Int) := Int.natCast_nonneg _
   have kb : (k : Int) ≤ 10000 := by omega
   have hcu := hu1.out.below hB
   obtain ⟨a2, g1, g2⟩ := HR.out k hin wr hcu
   have hcb := cells_of _ 0 [] rfl (hbc.out.below hB)
   simp only [cellsF, and_true, Nat.zero_add, Nat.reduceAdd] at hcb
   have HT1 := Lib.hid fun w => HT.out k hin (.slice a2 x.c x.c) w
   have hti1 := hti.out k hin
   obtain ⟨St, hS⟩ : ∃ St, St = S k := ⟨_, rfl⟩
   rw [← hS] at HT1 hti1
   replace hti1 := Lib.hid hti1
   replace g1 := Lib.hid g1
   replace g2 := Lib.hid g2
   clear hS hcu
   go_wp2_with fail
   with_reducible refine Calls.mono (g1.out _) ?_
   rintro e y2 ⟨rfl, hb2⟩
   have hB2 := hB.trans (hb2.mono hB.size)
   have g3 := Lib.hid (g2.out.below hb2)
   have hown2 := Lib.hid (ownS_below hown.out hb2)
   clear hb2 g1 g2 hown hcb
   have ht2 := Lib.hid (ht.out.below (hwx.out.trans (hB2.mono hwx.out.size)))
   clear hB
   replace hB2 := Lib.hid hB2
   go_wp2_with fail
   with_reducible refine Calls.mono (HT1.out _ ht2.out g3.out) ?_
   rintro e y3 ⟨rfl, hb3⟩
   have hown3 := Lib.hid (ownS_below hown2.out hb3)
   have hB3 := Lib.hid (hB2.out.trans (hb3.mono hB2.out.size))
   clear hb3 hown2 hB2 ht2 g3 HT1
   have hL1 : GL y3 y3 [] := GL.start y3
   replace hL1 := hL1.new rfl [.string St] 9
   generalize hweq : y3.alloc (.cells #[.string St] 9) = y4 at hL1
   have hown4 := Lib.hid (ownS_below hown3.out hL1.bl)
   have hB4 := Lib.hid (hB3.out.trans (hL1.bl.mono hB3.out.size))
   have hH := Lib.hid (hL1.get _ _ List.mem_cons_self)
   go_wp2_with (at_builtin; refine wp_appendS rfl _ _ rfl _ _ _ _ rfl hown4.out _ St rfl hH.out (by omega) hB4.out.size ?_)
   intro v' w5 hown5 hgrow _
   have hB5 := hB4.out.grown hgrow hB4.out.size (fun j hj => (hown4.out.lt j hj).1)
   rw [← hti1.out] at hown5
   replace hown5 := Lib.hid hown5
   clear hgrow hown4 hB4 hown3 hB3 hH hweq
   go_wp2_with fail
   go_roundg (gk - 1)
   case measure => omega
   case rel => exact ⟨k + 1, _, _, by omega, rfl, by first | rfl | go_num, by omega, hown5.out, hB5⟩
  ·obtain rfl : k = n := by omega
   subst hzi
   have k1 : ¬ (k : Int) < (k : Int) := by omega
   rw [List.take_of_length_le (Nat.le_of_eq htl.out)] at hown
   have hJ2 : Calls Tryz.prog 132 #[vs, .string ⟨#[32]⟩] wr fun e w' => e = .returned (.string ⟨Jt.toArray⟩) ∧ Below wr.heap.size wr w' := by
    by_cases h0 : k = 0
    ·have e0 : tx = [] := List.eq_nil_of_length_eq_zero (by rw [htl.out, h0])
     obtain ⟨a, c2, hvs⟩ := ownS_form hown.out
     rw [hvs, h0]
     rw [e0] at hJ
     refine (Tryz.strings_Join_none a c2 ⟨#[32]⟩ wr).mono ?_
     rintro e w' ⟨rfl, rfl⟩
     exact ⟨by rw [← hJ.out]; rfl, Below.refl _ _⟩
    ·obtain ⟨g9, c9, hvs, hc9, hg9, hce9⟩ := ownS_cells hown.out (by rw [htl.out]; omega)
     rw [hvs]
     have := Tryz.strings_Join g9 0 c9 tx ⟨#[32]⟩ wr hce9 hg9 (by rw [htl.out]; omega) hc9 (by
      have h1 := hJl.out
      rw [← hJ.out] at h1
      exact Nat.le_trans h1 (by decide))
     rw [show (⟨#[32]⟩ : ByteArray).data.toList = [32] from rfl, hJ.out] at this
     exact this
   replace hJ2 := Lib.hid hJ2
   replace hB := Lib.hid hB
   obtain ⟨a9, c9, hvs⟩ := ownS_form hown.out
   subst hvs
   go_wp2_with fail
   with_reducible refine Calls.mono hJ2.out ?_
   rintro e y9 ⟨rfl, hb9⟩
   have hB9 := Lib.hid (hwx.out.trans ((hB.out.trans (hb9.mono hB.out.size)).mono hwx.out.size))
   clear hb9
   go_wp2_with fail
   exact bodyPost_ret (v := .string ⟨Jt.toArray⟩) (by simp [results, Tryz.results54, go_sem]) rfl ⟨rfl, hB9.out⟩
end Go.Proofs.YtjdjhlmcbffocaaGreatDoor
namespace Go.Proofs.YtjdjhlmcbffocaaGreatDoor
open Go.RowKit
attribute [local irreducible] lo hs sm s64 c64 d64 b64 mh ml pd pc qd qc val hiB str cmpI srD lz nb zl zh zs fe rowV tabV gv bsV tabM
/-- A matrix of zeros of any sizes, valid or not. -/
def XM (w : World) (v : Value) (r c : Int) (m : Nat) : Prop := ∃ ao d, v = .agg #[.int .i64 r, .int .i64 c, .slice ao m d] ∧ m ≤ d ∧ SlQ w (.slice ao m d) (List.replicate m 0)
theorem xm_of {w : World} {r c : Int} {m d : Nat} {ao : Option Addr} (h : SlQ w (.slice ao m d) (List.replicate m 0)) (hd : m ≤ d) : XM w (.agg #[.int .i64 r, .int .i64 c, .slice ao m d]) r c m := ⟨_, _, rfl, hd, h⟩
/-- A slice; a matrix: whatever they hold. -/
def YS (v : Value) : Prop := ∃ o n d, v = .slice o n d
def WS (v : Value) : Prop := ∃ a b o n d, v = .agg #[.int .i64 a, .int .i64 b, .slice o n d]
theorem slq_new0 {w : World} {g n : Nat} (h : Hd w g (frCs (List.replicate n 0))) : SlQ w (.slice (some ⟨g, 0, none⟩) n n) (List.replicate n 0) := .inr ⟨g, n, by rw [List.length_replicate], hd_fs h⟩
end Go.Proofs.YtjdjhlmcbffocaaGreatDoor
namespace Go.Proofs.YtjdjhlmcbffocaaGreatDoor
open Go.RowKit
attribute [local irreducible] lo hs sm s64 c64 d64 b64 mh ml pd pc qd qc val hiB str cmpI srD lz nb zl zh zs fe
section
variable {x y : Mx} {n k p K M : Nat}
theorem sqM {a b c : Nat} (h1 : a ≤ 12) (h2 : b ≤ 12) : a * b ≤ 144 := Nat.mul_le_mul h1 h2
theorem MTurnG (hx : GM x n k K) (hn : n ≤ 12) (hk : k ≤ 12) (u : Value) (w : World) (hu : MT w u x) :
  Calls Tryz.prog 63 #[u] w fun e w' => ∃ pv, e = .returned (.tuple #[pv, .int .i64 0]) ∧ MT w' pv (turM n k x) ∧ Below w.heap.size w w' := by
 have ox := hx.ok (by omega) (by omega)
 obtain ⟨rfl, rfl, -, -⟩ := hx
 obtain ⟨u1, rfl, hu⟩ := hu
 refine (mTurnV x ox (by have := sqM (c := 0) hn hk; omega) u1 w hu).mono ?_
 rintro e w' ⟨t, rfl, h1, hb⟩
 exact ⟨_, rfl, ⟨t, rfl, h1.cq⟩, hb⟩
end
end Go.Proofs.YtjdjhlmcbffocaaGreatDoor
namespace Go.Proofs.YtjdjhlmcbffocaaGreatDoor
open Go.RowKit
attribute [local irreducible] lo hs sm s64 c64 d64 b64 mh ml pd pc qd qc val hiB str cmpI srD lz nb zl zh zs fe rowV tabV gv bsV
theorem slq_upd {W W' : World} {v : Value} {l : List Rat} {k : Nat} (h : SlQ W v l) (hu : Upd k W W') (hk : ∀ g c, v = .slice (some ⟨g, 0, none⟩) l.length c → FS W g l → l ≠ [] → g ≠ k) : SlQ W' v l := by
 by_cases h0 : l = []
 ·subst h0
  rcases h with h1 | ⟨g, c, h1, h2⟩
  ·exact .inl h1
  ·exact .inl ⟨_, c, h1, rfl⟩
 ·rcases h with ⟨_, _, _, h1⟩ | ⟨g, c, h1, h2⟩
  ·exact absurd h1 h0
  ·have hbl := hu.block g (hk g c h1 h2 h0)
   have cc : ∀ j, W'.cell? ⟨g, j, none⟩ = W.cell? ⟨g, j, none⟩ := fun j => World.cell?_of_block (a := ⟨g, j, none⟩) hbl
   exact .inr ⟨g, c, h1, fun i hi => by rw [cc, cc, cc, cc, cc]; exact h2.cell i hi, by rw [hu.size]; exact h2.lt⟩
/-- .. a box whose first cell begins no fraction. -/
theorem PTs.putM {W W' : World} {S : List (Value × List Rat)} (h : PTs W S) {k : Nat} {x : Value} {cs : List Value} (hu : Upd k W W') (hd : Hd W k (x :: cs)) (hx : ∀ n, x ≠ .int .u64 n) : PTs W' S := fun p hp =>
 slq_upd (h p hp) hu fun g c _ hf h0 e => by
  subst e
  have h1 := (hf.cell 0 (List.length_pos_iff.2 h0)).1
  rw [Nat.zero_mul, hd.cell 0 (by simp)] at h1
  exact hx _ (Option.some.inj h1)
end Go.Proofs.YtjdjhlmcbffocaaGreatDoor
namespace Go.Proofs.YtjdjhlmcbffocaaGreatDoor
open Go.RowKit
attribute [local irreducible] lo hs sm s64 c64 d64 b64 mh ml pd pc qd qc val hiB str cmpI srD lz nb zl zh zs fe
def mW (r c : Nat) (zs : List Int) : Mx := ⟨r, c, oW zs⟩
/-- The text of a row, without brackets. -/
def jrow (l : List Rat) : List UInt8 := Lib.join ((l.map qtxt).map (·.data.toList)) [32]
def srow (x : Mx) (i : Nat) : ByteArray := ⟨([91] ++ jrow (rowL x i) ++ [93]).toArray⟩
def jmat (x : Mx) (n : Nat) : List UInt8 := Lib.join (((List.range n).map (srow x)).map (·.data.toList)) [32]
theorem gmW {x : Mx} {n k : Nat} (hr : x.r = n) (hc : x.c = k) (hl : x.l.length = n * k) (hs : x.l.all (fun q => decide (q.num.natAbs < 18446744073709551616 ∧ q.den < 18446744073709551616)) = true) : GM x n k 1 := ⟨hr, hc, hl, szl hs⟩
theorem mtext_at (x : Mx) (n k : Nat) (t : ByteArray) (hx : GM x n k 1) (hn : n ≤ 12) (hk : k ≤ 12) (hl : (List.range n).all (fun i => decide ((jrow (rowL x i)).length ≤ 100)) = true) (hJ : (⟨(jmat x n).toArray⟩ : ByteArray) = t) (hl2 : (jmat x n).length ≤ 1000000) (u : Value) (w : World) (hT : Tab w) (hu : MT w u x) :
  Calls Tryz.prog 54 #[u] w fun e w' => e = .returned (.string t) ∧ Below w.heap.size w w' := by
 rw [← hJ]
 have ox := hx.ok (by omega) (by omega)
 have hs := hx.sz
 have hlen := hx.len
 obtain ⟨rfl, rfl, -, -⟩ := hx
 obtain ⟨u1, rfl, hu⟩ := hu
 refine mTextV x (srow x) (jmat x x.r) ox (fun i hi v w ht hv => ?_) rfl hl2 u1 w hT hu
 have h9 := of_decide_eq_true (List.all_eq_true.1 hl i (List.mem_range.2 hi))
 exact rtextV (rowL x i) x.c 1 (jrow (rowL x i)) (row_len x i) (by omega) (by omega) (fun q hq => by
  obtain ⟨k, hk, rfl⟩ := tab_mem hq
  exact hs _ (gv_mem (by rw [hlen]; exact ix_lt hi hk))) rfl (by omega) v w ht hv
theorem mof_at (r c : Nat) (zs : List Int) (hm : zs.length ≤ 100000) (hz : ∀ z ∈ zs, -9223372036854775808 ≤ z ∧ z < 9223372036854775808) (hr : r ≤ 2048) (hc : c ≤ 2048) (hl : zs.length = r * c) (s : Value) (w : World) (hs : ILs w s zs) :
  Calls Tryz.prog 102 #[.int .i64 (r : Int), .int .i64 (c : Int), s] w fun e w' => ∃ pv, e = .returned (.tuple #[pv, .int .i64 0]) ∧ MT w' pv (mW r c zs) ∧ Below w.heap.size w w' := by
 refine (mOf_ok r c zs hm hz hr hc hl s w hs).mono ?_
 rintro e w' ⟨t, rfl, h1, hb⟩
 exact ⟨_, rfl, ⟨t, rfl, h1.cq⟩, hb⟩
end Go.Proofs.YtjdjhlmcbffocaaGreatDoor
namespace Go.Proofs.YtjdjhlmcbffocaaGreatDoor
open Go.RowKit
attribute [local irreducible] lo hs sm s64 c64 d64 b64 mh ml pd pc qd qc val hiB str cmpI srD lz nb zl zh zs fe rowV tabV gv bsV tabM
set_option maxHeartbeats 16000000 in
set_option maxRecDepth 100000 in
theorem eerr_bad (r c zn zq : Int) (m q : Nat) (t : Int)
  (ezn : Int.tmod zn 40 = (m : Int))
  (m39 : (m : Int) ≤ 39)
  (ezq : Int.tmod zq 50 = (q : Int))
  (q49 : (q : Int) ≤ 49)
  (HW : ∀ w, Tab w → Calls Tryz.prog 49 #[] w fun e w' => e = .returned (.bool true) ∧ Below w.heap.size w w')
  (t0 : t ≠ 0)
  (HCk : ∀ (p : Value) (w : World), XM w p r c m → Calls Tryz.prog 77 #[p] w fun e w' => e = .returned (.int .i64 t) ∧ Below w.heap.size w w')
  (HRd : ∀ (p : Value) (w : World), XM w p r c m → Calls Tryz.prog 50 #[p] w fun e w' => e = .returned (.tuple #[.agg #[.int .i64 0, .int .i64 0, .slice none 0 0], .slice none 0 0, .int .i64 t]) ∧ Below w.heap.size w w')
  (HRk : ∀ (p : Value) (w : World), XM w p r c m → Calls Tryz.prog 53 #[p] w fun e w' => e = .returned (.tuple #[.int .i64 0, .int .i64 t]) ∧ Below w.heap.size w w')
  (HKe : ∀ (p : Value) (w : World), XM w p r c m → Calls Tryz.prog 65 #[p] w fun e w' => e = .returned (.tuple #[.slice none 0 0, .int .i64 t]) ∧ Below w.heap.size w w')
  (HSo : ∀ (p s : Value) (w : World), XM w p r c m → SlQ w s (List.replicate q 0) → Calls Tryz.prog 69 #[p, s] w fun e w' => e = .returned (.tuple #[.agg #[.slice none 0 0, .slice none 0 0], .int .i64 t]) ∧ Below w.heap.size w w')
  (HAg : ∀ (p s : Value) (w : World), XM w p r c m → SlQ w s (List.replicate q 0) → Calls Tryz.prog 70 #[p, s] w fun e w' => e = .returned (.tuple #[.slice none 0 0, .int .i64 t]) ∧ Below w.heap.size w w')
  (HIn : ∀ (p : Value) (w : World), XM w p r c m → Calls Tryz.prog 73 #[p] w fun e w' => e = .returned (.tuple #[.agg #[.int .i64 0, .int .i64 0, .slice none 0 0], .int .i64 t]) ∧ Below w.heap.size w w')
  (HDe : ∀ (p : Value) (w : World), XM w p r c m → Calls Tryz.prog 57 #[p] w fun e w' => e = .returned (.tuple #[.agg #[.int .u64 0, .string ⟨#[]⟩, .bool false, .int .u64 0, .string ⟨#[]⟩], .int .i64 t]) ∧ Below w.heap.size w w')
  (HS2 : ∀ (s : Value) (w : World), SlQ w s (List.replicate 2049 0) → Calls Tryz.prog 69 #[.agg #[.int .i64 0, .int .i64 0, .slice none 0 0], s] w fun e w' => e = .returned (.tuple #[.agg #[.slice none 0 0, .slice none 0 0], .int .i64 3]) ∧ Below w.heap.size w w')
  (HA2 : ∀ (s : Value) (w : World), SlQ w s (List.replicate 2049 0) → Calls Tryz.prog 70 #[.agg #[.int .i64 (-1), .int .i64 0, .slice none 0 0], s] w fun e w' => e = .returned (.tuple #[.slice none 0 0, .int .i64 1]) ∧ Below w.heap.size w w')
  (HMi : ∀ (p : Value) (w : World), XM w p r c m → Calls Tryz.prog 76 #[p, .int .i64 0] w fun e w' => e = .returned (.tuple #[.agg #[.int .u64 0, .string ⟨#[]⟩, .bool false, .int .u64 0, .string ⟨#[]⟩], .int .i64 t]) ∧ Below w.heap.size w w')
  (w : World) (ht : Tab w) : Calls Tryz.prog 14 #[.int .i64 r, .int .i64 c, .int .u8 zn, .int .u8 zq] w fun e w' => e = .returned (.bool true) ∧ Below w.heap.size w w' := by
 have m0 : (0 : Int) ≤ (m : Int) := Int.natCast_nonneg _
 have q0 : (0 : Int) ≤ (q : Int) := Int.natCast_nonneg _
 have hmkm := Lib.hid fun W => makeM W (m : Int) m rfl (by omega)
 have hmkq := Lib.hid fun W => makeV W (q : Int) q rfl (by omega)
 have hmkz := Lib.hid fun W => makeV W 2049 2049 rfl (by omega)
 have hmky := Lib.hid fun W => makeV W 2049 2049 rfl (by omega)
 have h1 : (t == 0) = false := by simpa using t0
 have h2 : (t != 0) = true := by simpa using t0
 clear t0
 replace HW := Lib.hid HW
 replace HCk := Lib.hid HCk
 replace HRd := Lib.hid HRd
 replace HRk := Lib.hid HRk
 replace HKe := Lib.hid HKe
 replace HSo := Lib.hid HSo
 replace HAg := Lib.hid HAg
 replace HIn := Lib.hid HIn
 replace HDe := Lib.hid HDe
 replace HS2 := Lib.hid HS2
 replace HA2 := Lib.hid HA2
 replace HMi := Lib.hid HMi
 have hL0 : GL w w [] := GL.start w
 have hb3 : Below w.heap.size w (w.alloc (.cells (frCs (List.replicate m 0)).toArray 36)) := (Below.refl _ _).alloc (Nat.le_refl _) _
 have hm : SlQ (w.alloc (.cells (frCs (List.replicate m 0)).toArray 36)) (.slice (some ⟨w.heap.size, 0, none⟩) m m) (List.replicate m 0) := slq_new0 (hd_new w (frCs (List.replicate m 0)) _)
 have hmkm' := hmkm.out w
 generalize hwzhmkm' : (w.alloc (.cells (frCs (List.replicate m 0)).toArray 36)) = x1 at hb3 hm
 rw [hwzhmkm'] at hmkm'
 replace hL0 := hL0.call hb3
 replace ht := ht.below hb3
 clear hb3 hwzhmkm'
 replace hL0 := hL0.new rfl [.int .i64 0, .int .i64 0, .slice none 0 0] 56
 generalize hweq : x1.alloc (.cells #[.int .i64 0, .int .i64 0, .slice none 0 0] 56) = x2 at hL0
 have hb3 : Below x1.heap.size x1 x2 := by rw [← hweq]; exact (Below.refl _ _).alloc (Nat.le_refl _) _
 have hP := hL0.put 0 x1.heap.size _ rfl [.int .i64 r, .int .i64 c, .slice (some ⟨w.heap.size, 0, none⟩) m m] rfl
 obtain ⟨x3, hy⟩ : ∃ q, setAll x2 x1.heap.size 0 [.int .i64 r, .int .i64 c, .slice (some ⟨w.heap.size, 0, none⟩) m m] = q := ⟨_, rfl⟩
 have hb4 : Below x1.heap.size x1 x3 := hb3.trans (by rw [← hy]; exact (setAll_upd _ _ _ _).below (Nat.le_refl _))
 rw [hy] at hP
 simp only [setAll, Nat.zero_add, Nat.reduceAdd] at hy
 simp only [List.set_cons_zero] at hP
 have hA := hL0.fc
 simp only [fcG, cellsF, neK, and_true, ne_eq, Nat.zero_add, Nat.reduceAdd] at hA
 have hB := hP.fc
 simp only [fcG, cellsF, neK, and_true, ne_eq, Nat.zero_add, Nat.reduceAdd] at hB
 replace ht := ht.below hb4
 replace hm := hm.below hb4
 clear hb3 hb4
 replace hL0 := hP
 clear hP
 go_enter Tryz.func14, Tryz.ntmps14
 go_upto_region 2 with fail
 clear hA hweq hy hmkm'
 have hA := hB
 clear hB
 have hb3 : Below x3.heap.size x3 (x3.alloc (.cells (frCs (List.replicate q 0)).toArray 36)) := (Below.refl _ _).alloc (Nat.le_refl _) _
 have hv : SlQ (x3.alloc (.cells (frCs (List.replicate q 0)).toArray 36)) (.slice (some ⟨x3.heap.size, 0, none⟩) q q) (List.replicate q 0) := slq_new0 (hd_new x3 (frCs (List.replicate q 0)) _)
 have hmkq' := hmkq.out x3
 generalize hwzhmkq' : (x3.alloc (.cells (frCs (List.replicate q 0)).toArray 36)) = x4 at hb3 hv
 rw [hwzhmkq'] at hmkq'
 replace hL0 := hL0.call hb3
 replace ht := ht.below hb3
 replace hm := hm.below hb3
 clear hb3 hwzhmkq'
 clear hA
 have hA := hL0.fc
 simp only [fcG, cellsF, neK, and_true, ne_eq, Nat.zero_add, Nat.reduceAdd] at hA
 go_wp2_with fail
 refine Calls.mono (HCk.out _ _ (xm_of hm (Nat.le_refl _))) ?_
 rintro e x5 ⟨rfl, hb⟩
 replace hL0 := hL0.call hb
 replace ht := ht.below hb
 replace hm := hm.below hb
 replace hv := hv.below hb
 clear hb hA hmkq' HCk
 have hA := hL0.fc
 simp only [fcG, cellsF, neK, and_true, ne_eq, Nat.zero_add, Nat.reduceAdd] at hA
 go_wp2_with fail
 refine Calls.mono (HRd.out _ _ (xm_of hm (Nat.le_refl _))) ?_
 rintro e x6 ⟨rfl, hb⟩
 replace hL0 := hL0.call hb
 replace ht := ht.below hb
 replace hm := hm.below hb
 replace hv := hv.below hb
 clear hb hA HRd
 skip
 replace hL0 := hL0.new rfl [.int .i64 0, .int .i64 0, .slice none 0 0] 56
 generalize hweq : x6.alloc (.cells #[.int .i64 0, .int .i64 0, .slice none 0 0] 56) = x7 at hL0
 have hb3 : Below x6.heap.size x6 x7 := by rw [← hweq]; exact (Below.refl _ _).alloc (Nat.le_refl _) _
 have hP := hL0.put 0 x6.heap.size _ rfl [.int .i64 0, .int .i64 0, .slice none 0 0] rfl
 obtain ⟨x8, hy⟩ : ∃ q, setAll x7 x6.heap.size 0 [.int .i64 0, .int .i64 0, .slice none 0 0] = q := ⟨_, rfl⟩
 have hb4 : Below x6.heap.size x6 x8 := hb3.trans (by rw [← hy]; exact (setAll_upd _ _ _ _).below (Nat.le_refl _))
 rw [hy] at hP
 simp only [setAll, Nat.zero_add, Nat.reduceAdd] at hy
 simp only [List.set_cons_zero] at hP
 have hA := hL0.fc
 simp only [fcG, cellsF, neK, and_true, ne_eq, Nat.zero_add, Nat.reduceAdd] at hA
 have hB := hP.fc
 simp only [fcG, cellsF, neK, and_true, ne_eq, Nat.zero_add, Nat.reduceAdd] at hB
 replace ht := ht.below hb4
 replace hm := hm.below hb4
 replace hv := hv.below hb4
 clear hb3 hb4
 replace hL0 := hP
 clear hP
 go_wp2_with fail
 refine Calls.mono (HRk.out _ _ (xm_of hm (Nat.le_refl _))) ?_
 rintro e x9 ⟨rfl, hb⟩
 replace hL0 := hL0.call hb
 replace ht := ht.below hb
 replace hm := hm.below hb
 replace hv := hv.below hb
 clear hb hA hB hweq hy HRk
 have hA := hL0.fc
 simp only [fcG, cellsF, neK, and_true, ne_eq, Nat.zero_add, Nat.reduceAdd] at hA
 go_wp2_with fail
 refine Calls.mono (HKe.out _ _ (xm_of hm (Nat.le_refl _))) ?_
 rintro e x10 ⟨rfl, hb⟩
 replace hL0 := hL0.call hb
 replace ht := ht.below hb
 replace hm := hm.below hb
 replace hv := hv.below hb
 clear hb hA HKe
 have hA := hL0.fc
 simp only [fcG, cellsF, neK, and_true, ne_eq, Nat.zero_add, Nat.reduceAdd] at hA
 go_wp2_with fail
 refine Calls.mono (HSo.out _ _ _ (xm_of hm (Nat.le_refl _)) hv) ?_
 rintro e x11 ⟨rfl, hb⟩
 replace hL0 := hL0.call hb
 replace ht := ht.below hb
 replace hm := hm.below hb
 replace hv := hv.below hb
 clear hb hA HSo
 replace hL0 := hL0.new rfl [.slice none 0 0, .slice none 0 0] 117
 generalize hweq : x11.alloc (.cells #[.slice none 0 0, .slice none 0 0] 117) = x12 at hL0
 have hb3 : Below x11.heap.size x11 x12 := by rw [← hweq]; exact (Below.refl _ _).alloc (Nat.le_refl _) _
 have hP := hL0.put 0 x11.heap.size _ rfl [.slice none 0 0, .slice none 0 0] rfl
 obtain ⟨x13, hy⟩ : ∃ q, setAll x12 x11.heap.size 0 [.slice none 0 0, .slice none 0 0] = q := ⟨_, rfl⟩
 have hb4 : Below x11.heap.size x11 x13 := hb3.trans (by rw [← hy]; exact (setAll_upd _ _ _ _).below (Nat.le_refl _))
 rw [hy] at hP
 simp only [setAll, Nat.zero_add, Nat.reduceAdd] at hy
 simp only [List.set_cons_zero] at hP
 have hA := hL0.fc
 simp only [fcG, cellsF, neK, and_true, ne_eq, Nat.zero_add, Nat.reduceAdd] at hA
 have hB := hP.fc
 simp only [fcG, cellsF, neK, and_true, ne_eq, Nat.zero_add, Nat.reduceAdd] at hB
 replace ht := ht.below hb4
 replace hm := hm.below hb4
 replace hv := hv.below hb4
 clear hb3 hb4
 replace hL0 := hP
 clear hP
 go_wp2_with fail
 refine Calls.mono (HAg.out _ _ _ (xm_of hm (Nat.le_refl _)) hv) ?_
 rintro e x14 ⟨rfl, hb⟩
 replace hL0 := hL0.call hb
 replace ht := ht.below hb
 replace hm := hm.below hb
 replace hv := hv.below hb
 clear hb hA hB hweq hy HAg
 have hA := hL0.fc
 simp only [fcG, cellsF, neK, and_true, ne_eq, Nat.zero_add, Nat.reduceAdd] at hA
 go_wp2_with fail
 refine Calls.mono (HIn.out _ _ (xm_of hm (Nat.le_refl _))) ?_
 rintro e x15 ⟨rfl, hb⟩
 replace hL0 := hL0.call hb
 replace ht := ht.below hb
 replace hm := hm.below hb
 replace hv := hv.below hb
 clear hb hA HIn
 replace hL0 := hL0.new rfl [.int .i64 0, .int .i64 0, .slice none 0 0] 56
 generalize hweq : x15.alloc (.cells #[.int .i64 0, .int .i64 0, .slice none 0 0] 56) = x16 at hL0
 have hb3 : Below x15.heap.size x15 x16 := by rw [← hweq]; exact (Below.refl _ _).alloc (Nat.le_refl _) _
 have hP := hL0.put 0 x15.heap.size _ rfl [.int .i64 0, .int .i64 0, .slice none 0 0] rfl
 obtain ⟨x17, hy⟩ : ∃ q, setAll x16 x15.heap.size 0 [.int .i64 0, .int .i64 0, .slice none 0 0] = q := ⟨_, rfl⟩
 have hb4 : Below x15.heap.size x15 x17 := hb3.trans (by rw [← hy]; exact (setAll_upd _ _ _ _).below (Nat.le_refl _))
 rw [hy] at hP
 simp only [setAll, Nat.zero_add, Nat.reduceAdd] at hy
 simp only [List.set_cons_zero] at hP
 have hA := hL0.fc
 simp only [fcG, cellsF, neK, and_true, ne_eq, Nat.zero_add, Nat.reduceAdd] at hA
 have hB := hP.fc
 simp only [fcG, cellsF, neK, and_true, ne_eq, Nat.zero_add, Nat.reduceAdd] at hB
 replace ht := ht.below hb4
 replace hm := hm.below hb4
 replace hv := hv.below hb4
 clear hb3 hb4
 replace hL0 := hP
 clear hP
 go_wp2_with fail
 refine Calls.mono (HDe.out _ _ (xm_of hm (Nat.le_refl _))) ?_
 rintro e x18 ⟨rfl, hb⟩
 replace hL0 := hL0.call hb
 replace ht := ht.below hb
 replace hm := hm.below hb
 replace hv := hv.below hb
 clear hb hA hB hweq hy HDe
 replace hL0 := hL0.new rfl [.int .u64 0, .string ⟨#[]⟩, .bool false, .int .u64 0, .string ⟨#[]⟩] 36
 generalize hweq : x18.alloc (.cells #[.int .u64 0, .string ⟨#[]⟩, .bool false, .int .u64 0, .string ⟨#[]⟩] 36) = x19 at hL0
 have hb3 : Below x18.heap.size x18 x19 := by rw [← hweq]; exact (Below.refl _ _).alloc (Nat.le_refl _) _
 have hP := hL0.put 0 x18.heap.size _ rfl [.int .u64 0, .string ⟨#[]⟩, .bool false, .int .u64 0, .string ⟨#[]⟩] rfl
 obtain ⟨x20, hy⟩ : ∃ q, setAll x19 x18.heap.size 0 [.int .u64 0, .string ⟨#[]⟩, .bool false, .int .u64 0, .string ⟨#[]⟩] = q := ⟨_, rfl⟩
 have hb4 : Below x18.heap.size x18 x20 := hb3.trans (by rw [← hy]; exact (setAll_upd _ _ _ _).below (Nat.le_refl _))
 rw [hy] at hP
 simp only [setAll, Nat.zero_add, Nat.reduceAdd] at hy
 simp only [List.set_cons_zero] at hP
 have hA := hL0.fc
 simp only [fcG, cellsF, neK, and_true, ne_eq, Nat.zero_add, Nat.reduceAdd] at hA
 have hB := hP.fc
 simp only [fcG, cellsF, neK, and_true, ne_eq, Nat.zero_add, Nat.reduceAdd] at hB
 replace ht := ht.below hb4
 replace hm := hm.below hb4
 replace hv := hv.below hb4
 clear hb3 hb4
 replace hL0 := hP
 clear hP
 go_upto_region 22 with fail
 clear hA hweq hy
 have hA := hB
 clear hB hv
 have hb3 : Below x20.heap.size x20 (x20.alloc (.cells (frCs (List.replicate 2049 0)).toArray 36)) := (Below.refl _ _).alloc (Nat.le_refl _) _
 have hv2 : SlQ (x20.alloc (.cells (frCs (List.replicate 2049 0)).toArray 36)) (.slice (some ⟨x20.heap.size, 0, none⟩) 2049 2049) (List.replicate 2049 0) := slq_new0 (hd_new x20 (frCs (List.replicate 2049 0)) _)
 have hmkz' := hmkz.out x20
 generalize hwzhmkz' : (x20.alloc (.cells (frCs (List.replicate 2049 0)).toArray 36)) = x21 at hb3 hv2
 rw [hwzhmkz'] at hmkz'
 replace hL0 := hL0.call hb3
 replace ht := ht.below hb3
 replace hm := hm.below hb3
 clear hb3 hwzhmkz'
 clear hA
 have hA := hL0.fc
 simp only [fcG, cellsF, neK, and_true, ne_eq, Nat.zero_add, Nat.reduceAdd] at hA
 go_wp2_with fail
 refine Calls.mono (HS2.out _ _ hv2) ?_
 rintro e x22 ⟨rfl, hb⟩
 replace hL0 := hL0.call hb
 replace ht := ht.below hb
 replace hm := hm.below hb
 replace hv2 := hv2.below hb
 clear hb hA hmkz' HS2
 replace hL0 := hL0.new rfl [.slice none 0 0, .slice none 0 0] 117
 generalize hweq : x22.alloc (.cells #[.slice none 0 0, .slice none 0 0] 117) = x23 at hL0
 have hb3 : Below x22.heap.size x22 x23 := by rw [← hweq]; exact (Below.refl _ _).alloc (Nat.le_refl _) _
 have hP := hL0.put 0 x22.heap.size _ rfl [.slice none 0 0, .slice none 0 0] rfl
 obtain ⟨x24, hy⟩ : ∃ q, setAll x23 x22.heap.size 0 [.slice none 0 0, .slice none 0 0] = q := ⟨_, rfl⟩
 have hb4 : Below x22.heap.size x22 x24 := hb3.trans (by rw [← hy]; exact (setAll_upd _ _ _ _).below (Nat.le_refl _))
 rw [hy] at hP
 simp only [setAll, Nat.zero_add, Nat.reduceAdd] at hy
 simp only [List.set_cons_zero] at hP
 have hA := hL0.fc
 simp only [fcG, cellsF, neK, and_true, ne_eq, Nat.zero_add, Nat.reduceAdd] at hA
 have hB := hP.fc
 simp only [fcG, cellsF, neK, and_true, ne_eq, Nat.zero_add, Nat.reduceAdd] at hB
 replace ht := ht.below hb4
 replace hm := hm.below hb4
 replace hv2 := hv2.below hb4
 clear hb3 hb4
 replace hL0 := hP
 clear hP
 go_upto_region 23 with fail
 clear hA hweq hy hv2
 have hA := hB
 clear hB
 have hb3 : Below x24.heap.size x24 (x24.alloc (.cells (frCs (List.replicate 2049 0)).toArray 36)) := (Below.refl _ _).alloc (Nat.le_refl _) _
 have hv3 : SlQ (x24.alloc (.cells (frCs (List.replicate 2049 0)).toArray 36)) (.slice (some ⟨x24.heap.size, 0, none⟩) 2049 2049) (List.replicate 2049 0) := slq_new0 (hd_new x24 (frCs (List.replicate 2049 0)) _)
 have hmky' := hmky.out x24
 generalize hwzhmky' : (x24.alloc (.cells (frCs (List.replicate 2049 0)).toArray 36)) = x25 at hb3 hv3
 rw [hwzhmky'] at hmky'
 replace hL0 := hL0.call hb3
 replace ht := ht.below hb3
 replace hm := hm.below hb3
 clear hb3 hwzhmky'
 clear hA
 have hA := hL0.fc
 simp only [fcG, cellsF, neK, and_true, ne_eq, Nat.zero_add, Nat.reduceAdd] at hA
 go_wp2_with fail
 refine Calls.mono (HA2.out _ _ hv3) ?_
 rintro e x26 ⟨rfl, hb⟩
 replace hL0 := hL0.call hb
 replace ht := ht.below hb
 replace hm := hm.below hb
 replace hv3 := hv3.below hb
 clear hb hA hmky' HA2
 have hA := hL0.fc
 simp only [fcG, cellsF, neK, and_true, ne_eq, Nat.zero_add, Nat.reduceAdd] at hA
 go_wp2_with fail
 refine Calls.mono (HMi.out _ _ (xm_of hm (Nat.le_refl _))) ?_
 rintro e x27 ⟨rfl, hb⟩
 replace hL0 := hL0.call hb
 replace ht := ht.below hb
 replace hm := hm.below hb
 replace hv3 := hv3.below hb
 clear hb hA HMi
 replace hL0 := hL0.new rfl [.int .u64 0, .string ⟨#[]⟩, .bool false, .int .u64 0, .string ⟨#[]⟩] 36
 generalize hweq : x27.alloc (.cells #[.int .u64 0, .string ⟨#[]⟩, .bool false, .int .u64 0, .string ⟨#[]⟩] 36) = x28 at hL0
 have hb3 : Below x27.heap.size x27 x28 := by rw [← hweq]; exact (Below.refl _ _).alloc (Nat.le_refl _) _
 have hP := hL0.put 0 x27.heap.size _ rfl [.int .u64 0, .string ⟨#[]⟩, .bool false, .int .u64 0, .string ⟨#[]⟩] rfl
 obtain ⟨x29, hy⟩ : ∃ q, setAll x28 x27.heap.size 0 [.int .u64 0, .string ⟨#[]⟩, .bool false, .int .u64 0, .string ⟨#[]⟩] = q := ⟨_, rfl⟩
 have hb4 : Below x27.heap.size x27 x29 := hb3.trans (by rw [← hy]; exact (setAll_upd _ _ _ _).below (Nat.le_refl _))
 rw [hy] at hP
 simp only [setAll, Nat.zero_add, Nat.reduceAdd] at hy
 simp only [List.set_cons_zero] at hP
 have hA := hL0.fc
 simp only [fcG, cellsF, neK, and_true, ne_eq, Nat.zero_add, Nat.reduceAdd] at hA
 have hB := hP.fc
 simp only [fcG, cellsF, neK, and_true, ne_eq, Nat.zero_add, Nat.reduceAdd] at hB
 replace ht := ht.below hb4
 replace hm := hm.below hb4
 replace hv3 := hv3.below hb4
 clear hb3 hb4
 replace hL0 := hP
 clear hP
 go_wp2_with fail
 refine Calls.mono (HW.out _ ht) ?_
 rintro e z9 ⟨rfl, hb⟩
 replace hL0 := hL0.call hb
 clear hb hA hB hweq hy HW
 go_wp2_with fail
 exact bodyPost_ret (v := .bool true) (by simp [results, Tryz.results14, go_sem]) rfl ⟨rfl, hL0.bl⟩
set_option maxHeartbeats 16000000 in
set_option maxRecDepth 100000 in
theorem eerr_big1 (r c zn zq : Int) (m q : Nat)
  (ezn : Int.tmod zn 40 = (m : Int))
  (m39 : (m : Int) ≤ 39)
  (ezq : Int.tmod zq 50 = (q : Int))
  (q49 : (q : Int) ≤ 49)
  (HW : ∀ w, Tab w → Calls Tryz.prog 49 #[] w fun e w' => e = .returned (.bool true) ∧ Below w.heap.size w w')
  (HCk : ∀ (p : Value) (w : World), XM w p r c m → Calls Tryz.prog 77 #[p] w fun e w' => e = .returned (.int .i64 0) ∧ Below w.heap.size w w')
  (hr : 40 < r)
  (w : World) (ht : Tab w) : Calls Tryz.prog 14 #[.int .i64 r, .int .i64 c, .int .u8 zn, .int .u8 zq] w fun e w' => e = .returned (.bool true) ∧ Below w.heap.size w w' := by
 have m0 : (0 : Int) ≤ (m : Int) := Int.natCast_nonneg _
 have q0 : (0 : Int) ≤ (q : Int) := Int.natCast_nonneg _
 have hmkm := Lib.hid fun W => makeM W (m : Int) m rfl (by omega)
 have hmkq := Lib.hid fun W => makeV W (q : Int) q rfl (by omega)
 replace HW := Lib.hid HW
 replace HCk := Lib.hid HCk
 have hL0 : GL w w [] := GL.start w
 have hb3 : Below w.heap.size w (w.alloc (.cells (frCs (List.replicate m 0)).toArray 36)) := (Below.refl _ _).alloc (Nat.le_refl _) _
 have hm : SlQ (w.alloc (.cells (frCs (List.replicate m 0)).toArray 36)) (.slice (some ⟨w.heap.size, 0, none⟩) m m) (List.replicate m 0) := slq_new0 (hd_new w (frCs (List.replicate m 0)) _)
 have hmkm' := hmkm.out w
 generalize hwzhmkm' : (w.alloc (.cells (frCs (List.replicate m 0)).toArray 36)) = x1 at hb3 hm
 rw [hwzhmkm'] at hmkm'
 replace hL0 := hL0.call hb3
 replace ht := ht.below hb3
 clear hb3 hwzhmkm'
 replace hL0 := hL0.new rfl [.int .i64 0, .int .i64 0, .slice none 0 0] 56
 generalize hweq : x1.alloc (.cells #[.int .i64 0, .int .i64 0, .slice none 0 0] 56) = x2 at hL0
 have hb3 : Below x1.heap.size x1 x2 := by rw [← hweq]; exact (Below.refl _ _).alloc (Nat.le_refl _) _
 have hP := hL0.put 0 x1.heap.size _ rfl [.int .i64 r, .int .i64 c, .slice (some ⟨w.heap.size, 0, none⟩) m m] rfl
 obtain ⟨x3, hy⟩ : ∃ q, setAll x2 x1.heap.size 0 [.int .i64 r, .int .i64 c, .slice (some ⟨w.heap.size, 0, none⟩) m m] = q := ⟨_, rfl⟩
 have hb4 : Below x1.heap.size x1 x3 := hb3.trans (by rw [← hy]; exact (setAll_upd _ _ _ _).below (Nat.le_refl _))
 rw [hy] at hP
 simp only [setAll, Nat.zero_add, Nat.reduceAdd] at hy
 simp only [List.set_cons_zero] at hP
 have hA := hL0.fc
 simp only [fcG, cellsF, neK, and_true, ne_eq, Nat.zero_add, Nat.reduceAdd] at hA
 have hB := hP.fc
 simp only [fcG, cellsF, neK, and_true, ne_eq, Nat.zero_add, Nat.reduceAdd] at hB
 replace ht := ht.below hb4
 replace hm := hm.below hb4
 clear hb3 hb4
 replace hL0 := hP
 clear hP
 go_enter Tryz.func14, Tryz.ntmps14
 go_upto_region 2 with fail
 clear hA hweq hy hmkm'
 have hA := hB
 clear hB
 have hb3 : Below x3.heap.size x3 (x3.alloc (.cells (frCs (List.replicate q 0)).toArray 36)) := (Below.refl _ _).alloc (Nat.le_refl _) _
 have hv : SlQ (x3.alloc (.cells (frCs (List.replicate q 0)).toArray 36)) (.slice (some ⟨x3.heap.size, 0, none⟩) q q) (List.replicate q 0) := slq_new0 (hd_new x3 (frCs (List.replicate q 0)) _)
 have hmkq' := hmkq.out x3
 generalize hwzhmkq' : (x3.alloc (.cells (frCs (List.replicate q 0)).toArray 36)) = x4 at hb3 hv
 rw [hwzhmkq'] at hmkq'
 replace hL0 := hL0.call hb3
 replace ht := ht.below hb3
 replace hm := hm.below hb3
 clear hb3 hwzhmkq'
 clear hA
 have hA := hL0.fc
 simp only [fcG, cellsF, neK, and_true, ne_eq, Nat.zero_add, Nat.reduceAdd] at hA
 go_wp2_with fail
 refine Calls.mono (HCk.out _ _ (xm_of hm (Nat.le_refl _))) ?_
 rintro e x5 ⟨rfl, hb⟩
 replace hL0 := hL0.call hb
 replace ht := ht.below hb
 replace hm := hm.below hb
 replace hv := hv.below hb
 clear hb hA hmkq' HCk
 have hA := hL0.fc
 simp only [fcG, cellsF, neK, and_true, ne_eq, Nat.zero_add, Nat.reduceAdd] at hA
 go_wp2_with fail
 refine Calls.mono (HW.out _ ht) ?_
 rintro e z9 ⟨rfl, hb⟩
 replace hL0 := hL0.call hb
 clear hb hA HW
 go_wp2_with fail
 exact bodyPost_ret (v := .bool true) (by simp [results, Tryz.results14, go_sem]) rfl ⟨rfl, hL0.bl⟩
set_option maxHeartbeats 16000000 in
set_option maxRecDepth 100000 in
theorem eerr_big2 (r c zn zq : Int) (m q : Nat)
  (ezn : Int.tmod zn 40 = (m : Int))
  (m39 : (m : Int) ≤ 39)
  (ezq : Int.tmod zq 50 = (q : Int))
  (q49 : (q : Int) ≤ 49)
  (HW : ∀ w, Tab w → Calls Tryz.prog 49 #[] w fun e w' => e = .returned (.bool true) ∧ Below w.heap.size w w')
  (HCk : ∀ (p : Value) (w : World), XM w p r c m → Calls Tryz.prog 77 #[p] w fun e w' => e = .returned (.int .i64 0) ∧ Below w.heap.size w w')
  (hr : ¬ 40 < r)
  (hc : 40 < c)
  (w : World) (ht : Tab w) : Calls Tryz.prog 14 #[.int .i64 r, .int .i64 c, .int .u8 zn, .int .u8 zq] w fun e w' => e = .returned (.bool true) ∧ Below w.heap.size w w' := by
 have m0 : (0 : Int) ≤ (m : Int) := Int.natCast_nonneg _
 have q0 : (0 : Int) ≤ (q : Int) := Int.natCast_nonneg _
 have hmkm := Lib.hid fun W => makeM W (m : Int) m rfl (by omega)
 have hmkq := Lib.hid fun W => makeV W (q : Int) q rfl (by omega)
 replace HW := Lib.hid HW
 replace HCk := Lib.hid HCk
 have hL0 : GL w w [] := GL.start w
 have hb3 : Below w.heap.size w (w.alloc (.cells (frCs (List.replicate m 0)).toArray 36)) := (Below.refl _ _).alloc (Nat.le_refl _) _
 have hm : SlQ (w.alloc (.cells (frCs (List.replicate m 0)).toArray 36)) (.slice (some ⟨w.heap.size, 0, none⟩) m m) (List.replicate m 0) := slq_new0 (hd_new w (frCs (List.replicate m 0)) _)
 have hmkm' := hmkm.out w
 generalize hwzhmkm' : (w.alloc (.cells (frCs (List.replicate m 0)).toArray 36)) = x1 at hb3 hm
 rw [hwzhmkm'] at hmkm'
 replace hL0 := hL0.call hb3
 replace ht := ht.below hb3
 clear hb3 hwzhmkm'
 replace hL0 := hL0.new rfl [.int .i64 0, .int .i64 0, .slice none 0 0] 56
 generalize hweq : x1.alloc (.cells #[.int .i64 0, .int .i64 0, .slice none 0 0] 56) = x2 at hL0
 have hb3 : Below x1.heap.size x1 x2 := by rw [← hweq]; exact (Below.refl _ _).alloc (Nat.le_refl _) _
 have hP := hL0.put 0 x1.heap.size _ rfl [.int .i64 r, .int .i64 c, .slice (some ⟨w.heap.size, 0, none⟩) m m] rfl
 obtain ⟨x3, hy⟩ : ∃ q, setAll x2 x1.heap.size 0 [.int .i64 r, .int .i64 c, .slice (some ⟨w.heap.size, 0, none⟩) m m] = q := ⟨_, rfl⟩
 have hb4 : Below x1.heap.size x1 x3 := hb3.trans (by rw [← hy]; exact (setAll_upd _ _ _ _).below (Nat.le_refl _))
 rw [hy] at hP
 simp only [setAll, Nat.zero_add, Nat.reduceAdd] at hy
 simp only [List.set_cons_zero] at hP
 have hA := hL0.fc
 simp only [fcG, cellsF, neK, and_true, ne_eq, Nat.zero_add, Nat.reduceAdd] at hA
 have hB := hP.fc
 simp only [fcG, cellsF, neK, and_true, ne_eq, Nat.zero_add, Nat.reduceAdd] at hB
 replace ht := ht.below hb4
 replace hm := hm.below hb4
 clear hb3 hb4
 replace hL0 := hP
 clear hP
 go_enter Tryz.func14, Tryz.ntmps14
 go_upto_region 2 with fail
 clear hA hweq hy hmkm'
 have hA := hB
 clear hB
 have hb3 : Below x3.heap.size x3 (x3.alloc (.cells (frCs (List.replicate q 0)).toArray 36)) := (Below.refl _ _).alloc (Nat.le_refl _) _
 have hv : SlQ (x3.alloc (.cells (frCs (List.replicate q 0)).toArray 36)) (.slice (some ⟨x3.heap.size, 0, none⟩) q q) (List.replicate q 0) := slq_new0 (hd_new x3 (frCs (List.replicate q 0)) _)
 have hmkq' := hmkq.out x3
 generalize hwzhmkq' : (x3.alloc (.cells (frCs (List.replicate q 0)).toArray 36)) = x4 at hb3 hv
 rw [hwzhmkq'] at hmkq'
 replace hL0 := hL0.call hb3
 replace ht := ht.below hb3
 replace hm := hm.below hb3
 clear hb3 hwzhmkq'
 clear hA
 have hA := hL0.fc
 simp only [fcG, cellsF, neK, and_true, ne_eq, Nat.zero_add, Nat.reduceAdd] at hA
 go_wp2_with fail
 refine Calls.mono (HCk.out _ _ (xm_of hm (Nat.le_refl _))) ?_
 rintro e x5 ⟨rfl, hb⟩
 replace hL0 := hL0.call hb
 replace ht := ht.below hb
 replace hm := hm.below hb
 replace hv := hv.below hb
 clear hb hA hmkq' HCk
 have hA := hL0.fc
 simp only [fcG, cellsF, neK, and_true, ne_eq, Nat.zero_add, Nat.reduceAdd] at hA
 go_wp2_with fail
 refine Calls.mono (HW.out _ ht) ?_
 rintro e z9 ⟨rfl, hb⟩
 replace hL0 := hL0.call hb
 clear hb hA HW
 go_wp2_with fail
 exact bodyPost_ret (v := .bool true) (by simp [results, Tryz.results14, go_sem]) rfl ⟨rfl, hL0.bl⟩
set_option maxHeartbeats 16000000 in
set_option maxRecDepth 100000 in
theorem eerr_oksq (r c zn zq : Int) (m q : Nat) (mq : Rat)
  (ezn : Int.tmod zn 40 = (m : Int))
  (m39 : (m : Int) ≤ 39)
  (ezq : Int.tmod zq 50 = (q : Int))
  (q49 : (q : Int) ≤ 49)
  (HW : ∀ w, Tab w → Calls Tryz.prog 49 #[] w fun e w' => e = .returned (.bool true) ∧ Below w.heap.size w w')
  (hr : ¬ 40 < r)
  (hc : ¬ 40 < c)
  (HCk : ∀ (p : Value) (w : World), XM w p r c m → Calls Tryz.prog 77 #[p] w fun e w' => e = .returned (.int .i64 0) ∧ Below w.heap.size w w')
  (HRd : ∀ (p : Value) (w : World), XM w p r c m → Calls Tryz.prog 50 #[p] w fun e w' => (∃ pv sv, e = .returned (.tuple #[pv, sv, .int .i64 0]) ∧ WS pv ∧ YS sv) ∧ Below w.heap.size w w')
  (HRk : ∀ (p : Value) (w : World), XM w p r c m → Calls Tryz.prog 53 #[p] w fun e w' => e = .returned (.tuple #[.int .i64 0, .int .i64 0]) ∧ Below w.heap.size w w')
  (HKe : ∀ (p : Value) (w : World), XM w p r c m → Calls Tryz.prog 65 #[p] w fun e w' => (∃ sv, e = .returned (.tuple #[sv, .int .i64 0]) ∧ YS sv) ∧ Below w.heap.size w w')
  (HSo : ∀ (p s : Value) (w : World), XM w p r c m → SlQ w s (List.replicate q 0) → Calls Tryz.prog 69 #[p, s] w fun e w' => e = .returned (.tuple #[.agg #[.slice none 0 0, .slice none 0 0], .int .i64 1]) ∧ Below w.heap.size w w')
  (HAg : ∀ (p s : Value) (w : World), XM w p r c m → SlQ w s (List.replicate q 0) → Calls Tryz.prog 70 #[p, s] w fun e w' => e = .returned (.tuple #[.slice none 0 0, .int .i64 1]) ∧ Below w.heap.size w w')
  (HIn : ∀ (p : Value) (w : World), XM w p r c m → Calls Tryz.prog 73 #[p] w fun e w' => e = .returned (.tuple #[.agg #[.int .i64 0, .int .i64 0, .slice none 0 0], .int .i64 1]) ∧ Below w.heap.size w w')
  (HDe : ∀ (p : Value) (w : World), XM w p r c m → Calls Tryz.prog 57 #[p] w fun e w' => e = .returned (.tuple #[.agg #[.int .u64 0, .string ⟨#[]⟩, .bool false, .int .u64 0, .string ⟨#[]⟩], .int .i64 1]) ∧ Below w.heap.size w w')
  (HS2 : ∀ (s : Value) (w : World), SlQ w s (List.replicate 2049 0) → Calls Tryz.prog 69 #[.agg #[.int .i64 0, .int .i64 0, .slice none 0 0], s] w fun e w' => e = .returned (.tuple #[.agg #[.slice none 0 0, .slice none 0 0], .int .i64 3]) ∧ Below w.heap.size w w')
  (HA2 : ∀ (s : Value) (w : World), SlQ w s (List.replicate 2049 0) → Calls Tryz.prog 70 #[.agg #[.int .i64 (-1), .int .i64 0, .slice none 0 0], s] w fun e w' => e = .returned (.tuple #[.slice none 0 0, .int .i64 1]) ∧ Below w.heap.size w w')
  (HMi : ∀ (p : Value) (w : World), XM w p r c m → Calls Tryz.prog 76 #[p, .int .i64 0] w fun e w' => e = .returned (.tuple #[.agg #[.int .u64 ((zl mq.num : Nat) : Int), .string (zh mq.num), .bool (zs mq.num), .int .u64 ((lo (fe mq) : Nat) : Int), .string (hs (fe mq))], .int .i64 0]) ∧ Below w.heap.size w w')
  (hsd : ((q : Int) != r) = true)
  (hse : ((q : Int) == r) = false)
  (hsq : (r != c) = true)
  (hsr : (r == c) = false)
  (w : World) (ht : Tab w) : Calls Tryz.prog 14 #[.int .i64 r, .int .i64 c, .int .u8 zn, .int .u8 zq] w fun e w' => e = .returned (.bool true) ∧ Below w.heap.size w w' := by
 have m0 : (0 : Int) ≤ (m : Int) := Int.natCast_nonneg _
 have q0 : (0 : Int) ≤ (q : Int) := Int.natCast_nonneg _
 have hmkm := Lib.hid fun W => makeM W (m : Int) m rfl (by omega)
 have hmkq := Lib.hid fun W => makeV W (q : Int) q rfl (by omega)
 have hmkz := Lib.hid fun W => makeV W 2049 2049 rfl (by omega)
 have hmky := Lib.hid fun W => makeV W 2049 2049 rfl (by omega)
 replace HW := Lib.hid HW
 replace HCk := Lib.hid HCk
 replace HRd := Lib.hid HRd
 replace HRk := Lib.hid HRk
 replace HKe := Lib.hid HKe
 replace HSo := Lib.hid HSo
 replace HAg := Lib.hid HAg
 replace HIn := Lib.hid HIn
 replace HDe := Lib.hid HDe
 replace HS2 := Lib.hid HS2
 replace HA2 := Lib.hid HA2
 replace HMi := Lib.hid HMi
 have hL0 : GL w w [] := GL.start w
 have hb3 : Below w.heap.size w (w.alloc (.cells (frCs (List.replicate m 0)).toArray 36)) := (Below.refl _ _).alloc (Nat.le_refl _) _
 have hm : SlQ (w.alloc (.cells (frCs (List.replicate m 0)).toArray 36)) (.slice (some ⟨w.heap.size, 0, none⟩) m m) (List.replicate m 0) := slq_new0 (hd_new w (frCs (List.replicate m 0)) _)
 have hmkm' := hmkm.out w
 generalize hwzhmkm' : (w.alloc (.cells (frCs (List.replicate m 0)).toArray 36)) = x1 at hb3 hm
 rw [hwzhmkm'] at hmkm'
 replace hL0 := hL0.call hb3
 replace ht := ht.below hb3
 clear hb3 hwzhmkm'
 replace hL0 := hL0.new rfl [.int .i64 0, .int .i64 0, .slice none 0 0] 56
 generalize hweq : x1.alloc (.cells #[.int .i64 0, .int .i64 0, .slice none 0 0] 56) = x2 at hL0
 have hb3 : Below x1.heap.size x1 x2 := by rw [← hweq]; exact (Below.refl _ _).alloc (Nat.le_refl _) _
 have hP := hL0.put 0 x1.heap.size _ rfl [.int .i64 r, .int .i64 c, .slice (some ⟨w.heap.size, 0, none⟩) m m] rfl
 obtain ⟨x3, hy⟩ : ∃ q, setAll x2 x1.heap.size 0 [.int .i64 r, .int .i64 c, .slice (some ⟨w.heap.size, 0, none⟩) m m] = q := ⟨_, rfl⟩
 have hb4 : Below x1.heap.size x1 x3 := hb3.trans (by rw [← hy]; exact (setAll_upd _ _ _ _).below (Nat.le_refl _))
 rw [hy] at hP
 simp only [setAll, Nat.zero_add, Nat.reduceAdd] at hy
 simp only [List.set_cons_zero] at hP
 have hA := hL0.fc
 simp only [fcG, cellsF, neK, and_true, ne_eq, Nat.zero_add, Nat.reduceAdd] at hA
 have hB := hP.fc
 simp only [fcG, cellsF, neK, and_true, ne_eq, Nat.zero_add, Nat.reduceAdd] at hB
 replace ht := ht.below hb4
 replace hm := hm.below hb4
 clear hb3 hb4
 replace hL0 := hP
 clear hP
 go_enter Tryz.func14, Tryz.ntmps14
 go_upto_region 2 with fail
 clear hA hweq hy hmkm'
 have hA := hB
 clear hB
 have hb3 : Below x3.heap.size x3 (x3.alloc (.cells (frCs (List.replicate q 0)).toArray 36)) := (Below.refl _ _).alloc (Nat.le_refl _) _
 have hv : SlQ (x3.alloc (.cells (frCs (List.replicate q 0)).toArray 36)) (.slice (some ⟨x3.heap.size, 0, none⟩) q q) (List.replicate q 0) := slq_new0 (hd_new x3 (frCs (List.replicate q 0)) _)
 have hmkq' := hmkq.out x3
 generalize hwzhmkq' : (x3.alloc (.cells (frCs (List.replicate q 0)).toArray 36)) = x4 at hb3 hv
 rw [hwzhmkq'] at hmkq'
 replace hL0 := hL0.call hb3
 replace ht := ht.below hb3
 replace hm := hm.below hb3
 clear hb3 hwzhmkq'
 clear hA
 have hA := hL0.fc
 simp only [fcG, cellsF, neK, and_true, ne_eq, Nat.zero_add, Nat.reduceAdd] at hA
 go_wp2_with fail
 refine Calls.mono (HCk.out _ _ (xm_of hm (Nat.le_refl _))) ?_
 rintro e x5 ⟨rfl, hb⟩
 replace hL0 := hL0.call hb
 replace ht := ht.below hb
 replace hm := hm.below hb
 replace hv := hv.below hb
 clear hb hA hmkq' HCk
 have hA := hL0.fc
 simp only [fcG, cellsF, neK, and_true, ne_eq, Nat.zero_add, Nat.reduceAdd] at hA
 go_wp2_with fail
 refine Calls.mono (HRd.out _ _ (xm_of hm (Nat.le_refl _))) ?_
 rintro e x6 ⟨⟨pv, sv, rfl, hws, hys⟩, hb⟩
 replace hL0 := hL0.call hb
 replace ht := ht.below hb
 replace hm := hm.below hb
 replace hv := hv.below hb
 clear hb hA HRd
 obtain ⟨ra, rb, rg, rd, rf, rfl⟩ := hws
 obtain ⟨sg, sd, sf, rfl⟩ := hys
 replace hL0 := hL0.new rfl [.int .i64 0, .int .i64 0, .slice none 0 0] 56
 generalize hweq : x6.alloc (.cells #[.int .i64 0, .int .i64 0, .slice none 0 0] 56) = x7 at hL0
 have hb3 : Below x6.heap.size x6 x7 := by rw [← hweq]; exact (Below.refl _ _).alloc (Nat.le_refl _) _
 have hP := hL0.put 0 x6.heap.size _ rfl [.int .i64 ra, .int .i64 rb, .slice rg rd rf] rfl
 obtain ⟨x8, hy⟩ : ∃ q, setAll x7 x6.heap.size 0 [.int .i64 ra, .int .i64 rb, .slice rg rd rf] = q := ⟨_, rfl⟩
 have hb4 : Below x6.heap.size x6 x8 := hb3.trans (by rw [← hy]; exact (setAll_upd _ _ _ _).below (Nat.le_refl _))
 rw [hy] at hP
 simp only [setAll, Nat.zero_add, Nat.reduceAdd] at hy
 simp only [List.set_cons_zero] at hP
 have hA := hL0.fc
 simp only [fcG, cellsF, neK, and_true, ne_eq, Nat.zero_add, Nat.reduceAdd] at hA
 have hB := hP.fc
 simp only [fcG, cellsF, neK, and_true, ne_eq, Nat.zero_add, Nat.reduceAdd] at hB
 replace ht := ht.below hb4
 replace hm := hm.below hb4
 replace hv := hv.below hb4
 clear hb3 hb4
 replace hL0 := hP
 clear hP
 go_wp2_with fail
 refine Calls.mono (HRk.out _ _ (xm_of hm (Nat.le_refl _))) ?_
 rintro e x9 ⟨rfl, hb⟩
 replace hL0 := hL0.call hb
 replace ht := ht.below hb
 replace hm := hm.below hb
 replace hv := hv.below hb
 clear hb hA hB hweq hy HRk
 have hA := hL0.fc
 simp only [fcG, cellsF, neK, and_true, ne_eq, Nat.zero_add, Nat.reduceAdd] at hA
 go_wp2_with fail
 refine Calls.mono (HKe.out _ _ (xm_of hm (Nat.le_refl _))) ?_
 rintro e x10 ⟨⟨sv, rfl, hys⟩, hb⟩
 replace hL0 := hL0.call hb
 replace ht := ht.below hb
 replace hm := hm.below hb
 replace hv := hv.below hb
 clear hb hA HKe
 obtain ⟨kg, kd, kf, rfl⟩ := hys
 have hA := hL0.fc
 simp only [fcG, cellsF, neK, and_true, ne_eq, Nat.zero_add, Nat.reduceAdd] at hA
 go_wp2_with fail
 refine Calls.mono (HSo.out _ _ _ (xm_of hm (Nat.le_refl _)) hv) ?_
 rintro e x11 ⟨rfl, hb⟩
 replace hL0 := hL0.call hb
 replace ht := ht.below hb
 replace hm := hm.below hb
 replace hv := hv.below hb
 clear hb hA HSo
 replace hL0 := hL0.new rfl [.slice none 0 0, .slice none 0 0] 117
 generalize hweq : x11.alloc (.cells #[.slice none 0 0, .slice none 0 0] 117) = x12 at hL0
 have hb3 : Below x11.heap.size x11 x12 := by rw [← hweq]; exact (Below.refl _ _).alloc (Nat.le_refl _) _
 have hP := hL0.put 0 x11.heap.size _ rfl [.slice none 0 0, .slice none 0 0] rfl
 obtain ⟨x13, hy⟩ : ∃ q, setAll x12 x11.heap.size 0 [.slice none 0 0, .slice none 0 0] = q := ⟨_, rfl⟩
 have hb4 : Below x11.heap.size x11 x13 := hb3.trans (by rw [← hy]; exact (setAll_upd _ _ _ _).below (Nat.le_refl _))
 rw [hy] at hP
 simp only [setAll, Nat.zero_add, Nat.reduceAdd] at hy
 simp only [List.set_cons_zero] at hP
 have hA := hL0.fc
 simp only [fcG, cellsF, neK, and_true, ne_eq, Nat.zero_add, Nat.reduceAdd] at hA
 have hB := hP.fc
 simp only [fcG, cellsF, neK, and_true, ne_eq, Nat.zero_add, Nat.reduceAdd] at hB
 replace ht := ht.below hb4
 replace hm := hm.below hb4
 replace hv := hv.below hb4
 clear hb3 hb4
 replace hL0 := hP
 clear hP
 go_wp2_with fail
 refine Calls.mono (HAg.out _ _ _ (xm_of hm (Nat.le_refl _)) hv) ?_
 rintro e x14 ⟨rfl, hb⟩
 replace hL0 := hL0.call hb
 replace ht := ht.below hb
 replace hm := hm.below hb
 replace hv := hv.below hb
 clear hb hA hB hweq hy HAg
 have hA := hL0.fc
 simp only [fcG, cellsF, neK, and_true, ne_eq, Nat.zero_add, Nat.reduceAdd] at hA
 go_wp2_with fail
 refine Calls.mono (HIn.out _ _ (xm_of hm (Nat.le_refl _))) ?_
 rintro e x15 ⟨rfl, hb⟩
 replace hL0 := hL0.call hb
 replace ht := ht.below hb
 replace hm := hm.below hb
 replace hv := hv.below hb
 clear hb hA HIn
 replace hL0 := hL0.new rfl [.int .i64 0, .int .i64 0, .slice none 0 0] 56
 generalize hweq : x15.alloc (.cells #[.int .i64 0, .int .i64 0, .slice none 0 0] 56) = x16 at hL0
 have hb3 : Below x15.heap.size x15 x16 := by rw [← hweq]; exact (Below.refl _ _).alloc (Nat.le_refl _) _
 have hP := hL0.put 0 x15.heap.size _ rfl [.int .i64 0, .int .i64 0, .slice none 0 0] rfl
 obtain ⟨x17, hy⟩ : ∃ q, setAll x16 x15.heap.size 0 [.int .i64 0, .int .i64 0, .slice none 0 0] = q := ⟨_, rfl⟩
 have hb4 : Below x15.heap.size x15 x17 := hb3.trans (by rw [← hy]; exact (setAll_upd _ _ _ _).below (Nat.le_refl _))
 rw [hy] at hP
 simp only [setAll, Nat.zero_add, Nat.reduceAdd] at hy
 simp only [List.set_cons_zero] at hP
 have hA := hL0.fc
 simp only [fcG, cellsF, neK, and_true, ne_eq, Nat.zero_add, Nat.reduceAdd] at hA
 have hB := hP.fc
 simp only [fcG, cellsF, neK, and_true, ne_eq, Nat.zero_add, Nat.reduceAdd] at hB
 replace ht := ht.below hb4
 replace hm := hm.below hb4
 replace hv := hv.below hb4
 clear hb3 hb4
 replace hL0 := hP
 clear hP
 go_wp2_with fail
 refine Calls.mono (HDe.out _ _ (xm_of hm (Nat.le_refl _))) ?_
 rintro e x18 ⟨rfl, hb⟩
 replace hL0 := hL0.call hb
 replace ht := ht.below hb
 replace hm := hm.below hb
 replace hv := hv.below hb
 clear hb hA hB hweq hy HDe
 replace hL0 := hL0.new rfl [.int .u64 0, .string ⟨#[]⟩, .bool false, .int .u64 0, .string ⟨#[]⟩] 36
 generalize hweq : x18.alloc (.cells #[.int .u64 0, .string ⟨#[]⟩, .bool false, .int .u64 0, .string ⟨#[]⟩] 36) = x19 at hL0
 have hb3 : Below x18.heap.size x18 x19 := by rw [← hweq]; exact (Below.refl _ _).alloc (Nat.le_refl _) _
 have hP := hL0.put 0 x18.heap.size _ rfl [.int .u64 0, .string ⟨#[]⟩, .bool false, .int .u64 0, .string ⟨#[]⟩] rfl
 obtain ⟨x20, hy⟩ : ∃ q, setAll x19 x18.heap.size 0 [.int .u64 0, .string ⟨#[]⟩, .bool false, .int .u64 0, .string ⟨#[]⟩] = q := ⟨_, rfl⟩
 have hb4 : Below x18.heap.size x18 x20 := hb3.trans (by rw [← hy]; exact (setAll_upd _ _ _ _).below (Nat.le_refl _))
 rw [hy] at hP
 simp only [setAll, Nat.zero_add, Nat.reduceAdd] at hy
 simp only [List.set_cons_zero] at hP
 have hA := hL0.fc
 simp only [fcG, cellsF, neK, and_true, ne_eq, Nat.zero_add, Nat.reduceAdd] at hA
 have hB := hP.fc
 simp only [fcG, cellsF, neK, and_true, ne_eq, Nat.zero_add, Nat.reduceAdd] at hB
 replace ht := ht.below hb4
 replace hm := hm.below hb4
 replace hv := hv.below hb4
 clear hb3 hb4
 replace hL0 := hP
 clear hP
 go_upto_region 22 with fail
 clear hA hweq hy
 have hA := hB
 clear hB hv
 have hb3 : Below x20.heap.size x20 (x20.alloc (.cells (frCs (List.replicate 2049 0)).toArray 36)) := (Below.refl _ _).alloc (Nat.le_refl _) _
 have hv2 : SlQ (x20.alloc (.cells (frCs (List.replicate 2049 0)).toArray 36)) (.slice (some ⟨x20.heap.size, 0, none⟩) 2049 2049) (List.replicate 2049 0) := slq_new0 (hd_new x20 (frCs (List.replicate 2049 0)) _)
 have hmkz' := hmkz.out x20
 generalize hwzhmkz' : (x20.alloc (.cells (frCs (List.replicate 2049 0)).toArray 36)) = x21 at hb3 hv2
 rw [hwzhmkz'] at hmkz'
 replace hL0 := hL0.call hb3
 replace ht := ht.below hb3
 replace hm := hm.below hb3
 clear hb3 hwzhmkz'
 clear hA
 have hA := hL0.fc
 simp only [fcG, cellsF, neK, and_true, ne_eq, Nat.zero_add, Nat.reduceAdd] at hA
 go_wp2_with fail
 refine Calls.mono (HS2.out _ _ hv2) ?_
 rintro e x22 ⟨rfl, hb⟩
 replace hL0 := hL0.call hb
 replace ht := ht.below hb
 replace hm := hm.below hb
 replace hv2 := hv2.below hb
 clear hb hA hmkz' HS2
 replace hL0 := hL0.new rfl [.slice none 0 0, .slice none 0 0] 117
 generalize hweq : x22.alloc (.cells #[.slice none 0 0, .slice none 0 0] 117) = x23 at hL0
 have hb3 : Below x22.heap.size x22 x23 := by rw [← hweq]; exact (Below.refl _ _).alloc (Nat.le_refl _) _
 have hP := hL0.put 0 x22.heap.size _ rfl [.slice none 0 0, .slice none 0 0] rfl
 obtain ⟨x24, hy⟩ : ∃ q, setAll x23 x22.heap.size 0 [.slice none 0 0, .slice none 0 0] = q := ⟨_, rfl⟩
 have hb4 : Below x22.heap.size x22 x24 := hb3.trans (by rw [← hy]; exact (setAll_upd _ _ _ _).below (Nat.le_refl _))
 rw [hy] at hP
 simp only [setAll, Nat.zero_add, Nat.reduceAdd] at hy
 simp only [List.set_cons_zero] at hP
 have hA := hL0.fc
 simp only [fcG, cellsF, neK, and_true, ne_eq, Nat.zero_add, Nat.reduceAdd] at hA
 have hB := hP.fc
 simp only [fcG, cellsF, neK, and_true, ne_eq, Nat.zero_add, Nat.reduceAdd] at hB
 replace ht := ht.below hb4
 replace hm := hm.below hb4
 replace hv2 := hv2.below hb4
 clear hb3 hb4
 replace hL0 := hP
 clear hP
 go_upto_region 23 with fail
 clear hA hweq hy hv2
 have hA := hB
 clear hB
 have hb3 : Below x24.heap.size x24 (x24.alloc (.cells (frCs (List.replicate 2049 0)).toArray 36)) := (Below.refl _ _).alloc (Nat.le_refl _) _
 have hv3 : SlQ (x24.alloc (.cells (frCs (List.replicate 2049 0)).toArray 36)) (.slice (some ⟨x24.heap.size, 0, none⟩) 2049 2049) (List.replicate 2049 0) := slq_new0 (hd_new x24 (frCs (List.replicate 2049 0)) _)
 have hmky' := hmky.out x24
 generalize hwzhmky' : (x24.alloc (.cells (frCs (List.replicate 2049 0)).toArray 36)) = x25 at hb3 hv3
 rw [hwzhmky'] at hmky'
 replace hL0 := hL0.call hb3
 replace ht := ht.below hb3
 replace hm := hm.below hb3
 clear hb3 hwzhmky'
 clear hA
 have hA := hL0.fc
 simp only [fcG, cellsF, neK, and_true, ne_eq, Nat.zero_add, Nat.reduceAdd] at hA
 go_wp2_with fail
 refine Calls.mono (HA2.out _ _ hv3) ?_
 rintro e x26 ⟨rfl, hb⟩
 replace hL0 := hL0.call hb
 replace ht := ht.below hb
 replace hm := hm.below hb
 replace hv3 := hv3.below hb
 clear hb hA hmky' HA2
 have hA := hL0.fc
 simp only [fcG, cellsF, neK, and_true, ne_eq, Nat.zero_add, Nat.reduceAdd] at hA
 go_wp2_with fail
 refine Calls.mono (HMi.out _ _ (xm_of hm (Nat.le_refl _))) ?_
 rintro e x27 ⟨rfl, hb⟩
 replace hL0 := hL0.call hb
 replace ht := ht.below hb
 replace hm := hm.below hb
 replace hv3 := hv3.below hb
 clear hb hA HMi
 replace hL0 := hL0.new rfl [.int .u64 0, .string ⟨#[]⟩, .bool false, .int .u64 0, .string ⟨#[]⟩] 36
 generalize hweq : x27.alloc (.cells #[.int .u64 0, .string ⟨#[]⟩, .bool false, .int .u64 0, .string ⟨#[]⟩] 36) = x28 at hL0
 have hb3 : Below x27.heap.size x27 x28 := by rw [← hweq]; exact (Below.refl _ _).alloc (Nat.le_refl _) _
 have hP := hL0.put 0 x27.heap.size _ rfl [.int .u64 ((zl mq.num : Nat) : Int), .string (zh mq.num), .bool (zs mq.num), .int .u64 ((lo (fe mq) : Nat) : Int), .string (hs (fe mq))] rfl
 obtain ⟨x29, hy⟩ : ∃ q, setAll x28 x27.heap.size 0 [.int .u64 ((zl mq.num : Nat) : Int), .string (zh mq.num), .bool (zs mq.num), .int .u64 ((lo (fe mq) : Nat) : Int), .string (hs (fe mq))] = q := ⟨_, rfl⟩
 have hb4 : Below x27.heap.size x27 x29 := hb3.trans (by rw [← hy]; exact (setAll_upd _ _ _ _).below (Nat.le_refl _))
 rw [hy] at hP
 simp only [setAll, Nat.zero_add, Nat.reduceAdd] at hy
 simp only [List.set_cons_zero] at hP
 have hA := hL0.fc
 simp only [fcG, cellsF, neK, and_true, ne_eq, Nat.zero_add, Nat.reduceAdd] at hA
 have hB := hP.fc
 simp only [fcG, cellsF, neK, and_true, ne_eq, Nat.zero_add, Nat.reduceAdd] at hB
 replace ht := ht.below hb4
 replace hm := hm.below hb4
 replace hv3 := hv3.below hb4
 clear hb3 hb4
 replace hL0 := hP
 clear hP
 go_wp2_with fail
 refine Calls.mono (HW.out _ ht) ?_
 rintro e z9 ⟨rfl, hb⟩
 replace hL0 := hL0.call hb
 clear hb hA hB hweq hy HW
 go_wp2_with fail
 exact bodyPost_ret (v := .bool true) (by simp [results, Tryz.results14, go_sem]) rfl ⟨rfl, hL0.bl⟩
set_option maxHeartbeats 16000000 in
set_option maxRecDepth 100000 in
theorem eerr_oksn (r c zn zq : Int) (m q : Nat) (dq mq : Rat)
  (ezn : Int.tmod zn 40 = (m : Int))
  (m39 : (m : Int) ≤ 39)
  (ezq : Int.tmod zq 50 = (q : Int))
  (q49 : (q : Int) ≤ 49)
  (HW : ∀ w, Tab w → Calls Tryz.prog 49 #[] w fun e w' => e = .returned (.bool true) ∧ Below w.heap.size w w')
  (hr : ¬ 40 < r)
  (hc : ¬ 40 < c)
  (HCk : ∀ (p : Value) (w : World), XM w p r c m → Calls Tryz.prog 77 #[p] w fun e w' => e = .returned (.int .i64 0) ∧ Below w.heap.size w w')
  (HRd : ∀ (p : Value) (w : World), XM w p r c m → Calls Tryz.prog 50 #[p] w fun e w' => (∃ pv sv, e = .returned (.tuple #[pv, sv, .int .i64 0]) ∧ WS pv ∧ YS sv) ∧ Below w.heap.size w w')
  (HRk : ∀ (p : Value) (w : World), XM w p r c m → Calls Tryz.prog 53 #[p] w fun e w' => e = .returned (.tuple #[.int .i64 0, .int .i64 0]) ∧ Below w.heap.size w w')
  (HKe : ∀ (p : Value) (w : World), XM w p r c m → Calls Tryz.prog 65 #[p] w fun e w' => (∃ sv, e = .returned (.tuple #[sv, .int .i64 0]) ∧ YS sv) ∧ Below w.heap.size w w')
  (HSo : ∀ (p s : Value) (w : World), XM w p r c m → SlQ w s (List.replicate q 0) → Calls Tryz.prog 69 #[p, s] w fun e w' => e = .returned (.tuple #[.agg #[.slice none 0 0, .slice none 0 0], .int .i64 1]) ∧ Below w.heap.size w w')
  (HAg : ∀ (p s : Value) (w : World), XM w p r c m → SlQ w s (List.replicate q 0) → Calls Tryz.prog 70 #[p, s] w fun e w' => e = .returned (.tuple #[.slice none 0 0, .int .i64 1]) ∧ Below w.heap.size w w')
  (HIn : ∀ (p : Value) (w : World), XM w p r c m → Calls Tryz.prog 73 #[p] w fun e w' => (∃ pv ei, e = .returned (.tuple #[pv, .int .i64 ei]) ∧ WS pv) ∧ Below w.heap.size w w')
  (HDe : ∀ (p : Value) (w : World), XM w p r c m → Calls Tryz.prog 57 #[p] w fun e w' => e = .returned (.tuple #[.agg #[.int .u64 ((zl dq.num : Nat) : Int), .string (zh dq.num), .bool (zs dq.num), .int .u64 ((lo (fe dq) : Nat) : Int), .string (hs (fe dq))], .int .i64 0]) ∧ Below w.heap.size w w')
  (HS2 : ∀ (s : Value) (w : World), SlQ w s (List.replicate 2049 0) → Calls Tryz.prog 69 #[.agg #[.int .i64 0, .int .i64 0, .slice none 0 0], s] w fun e w' => e = .returned (.tuple #[.agg #[.slice none 0 0, .slice none 0 0], .int .i64 3]) ∧ Below w.heap.size w w')
  (HA2 : ∀ (s : Value) (w : World), SlQ w s (List.replicate 2049 0) → Calls Tryz.prog 70 #[.agg #[.int .i64 (-1), .int .i64 0, .slice none 0 0], s] w fun e w' => e = .returned (.tuple #[.slice none 0 0, .int .i64 1]) ∧ Below w.heap.size w w')
  (HMi : ∀ (p : Value) (w : World), XM w p r c m → Calls Tryz.prog 76 #[p, .int .i64 0] w fun e w' => e = .returned (.tuple #[.agg #[.int .u64 ((zl mq.num : Nat) : Int), .string (zh mq.num), .bool (zs mq.num), .int .u64 ((lo (fe mq) : Nat) : Int), .string (hs (fe mq))], .int .i64 0]) ∧ Below w.heap.size w w')
  (hsd : ((q : Int) != r) = true)
  (hse : ((q : Int) == r) = false)
  (hsq : (r != c) = false)
  (hsr : (r == c) = true)
  (w : World) (ht : Tab w) : Calls Tryz.prog 14 #[.int .i64 r, .int .i64 c, .int .u8 zn, .int .u8 zq] w fun e w' => e = .returned (.bool true) ∧ Below w.heap.size w w' := by
 have m0 : (0 : Int) ≤ (m : Int) := Int.natCast_nonneg _
 have q0 : (0 : Int) ≤ (q : Int) := Int.natCast_nonneg _
 have hmkm := Lib.hid fun W => makeM W (m : Int) m rfl (by omega)
 have hmkq := Lib.hid fun W => makeV W (q : Int) q rfl (by omega)
 have hmkz := Lib.hid fun W => makeV W 2049 2049 rfl (by omega)
 have hmky := Lib.hid fun W => makeV W 2049 2049 rfl (by omega)
 replace HW := Lib.hid HW
 replace HCk := Lib.hid HCk
 replace HRd := Lib.hid HRd
 replace HRk := Lib.hid HRk
 replace HKe := Lib.hid HKe
 replace HSo := Lib.hid HSo
 replace HAg := Lib.hid HAg
 replace HIn := Lib.hid HIn
 replace HDe := Lib.hid HDe
 replace HS2 := Lib.hid HS2
 replace HA2 := Lib.hid HA2
 replace HMi := Lib.hid HMi
 have hL0 : GL w w [] := GL.start w
 have hb3 : Below w.heap.size w (w.alloc (.cells (frCs (List.replicate m 0)).toArray 36)) := (Below.refl _ _).alloc (Nat.le_refl _) _
 have hm : SlQ (w.alloc (.cells (frCs (List.replicate m 0)).toArray 36)) (.slice (some ⟨w.heap.size, 0, none⟩) m m) (List.replicate m 0) := slq_new0 (hd_new w (frCs (List.replicate m 0)) _)
 have hmkm' := hmkm.out w
 generalize hwzhmkm' : (w.alloc (.cells (frCs (List.replicate m 0)).toArray 36)) = x1 at hb3 hm
 rw [hwzhmkm'] at hmkm'
 replace hL0 := hL0.call hb3
 replace ht := ht.below hb3
 clear hb3 hwzhmkm'
 replace hL0 := hL0.new rfl [.int .i64 0, .int .i64 0, .slice none 0 0] 56
 generalize hweq : x1.alloc (.cells #[.int .i64 0, .int .i64 0, .slice none 0 0] 56) = x2 at hL0
 have hb3 : Below x1.heap.size x1 x2 := by rw [← hweq]; exact (Below.refl _ _).alloc (Nat.le_refl _) _
 have hP := hL0.put 0 x1.heap.size _ rfl [.int .i64 r, .int .i64 c, .slice (some ⟨w.heap.size, 0, none⟩) m m] rfl
 obtain ⟨x3, hy⟩ : ∃ q, setAll x2 x1.heap.size 0 [.int .i64 r, .int .i64 c, .slice (some ⟨w.heap.size, 0, none⟩) m m] = q := ⟨_, rfl⟩
 have hb4 : Below x1.heap.size x1 x3 := hb3.trans (by rw [← hy]; exact (setAll_upd _ _ _ _).below (Nat.le_refl _))
 rw [hy] at hP
 simp only [setAll, Nat.zero_add, Nat.reduceAdd] at hy
 simp only [List.set_cons_zero] at hP
 have hA := hL0.fc
 simp only [fcG, cellsF, neK, and_true, ne_eq, Nat.zero_add, Nat.reduceAdd] at hA
 have hB := hP.fc
 simp only [fcG, cellsF, neK, and_true, ne_eq, Nat.zero_add, Nat.reduceAdd] at hB
 replace ht := ht.below hb4
 replace hm := hm.below hb4
 clear hb3 hb4
 replace hL0 := hP
 clear hP
 go_enter Tryz.func14, Tryz.ntmps14
 go_upto_region 2 with fail
 clear hA hweq hy hmkm'
 have hA := hB
 clear hB
 have hb3 : Below x3.heap.size x3 (x3.alloc (.cells (frCs (List.replicate q 0)).toArray 36)) := (Below.refl _ _).alloc (Nat.le_refl _) _
 have hv : SlQ (x3.alloc (.cells (frCs (List.replicate q 0)).toArray 36)) (.slice (some ⟨x3.heap.size, 0, none⟩) q q) (List.replicate q 0) := slq_new0 (hd_new x3 (frCs (List.replicate q 0)) _)
 have hmkq' := hmkq.out x3
 generalize hwzhmkq' : (x3.alloc (.cells (frCs (List.replicate q 0)).toArray 36)) = x4 at hb3 hv
 rw [hwzhmkq'] at hmkq'
 replace hL0 := hL0.call hb3
 replace ht := ht.below hb3
 replace hm := hm.below hb3
 clear hb3 hwzhmkq'
 clear hA
 have hA := hL0.fc
 simp only [fcG, cellsF, neK, and_true, ne_eq, Nat.zero_add, Nat.reduceAdd] at hA
 go_wp2_with fail
 refine Calls.mono (HCk.out _ _ (xm_of hm (Nat.le_refl _))) ?_
 rintro e x5 ⟨rfl, hb⟩
 replace hL0 := hL0.call hb
 replace ht := ht.below hb
 replace hm := hm.below hb
 replace hv := hv.below hb
 clear hb hA hmkq' HCk
 have hA := hL0.fc
 simp only [fcG, cellsF, neK, and_true, ne_eq, Nat.zero_add, Nat.reduceAdd] at hA
 go_wp2_with fail
 refine Calls.mono (HRd.out _ _ (xm_of hm (Nat.le_refl _))) ?_
 rintro e x6 ⟨⟨pv, sv, rfl, hws, hys⟩, hb⟩
 replace hL0 := hL0.call hb
 replace ht := ht.below hb
 replace hm := hm.below hb
 replace hv := hv.below hb
 clear hb hA HRd
 obtain ⟨ra, rb, rg, rd, rf, rfl⟩ := hws
 obtain ⟨sg, sd, sf, rfl⟩ := hys
 replace hL0 := hL0.new rfl [.int .i64 0, .int .i64 0, .slice none 0 0] 56
 generalize hweq : x6.alloc (.cells #[.int .i64 0, .int .i64 0, .slice none 0 0] 56) = x7 at hL0
 have hb3 : Below x6.heap.size x6 x7 := by rw [← hweq]; exact (Below.refl _ _).alloc (Nat.le_refl _) _
 have hP := hL0.put 0 x6.heap.size _ rfl [.int .i64 ra, .int .i64 rb, .slice rg rd rf] rfl
 obtain ⟨x8, hy⟩ : ∃ q, setAll x7 x6.heap.size 0 [.int .i64 ra, .int .i64 rb, .slice rg rd rf] = q := ⟨_, rfl⟩
 have hb4 : Below x6.heap.size x6 x8 := hb3.trans (by rw [← hy]; exact (setAll_upd _ _ _ _).below (Nat.le_refl _))
 rw [hy] at hP
 simp only [setAll, Nat.zero_add, Nat.reduceAdd] at hy
 simp only [List.set_cons_zero] at hP
 have hA := hL0.fc
 simp only [fcG, cellsF, neK, and_true, ne_eq, Nat.zero_add, Nat.reduceAdd] at hA
 have hB := hP.fc
 simp only [fcG, cellsF, neK, and_true, ne_eq, Nat.zero_add, Nat.reduceAdd] at hB
 replace ht := ht.below hb4
 replace hm := hm.below hb4
 replace hv := hv.below hb4
 clear hb3 hb4
 replace hL0 := hP
 clear hP
 go_wp2_with fail
 refine Calls.mono (HRk.out _ _ (xm_of hm (Nat.le_refl _))) ?_
 rintro e x9 ⟨rfl, hb⟩
 replace hL0 := hL0.call hb
 replace ht := ht.below hb
 replace hm := hm.below hb
 replace hv := hv.below hb
 clear hb hA hB hweq hy HRk
 have hA := hL0.fc
 simp only [fcG, cellsF, neK, and_true, ne_eq, Nat.zero_add, Nat.reduceAdd] at hA
 go_wp2_with fail
 refine Calls.mono (HKe.out _ _ (xm_of hm (Nat.le_refl _))) ?_
 rintro e x10 ⟨⟨sv, rfl, hys⟩, hb⟩
 replace hL0 := hL0.call hb
 replace ht := ht.below hb
 replace hm := hm.below hb
 replace hv := hv.below hb
 clear hb hA HKe
 obtain ⟨kg, kd, kf, rfl⟩ := hys
 have hA := hL0.fc
 simp only [fcG, cellsF, neK, and_true, ne_eq, Nat.zero_add, Nat.reduceAdd] at hA
 go_wp2_with fail
 refine Calls.mono (HSo.out _ _ _ (xm_of hm (Nat.le_refl _)) hv) ?_
 rintro e x11 ⟨rfl, hb⟩
 replace hL0 := hL0.call hb
 replace ht := ht.below hb
 replace hm := hm.below hb
 replace hv := hv.below hb
 clear hb hA HSo
 replace hL0 := hL0.new rfl [.slice none 0 0, .slice none 0 0] 117
 generalize hweq : x11.alloc (.cells #[.slice none 0 0, .slice none 0 0] 117) = x12 at hL0
 have hb3 : Below x11.heap.size x11 x12 := by rw [← hweq]; exact (Below.refl _ _).alloc (Nat.le_refl _) _
 have hP := hL0.put 0 x11.heap.size _ rfl [.slice none 0 0, .slice none 0 0] rfl
 obtain ⟨x13, hy⟩ : ∃ q, setAll x12 x11.heap.size 0 [.slice none 0 0, .slice none 0 0] = q := ⟨_, rfl⟩
 have hb4 : Below x11.heap.size x11 x13 := hb3.trans (by rw [← hy]; exact (setAll_upd _ _ _ _).below (Nat.le_refl _))
 rw [hy] at hP
 simp only [setAll, Nat.zero_add, Nat.reduceAdd] at hy
 simp only [List.set_cons_zero] at hP
 have hA := hL0.fc
 simp only [fcG, cellsF, neK, and_true, ne_eq, Nat.zero_add, Nat.reduceAdd] at hA
 have hB := hP.fc
 simp only [fcG, cellsF, neK, and_true, ne_eq, Nat.zero_add, Nat.reduceAdd] at hB
 replace ht := ht.below hb4
 replace hm := hm.below hb4
 replace hv := hv.below hb4
 clear hb3 hb4
 replace hL0 := hP
 clear hP
 go_wp2_with fail
 refine Calls.mono (HAg.out _ _ _ (xm_of hm (Nat.le_refl _)) hv) ?_
 rintro e x14 ⟨rfl, hb⟩
 replace hL0 := hL0.call hb
 replace ht := ht.below hb
 replace hm := hm.below hb
 replace hv := hv.below hb
 clear hb hA hB hweq hy HAg
 have hA := hL0.fc
 simp only [fcG, cellsF, neK, and_true, ne_eq, Nat.zero_add, Nat.reduceAdd] at hA
 go_wp2_with fail
 refine Calls.mono (HIn.out _ _ (xm_of hm (Nat.le_refl _))) ?_
 rintro e x15 ⟨⟨pv, ei, rfl, hws⟩, hb⟩
 replace hL0 := hL0.call hb
 replace ht := ht.below hb
 replace hm := hm.below hb
 replace hv := hv.below hb
 clear hb hA HIn
 obtain ⟨ia, ib, ig, id9, if9, rfl⟩ := hws
 replace hL0 := hL0.new rfl [.int .i64 0, .int .i64 0, .slice none 0 0] 56
 generalize hweq : x15.alloc (.cells #[.int .i64 0, .int .i64 0, .slice none 0 0] 56) = x16 at hL0
 have hb3 : Below x15.heap.size x15 x16 := by rw [← hweq]; exact (Below.refl _ _).alloc (Nat.le_refl _) _
 have hP := hL0.put 0 x15.heap.size _ rfl [.int .i64 ia, .int .i64 ib, .slice ig id9 if9] rfl
 obtain ⟨x17, hy⟩ : ∃ q, setAll x16 x15.heap.size 0 [.int .i64 ia, .int .i64 ib, .slice ig id9 if9] = q := ⟨_, rfl⟩
 have hb4 : Below x15.heap.size x15 x17 := hb3.trans (by rw [← hy]; exact (setAll_upd _ _ _ _).below (Nat.le_refl _))
 rw [hy] at hP
 simp only [setAll, Nat.zero_add, Nat.reduceAdd] at hy
 simp only [List.set_cons_zero] at hP
 have hA := hL0.fc
 simp only [fcG, cellsF, neK, and_true, ne_eq, Nat.zero_add, Nat.reduceAdd] at hA
 have hB := hP.fc
 simp only [fcG, cellsF, neK, and_true, ne_eq, Nat.zero_add, Nat.reduceAdd] at hB
 replace ht := ht.below hb4
 replace hm := hm.below hb4
 replace hv := hv.below hb4
 clear hb3 hb4
 replace hL0 := hP
 clear hP
 go_wp2_with fail
 refine Calls.mono (HDe.out _ _ (xm_of hm (Nat.le_refl _))) ?_
 rintro e x18 ⟨rfl, hb⟩
 replace hL0 := hL0.call hb
 replace ht := ht.below hb
 replace hm := hm.below hb
 replace hv := hv.below hb
 clear hb hA hB hweq hy HDe
 replace hL0 := hL0.new rfl [.int .u64 0, .string ⟨#[]⟩, .bool false, .int .u64 0, .string ⟨#[]⟩] 36
 generalize hweq : x18.alloc (.cells #[.int .u64 0, .string ⟨#[]⟩, .bool false, .int .u64 0, .string ⟨#[]⟩] 36) = x19 at hL0
 have hb3 : Below x18.heap.size x18 x19 := by rw [← hweq]; exact (Below.refl _ _).alloc (Nat.le_refl _) _
 have hP := hL0.put 0 x18.heap.size _ rfl [.int .u64 ((zl dq.num : Nat) : Int), .string (zh dq.num), .bool (zs dq.num), .int .u64 ((lo (fe dq) : Nat) : Int), .string (hs (fe dq))] rfl
 obtain ⟨x20, hy⟩ : ∃ q, setAll x19 x18.heap.size 0 [.int .u64 ((zl dq.num : Nat) : Int), .string (zh dq.num), .bool (zs dq.num), .int .u64 ((lo (fe dq) : Nat) : Int), .string (hs (fe dq))] = q := ⟨_, rfl⟩
 have hb4 : Below x18.heap.size x18 x20 := hb3.trans (by rw [← hy]; exact (setAll_upd _ _ _ _).below (Nat.le_refl _))
 rw [hy] at hP
 simp only [setAll, Nat.zero_add, Nat.reduceAdd] at hy
 simp only [List.set_cons_zero] at hP
 have hA := hL0.fc
 simp only [fcG, cellsF, neK, and_true, ne_eq, Nat.zero_add, Nat.reduceAdd] at hA
 have hB := hP.fc
 simp only [fcG, cellsF, neK, and_true, ne_eq, Nat.zero_add, Nat.reduceAdd] at hB
 replace ht := ht.below hb4
 replace hm := hm.below hb4
 replace hv := hv.below hb4
 clear hb3 hb4
 replace hL0 := hP
 clear hP
 go_upto_region 22 with fail
 clear hA hweq hy
 have hA := hB
 clear hB hv
 have hb3 : Below x20.heap.size x20 (x20.alloc (.cells (frCs (List.replicate 2049 0)).toArray 36)) := (Below.refl _ _).alloc (Nat.le_refl _) _
 have hv2 : SlQ (x20.alloc (.cells (frCs (List.replicate 2049 0)).toArray 36)) (.slice (some ⟨x20.heap.size, 0, none⟩) 2049 2049) (List.replicate 2049 0) := slq_new0 (hd_new x20 (frCs (List.replicate 2049 0)) _)
 have hmkz' := hmkz.out x20
 generalize hwzhmkz' : (x20.alloc (.cells (frCs (List.replicate 2049 0)).toArray 36)) = x21 at hb3 hv2
 rw [hwzhmkz'] at hmkz'
 replace hL0 := hL0.call hb3
 replace ht := ht.below hb3
 replace hm := hm.below hb3
 clear hb3 hwzhmkz'
 clear hA
 have hA := hL0.fc
 simp only [fcG, cellsF, neK, and_true, ne_eq, Nat.zero_add, Nat.reduceAdd] at hA
 go_wp2_with fail
 refine Calls.mono (HS2.out _ _ hv2) ?_
 rintro e x22 ⟨rfl, hb⟩
 replace hL0 := hL0.call hb
 replace ht := ht.below hb
 replace hm := hm.below hb
 replace hv2 := hv2.below hb
 clear hb hA hmkz' HS2
 replace hL0 := hL0.new rfl [.slice none 0 0, .slice none 0 0] 117
 generalize hweq : x22.alloc (.cells #[.slice none 0 0, .slice none 0 0] 117) = x23 at hL0
 have hb3 : Below x22.heap.size x22 x23 := by rw [← hweq]; exact (Below.refl _ _).alloc (Nat.le_refl _) _
 have hP := hL0.put 0 x22.heap.size _ rfl [.slice none 0 0, .slice none 0 0] rfl
 obtain ⟨x24, hy⟩ : ∃ q, setAll x23 x22.heap.size 0 [.slice none 0 0, .slice none 0 0] = q := ⟨_, rfl⟩
 have hb4 : Below x22.heap.size x22 x24 := hb3.trans (by rw [← hy]; exact (setAll_upd _ _ _ _).below (Nat.le_refl _))
 rw [hy] at hP
 simp only [setAll, Nat.zero_add, Nat.reduceAdd] at hy
 simp only [List.set_cons_zero] at hP
 have hA := hL0.fc
 simp only [fcG, cellsF, neK, and_true, ne_eq, Nat.zero_add, Nat.reduceAdd] at hA
 have hB := hP.fc
 simp only [fcG, cellsF, neK, and_true, ne_eq, Nat.zero_add, Nat.reduceAdd] at hB
 replace ht := ht.below hb4
 replace hm := hm.below hb4
 replace hv2 := hv2.below hb4
 clear hb3 hb4
 replace hL0 := hP
 clear hP
 go_upto_region 23 with fail
 clear hA hweq hy hv2
 have hA := hB
 clear hB
 have hb3 : Below x24.heap.size x24 (x24.alloc (.cells (frCs (List.replicate 2049 0)).toArray 36)) := (Below.refl _ _).alloc (Nat.le_refl _) _
 have hv3 : SlQ (x24.alloc (.cells (frCs (List.replicate 2049 0)).toArray 36)) (.slice (some ⟨x24.heap.size, 0, none⟩) 2049 2049) (List.replicate 2049 0) := slq_new0 (hd_new x24 (frCs (List.replicate 2049 0)) _)
 have hmky' := hmky.out x24
 generalize hwzhmky' : (x24.alloc (.cells (frCs (List.replicate 2049 0)).toArray 36)) = x25 at hb3 hv3
 rw [hwzhmky'] at hmky'
 replace hL0 := hL0.call hb3
 replace ht := ht.below hb3
 replace hm := hm.below hb3
 clear hb3 hwzhmky'
 clear hA
 have hA := hL0.fc
 simp only [fcG, cellsF, neK, and_true, ne_eq, Nat.zero_add, Nat.reduceAdd] at hA
 go_wp2_with fail
 refine Calls.mono (HA2.out _ _ hv3) ?_
 rintro e x26 ⟨rfl, hb⟩
 replace hL0 := hL0.call hb
 replace ht := ht.below hb
 replace hm := hm.below hb
 replace hv3 := hv3.below hb
 clear hb hA hmky' HA2
 have hA := hL0.fc
 simp only [fcG, cellsF, neK, and_true, ne_eq, Nat.zero_add, Nat.reduceAdd] at hA
 go_wp2_with fail
 refine Calls.mono (HMi.out _ _ (xm_of hm (Nat.le_refl _))) ?_
 rintro e x27 ⟨rfl, hb⟩
 replace hL0 := hL0.call hb
 replace ht := ht.below hb
 replace hm := hm.below hb
 replace hv3 := hv3.below hb
 clear hb hA HMi
 replace hL0 := hL0.new rfl [.int .u64 0, .string ⟨#[]⟩, .bool false, .int .u64 0, .string ⟨#[]⟩] 36
 generalize hweq : x27.alloc (.cells #[.int .u64 0, .string ⟨#[]⟩, .bool false, .int .u64 0, .string ⟨#[]⟩] 36) = x28 at hL0
 have hb3 : Below x27.heap.size x27 x28 := by rw [← hweq]; exact (Below.refl _ _).alloc (Nat.le_refl _) _
 have hP := hL0.put 0 x27.heap.size _ rfl [.int .u64 ((zl mq.num : Nat) : Int), .string (zh mq.num), .bool (zs mq.num), .int .u64 ((lo (fe mq) : Nat) : Int), .string (hs (fe mq))] rfl
 obtain ⟨x29, hy⟩ : ∃ q, setAll x28 x27.heap.size 0 [.int .u64 ((zl mq.num : Nat) : Int), .string (zh mq.num), .bool (zs mq.num), .int .u64 ((lo (fe mq) : Nat) : Int), .string (hs (fe mq))] = q := ⟨_, rfl⟩
 have hb4 : Below x27.heap.size x27 x29 := hb3.trans (by rw [← hy]; exact (setAll_upd _ _ _ _).below (Nat.le_refl _))
 rw [hy] at hP
 simp only [setAll, Nat.zero_add, Nat.reduceAdd] at hy
 simp only [List.set_cons_zero] at hP
 have hA := hL0.fc
 simp only [fcG, cellsF, neK, and_true, ne_eq, Nat.zero_add, Nat.reduceAdd] at hA
 have hB := hP.fc
 simp only [fcG, cellsF, neK, and_true, ne_eq, Nat.zero_add, Nat.reduceAdd] at hB
 replace ht := ht.below hb4
 replace hm := hm.below hb4
 replace hv3 := hv3.below hb4
 clear hb3 hb4
 replace hL0 := hP
 clear hP
 go_wp2_with fail
 refine Calls.mono (HW.out _ ht) ?_
 rintro e z9 ⟨rfl, hb⟩
 replace hL0 := hL0.call hb
 clear hb hA hB hweq hy HW
 go_wp2_with fail
 exact bodyPost_ret (v := .bool true) (by simp [results, Tryz.results14, go_sem]) rfl ⟨rfl, hL0.bl⟩
set_option maxHeartbeats 16000000 in
set_option maxRecDepth 100000 in
theorem eerr_oknq (r c zn zq : Int) (m q : Nat) (mq : Rat)
  (ezn : Int.tmod zn 40 = (m : Int))
  (m39 : (m : Int) ≤ 39)
  (ezq : Int.tmod zq 50 = (q : Int))
  (q49 : (q : Int) ≤ 49)
  (HW : ∀ w, Tab w → Calls Tryz.prog 49 #[] w fun e w' => e = .returned (.bool true) ∧ Below w.heap.size w w')
  (hr : ¬ 40 < r)
  (hc : ¬ 40 < c)
  (HCk : ∀ (p : Value) (w : World), XM w p r c m → Calls Tryz.prog 77 #[p] w fun e w' => e = .returned (.int .i64 0) ∧ Below w.heap.size w w')
  (HRd : ∀ (p : Value) (w : World), XM w p r c m → Calls Tryz.prog 50 #[p] w fun e w' => (∃ pv sv, e = .returned (.tuple #[pv, sv, .int .i64 0]) ∧ WS pv ∧ YS sv) ∧ Below w.heap.size w w')
  (HRk : ∀ (p : Value) (w : World), XM w p r c m → Calls Tryz.prog 53 #[p] w fun e w' => e = .returned (.tuple #[.int .i64 0, .int .i64 0]) ∧ Below w.heap.size w w')
  (HKe : ∀ (p : Value) (w : World), XM w p r c m → Calls Tryz.prog 65 #[p] w fun e w' => (∃ sv, e = .returned (.tuple #[sv, .int .i64 0]) ∧ YS sv) ∧ Below w.heap.size w w')
  (HSo : ∀ (p s : Value) (w : World), XM w p r c m → SlQ w s (List.replicate q 0) → Calls Tryz.prog 69 #[p, s] w fun e w' => (∃ a b es, e = .returned (.tuple #[.agg #[a, b], .int .i64 es]) ∧ YS a ∧ YS b) ∧ Below w.heap.size w w')
  (HAg : ∀ (p s : Value) (w : World), XM w p r c m → SlQ w s (List.replicate q 0) → Calls Tryz.prog 70 #[p, s] w fun e w' => (∃ a ea, e = .returned (.tuple #[a, .int .i64 ea]) ∧ YS a) ∧ Below w.heap.size w w')
  (HIn : ∀ (p : Value) (w : World), XM w p r c m → Calls Tryz.prog 73 #[p] w fun e w' => e = .returned (.tuple #[.agg #[.int .i64 0, .int .i64 0, .slice none 0 0], .int .i64 1]) ∧ Below w.heap.size w w')
  (HDe : ∀ (p : Value) (w : World), XM w p r c m → Calls Tryz.prog 57 #[p] w fun e w' => e = .returned (.tuple #[.agg #[.int .u64 0, .string ⟨#[]⟩, .bool false, .int .u64 0, .string ⟨#[]⟩], .int .i64 1]) ∧ Below w.heap.size w w')
  (HS2 : ∀ (s : Value) (w : World), SlQ w s (List.replicate 2049 0) → Calls Tryz.prog 69 #[.agg #[.int .i64 0, .int .i64 0, .slice none 0 0], s] w fun e w' => e = .returned (.tuple #[.agg #[.slice none 0 0, .slice none 0 0], .int .i64 3]) ∧ Below w.heap.size w w')
  (HA2 : ∀ (s : Value) (w : World), SlQ w s (List.replicate 2049 0) → Calls Tryz.prog 70 #[.agg #[.int .i64 (-1), .int .i64 0, .slice none 0 0], s] w fun e w' => e = .returned (.tuple #[.slice none 0 0, .int .i64 1]) ∧ Below w.heap.size w w')
  (HMi : ∀ (p : Value) (w : World), XM w p r c m → Calls Tryz.prog 76 #[p, .int .i64 0] w fun e w' => e = .returned (.tuple #[.agg #[.int .u64 ((zl mq.num : Nat) : Int), .string (zh mq.num), .bool (zs mq.num), .int .u64 ((lo (fe mq) : Nat) : Int), .string (hs (fe mq))], .int .i64 0]) ∧ Below w.heap.size w w')
  (hsd : ((q : Int) != r) = false)
  (hse : ((q : Int) == r) = true)
  (hsq : (r != c) = true)
  (hsr : (r == c) = false)
  (w : World) (ht : Tab w) : Calls Tryz.prog 14 #[.int .i64 r, .int .i64 c, .int .u8 zn, .int .u8 zq] w fun e w' => e = .returned (.bool true) ∧ Below w.heap.size w w' := by
 have m0 : (0 : Int) ≤ (m : Int) := Int.natCast_nonneg _
 have q0 : (0 : Int) ≤ (q : Int) := Int.natCast_nonneg _
 have hmkm := Lib.hid fun W => makeM W (m : Int) m rfl (by omega)
 have hmkq := Lib.hid fun W => makeV W (q : Int) q rfl (by omega)
 have hmkz := Lib.hid fun W => makeV W 2049 2049 rfl (by omega)
 have hmky := Lib.hid fun W => makeV W 2049 2049 rfl (by omega)
 replace HW := Lib.hid HW
 replace HCk := Lib.hid HCk
 replace HRd := Lib.hid HRd
 replace HRk := Lib.hid HRk
 replace HKe := Lib.hid HKe
 replace HSo := Lib.hid HSo
 replace HAg := Lib.hid HAg
 replace HIn := Lib.hid HIn
 replace HDe := Lib.hid HDe
 replace HS2 := Lib.hid HS2
 replace HA2 := Lib.hid HA2
 replace HMi := Lib.hid HMi
 have hL0 : GL w w [] := GL.start w
 have hb3 : Below w.heap.size w (w.alloc (.cells (frCs (List.replicate m 0)).toArray 36)) := (Below.refl _ _).alloc (Nat.le_refl _) _
 have hm : SlQ (w.alloc (.cells (frCs (List.replicate m 0)).toArray 36)) (.slice (some ⟨w.heap.size, 0, none⟩) m m) (List.replicate m 0) := slq_new0 (hd_new w (frCs (List.replicate m 0)) _)
 have hmkm' := hmkm.out w
 generalize hwzhmkm' : (w.alloc (.cells (frCs (List.replicate m 0)).toArray 36)) = x1 at hb3 hm
 rw [hwzhmkm'] at hmkm'
 replace hL0 := hL0.call hb3
 replace ht := ht.below hb3
 clear hb3 hwzhmkm'
 replace hL0 := hL0.new rfl [.int .i64 0, .int .i64 0, .slice none 0 0] 56
 generalize hweq : x1.alloc (.cells #[.int .i64 0, .int .i64 0, .slice none 0 0] 56) = x2 at hL0
 have hb3 : Below x1.heap.size x1 x2 := by rw [← hweq]; exact (Below.refl _ _).alloc (Nat.le_refl _) _
 have hP := hL0.put 0 x1.heap.size _ rfl [.int .i64 r, .int .i64 c, .slice (some ⟨w.heap.size, 0, none⟩) m m] rfl
 obtain ⟨x3, hy⟩ : ∃ q, setAll x2 x1.heap.size 0 [.int .i64 r, .int .i64 c, .slice (some ⟨w.heap.size, 0, none⟩) m m] = q := ⟨_, rfl⟩
 have hb4 : Below x1.heap.size x1 x3 := hb3.trans (by rw [← hy]; exact (setAll_upd _ _ _ _).below (Nat.le_refl _))
 rw [hy] at hP
 simp only [setAll, Nat.zero_add, Nat.reduceAdd] at hy
 simp only [List.set_cons_zero] at hP
 have hA := hL0.fc
 simp only [fcG, cellsF, neK, and_true, ne_eq, Nat.zero_add, Nat.reduceAdd] at hA
 have hB := hP.fc
 simp only [fcG, cellsF, neK, and_true, ne_eq, Nat.zero_add, Nat.reduceAdd] at hB
 replace ht := ht.below hb4
 replace hm := hm.below hb4
 clear hb3 hb4
 replace hL0 := hP
 clear hP
 go_enter Tryz.func14, Tryz.ntmps14
 go_upto_region 2 with fail
 clear hA hweq hy hmkm'
 have hA := hB
 clear hB
 have hb3 : Below x3.heap.size x3 (x3.alloc (.cells (frCs (List.replicate q 0)).toArray 36)) := (Below.refl _ _).alloc (Nat.le_refl _) _
 have hv : SlQ (x3.alloc (.cells (frCs (List.replicate q 0)).toArray 36)) (.slice (some ⟨x3.heap.size, 0, none⟩) q q) (List.replicate q 0) := slq_new0 (hd_new x3 (frCs (List.replicate q 0)) _)
 have hmkq' := hmkq.out x3
 generalize hwzhmkq' : (x3.alloc (.cells (frCs (List.replicate q 0)).toArray 36)) = x4 at hb3 hv
 rw [hwzhmkq'] at hmkq'
 replace hL0 := hL0.call hb3
 replace ht := ht.below hb3
 replace hm := hm.below hb3
 clear hb3 hwzhmkq'
 clear hA
 have hA := hL0.fc
 simp only [fcG, cellsF, neK, and_true, ne_eq, Nat.zero_add, Nat.reduceAdd] at hA
 go_wp2_with fail
 refine Calls.mono (HCk.out _ _ (xm_of hm (Nat.le_refl _))) ?_
 rintro e x5 ⟨rfl, hb⟩
 replace hL0 := hL0.call hb
 replace ht := ht.below hb
 replace hm := hm.below hb
 replace hv := hv.below hb
 clear hb hA hmkq' HCk
 have hA := hL0.fc
 simp only [fcG, cellsF, neK, and_true, ne_eq, Nat.zero_add, Nat.reduceAdd] at hA
 go_wp2_with fail
 refine Calls.mono (HRd.out _ _ (xm_of hm (Nat.le_refl _))) ?_
 rintro e x6 ⟨⟨pv, sv, rfl, hws, hys⟩, hb⟩
 replace hL0 := hL0.call hb
 replace ht := ht.below hb
 replace hm := hm.below hb
 replace hv := hv.below hb
 clear hb hA HRd
 obtain ⟨ra, rb, rg, rd, rf, rfl⟩ := hws
 obtain ⟨sg, sd, sf, rfl⟩ := hys
 replace hL0 := hL0.new rfl [.int .i64 0, .int .i64 0, .slice none 0 0] 56
 generalize hweq : x6.alloc (.cells #[.int .i64 0, .int .i64 0, .slice none 0 0] 56) = x7 at hL0
 have hb3 : Below x6.heap.size x6 x7 := by rw [← hweq]; exact (Below.refl _ _).alloc (Nat.le_refl _) _
 have hP := hL0.put 0 x6.heap.size _ rfl [.int .i64 ra, .int .i64 rb, .slice rg rd rf] rfl
 obtain ⟨x8, hy⟩ : ∃ q, setAll x7 x6.heap.size 0 [.int .i64 ra, .int .i64 rb, .slice rg rd rf] = q := ⟨_, rfl⟩
 have hb4 : Below x6.heap.size x6 x8 := hb3.trans (by rw [← hy]; exact (setAll_upd _ _ _ _).below (Nat.le_refl _))
 rw [hy] at hP
 simp only [setAll, Nat.zero_add, Nat.reduceAdd] at hy
 simp only [List.set_cons_zero] at hP
 have hA := hL0.fc
 simp only [fcG, cellsF, neK, and_true, ne_eq, Nat.zero_add, Nat.reduceAdd] at hA
 have hB := hP.fc
 simp only [fcG, cellsF, neK, and_true, ne_eq, Nat.zero_add, Nat.reduceAdd] at hB
 replace ht := ht.below hb4
 replace hm := hm.below hb4
 replace hv := hv.below hb4
 clear hb3 hb4
 replace hL0 := hP
 clear hP
 go_wp2_with fail
 refine Calls.mono (HRk.out _ _ (xm_of hm (Nat.le_refl _))) ?_
 rintro e x9 ⟨rfl, hb⟩
 replace hL0 := hL0.call hb
 replace ht := ht.below hb
 replace hm := hm.below hb
 replace hv := hv.below hb
 clear hb hA hB hweq hy HRk
 have hA := hL0.fc
 simp only [fcG, cellsF, neK, and_true, ne_eq, Nat.zero_add, Nat.reduceAdd] at hA
 go_wp2_with fail
 refine Calls.mono (HKe.out _ _ (xm_of hm (Nat.le_refl _))) ?_
 rintro e x10 ⟨⟨sv, rfl, hys⟩, hb⟩
 replace hL0 := hL0.call hb
 replace ht := ht.below hb
 replace hm := hm.below hb
 replace hv := hv.below hb
 clear hb hA HKe
 obtain ⟨kg, kd, kf, rfl⟩ := hys
 have hA := hL0.fc
 simp only [fcG, cellsF, neK, and_true, ne_eq, Nat.zero_add, Nat.reduceAdd] at hA
 go_wp2_with fail
 refine Calls.mono (HSo.out _ _ _ (xm_of hm (Nat.le_refl _)) hv) ?_
 rintro e x11 ⟨⟨sa, sb, es, rfl, hys, hyt⟩, hb⟩
 replace hL0 := hL0.call hb
 replace ht := ht.below hb
 replace hm := hm.below hb
 replace hv := hv.below hb
 clear hb hA HSo
 obtain ⟨tg, td, tf, rfl⟩ := hys
 obtain ⟨ug, ud, uf, rfl⟩ := hyt
 replace hL0 := hL0.new rfl [.slice none 0 0, .slice none 0 0] 117
 generalize hweq : x11.alloc (.cells #[.slice none 0 0, .slice none 0 0] 117) = x12 at hL0
 have hb3 : Below x11.heap.size x11 x12 := by rw [← hweq]; exact (Below.refl _ _).alloc (Nat.le_refl _) _
 have hP := hL0.put 0 x11.heap.size _ rfl [.slice tg td tf, .slice ug ud uf] rfl
 obtain ⟨x13, hy⟩ : ∃ q, setAll x12 x11.heap.size 0 [.slice tg td tf, .slice ug ud uf] = q := ⟨_, rfl⟩
 have hb4 : Below x11.heap.size x11 x13 := hb3.trans (by rw [← hy]; exact (setAll_upd _ _ _ _).below (Nat.le_refl _))
 rw [hy] at hP
 simp only [setAll, Nat.zero_add, Nat.reduceAdd] at hy
 simp only [List.set_cons_zero] at hP
 have hA := hL0.fc
 simp only [fcG, cellsF, neK, and_true, ne_eq, Nat.zero_add, Nat.reduceAdd] at hA
 have hB := hP.fc
 simp only [fcG, cellsF, neK, and_true, ne_eq, Nat.zero_add, Nat.reduceAdd] at hB
 replace ht := ht.below hb4
 replace hm := hm.below hb4
 replace hv := hv.below hb4
 clear hb3 hb4
 replace hL0 := hP
 clear hP
 go_wp2_with fail
 refine Calls.mono (HAg.out _ _ _ (xm_of hm (Nat.le_refl _)) hv) ?_
 rintro e x14 ⟨⟨sa, ea, rfl, hys⟩, hb⟩
 replace hL0 := hL0.call hb
 replace ht := ht.below hb
 replace hm := hm.below hb
 replace hv := hv.below hb
 clear hb hA hB hweq hy HAg
 obtain ⟨vg, vd, vf, rfl⟩ := hys
 have hA := hL0.fc
 simp only [fcG, cellsF, neK, and_true, ne_eq, Nat.zero_add, Nat.reduceAdd] at hA
 go_wp2_with fail
 refine Calls.mono (HIn.out _ _ (xm_of hm (Nat.le_refl _))) ?_
 rintro e x15 ⟨rfl, hb⟩
 replace hL0 := hL0.call hb
 replace ht := ht.below hb
 replace hm := hm.below hb
 replace hv := hv.below hb
 clear hb hA HIn
 replace hL0 := hL0.new rfl [.int .i64 0, .int .i64 0, .slice none 0 0] 56
 generalize hweq : x15.alloc (.cells #[.int .i64 0, .int .i64 0, .slice none 0 0] 56) = x16 at hL0
 have hb3 : Below x15.heap.size x15 x16 := by rw [← hweq]; exact (Below.refl _ _).alloc (Nat.le_refl _) _
 have hP := hL0.put 0 x15.heap.size _ rfl [.int .i64 0, .int .i64 0, .slice none 0 0] rfl
 obtain ⟨x17, hy⟩ : ∃ q, setAll x16 x15.heap.size 0 [.int .i64 0, .int .i64 0, .slice none 0 0] = q := ⟨_, rfl⟩
 have hb4 : Below x15.heap.size x15 x17 := hb3.trans (by rw [← hy]; exact (setAll_upd _ _ _ _).below (Nat.le_refl _))
 rw [hy] at hP
 simp only [setAll, Nat.zero_add, Nat.reduceAdd] at hy
 simp only [List.set_cons_zero] at hP
 have hA := hL0.fc
 simp only [fcG, cellsF, neK, and_true, ne_eq, Nat.zero_add, Nat.reduceAdd] at hA
 have hB := hP.fc
 simp only [fcG, cellsF, neK, and_true, ne_eq, Nat.zero_add, Nat.reduceAdd] at hB
 replace ht := ht.below hb4
 replace hm := hm.below hb4
 replace hv := hv.below hb4
 clear hb3 hb4
 replace hL0 := hP
 clear hP
 go_wp2_with fail
 refine Calls.mono (HDe.out _ _ (xm_of hm (Nat.le_refl _))) ?_
 rintro e x18 ⟨rfl, hb⟩
 replace hL0 := hL0.call hb
 replace ht := ht.below hb
 replace hm := hm.below hb
 replace hv := hv.below hb
 clear hb hA hB hweq hy HDe
 replace hL0 := hL0.new rfl [.int .u64 0, .string ⟨#[]⟩, .bool false, .int .u64 0, .string ⟨#[]⟩] 36
 generalize hweq : x18.alloc (.cells #[.int .u64 0, .string ⟨#[]⟩, .bool false, .int .u64 0, .string ⟨#[]⟩] 36) = x19 at hL0
 have hb3 : Below x18.heap.size x18 x19 := by rw [← hweq]; exact (Below.refl _ _).alloc (Nat.le_refl _) _
 have hP := hL0.put 0 x18.heap.size _ rfl [.int .u64 0, .string ⟨#[]⟩, .bool false, .int .u64 0, .string ⟨#[]⟩] rfl
 obtain ⟨x20, hy⟩ : ∃ q, setAll x19 x18.heap.size 0 [.int .u64 0, .string ⟨#[]⟩, .bool false, .int .u64 0, .string ⟨#[]⟩] = q := ⟨_, rfl⟩
 have hb4 : Below x18.heap.size x18 x20 := hb3.trans (by rw [← hy]; exact (setAll_upd _ _ _ _).below (Nat.le_refl _))
 rw [hy] at hP
 simp only [setAll, Nat.zero_add, Nat.reduceAdd] at hy
 simp only [List.set_cons_zero] at hP
 have hA := hL0.fc
 simp only [fcG, cellsF, neK, and_true, ne_eq, Nat.zero_add, Nat.reduceAdd] at hA
 have hB := hP.fc
 simp only [fcG, cellsF, neK, and_true, ne_eq, Nat.zero_add, Nat.reduceAdd] at hB
 replace ht := ht.below hb4
 replace hm := hm.below hb4
 replace hv := hv.below hb4
 clear hb3 hb4
 replace hL0 := hP
 clear hP
 go_upto_region 22 with fail
 clear hA hweq hy
 have hA := hB
 clear hB hv
 have hb3 : Below x20.heap.size x20 (x20.alloc (.cells (frCs (List.replicate 2049 0)).toArray 36)) := (Below.refl _ _).alloc (Nat.le_refl _) _
 have hv2 : SlQ (x20.alloc (.cells (frCs (List.replicate 2049 0)).toArray 36)) (.slice (some ⟨x20.heap.size, 0, none⟩) 2049 2049) (List.replicate 2049 0) := slq_new0 (hd_new x20 (frCs (List.replicate 2049 0)) _)
 have hmkz' := hmkz.out x20
 generalize hwzhmkz' : (x20.alloc (.cells (frCs (List.replicate 2049 0)).toArray 36)) = x21 at hb3 hv2
 rw [hwzhmkz'] at hmkz'
 replace hL0 := hL0.call hb3
 replace ht := ht.below hb3
 replace hm := hm.below hb3
 clear hb3 hwzhmkz'
 clear hA
 have hA := hL0.fc
 simp only [fcG, cellsF, neK, and_true, ne_eq, Nat.zero_add, Nat.reduceAdd] at hA
 go_wp2_with fail
 refine Calls.mono (HS2.out _ _ hv2) ?_
 rintro e x22 ⟨rfl, hb⟩
 replace hL0 := hL0.call hb
 replace ht := ht.below hb
 replace hm := hm.below hb
 replace hv2 := hv2.below hb
 clear hb hA hmkz' HS2
 replace hL0 := hL0.new rfl [.slice none 0 0, .slice none 0 0] 117
 generalize hweq : x22.alloc (.cells #[.slice none 0 0, .slice none 0 0] 117) = x23 at hL0
 have hb3 : Below x22.heap.size x22 x23 := by rw [← hweq]; exact (Below.refl _ _).alloc (Nat.le_refl _) _
 have hP := hL0.put 0 x22.heap.size _ rfl [.slice none 0 0, .slice none 0 0] rfl
 obtain ⟨x24, hy⟩ : ∃ q, setAll x23 x22.heap.size 0 [.slice none 0 0, .slice none 0 0] = q := ⟨_, rfl⟩
 have hb4 : Below x22.heap.size x22 x24 := hb3.trans (by rw [← hy]; exact (setAll_upd _ _ _ _).below (Nat.le_refl _))
 rw [hy] at hP
 simp only [setAll, Nat.zero_add, Nat.reduceAdd] at hy
 simp only [List.set_cons_zero] at hP
 have hA := hL0.fc
 simp only [fcG, cellsF, neK, and_true, ne_eq, Nat.zero_add, Nat.reduceAdd] at hA
 have hB := hP.fc
 simp only [fcG, cellsF, neK, and_true, ne_eq, Nat.zero_add, Nat.reduceAdd] at hB
 replace ht := ht.below hb4
 replace hm := hm.below hb4
 replace hv2 := hv2.below hb4
 clear hb3 hb4
 replace hL0 := hP
 clear hP
 go_upto_region 23 with fail
 clear hA hweq hy hv2
 have hA := hB
 clear hB
 have hb3 : Below x24.heap.size x24 (x24.alloc (.cells (frCs (List.replicate 2049 0)).toArray 36)) := (Below.refl _ _).alloc (Nat.le_refl _) _
 have hv3 : SlQ (x24.alloc (.cells (frCs (List.replicate 2049 0)).toArray 36)) (.slice (some ⟨x24.heap.size, 0, none⟩) 2049 2049) (List.replicate 2049 0) := slq_new0 (hd_new x24 (frCs (List.replicate 2049 0)) _)
 have hmky' := hmky.out x24
 generalize hwzhmky' : (x24.alloc (.cells (frCs (List.replicate 2049 0)).toArray 36)) = x25 at hb3 hv3
 rw [hwzhmky'] at hmky'
 replace hL0 := hL0.call hb3
 replace ht := ht.below hb3
 replace hm := hm.below hb3
 clear hb3 hwzhmky'
 clear hA
 have hA := hL0.fc
 simp only [fcG, cellsF, neK, and_true, ne_eq, Nat.zero_add, Nat.reduceAdd] at hA
 go_wp2_with fail
 refine Calls.mono (HA2.out _ _ hv3) ?_
 rintro e x26 ⟨rfl, hb⟩
 replace hL0 := hL0.call hb
 replace ht := ht.below hb
 replace hm := hm.below hb
 replace hv3 := hv3.below hb
 clear hb hA hmky' HA2
 have hA := hL0.fc
 simp only [fcG, cellsF, neK, and_true, ne_eq, Nat.zero_add, Nat.reduceAdd] at hA
 go_wp2_with fail
 refine Calls.mono (HMi.out _ _ (xm_of hm (Nat.le_refl _))) ?_
 rintro e x27 ⟨rfl, hb⟩
 replace hL0 := hL0.call hb
 replace ht := ht.below hb
 replace hm := hm.below hb
 replace hv3 := hv3.below hb
 clear hb hA HMi
 replace hL0 := hL0.new rfl [.int .u64 0, .string ⟨#[]⟩, .bool false, .int .u64 0, .string ⟨#[]⟩] 36
 generalize hweq : x27.alloc (.cells #[.int .u64 0, .string ⟨#[]⟩, .bool false, .int .u64 0, .string ⟨#[]⟩] 36) = x28 at hL0
 have hb3 : Below x27.heap.size x27 x28 := by rw [← hweq]; exact (Below.refl _ _).alloc (Nat.le_refl _) _
 have hP := hL0.put 0 x27.heap.size _ rfl [.int .u64 ((zl mq.num : Nat) : Int), .string (zh mq.num), .bool (zs mq.num), .int .u64 ((lo (fe mq) : Nat) : Int), .string (hs (fe mq))] rfl
 obtain ⟨x29, hy⟩ : ∃ q, setAll x28 x27.heap.size 0 [.int .u64 ((zl mq.num : Nat) : Int), .string (zh mq.num), .bool (zs mq.num), .int .u64 ((lo (fe mq) : Nat) : Int), .string (hs (fe mq))] = q := ⟨_, rfl⟩
 have hb4 : Below x27.heap.size x27 x29 := hb3.trans (by rw [← hy]; exact (setAll_upd _ _ _ _).below (Nat.le_refl _))
 rw [hy] at hP
 simp only [setAll, Nat.zero_add, Nat.reduceAdd] at hy
 simp only [List.set_cons_zero] at hP
 have hA := hL0.fc
 simp only [fcG, cellsF, neK, and_true, ne_eq, Nat.zero_add, Nat.reduceAdd] at hA
 have hB := hP.fc
 simp only [fcG, cellsF, neK, and_true, ne_eq, Nat.zero_add, Nat.reduceAdd] at hB
 replace ht := ht.below hb4
 replace hm := hm.below hb4
 replace hv3 := hv3.below hb4
 clear hb3 hb4
 replace hL0 := hP
 clear hP
 go_wp2_with fail
 refine Calls.mono (HW.out _ ht) ?_
 rintro e z9 ⟨rfl, hb⟩
 replace hL0 := hL0.call hb
 clear hb hA hB hweq hy HW
 go_wp2_with fail
 exact bodyPost_ret (v := .bool true) (by simp [results, Tryz.results14, go_sem]) rfl ⟨rfl, hL0.bl⟩
set_option maxHeartbeats 16000000 in
set_option maxRecDepth 100000 in
theorem eerr_oknn (r c zn zq : Int) (m q : Nat) (dq mq : Rat)
  (ezn : Int.tmod zn 40 = (m : Int))
  (m39 : (m : Int) ≤ 39)
  (ezq : Int.tmod zq 50 = (q : Int))
  (q49 : (q : Int) ≤ 49)
  (HW : ∀ w, Tab w → Calls Tryz.prog 49 #[] w fun e w' => e = .returned (.bool true) ∧ Below w.heap.size w w')
  (hr : ¬ 40 < r)
  (hc : ¬ 40 < c)
  (HCk : ∀ (p : Value) (w : World), XM w p r c m → Calls Tryz.prog 77 #[p] w fun e w' => e = .returned (.int .i64 0) ∧ Below w.heap.size w w')
  (HRd : ∀ (p : Value) (w : World), XM w p r c m → Calls Tryz.prog 50 #[p] w fun e w' => (∃ pv sv, e = .returned (.tuple #[pv, sv, .int .i64 0]) ∧ WS pv ∧ YS sv) ∧ Below w.heap.size w w')
  (HRk : ∀ (p : Value) (w : World), XM w p r c m → Calls Tryz.prog 53 #[p] w fun e w' => e = .returned (.tuple #[.int .i64 0, .int .i64 0]) ∧ Below w.heap.size w w')
  (HKe : ∀ (p : Value) (w : World), XM w p r c m → Calls Tryz.prog 65 #[p] w fun e w' => (∃ sv, e = .returned (.tuple #[sv, .int .i64 0]) ∧ YS sv) ∧ Below w.heap.size w w')
  (HSo : ∀ (p s : Value) (w : World), XM w p r c m → SlQ w s (List.replicate q 0) → Calls Tryz.prog 69 #[p, s] w fun e w' => (∃ a b es, e = .returned (.tuple #[.agg #[a, b], .int .i64 es]) ∧ YS a ∧ YS b) ∧ Below w.heap.size w w')
  (HAg : ∀ (p s : Value) (w : World), XM w p r c m → SlQ w s (List.replicate q 0) → Calls Tryz.prog 70 #[p, s] w fun e w' => (∃ a ea, e = .returned (.tuple #[a, .int .i64 ea]) ∧ YS a) ∧ Below w.heap.size w w')
  (HIn : ∀ (p : Value) (w : World), XM w p r c m → Calls Tryz.prog 73 #[p] w fun e w' => (∃ pv ei, e = .returned (.tuple #[pv, .int .i64 ei]) ∧ WS pv) ∧ Below w.heap.size w w')
  (HDe : ∀ (p : Value) (w : World), XM w p r c m → Calls Tryz.prog 57 #[p] w fun e w' => e = .returned (.tuple #[.agg #[.int .u64 ((zl dq.num : Nat) : Int), .string (zh dq.num), .bool (zs dq.num), .int .u64 ((lo (fe dq) : Nat) : Int), .string (hs (fe dq))], .int .i64 0]) ∧ Below w.heap.size w w')
  (HS2 : ∀ (s : Value) (w : World), SlQ w s (List.replicate 2049 0) → Calls Tryz.prog 69 #[.agg #[.int .i64 0, .int .i64 0, .slice none 0 0], s] w fun e w' => e = .returned (.tuple #[.agg #[.slice none 0 0, .slice none 0 0], .int .i64 3]) ∧ Below w.heap.size w w')
  (HA2 : ∀ (s : Value) (w : World), SlQ w s (List.replicate 2049 0) → Calls Tryz.prog 70 #[.agg #[.int .i64 (-1), .int .i64 0, .slice none 0 0], s] w fun e w' => e = .returned (.tuple #[.slice none 0 0, .int .i64 1]) ∧ Below w.heap.size w w')
  (HMi : ∀ (p : Value) (w : World), XM w p r c m → Calls Tryz.prog 76 #[p, .int .i64 0] w fun e w' => e = .returned (.tuple #[.agg #[.int .u64 ((zl mq.num : Nat) : Int), .string (zh mq.num), .bool (zs mq.num), .int .u64 ((lo (fe mq) : Nat) : Int), .string (hs (fe mq))], .int .i64 0]) ∧ Below w.heap.size w w')
  (hsd : ((q : Int) != r) = false)
  (hse : ((q : Int) == r) = true)
  (hsq : (r != c) = false)
  (hsr : (r == c) = true)
  (w : World) (ht : Tab w) : Calls Tryz.prog 14 #[.int .i64 r, .int .i64 c, .int .u8 zn, .int .u8 zq] w fun e w' => e = .returned (.bool true) ∧ Below w.heap.size w w' := by
 have m0 : (0 : Int) ≤ (m : Int) := Int.natCast_nonneg _
 have q0 : (0 : Int) ≤ (q : Int) := Int.natCast_nonneg _
 have hmkm := Lib.hid fun W => makeM W (m : Int) m rfl (by omega)
 have hmkq := Lib.hid fun W => makeV W (q : Int) q rfl (by omega)
 have hmkz := Lib.hid fun W => makeV W 2049 2049 rfl (by omega)
 have hmky := Lib.hid fun W => makeV W 2049 2049 rfl (by omega)
 replace HW := Lib.hid HW
 replace HCk := Lib.hid HCk
 replace HRd := Lib.hid HRd
 replace HRk := Lib.hid HRk
 replace HKe := Lib.hid HKe
 replace HSo := Lib.hid HSo
 replace HAg := Lib.hid HAg
 replace HIn := Lib.hid HIn
 replace HDe := Lib.hid HDe
 replace HS2 := Lib.hid HS2
 replace HA2 := Lib.hid HA2
 replace HMi := Lib.hid HMi
 have hL0 : GL w w [] := GL.start w
 have hb3 : Below w.heap.size w (w.alloc (.cells (frCs (List.replicate m 0)).toArray 36)) := (Below.refl _ _).alloc (Nat.le_refl _) _
 have hm : SlQ (w.alloc (.cells (frCs (List.replicate m 0)).toArray 36)) (.slice (some ⟨w.heap.size, 0, none⟩) m m) (List.replicate m 0) := slq_new0 (hd_new w (frCs (List.replicate m 0)) _)
 have hmkm' := hmkm.out w
 generalize hwzhmkm' : (w.alloc (.cells (frCs (List.replicate m 0)).toArray 36)) = x1 at hb3 hm
 rw [hwzhmkm'] at hmkm'
 replace hL0 := hL0.call hb3
 replace ht := ht.below hb3
 clear hb3 hwzhmkm'
 replace hL0 := hL0.new rfl [.int .i64 0, .int .i64 0, .slice none 0 0] 56
 generalize hweq : x1.alloc (.cells #[.int .i64 0, .int .i64 0, .slice none 0 0] 56) = x2 at hL0
 have hb3 : Below x1.heap.size x1 x2 := by rw [← hweq]; exact (Below.refl _ _).alloc (Nat.le_refl _) _
 have hP := hL0.put 0 x1.heap.size _ rfl [.int .i64 r, .int .i64 c, .slice (some ⟨w.heap.size, 0, none⟩) m m] rfl
 obtain ⟨x3, hy⟩ : ∃ q, setAll x2 x1.heap.size 0 [.int .i64 r, .int .i64 c, .slice (some ⟨w.heap.size, 0, none⟩) m m] = q := ⟨_, rfl⟩
 have hb4 : Below x1.heap.size x1 x3 := hb3.trans (by rw [← hy]; exact (setAll_upd _ _ _ _).below (Nat.le_refl _))
 rw [hy] at hP
 simp only [setAll, Nat.zero_add, Nat.reduceAdd] at hy
 simp only [List.set_cons_zero] at hP
 have hA := hL0.fc
 simp only [fcG, cellsF, neK, and_true, ne_eq, Nat.zero_add, Nat.reduceAdd] at hA
 have hB := hP.fc
 simp only [fcG, cellsF, neK, and_true, ne_eq, Nat.zero_add, Nat.reduceAdd] at hB
 replace ht := ht.below hb4
 replace hm := hm.below hb4
 clear hb3 hb4
 replace hL0 := hP
 clear hP
 go_enter Tryz.func14, Tryz.ntmps14
 go_upto_region 2 with fail
 clear hA hweq hy hmkm'
 have hA := hB
 clear hB
 have hb3 : Below x3.heap.size x3 (x3.alloc (.cells (frCs (List.replicate q 0)).toArray 36)) := (Below.refl _ _).alloc (Nat.le_refl _) _
 have hv : SlQ (x3.alloc (.cells (frCs (List.replicate q 0)).toArray 36)) (.slice (some ⟨x3.heap.size, 0, none⟩) q q) (List.replicate q 0) := slq_new0 (hd_new x3 (frCs (List.replicate q 0)) _)
 have hmkq' := hmkq.out x3
 generalize hwzhmkq' : (x3.alloc (.cells (frCs (List.replicate q 0)).toArray 36)) = x4 at hb3 hv
 rw [hwzhmkq'] at hmkq'
 replace hL0 := hL0.call hb3
 replace ht := ht.below hb3
 replace hm := hm.below hb3
 clear hb3 hwzhmkq'
 clear hA
 have hA := hL0.fc
 simp only [fcG, cellsF, neK, and_true, ne_eq, Nat.zero_add, Nat.reduceAdd] at hA
 go_wp2_with fail
 refine Calls.mono (HCk.out _ _ (xm_of hm (Nat.le_refl _))) ?_
 rintro e x5 ⟨rfl, hb⟩
 replace hL0 := hL0.call hb
 replace ht := ht.below hb
 replace hm := hm.below hb
 replace hv := hv.below hb
 clear hb hA hmkq' HCk
 have hA := hL0.fc
 simp only [fcG, cellsF, neK, and_true, ne_eq, Nat.zero_add, Nat.reduceAdd] at hA
 go_wp2_with fail
 refine Calls.mono (HRd.out _ _ (xm_of hm (Nat.le_refl _))) ?_
 rintro e x6 ⟨⟨pv, sv, rfl, hws, hys⟩, hb⟩
 replace hL0 := hL0.call hb
 replace ht := ht.below hb
 replace hm := hm.below hb
 replace hv := hv.below hb
 clear hb hA HRd
 obtain ⟨ra, rb, rg, rd, rf, rfl⟩ := hws
 obtain ⟨sg, sd, sf, rfl⟩ := hys
 replace hL0 := hL0.new rfl [.int .i64 0, .int .i64 0, .slice none 0 0] 56
 generalize hweq : x6.alloc (.cells #[.int .i64 0, .int .i64 0, .slice none 0 0] 56) = x7 at hL0
 have hb3 : Below x6.heap.size x6 x7 := by rw [← hweq]; exact (Below.refl _ _).alloc (Nat.le_refl _) _
 have hP := hL0.put 0 x6.heap.size _ rfl [.int .i64 ra, .int .i64 rb, .slice rg rd rf] rfl
 obtain ⟨x8, hy⟩ : ∃ q, setAll x7 x6.heap.size 0 [.int .i64 ra, .int .i64 rb, .slice rg rd rf] = q := ⟨_, rfl⟩
 have hb4 : Below x6.heap.size x6 x8 := hb3.trans (by rw [← hy]; exact (setAll_upd _ _ _ _).below (Nat.le_refl _))
 rw [hy] at hP
 simp only [setAll, Nat.zero_add, Nat.reduceAdd] at hy
 simp only [List.set_cons_zero] at hP
 have hA := hL0.fc
 simp only [fcG, cellsF, neK, and_true, ne_eq, Nat.zero_add, Nat.reduceAdd] at hA
 have hB := hP.fc
 simp only [fcG, cellsF, neK, and_true, ne_eq, Nat.zero_add, Nat.reduceAdd] at hB
 replace ht := ht.below hb4
 replace hm := hm.below hb4
 replace hv := hv.below hb4
 clear hb3 hb4
 replace hL0 := hP
 clear hP
 go_wp2_with fail
 refine Calls.mono (HRk.out _ _ (xm_of hm (Nat.le_refl _))) ?_
 rintro e x9 ⟨rfl, hb⟩
 replace hL0 := hL0.call hb
 replace ht := ht.below hb
 replace hm := hm.below hb
 replace hv := hv.below hb
 clear hb hA hB hweq hy HRk
 have hA := hL0.fc
 simp only [fcG, cellsF, neK, and_true, ne_eq, Nat.zero_add, Nat.reduceAdd] at hA
 go_wp2_with fail
 refine Calls.mono (HKe.out _ _ (xm_of hm (Nat.le_refl _))) ?_
 rintro e x10 ⟨⟨sv, rfl, hys⟩, hb⟩
 replace hL0 := hL0.call hb
 replace ht := ht.below hb
 replace hm := hm.below hb
 replace hv := hv.below hb
 clear hb hA HKe
 obtain ⟨kg, kd, kf, rfl⟩ := hys
 have hA := hL0.fc
 simp only [fcG, cellsF, neK, and_true, ne_eq, Nat.zero_add, Nat.reduceAdd] at hA
 go_wp2_with fail
 refine Calls.mono (HSo.out _ _ _ (xm_of hm (Nat.le_refl _)) hv) ?_
 rintro e x11 ⟨⟨sa, sb, es, rfl, hys, hyt⟩, hb⟩
 replace hL0 := hL0.call hb
 replace ht := ht.below hb
 replace hm := hm.below hb
 replace hv := hv.below hb
 clear hb hA HSo
 obtain ⟨tg, td, tf, rfl⟩ := hys
 obtain ⟨ug, ud, uf, rfl⟩ := hyt
 replace hL0 := hL0.new rfl [.slice none 0 0, .slice none 0 0] 117
 generalize hweq : x11.alloc (.cells #[.slice none 0 0, .slice none 0 0] 117) = x12 at hL0
 have hb3 : Below x11.heap.size x11 x12 := by rw [← hweq]; exact (Below.refl _ _).alloc (Nat.le_refl _) _
 have hP := hL0.put 0 x11.heap.size _ rfl [.slice tg td tf, .slice ug ud uf] rfl
 obtain ⟨x13, hy⟩ : ∃ q, setAll x12 x11.heap.size 0 [.slice tg td tf, .slice ug ud uf] = q := ⟨_, rfl⟩
 have hb4 : Below x11.heap.size x11 x13 := hb3.trans (by rw [← hy]; exact (setAll_upd _ _ _ _).below (Nat.le_refl _))
 rw [hy] at hP
 simp only [setAll, Nat.zero_add, Nat.reduceAdd] at hy
 simp only [List.set_cons_zero] at hP
 have hA := hL0.fc
 simp only [fcG, cellsF, neK, and_true, ne_eq, Nat.zero_add, Nat.reduceAdd] at hA
 have hB := hP.fc
 simp only [fcG, cellsF, neK, and_true, ne_eq, Nat.zero_add, Nat.reduceAdd] at hB
 replace ht := ht.below hb4
 replace hm := hm.below hb4
 replace hv := hv.below hb4
 clear hb3 hb4
 replace hL0 := hP
 clear hP
 go_wp2_with fail
 refine Calls.mono (HAg.out _ _ _ (xm_of hm (Nat.le_refl _)) hv) ?_
 rintro e x14 ⟨⟨sa, ea, rfl, hys⟩, hb⟩
 replace hL0 := hL0.call hb
 replace ht := ht.below hb
 replace hm := hm.below hb
 replace hv := hv.below hb
 clear hb hA hB hweq hy HAg
 obtain ⟨vg, vd, vf, rfl⟩ := hys
 have hA := hL0.fc
 simp only [fcG, cellsF, neK, and_true, ne_eq, Nat.zero_add, Nat.reduceAdd] at hA
 go_wp2_with fail
 refine Calls.mono (HIn.out _ _ (xm_of hm (Nat.le_refl _))) ?_
 rintro e x15 ⟨⟨pv, ei, rfl, hws⟩, hb⟩
 replace hL0 := hL0.call hb
 replace ht := ht.below hb
 replace hm := hm.below hb
 replace hv := hv.below hb
 clear hb hA HIn
 obtain ⟨ia, ib, ig, id9, if9, rfl⟩ := hws
 replace hL0 := hL0.new rfl [.int .i64 0, .int .i64 0, .slice none 0 0] 56
 generalize hweq : x15.alloc (.cells #[.int .i64 0, .int .i64 0, .slice none 0 0] 56) = x16 at hL0
 have hb3 : Below x15.heap.size x15 x16 := by rw [← hweq]; exact (Below.refl _ _).alloc (Nat.le_refl _) _
 have hP := hL0.put 0 x15.heap.size _ rfl [.int .i64 ia, .int .i64 ib, .slice ig id9 if9] rfl
 obtain ⟨x17, hy⟩ : ∃ q, setAll x16 x15.heap.size 0 [.int .i64 ia, .int .i64 ib, .slice ig id9 if9] = q := ⟨_, rfl⟩
 have hb4 : Below x15.heap.size x15 x17 := hb3.trans (by rw [← hy]; exact (setAll_upd _ _ _ _).below (Nat.le_refl _))
 rw [hy] at hP
 simp only [setAll, Nat.zero_add, Nat.reduceAdd] at hy
 simp only [List.set_cons_zero] at hP
 have hA := hL0.fc
 simp only [fcG, cellsF, neK, and_true, ne_eq, Nat.zero_add, Nat.reduceAdd] at hA
 have hB := hP.fc
 simp only [fcG, cellsF, neK, and_true, ne_eq, Nat.zero_add, Nat.reduceAdd] at hB
 replace ht := ht.below hb4
 replace hm := hm.below hb4
 replace hv := hv.below hb4
 clear hb3 hb4
 replace hL0 := hP
 clear hP
 go_wp2_with fail
 refine Calls.mono (HDe.out _ _ (xm_of hm (Nat.le_refl _))) ?_
 rintro e x18 ⟨rfl, hb⟩
 replace hL0 := hL0.call hb
 replace ht := ht.below hb
 replace hm := hm.below hb
 replace hv := hv.below hb
 clear hb hA hB hweq hy HDe
 replace hL0 := hL0.new rfl [.int .u64 0, .string ⟨#[]⟩, .bool false, .int .u64 0, .string ⟨#[]⟩] 36
 generalize hweq : x18.alloc (.cells #[.int .u64 0, .string ⟨#[]⟩, .bool false, .int .u64 0, .string ⟨#[]⟩] 36) = x19 at hL0
 have hb3 : Below x18.heap.size x18 x19 := by rw [← hweq]; exact (Below.refl _ _).alloc (Nat.le_refl _) _
 have hP := hL0.put 0 x18.heap.size _ rfl [.int .u64 ((zl dq.num : Nat) : Int), .string (zh dq.num), .bool (zs dq.num), .int .u64 ((lo (fe dq) : Nat) : Int), .string (hs (fe dq))] rfl
 obtain ⟨x20, hy⟩ : ∃ q, setAll x19 x18.heap.size 0 [.int .u64 ((zl dq.num : Nat) : Int), .string (zh dq.num), .bool (zs dq.num), .int .u64 ((lo (fe dq) : Nat) : Int), .string (hs (fe dq))] = q := ⟨_, rfl⟩
 have hb4 : Below x18.heap.size x18 x20 := hb3.trans (by rw [← hy]; exact (setAll_upd _ _ _ _).below (Nat.le_refl _))
 rw [hy] at hP
 simp only [setAll, Nat.zero_add, Nat.reduceAdd] at hy
 simp only [List.set_cons_zero] at hP
 have hA := hL0.fc
 simp only [fcG, cellsF, neK, and_true, ne_eq, Nat.zero_add, Nat.reduceAdd] at hA
 have hB := hP.fc
 simp only [fcG, cellsF, neK, and_true, ne_eq, Nat.zero_add, Nat.reduceAdd] at hB
 replace ht := ht.below hb4
 replace hm := hm.below hb4
 replace hv := hv.below hb4
 clear hb3 hb4
 replace hL0 := hP
 clear hP
 go_upto_region 22 with fail
 clear hA hweq hy
 have hA := hB
 clear hB hv
 have hb3 : Below x20.heap.size x20 (x20.alloc (.cells (frCs (List.replicate 2049 0)).toArray 36)) := (Below.refl _ _).alloc (Nat.le_refl _) _
 have hv2 : SlQ (x20.alloc (.cells (frCs (List.replicate 2049 0)).toArray 36)) (.slice (some ⟨x20.heap.size, 0, none⟩) 2049 2049) (List.replicate 2049 0) := slq_new0 (hd_new x20 (frCs (List.replicate 2049 0)) _)
 have hmkz' := hmkz.out x20
 generalize hwzhmkz' : (x20.alloc (.cells (frCs (List.replicate 2049 0)).toArray 36)) = x21 at hb3 hv2
 rw [hwzhmkz'] at hmkz'
 replace hL0 := hL0.call hb3
 replace ht := ht.below hb3
 replace hm := hm.below hb3
 clear hb3 hwzhmkz'
 clear hA
 have hA := hL0.fc
 simp only [fcG, cellsF, neK, and_true, ne_eq, Nat.zero_add, Nat.reduceAdd] at hA
 go_wp2_with fail
 refine Calls.mono (HS2.out _ _ hv2) ?_
 rintro e x22 ⟨rfl, hb⟩
 replace hL0 := hL0.call hb
 replace ht := ht.below hb
 replace hm := hm.below hb
 replace hv2 := hv2.below hb
 clear hb hA hmkz' HS2
 replace hL0 := hL0.new rfl [.slice none 0 0, .slice none 0 0] 117
 generalize hweq : x22.alloc (.cells #[.slice none 0 0, .slice none 0 0] 117) = x23 at hL0
 have hb3 : Below x22.heap.size x22 x23 := by rw [← hweq]; exact (Below.refl _ _).alloc (Nat.le_refl _) _
 have hP := hL0.put 0 x22.heap.size _ rfl [.slice none 0 0, .slice none 0 0] rfl
 obtain ⟨x24, hy⟩ : ∃ q, setAll x23 x22.heap.size 0 [.slice none 0 0, .slice none 0 0] = q := ⟨_, rfl⟩
 have hb4 : Below x22.heap.size x22 x24 := hb3.trans (by rw [← hy]; exact (setAll_upd _ _ _ _).below (Nat.le_refl _))
 rw [hy] at hP
 simp only [setAll, Nat.zero_add, Nat.reduceAdd] at hy
 simp only [List.set_cons_zero] at hP
 have hA := hL0.fc
 simp only [fcG, cellsF, neK, and_true, ne_eq, Nat.zero_add, Nat.reduceAdd] at hA
 have hB := hP.fc
 simp only [fcG, cellsF, neK, and_true, ne_eq, Nat.zero_add, Nat.reduceAdd] at hB
 replace ht := ht.below hb4
 replace hm := hm.below hb4
 replace hv2 := hv2.below hb4
 clear hb3 hb4
 replace hL0 := hP
 clear hP
 go_upto_region 23 with fail
 clear hA hweq hy hv2
 have hA := hB
 clear hB
 have hb3 : Below x24.heap.size x24 (x24.alloc (.cells (frCs (List.replicate 2049 0)).toArray 36)) := (Below.refl _ _).alloc (Nat.le_refl _) _
 have hv3 : SlQ (x24.alloc (.cells (frCs (List.replicate 2049 0)).toArray 36)) (.slice (some ⟨x24.heap.size, 0, none⟩) 2049 2049) (List.replicate 2049 0) := slq_new0 (hd_new x24 (frCs (List.replicate 2049 0)) _)
 have hmky' := hmky.out x24
 generalize hwzhmky' : (x24.alloc (.cells (frCs (List.replicate 2049 0)).toArray 36)) = x25 at hb3 hv3
 rw [hwzhmky'] at hmky'
 replace hL0 := hL0.call hb3
 replace ht := ht.below hb3
 replace hm := hm.below hb3
 clear hb3 hwzhmky'
 clear hA
 have hA := hL0.fc
 simp only [fcG, cellsF, neK, and_true, ne_eq, Nat.zero_add, Nat.reduceAdd] at hA
 go_wp2_with fail
 refine Calls.mono (HA2.out _ _ hv3) ?_
 rintro e x26 ⟨rfl, hb⟩
 replace hL0 := hL0.call hb
 replace ht := ht.below hb
 replace hm := hm.below hb
 replace hv3 := hv3.below hb
 clear hb hA hmky' HA2
 have hA := hL0.fc
 simp only [fcG, cellsF, neK, and_true, ne_eq, Nat.zero_add, Nat.reduceAdd] at hA
 go_wp2_with fail
 refine Calls.mono (HMi.out _ _ (xm_of hm (Nat.le_refl _))) ?_
 rintro e x27 ⟨rfl, hb⟩
 replace hL0 := hL0.call hb
 replace ht := ht.below hb
 replace hm := hm.below hb
 replace hv3 := hv3.below hb
 clear hb hA HMi
 replace hL0 := hL0.new rfl [.int .u64 0, .string ⟨#[]⟩, .bool false, .int .u64 0, .string ⟨#[]⟩] 36
 generalize hweq : x27.alloc (.cells #[.int .u64 0, .string ⟨#[]⟩, .bool false, .int .u64 0, .string ⟨#[]⟩] 36) = x28 at hL0
 have hb3 : Below x27.heap.size x27 x28 := by rw [← hweq]; exact (Below.refl _ _).alloc (Nat.le_refl _) _
 have hP := hL0.put 0 x27.heap.size _ rfl [.int .u64 ((zl mq.num : Nat) : Int), .string (zh mq.num), .bool (zs mq.num), .int .u64 ((lo (fe mq) : Nat) : Int), .string (hs (fe mq))] rfl
 obtain ⟨x29, hy⟩ : ∃ q, setAll x28 x27.heap.size 0 [.int .u64 ((zl mq.num : Nat) : Int), .string (zh mq.num), .bool (zs mq.num), .int .u64 ((lo (fe mq) : Nat) : Int), .string (hs (fe mq))] = q := ⟨_, rfl⟩
 have hb4 : Below x27.heap.size x27 x29 := hb3.trans (by rw [← hy]; exact (setAll_upd _ _ _ _).below (Nat.le_refl _))
 rw [hy] at hP
 simp only [setAll, Nat.zero_add, Nat.reduceAdd] at hy
 simp only [List.set_cons_zero] at hP
 have hA := hL0.fc
 simp only [fcG, cellsF, neK, and_true, ne_eq, Nat.zero_add, Nat.reduceAdd] at hA
 have hB := hP.fc
 simp only [fcG, cellsF, neK, and_true, ne_eq, Nat.zero_add, Nat.reduceAdd] at hB
 replace ht := ht.below hb4
 replace hm := hm.below hb4
 replace hv3 := hv3.below hb4
 clear hb3 hb4
 replace hL0 := hP
 clear hP
 go_wp2_with fail
 refine Calls.mono (HW.out _ ht) ?_
 rintro e z9 ⟨rfl, hb⟩
 replace hL0 := hL0.call hb
 clear hb hA hB hweq hy HW
 go_wp2_with fail
 exact bodyPost_ret (v := .bool true) (by simp [results, Tryz.results14, go_sem]) rfl ⟨rfl, hL0.bl⟩
end Go.Proofs.YtjdjhlmcbffocaaGreatDoor
namespace Go.Proofs.YtjdjhlmcbffocaaGreatDoor
open Go.RowKit
attribute [local irreducible] lo hs sm s64 c64 d64 b64 mh ml pd pc qd qc val hiB str cmpI srD lz nb zl zh zs fe rowV tabV gv bsV tabM
/-- A solution with a kernel of one vector. -/
def SOk (sx k1 : List Rat) (v : Value) (w : World) : Prop := ∃ a b, v = .tuple #[.agg #[a, b], .int .i64 0] ∧ SlQ w a sx ∧ VLs w b [k1]
theorem stays_sok (sx k1 : List Rat) : Stays (SOk sx k1) := fun v w w' hb ⟨a, b, h1, h2, h3⟩ => ⟨a, b, h1, h2.below hb, h3.below hb⟩
def PT9 (l : List Rat) (v : Value) (w : World) : Prop := SlQ w v l
theorem stays_pt9 (l : List Rat) : Stays (PT9 l) := fun v w w' hb h => SlQ.below h hb
def SO5 (sx k1 : List Rat) (v : Value) (w : World) : Prop := ∃ a b, v = .agg #[a, b] ∧ SlQ w a sx ∧ VLs w b [k1]
theorem stays_so5 (sx k1 : List Rat) : Stays (SO5 sx k1) := fun v w w' hb ⟨a, b, h1, h2, h3⟩ => ⟨a, b, h1, h2.below hb, h3.below hb⟩
theorem new_sol (w : World) : (Instr.alloc 117 true (.tuple #[])).run Tryz.prog w = .ok (.pointer (some ⟨w.heap.size, 0, none⟩)) (w.alloc (.cells #[.slice none 0 0, .slice none 0 0] 117)) := by
 simp [go_sem]
theorem slq_put {W W' : World} {v : Value} {l : List Rat} {k : Nat} {cs : List Value} (h : SlQ W v l) (hu : Upd k W W') (hd : Hd W k (.slice none 0 0 :: cs)) : SlQ W' v l :=
 (PTs.putM (S := [(v, l)]) (fun p hp => by obtain rfl := List.mem_singleton.1 hp; exact h) hu hd (by intro n; simp)) (v, l) (List.mem_singleton.2 rfl)
theorem vls_put {W W' : World} {v : Value} {x : List Rat} {k : Nat} {cs : List Value} (h : VLs W v [x]) (hx : x ≠ []) (hu : Upd k W W') (hd : Hd W k (.slice none 0 0 :: cs)) : VLs W' v [x] := by
 obtain ⟨ao, c, g, rfl, h1, h2⟩ := h
 obtain ⟨u, h3, h4⟩ := h2 0 (by simp)
 obtain ⟨e1, h5⟩ := h1 (by simp)
 have hne : g ≠ k := fun e => by
  subst e
  rw [hd.cell 0 (by simp)] at h3
  have h6 : (.slice none 0 0 : Value) = u := by simpa using h3
  rcases h4 with ⟨_, _, _, h⟩ | ⟨g2, c2, h, _⟩
  ·exact hx h
  ·rw [h] at h6; simp at h6
 refine ⟨ao, c, g, rfl, fun _ => ⟨e1, by rw [hu.size]; exact h5⟩, fun i hi => ?_⟩
 obtain rfl : i = 0 := by simpa using hi
 exact ⟨u, (World.cell?_of_block (a := ⟨g, 0, none⟩) (hu.block g hne)).trans h3, slq_put h4 hu hd⟩
theorem vls_head {W : World} {v : Value} {x : List Rat} (h : VLs W v [x]) : ∃ g c u, v = .slice (some ⟨g, 0, none⟩) 1 c ∧ W.cell? ⟨g, 0, none⟩ = some u ∧ SlQ W u x := by
 obtain ⟨ao, c, g, rfl, h1, h2⟩ := h
 obtain ⟨u, h3, h4⟩ := h2 0 (by simp)
 obtain ⟨rfl, h5⟩ := h1 (by simp)
 exact ⟨g, c, u, rfl, h3, h4⟩
/-- A certificate of two elements. -/
def AOk (v : Value) : Prop := ∃ g, v = .tuple #[.slice (some ⟨g, 0, none⟩) 2 2, .int .i64 0]
def AOw (v : Value) (w : World) : Prop := AOk v
theorem stays_aow : Stays AOw := fun v w w' hb h => h
def AO5 (v : Value) (w : World) : Prop := ∃ g, v = .slice (some ⟨g, 0, none⟩) 2 2
theorem stays_ao5 : Stays AO5 := fun v w w' hb h => h
set_option maxHeartbeats 16000000 in
set_option maxRecDepth 100000 in
theorem eworks_w (m1 mr m2 m3 mi : Mx) (k1 vb sx : List Rat) (dt o1 : Rat)
  (HO1 : ∀ (p : Value) (w : World), ILs w p [1, 2, 3, 2, 4, 7] → Calls Tryz.prog 102 #[.int .i64 2, .int .i64 3, p] w fun e w' => (∃ pv, e = .returned (.tuple #[pv, .int .i64 0]) ∧ MT w' pv m1) ∧ Below w.heap.size w w')
  (HR1 : ∀ (u : Value) (w : World), MT w u m1 → Calls Tryz.prog 50 #[u] w fun e w' => (∃ pv s, e = .returned (.tuple #[pv, s, .int .i64 0]) ∧ MT w' pv mr ∧ ILs w' s [0, 2]) ∧ Below w.heap.size w w')
  (HK1 : ∀ (u : Value) (w : World), MT w u m1 → Calls Tryz.prog 65 #[u] w fun e w' => (∃ s, e = .returned (.tuple #[s, .int .i64 0]) ∧ VLs w' s [k1]) ∧ Below w.heap.size w w')
  (HVo : ∀ (p : Value) (w : World), ILs w p [1, 3] → Calls Tryz.prog 79 #[p] w fun e w' => (∃ u, e = .returned u ∧ SlQ w' u vb) ∧ Below w.heap.size w w')
  (HS1 : ∀ (u s : Value) (w : World), MT w u m1 → SlQ w s vb → Calls Tryz.prog 69 #[u, s] w fun e w' => (∃ v, e = .returned v ∧ SOk sx k1 v w') ∧ Below w.heap.size w w')
  (HTm : ∀ (u : Value) (w : World), Tab w → MT w u mr → Calls Tryz.prog 54 #[u] w fun e w' => e = .returned (.string (ByteArray.mk #[91, 49, 32, 50, 32, 48, 93, 32, 91, 48, 32, 48, 32, 49, 93])) ∧ Below w.heap.size w w')
  (HSm : ∀ (a b : Value) (w : World), ILs w a [0, 2] → ILs w b [0, 2] → Calls Tryz.prog 56 #[a, b] w fun e w' => e = .returned (.bool true) ∧ Below w.heap.size w w')
  (HTk : ∀ (u : Value) (w : World), Tab w → SlQ w u k1 → Calls Tryz.prog 81 #[u] w fun e w' => e = .returned (.string (ByteArray.mk #[91, 45, 50, 32, 49, 32, 48, 93])) ∧ Below w.heap.size w w')
  (HTs : ∀ (u : Value) (w : World), Tab w → SlQ w u sx → Calls Tryz.prog 81 #[u] w fun e w' => e = .returned (.string (ByteArray.mk #[91, 45, 50, 32, 48, 32, 49, 93])) ∧ Below w.heap.size w w')
  (HO2 : ∀ (p : Value) (w : World), ILs w p [1, 2, 2, 4] → Calls Tryz.prog 102 #[.int .i64 2, .int .i64 2, p] w fun e w' => (∃ pv, e = .returned (.tuple #[pv, .int .i64 0]) ∧ MT w' pv m2) ∧ Below w.heap.size w w')
  (HS2 : ∀ (u s : Value) (w : World), MT w u m2 → SlQ w s vb → Calls Tryz.prog 69 #[u, s] w fun e w' => e = .returned (.tuple #[.agg #[.slice none 0 0, .slice none 0 0], .int .i64 6]) ∧ Below w.heap.size w w')
  (HA2 : ∀ (u s : Value) (w : World), MT w u m2 → SlQ w s vb → Calls Tryz.prog 70 #[u, s] w fun e w' => (∃ v, e = .returned v ∧ AOk v) ∧ Below w.heap.size w w')
  (HO3 : ∀ (p : Value) (w : World), ILs w p [1, 2, 3, 4] → Calls Tryz.prog 102 #[.int .i64 2, .int .i64 2, p] w fun e w' => (∃ pv, e = .returned (.tuple #[pv, .int .i64 0]) ∧ MT w' pv m3) ∧ Below w.heap.size w w')
  (HD3 : ∀ (u : Value) (w : World), MT w u m3 → Calls Tryz.prog 57 #[u] w fun e w' => e = .returned (.tuple #[.agg #[.int .u64 ((zl dt.num : Nat) : Int), .string (zh dt.num), .bool (zs dt.num), .int .u64 ((lo (fe dt) : Nat) : Int), .string (hs (fe dt))], .int .i64 0]) ∧ Below w.heap.size w w')
  (HI3 : ∀ (u : Value) (w : World), MT w u m3 → Calls Tryz.prog 73 #[u] w fun e w' => (∃ pv, e = .returned (.tuple #[pv, .int .i64 0]) ∧ MT w' pv mi) ∧ Below w.heap.size w w')
  (HM3 : ∀ (u : Value) (w : World), MT w u m3 → Calls Tryz.prog 76 #[u, .int .i64 1] w fun e w' => e = .returned (.tuple #[.agg #[.int .u64 ((zl o1.num : Nat) : Int), .string (zh o1.num), .bool (zs o1.num), .int .u64 ((lo (fe o1) : Nat) : Int), .string (hs (fe o1))], .int .i64 0]) ∧ Below w.heap.size w w')
  (HN2 : ∀ w, Calls Tryz.prog 17 #[.int .i64 (-2)] w fun e w' => e = .returned (.agg #[.int .u64 ((zl dt.num : Nat) : Int), .string (zh dt.num), .bool (zs dt.num), .int .u64 ((lo (fe dt) : Nat) : Int), .string (hs (fe dt))]) ∧ Below w.heap.size w w')
  (HN1 : ∀ w, Calls Tryz.prog 17 #[.int .i64 1] w fun e w' => e = .returned (.agg #[.int .u64 ((zl o1.num : Nat) : Int), .string (zh o1.num), .bool (zs o1.num), .int .u64 ((lo (fe o1) : Nat) : Int), .string (hs (fe o1))]) ∧ Below w.heap.size w w')
  (HTi : ∀ (u : Value) (w : World), Tab w → MT w u mi → Calls Tryz.prog 54 #[u] w fun e w' => e = .returned (.string (ByteArray.mk #[91, 45, 50, 32, 49, 93, 32, 91, 51, 47, 50, 32, 45, 49, 47, 50, 93])) ∧ Below w.heap.size w w')
  (hm1r : (m1.r : Int) = 2) (hm1c : (m1.c : Int) = 3)
  (hmrr : (mr.r : Int) = 2) (hmrc : (mr.c : Int) = 3)
  (hm2r : (m2.r : Int) = 2) (hm2c : (m2.c : Int) = 2)
  (hm3r : (m3.r : Int) = 2) (hm3c : (m3.c : Int) = 2)
  (hmir : (mi.r : Int) = 2) (hmic : (mi.c : Int) = 2)
  (hk9 : k1 ≠ []) (w : World) (ht : Tab w) : Calls Tryz.prog 49 #[] w fun e w' => e = .returned (.bool true) ∧ Below w.heap.size w w' := by
 replace HO1 := Lib.hid HO1
 replace HR1 := Lib.hid HR1
 replace HK1 := Lib.hid HK1
 replace HVo := Lib.hid HVo
 replace HS1 := Lib.hid HS1
 replace HTm := Lib.hid HTm
 replace HSm := Lib.hid HSm
 replace HTk := Lib.hid HTk
 replace HTs := Lib.hid HTs
 replace HO2 := Lib.hid HO2
 replace HS2 := Lib.hid HS2
 replace HA2 := Lib.hid HA2
 replace HO3 := Lib.hid HO3
 replace HD3 := Lib.hid HD3
 replace HI3 := Lib.hid HI3
 replace HM3 := Lib.hid HM3
 replace HN2 := Lib.hid HN2
 replace HN1 := Lib.hid HN1
 replace HTi := Lib.hid HTi
 replace hm1r := Lib.hid hm1r
 replace hm1c := Lib.hid hm1c
 replace hmrr := Lib.hid hmrr
 replace hmrc := Lib.hid hmrc
 replace hm2r := Lib.hid hm2r
 replace hm2c := Lib.hid hm2c
 replace hm3r := Lib.hid hm3r
 replace hm3c := Lib.hid hm3c
 replace hmir := Lib.hid hmir
 replace hmic := Lib.hid hmic
 replace hk9 := Lib.hid hk9
 have hL0 : GL w w [] := GL.start w
 replace hL0 := hL0.new rfl [.int .i64 1, .int .i64 2, .int .i64 3, .int .i64 2, .int .i64 4, .int .i64 7] 2
 generalize hweq : w.alloc (.cells #[.int .i64 1, .int .i64 2, .int .i64 3, .int .i64 2, .int .i64 4, .int .i64 7] 2) = x1 at hL0
 have hb3 : Below w.heap.size w x1 := by rw [← hweq]; exact (Below.refl _ _).alloc (Nat.le_refl _) _
 replace ht := ht.below hb3
 clear hb3
 have hA := hL0.fc
 simp only [fcG, cellsF, neK, and_true, ne_eq, Nat.zero_add, Nat.reduceAdd] at hA
 go_enter Tryz.func49, Tryz.ntmps49
 have il : ILs x1 (.slice (some ⟨w.heap.size, 0, none⟩) 6 6) [1, 2, 3, 2, 4, 7] := ils_at (hL0.get _ _ List.mem_cons_self) rfl rfl
 go_wp2_with fail
 refine Calls.mono (HO1.out _ _ il) ?_
 rintro e x2 ⟨⟨pv, rfl, hm⟩, hb⟩
 replace hL0 := hL0.call hb
 replace ht := ht.below hb
 clear hb hA hweq il HO1
 obtain ⟨a1, n1, c1, rfl, f1, hc1⟩ := mt_form hm hm1r.out hm1c.out
 replace hc1 := Lib.hid hc1
 replace hL0 := hL0.new rfl [.int .i64 0, .int .i64 0, .slice none 0 0] 56
 generalize hweq : x2.alloc (.cells #[.int .i64 0, .int .i64 0, .slice none 0 0] 56) = x3 at hL0
 have hb3 : Below x2.heap.size x2 x3 := by rw [← hweq]; exact (Below.refl _ _).alloc (Nat.le_refl _) _
 have hP := hL0.put 0 x2.heap.size _ rfl [.int .i64 2, .int .i64 3, .slice a1 n1 c1] rfl
 obtain ⟨x4, hy⟩ : ∃ q, setAll x3 x2.heap.size 0 [.int .i64 2, .int .i64 3, .slice a1 n1 c1] = q := ⟨_, rfl⟩
 have hb4 : Below x2.heap.size x2 x4 := hb3.trans (by rw [← hy]; exact (setAll_upd _ _ _ _).below (Nat.le_refl _))
 rw [hy] at hP
 simp only [setAll, Nat.zero_add, Nat.reduceAdd] at hy
 simp only [List.set_cons_zero] at hP
 have hA := hL0.fc
 simp only [fcG, cellsF, neK, and_true, ne_eq, Nat.zero_add, Nat.reduceAdd] at hA
 have hB := hP.fc
 simp only [fcG, cellsF, neK, and_true, ne_eq, Nat.zero_add, Nat.reduceAdd] at hB
 replace ht := ht.below hb4
 replace f1 := f1.below hb4
 clear hb3 hb4
 replace hL0 := hP
 clear hP
 go_wp2_with fail
 refine Calls.mono (HR1.out _ _ (mt_of f1 hc1.out hm1r.out hm1c.out)) ?_
 rintro e x5 ⟨⟨pv, sp, rfl, hm, hs9⟩, hb⟩
 replace hL0 := hL0.call hb
 replace ht := ht.below hb
 replace f1 := f1.below hb
 clear hb hA hB hweq hy HR1
 obtain ⟨a2, n2, c2, rfl, f2, hc2⟩ := mt_form hm hmrr.out hmrc.out
 replace hc2 := Lib.hid hc2
 obtain ⟨a3, n3, c3, rfl⟩ := ils_form hs9
 replace hL0 := hL0.new rfl [.int .i64 0, .int .i64 0, .slice none 0 0] 56
 generalize hweq : x5.alloc (.cells #[.int .i64 0, .int .i64 0, .slice none 0 0] 56) = x6 at hL0
 have hb3 : Below x5.heap.size x5 x6 := by rw [← hweq]; exact (Below.refl _ _).alloc (Nat.le_refl _) _
 have hP := hL0.put 0 x5.heap.size _ rfl [.int .i64 2, .int .i64 3, .slice a2 n2 c2] rfl
 obtain ⟨x7, hy⟩ : ∃ q, setAll x6 x5.heap.size 0 [.int .i64 2, .int .i64 3, .slice a2 n2 c2] = q := ⟨_, rfl⟩
 have hb4 : Below x5.heap.size x5 x7 := hb3.trans (by rw [← hy]; exact (setAll_upd _ _ _ _).below (Nat.le_refl _))
 rw [hy] at hP
 simp only [setAll, Nat.zero_add, Nat.reduceAdd] at hy
 simp only [List.set_cons_zero] at hP
 have hA := hL0.fc
 simp only [fcG, cellsF, neK, and_true, ne_eq, Nat.zero_add, Nat.reduceAdd] at hA
 have hB := hP.fc
 simp only [fcG, cellsF, neK, and_true, ne_eq, Nat.zero_add, Nat.reduceAdd] at hB
 replace ht := ht.below hb4
 replace f1 := f1.below hb4
 replace f2 := f2.below hb4
 replace hs9 := hs9.below hb4
 clear hb3 hb4
 replace hL0 := hP
 clear hP
 go_wp2_with fail
 refine Calls.mono (HK1.out _ _ (mt_of f1 hc1.out hm1r.out hm1c.out)) ?_
 rintro e x8 ⟨⟨sk, rfl, hk⟩, hb⟩
 replace hL0 := hL0.call hb
 replace ht := ht.below hb
 replace f1 := f1.below hb
 replace f2 := f2.below hb
 replace hs9 := hs9.below hb
 clear hb hA hB hweq hy HK1
 obtain ⟨a4, n4, c4, rfl⟩ := vls_form hk
 have hA := hL0.fc
 simp only [fcG, cellsF, neK, and_true, ne_eq, Nat.zero_add, Nat.reduceAdd] at hA
 go_upto_region 4 with fail
 clear hA
 refine region_tbl 8 6 [EV (.agg #[.int .i64 2, .int .i64 3, .slice a1 n1 c1]), PI [1, 3], PT9 vb, SOk sx k1, SOk sx k1, SO5 sx k1, EV (.int .i64 0), NewB x8.heap.size [.slice none 0 0, .slice none 0 0]] [7] (by kernel_rfl) (by kernel_rfl) ?_ ?_ ?_ ?_ ?_ (by kernel_rfl) ?_
 ·exact (stays_cons (stays_eq _) (stays_cons (stays_pi _) (stays_cons (stays_pt9 _) (stays_cons (stays_sok _ _) (stays_cons (stays_sok _ _) (stays_cons (stays_so5 _ _) (stays_cons (stays_eq _) (stays_cons (stays_new _ _) stays_nil))))))))
 ·simp only [List.take_succ_cons, List.take_zero, hopsR, and_true]
  refine ⟨?_, ?_, ?_, ?_, ?_, ?_, ?_, ?_⟩ <;> intro fv w1 hb1 hp
  all_goals (simp only [putsV, Act.put, List.setIfInBounds_toArray, List.set_cons_succ, List.set_cons_zero, Nat.zero_add, Nat.reduceAdd])
  ·refine tyAt_none rfl ?_
   have hc := (hL0.call (below_drew hb1)).fc
   simp only [fcG, cellsF, neK, and_true, ne_eq, Nat.zero_add, Nat.reduceAdd] at hc
   simp [tyUpon, execOp, go_sem, Act.eval, hc, Below.refl]
  ·refine tyAt_none rfl ?_
   refine ty_val8 (u := .slice (some ⟨w1.heap.size, 0, none⟩) 2 2) (w' := w1.alloc (.cells #[.int .i64 1, .int .i64 3] 2)) (by simp [execOp, go_sem, Act.eval]) ((Below.refl _ _).alloc (Nat.le_refl _) _) (ils_at (hd_new w1 [.int .i64 1, .int .i64 3] _) rfl rfl)
  ·have h1 : PI [1, 3] (fv 1) w1 := hp 1 (LC (by kernel_rfl))
   refine tyAt_none rfl ?_
   refine ty_call (f := 79) (args := #[fv 1]) (by simp [execOp, go_sem, Act.eval]) ?_
   exact (HVo.out (fv 1) w1 h1).mono fun e w2 ⟨⟨u, h1, h2⟩, h3⟩ => ⟨_, h1, h2, h3⟩
  ·have h0 : EV (.agg #[.int .i64 2, .int .i64 3, .slice a1 n1 c1]) (fv 0) w1 := hp 0 (LC (by kernel_rfl))
   have h2 : PT9 vb (fv 2) w1 := hp 2 (LC (by kernel_rfl))
   refine tyAt_none rfl ?_
   refine ty_call (f := 69) (args := #[.agg #[.int .i64 2, .int .i64 3, .slice a1 n1 c1], fv 2]) (by simp [execOp, go_sem, Act.eval, h0]) ?_
   exact (HS1.out _ (fv 2) w1 (mt_of (f1.below (below_drew hb1)) hc1.out hm1r.out hm1c.out) h2).mono fun e w2 ⟨⟨v, h1, h2⟩, h3⟩ => ⟨_, h1, h2, h3⟩
  ·have h3 : SOk sx k1 (fv 3) w1 := hp 3 (LC (by kernel_rfl))
   refine tyAt_none rfl ?_
   obtain ⟨pa, pb, pe, pf, pg⟩ := h3
   have pz : SOk sx k1 (.tuple #[.agg #[pa, pb], .int .i64 0]) w1 := ⟨pa, pb, rfl, pf, pg⟩
   simp [tyUpon, execOp, go_sem, Act.eval, pe, pz, Below.refl]
  ·have h4 : SOk sx k1 (fv 4) w1 := hp 4 (LC (by kernel_rfl))
   refine tyAt_none rfl ?_
   obtain ⟨pa, pb, pe, pf, pg⟩ := h4
   have pz : SO5 sx k1 (.agg #[pa, pb]) w1 := ⟨pa, pb, rfl, pf, pg⟩
   simp [tyUpon, execOp, go_sem, Act.eval, pe, pz, Below.refl]
  ·have h4 : SOk sx k1 (fv 4) w1 := hp 4 (LC (by kernel_rfl))
   refine tyAt_none rfl ?_
   obtain ⟨pa, pb, pe, pf, pg⟩ := h4
   simp [tyUpon, execOp, go_sem, Act.eval, pe, Below.refl]
  ·exact tyAt_new rfl rfl new_sol (below_drew hb1).size
 ·intro j hj u w2 hT
  simp only [List.contains_iff_mem, List.mem_cons, List.not_mem_nil, or_false] at hj
  rcases hj with rfl <;> exact NewB.ptr hT
 ·exact ⟨⟨_, _, _, _, rfl, rfl, rfl, new_sol⟩, trivial⟩
 ·intro fv wl hb1 hv
  obtain ⟨sa, sb, e5, qa, qb⟩ : SO5 sx k1 (fv 5) wl := hv 5 (by omega) (by omega)
  obtain ⟨a5, c5, rfl⟩ := slq_form' qa
  obtain ⟨a6, n6, c6, rfl⟩ := vls_form qb
  obtain ⟨ta, tb, e4, -, -⟩ : SOk sx k1 (fv 4) wl := hv 4 (by omega) (by omega)
  obtain ⟨kb, e7, n9, m9⟩ : NewB x8.heap.size [.slice none 0 0, .slice none 0 0] (fv 7) wl := hv 7 (by omega) (by omega)
  have hx0 := hL0
  replace hL0 := hL0.call (below_drew hb1)
  replace hL0 := GL.tnew (M := []) hL0 hx0 n9 m9 (fun p hp => by cases hp)
  simp only [List.cons_append, List.nil_append] at hL0
  have hA := hL0.fc
  simp only [fcG, cellsF, neK, and_true, ne_eq, Nat.zero_add, Nat.reduceAdd] at hA
  have hP := hL0.put 0 kb _ rfl [.slice a5 sx.length c5, .slice a6 n6 c6] rfl
  simp only [setAll, List.set_cons_zero, List.set_cons_succ] at hP
  have hB1 := hP.fc
  simp only [fcG, cellsF, neK, and_true, ne_eq, Nat.zero_add, Nat.reduceAdd] at hB1
  refine ⟨((wl.setCell ⟨kb, 0, none⟩ (.slice a5 sx.length c5)).setCell ⟨kb, 1, none⟩ (.slice a6 n6 c6)), .int .i64 0, fun o ho => ?_, fun o ho => ?_, ?_⟩
  ·obtain rfl := Option.some.inj ho
   simp [execOp, go_sem, Act.eval, putsV, Act.put, List.take_succ_cons, List.take_zero, List.setIfInBounds_toArray, List.set_cons_succ, List.set_cons_zero, Nat.zero_add, Nat.reduceAdd, hA, e4, e5, e7]
  ·obtain rfl := Option.some.inj ho
   simp [execOp, go_sem, Act.eval, putsV, Act.put, List.take_succ_cons, List.take_zero, List.setIfInBounds_toArray, List.set_cons_succ, List.set_cons_zero, Nat.zero_add, Nat.reduceAdd, hB1, e4, e5, e7]
  ·rfl
 ·intro fv x9 hb1 hv hne
  obtain ⟨sa, sb, e5, hsa, hsb⟩ : SO5 sx k1 (fv 5) x9 := hv 5 (by omega)
  obtain ⟨ta, tb, e4, -, -⟩ : SOk sx k1 (fv 4) x9 := hv 4 (by omega)
  have e0 : fv 0 = _ := hv 0 (by omega)
  have e6 : fv 6 = _ := hv 6 (by omega)
  obtain ⟨kb, e7, n9, m9⟩ : NewB x8.heap.size [.slice none 0 0, .slice none 0 0] (fv 7) x9 := hv 7 (by omega)
  have hx0 := hL0
  replace hL0 := hL0.call (below_drew hb1)
  replace hL0 := GL.tnew (M := []) hL0 hx0 n9 m9 (fun p hp => by cases hp)
  simp only [List.cons_append, List.nil_append] at hL0
  simp only [List.take_succ_cons, List.take_zero, putsV, Act.put, List.setIfInBounds_toArray, List.set_cons_succ, List.set_cons_zero, List.drop_succ_cons, List.drop_zero, Nat.zero_add, Nat.reduceAdd, e0, e4, e5, e6, e7]
  have hbd := below_drew hb1
  obtain ⟨a5, c5, rfl⟩ := slq_form' hsa
  obtain ⟨a6, n6, c6, rfl⟩ := vls_form hsb
  have hA := hL0.fc
  simp only [fcG, cellsF, neK, and_true, ne_eq, Nat.zero_add, Nat.reduceAdd] at hA
  have hP := hL0.put 0 kb _ rfl [.slice a5 sx.length c5, .slice a6 n6 c6] rfl
  obtain ⟨x11, hy⟩ : ∃ q, setAll x9 kb 0 [.slice a5 sx.length c5, .slice a6 n6 c6] = q := ⟨_, rfl⟩
  have hu9 := setAll_upd kb [.slice a5 sx.length c5, .slice a6 n6 c6] 0 x9
  rw [hy] at hu9
  replace hsa := slq_put hsa hu9 n9
  replace hsb := vls_put hsb hk9.out hu9 n9
  have hb4 : Below x8.heap.size x8 x11 := hbd.trans (by rw [← hy]; exact (setAll_upd _ _ _ _).below m9)
  rw [hy] at hP
  simp only [setAll, Nat.zero_add, Nat.reduceAdd] at hy
  simp only [List.set_cons_zero, List.set_cons_succ] at hP
  have hB := hP.fc
  simp only [fcG, cellsF, neK, and_true, ne_eq, Nat.zero_add, Nat.reduceAdd] at hB
  replace ht := ht.below hb4
  replace f1 := f1.below hb4
  replace f2 := f2.below hb4
  replace hs9 := hs9.below hb4
  replace hk := hk.below hb4
  clear hbd hb4 hb1 hv hne hx0 n9 m9 e0 e4 e5 e6 e7 hu9
  generalize fv 1 = q1
  generalize fv 2 = q2
  generalize fv 3 = q3
  clear fv
  replace hL0 := hP
  clear hP
  go_wp2_with fail
  refine Calls.mono (HTm.out _ _ ht (mt_of f2 hc2.out hmrr.out hmrc.out)) ?_
  rintro e x12 ⟨rfl, hb⟩
  replace hL0 := hL0.call hb
  replace ht := ht.below hb
  replace f1 := f1.below hb
  replace f2 := f2.below hb
  replace hs9 := hs9.below hb
  replace hk := hk.below hb
  replace hsa := hsa.below hb
  replace hsb := hsb.below hb
  clear hb hA hB hy HTm
  replace hL0 := hL0.new rfl [.int .i64 0, .int .i64 2] 3
  generalize hweq : x12.alloc (.cells #[.int .i64 0, .int .i64 2] 3) = x13 at hL0
  have hb3 : Below x12.heap.size x12 x13 := by rw [← hweq]; exact (Below.refl _ _).alloc (Nat.le_refl _) _
  replace ht := ht.below hb3
  replace f1 := f1.below hb3
  replace f2 := f2.below hb3
  replace hs9 := hs9.below hb3
  replace hk := hk.below hb3
  replace hsa := hsa.below hb3
  replace hsb := hsb.below hb3
  clear hb3
  have il : ILs x13 (.slice (some ⟨x12.heap.size, 0, none⟩) 2 2) [0, 2] := ils_at (hL0.get _ _ List.mem_cons_self) rfl rfl
  go_wp2_with fail
  refine Calls.mono (HSm.out _ _ _ hs9 il) ?_
  rintro e x14 ⟨rfl, hb⟩
  replace hL0 := hL0.call hb
  replace ht := ht.below hb
  replace f1 := f1.below hb
  replace f2 := f2.below hb
  replace hs9 := hs9.below hb
  replace hk := hk.below hb
  replace hsa := hsa.below hb
  replace hsb := hsb.below hb
  clear hb hweq il HSm
  obtain ⟨g9, c9, u9, hk0, hu9c, hu9⟩ := vls_head hk
  obtain ⟨rfl, rfl, rfl⟩ : a4 = some ⟨g9, 0, none⟩ ∧ n4 = 1 ∧ c4 = c9 := by simpa using hk0
  obtain ⟨a7, c7, rfl⟩ := slq_form' hu9
  go_wp2_with fail
  refine Calls.mono (HTk.out _ _ ht hu9) ?_
  rintro e x15 ⟨rfl, hb⟩
  replace hL0 := hL0.call hb
  replace ht := ht.below hb
  replace f1 := f1.below hb
  replace f2 := f2.below hb
  replace hs9 := hs9.below hb
  replace hk := hk.below hb
  replace hsa := hsa.below hb
  replace hsb := hsb.below hb
  replace hu9 := hu9.below hb
  clear hb hu9c HTk
  have hA := hL0.fc
  simp only [fcG, cellsF, neK, and_true, ne_eq, Nat.zero_add, Nat.reduceAdd] at hA
  go_wp2_with fail
  refine Calls.mono (HTs.out _ _ ht hsa) ?_
  rintro e x16 ⟨rfl, hb⟩
  replace hL0 := hL0.call hb
  replace ht := ht.below hb
  replace f1 := f1.below hb
  replace f2 := f2.below hb
  replace hs9 := hs9.below hb
  replace hk := hk.below hb
  replace hsa := hsa.below hb
  replace hsb := hsb.below hb
  replace hu9 := hu9.below hb
  clear hb hA HTs
  obtain ⟨g8, c8, u8, hk0, -, -⟩ := vls_head hsb
  obtain ⟨rfl, rfl, rfl⟩ : a6 = some ⟨g8, 0, none⟩ ∧ n6 = 1 ∧ c6 = c8 := by simpa using hk0
  have hA := hL0.fc
  simp only [fcG, cellsF, neK, and_true, ne_eq, Nat.zero_add, Nat.reduceAdd] at hA
  clear hsa hsb hs9 hk hu9
  replace hL0 := hL0.new rfl [.int .i64 1, .int .i64 2, .int .i64 2, .int .i64 4] 2
  generalize hweq : x16.alloc (.cells #[.int .i64 1, .int .i64 2, .int .i64 2, .int .i64 4] 2) = x17 at hL0
  have hb3 : Below x16.heap.size x16 x17 := by rw [← hweq]; exact (Below.refl _ _).alloc (Nat.le_refl _) _
  replace ht := ht.below hb3
  replace f1 := f1.below hb3
  replace f2 := f2.below hb3
  clear hb3
  have il : ILs x17 (.slice (some ⟨x16.heap.size, 0, none⟩) 4 4) [1, 2, 2, 4] := ils_at (hL0.get _ _ List.mem_cons_self) rfl rfl
  go_wp2_with fail
  refine Calls.mono (HO2.out _ _ il) ?_
  rintro e x18 ⟨⟨pv, rfl, hm⟩, hb⟩
  replace hL0 := hL0.call hb
  replace ht := ht.below hb
  replace f1 := f1.below hb
  replace f2 := f2.below hb
  clear hb hA hweq il HO2
  obtain ⟨a11, n11, c11, rfl, f11, hc11⟩ := mt_form hm hm2r.out hm2c.out
  replace hc11 := Lib.hid hc11
  replace hL0 := hL0.new rfl [.int .i64 0, .int .i64 0, .slice none 0 0] 56
  generalize hweq : x18.alloc (.cells #[.int .i64 0, .int .i64 0, .slice none 0 0] 56) = x19 at hL0
  have hb3 : Below x18.heap.size x18 x19 := by rw [← hweq]; exact (Below.refl _ _).alloc (Nat.le_refl _) _
  have hP := hL0.put 0 x18.heap.size _ rfl [.int .i64 2, .int .i64 2, .slice a11 n11 c11] rfl
  obtain ⟨x20, hy⟩ : ∃ q, setAll x19 x18.heap.size 0 [.int .i64 2, .int .i64 2, .slice a11 n11 c11] = q := ⟨_, rfl⟩
  have hb4 : Below x18.heap.size x18 x20 := hb3.trans (by rw [← hy]; exact (setAll_upd _ _ _ _).below (Nat.le_refl _))
  rw [hy] at hP
  simp only [setAll, Nat.zero_add, Nat.reduceAdd] at hy
  simp only [List.set_cons_zero] at hP
  have hA := hL0.fc
  simp only [fcG, cellsF, neK, and_true, ne_eq, Nat.zero_add, Nat.reduceAdd] at hA
  have hB := hP.fc
  simp only [fcG, cellsF, neK, and_true, ne_eq, Nat.zero_add, Nat.reduceAdd] at hB
  replace ht := ht.below hb4
  replace f1 := f1.below hb4
  replace f2 := f2.below hb4
  replace f11 := f11.below hb4
  clear hb3 hb4
  replace hL0 := hP
  clear hP
  go_upto_region 8 with fail
  clear hA hB hweq hy
  refine region_tbl 8 6 [EV (.agg #[.int .i64 2, .int .i64 2, .slice a11 n11 c11]), PI [1, 3], PT9 vb, EV (.tuple #[.agg #[.slice none 0 0, .slice none 0 0], .int .i64 6]), EV (.tuple #[.agg #[.slice none 0 0, .slice none 0 0], .int .i64 6]), EV (.agg #[.slice none 0 0, .slice none 0 0]), EV (.int .i64 6), NewB x20.heap.size [.slice none 0 0, .slice none 0 0]] [7] (by kernel_rfl) (by kernel_rfl) ?_ ?_ ?_ ?_ ?_ (by kernel_rfl) ?_
  ·exact (stays_cons (stays_eq _) (stays_cons (stays_pi _) (stays_cons (stays_pt9 _) (stays_cons (stays_eq _) (stays_cons (stays_eq _) (stays_cons (stays_eq _) (stays_cons (stays_eq _) (stays_cons (stays_new _ _) stays_nil))))))))
  ·simp only [List.take_succ_cons, List.take_zero, hopsR, and_true]
   refine ⟨?_, ?_, ?_, ?_, ?_, ?_, ?_, ?_⟩ <;> intro fv w1 hb1 hp
   all_goals (simp only [putsV, Act.put, List.setIfInBounds_toArray, List.set_cons_succ, List.set_cons_zero, Nat.zero_add, Nat.reduceAdd])
   ·refine tyAt_none rfl ?_
    have hc := (hL0.call (below_drew hb1)).fc
    simp only [fcG, cellsF, neK, and_true, ne_eq, Nat.zero_add, Nat.reduceAdd] at hc
    simp [tyUpon, execOp, go_sem, Act.eval, hc, Below.refl]
   ·refine tyAt_none rfl ?_
    refine ty_val8 (u := .slice (some ⟨w1.heap.size, 0, none⟩) 2 2) (w' := w1.alloc (.cells #[.int .i64 1, .int .i64 3] 2)) (by simp [execOp, go_sem, Act.eval]) ((Below.refl _ _).alloc (Nat.le_refl _) _) (ils_at (hd_new w1 [.int .i64 1, .int .i64 3] _) rfl rfl)
   ·have h1 : PI [1, 3] (fv 1) w1 := hp 1 (LC (by kernel_rfl))
    refine tyAt_none rfl ?_
    refine ty_call (f := 79) (args := #[fv 1]) (by simp [execOp, go_sem, Act.eval]) ?_
    exact (HVo.out (fv 1) w1 h1).mono fun e w2 ⟨⟨u, h1, h2⟩, h3⟩ => ⟨_, h1, h2, h3⟩
   ·have h0 : EV (.agg #[.int .i64 2, .int .i64 2, .slice a11 n11 c11]) (fv 0) w1 := hp 0 (LC (by kernel_rfl))
    have h2 : PT9 vb (fv 2) w1 := hp 2 (LC (by kernel_rfl))
    refine tyAt_none rfl ?_
    refine ty_call (f := 69) (args := #[.agg #[.int .i64 2, .int .i64 2, .slice a11 n11 c11], fv 2]) (by simp [execOp, go_sem, Act.eval, h0]) ?_
    exact (HS2.out _ (fv 2) w1 (mt_of (f11.below (below_drew hb1)) hc11.out hm2r.out hm2c.out) h2).mono fun e w2 ⟨h1, h3⟩ => ⟨_, h1, rfl, h3⟩
   ·have h3 : EV (.tuple #[.agg #[.slice none 0 0, .slice none 0 0], .int .i64 6]) (fv 3) w1 := hp 3 (LC (by kernel_rfl))
    refine tyAt_none rfl ?_
    simp [tyUpon, execOp, go_sem, Act.eval, h3, Below.refl]
   ·have h4 : EV (.tuple #[.agg #[.slice none 0 0, .slice none 0 0], .int .i64 6]) (fv 4) w1 := hp 4 (LC (by kernel_rfl))
    refine tyAt_none rfl ?_
    simp [tyUpon, execOp, go_sem, Act.eval, h4, Below.refl]
   ·have h4 : EV (.tuple #[.agg #[.slice none 0 0, .slice none 0 0], .int .i64 6]) (fv 4) w1 := hp 4 (LC (by kernel_rfl))
    refine tyAt_none rfl ?_
    simp [tyUpon, execOp, go_sem, Act.eval, h4, Below.refl]
   ·exact tyAt_new rfl rfl new_sol (below_drew hb1).size
  ·intro j hj u w2 hT
   simp only [List.contains_iff_mem, List.mem_cons, List.not_mem_nil, or_false] at hj
   rcases hj with rfl <;> exact NewB.ptr hT
  ·exact ⟨⟨_, _, _, _, rfl, rfl, rfl, new_sol⟩, trivial⟩
  ·intro fv wl hb1 hv
   have e5 : fv 5 = .agg #[.slice none 0 0, .slice none 0 0] := hv 5 (by omega) (by omega)
   have e4 : fv 4 = .tuple #[.agg #[.slice none 0 0, .slice none 0 0], .int .i64 6] := hv 4 (by omega) (by omega)
   obtain ⟨kb, e7, n9, m9⟩ : NewB x20.heap.size [.slice none 0 0, .slice none 0 0] (fv 7) wl := hv 7 (by omega) (by omega)
   have hx0 := hL0
   replace hL0 := hL0.call (below_drew hb1)
   replace hL0 := GL.tnew (M := []) hL0 hx0 n9 m9 (fun p hp => by cases hp)
   simp only [List.cons_append, List.nil_append] at hL0
   have hA := hL0.fc
   simp only [fcG, cellsF, neK, and_true, ne_eq, Nat.zero_add, Nat.reduceAdd] at hA
   have hP := hL0.put 0 kb _ rfl [.slice none 0 0, .slice none 0 0] rfl
   simp only [setAll, List.set_cons_zero, List.set_cons_succ] at hP
   have hB1 := hP.fc
   simp only [fcG, cellsF, neK, and_true, ne_eq, Nat.zero_add, Nat.reduceAdd] at hB1
   refine ⟨((wl.setCell ⟨kb, 0, none⟩ (.slice none 0 0)).setCell ⟨kb, 1, none⟩ (.slice none 0 0)), .int .i64 6, fun o ho => ?_, fun o ho => ?_, ?_⟩
   ·obtain rfl := Option.some.inj ho
    simp [execOp, go_sem, Act.eval, putsV, Act.put, List.take_succ_cons, List.take_zero, List.setIfInBounds_toArray, List.set_cons_succ, List.set_cons_zero, Nat.zero_add, Nat.reduceAdd, hA, e4, e5, e7]
   ·obtain rfl := Option.some.inj ho
    simp [execOp, go_sem, Act.eval, putsV, Act.put, List.take_succ_cons, List.take_zero, List.setIfInBounds_toArray, List.set_cons_succ, List.set_cons_zero, Nat.zero_add, Nat.reduceAdd, hB1, e4, e5, e7]
   ·rfl
  ·intro fv x21 hb1 hv hne
   have e5 : fv 5 = .agg #[.slice none 0 0, .slice none 0 0] := hv 5 (by omega)
   have e4 : fv 4 = .tuple #[.agg #[.slice none 0 0, .slice none 0 0], .int .i64 6] := hv 4 (by omega)
   have e0 : fv 0 = _ := hv 0 (by omega)
   have e6 : fv 6 = _ := hv 6 (by omega)
   obtain ⟨kb, e7, n9, m9⟩ : NewB x20.heap.size [.slice none 0 0, .slice none 0 0] (fv 7) x21 := hv 7 (by omega)
   have hx0 := hL0
   replace hL0 := hL0.call (below_drew hb1)
   replace hL0 := GL.tnew (M := []) hL0 hx0 n9 m9 (fun p hp => by cases hp)
   simp only [List.cons_append, List.nil_append] at hL0
   simp only [List.take_succ_cons, List.take_zero, putsV, Act.put, List.setIfInBounds_toArray, List.set_cons_succ, List.set_cons_zero, List.drop_succ_cons, List.drop_zero, Nat.zero_add, Nat.reduceAdd, e0, e4, e5, e6, e7]
   have hbd := below_drew hb1
   have hA := hL0.fc
   simp only [fcG, cellsF, neK, and_true, ne_eq, Nat.zero_add, Nat.reduceAdd] at hA
   have hP := hL0.put 0 kb _ rfl [.slice none 0 0, .slice none 0 0] rfl
   obtain ⟨x22, hy⟩ : ∃ q, setAll x21 kb 0 [.slice none 0 0, .slice none 0 0] = q := ⟨_, rfl⟩
   have hu9 := setAll_upd kb [.slice none 0 0, .slice none 0 0] 0 x21
   rw [hy] at hu9
   have hb4 : Below x20.heap.size x20 x22 := hbd.trans (by rw [← hy]; exact (setAll_upd _ _ _ _).below m9)
   rw [hy] at hP
   simp only [setAll, Nat.zero_add, Nat.reduceAdd] at hy
   simp only [List.set_cons_zero, List.set_cons_succ] at hP
   have hB := hP.fc
   simp only [fcG, cellsF, neK, and_true, ne_eq, Nat.zero_add, Nat.reduceAdd] at hB
   replace ht := ht.below hb4
   replace f1 := f1.below hb4
   replace f2 := f2.below hb4
   replace f11 := f11.below hb4
   clear hbd hb4 hb1 hv hne hx0 n9 m9 e0 e4 e5 e6 e7 hu9
   generalize fv 1 = q1
   generalize fv 2 = q2
   generalize fv 3 = q3
   clear fv
   replace hL0 := hP
   clear hP
   go_upto_region 9 with fail
   clear hA hy
   have hA := hB
   clear hB
   refine region_tl 9 [EV (.agg #[.int .i64 2, .int .i64 2, .slice a11 n11 c11]), PI [1, 3], PT9 vb, AOw, AOw, AO5, EV (.int .i64 0), AO5, EV (.int .i64 0)] (by kernel_rfl) (by kernel_rfl) ?_ ?_ ?_
   ·exact (stays_cons (stays_eq _) (stays_cons (stays_pi _) (stays_cons (stays_pt9 _) (stays_cons (stays_aow) (stays_cons (stays_aow) (stays_cons (stays_ao5) (stays_cons (stays_eq _) (stays_cons (stays_ao5) (stays_cons (stays_eq _) stays_nil)))))))))
   ·simp only [List.take_succ_cons, List.take_zero, hopsR, and_true]
    refine ⟨?_, ?_, ?_, ?_, ?_, ?_, ?_, ?_, ?_⟩ <;> intro fv w1 hb1 hp
    all_goals (simp only [putsV, Act.put, List.setIfInBounds_toArray, List.set_cons_succ, List.set_cons_zero, Nat.zero_add, Nat.reduceAdd])
    ·refine tyAt_none rfl ?_
     have hc := (hL0.call (below_drew hb1)).fc
     simp only [fcG, cellsF, neK, and_true, ne_eq, Nat.zero_add, Nat.reduceAdd] at hc
     simp [tyUpon, execOp, go_sem, Act.eval, hc, Below.refl]
    ·refine tyAt_none rfl ?_
     refine ty_val8 (u := .slice (some ⟨w1.heap.size, 0, none⟩) 2 2) (w' := w1.alloc (.cells #[.int .i64 1, .int .i64 3] 2)) (by simp [execOp, go_sem, Act.eval]) ((Below.refl _ _).alloc (Nat.le_refl _) _) (ils_at (hd_new w1 [.int .i64 1, .int .i64 3] _) rfl rfl)
    ·have h1 : PI [1, 3] (fv 1) w1 := hp 1 (LC (by kernel_rfl))
     refine tyAt_none rfl ?_
     refine ty_call (f := 79) (args := #[fv 1]) (by simp [execOp, go_sem, Act.eval]) ?_
     exact (HVo.out (fv 1) w1 h1).mono fun e w2 ⟨⟨u, h1, h2⟩, h3⟩ => ⟨_, h1, h2, h3⟩
    ·have h0 : EV (.agg #[.int .i64 2, .int .i64 2, .slice a11 n11 c11]) (fv 0) w1 := hp 0 (LC (by kernel_rfl))
     have h2 : PT9 vb (fv 2) w1 := hp 2 (LC (by kernel_rfl))
     refine tyAt_none rfl ?_
     refine ty_call (f := 70) (args := #[.agg #[.int .i64 2, .int .i64 2, .slice a11 n11 c11], fv 2]) (by simp [execOp, go_sem, Act.eval, h0]) ?_
     exact (HA2.out _ (fv 2) w1 (mt_of (f11.below (below_drew hb1)) hc11.out hm2r.out hm2c.out) h2).mono fun e w2 ⟨⟨v, h1, h2⟩, h3⟩ => ⟨_, h1, h2, h3⟩
    ·have h3 : AOw (fv 3) w1 := hp 3 (LC (by kernel_rfl))
     refine tyAt_none rfl ?_
     obtain ⟨pg, pe⟩ := h3
     have pz : AOw (.tuple #[.slice (some ⟨pg, 0, none⟩) 2 2, .int .i64 0]) w1 := ⟨pg, rfl⟩
     simp [tyUpon, execOp, go_sem, Act.eval, pe, pz, Below.refl]
    ·have h3 : AOw (fv 4) w1 := hp 4 (LC (by kernel_rfl))
     refine tyAt_none rfl ?_
     obtain ⟨pg, pe⟩ := h3
     have pz : AO5 (.slice (some ⟨pg, 0, none⟩) 2 2) w1 := ⟨pg, rfl⟩
     simp [tyUpon, execOp, go_sem, Act.eval, pe, pz, Below.refl]
    ·have h4 : AOw (fv 4) w1 := hp 4 (LC (by kernel_rfl))
     refine tyAt_none rfl ?_
     obtain ⟨pg, pe⟩ := h4
     simp [tyUpon, execOp, go_sem, Act.eval, pe, Below.refl]
    ·have h5 : AO5 (fv 5) w1 := hp 5 (LC (by kernel_rfl))
     refine tyAt_none rfl ?_
     obtain ⟨pg, pe⟩ := h5
     have pz : AO5 (.slice (some ⟨pg, 0, none⟩) 2 2) w1 := ⟨pg, rfl⟩
     simp [tyUpon, execOp, go_sem, Act.eval, pe, pz, Below.refl]
    ·have h6 : EV (.int .i64 0) (fv 6) w1 := hp 6 (LC (by kernel_rfl))
     refine tyAt_none rfl ?_
     simp [tyUpon, execOp, go_sem, Act.eval, h6, Below.refl]
   ·intro fv x23 hb1 hv
    obtain ⟨pg, e7⟩ : AO5 (fv 7) x23 := hv 7 (by omega)
    have e6 : fv 6 = _ := hv 6 (by omega)
    have e8 : fv 8 = _ := hv 8 (by omega)
    simp only [List.take_succ_cons, List.take_zero, putsV, Act.put, List.setIfInBounds_toArray, List.set_cons_succ, List.set_cons_zero, List.drop_succ_cons, List.drop_zero, Nat.zero_add, Nat.reduceAdd, e6, e7, e8]
    have hbd := below_drew hb1
    replace hL0 := hL0.call hbd
    replace ht := ht.below hbd
    replace f1 := f1.below hbd
    replace f2 := f2.below hbd
    replace f11 := f11.below hbd
    clear hbd hb1 hv e6 e7 e8 hA
    generalize fv 0 = p0
    generalize fv 1 = p1
    generalize fv 2 = p2
    generalize fv 3 = p3
    generalize fv 4 = p4
    generalize fv 5 = p5
    clear fv
    clear f11
    replace hL0 := hL0.new rfl [.int .i64 1, .int .i64 2, .int .i64 3, .int .i64 4] 2
    generalize hweq : x23.alloc (.cells #[.int .i64 1, .int .i64 2, .int .i64 3, .int .i64 4] 2) = x24 at hL0
    have hb3 : Below x23.heap.size x23 x24 := by rw [← hweq]; exact (Below.refl _ _).alloc (Nat.le_refl _) _
    replace ht := ht.below hb3
    replace f1 := f1.below hb3
    replace f2 := f2.below hb3
    clear hb3
    have il : ILs x24 (.slice (some ⟨x23.heap.size, 0, none⟩) 4 4) [1, 2, 3, 4] := ils_at (hL0.get _ _ List.mem_cons_self) rfl rfl
    go_wp2_with fail
    refine Calls.mono (HO3.out _ _ il) ?_
    rintro e x25 ⟨⟨pv, rfl, hm⟩, hb⟩
    replace hL0 := hL0.call hb
    replace ht := ht.below hb
    replace f1 := f1.below hb
    replace f2 := f2.below hb
    clear hb  hweq il HO3
    obtain ⟨a12, n12, c12, rfl, f12, hc12⟩ := mt_form hm hm3r.out hm3c.out
    replace hc12 := Lib.hid hc12
    replace hL0 := hL0.new rfl [.int .i64 0, .int .i64 0, .slice none 0 0] 56
    generalize hweq : x25.alloc (.cells #[.int .i64 0, .int .i64 0, .slice none 0 0] 56) = x26 at hL0
    have hb3 : Below x25.heap.size x25 x26 := by rw [← hweq]; exact (Below.refl _ _).alloc (Nat.le_refl _) _
    have hP := hL0.put 0 x25.heap.size _ rfl [.int .i64 2, .int .i64 2, .slice a12 n12 c12] rfl
    obtain ⟨x27, hy⟩ : ∃ q, setAll x26 x25.heap.size 0 [.int .i64 2, .int .i64 2, .slice a12 n12 c12] = q := ⟨_, rfl⟩
    have hb4 : Below x25.heap.size x25 x27 := hb3.trans (by rw [← hy]; exact (setAll_upd _ _ _ _).below (Nat.le_refl _))
    rw [hy] at hP
    simp only [setAll, Nat.zero_add, Nat.reduceAdd] at hy
    simp only [List.set_cons_zero] at hP
    have hA := hL0.fc
    simp only [fcG, cellsF, neK, and_true, ne_eq, Nat.zero_add, Nat.reduceAdd] at hA
    have hB := hP.fc
    simp only [fcG, cellsF, neK, and_true, ne_eq, Nat.zero_add, Nat.reduceAdd] at hB
    replace ht := ht.below hb4
    replace f1 := f1.below hb4
    replace f2 := f2.below hb4
    replace f12 := f12.below hb4
    clear hb3 hb4
    replace hL0 := hP
    clear hP
    go_wp2_with fail
    refine Calls.mono (HD3.out _ _ (mt_of f12 hc12.out hm3r.out hm3c.out)) ?_
    rintro e x28 ⟨rfl, hb⟩
    replace hL0 := hL0.call hb
    replace ht := ht.below hb
    replace f1 := f1.below hb
    replace f2 := f2.below hb
    replace f12 := f12.below hb
    clear hb hA hB hweq hy HD3
    replace hL0 := hL0.new rfl [.int .u64 0, .string ⟨#[]⟩, .bool false, .int .u64 0, .string ⟨#[]⟩] 36
    generalize hweq : x28.alloc (.cells #[.int .u64 0, .string ⟨#[]⟩, .bool false, .int .u64 0, .string ⟨#[]⟩] 36) = x29 at hL0
    have hb3 : Below x28.heap.size x28 x29 := by rw [← hweq]; exact (Below.refl _ _).alloc (Nat.le_refl _) _
    have hP := hL0.put 0 x28.heap.size _ rfl [.int .u64 ((zl dt.num : Nat) : Int), .string (zh dt.num), .bool (zs dt.num), .int .u64 ((lo (fe dt) : Nat) : Int), .string (hs (fe dt))] rfl
    obtain ⟨x30, hy⟩ : ∃ q, setAll x29 x28.heap.size 0 [.int .u64 ((zl dt.num : Nat) : Int), .string (zh dt.num), .bool (zs dt.num), .int .u64 ((lo (fe dt) : Nat) : Int), .string (hs (fe dt))] = q := ⟨_, rfl⟩
    have hb4 : Below x28.heap.size x28 x30 := hb3.trans (by rw [← hy]; exact (setAll_upd _ _ _ _).below (Nat.le_refl _))
    rw [hy] at hP
    simp only [setAll, Nat.zero_add, Nat.reduceAdd] at hy
    simp only [List.set_cons_zero] at hP
    have hA := hL0.fc
    simp only [fcG, cellsF, neK, and_true, ne_eq, Nat.zero_add, Nat.reduceAdd] at hA
    have hB := hP.fc
    simp only [fcG, cellsF, neK, and_true, ne_eq, Nat.zero_add, Nat.reduceAdd] at hB
    replace ht := ht.below hb4
    replace f1 := f1.below hb4
    replace f2 := f2.below hb4
    replace f12 := f12.below hb4
    clear hb3 hb4
    replace hL0 := hP
    clear hP
    go_wp2_with fail
    refine Calls.mono (HI3.out _ _ (mt_of f12 hc12.out hm3r.out hm3c.out)) ?_
    rintro e x31 ⟨⟨pv, rfl, hm⟩, hb⟩
    replace hL0 := hL0.call hb
    replace ht := ht.below hb
    replace f1 := f1.below hb
    replace f2 := f2.below hb
    replace f12 := f12.below hb
    clear hb hA hB hweq hy HI3
    obtain ⟨a13, n13, c13, rfl, f13, hc13⟩ := mt_form hm hmir.out hmic.out
    replace hc13 := Lib.hid hc13
    replace hL0 := hL0.new rfl [.int .i64 0, .int .i64 0, .slice none 0 0] 56
    generalize hweq : x31.alloc (.cells #[.int .i64 0, .int .i64 0, .slice none 0 0] 56) = x32 at hL0
    have hb3 : Below x31.heap.size x31 x32 := by rw [← hweq]; exact (Below.refl _ _).alloc (Nat.le_refl _) _
    have hP := hL0.put 0 x31.heap.size _ rfl [.int .i64 2, .int .i64 2, .slice a13 n13 c13] rfl
    obtain ⟨x33, hy⟩ : ∃ q, setAll x32 x31.heap.size 0 [.int .i64 2, .int .i64 2, .slice a13 n13 c13] = q := ⟨_, rfl⟩
    have hb4 : Below x31.heap.size x31 x33 := hb3.trans (by rw [← hy]; exact (setAll_upd _ _ _ _).below (Nat.le_refl _))
    rw [hy] at hP
    simp only [setAll, Nat.zero_add, Nat.reduceAdd] at hy
    simp only [List.set_cons_zero] at hP
    have hA := hL0.fc
    simp only [fcG, cellsF, neK, and_true, ne_eq, Nat.zero_add, Nat.reduceAdd] at hA
    have hB := hP.fc
    simp only [fcG, cellsF, neK, and_true, ne_eq, Nat.zero_add, Nat.reduceAdd] at hB
    replace ht := ht.below hb4
    replace f1 := f1.below hb4
    replace f2 := f2.below hb4
    replace f12 := f12.below hb4
    replace f13 := f13.below hb4
    clear hb3 hb4
    replace hL0 := hP
    clear hP
    go_wp2_with fail
    refine Calls.mono (HM3.out _ _ (mt_of f12 hc12.out hm3r.out hm3c.out)) ?_
    rintro e x34 ⟨rfl, hb⟩
    replace hL0 := hL0.call hb
    replace ht := ht.below hb
    replace f1 := f1.below hb
    replace f2 := f2.below hb
    replace f12 := f12.below hb
    replace f13 := f13.below hb
    clear hb hA hB hweq hy HM3
    replace hL0 := hL0.new rfl [.int .u64 0, .string ⟨#[]⟩, .bool false, .int .u64 0, .string ⟨#[]⟩] 36
    generalize hweq : x34.alloc (.cells #[.int .u64 0, .string ⟨#[]⟩, .bool false, .int .u64 0, .string ⟨#[]⟩] 36) = x35 at hL0
    have hb3 : Below x34.heap.size x34 x35 := by rw [← hweq]; exact (Below.refl _ _).alloc (Nat.le_refl _) _
    have hP := hL0.put 0 x34.heap.size _ rfl [.int .u64 ((zl o1.num : Nat) : Int), .string (zh o1.num), .bool (zs o1.num), .int .u64 ((lo (fe o1) : Nat) : Int), .string (hs (fe o1))] rfl
    obtain ⟨x36, hy⟩ : ∃ q, setAll x35 x34.heap.size 0 [.int .u64 ((zl o1.num : Nat) : Int), .string (zh o1.num), .bool (zs o1.num), .int .u64 ((lo (fe o1) : Nat) : Int), .string (hs (fe o1))] = q := ⟨_, rfl⟩
    have hb4 : Below x34.heap.size x34 x36 := hb3.trans (by rw [← hy]; exact (setAll_upd _ _ _ _).below (Nat.le_refl _))
    rw [hy] at hP
    simp only [setAll, Nat.zero_add, Nat.reduceAdd] at hy
    simp only [List.set_cons_zero] at hP
    have hA := hL0.fc
    simp only [fcG, cellsF, neK, and_true, ne_eq, Nat.zero_add, Nat.reduceAdd] at hA
    have hB := hP.fc
    simp only [fcG, cellsF, neK, and_true, ne_eq, Nat.zero_add, Nat.reduceAdd] at hB
    replace ht := ht.below hb4
    replace f1 := f1.below hb4
    replace f2 := f2.below hb4
    replace f12 := f12.below hb4
    replace f13 := f13.below hb4
    clear hb3 hb4
    replace hL0 := hP
    clear hP
    go_upto_region 14 with fail
    clear hA hB hweq hy
    have hKp : Keeps (fun W => Tab W ∧ MT W (.agg #[.int .i64 2, .int .i64 2, .slice a13 n13 c13]) mi) := fun _ _ hb h => ⟨h.1.below hb, h.2.below hb⟩
    have hK0 : (fun W => Tab W ∧ MT W (.agg #[.int .i64 2, .int .i64 2, .slice a13 n13 c13]) mi) x36 := ⟨ht, (mt_of f13 hc13.out hmir.out hmic.out)⟩
    have HTj := Lib.hid (fun (W : World) (h : Tab W ∧ MT W (.agg #[.int .i64 2, .int .i64 2, .slice a13 n13 c13]) mi) => HTi.out (.agg #[.int .i64 2, .int .i64 2, .slice a13 n13 c13]) W h.1 h.2)
    clear HTi
    obtain ⟨α, iα, F, hF1, hF2⟩ := cls x36
    have hq := GL.fcC hF1 hL0
    simp only [fcC, cellsC, and_true, Nat.zero_add, Nat.reduceAdd] at hq
    refine region_cls (F := F) (by kernel_rfl) (lexB_of_fast (by kernel_rfl)) (cls_drew hF2) ?_
    repeat (go_big_quiet_step (first | fail | (go_at_call 17; with_reducible exact cls_call hF1 hF2 HN2.out _) | (go_at_call 17; with_reducible exact cls_call hF1 hF2 HN1.out _) | (go_at_call 54; exact cls_callK hKp hF1 hF2 hK0 HTj.out _)))
    refine wpQuiet_nil ?_
    rintro wq ⟨xq, rfl⟩
    replace hL0 := hL0.call (hF1 xq)
    clear hq hF2 hK0 hKp
    generalize F xq = x37 at hL0 ⊢
    clear hF1 xq iα F α
    go_wp2_with fail
    exact bodyPost_ret (v := .bool true) (by simp [results, Tryz.results49, go_sem]) rfl ⟨rfl, hL0.bl⟩
end Go.Proofs.YtjdjhlmcbffocaaGreatDoor
namespace Go.Proofs.YtjdjhlmcbffocaaGreatDoor
open Go.RowKit
attribute [local irreducible] lo hs sm s64 c64 d64 b64 mh ml pd pc qd qc val hiB str cmpI srD lz nb zl zh zs fe rowV tabV gv bsV tabM
set_option maxHeartbeats 8000000 in
set_option maxRecDepth 100000 in
theorem esame_w (zz : List Int) (hm : zz.length ≤ 100000) (a b : Value) (w : World) (ha : ILs w a zz) (hb : ILs w b zz) :
  Calls Tryz.prog 56 #[a, b] w fun e w' => e = .returned (.bool true) ∧ Below w.heap.size w w' := by
 obtain ⟨ao, ac, ga, rfl, ha1, ha2⟩ := ha
 obtain ⟨bo, bc, gb, rfl, hb1, hb2⟩ := hb
 obtain ⟨n, hn⟩ : ∃ n, n = zz.length := ⟨_, rfl⟩
 rw [← hn] at hm ha1 hb1 ⊢
 replace ha1 := Lib.hid ha1
 replace ha2 := Lib.hid ha2
 replace hb1 := Lib.hid hb1
 replace hb2 := Lib.hid hb2
 replace hn := Lib.hid hn
 go_enter Tryz.func56, Tryz.ntmps56
 go_wp2_with fail
 go_loopg [5] n (fun gk iv wr => ∃ (i : Nat) (zi : Int), i + gk = n ∧ iv = .int .i64 zi ∧ zi = (i : Int) ∧ Below w.heap.size w wr)
 case atStart => exact ⟨0, 0, Nat.zero_add n, by first | rfl | go_num, rfl, Below.refl _ _⟩
 case round =>
  obtain ⟨i, zi, hik, rfl, hzi, hbl⟩ := hrel
  rcases Nat.lt_or_ge i n with hin | hin
  ·subst hzi
   have k1 : (i : Int) < (n : Int) := by omega
   have k0 : (0 : Int) ≤ (i : Int) := Int.natCast_nonneg _
   have kb : (i : Int) ≤ 100000 := by omega
   obtain ⟨rfl, -⟩ := ha1.out (by omega)
   obtain ⟨rfl, -⟩ := hb1.out (by omega)
   have hi9 : i < zz.length := by rw [← hn.out]; exact hin
   have c1 := keepsC hbl (ha2.out i hi9)
   have c2 := keepsC hbl (hb2.out i hi9)
   obtain ⟨z, hz⟩ : ∃ z, z = zz[i]'hi9 := ⟨_, rfl⟩
   rw [← hz] at c1 c2
   clear hz hi9
   go_upto_region 6 with fail
   go_region
   have hb9 := Lib.hid hbl.drew
   clear c1 c2 hbl
   generalize wr.drew = w3 at hb9 ⊢
   go_wp2_with fail
   go_roundg (n - (i + 1))
   case measure => omega
   case rel => exact ⟨i + 1, _, by omega, by first | rfl | go_num, by omega, hb9.out⟩
  ·obtain rfl : n = i := by omega
   subst hzi
   have m1 : ¬ (n : Int) < (n : Int) := by omega
   go_wp2_with fail
   exact bodyPost_ret (v := .bool true) (by simp [results, Tryz.results56, go_sem]) rfl ⟨rfl, hbl⟩
end Go.Proofs.YtjdjhlmcbffocaaGreatDoor
