/-
  The law answers true at every input, and leaves its arguments as they were: a part of the proof. CONDITIONS: the package-level tables start as the program's text lays them (the card ties them).
-/
import Derived.Test.YthffglapmkkohaaGreatDoorZec
import Derived.Test.YthffglapmkkohaaGreatDoorTie
import Derived.Test.YthffglapmkkohaaGreatDoorCards
set_option linter.unusedVariables false
set_option linter.unusedSimpArgs false
set_option maxHeartbeats 16000000
set_option maxRecDepth 100000
namespace Go.Proofs.YthffglapmkkohaaGreatDoor
open Go.RowKit
attribute [local irreducible] lo hs sm s64 c64 d64 b64 mh ml pd pc qd qc val hiB str cmpI srD lz nb zl zh zs fe rowV tabV gv bsV mxV colV
theorem run_neqF (p q : Rat) (y : Bool) (hy : y = decide (p = q)) (W : World) : (binOp .neq 36 (fracV p) (fracV q)).run Tryz.prog W = .ok (.bool (!y)) W := by
 rcases same_fr hy with hz | hz | hz | hz | hz | hz <;> simp [go_sem, hz]
theorem vequal_w (x y : List Rat) (n m c d : Nat) (ao bo : Option Addr) (hx : x.length = n) (hy : y.length = m) (hn : n ≤ 100000) (w : World) (h1 : 0 < n → ∃ g, ao = some ⟨g, 0, none⟩ ∧ FS w g x) (h2 : 0 < m → ∃ g, bo = some ⟨g, 0, none⟩ ∧ FS w g y) (b : Bool) (hb : b = decide (x = y)) :
  Calls Tryz.prog 77 #[.slice ao n c, .slice bo m d] w fun xe w' => xe = .returned (.bool b) ∧ Below w.heap.size w w' := by
 replace h1 := Lib.hid h1
 replace h2 := Lib.hid h2
 replace hb := Lib.hid hb
 replace hx := Lib.hid hx
 replace hy := Lib.hid hy
 by_cases hnm : n = m
 ·subst hnm
  go_enter Tryz.func77, Tryz.ntmps77
  go_wp2_with fail
  go_loopg [13] n (fun gk iv wr => ∃ (i : Nat) (zi : Int), i + gk = n ∧ iv = .int .i64 zi ∧ zi = (i : Int) ∧ (∀ j, j < i → gv x j = gv y j) ∧ Below w.heap.size w wr)
  case atStart => exact ⟨0, 0, Nat.zero_add n, by first | rfl | go_num, rfl, fun j h => absurd h (Nat.not_lt_zero _), Below.refl _ _⟩
  case round =>
   obtain ⟨i, zi, hik, rfl, hzi, hall, hB⟩ := hrel
   replace hall := Lib.hid hall
   rcases Nat.lt_or_ge i n with hin | hin
   ·subst hzi
    obtain ⟨g, rfl, f1⟩ := h1.out (by omega)
    obtain ⟨g2, rfl, f2⟩ := h2.out (by omega)
    have k1 : (i : Int) < (n : Int) := by omega
    have k0 : (0 : Int) ≤ (i : Int) := Int.natCast_nonneg _
    have kb : (i : Int) ≤ 100000 := by omega
    obtain ⟨p, hp⟩ : ∃ p, p = gv x i := ⟨_, rfl⟩
    obtain ⟨q, hq⟩ : ∃ q, q = gv y i := ⟨_, rfl⟩
    have hp9 := fsc (f1.below hB) i (by rw [hx.out]; exact hin)
    have hq9 := fsc (f2.below hB) i (by rw [hy.out]; exact hin)
    rw [← hp] at hp9
    rw [← hq] at hq9
    obtain ⟨t, ht⟩ : ∃ t, t = decide (p = q) := ⟨_, rfl⟩
    have hne := fun W => run_neqF p q t ht W
    replace ht := Lib.hid ht
    replace hp := Lib.hid hp
    replace hq := Lib.hid hq
    go_upto_region 6 with fail
    obtain ⟨α, iα, F, hF1, hF2⟩ := cls wr
    obtain ⟨a0, a1, a2, a3, a4⟩ := hp9
    obtain ⟨b0, b1, b2, b3, b4⟩ := hq9
    have p0 := fun yz => keepsC (hF1 yz) a0
    have r0 := fun yz => keepsC (hF1 yz) b0
    have p1 := fun yz => keepsC (hF1 yz) a1
    have r1 := fun yz => keepsC (hF1 yz) b1
    have p2 := fun yz => keepsC (hF1 yz) a2
    have r2 := fun yz => keepsC (hF1 yz) b2
    have p3 := fun yz => keepsC (hF1 yz) a3
    have r3 := fun yz => keepsC (hF1 yz) b3
    have p4 := fun yz => keepsC (hF1 yz) a4
    have r4 := fun yz => keepsC (hF1 yz) b4
    clear a0 a1 a2 a3 a4 b0 b1 b2 b3 b4
    cases t with
    | true =>
     refine region_cls (F := F) (by kernel_rfl) (lexB_of_fast (by kernel_rfl)) (cls_drew hF2) ?_
     repeat (go_big_quiet_step (first | fail))
     refine wpQuiet_nil ?_
     rintro wq ⟨xq, rfl⟩
     have hB2 := hB.trans ((hF1 xq).mono hB.size)
     clear p0 p1 p2 p3 p4 r0 r1 r2 r3 r4 hF2 hne
     generalize F xq = y2 at hB2 ⊢
     clear hF1 xq iα F α
     have hall2 := Lib.hid (show ∀ j, j < i + 1 → gv x j = gv y j from fun j h3 => by
      rcases Nat.lt_or_ge j i with h | h
      ·exact hall.out j h
      ·obtain rfl : j = i := by omega
       rw [← hp.out, ← hq.out]; exact of_decide_eq_true ht.out.symm)
     go_wp2_with fail
     go_roundg (gk - 1)
     case measure => omega
     case rel => exact ⟨i + 1, _, by omega, by first | rfl | go_num, by omega, hall2.out, hB2⟩
    | false =>
     have hbf : b = false := by
      rw [hb.out]
      refine decide_eq_false fun e => ?_
      have h1 := of_decide_eq_false ht.out.symm
      exact h1 (by rw [hp.out, hq.out, e])
     replace hbf := Lib.hid hbf
     refine region_cls (F := F) (by kernel_rfl) (lexB_of_fast (by kernel_rfl)) (cls_drew hF2) ?_
     repeat (go_big_quiet_step (first | fail))
     refine wpQuiet_nil ?_
     rintro wq ⟨xq, rfl⟩
     have hB2 := hB.trans ((hF1 xq).mono hB.size)
     clear p0 p1 p2 p3 p4 r0 r1 r2 r3 r4 hF2 hne
     generalize F xq = y2 at hB2 ⊢
     clear hF1 xq iα F α
     go_wp2_with fail
     go_ret
     exact ⟨by rw [hbf.out]; rfl, hB2⟩
   ·obtain rfl : i = n := by omega
    subst hzi
    have k1 : ¬ (i : Int) < (i : Int) := by omega
    have hbt : b = true := by
     rw [hb.out]
     refine decide_eq_true (List.ext_getElem (by rw [hx.out, hy.out]) fun j g1 g2 => ?_)
     rw [← gv_get g1, ← gv_get g2]
     exact hall.out j (by rw [hx.out] at g1; exact g1)
    replace hbt := Lib.hid hbt
    go_wp2_with fail
    go_ret
    exact ⟨by rw [hbt.out]; rfl, hB⟩
 ·have b1 : (((n : Nat) : Int) != ((m : Nat) : Int)) = true := by simp; omega
  have b2 : ¬ ((n : Nat) : Int) = ((m : Nat) : Int) := by omega
  have hbf : b = false := by
   rw [hb.out]
   exact decide_eq_false fun e => hnm (by rw [← hx.out, ← hy.out, e])
  replace hbf := Lib.hid hbf
  go_enter Tryz.func77, Tryz.ntmps77
  go_wp2_with fail
  go_ret
  exact ⟨by rw [hbf.out]; rfl, Below.refl _ _⟩
theorem vsameV (x y : List Rat) (hn : x.length ≤ 100000) (va vb : Value) (w : World) (hv : SlQ w va x) (hu : SlQ w vb y) :
  Calls Tryz.prog 18 #[va, vb] w fun xe w' => xe = .returned (.bool (decide (x = y))) ∧ Below w.heap.size w w' := by
 obtain ⟨ao, c, rfl, h1⟩ := slq_len hv
 obtain ⟨bo, d, rfl, h2⟩ := slq_len hu
 have HE := Lib.hid (vequal_w x y x.length y.length c d ao bo rfl rfl hn w h1 h2 _ rfl)
 clear h1 h2 hv hu
 generalize decide (x = y) = b at *
 generalize x.length = n at *
 generalize y.length = m at *
 go_enter Tryz.func18, Tryz.ntmps18
 go_wp2_with fail
 with_reducible refine Calls.mono HE.out ?_
 rintro e y1 ⟨rfl, hb⟩
 replace hb := Lib.hid hb
 go_wp2_with fail
 exact bodyPost_ret (v := .bool b) (by simp [results, Tryz.results18, go_sem]) rfl ⟨rfl, hb.out⟩
theorem vindex_in (i n : Int) (h0 : 0 ≤ i) (h1 : i < n) (w : World) : Calls Tryz.prog 78 #[.int .i64 i, .int .i64 n] w fun xe w' => xe = .returned (.bool true) ∧ Below w.heap.size w w' := by
 go_enter Tryz.func78, Tryz.ntmps78
 go_wp2_with fail
 exact bodyPost_ret (v := .bool true) (by simp [results, Tryz.results78, go_sem]) rfl ⟨rfl, Below.refl _ _⟩
theorem vindex_low (i n : Int) (h0 : i < 0) (w : World) : Calls Tryz.prog 78 #[.int .i64 i, .int .i64 n] w fun xe w' => xe = .returned (.bool false) ∧ Below w.heap.size w w' := by
 have h1 : ¬ 0 ≤ i := by omega
 go_enter Tryz.func78, Tryz.ntmps78
 go_wp2_with fail
 exact bodyPost_ret (v := .bool false) (by simp [results, Tryz.results78, go_sem]) rfl ⟨rfl, Below.refl _ _⟩
theorem vindex_high (i n : Int) (h0 : 0 ≤ i) (h1 : n ≤ i) (w : World) : Calls Tryz.prog 78 #[.int .i64 i, .int .i64 n] w fun xe w' => xe = .returned (.bool false) ∧ Below w.heap.size w w' := by
 have h2 : ¬ i < n := by omega
 go_enter Tryz.func78, Tryz.ntmps78
 go_wp2_with fail
 exact bodyPost_ret (v := .bool false) (by simp [results, Tryz.results78, go_sem]) rfl ⟨rfl, Below.refl _ _⟩
theorem vindexV (i n : Int) (w : World) : Calls Tryz.prog 78 #[.int .i64 i, .int .i64 n] w fun xe w' => xe = .returned (.bool (decide (0 ≤ i ∧ i < n))) ∧ Below w.heap.size w w' := by
 by_cases h0 : 0 ≤ i
 ·by_cases h1 : i < n
  ·rw [decide_eq_true ⟨h0, h1⟩]; exact vindex_in i n h0 h1 w
  ·rw [decide_eq_false (fun h => h1 h.2)]; exact vindex_high i n h0 (by omega) w
 ·rw [decide_eq_false (fun h => h0 h.1)]; exact vindex_low i n (by omega) w
theorem vzero_ok (n : Nat) (hn : n ≤ 2048) (w : World) : Calls Tryz.prog 46 #[.int .i64 (n : Int)] w fun xe w' => ∃ u, xe = .returned (.tuple #[u, .int .i64 0]) ∧ NV w.heap.size (tabV n fun _ => 0) u w' ∧ Below w.heap.size w w' := by
 have hmk := fun W => makeV W (n : Int) n rfl (by omega)
 have hL0 : GL w w [] := GL.start w
 obtain ⟨x1, hweq, hL0⟩ := GL.named (hL0.new rfl (frCs (List.replicate n 0)) 36)
 have hNV : NV w.heap.size (tabV n fun _ => 0) (.slice (some ⟨w.heap.size, 0, none⟩) n n) x1 := ⟨w.heap.size, by rw [tabV_len], Nat.le_refl _, by rw [← rep_tab]; exact hL0.get _ _ mZ⟩
 replace hNV := Lib.hid hNV
 have k0 : (0 : Int) ≤ (n : Int) := Int.natCast_nonneg _
 have k1 : (n : Int) ≤ 2048 := by omega
 have k2 : ¬ (n : Int) < 0 := by omega
 go_enter Tryz.func46, Tryz.ntmps46
 go_wp2_with fail
 exact bodyPost_ret (v := .tuple #[_, .int .i64 0]) (by simp [results, Tryz.results46, go_sem]) rfl ⟨_, rfl, hNV.out, hL0.bl⟩
theorem vzero_neg (n : Int) (hn : n < 0) (w : World) : Calls Tryz.prog 46 #[.int .i64 n] w fun xe w' => xe = .returned (.tuple #[.slice none 0 0, .int .i64 1]) ∧ Below w.heap.size w w' := by
 go_enter Tryz.func46, Tryz.ntmps46
 go_wp2_with fail
 exact bodyPost_ret (v := .tuple #[.slice none 0 0, .int .i64 1]) (by simp [results, Tryz.results46, go_sem]) rfl ⟨rfl, Below.refl _ _⟩
theorem vzero_big (n : Int) (hn : 2048 < n) (w : World) : Calls Tryz.prog 46 #[.int .i64 n] w fun xe w' => xe = .returned (.tuple #[.slice none 0 0, .int .i64 3]) ∧ Below w.heap.size w w' := by
 have k2 : ¬ n < 0 := by omega
 go_enter Tryz.func46, Tryz.ntmps46
 go_wp2_with fail
 exact bodyPost_ret (v := .tuple #[.slice none 0 0, .int .i64 3]) (by simp [results, Tryz.results46, go_sem]) rfl ⟨rfl, Below.refl _ _⟩
theorem vunit_out (n : Nat) (i : Int) (hn : n ≤ 2048) (hi : ¬ (0 ≤ i ∧ i < (n : Int))) (w : World) : Calls Tryz.prog 27 #[.int .i64 (n : Int), .int .i64 i] w fun xe w' => xe = .returned (.tuple #[.slice none 0 0, .int .i64 1]) ∧ Below w.heap.size w w' := by
 have HZ := Lib.hid (fun w => vzero_ok n hn w)
 have HI := Lib.hid (fun w => vindexV i (n : Int) w)
 rw [decide_eq_false hi] at HI
 go_enter Tryz.func27, Tryz.ntmps27
 go_wp2_with fail
 with_reducible refine Calls.mono (HZ.out _) ?_
 rintro e y1 ⟨u, rfl, hnv, hb⟩
 obtain ⟨gu, rfl, -, -⟩ := hnv
 replace hb := Lib.hid hb
 go_wp2_with fail
 with_reducible refine Calls.mono (HI.out _) ?_
 rintro e y2 ⟨rfl, hb2⟩
 replace hb := Lib.hid (hb.out.trans (hb2.mono hb.out.size))
 clear hb2
 go_wp2_with fail
 exact bodyPost_ret (v := .tuple #[.slice none 0 0, .int .i64 1]) (by simp [results, Tryz.results27, go_sem]) rfl ⟨rfl, hb.out⟩
end Go.Proofs.YthffglapmkkohaaGreatDoor
namespace Go.Proofs.YthffglapmkkohaaGreatDoor
open Go.RowKit
attribute [local irreducible] lo hs sm s64 c64 d64 b64 mh ml pd pc qd qc val hiB str cmpI srD lz nb zl zh zs fe rowV tabV gv bsV mxV colV
/-- A slice of integers. -/
def ILs (w : World) (v : Value) (zs : List Int) : Prop := ∃ ao c g, v = .slice ao zs.length c ∧ (0 < zs.length → ao = some ⟨g, 0, none⟩ ∧ g < w.heap.size) ∧ ∀ i (h : i < zs.length), w.cell? ⟨g, i, none⟩ = some (.int .i64 (zs[i]'h))
theorem ILs.below {w w' : World} {v : Value} {zs : List Int} (h : ILs w v zs) (hb : Below w.heap.size w w') : ILs w' v zs := by
 obtain ⟨ao, c, g, h1, h2, h3⟩ := h
 exact ⟨ao, c, g, h1, fun h => ⟨(h2 h).1, Nat.lt_of_lt_of_le (h2 h).2 hb.size⟩, fun i hi => (hb.cell (p := ⟨g, i, none⟩) (h2 (by omega)).2).trans (h3 i hi)⟩
theorem ILs.keeps (v : Value) (zs : List Int) : Keeps (fun w => ILs w v zs) := fun _ _ hb h => h.below hb
theorem ils_of {w : World} {g c : Nat} {zs : List Int} {cs : List Value} (h : Hd w g cs) (he : cs = zs.map (.int .i64)) : ILs w (.slice (some ⟨g, 0, none⟩) zs.length c) zs := by
 subst he
 refine ⟨_, c, g, rfl, fun _ => ⟨rfl, h.lt⟩, fun i hi => ?_⟩
 have := h.cell i (by rw [List.length_map]; exact hi)
 rw [this, List.getElem_map]
def ofV (zs : List Int) (i : Nat) : Rat := ((zs.getD i 0 : Int) : Rat)
theorem getI {zs : List Int} {k : Nat} (h : k < zs.length) : zs.getD k 0 = zs[k] := by rw [List.getD_eq_getElem?_getD, List.getElem?_eq_getElem h]; rfl
theorem vof_at (zs : List Int) (b1 : Nat) (v : Value) (hz : ∀ z ∈ zs, -9223372036854775808 ≤ z ∧ z < 9223372036854775808) (i : Nat) (hi : i < zs.length) (w : World) (hw : ILs w v zs ∧ w.cell? ⟨b1, 0, none⟩ = some v) :
  Calls Tryz.prog 125 (#[.int .i64 (i : Int)] ++ #[.pointer (some ⟨b1, 0, none⟩)]) w fun xe w' => xe = .returned (fracV (ofV zs i)) ∧ Below w.heap.size w w' := by
 obtain ⟨⟨ao, c, g, rfl, h2, h3⟩, h4⟩ := hw
 obtain ⟨rfl, -⟩ := h2 (by omega)
 obtain ⟨l1, l2⟩ := hz _ (List.getElem_mem hi)
 unfold ofV
 rw [getI hi]
 exact vof1_w i zs.length c g b1 zs[i] _ (fun w => intF zs[i] l1 l2 w) hi w h4 (h3 i hi)
theorem vofV (zs : List Int) (hm : zs.length ≤ 100000) (hz : ∀ z ∈ zs, -9223372036854775808 ≤ z ∧ z < 9223372036854775808) (v : Value) (w : World) (hv : ILs w v zs) :
  Calls Tryz.prog 58 #[v] w fun xe w' => ∃ u, xe = .returned u ∧ NV w.heap.size (tabV zs.length (ofV zs)) u w' ∧ Below w.heap.size w w' := by
 have HCl := fun b1 => vof_at zs b1 v hz
 obtain ⟨ao, c, -, rfl, -⟩ := id hv
 have hL0 : GL w w [] := GL.start w
 obtain ⟨x1, hweq, hL0⟩ := GL.named (hL0.new rfl [.slice ao zs.length c] 157)
 have hv1 := hv.below hL0.bl
 have hc1 := (hL0.get _ _ mZ).cell 0 (by simp)
 simp only [List.getElem_cons_zero, List.getElem_cons_succ] at hc1
 have HC := veach_w 125 #[.pointer (some ⟨w.heap.size, 0, none⟩)] enof zs.length (ofV zs) (fun w => ILs w (.slice ao zs.length c) zs ∧ w.cell? ⟨_, 0, none⟩ = some (.slice ao zs.length c)) (Keeps.and (ILs.keeps _ _) (keepsB _ _)) (HCl _) hm x1 ⟨hv1, hc1⟩
 clear hv hv1 HCl hz
 generalize tabV zs.length (ofV zs) = tl at *
 generalize zs.length = m at *
 replace HC := Lib.hid HC
 replace hL0 := Lib.hid hL0
 go_enter Tryz.func58, Tryz.ntmps58
 go_wp2_with fail
 with_reducible refine Calls.mono HC.out ?_
 rintro e y1 ⟨u, rfl, hnv, hb⟩
 replace hnv := Lib.hid (hnv.mono hL0.out.bl.size)
 replace hb := Lib.hid (hL0.out.bl.trans (hb.mono hL0.out.bl.size))
 clear hc1 hweq
 obtain ⟨gu, rfl, -, -⟩ := id hnv.out
 go_wp2_with fail
 exact bodyPost_ret (v := .slice (some ⟨gu, 0, none⟩) _ _) (by simp [results, Tryz.results58, go_sem]) rfl ⟨_, rfl, hnv.out, hb.out⟩
def partV (x : List Rat) (ps : List Nat) (i : Nat) : Rat := gv x (ps.getD i 0)
theorem getN {ps : List Nat} {k : Nat} (h : k < ps.length) : ps.getD k 0 = ps[k] := by rw [List.getD_eq_getElem?_getD, List.getElem?_eq_getElem h]; rfl
theorem vpart_at (x : List Rat) (ps : List Nat) (b1 b2 : Nat) (va vp : Value) (hp : ∀ p ∈ ps, p < x.length) (i : Nat) (hi : i < ps.length) (w : World) (hw : SlQ w va x ∧ ILs w vp (ps.map Int.ofNat) ∧ w.cell? ⟨b1, 0, none⟩ = some va ∧ w.cell? ⟨b2, 0, none⟩ = some vp) :
  Calls Tryz.prog 80 (#[.int .i64 (i : Int)] ++ #[.pointer (some ⟨b1, 0, none⟩), .pointer (some ⟨b2, 0, none⟩)]) w fun xe w' => xe = .returned (fracV (partV x ps i)) ∧ Below w.heap.size w w' := by
 obtain ⟨h1, ⟨ao, c, g, rfl, h2, h3⟩, h4, h5⟩ := hw
 rw [List.length_map] at *
 obtain ⟨rfl, -⟩ := h2 (by omega)
 have h6 := h3 i (by rw [List.length_map]; exact hi)
 rw [List.getElem_map] at h6
 have hq := hp _ (List.getElem_mem hi)
 obtain ⟨aa, ca, rfl⟩ := slq_form' h1
 obtain ⟨ga, rfl, -, f1⟩ := slq_at h1 _ hq
 obtain ⟨p0, p1, p2, p3, p4⟩ := fsc f1 _ hq
 unfold partV
 rw [getN hi]
 exact vpart1_w i ps.length c g ps[i] x.length ca ga b1 b2 (gv x ps[i]) hi hq w h4 h5 h6 p0 p1 p2 p3 p4
theorem vpartV (x : List Rat) (ps : List Nat) (n m : Nat) (hx : x.length = n) (hn : n ≤ 2048) (hpl : ps.length = m) (hm : m ≤ 2048) (hp : ∀ p ∈ ps, p < n) (va vp : Value) (w : World) (hv : SlQ w va x) (hu : ILs w vp (ps.map Int.ofNat)) :
  Calls Tryz.prog 19 #[va, vp] w fun xe w' => ∃ u, xe = .returned (.tuple #[u, .int .i64 0]) ∧ NV w.heap.size (tabV m (partV x ps)) u w' ∧ Below w.heap.size w w' := by
 have HCl := fun b1 b2 => vpart_at x ps b1 b2 va vp (by rw [hx]; exact hp)
 obtain ⟨aa, ca, rfl⟩ := slq_form' hv
 obtain ⟨ao, c, g, rfl, h2, h3⟩ := id hu
 rw [hx] at hv HCl ⊢
 rw [List.length_map, hpl] at h2 hu HCl ⊢
 have hpc : ∀ i, i < m → ∃ p : Nat, p < n ∧ w.cell? ⟨g, i, none⟩ = some (.int .i64 (p : Int)) := fun i hi => by
  have h6 := h3 i (by rw [List.length_map]; omega)
  rw [List.getElem_map] at h6
  exact ⟨_, hp _ (List.getElem_mem _), h6⟩
 have hpo := fun h => (h2 h).1
 replace hpc := Lib.hid hpc
 replace hpo := Lib.hid hpo
 have HI := Lib.hid (fun (i n : Int) (h0 : 0 ≤ i) (h1 : i < n) (w : World) => vindex_in i n h0 h1 w)
 have l1 : (n : Int) ≤ 2048 := by omega
 have l2 : (m : Int) ≤ 2048 := by omega
 have l3 : ¬ (2048 : Int) < (n : Int) := by omega
 have l4 : ¬ (2048 : Int) < (m : Int) := by omega
 have hL0 : GL w w [] := GL.start w
 obtain ⟨x1, hweq, hL0⟩ := GL.named ((hL0.new rfl [.slice aa n ca] 28).new (K := w.heap.size + 1) (szA _ _) [.slice ao m c] 24)
 have hc1 := (hL0.get _ _ (mK mZ)).cell 0 (by simp)
 simp only [List.getElem_cons_zero, List.getElem_cons_succ] at hc1
 have hc2 := (hL0.get _ _ mZ).cell 0 (by simp)
 simp only [List.getElem_cons_zero, List.getElem_cons_succ] at hc2
 replace hv := Lib.hid hv
 replace hu := Lib.hid hu
 clear h2 h3 hp
 go_enter Tryz.func19, Tryz.ntmps19
 go_wp2_with fail
 clear hweq hc1 hc2
 go_loopg [18] m (fun gk iv wr => ∃ (k : Nat) (zi : Int), k + gk = m ∧ iv = .int .i64 zi ∧ zi = (k : Int) ∧ GL w wr [(w.heap.size + 1, [.slice ao m c]), (w.heap.size, [.slice aa n ca])])
 case atStart => exact ⟨0, 0, Nat.zero_add _, by first | rfl | go_num, rfl, hL0⟩
 case round =>
  clear hL0
  obtain ⟨k, zi, hik, rfl, hzi, hL0⟩ := hrel
  have hc1 := (hL0.get _ _ (mK mZ)).cell 0 (by simp)
  simp only [List.getElem_cons_zero, List.getElem_cons_succ] at hc1
  have hc2 := (hL0.get _ _ mZ).cell 0 (by simp)
  simp only [List.getElem_cons_zero, List.getElem_cons_succ] at hc2
  rcases Nat.lt_or_ge k m with hin | hin
  ·subst hzi
   have k1 : (k : Int) < (m : Int) := by omega
   have k0 : (0 : Int) ≤ (k : Int) := Int.natCast_nonneg _
   obtain ⟨p, hp1, hp2⟩ := hpc.out k hin
   have hp3 := keepsC hL0.bl hp2
   obtain rfl := hpo.out (by omega)
   have HI1 := Lib.hid (HI.out (p : Int) (n : Int) (by omega) (by omega))
   go_wp2_with fail
   with_reducible refine Calls.mono (HI1.out _) ?_
   rintro e y1 ⟨rfl, hb⟩
   replace hL0 := hL0.call hb
   clear hb hc1 hc2 hp3
   go_wp2_with fail
   go_roundg (m - (k + 1))
   case measure => omega
   case rel => exact ⟨k + 1, _, by omega, by first | rfl | go_num, by omega, hL0⟩
  ·obtain rfl : k = m := by omega
   subst hzi
   have k1 : ¬ (k : Int) < (k : Int) := by omega
   have HC := veach_w 80 #[.pointer (some ⟨w.heap.size, 0, none⟩), .pointer (some ⟨w.heap.size + 1, 0, none⟩)] enpart k (partV x ps) (fun w => SlQ w (.slice aa n ca) x ∧ ILs w (.slice ao k c) (ps.map Int.ofNat) ∧ w.cell? ⟨_, 0, none⟩ = some (.slice aa n ca) ∧ w.cell? ⟨_, 0, none⟩ = some (.slice ao k c)) (Keeps.and (SlQ.keeps _ _) (Keeps.and (ILs.keeps _ _) (Keeps.and (keepsB _ _) (keepsB _ _)))) (HCl _ _) (by omega) wr ⟨hv.out.below hL0.bl, hu.out.below hL0.bl, hc1, hc2⟩
   replace HC := Lib.hid HC
   replace hL0 := Lib.hid hL0
   clear HCl
   go_wp2_with fail
   with_reducible refine Calls.mono HC.out ?_
   rintro e y1 ⟨u, rfl, hnv, hb⟩
   replace hnv := Lib.hid (hnv.mono hL0.out.bl.size)
   replace hb := Lib.hid (hL0.out.bl.trans (hb.mono hL0.out.bl.size))
   obtain ⟨gu, rfl, -, -⟩ := id hnv.out
   clear hc1 hc2
   go_wp2_with fail
   exact bodyPost_ret (v := .tuple #[_, .int .i64 0]) (by simp [results, Tryz.results19, go_sem]) rfl ⟨_, rfl, hnv.out, hb.out⟩
theorem vDotV (x y : List Rat) (n k : Nat) (hx : x.length = n) (hy : y.length = n) (hn : n ≤ 1000) (hk : k ≤ 5) (sx : ∀ q ∈ x, Sz q k) (sy : ∀ q ∈ y, Sz q k) (va vb : Value) (w : World) (hv : SlQ w va x) (hu : SlQ w vb y) :
  Calls Tryz.prog 52 #[va, vb] w fun xe w' => xe = .returned (.tuple #[fracV (bsV n fun i => gv x i * gv y i), .int .i64 0]) ∧ Below w.heap.size w w' := by
 have HD := Lib.hid (fun w hv hu => vdotS x y n k hx hy hn hk sx sy va vb w hv hu)
 obtain ⟨aa, ca, rfl⟩ := slq_form' hv
 obtain ⟨ab, cb, rfl⟩ := slq_form' hu
 rw [hx] at hv HD ⊢
 rw [hy] at hu HD ⊢
 generalize bsV n (fun i => gv x i * gv y i) = r at *
 have hL0 : GL w w [] := GL.start w
 obtain ⟨x1, hweq, hL0⟩ := GL.named (hL0.new rfl [.int .u64 0, .string ⟨#[]⟩, .bool false, .int .u64 0, .string ⟨#[]⟩] 36)
 have hv1 := hv.below hL0.bl
 have hu1 := hu.below hL0.bl
 replace hL0 := (hL0.new rfl [.slice aa n ca, .slice ab n cb] 28)
 generalize hweq2 : (x1.alloc (.cells #[.slice aa n ca, .slice ab n cb] 28)) = x2 at hL0
 have hb2 : Below x1.heap.size x1 x2 := hweq2 ▸ ((Below.refl _ _).alloc (Nat.le_refl _) _)
 have hv2 := hv1.below hb2
 have hu2 := hu1.below hb2
 have HF := Lib.hid (vfault_ok (L := [x, y]) (n := n) (by simp) (by simp [hx, hy]) (by omega) _ x2 (vls_two (c := 2) (hL0.get _ _ mZ) hv2 hu2))
 replace hv2 := Lib.hid hv2
 replace hu2 := Lib.hid hu2
 clear hv hu hv1 hu1 sx sy hb2
 go_enter Tryz.func52, Tryz.ntmps52
 go_wp2_with fail
 with_reducible refine Calls.mono HF.out ?_
 rintro e y1 ⟨rfl, hb⟩
 have hv3 := Lib.hid (hv2.out.below hb)
 have hu3 := Lib.hid (hu2.out.below hb)
 replace hL0 := hL0.call hb
 clear hb hweq hweq2 hv2 hu2 HF
 go_wp2_with fail
 with_reducible refine Calls.mono (HD.out _ hv3.out hu3.out) ?_
 rintro e y2 ⟨rfl, hb⟩
 replace hL0 := hL0.call hb
 clear hb hv3 hu3
 have hA := hL0.fc
 simp only [zF, Nat.reduceAdd] at hA
 have hPt := hL0.put 1 (w.heap.size) _ rfl [.int .u64 ((zl r.num : Nat) : Int), .string (zh r.num), .bool (zs r.num), .int .u64 ((lo (fe r) : Nat) : Int), .string (hs (fe r))] rfl
 simp only [setAll, List.set_cons_zero, List.set_cons_succ] at hPt
 generalize hput1 : (((((y2.setCell ⟨w.heap.size, 0, none⟩ (.int .u64 ((zl r.num : Nat) : Int))).setCell ⟨w.heap.size, 1, none⟩ (.string (zh r.num))).setCell ⟨w.heap.size, 2, none⟩ (.bool (zs r.num))).setCell ⟨w.heap.size, 3, none⟩ (.int .u64 ((lo (fe r) : Nat) : Int))).setCell ⟨w.heap.size, 4, none⟩ (.string (hs (fe r)))) = y3 at hPt
 have hB1 := hPt.fc
 simp only [zF, Nat.reduceAdd] at hB1
 go_wp2_with fail
 exact bodyPost_ret (v := .tuple #[fracV r, .int .i64 0]) (by simp [results, Tryz.results52, go_sem, hB1]) rfl ⟨rfl, hPt.bl⟩
/-- A row of strings of one's own. -/
abbrev OwnS (w : World) (B : Nat) (v : Value) (n : Nat) (l : List ByteArray) : Prop := w.ownsRow B 9 1 v n (l.map .string)
theorem infoS8 : (Tryz.prog.info? 9).map (fun i => (i.zero, i.size, i.bytes)) = some (some (.string ⟨#[]⟩), 1, 16) := by kernel_rfl
theorem wp_appendS {w : World} {ops : Array Oper} {rest : List Oper} {o : Oper} {a : Act} {Q : Exit → Act → World → Prop} (hgd : o.guard = none) (s x : Operand)
  (ho : o.op = .call { callee := .builtin .append, args := #[s, x], argTypes := #[158, 158] }) (B : Nat) (v : Value) (n : Nat) (L : List ByteArray) (hs : a.eval s = v) (hown : OwnS w B v n L) (g : Nat) (t : ByteArray) (hx : a.eval x = .slice (some ⟨g, 0, none⟩) 1 1) (hH : Hd w g [.string t])
  (hn : n ≤ 100000) (hbase : B ≤ w.heap.size)
  (h : ∀ v' w', OwnS w' B v' (n + 1) (L ++ [t]) → w.grownBy w' v.ownBlock → (v'.ownBlock = v.ownBlock ∨ v'.ownBlock = some w.heap.size) → wpList Tryz.prog ops Q rest (a.put o.dst v') w') : wpList Tryz.prog ops Q (o :: rest) a w := by
 obtain ⟨i0, hi, hz1, hz2, hz3⟩ := info_parts infoS8
 refine wpList_append_own_at w hgd s x 158 ho B 9 i0 (.string ⟨#[]⟩) 1 16 Tryz.underlying158 hi hz1 hz2 hz3 rfl (by decide) v n (L.map .string) hs hown ⟨g, 0, none⟩ 1 1 [.string t] hx rfl (hd_newsH hH) (fun u hu => by rw [List.mem_singleton.1 hu]; rfl) (by unfold maxLen; omega) (by omega) hbase ?_
 intro v' w' h1 h2 _ h4
 refine h v' w' ?_ h2 h4
 unfold OwnS
 rw [List.map_append]; exact h1
theorem ownS_below {w w' : World} {B n : Nat} {v : Value} {l : List ByteArray} (h : OwnS w B v n l) (hb : Below w.heap.size w w') : OwnS w' B v n l := by
 refine ⟨h.1, ?_⟩
 rcases h.2 with h1 | ⟨g, cap, cur, h1, h2, h3, h4⟩
 ·exact .inl h1
 ·refine .inr ⟨g, cap, cur, h1, h2, ?_, h4⟩
  have hg := (World.ownsRow.lt h g (by rw [h1]; rfl)).2
  rw [hb.block g hg]; exact h3
theorem ownS_cells {w : World} {B n : Nat} {v : Value} {l : List ByteArray} (h : OwnS w B v n l) (h0 : 0 < l.length) : ∃ g c, v = .slice (some ⟨g, 0, none⟩) l.length c ∧ l.length ≤ c ∧ g < w.heap.size ∧ ∀ (j : Nat) (x : ByteArray), l[j]? = some x → w.cell? ⟨g, 0 + j, none⟩ = some (.string x) := by
 have hl : l.length = n := by have := h.1; rw [List.length_map] at this; omega
 rcases h.2 with ⟨_, h1⟩ | ⟨g, cap, cur, h1, h2, h3, h4, h5, h6, h7⟩
 ·omega
 ·refine ⟨g, cap, by rw [h1, hl], by omega, (World.ownsRow.lt h g (by rw [h1]; rfl)).2, fun j x hx => ?_⟩
  rw [cell_of_row _ _ _ _ _ _ h3, Nat.zero_add]
  have hj : (l.map Value.string)[j]? = some (.string x) := by rw [List.getElem?_map, hx]; rfl
  rw [← h7, List.getElem?_take] at hj
  split at hj
  ·rw [← Array.getElem?_toList]; exact hj
  ·cases hj
theorem ownS_form {w : World} {B n : Nat} {v : Value} {l : List ByteArray} (h : OwnS w B v n l) : ∃ a c, v = .slice a n c := by
 rcases h.2 with ⟨h1, h2⟩ | ⟨g, cap, cur, h1, _⟩
 ·exact ⟨_, _, by rw [h1, h2]⟩
 ·exact ⟨_, _, h1⟩
theorem vtextV (x : List Rat) (n k : Nat) (Jt : List UInt8) (hx : x.length = n) (hn : n ≤ 10000) (hk : k ≤ 1000) (sx : ∀ q ∈ x, Sz q k) (hJ : Lib.join ((x.map qtxt).map (·.data.toList)) [32] = Jt) (hJl : Jt.length ≤ 1000000) (va : Value) (w : World) (ht : Tab w) (hv : SlQ w va x) :
  Calls Tryz.prog 60 #[va] w fun xe w' => xe = .returned (.string ⟨([91] ++ Jt ++ [93]).toArray⟩) ∧ Below w.heap.size w w' := by
 obtain ⟨ao, c, rfl, hf⟩ := slq_len hv
 rw [hx] at hv hf ⊢
 have HT := Lib.hid (fun i (hi : i < n) w ht => textF (gv x i) k (qsk x sx i (by omega)) (by omega) w ht)
 obtain ⟨tx, htx⟩ : ∃ tx, tx = x.map qtxt := ⟨_, rfl⟩
 have hti : ∀ i, i < n → tx.take (i + 1) = tx.take i ++ [qtxt (gv x i)] := fun i hi => by
  rw [htx, List.take_succ_eq_append_getElem (by rw [List.length_map]; omega), List.getElem_map, gv_get (by omega)]
 have htl : tx.length = n := by rw [htx, List.length_map, hx]
 rw [← htx] at hJ
 replace hti := Lib.hid hti
 replace htl := Lib.hid htl
 replace hJ := Lib.hid hJ
 replace hJl := Lib.hid hJl
 replace hf := Lib.hid hf
 replace ht := Lib.hid ht
 replace hn := Lib.hid hn
 clear sx hv htx
 go_enter Tryz.func60, Tryz.ntmps60
 go_wp2_with fail
 go_loopg [3, 8] n (fun gk sv iv wr => ∃ (k : Nat) (zi : Int) (vs : Value), k + gk = n ∧ vs = sv ∧ iv = .int .i64 zi ∧ zi = (k : Int) ∧ OwnS wr w.heap.size vs k (tx.take k) ∧ Below w.heap.size w wr)
 case atStart => exact ⟨0, 0, _, Nat.zero_add n, rfl, by first | rfl | go_num, rfl, World.ownsRow_nil _ _ _ _, Below.refl _ _⟩
 case round =>
  obtain ⟨k, zi, vs, hik, rfl, rfl, hzi, hown, hB⟩ := hrel
  replace hown := Lib.hid hown
  have hnn := hn.out
  rcases Nat.lt_or_ge k n with hin | hin
  ·subst hzi
   have k1 : (k : Int) < (n : Int) := by omega
   have k0 : (0 : Int) ≤ (k : Int) := Int.natCast_nonneg _
   have kb : (k : Int) ≤ 10000 := by omega
   obtain ⟨g, rfl, hfs⟩ := hf.out (by omega)
   have hcs := fsc (hfs.below hB) k (by omega)
   have HT1 := HT.out k hin
   have hti1 := hti.out k hin
   generalize gv x k = q at hcs HT1 hti1
   obtain ⟨S, hS⟩ : ∃ S, S = qtxt q := ⟨_, rfl⟩
   rw [← hS] at HT1 hti1
   replace HT1 := Lib.hid HT1
   replace hti1 := Lib.hid hti1
   clear hS hfs
   obtain ⟨f0, f1, f2, f3, f4⟩ := hcs
   have hL0 : GL wr wr [] := GL.start wr
   replace hL0 := hL0.new rfl [.int .u64 ((zl q.num : Nat) : Int), .string (zh q.num), .bool (zs q.num), .int .u64 ((lo (fe q) : Nat) : Int), .string (hs (fe q))] 36
   generalize hweq : wr.alloc (.cells #[.int .u64 ((zl q.num : Nat) : Int), .string (zh q.num), .bool (zs q.num), .int .u64 ((lo (fe q) : Nat) : Int), .string (hs (fe q))] 36) = y2 at hL0
   have hN0 := cells_of _ 0 [] rfl (hL0.get _ _ mZ)
   simp only [zF, Nat.reduceAdd] at hN0
   have hB2 := Lib.hid (hB.trans (hL0.bl.mono hB.size))
   go_wp2_with fail
   with_reducible refine Calls.mono (HT1.out _ (ht.out.below hB2.out)) ?_
   rintro e y3 ⟨rfl, hb3⟩
   replace hL0 := hL0.call hb3
   have hown3 := Lib.hid (ownS_below hown.out hL0.bl)
   have hB3 := Lib.hid (hB.trans (hL0.bl.mono hB.size))
   clear hb3 hN0 hweq f0 f1 f2 f3 f4 hL0 hB2 hB hown
   have hL1 : GL y3 y3 [] := GL.start y3
   replace hL1 := hL1.new rfl [.string S] 9
   generalize hweq : y3.alloc (.cells #[.string S] 9) = y4 at hL1
   have hown4 := Lib.hid (ownS_below hown3.out hL1.bl)
   have hB4 := Lib.hid (hB3.out.trans (hL1.bl.mono hB3.out.size))
   have hH := Lib.hid (hL1.get _ _ mZ)
   go_wp2_with (at_builtin; refine wp_appendS rfl _ _ rfl _ _ _ _ rfl hown4.out _ S rfl hH.out (by omega) hB4.out.size ?_)
   intro v' w5 hown5 hgrow _
   have hB5 := hB4.out.grown hgrow hB4.out.size (fun j hj => (hown4.out.lt j hj).1)
   rw [← hti1.out] at hown5
   replace hown5 := Lib.hid hown5
   clear hgrow hown4 hB4 hown3 hB3 hH hweq
   go_wp2_with fail
   go_roundg (gk - 1)
   case measure => omega
   case rel => exact ⟨k + 1, _, _, by omega, rfl, by first | rfl | go_num, by omega, hown5.out, hB5⟩
  ·obtain rfl : k = n := by omega
   subst hzi
   have k1 : ¬ (k : Int) < (k : Int) := by omega
   rw [List.take_of_length_le (Nat.le_of_eq htl.out)] at hown
   have hJ2 : Calls Tryz.prog 128 #[vs, .string ⟨#[32]⟩] wr fun e w' => e = .returned (.string ⟨Jt.toArray⟩) ∧ Below wr.heap.size wr w' := by
    by_cases h0 : k = 0
    ·have e0 : tx = [] := List.eq_nil_of_length_eq_zero (by rw [htl.out, h0])
     obtain ⟨a, c2, hvs⟩ := ownS_form hown.out
     rw [hvs, h0]
     rw [e0] at hJ
     refine (Tryz.strings_Join_none a c2 ⟨#[32]⟩ wr).mono ?_
     rintro e w' ⟨rfl, rfl⟩
     exact ⟨by rw [← hJ.out]; rfl, Below.refl _ _⟩
    ·obtain ⟨g9, c9, hvs, hc9, hg9, hce9⟩ := ownS_cells hown.out (by rw [htl.out]; omega)
     rw [hvs]
     have := Tryz.strings_Join g9 0 c9 tx ⟨#[32]⟩ wr hce9 hg9 (by rw [htl.out]; omega) hc9 (by
      have h1 := hJl.out
      rw [← hJ.out] at h1
      exact Nat.le_trans h1 (by decide))
     rw [show (⟨#[32]⟩ : ByteArray).data.toList = [32] from rfl, hJ.out] at this
     exact this
   replace hJ2 := Lib.hid hJ2
   have j1 : (Jt.length : Int) ≤ 1000000 := by have := hJl.out; omega
   have j2 : ¬ (9223372036854775807 : Int) < 1 + (Jt.length : Int) := by omega
   have j3 : ¬ (9223372036854775806 : Int) < (Jt.length : Int) := by omega
   have j4 : 1 + (Jt.length : Int) ≤ 9223372036854775807 := by omega
   have j5 : ¬ (9223372036854775807 : Int) < 1 + (Jt.length : Int) + 1 := by omega
   have j6 : ¬ (9223372036854775806 : Int) < 1 + (Jt.length : Int) := by omega
   replace hB := Lib.hid hB
   obtain ⟨a9, c9, hvs⟩ := ownS_form hown.out
   subst hvs
   clear hown
   go_wp2_with fail
   refine hJ2.out.mono ?_
   rintro e y9 ⟨rfl, hb9⟩
   replace hb9 := Lib.hid (hB.out.trans (hb9.mono hB.out.size))
   go_wp2_with fail
   exact bodyPost_ret (v := .string ⟨([91] ++ Jt ++ [93]).toArray⟩) (by simp [results, Tryz.results60, go_sem]; apply ByteArray.ext; simp) rfl ⟨rfl, hb9.out⟩
end Go.Proofs.YthffglapmkkohaaGreatDoor
namespace Go.Proofs.YthffglapmkkohaaGreatDoor
open Go.RowKit
attribute [local irreducible] lo hs sm s64 c64 d64 b64 mh ml pd pc qd qc val hiB str cmpI srD lz nb zl zh zs
theorem qof_zero (n x c : Int) (f : Nat) (HF : RT 57 #[.int .i64 n, .int .i64 1] (.tuple #[frV x f, .int .i64 c])) (hmx : max (0 : Int) 1 = 1) (w : World) :
  Calls Tryz.prog 13 #[.agg #[.int .i64 n, .int .u32 0]] w fun xe w' => xe = .returned (frV x f) ∧ Below w.heap.size w w' := by
 have hL0 : GL w w [] := GL.start w
 replace HF := Lib.hid HF
 obtain ⟨x1, hweq, hL0⟩ := GL.named ((hL0.new rfl [.int .i64 n, .int .u32 0] 40).new (K := w.heap.size + 1) (szA _ _) [.int .u64 0, .string ⟨#[]⟩, .bool false, .int .u64 0, .string ⟨#[]⟩] 36)
 go_enter Tryz.func13, Tryz.ntmps13
 have hN0 := cells_of _ 0 [] rfl (hL0.get _ _ (mK mZ))
 simp only [zF, Nat.reduceAdd] at hN0
 go_wp2_with fail
 clear hN0
 with_reducible refine Calls.mono (HF.out _) ?_
 rintro e x2 ⟨rfl, hb⟩
 replace hL0 := hL0.call hb
 clear hb hweq
 obtain ⟨x3, hweq, hL0⟩ := GL.named (hL0.new rfl [.int .u64 ((zl x : Nat) : Int), .string (zh x), .bool (zs x), .int .u64 ((lo f : Nat) : Int), .string (hs f)] 36)
 have hA := hL0.fc
 simp only [zF, Nat.reduceAdd] at hA
 obtain ⟨x4, hput1, hP⟩ := GL.named (hL0.put 1 (w.heap.size + 1) _ rfl [.int .u64 ((zl x : Nat) : Int), .string (zh x), .bool (zs x), .int .u64 ((lo f : Nat) : Int), .string (hs f)] rfl)
 simp only [setAll] at hput1
 simp only [List.set_cons_zero, List.set_cons_succ] at hP
 have hB1 := hP.fc
 simp only [zF, Nat.reduceAdd] at hB1
 replace hL0 := hP
 go_wp2_with fail
 exact bodyPost_ret (v := frV x f) (by simp [results, Tryz.results13, go_sem, hB1]) rfl ⟨rfl, hL0.bl⟩
theorem qof_pos (n d x c : Int) (f : Nat) (HF : RT 57 #[.int .i64 n, .int .i64 d] (.tuple #[frV x f, .int .i64 c])) (h1 : max d 1 = d) (hw : IntKind.i64.wrap d = d) (w : World) :
  Calls Tryz.prog 13 #[.agg #[.int .i64 n, .int .u32 d]] w fun xe w' => xe = .returned (frV x f) ∧ Below w.heap.size w w' := by
 have hL0 : GL w w [] := GL.start w
 replace HF := Lib.hid HF
 obtain ⟨x1, hweq, hL0⟩ := GL.named ((hL0.new rfl [.int .i64 n, .int .u32 d] 40).new (K := w.heap.size + 1) (szA _ _) [.int .u64 0, .string ⟨#[]⟩, .bool false, .int .u64 0, .string ⟨#[]⟩] 36)
 go_enter Tryz.func13, Tryz.ntmps13
 have hN0 := cells_of _ 0 [] rfl (hL0.get _ _ (mK mZ))
 simp only [zF, Nat.reduceAdd] at hN0
 go_wp2_with fail
 clear hN0
 with_reducible refine Calls.mono (HF.out _) ?_
 rintro e x2 ⟨rfl, hb⟩
 replace hL0 := hL0.call hb
 clear hb hweq
 obtain ⟨x3, hweq, hL0⟩ := GL.named (hL0.new rfl [.int .u64 ((zl x : Nat) : Int), .string (zh x), .bool (zs x), .int .u64 ((lo f : Nat) : Int), .string (hs f)] 36)
 have hA := hL0.fc
 simp only [zF, Nat.reduceAdd] at hA
 obtain ⟨x4, hput1, hP⟩ := GL.named (hL0.put 1 (w.heap.size + 1) _ rfl [.int .u64 ((zl x : Nat) : Int), .string (zh x), .bool (zs x), .int .u64 ((lo f : Nat) : Int), .string (hs f)] rfl)
 simp only [setAll] at hput1
 simp only [List.set_cons_zero, List.set_cons_succ] at hP
 have hB1 := hP.fc
 simp only [zF, Nat.reduceAdd] at hB1
 replace hL0 := hP
 go_wp2_with fail
 exact bodyPost_ret (v := frV x f) (by simp [results, Tryz.results13, go_sem, hB1]) rfl ⟨rfl, hL0.bl⟩
theorem qof_any (n d : Int) (a1 : -9223372036854775808 ≤ n) (a2 : n < 9223372036854775808) (b1 : 0 ≤ d) (b2 : d < 4294967296) (w : World) :
  Calls Tryz.prog 13 #[.agg #[.int .i64 n, .int .u32 d]] w fun xe w' => xe = .returned (fracV (qmade n d.toNat)) ∧ Below w.heap.size w w' := by
 by_cases h : d = 0
 ·subst h
  have e : (n : Rat) / ((1 : Int) : Rat) = qmade n 0 := by rw [← of_val_q n 1 (by decide)]; rfl
  have hF := fun w => ofF n 1 a1 a2 (by decide) (by decide) (by decide) w
  rw [e] at hF
  exact qof_zero n _ _ _ hF (by decide) w
 ·have e : (n : Rat) / (d : Rat) = qmade n d.toNat := by
   rw [← of_val_q n d h]
   unfold qmade
   rw [if_neg (by omega), if_neg (by omega), show d.natAbs = d.toNat by omega]
  have hF := fun w => ofF n d a1 a2 (by omega) (by omega) h w
  rw [e] at hF
  exact qof_pos n d _ _ _ hF (by omega) (IntWalk.i64_in _ (by omega)) w
end Go.Proofs.YthffglapmkkohaaGreatDoor
namespace Go.Proofs.YthffglapmkkohaaGreatDoor
open Go.RowKit
attribute [local irreducible] lo hs sm s64 c64 d64 b64 mh ml pd pc qd qc val hiB str cmpI srD lz nb zl zh zs fe rowV tabV gv bsV mxV colV
/-- The plain fractions that a slice holds. -/
structure QSl (w : World) (a : Addr) (ql : List (Int × Int)) : Prop where
 c0 : ∀ (i : Nat) (h : i < ql.length), w.cell? (a.add (i * 2)) = some (.int .i64 ql[i].1)
 c1 : ∀ (i : Nat) (h : i < ql.length), w.cell? ((a.add (i * 2)).add 1) = some (.int .u32 ql[i].2)
 rg : ∀ p ∈ ql, (-9223372036854775808 ≤ p.1 ∧ p.1 < 9223372036854775808) ∧ 0 ≤ p.2 ∧ p.2 < 4294967296
 blk : a.block < w.heap.size
theorem add_blk (a : Addr) (i : Nat) : (a.add i).block = a.block := by unfold Addr.add; split <;> rfl
theorem add_one (a : Addr) : a.add 1 = ⟨a.block, a.off + 1, none⟩ := by unfold Addr.add; simp
theorem QSl.below {w w' : World} {a : Addr} {ql : List (Int × Int)} (h : QSl w a ql) (hb : Below w.heap.size w w') : QSl w' a ql :=
 ⟨fun i hi => (hb.cell (p := a.add (i * 2)) (by rw [add_blk]; exact h.blk)).trans (h.c0 i hi), fun i hi => (hb.cell (p := (a.add (i * 2)).add 1) (by rw [add_blk, add_blk]; exact h.blk)).trans (h.c1 i hi), h.rg, Nat.lt_of_lt_of_le h.blk hb.size⟩
/-- A slice of plain fractions. -/
def QV (w : World) (v : Value) (ql : List (Int × Int)) : Prop := ∃ ao c, v = .slice ao ql.length c ∧ ql.length ≤ c ∧ (ao = none → c = 0) ∧ (0 < ql.length → ∃ a, ao = some a ∧ QSl w a ql)
theorem QV.below {w w' : World} {v : Value} {ql : List (Int × Int)} (h : QV w v ql) (hb : Below w.heap.size w w') : QV w' v ql := by
 obtain ⟨ao, c, h1, h2, h3, h4⟩ := h
 refine ⟨ao, c, h1, h2, h3, fun h => ?_⟩
 obtain ⟨a, e, h5⟩ := h4 h
 exact ⟨a, e, h5.below hb⟩
theorem QV.keeps (v : Value) (ql : List (Int × Int)) : Keeps fun w => QV w v ql := fun _ _ hb h => h.below hb
theorem QSl.take {w : World} {a : Addr} {ql : List (Int × Int)} (h : QSl w a ql) (k : Nat) : QSl w a (ql.take k) := by
 refine ⟨fun i hi => ?_, fun i hi => ?_, fun p hp => h.rg p (List.mem_of_mem_take hp), h.blk⟩
 ·rw [List.getElem_take]; exact h.c0 i (by rw [List.length_take] at hi; omega)
 ·rw [List.getElem_take]; exact h.c1 i (by rw [List.length_take] at hi; omega)
theorem QV.take {w : World} {ao : Option Addr} {n c : Nat} {ql : List (Int × Int)} (h : QV w (.slice ao n c) ql) (k : Nat) (hk : k ≤ n) : QV w (.slice ao k c) (ql.take k) := by
 obtain ⟨a2, c2, h1, h2, h3, h4⟩ := h
 obtain ⟨rfl, rfl, rfl⟩ : ao = a2 ∧ n = ql.length ∧ c = c2 := by simpa using h1
 have e : (ql.take k).length = k := by rw [List.length_take]; omega
 refine ⟨ao, c, by rw [e], by omega, h3, fun h => ?_⟩
 obtain ⟨a, h5, h6⟩ := h4 (by omega)
 exact ⟨a, h5, h6.take k⟩
theorem QV.form {w : World} {v : Value} {ql : List (Int × Int)} (h : QV w v ql) : ∃ ao c, v = .slice ao ql.length c := by
 obtain ⟨ao, c, h1, _⟩ := h
 exact ⟨ao, c, h1⟩
theorem slice_qn (ao : Option Addr) (n c k : Nat) (hk : k ≤ n) (hc : n ≤ c) (h0 : ao = none → c = 0) (W : World) : (Instr.slice 22 (.slice ao n c) none (some (.int .i64 (k : Int))) none).run Tryz.prog W = .ok (.slice ao k c) W := by
 cases ao with
 | none =>
  obtain rfl := h0 rfl
  obtain rfl : n = 0 := by omega
  obtain rfl : k = 0 := by omega
  simp [Instr.slice, Instr.sliceBounds, run_underlying Tryz.underlying22, run_sliceBound, go_sem] <;> rfl
 | some a =>
  have h1 : (0 : Int) ≤ (k : Int) := by omega
  have h2 : (k : Int) ≤ (c : Int) := by omega
  simp [Instr.slice, Instr.sliceBounds, run_underlying Tryz.underlying22, run_sliceBound, h1, h2, go_sem] <;> rfl
def qm (p : Int × Int) : Rat := qmade p.1 p.2.toNat
/-- A row of fractions of one's own. -/
abbrev OwnF (w : World) (B : Nat) (v : Value) (n : Nat) (l : List Rat) : Prop := w.ownsRow B 36 5 v n (frCs l)
theorem wp_appendF {w : World} {ops : Array Oper} {rest : List Oper} {o : Oper} {a : Act} {Q : Exit → Act → World → Prop} (hgd : o.guard = none) (s x : Operand)
  (ho : o.op = .call { callee := .builtin .append, args := #[s, x], argTypes := #[28, 28] }) (B : Nat) (v : Value) (n : Nat) (L : List Rat) (hs : a.eval s = v) (hown : OwnF w B v n L) (g : Nat) (t : Rat) (hx : a.eval x = .slice (some ⟨g, 0, none⟩) 1 1) (hH : Hd w g (frC t))
  (hn : n ≤ 100000) (hbase : B ≤ w.heap.size)
  (h : ∀ v' w', OwnF w' B v' (n + 1) (L ++ [t]) → w.grownBy w' v.ownBlock → (v'.ownBlock = v.ownBlock ∨ v'.ownBlock = some w.heap.size) → wpList Tryz.prog ops Q rest (a.put o.dst v') w') : wpList Tryz.prog ops Q (o :: rest) a w := by
 obtain ⟨i0, hi, hz1, hz2, hz3⟩ := info_parts infoFr
 refine wpList_append_own_at w hgd s x 28 ho B 36 i0 _ 5 56 Tryz.underlying28 hi hz1 hz2 hz3 rfl (by decide) v n (frCs L) hs hown ⟨g, 0, none⟩ 1 1 (frC t) hx rfl (hd_newsH hH) (frC_one t) (by unfold maxLen; omega) (by omega) hbase ?_
 intro v' w' h1 h2 _ h4
 refine h v' w' ?_ h2 h4
 unfold OwnF
 rw [frCs_snoc]; exact h1
end Go.Proofs.YthffglapmkkohaaGreatDoor
namespace Go.Proofs.YthffglapmkkohaaGreatDoor
open Go.RowKit
attribute [local irreducible] lo hs sm s64 c64 d64 b64 mh ml pd pc qd qc val hiB str cmpI srD lz nb zl zh zs fe rowV tabV gv bsV mxV colV
abbrev PT (w : World) (v : Value) (l : List Rat) : Prop := SlQ w v l
theorem PT.below {w w' : World} {v : Value} {l : List Rat} (h : PT w v l) (hb : Below w.heap.size w w') : PT w' v l := SlQ.below h hb
theorem pt_nil (w : World) : PT w (.slice none 0 0) [] := .inl ⟨none, 0, rfl, rfl⟩
theorem pt_form {w : World} {v : Value} {l : List Rat} (h : PT w v l) : ∃ ao n c, v = .slice ao n c ∧ n = l.length := by
 obtain ⟨ao, c, e⟩ := slq_form' h
 exact ⟨ao, _, c, e, rfl⟩
theorem ptn_form {w : World} {v : Value} {l : List Rat} {n : Nat} (h : PT w v l) (hl : l.length = n) : ∃ ao c, v = .slice ao n c := by
 obtain ⟨ao, c, e⟩ := slq_form' h
 exact ⟨ao, c, by rw [e, hl]⟩
abbrev PP (l : List Rat) : Value → World → Prop := fun v w => PT w v l
theorem stays_pt (l : List Rat) : Stays (PP l) := fun _ _ _ hb h => h.below hb
abbrev PI (l : List Int) : Value → World → Prop := fun v w => ILs w v l
theorem stays_pi (l : List Int) : Stays (PI l) := fun _ _ _ hb h => h.below hb
/-- A vector with a code. -/
abbrev PE (l : List Rat) (e : Int) : Value → World → Prop := fun v w => ∃ u, v = .tuple #[u, .int .i64 e] ∧ PT w u l
theorem stays_pe (l : List Rat) (e : Int) : Stays (PE l e) := fun _ _ _ hb ⟨u, h1, h2⟩ => ⟨u, h1, h2.below hb⟩
theorem ty_val8 {P : Program} {o : Oper} {a : Act} {w w' : World} {T : Value → World → Prop} {u : Value} (hr : (execOp a.eval o).run P w = .ok (.value u) w') (hb : Below w.heap.size w w') (ht : T u w') : tyUpon P w T ((execOp a.eval o).run P w) := by
 rw [hr]; exact ⟨hb, ht⟩
def PTs (W : World) (S : List (Value × List Rat)) : Prop := ∀ p ∈ S, PT W p.1 p.2
theorem PTs.nil (w : World) : PTs w [] := fun p hp => by cases hp
theorem PTs.call {W W' : World} {S : List (Value × List Rat)} (h : PTs W S) (hb : Below W.heap.size W W') : PTs W' S := fun p hp => (h p hp).below hb
theorem PTs.new {W : World} {S : List (Value × List Rat)} (h : PTs W S) (o : Obj) : PTs (W.alloc o) S := h.call ((Below.refl _ _).alloc (Nat.le_refl _) o)
theorem PTs.drew {W : World} {S : List (Value × List Rat)} (h : PTs W S) : PTs W.drew S := h.call (Below.refl _ _).drew
theorem PTs.cons {W : World} {S : List (Value × List Rat)} {v : Value} {l : List Rat} (h : PTs W S) (q : PT W v l) : PTs W ((v, l) :: S) := fun p hp => by
 rcases List.mem_cons.1 hp with rfl | hp
 ·exact q
 ·exact h p hp
theorem PTs.get {W : World} {S : List (Value × List Rat)} {v : Value} {l : List Rat} (h : PTs W S) (hm : (v, l) ∈ S) : PT W v l := h _ hm
theorem ils_at {w : World} {g c n : Nat} {zs : List Int} {cs : List Value} (h : Hd w g cs) (he : cs = zs.map (.int .i64)) (hn : n = zs.length) : ILs w (.slice (some ⟨g, 0, none⟩) n c) zs := by
 subst hn; exact ils_of h he
theorem ils_form {w : World} {v : Value} {zs : List Int} (h : ILs w v zs) : ∃ ao n c, v = .slice ao n c := by
 obtain ⟨ao, c, g, h1, _⟩ := h
 exact ⟨ao, _, c, h1⟩
end Go.Proofs.YthffglapmkkohaaGreatDoor
namespace Go.Proofs.YthffglapmkkohaaGreatDoor
open Go.RowKit
theorem own_below9 {w w' : World} {B n sz : Nat} {e : TypeId} {v : Value} {xs : List Value} (h : w.ownsRow B e sz v n xs) (hb : Below w.heap.size w w') : w'.ownsRow B e sz v n xs := by
 refine ⟨h.1, ?_⟩
 rcases h.2 with h1 | ⟨g, cap, cur, h1, h2, h3, h4⟩
 ·exact .inl h1
 ·refine .inr ⟨g, cap, cur, h1, h2, ?_, h4⟩
  rw [hb.block g (h.lt g (by rw [h1]; rfl)).2]; exact h3
def AllRow (P : Value → Prop) (w : World) (base : Nat) (et : TypeId) (v : Value) (n : Nat) (xs : List Value) : Prop :=
 w.ownsRow base et 1 v n xs ∧ ∀ g, v.ownBlock = some g → ∀ i u, w.cell? ⟨g, i, none⟩ = some u → P u
theorem AllRow.nil {P : Value → Prop} (w : World) (base : Nat) (et : TypeId) : AllRow P w base et (.slice none 0 0) 0 [] := ⟨World.ownsRow_nil _ _ _ _, fun g h => by cases h⟩
theorem all_cells {P : Value → Prop} {w : World} {g : Nat} {cs : Array Value} {t : TypeId} {fr : Nat × Nat} (hb : w.heap[g]? = some (.cells cs t fr)) (hs : ∀ u ∈ cs.toList, P u) (i : Nat) (u : Value) (h : w.cell? ⟨g, i, none⟩ = some u) : P u := by
 have h2 : cs[i]? = some u := by simpa [World.cell?, hb] using h
 exact hs u (by simpa using List.mem_of_getElem? (l := cs.toList) (by simpa using h2))
theorem all_zero {P : Value → Prop} {z0 : Value} (hz1 : z0.cells = #[z0]) (hPz : P z0) (k : Nat) (u : Value) (h : u ∈ (Builtin.zeroCells z0.cells k).toList) : P u := by
 simp only [Builtin.zeroCells, Array.toList_map, List.mem_map] at h
 obtain ⟨j, _, rfl⟩ := h
 rw [hz1]
 have : j % (#[z0] : Array Value).size = 0 := by show j % 1 = 0; omega
 rw [this]; exact hPz
theorem run_append_all {P : Value → Prop} {st et : TypeId} {z0 : Value} {by0 : Nat} (ht : Tryz.prog.underlying st = some (.slice et)) (hinf : (Tryz.prog.info? et).map (fun i => (i.zero, i.size, i.bytes)) = some (some z0, 1, by0)) (hz1 : z0.cells = #[z0]) (hb0 : by0 ≤ 1000) (hPz : P z0) (w : World) (base : Nat) (ty : TypeId) (v : Value) (n : Nat) (xs : List Value) (hown : AllRow P w base et v n xs)
  (a : Addr) (c : Nat) (s : Value) (hPs : P s) (h1s : s.oneCell' = true) (hnews : w.cell? a = some s) (h63 : n + 1 ≤ 1000000) (hbase : base ≤ w.heap.size) :
  ∃ v' w', (Builtin.append_ #[st, st] ty #[v, .slice (some a) 1 c]).run Tryz.prog w = .ok v' w' ∧ AllRow P w' base et v' (n + 1) (xs ++ [s]) ∧ w.grownBy w' v.ownBlock := by
 obtain ⟨i, hi, hz, hsize, hby⟩ := info_parts hinf
 have hnw : ∀ j u, [s][j]? = some u → w.cell? (a.add j) = some u := fun j u hj => by
  match j, hj with
  | 0, hj => simp at hj; subst hj; simpa [Addr.add] using hnews
 have hl : [s].length = 1 * i.size := by rw [hsize]; rfl
 have h1 : ∀ u ∈ [s], u.oneCell' = true := fun u hu => by rw [List.mem_singleton.1 hu]; exact h1s
 obtain ⟨v', w', hr, ho, hg, _, _⟩ := run_append_own_at (P := Tryz.prog) w base st ty et i z0 1 by0 ht hi hz hsize hby (by rw [hz1]; rfl) (by decide) v n xs hown.1 a 1 c [s] rfl hnw h1 (by unfold maxLen; omega) (Nat.le_trans (Nat.mul_le_mul h63 hb0) (by decide)) hbase
 refine ⟨v', w', hr, ⟨ho, ?_⟩, hg⟩
 rcases hown.1.2 with ⟨rfl, rfl⟩ | ⟨g, cap, cur, rfl, hbg, hgc, hnc, hcm, hcs, htake⟩
 ·have hr2 := run_append_nil (P := Tryz.prog) w st ty et i _ ht hi hz a 1 c [s] hl hnw (by decide) (by omega) (by rw [hby]; omega)
  rw [hr] at hr2
  cases hr2
  intro g hgg
  have e1 : w.heap.size = g := Option.some.inj hgg
  subst e1
  refine all_cells (heap_alloc_new w.drew _) fun u hu => ?_
  simp only [Array.toList_append, List.mem_append] at hu
  rcases hu with hu | hu
  ·exact (by simpa using hu : u = s) ▸ hPs
  ·exact all_zero hz1 hPz _ u hu
 ·have hcur : ∀ u ∈ cur.toList, P u := fun u hu => by
   obtain ⟨j, hj⟩ := List.getElem?_of_mem hu
   refine hown.2 g rfl j u ?_
   have : cur[j]? = some u := by simpa using hj
   simpa [World.cell?, hgc] using this
  by_cases hroom : n + 1 ≤ cap
  ·have hr2 := run_append_room (P := Tryz.prog) w st ty et i ht hi g n cap cur hgc a 1 c [s] hl hnw h1 hroom (by rw [hcs, hsize]; simp; omega)
   rw [hr] at hr2
   cases hr2
   intro k hk
   have e1 : g = k := Option.some.inj hk
   subst e1
   refine all_cells (setRow_heap w g cur _ et _ hgc) fun u hu => ?_
   simp only [List.mem_append] at hu
   rcases hu with (hu | hu) | hu
   ·exact hcur u (List.mem_of_mem_take hu)
   ·exact (by simpa using hu : u = s) ▸ hPs
   ·exact hcur u (List.mem_of_mem_drop hu)
  ·have holds : ∀ j u, xs[j]? = some u → w.cell? ((⟨g, 0, none⟩ : Addr).add j) = some u := hown.1.cells (g := g) rfl
   have hr2 := run_append_grow (P := Tryz.prog) w st ty et i _ ht hi hz ⟨g, 0, none⟩ n cap xs (by rw [hsize]; exact hown.1.1) holds a 1 c [s] hl hnw (by omega) (by omega) (growslice_fits (by omega) (by rw [hby]; exact Nat.le_trans (Nat.mul_le_mul h63 hb0) (by decide)))
   rw [hr] at hr2
   cases hr2
   intro k hk
   have e1 : w.heap.size = k := Option.some.inj hk
   subst e1
   refine all_cells (heap_alloc_new w.drew _) fun u hu => ?_
   simp only [Array.toList_append, List.mem_append] at hu
   rcases hu with (hu | hu) | hu
   ·rw [← htake] at hu; exact hcur u (List.mem_of_mem_take hu)
   ·exact (by simpa using hu : u = s) ▸ hPs
   ·exact all_zero hz1 hPz _ u hu
theorem wp_append_all {P : Value → Prop} {st et : TypeId} {z0 : Value} {by0 : Nat} (ht : Tryz.prog.underlying st = some (.slice et)) (hinf : (Tryz.prog.info? et).map (fun i => (i.zero, i.size, i.bytes)) = some (some z0, 1, by0)) (hz1 : z0.cells = #[z0]) (hb0 : by0 ≤ 1000) (hPz : P z0) {w : World} {ops : Array Oper} {rest : List Oper} {o : Oper} {a : Act} {Q : Exit → Act → World → Prop} (hgd : o.guard = none) (s x : Operand)
  (ho : o.op = .call { callee := .builtin .append, args := #[s, x], argTypes := #[st, st] }) (base : Nat) (v : Value) (n : Nat) (xs : List Value) (hs : a.eval s = v) (hown : AllRow P w base et v n xs)
  (ad : Addr) (c : Nat) (t : Value) (hPt : P t) (h1t : t.oneCell' = true) (hx : a.eval x = .slice (some ad) 1 c) (hnews : w.cell? ad = some t) (h63 : n + 1 ≤ 1000000) (hbase : base ≤ w.heap.size)
  (h : ∀ v' w', AllRow P w' base et v' (n + 1) (xs ++ [t]) → w.grownBy w' v.ownBlock → wpList Tryz.prog ops Q rest (a.put o.dst v') w') : wpList Tryz.prog ops Q (o :: rest) a w := by
 refine wpList_plain hgd fun K hK => ?_
 obtain ⟨v', w', hr, h2, h3⟩ := run_append_all ht hinf hz1 hb0 hPz w base o.type v n xs hown ad c t hPt h1t hnews h63 hbase
 unfold Oper.wp execOp
 simp only [ho, resolve, invoke, builtin, Sem.run_bind, Sem.run_pure, Result.andThen_ok, List.map_toArray, List.map_cons, List.map_nil, hs, hx, hr]
 exact hK _ _ (h v' w' h2 h3)
theorem AllRow.below {P : Value → Prop} {w w' : World} {base n : Nat} {et : TypeId} {v : Value} {xs : List Value} (h : AllRow P w base et v n xs) (hb : Below w.heap.size w w') : AllRow P w' base et v n xs := by
 have hlt := fun g hg => (h.1.lt g hg).2
 exact ⟨own_below9 h.1 hb, fun g hg i u hu => h.2 g hg i u ((hb.cell (p := ⟨g, i, none⟩) (hlt g hg)).symm.trans hu)⟩
def isSl (u : Value) : Prop := ∃ a n c, u = .slice a n c
/-- Fractions don't lie in a row of slices. -/
theorem slq_apart {w w' : World} {base n : Nat} {et : TypeId} {v s : Value} {xs : List Value} {l : List Rat} (h : SlQ w v l) (hs : AllRow isSl w base et s n xs) (hg : w.grownBy w' s.ownBlock) : SlQ w' v l := by
 rcases h with h | ⟨g, c, rfl, hd⟩
 ·exact .inl h
 cases l with
 | nil => exact .inl ⟨some ⟨g, 0, none⟩, c, rfl, rfl⟩
 | cons q l =>
  have hne : some g ≠ s.ownBlock := fun e => by
   obtain ⟨a, n, c, ht⟩ := hs.2 g e.symm _ _ (hd.cell 0 (by simp)).1
   cases ht
  have hbl := hg.block g hd.lt hne
  have cc : ∀ j, w'.cell? ⟨g, j, none⟩ = w.cell? ⟨g, j, none⟩ := fun j => World.cell?_of_block (a := ⟨g, j, none⟩) hbl
  exact .inr ⟨g, c, rfl, fun i hi => by rw [cc, cc, cc, cc, cc]; exact hd.cell i hi, Nat.lt_of_lt_of_le hd.lt hg.size⟩
theorem AllRow.form {P : Value → Prop} {w : World} {b n : Nat} {et : TypeId} {v : Value} {xs : List Value} (h : AllRow P w b et v n xs) : ∃ av cv, v = .slice av n cv := by
 rcases h.1.2 with ⟨rfl, rfl⟩ | ⟨g, cap, cur, rfl, -⟩
 ·exact ⟨none, 0, rfl⟩
 ·exact ⟨_, _, rfl⟩
theorem AllRow.at {P : Value → Prop} {w : World} {b n cv : Nat} {et : TypeId} {av : Option Addr} {xs : List Value} (h : AllRow P w b et (.slice av n cv) n xs) (h0 : 0 < n) : ∃ g, av = some ⟨g, 0, none⟩ ∧ g < w.heap.size ∧ ∀ (j : Nat) (u : Value), xs[j]? = some u → w.cell? ⟨g, j, none⟩ = some u := by
 rcases h.1.2 with ⟨_, e0⟩ | ⟨g, cap, cur, e, hr⟩
 ·omega
 ·cases e
  refine ⟨g, rfl, (h.1.lt g rfl).2, fun j u hj => ?_⟩
  have := h.1.cells (g := g) rfl j u hj
  rwa [add0H] at this
theorem AllRow.len {P : Value → Prop} {w : World} {b n : Nat} {et : TypeId} {v : Value} {xs : List Value} (h : AllRow P w b et v n xs) : xs.length = n := by rw [h.1.1, Nat.mul_one]
/-- The first n cells hold U's vectors. -/
def UX (w : World) (U : Nat → List Rat) (n : Nat) (ls : List Value) : Prop := ∀ m, m < n → ∃ u, ls[m]? = some u ∧ SlQ w u (U m)
theorem UX.nil (w : World) (U : Nat → List Rat) : UX w U 0 [] := fun m h => absurd h (Nat.not_lt_zero _)
theorem UX.below {w w' : World} {U : Nat → List Rat} {n : Nat} {ls : List Value} (h : UX w U n ls) (hb : Below w.heap.size w w') : UX w' U n ls := fun m hm => by
 obtain ⟨u, h1, h2⟩ := h m hm
 exact ⟨u, h1, h2.below hb⟩
theorem UX.apart {w w' : World} {U : Nat → List Rat} {base n k : Nat} {et : TypeId} {s : Value} {xs ls : List Value} (h : UX w U n ls) (hs : AllRow isSl w base et s k xs) (hg : w.grownBy w' s.ownBlock) : UX w' U n ls := fun m hm => by
 obtain ⟨u, h1, h2⟩ := h m hm
 exact ⟨u, h1, slq_apart h2 hs hg⟩
theorem PTs.apart {w w' : World} {base k : Nat} {et : TypeId} {s : Value} {xs : List Value} {S : List (Value × List Rat)} (h : PTs w S) (hs : AllRow isSl w base et s k xs) (hg : w.grownBy w' s.ownBlock) : PTs w' S := fun p hp => slq_apart (h p hp) hs hg
theorem vls_all {w : World} {b n : Nat} {et : TypeId} {v : Value} {ls : List Value} {U : Nat → List Rat} (h : AllRow isSl w b et v n ls) (hu : UX w U n ls) : VLs w v ((List.range n).map U) := by
 obtain ⟨av, cv, rfl⟩ := h.form
 have hl : ((List.range n).map U).length = n := by rw [List.length_map, List.length_range]
 by_cases h0 : 0 < n
 ·obtain ⟨g, rfl, hg, hc⟩ := h.at h0
  refine ⟨some ⟨g, 0, none⟩, cv, g, by rw [hl], fun _ => ⟨rfl, hg⟩, fun i hi => ?_⟩
  obtain ⟨u, h1, h2⟩ := hu i (by rw [hl] at hi; exact hi)
  exact ⟨u, hc i u h1, by simpa using h2⟩
 ·obtain rfl : n = 0 := by omega
  exact ⟨av, cv, 0, rfl, fun h => absurd h (by simp), fun i hi => absurd hi (by simp)⟩
theorem infoVec : (Tryz.prog.info? 28).map (fun i => (i.zero, i.size, i.bytes)) = some (some (.slice none 0 0), 1, 24) := by kernel_rfl
theorem undVec : Tryz.prog.underlying 26 = some (.slice 28) := by kernel_rfl
theorem ptp9_form {w : World} {v : Value} {l : List Rat} {n : Nat} (h : SlQ w v l) (hl : l.length = n) (h0 : 0 < n) : ∃ g c, v = .slice (some ⟨g, 0, none⟩) n c := by
 obtain ⟨ao, c, e, hf⟩ := slq_len h
 obtain ⟨g, e2, -⟩ := hf (by omega)
 exact ⟨g, c, by rw [e, e2, hl]⟩
end Go.Proofs.YthffglapmkkohaaGreatDoor
namespace Go.Proofs.YthffglapmkkohaaGreatDoor
open Go.RowKit
/-- The integers that a slice (anywhere) holds. -/
def IA (w : World) (v : Value) (zs : List Int) : Prop :=
 ∃ ao c, v = .slice ao zs.length c ∧ (∀ z ∈ zs, -9223372036854775808 ≤ z ∧ z < 9223372036854775808) ∧ (0 < zs.length → ∃ a : Addr, ao = some a ∧ a.block < w.heap.size ∧ ∀ (i : Nat) (h : i < zs.length), w.cell? (a.add i) = some (.int .i64 zs[i]))
/-- The slices of plain fractions that a slice holds. -/
def QVV (w : World) (v : Value) (Ls : List (List (Int × Int))) : Prop :=
 ∃ ao c, v = .slice ao Ls.length c ∧ Ls.length ≤ c ∧ (ao = none → c = 0) ∧ (0 < Ls.length → ∃ a : Addr, ao = some a ∧ a.block < w.heap.size ∧ ∀ (i : Nat) (h : i < Ls.length), ∃ bo m k, w.cell? (a.add i) = some (.slice bo m k) ∧ QV w (.slice bo m k) Ls[i])
theorem add_block (a : Addr) (i : Nat) : (a.add i).block = a.block := add_blk a i
theorem IA.below {w w' : World} {v : Value} {zs : List Int} (h : IA w v zs) (hb : Below w.heap.size w w') : IA w' v zs := by
 obtain ⟨ao, c, h1, hz, h2⟩ := h
 refine ⟨ao, c, h1, hz, fun h0 => ?_⟩
 obtain ⟨a, h3, h4, h5⟩ := h2 h0
 exact ⟨a, h3, Nat.lt_of_lt_of_le h4 hb.size, fun i hi => (hb.cell (p := a.add i) (by rw [add_block]; exact h4)).trans (h5 i hi)⟩
theorem QVV.below {w w' : World} {v : Value} {Ls : List (List (Int × Int))} (h : QVV w v Ls) (hb : Below w.heap.size w w') : QVV w' v Ls := by
 obtain ⟨ao, c, h1, hl, hn, h2⟩ := h
 refine ⟨ao, c, h1, hl, hn, fun h0 => ?_⟩
 obtain ⟨a, h3, h4, h5⟩ := h2 h0
 refine ⟨a, h3, Nat.lt_of_lt_of_le h4 hb.size, fun i hi => ?_⟩
 obtain ⟨bo, m, k, h6, h7⟩ := h5 i hi
 exact ⟨bo, m, k, (hb.cell (p := a.add i) (by rw [add_block]; exact h4)).trans h6, h7.below hb⟩
theorem IA.keeps (v : Value) (zs : List Int) : Keeps fun w => IA w v zs := fun _ _ hb h => h.below hb
theorem QVV.keeps (v : Value) (Ls : List (List (Int × Int))) : Keeps fun w => QVV w v Ls := fun _ _ hb h => h.below hb
/-- The k-th slice of plain fractions. -/
theorem QVV.at {w : World} {ao : Option Addr} {m c : Nat} {Ls : List (List (Int × Int))} (h : QVV w (.slice ao m c) Ls) (i : Nat) (hi : i < m) : ∃ a : Addr, ao = some a ∧ ∃ bo mi k, w.cell? (a.add i) = some (.slice bo mi k) ∧ QV w (.slice bo mi k) (Ls.getD i []) := by
 obtain ⟨ao', c', e, _, _, h2⟩ := h
 obtain ⟨rfl, rfl, rfl⟩ : ao = ao' ∧ m = Ls.length ∧ c = c' := by simpa using e
 obtain ⟨a, rfl, _, h5⟩ := h2 (by omega)
 obtain ⟨bo, mi, k, h6, h7⟩ := h5 i hi
 refine ⟨a, rfl, bo, mi, k, h6, ?_⟩
 rw [List.getD_eq_getElem?_getD, List.getElem?_eq_getElem hi]
 exact h7
theorem IA.at {w : World} {ao : Option Addr} {m c : Nat} {zs : List Int} (h : IA w (.slice ao m c) zs) (i : Nat) (hi : i < m) : ∃ a : Addr, ao = some a ∧ w.cell? (a.add i) = some (.int .i64 (zs.getD i 0)) := by
 obtain ⟨ao', c', e, _, h2⟩ := h
 obtain ⟨rfl, rfl, rfl⟩ : ao = ao' ∧ m = zs.length ∧ c = c' := by simpa using e
 obtain ⟨a, rfl, _, h5⟩ := h2 (by omega)
 refine ⟨a, rfl, ?_⟩
 rw [List.getD_eq_getElem?_getD, List.getElem?_eq_getElem hi]
 exact h5 i hi
/-- The least of 20 and the first k lengths. -/
def mnV (f : Nat → Nat) : Nat → Nat
 | 0 => 20
 | k + 1 => min (mnV f k) (f k)
theorem mn_le (f : Nat → Nat) : ∀ k, mnV f k ≤ 20 ∧ ∀ i, i < k → mnV f k ≤ f i
 | 0 => ⟨Nat.le_refl _, fun i h => absurd h (Nat.not_lt_zero _)⟩
 | k + 1 => by
  have := mn_le f k
  refine ⟨?_, fun i hi => ?_⟩
  ·show min _ _ ≤ 20; omega
  ·show min _ _ ≤ f i
   rcases Nat.lt_or_ge i k with h | h
   ·have := this.2 i h; omega
   ·obtain rfl : i = k := by omega
    omega
theorem GL.swap9 {w0 W : World} {a b : Nat} {c d : List Value} (h : GL w0 W [(a, c), (b, d)]) : GL w0 W [(b, d), (a, c)] :=
 ⟨h.bl, fun p hp => h.all p (by simp only [List.mem_cons, List.not_mem_nil, or_false] at hp ⊢; exact hp.symm), by
  have := h.nd
  simp only [List.map_cons, List.map_nil, List.nodup_cons, List.mem_singleton, List.not_mem_nil, not_false_eq_true, List.nodup_nil, and_true] at this ⊢
  exact fun e => this e.symm⟩
end Go.Proofs.YthffglapmkkohaaGreatDoor
namespace Go.Proofs.YthffglapmkkohaaGreatDoor
open Go.RowKit
attribute [local irreducible] lo hs sm s64 c64 d64 b64 mh ml pd pc qd qc val hiB str cmpI srD lz nb zl zh zs fe rowV tabV gv bsV mxV colV
theorem vworks_w (hf dt mm : Rat) (o1 o2 o3 o4 o5 o6 o7 o8 o9 oa ob ax mx pt : List Rat) (HOh : ∀ w, Calls Tryz.prog 57 #[.int .i64 1, .int .i64 2] w fun xe w' => xe = .returned (.tuple #[fracV hf, .int .i64 0]) ∧ Below w.heap.size w w') (HFo1 : ∀ (p0 : Value) (w : World), ILs w p0 ([1, (-2)]) → Calls Tryz.prog 58 #[p0] w fun e w' => ∃ pv, e = .returned pv ∧ PT w' pv o1 ∧ Below w.heap.size w w') (HFo2 : ∀ (p0 : Value) (w : World), ILs w p0 ([0, 3]) → Calls Tryz.prog 58 #[p0] w fun e w' => ∃ pv, e = .returned pv ∧ PT w' pv o2 ∧ Below w.heap.size w w') (HFo3 : ∀ (p0 : Value) (w : World), ILs w p0 ([1, 2, 3]) → Calls Tryz.prog 58 #[p0] w fun e w' => ∃ pv, e = .returned pv ∧ PT w' pv o3 ∧ Below w.heap.size w w') (HFo4 : ∀ (p0 : Value) (w : World), ILs w p0 ([4, 5, 6]) → Calls Tryz.prog 58 #[p0] w fun e w' => ∃ pv, e = .returned pv ∧ PT w' pv o4 ∧ Below w.heap.size w w') (HFo5 : ∀ (p0 : Value) (w : World), ILs w p0 ([2, 3]) → Calls Tryz.prog 58 #[p0] w fun e w' => ∃ pv, e = .returned pv ∧ PT w' pv o5 ∧ Below w.heap.size w w') (HFo6 : ∀ (p0 : Value) (w : World), ILs w p0 ([1, 0]) → Calls Tryz.prog 58 #[p0] w fun e w' => ∃ pv, e = .returned pv ∧ PT w' pv o6 ∧ Below w.heap.size w w') (HFo7 : ∀ (p0 : Value) (w : World), ILs w p0 ([0, 1]) → Calls Tryz.prog 58 #[p0] w fun e w' => ∃ pv, e = .returned pv ∧ PT w' pv o7 ∧ Below w.heap.size w w') (HFo8 : ∀ (p0 : Value) (w : World), ILs w p0 ([5, 6, 7]) → Calls Tryz.prog 58 #[p0] w fun e w' => ∃ pv, e = .returned pv ∧ PT w' pv o8 ∧ Below w.heap.size w w') (HFo9 : ∀ (p0 : Value) (w : World), ILs w p0 ([1]) → Calls Tryz.prog 58 #[p0] w fun e w' => ∃ pv, e = .returned pv ∧ PT w' pv o9 ∧ Below w.heap.size w w') (HFoa : ∀ (p0 : Value) (w : World), ILs w p0 ([1, 2]) → Calls Tryz.prog 58 #[p0] w fun e w' => ∃ pv, e = .returned pv ∧ PT w' pv oa ∧ Below w.heap.size w w') (HFob : ∀ (p0 : Value) (w : World), ILs w p0 ([2, (-7)]) → Calls Tryz.prog 58 #[p0] w fun e w' => ∃ pv, e = .returned pv ∧ PT w' pv ob ∧ Below w.heap.size w w') (HAx : ∀ (p1 p2 : Value) (w : World), PT w p1 o1 → PT w p2 o2 → Calls Tryz.prog 47 #[fracV hf, p1, p2] w fun e w' => ∃ pv, e = .returned (.tuple #[pv, .int .i64 0]) ∧ PT w' pv ax ∧ Below w.heap.size w w') (HDt : ∀ (p0 p1 : Value) (w : World), PT w p0 o3 → PT w p1 o4 → Calls Tryz.prog 52 #[p0, p1] w fun e w' => e = .returned (.tuple #[fracV dt, .int .i64 0]) ∧ Below w.heap.size w w') (HMx : ∀ (p0 p1 : Value) (w : World), PT w p0 o5 → VLs w p1 ([o6, o7]) → Calls Tryz.prog 17 #[p0, p1] w fun e w' => ∃ pv, e = .returned (.tuple #[pv, .int .i64 0]) ∧ PT w' pv mx ∧ Below w.heap.size w w') (HPt : ∀ (p0 p1 : Value) (w : World), PT w p0 o8 → ILs w p1 ([2, 0, 2]) → Calls Tryz.prog 19 #[p0, p1] w fun e w' => ∃ pv, e = .returned (.tuple #[pv, .int .i64 0]) ∧ PT w' pv pt ∧ Below w.heap.size w w') (HAd : ∀ (p0 p1 : Value) (w : World), PT w p0 o9 → PT w p1 oa → Calls Tryz.prog 59 #[p0, p1] w fun e w' => e = .returned (.tuple #[.slice none 0 0, .int .i64 1]) ∧ Below w.heap.size w w') (HI32 : ∀ w, Calls Tryz.prog 12 #[.int .i64 32] w fun xe w' => xe = .returned (fracV dt) ∧ Below w.heap.size w w') (HI7 : ∀ w, Calls Tryz.prog 12 #[.int .i64 7] w fun xe w' => xe = .returned (fracV mm) ∧ Below w.heap.size w w') (HU : ∀ w, Calls Tryz.prog 27 #[.int .i64 2, .int .i64 2] w fun xe w' => xe = .returned (.tuple #[.slice none 0 0, .int .i64 1]) ∧ Below w.heap.size w w') (HZ1 : ∀ w, Calls Tryz.prog 46 #[.int .i64 (-1)] w fun xe w' => xe = .returned (.tuple #[.slice none 0 0, .int .i64 1]) ∧ Below w.heap.size w w') (HZ2 : ∀ w, Calls Tryz.prog 46 #[.int .i64 2049] w fun xe w' => xe = .returned (.tuple #[.slice none 0 0, .int .i64 3]) ∧ Below w.heap.size w w') (HM1 : ∀ (p0 : Value) (w : World), PT w p0 ob → Calls Tryz.prog 61 #[p0] w fun e w' => e = .returned (fracV mm) ∧ Below w.heap.size w w') (HM2 : ∀ w, Calls Tryz.prog 61 #[.slice none 0 0] w fun xe w' => xe = .returned (.agg #[.int .u64 0, .string ⟨#[]⟩, .bool false, .int .u64 0, .string ⟨#[]⟩]) ∧ Below w.heap.size w w') (KT : World → Prop) (hKT : Keeps KT) (HTo1 : ∀ (p0 : Value) (w : World), KT w → PT w p0 o1 → Calls Tryz.prog 60 #[p0] w fun e w' => e = .returned (.string (ByteArray.mk #[91, 49, 32, 45, 50, 93])) ∧ Below w.heap.size w w') (HTax : ∀ (p0 : Value) (w : World), KT w → PT w p0 ax → Calls Tryz.prog 60 #[p0] w fun e w' => e = .returned (.string (ByteArray.mk #[91, 49, 47, 50, 32, 50, 93])) ∧ Below w.heap.size w w') (HTmx : ∀ (p0 : Value) (w : World), KT w → PT w p0 mx → Calls Tryz.prog 60 #[p0] w fun e w' => e = .returned (.string (ByteArray.mk #[91, 50, 32, 51, 93])) ∧ Below w.heap.size w w') (HTpt : ∀ (p0 : Value) (w : World), KT w → PT w p0 pt → Calls Tryz.prog 60 #[p0] w fun e w' => e = .returned (.string (ByteArray.mk #[91, 55, 32, 53, 32, 55, 93])) ∧ Below w.heap.size w w') (HTn : ∀ w, KT w → Calls Tryz.prog 60 #[.slice none 0 0] w fun xe w' => xe = .returned (.string (ByteArray.mk #[91, 93])) ∧ Below w.heap.size w w') (w : World) (kKT : KT w) :
  Calls Tryz.prog 10 #[] w fun e w' => e = .returned (.bool true) ∧ Below w.heap.size w w' := by
 replace HOh := Lib.hid HOh
 replace HFo1 := Lib.hid HFo1
 replace HFo2 := Lib.hid HFo2
 replace HFo3 := Lib.hid HFo3
 replace HFo4 := Lib.hid HFo4
 replace HFo5 := Lib.hid HFo5
 replace HFo6 := Lib.hid HFo6
 replace HFo7 := Lib.hid HFo7
 replace HFo8 := Lib.hid HFo8
 replace HFo9 := Lib.hid HFo9
 replace HFoa := Lib.hid HFoa
 replace HFob := Lib.hid HFob
 replace HAx := Lib.hid HAx
 replace HDt := Lib.hid HDt
 replace HMx := Lib.hid HMx
 replace HPt := Lib.hid HPt
 replace HAd := Lib.hid HAd
 replace HI32 := Lib.hid HI32
 replace HI7 := Lib.hid HI7
 replace HU := Lib.hid HU
 replace HZ1 := Lib.hid HZ1
 replace HZ2 := Lib.hid HZ2
 replace HM1 := Lib.hid HM1
 replace HM2 := Lib.hid HM2
 replace hKT := Lib.hid hKT
 replace HTo1 := Lib.hid HTo1
 replace HTax := Lib.hid HTax
 replace HTmx := Lib.hid HTmx
 replace HTpt := Lib.hid HTpt
 replace HTn := Lib.hid HTn
 have hL0 : GL w w [] := GL.start w
 have hT : PTs w [] := PTs.nil w
 go_enter Tryz.func10, Tryz.ntmps10
 go_wp2_with fail
 with_reducible refine Calls.mono (HOh.out _) ?_
 rintro e x1 ⟨rfl, hb⟩
 replace hL0 := hL0.call hb
 replace hT := hT.call hb
 clear hb
 replace hT := ((hT.new (.cells #[.int .u64 ((zl hf.num : Nat) : Int), .string (zh hf.num), .bool (zs hf.num), .int .u64 ((lo (fe hf) : Nat) : Int), .string (hs (fe hf))] 36)).new (.cells #[.int .i64 1, .int .i64 (-2)] 2))
 replace hL0 := ((hL0.new rfl [.int .u64 ((zl hf.num : Nat) : Int), .string (zh hf.num), .bool (zs hf.num), .int .u64 ((lo (fe hf) : Nat) : Int), .string (hs (fe hf))] 36).new (K := x1.heap.size + 1) (szA _ _) [.int .i64 1, .int .i64 (-2)] 2)
 generalize hweq : ((x1.alloc (.cells #[.int .u64 ((zl hf.num : Nat) : Int), .string (zh hf.num), .bool (zs hf.num), .int .u64 ((lo (fe hf) : Nat) : Int), .string (hs (fe hf))] 36)).alloc (.cells #[.int .i64 1, .int .i64 (-2)] 2)) = x2 at hL0 hT
 have hbv1 : ILs x2 (.slice (some ⟨x1.heap.size + 1, 0, none⟩) 2 2) [1, (-2)] := ils_at (hL0.get _ _ mZ) rfl rfl
 replace hbv1 := Lib.hid hbv1
 go_wp2_with fail
 with_reducible refine Calls.mono (HFo1.out (.slice (some ⟨x1.heap.size + 1, 0, none⟩) 2 2) _ hbv1.out) ?_
 rintro e x3 ⟨v0, rfl, q0, hb⟩
 replace hL0 := hL0.call hb
 replace hT := hT.call hb
 clear hb hweq
 obtain ⟨g1, d1, g1c, rfl, -⟩ := pt_form q0
 replace hT := hT.cons q0
 clear q0
 go_upto_region 3 with fail
 refine region_tl 10 [EV (.agg #[.int .u64 ((zl hf.num : Nat) : Int), .string (zh hf.num), .bool (zs hf.num), .int .u64 ((lo (fe hf) : Nat) : Int), .string (hs (fe hf))]), EV (.slice g1 d1 g1c), PI [0, 3], PP o2, PE ax 0, PE ax 0, PP ax, EV (.int .i64 0), PP ax, EV (.int .i64 0)] (by kernel_rfl) (by kernel_rfl) ?_ ?_ ?_
 ·repeat' first | exact stays_nil | apply stays_cons | exact stays_eq _ | exact stays_pt _ | exact stays_pe _ _ | exact stays_pi _
 ·simp only [List.take_succ_cons, List.take_zero, hopsR, and_true]
  refine ⟨?_, ?_, ?_, ?_, ?_, ?_, ?_, ?_, ?_, ?_⟩ <;> intro fv w1 hb1 hp
  all_goals (have hc := (hL0.call (below_drew hb1)).fc; simp only [zF, Nat.reduceAdd] at hc; simp only [putsV, Act.put, zP, Nat.zero_add, Nat.reduceAdd])
  ·refine tyAt_none rfl ?_
   simp [tyUpon, execOp, go_sem, Act.eval, hc, Below.refl]
  ·refine tyAt_none rfl ?_
   simp [tyUpon, execOp, go_sem, Act.eval, Below.refl]
  ·refine tyAt_none rfl ?_
   refine ty_val8 (u := .slice (some ⟨w1.heap.size, 0, none⟩) 2 2) (w' := w1.alloc (.cells #[.int .i64 0, .int .i64 3] 2)) (by simp [execOp, go_sem, Act.eval]) ((Below.refl _ _).alloc (Nat.le_refl _) _) (ils_at (hd_new w1 [.int .i64 0, .int .i64 3] _) rfl rfl)
  ·have h2 : (PI [0, 3]) (fv 2) w1 := hp 2 (LC (by kernel_rfl))
   refine tyAt_none rfl ?_
   refine ty_call (f := 58) (args := #[fv 2]) (by simp [execOp, go_sem, Act.eval]) ?_
   exact (HFo2.out (fv 2) w1 h2).mono fun e w2 ⟨pv, h1, h2, h3⟩ => ⟨pv, h1, h2, h3⟩
  ·have h0 : EV _ (fv 0) w1 := hp 0 (LC (by kernel_rfl))
   have h1 : EV _ (fv 1) w1 := hp 1 (LC (by kernel_rfl))
   have h3 : (PP o2) (fv 3) w1 := hp 3 (LC (by kernel_rfl))
   refine tyAt_none rfl ?_
   refine ty_call (f := 47) (args := #[.agg #[.int .u64 ((zl hf.num : Nat) : Int), .string (zh hf.num), .bool (zs hf.num), .int .u64 ((lo (fe hf) : Nat) : Int), .string (hs (fe hf))], .slice g1 d1 g1c, fv 3]) (by simp [execOp, go_sem, Act.eval, h0, h1]) ?_
   exact (HAx.out (.slice g1 d1 g1c) (fv 3) w1 (PT.below (hT.get mZ) (below_drew hb1)) h3).mono fun e w2 ⟨pv, h1, h2, h3⟩ => ⟨_, h1, ⟨pv, rfl, h2⟩, h3⟩
  ·have h4 : (PE ax 0) (fv 4) w1 := hp 4 (LC (by kernel_rfl))
   refine tyAt_none rfl ?_
   simp [tyUpon, execOp, go_sem, Act.eval, Below.refl]
   exact h4
  ·have h5 : (PE ax 0) (fv 5) w1 := hp 5 (LC (by kernel_rfl))
   refine tyAt_none rfl ?_
   obtain ⟨pa, pe, pz⟩ := h5
   simp [tyUpon, execOp, go_sem, Act.eval, pe, Below.refl]
   exact pz
  ·have h5 : (PE ax 0) (fv 5) w1 := hp 5 (LC (by kernel_rfl))
   refine tyAt_none rfl ?_
   obtain ⟨pa, pe, pz⟩ := h5
   simp [tyUpon, execOp, go_sem, Act.eval, pe, Below.refl]
  ·have h6 : (PP ax) (fv 6) w1 := hp 6 (LC (by kernel_rfl))
   refine tyAt_none rfl ?_
   simp [tyUpon, execOp, go_sem, Act.eval, Below.refl]
   exact h6
  ·have h7 : EV _ (fv 7) w1 := hp 7 (LC (by kernel_rfl))
   refine tyAt_none rfl ?_
   simp [tyUpon, execOp, go_sem, Act.eval, h7, Below.refl]
 ·intro fv x4 hb1 hv
  have e0 : fv 0 = _ := hv 0 (by omega)
  have e1 : fv 1 = _ := hv 1 (by omega)
  have q2 : ILs x4 (fv 2) ([0, 3]) := hv 2 (by omega)
  obtain ⟨g2, d2, g2c, e2⟩ := ils_form q2
  rw [e2] at q2
  have q3 : PT x4 (fv 3) o2 := hv 3 (by omega)
  obtain ⟨g3, d3, g3c, e3, -⟩ := pt_form q3
  rw [e3] at q3
  obtain ⟨pa4, e4, q4⟩ := hv 4 (by omega)
  obtain ⟨pa5, e5, q5⟩ := hv 5 (by omega)
  have q6 : PT x4 (fv 6) ax := hv 6 (by omega)
  obtain ⟨g4, d4, g4c, e6, -⟩ := pt_form q6
  rw [e6] at q6
  have e7 : fv 7 = _ := hv 7 (by omega)
  have q8 : PT x4 (fv 8) ax := hv 8 (by omega)
  obtain ⟨g5, d5, g5c, e8, -⟩ := pt_form q8
  rw [e8] at q8
  have e9 : fv 9 = _ := hv 9 (by omega)
  simp only [List.take_succ_cons, List.take_zero, putsV, Act.put, zP, List.drop_succ_cons, List.drop_zero, Nat.zero_add, Nat.reduceAdd, e0, e1, e2, e3, e4, e5, e6, e7, e8, e9]
  replace hL0 := hL0.call (below_drew hb1)
  replace hT := hT.call (below_drew hb1)
  replace hT := hT.cons q3
  replace hT := hT.cons q6
  replace hT := hT.cons q8
  clear e0 e1 e2 e3 e4 e5 e6 e7 e8 e9 hb1 hv q2 q3 q4 q5 q6 q8 fv
  replace hT := (hT.new (.cells #[.int .i64 1, .int .i64 2, .int .i64 3] 2))
  replace hL0 := (hL0.new rfl [.int .i64 1, .int .i64 2, .int .i64 3] 2)
  generalize hweq : (x4.alloc (.cells #[.int .i64 1, .int .i64 2, .int .i64 3] 2)) = x5 at hL0 hT
  have hbv2 : ILs x5 (.slice (some ⟨x4.heap.size, 0, none⟩) 3 3) [1, 2, 3] := ils_at (hL0.get _ _ mZ) rfl rfl
  replace hbv2 := Lib.hid hbv2
  go_wp2_with fail
  with_reducible refine Calls.mono (HFo3.out (.slice (some ⟨x4.heap.size, 0, none⟩) 3 3) _ hbv2.out) ?_
  rintro e x6 ⟨v0, rfl, q0, hb⟩
  replace hL0 := hL0.call hb
  replace hT := hT.call hb
  clear hb hweq
  obtain ⟨g6, d6, g6c, rfl, -⟩ := pt_form q0
  replace hT := hT.cons q0
  clear q0
  replace hT := (hT.new (.cells #[.int .i64 4, .int .i64 5, .int .i64 6] 2))
  replace hL0 := (hL0.new rfl [.int .i64 4, .int .i64 5, .int .i64 6] 2)
  generalize hweq : (x6.alloc (.cells #[.int .i64 4, .int .i64 5, .int .i64 6] 2)) = x7 at hL0 hT
  have hbv3 : ILs x7 (.slice (some ⟨x6.heap.size, 0, none⟩) 3 3) [4, 5, 6] := ils_at (hL0.get _ _ mZ) rfl rfl
  replace hbv3 := Lib.hid hbv3
  go_wp2_with fail
  with_reducible refine Calls.mono (HFo4.out (.slice (some ⟨x6.heap.size, 0, none⟩) 3 3) _ hbv3.out) ?_
  rintro e x8 ⟨v0, rfl, q0, hb⟩
  replace hL0 := hL0.call hb
  replace hT := hT.call hb
  clear hb hweq
  obtain ⟨g7, d7, g7c, rfl, -⟩ := pt_form q0
  replace hT := hT.cons q0
  clear q0
  go_wp2_with fail
  with_reducible refine Calls.mono (HDt.out (.slice g6 d6 g6c) (.slice g7 d7 g7c) _ (hT.get (mK mZ)) (hT.get mZ)) ?_
  rintro e x9 ⟨rfl, hb⟩
  replace hL0 := hL0.call hb
  replace hT := hT.call hb
  clear hb
  replace hT := ((hT.new (.cells #[.int .u64 ((zl dt.num : Nat) : Int), .string (zh dt.num), .bool (zs dt.num), .int .u64 ((lo (fe dt) : Nat) : Int), .string (hs (fe dt))] 36)).new (.cells #[.int .i64 2, .int .i64 3] 2))
  replace hL0 := ((hL0.new rfl [.int .u64 ((zl dt.num : Nat) : Int), .string (zh dt.num), .bool (zs dt.num), .int .u64 ((lo (fe dt) : Nat) : Int), .string (hs (fe dt))] 36).new (K := x9.heap.size + 1) (szA _ _) [.int .i64 2, .int .i64 3] 2)
  generalize hweq : ((x9.alloc (.cells #[.int .u64 ((zl dt.num : Nat) : Int), .string (zh dt.num), .bool (zs dt.num), .int .u64 ((lo (fe dt) : Nat) : Int), .string (hs (fe dt))] 36)).alloc (.cells #[.int .i64 2, .int .i64 3] 2)) = x10 at hL0 hT
  have hbv4 : ILs x10 (.slice (some ⟨x9.heap.size + 1, 0, none⟩) 2 2) [2, 3] := ils_at (hL0.get _ _ mZ) rfl rfl
  replace hbv4 := Lib.hid hbv4
  go_wp2_with fail
  with_reducible refine Calls.mono (HFo5.out (.slice (some ⟨x9.heap.size + 1, 0, none⟩) 2 2) _ hbv4.out) ?_
  rintro e x11 ⟨v0, rfl, q0, hb⟩
  replace hL0 := hL0.call hb
  replace hT := hT.call hb
  clear hb hweq
  obtain ⟨g8, d8, g8c, rfl, -⟩ := pt_form q0
  replace hT := hT.cons q0
  clear q0
  replace hT := (hT.new (.cells #[.int .i64 1, .int .i64 0] 2))
  replace hL0 := (hL0.new rfl [.int .i64 1, .int .i64 0] 2)
  generalize hweq : (x11.alloc (.cells #[.int .i64 1, .int .i64 0] 2)) = x12 at hL0 hT
  have hbv5 : ILs x12 (.slice (some ⟨x11.heap.size, 0, none⟩) 2 2) [1, 0] := ils_at (hL0.get _ _ mZ) rfl rfl
  replace hbv5 := Lib.hid hbv5
  go_wp2_with fail
  with_reducible refine Calls.mono (HFo6.out (.slice (some ⟨x11.heap.size, 0, none⟩) 2 2) _ hbv5.out) ?_
  rintro e x13 ⟨v0, rfl, q0, hb⟩
  replace hL0 := hL0.call hb
  replace hT := hT.call hb
  clear hb hweq
  obtain ⟨g9, d9, g9c, rfl, -⟩ := pt_form q0
  replace hT := hT.cons q0
  clear q0
  replace hT := (hT.new (.cells #[.int .i64 0, .int .i64 1] 2))
  replace hL0 := (hL0.new rfl [.int .i64 0, .int .i64 1] 2)
  generalize hweq : (x13.alloc (.cells #[.int .i64 0, .int .i64 1] 2)) = x14 at hL0 hT
  have hbv6 : ILs x14 (.slice (some ⟨x13.heap.size, 0, none⟩) 2 2) [0, 1] := ils_at (hL0.get _ _ mZ) rfl rfl
  replace hbv6 := Lib.hid hbv6
  go_wp2_with fail
  with_reducible refine Calls.mono (HFo7.out (.slice (some ⟨x13.heap.size, 0, none⟩) 2 2) _ hbv6.out) ?_
  rintro e x15 ⟨v0, rfl, q0, hb⟩
  replace hL0 := hL0.call hb
  replace hT := hT.call hb
  clear hb hweq
  obtain ⟨g10, d10, g10c, rfl, -⟩ := pt_form q0
  replace hT := hT.cons q0
  clear q0
  replace hT := (hT.new (.cells #[.slice g9 d9 g9c, .slice g10 d10 g10c] 28))
  replace hL0 := (hL0.new rfl [.slice g9 d9 g9c, .slice g10 d10 g10c] 28)
  generalize hweq : (x15.alloc (.cells #[.slice g9 d9 g9c, .slice g10 d10 g10c] 28)) = x16 at hL0 hT
  have hbv7 : VLs x16 (.slice (some ⟨x15.heap.size, 0, none⟩) 2 2) [o6, o7] := vls_two (hL0.get _ _ mZ) (hT.get (mK mZ)) (hT.get mZ)
  replace hbv7 := Lib.hid hbv7
  go_wp2_with fail
  with_reducible refine Calls.mono (HMx.out (.slice g8 d8 g8c) (.slice (some ⟨x15.heap.size, 0, none⟩) 2 2) _ (hT.get (mK (mK mZ))) hbv7.out) ?_
  rintro e x17 ⟨v0, rfl, q0, hb⟩
  replace hL0 := hL0.call hb
  replace hT := hT.call hb
  clear hb hweq
  obtain ⟨g11, d11, g11c, rfl, -⟩ := pt_form q0
  replace hT := hT.cons q0
  clear q0
  replace hT := (hT.new (.cells #[.int .i64 5, .int .i64 6, .int .i64 7] 2))
  replace hL0 := (hL0.new rfl [.int .i64 5, .int .i64 6, .int .i64 7] 2)
  generalize hweq : (x17.alloc (.cells #[.int .i64 5, .int .i64 6, .int .i64 7] 2)) = x18 at hL0 hT
  have hbv8 : ILs x18 (.slice (some ⟨x17.heap.size, 0, none⟩) 3 3) [5, 6, 7] := ils_at (hL0.get _ _ mZ) rfl rfl
  replace hbv8 := Lib.hid hbv8
  go_wp2_with fail
  with_reducible refine Calls.mono (HFo8.out (.slice (some ⟨x17.heap.size, 0, none⟩) 3 3) _ hbv8.out) ?_
  rintro e x19 ⟨v0, rfl, q0, hb⟩
  replace hL0 := hL0.call hb
  replace hT := hT.call hb
  clear hb hweq
  obtain ⟨g12, d12, g12c, rfl, -⟩ := pt_form q0
  replace hT := hT.cons q0
  clear q0
  replace hT := (hT.new (.cells #[.int .i64 2, .int .i64 0, .int .i64 2] 3))
  replace hL0 := (hL0.new rfl [.int .i64 2, .int .i64 0, .int .i64 2] 3)
  generalize hweq : (x19.alloc (.cells #[.int .i64 2, .int .i64 0, .int .i64 2] 3)) = x20 at hL0 hT
  have hbv9 : ILs x20 (.slice (some ⟨x19.heap.size, 0, none⟩) 3 3) [2, 0, 2] := ils_at (hL0.get _ _ mZ) rfl rfl
  replace hbv9 := Lib.hid hbv9
  go_wp2_with fail
  with_reducible refine Calls.mono (HPt.out (.slice g12 d12 g12c) (.slice (some ⟨x19.heap.size, 0, none⟩) 3 3) _ (hT.get mZ) hbv9.out) ?_
  rintro e x21 ⟨v0, rfl, q0, hb⟩
  replace hL0 := hL0.call hb
  replace hT := hT.call hb
  clear hb hweq
  obtain ⟨g13, d13, g13c, rfl, -⟩ := pt_form q0
  replace hT := hT.cons q0
  clear q0
  replace hT := (hT.new (.cells #[.int .i64 1] 2))
  replace hL0 := (hL0.new rfl [.int .i64 1] 2)
  generalize hweq : (x21.alloc (.cells #[.int .i64 1] 2)) = x22 at hL0 hT
  have hbv10 : ILs x22 (.slice (some ⟨x21.heap.size, 0, none⟩) 1 1) [1] := ils_at (hL0.get _ _ mZ) rfl rfl
  replace hbv10 := Lib.hid hbv10
  go_wp2_with fail
  with_reducible refine Calls.mono (HFo9.out (.slice (some ⟨x21.heap.size, 0, none⟩) 1 1) _ hbv10.out) ?_
  rintro e x23 ⟨v0, rfl, q0, hb⟩
  replace hL0 := hL0.call hb
  replace hT := hT.call hb
  clear hb hweq
  obtain ⟨g14, d14, g14c, rfl, -⟩ := pt_form q0
  replace hT := hT.cons q0
  clear q0
  replace hT := (hT.new (.cells #[.int .i64 1, .int .i64 2] 2))
  replace hL0 := (hL0.new rfl [.int .i64 1, .int .i64 2] 2)
  generalize hweq : (x23.alloc (.cells #[.int .i64 1, .int .i64 2] 2)) = x24 at hL0 hT
  have hbv11 : ILs x24 (.slice (some ⟨x23.heap.size, 0, none⟩) 2 2) [1, 2] := ils_at (hL0.get _ _ mZ) rfl rfl
  replace hbv11 := Lib.hid hbv11
  go_wp2_with fail
  with_reducible refine Calls.mono (HFoa.out (.slice (some ⟨x23.heap.size, 0, none⟩) 2 2) _ hbv11.out) ?_
  rintro e x25 ⟨v0, rfl, q0, hb⟩
  replace hL0 := hL0.call hb
  replace hT := hT.call hb
  clear hb hweq
  obtain ⟨g15, d15, g15c, rfl, -⟩ := pt_form q0
  replace hT := hT.cons q0
  clear q0
  go_wp2_with fail
  with_reducible refine Calls.mono (HAd.out (.slice g14 d14 g14c) (.slice g15 d15 g15c) _ (hT.get (mK mZ)) (hT.get mZ)) ?_
  rintro e x26 ⟨rfl, hb⟩
  replace hL0 := hL0.call hb
  replace hT := hT.call hb
  clear hb
  go_upto_region 8 with fail
  refine region_tl 43 [EV (.slice g1 d1 g1c), EV (.string (ByteArray.mk #[91, 49, 32, 45, 50, 93])), EV (.bool false), EV (.bool false), EV (.slice g5 d5 g5c), EV (.string (ByteArray.mk #[91, 49, 47, 50, 32, 50, 93])), EV (.bool false), EV (.bool false), EV (.bool false), EV (.int .i64 0), EV (.bool false), EV (.bool false), EV (.bool false), EV (.agg #[.int .u64 ((zl dt.num : Nat) : Int), .string (zh dt.num), .bool (zs dt.num), .int .u64 ((lo (fe dt) : Nat) : Int), .string (hs (fe dt))]), EV (.agg #[.int .u64 ((zl dt.num : Nat) : Int), .string (zh dt.num), .bool (zs dt.num), .int .u64 ((lo (fe dt) : Nat) : Int), .string (hs (fe dt))]), EV (.bool false), EV (.bool false), EV (.bool false), EV (.int .i64 0), EV (.bool false), EV (.bool false), EV (.bool false), EV (.slice g11 d11 g11c), EV (.string (ByteArray.mk #[91, 50, 32, 51, 93])), EV (.bool false), EV (.bool false), EV (.bool false), EV (.int .i64 0), EV (.bool false), EV (.bool false), EV (.bool false), EV (.slice g13 d13 g13c), EV (.string (ByteArray.mk #[91, 55, 32, 53, 32, 55, 93])), EV (.bool false), EV (.bool false), EV (.bool false), EV (.int .i64 0), EV (.bool false), EV (.bool false), EV (.bool false), EV (.int .i64 1), EV (.bool false), EV (.bool false)] (by kernel_rfl) (by kernel_rfl) ?_ ?_ ?_
  ·repeat' first | exact stays_nil | apply stays_cons | exact stays_eq _
  ·simp only [List.take_succ_cons, List.take_zero, hopsR, and_true]
   refine ⟨?_, ?_, ?_, ?_, ?_, ?_, ?_, ?_, ?_, ?_, ?_, ?_, ?_, ?_, ?_, ?_, ?_, ?_, ?_, ?_, ?_, ?_, ?_, ?_, ?_, ?_, ?_, ?_, ?_, ?_, ?_, ?_, ?_, ?_, ?_, ?_, ?_, ?_, ?_, ?_, ?_, ?_, ?_⟩ <;> intro fv w1 hb1 hp
   all_goals (have hc := (hL0.call (below_drew hb1)).fc; simp only [zF, Nat.reduceAdd] at hc; simp only [putsV, Act.put, zP, Nat.zero_add, Nat.reduceAdd])
   ·refine tyAt_none rfl ?_
    simp [tyUpon, execOp, go_sem, Act.eval, Below.refl]
   ·have h0 : EV _ (fv 0) w1 := hp 0 (LC (by kernel_rfl))
    refine tyAt_none rfl ?_
    refine ty_call (f := 60) (args := #[.slice g1 d1 g1c]) (by simp [execOp, go_sem, Act.eval, h0]) ?_
    exact (HTo1.out (.slice g1 d1 g1c) w1 (hKT.out.at ((hL0.call (below_drew hb1)).bl) kKT) (PT.below (hT.get (mK (mK (mK (mK (mK (mK (mK (mK (mK (mK (mK (mK (mK mZ)))))))))))))) (below_drew hb1))).mono fun e w2 ⟨h1, h2⟩ => ⟨_, h1, rfl, h2⟩
   ·have h1 : EV _ (fv 1) w1 := hp 1 (LC (by kernel_rfl))
    refine tyAt_none rfl ?_
    simp [tyUpon, execOp, go_sem, Act.eval, h1, Below.refl]
   ·have h2 : EV _ (fv 2) w1 := hp 2 (LC (by kernel_rfl))
    refine tyAt_none rfl ?_
    simp [tyUpon, execOp, go_sem, Act.eval, h2, Below.refl]
   ·have h3 : EV _ (fv 3) w1 := hp 3 (LC (by kernel_rfl))
    refine tyAt_yes (by simp [Region.wanted, yielded, h3]) ?_
    simp [tyUpon, execOp, go_sem, Act.eval, h3, Below.refl]
   ·have h4 : EV _ (fv 4) w1 := hp 4 (LC (by kernel_rfl))
    have h3 : EV _ (fv 3) w1 := hp 3 (LC (by kernel_rfl))
    refine tyAt_yes (by simp [Region.wanted, yielded, h4, h3]) ?_
    refine ty_call (f := 60) (args := #[.slice g5 d5 g5c]) (by simp [execOp, go_sem, Act.eval, h4, h3]) ?_
    exact (HTax.out (.slice g5 d5 g5c) w1 (hKT.out.at ((hL0.call (below_drew hb1)).bl) kKT) (PT.below (hT.get (mK (mK (mK (mK (mK (mK (mK (mK (mK (mK mZ))))))))))) (below_drew hb1))).mono fun e w2 ⟨h1, h2⟩ => ⟨_, h1, rfl, h2⟩
   ·have h5 : EV _ (fv 5) w1 := hp 5 (LC (by kernel_rfl))
    have h3 : EV _ (fv 3) w1 := hp 3 (LC (by kernel_rfl))
    refine tyAt_yes (by simp [Region.wanted, yielded, h5, h3]) ?_
    simp [tyUpon, execOp, go_sem, Act.eval, h5, h3, Below.refl]
   ·have h3 : EV _ (fv 3) w1 := hp 3 (LC (by kernel_rfl))
    have h6 : EV _ (fv 6) w1 := hp 6 (LC (by kernel_rfl))
    refine tyAt_none rfl ?_
    simp [tyUpon, execOp, go_sem, Act.eval, h3, h6, Below.refl]
   ·have h7 : EV _ (fv 7) w1 := hp 7 (LC (by kernel_rfl))
    refine tyAt_none rfl ?_
    simp [tyUpon, execOp, go_sem, Act.eval, h7, Below.refl]
   ·have h8 : EV _ (fv 8) w1 := hp 8 (LC (by kernel_rfl))
    refine tyAt_yes (by simp [Region.wanted, yielded, h8]) ?_
    simp [tyUpon, execOp, go_sem, Act.eval, h8, Below.refl]
   ·have h9 : EV _ (fv 9) w1 := hp 9 (LC (by kernel_rfl))
    have h8 : EV _ (fv 8) w1 := hp 8 (LC (by kernel_rfl))
    refine tyAt_yes (by simp [Region.wanted, yielded, h9, h8]) ?_
    simp [tyUpon, execOp, go_sem, Act.eval, h9, h8, Below.refl]
   ·have h8 : EV _ (fv 8) w1 := hp 8 (LC (by kernel_rfl))
    have h10 : EV _ (fv 10) w1 := hp 10 (LC (by kernel_rfl))
    refine tyAt_none rfl ?_
    simp [tyUpon, execOp, go_sem, Act.eval, h8, h10, Below.refl]
   ·have h11 : EV _ (fv 11) w1 := hp 11 (LC (by kernel_rfl))
    refine tyAt_none rfl ?_
    simp [tyUpon, execOp, go_sem, Act.eval, h11, Below.refl]
   ·have h12 : EV _ (fv 12) w1 := hp 12 (LC (by kernel_rfl))
    refine tyAt_yes (by simp [Region.wanted, yielded, h12]) ?_
    simp [tyUpon, execOp, go_sem, Act.eval, hc, h12, Below.refl]
   ·have h12 : EV _ (fv 12) w1 := hp 12 (LC (by kernel_rfl))
    refine tyAt_yes (by simp [Region.wanted, yielded, h12]) ?_
    refine ty_call (f := 12) (args := #[.int .i64 32]) (by simp [execOp, go_sem, Act.eval, h12]) ?_
    exact (HI32.out w1).mono fun e w2 ⟨h1, h2⟩ => ⟨_, h1, rfl, h2⟩
   ·have h13 : EV _ (fv 13) w1 := hp 13 (LC (by kernel_rfl))
    have h14 : EV _ (fv 14) w1 := hp 14 (LC (by kernel_rfl))
    have h12 : EV _ (fv 12) w1 := hp 12 (LC (by kernel_rfl))
    refine tyAt_yes (by simp [Region.wanted, yielded, h13, h14, h12]) ?_
    simp [tyUpon, execOp, go_sem, Act.eval, h13, h14, h12, Below.refl]
   ·have h12 : EV _ (fv 12) w1 := hp 12 (LC (by kernel_rfl))
    have h15 : EV _ (fv 15) w1 := hp 15 (LC (by kernel_rfl))
    refine tyAt_none rfl ?_
    simp [tyUpon, execOp, go_sem, Act.eval, h12, h15, Below.refl]
   ·have h16 : EV _ (fv 16) w1 := hp 16 (LC (by kernel_rfl))
    refine tyAt_none rfl ?_
    simp [tyUpon, execOp, go_sem, Act.eval, h16, Below.refl]
   ·have h17 : EV _ (fv 17) w1 := hp 17 (LC (by kernel_rfl))
    refine tyAt_yes (by simp [Region.wanted, yielded, h17]) ?_
    simp [tyUpon, execOp, go_sem, Act.eval, h17, Below.refl]
   ·have h18 : EV _ (fv 18) w1 := hp 18 (LC (by kernel_rfl))
    have h17 : EV _ (fv 17) w1 := hp 17 (LC (by kernel_rfl))
    refine tyAt_yes (by simp [Region.wanted, yielded, h18, h17]) ?_
    simp [tyUpon, execOp, go_sem, Act.eval, h18, h17, Below.refl]
   ·have h17 : EV _ (fv 17) w1 := hp 17 (LC (by kernel_rfl))
    have h19 : EV _ (fv 19) w1 := hp 19 (LC (by kernel_rfl))
    refine tyAt_none rfl ?_
    simp [tyUpon, execOp, go_sem, Act.eval, h17, h19, Below.refl]
   ·have h20 : EV _ (fv 20) w1 := hp 20 (LC (by kernel_rfl))
    refine tyAt_none rfl ?_
    simp [tyUpon, execOp, go_sem, Act.eval, h20, Below.refl]
   ·have h21 : EV _ (fv 21) w1 := hp 21 (LC (by kernel_rfl))
    refine tyAt_yes (by simp [Region.wanted, yielded, h21]) ?_
    simp [tyUpon, execOp, go_sem, Act.eval, h21, Below.refl]
   ·have h22 : EV _ (fv 22) w1 := hp 22 (LC (by kernel_rfl))
    have h21 : EV _ (fv 21) w1 := hp 21 (LC (by kernel_rfl))
    refine tyAt_yes (by simp [Region.wanted, yielded, h22, h21]) ?_
    refine ty_call (f := 60) (args := #[.slice g11 d11 g11c]) (by simp [execOp, go_sem, Act.eval, h22, h21]) ?_
    exact (HTmx.out (.slice g11 d11 g11c) w1 (hKT.out.at ((hL0.call (below_drew hb1)).bl) kKT) (PT.below (hT.get (mK (mK (mK (mK mZ))))) (below_drew hb1))).mono fun e w2 ⟨h1, h2⟩ => ⟨_, h1, rfl, h2⟩
   ·have h23 : EV _ (fv 23) w1 := hp 23 (LC (by kernel_rfl))
    have h21 : EV _ (fv 21) w1 := hp 21 (LC (by kernel_rfl))
    refine tyAt_yes (by simp [Region.wanted, yielded, h23, h21]) ?_
    simp [tyUpon, execOp, go_sem, Act.eval, h23, h21, Below.refl]
   ·have h21 : EV _ (fv 21) w1 := hp 21 (LC (by kernel_rfl))
    have h24 : EV _ (fv 24) w1 := hp 24 (LC (by kernel_rfl))
    refine tyAt_none rfl ?_
    simp [tyUpon, execOp, go_sem, Act.eval, h21, h24, Below.refl]
   ·have h25 : EV _ (fv 25) w1 := hp 25 (LC (by kernel_rfl))
    refine tyAt_none rfl ?_
    simp [tyUpon, execOp, go_sem, Act.eval, h25, Below.refl]
   ·have h26 : EV _ (fv 26) w1 := hp 26 (LC (by kernel_rfl))
    refine tyAt_yes (by simp [Region.wanted, yielded, h26]) ?_
    simp [tyUpon, execOp, go_sem, Act.eval, h26, Below.refl]
   ·have h27 : EV _ (fv 27) w1 := hp 27 (LC (by kernel_rfl))
    have h26 : EV _ (fv 26) w1 := hp 26 (LC (by kernel_rfl))
    refine tyAt_yes (by simp [Region.wanted, yielded, h27, h26]) ?_
    simp [tyUpon, execOp, go_sem, Act.eval, h27, h26, Below.refl]
   ·have h26 : EV _ (fv 26) w1 := hp 26 (LC (by kernel_rfl))
    have h28 : EV _ (fv 28) w1 := hp 28 (LC (by kernel_rfl))
    refine tyAt_none rfl ?_
    simp [tyUpon, execOp, go_sem, Act.eval, h26, h28, Below.refl]
   ·have h29 : EV _ (fv 29) w1 := hp 29 (LC (by kernel_rfl))
    refine tyAt_none rfl ?_
    simp [tyUpon, execOp, go_sem, Act.eval, h29, Below.refl]
   ·have h30 : EV _ (fv 30) w1 := hp 30 (LC (by kernel_rfl))
    refine tyAt_yes (by simp [Region.wanted, yielded, h30]) ?_
    simp [tyUpon, execOp, go_sem, Act.eval, h30, Below.refl]
   ·have h31 : EV _ (fv 31) w1 := hp 31 (LC (by kernel_rfl))
    have h30 : EV _ (fv 30) w1 := hp 30 (LC (by kernel_rfl))
    refine tyAt_yes (by simp [Region.wanted, yielded, h31, h30]) ?_
    refine ty_call (f := 60) (args := #[.slice g13 d13 g13c]) (by simp [execOp, go_sem, Act.eval, h31, h30]) ?_
    exact (HTpt.out (.slice g13 d13 g13c) w1 (hKT.out.at ((hL0.call (below_drew hb1)).bl) kKT) (PT.below (hT.get (mK (mK mZ))) (below_drew hb1))).mono fun e w2 ⟨h1, h2⟩ => ⟨_, h1, rfl, h2⟩
   ·have h32 : EV _ (fv 32) w1 := hp 32 (LC (by kernel_rfl))
    have h30 : EV _ (fv 30) w1 := hp 30 (LC (by kernel_rfl))
    refine tyAt_yes (by simp [Region.wanted, yielded, h32, h30]) ?_
    simp [tyUpon, execOp, go_sem, Act.eval, h32, h30, Below.refl]
   ·have h30 : EV _ (fv 30) w1 := hp 30 (LC (by kernel_rfl))
    have h33 : EV _ (fv 33) w1 := hp 33 (LC (by kernel_rfl))
    refine tyAt_none rfl ?_
    simp [tyUpon, execOp, go_sem, Act.eval, h30, h33, Below.refl]
   ·have h34 : EV _ (fv 34) w1 := hp 34 (LC (by kernel_rfl))
    refine tyAt_none rfl ?_
    simp [tyUpon, execOp, go_sem, Act.eval, h34, Below.refl]
   ·have h35 : EV _ (fv 35) w1 := hp 35 (LC (by kernel_rfl))
    refine tyAt_yes (by simp [Region.wanted, yielded, h35]) ?_
    simp [tyUpon, execOp, go_sem, Act.eval, h35, Below.refl]
   ·have h36 : EV _ (fv 36) w1 := hp 36 (LC (by kernel_rfl))
    have h35 : EV _ (fv 35) w1 := hp 35 (LC (by kernel_rfl))
    refine tyAt_yes (by simp [Region.wanted, yielded, h36, h35]) ?_
    simp [tyUpon, execOp, go_sem, Act.eval, h36, h35, Below.refl]
   ·have h35 : EV _ (fv 35) w1 := hp 35 (LC (by kernel_rfl))
    have h37 : EV _ (fv 37) w1 := hp 37 (LC (by kernel_rfl))
    refine tyAt_none rfl ?_
    simp [tyUpon, execOp, go_sem, Act.eval, h35, h37, Below.refl]
   ·have h38 : EV _ (fv 38) w1 := hp 38 (LC (by kernel_rfl))
    refine tyAt_none rfl ?_
    simp [tyUpon, execOp, go_sem, Act.eval, h38, Below.refl]
   ·have h39 : EV _ (fv 39) w1 := hp 39 (LC (by kernel_rfl))
    refine tyAt_yes (by simp [Region.wanted, yielded, h39]) ?_
    simp [tyUpon, execOp, go_sem, Act.eval, h39, Below.refl]
   ·have h40 : EV _ (fv 40) w1 := hp 40 (LC (by kernel_rfl))
    have h39 : EV _ (fv 39) w1 := hp 39 (LC (by kernel_rfl))
    refine tyAt_yes (by simp [Region.wanted, yielded, h40, h39]) ?_
    simp [tyUpon, execOp, go_sem, Act.eval, h40, h39, Below.refl]
   ·have h39 : EV _ (fv 39) w1 := hp 39 (LC (by kernel_rfl))
    have h41 : EV _ (fv 41) w1 := hp 41 (LC (by kernel_rfl))
    refine tyAt_none rfl ?_
    simp [tyUpon, execOp, go_sem, Act.eval, h39, h41, Below.refl]
  ·intro fv x27 hb1 hv
   have e0 : fv 0 = _ := hv 0 (by omega)
   have e1 : fv 1 = _ := hv 1 (by omega)
   have e2 : fv 2 = _ := hv 2 (by omega)
   have e3 : fv 3 = _ := hv 3 (by omega)
   have e4 : fv 4 = _ := hv 4 (by omega)
   have e5 : fv 5 = _ := hv 5 (by omega)
   have e6 : fv 6 = _ := hv 6 (by omega)
   have e7 : fv 7 = _ := hv 7 (by omega)
   have e8 : fv 8 = _ := hv 8 (by omega)
   have e9 : fv 9 = _ := hv 9 (by omega)
   have e10 : fv 10 = _ := hv 10 (by omega)
   have e11 : fv 11 = _ := hv 11 (by omega)
   have e12 : fv 12 = _ := hv 12 (by omega)
   have e13 : fv 13 = _ := hv 13 (by omega)
   have e14 : fv 14 = _ := hv 14 (by omega)
   have e15 : fv 15 = _ := hv 15 (by omega)
   have e16 : fv 16 = _ := hv 16 (by omega)
   have e17 : fv 17 = _ := hv 17 (by omega)
   have e18 : fv 18 = _ := hv 18 (by omega)
   have e19 : fv 19 = _ := hv 19 (by omega)
   have e20 : fv 20 = _ := hv 20 (by omega)
   have e21 : fv 21 = _ := hv 21 (by omega)
   have e22 : fv 22 = _ := hv 22 (by omega)
   have e23 : fv 23 = _ := hv 23 (by omega)
   have e24 : fv 24 = _ := hv 24 (by omega)
   have e25 : fv 25 = _ := hv 25 (by omega)
   have e26 : fv 26 = _ := hv 26 (by omega)
   have e27 : fv 27 = _ := hv 27 (by omega)
   have e28 : fv 28 = _ := hv 28 (by omega)
   have e29 : fv 29 = _ := hv 29 (by omega)
   have e30 : fv 30 = _ := hv 30 (by omega)
   have e31 : fv 31 = _ := hv 31 (by omega)
   have e32 : fv 32 = _ := hv 32 (by omega)
   have e33 : fv 33 = _ := hv 33 (by omega)
   have e34 : fv 34 = _ := hv 34 (by omega)
   have e35 : fv 35 = _ := hv 35 (by omega)
   have e36 : fv 36 = _ := hv 36 (by omega)
   have e37 : fv 37 = _ := hv 37 (by omega)
   have e38 : fv 38 = _ := hv 38 (by omega)
   have e39 : fv 39 = _ := hv 39 (by omega)
   have e40 : fv 40 = _ := hv 40 (by omega)
   have e41 : fv 41 = _ := hv 41 (by omega)
   have e42 : fv 42 = _ := hv 42 (by omega)
   simp only [List.take_succ_cons, List.take_zero, putsV, Act.put, zP, List.drop_succ_cons, List.drop_zero, Nat.zero_add, Nat.reduceAdd, e0, e1, e2, e3, e4, e5, e6, e7, e8, e9, e10, e11, e12, e13, e14, e15, e16, e17, e18, e19, e20, e21, e22, e23, e24, e25, e26, e27, e28, e29, e30, e31, e32, e33, e34, e35, e36, e37, e38, e39, e40, e41, e42]
   replace hL0 := hL0.call (below_drew hb1)
   replace hT := hT.call (below_drew hb1)
   clear e0 e1 e2 e3 e4 e5 e6 e7 e8 e9 e10 e11 e12 e13 e14 e15 e16 e17 e18 e19 e20 e21 e22 e23 e24 e25 e26 e27 e28 e29 e30 e31 e32 e33 e34 e35 e36 e37 e38 e39 e40 e41 e42 hb1 hv fv
   go_wp2_with fail
   with_reducible refine Calls.mono (HU.out _) ?_
   rintro e x28 ⟨rfl, hb⟩
   replace hL0 := hL0.call hb
   replace hT := hT.call hb
   clear hb
   go_wp2_with fail
   with_reducible refine Calls.mono (HZ1.out _) ?_
   rintro e x29 ⟨rfl, hb⟩
   replace hL0 := hL0.call hb
   replace hT := hT.call hb
   clear hb
   go_wp2_with fail
   with_reducible refine Calls.mono (HZ2.out _) ?_
   rintro e x30 ⟨rfl, hb⟩
   replace hL0 := hL0.call hb
   replace hT := hT.call hb
   clear hb
   replace hT := (hT.new (.cells #[.int .i64 2, .int .i64 (-7)] 2))
   replace hL0 := (hL0.new rfl [.int .i64 2, .int .i64 (-7)] 2)
   generalize hweq : (x30.alloc (.cells #[.int .i64 2, .int .i64 (-7)] 2)) = x31 at hL0 hT
   have hbv12 : ILs x31 (.slice (some ⟨x30.heap.size, 0, none⟩) 2 2) [2, (-7)] := ils_at (hL0.get _ _ mZ) rfl rfl
   replace hbv12 := Lib.hid hbv12
   go_wp2_with fail
   with_reducible refine Calls.mono (HFob.out (.slice (some ⟨x30.heap.size, 0, none⟩) 2 2) _ hbv12.out) ?_
   rintro e x32 ⟨v0, rfl, q0, hb⟩
   replace hL0 := hL0.call hb
   replace hT := hT.call hb
   clear hb hweq
   obtain ⟨g16, d16, g16c, rfl, -⟩ := pt_form q0
   replace hT := hT.cons q0
   clear q0
   go_wp2_with fail
   with_reducible refine Calls.mono (HM1.out (.slice g16 d16 g16c) _ (hT.get mZ)) ?_
   rintro e x33 ⟨rfl, hb⟩
   replace hL0 := hL0.call hb
   replace hT := hT.call hb
   clear hb
   go_wp2_with fail
   with_reducible refine Calls.mono (HI7.out _) ?_
   rintro e x34 ⟨rfl, hb⟩
   replace hL0 := hL0.call hb
   replace hT := hT.call hb
   clear hb
   go_wp2_with fail
   with_reducible refine Calls.mono (HM2.out _) ?_
   rintro e x35 ⟨rfl, hb⟩
   replace hL0 := hL0.call hb
   replace hT := hT.call hb
   clear hb
   go_wp2_with fail
   with_reducible refine Calls.mono (HTn.out _ (hKT.out.at hL0.bl kKT)) ?_
   rintro e x36 ⟨rfl, hb⟩
   replace hL0 := hL0.call hb
   replace hT := hT.call hb
   clear hb
   go_wp2_with fail
   exact bodyPost_ret (v := .bool true) (by simp [results, Tryz.results10, go_sem]) rfl ⟨rfl, hL0.bl⟩
end Go.Proofs.YthffglapmkkohaaGreatDoor
namespace Go.Proofs.YthffglapmkkohaaGreatDoor
open Go.RowKit
attribute [local irreducible] lo hs sm s64 c64 d64 b64 mh ml pd pc qd qc val hiB str cmpI srD lz nb zl zh zs fe rowV tabV gv bsV mxV colV
theorem ne_two {x y : List Rat} (h : x.length ≠ y.length) : ∃ l ∈ [x, y], l.length ≠ (([x, y] : List (List Rat)).getD 0 []).length := ⟨y, by simp, fun e => h e.symm⟩
theorem le_two {x y : List Rat} {n : Nat} (hx : x.length ≤ n) (hy : y.length ≤ n) : ∀ l ∈ [x, y], l.length ≤ n := by
 intro l hl
 rcases List.mem_cons.1 hl with rfl | hl
 ·exact hx
 ·rw [List.mem_singleton.1 hl]; exact hy
theorem vadd_arg (x y : List Rat) (hx : x.length ≤ 2048) (hy : y.length ≤ 2048) (hne : x.length ≠ y.length) (va vb : Value) (w : World) (hv : SlQ w va x) (hu : SlQ w vb y) :
  Calls Tryz.prog 59 #[va, vb] w fun xe w' => xe = .returned (.tuple #[.slice none 0 0, .int .i64 1]) ∧ Below w.heap.size w w' := by
 obtain ⟨aa, ca, rfl⟩ := slq_form' hv
 obtain ⟨ab, cb, rfl⟩ := slq_form' hu
 have hL0 : GL w w [] := GL.start w
 obtain ⟨x1, hweq, hL0⟩ := GL.named ((hL0.new rfl [.slice aa x.length ca] 28).new (K := w.heap.size + 1) (szA _ _) [.slice ab y.length cb] 28)
 have hv1 := hv.below hL0.bl
 have hu1 := hu.below hL0.bl
 have hc1 := (hL0.get _ _ (mK mZ)).cell 0 (by simp)
 simp only [List.getElem_cons_zero, List.getElem_cons_succ] at hc1
 have hc2 := (hL0.get _ _ mZ).cell 0 (by simp)
 simp only [List.getElem_cons_zero, List.getElem_cons_succ] at hc2
 replace hL0 := (hL0.new rfl [.slice aa x.length ca, .slice ab y.length cb] 28)
 generalize hweq2 : (x1.alloc (.cells #[.slice aa x.length ca, .slice ab y.length cb] 28)) = x2 at hL0
 have hb2 : Below x1.heap.size x1 x2 := hweq2 ▸ ((Below.refl _ _).alloc (Nat.le_refl _) _)
 have hv2 := hv1.below hb2
 have hu2 := hu1.below hb2
 have HC := Lib.hid (fun fv => vcombine_arg fv [x, y] (by simp) (le_two hx hy) (ne_two hne) _ x2 (vls_two (c := 2) (hL0.get _ _ mZ) hv2 hu2))
 replace hL0 := Lib.hid hL0
 clear hv hu hv1 hu1 hv2 hu2 hb2 hne
 go_enter Tryz.func59, Tryz.ntmps59
 go_wp2_with fail
 with_reducible refine Calls.mono (HC.out _) ?_
 rintro e y2 ⟨rfl, hb⟩
 replace hb := Lib.hid (hL0.out.bl.trans (hb.mono hL0.out.bl.size))
 clear hweq hweq2 hc1 hc2
 go_wp2_with fail
 exact bodyPost_ret (v := .tuple #[.slice none 0 0, .int .i64 1]) (by simp [results, Tryz.results59, go_sem]) rfl ⟨rfl, hb.out⟩
end Go.Proofs.YthffglapmkkohaaGreatDoor
namespace Go.Proofs.YthffglapmkkohaaGreatDoor
open Go.RowKit
attribute [local irreducible] lo hs sm s64 c64 d64 b64 mh ml pd pc qd qc val hiB str cmpI srD lz nb zl zh zs fe
theorem szl {l : List Rat} (h : l.all (fun q => decide (q.num.natAbs < 18446744073709551616 ∧ q.den < 18446744073709551616)) = true) : ∀ q ∈ l, Sz q 1 := fun q hq => by
 have := of_decide_eq_true (List.all_eq_true.1 h q hq)
 exact szc q this.1 this.2
theorem nv_one {f : FuncId} {args : Array Value} {w : World} {B : Nat} {l : List Rat} (h : Calls Tryz.prog f args w fun xe w' => ∃ u, xe = .returned u ∧ NV B l u w' ∧ Below w.heap.size w w') :
  Calls Tryz.prog f args w fun xe w' => ∃ u, xe = .returned u ∧ SlQ w' u l ∧ Below w.heap.size w w' := h.mono fun _ _ ⟨u, h1, h2, h3⟩ => ⟨u, h1, h2.slq, h3⟩
theorem nv_two {f : FuncId} {args : Array Value} {w : World} {B : Nat} {l : List Rat} (h : Calls Tryz.prog f args w fun xe w' => ∃ u, xe = .returned (.tuple #[u, .int .i64 0]) ∧ NV B l u w' ∧ Below w.heap.size w w') :
  Calls Tryz.prog f args w fun xe w' => ∃ u, xe = .returned (.tuple #[u, .int .i64 0]) ∧ SlQ w' u l ∧ Below w.heap.size w w' := h.mono fun _ _ ⟨u, h1, h2, h3⟩ => ⟨u, h1, h2.slq, h3⟩
theorem two_all {P : List Rat → Prop} {x y : List Rat} (hx : P x) (hy : P y) : ∀ l ∈ [x, y], P l := by
 intro l hl
 rcases List.mem_cons.1 hl with rfl | hl
 ·exact hx
 ·rw [List.mem_singleton.1 hl]; exact hy
def oW (zs : List Int) : List Rat := tabV zs.length (ofV zs)
theorem of_at (zs : List Int) (hm : zs.length ≤ 100000) (hz : ∀ z ∈ zs, -9223372036854775808 ≤ z ∧ z < 9223372036854775808) (v : Value) (w : World) (hv : ILs w v zs) :
  Calls Tryz.prog 58 #[v] w fun xe w' => ∃ u, xe = .returned u ∧ SlQ w' u (oW zs) ∧ Below w.heap.size w w' := nv_one (vofV zs hm hz v w hv)
def axW : List Rat := tabV 2 fun i => ((((1 : Int)) : Rat) / (((2 : Int)) : Rat)) * gv (oW [1, -2]) i + gv (oW [0, 3]) i
def mxW : List Rat := tabV 2 (mixV (oW [2, 3]) [oW [1, 0], oW [0, 1]])
def ptW : List Rat := tabV 3 (partV (oW [5, 6, 7]) [2, 0, 2])
theorem text_at (x : List Rat) (Jt : List UInt8) (t : ByteArray) (hx : x.length ≤ 10) (sx : ∀ q ∈ x, Sz q 1) (hJ : Lib.join ((x.map qtxt).map (·.data.toList)) [32] = Jt) (hJl : Jt.length ≤ 100) (ht : (⟨([91] ++ Jt ++ [93]).toArray⟩ : ByteArray) = t) (v : Value) (w : World) (hT : Tab w) (hv : SlQ w v x) :
  Calls Tryz.prog 60 #[v] w fun xe w' => xe = .returned (.string t) ∧ Below w.heap.size w w' := by
 rw [← ht]
 exact vtextV x x.length 1 Jt rfl (by omega) (by omega) sx hJ (by omega) v w hT hv
theorem vworks_any (w : World) (ht : Tab w) : Calls Tryz.prog 10 #[] w fun xe w' => xe = .returned (.bool true) ∧ Below w.heap.size w w' := by
 have s1 : ∀ q ∈ oW [1, -2], Sz q 1 := szl (by kernel_rfl)
 have s2 : ∀ q ∈ oW [0, 3], Sz q 1 := szl (by kernel_rfl)
 have s3 : ∀ q ∈ oW [1, 2, 3], Sz q 1 := szl (by kernel_rfl)
 have s4 : ∀ q ∈ oW [4, 5, 6], Sz q 1 := szl (by kernel_rfl)
 have s5 : ∀ q ∈ oW [2, 3], Sz q 1 := szl (by kernel_rfl)
 have s6 : ∀ q ∈ oW [1, 0], Sz q 1 := szl (by kernel_rfl)
 have s7 : ∀ q ∈ oW [0, 1], Sz q 1 := szl (by kernel_rfl)
 have sb : ∀ q ∈ oW [2, -7], Sz q 1 := szl (by kernel_rfl)
 have sa : ∀ q ∈ axW, Sz q 1 := szl (by kernel_rfl)
 have sm : ∀ q ∈ mxW, Sz q 1 := szl (by kernel_rfl)
 have sp : ∀ q ∈ ptW, Sz q 1 := szl (by kernel_rfl)
 have sh : Sz ((((1 : Int)) : Rat) / (((2 : Int)) : Rat)) 1 := szc _ (by decide +kernel) (by decide +kernel)
 have HM2 := fun w => vmaxV [] 0 1 rfl (by decide) (by decide) (fun q h => by cases h) (.slice none 0 0) w (pt_nil w)
 rw [mx_nil, frV_q0] at HM2
 refine vworks_w ((((1 : Int)) : Rat) / (((2 : Int)) : Rat)) (bsV 3 fun i => gv (oW [1, 2, 3]) i * gv (oW [4, 5, 6]) i) (mxV (oW [2, -7]))
  (oW [1, -2]) (oW [0, 3]) (oW [1, 2, 3]) (oW [4, 5, 6]) (oW [2, 3]) (oW [1, 0]) (oW [0, 1]) (oW [5, 6, 7]) (oW [1]) (oW [1, 2]) (oW [2, -7]) axW mxW ptW
  (fun w => ofF 1 2 (by decide) (by decide) (by decide) (by decide) (by decide) w)
  (fun p w h => of_at _ (by decide) (by decide) p w h) (fun p w h => of_at _ (by decide) (by decide) p w h) (fun p w h => of_at _ (by decide) (by decide) p w h) (fun p w h => of_at _ (by decide) (by decide) p w h) (fun p w h => of_at _ (by decide) (by decide) p w h) (fun p w h => of_at _ (by decide) (by decide) p w h)
  (fun p w h => of_at _ (by decide) (by decide) p w h) (fun p w h => of_at _ (by decide) (by decide) p w h) (fun p w h => of_at _ (by decide) (by decide) p w h) (fun p w h => of_at _ (by decide) (by decide) p w h) (fun p w h => of_at _ (by decide) (by decide) p w h)
  (fun p q w h g => nv_two (vaxpyV _ _ _ 2 1 rfl rfl (by decide) (by decide) sh s1 s2 p q w h g))
  (fun p q w h g => vDotV _ _ 3 1 rfl rfl (by decide) (by decide) s3 s4 p q w h g)
  (fun p q w h g => nv_two (vmixV (oW [2, 3]) [oW [1, 0], oW [0, 1]] 2 1 (by decide) rfl (by decide) (two_all (P := fun l => l.length = 2) rfl rfl) (by decide) (by decide) (two_all (P := fun l => ∀ q ∈ l, Sz q 1) s6 s7) s5 p q w h g))
  (fun p q w h g => nv_two (vpartV (oW [5, 6, 7]) [2, 0, 2] 3 3 rfl (by decide) rfl (by decide) (by decide) p q w h g))
  (fun p q w h g => vadd_arg (oW [1]) (oW [1, 2]) (by decide) (by decide) (by decide) p q w h g)
  (fun w => ?_) (fun w => ?_)
  (fun w => vunit_out 2 2 (by decide) (by decide) w) (fun w => vzero_neg (-1) (by decide) w) (fun w => vzero_big 2049 (by decide) w)
  (fun p w h => vmaxV _ 2 1 rfl (by decide) (by decide) sb p w h) HM2
  Tab Keeps.tab
  (fun p w ht h => text_at _ [49, 32, 45, 50] _ (by decide) s1 (by kernel_rfl) (by decide) rfl p w ht h)
  (fun p w ht h => text_at _ [49, 47, 50, 32, 50] _ (by decide) sa (by kernel_rfl) (by decide) rfl p w ht h)
  (fun p w ht h => text_at _ [50, 32, 51] _ (by decide) sm (by kernel_rfl) (by decide) rfl p w ht h)
  (fun p w ht h => text_at _ [55, 32, 53, 32, 55] _ (by decide) sp (by kernel_rfl) (by decide) rfl p w ht h)
  (fun w ht => text_at [] [] _ (by decide) (fun q h => by cases h) rfl (by decide) rfl _ w ht (pt_nil w)) w ht
 ·have := intF 32 (by decide) (by decide) w
  rwa [show (((32 : Int)) : Rat) = bsV 3 fun i => gv (oW [1, 2, 3]) i * gv (oW [4, 5, 6]) i from by kernel_rfl] at this
 ·have := intF 7 (by decide) (by decide) w
  rwa [show (((7 : Int)) : Rat) = mxV (oW [2, -7]) from by kernel_rfl] at this
end Go.Proofs.YthffglapmkkohaaGreatDoor
namespace Go.Proofs.YthffglapmkkohaaGreatDoor
open Go.RowKit
attribute [local irreducible] lo hs sm s64 c64 d64 b64 mh ml pd pc qd qc val hiB str cmpI srD lz nb zl zh zs fe qmade
structure GV (x : List Rat) (n K : Nat) : Prop where
 len : x.length = n
 sz : ∀ q ∈ x, Sz q K
theorem GV.at {x : List Rat} {n K : Nat} (h : GV x n K) (i : Nat) (hi : i < n) : Sz (gv x i) K := qsk x h.sz i (by rw [h.len]; exact hi)
theorem GV.mono {x : List Rat} {n K M : Nat} (h : GV x n K) (hm : K ≤ M) : GV x n M := ⟨h.len, fun q hq => (h.sz q hq).mono hm⟩
theorem GV.tab {n K : Nat} {f : Nat → Rat} (h : ∀ i, i < n → Sz (f i) K) : GV (tabV n f) n K := ⟨tabV_len _ _, tab_all h⟩
def sumL (n : Nat) (x y : List Rat) : List Rat := tabV n fun i => gv x i + gv y i
def mulL (n : Nat) (c : Rat) (x : List Rat) : List Rat := tabV n fun i => c * gv x i
theorem GV.sum {x y : List Rat} {n k m : Nat} (hx : GV x n k) (hy : GV y n m) : GV (sumL n x y) n (k + m + 1) := GV.tab fun i hi => (hx.at i hi).add (hy.at i hi)
theorem GV.mul {x : List Rat} {c : Rat} {n k m : Nat} (hc : Sz c k) (hx : GV x n m) : GV (mulL n c x) n (k + m) := GV.tab fun i hi => hc.mul (hx.at i hi)
section
variable {x y : List Rat} {n k m : Nat}
theorem sameG (hx : GV x n k) (hn : n ≤ 2048) (p q : Value) (w : World) (hp : SlQ w p x) (hq : SlQ w q y) :
  Calls Tryz.prog 18 #[p, q] w fun xe w' => xe = .returned (.bool (decide (x = y))) ∧ Below w.heap.size w w' := vsameV x y (by rw [hx.len]; omega) p q w hp hq
theorem sameT (hx : GV x n k) (hn : n ≤ 2048) (p q : Value) (w : World) (hp : SlQ w p x) (hq : SlQ w q x) :
  Calls Tryz.prog 18 #[p, q] w fun xe w' => xe = .returned (.bool true) ∧ Below w.heap.size w w' := by
 have := sameG (y := x) hx hn p q w hp hq
 rwa [decide_eq_true rfl] at this
end
/-- Plain fractions as Go holds them. -/
def QR (p : Int × Int) : Prop := (-9223372036854775808 ≤ p.1 ∧ p.1 < 9223372036854775808) ∧ 0 ≤ p.2 ∧ p.2 < 4294967296
theorem qm_sz {p : Int × Int} (h : QR p) : Sz (qm p) 1 := by
 obtain ⟨⟨h1, h2⟩, h3, h4⟩ := h
 exact qmade_sz p.1 p.2.toNat h1 h2 (by omega)
theorem qmof {p : Int × Int} (h : QR p) (w : World) : Calls Tryz.prog 13 #[.agg #[.int .i64 p.1, .int .u32 p.2]] w fun xe w' => xe = .returned (fracV (qm p)) ∧ Below w.heap.size w w' := by
 obtain ⟨⟨h1, h2⟩, h3, h4⟩ := h
 exact qof_any p.1 p.2 h1 h2 h3 h4 w
theorem qv_rg {w : World} {v : Value} {ql : List (Int × Int)} (h : QV w v ql) : ∀ p ∈ ql, QR p := by
 intro p hp
 obtain ⟨ao, c, h1, h2, h3, h4⟩ := h
 obtain ⟨a, e, h5⟩ := h4 (List.length_pos_of_mem hp)
 exact h5.rg p hp
theorem gv_of {ql : List (Int × Int)} {n : Nat} (hl : ql.length = n) (h : ∀ p ∈ ql, QR p) : GV (ql.map qm) n 1 := ⟨by rw [List.length_map, hl], fun q hq => by
 obtain ⟨p, hp, rfl⟩ := List.mem_map.1 hq
 exact qm_sz (h p hp)⟩
theorem qv_slice {w : World} {ao : Option Addr} {n c : Nat} {ql : List (Int × Int)} (h : QV w (.slice ao n c) ql) (k : Nat) (hk : k ≤ n) (W : World) : (Instr.slice 22 (.slice ao n c) none (some (.int .i64 (k : Int))) none).run Tryz.prog W = .ok (.slice ao k c) W := by
 obtain ⟨a2, c2, h1, h2, h3, h4⟩ := h
 obtain ⟨rfl, rfl, rfl⟩ : ao = a2 ∧ n = ql.length ∧ c = c2 := by simpa using h1
 exact slice_qn ao _ c k hk h2 h3 W
theorem qv_len {w : World} {ao : Option Addr} {n c : Nat} {ql : List (Int × Int)} (h : QV w (.slice ao n c) ql) : ql.length = n := by
 obtain ⟨a2, c2, h1, h2, h3, h4⟩ := h
 obtain ⟨rfl, rfl, rfl⟩ : ao = a2 ∧ n = ql.length ∧ c = c2 := by simpa using h1
 rfl
theorem take_rg {ql : List (Int × Int)} (h : ∀ p ∈ ql, QR p) (n : Nat) : ∀ p ∈ ql.take n, QR p := fun p hp => h p (List.mem_of_mem_take hp)
end Go.Proofs.YthffglapmkkohaaGreatDoor
namespace Go.Proofs.YthffglapmkkohaaGreatDoor
open Go.RowKit
attribute [local irreducible] lo hs sm s64 c64 d64 b64 mh ml pd pc qd qc val hiB str cmpI srD lz nb zl zh zs fe rowV tabV gv bsV mxV colV
theorem vVf_w (ql : List (Int × Int)) (n : Nat) (hl : ql.length = n) (hn : n ≤ 10000) (v : Value) (w : World) (hv : QV w v ql) :
  Calls Tryz.prog 11 #[v] w fun xe w' => ∃ u, xe = .returned u ∧ SlQ w' u (ql.map qm) ∧ (∀ g, u.ownBlock = some g → w.heap.size ≤ g ∧ g < w'.heap.size) ∧ Below w.heap.size w w' := by
 obtain ⟨ao, c, rfl, hc, hc0, hq⟩ := hv
 rw [hl] at hc hq ⊢
 obtain ⟨qs, hqs⟩ : ∃ qs, qs = ql.map qm := ⟨_, rfl⟩
 have hlq : qs.length = n := by rw [hqs, List.length_map, hl]
 have hti : ∀ i (hi : i < ql.length), qs.take (i + 1) = qs.take i ++ [qm ql[i]] := fun i hi => by
  rw [hqs, List.take_succ_eq_append_getElem (by rw [List.length_map]; exact hi), List.getElem_map]
 rw [← hqs]
 replace hti := Lib.hid hti
 replace hlq := Lib.hid hlq
 replace hq := Lib.hid hq
 replace hn := Lib.hid hn
 replace hl := Lib.hid hl
 clear hqs hc hc0
 go_enter Tryz.func11, Tryz.ntmps11
 go_wp2_with fail
 go_loopg [3, 4] n (fun gk sv iv wr => ∃ (k : Nat) (zi : Int) (vs : Value), k + gk = n ∧ vs = sv ∧ iv = .int .i64 zi ∧ zi = (k : Int) ∧ OwnF wr w.heap.size vs k (qs.take k) ∧ Below w.heap.size w wr)
 case atStart => exact ⟨0, 0, _, Nat.zero_add n, rfl, by first | rfl | go_num, rfl, World.ownsRow_nil _ _ _ _, Below.refl _ _⟩
 case round =>
  obtain ⟨k, zi, vs, hik, rfl, rfl, hzi, hown, hB⟩ := hrel
  replace hown := Lib.hid hown
  have hnn := hn.out
  rcases Nat.lt_or_ge k n with hin | hin
  ·subst hzi
   have k1 : (k : Int) < (n : Int) := by omega
   have k0 : (0 : Int) ≤ (k : Int) := Int.natCast_nonneg _
   have kb : (k : Int) ≤ 10000 := by omega
   obtain ⟨a, rfl, hsl⟩ := hq.out (by omega)
   have hki : k < ql.length := by rw [hl.out]; exact hin
   have e0 := (hsl.below hB).c0 k hki
   have e1 := (hsl.below hB).c1 k hki
   obtain ⟨⟨b1, b2⟩, b3, b4⟩ := hsl.rg ql[k] (List.getElem_mem hki)
   have HQ := qof_any ql[k].1 ql[k].2 b1 b2 b3 b4
   have hti1 := hti.out k hki
   obtain ⟨q, hqq⟩ : ∃ q, q = qm ql[k] := ⟨_, rfl⟩
   rw [show qmade ql[k].1 ql[k].2.toNat = qm ql[k] from rfl, ← hqq] at HQ
   rw [← hqq] at hti1
   generalize ql[k].1 = zn at *
   generalize ql[k].2 = zd at *
   replace HQ := Lib.hid HQ
   replace hti1 := Lib.hid hti1
   rw [add_one] at e1
   clear hqq hsl b1 b2 b3 b4
   go_wp2_with fail
   with_reducible refine Calls.mono (HQ.out _) ?_
   rintro e y3 ⟨rfl, hb3⟩
   have hown3 := Lib.hid (own_below hown.out hb3)
   have hB3 := Lib.hid (hB.trans (hb3.mono hB.size))
   clear hb3 e0 e1 hB hown
   have hL1 : GL y3 y3 [] := GL.start y3
   replace hL1 := hL1.new rfl [.int .u64 ((zl q.num : Nat) : Int), .string (zh q.num), .bool (zs q.num), .int .u64 ((lo (fe q) : Nat) : Int), .string (hs (fe q))] 36
   generalize hweq : y3.alloc (.cells #[.int .u64 ((zl q.num : Nat) : Int), .string (zh q.num), .bool (zs q.num), .int .u64 ((lo (fe q) : Nat) : Int), .string (hs (fe q))] 36) = y4 at hL1
   have hown4 := Lib.hid (own_below hown3.out hL1.bl)
   have hB4 := Lib.hid (hB3.out.trans (hL1.bl.mono hB3.out.size))
   have hH := Lib.hid (hL1.get _ _ mZ)
   go_wp2_with (at_builtin; refine wp_appendF rfl _ _ rfl _ _ _ _ rfl hown4.out _ q rfl hH.out (by omega) hB4.out.size ?_)
   intro v' w5 hown5 hgrow _
   have hB5 := hB4.out.grown hgrow hB4.out.size (fun j hj => (hown4.out.lt j hj).1)
   rw [← hti1.out] at hown5
   replace hown5 := Lib.hid hown5
   clear hgrow hown4 hB4 hown3 hB3 hH hweq
   go_wp2_with fail
   go_roundg (gk - 1)
   case measure => omega
   case rel => exact ⟨k + 1, _, _, by omega, rfl, by first | rfl | go_num, by omega, hown5.out, hB5⟩
  ·obtain rfl : k = n := by omega
   subst hzi
   have k1 : ¬ (k : Int) < (k : Int) := by omega
   rw [List.take_of_length_le (Nat.le_of_eq hlq.out)] at hown
   have hsl := Lib.hid (own_slq hown.out hlq.out.symm)
   have hfr := Lib.hid (fun g hg => hown.out.lt g hg)
   go_wp2_with fail
   exact bodyPost_ret (v := vs) (by simp [results, Tryz.results11, go_sem]) rfl ⟨_, rfl, hsl.out, hfr.out, hB⟩
theorem PTs.putS {W W' : World} {S : List (Value × List Rat)} (h : PTs W S) {k : Nat} (hu : Upd k W W') (hs : ∀ p ∈ S, ∀ g, p.1.ownBlock = some g → g ≠ k) : PTs W' S := fun p hp => by
 rcases h p hp with h1 | ⟨g, c, h1, h2⟩
 ·exact .inl h1
 ·have hbl := hu.block g (hs p hp g (by rw [h1]; rfl))
  have cc : ∀ j, W'.cell? ⟨g, j, none⟩ = W.cell? ⟨g, j, none⟩ := fun j => World.cell?_of_block (a := ⟨g, j, none⟩) hbl
  exact .inr ⟨g, c, h1, fun i hi => by rw [cc, cc, cc, cc, cc]; exact h2.cell i hi, by rw [hu.size]; exact h2.lt⟩
end Go.Proofs.YthffglapmkkohaaGreatDoor
namespace Go.Proofs.YthffglapmkkohaaGreatDoor
open Go.RowKit
theorem own_grown {w w' : World} {base sz n : Nat} {et : TypeId} {v : Value} {xs : List Value} {s : Option Nat} (h : w.ownsRow base et sz v n xs) (hg : w.grownBy w' s) (hne : ∀ g, v.ownBlock = some g → s ≠ some g) : w'.ownsRow base et sz v n xs := by
 refine ⟨h.1, ?_⟩
 rcases h.2 with h0 | ⟨g, cap, cur, rfl, hb, hc, hr⟩
 ·exact .inl h0
 ·refine .inr ⟨g, cap, cur, rfl, hb, ?_, hr⟩
  rw [hg.block g (h.lt g rfl).2 fun e => hne g rfl e.symm]; exact hc
theorem AllRow.grown {P : Value → Prop} {w w' : World} {base n : Nat} {et : TypeId} {v : Value} {xs : List Value} {s : Option Nat} (h : AllRow P w base et v n xs) (hg : w.grownBy w' s) (hne : ∀ g, v.ownBlock = some g → s ≠ some g) : AllRow P w' base et v n xs :=
 ⟨own_grown h.1 hg hne, fun g hv i u hu => h.2 g hv i u (by
  rw [← World.cell?_of_block (a := ⟨g, i, none⟩) (hg.block g (h.1.lt g hv).2 fun e => hne g hv e.symm)]; exact hu)⟩
theorem slq_grown {w w' : World} {u : Value} {l : List Rat} {s : Option Nat} (h : SlQ w u l) (hg : w.grownBy w' s) (hne : ∀ g, u.ownBlock = some g → s ≠ some g) : SlQ w' u l := by
 rcases h with h | ⟨g, c, rfl, hd⟩
 ·exact .inl h
 have hbl := hg.block g hd.lt fun e => hne g rfl e.symm
 have cc : ∀ j, w'.cell? ⟨g, j, none⟩ = w.cell? ⟨g, j, none⟩ := fun j => World.cell?_of_block (a := ⟨g, j, none⟩) hbl
 exact .inr ⟨g, c, rfl, fun i hi => by rw [cc, cc, cc, cc, cc]; exact hd.cell i hi, Nat.lt_of_lt_of_le hd.lt hg.size⟩
theorem own_upd12 {w w' : World} {k base sz n : Nat} {et : TypeId} {v : Value} {xs : List Value} (h : w.ownsRow base et sz v n xs) (hu : Upd k w w') (hk : k < base) : w'.ownsRow base et sz v n xs := by
 refine ⟨h.1, ?_⟩
 rcases h.2 with h0 | ⟨g, cap, cur, rfl, hb, hc, hr⟩
 ·exact .inl h0
 ·refine .inr ⟨g, cap, cur, rfl, hb, ?_, hr⟩
  rw [hu.block g (by omega)]; exact hc
theorem AllRow.upd12 {P : Value → Prop} {w w' : World} {base n k : Nat} {et : TypeId} {v : Value} {xs : List Value} (h : AllRow P w base et v n xs) (hu : Upd k w w') (hk : k < base) : AllRow P w' base et v n xs :=
 ⟨own_upd12 h.1 hu hk, fun g hg i u hc => h.2 g hg i u (by
  have := (h.1.lt g hg).1
  rw [← World.cell?_of_block (a := ⟨g, i, none⟩) (hu.block g (by omega))]; exact hc)⟩
/-- Rows of slices and rows of fractions lie in different blocks. -/
theorem row_dj {P : Value → Prop} (hP : ∀ z, ¬ P (.int .u64 z)) {w : World} {B n k : Nat} {et : TypeId} {va vw : Value} {ls : List Value} {L : List Rat} (hf : OwnF w B vw n L) (ha : AllRow P w B et va k ls) (h0 : n = 0 → vw.ownBlock = none) : ∀ g, vw.ownBlock = some g → va.ownBlock ≠ some g := by
 intro g hg he
 have hn : n ≠ 0 := fun e => by rw [h0 e] at hg; cases hg
 have hl : 0 < L.length := by
  have := hf.1
  rw [frCs_length] at this
  omega
 have hj : (frCs L)[0]? = some (.int .u64 ((zl (L[0]'hl).num : Nat) : Int)) := by
  have := frCs_at L 0 0 hl (by omega)
  simpa [frC] using this
 have hc := World.ownsRow.cells hf (g := g) hg 0 _ hj
 rw [add0H] at hc
 exact hP _ (ha.2 g he 0 _ hc)
/-- A vector that lies apart from a row. -/
def XF (B : Nat) (W : World) (vw u : Value) (l : List Rat) : Prop := SlQ W u l ∧ ∀ g, u.ownBlock = some g → B ≤ g ∧ g < W.heap.size ∧ vw.ownBlock ≠ some g
theorem XF.below {B : Nat} {W W' : World} {vw u : Value} {l : List Rat} (h : XF B W vw u l) (hb : Below W.heap.size W W') : XF B W' vw u l :=
 ⟨h.1.below hb, fun g hg => ⟨(h.2 g hg).1, Nat.lt_of_lt_of_le (h.2 g hg).2.1 hb.size, (h.2 g hg).2.2⟩⟩
theorem XF.upd {B k : Nat} {W W' : World} {vw u : Value} {l : List Rat} (h : XF B W vw u l) (hu : Upd k W W') (hk : k < B) : XF B W' vw u l :=
 ⟨(PTs.putS (S := [(u, l)]) (fun p hp => by rw [List.mem_singleton.1 hp]; exact h.1) hu (fun p hp g hg => by rw [List.mem_singleton.1 hp] at hg; have := (h.2 g hg).1; omega)) _ mZ, fun g hg => ⟨(h.2 g hg).1, by rw [hu.size]; exact (h.2 g hg).2.1, (h.2 g hg).2.2⟩⟩
structure SI (B : Nat) (W : World) (va vw : Value) (i j : Nat) (ls : List Value) (U : Nat → List Rat) (Zl : List Rat) : Prop where
 all : AllRow isSl W B 28 va i ls
 wt : OwnF W B vw j Zl
 ux : ∀ m, m < i → ∃ u, ls[m]? = some u ∧ XF B W vw u (U m)
 nl : j = 0 → vw.ownBlock = none
 bs : B ≤ W.heap.size
variable {B : Nat} {W W' : World} {va vw u : Value} {i j : Nat} {ls : List Value} {U : Nat → List Rat} {Zl : List Rat}
theorem SI.nil (W : World) (U : Nat → List Rat) (hB : B ≤ W.heap.size) : SI B W (.slice none 0 0) (.slice none 0 0) 0 0 [] U [] :=
 ⟨AllRow.nil _ _ _, World.ownsRow_nil _ _ _ _, fun m h => absurd h (Nat.not_lt_zero _), fun _ => rfl, hB⟩
theorem SI.below (h : SI B W va vw i j ls U Zl) (hb : Below W.heap.size W W') : SI B W' va vw i j ls U Zl :=
 ⟨h.all.below hb, own_below h.wt hb, fun m hm => by obtain ⟨u, h1, h2⟩ := h.ux m hm; exact ⟨u, h1, h2.below hb⟩, h.nl, Nat.le_trans h.bs hb.size⟩
theorem SI.upd {k : Nat} (h : SI B W va vw i j ls U Zl) (hu : Upd k W W') (hk : k < B) : SI B W' va vw i j ls U Zl :=
 ⟨h.all.upd12 hu hk, own_upd12 h.wt hu hk, fun m hm => by obtain ⟨u, h1, h2⟩ := h.ux m hm; exact ⟨u, h1, h2.upd hu hk⟩, h.nl, by rw [hu.size]; exact h.bs⟩
theorem isSl_int (z : Int) : ¬ isSl (.int .u64 z) := fun ⟨a, n, c, h⟩ => by cases h
theorem XF.all (h : SI B W va vw i j ls U Zl) {l : List Rat} (hx : XF B W vw u l) (hg : W.grownBy W' va.ownBlock) : XF B W' vw u l :=
 ⟨slq_apart hx.1 h.all hg, fun g hu => ⟨(hx.2 g hu).1, Nat.lt_of_lt_of_le (hx.2 g hu).2.1 hg.size, (hx.2 g hu).2.2⟩⟩
theorem SI.app1 (h : SI B W va vw i j ls U Zl) {va' : Value} (ha : AllRow isSl W' B 28 va' (i + 1) (ls ++ [u])) (hg : W.grownBy W' va.ownBlock) (hx : XF B W vw u (U i)) : SI B W' va' vw (i + 1) j (ls ++ [u]) U Zl :=
 ⟨ha, own_grown h.wt hg (row_dj isSl_int h.wt h.all h.nl), fun m hm => by
  have hl := h.all.len
  rcases Nat.lt_or_ge m i with g | g
  ·obtain ⟨v, h1, h2⟩ := h.ux m g
   exact ⟨v, by rw [List.getElem?_append_left (by omega)]; exact h1, XF.all h h2 hg⟩
  ·obtain rfl : m = i := by omega
   exact ⟨u, by rw [List.getElem?_append_right (by omega), hl, Nat.sub_self]; rfl, XF.all h hx hg⟩, h.nl, Nat.le_trans h.bs hg.size⟩
theorem SI.app2 (h : SI B W va vw i j ls U Zl) {vw' : Value} {z : Rat} (hf : OwnF W' B vw' (j + 1) (Zl ++ [z])) (hg : W.grownBy W' vw.ownBlock) (ho : vw'.ownBlock = vw.ownBlock ∨ vw'.ownBlock = some W.heap.size) : SI B W' va vw' i (j + 1) ls U (Zl ++ [z]) :=
 ⟨h.all.grown hg fun g he hw => row_dj isSl_int h.wt h.all h.nl g hw he, hf, fun m hm => by
  obtain ⟨u, h1, h2⟩ := h.ux m hm
  refine ⟨u, h1, slq_grown h2.1 hg fun g hu => (h2.2 g hu).2.2, fun g hu => ⟨(h2.2 g hu).1, Nat.lt_of_lt_of_le (h2.2 g hu).2.1 hg.size, ?_⟩⟩
  rcases ho with e | e
  ·rw [e]; exact (h2.2 g hu).2.2
  ·rw [e]; intro e2; have := (h2.2 g hu).2.1; simp at e2; omega, fun e => absurd e (Nat.succ_ne_zero _), Nat.le_trans h.bs hg.size⟩
theorem XF.fresh (h : SI B W va vw i j ls U Zl) (hb : Below W.heap.size W W') {l : List Rat} (hq : SlQ W' u l) (hf : ∀ g, u.ownBlock = some g → W.heap.size ≤ g ∧ g < W'.heap.size) : XF B W' vw u l :=
 ⟨hq, fun g hu => ⟨Nat.le_trans h.bs (hf g hu).1, (hf g hu).2, fun e => by have := (h.wt.lt g e).2; have := (hf g hu).1; omega⟩⟩
theorem SI.vls (h : SI B W va vw i j ls U Zl) : VLs W va ((List.range i).map U) := vls_all h.all fun m hm => by
 obtain ⟨u, h1, h2⟩ := h.ux m hm
 exact ⟨u, h1, h2.1⟩
theorem OwnF.slq {w : World} {B n : Nat} {v : Value} {l : List Rat} (h : OwnF w B v n l) : SlQ w v l := by
 have hl := h.1
 rw [frCs_length] at hl
 rcases h.2 with ⟨rfl, h0⟩ | ⟨g, cap, cur, rfl, hr⟩
 ·exact .inl ⟨none, 0, rfl, List.eq_nil_of_length_eq_zero (by omega)⟩
 ·have e : n = l.length := by omega
  subst e
  exact .inr ⟨g, cap, rfl, own_fs h rfl⟩
theorem own_form12 {w : World} {base sz n : Nat} {et : TypeId} {v : Value} {xs : List Value} (h : w.ownsRow base et sz v n xs) : ∃ a c, v = .slice a n c := by
 rcases h.2 with ⟨rfl, rfl⟩ | ⟨g, cap, cur, rfl, -⟩
 ·exact ⟨none, 0, rfl⟩
 ·exact ⟨_, _, rfl⟩
theorem undFs : Tryz.prog.underlying 27 = some (.slice 36) := by kernel_rfl
theorem wp_appendG {w : World} {ops : Array Oper} {rest : List Oper} {o : Oper} {a : Act} {Q : Exit → Act → World → Prop} (hgd : o.guard = none) (s x : Operand)
  (ho : o.op = .call { callee := .builtin .append, args := #[s, x], argTypes := #[27, 27] }) (B : Nat) (v : Value) (n : Nat) (L : List Rat) (hs : a.eval s = v) (hown : OwnF w B v n L) (g : Nat) (t : Rat) (hx : a.eval x = .slice (some ⟨g, 0, none⟩) 1 1) (hH : Hd w g (frC t))
  (hn : n ≤ 100000) (hbase : B ≤ w.heap.size)
  (h : ∀ v' w', OwnF w' B v' (n + 1) (L ++ [t]) → w.grownBy w' v.ownBlock → (v'.ownBlock = v.ownBlock ∨ v'.ownBlock = some w.heap.size) → wpList Tryz.prog ops Q rest (a.put o.dst v') w') : wpList Tryz.prog ops Q (o :: rest) a w := by
 obtain ⟨i0, hi, hz1, hz2, hz3⟩ := info_parts infoFr
 refine wpList_append_own_at w hgd s x 27 ho B 36 i0 _ 5 56 undFs hi hz1 hz2 hz3 rfl (by decide) v n (frCs L) hs hown ⟨g, 0, none⟩ 1 1 (frC t) hx rfl (hd_newsH hH) (frC_one t) (by unfold maxLen; omega) (by omega) hbase ?_
 intro v' w' h1 h2 _ h4
 refine h v' w' ?_ h2 h4
 unfold OwnF
 rw [frCs_snoc]; exact h1
theorem qv_at {w : World} {ao : Option Addr} {n c : Nat} {ql : List (Int × Int)} (h : QV w (.slice ao n c) ql) (i : Nat) (hi : i < n) : ∃ a : Addr, ao = some a ∧ w.cell? (a.add (i * 2)) = some (.int .i64 (ql.getD i (0, 0)).1) ∧ w.cell? ((a.add (i * 2)).add 1) = some (.int .u32 (ql.getD i (0, 0)).2) := by
 have hl := qv_len h
 obtain ⟨ao', c', e, _, _, h2⟩ := h
 obtain ⟨rfl, _, rfl⟩ : ao = ao' ∧ n = ql.length ∧ c = c' := by simpa using e
 obtain ⟨a, rfl, hq⟩ := h2 (by omega)
 have hi' : i < ql.length := by omega
 refine ⟨a, rfl, ?_, ?_⟩
 ·rw [List.getD_eq_getElem?_getD, List.getElem?_eq_getElem hi']; exact hq.c0 i hi'
 ·rw [List.getD_eq_getElem?_getD, List.getElem?_eq_getElem hi']; exact hq.c1 i hi'
theorem SI.last (h : SI B W va vw (i + 1) j (ls ++ [u]) U Zl) (hl : ls.length = i) : XF B W vw u (U i) := by
 obtain ⟨v, h1, h2⟩ := h.ux i (Nat.lt_succ_self _)
 rw [List.getElem?_append_right (by omega), hl, Nat.sub_self] at h1
 simp only [List.getElem?_cons_zero, Option.some.injEq] at h1
 rw [h1]; exact h2
theorem SI.wkey (h : SI B W va vw i j ls U Zl) (z : Nat) (hz : vw.ownBlock = some z) : B ≤ z ∧ z < W.heap.size := h.wt.lt z hz
theorem SI.akey (h : SI B W va vw i j ls U Zl) (z : Nat) (hz : va.ownBlock = some z) : B ≤ z ∧ z < W.heap.size := h.all.1.lt z hz
/-- A row of sums: the first k hold one summand more. -/
def smV (n i : Nat) (F : Nat → Nat → Rat) (k : Nat) : List Rat := tabV n fun a => bsV (if a < k then i + 1 else i) fun j => F j a
theorem sm_len (n i : Nat) (F : Nat → Nat → Rat) (k : Nat) : (smV n i F k).length = n := tabV_len _ _
theorem sm_at {n i a k : Nat} {F : Nat → Nat → Rat} (h : a < n) (hk : ¬ a < k) : gv (smV n i F k) a = bsV i fun j => F j a := by unfold smV; rw [gv_tab h, if_neg hk]
theorem sm_step {n i k : Nat} {F : Nat → Nat → Rat} (h : k < n) : (smV n i F k).set k ((bsV i fun j => F j k) + F i k) = smV n i F (k + 1) := by
 refine List.ext_getElem (by rw [List.length_set, sm_len, sm_len]) fun a h1 h2 => ?_
 rw [List.getElem_set]
 have ha : a < n := by rwa [sm_len] at h2
 have e2 : (smV n i F (k + 1))[a] = bsV (if a < k + 1 then i + 1 else i) fun j => F j a := by rw [← gv_get h2]; unfold smV; rw [gv_tab ha]
 rw [e2]
 split
 ·next h => subst h; rw [if_pos (by omega)]; rfl
 ·next hne =>
  have h3 : a < (smV n i F k).length := by rw [sm_len]; exact ha
  have e3 : (smV n i F k)[a] = bsV (if a < k then i + 1 else i) fun j => F j a := by rw [← gv_get h3]; unfold smV; rw [gv_tab ha]
  rw [e3]
  by_cases hk : a < k
  ·rw [if_pos hk, if_pos (by omega)]
  ·rw [if_neg hk, if_neg (by omega)]
theorem sm_next (n i : Nat) (F : Nat → Nat → Rat) : smV n i F n = smV n (i + 1) F 0 := tab_ext fun a ha => by rw [if_pos ha, if_neg (Nat.not_lt_zero _)]
theorem sm_zero (n : Nat) (F : Nat → Nat → Rat) : List.replicate n (0 : Rat) = smV n 0 F 0 := by
 rw [rep_tab]; exact tab_ext fun a ha => by rw [if_neg (Nat.not_lt_zero _)]; rfl
end Go.Proofs.YthffglapmkkohaaGreatDoor
namespace Go.Proofs.YthffglapmkkohaaGreatDoor
open Go.RowKit
/-- A matrix: its rows, its columns, its elements. -/
structure Mx where
 r : Nat
 c : Nat
 l : List Rat
def ent (x : Mx) (i k : Nat) : Rat := gv x.l (i * x.c + k)
def tabM (r c : Nat) (f : Nat → Nat → Rat) : Mx := ⟨r, c, tabV (r * c) fun p => f (p / c) (p % c)⟩
theorem ix_lt {r c i k : Nat} (hi : i < r) (hk : k < c) : i * c + k < r * c := by
 have : (i + 1) * c ≤ r * c := Nat.mul_le_mul_right c hi
 rw [Nat.add_mul, Nat.one_mul] at this
 omega
theorem ix_row {r c p : Nat} (h : p < r * c) : p / c < r ∧ p % c < c := by
 have hc : 0 < c := by
  rcases Nat.eq_zero_or_pos c with e | e
  ·subst e; simp at h
  ·exact e
 exact ⟨(Nat.div_lt_iff_lt_mul hc).2 h, Nat.mod_lt _ hc⟩
/-- A matrix of n rows, k columns, whose elements have a size. -/
structure GM (x : Mx) (n k K : Nat) : Prop where
 r : x.r = n
 c : x.c = k
 len : x.l.length = n * k
 sz : ∀ q ∈ x.l, Sz q K
theorem GM.at {x : Mx} {n k K : Nat} (h : GM x n k K) (i j : Nat) (hi : i < n) (hj : j < k) : Sz (ent x i j) K := by
 unfold ent
 rw [h.c]
 exact qsk x.l h.sz _ (by rw [h.len]; exact ix_lt hi hj)
theorem GM.mono {x : Mx} {n k K M : Nat} (h : GM x n k K) (hm : K ≤ M) : GM x n k M := ⟨h.r, h.c, h.len, fun q hq => (h.sz q hq).mono hm⟩
theorem GM.tab {n k K : Nat} {f : Nat → Nat → Rat} (h : ∀ i j, i < n → j < k → Sz (f i j) K) : GM (tabM n k f) n k K :=
 ⟨rfl, rfl, tabV_len _ _, tab_all fun p hp => h _ _ (ix_row hp).1 (ix_row hp).2⟩
def sumM (n k : Nat) (x y : Mx) : Mx := tabM n k fun i j => ent x i j + ent y i j
def mulM (n k p : Nat) (x y : Mx) : Mx := tabM n p fun i j => bsV k fun t => ent x i t * ent y t j
def oneM (n : Nat) : Mx := tabM n n fun i j => if i = j then 1 else 0
def appV (n k : Nat) (x : Mx) (v : List Rat) : List Rat := tabV n fun i => bsV k fun t => ent x i t * gv v t
def formM (n k : Nat) (x : Mx) (v w : List Rat) : Rat := bsV n fun i => gv v i * gv (appV n k x w) i
theorem GM.sum {x y : Mx} {n k K M : Nat} (hx : GM x n k K) (hy : GM y n k M) : GM (sumM n k x y) n k (K + M + 1) := GM.tab fun i j hi hj => (hx.at i j hi hj).add (hy.at i j hi hj)
theorem GM.mul {x y : Mx} {n k p K M : Nat} (hx : GM x n k K) (hy : GM y k p M) : GM (mulM n k p x y) n p (k * (K + M + 1) + 1) := GM.tab fun i j hi hj => bs_sz fun t ht => (hx.at i t hi ht).mul (hy.at t j ht hj)
theorem GM.one (n : Nat) : GM (oneM n) n n 1 := GM.tab fun i j hi hj => by
 split
 ·exact szc 1 (by decide +kernel) (by decide +kernel)
 ·exact szc 0 (by decide) (by decide)
theorem GM.app {x : Mx} {v : List Rat} {n k K M : Nat} (hx : GM x n k K) (hv : GV v k M) : GV (appV n k x v) n (k * (K + M + 1) + 1) := GV.tab fun i hi => bs_sz fun t ht => (hx.at i t hi ht).mul (hv.at t ht)
theorem GM.form {x : Mx} {v w : List Rat} {n k K M N : Nat} (hx : GM x n k K) (hv : GV v n M) (hw : GV w k N) : Sz (formM n k x v w) (n * (M + (k * (K + N + 1) + 1) + 1) + 1) := bs_sz fun i hi => (hv.at i hi).mul ((hx.app hw).at i hi)
-- sums
theorem bs_swap (n m : Nat) (f : Nat → Nat → Rat) : bsV n (fun i => bsV m fun j => f i j) = bsV m fun j => bsV n fun i => f i j := by
 induction n with
 | zero => exact (bs_zero m).symm
 | succ n ih =>
  show bsV n (fun i => bsV m fun j => f i j) + bsV m (fun j => f n j) = bsV m fun j => bsV n (fun i => f i j) + f n j
  rw [ih, bs_add]
theorem bs_mul_r (n : Nat) (c : Rat) (f : Nat → Rat) : bsV n (fun i => f i * c) = bsV n f * c := by
 rw [Rat.mul_comm, ← bs_mul]
 exact bs_congr fun i _ => Rat.mul_comm _ _
theorem bs_one (n i : Nat) (hi : i < n) (f : Nat → Rat) : bsV n (fun t => (if i = t then 1 else 0) * f t) = f i := by
 induction n with
 | zero => omega
 | succ n ih =>
  show bsV n (fun t => (if i = t then 1 else 0) * f t) + (if i = n then 1 else 0) * f n = f i
  rcases Nat.lt_or_ge i n with h | h
  ·rw [ih h, if_neg (by omega)]; grind
  ·obtain rfl : i = n := by omega
   rw [if_pos rfl, bs_congr (g := fun _ => 0) fun t ht => by rw [if_neg (by omega)]; grind, bs_zero]; grind
-- the ring
end Go.Proofs.YthffglapmkkohaaGreatDoor
namespace Go.Proofs.YthffglapmkkohaaGreatDoor
open Go.RowKit
/-- A grid: rows and columns. -/
abbrev Gd := Nat → Nat → Rat
/-- The rows of H are sums of multiples of the first R rows of G. -/
def Span (R : Nat) (G H : Gd) : Prop := ∀ i, i < R → ∃ y : Nat → Rat, ∀ j, H i j = bsV R fun r => y r * G r j
theorem Span.refl (R : Nat) (G : Gd) : Span R G G := fun i hi => ⟨fun r => if i = r then 1 else 0, fun j => (bs_one R i hi fun r => G r j).symm⟩
theorem Span.trans {R : Nat} {G H K : Gd} (h : Span R G H) (g : Span R H K) : Span R G K := fun i hi => by
 obtain ⟨y, hy⟩ := g i hi
 have hc : ∀ r, ∃ z : Nat → Rat, r < R → ∀ j, H r j = bsV R fun s => z s * G s j := fun r => by
  by_cases hr : r < R
  ·obtain ⟨z, hz⟩ := h r hr; exact ⟨z, fun _ => hz⟩
  ·exact ⟨fun _ => 0, fun h => absurd h hr⟩
 obtain ⟨Z, hZ⟩ := Classical.axiomOfChoice hc
 refine ⟨fun s => bsV R fun r => y r * Z r s, fun j => ?_⟩
 rw [hy j, bs_congr (g := fun r => bsV R fun s => y r * (Z r s * G s j)) fun r hr => by rw [hZ r hr j, bs_mul]]
 rw [bs_swap]
 refine bs_congr fun s _ => ?_
 rw [← bs_mul_r]
 exact bs_congr fun r _ => by grind
/-- One row is what the old row is, multiplied, and another row's multiple more. -/
theorem Span.lin {R : Nat} {G H : Gd} (h : ∀ i, i < R → ∃ a c : Nat, ∃ p q : Rat, a < R ∧ c < R ∧ ∀ j, H i j = p * G a j + q * G c j) : Span R G H := fun i hi => by
 obtain ⟨a, c, p, q, ha, hc, e⟩ := h i hi
 refine ⟨fun r => p * (if a = r then 1 else 0) + q * (if c = r then 1 else 0), fun j => ?_⟩
 rw [e j, bs_congr (g := fun r => p * ((if a = r then 1 else 0) * G r j) + q * ((if c = r then 1 else 0) * G r j)) fun r _ => by grind, bs_add, bs_mul, bs_mul, bs_one R a ha, bs_one R c hc]
/-- The value of a row at a vector. -/
def rowX (n : Nat) (G : Gd) (x : Nat → Rat) (i : Nat) : Rat := bsV n fun j => G i j * x j
theorem Span.row {R n : Nat} {G H : Gd} (h : Span R G H) {x : Nat → Rat} (hx : ∀ i, i < R → rowX n G x i = 0) (i : Nat) (hi : i < R) : rowX n H x i = 0 := by
 obtain ⟨y, hy⟩ := h i hi
 unfold rowX
 rw [bs_congr (g := fun j => bsV R fun r => y r * (G r j * x j)) fun j _ => by rw [hy j, ← bs_mul_r]; exact bs_congr fun r _ => by grind]
 rw [bs_swap, bs_congr (g := fun _ => 0) fun r hr => by
  rw [bs_mul]; have := hx r hr; unfold rowX at this; rw [this]; grind]
 exact bs_zero R
def swpG (G : Gd) (a b : Nat) : Gd := fun i => if i = a then G b else if i = b then G a else G i
def divG (G : Gd) (t k : Nat) : Gd := fun i j => if i = t ∧ k ≤ j then G t j / G t k else G i j
/-- The rows behind t and ahead of m have been cleared at k. -/
def clrG (G : Gd) (t k m : Nat) : Gd := fun i j => if t < i ∧ i < m ∧ k ≤ j then G i j - G i k * G t j else G i j
/-- The first row from t on whose element k is not 0. -/
def fnd (G : Gd) (k : Nat) : Nat → Nat → Option Nat
 | _, 0 => none
 | t, n + 1 => if G t k ≠ 0 then some t else fnd G k (t + 1) n
theorem fnd_some {G : Gd} {k : Nat} : ∀ {n t i : Nat}, fnd G k t n = some i → t ≤ i ∧ i < t + n ∧ G i k ≠ 0 ∧ ∀ j, t ≤ j → j < i → G j k = 0 := by
 intro n
 induction n with
 | zero => intro t i h; cases h
 | succ n ih =>
  intro t i h
  unfold fnd at h
  by_cases h0 : G t k ≠ 0
  ·rw [if_pos h0] at h; cases h; exact ⟨Nat.le_refl _, by omega, h0, fun j _ _ => by omega⟩
  ·rw [if_neg h0] at h
   obtain ⟨h1, h2, h3, h4⟩ := ih h
   refine ⟨by omega, by omega, h3, fun j hj hi => ?_⟩
   by_cases e : j = t
   ·subst e; exact Classical.not_not.1 h0
   ·exact h4 j (by omega) hi
theorem fnd_none {G : Gd} {k : Nat} : ∀ {n t : Nat}, fnd G k t n = none → ∀ j, t ≤ j → j < t + n → G j k = 0 := by
 intro n
 induction n with
 | zero => intro t _ j _ _; omega
 | succ n ih =>
  intro t h j hj hn
  unfold fnd at h
  by_cases h0 : G t k ≠ 0
  ·rw [if_pos h0] at h; cases h
  ·rw [if_neg h0] at h
   by_cases e : j = t
   ·subst e; exact Classical.not_not.1 h0
   ·exact ih h j (by omega) (by omega)
structure ES where
 G : Gd
 pv : List Nat
 f : Rat
/-- What a column does. -/
def stepE (R k : Nat) (s : ES) : ES :=
 match fnd s.G k s.pv.length (R - s.pv.length) with
 | none => s
 | some i => ⟨clrG (divG (swpG s.G i s.pv.length) s.pv.length k) s.pv.length k R, s.pv ++ [k], (if i = s.pv.length then s.f else -s.f) * swpG s.G i s.pv.length s.pv.length k⟩
/-- The rows as far as column k. -/
structure IE (R k : Nat) (s : ES) : Prop where
 le : s.pv.length ≤ R
 lt : ∀ r (h : r < s.pv.length), s.pv[r] < k
 up : ∀ r (h : r + 1 < s.pv.length), s.pv[r] < s.pv[r + 1]
 zl : ∀ r (h : r < s.pv.length), ∀ j, j < s.pv[r] → s.G r j = 0
 one : ∀ r (h : r < s.pv.length), s.G r s.pv[r] = 1
 zb : ∀ r (h : r < s.pv.length), ∀ i, r < i → i < R → s.G i s.pv[r] = 0
 z0 : ∀ i, s.pv.length ≤ i → i < R → ∀ j, j < k → s.G i j = 0
theorem IE.step {R k : Nat} {s : ES} (h : IE R k s) : IE R (k + 1) (stepE R k s) ∧ Span R s.G (stepE R k s).G ∧ Span R (stepE R k s).G s.G := by
 obtain ⟨G, pv, f⟩ := s
 have hle := h.le
 dsimp only at hle
 unfold stepE
 dsimp only
 cases hf : fnd G k pv.length (R - pv.length) with
 | none =>
  refine ⟨⟨h.le, fun r hr => Nat.lt_succ_of_lt (h.lt r hr), h.up, h.zl, h.one, h.zb, fun i h1 h2 j hj => ?_⟩, Span.refl _ _, Span.refl _ _⟩
  by_cases e : j = k
  ·subst e; exact fnd_none hf i h1 (by dsimp only at h1; omega)
  ·exact h.z0 i h1 h2 j (by omega)
 | some i =>
  obtain ⟨hti, hin, hne, -⟩ := fnd_some hf
  have hz0 := h.z0
  have hzl := h.zl
  have hone := h.one
  have hzb := h.zb
  have hlt := h.lt
  have hup := h.up
  dsimp only at hz0 hzl hone hzb hlt hup
  have hiR : i < R := by omega
  obtain ⟨t, ht⟩ : ∃ t, t = pv.length := ⟨_, rfl⟩
  have htR : t < R := by omega
  obtain ⟨G1, hG1⟩ : ∃ G1, G1 = swpG G i t := ⟨_, rfl⟩
  have g1 : ∀ r, r < t → G1 r = G r := fun r hr => by rw [hG1]; unfold swpG; rw [if_neg (by omega), if_neg (by omega)]
  have g1t : G1 t = G i := by
   rw [hG1]; unfold swpG
   by_cases e : t = i
   ·rw [if_pos e, e]
   ·rw [if_neg e, if_pos rfl]
  have g1z : ∀ a, t ≤ a → a < R → ∀ j, j < k → G1 a j = 0 := fun a ha haR j hj => by
   rw [hG1]; unfold swpG
   split
   ·exact hz0 t (by omega) htR j hj
   ·split
    ·exact hz0 i (by omega) hiR j hj
    ·exact hz0 a (by omega) haR j hj
  have g1b : ∀ r (hr : r < pv.length), ∀ a, r < a → a < R → G1 a pv[r] = 0 := fun r hr a ha haR => by
   rw [hG1]; unfold swpG
   split
   ·exact hzb r hr t (by omega) htR
   ·split
    ·exact hzb r hr i (by omega) hiR
    ·exact hzb r hr a ha haR
  have hk : G1 t k ≠ 0 := by rw [g1t]; exact hne
  have s1 : Span R G G1 ∧ Span R G1 G := by
   constructor
   ·refine Span.lin fun a ha => ?_
    by_cases e : a = i
    ·exact ⟨t, t, 1, 0, htR, htR, fun j => by rw [hG1]; unfold swpG; rw [if_pos e]; grind⟩
    ·by_cases e2 : a = t
     ·exact ⟨i, i, 1, 0, hiR, hiR, fun j => by rw [hG1]; unfold swpG; rw [if_neg e, if_pos e2]; grind⟩
     ·exact ⟨a, a, 1, 0, ha, ha, fun j => by rw [hG1]; unfold swpG; rw [if_neg e, if_neg e2]; grind⟩
   ·refine Span.lin fun a ha => ?_
    by_cases e : a = i
    ·exact ⟨t, t, 1, 0, htR, htR, fun j => by rw [g1t, e]; grind⟩
    ·by_cases e2 : a = t
     ·exact ⟨i, i, 1, 0, hiR, hiR, fun j => by rw [hG1]; unfold swpG; rw [if_pos rfl, e2]; grind⟩
     ·exact ⟨a, a, 1, 0, ha, ha, fun j => by rw [hG1]; unfold swpG; rw [if_neg e, if_neg e2]; grind⟩
  obtain ⟨G2, hG2⟩ : ∃ G2, G2 = divG G1 t k := ⟨_, rfl⟩
  have g2 : ∀ r, r ≠ t → G2 r = G1 r := fun r hr => by funext j; rw [hG2]; unfold divG; rw [if_neg fun h => hr h.1]
  have g2t : ∀ j, G2 t j = G1 t j / G1 t k := fun j => by
   rw [hG2]; unfold divG
   by_cases e : k ≤ j
   ·rw [if_pos ⟨rfl, e⟩]
   ·rw [if_neg fun h => e h.2, g1z t (Nat.le_refl _) htR j (by omega)]; grind
  have s2 : Span R G1 G2 ∧ Span R G2 G1 := by
   constructor
   ·refine Span.lin fun a ha => ?_
    by_cases e : a = t
    ·exact ⟨t, t, (G1 t k)⁻¹, 0, htR, htR, fun j => by rw [e, g2t]; grind⟩
    ·exact ⟨a, a, 1, 0, ha, ha, fun j => by rw [g2 a e]; grind⟩
   ·refine Span.lin fun a ha => ?_
    by_cases e : a = t
    ·exact ⟨t, t, G1 t k, 0, htR, htR, fun j => by rw [e, g2t]; grind⟩
    ·exact ⟨a, a, 1, 0, ha, ha, fun j => by rw [g2 a e]; grind⟩
  have g2z : ∀ a, t ≤ a → a < R → ∀ j, j < k → G2 a j = 0 := fun a ha haR j hj => by
   by_cases e : a = t
   ·rw [e, g2t, g1z t (Nat.le_refl _) htR j hj]; grind
   ·rw [g2 a e]; exact g1z a ha haR j hj
  have g2k : G2 t k = 1 := by rw [g2t]; grind
  obtain ⟨G3, hG3⟩ : ∃ G3, G3 = clrG G2 t k R := ⟨_, rfl⟩
  have g3 : ∀ r, r ≤ t → G3 r = G2 r := fun r hr => by funext j; rw [hG3]; unfold clrG; rw [if_neg fun h => by omega]
  have g3t : ∀ a, t < a → a < R → ∀ j, G3 a j = G2 a j - G2 a k * G2 t j := fun a ha haR j => by
   rw [hG3]; unfold clrG
   by_cases e : k ≤ j
   ·rw [if_pos ⟨ha, haR, e⟩]
   ·rw [if_neg fun h => e h.2.2, g2z t (Nat.le_refl _) htR j (by omega)]; grind
  have s3 : Span R G2 G3 ∧ Span R G3 G2 := by
   constructor
   ·refine Span.lin fun a ha => ?_
    by_cases e : t < a
    ·exact ⟨a, t, 1, -G2 a k, ha, htR, fun j => by rw [g3t a e ha]; grind⟩
    ·exact ⟨a, a, 1, 0, ha, ha, fun j => by rw [g3 a (by omega)]; grind⟩
   ·refine Span.lin fun a ha => ?_
    by_cases e : t < a
    ·exact ⟨a, t, 1, G2 a k, ha, htR, fun j => by rw [g3t a e ha, g3 t (Nat.le_refl _)]; grind⟩
    ·exact ⟨a, a, 1, 0, ha, ha, fun j => by rw [g3 a (by omega)]; grind⟩
  dsimp only
  rw [← ht, ← hG1, ← hG2, ← hG3]
  refine ⟨⟨?_, ?_, ?_, ?_, ?_, ?_, ?_⟩, s1.1.trans (s2.1.trans s3.1), s3.2.trans (s2.2.trans s1.2)⟩
  all_goals dsimp only
  ·rw [List.length_append, List.length_singleton]; omega
  ·intro r hr
   rw [List.length_append, List.length_singleton] at hr
   by_cases e : r < pv.length
   ·rw [List.getElem_append_left e]; have := hlt r e; omega
   ·rw [List.getElem_append_right (by omega)]; simp
  ·intro r hr
   rw [List.length_append, List.length_singleton] at hr
   rw [List.getElem_append_left (by omega)]
   by_cases e : r + 1 < pv.length
   ·rw [List.getElem_append_left e]; exact hup r e
   ·rw [List.getElem_append_right (by omega)]; simp; exact hlt r (by omega)
  ·intro r hr j hj
   rw [List.length_append, List.length_singleton] at hr
   by_cases e : r < pv.length
   ·rw [List.getElem_append_left e] at hj
    rw [g3 r (by omega), g2 r (by omega), g1 r (by omega)]; exact hzl r e j hj
   ·rw [List.getElem_append_right (by omega)] at hj
    simp at hj
    obtain rfl : r = t := by omega
    rw [g3 r (Nat.le_refl _)]; exact g2z r (Nat.le_refl _) htR j hj
  ·intro r hr
   rw [List.length_append, List.length_singleton] at hr
   by_cases e : r < pv.length
   ·rw [List.getElem_append_left e, g3 r (by omega), g2 r (by omega), g1 r (by omega)]; exact hone r e
   ·rw [List.getElem_append_right (by omega)]
    obtain rfl : r = t := by omega
    rw [g3 r (Nat.le_refl _)]; simpa using g2k
  ·intro r hr a ha haR
   rw [List.length_append, List.length_singleton] at hr
   by_cases e : r < pv.length
   ·rw [List.getElem_append_left e]
    have b2 : ∀ a, r < a → a < R → G2 a pv[r] = 0 := fun a ha haR => by
     by_cases e2 : a = t
     ·rw [e2, g2t, g1b r e t (by omega) htR]; grind
     ·rw [g2 a e2]; exact g1b r e a ha haR
    by_cases e3 : t < a
    ·rw [g3t a e3 haR, b2 a ha haR, b2 t (by omega) htR]; grind
    ·rw [g3 a (by omega)]; exact b2 a ha haR
   ·rw [List.getElem_append_right (by omega)]
    obtain rfl : r = t := by omega
    have : G3 a k = 0 := by rw [g3t a ha haR, g2k]; grind
    simpa using this
  ·intro a ha haR j hj
   rw [List.length_append, List.length_singleton] at ha
   rw [g3t a (by omega) haR]
   by_cases e : j = k
   ·rw [e, g2k]; grind
   ·rw [g2z a (by omega) haR j (by omega), g2z t (Nat.le_refl _) htR j (by omega)]; grind
/-- Rows ahead of i are cleared at k with row i. -/
def clrU (G : Gd) (i k : Nat) : Gd := fun r j => if r < i ∧ k ≤ j then G r j - G r k * G i j else G r j
/-- The reduced form, whose first c columns are the matrix's. -/
structure RE (R c : Nat) (pv : List Nat) (G : Gd) (n : Nat) : Prop where
 le : pv.length ≤ R
 lt : ∀ r (h : r < pv.length), pv[r] < c
 up : ∀ r (h : r + 1 < pv.length), pv[r] < pv[r + 1]
 zl : ∀ r (h : r < pv.length), ∀ j, j < pv[r] → G r j = 0
 one : ∀ r (h : r < pv.length), G r pv[r] = 1
 zb : ∀ r (h : r < pv.length), ∀ i, r < i → i < R → G i pv[r] = 0
 z0 : ∀ i, pv.length ≤ i → i < R → ∀ j, j < c → G i j = 0
 za : ∀ r (h : r < pv.length), pv.length ≤ r + n → ∀ i, i < r → G i pv[r] = 0
theorem up_lt {pv : List Nat} (up : ∀ r (h : r + 1 < pv.length), pv[r] < pv[r + 1]) : ∀ (a d : Nat) (h : a + d + 1 < pv.length), pv[a] < pv[a + d + 1] := by
 intro a d
 induction d with
 | zero => intro h; exact up a h
 | succ d ih => intro h; exact Nat.lt_trans (ih (by omega)) (up (a + d + 1) h)
theorem up_lt' {pv : List Nat} (up : ∀ r (h : r + 1 < pv.length), pv[r] < pv[r + 1]) {a b : Nat} (hab : a < b) (hb : b < pv.length) : pv[a] < pv[b] := by
 obtain ⟨d, rfl⟩ : ∃ d, b = a + d + 1 := ⟨b - a - 1, by omega⟩
 exact up_lt up a d hb
theorem RE.step {R c n : Nat} {pv : List Nat} {G : Gd} (h : RE R c pv G n) (hn : n < pv.length) :
  RE R c pv (clrU G (pv.length - 1 - n) (pv.getD (pv.length - 1 - n) 0)) (n + 1) ∧ Span R G (clrU G (pv.length - 1 - n) (pv.getD (pv.length - 1 - n) 0)) ∧ Span R (clrU G (pv.length - 1 - n) (pv.getD (pv.length - 1 - n) 0)) G := by
 obtain ⟨i, hi⟩ : ∃ i, i = pv.length - 1 - n := ⟨_, rfl⟩
 have hil : i < pv.length := by omega
 have hk : pv.getD i 0 = pv[i] := by rw [List.getD_eq_getElem?_getD, List.getElem?_eq_getElem hil]; rfl
 rw [← hi, hk]
 obtain ⟨H, hH⟩ : ∃ H, H = clrU G i pv[i] := ⟨_, rfl⟩
 rw [← hH]
 have hiR := h.le
 have e1 : ∀ r, i ≤ r → H r = G r := fun r hr => by funext j; rw [hH]; unfold clrU; rw [if_neg fun e => by omega]
 have e2 : ∀ r, r < i → ∀ j, H r j = G r j - G r pv[i] * G i j := fun r hr j => by
  rw [hH]; unfold clrU
  by_cases e : pv[i] ≤ j
  ·rw [if_pos ⟨hr, e⟩]
  ·rw [if_neg fun h => e h.2, h.zl i hil j (by omega)]; grind
 refine ⟨⟨h.le, h.lt, h.up, ?_, ?_, ?_, ?_, ?_⟩, ?_, ?_⟩
 ·intro r hr j hj
  by_cases e : r < i
  ·have := up_lt' h.up e hil
   rw [e2 r e, h.zl r hr j hj, h.zl i hil j (by omega)]; grind
  ·rw [e1 r (by omega)]; exact h.zl r hr j hj
 ·intro r hr
  by_cases e : r < i
  ·rw [e2 r e, h.one r hr, h.zl i hil _ (up_lt' h.up e hil)]; grind
  ·rw [e1 r (by omega)]; exact h.one r hr
 ·intro r hr a ha haR
  by_cases e : a < i
  ·rw [e2 a e, h.zb r hr a ha haR, h.zb r hr i (by omega) (by omega)]; grind
  ·rw [e1 a (by omega)]; exact h.zb r hr a ha haR
 ·intro a ha haR j hj
  rw [e1 a (by omega)]; exact h.z0 a ha haR j hj
 ·intro r hr hrn a ha
  by_cases e : a < i
  ·rw [e2 a e]
   by_cases e3 : r = i
   ·subst e3; rw [h.one r hr]; grind
   ·rw [h.za r hr (by omega) a ha, h.za r hr (by omega) i (by omega)]; grind
  ·rw [e1 a (by omega)]; exact h.za r hr (by omega) a ha
 ·refine Span.lin fun a ha => ?_
  by_cases e : a < i
  ·exact ⟨a, i, 1, -G a pv[i], ha, by omega, fun j => by rw [e2 a e]; grind⟩
  ·exact ⟨a, a, 1, 0, ha, ha, fun j => by rw [e1 a (by omega)]; grind⟩
 ·refine Span.lin fun a ha => ?_
  by_cases e : a < i
  ·exact ⟨a, i, 1, G a pv[i], ha, by omega, fun j => by rw [e2 a e, e1 i (Nat.le_refl _)]; grind⟩
  ·exact ⟨a, a, 1, 0, ha, ha, fun j => by rw [e1 a (by omega)]; grind⟩
structure Red (R c : Nat) (pv : List Nat) (G : Gd) : Prop where
 le : pv.length ≤ R
 lt : ∀ r (h : r < pv.length), pv[r] < c
 up : ∀ r (h : r + 1 < pv.length), pv[r] < pv[r + 1]
 zl : ∀ r (h : r < pv.length), ∀ j, j < pv[r] → G r j = 0
 one : ∀ r (h : r < pv.length), G r pv[r] = 1
 zz : ∀ r (h : r < pv.length), ∀ i, i < R → i ≠ r → G i pv[r] = 0
 z0 : ∀ i, pv.length ≤ i → i < R → ∀ j, j < c → G i j = 0
section
variable {R c : Nat} {pv : List Nat} {G : Gd} (h : Red R c pv G)
include h
theorem Red.inj {a b : Nat} (ha : a < pv.length) (hb : b < pv.length) (e : pv[a] = pv[b]) : a = b := by
 rcases Nat.lt_trichotomy a b with g | g | g
 ·have := up_lt' h.up g hb; omega
 ·exact g
 ·have := up_lt' h.up g ha; omega
/-- A row at a vector that is 0 where no pivot is. -/
theorem Red.row_piv {x : Nat → Rat} (hx : ∀ j, j < c → j ∉ pv → x j = 0) (i : Nat) (hi : i < pv.length) : rowX c G x i = x pv[i] := by
 unfold rowX
 rw [bs_congr (g := fun j => (if pv[i] = j then 1 else 0) * x pv[i]) fun j hj => ?_, bs_one c pv[i] (h.lt i hi) fun _ => x pv[i]]
 by_cases e : pv[i] = j
 ·rw [if_pos e, ← e, h.one i hi]
 ·rw [if_neg e]
  by_cases g : j ∈ pv
  ·obtain ⟨r, hr, rfl⟩ := List.getElem_of_mem g
   rw [h.zz r hr i (by have := h.le; omega) (fun e2 => e (by subst e2; rfl))]; grind
  ·rw [hx j hj g]; grind
theorem Red.row_zero {x : Nat → Rat} (i : Nat) (hi : pv.length ≤ i) (hR : i < R) : rowX c G x i = 0 := by
 unfold rowX
 rw [bs_congr (g := fun _ => 0) fun j hj => by rw [h.z0 i hi hR j hj]; grind]
 exact bs_zero c
end
/-- The vector of the kernel for the column k, which has no pivot. -/
def kvE (pv : List Nat) (G : Gd) (k j : Nat) : Rat := if j = k then 1 else if j ∈ pv then -G (pv.idxOf j) k else 0
theorem idx_piv {R c : Nat} {pv : List Nat} {G : Gd} (h : Red R c pv G) (i : Nat) (hi : i < pv.length) : pv.idxOf pv[i] = i := by
 have h1 : pv.idxOf pv[i] < pv.length := List.idxOf_lt_length_of_mem (List.getElem_mem hi)
 exact h.inj h1 hi (List.getElem_idxOf h1)
theorem Red.ker {R c : Nat} {pv : List Nat} {G : Gd} (h : Red R c pv G) {k : Nat} (hk : k < c) (hf : k ∉ pv) (i : Nat) (hi : i < R) : rowX c G (kvE pv G k) i = 0 := by
 rcases Nat.lt_or_ge i pv.length with g | g
 ·unfold rowX
  rw [bs_congr (g := fun j => (if k = j then 1 else 0) * G i k + (if pv[i] = j then 1 else 0) * -G i k) fun j hj => ?_, bs_add, bs_one c k hk fun _ => G i k, bs_one c pv[i] (h.lt i g) fun _ => -G i k]
  ·grind
  unfold kvE
  by_cases e : j = k
  ·subst e
   rw [if_pos rfl, if_pos rfl, if_neg (show ¬ pv[i] = j from fun e2 => hf (e2 ▸ List.getElem_mem g))]; grind
  ·rw [if_neg e, if_neg (show ¬ k = j from fun e2 => e e2.symm)]
   by_cases m : j ∈ pv
   ·rw [if_pos m]
    obtain ⟨r, hr, rfl⟩ := List.getElem_of_mem m
    rw [idx_piv h r hr]
    by_cases e3 : i = r
    ·subst e3; rw [if_pos rfl, h.one i g]; grind
    ·rw [if_neg (show ¬ pv[i] = pv[r] from fun e4 => e3 (h.inj g hr e4)), h.zz r hr i hi e3]; grind
   ·rw [if_neg m, if_neg (show ¬ pv[i] = j from fun e2 => m (e2 ▸ List.getElem_mem g))]; grind
 ·exact h.row_zero i g hi
/-- What the kernel holds is what its elements without pivots say. -/
theorem Red.ker_zero {R c : Nat} {pv : List Nat} {G : Gd} (h : Red R c pv G) {x : Nat → Rat} (hx : ∀ i, i < R → rowX c G x i = 0) (h0 : ∀ j, j < c → j ∉ pv → x j = 0) : ∀ j, j < c → x j = 0 := fun j hj => by
 by_cases m : j ∈ pv
 ·obtain ⟨r, hr, rfl⟩ := List.getElem_of_mem m
  rw [← h.row_piv h0 r hr]; exact hx r (by have := h.le; omega)
 ·exact h0 j hj m
theorem ker_iff {R c : Nat} {G H : Gd} (s1 : Span R G H) (s2 : Span R H G) (x : Nat → Rat) : (∀ i, i < R → rowX c G x i = 0) ↔ (∀ i, i < R → rowX c H x i = 0) := ⟨fun h => s1.row h, fun h => s2.row h⟩
theorem kv_far {R c : Nat} {pv : List Nat} {G : Gd} (h : Red R c pv G) {k j : Nat} (hj : k < j) : kvE pv G k j = 0 := by
 unfold kvE
 rw [if_neg (by omega)]
 by_cases m : j ∈ pv
 ·obtain ⟨r, hr, rfl⟩ := List.getElem_of_mem m
  rw [if_pos m, idx_piv h r hr, h.zl r hr k hj]; grind
 ·rw [if_neg m]
theorem Red.free_iff {R c : Nat} {pv : List Nat} {G : Gd} (h : Red R c pv G) {k : Nat} (hk : k < c) : k ∉ pv ↔ ∃ x : Nat → Rat, (∀ i, i < R → rowX c G x i = 0) ∧ x k = 1 ∧ ∀ j, k < j → j < c → x j = 0 := by
 constructor
 ·intro hf
  exact ⟨kvE pv G k, fun i hi => h.ker hk hf i hi, by unfold kvE; rw [if_pos rfl], fun j hj _ => kv_far h hj⟩
 ·rintro ⟨x, hx, h1, h2⟩ hm
  obtain ⟨r, hr, rfl⟩ := List.getElem_of_mem hm
  have := hx r (by have := h.le; omega)
  unfold rowX at this
  rw [bs_congr (g := fun j => (if pv[r] = j then 1 else 0) * x pv[r]) fun j hj => ?_, bs_one c _ hk fun _ => x pv[r], h1] at this
  ·exact absurd this (by decide)
  ·rcases Nat.lt_trichotomy j pv[r] with g | g | g
   ·rw [h.zl r hr j g, if_neg (by omega)]; grind
   ·rw [if_pos g.symm, g, h.one r hr]
   ·rw [h2 j g hj, if_neg (by omega)]; grind
theorem up_ext {p q : List Nat} (hp : ∀ r (h : r + 1 < p.length), p[r] < p[r + 1]) (hq : ∀ r (h : r + 1 < q.length), q[r] < q[r + 1]) (hm : ∀ k, k ∈ p ↔ k ∈ q) : p = q := by
 have key : ∀ {p q : List Nat}, (∀ r (h : r + 1 < p.length), p[r] < p[r + 1]) → (∀ r (h : r + 1 < q.length), q[r] < q[r + 1]) → (∀ k, k ∈ p ↔ k ∈ q) → ∀ n (h1 : n < p.length), (∀ m (hm : m < n), p[m]? = q[m]?) → p[n]? = q[n]? := by
  intro p q hp hq hm n h1 ih
  obtain ⟨b, hb, e⟩ := List.getElem_of_mem ((hm _).1 (List.getElem_mem h1))
  have hnb : n ≤ b := Nat.le_of_not_lt fun g => by
   have e2 := ih b g
   rw [List.getElem?_eq_getElem hb, List.getElem?_eq_getElem (by omega)] at e2
   have e3 : p[b] = q[b] := by simpa using e2
   have := up_lt' hp g h1
   omega
  have hnq : n < q.length := by omega
  obtain ⟨a, ha, e4⟩ := List.getElem_of_mem ((hm _).2 (List.getElem_mem hnq))
  have hna : n ≤ a := Nat.le_of_not_lt fun g => by
   have e2 := ih a g
   rw [List.getElem?_eq_getElem ha, List.getElem?_eq_getElem (by omega)] at e2
   have e3 : p[a] = q[a] := by simpa using e2
   have := up_lt' hq g hnq
   omega
  have g1 : p[n] ≤ p[a] := by
   rcases Nat.lt_or_ge n a with g | g
   ·exact Nat.le_of_lt (up_lt' hp g ha)
   ·obtain rfl : n = a := by omega
    exact Nat.le_refl _
  have g2 : q[n] ≤ q[b] := by
   rcases Nat.lt_or_ge n b with g | g
   ·exact Nat.le_of_lt (up_lt' hq g hb)
   ·obtain rfl : n = b := by omega
    exact Nat.le_refl _
  rw [List.getElem?_eq_getElem h1, List.getElem?_eq_getElem hnq]
  congr 1; omega
 apply List.ext_getElem?
 intro n
 induction n using Nat.strongRecOn with
 | ind n ih =>
  rcases Nat.lt_or_ge n p.length with g | g
  ·exact key hp hq hm n g ih
  ·rcases Nat.lt_or_ge n q.length with g2 | g2
   ·exact (key hq hp (fun k => (hm k).symm) n g2 fun m hm => (ih m hm).symm).symm
   ·rw [List.getElem?_eq_none g, List.getElem?_eq_none g2]
/-- The reduced form is one for each row space. -/
theorem Red.uniq {R c : Nat} {p q : List Nat} {G H : Gd} (h : Red R c p G) (g : Red R c q H) (s1 : Span R G H) (s2 : Span R H G) : p = q ∧ ∀ i, i < R → ∀ j, j < c → G i j = H i j := by
 have hk := ker_iff (c := c) s1 s2
 have e : p = q := up_ext h.up g.up fun k => by
  have hlt : ∀ {p : List Nat} {G : Gd}, Red R c p G → k ∈ p → k < c := fun h hm => by
   obtain ⟨r, hr, rfl⟩ := List.getElem_of_mem hm; exact h.lt r hr
  by_cases hkc : k < c
  ·have h1 := h.free_iff hkc
   have h2 := g.free_iff hkc
   have h3 : k ∉ p ↔ k ∉ q := by
    rw [h1, h2]
    constructor
    ·rintro ⟨x, a, b⟩; exact ⟨x, (hk x).1 a, b⟩
    ·rintro ⟨x, a, b⟩; exact ⟨x, (hk x).2 a, b⟩
   exact ⟨fun a => Classical.byContradiction fun b => h3.2 b a, fun a => Classical.byContradiction fun b => h3.1 b a⟩
  ·exact ⟨fun a => absurd (hlt h a) hkc, fun a => absurd (hlt g a) hkc⟩
 subst e
 refine ⟨rfl, fun i hi j hj => ?_⟩
 rcases Nat.lt_or_ge i p.length with hl | hl
 ·by_cases m : j ∈ p
  ·obtain ⟨r, hr, rfl⟩ := List.getElem_of_mem m
   by_cases e : i = r
   ·subst e; rw [h.one i hr, g.one i hr]
   ·rw [h.zz r hr i hi e, g.zz r hr i hi e]
  ·have hd : ∀ a, a < c → kvE p G j a - kvE p H j a = 0 := h.ker_zero (x := fun a => kvE p G j a - kvE p H j a) (fun a ha => by
    have h1 := h.ker hj m a ha
    have h2 := (hk _).2 (g.ker hj m) a ha
    unfold rowX at h1 h2 ⊢
    rw [bs_congr (g := fun t => G a t * kvE p G j t + (-1) * (G a t * kvE p H j t)) fun t _ => by grind, bs_add, bs_mul, h1, h2]; grind) fun a ha hm => by
    unfold kvE
    by_cases e : a = j
    ·rw [if_pos e, if_pos e]; grind
    ·rw [if_neg e, if_neg e, if_neg hm, if_neg hm]; grind
   have := hd p[i] (h.lt i hl)
   unfold kvE at this
   rw [if_neg (show ¬ p[i] = j from fun e => m (e ▸ List.getElem_mem hl)), if_pos (List.getElem_mem hl), idx_piv h i hl] at this
   rw [if_neg (show ¬ p[i] = j from fun e => m (e ▸ List.getElem_mem hl)), if_pos (List.getElem_mem hl)] at this
   grind
 ·rw [h.z0 i hl hi j hj, g.z0 i hl hi j hj]
theorem bs_cut {n m : Nat} (h : m ≤ n) (f : Nat → Rat) (h0 : ∀ i, m ≤ i → i < n → f i = 0) : bsV n f = bsV m f := by
  induction n with
  | zero => obtain rfl : m = 0 := by omega
            rfl
  | succ n ih =>
    by_cases e : m = n + 1
    · rw [e]
    · show bsV n f + f n = _
      rw [ih (by omega) fun i h1 h2 => h0 i h1 (by omega), h0 n (by omega) (by omega)]; grind
/-- A matrix is its columns with pivots times its reduced form. -/
theorem Red.fac {R c : Nat} {pv : List Nat} {G F : Gd} (h : Red R c pv F) (s : Span R F G) (i : Nat) (hi : i < R) (j : Nat) (hj : j < c) : G i j = bsV pv.length fun t => G i (pv.getD t 0) * F t j := by
 obtain ⟨y, hy⟩ := s i hi
 have hle := h.le
 have cutj : ∀ j, j < c → G i j = bsV pv.length fun t => y t * F t j := fun j hj => by
  rw [hy j]; exact bs_cut hle _ fun a h1 h2 => by rw [h.z0 a h1 h2 j hj]; grind
 rw [cutj j hj]
 refine bs_congr fun t ht => ?_
 have e : pv.getD t 0 = pv[t] := by rw [List.getD_eq_getElem?_getD, List.getElem?_eq_getElem ht]; rfl
 rw [e, cutj _ (h.lt t ht)]
 rw [bs_congr (g := fun a => (if t = a then 1 else 0) * y a) fun a ha => ?_, bs_one _ t ht fun a => y a]
 by_cases e2 : t = a
 ·subst e2; rw [if_pos rfl, h.one t ht]; grind
 ·rw [if_neg e2, h.zz t ht a (by omega) (fun e => e2 e.symm)]; grind
end Go.Proofs.YthffglapmkkohaaGreatDoor
namespace Go.Proofs.YthffglapmkkohaaGreatDoor
open Go.RowKit
attribute [local irreducible] lo hs sm s64 c64 d64 b64 mh ml pd pc qd qc val hiB str cmpI srD lz nb zl zh zs fe rowV tabV gv bsV mxV colV
/-- A slice of fractions whose capacity bears its length. -/
def CQ (w : World) (v : Value) (l : List Rat) : Prop := SlQ w v l ∧ ∃ ao n c, v = .slice ao n c ∧ n ≤ c
theorem CQ.below {w w' : World} {v : Value} {l : List Rat} (h : CQ w v l) (hb : Below w.heap.size w w') : CQ w' v l := ⟨h.1.below hb, h.2⟩
theorem CQ.form {w : World} {v : Value} {l : List Rat} (h : CQ w v l) : ∃ ao c, v = .slice ao l.length c ∧ l.length ≤ c := by
 obtain ⟨h1, ao, n, c, rfl, h2⟩ := h
 obtain ⟨a2, c2, e⟩ := slq_form' h1
 obtain ⟨rfl, rfl, rfl⟩ : ao = a2 ∧ n = l.length ∧ c = c2 := by simpa using e
 exact ⟨_, _, rfl, h2⟩
theorem NV.cq {B : Nat} {l : List Rat} {v : Value} {w : World} (h : NV B l v w) : CQ w v l := by
 obtain ⟨g, rfl, -, -⟩ := id h
 exact ⟨h.slq, _, _, _, rfl, Nat.le_refl _⟩
/-- A matrix as Go holds it. -/
def MT (w : World) (v : Value) (x : Mx) : Prop := ∃ u, v = .agg #[.int .i64 (x.r : Int), .int .i64 (x.c : Int), u] ∧ CQ w u x.l
theorem MT.below {w w' : World} {v : Value} {x : Mx} (h : MT w v x) (hb : Below w.heap.size w w') : MT w' v x := by
 obtain ⟨u, h1, h2⟩ := h
 exact ⟨u, h1, h2.below hb⟩
theorem MT.keeps (v : Value) (x : Mx) : Keeps (fun w => MT w v x) := fun _ _ hb h => h.below hb
theorem CQ.keeps (v : Value) (l : List Rat) : Keeps (fun w => CQ w v l) := fun _ _ hb h => h.below hb
/-- Fractions in a box, from a place on. -/
def FO (w : World) (g o : Nat) (l : List Rat) : Prop := ∀ i, i < l.length → w.cell? ⟨g, o + i * 5, none⟩ = some (.int .u64 ((zl (gv l i).num : Nat) : Int)) ∧ w.cell? ⟨g, o + i * 5 + 1, none⟩ = some (.string (zh (gv l i).num)) ∧ w.cell? ⟨g, o + i * 5 + 2, none⟩ = some (.bool (zs (gv l i).num)) ∧
 w.cell? ⟨g, o + i * 5 + 3, none⟩ = some (.int .u64 ((lo (fe (gv l i)) : Nat) : Int)) ∧ w.cell? ⟨g, o + i * 5 + 4, none⟩ = some (.string (hs (fe (gv l i))))
theorem FO.below {w w' : World} {g o : Nat} {l : List Rat} (h : FO w g o l) (hb : Below w.heap.size w w') : FO w' g o l := fun i hi => by
 obtain ⟨h0, h1, h2, h3, h4⟩ := h i hi
 exact ⟨keepsC hb h0, keepsC hb h1, keepsC hb h2, keepsC hb h3, keepsC hb h4⟩
/-- A slice of fractions at any place. -/
def RQ (w : World) (v : Value) (l : List Rat) : Prop := ∃ ao c, v = .slice ao l.length c ∧ (0 < l.length → ∃ g o, ao = some ⟨g, o, none⟩ ∧ FO w g o l)
theorem RQ.below {w w' : World} {v : Value} {l : List Rat} (h : RQ w v l) (hb : Below w.heap.size w w') : RQ w' v l := by
 obtain ⟨ao, c, h1, h2⟩ := h
 refine ⟨ao, c, h1, fun h0 => ?_⟩
 obtain ⟨g, o, h3, h4⟩ := h2 h0
 exact ⟨g, o, h3, h4.below hb⟩
theorem RQ.keeps (v : Value) (l : List Rat) : Keeps (fun w => RQ w v l) := fun _ _ hb h => h.below hb
theorem RQ.form {w : World} {v : Value} {l : List Rat} (h : RQ w v l) : ∃ ao c, v = .slice ao l.length c := by
 obtain ⟨ao, c, h1, _⟩ := h
 exact ⟨ao, c, h1⟩
end Go.Proofs.YthffglapmkkohaaGreatDoor
namespace Go.Proofs.YthffglapmkkohaaGreatDoor
open Go.RowKit
attribute [local irreducible] lo hs sm s64 c64 d64 b64 mh ml pd pc qd qc val hiB str cmpI srD lz nb zl zh zs fe rowV tabV gv bsV mxV colV tabM
/-- Of the blocks that were there, only those in S have turned. -/
structure Chs (S : Nat → Prop) (w w' : World) : Prop where
 os : w'.os = w.os
 tape : w'.tape = w.tape
 output : w'.output = w.output
 size : w.heap.size ≤ w'.heap.size
 block : ∀ k, k < w.heap.size → ¬ S k → w'.heap[k]? = w.heap[k]?
theorem Chs.refl (S : Nat → Prop) (w : World) : Chs S w w := ⟨rfl, rfl, rfl, Nat.le_refl _, fun _ _ _ => rfl⟩
theorem Chs.trans {S : Nat → Prop} {a b c : World} (h : Chs S a b) (k : Chs S b c) : Chs S a c :=
 ⟨k.os.trans h.os, k.tape.trans h.tape, k.output.trans h.output, Nat.le_trans h.size k.size, fun i hi hs => (k.block i (Nat.lt_of_lt_of_le hi h.size) hs).trans (h.block i hi hs)⟩
theorem Chs.join {S T : Nat → Prop} {a b c : World} (h : Chs S a b) (k : Chs T b c) (ht : ∀ i, i < a.heap.size → T i → S i) : Chs S a c :=
 ⟨k.os.trans h.os, k.tape.trans h.tape, k.output.trans h.output, Nat.le_trans h.size k.size, fun i hi hs => (k.block i (Nat.lt_of_lt_of_le hi h.size) fun g => hs (ht i hi g)).trans (h.block i hi hs)⟩
theorem Chs.mono {S T : Nat → Prop} {w w' : World} (h : Chs S w w') (hs : ∀ i, i < w.heap.size → S i → T i) : Chs T w w' := ⟨h.os, h.tape, h.output, h.size, fun k hk hn => h.block k hk fun g => hn (hs k hk g)⟩
theorem Chs.of_below {S : Nat → Prop} {w w' : World} (h : Below w.heap.size w w') : Chs S w w' := ⟨h.os, h.tape, h.output, h.size, fun k hk _ => h.block k hk⟩
theorem Chs.of_upd {k : Nat} {w w' : World} (h : Upd k w w') : Chs (· = k) w w' := ⟨h.os, h.tape, h.output, Nat.le_of_eq h.size.symm, fun i _ hn => h.block i hn⟩
theorem Chs.below {S : Nat → Prop} {w w' : World} {B : Nat} (h : Chs S w w') (hB : B ≤ w.heap.size) (hs : ∀ i, i < B → ¬ S i) : Below B w w' := ⟨h.os, h.tape, h.output, h.size, fun k hk => h.block k (Nat.lt_of_lt_of_le hk hB) (hs k hk)⟩
theorem cell_blk {w w' : World} {k i : Nat} (e : w'.heap[k]? = w.heap[k]?) : w'.cell? ⟨k, i, none⟩ = w.cell? ⟨k, i, none⟩ := World.cell?_of_block (a := ⟨k, i, none⟩) e
theorem Hd.chs {S : Nat → Prop} {w w' : World} {k : Nat} {c : List Value} (h : Hd w k c) (hc : Chs S w w') (hs : ¬ S k) : Hd w' k c := by
 have e := hc.block k h.lt hs
 refine ⟨fun i hi => (cell_blk e).trans (h.cell i hi), fun j => ?_, Nat.lt_of_lt_of_le h.lt hc.size, by rw [e]; exact h.row⟩
 obtain ⟨arr, t, h1, -⟩ := h.row
 exact frozen_of_row _ _ j _ _ (e.trans h1)
/-- A fraction stored. -/
def put5 (W : World) (k o : Nat) (q : Rat) : World := (((((W.setCell ⟨k, o, none⟩ (.int .u64 ((zl q.num : Nat) : Int))).setCell ⟨k, o + 1, none⟩ (.string (zh q.num))).setCell ⟨k, o + 2, none⟩ (.bool (zs q.num))).setCell ⟨k, o + 3, none⟩ (.int .u64 ((lo (fe q) : Nat) : Int))).setCell ⟨k, o + 4, none⟩ (.string (hs (fe q))))
theorem put5_upd (W : World) (k o : Nat) (q : Rat) : Upd k W (put5 W k o q) := (((((Upd.refl k W).setCell _ _).setCell _ _).setCell _ _).setCell _ _).setCell _ _
end Go.Proofs.YthffglapmkkohaaGreatDoor
namespace Go.Proofs.YthffglapmkkohaaGreatDoor
open Go.RowKit
attribute [local irreducible] lo hs sm s64 c64 d64 b64 mh ml pd pc qd qc val hiB str cmpI srD lz nb zl zh zs fe rowV tabV gv bsV mxV colV tabM
/-- The cells of a fraction at a place. -/
def FC (w : World) (g o : Nat) (q : Rat) : Prop := w.cell? ⟨g, o, none⟩ = some (.int .u64 ((zl q.num : Nat) : Int)) ∧ w.cell? ⟨g, o + 1, none⟩ = some (.string (zh q.num)) ∧ w.cell? ⟨g, o + 2, none⟩ = some (.bool (zs q.num)) ∧ w.cell? ⟨g, o + 3, none⟩ = some (.int .u64 ((lo (fe q) : Nat) : Int)) ∧ w.cell? ⟨g, o + 4, none⟩ = some (.string (hs (fe q)))
theorem FC.below {w w' : World} {g o : Nat} {q : Rat} (h : FC w g o q) (hb : Below w.heap.size w w') : FC w' g o q := ⟨keepsC hb h.1, keepsC hb h.2.1, keepsC hb h.2.2.1, keepsC hb h.2.2.2.1, keepsC hb h.2.2.2.2⟩
theorem FC.row {w : World} {g : Nat} {l : List Rat} (h : Hd w g (frCs l)) (i : Nat) (hi : i < l.length) : FC w g (i * 5) (gv l i) := fsc (hd_fs h) i hi
theorem FC.box {w : World} {g : Nat} {q : Rat} (h : Hd w g (frC q)) : FC w g 0 q := ⟨h.cell 0 (by rw [frC_length]; omega), h.cell 1 (by rw [frC_length]; omega), h.cell 2 (by rw [frC_length]; omega), h.cell 3 (by rw [frC_length]; omega), h.cell 4 (by rw [frC_length]; omega)⟩
theorem FC.chs {S : Nat → Prop} {w w' : World} {g o : Nat} {q : Rat} (h : FC w g o q) (hc : Chs S w w') (hg : g < w.heap.size) (hs : ¬ S g) : FC w' g o q := by
 have e := hc.block g hg hs
 exact ⟨(cell_blk e).trans h.1, (cell_blk e).trans h.2.1, (cell_blk e).trans h.2.2.1, (cell_blk e).trans h.2.2.2.1, (cell_blk e).trans h.2.2.2.2⟩
end Go.Proofs.YthffglapmkkohaaGreatDoor
namespace Go.Proofs.YthffglapmkkohaaGreatDoor
open Go.RowKit
attribute [local irreducible] lo hs sm s64 c64 d64 b64 mh ml pd pc qd qc val hiB str cmpI srD lz nb zl zh zs fe rowV tabV gv bsV mxV colV tabM
def rwE (n : Nat) (bk : Nat → Nat) (R : Nat) : List Value := (List.range R).map fun i => .slice (some ⟨bk i, 0, none⟩) n n
def pvE (pv : List Nat) : List Value := pv.map fun (k : Nat) => .int .i64 (k : Int)
theorem rw_at {n R i : Nat} {bk : Nat → Nat} (h : i < R) : (rwE n bk R)[i]? = some (.slice (some ⟨bk i, 0, none⟩) n n) := by
 unfold rwE
 rw [List.getElem?_map, List.getElem?_range h]; rfl
theorem rw_len (n R : Nat) (bk : Nat → Nat) : (rwE n bk R).length = R := by unfold rwE; rw [List.length_map, List.length_range]
theorem pv_at {pv : List Nat} {i : Nat} (h : i < pv.length) : (pvE pv)[i]? = some (.int .i64 ((pv[i] : Nat) : Int)) := by
 unfold pvE
 rw [List.getElem?_map, List.getElem?_eq_getElem h]; rfl
/-- The grid g: rows, pivots, factor. -/
structure GR (B : Nat) (W : World) (g : Nat) (ru pu : Value) (R n : Nat) (bk : Nat → Nat) (G : Gd) (pv : List Nat) (f : Rat) : Prop where
 hg : Hd W g (ru :: pu :: frC f)
 hr : W.ownsRow B 28 1 ru R (rwE n bk R)
 hp : W.ownsRow B 3 1 pu pv.length (pvE pv)
 hB : ∀ i, i < R → B ≤ bk i ∧ Hd W (bk i) (frCs (tabV n (G i)))
 inj : ∀ i j, i < R → j < R → bk i = bk j → i = j
 gB : B ≤ g
 bs : B ≤ W.heap.size
 ng : ∀ i, i < R → bk i ≠ g
 nr : ∀ i, i < R → ru.ownBlock ≠ some (bk i)
 np : ∀ i, i < R → pu.ownBlock ≠ some (bk i)
 rg : ru.ownBlock ≠ some g
 pg : pu.ownBlock ≠ some g
 rp : ∀ z, ru.ownBlock = some z → pu.ownBlock ≠ some z
theorem own_chs {S : Nat → Prop} {w w' : World} {base sz n : Nat} {et : TypeId} {v : Value} {xs : List Value} (h : w.ownsRow base et sz v n xs) (hc : Chs S w w') (hs : ∀ z, v.ownBlock = some z → ¬ S z) : w'.ownsRow base et sz v n xs := by
 have hlt := h.lt
 refine ⟨h.1, ?_⟩
 rcases h.2 with h0 | ⟨g, cap, cur, rfl, hb, hcc, hr⟩
 ·exact .inl h0
 ·refine .inr ⟨g, cap, cur, rfl, hb, ?_, hr⟩
  rw [hc.block g (hlt g rfl).2 (hs g rfl)]; exact hcc
section
variable {B : Nat} {W W' : World} {g R n : Nat} {ru pu : Value} {bk : Nat → Nat} {G : Gd} {pv : List Nat} {f : Rat}
theorem GR.below (h : GR B W g ru pu R n bk G pv f) (hb : Below W.heap.size W W') : GR B W' g ru pu R n bk G pv f :=
 ⟨h.hg.below hb, own_below9 h.hr hb, own_below9 h.hp hb, fun i hi => ⟨(h.hB i hi).1, (h.hB i hi).2.below hb⟩, h.inj, h.gB, Nat.le_trans h.bs hb.size, h.ng, h.nr, h.np, h.rg, h.pg, h.rp⟩
/-- A row has been written. -/
theorem GR.row (h : GR B W g ru pu R n bk G pv f) (i : Nat) (hi : i < R) (A : Nat → Rat) (hc : Chs (· = bk i) W W') (hd : Hd W' (bk i) (frCs (tabV n A))) : GR B W' g ru pu R n bk (fun a => if a = i then A else G a) pv f :=
 ⟨h.hg.chs hc fun e => h.ng i hi e.symm, own_chs h.hr hc fun z hz e => h.nr i hi (e ▸ hz), own_chs h.hp hc fun z hz e => h.np i hi (e ▸ hz), fun a ha => ⟨(h.hB a ha).1, by
  by_cases e : a = i
  ·subst e; rw [if_pos rfl]; exact hd
  ·rw [if_neg e]; exact (h.hB a ha).2.chs hc fun e2 => e (h.inj a i ha hi e2)⟩, h.inj, h.gB, Nat.le_trans h.bs hc.size, h.ng, h.nr, h.np, h.rg, h.pg, h.rp⟩
/-- The factor has been written. -/
theorem GR.fac (h : GR B W g ru pu R n bk G pv f) (q : Rat) (hu : Upd g W W') (hd : Hd W' g (ru :: pu :: frC q)) : GR B W' g ru pu R n bk G pv q :=
 have hc := Chs.of_upd hu
 ⟨hd, own_chs h.hr hc fun z hz e => h.rg (e ▸ hz), own_chs h.hp hc fun z hz e => h.pg (e ▸ hz), fun a ha => ⟨(h.hB a ha).1, (h.hB a ha).2.chs hc (h.ng a ha)⟩, h.inj, h.gB, Nat.le_trans h.bs hc.size, h.ng, h.nr, h.np, h.rg, h.pg, h.rp⟩
theorem GR.congr {H : Gd} (h : GR B W g ru pu R n bk G pv f) (e : ∀ i, i < R → ∀ j, j < n → G i j = H i j) : GR B W g ru pu R n bk H pv f :=
 ⟨h.hg, h.hr, h.hp, fun i hi => ⟨(h.hB i hi).1, by rw [← tab_ext (e i hi)]; exact (h.hB i hi).2⟩, h.inj, h.gB, h.bs, h.ng, h.nr, h.np, h.rg, h.pg, h.rp⟩
/-- The cells of the grid itself. -/
theorem GR.cells (h : GR B W g ru pu R n bk G pv f) : W.cell? ⟨g, 0, none⟩ = some ru ∧ W.cell? ⟨g, 1, none⟩ = some pu ∧ FC W g 2 f := by
 have hl : (ru :: pu :: frC f).length = 7 := by simp [frC_length]
 exact ⟨h.hg.cell 0 (by omega), h.hg.cell 1 (by omega), h.hg.cell 2 (by omega), h.hg.cell 3 (by omega), h.hg.cell 4 (by omega), h.hg.cell 5 (by omega), h.hg.cell 6 (by omega)⟩
theorem fac_hd {q : Rat} (h : Hd W g (ru :: pu :: frC f)) : Hd (put5 W g 2 q) g (ru :: pu :: frC q) := setAll_hdn (frC q) 2 W (ru :: pu :: frC f) (by simp [frC_length]) h
theorem GR.putF (h : GR B W g ru pu R n bk G pv f) (q : Rat) : GR B (put5 W g 2 q) g ru pu R n bk G pv q := h.fac q (put5_upd W g 2 q) (fac_hd h.hg)
/-- Two rows have been exchanged. -/
def swpB (bk : Nat → Nat) (a b : Nat) : Nat → Nat := fun i => if i = a then bk b else if i = b then bk a else bk i
theorem rw_set {i j : Nat} (hi : i < R) (hj : j < R) : ((rwE n bk R).set i (.slice (some ⟨bk j, 0, none⟩) n n)).set j (.slice (some ⟨bk i, 0, none⟩) n n) = rwE n (swpB bk i j) R := by
 refine List.ext_getElem? fun a => ?_
 rw [List.getElem?_set, List.length_set, rw_len, List.getElem?_set, rw_len]
 rcases Nat.lt_or_ge a R with h | h
 ·rw [rw_at h, rw_at h]
  unfold swpB
  by_cases e1 : j = a
  ·subst e1
   rw [if_pos rfl, if_pos hj]
   by_cases e2 : j = i
   ·subst e2; rw [if_pos rfl]
   ·rw [if_neg e2, if_pos rfl]
  ·rw [if_neg e1]
   by_cases e2 : i = a
   ·subst e2; rw [if_pos rfl, if_pos hi, if_pos rfl]
   ·rw [if_neg e2, if_neg (show ¬ a = i from fun e => e2 e.symm), if_neg (show ¬ a = j from fun e => e1 e.symm)]
 ·rw [if_neg (by omega), if_neg (by omega), List.getElem?_eq_none (by rw [rw_len]; exact h), List.getElem?_eq_none (by rw [rw_len]; exact h)]
theorem swpB_mem {i j a : Nat} (hi : i < R) (hj : j < R) (ha : a < R) : ∃ b, b < R ∧ swpB bk i j a = bk b ∧ swpG G i j a = G b ∧ (a = i ∧ b = j ∨ a = j ∧ b = i ∨ a ≠ i ∧ a ≠ j ∧ b = a) := by
 unfold swpB swpG
 by_cases e1 : a = i
 ·exact ⟨j, hj, by rw [if_pos e1], by rw [if_pos e1], .inl ⟨e1, rfl⟩⟩
 ·by_cases e2 : a = j
  ·exact ⟨i, hi, by rw [if_neg e1, if_pos e2], by rw [if_neg e1, if_pos e2], .inr (.inl ⟨e2, rfl⟩)⟩
  ·exact ⟨a, ha, by rw [if_neg e1, if_neg e2], by rw [if_neg e1, if_neg e2], .inr (.inr ⟨e1, e2, rfl⟩)⟩
theorem GR.swap {z c : Nat} (h : GR B W g (.slice (some ⟨z, 0, none⟩) R c) pu R n bk G pv f) {i j : Nat} (hi : i < R) (hj : j < R) :
  GR B ((W.setCell ⟨z, i, none⟩ (.slice (some ⟨bk j, 0, none⟩) n n)).setCell ⟨z, j, none⟩ (.slice (some ⟨bk i, 0, none⟩) n n)) g (.slice (some ⟨z, 0, none⟩) R c) pu R n (swpB bk i j) (swpG G i j) pv f ∧ Upd z W ((W.setCell ⟨z, i, none⟩ (.slice (some ⟨bk j, 0, none⟩) n n)).setCell ⟨z, j, none⟩ (.slice (some ⟨bk i, 0, none⟩) n n)) := by
 have hu : Upd z W ((W.setCell ⟨z, i, none⟩ (.slice (some ⟨bk j, 0, none⟩) n n)).setCell ⟨z, j, none⟩ (.slice (some ⟨bk i, 0, none⟩) n n)) := ((Upd.refl z W).setCell _ _).setCell _ _
 have hc := Chs.of_upd hu
 have h1 := (h.hr.stored i (.slice (some ⟨bk j, 0, none⟩) n n)).1
 have h2 := (World.ownsRow.stored h1 j (.slice (some ⟨bk i, 0, none⟩) n n)).1
 rw [rw_set hi hj] at h2
 have hz : ∀ a, a < R → bk a ≠ z := fun a ha e => h.nr a ha (by rw [e]; rfl)
 refine ⟨⟨h.hg.chs hc fun e => h.rg (by rw [e]; rfl), h2, own_chs h.hp hc fun y hy e => h.rp z rfl (e ▸ hy), fun a ha => ?_, fun a b ha hb e => ?_, h.gB, by rw [hu.size]; exact h.bs, fun a ha => ?_, fun a ha => ?_, fun a ha => ?_, h.rg, h.pg, h.rp⟩, hu⟩
 ·obtain ⟨b, hb, e1, e2, -⟩ := swpB_mem (bk := bk) (G := G) hi hj ha
  rw [e1, e2]
  exact ⟨(h.hB b hb).1, (h.hB b hb).2.chs hc (hz b hb)⟩
 ·obtain ⟨a1, ha1, e1, -, c1⟩ := swpB_mem (bk := bk) (G := G) hi hj ha
  obtain ⟨b1, hb1, e2, -, c2⟩ := swpB_mem (bk := bk) (G := G) hi hj hb
  rw [e1, e2] at e
  have := h.inj a1 b1 ha1 hb1 e
  omega
 ·obtain ⟨b, hb, e1, -⟩ := swpB_mem (bk := bk) (G := G) hi hj ha
  rw [e1]; exact h.ng b hb
 ·obtain ⟨b, hb, e1, -⟩ := swpB_mem (bk := bk) (G := G) hi hj ha
  rw [e1]; exact h.nr b hb
 ·obtain ⟨b, hb, e1, -⟩ := swpB_mem (bk := bk) (G := G) hi hj ha
  rw [e1]; exact h.np b hb
end
end Go.Proofs.YthffglapmkkohaaGreatDoor
namespace Go.Proofs.YthffglapmkkohaaGreatDoor
open Go.RowKit
attribute [local irreducible] lo hs sm s64 c64 d64 b64 mh ml pd pc qd qc val hiB str cmpI srD lz nb zl zh zs fe rowV tabV gv bsV mxV colV tabM
theorem infoRw : (Tryz.prog.info? 3).map (fun i => (i.zero, i.size, i.bytes)) = some (some (.int .i64 0), 1, 8) := by kernel_rfl
theorem undRw : Tryz.prog.underlying 24 = some (.slice 3) := by kernel_rfl
section
variable {B : Nat} {W W' : World} {g R n : Nat} {ru pu : Value} {bk : Nat → Nat} {G : Gd} {pv : List Nat} {f : Rat}
end
end Go.Proofs.YthffglapmkkohaaGreatDoor
namespace Go.Proofs.YthffglapmkkohaaGreatDoor
open Go.RowKit
attribute [local irreducible] lo hs sm s64 c64 d64 b64 mh ml pd pc qd qc val hiB str cmpI srD lz nb zl zh zs fe rowV tabV gv bsV mxV colV tabM
/-- A matrix in a box. -/
def BM (w : World) (b : Nat) (u : Value) (x : Mx) : Prop := w.cell? ⟨b, 0, none⟩ = some (.int .i64 (x.r : Int)) ∧ w.cell? ⟨b, 1, none⟩ = some (.int .i64 (x.c : Int)) ∧ w.cell? ⟨b, 2, none⟩ = some u ∧ CQ w u x.l
theorem BM.keeps (b : Nat) (u : Value) (x : Mx) : Keeps fun w => BM w b u x := fun _ _ hb h => ⟨keepsC hb h.1, keepsC hb h.2.1, keepsC hb h.2.2.1, h.2.2.2.below hb⟩
theorem BM.of {w : World} {b : Nat} {u : Value} {x : Mx} (h : Hd w b [.int .i64 (x.r : Int), .int .i64 (x.c : Int), u]) (hu : CQ w u x.l) : BM w b u x := ⟨h.cell 0 (by simp), h.cell 1 (by simp), h.cell 2 (by simp), hu⟩
structure OKM (x : Mx) : Prop where
 r : x.r ≤ 2048
 c : x.c ≤ 2048
 len : x.l.length = x.r * x.c
theorem OKM.le {x : Mx} (h : OKM x) : x.r * x.c ≤ 5000000 := by
 have := Nat.mul_le_mul h.r h.c
 omega
theorem GM.ok {x : Mx} {n k K : Nat} (h : GM x n k K) (hn : n ≤ 2048) (hk : k ≤ 2048) : OKM x := ⟨by rw [h.r]; exact hn, by rw [h.c]; exact hk, by rw [h.len, h.r, h.c]⟩
end Go.Proofs.YthffglapmkkohaaGreatDoor
namespace Go.Proofs.YthffglapmkkohaaGreatDoor
open Go.RowKit
attribute [local irreducible] lo hs sm s64 c64 d64 b64 mh ml pd pc qd qc val hiB str cmpI srD lz nb zl zh zs fe rowV tabV gv bsV mxV colV tabM
/-- S laid over L from a place on. -/
def laid : List Rat → Nat → List Rat → List Rat
 | L, _, [] => L
 | L, o, q :: S => laid (L.set o q) (o + 1) S
end Go.Proofs.YthffglapmkkohaaGreatDoor
namespace Go.Proofs.YthffglapmkkohaaGreatDoor
open Go.RowKit
attribute [local irreducible] lo hs sm s64 c64 d64 b64 mh ml pd pc qd qc val hiB str cmpI srD lz nb zl zh zs fe rowV tabV gv bsV mxV colV tabM
theorem own_mono9 {w : World} {B C sz n : Nat} {e : TypeId} {v : Value} {xs : List Value} (h : w.ownsRow B e sz v n xs) (hC : C ≤ B) : w.ownsRow C e sz v n xs :=
 ⟨h.1, h.2.imp id fun ⟨g, cap, cur, h1, h2, h3⟩ => ⟨g, cap, cur, h1, Nat.le_trans hC h2, h3⟩⟩
section
variable {B : Nat} {W W' : World} {g R n : Nat} {ru pu : Value} {bk : Nat → Nat} {G : Gd} {pv : List Nat} {f : Rat}
theorem GR.mono {C : Nat} (h : GR B W g ru pu R n bk G pv f) (hC : C ≤ B) : GR C W g ru pu R n bk G pv f :=
 ⟨h.hg, own_mono9 h.hr hC, own_mono9 h.hp hC, fun i hi => ⟨Nat.le_trans hC (h.hB i hi).1, (h.hB i hi).2⟩, h.inj, Nat.le_trans hC h.gB, Nat.le_trans hC h.bs, h.ng, h.nr, h.np, h.rg, h.pg, h.rp⟩
/-- A block that the grid does not hold. -/
structure NotIn (d g R : Nat) (ru pu : Value) (bk : Nat → Nat) : Prop where
 g : d ≠ g
 r : ru.ownBlock ≠ some d
 p : pu.ownBlock ≠ some d
 b : ∀ i, i < R → bk i ≠ d
theorem GR.fresh (h : GR B W g ru pu R n bk G pv f) {d : Nat} (hd : W.heap.size ≤ d) : NotIn d g R ru pu bk :=
 ⟨fun e => by have := h.hg.lt; omega, fun e => by have := (h.hr.lt d e).2; omega, fun e => by have := (h.hp.lt d e).2; omega, fun i hi e => by have := (h.hB i hi).2.lt; omega⟩
theorem GR.chs {S : Nat → Prop} (h : GR B W g ru pu R n bk G pv f) (hc : Chs S W W') (hs : ∀ d, S d → NotIn d g R ru pu bk) : GR B W' g ru pu R n bk G pv f :=
 ⟨h.hg.chs hc fun e => (hs _ e).g rfl, own_chs h.hr hc fun z hz e => (hs _ e).r hz, own_chs h.hp hc fun z hz e => (hs _ e).p hz, fun i hi => ⟨(h.hB i hi).1, (h.hB i hi).2.chs hc fun e => (hs _ e).b i hi rfl⟩, h.inj, h.gB, Nat.le_trans h.bs hc.size, h.ng, h.nr, h.np, h.rg, h.pg, h.rp⟩
end
end Go.Proofs.YthffglapmkkohaaGreatDoor
namespace Go.Proofs.YthffglapmkkohaaGreatDoor
open Go.RowKit
attribute [local irreducible] lo hs sm s64 c64 d64 b64 mh ml pd pc qd qc val hiB str cmpI srD lz nb zl zh zs fe rowV tabV gv bsV mxV colV tabM
/-- The columns without pivots. -/
def freeL (pv : List Nat) (c : Nat) : List Nat := (List.range c).filter fun k => decide (k ∉ pv)
/-- A row of vectors that the call makes. -/
structure KB (B : Nat) (W : World) (v : Value) (m n : Nat) (dk : Nat → Nat) (V : Nat → Nat → Rat) : Prop where
 hr : W.ownsRow B 28 1 v m (rwE n dk m)
 hB : ∀ a, a < m → B ≤ dk a ∧ Hd W (dk a) (frCs (tabV n (V a)))
 nr : ∀ a, a < m → v.ownBlock ≠ some (dk a)
 bs : B ≤ W.heap.size
section
variable {B : Nat} {W W' : World} {v : Value} {m n : Nat} {dk : Nat → Nat} {V : Nat → Nat → Rat}
theorem KB.chs {S : Nat → Prop} (h : KB B W v m n dk V) (hc : Chs S W W') (h1 : ∀ z, v.ownBlock = some z → ¬ S z) (h2 : ∀ a, a < m → ¬ S (dk a)) : KB B W' v m n dk V :=
 ⟨own_chs h.hr hc h1, fun a ha => ⟨(h.hB a ha).1, (h.hB a ha).2.chs hc (h2 a ha)⟩, h.nr, Nat.le_trans h.bs hc.size⟩
theorem KB.below (h : KB B W v m n dk V) (hb : Below W.heap.size W W') : KB B W' v m n dk V := h.chs (S := fun _ => False) (Chs.of_below hb) (fun _ _ h => h) fun _ _ h => h
/-- A store into a block that the row does not hold. -/
theorem KB.upd {d : Nat} (h : KB B W v m n dk V) (hu : Upd d W W') (h1 : v.ownBlock ≠ some d) (h2 : ∀ a, a < m → dk a ≠ d) : KB B W' v m n dk V :=
 h.chs (Chs.of_upd hu) (fun z hz e => h1 (e ▸ hz)) h2
theorem KB.lt (h : KB B W v m n dk V) {d : Nat} (hd : W.heap.size ≤ d) : v.ownBlock ≠ some d ∧ ∀ a, a < m → dk a ≠ d :=
 ⟨fun e => by have := (h.hr.lt d e).2; omega, fun a ha e => by have := (h.hB a ha).2.lt; omega⟩
theorem KB.vls (h : KB B W v m n dk V) : VLs W v ((List.range m).map fun a => tabV n (V a)) := by
 have hl : ((List.range m).map fun a => tabV n (V a)).length = m := by rw [List.length_map, List.length_range]
 have h1 := h.hr
 have hlt := h1.lt
 rcases id h1.2 with ⟨rfl, e⟩ | ⟨z, c, cur, rfl, hb, -⟩
 ·subst e
  exact ⟨none, 0, 0, rfl, fun h => by rw [hl] at h; omega, fun i hi => by rw [hl] at hi; omega⟩
 ·refine ⟨some ⟨z, 0, none⟩, c, z, by rw [hl], fun _ => ⟨rfl, (hlt z rfl).2⟩, fun i hi => ?_⟩
  rw [hl] at hi
  refine ⟨_, (h1.cellAt i (by omega)).trans (rw_at hi), ?_⟩
  rw [List.getElem_map, List.getElem_range]
  exact .inr ⟨dk i, n, by rw [tabV_len], hd_fs (h.hB i hi).2⟩
end
end Go.Proofs.YthffglapmkkohaaGreatDoor
namespace Go.Proofs.YthffglapmkkohaaGreatDoor
open Go.RowKit
attribute [local irreducible] lo hs sm s64 c64 d64 b64 mh ml pd pc qd qc val hiB str cmpI srD lz nb zl zh zs fe rowV tabV gv bsV mxV colV tabM
/-- The vectors that a call has made. -/
def KV (B : Nat) (W : World) (v : Value) (n : Nat) (L : List (List Rat)) : Prop := ∃ m dk V, KB B W v m n dk V ∧ ((List.range m).map fun a => tabV n (V a)) = L
theorem KV.vls {B n : Nat} {W : World} {v : Value} {L : List (List Rat)} (h : KV B W v n L) : VLs W v L := by
 obtain ⟨m, dk, V, h1, rfl⟩ := h
 exact h1.vls
theorem KV.form {B n : Nat} {W : World} {v : Value} {L : List (List Rat)} (h : KV B W v n L) : ∃ a m c, v = .slice a m c := by
 obtain ⟨m, dk, V, h1, rfl⟩ := h
 obtain ⟨a, c, rfl⟩ := own_form12 h1.hr
 exact ⟨a, m, c, rfl⟩
theorem KV.upd {B n d : Nat} {W W' : World} {v : Value} {L : List (List Rat)} (h : KV B W v n L) (hu : Upd d W W') (hd : d < B) : KV B W' v n L := by
 obtain ⟨m, dk, V, h1, h2⟩ := h
 exact ⟨m, dk, V, h1.upd hu (fun e => by have := (h1.hr.lt d e).1; omega) fun a ha e => by have := (h1.hB a ha).1; omega, h2⟩
/-- The state of the kernel's loop. -/
structure KS (w0 W : World) (B g R n c l k i L m : Nat) (ru pu : Value) (bk : Nat → Nat) (A : Gd) (pv : List Nat) (f : Rat) (pa pa1 : Option Addr) (pc1 : Nat) (va : Value) (dk : Nat → Nat) (V : Nat → Nat → Rat) : Prop where
 iL : i + L = l
 lt : ∀ r (h : r < pv.length), r < i ↔ pv[r] < k
 ah : 0 < L → ∃ pz, pa = some ⟨pz, 0, none⟩ ∧ pa1 = some ⟨pz, i, none⟩
 cap : L ≤ pc1
 fm : m = (freeL pv k).length
 kb : KB w0.heap.size W va m c dk V
 gr : GR B W g ru pu R n bk A pv f
 nb : ∀ z, va.ownBlock = some z → NotIn z g R ru pu bk
 bl : Below w0.heap.size w0 W
theorem KS.below {w0 W W' : World} {B g R n c l k i L m : Nat} {ru pu : Value} {bk : Nat → Nat} {A : Gd} {pv : List Nat} {f : Rat} {pa pa1 : Option Addr} {pc1 : Nat} {va : Value} {dk : Nat → Nat} {V : Nat → Nat → Rat}
  (h : KS w0 W B g R n c l k i L m ru pu bk A pv f pa pa1 pc1 va dk V) (hb : Below W.heap.size W W') : KS w0 W' B g R n c l k i L m ru pu bk A pv f pa pa1 pc1 va dk V :=
 ⟨h.iL, h.lt, h.ah, h.cap, h.fm, h.kb.below hb, h.gr.below hb, h.nb, h.bl.trans (hb.mono h.bl.size)⟩
theorem KS.upd {w0 W W' : World} {B g R n c l k i L m d : Nat} {ru pu : Value} {bk : Nat → Nat} {A : Gd} {pv : List Nat} {f : Rat} {pa pa1 : Option Addr} {pc1 : Nat} {va : Value} {dk : Nat → Nat} {V : Nat → Nat → Rat}
  (h : KS w0 W B g R n c l k i L m ru pu bk A pv f pa pa1 pc1 va dk V) (hu : Upd d W W') (h1 : va.ownBlock ≠ some d) (h2 : ∀ a, a < m → dk a ≠ d) (h3 : NotIn d g R ru pu bk) (h4 : w0.heap.size ≤ d) : KS w0 W' B g R n c l k i L m ru pu bk A pv f pa pa1 pc1 va dk V :=
 ⟨h.iL, h.lt, h.ah, h.cap, h.fm, h.kb.upd hu h1 h2, h.gr.chs (Chs.of_upd hu) fun x e => by rw [e]; exact h3, h.nb, h.bl.trans (hu.below h4)⟩
theorem KS.out {w0 W : World} {B g R n c l k i L m : Nat} {ru pu : Value} {bk : Nat → Nat} {A : Gd} {pv : List Nat} {f : Rat} {pa pa1 : Option Addr} {pc1 : Nat} {va : Value} {dk : Nat → Nat} {V : Nat → Nat → Rat}
  (h : KS w0 W B g R n c l k i L m ru pu bk A pv f pa pa1 pc1 va dk V) (up : ∀ r (h : r + 1 < pv.length), pv[r] < pv[r + 1]) (hl : l = pv.length) (hn : ∀ (hi : i < pv.length), pv[i] ≠ k) : k ∉ pv := fun hm => by
 obtain ⟨r, hr, e⟩ := List.getElem_of_mem hm
 have h1 := h.lt r hr
 have h0 : ¬ r < i := fun g => by have := h1.1 g; omega
 have hir : i < pv.length := by omega
 have h2 := (h.lt i hir)
 by_cases e2 : r = i
 ·subst e2; exact hn hir e
 ·have := up_lt' up (show i < r by omega) hr
  have h3 : pv[i] < k := by omega
  have := h2.2 h3
  omega
end Go.Proofs.YthffglapmkkohaaGreatDoor
namespace Go.Proofs.YthffglapmkkohaaGreatDoor
open Go.RowKit
attribute [local irreducible] lo hs sm s64 c64 d64 b64 mh ml pd pc qd qc val hiB str cmpI srD lz nb zl zh zs fe rowV tabV gv bsV mxV colV tabM
theorem Chs.bl {B : Nat} {w w' : World} (h : Chs (fun k => B ≤ k) w w') (hB : B ≤ w.heap.size) : Below B w w' := h.below hB fun k hk e => by omega
theorem ils_own {W : World} {B : Nat} {pa : Option Addr} {c : Nat} {pv : List Nat} (h : W.ownsRow B 3 1 (.slice pa pv.length c) pv.length (pvE pv)) (c2 : Nat) : ILs W (.slice pa pv.length c2) (pv.map Int.ofNat) := by
 have hlt := h.lt
 have hl : (pv.map Int.ofNat).length = pv.length := List.length_map _
 rcases id h.2 with ⟨e1, e2⟩ | ⟨z, cap, cur, e1, hb, -⟩
 ·have e3 : pv = [] := List.eq_nil_of_length_eq_zero e2
  subst e3
  exact ⟨pa, c2, 0, rfl, fun h => absurd h (Nat.lt_irrefl 0), fun i hi => absurd hi (Nat.not_lt_zero i)⟩
 ·obtain ⟨rfl, rfl⟩ : pa = some ⟨z, 0, none⟩ ∧ c = cap := by simpa using e1
  refine ⟨_, c2, z, by rw [hl], fun _ => ⟨rfl, (hlt z rfl).2⟩, fun i hi => ?_⟩
  rw [hl] at hi
  rw [List.getElem_map]
  exact (h.cellAt i (by omega)).trans (pv_at hi)
end Go.Proofs.YthffglapmkkohaaGreatDoor
namespace Go.Proofs.YthffglapmkkohaaGreatDoor
open Go.RowKit
attribute [local irreducible] lo hs sm s64 c64 d64 b64 mh ml pd pc qd qc val hiB str cmpI srD lz nb zl zh zs fe rowV tabV gv bsV mxV colV tabM
/-- The numbers reduced to indices below n. -/
def plsL (zs : List Int) (n : Nat) : List Nat := if n = 0 then [] else zs.map fun z => (z % (n : Int)).toNat
theorem pls_lt {zs : List Int} {n : Nat} : ∀ p ∈ plsL zs n, p < n := fun p hp => by
 unfold plsL at hp
 split at hp
 ·cases hp
 ·obtain ⟨z, -, rfl⟩ := List.mem_map.1 hp
  have h1 := Int.emod_nonneg z (show (n : Int) ≠ 0 by omega)
  have h2 := Int.emod_lt_of_pos z (show 0 < (n : Int) by omega)
  omega
theorem pls_len (zs : List Int) (n : Nat) : (plsL zs n).length ≤ zs.length := by
 unfold plsL
 split
 ·exact Nat.zero_le _
 ·rw [List.length_map]; exact Nat.le_refl _
theorem pls_tm (z : Int) (n : Nat) (h : 0 < n) : ∃ p : Nat, p = (z % (n : Int)).toNat ∧ p < n ∧ (Int.tmod z n < 0 → Int.tmod z n + (n : Int) = (p : Int)) ∧ (¬ Int.tmod z n < 0 → Int.tmod z n = (p : Int)) ∧ -(n : Int) < Int.tmod z n ∧ Int.tmod z n < (n : Int) := by
 have hn : (0 : Int) < n := by omega
 have e1 := Int.emod_nonneg z (show (n : Int) ≠ 0 by omega)
 have e2 := Int.emod_lt_of_pos z hn
 have t1 : Int.tmod z n < (n : Int) := Int.tmod_lt_of_pos z hn
 have t2 : -(n : Int) < Int.tmod z n := by
  have := Int.tmod_lt_of_pos (-z) hn
  rw [Int.neg_tmod] at this
  omega
 have e3 : Int.tmod z n % (n : Int) = z % (n : Int) := by
  rw [Int.tmod_def, Int.sub_eq_add_neg, ← Int.mul_neg, Int.add_mul_emod_self_left]
 refine ⟨_, rfl, by omega, fun hneg => ?_, fun hpos => ?_, t2, t1⟩
 ·have e4 : (Int.tmod z n + (n : Int)) % (n : Int) = z % (n : Int) := by rw [Int.add_emod_right]; exact e3
  rw [Int.emod_eq_of_lt (by omega) (by omega)] at e4
  omega
 ·rw [Int.emod_eq_of_lt (by omega) t1] at e3
  omega
theorem own_ils {W : World} {B t c : Nat} {pa : Option Addr} {pv : List Nat} (h : W.ownsRow B 3 1 (.slice pa t c) t (pvE pv)) (ht : t = pv.length) : ILs W (.slice pa t c) (pv.map Int.ofNat) := by
 subst ht
 exact ils_own h c
theorem pv_snoc (pv : List Nat) (p : Nat) : pvE pv ++ [.int .i64 (p : Int)] = pvE (pv ++ [p]) := by unfold pvE; rw [List.map_append]; rfl
end Go.Proofs.YthffglapmkkohaaGreatDoor
namespace Go.Proofs.YthffglapmkkohaaGreatDoor
open Go.RowKit
attribute [local irreducible] lo hs sm s64 c64 d64 b64 mh ml pd pc qd qc val hiB str cmpI srD lz nb zl zh zs fe rowV tabV gv bsV mxV colV
theorem slq_fs12 {w : World} {g n c : Nat} {l : List Rat} (h : SlQ w (.slice (some ⟨g, 0, none⟩) n c) l) (h0 : 0 < l.length) : FS w g l := by
 obtain ⟨g2, e, _, f⟩ := slq_pos h h0
 obtain rfl : g = g2 := by simpa using e
 exact f
theorem gl_tail12 {w0 W : World} {p : Nat × List Value} {L : List (Nat × List Value)} (h : GL w0 W (p :: L)) : GL w0 W L :=
 ⟨h.bl, fun q hq => h.all q (mK hq), (List.nodup_cons.1 h.nd).2⟩
theorem slq_hd {w : World} {g n : Nat} {l : List Rat} {cs : List Value} (h : Hd w g cs) (he : cs = frCs l) (hn : n = l.length) : SlQ w (.slice (some ⟨g, 0, none⟩) n n) l := by
 subst he hn
 exact .inr ⟨g, _, rfl, hd_fs h⟩
def isI9 (v : Value) : Prop := ∃ z, v = .int .i64 z
theorem isI_no : ∀ z, ¬ isI9 (.int .u64 z) := fun z ⟨y, h⟩ => by cases h
theorem wp_appendV {w : World} {ops : Array Oper} {rest : List Oper} {o : Oper} {a : Act} {Q : Exit → Act → World → Prop} (hgd : o.guard = none) (s x : Operand)
  (ho : o.op = .call { callee := .builtin .append, args := #[s, x], argTypes := #[28, 28] }) (B : Nat) (v : Value) (n : Nat) (L : List Rat) (hs : a.eval s = v) (hown : OwnF w B v n L) (g : Nat) (t : Rat) (hx : a.eval x = .slice (some ⟨g, 0, none⟩) 1 1) (hH : Hd w g (frC t))
  (hn : n ≤ 100000) (hbase : B ≤ w.heap.size)
  (h : ∀ v' w', OwnF w' B v' (n + 1) (L ++ [t]) → w.grownBy w' v.ownBlock → (v'.ownBlock = v.ownBlock ∨ v'.ownBlock = some w.heap.size) → wpList Tryz.prog ops Q rest (a.put o.dst v') w') : wpList Tryz.prog ops Q (o :: rest) a w := by
 obtain ⟨i0, hi, hz1, hz2, hz3⟩ := info_parts infoFr
 refine wpList_append_own_at w hgd s x 28 ho B 36 i0 _ 5 56 (by kernel_rfl) hi hz1 hz2 hz3 rfl (by decide) v n (frCs L) hs hown ⟨g, 0, none⟩ 1 1 (frC t) hx rfl (hd_newsH hH) (frC_one t) (by unfold maxLen; omega) (by omega) hbase ?_
 intro v' w' h1 h2 _ h4
 refine h v' w' ?_ h2 h4
 unfold OwnF
 rw [frCs_snoc]; exact h1
theorem vsums_l1 (ac al ap : Option Addr) (nc cc m cl np cp : Nat)  (KT : World → Prop) (hKT : Keeps KT) (HW : ∀ w, KT w → Calls Tryz.prog 10 #[] w fun xe w' => xe = .returned (.bool true) ∧ Below w.heap.size w w') (l_nc : decide ((8 : Int) < ((nc : Nat) : Int)) = true) (k_nc : decide (8 < nc) = true) (w : World) (kKT : KT w) :
  Calls Tryz.prog 3 #[.slice ac nc cc, .slice al m cl, .slice ap np cp] w fun e w' => e = .returned (.bool true) ∧ Below w.heap.size w w' := by
 replace hKT := Lib.hid hKT
 replace HW := Lib.hid HW
 have hL0 : GL w w [] := GL.start w
 have hT : PTs w [] := PTs.nil w
 go_enter Tryz.func3, Tryz.ntmps3
 go_wp2_with fail
 with_reducible refine Calls.mono (HW.out _ (hKT.out.at hL0.bl kKT)) ?_
 rintro e x1 ⟨rfl, hb⟩
 replace hL0 := hL0.call hb
 replace hT := hT.call hb
 clear hb
 go_wp2_with fail
 exact bodyPost_ret (v := .bool true) (by simp [results, Tryz.results3, go_sem]) rfl ⟨rfl, hL0.bl⟩
theorem vsums_l2 (ac al ap : Option Addr) (nc cc m cl np cp : Nat)  (KT : World → Prop) (hKT : Keeps KT) (HW : ∀ w, KT w → Calls Tryz.prog 10 #[] w fun xe w' => xe = .returned (.bool true) ∧ Below w.heap.size w w') (l_nc : decide ((8 : Int) < ((nc : Nat) : Int)) = false) (k_nc : decide (8 < nc) = false) (l_m : decide ((8 : Int) < ((m : Nat) : Int)) = true) (k_m : decide (8 < m) = true) (w : World) (kKT : KT w) :
  Calls Tryz.prog 3 #[.slice ac nc cc, .slice al m cl, .slice ap np cp] w fun e w' => e = .returned (.bool true) ∧ Below w.heap.size w w' := by
 replace hKT := Lib.hid hKT
 replace HW := Lib.hid HW
 have hL0 : GL w w [] := GL.start w
 have hT : PTs w [] := PTs.nil w
 go_enter Tryz.func3, Tryz.ntmps3
 go_wp2_with fail
 with_reducible refine Calls.mono (HW.out _ (hKT.out.at hL0.bl kKT)) ?_
 rintro e x1 ⟨rfl, hb⟩
 replace hL0 := hL0.call hb
 replace hT := hT.call hb
 clear hb
 go_wp2_with fail
 exact bodyPost_ret (v := .bool true) (by simp [results, Tryz.results3, go_sem]) rfl ⟨rfl, hL0.bl⟩
theorem vsums_l3 (ac al ap : Option Addr) (nc cc m cl np cp : Nat)  (KT : World → Prop) (hKT : Keeps KT) (HW : ∀ w, KT w → Calls Tryz.prog 10 #[] w fun xe w' => xe = .returned (.bool true) ∧ Below w.heap.size w w') (l_nc : decide ((8 : Int) < ((nc : Nat) : Int)) = false) (k_nc : decide (8 < nc) = false) (l_m : decide ((8 : Int) < ((m : Nat) : Int)) = false) (k_m : decide (8 < m) = false) (l_np : decide ((20 : Int) < ((np : Nat) : Int)) = true) (k_np : decide (20 < np) = true) (w : World) (kKT : KT w) :
  Calls Tryz.prog 3 #[.slice ac nc cc, .slice al m cl, .slice ap np cp] w fun e w' => e = .returned (.bool true) ∧ Below w.heap.size w w' := by
 replace hKT := Lib.hid hKT
 replace HW := Lib.hid HW
 have hL0 : GL w w [] := GL.start w
 have hT : PTs w [] := PTs.nil w
 go_enter Tryz.func3, Tryz.ntmps3
 go_wp2_with fail
 with_reducible refine Calls.mono (HW.out _ (hKT.out.at hL0.bl kKT)) ?_
 rintro e x1 ⟨rfl, hb⟩
 replace hL0 := hL0.call hb
 replace hT := hT.call hb
 clear hb
 go_wp2_with fail
 exact bodyPost_ret (v := .bool true) (by simp [results, Tryz.results3, go_sem]) rfl ⟨rfl, hL0.bl⟩
theorem vsums_w (ac al ap : Option Addr) (nc cc m cl np cp : Nat) (n : Nat) (f : Nat → Nat) (lc : List (Int × Int)) (Ls : List (List (Int × Int))) (pz : List Int) (U : Nat → List Rat) (Z Y : Nat → Rat) (KT : World → Prop) (hKT : Keeps KT) (HW : ∀ w, KT w → Calls Tryz.prog 10 #[] w fun xe w' => xe = .returned (.bool true) ∧ Below w.heap.size w w') (l_nc : decide ((8 : Int) < ((nc : Nat) : Int)) = false) (k_nc : decide (8 < nc) = false) (l_m : decide ((8 : Int) < ((m : Nat) : Int)) = false) (k_m : decide (8 < m) = false) (l_np : decide ((20 : Int) < ((np : Nat) : Int)) = false) (k_np : decide (20 < np) = false) (hKX : ∀ w, KT w → QVV w (.slice al m cl) Ls ∧ QV w (.slice ac nc cc) lc ∧ IA w (.slice ap np cp) pz) (hm8 : m ≤ 8) (hn20 : n ≤ 20) (hf : ∀ i, i < m → (Ls.getD i []).length = f i) (hnf : ∀ i, i < m → n ≤ f i) (hUl : ∀ i, i < m → (U i).length = n) (hZ : ∀ i, i < m → ¬ i < nc → Z i = Y i) (HV : ∀ i, i < m → ∀ bo mi k w, QV w (.slice bo mi k) (Ls.getD i []) → Calls Tryz.prog 11 #[.slice bo n k] w fun e w' => ∃ pv, e = .returned pv ∧ PT w' pv (U i) ∧ (∀ g, pv.ownBlock = some g → w.heap.size ≤ g ∧ g < w'.heap.size) ∧ Below w.heap.size w w') (HIz : ∀ i, i < m → ∀ w, Calls Tryz.prog 12 #[.int .i64 (i : Int)] w fun xe w' => xe = .returned (fracV (Y i)) ∧ Below w.heap.size w w') (HQ : ∀ i, i < nc → i < m → ∀ w, Calls Tryz.prog 13 #[.agg #[.int .i64 (lc.getD i (0, 0)).1, .int .u32 (lc.getD i (0, 0)).2]] w fun xe w' => xe = .returned (fracV (Z i)) ∧ Below w.heap.size w w') (HAd : ∀ i k, i < m → k < n → ∀ w, Calls Tryz.prog 14 #[fracV (bsV i fun j => gv (U j) k), fracV (gv (U i) k)] w fun xe w' => xe = .returned (fracV ((bsV i fun j => gv (U j) k) + gv (U i) k)) ∧ Below w.heap.size w w') (HMu : ∀ i k, i < m → k < n → ∀ w, Calls Tryz.prog 15 #[fracV (Z i), fracV (gv (U i) k)] w fun xe w' => xe = .returned (fracV (Z i * gv (U i) k)) ∧ Below w.heap.size w w') (HAe : ∀ i k, i < m → k < n → ∀ w, Calls Tryz.prog 14 #[fracV (bsV i fun j => Z j * gv (U j) k), fracV (Z i * gv (U i) k)] w fun xe w' => xe = .returned (fracV ((bsV i fun j => Z j * gv (U j) k) + Z i * gv (U i) k)) ∧ Below w.heap.size w w') (HSu : ∀ v w, VLs w v ((List.range m).map U) → Calls Tryz.prog 16 #[v] w fun e w' => ∃ pv, e = .returned (.tuple #[pv, .int .i64 0]) ∧ PT w' pv (smV n m (fun j k => gv (U j) k) 0) ∧ Below w.heap.size w w') (HMx : ∀ u v w, PT w u ((List.range m).map Z) → VLs w v ((List.range m).map U) → Calls Tryz.prog 17 #[u, v] w fun e w' => ∃ pv, e = .returned (.tuple #[pv, .int .i64 0]) ∧ PT w' pv (smV n m (fun j k => Z j * gv (U j) k) 0) ∧ Below w.heap.size w w') (HSa : ∀ u v w, PT w u (smV n m (fun j k => gv (U j) k) 0) → PT w v (smV n m (fun j k => gv (U j) k) 0) → Calls Tryz.prog 18 #[u, v] w fun xe w' => xe = .returned (.bool true) ∧ Below w.heap.size w w') (HSb : ∀ u v w, PT w u (smV n m (fun j k => Z j * gv (U j) k) 0) → PT w v (smV n m (fun j k => Z j * gv (U j) k) 0) → Calls Tryz.prog 18 #[u, v] w fun xe w' => xe = .returned (.bool true) ∧ Below w.heap.size w w') (HPa : ∀ u v w, PT w u (smV n m (fun j k => gv (U j) k) 0) → ILs w v ((plsL pz n).map Int.ofNat) → Calls Tryz.prog 19 #[u, v] w fun e w' => ∃ pv, e = .returned (.tuple #[pv, .int .i64 0]) ∧ PT w' pv ((plsL pz n).map fun p => gv (smV n m (fun j k => gv (U j) k) 0) p) ∧ Below w.heap.size w w') (HSd : ∀ u v w, PT w u ((plsL pz n).map fun p => gv (smV n m (fun j k => gv (U j) k) 0) p) → PT w v ((plsL pz n).map fun p => gv (smV n m (fun j k => gv (U j) k) 0) p) → Calls Tryz.prog 18 #[u, v] w fun xe w' => xe = .returned (.bool true) ∧ Below w.heap.size w w') (hnp : np ≤ 20) (hpz : pz.length = np) (hmin : min ((mnV f m : Nat) : Int) (20 * (m : Int)) = (n : Int)) (w : World) (kKT : KT w) :
  Calls Tryz.prog 3 #[.slice ac nc cc, .slice al m cl, .slice ap np cp] w fun e w' => e = .returned (.bool true) ∧ Below w.heap.size w w' := by
 replace hKT := Lib.hid hKT
 replace HW := Lib.hid HW
 have hL0 : GL w w [] := GL.start w
 have hT : PTs w [] := PTs.nil w
 replace hKX := Lib.hid hKX
 replace hm8 := Lib.hid hm8
 replace hn20 := Lib.hid hn20
 replace hf := Lib.hid hf
 replace hnf := Lib.hid hnf
 replace hUl := Lib.hid hUl
 replace hZ := Lib.hid hZ
 replace HV := Lib.hid HV
 replace HIz := Lib.hid HIz
 replace HQ := Lib.hid HQ
 replace HAd := Lib.hid HAd
 replace HMu := Lib.hid HMu
 replace HAe := Lib.hid HAe
 replace HSu := Lib.hid HSu
 replace HMx := Lib.hid HMx
 replace HSa := Lib.hid HSa
 replace HSb := Lib.hid HSb
 replace HPa := Lib.hid HPa
 replace HSd := Lib.hid HSd
 replace hnp := Lib.hid hnp
 replace hpz := Lib.hid hpz
 replace hmin := Lib.hid hmin
 go_enter Tryz.func3, Tryz.ntmps3
 go_wp2_with fail
 go_loopg [7, 8] m (fun gk nv iv wr => ∃ (i : Nat) (zi zn : Int), i + gk = m ∧ nv = .int .i64 zn ∧ iv = .int .i64 zi ∧ zi = (i : Int) ∧ zn = ((mnV f i : Nat) : Int) ∧ GL w wr [])
 case atStart => exact ⟨0, 0, 20, Nat.zero_add m, by first | rfl | go_num, by first | rfl | go_num, rfl, rfl, hL0⟩
 case round =>
  clear hL0 hT
  obtain ⟨i, zi, zn, hik, rfl, rfl, hzi, hzn, hL0⟩ := hrel
  have hK := hKX.out w kKT
  rcases Nat.lt_or_ge i m with hin | hin
  ·subst hzi
   have k1 : (i : Int) < (m : Int) := by omega
   have k0 : (0 : Int) ≤ (i : Int) := Int.natCast_nonneg _
   have kb : (i : Int) ≤ 1000 := by have := hm8.out; omega
   obtain ⟨aa, rfl, bo, mi, lk, hce, hqv⟩ := (hK.1.below hL0.bl).at i hin
   obtain rfl : mi = f i := by rw [← hf.out i hin]; exact (qv_len hqv).symm
   replace hK := Lib.hid hK
   replace hqv := Lib.hid hqv
   rcases Nat.lt_or_ge 20 (f i) with hlo | hlo
   ·have h1 : (20 : Int) < ((f i : Nat) : Int) := by omega
    replace hzn := Lib.hid hzn
    go_wp2_with fail
    with_reducible refine Calls.mono (HW.out _ (hKT.out.at hL0.bl kKT)) ?_
    rintro e y1 ⟨rfl, hb⟩
    replace hL0 := hL0.call hb
    go_wp2_with fail
    exact bodyPost_ret (v := .bool true) (by simp [results, Tryz.results3, go_sem]) rfl ⟨rfl, hL0.bl⟩
   ·have h1 : ¬ (20 : Int) < ((f i : Nat) : Int) := by omega
    have hmn : min zn ((f i : Nat) : Int) = ((mnV f (i + 1) : Nat) : Int) := by rw [hzn]; show min _ _ = ((min (mnV f i) (f i) : Nat) : Int); omega
    replace hzn := Lib.hid hzn
    go_wp2_with fail
    go_roundg (m - (i + 1))
    case measure => omega
    case rel => exact ⟨i + 1, _, _, by omega, rfl, by first | rfl | go_num, by omega, by first | rfl | exact hmn, hL0⟩
  ·obtain rfl : m = i := by omega
   subst hzi
   subst hzn
   have k1 : ¬ (m : Int) < (m : Int) := by omega
   have hm9 : (m : Int) ≤ 8 := by have := hm8.out; omega
   have hm0 : (0 : Int) ≤ (m : Int) := Int.natCast_nonneg _
   have hmi := hmin.out
   replace hK := Lib.hid hK
   have hT : PTs wr [] := PTs.nil wr
   go_upto_region 13 with fail
   clear hmi hT
   go_cut [11, 12] from 66 to 69 (fun s11 s12 wx => ∃ ks km : Nat, s11 = .slice (some ⟨ks, 0, none⟩) n n ∧ s12 = .slice (some ⟨km, 0, none⟩) n n ∧ GL w wx [(km, frCs (smV n 0 (fun j k => Z j * gv (U j) k) 0)), (ks, frCs (smV n 0 (fun j k => gv (U j) k) 0))])
   case first =>
    have hmk := fun W => makeV W (n : Int) n rfl (by have := hn20.out; omega)
    have hG := ((hL0.new (K := wr.heap.size) rfl (frCs (List.replicate n 0)) 36).new (K := wr.heap.size + 1) (by simp) (frCs (List.replicate n 0)) 36).drew
    have hG2 := hG.swap9
    replace hG := Lib.hid hG
    replace hG2 := Lib.hid hG2
    go_region
    all_goals (go_wp2_with fail; go_meet)
    all_goals first | exact ⟨_, _, rfl, rfl, by rw [← sm_zero, ← sm_zero]; exact hG.out⟩ | exact ⟨_, _, rfl, rfl, by rw [← sm_zero, ← sm_zero]; exact hG2.out⟩
   case rest =>
    clear hL0
    obtain ⟨ks, km, rfl, rfl, hL0⟩ := hcut
    obtain ⟨y0, hy0⟩ : ∃ y, y = wc := ⟨_, rfl⟩
    subst hy0
    obtain ⟨Bs, hBs⟩ : ∃ q, q = y0.heap.size := ⟨_, rfl⟩
    have hSI : SI Bs y0 (.slice none 0 0) (.slice none 0 0) 0 0 [] U ((List.range 0).map Z) := SI.nil _ _ (by omega)
    have hkm := Lib.hid (show km < Bs by have := (hL0.get _ _ mZ).lt; omega)
    have hks := Lib.hid (show ks < Bs by have := (hL0.get _ _ (mK mZ)).lt; omega)
    have hwB := Lib.hid (show w.heap.size ≤ Bs by have := hL0.bl.size; omega)
    clear hBs
    go_wp2_with fail
    go_loopg [9, 10, 13] m (fun gk va vw iv wr => ∃ (i : Nat) (zi : Int) (ls : List Value), i + gk = m ∧ iv = .int .i64 zi ∧ zi = (i : Int) ∧ SI Bs wr va vw i i ls U ((List.range i).map Z) ∧ GL w wr [(km, frCs (smV n i (fun j k => Z j * gv (U j) k) 0)), (ks, frCs (smV n i (fun j k => gv (U j) k) 0))])
    case atStart => exact ⟨0, 0, [], Nat.zero_add m, by first | rfl | go_num, rfl, hSI, hL0⟩
    case round =>
     clear hL0 hSI
     obtain ⟨i, zi, ls, hik, rfl, hzi, hSI, hL0⟩ := hrel
     obtain ⟨wo, rfl⟩ : ∃ wo, wo = wr := ⟨_, rfl⟩
     obtain ⟨av, cv, rfl⟩ := own_form12 hSI.all.1
     obtain ⟨aw, cw, rfl⟩ := own_form12 hSI.wt
     replace hSI := Lib.hid hSI
     rcases Nat.lt_or_ge i m with hin | hin
     ·subst hzi
      have k1 : (i : Int) < (m : Int) := by omega
      have k0 : (0 : Int) ≤ (i : Int) := Int.natCast_nonneg _
      have kb : (i : Int) ≤ 1000 := by have := hm8.out; omega
      have hll := Lib.hid (hSI.out.all.len)
      obtain ⟨aa, rfl, bo, mi, lk, hce, hqv⟩ := (hK.out.1.below hL0.bl).at i hin
      have hnm : n ≤ mi := by have e := qv_len hqv; rw [hf.out i hin] at e; have := hnf.out i hin; omega
      have hsl := fun W => qv_slice hqv n hnm W
      have hn0 : (0 : Int) ≤ (n : Int) := Int.natCast_nonneg _
      have HVi := Lib.hid (HV.out i hin bo mi lk _ hqv)
      clear hqv hnm
      go_wp2_with fail
      with_reducible refine Calls.mono (HVi.out) ?_
      rintro e y1 ⟨pv, rfl, hp, hfr, hb⟩
      have hxf := Lib.hid (XF.fresh hSI.out hb hp hfr)
      obtain ⟨ax, cx, rfl⟩ := ptn_form hp (hUl.out i hin)
      clear hce hsl hp hfr HVi
      replace hSI := Lib.hid (hSI.out.below hb)
      replace hL0 := hL0.call hb
      clear hb
      have HI2 := HIz.out i hin
      obtain ⟨qz, hqz⟩ : ∃ q, q = Y i := ⟨_, rfl⟩
      rw [← hqz] at HI2
      replace HI2 := Lib.hid HI2
      have HQ2 := Lib.hid (fun hc => HQ.out i hc hin)
      obtain ⟨zq, hzq⟩ : ∃ q, q = Z i := ⟨_, rfl⟩
      rw [← hzq] at HQ2
      have hzz := Lib.hid (hZ.out i hin)
      replace hqz := Lib.hid hqz
      replace hzq := Lib.hid hzq
      go_wp2_with fail
      with_reducible refine Calls.mono (HI2.out _) ?_
      rintro e y2 ⟨rfl, hb⟩
      replace hSI := Lib.hid (hSI.out.below hb)
      replace hxf := Lib.hid (hxf.out.below hb)
      replace hL0 := hL0.call hb
      clear hb HI2
      have hN := (GL.start y2).new rfl [.int .u64 ((zl qz.num : Nat) : Int), .string (zh qz.num), .bool (zs qz.num), .int .u64 ((lo (fe qz) : Nat) : Int), .string (hs (fe qz))] 36
      generalize hweq : y2.alloc (.cells #[.int .u64 ((zl qz.num : Nat) : Int), .string (zh qz.num), .bool (zs qz.num), .int .u64 ((lo (fe qz) : Nat) : Int), .string (hs (fe qz))] 36) = y4 at hN
      go_upto_if 88 with fail
      go_cut [] from 88 to 93 (fun wx => GL y2 wx [(y2.heap.size, [.int .u64 ((zl zq.num : Nat) : Int), .string (zh zq.num), .bool (zs zq.num), .int .u64 ((lo (fe zq) : Nat) : Int), .string (hs (fe zq))])])
      case first =>
       skip
       rcases Nat.lt_or_ge i nc with hic | hic
       ·have h2 : (i : Int) < (nc : Int) := by omega
        obtain ⟨ca, rfl, hc0, hc1⟩ := qv_at (hK.out.2.1.below (hL0.call hN.bl).bl) i hic
        have HQ3 := Lib.hid (HQ2.out hic)
        clear HQ2
        rw [add_one] at hc1
        generalize (lc.getD i (0, 0)).1 = q1 at hc0 HQ3
        generalize (lc.getD i (0, 0)).2 = q2 at hc1 HQ3
        go_wp2_with fail
        with_reducible refine Calls.mono (HQ3.out _) ?_
        rintro e y5 ⟨rfl, hb⟩
        replace hN := hN.call hb
        clear hb hc0 hc1 hweq
        have hA := hN.fc
        simp only [zF, Nat.reduceAdd] at hA
        have hP := hN.put 0 y2.heap.size _ rfl [.int .u64 ((zl zq.num : Nat) : Int), .string (zh zq.num), .bool (zs zq.num), .int .u64 ((lo (fe zq) : Nat) : Int), .string (hs (fe zq))] rfl
        simp only [setAll, List.set_cons_zero, List.set_cons_succ] at hP
        generalize hput : (((((y5.setCell ⟨y2.heap.size, 0, none⟩ (.int .u64 ((zl zq.num : Nat) : Int))).setCell ⟨y2.heap.size, 1, none⟩ (.string (zh zq.num))).setCell ⟨y2.heap.size, 2, none⟩ (.bool (zs zq.num))).setCell ⟨y2.heap.size, 3, none⟩ (.int .u64 ((lo (fe zq) : Nat) : Int))).setCell ⟨y2.heap.size, 4, none⟩ (.string (hs (fe zq)))) = yc at hP
        go_wp2_with fail
        go_meet
        exact hP
       ·have h2 : ¬ (i : Int) < (nc : Int) := by omega
        obtain rfl : zq = qz := by rw [hzq.out, hqz.out]; exact hzz.out (by omega)
        go_wp2_with fail
        go_meet
        exact hN
      case rest =>
       clear hN hweq HQ2
       have hN := hcut
       obtain ⟨yc, hyc⟩ : ∃ y, y = wc := ⟨_, rfl⟩
       subst hyc
       replace hin := Lib.hid hin
       have hkz := Lib.hid (fun z hz => (hSI.out.akey z hz))
       have hkw := Lib.hid (fun z hz => (hSI.out.wkey z hz))
       have hx0 := hL0
       replace hL0 := hL0.call hN.bl
       replace hL0 := GL.tnew (M := []) hL0 hx0 (hN.get _ _ mZ) (Nat.le_refl _) (fun p hp => by cases hp)
       simp only [List.nil_append] at hL0
       replace hSI := Lib.hid (hSI.out.below hN.bl)
       replace hxf := Lib.hid (hxf.out.below hN.bl)
       clear hx0 hN
       generalize y2.heap.size = kb at hL0 hkz hkw ⊢
       have hM := (GL.start yc).new rfl [.slice ax n cx] 28
       generalize hweq : yc.alloc (.cells #[.slice ax n cx] 28) = yd at hM
       have hcu := (hM.get _ _ mZ).cell 0 (by simp)
       simp only [List.getElem_cons_zero] at hcu
       replace hcu := Lib.hid hcu
       replace hSI := Lib.hid (hSI.out.below hM.bl)
       replace hxf := Lib.hid (hxf.out.below hM.bl)
       replace hL0 := hL0.call hM.bl
       clear hM
       go_wp2_with (at_builtin; refine wp_append_all undVec infoVec rfl (by decide) ⟨none, 0, 0, rfl⟩ rfl _ _ rfl Bs (.slice av i cv) i ls rfl hSI.out.all ⟨yc.heap.size, 0, none⟩ 1 (.slice ax n cx) ⟨_, _, _, rfl⟩ rfl rfl hcu.out (by have := hm8.out; have := hin.out; omega) hSI.out.bs ?_)
       intro v' w8 hown8 hgrow
       obtain ⟨av8, cv8, rfl⟩ := hown8.form
       have hL8 := gl_grown hL0 hgrow (fun z hz => ⟨Nat.le_trans hwB.out (hSI.out.akey z hz).1, fun p hp => by
        have h9 := hkz.out z hz
        have h7 := hkm.out
        have h6 := hks.out
        simp only [List.mem_cons, List.not_mem_nil, or_false] at hp
        rcases hp with rfl | rfl | rfl <;> (show _ ≠ z; omega)⟩)
       have hx9 := Lib.hid (XF.all hSI.out hxf.out hgrow)
       replace hSI := Lib.hid (hSI.out.app1 hown8 hgrow hxf.out)
       clear hxf hL0 hgrow hown8 hcu hweq
       have hL0 := hL8
       have hxf := hx9
       clear hL8 hx9
       have hA := cells_of _ 0 [] rfl (hL0.get _ _ mZ)
       simp only [zF, Nat.reduceAdd] at hA
       have hM := (GL.start w8).new rfl [.int .u64 ((zl zq.num : Nat) : Int), .string (zh zq.num), .bool (zs zq.num), .int .u64 ((lo (fe zq) : Nat) : Int), .string (hs (fe zq))] 36
       generalize hweq : w8.alloc (.cells #[.int .u64 ((zl zq.num : Nat) : Int), .string (zh zq.num), .bool (zs zq.num), .int .u64 ((lo (fe zq) : Nat) : Int), .string (hs (fe zq))] 36) = w9 at hM
       have hH := Lib.hid (hM.get _ _ mZ)
       replace hSI := Lib.hid (hSI.out.below hM.bl)
       replace hxf := Lib.hid (hxf.out.below hM.bl)
       replace hL0 := hL0.call hM.bl
       clear hM
       go_wp2_with (at_builtin; refine wp_appendG rfl _ _ rfl Bs _ _ _ rfl hSI.out.wt _ zq rfl hH.out (by have := hm8.out; have := hin.out; omega) hSI.out.bs ?_)
       intro v' wA hownA hgrow hor
       obtain ⟨awA, cwA, rfl⟩ := own_form12 hownA
       have hL8 := gl_grown hL0 hgrow (fun z hz => ⟨Nat.le_trans hwB.out (hSI.out.wkey z hz).1, fun p hp => by
        have h9 := hkw.out z hz
        have h7 := hkm.out
        have h6 := hks.out
        simp only [List.mem_cons, List.not_mem_nil, or_false] at hp
        rcases hp with rfl | rfl | rfl <;> (show _ ≠ z; omega)⟩)
       replace hSI := Lib.hid (hSI.out.app2 hownA hgrow hor)
       replace hxf := Lib.hid (hSI.out.last hll.out)
       clear hL0 hgrow hownA hor hH hweq hA
       have hL0 := hL8
       clear hL8 hkz hkw
       go_wp2_with fail
       go_loopg [16] n (fun gk kv wr3 => ∃ (k : Nat) (zk : Int), k + gk = n ∧ kv = .int .i64 zk ∧ zk = (k : Int) ∧ SI Bs wr3 (.slice av8 (i + 1) cv8) (.slice awA (i + 1) cwA) (i + 1) (i + 1) (ls ++ [.slice ax n cx]) U ((List.range i).map Z ++ [zq]) ∧ XF Bs wr3 (.slice awA (i + 1) cwA) (.slice ax n cx) (U i) ∧ GL w wr3 [(kb, [.int .u64 ((zl zq.num : Nat) : Int), .string (zh zq.num), .bool (zs zq.num), .int .u64 ((lo (fe zq) : Nat) : Int), .string (hs (fe zq))]), (km, frCs (smV n i (fun j k => Z j * gv (U j) k) k)), (ks, frCs (smV n i (fun j k => gv (U j) k) k))])
       case atStart => exact ⟨0, 0, Nat.zero_add n, by first | rfl | go_num, rfl, hSI.out, hxf.out, hL0⟩
       case round =>
        clear hL0 hSI hxf
        obtain ⟨k, zk, hkk, rfl, hzk, hSI, hxf, hL0⟩ := hrel
        replace hSI := Lib.hid hSI
        replace hxf := Lib.hid hxf
        rcases Nat.lt_or_ge k n with hkn | hkn
        ·subst hzk
         have m1 : (k : Int) < (n : Int) := by omega
         have m0 : (0 : Int) ≤ (k : Int) := Int.natCast_nonneg _
         have mb : (k : Int) ≤ 1000 := by have := hn20.out; omega
         obtain ⟨gx, gxc, hgx⟩ := ptp9_form hxf.out.1 (hUl.out i hin.out) (by omega)
         obtain ⟨rfl, rfl⟩ : ax = some ⟨gx, 0, none⟩ ∧ cx = gxc := by simpa using hgx
         clear hgx
         have HA1 := HAd.out i k hin.out hkn
         have HM1 := HMu.out i k hin.out hkn
         have HA2 := HAe.out i k hin.out hkn
         have hst1 := sm_step (i := i) (F := (fun j k => gv (U j) k)) hkn
         have hst2 := sm_step (i := i) (F := (fun j k => Z j * gv (U j) k)) hkn
         have hv1 := sm_at (i := i) (F := (fun j k => gv (U j) k)) hkn (Nat.lt_irrefl k)
         have hv2 := sm_at (i := i) (F := (fun j k => Z j * gv (U j) k)) hkn (Nat.lt_irrefl k)
         have hlu := Lib.hid (show k < (U i).length by rw [hUl.out i hin.out]; exact hkn)
         simp only [← hzq.out] at HM1 HA2 hst2
         obtain ⟨x1, hx1⟩ : ∃ q, q = gv (U i) k := ⟨_, rfl⟩
         rw [← hx1] at HA1 HM1 HA2 hst1 hst2
         obtain ⟨s1, hs1⟩ : ∃ q, q = bsV i (fun j => gv (U j) k) := ⟨_, rfl⟩
         rw [← hs1] at HA1 hst1 hv1
         obtain ⟨s2, hs2⟩ : ∃ q, q = bsV i (fun j => Z j * gv (U j) k) := ⟨_, rfl⟩
         rw [← hs2] at HA2 hst2 hv2
         obtain ⟨r1, hr1⟩ : ∃ q, q = s1 + x1 := ⟨_, rfl⟩
         rw [← hr1] at HA1 hst1
         obtain ⟨p2, hp2⟩ : ∃ q, q = zq * x1 := ⟨_, rfl⟩
         rw [← hp2] at HM1 HA2 hst2
         obtain ⟨r2, hr2⟩ : ∃ q, q = s2 + p2 := ⟨_, rfl⟩
         rw [← hr2] at HA2 hst2
         have hl1 := Lib.hid (show k < (smV n i (fun j k => gv (U j) k) k).length by rw [sm_len]; exact hkn)
         have hl2 := Lib.hid (show k < (smV n i (fun j k => Z j * gv (U j) k) k).length by rw [sm_len]; exact hkn)
         generalize smV n i (fun j k => gv (U j) k) k = A1 at hL0 hl1 hst1 hv1
         generalize smV n i (fun j k => Z j * gv (U j) k) k = A2 at hL0 hl2 hst2 hv2
         replace HA1 := Lib.hid HA1
         replace HM1 := Lib.hid HM1
         replace HA2 := Lib.hid HA2
         replace hst1 := Lib.hid hst1
         replace hst2 := Lib.hid hst2
         replace hv1 := Lib.hid hv1
         replace hv2 := Lib.hid hv2
         replace hx1 := Lib.hid hx1
         clear hs1 hs2 hr1 hr2 hp2
         go_upto_region 26 with fail
         refine region_tl 12 [EV (.slice (some ⟨ks, 0, none⟩) n n), EV (.int .i64 (k : Int)), EV (.slice (some ⟨ks, 0, none⟩) n n), EV (.int .i64 (k : Int)), EV (.pointer (some ⟨ks, k * 5, none⟩)), EV (.agg #[.int .u64 ((zl s1.num : Nat) : Int), .string (zh s1.num), .bool (zs s1.num), .int .u64 ((lo (fe s1) : Nat) : Int), .string (hs (fe s1))]), EV (.slice (some ⟨gx, 0, none⟩) n cx), EV (.int .i64 (k : Int)), EV (.pointer (some ⟨gx, k * 5, none⟩)), EV (.agg #[.int .u64 ((zl x1.num : Nat) : Int), .string (zh x1.num), .bool (zs x1.num), .int .u64 ((lo (fe x1) : Nat) : Int), .string (hs (fe x1))]), EV (.agg #[.int .u64 ((zl r1.num : Nat) : Int), .string (zh r1.num), .bool (zs r1.num), .int .u64 ((lo (fe r1) : Nat) : Int), .string (hs (fe r1))]), EV (.pointer (some ⟨ks, k * 5, none⟩))] (by kernel_rfl) (by kernel_rfl) ?_ ?_ ?_
         ·exact (stays_cons (stays_eq _) (stays_cons (stays_eq _) (stays_cons (stays_eq _) (stays_cons (stays_eq _) (stays_cons (stays_eq _) (stays_cons (stays_eq _) (stays_cons (stays_eq _) (stays_cons (stays_eq _) (stays_cons (stays_eq _) (stays_cons (stays_eq _) (stays_cons (stays_eq _) (stays_cons (stays_eq _) stays_nil))))))))))))
         ·simp only [List.take_succ_cons, List.take_zero, hopsR, and_true]
          refine ⟨?_, ?_, ?_, ?_, ?_, ?_, ?_, ?_, ?_, ?_, ?_, ?_⟩ <;> intro fv w1 hb1 hp
          all_goals (simp only [putsV, Act.put, zP, Nat.zero_add, Nat.reduceAdd])
          ·refine tyAt_none rfl ?_
           simp [tyUpon, execOp, go_sem, Act.eval, m1, m0, add0H, Below.refl]
          ·refine tyAt_none rfl ?_
           simp [tyUpon, execOp, go_sem, Act.eval, m1, m0, add0H, Below.refl]
          ·refine tyAt_none rfl ?_
           simp [tyUpon, execOp, go_sem, Act.eval, m1, m0, add0H, Below.refl]
          ·refine tyAt_none rfl ?_
           simp [tyUpon, execOp, go_sem, Act.eval, m1, m0, add0H, Below.refl]
          ·have h2 : EV _ (fv 2) w1 := hp 2 (LC (by kernel_rfl))
           have h3 : EV _ (fv 3) w1 := hp 3 (LC (by kernel_rfl))
           refine tyAt_none rfl ?_
           simp [tyUpon, execOp, go_sem, Act.eval, h2, h3, m1, m0, add0H, Below.refl]
          ·have h4 : EV _ (fv 4) w1 := hp 4 (LC (by kernel_rfl))
           refine tyAt_none rfl ?_
           obtain ⟨f0, f1, f2, f3, f4⟩ := fsc (hd_fs ((hL0.call (below_drew hb1)).get _ _ (mK (mK mZ)))) k hl1.out
           rw [hv1.out] at f0 f1 f2 f3 f4
           simp [tyUpon, execOp, go_sem, Act.eval, h4, m1, m0, add0H, f0, f1, f2, f3, f4, Below.refl]
          ·refine tyAt_none rfl ?_
           simp [tyUpon, execOp, go_sem, Act.eval, m1, m0, add0H, Below.refl]
          ·refine tyAt_none rfl ?_
           simp [tyUpon, execOp, go_sem, Act.eval, m1, m0, add0H, Below.refl]
          ·have h6 : EV _ (fv 6) w1 := hp 6 (LC (by kernel_rfl))
           have h7 : EV _ (fv 7) w1 := hp 7 (LC (by kernel_rfl))
           refine tyAt_none rfl ?_
           simp [tyUpon, execOp, go_sem, Act.eval, h6, h7, m1, m0, add0H, Below.refl]
          ·have h8 : EV _ (fv 8) w1 := hp 8 (LC (by kernel_rfl))
           refine tyAt_none rfl ?_
           obtain ⟨f0, f1, f2, f3, f4⟩ := fsc (slq_fs12 (hxf.out.1.below (below_drew hb1)) (by have := hlu.out; omega)) k hlu.out
           rw [← hx1.out] at f0 f1 f2 f3 f4
           simp [tyUpon, execOp, go_sem, Act.eval, h8, m1, m0, add0H, f0, f1, f2, f3, f4, Below.refl]
          ·have h5 : EV _ (fv 5) w1 := hp 5 (LC (by kernel_rfl))
           have h9 : EV _ (fv 9) w1 := hp 9 (LC (by kernel_rfl))
           refine tyAt_none rfl ?_
           refine ty_call (f := 14) (args := #[(.agg #[.int .u64 ((zl s1.num : Nat) : Int), .string (zh s1.num), .bool (zs s1.num), .int .u64 ((lo (fe s1) : Nat) : Int), .string (hs (fe s1))]), (.agg #[.int .u64 ((zl x1.num : Nat) : Int), .string (zh x1.num), .bool (zs x1.num), .int .u64 ((lo (fe x1) : Nat) : Int), .string (hs (fe x1))])]) (by simp [execOp, go_sem, Act.eval, h5, h9]) ?_
           exact (HA1.out w1).mono fun e w2 ⟨h1, h2⟩ => ⟨_, h1, rfl, h2⟩
          ·have h0 : EV _ (fv 0) w1 := hp 0 (LC (by kernel_rfl))
           have h1 : EV _ (fv 1) w1 := hp 1 (LC (by kernel_rfl))
           refine tyAt_none rfl ?_
           simp [tyUpon, execOp, go_sem, Act.eval, h0, h1, m1, m0, add0H, Below.refl]
         ·intro fv u1 hb1 hv
          have e0 : fv 0 = _ := hv 0 (by omega)
          have e1 : fv 1 = _ := hv 1 (by omega)
          have e2 : fv 2 = _ := hv 2 (by omega)
          have e3 : fv 3 = _ := hv 3 (by omega)
          have e4 : fv 4 = _ := hv 4 (by omega)
          have e5 : fv 5 = _ := hv 5 (by omega)
          have e6 : fv 6 = _ := hv 6 (by omega)
          have e7 : fv 7 = _ := hv 7 (by omega)
          have e8 : fv 8 = _ := hv 8 (by omega)
          have e9 : fv 9 = _ := hv 9 (by omega)
          have e10 : fv 10 = _ := hv 10 (by omega)
          have e11 : fv 11 = _ := hv 11 (by omega)
          simp only [List.take_succ_cons, List.take_zero, putsV, Act.put, zP, List.drop_succ_cons, List.drop_zero, Nat.zero_add, Nat.reduceAdd, e0, e1, e2, e3, e4, e5, e6, e7, e8, e9, e10, e11]
          have hbd := below_drew hb1
          replace hSI := Lib.hid (hSI.out.below hbd)
          replace hxf := Lib.hid (hxf.out.below hbd)
          replace hL0 := hL0.call hbd
          clear hbd e0 e1 e2 e3 e4 e5 e6 e7 e8 e9 e10 e11 hb1 hv fv
          have zh := hL0.get _ _ (mK (mK mZ))
          obtain ⟨z0, z1, z2, z3, z4⟩ := (hd_fs zh).cell k hl1.out
          have zz := zh.frz
          clear zh
          have hP := hL0.putF 2 ks A1 rfl k r1 hl1.out
          simp only [List.set_cons_zero, List.set_cons_succ] at hP
          have hup : Upd ks u1 (((((u1.setCell ⟨ks, k * 5, none⟩ (.int .u64 ((zl r1.num : Nat) : Int))).setCell ⟨ks, k * 5 + 1, none⟩ (.string (zh r1.num))).setCell ⟨ks, k * 5 + 2, none⟩ (.bool (zs r1.num))).setCell ⟨ks, k * 5 + 3, none⟩ (.int .u64 ((lo (fe r1) : Nat) : Int))).setCell ⟨ks, k * 5 + 4, none⟩ (.string (hs (fe r1)))) := ((((((Upd.refl ks u1).setCell (k * 5) (.int .u64 ((zl r1.num : Nat) : Int))).setCell (k * 5 + 1) (.string (zh r1.num))).setCell (k * 5 + 2) (.bool (zs r1.num))).setCell (k * 5 + 3) (.int .u64 ((lo (fe r1) : Nat) : Int))).setCell (k * 5 + 4) (.string (hs (fe r1))))
          replace hSI := Lib.hid (hSI.out.upd hup hks.out)
          replace hxf := Lib.hid (hxf.out.upd hup hks.out)
          generalize hput26 : (((((u1.setCell ⟨ks, k * 5, none⟩ (.int .u64 ((zl r1.num : Nat) : Int))).setCell ⟨ks, k * 5 + 1, none⟩ (.string (zh r1.num))).setCell ⟨ks, k * 5 + 2, none⟩ (.bool (zs r1.num))).setCell ⟨ks, k * 5 + 3, none⟩ (.int .u64 ((lo (fe r1) : Nat) : Int))).setCell ⟨ks, k * 5 + 4, none⟩ (.string (hs (fe r1)))) = u2 at hP hup hSI hxf
          rw [hst1.out] at hP
          clear hL0 hup
          have hL0 := hP
          clear hP
          clear HA1 hv1
          go_upto_region 27 with fail
          refine region_tl 14 [EV (.slice (some ⟨km, 0, none⟩) n n), EV (.int .i64 (k : Int)), EV (.slice (some ⟨km, 0, none⟩) n n), EV (.int .i64 (k : Int)), EV (.pointer (some ⟨km, k * 5, none⟩)), EV (.agg #[.int .u64 ((zl s2.num : Nat) : Int), .string (zh s2.num), .bool (zs s2.num), .int .u64 ((lo (fe s2) : Nat) : Int), .string (hs (fe s2))]), EV (.agg #[.int .u64 ((zl zq.num : Nat) : Int), .string (zh zq.num), .bool (zs zq.num), .int .u64 ((lo (fe zq) : Nat) : Int), .string (hs (fe zq))]), EV (.slice (some ⟨gx, 0, none⟩) n cx), EV (.int .i64 (k : Int)), EV (.pointer (some ⟨gx, k * 5, none⟩)), EV (.agg #[.int .u64 ((zl x1.num : Nat) : Int), .string (zh x1.num), .bool (zs x1.num), .int .u64 ((lo (fe x1) : Nat) : Int), .string (hs (fe x1))]), EV (.agg #[.int .u64 ((zl p2.num : Nat) : Int), .string (zh p2.num), .bool (zs p2.num), .int .u64 ((lo (fe p2) : Nat) : Int), .string (hs (fe p2))]), EV (.agg #[.int .u64 ((zl r2.num : Nat) : Int), .string (zh r2.num), .bool (zs r2.num), .int .u64 ((lo (fe r2) : Nat) : Int), .string (hs (fe r2))]), EV (.pointer (some ⟨km, k * 5, none⟩))] (by kernel_rfl) (by kernel_rfl) ?_ ?_ ?_
          ·exact (stays_cons (stays_eq _) (stays_cons (stays_eq _) (stays_cons (stays_eq _) (stays_cons (stays_eq _) (stays_cons (stays_eq _) (stays_cons (stays_eq _) (stays_cons (stays_eq _) (stays_cons (stays_eq _) (stays_cons (stays_eq _) (stays_cons (stays_eq _) (stays_cons (stays_eq _) (stays_cons (stays_eq _) (stays_cons (stays_eq _) (stays_cons (stays_eq _) stays_nil))))))))))))))
          ·simp only [List.take_succ_cons, List.take_zero, hopsR, and_true]
           refine ⟨?_, ?_, ?_, ?_, ?_, ?_, ?_, ?_, ?_, ?_, ?_, ?_, ?_, ?_⟩ <;> intro fv w1 hb1 hp
           all_goals (simp only [putsV, Act.put, zP, Nat.zero_add, Nat.reduceAdd])
           ·refine tyAt_none rfl ?_
            simp [tyUpon, execOp, go_sem, Act.eval, m1, m0, add0H, Below.refl]
           ·refine tyAt_none rfl ?_
            simp [tyUpon, execOp, go_sem, Act.eval, m1, m0, add0H, Below.refl]
           ·refine tyAt_none rfl ?_
            simp [tyUpon, execOp, go_sem, Act.eval, m1, m0, add0H, Below.refl]
           ·refine tyAt_none rfl ?_
            simp [tyUpon, execOp, go_sem, Act.eval, m1, m0, add0H, Below.refl]
           ·have h2 : EV _ (fv 2) w1 := hp 2 (LC (by kernel_rfl))
            have h3 : EV _ (fv 3) w1 := hp 3 (LC (by kernel_rfl))
            refine tyAt_none rfl ?_
            simp [tyUpon, execOp, go_sem, Act.eval, h2, h3, m1, m0, add0H, Below.refl]
           ·have h4 : EV _ (fv 4) w1 := hp 4 (LC (by kernel_rfl))
            refine tyAt_none rfl ?_
            obtain ⟨f0, f1, f2, f3, f4⟩ := fsc (hd_fs ((hL0.call (below_drew hb1)).get _ _ (mK mZ))) k hl2.out
            rw [hv2.out] at f0 f1 f2 f3 f4
            simp [tyUpon, execOp, go_sem, Act.eval, h4, m1, m0, add0H, f0, f1, f2, f3, f4, Below.refl]
           ·refine tyAt_none rfl ?_
            have hc := cells_of _ 0 [] rfl ((hL0.call (below_drew hb1)).get _ _ mZ)
            simp only [zF, Nat.reduceAdd] at hc
            simp [tyUpon, execOp, go_sem, Act.eval, hc, m1, m0, add0H, Below.refl]
           ·refine tyAt_none rfl ?_
            simp [tyUpon, execOp, go_sem, Act.eval, m1, m0, add0H, Below.refl]
           ·refine tyAt_none rfl ?_
            simp [tyUpon, execOp, go_sem, Act.eval, m1, m0, add0H, Below.refl]
           ·have h7 : EV _ (fv 7) w1 := hp 7 (LC (by kernel_rfl))
            have h8 : EV _ (fv 8) w1 := hp 8 (LC (by kernel_rfl))
            refine tyAt_none rfl ?_
            simp [tyUpon, execOp, go_sem, Act.eval, h7, h8, m1, m0, add0H, Below.refl]
           ·have h9 : EV _ (fv 9) w1 := hp 9 (LC (by kernel_rfl))
            refine tyAt_none rfl ?_
            obtain ⟨f0, f1, f2, f3, f4⟩ := fsc (slq_fs12 (hxf.out.1.below (below_drew hb1)) (by have := hlu.out; omega)) k hlu.out
            rw [← hx1.out] at f0 f1 f2 f3 f4
            simp [tyUpon, execOp, go_sem, Act.eval, h9, m1, m0, add0H, f0, f1, f2, f3, f4, Below.refl]
           ·have h6 : EV _ (fv 6) w1 := hp 6 (LC (by kernel_rfl))
            have h10 : EV _ (fv 10) w1 := hp 10 (LC (by kernel_rfl))
            refine tyAt_none rfl ?_
            refine ty_call (f := 15) (args := #[(.agg #[.int .u64 ((zl zq.num : Nat) : Int), .string (zh zq.num), .bool (zs zq.num), .int .u64 ((lo (fe zq) : Nat) : Int), .string (hs (fe zq))]), (.agg #[.int .u64 ((zl x1.num : Nat) : Int), .string (zh x1.num), .bool (zs x1.num), .int .u64 ((lo (fe x1) : Nat) : Int), .string (hs (fe x1))])]) (by simp [execOp, go_sem, Act.eval, h6, h10]) ?_
            exact (HM1.out w1).mono fun e w2 ⟨h1, h2⟩ => ⟨_, h1, rfl, h2⟩
           ·have h5 : EV _ (fv 5) w1 := hp 5 (LC (by kernel_rfl))
            have h11 : EV _ (fv 11) w1 := hp 11 (LC (by kernel_rfl))
            refine tyAt_none rfl ?_
            refine ty_call (f := 14) (args := #[(.agg #[.int .u64 ((zl s2.num : Nat) : Int), .string (zh s2.num), .bool (zs s2.num), .int .u64 ((lo (fe s2) : Nat) : Int), .string (hs (fe s2))]), (.agg #[.int .u64 ((zl p2.num : Nat) : Int), .string (zh p2.num), .bool (zs p2.num), .int .u64 ((lo (fe p2) : Nat) : Int), .string (hs (fe p2))])]) (by simp [execOp, go_sem, Act.eval, h5, h11]) ?_
            exact (HA2.out w1).mono fun e w2 ⟨h1, h2⟩ => ⟨_, h1, rfl, h2⟩
           ·have h0 : EV _ (fv 0) w1 := hp 0 (LC (by kernel_rfl))
            have h1 : EV _ (fv 1) w1 := hp 1 (LC (by kernel_rfl))
            refine tyAt_none rfl ?_
            simp [tyUpon, execOp, go_sem, Act.eval, h0, h1, m1, m0, add0H, Below.refl]
          ·intro fv u3 hb1 hv
           have e0 : fv 0 = _ := hv 0 (by omega)
           have e1 : fv 1 = _ := hv 1 (by omega)
           have e2 : fv 2 = _ := hv 2 (by omega)
           have e3 : fv 3 = _ := hv 3 (by omega)
           have e4 : fv 4 = _ := hv 4 (by omega)
           have e5 : fv 5 = _ := hv 5 (by omega)
           have e6 : fv 6 = _ := hv 6 (by omega)
           have e7 : fv 7 = _ := hv 7 (by omega)
           have e8 : fv 8 = _ := hv 8 (by omega)
           have e9 : fv 9 = _ := hv 9 (by omega)
           have e10 : fv 10 = _ := hv 10 (by omega)
           have e11 : fv 11 = _ := hv 11 (by omega)
           have e12 : fv 12 = _ := hv 12 (by omega)
           have e13 : fv 13 = _ := hv 13 (by omega)
           simp only [List.take_succ_cons, List.take_zero, putsV, Act.put, zP, List.drop_succ_cons, List.drop_zero, Nat.zero_add, Nat.reduceAdd, e0, e1, e2, e3, e4, e5, e6, e7, e8, e9, e10, e11, e12, e13]
           have hbd := below_drew hb1
           replace hSI := Lib.hid (hSI.out.below hbd)
           replace hxf := Lib.hid (hxf.out.below hbd)
           replace hL0 := hL0.call hbd
           clear hbd e0 e1 e2 e3 e4 e5 e6 e7 e8 e9 e10 e11 e12 e13 hb1 hv fv
           have zh := hL0.get _ _ (mK mZ)
           obtain ⟨z0, z1, z2, z3, z4⟩ := (hd_fs zh).cell k hl2.out
           have zz := zh.frz
           clear zh
           have hP := hL0.putF 1 km A2 rfl k r2 hl2.out
           simp only [List.set_cons_zero, List.set_cons_succ] at hP
           have hup : Upd km u3 (((((u3.setCell ⟨km, k * 5, none⟩ (.int .u64 ((zl r2.num : Nat) : Int))).setCell ⟨km, k * 5 + 1, none⟩ (.string (zh r2.num))).setCell ⟨km, k * 5 + 2, none⟩ (.bool (zs r2.num))).setCell ⟨km, k * 5 + 3, none⟩ (.int .u64 ((lo (fe r2) : Nat) : Int))).setCell ⟨km, k * 5 + 4, none⟩ (.string (hs (fe r2)))) := ((((((Upd.refl km u3).setCell (k * 5) (.int .u64 ((zl r2.num : Nat) : Int))).setCell (k * 5 + 1) (.string (zh r2.num))).setCell (k * 5 + 2) (.bool (zs r2.num))).setCell (k * 5 + 3) (.int .u64 ((lo (fe r2) : Nat) : Int))).setCell (k * 5 + 4) (.string (hs (fe r2))))
           replace hSI := Lib.hid (hSI.out.upd hup hkm.out)
           replace hxf := Lib.hid (hxf.out.upd hup hkm.out)
           generalize hput27 : (((((u3.setCell ⟨km, k * 5, none⟩ (.int .u64 ((zl r2.num : Nat) : Int))).setCell ⟨km, k * 5 + 1, none⟩ (.string (zh r2.num))).setCell ⟨km, k * 5 + 2, none⟩ (.bool (zs r2.num))).setCell ⟨km, k * 5 + 3, none⟩ (.int .u64 ((lo (fe r2) : Nat) : Int))).setCell ⟨km, k * 5 + 4, none⟩ (.string (hs (fe r2)))) = u4 at hP hup hSI hxf
           rw [hst2.out] at hP
           clear hL0 hup
           have hL0 := hP
           clear hP
           go_wp2_with fail
           go_roundg (n - (k + 1))
           case measure => omega
           case rel => exact ⟨k + 1, _, by omega, by first | rfl | go_num, by omega, hSI.out, hxf.out, hL0⟩
        ·obtain rfl : n = k := by omega
         subst hzk
         have m1 : ¬ (n : Int) < (n : Int) := by omega
         have hL9 : GL w wr [(km, frCs (smV n (i + 1) (fun j k => Z j * gv (U j) k) 0)), (ks, frCs (smV n (i + 1) (fun j k => gv (U j) k) 0))] := by rw [← sm_next, ← sm_next]; exact gl_tail12 hL0
         have hSI9 := hSI.out
         have hr9 : (List.range i).map Z ++ [zq] = (List.range (i + 1)).map Z := by rw [List.range_succ, List.map_append, hzq.out]; rfl
         rw [hr9] at hSI9
         replace hSI9 := Lib.hid hSI9
         clear hL0 hSI hxf hr9
         go_wp2_with fail
         go_roundg (m - (i + 1))
         case measure => have := hin.out; omega
         case rel => exact ⟨i + 1, _, _, by have := hin.out; omega, by first | rfl | go_num, by omega, hSI9.out, hL9⟩
     ·obtain rfl : m = i := by omega
      subst hzi
      have k1 : ¬ (m : Int) < (m : Int) := by omega
      have hV := hSI.out.vls
      have hWt := hSI.out.wt.slq
      have hs1 := slq_hd (hL0.get _ _ (mK mZ)) rfl (sm_len n m (fun j k => gv (U j) k) 0).symm
      have hs2 := slq_hd (hL0.get _ _ mZ) rfl (sm_len n m (fun j k => Z j * gv (U j) k) 0).symm
      clear hSI
      have hb0 := Below.refl wr.heap.size wr
      go_wp2_with fail
      with_reducible refine Calls.mono (HSu.out _ _ hV) ?_
      rintro e z1 ⟨pv1, rfl, hq1, hb⟩
      replace hL0 := hL0.call hb
      replace hV := hV.below hb
      replace hWt := hWt.below hb
      replace hs1 := hs1.below hb
      replace hs2 := hs2.below hb
      clear hb hb0
      obtain ⟨p1o, p1c, rfl⟩ := ptn_form hq1 (sm_len _ _ _ _)
      go_wp2_with fail
      with_reducible refine Calls.mono (HMx.out _ _ _ hWt hV) ?_
      rintro e z2 ⟨pv2, rfl, hq2, hb⟩
      replace hL0 := hL0.call hb
      replace hq1 := hq1.below hb
      replace hs1 := hs1.below hb
      replace hs2 := hs2.below hb
      clear hb hV hWt
      obtain ⟨p2o, p2c, rfl⟩ := ptn_form hq2 (sm_len _ _ _ _)
      go_wp2_with fail
      with_reducible refine Calls.mono (HSa.out _ _ _ hq1 hs1) ?_
      rintro e z3 ⟨rfl, hb⟩
      replace hL0 := hL0.call hb
      replace hq2 := hq2.below hb
      replace hs1 := hs1.below hb
      replace hs2 := hs2.below hb
      clear hb hq1
      go_wp2_with fail
      with_reducible refine Calls.mono (HSb.out _ _ _ hq2 hs2) ?_
      rintro e z4 ⟨rfl, hb⟩
      replace hL0 := hL0.call hb
      replace hs1 := hs1.below hb
      clear hb hq2 hs2
      obtain ⟨C, hC⟩ : ∃ C, C = z4.heap.size := ⟨_, rfl⟩
      have hkm2 := Lib.hid (show km < C by have := (hL0.get _ _ mZ).lt; omega)
      have hks2 := Lib.hid (show ks < C by have := (hL0.get _ _ (mK mZ)).lt; omega)
      have hwC := Lib.hid (show w.heap.size ≤ C by have := hL0.bl.size; omega)
      obtain ⟨ps, hps⟩ : ∃ p, p = plsL pz n := ⟨_, rfl⟩
      obtain ⟨A9, hA9⟩ : ∃ A, A = (smV n m (fun j k => gv (U j) k) 0) := ⟨_, rfl⟩
      have hAl : A9.length = n := by rw [hA9]; exact sm_len _ _ _ _
      have HPa2 := HPa.out
      have HSd2 := HSd.out
      rw [← hps, ← hA9] at HPa2 HSd2
      rw [← hA9] at hs1 hL0
      replace HPa2 := Lib.hid HPa2
      replace HSd2 := Lib.hid HSd2
      have hpl : ∀ p ∈ ps, p < n := by rw [hps]; exact pls_lt
      have hpn : 0 < n → ps.length = np := fun h => by rw [hps]; unfold plsL; rw [if_neg (by omega), List.length_map, hpz.out]
      have hp0 : n = 0 → ps = [] := fun h => by rw [hps]; unfold plsL; rw [if_pos h]
      have hpe : 0 < n → ∀ i, i < np → ps.getD i 0 = (pz.getD i 0 % (n : Int)).toNat := fun h i hi => by
       have e : plsL pz n = pz.map fun z => (z % (n : Int)).toNat := by unfold plsL; rw [if_neg (by omega)]
       have hz := hpz.out
       rw [hps, e, List.getD_eq_getElem?_getD, List.getElem?_map, List.getElem?_eq_getElem (by omega), List.getD_eq_getElem?_getD, List.getElem?_eq_getElem (by omega)]; rfl
      replace hpl := Lib.hid hpl
      replace hpn := Lib.hid hpn
      replace hp0 := Lib.hid hp0
      replace hpe := Lib.hid hpe
      replace hAl := Lib.hid hAl
      clear hA9 hps
      go_wp2_with fail
      go_loopg [21, 22, 23] np (fun gk va vw iv wr => ∃ (i t : Nat) (zi : Int) (ls : List Value), i + gk = np ∧ iv = .int .i64 zi ∧ zi = (i : Int) ∧ t = (ps.take i).length ∧ ls = pvE (ps.take i) ∧ AllRow isI9 wr C 3 va t ls ∧ OwnF wr C vw t ((ps.take i).map fun p => gv A9 p) ∧ (t = 0 → vw.ownBlock = none) ∧ GL w wr [(km, frCs (smV n m (fun j k => Z j * gv (U j) k) 0)), (ks, frCs A9)] ∧ C ≤ wr.heap.size)
      case atStart => exact ⟨0, 0, 0, [], Nat.zero_add np, by first | rfl | go_num, rfl, rfl, rfl, AllRow.nil _ _ _, World.ownsRow_nil _ _ _ _, fun _ => rfl, hL0, by omega⟩
      case round =>
       clear hL0 hs1 hC
       obtain ⟨i, t, zi, ls, hik, rfl, hzi, ht, hls, hRa, hRw, hnl, hL0, hCs⟩ := hrel
       obtain ⟨av, cv, rfl⟩ := own_form12 hRa.1
       obtain ⟨aw, cw, rfl⟩ := own_form12 hRw
       replace hls := Lib.hid hls
       replace ht := Lib.hid ht
       replace hRa := Lib.hid hRa
       replace hRw := Lib.hid hRw
       replace hnl := Lib.hid hnl
       rcases Nat.lt_or_ge i np with hi | hi
       ·subst hzi
        have k1 : (i : Int) < (np : Int) := by omega
        have k0 : (0 : Int) ≤ (i : Int) := Int.natCast_nonneg _
        have kb : (i : Int) ≤ 20 := by have := hnp.out; omega
        by_cases hn1 : (0 : Int) < (n : Int)
        ·have h0 : 0 < n := by omega
         have hlen := hpn.out h0
         have hti := Lib.hid (show t = i by rw [ht.out, List.length_take]; omega)
         obtain ⟨aa, rfl, hce⟩ := ((hK.out.2.2).below hL0.bl).at i hi
         obtain ⟨p, hp, hpn9, hp1, hp2, hp3, hp4⟩ := pls_tm (pz.getD i 0) n h0
         have hpp : ps.getD i 0 = p := by rw [hp]; exact hpe.out h0 i hi
         have htk : ps.take (i + 1) = ps.take i ++ [p] := by rw [List.take_succ_eq_append_getElem (by omega), ← hpp, List.getD_eq_getElem?_getD, List.getElem?_eq_getElem (by omega)]; rfl
         replace htk := Lib.hid htk
         clear hp hpp
         generalize pz.getD i 0 = z at hce hp1 hp2 hp3 hp4
         obtain ⟨r, hr⟩ : ∃ r, r = Int.tmod z (n : Int) := ⟨_, rfl⟩
         rw [← hr] at hp1 hp2 hp3 hp4
         have hr2 := hr.symm
         clear hr
         have pb : (p : Int) ≤ 20 := by have := hn20.out; omega
         have p0 : (0 : Int) ≤ (p : Int) := Int.natCast_nonneg _
         have pn : (p : Int) < (n : Int) := by omega
         have nb9 : (n : Int) ≤ 20 := by have := hn20.out; omega
         have hne0 : ¬ (n : Int) = 0 := by omega
         go_upto_if 191 with fail
         go_cut [24] from 192 to 194 (fun z9 wx => z9 = .int .i64 (p : Int) ∧ wx = wr)
         case first =>
          by_cases hneg : r < 0
          ·have hrp := hp1 hneg
           clear hp1 hp2
           go_wp2_with fail
           go_meet
           exact ⟨rfl, rfl⟩
          ·obtain rfl : r = (p : Int) := hp2 hneg
           clear hp1 hp2
           go_wp2_with fail
           go_meet
           exact ⟨rfl, rfl⟩
         case rest =>
          obtain ⟨rfl, rfl⟩ := hcut
          clear hr2 hp1 hp2 hp3 hp4 hce
          have hM := (GL.start wc).new rfl [.int .i64 (p : Int)] 3
          generalize hweq : wc.alloc (.cells #[.int .i64 (p : Int)] 3) = yd at hM
          have hcu := (hM.get _ _ mZ).cell 0 (by simp)
          simp only [List.getElem_cons_zero] at hcu
          replace hcu := Lib.hid hcu
          replace hRa := Lib.hid (hRa.out.below hM.bl)
          replace hRw := Lib.hid (own_below hRw.out hM.bl)
          replace hL0 := hL0.call hM.bl
          have hCs2 : C ≤ yd.heap.size := Nat.le_trans hCs hM.bl.size
          clear hM
          go_wp2_with (at_builtin; refine wp_append_all undRw infoRw rfl (by decide) ⟨0, rfl⟩ rfl _ _ rfl C _ _ ls rfl hRa.out ⟨wc.heap.size, 0, none⟩ 1 (.int .i64 (p : Int)) ⟨_, rfl⟩ rfl rfl hcu.out (by have := hti.out; have := hnp.out; omega) hCs2 ?_)
          intro v' w8 hown8 hgrow
          obtain ⟨av8, cv8, rfl⟩ := own_form12 hown8.1
          have hdj := row_dj isI_no hRw.out hRa.out hnl.out
          have hL8 := gl_grown hL0 hgrow (fun z hz => ⟨Nat.le_trans hwC.out (hRa.out.1.lt z hz).1, fun q hq => by
           have h9 := (hRa.out.1.lt z hz).1
           have h7 := hkm2.out
           have h6 := hks2.out
           simp only [List.mem_cons, List.not_mem_nil, or_false] at hq
           rcases hq with rfl | rfl <;> (show _ ≠ z; omega)⟩)
          replace hRw := Lib.hid (own_grown hRw.out hgrow hdj)
          have hCs3 : C ≤ w8.heap.size := Nat.le_trans hCs2 hgrow.size
          replace hown8 := Lib.hid hown8
          clear hL0 hgrow hdj hRa hcu hweq hCs2
          have hL0 := hL8
          clear hL8
          obtain ⟨f0, f1, f2, f3, f4⟩ := fsc (hd_fs (hL0.get _ _ (mK mZ))) p (by rw [hAl.out]; exact hpn9)
          obtain ⟨q, hq⟩ : ∃ q, q = gv A9 p := ⟨_, rfl⟩
          rw [← hq] at f0 f1 f2 f3 f4
          replace hq := Lib.hid hq
          have hM := (GL.start w8).new rfl [.int .u64 ((zl q.num : Nat) : Int), .string (zh q.num), .bool (zs q.num), .int .u64 ((lo (fe q) : Nat) : Int), .string (hs (fe q))] 36
          generalize hweq : w8.alloc (.cells #[.int .u64 ((zl q.num : Nat) : Int), .string (zh q.num), .bool (zs q.num), .int .u64 ((lo (fe q) : Nat) : Int), .string (hs (fe q))] 36) = w9 at hM
          have hH := Lib.hid (hM.get _ _ mZ)
          replace hown8 := Lib.hid (hown8.out.below hM.bl)
          replace hRw := Lib.hid (own_below hRw.out hM.bl)
          replace hL0 := hL0.call hM.bl
          have hCs4 : C ≤ w9.heap.size := Nat.le_trans hCs3 hM.bl.size
          clear hM
          go_wp2_with (at_builtin; refine wp_appendV rfl _ _ rfl C _ _ _ rfl hRw.out _ q rfl hH.out (by have := hti.out; have := hnp.out; omega) hCs4 ?_)
          intro v' wA hownA hgrow hor
          obtain ⟨awA, cwA, rfl⟩ := own_form12 hownA
          have hdj := row_dj isI_no hRw.out hown8.out hnl.out
          have hL8 := gl_grown hL0 hgrow (fun z hz => ⟨Nat.le_trans hwC.out (hRw.out.lt z hz).1, fun q hq => by
           have h9 := (hRw.out.lt z hz).1
           have h7 := hkm2.out
           have h6 := hks2.out
           simp only [List.mem_cons, List.not_mem_nil, or_false] at hq
           rcases hq with rfl | rfl <;> (show _ ≠ z; omega)⟩)
          have hRa2 := Lib.hid (hown8.out.grown hgrow fun z hz e => hdj z e hz)
          have hCs5 : C ≤ wA.heap.size := Nat.le_trans hCs4 hgrow.size
          replace hownA := Lib.hid hownA
          clear hL0 hgrow hdj hRw hor hH hweq f0 f1 f2 f3 f4 hown8 hCs3 hCs4 hCs
          go_wp2_with fail
          go_roundg (np - (i + 1))
          case measure => omega
          case rel => exact ⟨i + 1, t + 1, _, _, by omega, by first | rfl | go_num, by omega, by rw [htk.out, List.length_append, ← ht.out]; rfl, by rw [htk.out, ← pv_snoc, ← hls.out], hRa2.out, by rw [htk.out, List.map_append, List.map_take]; have h9 := hownA.out; rw [hq.out] at h9; exact h9, (fun h => absurd h (Nat.succ_ne_zero _)), hL8, hCs5⟩
        ·have hend9 : ps.length ≤ i := by rw [hp0.out (by omega)]; exact Nat.zero_le _
         skip
         have hI9 := hRa.out.1
         rw [hls.out] at hI9
         have hlt : ps.take i = ps := List.take_of_length_le hend9
         have hI := own_ils hI9 ht.out
         rw [hlt] at hI
         have hWq := hRw.out.slq
         rw [hlt] at hWq
         have hs1 := slq_hd (hL0.get _ _ (mK mZ)) rfl hAl.out.symm
         have hpl9 := Lib.hid (show t = ps.length by rw [ht.out, hlt])
         have hpb : t ≤ 20 := by
          rcases Nat.eq_zero_or_pos n with h | h
          ·rw [hpl9.out, hp0.out h]; exact Nat.zero_le _
          ·rw [hpl9.out, hpn.out h]; exact hnp.out
         clear hI9 hRa hRw hnl hls hlt
         go_wp2_with fail
         with_reducible refine Calls.mono (HPa2.out _ _ _ hs1 hI) ?_
         rintro e v1 ⟨pd, rfl, hd, hb⟩
         replace hL0 := hL0.call hb
         replace hWq := hWq.below hb
         clear hb hI hs1
         obtain ⟨do9, dc9, rfl⟩ := ptn_form hd (show ((ps).map fun p => gv A9 p).length = t by rw [List.length_map, hpl9.out])
         clear hpl9
         go_wp2_with fail
         with_reducible refine Calls.mono (HSd2.out _ _ _ hd hWq) ?_
         rintro e v2 ⟨rfl, hb⟩
         replace hL0 := hL0.call hb
         clear hb hd hWq
         go_wp2_with fail
         with_reducible refine Calls.mono (HW.out _ (hKT.out.at hL0.bl kKT)) ?_
         rintro e v3 ⟨rfl, hb⟩
         replace hL0 := hL0.call hb
         go_wp2_with fail
         exact bodyPost_ret (v := .bool true) (by simp [results, Tryz.results3, go_sem]) rfl ⟨rfl, hL0.bl⟩
       ·subst hzi
        have k1 : ¬ (i : Int) < (np : Int) := by omega
        have hend9 : ps.length ≤ i := by
         rcases Nat.eq_zero_or_pos n with h | h
         ·rw [hp0.out h]; exact Nat.zero_le _
         ·rw [hpn.out h]; exact hi
        skip
        have hI9 := hRa.out.1
        rw [hls.out] at hI9
        have hlt : ps.take i = ps := List.take_of_length_le hend9
        have hI := own_ils hI9 ht.out
        rw [hlt] at hI
        have hWq := hRw.out.slq
        rw [hlt] at hWq
        have hs1 := slq_hd (hL0.get _ _ (mK mZ)) rfl hAl.out.symm
        have hpl9 := Lib.hid (show t = ps.length by rw [ht.out, hlt])
        have hpb : t ≤ 20 := by
         rcases Nat.eq_zero_or_pos n with h | h
         ·rw [hpl9.out, hp0.out h]; exact Nat.zero_le _
         ·rw [hpl9.out, hpn.out h]; exact hnp.out
        clear hI9 hRa hRw hnl hls hlt
        go_wp2_with fail
        with_reducible refine Calls.mono (HPa2.out _ _ _ hs1 hI) ?_
        rintro e v1 ⟨pd, rfl, hd, hb⟩
        replace hL0 := hL0.call hb
        replace hWq := hWq.below hb
        clear hb hI hs1
        obtain ⟨do9, dc9, rfl⟩ := ptn_form hd (show ((ps).map fun p => gv A9 p).length = t by rw [List.length_map, hpl9.out])
        clear hpl9
        go_wp2_with fail
        with_reducible refine Calls.mono (HSd2.out _ _ _ hd hWq) ?_
        rintro e v2 ⟨rfl, hb⟩
        replace hL0 := hL0.call hb
        clear hb hd hWq
        go_wp2_with fail
        with_reducible refine Calls.mono (HW.out _ (hKT.out.at hL0.bl kKT)) ?_
        rintro e v3 ⟨rfl, hb⟩
        replace hL0 := hL0.call hb
        go_wp2_with fail
        exact bodyPost_ret (v := .bool true) (by simp [results, Tryz.results3, go_sem]) rfl ⟨rfl, hL0.bl⟩
end Go.Proofs.YthffglapmkkohaaGreatDoor
namespace Go.Proofs.YthffglapmkkohaaGreatDoor
open Go.RowKit
attribute [local irreducible] lo hs sm s64 c64 d64 b64 mh ml pd pc qd qc val hiB str cmpI srD lz nb zl zh zs fe qmade
theorem vmixV_nil (ac ao : Option Addr) (cc c : Nat) (w : World) :
  Calls Tryz.prog 17 #[.slice ac 0 cc, .slice ao 0 c] w fun xe w' => xe = .returned (.tuple #[.slice none 0 0, .int .i64 0]) ∧ Below w.heap.size w w' := by
 have HF := Lib.hid (fun v w hv => vfault_ok (L := []) (n := 0) (by simp) (by simp) (by omega) v w hv)
 have HC := Lib.hid (fun fv w => vcombine_nil fv ao c w)
 have hL0 : GL w w [] := GL.start w
 obtain ⟨x1, hweq, hL0⟩ := GL.named ((hL0.new rfl [.slice ac 0 cc] 27).new (K := w.heap.size + 1) (szA _ _) [.slice ao 0 c] 26)
 have hc1 := (hL0.get _ _ (mK mZ)).cell 0 (by simp)
 simp only [List.getElem_cons_zero, List.getElem_cons_succ] at hc1
 have hc2 := (hL0.get _ _ mZ).cell 0 (by simp)
 simp only [List.getElem_cons_zero, List.getElem_cons_succ] at hc2
 replace hL0 := Lib.hid hL0
 go_enter Tryz.func17, Tryz.ntmps17
 go_wp2_with fail
 with_reducible refine Calls.mono (HF.out _ _ (VLs.nil _ ao c)) ?_
 rintro e y1 ⟨rfl, hb1⟩
 have hd1 := keepsC hb1 hc1
 have hd2 := keepsC hb1 hc2
 have hL1 := Lib.hid (hL0.out.call hb1)
 clear hb1 hc1 hc2 hweq hL0
 go_wp2_with fail
 with_reducible refine Calls.mono (HC.out _ _) ?_
 rintro e y2 ⟨rfl, hb⟩
 replace hb := Lib.hid (hL1.out.bl.trans (hb.mono hL1.out.bl.size))
 clear hd1 hd2
 go_wp2_with fail
 exact bodyPost_ret (v := .tuple #[.slice none 0 0, .int .i64 0]) (by simp [results, Tryz.results17, go_sem]) rfl ⟨rfl, hb.out⟩
theorem sm_tab (n m : Nat) (F : Nat → Nat → Rat) : smV n m F 0 = tabV n fun a => bsV m fun j => F j a := tab_ext fun a ha => by rw [if_neg (Nat.not_lt_zero _)]
theorem ur_len (m : Nat) (U : Nat → List Rat) : ((List.range m).map U).length = m := by rw [List.length_map, List.length_range]
theorem ur_at {m k : Nat} (U : Nat → List Rat) (h : k < m) : ((List.range m).map U).getD k [] = U k := by
 rw [List.getD_eq_getElem?_getD, List.getElem?_eq_getElem (by rw [ur_len]; exact h)]; simp
theorem ur_all {m : Nat} {U : Nat → List Rat} {P : List Rat → Prop} (h : ∀ i, i < m → P (U i)) : ∀ l ∈ (List.range m).map U, P l := fun l hl => by
 obtain ⟨i, hi, rfl⟩ := List.mem_map.1 hl
 exact h i (List.mem_range.1 hi)
theorem part_map (x : List Rat) (ps : List Nat) : tabV ps.length (partV x ps) = ps.map fun p => gv x p := by
 refine List.ext_getElem (by rw [tabV_len, List.length_map]) fun i h1 h2 => ?_
 have hi : i < ps.length := by rwa [tabV_len] at h1
 rw [← gv_get h1, gv_tab hi, List.getElem_map]
 unfold partV
 rw [List.getD_eq_getElem?_getD, List.getElem?_eq_getElem hi]; rfl
theorem int_sz {i : Nat} (h : i < 8) : Sz ((i : Int) : Rat) 1 := Sz.int (by
 have : ∀ j, j < 8 → dI ((j : Nat) : Int) ≤ 1 := by decide +kernel
 exact this i h) (by decide)
section
variable {U : Nat → List Rat} {Z : Nat → Rat} {n m : Nat} (hm : m ≤ 8) (hn : n ≤ 20) (hU : ∀ i, i < m → GV (U i) n 1) (hZ : ∀ i, i < m → Sz (Z i) 1)
include hm hn hU
theorem SuE (v : Value) (w : World) (hv : VLs w v ((List.range m).map U)) (hz : m = 0 → n = 0) :
  Calls Tryz.prog 16 #[v] w fun e w' => ∃ pv, e = .returned (.tuple #[pv, .int .i64 0]) ∧ PT w' pv (smV n m (fun j k => gv (U j) k) 0) ∧ Below w.heap.size w w' := by
 rcases Nat.eq_zero_or_pos m with h0 | h0
 ·obtain rfl := h0
  obtain rfl := hz rfl
  obtain ⟨ao, c, g, rfl, -, -⟩ := hv
  exact (vsumV_nil ao c w).mono fun e w' ⟨h1, h2⟩ => ⟨_, h1, pt_nil w', h2⟩
 ·have h := nv_two (vsumV ((List.range m).map U) n 1 (by rw [ur_len]; exact h0) (by rw [ur_len]; omega) (ur_all fun i hi => (hU i hi).len) (by omega) (by omega) (ur_all fun i hi => (hU i hi).sz) v w hv)
  have e : (tabV n fun i => bsV ((List.range m).map U).length (colV ((List.range m).map U) i)) = smV n m (fun j k => gv (U j) k) 0 := by
   rw [sm_tab, ur_len]
   exact tab_ext fun a ha => bs_congr fun j hj => by unfold colV; rw [ur_at U hj]
  rwa [e] at h
include hZ
theorem MxE (u v : Value) (w : World) (hu : PT w u ((List.range m).map Z)) (hv : VLs w v ((List.range m).map U)) (hz : m = 0 → n = 0) :
  Calls Tryz.prog 17 #[u, v] w fun e w' => ∃ pv, e = .returned (.tuple #[pv, .int .i64 0]) ∧ PT w' pv (smV n m (fun j k => Z j * gv (U j) k) 0) ∧ Below w.heap.size w w' := by
 rcases Nat.eq_zero_or_pos m with h0 | h0
 ·obtain rfl := h0
  obtain rfl := hz rfl
  obtain ⟨ac, k, cc, rfl, hk⟩ := pt_form hu
  obtain ⟨ao, c, g, rfl, -, -⟩ := hv
  obtain rfl : k = 0 := hk
  exact (vmixV_nil ac ao cc c w).mono fun e w' ⟨h1, h2⟩ => ⟨_, h1, pt_nil w', h2⟩
 ·have h := nv_two (vmixV ((List.range m).map Z) ((List.range m).map U) n 1 (by rw [ur_len]; exact h0) (by rw [ur_len, List.length_map, List.length_range]) (by rw [ur_len]; omega) (ur_all fun i hi => (hU i hi).len) (by omega) (by omega) (ur_all fun i hi => (hU i hi).sz) (fun q hq => by
   obtain ⟨i, hi, rfl⟩ := List.mem_map.1 hq
   exact hZ i (List.mem_range.1 hi)) u v w hu hv)
  have e : tabV n (mixV ((List.range m).map Z) ((List.range m).map U)) = smV n m (fun j k => Z j * gv (U j) k) 0 := by
   rw [sm_tab]
   refine tab_ext fun a ha => ?_
   unfold mixV
   rw [ur_len]
   refine bs_congr fun j hj => ?_
   have e1 : gv ((List.range m).map Z) j = Z j := gv_tab hj
   unfold colV
   rw [e1, ur_at U hj]
  rwa [e] at h
end
theorem sm_gv {n m K : Nat} {F : Nat → Nat → Rat} (h : ∀ j a, j < m → a < n → Sz (F j a) K) : GV (smV n m F 0) n (m * (K + 1) + 1) := by
 rw [sm_tab]
 exact GV.tab fun a ha => bs_sz fun j hj => h j a hj ha
theorem vsums_any (lc : List (Int × Int)) (Ls : List (List (Int × Int))) (pz : List Int) (ac al ap : Option Addr) (nc cc m cl np cp : Nat) (w : World) (h0 : QV w (.slice ac nc cc) lc) (h1 : QVV w (.slice al m cl) Ls) (h2 : IA w (.slice ap np cp) pz) (ht : Tab w) :
  Calls Tryz.prog 3 #[.slice ac nc cc, .slice al m cl, .slice ap np cp] w fun e w' => e = .returned (.bool true) ∧ Below w.heap.size w w' := by
 by_cases g1 : 8 < nc
 ·exact vsums_l1 ac al ap nc cc m cl np cp Tab Keeps.tab vworks_any (decide_eq_true (by omega)) (decide_eq_true g1) w ht
 by_cases g2 : 8 < m
 ·exact vsums_l2 ac al ap nc cc m cl np cp Tab Keeps.tab vworks_any (decide_eq_false (by omega)) (decide_eq_false g1) (decide_eq_true (by omega)) (decide_eq_true g2) w ht
 by_cases g3 : 20 < np
 ·exact vsums_l3 ac al ap nc cc m cl np cp Tab Keeps.tab vworks_any (decide_eq_false (by omega)) (decide_eq_false g1) (decide_eq_false (by omega)) (decide_eq_false g2) (decide_eq_true (by omega)) (decide_eq_true g3) w ht
 obtain ⟨f, hf⟩ : ∃ f : Nat → Nat, f = fun i => (Ls.getD i []).length := ⟨_, rfl⟩
 obtain ⟨n, hn⟩ : ∃ n, n = min (mnV f m) (20 * m) := ⟨_, rfl⟩
 obtain ⟨hm1, hm2⟩ := mn_le f m
 have hnf : ∀ i, i < m → n ≤ f i := fun i hi => by have := hm2 i hi; omega
 have hn20 : n ≤ 20 := by omega
 have hz : m = 0 → n = 0 := fun h => by subst h; rw [hn]; exact Nat.min_eq_right (Nat.zero_le _)
 have hQR : ∀ i, i < m → ∀ p ∈ Ls.getD i [], QR p := fun i hi => by
  obtain ⟨aa, -, bo, mi, k, -, hq⟩ := h1.at i hi
  exact qv_rg hq
 have hU : ∀ i, i < m → GV (((Ls.getD i []).take n).map qm) n 1 := fun i hi => gv_of (by rw [List.length_take]; have := hnf i hi; rw [hf] at this; exact Nat.min_eq_left this) (take_rg (hQR i hi) n)
 have hcR : ∀ i, i < nc → QR (lc.getD i (0, 0)) := fun i hi => by
  have hl := qv_len h0
  rw [List.getD_eq_getElem?_getD, List.getElem?_eq_getElem (by omega)]
  exact qv_rg h0 _ (List.getElem_mem _)
 obtain ⟨Z, hZd⟩ : ∃ Z : Nat → Rat, Z = fun i => if i < nc then qm (lc.getD i (0, 0)) else ((i : Int) : Rat) := ⟨_, rfl⟩
 have hZ1 : ∀ i, i < nc → Z i = qm (lc.getD i (0, 0)) := fun i hi => by rw [hZd]; exact if_pos hi
 have hZ2 : ∀ i, ¬ i < nc → Z i = ((i : Int) : Rat) := fun i hi => by rw [hZd]; exact if_neg hi
 have hZ : ∀ i, i < m → Sz (Z i) 1 := fun i hi => by
  by_cases h : i < nc
  ·rw [hZ1 i h]; exact qm_sz (hcR i h)
  ·rw [hZ2 i h]; exact int_sz (by omega)
 have hpz : pz.length = np := by obtain ⟨ao, c, e, -⟩ := h2; simp at e; omega
 have hpl := pls_len pz n
 obtain ⟨U, hUd⟩ : ∃ U : Nat → List Rat, U = fun i => ((Ls.getD i []).take n).map qm := ⟨_, rfl⟩
 have hU' : ∀ i, i < m → GV (U i) n 1 := fun i hi => by rw [hUd]; exact hU i hi
 have s1 : ∀ i k, i < m → k < n → Sz (gv (U i) k) 1 := fun i k hi hk => (hU' i hi).at k hk
 have s2 : ∀ i k, i < m → k < n → Sz (Z i * gv (U i) k) 2 := fun i k hi hk => (hZ i hi).mul (s1 i k hi hk)
 have b1 : ∀ i k, i < m → k < n → Sz (bsV i fun j => gv (U j) k) 100 := fun i k hi hk => (bs_sz (k := 1) fun j hj => s1 j k (by omega) hk).mono (by omega)
 have b2 : ∀ i k, i < m → k < n → Sz (bsV i fun j => Z j * gv (U j) k) 100 := fun i k hi hk => (bs_sz (k := 2) fun j hj => s2 j k (by omega) hk).mono (by omega)
 have G1 := sm_gv (F := fun j k => gv (U j) k) s1
 have G2 := sm_gv (F := fun j k => Z j * gv (U j) k) s2
 refine vsums_w ac al ap nc cc m cl np cp n f lc Ls pz U Z (fun i => ((i : Int) : Rat)) (fun w => Tab w ∧ QVV w (.slice al m cl) Ls ∧ QV w (.slice ac nc cc) lc ∧ IA w (.slice ap np cp) pz)
  (Keeps.and Keeps.tab (Keeps.and (QVV.keeps _ _) (Keeps.and (QV.keeps _ _) (IA.keeps _ _)))) (fun w h => vworks_any w h.1)
  (decide_eq_false (by omega)) (decide_eq_false g1) (decide_eq_false (by omega)) (decide_eq_false g2) (decide_eq_false (by omega)) (decide_eq_false g3)
  (fun w h => h.2) (by omega) hn20 (fun i hi => by rw [hf]) hnf (fun i hi => (hU' i hi).len) (fun i hi h => hZ2 i h)
  (fun i hi bo mi k w hq => ?_) (fun i hi w => intF (i : Int) (by omega) (by omega) w) (fun i hi _ w => by rw [hZ1 i hi]; exact qmof (hcR i hi) w)
  (fun i k hi hk w => addF _ _ 100 (b1 i k hi hk) ((s1 i k hi hk).mono (by omega)) (by omega) w) (fun i k hi hk w => mulF _ _ 1 (hZ i hi) (s1 i k hi hk) (by omega) w)
  (fun i k hi hk w => addF _ _ 100 (b2 i k hi hk) ((s2 i k hi hk).mono (by omega)) (by omega) w)
  (fun v w hv => SuE (by omega) hn20 hU' v w hv hz) (fun u v w hu hv => MxE (by omega) hn20 hU' hZ u v w hu hv hz)
  (fun u v w hu hv => sameT G1 (by omega) u v w hu hv) (fun u v w hu hv => sameT G2 (by omega) u v w hu hv)
  (fun u v w hu hv => ?_) (fun u v w hu hv => sameT (n := (plsL pz n).length) (k := m * (1 + 1) + 1) ⟨by rw [List.length_map], fun q hq => ?_⟩ (by omega) u v w hu hv)
  (by omega) hpz (by rw [hn]; omega) w ⟨ht, h1, h0, h2⟩
 ·have hl : (Ls.getD i []).length = mi := qv_len hq
  have hni : n ≤ mi := by rw [← hl]; have := hnf i hi; rw [hf] at this; exact this
  have := vVf_w ((Ls.getD i []).take n) n (by rw [List.length_take]; omega) (by omega) (.slice bo n k) w (hq.take n hni)
  rw [hUd]
  exact this
 ·have := nv_two (vpartV _ (plsL pz n) n (plsL pz n).length G1.len (by omega) rfl (by omega) pls_lt u v w hu hv)
  rwa [part_map] at this
 ·obtain ⟨p, hp, rfl⟩ := List.mem_map.1 hq
  exact G1.at p (pls_lt p hp)
end Go.Proofs.YthffglapmkkohaaGreatDoor
namespace Go.Proofs.YthffglapmkkohaaGreatDoor
open Go.ChangeShapes Go.WideShapes Go.ChangeAt Go.RowKit
theorem own : ownKnob Tryz.prog.godebug = none := by kernel_rfl
theorem laidOut : laidOutB Tryz.prog = true := by kernel_rfl
theorem cells24 : Tryz.prog.cellsOf 30 = 1 := by kernel_rfl
/-- The variables that every row of this layer lists. -/
def laidAll : List (String × DataW Unit) := [("math/bits.deBruijn32tab", Rows.laid_math_bits_deBruijn32tab), ("math/bits.deBruijn64tab", Rows.laid_math_bits_deBruijn64tab), ("internal/strconv.uint64pow10", Rows.laid_internal_strconv_uint64pow10)]
theorem gPow : Tryz.prog.globalNamed "internal/strconv.uint64pow10" = some 3 := by kernel_rfl
theorem gPowType : (Tryz.prog.globals[3]?).map (·.type) = some 257 := by kernel_rfl
theorem cells20 : Tryz.prog.cellsOf 257 = 20 := by kernel_rfl
theorem tab_of {W : World} (h : laidMetH Tryz.prog laidAll W) : Tab W := by
 have h1 := laidMetH.filter (fun x => x.1 == "internal/strconv.uint64pow10") h
 have e : laidAll.filter (fun x => x.1 == "internal/strconv.uint64pow10") = [("internal/strconv.uint64pow10", Rows.laid_internal_strconv_uint64pow10)] := by kernel_rfl
 rw [e, MakeChecks.laidMetH_plain _ _ _ (by kernel_rfl)] at h1
 exact Lib.tabIs_of_head (rest := []) gPow gPowType Tryz.underlying257 Tryz.underlying30 cells24 cells20 (show laidMet Tryz.prog (("internal/strconv.uint64pow10", Lib.tabData .u64 Lib.pow10Tab) :: []) W from h1)
end Go.Proofs.YthffglapmkkohaaGreatDoor
namespace Go.Proofs.YthffglapmkkohaaGreatDoor
open Go.ChangeShapes Go.WideShapes Go.ChangeAt Go.RowKit Go.Joins
theorem cellsQ : Tryz.prog.cellsOf 40 = 2 := by kernel_rfl
theorem cellsI : Tryz.prog.cellsOf 2 = 1 := by kernel_rfl
theorem cellsU : Tryz.prog.cellsOf 38 = 1 := by kernel_rfl
end Go.Proofs.YthffglapmkkohaaGreatDoor
namespace Go.Proofs.YthffglapmkkohaaGreatDoor
open Go.ChangeShapes Go.WideShapes Go.ChangeAt Go.RowKit Go.Joins
section
variable {H : Type} {enc : TypeId × Value → H} {P : Program} {w : World} {base : Nat} {spare : Nat → Bool} {held : Bool}
end
theorem addaddV (a : Addr) (i j : Nat) : (a.add i).add j = a.add (i + j) := by
 unfold Addr.add
 by_cases h : i = 0
 ·subst h; simp
 ·by_cases h2 : j = 0
  ·subst h2; simp [h]
  ·simp [h, h2, Nat.add_assoc]
theorem qv_of {H : Type} {enc : TypeId × Value → H} {W : World} {base : Nat} {v : Value} {d : DataW H} {p : List MemPlace} (hv : Value.okWide Tryz.prog W .any base 22 v)
  (h : DataW.Trod enc Tryz.prog W 0 (fun _ => true) true 22 v d p) : ∃ a n c l, v = .slice a n c ∧ QV W (.slice a n c) l := by
 obtain ⟨a0, len, cap, rfl⟩ := okWide_slice Tryz.underlying22 hv
 obtain ⟨fuel, hf⟩ := h
 rcases Go.Deep.open_slice_pairs Tryz.underlying22 Tryz.underlying40 cellsQ rfl rfl cellsI cellsU hf with ⟨hcs, hx⟩ | ⟨a, len', cap', m, n, V0, V1, D0, D1, P0, P1, hcs, _, hl, _, hm, hx, hcell⟩
 ·simp [Value.cells] at hcs
  obtain ⟨rfl, rfl, rfl⟩ := hcs
  exact ⟨none, 0, 0, [], rfl, none, 0, rfl, Nat.le_refl _, fun _ => rfl, fun h => absurd h (Nat.lt_irrefl _)⟩
 ·simp [Value.cells] at hcs
  obtain ⟨rfl, rfl, rfl⟩ := hcs
  simp only [if_true] at hm
  by_cases h0 : len = 0
  ·subst h0
   exact ⟨some a, 0, cap, [], rfl, some a, cap, rfl, Nat.zero_le _, (fun h => by cases h), fun h => absurd h (Nat.lt_irrefl _)⟩
  have each : ∀ i, i < len → ∃ z : Int × Int, W.cell? (a.add (i * 2)) = some (.int .i64 z.1) ∧ W.cell? ((a.add (i * 2)).add 1) = some (.int .u32 z.2) ∧ (-9223372036854775808 ≤ z.1 ∧ z.1 < 9223372036854775808) ∧ 0 ≤ z.2 ∧ z.2 < 4294967296 := by
   intro i hi
   obtain ⟨e0, e1, g0, g1⟩ := hcell i (by omega)
   obtain ⟨x, y0, -, f0⟩ := DataW.trod_int Tryz.underlying2 g0
   obtain ⟨y, y1, -, f1⟩ := DataW.trod_int Tryz.underlying38 g1
   simp only [List.cons.injEq, and_true] at y0 y1
   rw [y0] at e0
   rw [y1] at e1
   have b0 := bounds_i64 f0
   have b1 := bounds_u32 f1
   exact ⟨(x, y), e0, by rw [addaddV]; exact e1, by omega, by omega⟩
  obtain ⟨q, hq⟩ := Go.Deep.choose_lt each
  refine ⟨some a, len, cap, (List.range len).map q, rfl, some a, cap, by simp, by simpa using hl, (fun h => by cases h), fun _ => ⟨a, rfl, fun i hi => ?_, fun i hi => ?_, fun z hz => ?_, ?_⟩⟩
  ·have hi' : i < len := by simpa using hi
   have := (hq i hi').1
   simpa using this
  ·have hi' : i < len := by simpa using hi
   have := (hq i hi').2.1
   simpa using this
  ·obtain ⟨i, hi, rfl⟩ := List.mem_map.1 hz
   exact (hq i (List.mem_range.1 hi)).2.2
  ·have e := (hq 0 (by omega)).1
   have := World.block_lt_of_cell? W _ e
   rw [add_blk] at this
   exact this
end Go.Proofs.YthffglapmkkohaaGreatDoor
namespace Go.Proofs.YthffglapmkkohaaGreatDoor
open Go.ChangeShapes Go.WideShapes Go.ChangeAt Go.RowKit Go.Joins
theorem cellsInt : Tryz.prog.cellsOf 3 = 1 := by kernel_rfl
theorem cellsQs : Tryz.prog.cellsOf 22 = 1 := by kernel_rfl
theorem undQQ : Tryz.prog.underlying 23 = some (.slice 22) := by kernel_rfl
theorem undII : Tryz.prog.underlying 24 = some (.slice 3) := by kernel_rfl
theorem qv_open {H : Type} {enc : TypeId × Value → H} {W : World} {fuel : Nat} {cs : List Value} {x : DataW H × List MemPlace}
  (hf : DataW.trod enc Tryz.prog W 0 (fun _ => true) true fuel 22 cs = some x) : ∃ a n c l, cs = [.slice a n c] ∧ QV W (.slice a n c) l := by
 rcases Go.Deep.open_slice_pairs Tryz.underlying22 Tryz.underlying40 cellsQ rfl rfl cellsI cellsU hf with ⟨rfl, hx⟩ | ⟨a, len, cap, m, n, V0, V1, D0, D1, P0, P1, rfl, _, hl, _, hm, hx, hcell⟩
 ·exact ⟨none, 0, 0, [], rfl, none, 0, rfl, Nat.le_refl _, fun _ => rfl, fun h => absurd h (Nat.lt_irrefl _)⟩
 ·simp only [if_true] at hm
  by_cases h0 : len = 0
  ·subst h0
   exact ⟨some a, 0, cap, [], rfl, some a, cap, rfl, Nat.zero_le _, (fun h => by cases h), fun h => absurd h (Nat.lt_irrefl _)⟩
  have each : ∀ i, i < len → ∃ z : Int × Int, W.cell? (a.add (i * 2)) = some (.int .i64 z.1) ∧ W.cell? ((a.add (i * 2)).add 1) = some (.int .u32 z.2) ∧ (-9223372036854775808 ≤ z.1 ∧ z.1 < 9223372036854775808) ∧ 0 ≤ z.2 ∧ z.2 < 4294967296 := by
   intro i hi
   obtain ⟨e0, e1, g0, g1⟩ := hcell i (by omega)
   obtain ⟨x, y0, -, f0⟩ := DataW.trod_int Tryz.underlying2 g0
   obtain ⟨y, y1, -, f1⟩ := DataW.trod_int Tryz.underlying38 g1
   simp only [List.cons.injEq, and_true] at y0 y1
   rw [y0] at e0
   rw [y1] at e1
   have b0 := bounds_i64 f0
   have b1 := bounds_u32 f1
   exact ⟨(x, y), e0, by rw [addaddV]; exact e1, by omega, by omega⟩
  obtain ⟨q, hq⟩ := Go.Deep.choose_lt each
  refine ⟨some a, len, cap, (List.range len).map q, rfl, some a, cap, by simp, by simpa using hl, (fun h => by cases h), fun _ => ⟨a, rfl, fun i hi => ?_, fun i hi => ?_, fun z hz => ?_, ?_⟩⟩
  ·have hi' : i < len := by simpa using hi
   have := (hq i hi').1
   simpa using this
  ·have hi' : i < len := by simpa using hi
   have := (hq i hi').2.1
   simpa using this
  ·obtain ⟨i, hi, rfl⟩ := List.mem_map.1 hz
   exact (hq i (List.mem_range.1 hi)).2.2
  ·have e := (hq 0 (by omega)).1
   have := World.block_lt_of_cell? W _ e
   rw [add_blk] at this
   exact this
theorem qvv_of {H : Type} {enc : TypeId × Value → H} {W : World} {base : Nat} {v : Value} {d : DataW H} {p : List MemPlace} (hv : Value.okWide Tryz.prog W .any base 23 v)
  (h : DataW.Trod enc Tryz.prog W 0 (fun _ => true) true 23 v d p) : ∃ a n c Ls, v = .slice a n c ∧ QVV W (.slice a n c) Ls := by
 obtain ⟨a0, len, cap, rfl⟩ := okWide_slice undQQ hv
 obtain ⟨fuel, hf⟩ := h
 rcases Go.Deep.open_slice undQQ hf with ⟨hcs, hx⟩ | ⟨a, len', cap', m, n, D, Pl, hcs, _, hl, _, hm, _, hcell⟩
 ·simp [Value.cells] at hcs
  obtain ⟨rfl, rfl, rfl⟩ := hcs
  exact ⟨none, 0, 0, [], rfl, none, 0, rfl, Nat.le_refl _, fun _ => rfl, fun h => absurd h (Nat.lt_irrefl _)⟩
 ·simp [Value.cells] at hcs
  obtain ⟨rfl, rfl, rfl⟩ := hcs
  simp only [if_true] at hm
  by_cases h0 : len = 0
  ·subst h0
   exact ⟨some a, 0, cap, [], rfl, some a, cap, rfl, Nat.zero_le _, (fun h => by cases h), fun h => absurd h (Nat.lt_irrefl _)⟩
  have each : ∀ i, i < len → ∃ z : (Option Addr × Nat × Nat) × List (Int × Int), W.cell? (a.add i) = some (.slice z.1.1 z.1.2.1 z.1.2.2) ∧ QV W (.slice z.1.1 z.1.2.1 z.1.2.2) z.2 := by
   intro i hi
   obtain ⟨cs', h1, h2⟩ := hcell i (by omega)
   obtain ⟨b, k, c, l, rfl, hq⟩ := qv_open h2
   rw [cellsQs] at h1
   obtain ⟨_, _, hc⟩ := World.cells?_some h1
   have := hc 0 (by omega)
   rw [Nat.mul_one] at this
   exact ⟨((b, k, c), l), by simpa [addaddV] using this, hq⟩
  obtain ⟨q, hq⟩ := Go.Deep.choose_lt each
  refine ⟨some a, len, cap, (List.range len).map fun i => (q i).2, rfl, some a, cap, by simp, by simpa using hl, (fun h => by cases h), fun _ => ⟨a, rfl, ?_, fun i hi => ?_⟩⟩
  ·have e := (hq 0 (by omega)).1
   have := World.block_lt_of_cell? W _ e
   rwa [add_blk] at this
  ·have hi' : i < len := by simpa using hi
   exact ⟨_, _, _, (hq i hi').1, by simpa using (hq i hi').2⟩
theorem ia_of {H : Type} {enc : TypeId × Value → H} {W : World} {base : Nat} {v : Value} {d : DataW H} {p : List MemPlace} (hv : Value.okWide Tryz.prog W .any base 24 v)
  (h : DataW.Trod enc Tryz.prog W 0 (fun _ => true) true 24 v d p) : ∃ a n c zs, v = .slice a n c ∧ IA W (.slice a n c) zs := by
 obtain ⟨a0, len, cap, rfl⟩ := okWide_slice undII hv
 obtain ⟨fuel, hf⟩ := h
 rcases Go.Deep.open_slice undII hf with ⟨hcs, hx⟩ | ⟨a, len', cap', m, n, D, Pl, hcs, _, hl, _, hm, _, hcell⟩
 ·simp [Value.cells] at hcs
  obtain ⟨rfl, rfl, rfl⟩ := hcs
  exact ⟨none, 0, 0, [], rfl, none, 0, rfl, (fun z hz => by cases hz), fun h => absurd h (Nat.lt_irrefl _)⟩
 ·simp [Value.cells] at hcs
  obtain ⟨rfl, rfl, rfl⟩ := hcs
  simp only [if_true] at hm
  by_cases h0 : len = 0
  ·subst h0
   exact ⟨some a, 0, cap, [], rfl, some a, cap, rfl, (fun z hz => by cases hz), fun h => absurd h (Nat.lt_irrefl _)⟩
  have each : ∀ i, i < len → ∃ z : Int, W.cell? (a.add i) = some (.int .i64 z) ∧ -9223372036854775808 ≤ z ∧ z < 9223372036854775808 := by
   intro i hi
   obtain ⟨cs', h1, h2⟩ := hcell i (by omega)
   obtain ⟨x, rfl, -, f0⟩ := DataW.trod_int Tryz.underlying3 h2
   have b0 := bounds_i64 f0
   rw [cellsInt] at h1
   obtain ⟨_, _, hc⟩ := World.cells?_some h1
   have := hc 0 (by omega)
   rw [Nat.mul_one] at this
   exact ⟨x, by simpa [addaddV] using this, by omega, by omega⟩
  obtain ⟨q, hq⟩ := Go.Deep.choose_lt each
  refine ⟨some a, len, cap, (List.range len).map q, rfl, some a, cap, by simp, fun z hz => ?_, fun _ => ⟨a, rfl, ?_, fun i hi => ?_⟩⟩
  ·obtain ⟨i, hi, rfl⟩ := List.mem_map.1 hz
   exact (hq i (List.mem_range.1 hi)).2
  ·have e := (hq 0 (by omega)).1
   have := World.block_lt_of_cell? W _ e
   rwa [add_blk] at this
  ·have hi' : i < len := by simpa using hi
   have := (hq i hi').1
   simpa using this
end Go.Proofs.YthffglapmkkohaaGreatDoor
