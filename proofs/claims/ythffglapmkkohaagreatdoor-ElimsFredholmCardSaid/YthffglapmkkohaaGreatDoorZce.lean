/-
  The law answers true at every input, and leaves its arguments as they were: a part of the proof. CONDITIONS: the package-level tables start as the program's text lays them (the card ties them).
-/
import Derived.Test.YthffglapmkkohaaGreatDoorZcd
set_option linter.unusedVariables false
set_option linter.unusedSimpArgs false
set_option maxHeartbeats 16000000
set_option maxRecDepth 100000
namespace Go.Proofs.YthffglapmkkohaaGreatDoor
open Go.RowKit
attribute [local irreducible] lo hs sm s64 c64 d64 b64 mh ml pd pc qd qc val hiB str cmpI srD lz nb zl zh zs fe rowV tabV gv bsV tabM
/-- A vector whose elements at the first pivots have been set. -/
def pvP (c : Nat) (pv : List Nat) (Z F : Nat → Rat) (i : Nat) : List Rat := tabV c fun j => if j ∈ pv.take i then F (pv.idxOf j) else Z j
theorem pvP_zero (c : Nat) (pv : List Nat) (Z F : Nat → Rat) : pvP c pv Z F 0 = tabV c Z := tab_ext fun j _ => by rw [List.take_zero, if_neg (by simp)]
theorem pvP_all (c : Nat) (pv : List Nat) (Z F : Nat → Rat) : pvP c pv Z F pv.length = tabV c fun j => if j ∈ pv then F (pv.idxOf j) else Z j := by unfold pvP; rw [List.take_length]
theorem pvP_len (c : Nat) (pv : List Nat) (Z F : Nat → Rat) (i : Nat) : (pvP c pv Z F i).length = c := tabV_len _ _
theorem pvP_step {c : Nat} {pv : List Nat} {Z F : Nat → Rat} {i : Nat} (hi : i < pv.length) (hc : pv[i] < c) (hx : pv.idxOf pv[i] = i) : (pvP c pv Z F i).set pv[i] (F i) = pvP c pv Z F (i + 1) := by
 refine List.ext_getElem (by rw [List.length_set, pvP_len, pvP_len]) fun a h1 h2 => ?_
 have ha : a < c := by rwa [pvP_len] at h2
 have ht : pv.take (i + 1) = pv.take i ++ [pv[i]] := by rw [List.take_add_one, List.getElem?_eq_getElem hi]; rfl
 have hm : ∀ b, b ∈ pv.take (i + 1) ↔ b ∈ pv.take i ∨ b = pv[i] := fun b => by rw [ht, List.mem_append, List.mem_singleton]
 have e2 : (pvP c pv Z F (i + 1))[a] = if a ∈ pv.take (i + 1) then F (pv.idxOf a) else Z a := by rw [← gv_get h2]; unfold pvP; rw [gv_tab ha]
 rw [List.getElem_set, e2]
 by_cases e : pv[i] = a
 ·rw [if_pos e, if_pos ((hm a).2 (.inr e.symm)), ← e, hx]
 ·rw [if_neg e]
  have h3 : a < (pvP c pv Z F i).length := by rw [pvP_len]; exact ha
  have e3 : (pvP c pv Z F i)[a] = if a ∈ pv.take i then F (pv.idxOf a) else Z a := by rw [← gv_get h3]; unfold pvP; rw [gv_tab ha]
  rw [e3]
  by_cases g : a ∈ pv.take i
  ·rw [if_pos g, if_pos ((hm a).2 (.inl g))]
  ·rw [if_neg g, if_neg (show ¬ a ∈ pv.take (i + 1) from fun h => ((hm a).1 h).elim g fun h => e h.symm)]
theorem up_idx {pv : List Nat} (up : ∀ r (h : r + 1 < pv.length), pv[r] < pv[r + 1]) (i : Nat) (hi : i < pv.length) : pv.idxOf pv[i] = i := by
 have h1 : pv.idxOf pv[i] < pv.length := List.idxOf_lt_length_of_mem (List.getElem_mem hi)
 have e : pv[pv.idxOf pv[i]] = pv[i] := List.getElem_idxOf h1
 rcases Nat.lt_trichotomy (pv.idxOf pv[i]) i with g | g | g
 ·have := up_lt' up g hi; omega
 ·exact g
 ·have := up_lt' up g h1; omega
theorem esolve_no (B g R n c K : Nat) (ru pu : Value) (bk : Nat → Nat) (s0 : ES) (hK : K ≤ 1000000) (hcn : c < n) (hn : n ≤ 5000) (hR : R ≤ 5000)
  (HI : ∀ k, k ≤ c → (descE R s0 k).pv.length ≤ R)
  (HS : ∀ k, k ≤ c → Sz (descE R s0 k).f K ∧ ∀ i, i < R → ∀ j, j < n → Sz ((descE R s0 k).G i j) K)
  (hno : ∃ i, (descE R s0 c).pv.length ≤ i ∧ i < R ∧ (descE R s0 c).G i c ≠ 0) (w : World) (h : GR B w g ru pu R n bk s0.G s0.pv s0.f) :
  Calls Tryz.prog 119 #[.pointer (some ⟨g, 0, none⟩), .int .i64 (c : Int)] w fun e w' => e = .returned (.tuple #[.slice none 0 0, .bool false]) ∧ Chs (fun k => B ≤ k) w w' := by
 have HD := Lib.hid (edescend_w B g R n c K ru pu bk s0 hK (by omega) hn hR HI HS w h)
 have hpl := Lib.hid (HI c (Nat.le_refl _))
 obtain ⟨D, hD⟩ : ∃ D, D = descE R s0 c := ⟨_, rfl⟩
 rw [← hD] at HD hno hpl
 clear HI HS hD h
 go_enter Tryz.func119, Tryz.ntmps119
 go_wp2_with fail
 with_reducible refine Calls.mono HD.out ?_
 rintro e y1 ⟨rfl, ⟨pu1, bk1, hG⟩, hch⟩
 clear HD
 obtain ⟨ra, rc, hru⟩ := hG.rform
 subst hru
 obtain ⟨pa, pc', hpu⟩ := hG.pform
 subst hpu
 have c0 := hG.cells.1
 have c1 := hG.cells.2.1
 obtain ⟨i9, h91, h92, h93⟩ := hno
 obtain ⟨z, rc', hz9, hzB, hzl, hzc, hzg, hrw, hzf⟩ := hG.rpos (by omega)
 obtain ⟨rfl, rfl⟩ : ra = some ⟨z, 0, none⟩ ∧ rc = rc' := by simpa using hz9
 obtain ⟨l, hl⟩ : ∃ l, l = D.pv.length := ⟨_, rfl⟩
 rw [← hl] at c1 h91 hpl
 obtain ⟨a2, rc2, hsl, ha2⟩ := rows_drop (z := z) (R := R) (c := rc) (t := l) (by omega) hpl.out hzc
 have lb : (l : Int) ≤ 5000 := by have := hpl.out; omega
 replace hl := Lib.hid hl
 obtain ⟨m, hm⟩ : ∃ m, m = R - l := ⟨_, rfl⟩
 rw [← hm] at hsl
 replace hm := Lib.hid hm
 have mb : (m : Int) ≤ 5000 := by have := hm.out; omega
 clear hz9 hrw hzf
 go_upto_region 2 with fail
 go_region
 replace hG := hG.below ((Below.refl _ _).drew)
 replace hch := hch.trans (Chs.of_below ((Below.refl _ _).drew))
 clear c0 c1 hsl
 generalize y1.drew = y2 at hG hch ⊢
 go_wp2_with fail
 go_loopg [25] m (fun gk av wr => ∃ (a : Nat) (za : Int), a + gk = m ∧ av = .int .i64 za ∧ za = (a : Int) ∧ l + a ≤ i9 ∧ wr = y2)
 case atStart => exact ⟨0, 0, Nat.zero_add m, by first | rfl | go_num, rfl, by omega, rfl⟩
 case round =>
  obtain ⟨a, za, ham, rfl, hza, hai, rfl⟩ := hrel
  have han : a < m := by have := hm.out; omega
  subst hza
  have m1 : (a : Int) < (m : Int) := by omega
  have m0 : (0 : Int) ≤ (a : Int) := Int.natCast_nonneg _
  have ab : (a : Int) ≤ 5000 := by omega
  have hiR : l + a < R := by have := hm.out; omega
  have ha3 := ha2 (by omega)
  subst ha3
  obtain ⟨z2, rc3, hz9, -, -, -, -, hrw2, hzf2⟩ := hG.rpos (by omega)
  obtain ⟨rfl, rfl⟩ : z = z2 ∧ rc = rc3 := by simpa using hz9
  have ca := hrw2 (l + a) hiR
  have hfc := FC.row (hG.hB _ hiR).2 c (by rw [tabV_len]; exact hcn)
  rw [gv_tab hcn] at hfc
  obtain ⟨f0, f1, f2, f3, f4⟩ := hfc
  have cn : (c : Int) < (n : Int) := by omega
  have c00 : (0 : Int) ≤ (c : Int) := Int.natCast_nonneg _
  have cb : (c : Int) ≤ 5000 := by omega
  obtain ⟨q, hq0⟩ : ∃ q, q = D.G (l + a) c := ⟨_, rfl⟩
  rw [← hq0] at f0 f1 f2 f3 f4
  clear hz9 hzf2 hrw2
  replace hiR := Lib.hid hiR
  by_cases hqz : q = 0
  ·have hq : ∀ W, (binOp .neq 36 (fracV q) (.agg #[.int .u64 0, .string ⟨#[]⟩, .bool false, .int .u64 0, .string ⟨#[]⟩])).run Tryz.prog W = .ok (.bool false) W := fun W => by have := run_neZ q true (by simp [hqz]) W; exact this
   have hlt : l + (a + 1) ≤ i9 := Nat.lt_of_le_of_ne hai fun (e : l + a = i9) => h93 (by rw [← e, ← hq0]; exact hqz)
   replace hqz := Lib.hid hqz
   replace hq0 := Lib.hid hq0
   go_wp2_with fail
   go_roundg (m - (a + 1))
   case measure => omega
   case rel => exact ⟨a + 1, _, by omega, by first | rfl | go_num, by omega, hlt, rfl⟩
  ·have hq : ∀ W, (binOp .neq 36 (fracV q) (.agg #[.int .u64 0, .string ⟨#[]⟩, .bool false, .int .u64 0, .string ⟨#[]⟩])).run Tryz.prog W = .ok (.bool true) W := fun W => by have := run_neZ q false (by simp [hqz]) W; exact this
   replace hqz := Lib.hid hqz
   replace hq0 := Lib.hid hq0
   go_wp2_with fail
   exact bodyPost_ret (v := .tuple #[.slice none 0 0, .bool false]) (by simp [results, Tryz.results119, go_sem]) rfl ⟨rfl, hch⟩
theorem esolve_ok (B g R n c K : Nat) (ru pu : Value) (bk : Nat → Nat) (s0 : ES) (hK : K ≤ 1000000) (hcn : c < n) (hn : n ≤ 5000) (hR : R ≤ 5000)
  (HI : ∀ k, k ≤ c → (descE R s0 k).pv.length ≤ R)
  (HS : ∀ k, k ≤ c → Sz (descE R s0 k).f K ∧ ∀ i, i < R → ∀ j, j < n → Sz ((descE R s0 k).G i j) K)
(D : ES) (hD : descE R s0 c = D)     (HA : ∀ m, m ≤ D.pv.length → ∀ i, i < R → ∀ j, j < n → Sz (ascE D.pv D.G m i j) K) (hpc : ∀ r (h : r < D.pv.length), D.pv[r] < c) (hup : ∀ r (h : r + 1 < D.pv.length), D.pv[r] < D.pv[r + 1])
  (hz : ∀ i, D.pv.length ≤ i → i < R → D.G i c = 0) (w : World) (h : GR B w g ru pu R n bk s0.G s0.pv s0.f) :
  Calls Tryz.prog 119 #[.pointer (some ⟨g, 0, none⟩), .int .i64 (c : Int)] w fun e w' => (∃ b, e = .returned (.tuple #[.slice (some ⟨b, 0, none⟩) c c, .bool true]) ∧ w.heap.size ≤ b ∧ Hd w' b (frCs (tabV c (solE D.pv (ascE D.pv D.G D.pv.length) c))) ∧ ∃ pu' bk', GR B w' g ru pu' R n bk' (ascE D.pv D.G D.pv.length) D.pv D.f) ∧ Chs (fun k => B ≤ k) w w' := by
 have HD := Lib.hid (edescend_w B g R n c K ru pu bk s0 hK (by omega) hn hR HI HS w h)
 have hpl := Lib.hid (HI c (Nat.le_refl _))
 rw [hD] at HD hpl
 clear HI HS hD h
 replace HA := Lib.hid HA
 replace hpc := Lib.hid hpc
 replace hup := Lib.hid hup
 replace hz := Lib.hid hz
 go_enter Tryz.func119, Tryz.ntmps119
 go_wp2_with fail
 with_reducible refine Calls.mono HD.out ?_
 rintro e y1 ⟨rfl, ⟨pu1, bk1, hG⟩, hch⟩
 clear HD
 obtain ⟨ra, rc, hru⟩ := hG.rform
 subst hru
 obtain ⟨pa, pc', hpu⟩ := hG.pform
 subst hpu
 have c0 := hG.cells.1
 have c1 := hG.cells.2.1
 obtain ⟨l, hl⟩ : ∃ l, l = D.pv.length := ⟨_, rfl⟩
 rw [← hl] at c1 hpl
 have hys := hch.size
 have hrd : ∃ a2 c2, (∀ W, (Instr.slice 26 (.slice ra R rc) (some (.int .i64 ((l : Nat) : Int))) none none).run Tryz.prog W = .ok (.slice a2 (R - l) c2) W) ∧ (l < R → ∃ z, ra = some ⟨z, 0, none⟩ ∧ a2 = some ⟨z, l, none⟩) := by
  rcases Nat.eq_zero_or_pos R with e | e
  ·subst e
   have hl0 : l = 0 := by have := hpl.out; omega
   subst hl0
   rcases id hG.hr.2 with ⟨e1, _⟩ | ⟨z, cap, cur, e1, -⟩
   ·obtain ⟨rfl, rfl⟩ : ra = none ∧ rc = 0 := by simpa using e1
    obtain ⟨i0, hi0, hz1, hz2, hz3⟩ := info_parts infoVec
    have hsz : ∀ W, (sizeOf 28).run Tryz.prog W = .ok 1 W := fun W => by simp [sizeOf, typeInfo, hi0, hz2]
    exact ⟨none, 0, fun W => by simp [Instr.slice, Instr.sliceBounds, run_underlying Tryz.underlying26, run_sliceBound, hsz, go_sem], fun h => by omega⟩
   ·obtain ⟨rfl, rfl⟩ : ra = some ⟨z, 0, none⟩ ∧ rc = cap := by simpa using e1
    obtain ⟨a2, c2, h1, h2⟩ := rows_drop (z := z) (R := 0) (c := rc) (t := 0) (by omega) (by omega) (by omega)
    exact ⟨a2, c2, h1, fun h => by omega⟩
  ·obtain ⟨z, rc', hz9, -, -, hzc, -⟩ := hG.rpos e
   obtain ⟨rfl, rfl⟩ : ra = some ⟨z, 0, none⟩ ∧ rc = rc' := by simpa using hz9
   obtain ⟨a2, c2, h1, h2⟩ := rows_drop (z := z) (R := R) (c := rc) (t := l) (by omega) hpl.out hzc
   exact ⟨a2, c2, h1, fun h => ⟨z, rfl, h2 h⟩⟩
 obtain ⟨a2, rc2, hsl, ha2⟩ := hrd
 replace ha2 := Lib.hid ha2
 have lb : (l : Int) ≤ 5000 := by have := hpl.out; omega
 replace hl := Lib.hid hl
 obtain ⟨m, hm⟩ : ∃ m, m = R - l := ⟨_, rfl⟩
 rw [← hm] at hsl
 replace hm := Lib.hid hm
 have mb : (m : Int) ≤ 5000 := by have := hm.out; omega
 have cn : (c : Int) < (n : Int) := by omega
 have c00 : (0 : Int) ≤ (c : Int) := Int.natCast_nonneg _
 have cb : (c : Int) ≤ 5000 := by omega
 replace hcn := Lib.hid hcn
 replace hn := Lib.hid hn
 replace hR := Lib.hid hR
 replace hK := Lib.hid hK
 go_upto_region 2 with fail
 go_region
 replace hG := hG.below ((Below.refl _ _).drew)
 replace hch := hch.trans (Chs.of_below ((Below.refl _ _).drew))
 have hys2 : w.heap.size ≤ y1.drew.heap.size := hch.size
 clear c0 c1 hsl hys
 generalize y1.drew = y2 at hG hch hys2 ⊢
 go_wp2_with fail
 go_loopg [25] m (fun gk av wr => ∃ (a : Nat) (za : Int), a + gk = m ∧ av = .int .i64 za ∧ za = (a : Int) ∧ wr = y2)
 case atStart => exact ⟨0, 0, Nat.zero_add m, by first | rfl | go_num, rfl, rfl⟩
 case round =>
  obtain ⟨a, za, ham, rfl, hza, rfl⟩ := hrel
  rcases Nat.lt_or_ge a m with han | han
  ·subst hza
   have m1 : (a : Int) < (m : Int) := by omega
   have m0 : (0 : Int) ≤ (a : Int) := Int.natCast_nonneg _
   have ab : (a : Int) ≤ 5000 := by omega
   have hiR : l + a < R := by have := hm.out; omega
   obtain ⟨z, rfl, rfl⟩ := ha2.out (by omega)
   obtain ⟨z2, rc3, hz9, -, -, -, -, hrw2, hzf2⟩ := hG.rpos (by omega)
   obtain ⟨rfl, rfl⟩ : z = z2 ∧ rc = rc3 := by simpa using hz9
   have ca := hrw2 (l + a) hiR
   have hfc := FC.row (hG.hB _ hiR).2 c (by rw [tabV_len]; exact hcn.out)
   rw [gv_tab hcn.out] at hfc
   obtain ⟨f0, f1, f2, f3, f4⟩ := hfc
   obtain ⟨q, hq0⟩ : ∃ q, q = D.G (l + a) c := ⟨_, rfl⟩
   rw [← hq0] at f0 f1 f2 f3 f4
   have hqz : q = 0 := by rw [hq0]; exact hz.out _ (by rw [← hl.out]; omega) hiR
   clear hz9 hzf2 hrw2
   have hq : ∀ W, (binOp .neq 36 (fracV q) (.agg #[.int .u64 0, .string ⟨#[]⟩, .bool false, .int .u64 0, .string ⟨#[]⟩])).run Tryz.prog W = .ok (.bool false) W := fun W => by have := run_neZ q true (by simp [hqz]) W; exact this
   replace hiR := Lib.hid hiR
   replace hqz := Lib.hid hqz
   replace hq0 := Lib.hid hq0
   go_wp2_with fail
   go_roundg (m - (a + 1))
   case measure => omega
   case rel => exact ⟨a + 1, _, by omega, by first | rfl | go_num, by omega, rfl⟩
  ·obtain rfl : m = a := by omega
   subst hza
   have m1 : ¬ (m : Int) < (m : Int) := by omega
   have HAs := Lib.hid (eascend_w B g R n K _ _ bk1 D.G D.pv D.f hK.out hn.out hR.out (by rw [← hl.out]; exact hpl.out) (fun r h => Nat.lt_trans (hpc.out r h) hcn.out) HA.out _ hG)
   go_wp2_with fail
   with_reducible refine Calls.mono HAs.out ?_
   rintro e y3 ⟨rfl, hG3, hch3⟩
   replace hch := hch.trans hch3
   have hys3 : w.heap.size ≤ y3.heap.size := Nat.le_trans hys2 hch3.size
   clear hG HAs hch3 hys2
   obtain ⟨A, hA⟩ : ∃ A, A = ascE D.pv D.G D.pv.length := ⟨_, rfl⟩
   rw [← hA] at hG3
   replace hA := Lib.hid hA
   have hN := (GL.start y3).new rfl (frCs (List.replicate c 0)) 36
   generalize hweq : y3.alloc (.cells (frCs (List.replicate c 0)).toArray 36) = y4 at hN
   have hmk := fun W => makeV W (c : Int) c rfl (by have := hcn.out; have := hn.out; omega)
   have hH := hN.get _ _ mZ
   have hnot := hG3.fresh (Nat.le_refl _)
   have hbB : B ≤ y3.heap.size := hG3.bs
   replace hG3 := hG3.below hN.bl
   replace hch := hch.trans (Chs.of_below hN.bl)
   clear hN
   rw [rep_tab, ← pvP_zero c D.pv (fun _ => 0) (fun i => A i c)] at hH
   have c1 := hG3.cells.2.1
   rw [← hl.out] at c1
   have l0 : (0 : Int) ≤ (l : Int) := Int.natCast_nonneg _
   obtain ⟨b, hb⟩ : ∃ b, b = y3.heap.size := ⟨_, rfl⟩
   go_wp2_with fail
   rw [← hb] at hH hnot hbB hys3 ⊢
   clear hweq hmk hb c1
   rw [← hl.out] at hnot
   replace hnot := Lib.hid hnot
   go_loopg [45] l (fun gk iv wr => ∃ (i : Nat) (zi : Int), i + gk = l ∧ iv = .int .i64 zi ∧ zi = (i : Int) ∧ GR B wr g (.slice ra R rc) (.slice pa l pc') R n bk1 A D.pv D.f ∧ Hd wr b (frCs (pvP c D.pv (fun _ => 0) (fun i => A i c) i)) ∧ Chs (fun k => B ≤ k) w wr)
   case atStart => exact ⟨0, 0, Nat.zero_add l, by first | rfl | go_num, rfl, by rw [hl.out]; exact hG3, hH, hch⟩
   case round =>
    clear hG3 hH hch
    obtain ⟨i, zi, hil, rfl, hzi, hG, hH, hch⟩ := hrel
    rcases Nat.lt_or_ge i l with hi | hi
    ·subst hzi
     have m1 : (i : Int) < (l : Int) := by omega
     have m0 : (0 : Int) ≤ (i : Int) := Int.natCast_nonneg _
     have ib : (i : Int) ≤ 5000 := by omega
     have hip : i < D.pv.length := by rw [← hl.out]; exact hi
     have hiR : i < R := by have := hpl.out; omega
     have iR : (i : Int) < (R : Int) := by omega
     obtain ⟨z, rc2, hz9, -, -, -, -, hrw2, hzf2⟩ := hG.rpos (by omega)
     obtain ⟨rfl, rfl⟩ : ra = some ⟨z, 0, none⟩ ∧ rc = rc2 := by simpa using hz9
     obtain ⟨pz, pc3, hpz9, -, -, hpcl⟩ := hG.ppos (by omega)
     obtain ⟨rfl, -, rfl⟩ : pa = some ⟨pz, 0, none⟩ ∧ l = D.pv.length ∧ pc' = pc3 := by simpa using hpz9
     have cp := hpcl i hip
     have hkc := hpc.out i hip
     have hst := pvP_step (Z := fun _ => 0) (F := fun i => A i c) hip hkc (up_idx hup.out i hip)
     obtain ⟨k, hk⟩ : ∃ k, k = D.pv[i] := ⟨_, rfl⟩
     rw [← hk] at cp hkc hst
     have ci := hrw2 i hiR
     have c0 := hG.cells.1
     have hfc := FC.row (hG.hB i hiR).2 c (by rw [tabV_len]; exact hcn.out)
     rw [gv_tab hcn.out] at hfc
     obtain ⟨f0, f1, f2, f3, f4⟩ := hfc
     obtain ⟨q, hq0⟩ : ∃ q, q = A i c := ⟨_, rfl⟩
     rw [← hq0] at f0 f1 f2 f3 f4
     have hst2 : (pvP c D.pv (fun _ => 0) (fun i => A i c) i).set k q = pvP c D.pv (fun _ => 0) (fun i => A i c) (i + 1) := by rw [hq0]; exact hst
     have hlen := pvP_len c D.pv (fun _ => 0) (fun i => A i c) i
     generalize pvP c D.pv (fun _ => 0) (fun i => A i c) i = L at hH hst2 hlen
     replace hlen := Lib.hid hlen
     have k1 : (k : Int) < (c : Int) := by omega
     have k0 : (0 : Int) ≤ (k : Int) := Int.natCast_nonneg _
     have kb : (k : Int) ≤ 5000 := by omega
     have hP := put5_hd hH k q (by rw [hlen.out]; exact hkc)
     have hu := put5_upd wr b (k * 5) q
     obtain ⟨z0, z1, z2, z3, z4⟩ := (hd_fs hH).cell k (by rw [hlen.out]; exact hkc)
     have zz := hH.frz
     obtain ⟨y5, hy⟩ : ∃ y, put5 wr b (k * 5) q = y := ⟨_, rfl⟩
     rw [hy] at hP hu
     rw [hst2] at hP
     unfold put5 at hy
     replace hG := hG.chs (Chs.of_upd hu) fun d e => by rw [e]; exact hnot.out
     replace hch := hch.trans ((Chs.of_upd hu).mono (T := fun k => B ≤ k) fun k _ e => by rw [e]; exact hbB)
     clear hz9 hzf2 hrw2 hpz9 hpcl hst hst2 hH hu hk hq0
     replace hiR := Lib.hid hiR
     replace hip := Lib.hid hip
     go_wp2_with fail
     go_roundg (l - (i + 1))
     case measure => omega
     case rel => exact ⟨i + 1, _, by omega, by first | rfl | go_num, by omega, hG, hP, hch⟩
    ·obtain rfl : l = i := by omega
     subst hzi
     have m1 : ¬ (l : Int) < (l : Int) := by omega
     have hH2 : Hd wr b (frCs (tabV c (solE D.pv (ascE D.pv D.G D.pv.length) c))) := by
      rw [← hA.out]
      rw [hl.out, pvP_all] at hH
      exact hH
     clear hH
     rw [hl.out, hA.out] at hG
     go_wp2_with fail
     exact bodyPost_ret (v := .tuple #[.slice (some ⟨b, 0, none⟩) c c, .bool true]) (by simp [results, Tryz.results119, go_sem]) rfl ⟨⟨b, rfl, hys3, hH2, _, bk1, hG⟩, hch⟩
end Go.Proofs.YthffglapmkkohaaGreatDoor
namespace Go.Proofs.YthffglapmkkohaaGreatDoor
open Go.RowKit
attribute [local irreducible] lo hs sm s64 c64 d64 b64 mh ml pd pc qd qc val hiB str cmpI srD lz nb zl zh zs fe rowV tabV gv bsV tabM
/-- The columns without pivots. -/
def freeL (pv : List Nat) (c : Nat) : List Nat := (List.range c).filter fun k => decide (k ∉ pv)
theorem free_in {pv : List Nat} {k : Nat} (h : k ∈ pv) : freeL pv (k + 1) = freeL pv k := by unfold freeL; rw [List.range_succ, List.filter_append]; simp [h]
theorem free_out {pv : List Nat} {k : Nat} (h : k ∉ pv) : freeL pv (k + 1) = freeL pv k ++ [k] := by unfold freeL; rw [List.range_succ, List.filter_append]; simp [h]
theorem free_pre (pv : List Nat) (k : Nat) : ∀ d, ∃ L, freeL pv (k + d) = freeL pv k ++ L
 | 0 => ⟨[], by simp⟩
 | d + 1 => by
  obtain ⟨L, h⟩ := free_pre pv k d
  by_cases g : k + d ∈ pv
  ·exact ⟨L, by rw [← Nat.add_assoc, free_in g, h]⟩
  ·exact ⟨L ++ [k + d], by rw [← Nat.add_assoc, free_out g, h, List.append_assoc]⟩
theorem free_at {pv : List Nat} {k c : Nat} (h : k ∉ pv) (hk : k < c) : (freeL pv c).getD (freeL pv k).length 0 = k := by
 obtain ⟨L, e⟩ := free_pre pv (k + 1) (c - (k + 1))
 rw [show k + 1 + (c - (k + 1)) = c by omega, free_out h] at e
 rw [e, List.append_assoc, List.getD_eq_getElem?_getD, List.getElem?_append_right (Nat.le_refl _), Nat.sub_self]
 rfl
theorem free_mem {pv : List Nat} {c k : Nat} : k ∈ freeL pv c ↔ k < c ∧ k ∉ pv := by unfold freeL; rw [List.mem_filter]; simp
/-- A row of vectors that the call makes. -/
structure KB (B : Nat) (W : World) (v : Value) (m n : Nat) (dk : Nat → Nat) (V : Nat → Nat → Rat) : Prop where
 hr : W.ownsRow B 28 1 v m (rwE n dk m)
 hB : ∀ a, a < m → B ≤ dk a ∧ Hd W (dk a) (frCs (tabV n (V a)))
 nr : ∀ a, a < m → v.ownBlock ≠ some (dk a)
 bs : B ≤ W.heap.size
section
variable {B : Nat} {W W' : World} {v : Value} {m n : Nat} {dk : Nat → Nat} {V : Nat → Nat → Rat}
theorem KB.chs {S : Nat → Prop} (h : KB B W v m n dk V) (hc : Chs S W W') (h1 : ∀ z, v.ownBlock = some z → ¬ S z) (h2 : ∀ a, a < m → ¬ S (dk a)) : KB B W' v m n dk V :=
 ⟨own_chs h.hr hc h1, fun a ha => ⟨(h.hB a ha).1, (h.hB a ha).2.chs hc (h2 a ha)⟩, h.nr, Nat.le_trans h.bs hc.size⟩
theorem KB.below (h : KB B W v m n dk V) (hb : Below W.heap.size W W') : KB B W' v m n dk V := h.chs (S := fun _ => False) (Chs.of_below hb) (fun _ _ h => h) fun _ _ h => h
/-- A store into a block that the row does not hold. -/
theorem KB.upd {d : Nat} (h : KB B W v m n dk V) (hu : Upd d W W') (h1 : v.ownBlock ≠ some d) (h2 : ∀ a, a < m → dk a ≠ d) : KB B W' v m n dk V :=
 h.chs (Chs.of_upd hu) (fun z hz e => h1 (e ▸ hz)) h2
theorem KB.lt (h : KB B W v m n dk V) {d : Nat} (hd : W.heap.size ≤ d) : v.ownBlock ≠ some d ∧ ∀ a, a < m → dk a ≠ d :=
 ⟨fun e => by have := (h.hr.lt d e).2; omega, fun a ha e => by have := (h.hB a ha).2.lt; omega⟩
theorem KB.grow (h : KB B W v m n dk V) {v' : Value} {d : Nat} (hB : B ≤ d) (hn : v.ownBlock ≠ some d) (hd : Hd W d (frCs (tabV n (V m)))) (ho : W'.ownsRow B 28 1 v' (m + 1) (rwE n dk m ++ [.slice (some ⟨d, 0, none⟩) n n])) (hg : W.grownBy W' v.ownBlock) (hv : v'.ownBlock = v.ownBlock ∨ v'.ownBlock = some W.heap.size) :
  KB B W' v' (m + 1) n (fun a => if a = m then d else dk a) V := by
 have hc := Chs.of_grown hg
 have e1 : rwE n dk m ++ [.slice (some ⟨d, 0, none⟩) n n] = rwE n (fun a => if a = m then d else dk a) (m + 1) := by
  unfold rwE
  rw [List.range_succ, List.map_append]
  congr 1
  ·exact List.map_congr_left fun i hi => by have := List.mem_range.1 hi; dsimp only; rw [if_neg (by omega)]
  ·simp
 rw [e1] at ho
 have key : ∀ i, i < m + 1 → i = m ∨ i < m := fun i hi => by omega
 have hdl := hd.lt
 refine ⟨ho, fun a ha => ?_, fun a ha => ?_, Nat.le_trans h.bs hg.size⟩
 ·rcases key a ha with e | e
  ·subst e; rw [if_pos rfl]; exact ⟨hB, hd.chs hc fun e => hn e.symm⟩
  ·rw [if_neg (by omega)]; exact ⟨(h.hB a e).1, (h.hB a e).2.chs hc fun e2 => h.nr a e e2.symm⟩
 ·have hw : ∀ b, b < W.heap.size → v.ownBlock ≠ some b → v'.ownBlock ≠ some b := fun b hb h1 => by
   rcases hv with e | e
   ·rw [e]; exact h1
   ·rw [e]; intro e2; simp at e2; omega
  rcases key a ha with e | e
  ·rw [if_pos e]; exact hw d hdl hn
  ·rw [if_neg (by omega)]; exact hw _ (h.hB a e).2.lt (h.nr a e)
theorem KB.vls (h : KB B W v m n dk V) : VLs W v ((List.range m).map fun a => tabV n (V a)) := by
 have hl : ((List.range m).map fun a => tabV n (V a)).length = m := by rw [List.length_map, List.length_range]
 have h1 := h.hr
 have hlt := h1.lt
 rcases id h1.2 with ⟨rfl, e⟩ | ⟨z, c, cur, rfl, hb, -⟩
 ·subst e
  exact ⟨none, 0, 0, rfl, fun h => by rw [hl] at h; omega, fun i hi => by rw [hl] at hi; omega⟩
 ·refine ⟨some ⟨z, 0, none⟩, c, z, by rw [hl], fun _ => ⟨rfl, (hlt z rfl).2⟩, fun i hi => ?_⟩
  rw [hl] at hi
  refine ⟨_, (h1.cellAt i (by omega)).trans (rw_at hi), ?_⟩
  rw [List.getElem_map, List.getElem_range]
  exact .inr ⟨dk i, n, by rw [tabV_len], hd_fs (h.hB i hi).2⟩
end
/-- The rest of a row of integers. -/
theorem ints_drop1 {z o L c : Nat} (hL : 0 < L) (hL2 : L ≤ 100000) (hc : L ≤ c) : ∃ a2 c2, (∀ W, (Instr.slice 24 (.slice (some ⟨z, o, none⟩) L c) (some (.int .i64 1)) none none).run Tryz.prog W = .ok (.slice a2 (L - 1) c2) W) ∧ (1 < L → a2 = some ⟨z, o + 1, none⟩) ∧ L - 1 ≤ c2 := by
 obtain ⟨i0, hi0, hz1, hz2, hz3⟩ := info_parts infoRw
 have hsz : ∀ W, (sizeOf 3).run Tryz.prog W = .ok 1 W := fun W => by simp [sizeOf, typeInfo, hi0, hz2]
 have b2 : (1 : Int) ≤ (L : Int) := by omega
 have b3 : (L : Int) ≤ (c : Int) := by omega
 have b4 : (0 : Int) ≤ (L : Int) := by omega
 refine ⟨if c = 1 then some ⟨z, o, none⟩ else some ⟨z, o + 1, none⟩, c - 1, fun W => ?_, fun h => by rw [if_neg (by omega)], by omega⟩
 simp [Instr.slice, Instr.sliceBounds, run_underlying Tryz.underlying24, run_sliceBound, b2, b3, b4, hsz, go_sem, Addr.add]
end Go.Proofs.YthffglapmkkohaaGreatDoor
namespace Go.Proofs.YthffglapmkkohaaGreatDoor
open Go.RowKit
attribute [local irreducible] lo hs sm s64 c64 d64 b64 mh ml pd pc qd qc val hiB str cmpI srD lz nb zl zh zs fe rowV tabV gv bsV tabM
theorem set_one (c k : Nat) (hk : k < c) (o : Rat) : (List.replicate c (0 : Rat)).set k o = tabV c fun j => if j = k then o else 0 := by
 refine List.ext_getElem (by rw [List.length_set, List.length_replicate, tabV_len]) fun a h1 h2 => ?_
 have ha : a < c := by rwa [tabV_len] at h2
 rw [List.getElem_set, ← gv_get h2, gv_tab ha]
 by_cases e : k = a
 ·rw [if_pos e, if_pos e.symm]
 ·rw [if_neg e, if_neg fun h => e h.symm, List.getElem_replicate]
theorem kv_all (c k : Nat) (pv : List Nat) (A : Gd) (hk : k ∉ pv) (o : Rat) (ho : o = 1) : pvP c pv (fun j => if j = k then o else 0) (fun i => -A i k) pv.length = tabV c (kvE pv A k) := by
 rw [pvP_all, ho]
 refine tab_ext fun j _ => ?_
 unfold kvE
 by_cases e : j = k
 ·subst e; rw [if_neg hk, if_pos rfl, if_pos rfl]
 ·rw [if_neg e, if_neg e]
/-- The vectors that a call has made. -/
def KV (B : Nat) (W : World) (v : Value) (n : Nat) (L : List (List Rat)) : Prop := ∃ m dk V, KB B W v m n dk V ∧ ((List.range m).map fun a => tabV n (V a)) = L
theorem KV.vls {B n : Nat} {W : World} {v : Value} {L : List (List Rat)} (h : KV B W v n L) : VLs W v L := by
 obtain ⟨m, dk, V, h1, rfl⟩ := h
 exact h1.vls
theorem KV.form {B n : Nat} {W : World} {v : Value} {L : List (List Rat)} (h : KV B W v n L) : ∃ a m c, v = .slice a m c := by
 obtain ⟨m, dk, V, h1, rfl⟩ := h
 obtain ⟨a, c, rfl⟩ := own_form12 h1.hr
 exact ⟨a, m, c, rfl⟩
theorem KV.upd {B n d : Nat} {W W' : World} {v : Value} {L : List (List Rat)} (h : KV B W v n L) (hu : Upd d W W') (hd : d < B) : KV B W' v n L := by
 obtain ⟨m, dk, V, h1, h2⟩ := h
 exact ⟨m, dk, V, h1.upd hu (fun e => by have := (h1.hr.lt d e).1; omega) fun a ha e => by have := (h1.hB a ha).1; omega, h2⟩
/-- The state of the kernel's loop. -/
structure KS (w0 W : World) (B g R n c l k i L m : Nat) (ru pu : Value) (bk : Nat → Nat) (A : Gd) (pv : List Nat) (f : Rat) (pa pa1 : Option Addr) (pc1 : Nat) (va : Value) (dk : Nat → Nat) (V : Nat → Nat → Rat) : Prop where
 iL : i + L = l
 lt : ∀ r (h : r < pv.length), r < i ↔ pv[r] < k
 ah : 0 < L → ∃ pz, pa = some ⟨pz, 0, none⟩ ∧ pa1 = some ⟨pz, i, none⟩
 cap : L ≤ pc1
 fm : m = (freeL pv k).length
 kb : KB w0.heap.size W va m c dk V
 gr : GR B W g ru pu R n bk A pv f
 nb : ∀ z, va.ownBlock = some z → NotIn z g R ru pu bk
 bl : Below w0.heap.size w0 W
theorem KS.below {w0 W W' : World} {B g R n c l k i L m : Nat} {ru pu : Value} {bk : Nat → Nat} {A : Gd} {pv : List Nat} {f : Rat} {pa pa1 : Option Addr} {pc1 : Nat} {va : Value} {dk : Nat → Nat} {V : Nat → Nat → Rat}
  (h : KS w0 W B g R n c l k i L m ru pu bk A pv f pa pa1 pc1 va dk V) (hb : Below W.heap.size W W') : KS w0 W' B g R n c l k i L m ru pu bk A pv f pa pa1 pc1 va dk V :=
 ⟨h.iL, h.lt, h.ah, h.cap, h.fm, h.kb.below hb, h.gr.below hb, h.nb, h.bl.trans (hb.mono h.bl.size)⟩
theorem KS.upd {w0 W W' : World} {B g R n c l k i L m d : Nat} {ru pu : Value} {bk : Nat → Nat} {A : Gd} {pv : List Nat} {f : Rat} {pa pa1 : Option Addr} {pc1 : Nat} {va : Value} {dk : Nat → Nat} {V : Nat → Nat → Rat}
  (h : KS w0 W B g R n c l k i L m ru pu bk A pv f pa pa1 pc1 va dk V) (hu : Upd d W W') (h1 : va.ownBlock ≠ some d) (h2 : ∀ a, a < m → dk a ≠ d) (h3 : NotIn d g R ru pu bk) (h4 : w0.heap.size ≤ d) : KS w0 W' B g R n c l k i L m ru pu bk A pv f pa pa1 pc1 va dk V :=
 ⟨h.iL, h.lt, h.ah, h.cap, h.fm, h.kb.upd hu h1 h2, h.gr.chs (Chs.of_upd hu) fun x e => by rw [e]; exact h3, h.nb, h.bl.trans (hu.below h4)⟩
/-- The round ends with a pivot. -/
theorem KS.piv {w0 W : World} {B g R n c l k i L m : Nat} {ru pu : Value} {bk : Nat → Nat} {A : Gd} {pv : List Nat} {f : Rat} {pa pa1 pa2 : Option Addr} {pc1 pc2 : Nat} {va : Value} {dk : Nat → Nat} {V : Nat → Nat → Rat}
  (h : KS w0 W B g R n c l k i L m ru pu bk A pv f pa pa1 pc1 va dk V) (up : ∀ r (h : r + 1 < pv.length), pv[r] < pv[r + 1]) (hl : l = pv.length) (hi : i < pv.length) (he : pv[i] = k) (h2 : 1 < L → ∃ pz, pa = some ⟨pz, 0, none⟩ ∧ pa2 = some ⟨pz, i + 1, none⟩) (h3 : L - 1 ≤ pc2) :
  KS w0 W B g R n c l (k + 1) (i + 1) (L - 1) m ru pu bk A pv f pa pa2 pc2 va dk V :=
 ⟨by have := h.iL; omega, fun r hr => by
  have h1 := h.lt r hr
  by_cases e : r = i
  ·subst e; omega
  ·rcases Nat.lt_or_ge r i with g | g
   ·omega
   ·have := up_lt' up (show i < r by omega) hr
    omega, fun h0 => h2 (by omega), h3, by rw [free_in (show k ∈ pv from he ▸ List.getElem_mem hi)]; exact h.fm, h.kb, h.gr, h.nb, h.bl⟩
theorem KS.out {w0 W : World} {B g R n c l k i L m : Nat} {ru pu : Value} {bk : Nat → Nat} {A : Gd} {pv : List Nat} {f : Rat} {pa pa1 : Option Addr} {pc1 : Nat} {va : Value} {dk : Nat → Nat} {V : Nat → Nat → Rat}
  (h : KS w0 W B g R n c l k i L m ru pu bk A pv f pa pa1 pc1 va dk V) (up : ∀ r (h : r + 1 < pv.length), pv[r] < pv[r + 1]) (hl : l = pv.length) (hn : ∀ (hi : i < pv.length), pv[i] ≠ k) : k ∉ pv := fun hm => by
 obtain ⟨r, hr, e⟩ := List.getElem_of_mem hm
 have h1 := h.lt r hr
 have h0 : ¬ r < i := fun g => by have := h1.1 g; omega
 have hir : i < pv.length := by omega
 have h2 := (h.lt i hir)
 by_cases e2 : r = i
 ·subst e2; exact hn hir e
 ·have := up_lt' up (show i < r by omega) hr
  have h3 : pv[i] < k := by omega
  have := h2.2 h3
  omega
theorem ekernel_w (B g R n c : Nat) (ru pu : Value) (bk : Nat → Nat) (A : Gd) (pv : List Nat) (f : Rat) (hcn : c ≤ n) (hn : n ≤ 5000) (hR : R ≤ 5000) (hlR : pv.length ≤ R) (hlc : pv.length ≤ c) (hpc : ∀ r (h : r < pv.length), pv[r] < c) (hup : ∀ r (h : r + 1 < pv.length), pv[r] < pv[r + 1]) (w : World) (h : GR B w g ru pu R n bk A pv f) :
  Calls Tryz.prog 112 #[.pointer (some ⟨g, 0, none⟩), .int .i64 (c : Int)] w fun e w' => (∃ v, e = .returned v ∧ KV w.heap.size w' v c ((freeL pv c).map fun k => tabV c (kvE pv A k))) ∧ Below w.heap.size w w' := by
 obtain ⟨ra, rc, hru⟩ := h.rform
 subst hru
 obtain ⟨pa, pc', hpu⟩ := h.pform
 subst hpu
 have c1 := h.cells.2.1
 obtain ⟨l, hl⟩ : ∃ l, l = pv.length := ⟨_, rfl⟩
 rw [← hl] at c1 hlR hlc
 have lb : (l : Int) ≤ (c : Int) := by omega
 have cb : (c : Int) ≤ 5000 := by omega
 have l0 : (0 : Int) ≤ (l : Int) := Int.natCast_nonneg _
 obtain ⟨V, hV⟩ : ∃ V : Nat → Nat → Rat, V = fun a => kvE pv A ((freeL pv c).getD a 0) := ⟨_, rfl⟩
 have hcp : l ≤ pc' := by
  have := h.hp
  rcases id this.2 with ⟨e1, e2⟩ | ⟨z, cap, cur, e1, -, -, e2, -⟩
  ·omega
  ·obtain ⟨-, rfl⟩ : pa = some ⟨z, 0, none⟩ ∧ pc' = cap := by simpa using e1
   omega
 have hlen : ((List.range (freeL pv c).length).map fun a => tabV c (V a)) = (freeL pv c).map fun k => tabV c (kvE pv A k) := by
  refine List.ext_getElem (by simp) fun a h1 h2 => ?_
  have ha : a < (freeL pv c).length := by simpa using h2
  rw [List.getElem_map, List.getElem_map, List.getElem_range, hV]
  dsimp only
  rw [List.getD_eq_getElem?_getD, List.getElem?_eq_getElem ha]
  rfl
 obtain ⟨o1, ho1⟩ : ∃ o : Rat, o = 1 := ⟨_, rfl⟩
 have HI : ∀ w, Calls Tryz.prog 12 #[.int .i64 1] w fun xe w' => xe = .returned (fracV o1) ∧ Below w.heap.size w w' := fun w => by rw [ho1]; exact intF 1 (by decide) (by decide) w
 replace HI := Lib.hid HI
 replace ho1 := Lib.hid ho1
 replace hV := Lib.hid hV
 replace hlen := Lib.hid hlen
 replace hpc := Lib.hid hpc
 replace hup := Lib.hid hup
 replace hlR := Lib.hid hlR
 replace hcn := Lib.hid hcn
 replace hn := Lib.hid hn
 replace hR := Lib.hid hR
 replace hl := Lib.hid hl
 have hmk := fun W => makeV W (c : Int) c rfl (by omega)
 obtain ⟨i0, hi0, hz1, hz2, hz3⟩ := info_parts infoVec
 go_enter Tryz.func112, Tryz.ntmps112
 go_wp2_with (at_make; refine wpList_make_own _ rfl _ _ _ rfl w.heap.size 28 i0 _ 1 undVec hi0 hz1 hz2 _ _ _ (c - l) rfl rfl (by omega) (by rw [hz3]; omega) (by unfold maxLen; omega) (Nat.le_refl _) ?_)
 intro y1 hown hgr
 have hnotb := h.fresh (Nat.le_refl _)
 have hG := h.chs (Chs.of_grown hgr) fun d e => by cases e
 have hbl : Below w.heap.size w y1 := (Chs.of_grown hgr).below (Nat.le_refl _) fun k hk e => by cases e
 clear c1 h hgr
 have hK0 : KS w y1 B g R n c l 0 0 l 0 (.slice ra R rc) (.slice pa pv.length pc') bk A pv f pa pa pc' (.slice (some ⟨w.heap.size, 0, none⟩) 0 (c - l)) (fun _ => 0) V :=
  ⟨Nat.zero_add l, fun r hr => ⟨fun h => by omega, fun h => by omega⟩, fun h0 => by
   obtain ⟨pz, pc2, e1, -⟩ := hG.ppos (by rw [← hl.out]; exact h0)
   obtain ⟨rfl, -⟩ : pa = some ⟨pz, 0, none⟩ ∧ pc' = pc2 := by simpa using e1
   exact ⟨pz, rfl, rfl⟩, hcp, rfl, ⟨hown, fun a ha => by omega, fun a ha => by omega, hbl.size⟩, hG, fun z hz => by simp [Value.ownBlock] at hz; rw [← hz]; exact hnotb, hbl⟩
 rw [← hl.out] at hK0 hG
 have c1 := hG.cells.2.1
 clear hown hnotb hbl hG
 go_wp2_with fail
 clear c1
 go_loopg [5, 6, 24] c (fun gk bv av kv wr => ∃ (k i L m : Nat) (zk : Int) (bp : Option Addr) (bc : Nat) (pa1 : Option Addr) (pc1 : Nat) (dk : Nat → Nat), k + gk = c ∧ kv = .int .i64 zk ∧ zk = (k : Int) ∧ bv = .slice bp m bc ∧ av = .slice pa1 L pc1 ∧ KS w wr B g R n c l k i L m (.slice ra R rc) (.slice pa l pc') bk A pv f pa pa1 pc1 (.slice bp m bc) dk V)
 case atStart => exact ⟨0, 0, l, 0, 0, _, _, pa, pc', _, Nat.zero_add c, by first | rfl | go_num, rfl, rfl, rfl, hK0⟩
 case round =>
  clear hK0
  obtain ⟨k, i, L, m, zk, bp, bc, pa1, pc1, dk, hkc, rfl, hzk, rfl, rfl, hK⟩ := hrel
  rcases Nat.lt_or_ge k c with hk | hk
  ·subst hzk
   have k1 : (k : Int) < (c : Int) := by omega
   have k0 : (0 : Int) ≤ (k : Int) := Int.natCast_nonneg _
   have kb : (k : Int) ≤ 5000 := by omega
   have hiL := hK.iL
   have Lb : (L : Int) ≤ 5000 := by omega
   have hcap := hK.cap
   replace hK := Lib.hid hK
   rcases Nat.eq_zero_or_pos L with hL | hL
   ·subst hL
    have hnk : k ∉ pv := hK.out.out hup.out hl.out fun hi => by have := hl.out; omega
    clear hcap
    have hN := (GL.start wr).new rfl (frCs (List.replicate c 0)) 36
    generalize hweq : wr.alloc (.cells (frCs (List.replicate c 0)).toArray 36) = y2 at hN
    have hH := hN.get _ _ mZ
    obtain ⟨hn1, hn2⟩ := hK.out.kb.lt (Nat.le_refl _)
    have hn3 := hK.out.gr.fresh (Nat.le_refl _)
    have hn4 : w.heap.size ≤ wr.heap.size := hK.out.bl.size
    replace hK := Lib.hid (hK.out.below hN.bl)
    clear hN
    go_wp2_with fail
    with_reducible refine Calls.mono (HI.out _) ?_
    rintro e y3 ⟨rfl, hb⟩
    replace hK := Lib.hid (hK.out.below hb)
    replace hH := hH.below hb
    clear hb hweq
    obtain ⟨d, hd⟩ : ∃ d, d = wr.heap.size := ⟨_, rfl⟩
    rw [← hd] at hH hn1 hn2 hn3 hn4 ⊢
    clear hd
    have hlz : (List.replicate c (0 : Rat)).length = c := List.length_replicate
    obtain ⟨z0, z1, z2, z3, z4⟩ := (hd_fs hH).cell k (by rw [hlz]; exact hk)
    have zz := hH.frz
    have hP := put5_hd hH k o1 (by rw [hlz]; exact hk)
    have hu := put5_upd y3 d (k * 5) o1
    obtain ⟨y4, hy⟩ : ∃ y, put5 y3 d (k * 5) o1 = y := ⟨_, rfl⟩
    rw [hy] at hP hu
    rw [set_one c k hk o1, ← pvP_zero c pv (fun j => if j = k then o1 else 0) (fun i => -A i k)] at hP
    unfold put5 at hy
    replace hK := Lib.hid (hK.out.upd hu hn1 hn2 hn3 hn4)
    have c1 := hK.out.gr.cells.2.1
    clear hH hu
    go_wp2_with fail
    clear z0 z1 z2 z3 z4 zz hy c1
    obtain ⟨wo, hwo⟩ : ∃ wo, wo = wr := ⟨_, rfl⟩
    subst hwo
    go_loopg [50] l (fun gk2 iv wr2 => ∃ (j : Nat) (zj : Int), j + gk2 = l ∧ iv = .int .i64 zj ∧ zj = (j : Int) ∧ Hid (KS w wr2 B g R n c l k i 0 m (.slice ra R rc) (.slice pa l pc') bk A pv f pa pa1 pc1 (.slice bp m bc) dk V) ∧ Hd wr2 d (frCs (pvP c pv (fun j => if j = k then o1 else 0) (fun i => -A i k) j)))
    case atStart => exact ⟨0, 0, Nat.zero_add l, by first | rfl | go_num, rfl, hK, hP⟩
    case round =>
     clear hK hP
     obtain ⟨j, zj, hjl, rfl, hzj, hK, hH⟩ := hrel
     rcases Nat.lt_or_ge j l with hj | hj
     ·subst hzj
      have m1 : (j : Int) < (l : Int) := by omega
      have m0 : (0 : Int) ≤ (j : Int) := Int.natCast_nonneg _
      have mb : (j : Int) ≤ 5000 := by omega
      have hjp : j < pv.length := by rw [← hl.out]; exact hj
      have hjR : j < R := by have := hlR.out; omega
      have jR : (j : Int) < (R : Int) := by omega
      have hG := hK.out.gr
      obtain ⟨z, rc2, hz9, -, -, -, -, hrw2, hzf2⟩ := hG.rpos (by omega)
      obtain ⟨rfl, rfl⟩ : ra = some ⟨z, 0, none⟩ ∧ rc = rc2 := by simpa using hz9
      obtain ⟨pz5, pc5, hpz9, -, -, hpcl⟩ := hG.ppos (by omega)
      obtain ⟨rfl, -, rfl⟩ : pa = some ⟨pz5, 0, none⟩ ∧ l = pv.length ∧ pc' = pc5 := by simpa using hpz9
      have cp2 := hpcl j hjp
      have hpk := hpc.out j hjp
      have hst := pvP_step (Z := fun j => if j = k then o1 else 0) (F := fun i => -A i k) hjp hpk (up_idx hup.out j hjp)
      obtain ⟨p, hp⟩ : ∃ p, p = pv[j] := ⟨_, rfl⟩
      rw [← hp] at cp2 hpk hst
      have ci := hrw2 j hjR
      have c0 := hG.cells.1
      have hfc := FC.row (hG.hB j hjR).2 k (by rw [tabV_len]; have := hcn.out; omega)
      rw [gv_tab (by have := hcn.out; omega)] at hfc
      obtain ⟨f0, f1, f2, f3, f4⟩ := hfc
      have kn : (k : Int) < (n : Int) := by have := hcn.out; omega
      have HN := fun w => negF (A j k) w
      obtain ⟨r, hr⟩ : ∃ r, r = -A j k := ⟨_, rfl⟩
      rw [← hr] at HN
      have hst2 : (pvP c pv (fun j => if j = k then o1 else 0) (fun i => -A i k) j).set p r = pvP c pv (fun j => if j = k then o1 else 0) (fun i => -A i k) (j + 1) := by rw [hr]; exact hst
      obtain ⟨q5, hq5⟩ : ∃ q, q = A j k := ⟨_, rfl⟩
      rw [← hq5] at f0 f1 f2 f3 f4 HN
      replace HN := Lib.hid HN
      have hlen2 := pvP_len c pv (fun j => if j = k then o1 else 0) (fun i => -A i k) j
      generalize pvP c pv (fun j => if j = k then o1 else 0) (fun i => -A i k) j = S at hH hst2 hlen2
      replace hlen2 := Lib.hid hlen2
      replace hst2 := Lib.hid hst2
      have p1 : (p : Int) < (c : Int) := by omega
      have p0 : (0 : Int) ≤ (p : Int) := Int.natCast_nonneg _
      have pb : (p : Int) ≤ 5000 := by omega
      clear hz9 hzf2 hrw2 hpz9 hpcl hst hG hp hr hq5
      replace hjR := Lib.hid hjR
      replace hjp := Lib.hid hjp
      go_wp2_with fail
      with_reducible refine Calls.mono (HN.out _) ?_
      rintro e y6 ⟨rfl, hb⟩
      replace hK := Lib.hid (hK.out.below hb)
      replace hH := hH.below hb
      clear hb f0 f1 f2 f3 f4 c0 ci cp2
      obtain ⟨z0, z1, z2, z3, z4⟩ := (hd_fs hH).cell p (by rw [hlen2.out]; exact hpk)
      have zz := hH.frz
      have hP := put5_hd hH p r (by rw [hlen2.out]; exact hpk)
      have hu := put5_upd y6 d (p * 5) r
      obtain ⟨y7, hy⟩ : ∃ y, put5 y6 d (p * 5) r = y := ⟨_, rfl⟩
      rw [hy] at hP hu
      rw [hst2.out] at hP
      unfold put5 at hy
      replace hK := Lib.hid (hK.out.upd hu hn1 hn2 hn3 hn4)
      clear hH hu
      go_wp2_with fail
      go_roundg (l - (j + 1))
      case measure => omega
      case rel => exact ⟨j + 1, _, by omega, by first | rfl | go_num, by omega, hK, hP⟩
     ·obtain rfl : l = j := by omega
      subst hzj
      have m1 : ¬ (l : Int) < (l : Int) := by omega
      rw [hl.out, kv_all c k pv A hnk o1 ho1.out] at hH
      have hVm : V m = kvE pv A k := by rw [hV.out]; dsimp only; rw [hK.out.fm, free_at hnk hk]
      rw [← hVm] at hH
      clear hVm
      have hM := (GL.start wr).new rfl [.slice (some ⟨d, 0, none⟩) c c] 28
      generalize hweq : wr.alloc (.cells #[.slice (some ⟨d, 0, none⟩) c c] 28) = y8 at hM
      have hcu := (hM.get _ _ mZ).cell 0 (by simp)
      simp only [List.getElem_cons_zero] at hcu
      replace hcu := Lib.hid hcu
      replace hK := Lib.hid (hK.out.below hM.bl)
      replace hH := hH.below hM.bl
      have hfl : (freeL pv k).length ≤ k := by unfold freeL; have := List.length_filter_le (fun k => decide (k ∉ pv)) (List.range k); rw [List.length_range] at this; exact this
      have hmb := Lib.hid (show m ≤ 5000 by have := hK.out.fm; omega)
      clear hM hfl
      go_wp2_with (at_builtin; refine wp_appendW rfl _ _ rfl w.heap.size (.slice bp m bc) m (rwE c dk m) rfl hK.out.kb.hr ⟨_, 0, none⟩ (.slice (some ⟨d, 0, none⟩) c c) rfl 1 rfl hcu.out (by have := hmb.out; omega) hK.out.kb.bs ?_)
      intro v' w8 h8 hgr hor
      have hK8 := hK.out
      have hKB := hK8.kb.grow hn4 hn1 hH h8 hgr hor
      obtain ⟨bp2, bc2, rfl⟩ := own_form12 h8
      have hlb := hK8.kb.hr.lt
      have hG8 := hK8.gr.chs (Chs.of_grown hgr) fun x e => hK8.nb x e.symm
      have hb8 : Below w.heap.size y8 w8 := (Chs.of_grown hgr).below hK8.bl.size fun z hz e => by have := (hlb z e.symm).1; omega
      have hK9 : KS w w8 B g R n c l (k + 1) i 0 (m + 1) (.slice ra R rc) (.slice pa l pc') bk A pv f pa pa1 pc1 (.slice bp2 (m + 1) bc2) (fun a => if a = m then d else dk a) V :=
       ⟨hK8.iL, fun r hr => by
        have h1 := hK8.lt r hr
        have h2 : pv[r] ≠ k := fun e => hnk (e ▸ List.getElem_mem hr)
        omega, hK8.ah, hK8.cap, by rw [free_out hnk, List.length_append, List.length_singleton, ← hK8.fm], hKB, hG8, fun z hz => by
        rcases hor with e | e
        ·exact hK8.nb z (e ▸ hz)
        ·rw [e] at hz; exact hK8.gr.fresh (by simp at hz; omega), hK8.bl.trans hb8⟩
      clear hK hK8 hKB hlb hG8 hb8 h8 hgr hor hH hcu hweq
      replace hK9 := Lib.hid hK9
      go_wp2_with fail
      go_roundg (c - (k + 1))
      case measure => omega
      case rel => exact ⟨k + 1, i, 0, m + 1, _, bp2, bc2, pa1, pc1, _, by omega, by first | rfl | go_num, by omega, rfl, rfl, hK9.out⟩
   ·obtain ⟨pz, hpa, hpa1⟩ := hK.out.ah hL
    subst hpa
    subst hpa1
    have hil : i < pv.length := by have := hl.out; omega
    have hGr := hK.out.gr
    obtain ⟨pz2, pc3, hpz9, -, -, hpcl⟩ := (show GR B wr g (.slice ra R rc) (.slice (some ⟨pz, 0, none⟩) l pc') R n bk A pv f from hGr).ppos (by omega)
    obtain ⟨rfl, -, rfl⟩ : pz = pz2 ∧ l = pv.length ∧ pc' = pc3 := by simpa using hpz9
    have cp := hpcl i hil
    have hLi : (0 : Int) < (L : Int) := by omega
    have hLn : ¬ (L : Int) = 0 := by omega
    clear hGr hpz9 hpcl
    obtain ⟨q, hq⟩ : ∃ q, q = pv[i] := ⟨_, rfl⟩
    rw [← hq] at cp
    by_cases hqk : q = k
    ·subst hqk
     obtain ⟨a2, c2, hsl, ha2, hc2⟩ := ints_drop1 (z := pz) (o := i) (L := L) (c := pc1) hL (by omega) hcap
     have hK2 := Lib.hid (hK.out.piv hup.out hl.out hil hq.symm (pa2 := a2) (pc2 := c2) (fun h => ⟨pz, rfl, ha2 h⟩) hc2)
     clear hK ha2 hq
     go_wp2_with fail
     go_roundg (c - (q + 1))
     case measure => omega
     case rel => exact ⟨q + 1, i + 1, L - 1, m, _, bp, bc, a2, c2, dk, by omega, by first | rfl | go_num, by omega, rfl, rfl, hK2.out⟩
    ·have hnk : k ∉ pv := hK.out.out hup.out hl.out fun hi => by rw [← hq]; exact hqk
     have hqi : ¬ (q : Int) = (k : Int) := by omega
     have hqb : ((q : Int) == (k : Int)) = false := by simpa using hqi
     replace hq := Lib.hid hq
     clear hcap
     have hN := (GL.start wr).new rfl (frCs (List.replicate c 0)) 36
     generalize hweq : wr.alloc (.cells (frCs (List.replicate c 0)).toArray 36) = y2 at hN
     have hH := hN.get _ _ mZ
     obtain ⟨hn1, hn2⟩ := hK.out.kb.lt (Nat.le_refl _)
     have hn3 := hK.out.gr.fresh (Nat.le_refl _)
     have hn4 : w.heap.size ≤ wr.heap.size := hK.out.bl.size
     replace hK := Lib.hid (hK.out.below hN.bl)
     clear hN
     go_wp2_with fail
     with_reducible refine Calls.mono (HI.out _) ?_
     rintro e y3 ⟨rfl, hb⟩
     replace hK := Lib.hid (hK.out.below hb)
     replace hH := hH.below hb
     clear hb hweq
     obtain ⟨d, hd⟩ : ∃ d, d = wr.heap.size := ⟨_, rfl⟩
     rw [← hd] at hH hn1 hn2 hn3 hn4 ⊢
     clear hd
     have hlz : (List.replicate c (0 : Rat)).length = c := List.length_replicate
     obtain ⟨z0, z1, z2, z3, z4⟩ := (hd_fs hH).cell k (by rw [hlz]; exact hk)
     have zz := hH.frz
     have hP := put5_hd hH k o1 (by rw [hlz]; exact hk)
     have hu := put5_upd y3 d (k * 5) o1
     obtain ⟨y4, hy⟩ : ∃ y, put5 y3 d (k * 5) o1 = y := ⟨_, rfl⟩
     rw [hy] at hP hu
     rw [set_one c k hk o1, ← pvP_zero c pv (fun j => if j = k then o1 else 0) (fun i => -A i k)] at hP
     unfold put5 at hy
     replace hK := Lib.hid (hK.out.upd hu hn1 hn2 hn3 hn4)
     have c1 := hK.out.gr.cells.2.1
     clear hH hu
     go_wp2_with fail
     clear z0 z1 z2 z3 z4 zz hy c1
     obtain ⟨wo, hwo⟩ : ∃ wo, wo = wr := ⟨_, rfl⟩
     subst hwo
     go_loopg [50] l (fun gk2 iv wr2 => ∃ (j : Nat) (zj : Int), j + gk2 = l ∧ iv = .int .i64 zj ∧ zj = (j : Int) ∧ Hid (KS w wr2 B g R n c l k i L m (.slice ra R rc) (.slice (some ⟨pz, 0, none⟩) l pc') bk A pv f (some ⟨pz, 0, none⟩) (some ⟨pz, i, none⟩) pc1 (.slice bp m bc) dk V) ∧ Hd wr2 d (frCs (pvP c pv (fun j => if j = k then o1 else 0) (fun i => -A i k) j)))
     case atStart => exact ⟨0, 0, Nat.zero_add l, by first | rfl | go_num, rfl, hK, hP⟩
     case round =>
      clear hK hP
      obtain ⟨j, zj, hjl, rfl, hzj, hK, hH⟩ := hrel
      rcases Nat.lt_or_ge j l with hj | hj
      ·subst hzj
       have m1 : (j : Int) < (l : Int) := by omega
       have m0 : (0 : Int) ≤ (j : Int) := Int.natCast_nonneg _
       have mb : (j : Int) ≤ 5000 := by omega
       have hjp : j < pv.length := by rw [← hl.out]; exact hj
       have hjR : j < R := by have := hlR.out; omega
       have jR : (j : Int) < (R : Int) := by omega
       have hG := hK.out.gr
       obtain ⟨z, rc2, hz9, -, -, -, -, hrw2, hzf2⟩ := hG.rpos (by omega)
       obtain ⟨rfl, rfl⟩ : ra = some ⟨z, 0, none⟩ ∧ rc = rc2 := by simpa using hz9
       obtain ⟨pz5, pc5, hpz9, -, -, hpcl⟩ := hG.ppos (by omega)
       obtain ⟨rfl, -, rfl⟩ : pz = pz5 ∧ l = pv.length ∧ pc' = pc5 := by simpa using hpz9
       have cp2 := hpcl j hjp
       have hpk := hpc.out j hjp
       have hst := pvP_step (Z := fun j => if j = k then o1 else 0) (F := fun i => -A i k) hjp hpk (up_idx hup.out j hjp)
       obtain ⟨p, hp⟩ : ∃ p, p = pv[j] := ⟨_, rfl⟩
       rw [← hp] at cp2 hpk hst
       have ci := hrw2 j hjR
       have c0 := hG.cells.1
       have hfc := FC.row (hG.hB j hjR).2 k (by rw [tabV_len]; have := hcn.out; omega)
       rw [gv_tab (by have := hcn.out; omega)] at hfc
       obtain ⟨f0, f1, f2, f3, f4⟩ := hfc
       have kn : (k : Int) < (n : Int) := by have := hcn.out; omega
       have HN := fun w => negF (A j k) w
       obtain ⟨r, hr⟩ : ∃ r, r = -A j k := ⟨_, rfl⟩
       rw [← hr] at HN
       have hst2 : (pvP c pv (fun j => if j = k then o1 else 0) (fun i => -A i k) j).set p r = pvP c pv (fun j => if j = k then o1 else 0) (fun i => -A i k) (j + 1) := by rw [hr]; exact hst
       obtain ⟨q5, hq5⟩ : ∃ q, q = A j k := ⟨_, rfl⟩
       rw [← hq5] at f0 f1 f2 f3 f4 HN
       replace HN := Lib.hid HN
       have hlen2 := pvP_len c pv (fun j => if j = k then o1 else 0) (fun i => -A i k) j
       generalize pvP c pv (fun j => if j = k then o1 else 0) (fun i => -A i k) j = S at hH hst2 hlen2
       replace hlen2 := Lib.hid hlen2
       replace hst2 := Lib.hid hst2
       have p1 : (p : Int) < (c : Int) := by omega
       have p0 : (0 : Int) ≤ (p : Int) := Int.natCast_nonneg _
       have pb : (p : Int) ≤ 5000 := by omega
       clear hz9 hzf2 hrw2 hpz9 hpcl hst hG hp hr hq5
       replace hjR := Lib.hid hjR
       replace hjp := Lib.hid hjp
       go_wp2_with fail
       with_reducible refine Calls.mono (HN.out _) ?_
       rintro e y6 ⟨rfl, hb⟩
       replace hK := Lib.hid (hK.out.below hb)
       replace hH := hH.below hb
       clear hb f0 f1 f2 f3 f4 c0 ci cp2
       obtain ⟨z0, z1, z2, z3, z4⟩ := (hd_fs hH).cell p (by rw [hlen2.out]; exact hpk)
       have zz := hH.frz
       have hP := put5_hd hH p r (by rw [hlen2.out]; exact hpk)
       have hu := put5_upd y6 d (p * 5) r
       obtain ⟨y7, hy⟩ : ∃ y, put5 y6 d (p * 5) r = y := ⟨_, rfl⟩
       rw [hy] at hP hu
       rw [hst2.out] at hP
       unfold put5 at hy
       replace hK := Lib.hid (hK.out.upd hu hn1 hn2 hn3 hn4)
       clear hH hu
       go_wp2_with fail
       go_roundg (l - (j + 1))
       case measure => omega
       case rel => exact ⟨j + 1, _, by omega, by first | rfl | go_num, by omega, hK, hP⟩
      ·obtain rfl : l = j := by omega
       subst hzj
       have m1 : ¬ (l : Int) < (l : Int) := by omega
       rw [hl.out, kv_all c k pv A hnk o1 ho1.out] at hH
       have hVm : V m = kvE pv A k := by rw [hV.out]; dsimp only; rw [hK.out.fm, free_at hnk hk]
       rw [← hVm] at hH
       clear hVm
       have hM := (GL.start wr).new rfl [.slice (some ⟨d, 0, none⟩) c c] 28
       generalize hweq : wr.alloc (.cells #[.slice (some ⟨d, 0, none⟩) c c] 28) = y8 at hM
       have hcu := (hM.get _ _ mZ).cell 0 (by simp)
       simp only [List.getElem_cons_zero] at hcu
       replace hcu := Lib.hid hcu
       replace hK := Lib.hid (hK.out.below hM.bl)
       replace hH := hH.below hM.bl
       have hfl : (freeL pv k).length ≤ k := by unfold freeL; have := List.length_filter_le (fun k => decide (k ∉ pv)) (List.range k); rw [List.length_range] at this; exact this
       have hmb := Lib.hid (show m ≤ 5000 by have := hK.out.fm; omega)
       clear hM hfl
       go_wp2_with (at_builtin; refine wp_appendW rfl _ _ rfl w.heap.size (.slice bp m bc) m (rwE c dk m) rfl hK.out.kb.hr ⟨_, 0, none⟩ (.slice (some ⟨d, 0, none⟩) c c) rfl 1 rfl hcu.out (by have := hmb.out; omega) hK.out.kb.bs ?_)
       intro v' w8 h8 hgr hor
       have hK8 := hK.out
       have hKB := hK8.kb.grow hn4 hn1 hH h8 hgr hor
       obtain ⟨bp2, bc2, rfl⟩ := own_form12 h8
       have hlb := hK8.kb.hr.lt
       have hG8 := hK8.gr.chs (Chs.of_grown hgr) fun x e => hK8.nb x e.symm
       have hb8 : Below w.heap.size y8 w8 := (Chs.of_grown hgr).below hK8.bl.size fun z hz e => by have := (hlb z e.symm).1; omega
       have hK9 : KS w w8 B g R n c l (k + 1) i L (m + 1) (.slice ra R rc) (.slice (some ⟨pz, 0, none⟩) l pc') bk A pv f (some ⟨pz, 0, none⟩) (some ⟨pz, i, none⟩) pc1 (.slice bp2 (m + 1) bc2) (fun a => if a = m then d else dk a) V :=
        ⟨hK8.iL, fun r hr => by
         have h1 := hK8.lt r hr
         have h2 : pv[r] ≠ k := fun e => hnk (e ▸ List.getElem_mem hr)
         omega, hK8.ah, hK8.cap, by rw [free_out hnk, List.length_append, List.length_singleton, ← hK8.fm], hKB, hG8, fun z hz => by
         rcases hor with e | e
         ·exact hK8.nb z (e ▸ hz)
         ·rw [e] at hz; exact hK8.gr.fresh (by simp at hz; omega), hK8.bl.trans hb8⟩
       clear hK hK8 hKB hlb hG8 hb8 h8 hgr hor hH hcu hweq
       replace hK9 := Lib.hid hK9
       go_wp2_with fail
       go_roundg (c - (k + 1))
       case measure => omega
       case rel => exact ⟨k + 1, i, L, m + 1, _, bp2, bc2, (some ⟨pz, i, none⟩), pc1, _, by omega, by first | rfl | go_num, by omega, rfl, rfl, hK9.out⟩
  ·obtain rfl : c = k := by omega
   subst hzk
   have k1 : ¬ (c : Int) < (c : Int) := by omega
   have hml : ((List.range m).map fun a => tabV c (V a)) = (freeL pv c).map fun k => tabV c (kvE pv A k) := by rw [hK.fm]; exact hlen.out
   have hvl : KV w.heap.size wr (.slice bp m bc) c ((freeL pv c).map fun k => tabV c (kvE pv A k)) := ⟨m, dk, V, hK.kb, hml⟩
   clear hml
   have hblw := hK.bl
   clear hK
   go_wp2_with fail
   exact bodyPost_ret (v := .slice bp m bc) (by simp [results, Tryz.results112, go_sem]) rfl ⟨⟨_, rfl, hvl⟩, hblw⟩
end Go.Proofs.YthffglapmkkohaaGreatDoor
namespace Go.Proofs.YthffglapmkkohaaGreatDoor
open Go.RowKit
attribute [local irreducible] lo hs sm s64 c64 d64 b64 mh ml pd pc qd qc val hiB str cmpI srD lz nb zl zh zs fe rowV tabV gv bsV tabM
theorem i64wY (x : Int) (h1 : -9223372036854775808 ≤ x) (h2 : x < 9223372036854775808) : IntKind.i64.wrap x = x := by
 rw [IntKind.wrap_i64]; omega
/-- A part while its rows are copied. -/
def prtE (N c fr : Nat) (A : Gd) (i : Nat) : List Rat := tabV N fun p => if p < i * c then A (p / c) (fr + p % c) else 0
theorem prt_zero (N c fr : Nat) (A : Gd) : List.replicate N (0 : Rat) = prtE N c fr A 0 := by
 rw [rep_tab]; exact tab_ext fun p _ => by rw [Nat.zero_mul, if_neg (Nat.not_lt_zero _)]
theorem prt_step {N c fr i : Nat} {A : Gd} (h : i * c + c ≤ N) : laid (prtE N c fr A i) (i * c) (tabV c fun j => A i (fr + j)) = prtE N c fr A (i + 1) := by
 unfold prtE
 rw [laid_tab h]
 refine tab_ext fun p hp => ?_
 have e1 : (i + 1) * c = i * c + c := by rw [Nat.add_mul, Nat.one_mul]
 by_cases g : i * c ≤ p ∧ p < i * c + c
 ·have hk : p - i * c < c := by omega
  have e2 : p = i * c + (p - i * c) := by omega
  have e3 : p / c = i := by rw [e2]; exact ix_div hk
  have e4 : p % c = p - i * c := by have := ix_mod (i := i) hk; rw [← e2] at this; exact this
  rw [if_pos g, if_pos (by omega), e3, e4]
 ·rw [if_neg g]
  by_cases g2 : p < i * c
  ·rw [if_pos g2, if_pos (by omega)]
  ·rw [if_neg g2, if_neg (by omega)]
theorem frs_drop {d N p : Nat} (hN : N ≤ 100000000) (hp : p ≤ N) : ∃ a2 c2, (∀ W, (Instr.slice 27 (.slice (some ⟨d, 0, none⟩) N N) (some (.int .i64 (p : Int))) none none).run Tryz.prog W = .ok (.slice a2 (N - p) c2) W) ∧ (p < N → a2 = some ⟨d, p * 5, none⟩) := by
 obtain ⟨i0, hi0, hz1, hz2, hz3⟩ := info_parts infoFr
 have hsz : ∀ W, (sizeOf 36).run Tryz.prog W = .ok 5 W := fun W => by simp [sizeOf, typeInfo, hi0, hz2]
 have b1 : (0 : Int) ≤ (p : Int) := by omega
 have b2 : (p : Int) ≤ (N : Int) := by omega
 have b4 : (0 : Int) ≤ (N : Int) := by omega
 refine ⟨if N = p then some ⟨d, 0, none⟩ else some ⟨d, p * 5, none⟩, N - p, fun W => ?_, fun h => by rw [if_neg (by omega)]⟩
 simp [Instr.slice, Instr.sliceBounds, run_underlying Tryz.underlying27, run_sliceBound, b1, b2, b4, hsz, go_sem, Addr.add]
 by_cases e : p = 0
 ·subst e; simp
 ·rw [if_neg (show ¬ p * 5 = 0 by omega)]
theorem row_mid {b n fr c : Nat} (hn : n ≤ 100000000) (hf : fr + c ≤ n) : ∃ a2 c2, (∀ W, (Instr.slice 28 (.slice (some ⟨b, 0, none⟩) n n) (some (.int .i64 (fr : Int))) (some (.int .i64 ((fr + c : Nat) : Int))) none).run Tryz.prog W = .ok (.slice a2 c c2) W) ∧ (0 < c → a2 = some ⟨b, fr * 5, none⟩) := by
 obtain ⟨i0, hi0, hz1, hz2, hz3⟩ := info_parts infoFr
 have hsz : ∀ W, (sizeOf 36).run Tryz.prog W = .ok 5 W := fun W => by simp [sizeOf, typeInfo, hi0, hz2]
 generalize hE : fr + c = e at *
 have b1 : (0 : Int) ≤ (fr : Int) := by omega
 have b2 : (e : Int) ≤ (n : Int) := by omega
 have b3 : (fr : Int) ≤ (e : Int) := by omega
 have b4 : (0 : Int) ≤ (e : Int) := by omega
 have b5 : e - fr = c := by omega
 have b6 : fr ≤ e := by omega
 refine ⟨if n = fr then some ⟨b, 0, none⟩ else some ⟨b, fr * 5, none⟩, n - fr, fun W => ?_, fun h => by rw [if_neg (by omega)]⟩
 simp [Instr.slice, Instr.sliceBounds, run_underlying Tryz.underlying28, run_sliceBound, b1, b2, b3, b4, b5, b6, hsz, go_sem, Addr.add]
 by_cases e9 : fr = 0
 ·subst e9; simp
 ·rw [if_neg (show ¬ fr * 5 = 0 by omega)]
theorem fo_mid {w : World} {b n fr c : Nat} {A : Nat → Rat} (h : Hd w b (frCs (tabV n A))) (hf : fr + c ≤ n) : FO w b (fr * 5) (tabV c fun j => A (fr + j)) := fun i hi => by
 rw [tabV_len] at hi
 have := fsc (hd_fs h) (fr + i) (by rw [tabV_len]; omega)
 rw [gv_tab (by omega), Nat.add_mul] at this
 rw [gv_tab hi]
 exact this
theorem epart_w (B g R n fr c N : Nat) (ru pu : Value) (bk : Nat → Nat) (A : Gd) (pv : List Nat) (f : Rat) (hn : n ≤ 5000) (hR : R ≤ 5000) (hf : fr + c ≤ n) (hN : N = R * c) (hNb : N ≤ 1000000) (w : World) (h : GR B w g ru pu R n bk A pv f) :
  Calls Tryz.prog 113 #[.pointer (some ⟨g, 0, none⟩), .int .i64 (fr : Int), .int .i64 (c : Int)] w fun e w' => (∃ d, e = .returned (.agg #[.int .i64 (R : Int), .int .i64 (c : Int), .slice (some ⟨d, 0, none⟩) N N]) ∧ w.heap.size ≤ d ∧ Hd w' d (frCs (prtE N c fr A R))) ∧ Below w.heap.size w w' := by
 obtain ⟨ra, rc, hru⟩ := h.rform
 subst hru
 have hmk := fun W => makeM W (N : Int) N rfl (by omega)
 have hmR : (R : Int) * (c : Int) = (N : Int) := by rw [hN, Int.natCast_mul]
 have Nb : (N : Int) ≤ 1000000 := by omega
 have N0 : (0 : Int) ≤ (N : Int) := Int.natCast_nonneg _
 have Rb : (R : Int) ≤ 5000 := by omega
 have cb : (c : Int) ≤ 5000 := by omega
 have fb : (fr : Int) ≤ 5000 := by omega
 replace hN := Lib.hid hN
 have hL0 : GL w w [] := GL.start w
 obtain ⟨x1, hweq, hL0⟩ := GL.named (hL0.new rfl [.int .i64 0, .int .i64 0, .slice none 0 0] 56)
 have hx1 : w.heap.size + 1 ≤ x1.heap.size := by rw [← hweq]; simp
 have hG := h.below hL0.bl
 have g0 := hG.cells.1
 have hM := (GL.start x1).new rfl (frCs (List.replicate N 0)) 36
 generalize hweq2 : x1.alloc (.cells (frCs (List.replicate N 0)).toArray 36) = x2 at hM
 have hH := hM.get _ _ mZ
 have hnot := hG.fresh (Nat.le_refl _)
 replace hG := hG.below hM.bl
 replace hL0 := hL0.call hM.bl
 have hB0 := hL0.get _ _ mZ
 have hbl := hL0.bl
 have g1 := hG.cells.1
 have hnb := h.fresh (Nat.le_refl _)
 rw [prt_zero N c fr A] at hH
 obtain ⟨d, hd⟩ : ∃ d, d = x1.heap.size := ⟨_, rfl⟩
 rw [← hd] at hH hnot
 replace hd := Lib.hid hd
 clear hM hL0 h
 replace hx1 := Lib.hid hx1
 replace hnot := Lib.hid hnot
 replace hnb := Lib.hid hnb
 go_enter Tryz.func113, Tryz.ntmps113
 go_wp2_with fail
 rw [← hd.out] at hx1 ⊢
 clear hweq hweq2 hmk g0 g1 hd
 go_loopg [23] R (fun gk iv wr => ∃ (i : Nat) (zi : Int), i + gk = R ∧ iv = .int .i64 zi ∧ zi = (i : Int) ∧ GR B wr g (.slice ra R rc) pu R n bk A pv f ∧ Hd wr d (frCs (prtE N c fr A i)) ∧ Hd wr w.heap.size [.int .i64 0, .int .i64 0, .slice none 0 0] ∧ Below w.heap.size w wr)
 case atStart => exact ⟨0, 0, Nat.zero_add R, by first | rfl | go_num, rfl, hG, hH, hB0, hbl⟩
 case round =>
  clear hG hH hB0 hbl
  obtain ⟨i, zi, hir, rfl, hzi, hG, hH, hB0, hbl⟩ := hrel
  rcases Nat.lt_or_ge i R with hi | hi
  ·subst hzi
   have k1 : (i : Int) < (R : Int) := by omega
   have k0 : (0 : Int) ≤ (i : Int) := Int.natCast_nonneg _
   have kb : (i : Int) ≤ 5000 := by omega
   obtain ⟨z, rc2, hz9, -, -, -, -, hrw2, hzf2⟩ := hG.rpos (by omega)
   obtain ⟨rfl, rfl⟩ : ra = some ⟨z, 0, none⟩ ∧ rc = rc2 := by simpa using hz9
   have ci := hrw2 i hi
   have hpN : i * c + c ≤ N := by rw [hN.out]; have := Nat.mul_le_mul_right c (show i + 1 ≤ R by omega); rw [Nat.add_mul, Nat.one_mul] at this; exact this
   obtain ⟨p, hp⟩ : ∃ p, p = i * c := ⟨_, rfl⟩
   have hmu : (i : Int) * (c : Int) = (p : Int) := by rw [hp, Int.natCast_mul]
   have hstep := prt_step (fr := fr) (A := A) hpN
   rw [← hp] at hpN hstep
   have hww := i64wY (p : Int) (by omega) (by omega)
   obtain ⟨a2, c2, hsl, ha2⟩ := frs_drop (d := d) (N := N) (p := p) (by omega) (by omega)
   obtain ⟨a3, c3, hsl2, ha3⟩ := row_mid (b := bk i) (n := n) (fr := fr) (c := c) (by omega) hf
   obtain ⟨e9, he9⟩ : ∃ e, e = fr + c := ⟨_, rfl⟩
   have had : (fr : Int) + (c : Int) = (e9 : Int) := by omega
   rw [← he9] at hsl2
   have hww2 := i64wY (e9 : Int) (by omega) (by omega)
   have hS : (tabV c fun j => A i (fr + j)).length = Nat.min c (N - p) := by rw [tabV_len]; exact (Nat.min_eq_left (by omega)).symm
   have hlp := Lib.hid (show p + (tabV c fun j => A i (fr + j)).length ≤ (prtE N c fr A i).length by rw [tabV_len]; unfold prtE; rw [tabV_len]; omega)
   replace hS := Lib.hid hS
   replace hp := Lib.hid hp
   replace he9 := Lib.hid he9
   replace hstep := Lib.hid hstep
   replace hpN := Lib.hid hpN
   clear hz9 hzf2 hrw2
   go_upto_region 5 with fail
   refine region_tl 11 [EV (.slice (some ⟨d, 0, none⟩) N N), EV (.int .i64 (i : Int)), EV (.int .i64 (c : Int)), EV (.int .i64 (p : Int)), EV (.slice a2 (N - p) c2), EV (.slice (some ⟨bk i, 0, none⟩) n n), EV (.int .i64 (fr : Int)), EV (.int .i64 (fr : Int)), EV (.int .i64 (c : Int)), EV (.int .i64 (e9 : Int)), EV (.slice a3 c c3)] (by kernel_rfl) (by kernel_rfl) ?_ ?_ ?_
   ·exact (stays_cons (stays_eq _) (stays_cons (stays_eq _) (stays_cons (stays_eq _) (stays_cons (stays_eq _) (stays_cons (stays_eq _) (stays_cons (stays_eq _) (stays_cons (stays_eq _) (stays_cons (stays_eq _) (stays_cons (stays_eq _) (stays_cons (stays_eq _) (stays_cons (stays_eq _) stays_nil)))))))))))
   ·simp only [List.take_succ_cons, List.take_zero, hopsR, and_true]
    refine ⟨?_, ?_, ?_, ?_, ?_, ?_, ?_, ?_, ?_, ?_, ?_⟩ <;> intro fv w1 hb1 hp
    all_goals (simp only [putsV, Act.put, zP, Nat.zero_add, Nat.reduceAdd])
    ·refine tyAt_none rfl ?_
     simp [tyUpon, execOp, go_sem, Act.eval, Below.refl]
    ·refine tyAt_none rfl ?_
     simp [tyUpon, execOp, go_sem, Act.eval, Below.refl]
    ·refine tyAt_none rfl ?_
     simp [tyUpon, execOp, go_sem, Act.eval, Below.refl]
    ·have h1 : EV _ (fv 1) w1 := hp 1 (LC (by kernel_rfl))
     have h2 : EV _ (fv 2) w1 := hp 2 (LC (by kernel_rfl))
     refine tyAt_none rfl ?_
     simp [tyUpon, execOp, go_sem, Act.eval, h1, h2, hmu, hww, Below.refl]
    ·have h0 : EV _ (fv 0) w1 := hp 0 (LC (by kernel_rfl))
     have h3 : EV _ (fv 3) w1 := hp 3 (LC (by kernel_rfl))
     refine tyAt_none rfl ?_
     simp [tyUpon, execOp, go_sem, Act.eval, h0, h3, hsl, Below.refl]
    ·refine tyAt_none rfl ?_
     simp [tyUpon, execOp, go_sem, Act.eval, Below.refl]
    ·refine tyAt_none rfl ?_
     simp [tyUpon, execOp, go_sem, Act.eval, Below.refl]
    ·refine tyAt_none rfl ?_
     simp [tyUpon, execOp, go_sem, Act.eval, Below.refl]
    ·refine tyAt_none rfl ?_
     simp [tyUpon, execOp, go_sem, Act.eval, Below.refl]
    ·have h7 : EV _ (fv 7) w1 := hp 7 (LC (by kernel_rfl))
     have h8 : EV _ (fv 8) w1 := hp 8 (LC (by kernel_rfl))
     refine tyAt_none rfl ?_
     simp [tyUpon, execOp, go_sem, Act.eval, h7, h8, had, hww2, Below.refl]
    ·have h5 : EV _ (fv 5) w1 := hp 5 (LC (by kernel_rfl))
     have h6 : EV _ (fv 6) w1 := hp 6 (LC (by kernel_rfl))
     have h9 : EV _ (fv 9) w1 := hp 9 (LC (by kernel_rfl))
     refine tyAt_none rfl ?_
     simp [tyUpon, execOp, go_sem, Act.eval, h5, h6, h9, hsl2, Below.refl]
   ·intro fv u1 hb1 hv
    have e0 : fv 0 = _ := hv 0 (by omega)
    have e1 : fv 1 = _ := hv 1 (by omega)
    have e2 : fv 2 = _ := hv 2 (by omega)
    have e3 : fv 3 = _ := hv 3 (by omega)
    have e4 : fv 4 = _ := hv 4 (by omega)
    have e5 : fv 5 = _ := hv 5 (by omega)
    have e6 : fv 6 = _ := hv 6 (by omega)
    have e7 : fv 7 = _ := hv 7 (by omega)
    have e8 : fv 8 = _ := hv 8 (by omega)
    have e9' : fv 9 = _ := hv 9 (by omega)
    have e10 : fv 10 = _ := hv 10 (by omega)
    simp only [List.take_succ_cons, List.take_zero, putsV, Act.put, zP, List.drop_succ_cons, List.drop_zero, Nat.zero_add, Nat.reduceAdd, e0, e1, e2, e3, e4, e5, e6, e7, e8, e9', e10]
    have hbd := below_drew hb1
    clear hb1 hv e0 e1 e2 e3 e4 e5 e6 e7 e8 e9' e10 fv hww hww2 hmu had hsl hsl2 ci
    replace hG := hG.below hbd
    replace hH := hH.below hbd
    replace hB0 := hB0.below hbd
    replace hbl := hbl.trans (hbd.mono hbl.size)
    clear hbd
    have hfo := fo_mid (A := A i) (hG.hB i hi).2 hf
    refine wp_copyF rfl _ _ _ _ rfl Tryz.underlying27 a2 a3 (N - p) c2 c c3 rfl rfl (tabV c fun j => A i (fr + j)) hS.out d p (prtE N c fr A i) hH hlp.out (fun h0 => by rw [tabV_len] at h0; exact ⟨ha2 (by have := hpN.out; omega), bk i, fr * 5, ha3 h0, hfo⟩) ?_
    intro y5 hH5 hup
    rw [hstep.out] at hH5
    replace hG := hG.chs (Chs.of_upd hup) fun x e => by rw [e]; exact hnot.out
    replace hB0 := hB0.chs (Chs.of_upd hup) fun e => by have := hx1.out; omega
    replace hbl := hbl.trans (hup.below (by have := hx1.out; omega))
    clear hH hup hfo ha2 ha3 hS hlp hstep
    replace hpN := hpN.out
    go_wp2_with fail
    go_roundg (R - (i + 1))
    case measure => omega
    case rel => exact ⟨i + 1, _, by omega, by first | rfl | go_num, by omega, hG, hH5, hB0, hbl⟩
  ·obtain rfl : R = i := by omega
   subst hzi
   have k1 : ¬ (R : Int) < (R : Int) := by omega
   have g0 := hG.cells.1
   have b0 := hB0.cell 0 (by simp)
   have b1 := hB0.cell 1 (by simp)
   have b2 := hB0.cell 2 (by simp)
   have bz := hB0.frz
   simp only [List.getElem_cons_zero, List.getElem_cons_succ] at b0 b1 b2
   have hA := setAll_hd [.int .i64 (R : Int), .int .i64 (c : Int), .slice (some ⟨d, 0, none⟩) N N] 0 wr w.heap.size [] [.int .i64 0, .int .i64 0, .slice none 0 0] rfl rfl hB0
   have hu := setAll_upd w.heap.size [.int .i64 (R : Int), .int .i64 (c : Int), .slice (some ⟨d, 0, none⟩) N N] 0 wr
   simp only [setAll, List.nil_append, Nat.zero_add, Nat.reduceAdd] at hA hu
   generalize hput : ((wr.setCell ⟨w.heap.size, 0, none⟩ (.int .i64 (R : Int))).setCell ⟨w.heap.size, 1, none⟩ (.int .i64 (c : Int))).setCell ⟨w.heap.size, 2, none⟩ (.slice (some ⟨d, 0, none⟩) N N) = y9 at hA hu
   have hH9 := hH.chs (Chs.of_upd hu) fun e => by have := hx1.out; omega
   have hb9 := hbl.trans (hu.below (Nat.le_refl _))
   have q0 := hA.cell 0 (by simp)
   have q1 := hA.cell 1 (by simp)
   have q2 := hA.cell 2 (by simp)
   simp only [List.getElem_cons_zero, List.getElem_cons_succ] at q0 q1 q2
   have hdw : w.heap.size ≤ d := by have := hx1.out; omega
   clear hH hB0 hbl hG hA hu
   go_wp2_with fail
   exact bodyPost_ret (v := .agg #[.int .i64 (R : Int), .int .i64 (c : Int), .slice (some ⟨d, 0, none⟩) N N]) (by simp [results, Tryz.results113, go_sem, q0, q1, q2]) rfl ⟨⟨d, rfl, hdw, hH9⟩, hb9⟩
end Go.Proofs.YthffglapmkkohaaGreatDoor
namespace Go.Proofs.YthffglapmkkohaaGreatDoor
open Go.RowKit
attribute [local irreducible] lo hs sm s64 c64 d64 b64 mh ml pd pc qd qc val hiB str cmpI srD lz nb zl zh zs fe rowV tabV gv bsV tabM
section
variable (r c e0 : Int) (ao bo : Option Addr) (m d bl bd : Nat) (HK : ∀ w, Calls Tryz.prog 89 #[.agg #[.int .i64 r, .int .i64 c, .slice ao m d]] w fun xe w' => xe = .returned (.int .i64 e0) ∧ Below w.heap.size w w')
include HK
theorem efw_ok (he : e0 = 0) (hl : ¬ 2048 < bl) (hn : (bl : Int) = r) (w : World) : Calls Tryz.prog 118 #[.agg #[.int .i64 r, .int .i64 c, .slice ao m d], .slice bo bl bd] w fun xe w' => xe = .returned (.int .i64 0) ∧ Below w.heap.size w w' := by
 subst he
 subst hn
 replace HK := Lib.hid HK
 have h2 : ¬ (2048 : Int) < (bl : Int) := by omega
 have h3 : decide ((2048 : Int) < (bl : Int)) = false := decide_eq_false h2
 have h4 : decide (2048 < bl) = false := decide_eq_false hl
 have h5 : ((bl : Int) == (bl : Int)) = true := by simp
 have hL0 : GL w w [] := GL.start w
 obtain ⟨x1, hweq, hL0⟩ := GL.named (hL0.new rfl [.int .i64 (bl : Int), .int .i64 c, .slice ao m d] 56)
 replace hl := Lib.hid hl
 replace h2 := Lib.hid h2
 go_enter Tryz.func118, Tryz.ntmps118
 have hA := hL0.fc
 simp only [zF, Nat.reduceAdd] at hA
 go_wp2_with fail
 with_reducible refine Calls.mono (HK.out _) ?_
 rintro e x2 ⟨rfl, hb⟩
 replace hL0 := hL0.call hb
 clear hA hb hweq
 have hA := hL0.fc
 simp only [zF, Nat.reduceAdd] at hA
 go_wp2_with fail
 exact bodyPost_ret (v := .int .i64 0) (by simp [results, Tryz.results118, go_sem]) rfl ⟨rfl, hL0.bl⟩
theorem efs_ok (he : e0 = 0) (hn : r = c) (w : World) : Calls Tryz.prog 154 #[.agg #[.int .i64 r, .int .i64 c, .slice ao m d]] w fun xe w' => xe = .returned (.int .i64 0) ∧ Below w.heap.size w w' := by
 subst he
 subst hn
 replace HK := Lib.hid HK
 have h5 : (r == r) = true := by simp
 have hL0 : GL w w [] := GL.start w
 obtain ⟨x1, hweq, hL0⟩ := GL.named (hL0.new rfl [.int .i64 r, .int .i64 r, .slice ao m d] 56)
 go_enter Tryz.func154, Tryz.ntmps154
 have hA := hL0.fc
 simp only [zF, Nat.reduceAdd] at hA
 go_wp2_with fail
 with_reducible refine Calls.mono (HK.out _) ?_
 rintro e x2 ⟨rfl, hb⟩
 replace hL0 := hL0.call hb
 clear hA hb hweq
 have hA := hL0.fc
 simp only [zF, Nat.reduceAdd] at hA
 go_wp2_with fail
 exact bodyPost_ret (v := .int .i64 0) (by simp [results, Tryz.results154, go_sem]) rfl ⟨rfl, hL0.bl⟩
end
/-- The sizes that an elimination meets. -/
structure ESz (R n c K : Nat) (G : Gd) : Prop where
 ds : ∀ k, k ≤ c → Sz (descE R ⟨G, [], 1⟩ k).f K ∧ ∀ i, i < R → ∀ j, j < n → Sz ((descE R ⟨G, [], 1⟩ k).G i j) K
 sa : ∀ m, m ≤ (descE R ⟨G, [], 1⟩ c).pv.length → ∀ i, i < R → ∀ j, j < n → Sz (ascE (descE R ⟨G, [], 1⟩ c).pv (descE R ⟨G, [], 1⟩ c).G m i j) K
 kb : K ≤ 1000000
 nb : n ≤ 5000
 rb : R ≤ 5000
 cn : c ≤ n
theorem desc_le (R : Nat) (G : Gd) (k : Nat) : (descE R ⟨G, [], 1⟩ k).pv.length ≤ R := (desc_ok (R := R) G 1 k).1.le
/-- descend and ascend from gridOf on. -/
theorem edesc_any {R n c K B g : Nat} {G : Gd} (hs : ESz R n c K G) {ru : Value} {bk : Nat → Nat} (w : World) (h : GR B w g ru (.slice none 0 0) R n bk G [] 1) (D : ES) (hD : descE R ⟨G, [], 1⟩ c = D) :
  Calls Tryz.prog 110 #[.pointer (some ⟨g, 0, none⟩), .int .i64 (c : Int)] w fun e w' => e = .returned (.tuple #[]) ∧ (∃ pu' bk', GR B w' g ru pu' R n bk' D.G D.pv D.f) ∧ Chs (fun k => B ≤ k) w w' := by
 rw [← hD]
 exact edescend_w B g R n c K ru (.slice none 0 0) bk ⟨G, [], 1⟩ hs.kb hs.cn hs.nb hs.rb (fun k _ => desc_le R G k) hs.ds w h
theorem easc_any {R n c K B g : Nat} {G : Gd} (hs : ESz R n c K G) (D : ES) (hD : descE R ⟨G, [], 1⟩ c = D) {ru pu : Value} {bk : Nat → Nat} {f : Rat} (w : World) (h : GR B w g ru pu R n bk D.G D.pv f) :
  Calls Tryz.prog 111 #[.pointer (some ⟨g, 0, none⟩)] w fun e w' => e = .returned (.tuple #[]) ∧ GR B w' g ru pu R n bk (ascE D.pv D.G D.pv.length) D.pv f ∧ Chs (fun k => B ≤ k) w w' := by
 have h1 := (desc_ok (R := R) G 1 c).1
 have h2 := hs.sa
 rw [hD] at h1 h2
 exact eascend_w B g R n K ru pu bk D.G D.pv f hs.kb hs.nb hs.rb h1.le (fun r hr => Nat.lt_of_lt_of_le (h1.lt r hr) hs.cn) h2 w h
end Go.Proofs.YthffglapmkkohaaGreatDoor
namespace Go.Proofs.YthffglapmkkohaaGreatDoor
open Go.RowKit
attribute [local irreducible] lo hs sm s64 c64 d64 b64 mh ml pd pc qd qc val hiB str cmpI srD lz nb zl zh zs fe rowV tabV gv bsV tabM
theorem Chs.bl {B : Nat} {w w' : World} (h : Chs (fun k => B ≤ k) w w') (hB : B ≤ w.heap.size) : Below B w w' := h.below hB fun k hk e => by omega
theorem ils_own {W : World} {B : Nat} {pa : Option Addr} {c : Nat} {pv : List Nat} (h : W.ownsRow B 3 1 (.slice pa pv.length c) pv.length (pvE pv)) (c2 : Nat) : ILs W (.slice pa pv.length c2) (pv.map Int.ofNat) := by
 have hlt := h.lt
 have hl : (pv.map Int.ofNat).length = pv.length := List.length_map _
 rcases id h.2 with ⟨e1, e2⟩ | ⟨z, cap, cur, e1, hb, -⟩
 ·have e3 : pv = [] := List.eq_nil_of_length_eq_zero e2
  subst e3
  exact ⟨pa, c2, 0, rfl, fun h => absurd h (Nat.lt_irrefl 0), fun i hi => absurd hi (Nat.not_lt_zero i)⟩
 ·obtain ⟨rfl, rfl⟩ : pa = some ⟨z, 0, none⟩ ∧ c = cap := by simpa using e1
  refine ⟨_, c2, z, by rw [hl], fun _ => ⟨rfl, (hlt z rfl).2⟩, fun i hi => ?_⟩
  rw [hl] at hi
  rw [List.getElem_map]
  exact (h.cellAt i (by omega)).trans (pv_at hi)
section
variable (x : Mx) (hx : OKM x) (K : Nat) (hs : ESz x.r x.c x.c K (rowsE x)) (D : ES) (hD : descE x.r ⟨rowsE x, [], 1⟩ x.c = D) (u : Value) (w : World) (hu : CQ w u x.l)
include hx hs hD hu
theorem ekern_w : Calls Tryz.prog 44 #[.agg #[.int .i64 (x.r : Int), .int .i64 (x.c : Int), u]] w fun e w' => (∃ v, e = .returned (.tuple #[v, .int .i64 0]) ∧ VLs w' v ((freeL D.pv x.c).map fun k => tabV x.c (kvE D.pv (ascE D.pv D.G D.pv.length) k))) ∧ Below w.heap.size w w' := by
 obtain ⟨ao, d, rfl, hcap⟩ := hu.form
 have HK := Lib.hid (mcheck_ok x.r x.c x.l.length d ao hx.r hx.c hx.len)
 have HG := Lib.hid (fun (w : World) (h : CQ w (.slice ao x.l.length d) x.l) => egridOf_w x hx 0 (by omega) _ w h)
 obtain ⟨N, hN⟩ : ∃ N, N = x.l.length := ⟨_, rfl⟩
 rw [← hN] at HK HG hu hcap ⊢
 clear hN
 have hL0 : GL w w [] := GL.start w
 obtain ⟨x0, hweq, hL0⟩ := GL.named (hL0.new rfl [.int .i64 (x.r : Int), .int .i64 (x.c : Int), .slice ao N d] 56)
 have hA := hL0.fc
 simp only [zF, Nat.reduceAdd] at hA
 have hI := (desc_ok (R := x.r) (rowsE x) 1 x.c).1
 rw [hD] at hI
 have hRd := (red_ok x.r x.c (rowsE x)).1
 have hlc : D.pv.length ≤ x.c := by have := hRd.len_le; unfold redE at this; rw [hD] at this; exact this
 clear hRd
 go_enter Tryz.func44, Tryz.ntmps44
 go_wp2_with fail
 with_reducible refine Calls.mono (HK.out _) ?_
 rintro e x1 ⟨rfl, hb⟩
 replace hL0 := hL0.call hb
 clear hA hb hweq HK
 have hA := hL0.fc
 simp only [zF, Nat.reduceAdd] at hA
 go_wp2_with fail
 refine Calls.mono (HG.out _ (hu.below hL0.bl)) ?_
 rintro e w1 ⟨⟨g, rfl, ru, bk, hG⟩, hb⟩
 clear hA HG
 have hL1 := hL0.call hb
 have hA := hL1.fc
 simp only [zF, Nat.reduceAdd] at hA
 have HD := Lib.hid (edesc_any hs w1 hG D hD)
 go_wp2_with fail
 with_reducible refine Calls.mono HD.out ?_
 rintro e w2 ⟨rfl, ⟨pu, bk2, hG2⟩, hc⟩
 replace hb := hb.trans (hc.bl hb.size)
 clear hA HD hc hG hL1
 have HA := Lib.hid (easc_any hs D hD w2 hG2)
 go_wp2_with fail
 with_reducible refine Calls.mono HA.out ?_
 rintro e w3 ⟨rfl, hG3, hc⟩
 replace hb := hb.trans (hc.bl hb.size)
 clear HA hc hG2
 have hL1 := hL0.call hb
 have hA := hL1.fc
 simp only [zF, Nat.reduceAdd] at hA
 have HKe := Lib.hid (ekernel_w _ g x.r x.c x.c _ _ bk2 _ D.pv D.f (Nat.le_refl _) (by have := hx.c; omega) (by have := hx.r; omega) hI.le hlc hI.lt hI.up w3 hG3)
 clear hI
 go_wp2_with fail
 with_reducible refine Calls.mono HKe.out ?_
 rintro e w4 ⟨⟨v, rfl, hv⟩, hb4⟩
 replace hL1 := hL1.call hb4
 clear hA HKe
 go_wp2_with fail
 exact bodyPost_ret (v := .tuple #[v, .int .i64 0]) (by simp [results, Tryz.results44, go_sem]) rfl ⟨⟨v, rfl, hv.vls⟩, hL1.bl⟩
theorem edet0_w : Calls Tryz.prog 155 #[.agg #[.int .i64 (x.r : Int), .int .i64 (x.c : Int), u]] w fun e w' => e = .returned (fracV (if D.pv.length < x.r then 0 else D.f)) ∧ Below w.heap.size w w' := by
 obtain ⟨q, hq⟩ : ∃ q, q = if D.pv.length < x.r then 0 else D.f := ⟨_, rfl⟩
 rw [← hq]
 replace hq := Lib.hid hq
 obtain ⟨ao, d, rfl, hcap⟩ := hu.form
 have HG := Lib.hid (fun (w : World) (h : CQ w (.slice ao x.l.length d) x.l) => egridOf_w x hx 0 (by omega) _ w h)
 obtain ⟨N, hN⟩ : ∃ N, N = x.l.length := ⟨_, rfl⟩
 rw [← hN] at HG hu hcap ⊢
 clear hN
 have hL0 : GL w w [] := GL.start w
 replace hL0 := (hL0.new rfl [.int .i64 (x.r : Int), .int .i64 (x.c : Int), .slice ao N d] 56).new (K := w.heap.size + 1) (by simp) (frC 0) 36
 obtain ⟨x0, hx0⟩ : ∃ y, y = (w.alloc (.cells [.int .i64 (x.r : Int), .int .i64 (x.c : Int), .slice ao N d].toArray 56)).alloc (.cells (frC 0).toArray 36) := ⟨_, rfl⟩
 rw [← hx0] at hL0
 rw [frC_zero] at hx0
 have hweq := hx0.symm
 clear hx0
 have hF := hL0
 rw [frC_zero] at hF
 have hA := hF.fc
 simp only [zF, Nat.reduceAdd] at hA
 go_enter Tryz.func155, Tryz.ntmps155
 go_wp2_with fail
 refine Calls.mono (HG.out _ (hu.below hL0.bl)) ?_
 rintro e w1 ⟨⟨g, rfl, ru, bk, hG⟩, hb⟩
 clear hA HG hF hweq
 have hL1 := hL0.call hb
 have hA := hL1.fc
 simp only [frC_zero, fcG, cellsF, neK, and_true, ne_eq, Nat.zero_add, Nat.reduceAdd] at hA
 have HD := Lib.hid (edesc_any hs w1 hG D hD)
 go_wp2_with fail
 with_reducible refine Calls.mono HD.out ?_
 rintro e w2 ⟨rfl, ⟨pu, bk2, hG2⟩, hc⟩
 replace hb := hb.trans (hc.bl hb.size)
 replace hL0 := hL0.call hb
 clear hA HD hc hb hG hL1
 obtain ⟨pa, pc, hpu⟩ := hG2.pform
 subst hpu
 have c1 := hG2.cells.2.1
 have hF := hL0
 rw [frC_zero] at hF
 have hA := hF.fc
 simp only [zF, Nat.reduceAdd] at hA
 go_upto_region 3 with fail
 go_region
 replace hL0 := hL0.drew
 replace hG2 := hG2.below ((Below.refl _ _).drew)
 clear hA hF c1
 generalize w2.drew = w3 at hL0 hG2 ⊢
 obtain ⟨-, -, f0, f1, f2, f3, f4⟩ := hG2.cells
 simp only [Nat.reduceAdd] at f1 f2 f3 f4
 by_cases hlt : D.pv.length < x.r
 ·have hq0 : q = 0 := by rw [hq.out, if_pos hlt]
  have hz : fracV q = .agg #[.int .u64 0, .string ⟨#[]⟩, .bool false, .int .u64 0, .string ⟨#[]⟩] := by rw [hq0]; have := frV_q0; simpa [fracV] using this
  have h1 : (D.pv.length : Int) < (x.r : Int) := by omega
  have hF := hL0
  rw [frC_zero] at hF
  have hP := hF.put 0 (w.heap.size + 1) _ rfl [.int .u64 0, .string ⟨#[]⟩, .bool false, .int .u64 0, .string ⟨#[]⟩] rfl
  obtain ⟨y, hy⟩ : ∃ y, setAll w3 (w.heap.size + 1) 0 [.int .u64 0, .string ⟨#[]⟩, .bool false, .int .u64 0, .string ⟨#[]⟩] = y := ⟨_, rfl⟩
  rw [hy] at hP
  simp only [setAll, Nat.zero_add, Nat.reduceAdd] at hy
  simp only [List.set_cons_zero] at hP
  have hA := hF.fc
  simp only [zF, Nat.reduceAdd] at hA
  have hB := hP.fc
  simp only [zF, Nat.reduceAdd] at hB
  clear f0 f1 f2 f3 f4 hL0 hF
  replace hz := Lib.hid hz
  replace hq0 := Lib.hid hq0
  go_wp2_with fail
  exact bodyPost_ret (v := .agg #[.int .u64 0, .string ⟨#[]⟩, .bool false, .int .u64 0, .string ⟨#[]⟩]) (by simp [results, Tryz.results155, go_sem, hB]) rfl ⟨by rw [hz.out], hP.bl⟩
 ·have hq0 : q = D.f := by rw [hq.out, if_neg hlt]
  rw [← hq0] at f0 f1 f2 f3 f4
  have h1 : ¬ (D.pv.length : Int) < (x.r : Int) := by omega
  have hF := hL0
  rw [frC_zero] at hF
  have hP := hL0.box5 q
  obtain ⟨y, hy⟩ : ∃ y, put5 w3 (w.heap.size + 1) 0 q = y := ⟨_, rfl⟩
  rw [hy] at hP
  simp only [put5, Nat.zero_add] at hy
  have hA := hF.fc
  simp only [zF, Nat.reduceAdd] at hA
  unfold frC at hP
  have hB := hP.fc
  simp only [zF, Nat.reduceAdd] at hB
  clear hL0 hF
  replace hq0 := Lib.hid hq0
  go_wp2_with fail
  exact bodyPost_ret (v := fracV q) (by simp [results, Tryz.results155, go_sem, hB]) rfl ⟨rfl, hP.bl⟩
end
end Go.Proofs.YthffglapmkkohaaGreatDoor
namespace Go.Proofs.YthffglapmkkohaaGreatDoor
open Go.RowKit
attribute [local irreducible] lo hs sm s64 c64 d64 b64 mh ml pd pc qd qc val hiB str cmpI srD lz nb zl zh zs fe rowV tabV gv bsV tabM
theorem eclip_w (pa : Option Addr) (l c : Nat) (hl : l ≤ c) (hb : l ≤ 100000) (w : World) : Calls Tryz.prog 114 #[.slice pa l c] w fun xe w' => xe = .returned (.slice pa l l) ∧ Below w.heap.size w w' := by
 obtain ⟨i0, hi0, hz1, hz2, hz3⟩ := info_parts infoRw
 have hsz : ∀ W, (sizeOf 3).run Tryz.prog W = .ok 1 W := fun W => by simp [sizeOf, typeInfo, hi0, hz2]
 have b1 : (0 : Int) ≤ (l : Int) := by omega
 have b2 : (l : Int) ≤ (c : Int) := by omega
 have b3 : (l : Int) ≤ (l : Int) := by omega
 have hsl : ∀ W, (Instr.slice 24 (.slice pa l c) none (some (.int .i64 (l : Int))) (some (.int .i64 (l : Int)))).run Tryz.prog W = .ok (.slice pa l l) W := fun W => by
  cases pa with
  | none => simp [Instr.slice, Instr.sliceBounds, run_underlying Tryz.underlying24, run_sliceBound, b1, b2, hsz, go_sem, Addr.add]
  | some a => simp [Instr.slice, Instr.sliceBounds, run_underlying Tryz.underlying24, run_sliceBound, b1, b2, hsz, go_sem, Addr.add]
 clear b1 b2 b3 hsz
 go_enter Tryz.func114, Tryz.ntmps114
 go_wp2_with fail
 exact bodyPost_ret (v := .slice pa l l) (by simp [results, Tryz.results114, go_sem]) rfl ⟨rfl, Below.refl _ _⟩
/-- A matrix that a call has made. -/
abbrev PRp (B : Nat) (r c : Int) (N : Nat) (l : List Rat) : Value → World → Prop := fun v W => ∃ b, v = .agg #[.int .i64 r, .int .i64 c, .slice (some ⟨b, 0, none⟩) N N] ∧ B ≤ b ∧ Hd W b (frCs l)
theorem stays_prp (B : Nat) (r c : Int) (N : Nat) (l : List Rat) : Stays (PRp B r c N l) := fun _ _ _ hb ⟨b, h1, h2, h3⟩ => ⟨b, h1, h2, h3.below hb⟩
section
variable (x : Mx) (hx : OKM x) (K : Nat) (hs : ESz x.r x.c x.c K (rowsE x)) (D : ES) (hD : descE x.r ⟨rowsE x, [], 1⟩ x.c = D) (u : Value) (w : World) (hu : CQ w u x.l)
include hx hs hD hu
theorem edet_w (hsq : x.r = x.c) : Calls Tryz.prog 101 #[.agg #[.int .i64 (x.r : Int), .int .i64 (x.c : Int), u]] w fun e w' => e = .returned (.tuple #[fracV (if D.pv.length < x.r then 0 else D.f), .int .i64 0]) ∧ Below w.heap.size w w' := by
 have HD := Lib.hid (fun (w : World) (h : CQ w u x.l) => edet0_w x hx K hs D hD u w h)
 obtain ⟨q, hq⟩ : ∃ q, q = if D.pv.length < x.r then 0 else D.f := ⟨_, rfl⟩
 rw [← hq] at HD ⊢
 clear hq hs hD
 obtain ⟨ao, d, rfl, hcap⟩ := hu.form
 have HF := Lib.hid (efs_ok (x.r : Int) (x.c : Int) 0 ao x.l.length d (mcheck_ok x.r x.c x.l.length d ao hx.r hx.c hx.len) rfl (by rw [hsq]))
 clear hsq
 obtain ⟨N, hN⟩ : ∃ N, N = x.l.length := ⟨_, rfl⟩
 rw [← hN] at HD HF hu hcap ⊢
 clear hN
 have hL0 : GL w w [] := GL.start w
 replace hL0 := (hL0.new rfl [.int .i64 (x.r : Int), .int .i64 (x.c : Int), .slice ao N d] 56).new (K := w.heap.size + 1) (by simp) (frC 0) 36
 obtain ⟨x0, hx0⟩ : ∃ y, y = (w.alloc (.cells [.int .i64 (x.r : Int), .int .i64 (x.c : Int), .slice ao N d].toArray 56)).alloc (.cells (frC 0).toArray 36) := ⟨_, rfl⟩
 rw [← hx0] at hL0
 rw [frC_zero] at hx0
 have hweq := hx0.symm
 clear hx0
 have hA := hL0.fc
 simp only [frC_zero, fcG, cellsF, neK, and_true, ne_eq, Nat.zero_add, Nat.reduceAdd] at hA
 go_enter Tryz.func101, Tryz.ntmps101
 go_wp2_with fail
 with_reducible refine Calls.mono (HF.out _) ?_
 rintro e x1 ⟨rfl, hb⟩
 replace hL0 := hL0.call hb
 clear hA hb hweq HF
 have hA := hL0.fc
 simp only [frC_zero, fcG, cellsF, neK, and_true, ne_eq, Nat.zero_add, Nat.reduceAdd] at hA
 go_wp2_with fail
 with_reducible refine Calls.mono (HD.out _ (hu.below hL0.bl)) ?_
 rintro e x2 ⟨rfl, hb⟩
 replace hL0 := hL0.call hb
 clear hA hb HD
 have hP := hL0.box5 q
 obtain ⟨y, hy⟩ : ∃ y, put5 x2 (w.heap.size + 1) 0 q = y := ⟨_, rfl⟩
 rw [hy] at hP
 simp only [put5, Nat.zero_add] at hy
 have hA := hL0.fc
 simp only [frC_zero, fcG, cellsF, neK, and_true, ne_eq, Nat.zero_add, Nat.reduceAdd] at hA
 unfold frC at hP
 have hB := hP.fc
 simp only [zF, Nat.reduceAdd] at hB
 clear hL0
 go_wp2_with fail
 exact bodyPost_ret (v := .tuple #[fracV q, .int .i64 0]) (by simp [results, Tryz.results101, go_sem, hB]) rfl ⟨rfl, hP.bl⟩
theorem ereduce_w (hN1 : x.r * x.c ≤ 1000000) : Calls Tryz.prog 45 #[.agg #[.int .i64 (x.r : Int), .int .i64 (x.c : Int), u]] w fun e w' => (∃ b s, e = .returned (.tuple #[.agg #[.int .i64 (x.r : Int), .int .i64 (x.c : Int), .slice (some ⟨b, 0, none⟩) (x.r * x.c) (x.r * x.c)], s, .int .i64 0]) ∧ Hd w' b (frCs (prtE (x.r * x.c) x.c 0 (ascE D.pv D.G D.pv.length) x.r)) ∧ ILs w' s (D.pv.map Int.ofNat)) ∧ Below w.heap.size w w' := by
 obtain ⟨ao, d, rfl, hcap⟩ := hu.form
 have HK := Lib.hid (mcheck_ok x.r x.c x.l.length d ao hx.r hx.c hx.len)
 have HG := Lib.hid (fun (w : World) (h : CQ w (.slice ao x.l.length d) x.l) => egridOf_w x hx 0 (by omega) _ w h)
 have hlen := hx.len
 obtain ⟨N, hN⟩ : ∃ N, N = x.l.length := ⟨_, rfl⟩
 rw [← hlen, ← hN]
 rw [← hN] at HK HG hu hcap hlen
 clear hN
 have hL0 : GL w w [] := GL.start w
 obtain ⟨x0, hweq, hL0⟩ := GL.named ((hL0.new rfl [.int .i64 (x.r : Int), .int .i64 (x.c : Int), .slice ao N d] 56).new (K := w.heap.size + 1) (by simp) [.int .i64 0, .int .i64 0, .slice none 0 0] 56)
 have hA := hL0.fc
 simp only [zF, Nat.reduceAdd] at hA
 replace hlen := Lib.hid hlen
 go_enter Tryz.func45, Tryz.ntmps45
 go_wp2_with fail
 with_reducible refine Calls.mono (HK.out _) ?_
 rintro e x1 ⟨rfl, hb⟩
 replace hL0 := hL0.call hb
 clear hA hb hweq HK
 have hA := hL0.fc
 simp only [zF, Nat.reduceAdd] at hA
 go_wp2_with fail
 refine Calls.mono (HG.out _ (hu.below hL0.bl)) ?_
 rintro e w1 ⟨⟨g, rfl, ru, bk, hG⟩, hb⟩
 clear hA HG
 have hL1 := hL0.call hb
 have hA := hL1.fc
 simp only [zF, Nat.reduceAdd] at hA
 have HD := Lib.hid (edesc_any hs w1 hG D hD)
 have hw8 := Lib.hid (show w.heap.size + 2 ≤ x1.heap.size by have := (hL0.get _ _ mZ).lt; omega)
 go_wp2_with fail
 with_reducible refine Calls.mono HD.out ?_
 rintro e w2 ⟨rfl, ⟨pu, bk2, hG2⟩, hc⟩
 replace hb := hb.trans (hc.bl hb.size)
 clear hA HD hc hG hL1
 have HA := Lib.hid (easc_any hs D hD w2 hG2)
 go_wp2_with fail
 with_reducible refine Calls.mono HA.out ?_
 rintro e w3 ⟨rfl, hG3, hc⟩
 replace hb := hb.trans (hc.bl hb.size)
 replace hL0 := hL0.call hb
 clear HA hc hG2 hb
 have hlD : D.pv.length ≤ 100000 := by have := (desc_ok (R := x.r) (rowsE x) 1 x.c).1.le; rw [hD] at this; have := hx.r; omega
 obtain ⟨A, hA9⟩ : ∃ A, A = ascE D.pv D.G D.pv.length := ⟨_, rfl⟩
 rw [← hA9] at hG3
 replace hA9 := Lib.hid hA9
 obtain ⟨pa, pc, hpu⟩ := hG3.pform
 subst hpu
 have hpc : D.pv.length ≤ pc := by
  rcases id hG3.hp.2 with ⟨e1, e2⟩ | ⟨z, cap, cur, e1, -, -, e2, -⟩
  ·omega
  ·obtain ⟨-, rfl⟩ : pa = some ⟨z, 0, none⟩ ∧ pc = cap := by simpa using e1
   omega
 have HP := fun (W : World) (hb : Below w3.heap.size w3 W) => epart_w _ g x.r x.c 0 x.c N ru _ bk2 A D.pv D.f (by have := hx.c; omega) (by have := hx.r; omega) (by omega) hlen.out (by rw [hlen.out]; exact hN1) W (hG3.below hb)
 have hw3 := Lib.hid (show w.heap.size + 2 ≤ w3.heap.size by have := (hL0.get _ _ mZ).lt; omega)
 have c1 := hG3.cells.2.1
 have HC := Lib.hid (eclip_w pa D.pv.length pc hpc hlD)
 go_upto_region 7 with fail
 refine region_tl 9 [EV (.pointer (some ⟨g, 0, none⟩)), EV (.pointer (some ⟨w.heap.size, 1, none⟩)), EV (.int .i64 (x.c : Int)), PRp (w.heap.size + 2) (x.r : Int) (x.c : Int) N (prtE N x.c 0 A x.r), EV (.pointer (some ⟨g, 0, none⟩)), EV (.pointer (some ⟨g, 0, none⟩)), EV (.pointer (some ⟨g, 1, none⟩)), EV (.slice pa D.pv.length pc), EV (.slice pa D.pv.length D.pv.length)] (by kernel_rfl) (by kernel_rfl) ?_ ?_ ?_
 ·exact (stays_cons (stays_eq _) (stays_cons (stays_eq _) (stays_cons (stays_eq _) (stays_cons (stays_prp _ _ _ _ _) (stays_cons (stays_eq _) (stays_cons (stays_eq _) (stays_cons (stays_eq _) (stays_cons (stays_eq _) (stays_cons (stays_eq _) stays_nil)))))))))
 ·simp only [List.take_succ_cons, List.take_zero, hopsR, and_true]
  refine ⟨?_, ?_, ?_, ?_, ?_, ?_, ?_, ?_, ?_⟩ <;> intro fv w1 hb1 hp
  all_goals (have hc := (hL0.call (below_drew hb1)).fc; simp only [zF, Nat.reduceAdd] at hc; simp only [putsV, Act.put, zP, Nat.zero_add, Nat.reduceAdd])
  ·refine tyAt_none rfl ?_
   simp [tyUpon, execOp, go_sem, Act.eval, Below.refl]
  ·refine tyAt_none rfl ?_
   simp [tyUpon, execOp, go_sem, Act.eval, Below.refl]
  ·have h1 : EV (.pointer (some ⟨w.heap.size, 1, none⟩)) (fv 1) w1 := hp 1 (LC (by kernel_rfl))
   refine tyAt_none rfl ?_
   simp [tyUpon, execOp, go_sem, Act.eval, h1, hc, Below.refl]
  ·have h0 : EV (.pointer (some ⟨g, 0, none⟩)) (fv 0) w1 := hp 0 (LC (by kernel_rfl))
   have h2 : EV (.int .i64 (x.c : Int)) (fv 2) w1 := hp 2 (LC (by kernel_rfl))
   refine tyAt_none rfl ?_
   refine ty_call (f := 113) (args := #[.pointer (some ⟨g, 0, none⟩), .int .i64 0, .int .i64 (x.c : Int)]) (by simp [execOp, go_sem, Act.eval, h0, h2]) ?_
   exact (HP w1 (below_drew hb1)).mono fun e w2 ⟨⟨b, h1, h2, h3⟩, h4⟩ => ⟨_, h1, ⟨b, rfl, Nat.le_trans (Nat.le_trans hw3.out (below_drew hb1).size) h2, h3⟩, h4⟩
  ·refine tyAt_none rfl ?_
   simp [tyUpon, execOp, go_sem, Act.eval, Below.refl]
  ·have h4 : EV (.pointer (some ⟨g, 0, none⟩)) (fv 4) w1 := hp 4 (LC (by kernel_rfl))
   refine tyAt_none rfl ?_
   simp [tyUpon, execOp, go_sem, Act.eval, h4, Below.refl]
  ·have h5 : EV (.pointer (some ⟨g, 0, none⟩)) (fv 5) w1 := hp 5 (LC (by kernel_rfl))
   refine tyAt_none rfl ?_
   simp [tyUpon, execOp, go_sem, Act.eval, h5, Below.refl]
  ·have h6 : EV (.pointer (some ⟨g, 1, none⟩)) (fv 6) w1 := hp 6 (LC (by kernel_rfl))
   refine tyAt_none rfl ?_
   have hc := keepsC (below_drew hb1) c1
   simp [tyUpon, execOp, go_sem, Act.eval, h6, hc, Below.refl]
  ·have h7 : EV (.slice pa D.pv.length pc) (fv 7) w1 := hp 7 (LC (by kernel_rfl))
   refine tyAt_none rfl ?_
   refine ty_call (f := 114) (args := #[.slice pa D.pv.length pc]) (by simp [execOp, go_sem, Act.eval, h7]) ?_
   exact (HC.out w1).mono fun e w2 ⟨h1, h2⟩ => ⟨_, h1, rfl, h2⟩
 ·intro fv u1 hb1 hv
  have ev0 : fv 0 = _ := hv 0 (by omega)
  have ev1 : fv 1 = _ := hv 1 (by omega)
  have ev2 : fv 2 = _ := hv 2 (by omega)
  obtain ⟨b9, ev3, hb9, hH9⟩ := hv 3 (by omega)
  have ev4 : fv 4 = _ := hv 4 (by omega)
  have ev5 : fv 5 = _ := hv 5 (by omega)
  have ev6 : fv 6 = _ := hv 6 (by omega)
  have ev7 : fv 7 = _ := hv 7 (by omega)
  have ev8 : fv 8 = _ := hv 8 (by omega)
  simp only [List.take_succ_cons, List.take_zero, putsV, Act.put, zP, List.drop_succ_cons, List.drop_zero, Nat.zero_add, Nat.reduceAdd, ev0, ev1, ev2, ev3, ev4, ev5, ev6, ev7, ev8]
  have hbd := below_drew hb1
  replace hL0 := hL0.call hbd
  replace hG3 := hG3.below hbd
  have hil := ils_own hG3.hp D.pv.length
  clear hbd hb1 hv ev0 ev1 ev2 ev3 ev4 ev5 ev6 ev7 ev8 fv c1 HC HP hpc hlD
  have hP := hL0.put 0 (w.heap.size + 1) _ rfl [.int .i64 (x.r : Int), .int .i64 (x.c : Int), .slice (some ⟨b9, 0, none⟩) N N] rfl
  have hu := setAll_upd (w.heap.size + 1) [.int .i64 (x.r : Int), .int .i64 (x.c : Int), .slice (some ⟨b9, 0, none⟩) N N] 0 u1
  obtain ⟨y, hy⟩ : ∃ y, setAll u1 (w.heap.size + 1) 0 [.int .i64 (x.r : Int), .int .i64 (x.c : Int), .slice (some ⟨b9, 0, none⟩) N N] = y := ⟨_, rfl⟩
  rw [hy] at hP hu
  simp only [setAll, Nat.zero_add, Nat.reduceAdd] at hy
  simp only [List.set_cons_zero] at hP
  have hA := hL0.fc
  simp only [zF, Nat.reduceAdd] at hA
  have hB := hP.fc
  simp only [zF, Nat.reduceAdd] at hB
  have hH8 := hH9.chs (Chs.of_upd hu) fun e => by omega
  have hil2 : ILs y (.slice pa D.pv.length D.pv.length) (D.pv.map Int.ofNat) := by
   have h1 := own_chs hG3.hp (Chs.of_upd hu) fun z hz e => by have := (hG3.hp.lt z hz).1; have := hw8.out; omega
   exact ils_own h1 _
  rw [hA9.out] at hH8
  clear hL0 hH9 hG3 hu hil
  go_wp2_with fail
  exact bodyPost_ret (v := .tuple #[.agg #[.int .i64 (x.r : Int), .int .i64 (x.c : Int), .slice (some ⟨b9, 0, none⟩) N N], .slice pa D.pv.length D.pv.length, .int .i64 0]) (by simp [results, Tryz.results45, go_sem, hB]) rfl ⟨⟨b9, _, rfl, hH8, hil2⟩, hP.bl⟩
end
end Go.Proofs.YthffglapmkkohaaGreatDoor
namespace Go.Proofs.YthffglapmkkohaaGreatDoor
open Go.RowKit
attribute [local irreducible] lo hs sm s64 c64 d64 b64 mh ml pd pc qd qc val hiB str cmpI srD lz nb zl zh zs fe rowV tabV gv bsV tabM
/-- The rows with the first m right-hand sides behind them. -/
def augP (x : Mx) (b : List Rat) (m : Nat) : Gd := fun i j => if j = x.c ∧ i < m then gv b i else rowsE x i j
def augE (x : Mx) (b : List Rat) : Gd := fun i j => if j = x.c then gv b i else rowsE x i j
theorem aug_zero (x : Mx) (b : List Rat) : augP x b 0 = rowsE x := by funext i j; unfold augP; rw [if_neg fun h => by omega]
theorem aug_row (x : Mx) (b : List Rat) (m : Nat) : (tabV (x.c + 1) (augP x b m m)).set x.c (gv b m) = tabV (x.c + 1) (augP x b (m + 1) m) := by
 refine List.ext_getElem (by rw [List.length_set, tabV_len, tabV_len]) fun a h1 h2 => ?_
 have ha : a < x.c + 1 := by rwa [tabV_len] at h2
 rw [List.getElem_set, ← gv_get h2, gv_tab ha]
 unfold augP
 by_cases e : x.c = a
 ·rw [if_pos e, if_pos ⟨e.symm, by omega⟩]
 ·rw [if_neg e, if_neg fun h => e h.1.symm]
  have h3 : a < (tabV (x.c + 1) fun j => if j = x.c ∧ m < m then gv b m else rowsE x m j).length := by rw [tabV_len]; exact ha
  rw [← gv_get h3, gv_tab ha, if_neg fun h => e h.1.symm]
theorem aug_step (x : Mx) (b : List Rat) (m : Nat) : (fun a => if a = m then augP x b (m + 1) m else augP x b m a) = augP x b (m + 1) := by
 funext a j
 by_cases e : a = m
 ·subst e; rw [if_pos rfl]
 ·rw [if_neg e]
  unfold augP
  by_cases g : j = x.c ∧ a < m
  ·rw [if_pos g, if_pos ⟨g.1, by omega⟩]
  ·rw [if_neg g, if_neg fun h => g ⟨h.1, by omega⟩]
/-- What Solve returns. -/
def SolP (c R : Nat) (D : ES) (e : Ending) (w' : World) : Prop :=
 ((∀ i, D.pv.length ≤ i → i < R → D.G i c = 0) ∧ ∃ b v, e = .returned (.tuple #[.agg #[.slice (some ⟨b, 0, none⟩) c c, v], .int .i64 0]) ∧ Hd w' b (frCs (tabV c (solE D.pv (ascE D.pv D.G D.pv.length) c))) ∧ VLs w' v ((freeL D.pv c).map fun k => tabV c (kvE D.pv (ascE D.pv D.G D.pv.length) k))) ∨
 ((∃ i, D.pv.length ≤ i ∧ i < R ∧ D.G i c ≠ 0) ∧ e = .returned (.tuple #[.agg #[.slice none 0 0, .slice none 0 0], .int .i64 6]))
theorem esolve_w (x : Mx) (hx : OKM x) (b : List Rat) (hbl : b.length = x.r) (K : Nat) (hs : ESz x.r (x.c + 1) x.c K (augE x b)) (D : ES) (hD : descE x.r ⟨augE x b, [], 1⟩ x.c = D) (u s : Value) (w : World) (hu : CQ w u x.l) (hv : SlQ w s b) :
  Calls Tryz.prog 50 #[.agg #[.int .i64 (x.r : Int), .int .i64 (x.c : Int), u], s] w fun e w' => SolP x.c x.r D e w' ∧ Below w.heap.size w w' := by
 obtain ⟨ao, d, rfl, hcap⟩ := hu.form
 obtain ⟨bo, bc, rfl⟩ := slq_form' hv
 have hxr := hx.r
 have hxc := hx.c
 have HF := Lib.hid (efw_ok (x.r : Int) (x.c : Int) 0 ao bo x.l.length d b.length bc (mcheck_ok x.r x.c x.l.length d ao hx.r hx.c hx.len) rfl (by omega) (by rw [hbl]))
 have HG := Lib.hid (fun (w : World) (h : CQ w (.slice ao x.l.length d) x.l) => egridOf_w x hx 1 (by omega) _ w h)
 obtain ⟨N, hN⟩ : ∃ N, N = x.l.length := ⟨_, rfl⟩
 rw [← hN] at HF HG hu hcap ⊢
 rw [hbl] at HF hv ⊢
 clear hN
 have hL0 : GL w w [] := GL.start w
 obtain ⟨x0, hweq, hL0⟩ := GL.named ((hL0.new rfl [.int .i64 (x.r : Int), .int .i64 (x.c : Int), .slice ao N d] 56).new (K := w.heap.size + 1) (by simp) [.slice none 0 0, .slice none 0 0] 90)
 have hA := hL0.fc
 simp only [zF, Nat.reduceAdd] at hA
 have rb : (x.r : Int) ≤ 2048 := by omega
 have cb : (x.c : Int) ≤ 2048 := by omega
 have c00 : (0 : Int) ≤ (x.c : Int) := Int.natCast_nonneg _
 have cn : (x.c : Int) < ((x.c + 1 : Nat) : Int) := by omega
 go_enter Tryz.func50, Tryz.ntmps50
 go_wp2_with fail
 with_reducible refine Calls.mono (HF.out _) ?_
 rintro e x1 ⟨rfl, hb⟩
 replace hL0 := hL0.call hb
 clear hA hb hweq HF
 have hA := hL0.fc
 simp only [zF, Nat.reduceAdd] at hA
 have hw8 := Lib.hid (show w.heap.size + 2 ≤ x1.heap.size by have := (hL0.get _ _ mZ).lt; omega)
 have hv1 := hv.below hL0.bl
 go_wp2_with fail
 refine Calls.mono (HG.out _ (hu.below hL0.bl)) ?_
 rintro e w1 ⟨⟨g, rfl, ru, bk, hG⟩, hb⟩
 clear hA HG
 have hL1 := hL0.call hb
 have hv2 := hv1.below hb
 obtain ⟨ra, rc, hru⟩ := hG.rform
 subst hru
 rw [← aug_zero x b] at hG
 go_wp2_with fail
 go_loopg [23] x.r (fun gk iv wr => ∃ (i : Nat) (zi : Int), i + gk = x.r ∧ iv = .int .i64 zi ∧ zi = (i : Int) ∧ GR x1.heap.size wr g (.slice ra x.r rc) (.slice none 0 0) x.r (x.c + 1) bk (augP x b i) [] 1 ∧ Below x1.heap.size x1 wr)
 case atStart => exact ⟨0, 0, Nat.zero_add x.r, by first | rfl | go_num, rfl, hG, hb⟩
 case round =>
  clear hG hb hL1 hv2
  obtain ⟨i, zi, hir, rfl, hzi, hG, hb⟩ := hrel
  rcases Nat.lt_or_ge i x.r with hi | hi
  ·subst hzi
   have k1 : (i : Int) < (x.r : Int) := by omega
   have k0 : (0 : Int) ≤ (i : Int) := Int.natCast_nonneg _
   have kb : (i : Int) ≤ 5000 := by omega
   have hL1 := hL0.call hb
   have hv2 := hv1.below hb
   obtain ⟨bg, rfl, -, ff⟩ := slq_at hv2 i (by rw [hbl]; exact hi)
   obtain ⟨f0, f1, f2, f3, f4⟩ := fsc ff i (by rw [hbl]; exact hi)
   clear ff
   obtain ⟨q, hq⟩ : ∃ q, q = gv b i := ⟨_, rfl⟩
   rw [← hq] at f0 f1 f2 f3 f4
   replace hq := Lib.hid hq
   have hM := (GL.start wr).new rfl (frC 0) 36
   obtain ⟨y1, hy1⟩ : ∃ y, y = wr.alloc (.cells (frC 0).toArray 36) := ⟨_, rfl⟩
   rw [← hy1] at hM
   have hP := hM.box5 q
   obtain ⟨y2, hy⟩ : ∃ y, put5 y1 wr.heap.size 0 q = y := ⟨_, rfl⟩
   rw [hy] at hP
   simp only [put5, Nat.zero_add] at hy
   rw [frC_zero] at hy1 hM
   have hweq := hy1.symm
   have hA1 := hM.fc
   simp only [zF, Nat.reduceAdd] at hA1
   clear hy1 hM
   have hb2 := hb.trans (hP.bl.mono hb.size)
   have hG2 := hG.below hP.bl
   have hL2 := hL0.call hb2
   obtain ⟨z, rc2, hz9, hzB, -, -, hzg, hrw2, hzf2⟩ := hG2.rpos (by omega)
   obtain ⟨rfl, rfl⟩ : ra = some ⟨z, 0, none⟩ ∧ rc = rc2 := by simpa using hz9
   have ci := hrw2 i hi
   have c0 := hG2.cells.1
   have hA := hL2.fc
   simp only [zF, Nat.reduceAdd] at hA
   have hP2 := hP
   unfold frC at hP2
   have hB := hP2.fc
   simp only [zF, Nat.reduceAdd] at hB
   clear hz9 hzf2 hrw2 hP2
   go_upto_region 8 with fail
   clear hweq hy hA1 f0 f1 f2 f3 f4
   obtain ⟨hrB, hrH⟩ := hG2.hB i hi
   obtain ⟨o0, o1, o2, o3, o4⟩ := (hd_fs hrH).cell x.c (by rw [tabV_len]; omega)
   have zz := hrH.frz
   have hk1 : bk i < y2.heap.size := hrH.lt
   have hgw : wr.heap.size ≤ wr.heap.size := Nat.le_refl _
   have hn1 : bk i ≠ wr.heap.size := fun e => by have := (hG.hB i hi).2.lt; omega
   have hn2 : bk i ≠ w.heap.size := fun e => by have := hw8.out; omega
   have hn3 : bk i ≠ g := hG2.ng i hi
   have hn4 : bk i ≠ z := fun e => hG2.nr i hi (by rw [e]; rfl)
   go_region
   have hX := put5_hd hrH x.c q (by rw [tabV_len]; omega)
   have hu9 := put5_upd y2 (bk i) (x.c * 5) q
   rw [hq.out, aug_row x b i, ← hq.out] at hX
   have hG3 := hG2.row i hi _ (Chs.of_upd hu9) hX
   rw [aug_step x b i] at hG3
   have hb3 := hb2.trans (hu9.below hrB)
   unfold put5 at hG3 hb3
   replace hG3 := hG3.below ((Below.refl _ _).drew)
   replace hb3 := hb3.trans ((Below.refl _ _).drew)
   go_wp2_with fail
   go_roundg (x.r - (i + 1))
   case measure => omega
   case rel => exact ⟨i + 1, _, by omega, by first | rfl | go_num, by omega, hG3, hb3⟩
  ·obtain rfl : x.r = i := by omega
   subst hzi
   have k1 : ¬ (x.r : Int) < (x.r : Int) := by omega
   have hG2 := hG.congr (H := augE x b) fun i hi j _ => by
    unfold augP augE
    by_cases e : j = x.c
    ·rw [if_pos ⟨e, hi⟩, if_pos e]
    ·rw [if_neg fun h => e h.1, if_neg e]
   have hI := (desc_ok (R := x.r) (augE x b) 1 x.c).1
   have hRd := (red_ok x.r x.c (augE x b)).1
   have hlc : D.pv.length ≤ x.c := by have := hRd.len_le; unfold redE at this; rw [hD] at this; exact this
   have hsa := hs.sa
   rw [hD] at hI hsa
   have hL1 := hL0.call hb
   have hA := hL1.fc
   simp only [zF, Nat.reduceAdd] at hA
   clear hG hRd
   by_cases hz : ∀ i, D.pv.length ≤ i → i < x.r → D.G i x.c = 0
   ·have HS := Lib.hid (esolve_ok x1.heap.size g x.r (x.c + 1) x.c K _ _ bk ⟨augE x b, [], 1⟩ hs.kb (Nat.lt_succ_self _) hs.nb hs.rb (fun k _ => desc_le x.r _ k) hs.ds D hD hsa hI.lt hI.up hz _ hG2)
    replace hz := Lib.hid hz
    clear hsa
    go_wp2_with fail
    with_reducible refine Calls.mono HS.out ?_
    rintro e y1 ⟨⟨bx, rfl, hbx, hX, pu2, bk2, hG3⟩, hc⟩
    have hbb := hb.trans (hc.bl hb.size)
    have hL2 := hL0.call hbb
    have hws := Lib.hid hb.size
    clear hA HS hc hG2 hL1 hb
    have hA := hL2.fc
    simp only [zF, Nat.reduceAdd] at hA
    have HKe := Lib.hid (ekernel_w _ g x.r (x.c + 1) x.c _ _ bk2 _ D.pv D.f (Nat.le_succ _) (by omega) (by omega) hI.le hlc hI.lt hI.up y1 hG3)
    clear hI
    go_wp2_with fail
    with_reducible refine Calls.mono HKe.out ?_
    rintro e y2 ⟨⟨v, rfl, hvl⟩, hb4⟩
    replace hL2 := hL2.call hb4
    replace hX := hX.below hb4
    clear hA HKe hG3
    obtain ⟨vo, vn, vc, rfl⟩ := hvl.form
    have hP := hL2.put 0 (w.heap.size + 1) _ rfl [.slice (some ⟨bx, 0, none⟩) x.c x.c, .slice vo vn vc] rfl
    have hu := setAll_upd (w.heap.size + 1) [.slice (some ⟨bx, 0, none⟩) x.c x.c, .slice vo vn vc] 0 y2
    obtain ⟨y, hy⟩ : ∃ y, setAll y2 (w.heap.size + 1) 0 [.slice (some ⟨bx, 0, none⟩) x.c x.c, .slice vo vn vc] = y := ⟨_, rfl⟩
    rw [hy] at hP hu
    simp only [setAll, Nat.zero_add, Nat.reduceAdd] at hy
    simp only [List.set_cons_zero] at hP
    have hA := hL2.fc
    simp only [zF, Nat.reduceAdd] at hA
    have hB := hP.fc
    simp only [zF, Nat.reduceAdd] at hB
    have hys : w.heap.size + 2 ≤ bx := by have := hw8.out; have := hws.out; omega
    have hv2 := (hvl.upd hu (by have := hw8.out; have := hbb.size; omega)).vls
    have hX2 := hX.chs (Chs.of_upd hu) fun e => by omega
    go_wp2_with fail
    exact bodyPost_ret (v := .tuple #[.agg #[.slice (some ⟨bx, 0, none⟩) x.c x.c, .slice vo vn vc], .int .i64 0]) (by simp [results, Tryz.results50, go_sem, hB]) rfl ⟨.inl ⟨hz.out, bx, _, rfl, hX2, hv2⟩, hP.bl⟩
   ·have hno : ∃ i, D.pv.length ≤ i ∧ i < x.r ∧ D.G i x.c ≠ 0 := Classical.byContradiction fun hc => hz fun i h1 h2 => Classical.byContradiction fun h3 => hc ⟨i, h1, h2, h3⟩
    have HS := Lib.hid (esolve_no x1.heap.size g x.r (x.c + 1) x.c K _ _ bk ⟨augE x b, [], 1⟩ hs.kb (Nat.lt_succ_self _) hs.nb hs.rb (fun k _ => desc_le x.r _ k) hs.ds (by rw [hD]; exact hno) _ hG2)
    replace hno := Lib.hid hno
    clear hsa hI hz
    go_wp2_with fail
    with_reducible refine Calls.mono HS.out ?_
    rintro e y1 ⟨rfl, hc⟩
    have hbb := hb.trans (hc.bl hb.size)
    have hL2 := hL0.call hbb
    clear hA HS hc hG2 hL1 hb
    have hP := hL2.put 0 (w.heap.size + 1) _ rfl [.slice none 0 0, .slice none 0 0] rfl
    obtain ⟨y, hy⟩ : ∃ y, setAll y1 (w.heap.size + 1) 0 [.slice none 0 0, .slice none 0 0] = y := ⟨_, rfl⟩
    rw [hy] at hP
    simp only [setAll, Nat.zero_add, Nat.reduceAdd] at hy
    simp only [List.set_cons_zero] at hP
    have hA := hL2.fc
    simp only [zF, Nat.reduceAdd] at hA
    have hB := hP.fc
    simp only [zF, Nat.reduceAdd] at hB
    go_wp2_with fail
    exact bodyPost_ret (v := .tuple #[.agg #[.slice none 0 0, .slice none 0 0], .int .i64 6]) (by simp [results, Tryz.results50, go_sem, hB]) rfl ⟨.inr ⟨hno.out, rfl⟩, hP.bl⟩
end Go.Proofs.YthffglapmkkohaaGreatDoor
namespace Go.Proofs.YthffglapmkkohaaGreatDoor
open Go.RowKit
attribute [local irreducible] lo hs sm s64 c64 d64 b64 mh ml pd pc qd qc val hiB str cmpI srD lz nb zl zh zs fe rowV tabV gv bsV tabM
/-- The system for a certificate: y is the turned matrix, b the right-hand side. -/
def agE (y : Mx) (b : List Rat) : Gd := fun i => if i = y.r then (fun j => if j < y.c then gv b j else 1) else rowsE y i
def AgP (c R : Nat) (D : ES) (e : Ending) (w' : World) : Prop :=
 ((∀ i, D.pv.length ≤ i → i < R → D.G i c = 0) ∧ ∃ b, e = .returned (.tuple #[.slice (some ⟨b, 0, none⟩) c c, .int .i64 0]) ∧ Hd w' b (frCs (tabV c (solE D.pv (ascE D.pv D.G D.pv.length) c)))) ∨
 ((∃ i, D.pv.length ≤ i ∧ i < R ∧ D.G i c ≠ 0) ∧ e = .returned (.tuple #[.slice none 0 0, .int .i64 6]))
theorem last_laid (c : Nat) (b : List Rat) (hb : b.length = c) (o : Rat) (ho : o = 1) : (laid (List.replicate (c + 1) 0) 0 b).set c o = tabV (c + 1) fun j => if j < c then gv b j else 1 := by
 have e : b = tabV c (gv b) := (tab_gv' hb).symm
 have e2 : laid (List.replicate (c + 1) 0) 0 b = tabV (c + 1) fun p => if p < c then gv b p else 0 := by
  rw [rep_tab]
  conv => lhs; rw [e]
  rw [laid_tab (by omega)]
  refine tab_ext fun p hp => ?_
  by_cases h : p < c
  ·rw [if_pos (by omega), if_pos h, Nat.sub_zero]
  ·rw [if_neg (by omega), if_neg h]
 rw [e2]
 refine List.ext_getElem (by rw [List.length_set, tabV_len, tabV_len]) fun a h1 h2 => ?_
 have ha : a < c + 1 := by rwa [tabV_len] at h2
 rw [List.getElem_set, ← gv_get h2, gv_tab ha]
 by_cases h : c = a
 ·rw [if_pos h, if_neg (by omega), ho]
 ·rw [if_neg h]
  have h3 : a < (tabV (c + 1) fun p => if p < c then gv b p else 0).length := by rw [tabV_len]; exact ha
  rw [← gv_get h3, gv_tab ha, if_pos (by omega), if_pos (by omega)]
theorem eagainst_w (x y : Mx) (hx : OKM x) (hyo : OKM y) (hyr : y.r = x.c) (hyc : y.c = x.r) (b : List Rat) (hbl : b.length = x.r) (K : Nat) (hs : ESz (y.r + 1) (y.c + 1) y.c K (agE y b)) (D : ES) (hD : descE (y.r + 1) ⟨agE y b, [], 1⟩ y.c = D)
  (HT : ∀ (u : Value) (w : World), MT w u x → Calls Tryz.prog 41 #[u] w fun e w' => ∃ pv, e = .returned (.tuple #[pv, .int .i64 0]) ∧ MT w' pv y ∧ Below w.heap.size w w') (u s : Value) (w : World) (hu : CQ w u x.l) (hv : SlQ w s b) :
  Calls Tryz.prog 51 #[.agg #[.int .i64 (x.r : Int), .int .i64 (x.c : Int), u], s] w fun e w' => AgP y.c (y.r + 1) D e w' ∧ Below w.heap.size w w' := by
 obtain ⟨ao, d, rfl, hcap⟩ := hu.form
 obtain ⟨bo, bc, rfl⟩ := slq_form' hv
 have hxr := hx.r
 have hxc := hx.c
 have HF := Lib.hid (efw_ok (x.r : Int) (x.c : Int) 0 ao bo x.l.length d b.length bc (mcheck_ok x.r x.c x.l.length d ao hx.r hx.c hx.len) rfl (by omega) (by rw [hbl]))
 have HG := Lib.hid (fun (u : Value) (w : World) (h : CQ w u y.l) => egridOf_w y hyo 1 (by omega) u w h)
 obtain ⟨N, hN⟩ : ∃ N, N = x.l.length := ⟨_, rfl⟩
 rw [← hN] at HF hu hcap ⊢
 rw [hbl] at HF hv ⊢
 clear hN
 obtain ⟨n, hn⟩ : ∃ n, n = x.r + 1 := ⟨_, rfl⟩
 have hmk := fun W => makeV W (n : Int) n rfl (by omega)
 have hnn : (x.r : Int) + 1 = (n : Int) := by omega
 have rb : (x.r : Int) ≤ 2048 := by omega
 have nb1 : (n : Int) ≤ 2049 := by omega
 have rn : (x.r : Int) < (n : Int) := by omega
 have r00 : (0 : Int) ≤ (x.r : Int) := Int.natCast_nonneg _
 replace HT := Lib.hid HT
 replace hn := Lib.hid hn
 replace hyr := Lib.hid hyr
 replace hyc := Lib.hid hyc
 replace hbl := Lib.hid hbl
 obtain ⟨o1, ho1⟩ : ∃ o : Rat, o = 1 := ⟨_, rfl⟩
 have HI : ∀ w, Calls Tryz.prog 12 #[.int .i64 1] w fun xe w' => xe = .returned (fracV o1) ∧ Below w.heap.size w w' := fun w => by rw [ho1]; exact intF 1 (by decide) (by decide) w
 replace HI := Lib.hid HI
 replace ho1 := Lib.hid ho1
 have hL0 : GL w w [] := GL.start w
 obtain ⟨x0, hweq, hL0⟩ := GL.named (hL0.new rfl [.int .i64 (x.r : Int), .int .i64 (x.c : Int), .slice ao N d] 56)
 have hA := hL0.fc
 simp only [zF, Nat.reduceAdd] at hA
 go_enter Tryz.func51, Tryz.ntmps51
 go_wp2_with fail
 with_reducible refine Calls.mono (HF.out _) ?_
 rintro e x1 ⟨rfl, hb⟩
 replace hL0 := hL0.call hb
 clear hA hb hweq HF
 have hA := hL0.fc
 simp only [zF, Nat.reduceAdd] at hA
 have hv1 := hv.below hL0.bl
 go_wp2_with fail
 refine Calls.mono (HT.out _ _ ⟨_, rfl, hu.below hL0.bl⟩) ?_
 rintro e x2 ⟨pv9, rfl, ⟨u9, rfl, hu9⟩, hb⟩
 replace hL0 := hL0.call hb
 replace hv1 := hv1.below hb
 clear hA hb HT
 obtain ⟨uo, ud, rfl, hcap9⟩ := hu9.form
 obtain ⟨x3, hweq, hL0⟩ := GL.named (hL0.new rfl [.int .i64 0, .int .i64 0, .slice none 0 0] 56)
 have hb3 : Below x2.heap.size x2 x3 := by rw [← hweq]; exact (Below.refl _ _).alloc (Nat.le_refl _) _
 have hP := hL0.put 0 x2.heap.size _ rfl [.int .i64 (y.r : Int), .int .i64 (y.c : Int), .slice uo y.l.length ud] rfl
 obtain ⟨x4, hy⟩ : ∃ q, setAll x3 x2.heap.size 0 [.int .i64 (y.r : Int), .int .i64 (y.c : Int), .slice uo y.l.length ud] = q := ⟨_, rfl⟩
 have hb4 : Below x2.heap.size x2 x4 := hb3.trans (by rw [← hy]; exact (setAll_upd _ _ _ _).below (Nat.le_refl _))
 rw [hy] at hP
 simp only [setAll, Nat.zero_add, Nat.reduceAdd] at hy
 simp only [List.set_cons_zero] at hP
 have hA := hL0.fc
 simp only [zF, Nat.reduceAdd] at hA
 have hB := hP.fc
 simp only [zF, Nat.reduceAdd] at hB
 have hu4 := hu9.below hb4
 replace hv1 := hv1.below hb4
 clear hb3
 replace hL0 := hP
 clear hP
 go_wp2_with fail
 refine Calls.mono (HG.out _ _ hu4) ?_
 rintro e w1 ⟨⟨g, rfl, ru, bk, hG⟩, hb⟩
 have hbs := hb.size
 have hL1 := hL0.call hb
 replace hv1 := hv1.below hb
 clear hA hB HG hweq hy hu4
 obtain ⟨ra, rc, hru⟩ := hG.rform
 subst hru
 have hA := hL1.fc
 simp only [zF, Nat.reduceAdd] at hA
 have hN9 := (GL.start w1).new rfl (frCs (List.replicate n 0)) 36
 generalize hweq : w1.alloc (.cells (frCs (List.replicate n 0)).toArray 36) = w2 at hN9
 have hH := hN9.get _ _ mZ
 have hnot := hG.fresh (Nat.le_refl _)
 replace hG := hG.below hN9.bl
 have hb2 := hb.trans (hN9.bl.mono hbs)
 replace hv1 := hv1.below hN9.bl
 have hS : b.length = Nat.min x.r n := by rw [hbl.out]; have := hn.out; exact (Nat.min_eq_left (by omega)).symm
 have hfit : 0 + b.length ≤ (List.replicate n (0 : Rat)).length := by rw [hbl.out, List.length_replicate]; have := hn.out; omega
 have hpos : 0 < b.length → ∃ g o, bo = some ⟨g, o, none⟩ ∧ FO w2 g o b := fun h0 => by
  obtain ⟨bg, e1, -, ff⟩ := slq_at hv1 0 h0
  exact ⟨bg, 0, e1, fs_fo ff⟩
 replace hS := Lib.hid hS
 replace hfit := Lib.hid hfit
 replace hpos := Lib.hid hpos
 replace hH := Lib.hid hH
 clear hN9 hL1
 go_wp2_with (refine wp_copyF rfl _ _ _ _ rfl undVV (some ⟨w1.heap.size, 0, none⟩) bo n n x.r bc rfl rfl b hS.out w1.heap.size 0 (List.replicate n 0) hH.out hfit.out (fun h0 => ⟨rfl, hpos.out h0⟩) ?_)
 intro w3 hH3 hup
 replace hG := hG.chs (Chs.of_upd hup) fun d e => by rw [e]; exact hnot
 replace hb2 := hb2.trans (hup.below hbs)
 obtain ⟨d9, hd9⟩ : ∃ d, d = w1.heap.size := ⟨_, rfl⟩
 rw [← hd9] at hH3 hnot hbs ⊢
 clear hup hpos hS hfit hH hA hweq hmk hd9 hv1
 have hL1 := hL0.call hb2
 have hA := hL1.fc
 simp only [zF, Nat.reduceAdd] at hA
 go_upto_region 8 with fail
 obtain ⟨α, iα, F, hF1, hF2⟩ := cls w3
 have hq2 := GL.fcC hF1 hL1
 simp only [zC, Nat.reduceAdd] at hq2
 clear hA
 refine region_qs 5 (C := fun w' => ∃ x, w' = F x) (by kernel_rfl) (by kernel_rfl) (cls_drew hF2) ?_
 simp only [zT]
 repeat (go_big_quiet_step (first | fail | (go_at_call 12; with_reducible exact cls_call hF1 hF2 HI.out _)))
 refine wpQuiet_nil ?_
 rintro wq ⟨xq, rfl⟩
 replace hG := hG.below (hF1 xq)
 replace hH3 := hH3.below (hF1 xq)
 replace hb2 := hb2.trans ((hF1 xq).mono hb2.size)
 clear hq2 hF2 hL1
 generalize F xq = w4 at hG hH3 hb2 ⊢
 clear hF1 xq iα F α
 have hll : x.r < (laid (List.replicate n 0) 0 b).length := by rw [laid_len, List.length_replicate]; have := hn.out; omega
 obtain ⟨z0, z1, z2, z3, z4⟩ := (hd_fs hH3).cell x.r hll
 have zz := hH3.frz
 have hX := put5_hd hH3 x.r o1 hll
 have hu5 := put5_upd w4 d9 (x.r * 5) o1
 obtain ⟨w5, hy⟩ : ∃ q, put5 w4 d9 (x.r * 5) o1 = q := ⟨_, rfl⟩
 rw [hy] at hX hu5
 unfold put5 at hy
 rw [hn.out, last_laid x.r b hbl.out o1 ho1.out, ← hyc.out] at hX
 replace hG := hG.chs (Chs.of_upd hu5) fun d e => by rw [e]; exact hnot
 replace hb2 := hb2.trans (hu5.below hbs)
 clear hH3 hu5
 have hM := (GL.start w5).new rfl [.slice (some ⟨d9, 0, none⟩) n n] 28
 generalize hweq : w5.alloc (.cells #[.slice (some ⟨d9, 0, none⟩) n n] 28) = w6 at hM
 have g0 := hG.cells.1
 have hcu := (hM.get _ _ mZ).cell 0 (by simp)
 simp only [List.getElem_cons_zero] at hcu
 replace hG := hG.below hM.bl
 replace hX := hX.below hM.bl
 replace hb2 := hb2.trans (hM.bl.mono hb2.size)
 replace hcu := Lib.hid hcu
 have hnc : n = y.c + 1 := by rw [hyc.out]; exact hn.out
 have hyr9 : y.r ≤ 5000 := by have := hyo.r; omega
 clear hM
 replace hnc := Lib.hid hnc
 go_wp2_with (at_builtin; refine wp_appendW rfl _ _ rfl x4.heap.size (.slice ra y.r rc) y.r (rwE (y.c + 1) bk y.r) rfl hG.hr ⟨_, 0, none⟩ (.slice (some ⟨d9, 0, none⟩) n n) rfl 1 rfl hcu.out (by omega) hG.bs ?_)
 intro v' w8 h8 hgr hor
 rw [hnc.out] at h8
 obtain ⟨hG3, hHd, hup⟩ := hG.grow hbs hnot hX h8 hgr hor
 obtain ⟨va, vc, rfl⟩ := own_form12 h8
 have hgB2 := hG.gB
 have hpl := hG.hr.lt
 have hzz := hHd.frz
 have d0 := hHd.cell 0 (by simp)
 simp only [List.getElem_cons_zero, List.getElem_cons_succ] at d0
 have hgrb : Below x4.heap.size w6 w8 := (Chs.of_grown hgr).below hG.bs fun k hk e => by have := (hpl k e.symm).1; omega
 generalize hput : w8.setCell ⟨g, 0, none⟩ (.slice va (y.r + 1) vc) = w9 at hup hG3
 replace hb2 := (hb2.trans hgrb).trans (hup.below hgB2)
 have hL1 := hL0.call hb2
 have hA := hL1.fc
 simp only [zF, Nat.reduceAdd] at hA
 have hG4 : GR x4.heap.size w9 g (.slice va (y.r + 1) vc) (.slice none 0 0) (y.r + 1) (y.c + 1) (fun i => if i = y.r then d9 else bk i) (agE y b) [] 1 := hG3
 have hsa := hs.sa
 have hI := (desc_ok (R := y.r + 1) (agE y b) 1 y.c).1
 rw [hD] at hI hsa
 clear hup hgr hor hpl h8 hgrb hG3 hG hX hcu hHd z0 z1 z2 z3 z4 zz hy hll g0 hL1
 by_cases hz : ∀ i, D.pv.length ≤ i → i < y.r + 1 → D.G i y.c = 0
 ·have HS := Lib.hid (esolve_ok x4.heap.size g (y.r + 1) (y.c + 1) y.c K _ _ _ ⟨agE y b, [], 1⟩ hs.kb (Nat.lt_succ_self _) hs.nb hs.rb (fun k _ => desc_le _ _ k) hs.ds D hD hsa hI.lt hI.up hz _ hG4)
  rw [hyc.out] at HS
  replace hz := Lib.hid hz
  clear hsa hI
  go_wp2_with fail
  with_reducible refine Calls.mono HS.out ?_
  rintro e y1 ⟨⟨bx, rfl, hbx, hX, pu2, bk2, hG5⟩, hc⟩
  have hbb := hb2.trans (hc.bl hb2.size)
  have hL2 := hL0.call hbb
  clear hA HS hc hG4 hG5
  rw [← hyc.out] at hX
  go_wp2_with fail
  exact bodyPost_ret (v := .tuple #[.slice (some ⟨bx, 0, none⟩) x.r x.r, .int .i64 0]) (by simp [results, Tryz.results51, go_sem]) rfl ⟨.inl ⟨hz.out, bx, by rw [hyc.out], hX⟩, hL2.bl⟩
 ·have hno : ∃ i, D.pv.length ≤ i ∧ i < y.r + 1 ∧ D.G i y.c ≠ 0 := Classical.byContradiction fun hc => hz fun i h1 h2 => Classical.byContradiction fun h3 => hc ⟨i, h1, h2, h3⟩
  have HS := Lib.hid (esolve_no x4.heap.size g (y.r + 1) (y.c + 1) y.c K _ _ _ ⟨agE y b, [], 1⟩ hs.kb (Nat.lt_succ_self _) hs.nb hs.rb (fun k _ => desc_le _ _ k) hs.ds (by rw [hD]; exact hno) _ hG4)
  rw [hyc.out] at HS
  replace hno := Lib.hid hno
  clear hsa hI hz
  go_wp2_with fail
  with_reducible refine Calls.mono HS.out ?_
  rintro e y1 ⟨rfl, hc⟩
  have hbb := hb2.trans (hc.bl hb2.size)
  have hL2 := hL0.call hbb
  clear hA HS hc hG4
  go_wp2_with fail
  exact bodyPost_ret (v := .tuple #[.slice none 0 0, .int .i64 6]) (by simp [results, Tryz.results51, go_sem]) rfl ⟨.inr ⟨hno.out, rfl⟩, hL2.bl⟩
end Go.Proofs.YthffglapmkkohaaGreatDoor
namespace Go.Proofs.YthffglapmkkohaaGreatDoor
open Go.RowKit
attribute [local irreducible] lo hs sm s64 c64 d64 b64 mh ml pd pc qd qc val hiB str cmpI srD lz nb zl zh zs fe rowV tabV gv bsV tabM
/-- The rows with the first m unit rows behind them. -/
def ivP (x : Mx) (m : Nat) : Gd := fun i j => if j = x.c + i ∧ i < m then 1 else rowsE x i j
def ivE (x : Mx) : Gd := fun i j => if j = x.c + i then 1 else rowsE x i j
theorem iv_zero (x : Mx) : ivP x 0 = rowsE x := by funext i j; unfold ivP; rw [if_neg fun h => by omega]
theorem iv_row (x : Mx) (n m : Nat) (hm : x.c + m < n) (o : Rat) (ho : o = 1) : (tabV n (ivP x m m)).set (x.c + m) o = tabV n (ivP x (m + 1) m) := by
 refine List.ext_getElem (by rw [List.length_set, tabV_len, tabV_len]) fun a h1 h2 => ?_
 have ha : a < n := by rwa [tabV_len] at h2
 rw [List.getElem_set, ← gv_get h2, gv_tab ha]
 unfold ivP
 by_cases e : x.c + m = a
 ·rw [if_pos e, if_pos ⟨e.symm, by omega⟩, ho]
 ·rw [if_neg e, if_neg fun h => e h.1.symm]
  have h3 : a < (tabV n fun j => if j = x.c + m ∧ m < m then 1 else rowsE x m j).length := by rw [tabV_len]; exact ha
  rw [← gv_get h3, gv_tab ha, if_neg fun h => e h.1.symm]
theorem iv_step (x : Mx) (m : Nat) : (fun a => if a = m then ivP x (m + 1) m else ivP x m a) = ivP x (m + 1) := by
 funext a j
 by_cases e : a = m
 ·subst e; rw [if_pos rfl]
 ·rw [if_neg e]
  unfold ivP
  by_cases g : j = x.c + a ∧ a < m
  ·rw [if_pos g, if_pos ⟨g.1, by omega⟩]
  ·rw [if_neg g, if_neg fun h => g ⟨h.1, by omega⟩]
def InP (r c N : Nat) (D : ES) (e : Ending) (w' : World) : Prop :=
 (¬ D.pv.length < r ∧ ∃ b, e = .returned (.tuple #[.agg #[.int .i64 (r : Int), .int .i64 (r : Int), .slice (some ⟨b, 0, none⟩) N N], .int .i64 0]) ∧ Hd w' b (frCs (prtE N r c (ascE D.pv D.G D.pv.length) r))) ∨
 (D.pv.length < r ∧ e = .returned (.tuple #[.agg #[.int .i64 0, .int .i64 0, .slice none 0 0], .int .i64 6]))
theorem einverse_w (x : Mx) (hx : OKM x) (hsq : x.r = x.c) (hr9 : x.r ≤ 1000) (K : Nat) (hs : ESz x.r (x.c + x.r) x.c K (ivE x)) (D : ES) (hD : descE x.r ⟨ivE x, [], 1⟩ x.c = D) (u : Value) (w : World) (hu : CQ w u x.l) :
  Calls Tryz.prog 102 #[.agg #[.int .i64 (x.r : Int), .int .i64 (x.c : Int), u]] w fun e w' => InP x.r x.c (x.r * x.r) D e w' ∧ Below w.heap.size w w' := by
 obtain ⟨ao, d, rfl, hcap⟩ := hu.form
 have hxr := hx.r
 have HF := Lib.hid (efs_ok (x.r : Int) (x.c : Int) 0 ao x.l.length d (mcheck_ok x.r x.c x.l.length d ao hx.r hx.c hx.len) rfl (by rw [hsq]))
 have HG := Lib.hid (fun (w : World) (h : CQ w (.slice ao x.l.length d) x.l) => egridOf_w x hx x.r (by omega) _ w h)
 obtain ⟨N, hN⟩ : ∃ N, N = x.l.length := ⟨_, rfl⟩
 rw [← hN] at HF HG hu hcap ⊢
 clear hN
 obtain ⟨M, hM9⟩ : ∃ M, M = x.r * x.r := ⟨_, rfl⟩
 rw [← hM9]
 have hMb : M ≤ 1000000 := by rw [hM9]; exact Nat.mul_le_mul hr9 hr9
 have rb : (x.r : Int) ≤ 1000 := by omega
 have cb : (x.c : Int) ≤ 1000 := by omega
 have c00 : (0 : Int) ≤ (x.c : Int) := Int.natCast_nonneg _
 have hxc9 : x.c ≤ 1000 := by omega
 replace hM9 := Lib.hid hM9
 replace hsq := Lib.hid hsq
 obtain ⟨o1, ho1⟩ : ∃ o : Rat, o = 1 := ⟨_, rfl⟩
 have HI : ∀ w, Calls Tryz.prog 12 #[.int .i64 1] w fun xe w' => xe = .returned (fracV o1) ∧ Below w.heap.size w w' := fun w => by rw [ho1]; exact intF 1 (by decide) (by decide) w
 replace HI := Lib.hid HI
 replace ho1 := Lib.hid ho1
 have hL0 : GL w w [] := GL.start w
 obtain ⟨x0, hweq, hL0⟩ := GL.named ((hL0.new rfl [.int .i64 (x.r : Int), .int .i64 (x.c : Int), .slice ao N d] 56).new (K := w.heap.size + 1) (by simp) [.int .i64 0, .int .i64 0, .slice none 0 0] 56)
 have hA := hL0.fc
 simp only [zF, Nat.reduceAdd] at hA
 go_enter Tryz.func102, Tryz.ntmps102
 go_wp2_with fail
 with_reducible refine Calls.mono (HF.out _) ?_
 rintro e x1 ⟨rfl, hb⟩
 replace hL0 := hL0.call hb
 clear hA hb hweq HF
 have hA := hL0.fc
 simp only [zF, Nat.reduceAdd] at hA
 have hw8 := Lib.hid (show w.heap.size + 2 ≤ x1.heap.size by have := (hL0.get _ _ mZ).lt; omega)
 go_wp2_with fail
 refine Calls.mono (HG.out _ (hu.below hL0.bl)) ?_
 rintro e w1 ⟨⟨g, rfl, ru, bk, hG⟩, hb⟩
 clear hA HG
 obtain ⟨ra, rc, hru⟩ := hG.rform
 subst hru
 have c0 := hG.cells.1
 rw [← iv_zero x] at hG
 go_wp2_with fail
 clear c0
 go_loopg [23] x.r (fun gk iv wr => ∃ (i : Nat) (zi : Int), i + gk = x.r ∧ iv = .int .i64 zi ∧ zi = (i : Int) ∧ GR x1.heap.size wr g (.slice ra x.r rc) (.slice none 0 0) x.r (x.c + x.r) bk (ivP x i) [] 1 ∧ Below x1.heap.size x1 wr)
 case atStart => exact ⟨0, 0, Nat.zero_add x.r, by first | rfl | go_num, rfl, hG, hb⟩
 case round =>
  clear hG hb
  obtain ⟨i, zi, hir, rfl, hzi, hG, hb⟩ := hrel
  rcases Nat.lt_or_ge i x.r with hi | hi
  ·subst hzi
   have k1 : (i : Int) < (x.r : Int) := by omega
   have k0 : (0 : Int) ≤ (i : Int) := Int.natCast_nonneg _
   have kb : (i : Int) ≤ 5000 := by omega
   have hL1 := hL0.call hb
   obtain ⟨z, rc2, hz9, -, -, -, -, hrw2, hzf2⟩ := hG.rpos (by omega)
   obtain ⟨rfl, rfl⟩ : ra = some ⟨z, 0, none⟩ ∧ rc = rc2 := by simpa using hz9
   have ci := hrw2 i hi
   obtain ⟨t, ht⟩ : ∃ t, t = x.c + i := ⟨_, rfl⟩
   have htc : (x.c : Int) + (i : Int) = (t : Int) := by omega
   obtain ⟨n, hn⟩ : ∃ n, n = x.c + x.r := ⟨_, rfl⟩
   rw [← hn] at ci
   have tn : (t : Int) < (n : Int) := by omega
   have t0 : (0 : Int) ≤ (t : Int) := Int.natCast_nonneg _
   have tb : (t : Int) ≤ 5000 := by omega
   replace ht := Lib.hid ht
   replace hn := Lib.hid hn
   clear hz9 hzf2 hrw2
   go_upto_region 8 with fail
   clear ci
   obtain ⟨α, iα, F, hF1, hF2⟩ := cls wr
   have hq2 := GL.fcC hF1 hL1
   simp only [zC, Nat.reduceAdd] at hq2
   refine region_qs 7 (C := fun w' => ∃ x, w' = F x) (by kernel_rfl) (by kernel_rfl) (cls_drew hF2) ?_
   simp only [zT]
   repeat (go_big_quiet_step (first | fail | (go_at_call 12; with_reducible exact cls_call hF1 hF2 HI.out _)))
   refine wpQuiet_nil ?_
   rintro wq ⟨xq, rfl⟩
   replace hG := hG.below (hF1 xq)
   replace hb := hb.trans ((hF1 xq).mono hb.size)
   clear hq2 hF2 hL1
   generalize F xq = y2 at hG hb ⊢
   clear hF1 xq iα F α
   obtain ⟨hrB, hrH⟩ := hG.hB i hi
   have htn : t < (tabV (x.c + x.r) (ivP x i i)).length := by rw [tabV_len]; have := ht.out; omega
   obtain ⟨z0, z1, z2, z3, z4⟩ := (hd_fs hrH).cell t htn
   have zz := hrH.frz
   have hX := put5_hd hrH t o1 htn
   have hu9 := put5_upd y2 (bk i) (t * 5) o1
   obtain ⟨y3, hy⟩ : ∃ q, put5 y2 (bk i) (t * 5) o1 = q := ⟨_, rfl⟩
   rw [hy] at hX hu9
   unfold put5 at hy
   rw [ht.out, iv_row x _ i (by omega) o1 ho1.out] at hX
   replace hG := hG.row i hi _ (Chs.of_upd hu9) hX
   rw [iv_step x i] at hG
   replace hb := hb.trans (hu9.below hrB)
   clear hX hu9 hrH hrB
   go_wp2_with fail
   go_roundg (x.r - (i + 1))
   case measure => omega
   case rel => exact ⟨i + 1, _, by omega, by first | rfl | go_num, by omega, hG, hb⟩
  ·obtain rfl : x.r = i := by omega
   subst hzi
   have k1 : ¬ (x.r : Int) < (x.r : Int) := by omega
   have hG2 := hG.congr (H := ivE x) fun i hi j _ => by
    unfold ivP ivE
    by_cases e : j = x.c + i
    ·rw [if_pos ⟨e, hi⟩, if_pos e]
    ·rw [if_neg fun h => e h.1, if_neg e]
   have HD := Lib.hid (edesc_any hs _ hG2 D hD)
   have hL1 := hL0.call hb
   have hA := hL1.fc
   simp only [zF, Nat.reduceAdd] at hA
   clear hG
   go_wp2_with fail
   with_reducible refine Calls.mono HD.out ?_
   rintro e y4 ⟨rfl, ⟨pu, bk2, hG3⟩, hc⟩
   replace hb := hb.trans (hc.bl hb.size)
   clear hA HD hc hG2 hL1
   obtain ⟨pa, pc, hpu⟩ := hG3.pform
   subst hpu
   have c1 := hG3.cells.2.1
   have hL1 := hL0.call hb
   have hA := hL1.fc
   simp only [zF, Nat.reduceAdd] at hA
   go_upto_region 11 with fail
   go_region
   replace hG3 := hG3.below ((Below.refl _ _).drew)
   replace hb := hb.trans ((Below.refl _ _).drew)
   clear hA hL1 c1
   generalize y4.drew = y5 at hG3 hb ⊢
   have hL1 := hL0.call hb
   have hA := hL1.fc
   simp only [zF, Nat.reduceAdd] at hA
   by_cases hlt : D.pv.length < x.r
   ·have h1 : (D.pv.length : Int) < (x.r : Int) := by omega
    have hP := hL1.put 0 (w.heap.size + 1) _ rfl [.int .i64 0, .int .i64 0, .slice none 0 0] rfl
    obtain ⟨y, hy⟩ : ∃ q, setAll y5 (w.heap.size + 1) 0 [.int .i64 0, .int .i64 0, .slice none 0 0] = q := ⟨_, rfl⟩
    rw [hy] at hP
    simp only [setAll, Nat.zero_add, Nat.reduceAdd] at hy
    simp only [List.set_cons_zero] at hP
    have hB := hP.fc
    simp only [zF, Nat.reduceAdd] at hB
    replace hlt := Lib.hid hlt
    go_wp2_with fail
    exact bodyPost_ret (v := .tuple #[.agg #[.int .i64 0, .int .i64 0, .slice none 0 0], .int .i64 6]) (by simp [results, Tryz.results102, go_sem, hB]) rfl ⟨.inr ⟨hlt.out, rfl⟩, hP.bl⟩
   ·have h1 : ¬ (D.pv.length : Int) < (x.r : Int) := by omega
    have HA := Lib.hid (easc_any hs D hD y5 hG3)
    replace hlt := Lib.hid hlt
    go_wp2_with fail
    with_reducible refine Calls.mono HA.out ?_
    rintro e y6 ⟨rfl, hG4, hc⟩
    replace hb := hb.trans (hc.bl hb.size)
    clear HA hc hG3 hL1 hA
    have hL1 := hL0.call hb
    have hA := hL1.fc
    simp only [zF, Nat.reduceAdd] at hA
    have HP := Lib.hid (epart_w _ g x.r (x.c + x.r) x.c x.r M _ _ bk2 _ D.pv D.f (by omega) (by omega) (Nat.le_refl _) hM9.out hMb y6 hG4)
    go_wp2_with fail
    with_reducible refine Calls.mono HP.out ?_
    rintro e y7 ⟨⟨b9, rfl, hb9, hH9⟩, hb4⟩
    replace hL1 := hL1.call hb4
    have hbs := hb.size
    clear hA HP hG4
    have hP := hL1.put 0 (w.heap.size + 1) _ rfl [.int .i64 (x.r : Int), .int .i64 (x.r : Int), .slice (some ⟨b9, 0, none⟩) M M] rfl
    have hu := setAll_upd (w.heap.size + 1) [.int .i64 (x.r : Int), .int .i64 (x.r : Int), .slice (some ⟨b9, 0, none⟩) M M] 0 y7
    obtain ⟨y, hy⟩ : ∃ q, setAll y7 (w.heap.size + 1) 0 [.int .i64 (x.r : Int), .int .i64 (x.r : Int), .slice (some ⟨b9, 0, none⟩) M M] = q := ⟨_, rfl⟩
    rw [hy] at hP hu
    simp only [setAll, Nat.zero_add, Nat.reduceAdd] at hy
    simp only [List.set_cons_zero] at hP
    have hA := hL1.fc
    simp only [zF, Nat.reduceAdd] at hA
    have hB := hP.fc
    simp only [zF, Nat.reduceAdd] at hB
    have hH8 := hH9.chs (Chs.of_upd hu) fun e => by have := hw8.out; omega
    clear hH9 hu
    go_wp2_with fail
    exact bodyPost_ret (v := .tuple #[.agg #[.int .i64 (x.r : Int), .int .i64 (x.r : Int), .slice (some ⟨b9, 0, none⟩) M M], .int .i64 0]) (by simp [results, Tryz.results102, go_sem, hB]) rfl ⟨.inl ⟨hlt.out, b9, rfl, hH8⟩, hP.bl⟩
end Go.Proofs.YthffglapmkkohaaGreatDoor
namespace Go.Proofs.YthffglapmkkohaaGreatDoor
open Go.RowKit
attribute [local irreducible] lo hs sm s64 c64 d64 b64 mh ml pd pc qd qc val hiB str cmpI srD lz nb zl zh zs fe rowV tabV gv bsV tabM
def fillI (n m : Nat) : List Value := (List.range n).map fun i => .int .i64 (if i < m then (i : Int) else 0)
theorem fill_zero (n : Nat) : List.replicate n (.int .i64 0) = fillI n 0 := by
 refine List.ext_getElem (by simp [fillI]) fun a h1 h2 => ?_
 simp [fillI]
theorem made_ints (n : Nat) : madeCells (Value.cells (.int .i64 0)) (n * 1) = (fillI n 0).toArray := by
 apply Array.ext_getElem?
 intro i
 have e2 : (fillI n 0).toArray[i]? = (fillI n 0)[i]? := List.getElem?_toArray
 rw [e2, Nat.mul_one, ← fill_zero]
 rcases Nat.lt_or_ge i n with h | h
 ·rw [List.getElem?_eq_getElem (by rw [List.length_replicate]; exact h), List.getElem_replicate]
  simp only [madeCells, Array.getElem?_map, Array.getElem?_range, h, if_true, Option.map_some]
  have : i % (Value.cells (.int .i64 0)).size = 0 := by show i % 1 = 0; omega
  rw [this]; rfl
 ·rw [Array.getElem?_eq_none (by rw [size_madeCells]; exact h), List.getElem?_eq_none (by rw [List.length_replicate]; exact h)]
theorem makeIn (w : World) (c : Int) (n : Nat) (hc : c = n) (h : n ≤ 1000000) :
  (Instr.makeSlice 24 (.int .i64 c) (.int .i64 c)).run Tryz.prog w = .ok (.slice (some ⟨w.heap.size, 0, none⟩) n n) (w.alloc (.cells (fillI n 0).toArray 3)) := by
 subst hc
 obtain ⟨i, hi, hz, h1, h2⟩ := info_parts infoRw
 have := run_make (P := Tryz.prog) w 24 3 i _ undRw hi hz .i64 .i64 (n : Int) (n : Int) (by omega) (Int.le_refl _) (by rw [h2]; omega) (by omega)
 rw [this, h1]
 simp only [Int.toNat_natCast, made_ints]
theorem fill_len (n m : Nat) : (fillI n m).length = n := by simp [fillI]
theorem fillI_step (n m : Nat) (h : m < n) : (fillI n m).set m (.int .i64 (m : Int)) = fillI n (m + 1) := by
 refine List.ext_getElem (by simp [fillI]) fun a h1 h2 => ?_
 rw [List.getElem_set]
 simp only [fillI, List.getElem_map, List.getElem_range]
 by_cases e : m = a
 ·subst e; rw [if_pos rfl, if_pos (by omega)]
 ·rw [if_neg e]
  by_cases g : a < m
  ·rw [if_pos g, if_pos (by omega)]
  ·rw [if_neg g, if_neg (by omega)]
theorem fill_all (n : Nat) : fillI n n = ((List.range n).map Int.ofNat).map (.int .i64) := by
 refine List.ext_getElem (by simp [fillI]) fun a h1 h2 => ?_
 have ha : a < n := by simpa [fillI] using h1
 simp [fillI, ha]
theorem eminor_w (x y : Mx) (hx : OKM x) (n : Nat) (hnr : n ≤ x.r) (hnc : n ≤ x.c) (q : Rat)
  (HP : ∀ (u s t : Value) (w : World), MT w u x → ILs w s ((List.range n).map Int.ofNat) → ILs w t ((List.range n).map Int.ofNat) → Calls Tryz.prog 31 #[u, s, t] w fun e w' => ∃ pv, e = .returned (.tuple #[pv, .int .i64 0]) ∧ MT w' pv y ∧ Below w.heap.size w w')
  (HT : ∀ (u : Value) (w : World), MT w u y → Calls Tryz.prog 155 #[u] w fun e w' => e = .returned (fracV q) ∧ Below w.heap.size w w') (u : Value) (w : World) (hu : CQ w u x.l) :
  Calls Tryz.prog 103 #[.agg #[.int .i64 (x.r : Int), .int .i64 (x.c : Int), u], .int .i64 (n : Int)] w fun e w' => e = .returned (.tuple #[fracV q, .int .i64 0]) ∧ Below w.heap.size w w' := by
 obtain ⟨ao, d, rfl, hcap⟩ := hu.form
 have hxr := hx.r
 have HK := Lib.hid (mcheck_ok x.r x.c x.l.length d ao hx.r hx.c hx.len)
 obtain ⟨N, hN⟩ : ∃ N, N = x.l.length := ⟨_, rfl⟩
 rw [← hN] at HK hu hcap ⊢
 clear hN
 have hmk := fun W => makeIn W (n : Int) n rfl (by omega)
 have n0 : ¬ (n : Int) < 0 := by omega
 have n00 : (0 : Int) ≤ (n : Int) := by omega
 have nr : ¬ (x.r : Int) < (n : Int) := by omega
 have nc : ¬ (x.c : Int) < (n : Int) := by omega
 have nb1 : (n : Int) ≤ 2048 := by omega
 replace HP := Lib.hid HP
 replace HT := Lib.hid HT
 replace hnr := Lib.hid hnr
 replace hnc := Lib.hid hnc
 have hL0 : GL w w [] := GL.start w
 replace hL0 := (hL0.new rfl [.int .i64 (x.r : Int), .int .i64 (x.c : Int), .slice ao N d] 56).new (K := w.heap.size + 1) (by simp) (frC 0) 36
 obtain ⟨x0, hx0⟩ : ∃ y, y = (w.alloc (.cells [.int .i64 (x.r : Int), .int .i64 (x.c : Int), .slice ao N d].toArray 56)).alloc (.cells (frC 0).toArray 36) := ⟨_, rfl⟩
 rw [← hx0] at hL0
 rw [frC_zero] at hx0
 have hweq := hx0.symm
 clear hx0
 have hA := hL0.fc
 simp only [frC_zero, fcG, cellsF, neK, and_true, ne_eq, Nat.zero_add, Nat.reduceAdd] at hA
 go_enter Tryz.func103, Tryz.ntmps103
 go_wp2_with fail
 with_reducible refine Calls.mono (HK.out _) ?_
 rintro e x1 ⟨rfl, hb⟩
 replace hL0 := hL0.call hb
 clear hA hb hweq HK
 have hA := hL0.fc
 simp only [frC_zero, fcG, cellsF, neK, and_true, ne_eq, Nat.zero_add, Nat.reduceAdd] at hA
 have hN9 := (GL.start x1).new rfl (fillI n 0) 3
 generalize hweq : x1.alloc (.cells (fillI n 0).toArray 3) = x2 at hN9
 have hH := hN9.get _ _ mZ
 have hb := hN9.bl
 clear hN9
 go_wp2_with fail
 obtain ⟨d9, hd9⟩ : ∃ d, d = x1.heap.size := ⟨_, rfl⟩
 have hdb : x1.heap.size ≤ d9 := by omega
 rw [← hd9] at hH ⊢
 clear hd9 hA hweq hmk
 go_loopg [36] n (fun gk iv wr => ∃ (i : Nat) (zi : Int), i + gk = n ∧ iv = .int .i64 zi ∧ zi = (i : Int) ∧ Hd wr d9 (fillI n i) ∧ Below x1.heap.size x1 wr)
 case atStart => exact ⟨0, 0, Nat.zero_add n, by first | rfl | go_num, rfl, hH, hb⟩
 case round =>
  clear hH hb
  obtain ⟨i, zi, hir, rfl, hzi, hH, hb⟩ := hrel
  rcases Nat.lt_or_ge i n with hi | hi
  ·subst hzi
   have k1 : (i : Int) < (n : Int) := by omega
   have k0 : (0 : Int) ≤ (i : Int) := Int.natCast_nonneg _
   have kb : (i : Int) ≤ 5000 := by omega
   have oc := hH.cell i (by rw [fill_len]; exact hi)
   have zz := hH.frz
   have hX := hd_set hH i (.int .i64 (i : Int)) (by rw [fill_len]; exact hi)
   have hu9 : Upd d9 wr (wr.setCell ⟨d9, i, none⟩ (.int .i64 (i : Int))) := (Upd.refl d9 wr).setCell _ _
   rw [fillI_step n i hi] at hX
   generalize hput : wr.setCell ⟨d9, i, none⟩ (.int .i64 (i : Int)) = y2 at hX hu9
   replace hb := hb.trans (hu9.below hdb)
   clear hu9
   go_wp2_with fail
   go_roundg (n - (i + 1))
   case measure => omega
   case rel => exact ⟨i + 1, _, by omega, by first | rfl | go_num, by omega, hX, hb⟩
  ·obtain rfl : n = i := by omega
   subst hzi
   have k1 : ¬ (n : Int) < (n : Int) := by omega
   have hil : ILs wr (.slice (some ⟨d9, 0, none⟩) n n) ((List.range n).map Int.ofNat) := ils_at hH (fill_all n) (by simp)
   have hL1 := hL0.call hb
   have hA := hL1.fc
   simp only [frC_zero, fcG, cellsF, neK, and_true, ne_eq, Nat.zero_add, Nat.reduceAdd] at hA
   have hmt : MT wr (.agg #[.int .i64 (x.r : Int), .int .i64 (x.c : Int), .slice ao N d]) x := ⟨_, rfl, hu.below hL1.bl⟩
   go_wp2_with fail
   with_reducible refine Calls.mono (HP.out _ _ _ _ hmt hil hil) ?_
   rintro e y3 ⟨pv9, rfl, ⟨u9, rfl, hu9⟩, hb3⟩
   replace hL1 := hL1.call hb3
   clear hA hil hmt HP hH
   obtain ⟨uo, ud, rfl, hcap9⟩ := hu9.form
   have hM := (GL.start y3).new rfl [.int .i64 0, .int .i64 0, .slice none 0 0] 56
   generalize hweq : y3.alloc (.cells #[.int .i64 0, .int .i64 0, .slice none 0 0] 56) = y4 at hM
   have hP := hM.put 0 y3.heap.size _ rfl [.int .i64 (y.r : Int), .int .i64 (y.c : Int), .slice uo y.l.length ud] rfl
   obtain ⟨y5, hy⟩ : ∃ q, setAll y4 y3.heap.size 0 [.int .i64 (y.r : Int), .int .i64 (y.c : Int), .slice uo y.l.length ud] = q := ⟨_, rfl⟩
   rw [hy] at hP
   simp only [setAll, Nat.zero_add, Nat.reduceAdd] at hy
   simp only [List.set_cons_zero] at hP
   have hA := hM.fc
   simp only [zF, Nat.reduceAdd] at hA
   have hB := hP.fc
   simp only [zF, Nat.reduceAdd] at hB
   have hmt : MT y5 (.agg #[.int .i64 (y.r : Int), .int .i64 (y.c : Int), .slice uo y.l.length ud]) y := ⟨_, rfl, hu9.below hP.bl⟩
   replace hL1 := hL1.call hP.bl
   go_wp2_with fail
   with_reducible refine Calls.mono (HT.out _ _ hmt) ?_
   rintro e y6 ⟨rfl, hb6⟩
   replace hL1 := hL1.call hb6
   clear hA hB hy hweq hmt hM hP
   have hP := hL1.box5 q
   obtain ⟨y7, hy⟩ : ∃ y, put5 y6 (w.heap.size + 1) 0 q = y := ⟨_, rfl⟩
   rw [hy] at hP
   simp only [put5, Nat.zero_add] at hy
   have hA := hL1.fc
   simp only [frC_zero, fcG, cellsF, neK, and_true, ne_eq, Nat.zero_add, Nat.reduceAdd] at hA
   unfold frC at hP
   have hB := hP.fc
   simp only [zF, Nat.reduceAdd] at hB
   clear hL1
   go_wp2_with fail
   exact bodyPost_ret (v := .tuple #[fracV q, .int .i64 0]) (by simp [results, Tryz.results103, go_sem, hB]) rfl ⟨rfl, hP.bl⟩
end Go.Proofs.YthffglapmkkohaaGreatDoor
namespace Go.Proofs.YthffglapmkkohaaGreatDoor
open Go.RowKit
attribute [local irreducible] lo hs sm s64 c64 d64 b64 mh ml pd pc qd qc val hiB str cmpI srD lz nb zl zh zs fe rowV tabV gv bsV
theorem slq_upd {W W' : World} {v : Value} {l : List Rat} {k : Nat} (h : SlQ W v l) (hu : Upd k W W') (hk : ∀ g c, v = .slice (some ⟨g, 0, none⟩) l.length c → FS W g l → l ≠ [] → g ≠ k) : SlQ W' v l := by
 by_cases h0 : l = []
 ·subst h0
  rcases h with h1 | ⟨g, c, h1, h2⟩
  ·exact .inl h1
  ·exact .inl ⟨_, c, h1, rfl⟩
 ·rcases h with ⟨_, _, _, h1⟩ | ⟨g, c, h1, h2⟩
  ·exact absurd h1 h0
  ·have hbl := hu.block g (hk g c h1 h2 h0)
   have cc : ∀ j, W'.cell? ⟨g, j, none⟩ = W.cell? ⟨g, j, none⟩ := fun j => World.cell?_of_block (a := ⟨g, j, none⟩) hbl
   exact .inr ⟨g, c, h1, fun i hi => by rw [cc, cc, cc, cc, cc]; exact h2.cell i hi, by rw [hu.size]; exact h2.lt⟩
/-- .. a box whose first cell begins no fraction. -/
theorem PTs.putM {W W' : World} {S : List (Value × List Rat)} (h : PTs W S) {k : Nat} {x : Value} {cs : List Value} (hu : Upd k W W') (hd : Hd W k (x :: cs)) (hx : ∀ n, x ≠ .int .u64 n) : PTs W' S := fun p hp =>
 slq_upd (h p hp) hu fun g c _ hf h0 e => by
  subst e
  have h1 := (hf.cell 0 (List.length_pos_iff.2 h0)).1
  rw [Nat.zero_mul, hd.cell 0 (by simp)] at h1
  exact hx _ (Option.some.inj h1)
/-- A slice of matrices as the laws take them: the lengths of their rows of elements. -/
def FWs (w : World) (v : Value) (ls : List Nat) : Prop := ∃ ao c g, v = .slice ao ls.length c ∧ (0 < ls.length → ao = some ⟨g, 0, none⟩) ∧ ∀ i (h : i < ls.length), ∃ a d, w.cell? ⟨g, i * 3 + 2, none⟩ = some (.slice a (ls[i]'h) d)
theorem fws_one {w : World} {g c n d : Nat} {x y : Value} {a : Option Addr} (h : Hd w g [x, y, .slice a n d]) : FWs w (.slice (some ⟨g, 0, none⟩) 1 c) [n] := by
 refine ⟨_, c, g, rfl, fun _ => rfl, fun i hi => ?_⟩
 obtain rfl : i = 0 := by simpa using hi
 exact ⟨a, d, h.cell 2 (by simp)⟩
end Go.Proofs.YthffglapmkkohaaGreatDoor
namespace Go.Proofs.YthffglapmkkohaaGreatDoor
open Go.RowKit
attribute [local irreducible] lo hs sm s64 c64 d64 b64 mh ml pd pc qd qc val hiB str cmpI srD lz nb zl zh zs fe rowV tabV gv bsV tabM
theorem efew_w (m c g : Nat) (ao : Option Addr) (ln : Nat → Nat) (hm : m ≤ 100000) (w : World) (hx : 0 < m → ao = some ⟨g, 0, none⟩)
  (hc : ∀ i, i < m → ∃ a d, w.cell? ⟨g, i * 3 + 2, none⟩ = some (.slice a (ln i) d)) (b : Bool) (hb : b = true ↔ ∀ i, i < m → ln i ≤ 40) :
  Calls Tryz.prog 38 #[.slice ao m c] w fun xe w' => xe = .returned (.bool b) ∧ Below w.heap.size w w' := by
 replace hm := Lib.hid hm
 replace hx := Lib.hid hx
 replace hc := Lib.hid hc
 replace hb := Lib.hid hb
 go_enter Tryz.func38, Tryz.ntmps38
 go_wp2_with fail
 go_loopg [3] m (fun gk iv wr => ∃ (k : Nat) (zi : Int), k + gk = m ∧ iv = .int .i64 zi ∧ zi = (k : Int) ∧ (∀ i, i < k → ln i ≤ 40) ∧ wr = w)
 case atStart => exact ⟨0, 0, Nat.zero_add m, by first | rfl | go_num, rfl, fun i h => by omega, rfl⟩
 case round =>
  obtain ⟨k, zi, hik, rfl, hzi, hall, hwr⟩ := hrel
  subst hwr
  have hmm := hm.out
  replace hall := Lib.hid hall
  rcases Nat.lt_or_ge k m with hin | hin
  ·subst hzi
   have k1 : (k : Int) < (m : Int) := by omega
   have k0 : (0 : Int) ≤ (k : Int) := Int.natCast_nonneg _
   have kb : (k : Int) ≤ 100000 := by omega
   obtain ⟨a, d, hcell⟩ := hc.out k hin
   have e0 := hx.out (by omega)
   subst e0
   rcases Nat.lt_or_ge 40 (ln k) with hl | hl
   ·have l1 : (40 : Int) < (ln k : Int) := by omega
    obtain rfl : b = false := by
     cases b with
     | false => rfl
     | true => exact absurd (hb.out.1 rfl k hin) (by omega)
    generalize ln k = lk at *
    go_wp2_with fail
    exact bodyPost_ret (v := .bool false) (by simp [results, Tryz.results38, go_sem]) rfl ⟨rfl, Below.refl _ _⟩
   ·have l1 : ¬ (40 : Int) < (ln k : Int) := by omega
    have l2 : ¬ 40 < ln k := by omega
    have hl9 := Lib.hid hl
    clear hl
    obtain ⟨lk, hlk⟩ : ∃ lk, lk = ln k := ⟨_, rfl⟩
    rw [← hlk] at hcell l1 l2
    clear hlk
    go_wp2_with fail
    go_roundg (m - (k + 1))
    case measure => omega
    case rel => exact ⟨k + 1, _, by omega, by first | rfl | go_num, by omega, fun i h => by
     rcases Nat.lt_or_ge i k with g | g
     ·exact hall.out i g
     ·rw [show i = k by omega]; exact hl9.out, rfl⟩
  ·obtain rfl : k = m := by omega
   subst hzi
   have k1 : ¬ (k : Int) < (k : Int) := by omega
   obtain rfl : b = true := hb.out.2 hall.out
   go_wp2_with fail
   exact bodyPost_ret (v := .bool true) (by simp [results, Tryz.results38, go_sem]) rfl ⟨rfl, Below.refl _ _⟩
theorem efew_any (ls : List Nat) (b : Bool) (hb : b = true ↔ ∀ l ∈ ls, l ≤ 40) (hm : ls.length ≤ 10) (v : Value) (w : World) (hv : FWs w v ls) : Calls Tryz.prog 38 #[v] w fun e w' => e = .returned (.bool b) ∧ Below w.heap.size w w' := by
 obtain ⟨ao, c, g, rfl, h1, h2⟩ := hv
 refine efew_w ls.length c g ao (fun i => ls.getD i 0) (by omega) w h1 (fun i hi => ?_) b (hb.trans ⟨fun h i hi => ?_, fun h l hl => ?_⟩)
 ·obtain ⟨a, d, h3⟩ := h2 i hi
  exact ⟨a, d, by rw [h3, List.getD_eq_getElem?_getD, List.getElem?_eq_getElem hi]; rfl⟩
 ·show ls.getD i 0 ≤ 40
  rw [List.getD_eq_getElem?_getD, List.getElem?_eq_getElem hi]
  exact h _ (List.getElem_mem hi)
 ·obtain ⟨i, hi, rfl⟩ := List.getElem_of_mem hl
  have := h i hi
  rwa [List.getD_eq_getElem?_getD, List.getElem?_eq_getElem hi] at this
end Go.Proofs.YthffglapmkkohaaGreatDoor
namespace Go.Proofs.YthffglapmkkohaaGreatDoor
open Go.RowKit
attribute [local irreducible] lo hs sm s64 c64 d64 b64 mh ml pd pc qd qc val hiB str cmpI srD lz nb zl zh zs fe rowV tabV gv bsV tabM
theorem rtextV (x : List Rat) (n k : Nat) (Jt : List UInt8) (hx : x.length = n) (hn : n ≤ 10000) (hk : k ≤ 1000) (sx : ∀ q ∈ x, Sz q k) (hJ : Lib.join ((x.map qtxt).map (·.data.toList)) [32] = Jt) (hJl : Jt.length ≤ 1000000) (va : Value) (w : World) (ht : Tab w) (hv : RQ w va x) :
  Calls Tryz.prog 60 #[va] w fun xe w' => xe = .returned (.string ⟨([91] ++ Jt ++ [93]).toArray⟩) ∧ Below w.heap.size w w' := by
 obtain ⟨ao, c, rfl, hf⟩ := id hv
 rw [hx] at hv hf ⊢
 have HT := Lib.hid (fun i (hi : i < n) w ht => textF (gv x i) k (qsk x sx i (by omega)) (by omega) w ht)
 obtain ⟨tx, htx⟩ : ∃ tx, tx = x.map qtxt := ⟨_, rfl⟩
 have hti : ∀ i, i < n → tx.take (i + 1) = tx.take i ++ [qtxt (gv x i)] := fun i hi => by
  rw [htx, List.take_succ_eq_append_getElem (by rw [List.length_map]; omega), List.getElem_map, gv_get (by omega)]
 have htl : tx.length = n := by rw [htx, List.length_map, hx]
 rw [← htx] at hJ
 replace hti := Lib.hid hti
 replace htl := Lib.hid htl
 replace hJ := Lib.hid hJ
 replace hJl := Lib.hid hJl
 replace hf := Lib.hid hf
 replace ht := Lib.hid ht
 replace hn := Lib.hid hn
 clear sx hv htx
 go_enter Tryz.func60, Tryz.ntmps60
 go_wp2_with fail
 go_loopg [3, 8] n (fun gk sv iv wr => ∃ (k : Nat) (zi : Int) (vs : Value), k + gk = n ∧ vs = sv ∧ iv = .int .i64 zi ∧ zi = (k : Int) ∧ OwnS wr w.heap.size vs k (tx.take k) ∧ Below w.heap.size w wr)
 case atStart => exact ⟨0, 0, _, Nat.zero_add n, rfl, by first | rfl | go_num, rfl, World.ownsRow_nil _ _ _ _, Below.refl _ _⟩
 case round =>
  obtain ⟨k, zi, vs, hik, rfl, rfl, hzi, hown, hB⟩ := hrel
  replace hown := Lib.hid hown
  have hnn := hn.out
  rcases Nat.lt_or_ge k n with hin | hin
  ·subst hzi
   have k1 : (k : Int) < (n : Int) := by omega
   have k0 : (0 : Int) ≤ (k : Int) := Int.natCast_nonneg _
   have kb : (k : Int) ≤ 10000 := by omega
   obtain ⟨g, o, rfl, hfs⟩ := hf.out (by omega)
   have hcs := (hfs.below hB) k (by omega)
   have HT1 := HT.out k hin
   have hti1 := hti.out k hin
   generalize gv x k = q at hcs HT1 hti1
   obtain ⟨S, hS⟩ : ∃ S, S = qtxt q := ⟨_, rfl⟩
   rw [← hS] at HT1 hti1
   replace HT1 := Lib.hid HT1
   replace hti1 := Lib.hid hti1
   clear hS hfs
   obtain ⟨f0, f1, f2, f3, f4⟩ := hcs
   have hL0 : GL wr wr [] := GL.start wr
   replace hL0 := hL0.new rfl [.int .u64 ((zl q.num : Nat) : Int), .string (zh q.num), .bool (zs q.num), .int .u64 ((lo (fe q) : Nat) : Int), .string (hs (fe q))] 36
   generalize hweq : wr.alloc (.cells #[.int .u64 ((zl q.num : Nat) : Int), .string (zh q.num), .bool (zs q.num), .int .u64 ((lo (fe q) : Nat) : Int), .string (hs (fe q))] 36) = y2 at hL0
   have hN0 := cells_of _ 0 [] rfl (hL0.get _ _ mZ)
   simp only [zF, Nat.reduceAdd] at hN0
   have hB2 := Lib.hid (hB.trans (hL0.bl.mono hB.size))
   go_wp2_with fail
   with_reducible refine Calls.mono (HT1.out _ (ht.out.below hB2.out)) ?_
   rintro e y3 ⟨rfl, hb3⟩
   replace hL0 := hL0.call hb3
   have hown3 := Lib.hid (ownS_below hown.out hL0.bl)
   have hB3 := Lib.hid (hB.trans (hL0.bl.mono hB.size))
   clear hb3 hN0 hweq f0 f1 f2 f3 f4 hL0 hB2 hB hown
   have hL1 : GL y3 y3 [] := GL.start y3
   replace hL1 := hL1.new rfl [.string S] 9
   generalize hweq : y3.alloc (.cells #[.string S] 9) = y4 at hL1
   have hown4 := Lib.hid (ownS_below hown3.out hL1.bl)
   have hB4 := Lib.hid (hB3.out.trans (hL1.bl.mono hB3.out.size))
   have hH := Lib.hid (hL1.get _ _ mZ)
   go_wp2_with (at_builtin; refine wp_appendS rfl _ _ rfl _ _ _ _ rfl hown4.out _ S rfl hH.out (by omega) hB4.out.size ?_)
   intro v' w5 hown5 hgrow _
   have hB5 := hB4.out.grown hgrow hB4.out.size (fun j hj => (hown4.out.lt j hj).1)
   rw [← hti1.out] at hown5
   replace hown5 := Lib.hid hown5
   clear hgrow hown4 hB4 hown3 hB3 hH hweq
   go_wp2_with fail
   go_roundg (gk - 1)
   case measure => omega
   case rel => exact ⟨k + 1, _, _, by omega, rfl, by first | rfl | go_num, by omega, hown5.out, hB5⟩
  ·obtain rfl : k = n := by omega
   subst hzi
   have k1 : ¬ (k : Int) < (k : Int) := by omega
   rw [List.take_of_length_le (Nat.le_of_eq htl.out)] at hown
   have hJ2 : Calls Tryz.prog 128 #[vs, .string ⟨#[32]⟩] wr fun e w' => e = .returned (.string ⟨Jt.toArray⟩) ∧ Below wr.heap.size wr w' := by
    by_cases h0 : k = 0
    ·have e0 : tx = [] := List.eq_nil_of_length_eq_zero (by rw [htl.out, h0])
     obtain ⟨a, c2, hvs⟩ := ownS_form hown.out
     rw [hvs, h0]
     rw [e0] at hJ
     refine (Tryz.strings_Join_none a c2 ⟨#[32]⟩ wr).mono ?_
     rintro e w' ⟨rfl, rfl⟩
     exact ⟨by rw [← hJ.out]; rfl, Below.refl _ _⟩
    ·obtain ⟨g9, c9, hvs, hc9, hg9, hce9⟩ := ownS_cells hown.out (by rw [htl.out]; omega)
     rw [hvs]
     have := Tryz.strings_Join g9 0 c9 tx ⟨#[32]⟩ wr hce9 hg9 (by rw [htl.out]; omega) hc9 (by
      have h1 := hJl.out
      rw [← hJ.out] at h1
      exact Nat.le_trans h1 (by decide))
     rw [show (⟨#[32]⟩ : ByteArray).data.toList = [32] from rfl, hJ.out] at this
     exact this
   replace hJ2 := Lib.hid hJ2
   have j1 : (Jt.length : Int) ≤ 1000000 := by have := hJl.out; omega
   have j2 : ¬ (9223372036854775807 : Int) < 1 + (Jt.length : Int) := by omega
   have j3 : ¬ (9223372036854775806 : Int) < (Jt.length : Int) := by omega
   have j4 : 1 + (Jt.length : Int) ≤ 9223372036854775807 := by omega
   have j5 : ¬ (9223372036854775807 : Int) < 1 + (Jt.length : Int) + 1 := by omega
   have j6 : ¬ (9223372036854775806 : Int) < 1 + (Jt.length : Int) := by omega
   replace hB := Lib.hid hB
   obtain ⟨a9, c9, hvs⟩ := ownS_form hown.out
   subst hvs
   clear hown
   go_wp2_with fail
   refine hJ2.out.mono ?_
   rintro e y9 ⟨rfl, hb9⟩
   replace hb9 := Lib.hid (hB.out.trans (hb9.mono hB.out.size))
   go_wp2_with fail
   exact bodyPost_ret (v := .string ⟨([91] ++ Jt ++ [93]).toArray⟩) (by simp [results, Tryz.results60, go_sem]; apply ByteArray.ext; simp) rfl ⟨rfl, hb9.out⟩
theorem mOf_ok (r c : Nat) (zs : List Int) (hm : zs.length ≤ 100000) (hz : ∀ z ∈ zs, -9223372036854775808 ≤ z ∧ z < 9223372036854775808) (hr : r ≤ 2048) (hc : c ≤ 2048) (hl : zs.length = r * c) (s : Value) (w : World) (hs : ILs w s zs) :
  Calls Tryz.prog 81 #[.int .i64 (r : Int), .int .i64 (c : Int), s] w fun xe w' => ∃ v, xe = .returned (.tuple #[.agg #[.int .i64 (r : Int), .int .i64 (c : Int), v], .int .i64 0]) ∧ NV w.heap.size (tabV zs.length (ofV zs)) v w' ∧ Below w.heap.size w w' := by
 have HV := Lib.hid fun w h => vofV zs hm hz s w h
 have HK := fun d ao => mcheck_ok r c zs.length d ao hr hc hl
 clear hr hc hl hm hz
 have hle : (tabV zs.length (ofV zs)).length = zs.length := tabV_len _ _
 rw [← hle] at HK
 clear hle
 generalize tabV zs.length (ofV zs) = tl at HV HK ⊢
 replace HK := Lib.hid HK
 obtain ⟨ao, c1, -, rfl, -⟩ := id hs
 have hL0 : GL w w [] := GL.start w
 obtain ⟨x1, hweq, hL0⟩ := GL.named (hL0.new rfl [.int .i64 0, .int .i64 0, .slice none 0 0] 56)
 have hs1 := Lib.hid (hs.below hL0.bl)
 clear hs
 go_enter Tryz.func81, Tryz.ntmps81
 have hx0 := Lib.hid hL0
 go_wp2_with fail
 with_reducible refine Calls.mono (HV.out _ hs1.out) ?_
 rintro e y1 ⟨u, rfl, hnv, hb⟩
 replace hL0 := hL0.call hb
 clear hb hweq hs1 HV
 replace hx0 := hx0.out
 obtain ⟨gu, rfl, hge, hHd⟩ := hnv
 replace hL0 := GL.tnew (M := []) hL0 hx0 hHd hge (fun p hp => by cases hp)
 simp only [List.nil_append] at hL0
 have hge2 := Lib.hid (Nat.le_trans hx0.bl.size hge)
 clear hx0 hge hHd
 have hL1 := hL0.new rfl [.int .i64 (r : Int), .int .i64 (c : Int), .slice (some ⟨gu, 0, none⟩) tl.length tl.length] 56
 generalize hweq : y1.alloc (.cells #[.int .i64 (r : Int), .int .i64 (c : Int), .slice (some ⟨gu, 0, none⟩) tl.length tl.length] 56) = y2 at hL1
 clear hL0
 have hL0 := hL1
 clear hL1
 have hA := cells_of _ 0 [] rfl (hL0.get _ _ mZ)
 simp only [zF, Nat.reduceAdd] at hA
 go_wp2_with fail
 with_reducible refine Calls.mono (HK.out _ _ _) ?_
 rintro e y3 ⟨rfl, hb⟩
 replace hL0 := hL0.call hb
 clear hb hA hweq HK
 have hC := cells_of _ 0 [] rfl (hL0.get _ _ mZ)
 simp only [zF, Nat.reduceAdd] at hC
 have hA := cells_of _ 0 [] rfl (hL0.get _ _ (mK (mK mZ)))
 simp only [zF, Nat.reduceAdd] at hA
 have zf := (hL0.get _ _ (mK (mK mZ))).frz
 have hPt := hL0.put 2 (w.heap.size) _ rfl [.int .i64 (r : Int), .int .i64 (c : Int), .slice (some ⟨gu, 0, none⟩) tl.length tl.length] rfl
 simp only [setAll, List.set_cons_zero, List.set_cons_succ] at hPt
 generalize hput1 : (((y3.setCell ⟨w.heap.size, 0, none⟩ (.int .i64 (r : Int))).setCell ⟨w.heap.size, 1, none⟩ (.int .i64 (c : Int))).setCell ⟨w.heap.size, 2, none⟩ (.slice (some ⟨gu, 0, none⟩) tl.length tl.length)) = y4 at hPt
 have hB1 := cells_of _ 0 [] rfl (hPt.get _ _ (mK (mK mZ)))
 simp only [zF, Nat.reduceAdd] at hB1
 have hNV : NV w.heap.size tl (.slice (some ⟨gu, 0, none⟩) tl.length tl.length) y4 := ⟨gu, rfl, hge2.out, hPt.get _ _ (mK mZ)⟩
 replace hNV := Lib.hid hNV
 clear hL0 hge2
 go_wp2_with fail
 exact bodyPost_ret (v := .tuple #[.agg #[.int .i64 (r : Int), .int .i64 (c : Int), .slice (some ⟨gu, 0, none⟩) tl.length tl.length], .int .i64 0]) (by simp [results, Tryz.results81, go_sem, hB1]) rfl ⟨_, rfl, hNV.out, hPt.bl⟩
theorem mindex_in (i n : Int) (h0 : 0 ≤ i) (h1 : i < n) (w : World) : Calls Tryz.prog 90 #[.int .i64 i, .int .i64 n] w fun xe w' => xe = .returned (.bool true) ∧ Below w.heap.size w w' := by
 go_enter Tryz.func90, Tryz.ntmps90
 go_wp2_with fail
 exact bodyPost_ret (v := .bool true) (by simp [results, Tryz.results90, go_sem]) rfl ⟨rfl, Below.refl _ _⟩
theorem mindices_ok (ps : List Nat) (n : Nat) (hm : ps.length ≤ 100000) (hp : ∀ p ∈ ps, p < n) (v : Value) (w : World) (hv : ILs w v (ps.map Int.ofNat)) : Calls Tryz.prog 96 #[v, .int .i64 (n : Int)] w fun xe w' => xe = .returned (.bool true) ∧ Below w.heap.size w w' := by
 obtain ⟨ao, c, g, rfl, h2, h3⟩ := hv
 rw [List.length_map] at h2 ⊢
 obtain ⟨m, hme⟩ : ∃ m, m = ps.length := ⟨_, rfl⟩
 rw [← hme] at h2 hm ⊢
 have h4 : ∀ i, i < m → ∃ p : Nat, p < n ∧ w.cell? ⟨g, i, none⟩ = some (.int .i64 (p : Int)) := fun i hi => by
  have e := h3 i (by rw [List.length_map, ← hme]; exact hi)
  rw [List.getElem_map] at e
  exact ⟨_, hp _ (List.getElem_mem (by rw [← hme]; exact hi)), e⟩
 clear hp h3 hme
 replace h2 := Lib.hid h2
 replace h4 := Lib.hid h4
 replace hm := Lib.hid hm
 go_enter Tryz.func96, Tryz.ntmps96
 go_wp2_with fail
 go_loopg [9] m (fun gk iv wr => ∃ (k : Nat) (zi : Int), k + gk = m ∧ iv = .int .i64 zi ∧ zi = (k : Int) ∧ Below w.heap.size w wr)
 case atStart => exact ⟨0, 0, Nat.zero_add m, by first | rfl | go_num, rfl, Below.refl _ _⟩
 case round =>
  obtain ⟨k, zi, hik, rfl, hzi, hbl⟩ := hrel
  have hmm := hm.out
  rcases Nat.lt_or_ge k m with hin | hin
  ·subst hzi
   have k1 : (k : Int) < (m : Int) := by omega
   have k0 : (0 : Int) ≤ (k : Int) := Int.natCast_nonneg _
   have kb : (k : Int) ≤ 100000 := by omega
   obtain ⟨p, hp, hcell⟩ := h4.out k hin
   replace hcell := keepsC hbl hcell
   obtain ⟨rfl, -⟩ := h2.out (by omega)
   have HI := Lib.hid (mindex_in (p : Int) (n : Int) (Int.natCast_nonneg _) (by omega))
   replace hbl := Lib.hid hbl
   clear hp
   go_wp2_with fail
   with_reducible refine Calls.mono (HI.out _) ?_
   rintro e y2 ⟨rfl, hb⟩
   have hb2 := Lib.hid (hbl.out.trans (hb.mono hbl.out.size))
   clear hb hbl hcell
   go_wp2_with fail
   go_roundg (m - (k + 1))
   case measure => omega
   case rel => exact ⟨k + 1, _, by omega, by first | rfl | go_num, by omega, hb2.out⟩
  ·obtain rfl : k = m := by omega
   subst hzi
   have k1 : ¬ (k : Int) < (k : Int) := by omega
   replace hbl := Lib.hid hbl
   go_wp2_with fail
   exact bodyPost_ret (v := .bool true) (by simp [results, Tryz.results96, go_sem]) rfl ⟨rfl, hbl.out⟩
theorem mPartV (x : Mx) (ps qs : List Nat) (hx : OKM x) (hm : ps.length ≤ 100) (hq : qs.length ≤ 100) (hp : ∀ p ∈ ps, p < x.r) (hr : ∀ p ∈ qs, p < x.c) (u s t : Value) (w : World) (hu : CQ w u x.l) (hs : ILs w s (ps.map Int.ofNat)) (ht : ILs w t (qs.map Int.ofNat)) :
  Calls Tryz.prog 31 #[.agg #[.int .i64 (x.r : Int), .int .i64 (x.c : Int), u], s, t] w fun xe w' => ∃ v, xe = .returned (.tuple #[.agg #[.int .i64 (ps.length : Int), .int .i64 (qs.length : Int), v], .int .i64 0]) ∧ NV w.heap.size (tabM ps.length qs.length fun i j => ent x (ps.getD i 0) (qs.getD j 0)).l v w' ∧ Below w.heap.size w w' := by
 have HB : ∀ b1 b2 b3 ux va vb (w : World), (BM w b1 ux x ∧ ILs w va (ps.map Int.ofNat) ∧ ILs w vb (qs.map Int.ofNat) ∧ w.cell? ⟨b2, 0, none⟩ = some va ∧ w.cell? ⟨b3, 0, none⟩ = some vb) → Calls Tryz.prog 88 #[.int .i64 (ps.length : Int), .int .i64 (qs.length : Int), .func (.func 97) #[] #[.pointer (some ⟨b1, 0, none⟩), .pointer (some ⟨b2, 0, none⟩), .pointer (some ⟨b3, 0, none⟩)]] w fun xe w' => ∃ v, xe = .returned (.agg #[.int .i64 (ps.length : Int), .int .i64 (qs.length : Int), v]) ∧ NV w.heap.size (tabM ps.length qs.length fun i j => ent x (ps.getD i 0) (qs.getD j 0)).l v w' ∧ Below w.heap.size w w' := fun b1 b2 b3 ux va vb w h =>
  mbuild_w 97 #[.pointer (some ⟨b1, 0, none⟩), .pointer (some ⟨b2, 0, none⟩), .pointer (some ⟨b3, 0, none⟩)] enmpart ps.length qs.length (fun i j => ent x (ps.getD i 0) (qs.getD j 0)) (fun w => BM w b1 ux x ∧ ILs w va (ps.map Int.ofNat) ∧ ILs w vb (qs.map Int.ofNat) ∧ w.cell? ⟨b2, 0, none⟩ = some va ∧ w.cell? ⟨b3, 0, none⟩ = some vb) (Keeps.and (BM.keeps _ _ _) (Keeps.and (ILs.keeps _ _) (Keeps.and (ILs.keeps _ _) (Keeps.and (keepsB _ _) (keepsB _ _))))) (fun i k hi hk w h => mpart_at x hx ps qs hp hr b1 b2 b3 ux va vb i k hi hk w h) (by omega) (by omega) (by have := Nat.mul_le_mul hm hq; omega) w h
 have HK := fun (d : Nat) (ao : Option Addr) => mcheck_ok x.r x.c x.l.length d ao hx.r hx.c hx.len
 have HS := Lib.hid (msize_ok ps.length qs.length (by omega) (by omega))
 have HI := Lib.hid fun w h => mindices_ok ps x.r (by omega) hp s w h
 have HJ := Lib.hid fun w h => mindices_ok qs x.c (by omega) hr t w h
 clear hp hr hx hm hq
 generalize (tabM ps.length qs.length fun i j => ent x (ps.getD i 0) (qs.getD j 0)).l = tl at HB ⊢
 obtain ⟨ao, d, rfl, -⟩ := id hu.form
 obtain ⟨a5, d5, g5, rfl, -⟩ := id hs
 obtain ⟨a6, d6, g6, rfl, -⟩ := id ht
 rw [List.length_map] at hs ht HI HJ ⊢
 replace HK := Lib.hid (HK d ao)
 replace HB := Lib.hid HB
 have hL0 : GL w w [] := GL.start w
 obtain ⟨x1, hweq, hL0⟩ := GL.named ((((hL0.new rfl [.int .i64 (x.r : Int), .int .i64 (x.c : Int), (.slice ao x.l.length d)] 56).new (K := w.heap.size + 1) (szA _ _) [.slice a5 ps.length d5] 24).new (K := w.heap.size + 1 + 1) (by simp only [World.size_alloc]) [.slice a6 qs.length d6] 24).new (K := w.heap.size + 1 + 1 + 1) (by simp only [World.size_alloc]) [.int .i64 0, .int .i64 0, .slice none 0 0] 56)
 have hu1 := Lib.hid (hu.below hL0.bl)
 have hs1 := Lib.hid (hs.below hL0.bl)
 have ht1 := Lib.hid (ht.below hL0.bl)
 clear hu hs ht
 have hA := hL0.fc
 simp only [zF, Nat.reduceAdd] at hA
 go_enter Tryz.func31, Tryz.ntmps31
 go_wp2_with fail
 with_reducible refine Calls.mono (HK.out _) ?_
 rintro e y1 ⟨rfl, hb⟩
 replace hu1 := Lib.hid (hu1.out.below hb)
 replace hs1 := Lib.hid (hs1.out.below hb)
 replace ht1 := Lib.hid (ht1.out.below hb)
 replace hL0 := hL0.call hb
 clear hb hA hweq HK
 have hA := hL0.fc
 simp only [zF, Nat.reduceAdd] at hA
 go_wp2_with fail
 with_reducible refine Calls.mono (HS.out _) ?_
 rintro e y2 ⟨rfl, hb⟩
 replace hu1 := Lib.hid (hu1.out.below hb)
 replace hs1 := Lib.hid (hs1.out.below hb)
 replace ht1 := Lib.hid (ht1.out.below hb)
 replace hL0 := hL0.call hb
 clear hb hA HS
 have hA := hL0.fc
 simp only [zF, Nat.reduceAdd] at hA
 go_wp2_with fail
 with_reducible refine Calls.mono (HI.out _ hs1.out) ?_
 rintro e y3 ⟨rfl, hb⟩
 replace hu1 := Lib.hid (hu1.out.below hb)
 replace hs1 := Lib.hid (hs1.out.below hb)
 replace ht1 := Lib.hid (ht1.out.below hb)
 replace hL0 := hL0.call hb
 clear hb hA HI
 have hA := hL0.fc
 simp only [zF, Nat.reduceAdd] at hA
 go_wp2_with fail
 with_reducible refine Calls.mono (HJ.out _ ht1.out) ?_
 rintro e y4 ⟨rfl, hb⟩
 replace hu1 := Lib.hid (hu1.out.below hb)
 replace hs1 := Lib.hid (hs1.out.below hb)
 replace ht1 := Lib.hid (ht1.out.below hb)
 replace hL0 := hL0.call hb
 clear hb hA HJ
 have hB1 := BM.of (hL0.get _ _ (mK (mK (mK mZ)))) hu1.out
 have hc1 := (hL0.get _ _ (mK (mK mZ))).cell 0 (by simp)
 simp only [List.getElem_cons_zero, List.getElem_cons_succ] at hc1
 have hc2 := (hL0.get _ _ (mK mZ)).cell 0 (by simp)
 simp only [List.getElem_cons_zero, List.getElem_cons_succ] at hc2
 replace HB := Lib.hid (HB.out _ _ _ _ _ _ _ ⟨hB1, hs1.out, ht1.out, hc1, hc2⟩)
 clear hc1 hc2 hB1 hu1 hs1 ht1
 have hx0 := Lib.hid hL0
 have hA := cells_of _ 0 [] rfl (hL0.get _ _ (mK (mK mZ)))
 simp only [zF, Nat.reduceAdd] at hA
 have zA := (hL0.get _ _ (mK (mK mZ))).frz
 have hC := cells_of _ 0 [] rfl (hL0.get _ _ (mK mZ))
 simp only [zF, Nat.reduceAdd] at hC
 have zC := (hL0.get _ _ (mK mZ)).frz
 go_wp2_with fail
 with_reducible refine Calls.mono (HB.out) ?_
 rintro e y5 ⟨u, rfl, hnv, hb⟩
 replace hL0 := hL0.call hb
 clear hb hA hC zA zC
 replace hx0 := hx0.out
 obtain ⟨gu, rfl, hge, hHd⟩ := hnv
 replace hL0 := GL.tnew (M := []) hL0 hx0 hHd hge (fun p hp => by cases hp)
 simp only [List.nil_append] at hL0
 have hge2 := Lib.hid (Nat.le_trans hx0.bl.size hge)
 clear hx0 hge hHd
 have hA := cells_of _ 0 [] rfl (hL0.get _ _ (mK mZ))
 simp only [zF, Nat.reduceAdd] at hA
 have zf := (hL0.get _ _ (mK mZ)).frz
 have hPt := hL0.put 1 (w.heap.size + 1 + 1 + 1) _ rfl [.int .i64 (ps.length : Int), .int .i64 (qs.length : Int), .slice (some ⟨gu, 0, none⟩) tl.length tl.length] rfl
 simp only [setAll, List.set_cons_zero, List.set_cons_succ] at hPt
 generalize hput1 : (((y5.setCell ⟨w.heap.size + 1 + 1 + 1, 0, none⟩ (.int .i64 (ps.length : Int))).setCell ⟨w.heap.size + 1 + 1 + 1, 1, none⟩ (.int .i64 (qs.length : Int))).setCell ⟨w.heap.size + 1 + 1 + 1, 2, none⟩ (.slice (some ⟨gu, 0, none⟩) tl.length tl.length)) = y6 at hPt
 have hB1 := cells_of _ 0 [] rfl (hPt.get _ _ (mK mZ))
 simp only [zF, Nat.reduceAdd] at hB1
 have hNV : NV w.heap.size tl (.slice (some ⟨gu, 0, none⟩) tl.length tl.length) y6 := ⟨gu, rfl, hge2.out, hPt.get _ _ mZ⟩
 replace hNV := Lib.hid hNV
 clear hL0 hge2
 go_wp2_with fail
 exact bodyPost_ret (v := .tuple #[.agg #[.int .i64 (ps.length : Int), .int .i64 (qs.length : Int), .slice (some ⟨gu, 0, none⟩) tl.length tl.length], .int .i64 0]) (by simp [results, Tryz.results31, go_sem, hB1]) rfl ⟨_, rfl, hNV.out, hPt.bl⟩
theorem mTextV (x : Mx) (S : Nat → ByteArray) (Jt : List UInt8) (hx : OKM x) (HT : ∀ i, i < x.r → ∀ (v : Value) (w : World), Tab w → RQ w v (rowL x i) → Calls Tryz.prog 60 #[v] w fun xe w' => xe = .returned (.string (S i)) ∧ Below w.heap.size w w') (hJ : Lib.join (((List.range x.r).map S).map (·.data.toList)) [32] = Jt) (hJl : Jt.length ≤ 1000000) (u : Value) (w : World) (ht : Tab w) (hu : CQ w u x.l) :
  Calls Tryz.prog 83 #[.agg #[.int .i64 (x.r : Int), .int .i64 (x.c : Int), u]] w fun xe w' => xe = .returned (.string ⟨Jt.toArray⟩) ∧ Below w.heap.size w w' := by
 have HR := Lib.hid fun i (hi : i < x.r) w0 (h : CQ w0 u x.l) => mrowV x hx i hi u w0 h
 obtain ⟨ao, d, rfl, -⟩ := id hu.form
 have HK := Lib.hid (mcheck_ok x.r x.c x.l.length d ao hx.r hx.c hx.len)
 have hn := Lib.hid hx.r
 obtain ⟨n, hne⟩ : ∃ n, n = x.r := ⟨_, rfl⟩
 rw [← hne] at HR HK hn hJ HT ⊢
 obtain ⟨tx, htx⟩ : ∃ tx, tx = (List.range n).map S := ⟨_, rfl⟩
 have hti : ∀ i, i < n → tx.take (i + 1) = tx.take i ++ [S i] := fun i hi => by
  rw [htx, List.take_succ_eq_append_getElem (by rw [List.length_map, List.length_range]; omega), List.getElem_map, List.getElem_range]
 have htl : tx.length = n := by rw [htx, List.length_map, List.length_range]
 rw [← htx] at hJ
 replace hti := Lib.hid hti
 replace htl := Lib.hid htl
 replace hJ := Lib.hid hJ
 replace hJl := Lib.hid hJl
 replace ht := Lib.hid ht
 replace HT := Lib.hid HT
 clear htx hx hne
 have hL0 : GL w w [] := GL.start w
 obtain ⟨x1, hweq, hL0⟩ := GL.named (hL0.new rfl [.int .i64 (n : Int), .int .i64 (x.c : Int), .slice ao x.l.length d] 56)
 have hu1 := Lib.hid (hu.below hL0.bl)
 clear hu
 have hA := hL0.fc
 simp only [zF, Nat.reduceAdd] at hA
 go_enter Tryz.func83, Tryz.ntmps83
 go_wp2_with fail
 with_reducible refine Calls.mono (HK.out _) ?_
 rintro e y1 ⟨rfl, hb⟩
 replace hu1 := Lib.hid (hu1.out.below hb)
 replace hL0 := hL0.call hb
 clear hb hA hweq HK
 have hA := hL0.fc
 simp only [zF, Nat.reduceAdd] at hA
 go_wp2_with fail
 clear hA
 obtain ⟨x1, hx1⟩ : ∃ x1, x1 = y1 := ⟨_, rfl⟩
 rw [← hx1] at hL0 hu1 ⊢
 replace hx1 := hx1.symm
 obtain ⟨b, hbw⟩ : ∃ b, b = w.heap.size := ⟨_, rfl⟩
 rw [← hbw] at hL0 ⊢
 replace hbw := Lib.hid hbw
 have hbx := Lib.hid (show b < x1.heap.size from (hL0.get _ _ mZ).lt)
 have hbc := Lib.hid (hL0.get _ _ mZ)
 have hwx := Lib.hid hL0.bl
 clear hL0 hx1
 go_loopg [3, 10] n (fun gk sv iv wr => ∃ (k : Nat) (zi : Int) (vs : Value), k + gk = n ∧ vs = sv ∧ iv = .int .i64 zi ∧ zi = (k : Int) ∧ OwnS wr x1.heap.size vs k (tx.take k) ∧ Below x1.heap.size x1 wr)
 case atStart => exact ⟨0, 0, _, Nat.zero_add n, rfl, by first | rfl | go_num, rfl, World.ownsRow_nil _ _ _ _, Below.refl _ _⟩
 case round =>
  obtain ⟨k, zi, vs, hik, rfl, rfl, hzi, hown, hB⟩ := hrel
  replace hown := Lib.hid hown
  have hnn := hn.out
  rcases Nat.lt_or_ge k n with hin | hin
  ·subst hzi
   have k1 : (k : Int) < (n : Int) := by omega
   have k0 : (0 : Int) ≤ (k : Int) := Int.natCast_nonneg _
   have kb : (k : Int) ≤ 10000 := by omega
   have hcu := hu1.out.below hB
   obtain ⟨a2, g1, g2⟩ := HR.out k hin wr hcu
   have hcb := cells_of _ 0 [] rfl (hbc.out.below hB)
   simp only [zF, Nat.reduceAdd] at hcb
   have HT1 := Lib.hid fun w => HT.out k hin (.slice a2 x.c x.c) w
   have hti1 := hti.out k hin
   obtain ⟨St, hS⟩ : ∃ St, St = S k := ⟨_, rfl⟩
   rw [← hS] at HT1 hti1
   replace hti1 := Lib.hid hti1
   replace g1 := Lib.hid g1
   replace g2 := Lib.hid g2
   clear hS hcu
   go_wp2_with fail
   with_reducible refine Calls.mono (g1.out _) ?_
   rintro e y2 ⟨rfl, hb2⟩
   have hB2 := hB.trans (hb2.mono hB.size)
   have g3 := Lib.hid (g2.out.below hb2)
   have hown2 := Lib.hid (ownS_below hown.out hb2)
   clear hb2 g1 g2 hown hcb
   have ht2 := Lib.hid (ht.out.below (hwx.out.trans (hB2.mono hwx.out.size)))
   clear hB
   replace hB2 := Lib.hid hB2
   go_wp2_with fail
   with_reducible refine Calls.mono (HT1.out _ ht2.out g3.out) ?_
   rintro e y3 ⟨rfl, hb3⟩
   have hown3 := Lib.hid (ownS_below hown2.out hb3)
   have hB3 := Lib.hid (hB2.out.trans (hb3.mono hB2.out.size))
   clear hb3 hown2 hB2 ht2 g3 HT1
   have hL1 : GL y3 y3 [] := GL.start y3
   replace hL1 := hL1.new rfl [.string St] 9
   generalize hweq : y3.alloc (.cells #[.string St] 9) = y4 at hL1
   have hown4 := Lib.hid (ownS_below hown3.out hL1.bl)
   have hB4 := Lib.hid (hB3.out.trans (hL1.bl.mono hB3.out.size))
   have hH := Lib.hid (hL1.get _ _ mZ)
   go_wp2_with (at_builtin; refine wp_appendS rfl _ _ rfl _ _ _ _ rfl hown4.out _ St rfl hH.out (by omega) hB4.out.size ?_)
   intro v' w5 hown5 hgrow _
   have hB5 := hB4.out.grown hgrow hB4.out.size (fun j hj => (hown4.out.lt j hj).1)
   rw [← hti1.out] at hown5
   replace hown5 := Lib.hid hown5
   clear hgrow hown4 hB4 hown3 hB3 hH hweq
   go_wp2_with fail
   go_roundg (gk - 1)
   case measure => omega
   case rel => exact ⟨k + 1, _, _, by omega, rfl, by first | rfl | go_num, by omega, hown5.out, hB5⟩
  ·obtain rfl : k = n := by omega
   subst hzi
   have k1 : ¬ (k : Int) < (k : Int) := by omega
   rw [List.take_of_length_le (Nat.le_of_eq htl.out)] at hown
   have hJ2 : Calls Tryz.prog 128 #[vs, .string ⟨#[32]⟩] wr fun e w' => e = .returned (.string ⟨Jt.toArray⟩) ∧ Below wr.heap.size wr w' := by
    by_cases h0 : k = 0
    ·have e0 : tx = [] := List.eq_nil_of_length_eq_zero (by rw [htl.out, h0])
     obtain ⟨a, c2, hvs⟩ := ownS_form hown.out
     rw [hvs, h0]
     rw [e0] at hJ
     refine (Tryz.strings_Join_none a c2 ⟨#[32]⟩ wr).mono ?_
     rintro e w' ⟨rfl, rfl⟩
     exact ⟨by rw [← hJ.out]; rfl, Below.refl _ _⟩
    ·obtain ⟨g9, c9, hvs, hc9, hg9, hce9⟩ := ownS_cells hown.out (by rw [htl.out]; omega)
     rw [hvs]
     have := Tryz.strings_Join g9 0 c9 tx ⟨#[32]⟩ wr hce9 hg9 (by rw [htl.out]; omega) hc9 (by
      have h1 := hJl.out
      rw [← hJ.out] at h1
      exact Nat.le_trans h1 (by decide))
     rw [show (⟨#[32]⟩ : ByteArray).data.toList = [32] from rfl, hJ.out] at this
     exact this
   replace hJ2 := Lib.hid hJ2
   replace hB := Lib.hid hB
   obtain ⟨a9, c9, hvs⟩ := ownS_form hown.out
   subst hvs
   go_wp2_with fail
   with_reducible refine Calls.mono hJ2.out ?_
   rintro e y9 ⟨rfl, hb9⟩
   have hB9 := Lib.hid (hwx.out.trans ((hB.out.trans (hb9.mono hB.out.size)).mono hwx.out.size))
   clear hb9
   go_wp2_with fail
   exact bodyPost_ret (v := .string ⟨Jt.toArray⟩) (by simp [results, Tryz.results83, go_sem]) rfl ⟨rfl, hB9.out⟩
end Go.Proofs.YthffglapmkkohaaGreatDoor
namespace Go.Proofs.YthffglapmkkohaaGreatDoor
open Go.RowKit
attribute [local irreducible] lo hs sm s64 c64 d64 b64 mh ml pd pc qd qc val hiB str cmpI srD lz nb zl zh zs fe qmade
section
variable {x y : Mx} {n k p K M : Nat}
theorem sqM {a b c : Nat} (h1 : a ≤ 12) (h2 : b ≤ 12) : a * b ≤ 144 := Nat.mul_le_mul h1 h2
theorem mul9 {a b c d : Nat} (h1 : a ≤ c) (h2 : b ≤ d) (h3 : c * d ≤ 9000000) : a * b ≤ 9000000 := Nat.le_trans (Nat.mul_le_mul h1 h2) h3
theorem MTurnG (hx : GM x n k K) (hn : n ≤ 12) (hk : k ≤ 12) (u : Value) (w : World) (hu : MT w u x) :
  Calls Tryz.prog 41 #[u] w fun e w' => ∃ pv, e = .returned (.tuple #[pv, .int .i64 0]) ∧ MT w' pv (turM n k x) ∧ Below w.heap.size w w' := by
 have ox := hx.ok (by omega) (by omega)
 obtain ⟨rfl, rfl, -, -⟩ := hx
 obtain ⟨u1, rfl, hu⟩ := hu
 refine (mTurnV x ox (by have := sqM (c := 0) hn hk; omega) u1 w hu).mono ?_
 rintro e w' ⟨t, rfl, h1, hb⟩
 exact ⟨_, rfl, ⟨t, rfl, h1.cq⟩, hb⟩
end
end Go.Proofs.YthffglapmkkohaaGreatDoor
namespace Go.Proofs.YthffglapmkkohaaGreatDoor
open Go.RowKit
/-- The size of the rows that are left, behind p pivots. -/
def kdE (K : Nat) : Nat → Nat
 | 0 => K
 | p + 1 => 4 * kdE K p + 1
theorem kd_up (K : Nat) : ∀ p d, kdE K p ≤ kdE K (p + d)
 | p, 0 => Nat.le_refl _
 | p, d + 1 => Nat.le_trans (kd_up K p d) (by show _ ≤ 4 * kdE K (p + d) + 1; omega)
theorem kd_mono (K : Nat) {p q : Nat} (h : p ≤ q) : kdE K p ≤ kdE K q := by
 obtain ⟨d, rfl⟩ := Nat.le.dest h
 exact kd_up K p d
/-- .. while m rows have been used upwards. -/
def ueE (S : Nat) : Nat → Nat
 | 0 => S
 | m + 1 => 3 * ueE S m + 1
theorem ue_up (S : Nat) : ∀ p d, ueE S p ≤ ueE S (p + d)
 | p, 0 => Nat.le_refl _
 | p, d + 1 => Nat.le_trans (ue_up S p d) (by show _ ≤ 3 * ueE S (p + d) + 1; omega)
theorem ue_mono (S : Nat) {p q : Nat} (h : p ≤ q) : ueE S p ≤ ueE S q := by
 obtain ⟨d, rfl⟩ := Nat.le.dest h
 exact ue_up S p d
theorem ue_mono2 {S T : Nat} (h : S ≤ T) : ∀ m, ueE S m ≤ ueE T m
 | 0 => h
 | m + 1 => by show 3 * ueE S m + 1 ≤ 3 * ueE T m + 1; have := ue_mono2 h m; omega
structure SzI (R n K : Nat) (s : ES) : Prop where
 lo : ∀ i, s.pv.length ≤ i → i < R → ∀ j, j < n → Sz (s.G i j) (kdE K s.pv.length)
 up : ∀ i, i < s.pv.length → i < R → ∀ j, j < n → Sz (s.G i j) (2 * kdE K (s.pv.length - 1))
 f : Sz s.f (kdE K s.pv.length + 1)
theorem SzI.step {R n K k : Nat} {s : ES} (h : SzI R n K s) (hk : k < n) : SzI R n K (stepE R k s) := by
 unfold stepE
 cases e : fnd s.G k s.pv.length (R - s.pv.length) with
 | none => exact h
 | some i =>
  obtain ⟨h1, h2, h3, -⟩ := fnd_some e
  obtain ⟨t, ht⟩ : ∃ t, t = s.pv.length := ⟨_, rfl⟩
  rw [← ht] at h1 h2
  have hlo := h.lo
  have hup := h.up
  have hf := h.f
  rw [← ht] at hlo hup hf
  obtain ⟨a, ha⟩ : ∃ a, a = kdE K t := ⟨_, rfl⟩
  rw [← ha] at hlo hf
  have hiR : i < R := by omega
  have htR : t < R := by omega
  -- the swapped rows
  have hS : ∀ r, t ≤ r → r < R → ∀ j, j < n → Sz (swpG s.G i t r j) a := fun r r1 r2 j hj => by
   unfold swpG
   split
   ·exact hlo t (Nat.le_refl _) htR j hj
   ·split
    ·exact hlo i h1 hiR j hj
    ·exact hlo r r1 r2 j hj
  have hne : swpG s.G i t t k ≠ 0 := by
   unfold swpG
   split
   ·rename_i e1
    rw [e1]; exact h3
   ·rw [if_pos rfl]; exact h3
  have hl : (s.pv ++ [k]).length = t + 1 := by rw [List.length_append, ← ht]; rfl
  refine ⟨fun r r1 r2 j hj => ?_, fun r r1 r2 j hj => ?_, ?_⟩
  ·simp only [← ht]
   rw [hl] at r1 ⊢
   show Sz _ (4 * kdE K t + 1)
   rw [← ha]
   have hrt : r ≠ t := by omega
   unfold clrG
   have hD : ∀ j, divG (swpG s.G i t) t k r j = swpG s.G i t r j := fun j => by unfold divG; rw [if_neg (fun h => hrt h.1)]
   rw [hD, hD]
   split
   ·rename_i hc
    unfold divG
    rw [if_pos ⟨rfl, hc.2.2⟩]
    exact ((hS r (by omega) r2 j hj).sub ((hS r (by omega) r2 k hk).mul ((hS t (Nat.le_refl _) htR j hj).div (hS t (Nat.le_refl _) htR k hk) hne))).mono (by omega)
   ·exact (hS r (by omega) r2 j hj).mono (by omega)
  ·simp only [← ht]
   rw [hl] at r1 ⊢
   rw [Nat.add_sub_cancel, ← ha]
   unfold clrG
   rw [if_neg (fun h => by omega)]
   by_cases hrt : r = t
   ·subst hrt
    unfold divG
    split
    ·exact ((hS r (Nat.le_refl _) r2 j hj).div (hS r (Nat.le_refl _) r2 k hk) hne).mono (by omega)
    ·exact (hS r (Nat.le_refl _) r2 j hj).mono (by omega)
   ·unfold divG
    rw [if_neg (fun h => hrt h.1)]
    unfold swpG
    rw [if_neg (by omega), if_neg (by omega)]
    have := kd_mono K (show t - 1 ≤ t by omega)
    exact (hup r (by omega) r2 j hj).mono (by omega)
  ·simp only [← ht]
   rw [hl]
   show Sz _ (4 * kdE K t + 1 + 1)
   rw [← ha]
   have hg := hS t (Nat.le_refl _) htR k hk
   split
   ·exact (hf.mul hg).mono (by omega)
   ·exact (hf.neg.mul hg).mono (by omega)
theorem SzI.desc {R n K : Nat} {G : Gd} (h : ∀ i, i < R → ∀ j, j < n → Sz (G i j) K) (hK : 1 ≤ K) : ∀ k, k ≤ n → SzI R n K (descE R ⟨G, [], 1⟩ k)
 | 0, _ => ⟨fun i _ hi j hj => h i hi j hj, fun i hi => absurd hi (Nat.not_lt_zero _), (szc 1 (by decide) (by decide)).mono (by show 1 ≤ K + 1; omega)⟩
 | k + 1, hk => (SzI.desc h hK k (by omega)).step (by omega)
theorem asc_rows {R n S : Nat} {pv : List Nat} {G : Gd} (hp : pv.length ≤ R) (h : ∀ i, i < pv.length → ∀ j, j < n → Sz (G i j) S) (hk : ∀ r (h : r < pv.length), pv[r] < n) : ∀ m, m ≤ pv.length →
  (∀ i, i < pv.length → ∀ j, j < n → Sz (ascE pv G m i j) (ueE S (min m (pv.length - 1)))) ∧ ∀ i, pv.length ≤ i → ascE pv G m i = G i := by
 intro m
 induction m with
 | zero => intro _; exact ⟨fun i hi j hj => by rw [Nat.zero_min]; exact h i hi j hj, fun i _ => rfl⟩
 | succ m ih =>
  intro hm
  obtain ⟨h1, h2⟩ := ih (by omega)
  obtain ⟨q, hq⟩ : ∃ q, q = pv.length - 1 - m := ⟨_, rfl⟩
  have hqp : q < pv.length := by omega
  have hkn : pv.getD q 0 < n := by
   rw [List.getD_eq_getElem?_getD, List.getElem?_eq_getElem hqp]
   exact hk q hqp
  refine ⟨fun i hi j hj => ?_, fun i hi => ?_⟩
  ·show Sz (clrU (ascE pv G m) (pv.length - 1 - m) (pv.getD (pv.length - 1 - m) 0) i j) _
   rw [← hq]
   unfold clrU
   split
   ·rename_i hc
    rw [show min (m + 1) (pv.length - 1) = m + 1 by omega]
    have e : min m (pv.length - 1) = m := by omega
    rw [e] at h1
    exact ((h1 i hi j hj).sub ((h1 i hi _ hkn).mul (h1 q hqp j hj))).mono (by show _ ≤ 3 * ueE S m + 1; omega)
   ·exact (h1 i hi j hj).mono (ue_mono S (by omega))
  ·show clrU (ascE pv G m) (pv.length - 1 - m) (pv.getD (pv.length - 1 - m) 0) i = G i
   rw [← hq, ← h2 i hi]
   funext j
   unfold clrU
   rw [if_neg (fun h => by omega)]
/-- At most P pivots: the sizes of a reduction. -/
theorem esz_gen {R n c K P B : Nat} {G : Gd} (h : ∀ i, i < R → ∀ j, j < n → Sz (G i j) K) (hK : 1 ≤ K) (hp : R ≤ P ∨ c ≤ P) (b1 : kdE K P + 1 ≤ B) (b2 : 2 * kdE K (P - 1) ≤ B) (b3 : ueE (2 * kdE K (P - 1)) (P - 1) ≤ B) (hB : B ≤ 1000000) (hn : n ≤ 5000) (hR : R ≤ 5000) (hc : c ≤ n) : ESz R n c B G := by
 have hlen : ∀ k, k ≤ c → (descE R ⟨G, [], 1⟩ k).pv.length ≤ P := fun k hk => by
  rcases hp with h6 | h6
  ·have := (desc_ok (R := R) G 1 k).1.le; omega
  ·have := (red_ok R k G).1.len_le
   unfold redE at this
   have h9 : (descE R ⟨G, [], 1⟩ k).pv.length ≤ k := this
   omega
 have hI := fun k (hk : k ≤ c) => SzI.desc h hK k (Nat.le_trans hk hc)
 refine ⟨fun k hk => ?_, fun m hm i hi j hj => ?_, hB, hn, hR, hc⟩
 ·obtain ⟨lo, up, f⟩ := hI k hk
  have hl := hlen k hk
  have m1 := kd_mono K hl
  have m2 := kd_mono K (show (descE R ⟨G, [], 1⟩ k).pv.length - 1 ≤ P - 1 by omega)
  refine ⟨f.mono (by omega), fun i hi j hj => ?_⟩
  rcases Nat.lt_or_ge i (descE R ⟨G, [], 1⟩ k).pv.length with g | g
  ·exact (up i g hi j hj).mono (by omega)
  ·exact (lo i g hi j hj).mono (by omega)
 ·obtain ⟨lo, up, f⟩ := hI c (Nat.le_refl _)
  have hl := hlen c (Nat.le_refl _)
  have m1 := kd_mono K hl
  have m2 := kd_mono K (show (descE R ⟨G, [], 1⟩ c).pv.length - 1 ≤ P - 1 by omega)
  have hO := (desc_ok (R := R) G 1 c).1
  obtain ⟨a1, a2⟩ := asc_rows (R := R) (n := n) hO.le (fun i hi j hj => up i hi (by have := hO.le; omega) j hj) (fun r hr => by have := hO.lt r hr; omega) m hm
  rcases Nat.lt_or_ge i (descE R ⟨G, [], 1⟩ c).pv.length with g | g
  ·have u1 := ue_mono2 (show 2 * kdE K ((descE R ⟨G, [], 1⟩ c).pv.length - 1) ≤ 2 * kdE K (P - 1) by omega) (min m ((descE R ⟨G, [], 1⟩ c).pv.length - 1))
   have u2 := ue_mono (2 * kdE K (P - 1)) (show min m ((descE R ⟨G, [], 1⟩ c).pv.length - 1) ≤ P - 1 by omega)
   exact (a1 i g j hj).mono (by omega)
  ·rw [a2 i g]
   exact (lo i g hi j hj).mono (by omega)
/-- .. of words, at most six pivots; of products of matrices of five rows, at most five. -/
theorem esz_six {R n c : Nat} {G : Gd} (h : ∀ i, i < R → ∀ j, j < n → Sz (G i j) 1) (hp : R ≤ 6 ∨ c ≤ 6) (hn : n ≤ 5000) (hR : R ≤ 5000) (hc : c ≤ n) : ESz R n c 663511 G :=
 esz_gen h (Nat.le_refl 1) hp (by decide) (by decide) (by decide) (by omega) hn hR hc
end Go.Proofs.YthffglapmkkohaaGreatDoor
namespace Go.Proofs.YthffglapmkkohaaGreatDoor
open Go.RowKit
theorem Red.nodup {R c : Nat} {pv : List Nat} {G : Gd} (h : Red R c pv G) : pv.Nodup := by
 unfold List.Nodup
 rw [List.pairwise_iff_getElem]
 intro i j hi hj hij e
 have := h.inj hi hj e
 omega
theorem free_len {pv : List Nat} {c : Nat} (hn : pv.Nodup) (hl : ∀ x, x ∈ pv → x < c) : (freeL pv c).length + pv.length = c := by
 have hp : ((List.range c).filter fun k => decide (k ∈ pv)).Perm pv := (List.perm_ext_iff_of_nodup (List.nodup_range.filter _) hn).2 fun a => by
  simp only [List.mem_filter, List.mem_range, decide_eq_true_eq]
  exact ⟨fun h => h.2, fun h => ⟨hl a h, h⟩⟩
 have h1 := hp.length_eq
 have h2 : ∀ n, ((List.range n).filter fun k => decide (k ∉ pv)).length + ((List.range n).filter fun k => decide (k ∈ pv)).length = n := by
  intro n
  induction n with
  | zero => rfl
  | succ n ih =>
   rw [List.range_succ, List.filter_append, List.filter_append, List.length_append, List.length_append]
   by_cases h : n ∈ pv
   ·simp [h] at ih ⊢; omega
   ·simp [h] at ih ⊢; omega
 have h3 := h2 c
 unfold freeL
 omega
end Go.Proofs.YthffglapmkkohaaGreatDoor
namespace Go.Proofs.YthffglapmkkohaaGreatDoor
open Go.RowKit
attribute [local irreducible] lo hs sm s64 c64 d64 b64 mh ml pd pc qd qc val hiB str cmpI srD lz nb zl zh zs fe
def mW (r c : Nat) (zs : List Int) : Mx := ⟨r, c, oW zs⟩
/-- The text of a row, without brackets. -/
def jrow (l : List Rat) : List UInt8 := Lib.join ((l.map qtxt).map (·.data.toList)) [32]
def srow (x : Mx) (i : Nat) : ByteArray := ⟨([91] ++ jrow (rowL x i) ++ [93]).toArray⟩
def jmat (x : Mx) (n : Nat) : List UInt8 := Lib.join (((List.range n).map (srow x)).map (·.data.toList)) [32]
theorem gmW {x : Mx} {n k : Nat} (hr : x.r = n) (hc : x.c = k) (hl : x.l.length = n * k) (hs : x.l.all (fun q => decide (q.num.natAbs < 18446744073709551616 ∧ q.den < 18446744073709551616)) = true) : GM x n k 1 := ⟨hr, hc, hl, szl hs⟩
theorem mtext_at (x : Mx) (n k : Nat) (t : ByteArray) (hx : GM x n k 1) (hn : n ≤ 12) (hk : k ≤ 12) (hl : (List.range n).all (fun i => decide ((jrow (rowL x i)).length ≤ 100)) = true) (hJ : (⟨(jmat x n).toArray⟩ : ByteArray) = t) (hl2 : (jmat x n).length ≤ 1000000) (u : Value) (w : World) (hT : Tab w) (hu : MT w u x) :
  Calls Tryz.prog 83 #[u] w fun e w' => e = .returned (.string t) ∧ Below w.heap.size w w' := by
 rw [← hJ]
 have ox := hx.ok (by omega) (by omega)
 have hs := hx.sz
 have hlen := hx.len
 obtain ⟨rfl, rfl, -, -⟩ := hx
 obtain ⟨u1, rfl, hu⟩ := hu
 refine mTextV x (srow x) (jmat x x.r) ox (fun i hi v w ht hv => ?_) rfl hl2 u1 w hT hu
 have h9 := of_decide_eq_true (List.all_eq_true.1 hl i (List.mem_range.2 hi))
 exact rtextV (rowL x i) x.c 1 (jrow (rowL x i)) (row_len x i) (by omega) (by omega) (fun q hq => by
  obtain ⟨k, hk, rfl⟩ := tab_mem hq
  exact hs _ (gv_mem (by rw [hlen]; exact ix_lt hi hk))) rfl (by omega) v w ht hv
theorem mof_at (r c : Nat) (zs : List Int) (hm : zs.length ≤ 100000) (hz : ∀ z ∈ zs, -9223372036854775808 ≤ z ∧ z < 9223372036854775808) (hr : r ≤ 2048) (hc : c ≤ 2048) (hl : zs.length = r * c) (s : Value) (w : World) (hs : ILs w s zs) :
  Calls Tryz.prog 81 #[.int .i64 (r : Int), .int .i64 (c : Int), s] w fun e w' => ∃ pv, e = .returned (.tuple #[pv, .int .i64 0]) ∧ MT w' pv (mW r c zs) ∧ Below w.heap.size w w' := by
 refine (mOf_ok r c zs hm hz hr hc hl s w hs).mono ?_
 rintro e w' ⟨t, rfl, h1, hb⟩
 exact ⟨_, rfl, ⟨t, rfl, h1.cq⟩, hb⟩
end Go.Proofs.YthffglapmkkohaaGreatDoor
namespace Go.Proofs.YthffglapmkkohaaGreatDoor
open Go.RowKit
attribute [local irreducible] lo hs sm s64 c64 d64 b64 mh ml pd pc qd qc val hiB str cmpI srD lz nb zl zh zs fe rowV tabV gv bsV tabM
/-- A solution with a kernel of one vector. -/
def SOk (sx k1 : List Rat) (v : Value) (w : World) : Prop := ∃ a b, v = .tuple #[.agg #[a, b], .int .i64 0] ∧ SlQ w a sx ∧ VLs w b [k1]
theorem stays_sok (sx k1 : List Rat) : Stays (SOk sx k1) := fun v w w' hb ⟨a, b, h1, h2, h3⟩ => ⟨a, b, h1, h2.below hb, h3.below hb⟩
def PT9 (l : List Rat) (v : Value) (w : World) : Prop := SlQ w v l
theorem stays_pt9 (l : List Rat) : Stays (PT9 l) := fun v w w' hb h => SlQ.below h hb
def SO5 (sx k1 : List Rat) (v : Value) (w : World) : Prop := ∃ a b, v = .agg #[a, b] ∧ SlQ w a sx ∧ VLs w b [k1]
theorem stays_so5 (sx k1 : List Rat) : Stays (SO5 sx k1) := fun v w w' hb ⟨a, b, h1, h2, h3⟩ => ⟨a, b, h1, h2.below hb, h3.below hb⟩
theorem new_sol (w : World) : (Instr.alloc 90 true (.tuple #[])).run Tryz.prog w = .ok (.pointer (some ⟨w.heap.size, 0, none⟩)) (w.alloc (.cells #[.slice none 0 0, .slice none 0 0] 90)) := by
 simp [go_sem]
theorem slq_put {W W' : World} {v : Value} {l : List Rat} {k : Nat} {cs : List Value} (h : SlQ W v l) (hu : Upd k W W') (hd : Hd W k (.slice none 0 0 :: cs)) : SlQ W' v l :=
 (PTs.putM (S := [(v, l)]) (fun p hp => by obtain rfl := List.mem_singleton.1 hp; exact h) hu hd (by intro n; simp)) (v, l) (List.mem_singleton.2 rfl)
theorem vls_put {W W' : World} {v : Value} {x : List Rat} {k : Nat} {cs : List Value} (h : VLs W v [x]) (hx : x ≠ []) (hu : Upd k W W') (hd : Hd W k (.slice none 0 0 :: cs)) : VLs W' v [x] := by
 obtain ⟨ao, c, g, rfl, h1, h2⟩ := h
 obtain ⟨u, h3, h4⟩ := h2 0 (by simp)
 obtain ⟨e1, h5⟩ := h1 (by simp)
 have hne : g ≠ k := fun e => by
  subst e
  rw [hd.cell 0 (by simp)] at h3
  have h6 : (.slice none 0 0 : Value) = u := by simpa using h3
  rcases h4 with ⟨_, _, _, h⟩ | ⟨g2, c2, h, _⟩
  ·exact hx h
  ·rw [h] at h6; simp at h6
 refine ⟨ao, c, g, rfl, fun _ => ⟨e1, by rw [hu.size]; exact h5⟩, fun i hi => ?_⟩
 obtain rfl : i = 0 := by simpa using hi
 exact ⟨u, (World.cell?_of_block (a := ⟨g, 0, none⟩) (hu.block g hne)).trans h3, slq_put h4 hu hd⟩
theorem vls_head {W : World} {v : Value} {x : List Rat} (h : VLs W v [x]) : ∃ g c u, v = .slice (some ⟨g, 0, none⟩) 1 c ∧ W.cell? ⟨g, 0, none⟩ = some u ∧ SlQ W u x := by
 obtain ⟨ao, c, g, rfl, h1, h2⟩ := h
 obtain ⟨u, h3, h4⟩ := h2 0 (by simp)
 obtain ⟨rfl, h5⟩ := h1 (by simp)
 exact ⟨g, c, u, rfl, h3, h4⟩
/-- A certificate of two elements. -/
def AOk (v : Value) : Prop := ∃ g, v = .tuple #[.slice (some ⟨g, 0, none⟩) 2 2, .int .i64 0]
def AOw (v : Value) (w : World) : Prop := AOk v
theorem stays_aow : Stays AOw := fun v w w' hb h => h
def AO5 (v : Value) (w : World) : Prop := ∃ g, v = .slice (some ⟨g, 0, none⟩) 2 2
theorem stays_ao5 : Stays AO5 := fun v w w' hb h => h
theorem eworks_w (m1 mr m2 m3 mi : Mx) (k1 vb sx : List Rat) (dt o1 : Rat)
  (HO1 : ∀ (p : Value) (w : World), ILs w p [1, 2, 3, 2, 4, 7] → Calls Tryz.prog 81 #[.int .i64 2, .int .i64 3, p] w fun e w' => (∃ pv, e = .returned (.tuple #[pv, .int .i64 0]) ∧ MT w' pv m1) ∧ Below w.heap.size w w')
  (HR1 : ∀ (u : Value) (w : World), MT w u m1 → Calls Tryz.prog 45 #[u] w fun e w' => (∃ pv s, e = .returned (.tuple #[pv, s, .int .i64 0]) ∧ MT w' pv mr ∧ ILs w' s [0, 2]) ∧ Below w.heap.size w w')
  (HK1 : ∀ (u : Value) (w : World), MT w u m1 → Calls Tryz.prog 44 #[u] w fun e w' => (∃ s, e = .returned (.tuple #[s, .int .i64 0]) ∧ VLs w' s [k1]) ∧ Below w.heap.size w w')
  (HVo : ∀ (p : Value) (w : World), ILs w p [1, 3] → Calls Tryz.prog 58 #[p] w fun e w' => (∃ u, e = .returned u ∧ SlQ w' u vb) ∧ Below w.heap.size w w')
  (HS1 : ∀ (u s : Value) (w : World), MT w u m1 → SlQ w s vb → Calls Tryz.prog 50 #[u, s] w fun e w' => (∃ v, e = .returned v ∧ SOk sx k1 v w') ∧ Below w.heap.size w w')
  (HTm : ∀ (u : Value) (w : World), Tab w → MT w u mr → Calls Tryz.prog 83 #[u] w fun e w' => e = .returned (.string (ByteArray.mk #[91, 49, 32, 50, 32, 48, 93, 32, 91, 48, 32, 48, 32, 49, 93])) ∧ Below w.heap.size w w')
  (HSm : ∀ (a b : Value) (w : World), ILs w a [0, 2] → ILs w b [0, 2] → Calls Tryz.prog 55 #[a, b] w fun e w' => e = .returned (.bool true) ∧ Below w.heap.size w w')
  (HTk : ∀ (u : Value) (w : World), Tab w → SlQ w u k1 → Calls Tryz.prog 60 #[u] w fun e w' => e = .returned (.string (ByteArray.mk #[91, 45, 50, 32, 49, 32, 48, 93])) ∧ Below w.heap.size w w')
  (HTs : ∀ (u : Value) (w : World), Tab w → SlQ w u sx → Calls Tryz.prog 60 #[u] w fun e w' => e = .returned (.string (ByteArray.mk #[91, 45, 50, 32, 48, 32, 49, 93])) ∧ Below w.heap.size w w')
  (HO2 : ∀ (p : Value) (w : World), ILs w p [1, 2, 2, 4] → Calls Tryz.prog 81 #[.int .i64 2, .int .i64 2, p] w fun e w' => (∃ pv, e = .returned (.tuple #[pv, .int .i64 0]) ∧ MT w' pv m2) ∧ Below w.heap.size w w')
  (HS2 : ∀ (u s : Value) (w : World), MT w u m2 → SlQ w s vb → Calls Tryz.prog 50 #[u, s] w fun e w' => e = .returned (.tuple #[.agg #[.slice none 0 0, .slice none 0 0], .int .i64 6]) ∧ Below w.heap.size w w')
  (HA2 : ∀ (u s : Value) (w : World), MT w u m2 → SlQ w s vb → Calls Tryz.prog 51 #[u, s] w fun e w' => (∃ v, e = .returned v ∧ AOk v) ∧ Below w.heap.size w w')
  (HO3 : ∀ (p : Value) (w : World), ILs w p [1, 2, 3, 4] → Calls Tryz.prog 81 #[.int .i64 2, .int .i64 2, p] w fun e w' => (∃ pv, e = .returned (.tuple #[pv, .int .i64 0]) ∧ MT w' pv m3) ∧ Below w.heap.size w w')
  (HD3 : ∀ (u : Value) (w : World), MT w u m3 → Calls Tryz.prog 101 #[u] w fun e w' => e = .returned (.tuple #[.agg #[.int .u64 ((zl dt.num : Nat) : Int), .string (zh dt.num), .bool (zs dt.num), .int .u64 ((lo (fe dt) : Nat) : Int), .string (hs (fe dt))], .int .i64 0]) ∧ Below w.heap.size w w')
  (HI3 : ∀ (u : Value) (w : World), MT w u m3 → Calls Tryz.prog 102 #[u] w fun e w' => (∃ pv, e = .returned (.tuple #[pv, .int .i64 0]) ∧ MT w' pv mi) ∧ Below w.heap.size w w')
  (HM3 : ∀ (u : Value) (w : World), MT w u m3 → Calls Tryz.prog 103 #[u, .int .i64 1] w fun e w' => e = .returned (.tuple #[.agg #[.int .u64 ((zl o1.num : Nat) : Int), .string (zh o1.num), .bool (zs o1.num), .int .u64 ((lo (fe o1) : Nat) : Int), .string (hs (fe o1))], .int .i64 0]) ∧ Below w.heap.size w w')
  (HN2 : ∀ w, Calls Tryz.prog 12 #[.int .i64 (-2)] w fun e w' => e = .returned (.agg #[.int .u64 ((zl dt.num : Nat) : Int), .string (zh dt.num), .bool (zs dt.num), .int .u64 ((lo (fe dt) : Nat) : Int), .string (hs (fe dt))]) ∧ Below w.heap.size w w')
  (HN1 : ∀ w, Calls Tryz.prog 12 #[.int .i64 1] w fun e w' => e = .returned (.agg #[.int .u64 ((zl o1.num : Nat) : Int), .string (zh o1.num), .bool (zs o1.num), .int .u64 ((lo (fe o1) : Nat) : Int), .string (hs (fe o1))]) ∧ Below w.heap.size w w')
  (HTi : ∀ (u : Value) (w : World), Tab w → MT w u mi → Calls Tryz.prog 83 #[u] w fun e w' => e = .returned (.string (ByteArray.mk #[91, 45, 50, 32, 49, 93, 32, 91, 51, 47, 50, 32, 45, 49, 47, 50, 93])) ∧ Below w.heap.size w w')
  (hm1r : (m1.r : Int) = 2) (hm1c : (m1.c : Int) = 3)
  (hmrr : (mr.r : Int) = 2) (hmrc : (mr.c : Int) = 3)
  (hm2r : (m2.r : Int) = 2) (hm2c : (m2.c : Int) = 2)
  (hm3r : (m3.r : Int) = 2) (hm3c : (m3.c : Int) = 2)
  (hmir : (mi.r : Int) = 2) (hmic : (mi.c : Int) = 2)
  (hk9 : k1 ≠ []) (w : World) (ht : Tab w) : Calls Tryz.prog 39 #[] w fun e w' => e = .returned (.bool true) ∧ Below w.heap.size w w' := by
 replace HO1 := Lib.hid HO1
 replace HR1 := Lib.hid HR1
 replace HK1 := Lib.hid HK1
 replace HVo := Lib.hid HVo
 replace HS1 := Lib.hid HS1
 replace HTm := Lib.hid HTm
 replace HSm := Lib.hid HSm
 replace HTk := Lib.hid HTk
 replace HTs := Lib.hid HTs
 replace HO2 := Lib.hid HO2
 replace HS2 := Lib.hid HS2
 replace HA2 := Lib.hid HA2
 replace HO3 := Lib.hid HO3
 replace HD3 := Lib.hid HD3
 replace HI3 := Lib.hid HI3
 replace HM3 := Lib.hid HM3
 replace HN2 := Lib.hid HN2
 replace HN1 := Lib.hid HN1
 replace HTi := Lib.hid HTi
 replace hm1r := Lib.hid hm1r
 replace hm1c := Lib.hid hm1c
 replace hmrr := Lib.hid hmrr
 replace hmrc := Lib.hid hmrc
 replace hm2r := Lib.hid hm2r
 replace hm2c := Lib.hid hm2c
 replace hm3r := Lib.hid hm3r
 replace hm3c := Lib.hid hm3c
 replace hmir := Lib.hid hmir
 replace hmic := Lib.hid hmic
 replace hk9 := Lib.hid hk9
 have hL0 : GL w w [] := GL.start w
 obtain ⟨x1, hweq, hL0⟩ := GL.named (hL0.new rfl [.int .i64 1, .int .i64 2, .int .i64 3, .int .i64 2, .int .i64 4, .int .i64 7] 2)
 have hb3 : Below w.heap.size w x1 := by rw [← hweq]; exact (Below.refl _ _).alloc (Nat.le_refl _) _
 replace ht := ht.below hb3
 clear hb3
 have hA := hL0.fc
 simp only [zF, Nat.reduceAdd] at hA
 go_enter Tryz.func39, Tryz.ntmps39
 have il : ILs x1 (.slice (some ⟨w.heap.size, 0, none⟩) 6 6) [1, 2, 3, 2, 4, 7] := ils_at (hL0.get _ _ mZ) rfl rfl
 go_wp2_with fail
 refine Calls.mono (HO1.out _ _ il) ?_
 rintro e x2 ⟨⟨pv, rfl, hm⟩, hb⟩
 replace hL0 := hL0.call hb
 replace ht := ht.below hb
 clear hb hA hweq il HO1
 obtain ⟨a1, n1, c1, rfl, f1, hc1⟩ := mt_form hm hm1r.out hm1c.out
 replace hc1 := Lib.hid hc1
 obtain ⟨x3, hweq, hL0⟩ := GL.named (hL0.new rfl [.int .i64 0, .int .i64 0, .slice none 0 0] 56)
 have hb3 : Below x2.heap.size x2 x3 := by rw [← hweq]; exact (Below.refl _ _).alloc (Nat.le_refl _) _
 have hP := hL0.put 0 x2.heap.size _ rfl [.int .i64 2, .int .i64 3, .slice a1 n1 c1] rfl
 obtain ⟨x4, hy⟩ : ∃ q, setAll x3 x2.heap.size 0 [.int .i64 2, .int .i64 3, .slice a1 n1 c1] = q := ⟨_, rfl⟩
 have hb4 : Below x2.heap.size x2 x4 := hb3.trans (by rw [← hy]; exact (setAll_upd _ _ _ _).below (Nat.le_refl _))
 rw [hy] at hP
 simp only [setAll, Nat.zero_add, Nat.reduceAdd] at hy
 simp only [List.set_cons_zero] at hP
 have hA := hL0.fc
 simp only [zF, Nat.reduceAdd] at hA
 have hB := hP.fc
 simp only [zF, Nat.reduceAdd] at hB
 replace ht := ht.below hb4
 replace f1 := f1.below hb4
 clear hb3 hb4
 replace hL0 := hP
 clear hP
 go_wp2_with fail
 refine Calls.mono (HR1.out _ _ (mt_of f1 hc1.out hm1r.out hm1c.out)) ?_
 rintro e x5 ⟨⟨pv, sp, rfl, hm, hs9⟩, hb⟩
 replace hL0 := hL0.call hb
 replace ht := ht.below hb
 replace f1 := f1.below hb
 clear hb hA hB hweq hy HR1
 obtain ⟨a2, n2, c2, rfl, f2, hc2⟩ := mt_form hm hmrr.out hmrc.out
 replace hc2 := Lib.hid hc2
 obtain ⟨a3, n3, c3, rfl⟩ := ils_form hs9
 obtain ⟨x6, hweq, hL0⟩ := GL.named (hL0.new rfl [.int .i64 0, .int .i64 0, .slice none 0 0] 56)
 have hb3 : Below x5.heap.size x5 x6 := by rw [← hweq]; exact (Below.refl _ _).alloc (Nat.le_refl _) _
 have hP := hL0.put 0 x5.heap.size _ rfl [.int .i64 2, .int .i64 3, .slice a2 n2 c2] rfl
 obtain ⟨x7, hy⟩ : ∃ q, setAll x6 x5.heap.size 0 [.int .i64 2, .int .i64 3, .slice a2 n2 c2] = q := ⟨_, rfl⟩
 have hb4 : Below x5.heap.size x5 x7 := hb3.trans (by rw [← hy]; exact (setAll_upd _ _ _ _).below (Nat.le_refl _))
 rw [hy] at hP
 simp only [setAll, Nat.zero_add, Nat.reduceAdd] at hy
 simp only [List.set_cons_zero] at hP
 have hA := hL0.fc
 simp only [zF, Nat.reduceAdd] at hA
 have hB := hP.fc
 simp only [zF, Nat.reduceAdd] at hB
 replace ht := ht.below hb4
 replace f1 := f1.below hb4
 replace f2 := f2.below hb4
 replace hs9 := hs9.below hb4
 clear hb3 hb4
 replace hL0 := hP
 clear hP
 go_wp2_with fail
 refine Calls.mono (HK1.out _ _ (mt_of f1 hc1.out hm1r.out hm1c.out)) ?_
 rintro e x8 ⟨⟨sk, rfl, hk⟩, hb⟩
 replace hL0 := hL0.call hb
 replace ht := ht.below hb
 replace f1 := f1.below hb
 replace f2 := f2.below hb
 replace hs9 := hs9.below hb
 clear hb hA hB hweq hy HK1
 obtain ⟨a4, n4, c4, rfl⟩ := vls_form hk
 have hA := hL0.fc
 simp only [zF, Nat.reduceAdd] at hA
 go_upto_region 4 with fail
 clear hA
 refine region_tbl 8 6 [EV (.agg #[.int .i64 2, .int .i64 3, .slice a1 n1 c1]), PI [1, 3], PT9 vb, SOk sx k1, SOk sx k1, SO5 sx k1, EV (.int .i64 0), NewB x8.heap.size [.slice none 0 0, .slice none 0 0]] [7] (by kernel_rfl) (by kernel_rfl) ?_ ?_ ?_ ?_ ?_ (by kernel_rfl) ?_
 ·exact (stays_cons (stays_eq _) (stays_cons (stays_pi _) (stays_cons (stays_pt9 _) (stays_cons (stays_sok _ _) (stays_cons (stays_sok _ _) (stays_cons (stays_so5 _ _) (stays_cons (stays_eq _) (stays_cons (stays_new _ _) stays_nil))))))))
 ·simp only [List.take_succ_cons, List.take_zero, hopsR, and_true]
  refine ⟨?_, ?_, ?_, ?_, ?_, ?_, ?_, ?_⟩ <;> intro fv w1 hb1 hp
  all_goals (have hc := (hL0.call (below_drew hb1)).fc; simp only [zF, Nat.reduceAdd] at hc; simp only [putsV, Act.put, zP, Nat.zero_add, Nat.reduceAdd])
  ·refine tyAt_none rfl ?_
   simp [tyUpon, execOp, go_sem, Act.eval, hc, Below.refl]
  ·refine tyAt_none rfl ?_
   refine ty_val8 (u := .slice (some ⟨w1.heap.size, 0, none⟩) 2 2) (w' := w1.alloc (.cells #[.int .i64 1, .int .i64 3] 2)) (by simp [execOp, go_sem, Act.eval]) ((Below.refl _ _).alloc (Nat.le_refl _) _) (ils_at (hd_new w1 [.int .i64 1, .int .i64 3] _) rfl rfl)
  ·have h1 : PI [1, 3] (fv 1) w1 := hp 1 (LC (by kernel_rfl))
   refine tyAt_none rfl ?_
   refine ty_call (f := 58) (args := #[fv 1]) (by simp [execOp, go_sem, Act.eval]) ?_
   exact (HVo.out (fv 1) w1 h1).mono fun e w2 ⟨⟨u, h1, h2⟩, h3⟩ => ⟨_, h1, h2, h3⟩
  ·have h0 : EV (.agg #[.int .i64 2, .int .i64 3, .slice a1 n1 c1]) (fv 0) w1 := hp 0 (LC (by kernel_rfl))
   have h2 : PT9 vb (fv 2) w1 := hp 2 (LC (by kernel_rfl))
   refine tyAt_none rfl ?_
   refine ty_call (f := 50) (args := #[.agg #[.int .i64 2, .int .i64 3, .slice a1 n1 c1], fv 2]) (by simp [execOp, go_sem, Act.eval, h0]) ?_
   exact (HS1.out _ (fv 2) w1 (mt_of (f1.below (below_drew hb1)) hc1.out hm1r.out hm1c.out) h2).mono fun e w2 ⟨⟨v, h1, h2⟩, h3⟩ => ⟨_, h1, h2, h3⟩
  ·have h3 : SOk sx k1 (fv 3) w1 := hp 3 (LC (by kernel_rfl))
   refine tyAt_none rfl ?_
   obtain ⟨pa, pb, pe, pf, pg⟩ := h3
   have pz : SOk sx k1 (.tuple #[.agg #[pa, pb], .int .i64 0]) w1 := ⟨pa, pb, rfl, pf, pg⟩
   simp [tyUpon, execOp, go_sem, Act.eval, pe, pz, Below.refl]
  ·have h4 : SOk sx k1 (fv 4) w1 := hp 4 (LC (by kernel_rfl))
   refine tyAt_none rfl ?_
   obtain ⟨pa, pb, pe, pf, pg⟩ := h4
   have pz : SO5 sx k1 (.agg #[pa, pb]) w1 := ⟨pa, pb, rfl, pf, pg⟩
   simp [tyUpon, execOp, go_sem, Act.eval, pe, pz, Below.refl]
  ·have h4 : SOk sx k1 (fv 4) w1 := hp 4 (LC (by kernel_rfl))
   refine tyAt_none rfl ?_
   obtain ⟨pa, pb, pe, pf, pg⟩ := h4
   simp [tyUpon, execOp, go_sem, Act.eval, pe, Below.refl]
  ·exact tyAt_new rfl rfl new_sol (below_drew hb1).size
 ·intro j hj u w2 hT
  simp only [List.contains_iff_mem, List.mem_cons, List.not_mem_nil, or_false] at hj
  rcases hj with rfl <;> exact NewB.ptr hT
 ·exact ⟨⟨_, _, _, _, rfl, rfl, rfl, new_sol⟩, trivial⟩
 ·intro fv wl hb1 hv
  obtain ⟨sa, sb, e5, qa, qb⟩ : SO5 sx k1 (fv 5) wl := hv 5 (by omega) (by omega)
  obtain ⟨a5, c5, rfl⟩ := slq_form' qa
  obtain ⟨a6, n6, c6, rfl⟩ := vls_form qb
  obtain ⟨ta, tb, e4, -, -⟩ : SOk sx k1 (fv 4) wl := hv 4 (by omega) (by omega)
  obtain ⟨kb, e7, n9, m9⟩ : NewB x8.heap.size [.slice none 0 0, .slice none 0 0] (fv 7) wl := hv 7 (by omega) (by omega)
  have hx0 := hL0
  replace hL0 := hL0.call (below_drew hb1)
  replace hL0 := GL.tnew (M := []) hL0 hx0 n9 m9 (fun p hp => by cases hp)
  simp only [List.cons_append, List.nil_append] at hL0
  have hA := hL0.fc
  simp only [zF, Nat.reduceAdd] at hA
  have hP := hL0.put 0 kb _ rfl [.slice a5 sx.length c5, .slice a6 n6 c6] rfl
  simp only [setAll, List.set_cons_zero, List.set_cons_succ] at hP
  have hB1 := hP.fc
  simp only [zF, Nat.reduceAdd] at hB1
  refine ⟨((wl.setCell ⟨kb, 0, none⟩ (.slice a5 sx.length c5)).setCell ⟨kb, 1, none⟩ (.slice a6 n6 c6)), .int .i64 0, fun o ho => ?_, fun o ho => ?_, ?_⟩
  ·obtain rfl := Option.some.inj ho
   simp [execOp, go_sem, Act.eval, putsV, Act.put, List.take_succ_cons, List.take_zero, zP, Nat.zero_add, Nat.reduceAdd, hA, e4, e5, e7]
  ·obtain rfl := Option.some.inj ho
   simp [execOp, go_sem, Act.eval, putsV, Act.put, List.take_succ_cons, List.take_zero, zP, Nat.zero_add, Nat.reduceAdd, hB1, e4, e5, e7]
  ·rfl
 ·intro fv x9 hb1 hv hne
  obtain ⟨sa, sb, e5, hsa, hsb⟩ : SO5 sx k1 (fv 5) x9 := hv 5 (by omega)
  obtain ⟨ta, tb, e4, -, -⟩ : SOk sx k1 (fv 4) x9 := hv 4 (by omega)
  have e0 : fv 0 = _ := hv 0 (by omega)
  have e6 : fv 6 = _ := hv 6 (by omega)
  obtain ⟨kb, e7, n9, m9⟩ : NewB x8.heap.size [.slice none 0 0, .slice none 0 0] (fv 7) x9 := hv 7 (by omega)
  have hx0 := hL0
  replace hL0 := hL0.call (below_drew hb1)
  replace hL0 := GL.tnew (M := []) hL0 hx0 n9 m9 (fun p hp => by cases hp)
  simp only [List.cons_append, List.nil_append] at hL0
  simp only [List.take_succ_cons, List.take_zero, putsV, Act.put, zP, List.drop_succ_cons, List.drop_zero, Nat.zero_add, Nat.reduceAdd, e0, e4, e5, e6, e7]
  have hbd := below_drew hb1
  obtain ⟨a5, c5, rfl⟩ := slq_form' hsa
  obtain ⟨a6, n6, c6, rfl⟩ := vls_form hsb
  have hA := hL0.fc
  simp only [zF, Nat.reduceAdd] at hA
  have hP := hL0.put 0 kb _ rfl [.slice a5 sx.length c5, .slice a6 n6 c6] rfl
  obtain ⟨x11, hy⟩ : ∃ q, setAll x9 kb 0 [.slice a5 sx.length c5, .slice a6 n6 c6] = q := ⟨_, rfl⟩
  have hu9 := setAll_upd kb [.slice a5 sx.length c5, .slice a6 n6 c6] 0 x9
  rw [hy] at hu9
  replace hsa := slq_put hsa hu9 n9
  replace hsb := vls_put hsb hk9.out hu9 n9
  have hb4 : Below x8.heap.size x8 x11 := hbd.trans (by rw [← hy]; exact (setAll_upd _ _ _ _).below m9)
  rw [hy] at hP
  simp only [setAll, Nat.zero_add, Nat.reduceAdd] at hy
  simp only [List.set_cons_zero, List.set_cons_succ] at hP
  have hB := hP.fc
  simp only [zF, Nat.reduceAdd] at hB
  replace ht := ht.below hb4
  replace f1 := f1.below hb4
  replace f2 := f2.below hb4
  replace hs9 := hs9.below hb4
  replace hk := hk.below hb4
  clear hbd hb4 hb1 hv hne hx0 n9 m9 e0 e4 e5 e6 e7 hu9
  generalize fv 1 = q1
  generalize fv 2 = q2
  generalize fv 3 = q3
  clear fv
  replace hL0 := hP
  clear hP
  go_wp2_with fail
  refine Calls.mono (HTm.out _ _ ht (mt_of f2 hc2.out hmrr.out hmrc.out)) ?_
  rintro e x12 ⟨rfl, hb⟩
  replace hL0 := hL0.call hb
  replace ht := ht.below hb
  replace f1 := f1.below hb
  replace f2 := f2.below hb
  replace hs9 := hs9.below hb
  replace hk := hk.below hb
  replace hsa := hsa.below hb
  replace hsb := hsb.below hb
  clear hb hA hB hy HTm
  obtain ⟨x13, hweq, hL0⟩ := GL.named (hL0.new rfl [.int .i64 0, .int .i64 2] 3)
  have hb3 : Below x12.heap.size x12 x13 := by rw [← hweq]; exact (Below.refl _ _).alloc (Nat.le_refl _) _
  replace ht := ht.below hb3
  replace f1 := f1.below hb3
  replace f2 := f2.below hb3
  replace hs9 := hs9.below hb3
  replace hk := hk.below hb3
  replace hsa := hsa.below hb3
  replace hsb := hsb.below hb3
  clear hb3
  have il : ILs x13 (.slice (some ⟨x12.heap.size, 0, none⟩) 2 2) [0, 2] := ils_at (hL0.get _ _ mZ) rfl rfl
  go_wp2_with fail
  refine Calls.mono (HSm.out _ _ _ hs9 il) ?_
  rintro e x14 ⟨rfl, hb⟩
  replace hL0 := hL0.call hb
  replace ht := ht.below hb
  replace f1 := f1.below hb
  replace f2 := f2.below hb
  replace hs9 := hs9.below hb
  replace hk := hk.below hb
  replace hsa := hsa.below hb
  replace hsb := hsb.below hb
  clear hb hweq il HSm
  obtain ⟨g9, c9, u9, hk0, hu9c, hu9⟩ := vls_head hk
  obtain ⟨rfl, rfl, rfl⟩ : a4 = some ⟨g9, 0, none⟩ ∧ n4 = 1 ∧ c4 = c9 := by simpa using hk0
  obtain ⟨a7, c7, rfl⟩ := slq_form' hu9
  go_wp2_with fail
  refine Calls.mono (HTk.out _ _ ht hu9) ?_
  rintro e x15 ⟨rfl, hb⟩
  replace hL0 := hL0.call hb
  replace ht := ht.below hb
  replace f1 := f1.below hb
  replace f2 := f2.below hb
  replace hs9 := hs9.below hb
  replace hk := hk.below hb
  replace hsa := hsa.below hb
  replace hsb := hsb.below hb
  replace hu9 := hu9.below hb
  clear hb hu9c HTk
  have hA := hL0.fc
  simp only [zF, Nat.reduceAdd] at hA
  go_wp2_with fail
  refine Calls.mono (HTs.out _ _ ht hsa) ?_
  rintro e x16 ⟨rfl, hb⟩
  replace hL0 := hL0.call hb
  replace ht := ht.below hb
  replace f1 := f1.below hb
  replace f2 := f2.below hb
  replace hs9 := hs9.below hb
  replace hk := hk.below hb
  replace hsa := hsa.below hb
  replace hsb := hsb.below hb
  replace hu9 := hu9.below hb
  clear hb hA HTs
  obtain ⟨g8, c8, u8, hk0, -, -⟩ := vls_head hsb
  obtain ⟨rfl, rfl, rfl⟩ : a6 = some ⟨g8, 0, none⟩ ∧ n6 = 1 ∧ c6 = c8 := by simpa using hk0
  have hA := hL0.fc
  simp only [zF, Nat.reduceAdd] at hA
  clear hsa hsb hs9 hk hu9
  obtain ⟨x17, hweq, hL0⟩ := GL.named (hL0.new rfl [.int .i64 1, .int .i64 2, .int .i64 2, .int .i64 4] 2)
  have hb3 : Below x16.heap.size x16 x17 := by rw [← hweq]; exact (Below.refl _ _).alloc (Nat.le_refl _) _
  replace ht := ht.below hb3
  replace f1 := f1.below hb3
  replace f2 := f2.below hb3
  clear hb3
  have il : ILs x17 (.slice (some ⟨x16.heap.size, 0, none⟩) 4 4) [1, 2, 2, 4] := ils_at (hL0.get _ _ mZ) rfl rfl
  go_wp2_with fail
  refine Calls.mono (HO2.out _ _ il) ?_
  rintro e x18 ⟨⟨pv, rfl, hm⟩, hb⟩
  replace hL0 := hL0.call hb
  replace ht := ht.below hb
  replace f1 := f1.below hb
  replace f2 := f2.below hb
  clear hb hA hweq il HO2
  obtain ⟨a11, n11, c11, rfl, f11, hc11⟩ := mt_form hm hm2r.out hm2c.out
  replace hc11 := Lib.hid hc11
  obtain ⟨x19, hweq, hL0⟩ := GL.named (hL0.new rfl [.int .i64 0, .int .i64 0, .slice none 0 0] 56)
  have hb3 : Below x18.heap.size x18 x19 := by rw [← hweq]; exact (Below.refl _ _).alloc (Nat.le_refl _) _
  have hP := hL0.put 0 x18.heap.size _ rfl [.int .i64 2, .int .i64 2, .slice a11 n11 c11] rfl
  obtain ⟨x20, hy⟩ : ∃ q, setAll x19 x18.heap.size 0 [.int .i64 2, .int .i64 2, .slice a11 n11 c11] = q := ⟨_, rfl⟩
  have hb4 : Below x18.heap.size x18 x20 := hb3.trans (by rw [← hy]; exact (setAll_upd _ _ _ _).below (Nat.le_refl _))
  rw [hy] at hP
  simp only [setAll, Nat.zero_add, Nat.reduceAdd] at hy
  simp only [List.set_cons_zero] at hP
  have hA := hL0.fc
  simp only [zF, Nat.reduceAdd] at hA
  have hB := hP.fc
  simp only [zF, Nat.reduceAdd] at hB
  replace ht := ht.below hb4
  replace f1 := f1.below hb4
  replace f2 := f2.below hb4
  replace f11 := f11.below hb4
  clear hb3 hb4
  replace hL0 := hP
  clear hP
  go_upto_region 8 with fail
  clear hA hB hweq hy
  refine region_tbl 8 6 [EV (.agg #[.int .i64 2, .int .i64 2, .slice a11 n11 c11]), PI [1, 3], PT9 vb, EV (.tuple #[.agg #[.slice none 0 0, .slice none 0 0], .int .i64 6]), EV (.tuple #[.agg #[.slice none 0 0, .slice none 0 0], .int .i64 6]), EV (.agg #[.slice none 0 0, .slice none 0 0]), EV (.int .i64 6), NewB x20.heap.size [.slice none 0 0, .slice none 0 0]] [7] (by kernel_rfl) (by kernel_rfl) ?_ ?_ ?_ ?_ ?_ (by kernel_rfl) ?_
  ·exact (stays_cons (stays_eq _) (stays_cons (stays_pi _) (stays_cons (stays_pt9 _) (stays_cons (stays_eq _) (stays_cons (stays_eq _) (stays_cons (stays_eq _) (stays_cons (stays_eq _) (stays_cons (stays_new _ _) stays_nil))))))))
  ·simp only [List.take_succ_cons, List.take_zero, hopsR, and_true]
   refine ⟨?_, ?_, ?_, ?_, ?_, ?_, ?_, ?_⟩ <;> intro fv w1 hb1 hp
   all_goals (have hc := (hL0.call (below_drew hb1)).fc; simp only [zF, Nat.reduceAdd] at hc; simp only [putsV, Act.put, zP, Nat.zero_add, Nat.reduceAdd])
   ·refine tyAt_none rfl ?_
    simp [tyUpon, execOp, go_sem, Act.eval, hc, Below.refl]
   ·refine tyAt_none rfl ?_
    refine ty_val8 (u := .slice (some ⟨w1.heap.size, 0, none⟩) 2 2) (w' := w1.alloc (.cells #[.int .i64 1, .int .i64 3] 2)) (by simp [execOp, go_sem, Act.eval]) ((Below.refl _ _).alloc (Nat.le_refl _) _) (ils_at (hd_new w1 [.int .i64 1, .int .i64 3] _) rfl rfl)
   ·have h1 : PI [1, 3] (fv 1) w1 := hp 1 (LC (by kernel_rfl))
    refine tyAt_none rfl ?_
    refine ty_call (f := 58) (args := #[fv 1]) (by simp [execOp, go_sem, Act.eval]) ?_
    exact (HVo.out (fv 1) w1 h1).mono fun e w2 ⟨⟨u, h1, h2⟩, h3⟩ => ⟨_, h1, h2, h3⟩
   ·have h0 : EV (.agg #[.int .i64 2, .int .i64 2, .slice a11 n11 c11]) (fv 0) w1 := hp 0 (LC (by kernel_rfl))
    have h2 : PT9 vb (fv 2) w1 := hp 2 (LC (by kernel_rfl))
    refine tyAt_none rfl ?_
    refine ty_call (f := 50) (args := #[.agg #[.int .i64 2, .int .i64 2, .slice a11 n11 c11], fv 2]) (by simp [execOp, go_sem, Act.eval, h0]) ?_
    exact (HS2.out _ (fv 2) w1 (mt_of (f11.below (below_drew hb1)) hc11.out hm2r.out hm2c.out) h2).mono fun e w2 ⟨h1, h3⟩ => ⟨_, h1, rfl, h3⟩
   ·have h3 : EV (.tuple #[.agg #[.slice none 0 0, .slice none 0 0], .int .i64 6]) (fv 3) w1 := hp 3 (LC (by kernel_rfl))
    refine tyAt_none rfl ?_
    simp [tyUpon, execOp, go_sem, Act.eval, h3, Below.refl]
   ·have h4 : EV (.tuple #[.agg #[.slice none 0 0, .slice none 0 0], .int .i64 6]) (fv 4) w1 := hp 4 (LC (by kernel_rfl))
    refine tyAt_none rfl ?_
    simp [tyUpon, execOp, go_sem, Act.eval, h4, Below.refl]
   ·have h4 : EV (.tuple #[.agg #[.slice none 0 0, .slice none 0 0], .int .i64 6]) (fv 4) w1 := hp 4 (LC (by kernel_rfl))
    refine tyAt_none rfl ?_
    simp [tyUpon, execOp, go_sem, Act.eval, h4, Below.refl]
   ·exact tyAt_new rfl rfl new_sol (below_drew hb1).size
  ·intro j hj u w2 hT
   simp only [List.contains_iff_mem, List.mem_cons, List.not_mem_nil, or_false] at hj
   rcases hj with rfl <;> exact NewB.ptr hT
  ·exact ⟨⟨_, _, _, _, rfl, rfl, rfl, new_sol⟩, trivial⟩
  ·intro fv wl hb1 hv
   have e5 : fv 5 = .agg #[.slice none 0 0, .slice none 0 0] := hv 5 (by omega) (by omega)
   have e4 : fv 4 = .tuple #[.agg #[.slice none 0 0, .slice none 0 0], .int .i64 6] := hv 4 (by omega) (by omega)
   obtain ⟨kb, e7, n9, m9⟩ : NewB x20.heap.size [.slice none 0 0, .slice none 0 0] (fv 7) wl := hv 7 (by omega) (by omega)
   have hx0 := hL0
   replace hL0 := hL0.call (below_drew hb1)
   replace hL0 := GL.tnew (M := []) hL0 hx0 n9 m9 (fun p hp => by cases hp)
   simp only [List.cons_append, List.nil_append] at hL0
   have hA := hL0.fc
   simp only [zF, Nat.reduceAdd] at hA
   have hP := hL0.put 0 kb _ rfl [.slice none 0 0, .slice none 0 0] rfl
   simp only [setAll, List.set_cons_zero, List.set_cons_succ] at hP
   have hB1 := hP.fc
   simp only [zF, Nat.reduceAdd] at hB1
   refine ⟨((wl.setCell ⟨kb, 0, none⟩ (.slice none 0 0)).setCell ⟨kb, 1, none⟩ (.slice none 0 0)), .int .i64 6, fun o ho => ?_, fun o ho => ?_, ?_⟩
   ·obtain rfl := Option.some.inj ho
    simp [execOp, go_sem, Act.eval, putsV, Act.put, List.take_succ_cons, List.take_zero, zP, Nat.zero_add, Nat.reduceAdd, hA, e4, e5, e7]
   ·obtain rfl := Option.some.inj ho
    simp [execOp, go_sem, Act.eval, putsV, Act.put, List.take_succ_cons, List.take_zero, zP, Nat.zero_add, Nat.reduceAdd, hB1, e4, e5, e7]
   ·rfl
  ·intro fv x21 hb1 hv hne
   have e5 : fv 5 = .agg #[.slice none 0 0, .slice none 0 0] := hv 5 (by omega)
   have e4 : fv 4 = .tuple #[.agg #[.slice none 0 0, .slice none 0 0], .int .i64 6] := hv 4 (by omega)
   have e0 : fv 0 = _ := hv 0 (by omega)
   have e6 : fv 6 = _ := hv 6 (by omega)
   obtain ⟨kb, e7, n9, m9⟩ : NewB x20.heap.size [.slice none 0 0, .slice none 0 0] (fv 7) x21 := hv 7 (by omega)
   have hx0 := hL0
   replace hL0 := hL0.call (below_drew hb1)
   replace hL0 := GL.tnew (M := []) hL0 hx0 n9 m9 (fun p hp => by cases hp)
   simp only [List.cons_append, List.nil_append] at hL0
   simp only [List.take_succ_cons, List.take_zero, putsV, Act.put, zP, List.drop_succ_cons, List.drop_zero, Nat.zero_add, Nat.reduceAdd, e0, e4, e5, e6, e7]
   have hbd := below_drew hb1
   have hA := hL0.fc
   simp only [zF, Nat.reduceAdd] at hA
   have hP := hL0.put 0 kb _ rfl [.slice none 0 0, .slice none 0 0] rfl
   obtain ⟨x22, hy⟩ : ∃ q, setAll x21 kb 0 [.slice none 0 0, .slice none 0 0] = q := ⟨_, rfl⟩
   have hu9 := setAll_upd kb [.slice none 0 0, .slice none 0 0] 0 x21
   rw [hy] at hu9
   have hb4 : Below x20.heap.size x20 x22 := hbd.trans (by rw [← hy]; exact (setAll_upd _ _ _ _).below m9)
   rw [hy] at hP
   simp only [setAll, Nat.zero_add, Nat.reduceAdd] at hy
   simp only [List.set_cons_zero, List.set_cons_succ] at hP
   have hB := hP.fc
   simp only [zF, Nat.reduceAdd] at hB
   replace ht := ht.below hb4
   replace f1 := f1.below hb4
   replace f2 := f2.below hb4
   replace f11 := f11.below hb4
   clear hbd hb4 hb1 hv hne hx0 n9 m9 e0 e4 e5 e6 e7 hu9
   generalize fv 1 = q1
   generalize fv 2 = q2
   generalize fv 3 = q3
   clear fv
   replace hL0 := hP
   clear hP
   go_upto_region 9 with fail
   clear hA hy
   have hA := hB
   clear hB
   refine region_tl 9 [EV (.agg #[.int .i64 2, .int .i64 2, .slice a11 n11 c11]), PI [1, 3], PT9 vb, AOw, AOw, AO5, EV (.int .i64 0), AO5, EV (.int .i64 0)] (by kernel_rfl) (by kernel_rfl) ?_ ?_ ?_
   ·exact (stays_cons (stays_eq _) (stays_cons (stays_pi _) (stays_cons (stays_pt9 _) (stays_cons (stays_aow) (stays_cons (stays_aow) (stays_cons (stays_ao5) (stays_cons (stays_eq _) (stays_cons (stays_ao5) (stays_cons (stays_eq _) stays_nil)))))))))
   ·simp only [List.take_succ_cons, List.take_zero, hopsR, and_true]
    refine ⟨?_, ?_, ?_, ?_, ?_, ?_, ?_, ?_, ?_⟩ <;> intro fv w1 hb1 hp
    all_goals (have hc := (hL0.call (below_drew hb1)).fc; simp only [zF, Nat.reduceAdd] at hc; simp only [putsV, Act.put, zP, Nat.zero_add, Nat.reduceAdd])
    ·refine tyAt_none rfl ?_
     simp [tyUpon, execOp, go_sem, Act.eval, hc, Below.refl]
    ·refine tyAt_none rfl ?_
     refine ty_val8 (u := .slice (some ⟨w1.heap.size, 0, none⟩) 2 2) (w' := w1.alloc (.cells #[.int .i64 1, .int .i64 3] 2)) (by simp [execOp, go_sem, Act.eval]) ((Below.refl _ _).alloc (Nat.le_refl _) _) (ils_at (hd_new w1 [.int .i64 1, .int .i64 3] _) rfl rfl)
    ·have h1 : PI [1, 3] (fv 1) w1 := hp 1 (LC (by kernel_rfl))
     refine tyAt_none rfl ?_
     refine ty_call (f := 58) (args := #[fv 1]) (by simp [execOp, go_sem, Act.eval]) ?_
     exact (HVo.out (fv 1) w1 h1).mono fun e w2 ⟨⟨u, h1, h2⟩, h3⟩ => ⟨_, h1, h2, h3⟩
    ·have h0 : EV (.agg #[.int .i64 2, .int .i64 2, .slice a11 n11 c11]) (fv 0) w1 := hp 0 (LC (by kernel_rfl))
     have h2 : PT9 vb (fv 2) w1 := hp 2 (LC (by kernel_rfl))
     refine tyAt_none rfl ?_
     refine ty_call (f := 51) (args := #[.agg #[.int .i64 2, .int .i64 2, .slice a11 n11 c11], fv 2]) (by simp [execOp, go_sem, Act.eval, h0]) ?_
     exact (HA2.out _ (fv 2) w1 (mt_of (f11.below (below_drew hb1)) hc11.out hm2r.out hm2c.out) h2).mono fun e w2 ⟨⟨v, h1, h2⟩, h3⟩ => ⟨_, h1, h2, h3⟩
    ·have h3 : AOw (fv 3) w1 := hp 3 (LC (by kernel_rfl))
     refine tyAt_none rfl ?_
     obtain ⟨pg, pe⟩ := h3
     have pz : AOw (.tuple #[.slice (some ⟨pg, 0, none⟩) 2 2, .int .i64 0]) w1 := ⟨pg, rfl⟩
     simp [tyUpon, execOp, go_sem, Act.eval, pe, pz, Below.refl]
    ·have h3 : AOw (fv 4) w1 := hp 4 (LC (by kernel_rfl))
     refine tyAt_none rfl ?_
     obtain ⟨pg, pe⟩ := h3
     have pz : AO5 (.slice (some ⟨pg, 0, none⟩) 2 2) w1 := ⟨pg, rfl⟩
     simp [tyUpon, execOp, go_sem, Act.eval, pe, pz, Below.refl]
    ·have h4 : AOw (fv 4) w1 := hp 4 (LC (by kernel_rfl))
     refine tyAt_none rfl ?_
     obtain ⟨pg, pe⟩ := h4
     simp [tyUpon, execOp, go_sem, Act.eval, pe, Below.refl]
    ·have h5 : AO5 (fv 5) w1 := hp 5 (LC (by kernel_rfl))
     refine tyAt_none rfl ?_
     obtain ⟨pg, pe⟩ := h5
     have pz : AO5 (.slice (some ⟨pg, 0, none⟩) 2 2) w1 := ⟨pg, rfl⟩
     simp [tyUpon, execOp, go_sem, Act.eval, pe, pz, Below.refl]
    ·have h6 : EV (.int .i64 0) (fv 6) w1 := hp 6 (LC (by kernel_rfl))
     refine tyAt_none rfl ?_
     simp [tyUpon, execOp, go_sem, Act.eval, h6, Below.refl]
   ·intro fv x23 hb1 hv
    obtain ⟨pg, e7⟩ : AO5 (fv 7) x23 := hv 7 (by omega)
    have e6 : fv 6 = _ := hv 6 (by omega)
    have e8 : fv 8 = _ := hv 8 (by omega)
    simp only [List.take_succ_cons, List.take_zero, putsV, Act.put, zP, List.drop_succ_cons, List.drop_zero, Nat.zero_add, Nat.reduceAdd, e6, e7, e8]
    have hbd := below_drew hb1
    replace hL0 := hL0.call hbd
    replace ht := ht.below hbd
    replace f1 := f1.below hbd
    replace f2 := f2.below hbd
    replace f11 := f11.below hbd
    clear hbd hb1 hv e6 e7 e8 hA
    generalize fv 0 = p0
    generalize fv 1 = p1
    generalize fv 2 = p2
    generalize fv 3 = p3
    generalize fv 4 = p4
    generalize fv 5 = p5
    clear fv
    clear f11
    obtain ⟨x24, hweq, hL0⟩ := GL.named (hL0.new rfl [.int .i64 1, .int .i64 2, .int .i64 3, .int .i64 4] 2)
    have hb3 : Below x23.heap.size x23 x24 := by rw [← hweq]; exact (Below.refl _ _).alloc (Nat.le_refl _) _
    replace ht := ht.below hb3
    replace f1 := f1.below hb3
    replace f2 := f2.below hb3
    clear hb3
    have il : ILs x24 (.slice (some ⟨x23.heap.size, 0, none⟩) 4 4) [1, 2, 3, 4] := ils_at (hL0.get _ _ mZ) rfl rfl
    go_wp2_with fail
    refine Calls.mono (HO3.out _ _ il) ?_
    rintro e x25 ⟨⟨pv, rfl, hm⟩, hb⟩
    replace hL0 := hL0.call hb
    replace ht := ht.below hb
    replace f1 := f1.below hb
    replace f2 := f2.below hb
    clear hb  hweq il HO3
    obtain ⟨a12, n12, c12, rfl, f12, hc12⟩ := mt_form hm hm3r.out hm3c.out
    replace hc12 := Lib.hid hc12
    obtain ⟨x26, hweq, hL0⟩ := GL.named (hL0.new rfl [.int .i64 0, .int .i64 0, .slice none 0 0] 56)
    have hb3 : Below x25.heap.size x25 x26 := by rw [← hweq]; exact (Below.refl _ _).alloc (Nat.le_refl _) _
    have hP := hL0.put 0 x25.heap.size _ rfl [.int .i64 2, .int .i64 2, .slice a12 n12 c12] rfl
    obtain ⟨x27, hy⟩ : ∃ q, setAll x26 x25.heap.size 0 [.int .i64 2, .int .i64 2, .slice a12 n12 c12] = q := ⟨_, rfl⟩
    have hb4 : Below x25.heap.size x25 x27 := hb3.trans (by rw [← hy]; exact (setAll_upd _ _ _ _).below (Nat.le_refl _))
    rw [hy] at hP
    simp only [setAll, Nat.zero_add, Nat.reduceAdd] at hy
    simp only [List.set_cons_zero] at hP
    have hA := hL0.fc
    simp only [zF, Nat.reduceAdd] at hA
    have hB := hP.fc
    simp only [zF, Nat.reduceAdd] at hB
    replace ht := ht.below hb4
    replace f1 := f1.below hb4
    replace f2 := f2.below hb4
    replace f12 := f12.below hb4
    clear hb3 hb4
    replace hL0 := hP
    clear hP
    go_wp2_with fail
    refine Calls.mono (HD3.out _ _ (mt_of f12 hc12.out hm3r.out hm3c.out)) ?_
    rintro e x28 ⟨rfl, hb⟩
    replace hL0 := hL0.call hb
    replace ht := ht.below hb
    replace f1 := f1.below hb
    replace f2 := f2.below hb
    replace f12 := f12.below hb
    clear hb hA hB hweq hy HD3
    obtain ⟨x29, hweq, hL0⟩ := GL.named (hL0.new rfl [.int .u64 0, .string ⟨#[]⟩, .bool false, .int .u64 0, .string ⟨#[]⟩] 36)
    have hb3 : Below x28.heap.size x28 x29 := by rw [← hweq]; exact (Below.refl _ _).alloc (Nat.le_refl _) _
    have hP := hL0.put 0 x28.heap.size _ rfl [.int .u64 ((zl dt.num : Nat) : Int), .string (zh dt.num), .bool (zs dt.num), .int .u64 ((lo (fe dt) : Nat) : Int), .string (hs (fe dt))] rfl
    obtain ⟨x30, hy⟩ : ∃ q, setAll x29 x28.heap.size 0 [.int .u64 ((zl dt.num : Nat) : Int), .string (zh dt.num), .bool (zs dt.num), .int .u64 ((lo (fe dt) : Nat) : Int), .string (hs (fe dt))] = q := ⟨_, rfl⟩
    have hb4 : Below x28.heap.size x28 x30 := hb3.trans (by rw [← hy]; exact (setAll_upd _ _ _ _).below (Nat.le_refl _))
    rw [hy] at hP
    simp only [setAll, Nat.zero_add, Nat.reduceAdd] at hy
    simp only [List.set_cons_zero] at hP
    have hA := hL0.fc
    simp only [zF, Nat.reduceAdd] at hA
    have hB := hP.fc
    simp only [zF, Nat.reduceAdd] at hB
    replace ht := ht.below hb4
    replace f1 := f1.below hb4
    replace f2 := f2.below hb4
    replace f12 := f12.below hb4
    clear hb3 hb4
    replace hL0 := hP
    clear hP
    go_wp2_with fail
    refine Calls.mono (HI3.out _ _ (mt_of f12 hc12.out hm3r.out hm3c.out)) ?_
    rintro e x31 ⟨⟨pv, rfl, hm⟩, hb⟩
    replace hL0 := hL0.call hb
    replace ht := ht.below hb
    replace f1 := f1.below hb
    replace f2 := f2.below hb
    replace f12 := f12.below hb
    clear hb hA hB hweq hy HI3
    obtain ⟨a13, n13, c13, rfl, f13, hc13⟩ := mt_form hm hmir.out hmic.out
    replace hc13 := Lib.hid hc13
    obtain ⟨x32, hweq, hL0⟩ := GL.named (hL0.new rfl [.int .i64 0, .int .i64 0, .slice none 0 0] 56)
    have hb3 : Below x31.heap.size x31 x32 := by rw [← hweq]; exact (Below.refl _ _).alloc (Nat.le_refl _) _
    have hP := hL0.put 0 x31.heap.size _ rfl [.int .i64 2, .int .i64 2, .slice a13 n13 c13] rfl
    obtain ⟨x33, hy⟩ : ∃ q, setAll x32 x31.heap.size 0 [.int .i64 2, .int .i64 2, .slice a13 n13 c13] = q := ⟨_, rfl⟩
    have hb4 : Below x31.heap.size x31 x33 := hb3.trans (by rw [← hy]; exact (setAll_upd _ _ _ _).below (Nat.le_refl _))
    rw [hy] at hP
    simp only [setAll, Nat.zero_add, Nat.reduceAdd] at hy
    simp only [List.set_cons_zero] at hP
    have hA := hL0.fc
    simp only [zF, Nat.reduceAdd] at hA
    have hB := hP.fc
    simp only [zF, Nat.reduceAdd] at hB
    replace ht := ht.below hb4
    replace f1 := f1.below hb4
    replace f2 := f2.below hb4
    replace f12 := f12.below hb4
    replace f13 := f13.below hb4
    clear hb3 hb4
    replace hL0 := hP
    clear hP
    go_wp2_with fail
    refine Calls.mono (HM3.out _ _ (mt_of f12 hc12.out hm3r.out hm3c.out)) ?_
    rintro e x34 ⟨rfl, hb⟩
    replace hL0 := hL0.call hb
    replace ht := ht.below hb
    replace f1 := f1.below hb
    replace f2 := f2.below hb
    replace f12 := f12.below hb
    replace f13 := f13.below hb
    clear hb hA hB hweq hy HM3
    obtain ⟨x35, hweq, hL0⟩ := GL.named (hL0.new rfl [.int .u64 0, .string ⟨#[]⟩, .bool false, .int .u64 0, .string ⟨#[]⟩] 36)
    have hb3 : Below x34.heap.size x34 x35 := by rw [← hweq]; exact (Below.refl _ _).alloc (Nat.le_refl _) _
    have hP := hL0.put 0 x34.heap.size _ rfl [.int .u64 ((zl o1.num : Nat) : Int), .string (zh o1.num), .bool (zs o1.num), .int .u64 ((lo (fe o1) : Nat) : Int), .string (hs (fe o1))] rfl
    obtain ⟨x36, hy⟩ : ∃ q, setAll x35 x34.heap.size 0 [.int .u64 ((zl o1.num : Nat) : Int), .string (zh o1.num), .bool (zs o1.num), .int .u64 ((lo (fe o1) : Nat) : Int), .string (hs (fe o1))] = q := ⟨_, rfl⟩
    have hb4 : Below x34.heap.size x34 x36 := hb3.trans (by rw [← hy]; exact (setAll_upd _ _ _ _).below (Nat.le_refl _))
    rw [hy] at hP
    simp only [setAll, Nat.zero_add, Nat.reduceAdd] at hy
    simp only [List.set_cons_zero] at hP
    have hA := hL0.fc
    simp only [zF, Nat.reduceAdd] at hA
    have hB := hP.fc
    simp only [zF, Nat.reduceAdd] at hB
    replace ht := ht.below hb4
    replace f1 := f1.below hb4
    replace f2 := f2.below hb4
    replace f12 := f12.below hb4
    replace f13 := f13.below hb4
    clear hb3 hb4
    replace hL0 := hP
    clear hP
    go_upto_region 14 with fail
    clear hA hB hweq hy
    have hKp : Keeps (fun W => Tab W ∧ MT W (.agg #[.int .i64 2, .int .i64 2, .slice a13 n13 c13]) mi) := fun _ _ hb h => ⟨h.1.below hb, h.2.below hb⟩
    have hK0 : (fun W => Tab W ∧ MT W (.agg #[.int .i64 2, .int .i64 2, .slice a13 n13 c13]) mi) x36 := ⟨ht, (mt_of f13 hc13.out hmir.out hmic.out)⟩
    have HTj := Lib.hid (fun (W : World) (h : Tab W ∧ MT W (.agg #[.int .i64 2, .int .i64 2, .slice a13 n13 c13]) mi) => HTi.out (.agg #[.int .i64 2, .int .i64 2, .slice a13 n13 c13]) W h.1 h.2)
    clear HTi
    obtain ⟨α, iα, F, hF1, hF2⟩ := cls x36
    have hq := GL.fcC hF1 hL0
    simp only [zC, Nat.reduceAdd] at hq
    refine region_cls (F := F) (by kernel_rfl) (lexB_of_fast (by kernel_rfl)) (cls_drew hF2) ?_
    repeat (go_big_quiet_step (first | fail | (go_at_call 12; with_reducible exact cls_call hF1 hF2 HN2.out _) | (go_at_call 12; with_reducible exact cls_call hF1 hF2 HN1.out _) | (go_at_call 83; exact cls_callK hKp hF1 hF2 hK0 HTj.out _)))
    refine wpQuiet_nil ?_
    rintro wq ⟨xq, rfl⟩
    replace hL0 := hL0.call (hF1 xq)
    clear hq hF2 hK0 hKp
    generalize F xq = x37 at hL0 ⊢
    clear hF1 xq iα F α
    go_wp2_with fail
    exact bodyPost_ret (v := .bool true) (by simp [results, Tryz.results39, go_sem]) rfl ⟨rfl, hL0.bl⟩
end Go.Proofs.YthffglapmkkohaaGreatDoor
namespace Go.Proofs.YthffglapmkkohaaGreatDoor
open Go.RowKit
attribute [local irreducible] lo hs sm s64 c64 d64 b64 mh ml pd pc qd qc val hiB str cmpI srD lz nb zl zh zs fe rowV tabV gv bsV tabM
theorem esame_w (zz : List Int) (hm : zz.length ≤ 100000) (a b : Value) (w : World) (ha : ILs w a zz) (hb : ILs w b zz) :
  Calls Tryz.prog 55 #[a, b] w fun e w' => e = .returned (.bool true) ∧ Below w.heap.size w w' := by
 obtain ⟨ao, ac, ga, rfl, ha1, ha2⟩ := ha
 obtain ⟨bo, bc, gb, rfl, hb1, hb2⟩ := hb
 obtain ⟨n, hn⟩ : ∃ n, n = zz.length := ⟨_, rfl⟩
 rw [← hn] at hm ha1 hb1 ⊢
 replace ha1 := Lib.hid ha1
 replace ha2 := Lib.hid ha2
 replace hb1 := Lib.hid hb1
 replace hb2 := Lib.hid hb2
 replace hn := Lib.hid hn
 go_enter Tryz.func55, Tryz.ntmps55
 go_wp2_with fail
 go_loopg [5] n (fun gk iv wr => ∃ (i : Nat) (zi : Int), i + gk = n ∧ iv = .int .i64 zi ∧ zi = (i : Int) ∧ Below w.heap.size w wr)
 case atStart => exact ⟨0, 0, Nat.zero_add n, by first | rfl | go_num, rfl, Below.refl _ _⟩
 case round =>
  obtain ⟨i, zi, hik, rfl, hzi, hbl⟩ := hrel
  rcases Nat.lt_or_ge i n with hin | hin
  ·subst hzi
   have k1 : (i : Int) < (n : Int) := by omega
   have k0 : (0 : Int) ≤ (i : Int) := Int.natCast_nonneg _
   have kb : (i : Int) ≤ 100000 := by omega
   obtain ⟨rfl, -⟩ := ha1.out (by omega)
   obtain ⟨rfl, -⟩ := hb1.out (by omega)
   have hi9 : i < zz.length := by rw [← hn.out]; exact hin
   have c1 := keepsC hbl (ha2.out i hi9)
   have c2 := keepsC hbl (hb2.out i hi9)
   obtain ⟨z, hz⟩ : ∃ z, z = zz[i]'hi9 := ⟨_, rfl⟩
   rw [← hz] at c1 c2
   clear hz hi9
   go_upto_region 6 with fail
   go_region
   have hb9 := Lib.hid hbl.drew
   clear c1 c2 hbl
   generalize wr.drew = w3 at hb9 ⊢
   go_wp2_with fail
   go_roundg (n - (i + 1))
   case measure => omega
   case rel => exact ⟨i + 1, _, by omega, by first | rfl | go_num, by omega, hb9.out⟩
  ·obtain rfl : n = i := by omega
   subst hzi
   have m1 : ¬ (n : Int) < (n : Int) := by omega
   go_wp2_with fail
   exact bodyPost_ret (v := .bool true) (by simp [results, Tryz.results55, go_sem]) rfl ⟨rfl, hbl⟩
end Go.Proofs.YthffglapmkkohaaGreatDoor
namespace Go.Proofs.YthffglapmkkohaaGreatDoor
open Go.RowKit
attribute [local irreducible] lo hs sm s64 c64 d64 b64 mh ml pd pc qd qc val hiB str cmpI srD lz nb zl zh zs fe
def okq (q : Rat) : Bool := decide (q.num.natAbs < 18446744073709551616 ∧ q.den < 18446744073709551616)
theorem okq_sz {q : Rat} (h : okq q = true) : Sz q 1 := by
 have := of_decide_eq_true h
 exact szc q this.1 this.2
/-- The sizes of an elimination, checked. -/
def ckE (R n c : Nat) (G : Gd) : Bool :=
 ((List.range (c + 1)).all fun k => okq (descE R ⟨G, [], 1⟩ k).f && (List.range R).all fun i => (List.range n).all fun j => okq ((descE R ⟨G, [], 1⟩ k).G i j)) &&
 ((List.range ((descE R ⟨G, [], 1⟩ c).pv.length + 1)).all fun m => (List.range R).all fun i => (List.range n).all fun j => okq (ascE (descE R ⟨G, [], 1⟩ c).pv (descE R ⟨G, [], 1⟩ c).G m i j))
theorem ckE_sz {R n c : Nat} {G : Gd} (h : ckE R n c G = true) (hn : n ≤ 5000) (hR : R ≤ 5000) (hc : c ≤ n) : ESz R n c 1 G := by
 unfold ckE at h
 rw [Bool.and_eq_true, List.all_eq_true, List.all_eq_true] at h
 refine ⟨fun k hk => ?_, fun m hm i hi j hj => ?_, by omega, hn, hR, hc⟩
 ·have h1 := h.1 k (List.mem_range.2 (by omega))
  rw [Bool.and_eq_true, List.all_eq_true] at h1
  refine ⟨okq_sz h1.1, fun i hi j hj => ?_⟩
  have h2 := h1.2 i (List.mem_range.2 hi)
  rw [List.all_eq_true] at h2
  exact okq_sz (h2 j (List.mem_range.2 hj))
 ·have h1 := h.2 m (List.mem_range.2 (by omega))
  rw [List.all_eq_true] at h1
  have h2 := h1 i (List.mem_range.2 hi)
  rw [List.all_eq_true] at h2
  exact okq_sz (h2 j (List.mem_range.2 hj))
def e1W : Mx := mW 2 3 [1, 2, 3, 2, 4, 7]
def e2W : Mx := mW 2 2 [1, 2, 2, 4]
def e3W : Mx := mW 2 2 [1, 2, 3, 4]
def ebW : List Rat := oW [1, 3]
def D1W : ES := descE 2 ⟨rowsE e1W, [], 1⟩ 3
def A1W : Gd := ascE D1W.pv D1W.G D1W.pv.length
def erW : Mx := ⟨2, 3, prtE 6 3 0 A1W 2⟩
def ekW : List Rat := tabV 3 (kvE D1W.pv A1W 1)
def D2W : ES := descE 2 ⟨augE e1W ebW, [], 1⟩ 3
def A2W : Gd := ascE D2W.pv D2W.G D2W.pv.length
def esW : List Rat := tabV 3 (solE D2W.pv A2W 3)
def D3W : ES := descE 2 ⟨augE e2W ebW, [], 1⟩ 2
def etW : Mx := turM 2 2 e2W
def D4W : ES := descE 3 ⟨agE etW ebW, [], 1⟩ 2
def D5W : ES := descE 2 ⟨rowsE e3W, [], 1⟩ 2
def D6W : ES := descE 2 ⟨ivE e3W, [], 1⟩ 2
def A6W : Gd := ascE D6W.pv D6W.G D6W.pv.length
def eiW : Mx := ⟨2, 2, prtE 4 2 2 A6W 2⟩
def epW : Mx := tabM 1 1 fun i j => ent e3W ([0].getD i 0) ([0].getD j 0)
def D7W : ES := descE 1 ⟨rowsE epW, [], 1⟩ 1
theorem ge1 : GM e1W 2 3 1 := gmW rfl rfl rfl (by kernel_rfl)
theorem ge2 : GM e2W 2 2 1 := gmW rfl rfl rfl (by kernel_rfl)
theorem ge3 : GM e3W 2 2 1 := gmW rfl rfl rfl (by kernel_rfl)
theorem get9 : GM etW 2 2 1 := gmW rfl rfl rfl (by kernel_rfl)
theorem ger : GM erW 2 3 1 := gmW rfl rfl rfl (by decide +kernel)
theorem gei : GM eiW 2 2 1 := gmW rfl rfl rfl (by decide +kernel)
theorem gep : GM epW 1 1 1 := gmW rfl rfl rfl (by decide +kernel)
theorem z1 : ESz 2 3 3 1 (rowsE e1W) := ckE_sz (by decide +kernel) (by decide) (by decide) (by decide)
theorem z2 : ESz 2 4 3 1 (augE e1W ebW) := ckE_sz (by decide +kernel) (by decide) (by decide) (by decide)
theorem z3 : ESz 2 3 2 1 (augE e2W ebW) := ckE_sz (by decide +kernel) (by decide) (by decide) (by decide)
theorem z4 : ESz 3 3 2 1 (agE etW ebW) := ckE_sz (by decide +kernel) (by decide) (by decide) (by decide)
theorem z5 : ESz 2 2 2 1 (rowsE e3W) := ckE_sz (by decide +kernel) (by decide) (by decide) (by decide)
theorem z6 : ESz 2 4 2 1 (ivE e3W) := ckE_sz (by decide +kernel) (by decide) (by decide) (by decide)
theorem z7 : ESz 1 1 1 1 (rowsE epW) := ckE_sz (by decide +kernel) (by decide) (by decide) (by decide)
theorem d1p : D1W.pv = [0, 2] := by decide +kernel
theorem d2p : D2W.pv = [0, 2] := by decide +kernel
theorem d3p : D3W.pv = [0] ∧ D3W.G 1 2 ≠ 0 := by decide +kernel
theorem d4p : D4W.pv = [0, 1] ∧ D4W.G 2 2 = 0 := by decide +kernel
theorem d5p : (if D5W.pv.length < 2 then 0 else D5W.f) = (((-2 : Int)) : Rat) := by decide +kernel
theorem d6p : D6W.pv = [0, 1] := by decide +kernel
theorem d7p : (if D7W.pv.length < 1 then 0 else D7W.f) = (((1 : Int)) : Rat) := by decide +kernel
theorem hd_slq9 {w : World} {b c : Nat} {l : List Rat} (h : Hd w b (frCs l)) : SlQ w (.slice (some ⟨b, 0, none⟩) l.length c) l := .inr ⟨b, c, rfl, hd_fs h⟩
theorem hd_mt {w : World} {b N : Nat} {x : Mx} (h : Hd w b (frCs x.l)) (hl : N = x.l.length) : MT w (.agg #[.int .i64 (x.r : Int), .int .i64 (x.c : Int), .slice (some ⟨b, 0, none⟩) N N]) x := by
 subst hl
 exact ⟨_, rfl, hd_slq9 h, _, _, _, rfl, Nat.le_refl _⟩
theorem f1p : (freeL D1W.pv 3).map (fun k => tabV 3 (kvE D1W.pv A1W k)) = [ekW] := by decide +kernel
theorem f2p : (freeL D2W.pv 3).map (fun k => tabV 3 (kvE D2W.pv A2W k)) = [ekW] := by decide +kernel
theorem oe1 : OKM e1W := ge1.ok (by decide) (by decide)
theorem oe2 : OKM e2W := ge2.ok (by decide) (by decide)
theorem oe3 : OKM e3W := ge3.ok (by decide) (by decide)
theorem oet : OKM etW := get9.ok (by decide) (by decide)
theorem oep : OKM epW := gep.ok (by decide) (by decide)
theorem w_red (u : Value) (w : World) (h : MT w u e1W) : Calls Tryz.prog 45 #[u] w fun e w' => (∃ pv s, e = .returned (.tuple #[pv, s, .int .i64 0]) ∧ MT w' pv erW ∧ ILs w' s [0, 2]) ∧ Below w.heap.size w w' := by
 obtain ⟨u1, rfl, hu⟩ := h
 refine (ereduce_w e1W oe1 1 z1 D1W rfl u1 w hu (by decide)).mono ?_
 rintro e w' ⟨⟨b, s, rfl, hH, hI⟩, hb⟩
 rw [d1p] at hI
 exact ⟨⟨_, s, rfl, hd_mt (x := erW) (N := e1W.r * e1W.c) hH rfl, hI⟩, hb⟩
theorem w_ker (u : Value) (w : World) (h : MT w u e1W) : Calls Tryz.prog 44 #[u] w fun e w' => (∃ s, e = .returned (.tuple #[s, .int .i64 0]) ∧ VLs w' s [ekW]) ∧ Below w.heap.size w w' := by
 obtain ⟨u1, rfl, hu⟩ := h
 refine (ekern_w e1W oe1 1 z1 D1W rfl u1 w hu).mono ?_
 rintro e w' ⟨⟨v, rfl, hv⟩, hb⟩
 exact ⟨⟨v, rfl, by rw [← f1p]; exact hv⟩, hb⟩
theorem w_solve (u s : Value) (w : World) (h : MT w u e1W) (hs : SlQ w s ebW) : Calls Tryz.prog 50 #[u, s] w fun e w' => (∃ v, e = .returned v ∧ SOk esW ekW v w') ∧ Below w.heap.size w w' := by
 obtain ⟨u1, rfl, hu⟩ := h
 refine (esolve_w e1W oe1 ebW rfl 1 z2 D2W rfl u1 s w hu hs).mono ?_
 rintro e w' ⟨h1 | h1, hb⟩
 ·obtain ⟨-, b, v, rfl, hH, hv⟩ := h1
  refine ⟨⟨_, rfl, _, _, rfl, hd_slq9 (l := esW) hH, ?_⟩, hb⟩
  rw [← f2p]
  exact hv
 ·obtain ⟨⟨i, h1, h2, -⟩, -⟩ := h1
  have : e1W.r = 2 := rfl
  rw [d2p] at h1
  simp at h1
  omega
theorem w_none (u s : Value) (w : World) (h : MT w u e2W) (hs : SlQ w s ebW) : Calls Tryz.prog 50 #[u, s] w fun e w' => e = .returned (.tuple #[.agg #[.slice none 0 0, .slice none 0 0], .int .i64 6]) ∧ Below w.heap.size w w' := by
 obtain ⟨u1, rfl, hu⟩ := h
 refine (esolve_w e2W oe2 ebW rfl 1 z3 D3W rfl u1 s w hu hs).mono ?_
 rintro e w' ⟨h1 | h1, hb⟩
 ·exact absurd (h1.1 1 (by rw [d3p.1]; decide) (by decide)) d3p.2
 ·exact ⟨h1.2, hb⟩
theorem w_ag (u s : Value) (w : World) (h : MT w u e2W) (hs : SlQ w s ebW) : Calls Tryz.prog 51 #[u, s] w fun e w' => (∃ v, e = .returned v ∧ AOk v) ∧ Below w.heap.size w w' := by
 obtain ⟨u1, rfl, hu⟩ := h
 refine (eagainst_w e2W etW oe2 oet rfl rfl ebW rfl 1 z4 D4W rfl (fun u w h => MTurnG ge2 (by decide) (by decide) u w h) u1 s w hu hs).mono ?_
 rintro e w' ⟨h1 | h1, hb⟩
 ·obtain ⟨-, b, rfl, -⟩ := h1
  exact ⟨⟨_, rfl, b, rfl⟩, hb⟩
 ·obtain ⟨⟨i, h1, h2, h3⟩, -⟩ := h1
  rw [d4p.1] at h1
  have : etW.r + 1 = 3 := rfl
  simp at h1
  obtain rfl : i = 2 := by omega
  exact absurd d4p.2 h3
theorem w_det (u : Value) (w : World) (h : MT w u e3W) : Calls Tryz.prog 101 #[u] w fun e w' => e = .returned (.tuple #[fracV (((-2 : Int)) : Rat), .int .i64 0]) ∧ Below w.heap.size w w' := by
 obtain ⟨u1, rfl, hu⟩ := h
 have := edet_w e3W oe3 1 z5 D5W rfl u1 w hu rfl
 rwa [show (if D5W.pv.length < e3W.r then 0 else D5W.f) = (((-2 : Int)) : Rat) from d5p] at this
theorem w_inv (u : Value) (w : World) (h : MT w u e3W) : Calls Tryz.prog 102 #[u] w fun e w' => (∃ pv, e = .returned (.tuple #[pv, .int .i64 0]) ∧ MT w' pv eiW) ∧ Below w.heap.size w w' := by
 obtain ⟨u1, rfl, hu⟩ := h
 refine (einverse_w e3W oe3 rfl (by decide) 1 z6 D6W rfl u1 w hu).mono ?_
 rintro e w' ⟨h1 | h1, hb⟩
 ·obtain ⟨-, b, rfl, hH⟩ := h1
  exact ⟨⟨_, rfl, hd_mt (x := eiW) (N := e3W.r * e3W.r) hH rfl⟩, hb⟩
 ·exact absurd h1.1 (by rw [d6p]; decide)
theorem w_min (u : Value) (w : World) (h : MT w u e3W) : Calls Tryz.prog 103 #[u, .int .i64 1] w fun e w' => e = .returned (.tuple #[fracV (((1 : Int)) : Rat), .int .i64 0]) ∧ Below w.heap.size w w' := by
 obtain ⟨u1, rfl, hu⟩ := h
 refine eminor_w e3W epW oe3 1 (by decide) (by decide) _ (fun u s t w h g f => ?_) (fun u w h => ?_) u1 w hu
 ·obtain ⟨u1, rfl, hu⟩ := h
  refine (mPartV e3W [0] [0] oe3 (by decide) (by decide) (by decide) (by decide) u1 s t w hu g f).mono ?_
  rintro e w' ⟨t, rfl, h1, hb⟩
  exact ⟨_, rfl, ⟨t, rfl, h1.cq⟩, hb⟩
 ·obtain ⟨u1, rfl, hu⟩ := h
  have := edet0_w epW oep 1 z7 D7W rfl u1 w hu
  rwa [show (if D7W.pv.length < epW.r then 0 else D7W.f) = (((1 : Int)) : Rat) from d7p] at this
theorem eworks_any (w : World) (ht : Tab w) : Calls Tryz.prog 39 #[] w fun xe w' => xe = .returned (.bool true) ∧ Below w.heap.size w w' := by
 have sk : ∀ q ∈ ekW, Sz q 1 := szl (by decide +kernel)
 have ss : ∀ q ∈ esW, Sz q 1 := szl (by decide +kernel)
 exact eworks_w e1W erW e2W e3W eiW ekW ebW esW (((-2 : Int)) : Rat) (((1 : Int)) : Rat)
  (fun p w h => (mof_at 2 3 [1, 2, 3, 2, 4, 7] (by decide) (by decide) (by decide) (by decide) rfl p w h).mono fun e w' ⟨pv, h1, h2, h3⟩ => ⟨⟨pv, h1, h2⟩, h3⟩)
  w_red w_ker
  (fun p w h => (of_at [1, 3] (by decide) (by decide) p w h).mono fun e w' ⟨pv, h1, h2, h3⟩ => ⟨⟨pv, h1, h2⟩, h3⟩)
  w_solve
  (fun p w hT h => mtext_at erW 2 3 _ ger (by decide) (by decide) (by decide +kernel) (by decide +kernel) (by decide +kernel) p w hT h)
  (fun a b w h1 h2 => esame_w [0, 2] (by decide) a b w h1 h2)
  (fun p w hT h => text_at ekW (jrow ekW) _ (by decide +kernel) sk rfl (by decide +kernel) (by decide +kernel) p w hT h)
  (fun p w hT h => text_at esW (jrow esW) _ (by decide +kernel) ss rfl (by decide +kernel) (by decide +kernel) p w hT h)
  (fun p w h => (mof_at 2 2 [1, 2, 2, 4] (by decide) (by decide) (by decide) (by decide) rfl p w h).mono fun e w' ⟨pv, h1, h2, h3⟩ => ⟨⟨pv, h1, h2⟩, h3⟩)
  w_none w_ag
  (fun p w h => (mof_at 2 2 [1, 2, 3, 4] (by decide) (by decide) (by decide) (by decide) rfl p w h).mono fun e w' ⟨pv, h1, h2, h3⟩ => ⟨⟨pv, h1, h2⟩, h3⟩)
  w_det w_inv w_min
  (fun w => intF (-2) (by decide) (by decide) w) (fun w => intF 1 (by decide) (by decide) w)
  (fun p w hT h => mtext_at eiW 2 2 _ gei (by decide) (by decide) (by decide +kernel) (by decide +kernel) (by decide +kernel) p w hT h)
  rfl rfl rfl rfl rfl rfl rfl rfl rfl rfl (by decide +kernel) w ht
end Go.Proofs.YthffglapmkkohaaGreatDoor
namespace Go.Proofs.YthffglapmkkohaaGreatDoor
open Go.RowKit
attribute [local irreducible] lo hs sm s64 c64 d64 b64 mh ml pd pc qd qc val hiB str cmpI srD lz nb zl zh zs fe rowV tabV gv bsV tabM
/-- The element of a slice of plain fractions, or 0. -/
def qE (ql : List (Int × Int)) (i : Nat) : Rat := if i < ql.length then qm (ql.getD i (0, 0)) else 0
theorem qE_sz {ql : List (Int × Int)} (h : ∀ p ∈ ql, QR p) (i : Nat) : Sz (qE ql i) 1 := by
 unfold qE
 split
 ·rename_i hi
  rw [List.getD_eq_getElem?_getD, List.getElem?_eq_getElem hi]
  exact qm_sz (h _ (List.getElem_mem hi))
 ·exact szc 0 (by decide) (by decide)
theorem qE_in {ql : List (Int × Int)} {i : Nat} (h : i < ql.length) : qE ql i = qm ql[i] := by
 unfold qE
 rw [if_pos h, List.getD_eq_getElem?_getD, List.getElem?_eq_getElem h]
 rfl
theorem qE_out {ql : List (Int × Int)} {i : Nat} (h : ql.length ≤ i) : qE ql i = 0 := by
 unfold qE
 rw [if_neg (by omega)]
def vecM (ql : List (Int × Int)) (n : Nat) : List Rat := tabV n (qE ql)
theorem vecM_gv {ql : List (Int × Int)} (h : ∀ p ∈ ql, QR p) (n : Nat) : GV (vecM ql n) n 1 := GV.tab fun i _ => qE_sz h i
theorem rowV_stop {f : Nat → Rat} {n m : Nat} (h : m ≤ n) (h0 : ∀ i, m ≤ i → f i = 0) : rowV f n m = tabV n f := by
 have e : rowV f n m = tabV m f ++ List.replicate (n - m) 0 := by unfold rowV; rfl
 rw [e]
 apply List.ext_getElem (by rw [List.length_append, tabV_len, List.length_replicate, tabV_len]; omega)
 intro i h1 h2
 rw [tabV_get h2]
 rcases Nat.lt_or_ge i m with g | g
 ·rw [List.getElem_append_left (by rw [tabV_len]; exact g), tabV_get]
 ·rw [List.getElem_append_right (by rw [tabV_len]; exact g), List.getElem_replicate, h0 i g]
end Go.Proofs.YthffglapmkkohaaGreatDoor
namespace Go.Proofs.YthffglapmkkohaaGreatDoor
open Go.RowKit
attribute [local irreducible] lo hs sm s64 c64 d64 b64 mh ml pd pc qd qc val hiB str cmpI srD lz nb zl zh zs fe rowV tabV gv bsV tabM
theorem wp_appendM {w : World} {ops : Array Oper} {rest : List Oper} {o : Oper} {a : Act} {Q : Exit → Act → World → Prop} (hgd : o.guard = none) (s x : Operand)
  (ho : o.op = .call { callee := .builtin .append, args := #[s, x], argTypes := #[27, 27] }) (B : Nat) (v : Value) (n : Nat) (L : List Rat) (hs : a.eval s = v) (hown : OwnF w B v n L) (g : Nat) (t : Rat) (hx : a.eval x = .slice (some ⟨g, 0, none⟩) 1 1) (hH : Hd w g (frC t))
  (hn : n ≤ 100000) (hbase : B ≤ w.heap.size)
  (h : ∀ v' w', OwnF w' B v' (n + 1) (L ++ [t]) → w.grownBy w' v.ownBlock → (v'.ownBlock = v.ownBlock ∨ v'.ownBlock = some w.heap.size) → wpList Tryz.prog ops Q rest (a.put o.dst v') w') : wpList Tryz.prog ops Q (o :: rest) a w := by
 obtain ⟨i0, hi, hz1, hz2, hz3⟩ := info_parts infoFr
 refine wpList_append_own_at w hgd s x 27 ho B 36 i0 _ 5 56 Tryz.underlying27 hi hz1 hz2 hz3 rfl (by decide) v n (frCs L) hs hown ⟨g, 0, none⟩ 1 1 (frC t) hx rfl (hd_newsH hH) (frC_one t) (by unfold maxLen; omega) (by omega) hbase ?_
 intro v' w' h1 h2 _ h4
 refine h v' w' ?_ h2 h4
 unfold OwnF
 rw [frCs_snoc]; exact h1
theorem own_updM {W W' : World} {B n k : Nat} {v : Value} {l : List Rat} (h : OwnF W B v n l) (hu : Upd k W W') (hk : k < B) : OwnF W' B v n l := by
 refine ⟨h.1, ?_⟩
 rcases h.2 with h1 | ⟨g, cap, cur, h1, h2, h3, h4⟩
 ·exact .inl h1
 ·refine .inr ⟨g, cap, cur, h1, h2, ?_, h4⟩
  have hg := (World.ownsRow.lt h g (by rw [h1]; rfl)).1
  rw [hu.block g (by omega)]; exact h3
theorem own_updN {W W' : World} {B n k : Nat} {v : Value} {l : List Rat} (h : OwnF W B v n l) (hu : Upd k W W') (hk : ∀ z, v.ownBlock = some z → z ≠ k) : OwnF W' B v n l := by
 refine ⟨h.1, ?_⟩
 rcases h.2 with h1 | ⟨g, cap, cur, h1, h2, h3, h4⟩
 ·exact .inl h1
 ·refine .inr ⟨g, cap, cur, h1, h2, ?_, h4⟩
  rw [hu.block g (hk g (by rw [h1]; rfl))]; exact h3
theorem own_cq {w : World} {B n : Nat} {v : Value} {l : List Rat} (h : OwnF w B v n l) (hn : n = l.length) : CQ w v l := by
 refine ⟨own_slq h hn, ?_⟩
 rcases h.2 with ⟨h1, h2⟩ | ⟨g, cap, cur, h1, h2, h3, h4, h5, h6, h7⟩
 ·exact ⟨none, 0, 0, h1, Nat.le_refl _⟩
 ·exact ⟨_, _, _, h1, by omega⟩
theorem own_formM {w : World} {B n : Nat} {v : Value} {l : List Rat} (h : OwnF w B v n l) : ∃ a c, v = .slice a n c := by
 rcases h.2 with ⟨h1, h2⟩ | ⟨g, cap, cur, h1, _⟩
 ·exact ⟨_, _, by rw [h1, h2]⟩
 ·exact ⟨_, _, h1⟩
/-- A slice that an operation has made. -/
def NSl (B : Nat) (c : List Value) (v : Value) (w : World) : Prop := ∃ g, v = .slice (some ⟨g, 0, none⟩) 1 1 ∧ B ≤ g ∧ Hd w g c
theorem stays_nsl (B : Nat) (c : List Value) : Stays (NSl B c) := fun _ _ _ hb ⟨g, h1, h2, h3⟩ => ⟨g, h1, h2, h3.below hb⟩
theorem nsl_mk {B : Nat} {c : List Value} {t : TypeId} {w : World} (h : B ≤ w.heap.size) : NSl B c (.slice (some ⟨w.heap.size, 0, none⟩) 1 1) (w.alloc (.cells c.toArray t)) := ⟨_, rfl, h, hd_new w c t⟩
/-- The matrix whose elements are given, with zeros for missing ones. -/
def someM (ql : List (Int × Int)) (r c : Nat) : Mx := ⟨r, c, tabV (r * c) (qE ql)⟩
theorem someM_gm {ql : List (Int × Int)} (h : ∀ p ∈ ql, QR p) (r c : Nat) : GM (someM ql r c) r c 1 := ⟨rfl, rfl, by unfold someM; exact tabV_len _ _, by unfold someM; exact tab_all fun i _ => qE_sz h i⟩
theorem msome_w (ql : List (Int × Int)) (r c nl : Nat) (zr zc : Int) (al : Option Addr) (cl : Nat) (hr : r ≤ 20) (hc : c ≤ 20) (hnl : nl ≤ 1000) (w : World) (hv : QV w (.slice al nl cl) ql) :
  Calls Tryz.prog 40 #[.agg #[.int .u8 zr, .int .u8 zc, .slice al nl cl], .int .i64 (r : Int), .int .i64 (c : Int)] w fun xe w' => ∃ u, xe = .returned u ∧ MT w' u (someM ql r c) ∧ Below w.heap.size w w' := by
 obtain ⟨m, hm⟩ : ∃ m, m = r * c := ⟨_, rfl⟩
 have hm4 : m ≤ 400 := by rw [hm]; exact Nat.mul_le_mul hr hc
 have hmul : (r : Int) * (c : Int) = (m : Int) := by rw [hm, Int.natCast_mul]
 have hm1 : (m : Int) ≤ 400 := by omega
 have hm0 : (0 : Int) ≤ (m : Int) := Int.natCast_nonneg _
 obtain ⟨qs, hqs⟩ : ∃ qs, qs = tabV m (qE ql) := ⟨_, rfl⟩
 have hlq : qs.length = m := by rw [hqs, tabV_len]
 have hti : ∀ i, i < m → qs.take (i + 1) = qs.take i ++ [qE ql i] := fun i hi => by
  have h9 : i < qs.length := by rw [hlq]; exact hi
  rw [List.take_succ_eq_append_getElem h9]
  congr 2
  simp only [hqs]
  exact tabV_get _
 have hsm : someM ql r c = ⟨r, c, qs⟩ := by unfold someM; rw [hqs, hm]
 rw [hsm]
 have hnb : (nl : Int) ≤ 1000 := by omega
 clear hsm hqs
 replace hm := Lib.hid hm
 replace hti := Lib.hid hti
 replace hlq := Lib.hid hlq
 replace hm4 := Lib.hid hm4
 have hL0 : GL w w [] := GL.start w
 obtain ⟨x0, hweq, hL0⟩ := GL.named (((hL0.new rfl [.int .u8 zr, .int .u8 zc, .slice al nl cl] 51).new (K := w.heap.size + 1) (szA _ _) [.int .i64 0, .int .i64 0, .slice none 0 0] 56).new (K := w.heap.size + 1 + 1) (by simp only [World.size_alloc]) [.int .i64 0, .int .i64 0, .slice none 0 0] 56)
 have hA := cells_of _ 0 [] rfl (hL0.get _ _ mZ)
 simp only [zF, Nat.reduceAdd] at hA
 have zf := (hL0.get _ _ mZ).frz
 have hPt := hL0.put 0 (w.heap.size + 1 + 1) _ rfl [.int .i64 (r : Int), .int .i64 (c : Int), .slice none 0 0] rfl
 simp only [setAll, List.set_cons_zero, List.set_cons_succ] at hPt
 generalize hput0 : (((x0.setCell ⟨w.heap.size + 1 + 1, 0, none⟩ (.int .i64 (r : Int))).setCell ⟨w.heap.size + 1 + 1, 1, none⟩ (.int .i64 (c : Int))).setCell ⟨w.heap.size + 1 + 1, 2, none⟩ (.slice none 0 0)) = x1 at hPt
 clear hL0
 have hL0 := hPt
 clear hPt
 have hkB := Lib.hid (show w.heap.size + 1 + 1 < x1.heap.size from (hL0.get _ _ mZ).lt)
 go_enter Tryz.func40, Tryz.ntmps40
 go_wp2_with fail
 clear hweq hA zf hput0
 obtain ⟨B, hB⟩ : ∃ B, B = x1.heap.size := ⟨_, rfl⟩
 rw [← hB] at hkB
 have hown0 : OwnF x1 B (.slice none 0 0) 0 (qs.take 0) := World.ownsRow_nil _ _ _ _
 have hBx := Lib.hid (Nat.le_of_eq hB)
 clear hB
 go_loopg [8] m (fun gk iv wr => ∃ (k : Nat) (zi : Int) (v : Value), k + gk = m ∧ iv = .int .i64 zi ∧ zi = (k : Int) ∧ OwnF wr B v k (qs.take k) ∧ B ≤ wr.heap.size ∧ GL w wr [(w.heap.size + 1 + 1, [.int .i64 (r : Int), .int .i64 (c : Int), v]), (w.heap.size + 1, [.int .i64 0, .int .i64 0, .slice none 0 0]), (w.heap.size, [.int .u8 zr, .int .u8 zc, .slice al nl cl])])
 case atStart => exact ⟨0, 0, _, Nat.zero_add m, by first | rfl | go_num, rfl, hown0, hBx.out, hL0⟩
 case round =>
  clear hL0 hown0 hBx
  obtain ⟨k, zi, v, hik, rfl, hzi, hown, hBz, hL0⟩ := hrel
  have hmm := hm4.out
  replace hown := Lib.hid hown
  rcases Nat.lt_or_ge k m with hin | hin
  ·subst hzi
   have k1 : (k : Int) < (m : Int) := by omega
   have k0 : (0 : Int) ≤ (k : Int) := Int.natCast_nonneg _
   have kb : (k : Int) ≤ 1000 := by omega
   have hkx0 : ∀ z, v.ownBlock = some z → z < wr.heap.size := fun z hz => (World.ownsRow.lt hown.out z hz).2
   have hb9 : Below wr.heap.size wr (wr.alloc (.cells #[.int .i64 0, .int .u32 0] 40)) := (Below.refl _ _).alloc (Nat.le_refl _) _
   replace hL0 := hL0.new rfl [.int .i64 0, .int .u32 0] 40
   replace hown := Lib.hid (own_below hown.out hb9)
   replace hBz := Lib.hid (Nat.le_trans hBz hb9.size)
   clear hb9
   generalize hweq : wr.alloc (.cells #[.int .i64 0, .int .u32 0] 40) = x2a at hL0 hown hBz
   replace hkx0 := Lib.hid hkx0
   have hA := cells_of _ 0 [] rfl (hL0.get _ _ mZ)
   simp only [zF, Nat.reduceAdd] at hA
   have zA := (hL0.get _ _ mZ).frz
   have hPt := hL0.put 0 (wr.heap.size) _ rfl [.int .i64 0, .int .u32 0] rfl
   simp only [setAll, List.set_cons_zero, List.set_cons_succ] at hPt
   have hup : Upd (wr.heap.size) x2a ((x2a.setCell ⟨wr.heap.size, 0, none⟩ (.int .i64 0)).setCell ⟨wr.heap.size, 1, none⟩ (.int .u32 0)) := ((Upd.refl (wr.heap.size) x2a).setCell 0 (.int .i64 0)).setCell 1 (.int .u32 0)
   generalize hput1 : (x2a.setCell ⟨wr.heap.size, 0, none⟩ (.int .i64 0)).setCell ⟨wr.heap.size, 1, none⟩ (.int .u32 0) = x2 at hPt hup
   replace hown := Lib.hid (own_updN hown.out hup fun z hz => Nat.ne_of_lt (hkx0.out z hz))
   replace hBz := Lib.hid (Nat.le_trans hBz.out (Nat.le_of_eq hup.size.symm))
   clear hL0 hup
   have hL0 := hPt
   clear hPt
   rcases Nat.lt_or_ge k nl with him | him
   ·have k2 : (k : Int) < (nl : Int) := by omega
    obtain ⟨ao, cc, e0, h1, h2, h3⟩ := id hv
    obtain ⟨rfl, hlen, rfl⟩ : al = ao ∧ nl = ql.length ∧ cl = cc := by simpa using e0
    obtain ⟨a, rfl, hsl⟩ := h3 (by omega)
    have hki : k < ql.length := by omega
    have e1 := (hsl.below hL0.bl).c0 k hki
    have e2 := (hsl.below hL0.bl).c1 k hki
    obtain ⟨⟨b1, b2⟩, b3, b4⟩ := hsl.rg ql[k] (List.getElem_mem hki)
    have HQ := qof_any ql[k].1 ql[k].2 b1 b2 b3 b4
    obtain ⟨q, hqq⟩ : ∃ q, q = qm ql[k] := ⟨_, rfl⟩
    rw [show qmade ql[k].1 ql[k].2.toNat = qm ql[k] from rfl, ← hqq] at HQ
    rw [← qE_in hki] at hqq
    generalize ql[k].1 = zn at *
    generalize ql[k].2 = zd at *
    replace HQ := Lib.hid HQ
    replace hqq := Lib.hid hqq
    rw [add_one] at e2
    clear hsl b1 b2 b3 b4 e0 h1 h2 h3 hlen hv
    have hA2 := cells_of _ 0 [] rfl (hL0.get _ _ mZ)
    simp only [zF, Nat.reduceAdd] at hA2
    have zA2 := (hL0.get _ _ mZ).frz
    have hC := cells_of _ 0 [] rfl (hL0.get _ _ (mK (mK (mK mZ))))
    simp only [zF, Nat.reduceAdd] at hC
    have hPt := hL0.put 0 (wr.heap.size) _ rfl [.int .i64 zn, .int .u32 zd] rfl
    simp only [setAll, List.set_cons_zero, List.set_cons_succ] at hPt
    have hup : Upd (wr.heap.size) x2 ((x2.setCell ⟨wr.heap.size, 0, none⟩ (.int .i64 zn)).setCell ⟨wr.heap.size, 1, none⟩ (.int .u32 zd)) := ((Upd.refl (wr.heap.size) x2).setCell 0 (.int .i64 zn)).setCell 1 (.int .u32 zd)
    generalize hput2 : (x2.setCell ⟨wr.heap.size, 0, none⟩ (.int .i64 zn)).setCell ⟨wr.heap.size, 1, none⟩ (.int .u32 zd) = x3 at hPt hup
    replace hown := Lib.hid (own_updN hown.out hup fun z hz => Nat.ne_of_lt (hkx0.out z hz))
    replace hBz := Lib.hid (Nat.le_trans hBz.out (Nat.le_of_eq hup.size.symm))
    clear hL0 hup
    have hL0 := hPt
    clear hPt
    go_upto_region 8 with fail
    clear hweq hput1 hput2 hA zA hA2 zA2 hC e1 e2
    refine region_tl 5 [EV (.pointer (some ⟨w.heap.size + 1 + 1, 2, none⟩)), EV v, EV (.agg #[.int .i64 zn, .int .u32 zd]), EV (.agg #[.int .u64 ((zl q.num : Nat) : Int), .string (zh q.num), .bool (zs q.num), .int .u64 ((lo (fe q) : Nat) : Int), .string (hs (fe q))]), NSl x3.heap.size [.int .u64 ((zl q.num : Nat) : Int), .string (zh q.num), .bool (zs q.num), .int .u64 ((lo (fe q) : Nat) : Int), .string (hs (fe q))]] (by kernel_rfl) (by kernel_rfl) ?_ ?_ ?_
    ·repeat' first | exact stays_nil | apply stays_cons | exact stays_eq _ | exact stays_nsl _ _
    ·simp only [List.take_succ_cons, List.take_zero, hopsR, and_true]
     refine ⟨?_, ?_, ?_, ?_, ?_⟩ <;> intro fv w1 hb1 hp
     all_goals (simp only [putsV, Act.put, zP, Nat.zero_add, Nat.reduceAdd])
     ·refine tyAt_none rfl ?_
      simp [tyUpon, execOp, go_sem, Act.eval, Below.refl]
     ·have h0 : EV _ (fv 0) w1 := hp 0 (LC (by kernel_rfl))
      refine tyAt_none rfl ?_
      have hc := cells_of _ 0 [] rfl ((hL0.call (below_drew hb1)).get _ _ (mK mZ))
      simp only [zF, Nat.reduceAdd] at hc
      simp [tyUpon, execOp, go_sem, Act.eval, h0, hc, Below.refl]
     ·refine tyAt_none rfl ?_
      have hc := cells_of _ 0 [] rfl ((hL0.call (below_drew hb1)).get _ _ mZ)
      simp only [zF, Nat.reduceAdd] at hc
      simp [tyUpon, execOp, go_sem, Act.eval, hc, Below.refl]
     ·have h2 : EV _ (fv 2) w1 := hp 2 (LC (by kernel_rfl))
      refine tyAt_none rfl ?_
      refine ty_call (f := 13) (args := #[(.agg #[.int .i64 zn, .int .u32 zd])]) (by simp [execOp, go_sem, Act.eval, h2]) ?_
      exact (HQ.out w1).mono fun e w2 ⟨h1, h2⟩ => ⟨_, h1, rfl, h2⟩
     ·have h3 : EV _ (fv 3) w1 := hp 3 (LC (by kernel_rfl))
      refine tyAt_none rfl ?_
      refine ty_val8 (u := .slice (some ⟨w1.heap.size, 0, none⟩) 1 1) (w' := w1.alloc (.cells #[.int .u64 ((zl q.num : Nat) : Int), .string (zh q.num), .bool (zs q.num), .int .u64 ((lo (fe q) : Nat) : Int), .string (hs (fe q))] 36)) (by simp [execOp, go_sem, Act.eval, h3]) ((Below.refl _ _).alloc (Nat.le_refl _) _) (nsl_mk (below_drew hb1).size)
    ·intro fv u1 hb1 hv
     have e0 : fv 0 = _ := hv 0 (by omega)
     have e1 : fv 1 = _ := hv 1 (by omega)
     have e2 : fv 2 = _ := hv 2 (by omega)
     have e3 : fv 3 = _ := hv 3 (by omega)
     obtain ⟨gn, e4, n4, m4⟩ := hv 4 (by omega)
     simp only [List.take_succ_cons, List.take_zero, putsV, Act.put, zP, List.drop_succ_cons, List.drop_zero, Nat.zero_add, Nat.reduceAdd, e0, e1, e2, e3, e4]
     have hbd := below_drew hb1
     replace hown := Lib.hid (own_below hown.out hbd)
     replace hL0 := (hL0.call hbd).weak (List.Sublist.cons _ (List.Sublist.refl _))
     have hBs := Lib.hid (Nat.le_trans hBz.out hbd.size)
     replace m4 := Lib.hid m4
     clear hb1 hv hbd e0 e1 e2 e3 e4 n4 HQ hBz
     go_wp2_with (at_builtin; refine wp_appendM rfl _ _ rfl B v k (qs.take k) rfl hown.out gn q rfl m4.out (by omega) hBs.out ?_)
     intro v' w5 hown5 hgrow hor
     have hL8 := gl_grown hL0 hgrow (fun z hz => ⟨Nat.le_trans (by have := hkB.out; omega) (World.ownsRow.lt hown.out z hz).1, fun p hp => by
      have h9 := (World.ownsRow.lt hown.out z hz).1
      have h7 := hkB.out
      simp only [List.mem_cons, List.not_mem_nil, or_false] at hp
      rcases hp with rfl | rfl | rfl <;> (show _ ≠ z; omega)⟩)
     have hB5 := Lib.hid (Nat.le_trans hBs.out hgrow.size)
     rw [hqq.out, ← hti.out k hin] at hown5
     clear hL0 hown hgrow hor m4 hBs
     obtain ⟨av5, cv5, rfl⟩ := own_formM hown5
     replace hown5 := Lib.hid hown5
     have hL0 := hL8
     clear hL8
     have hA := cells_of _ 0 [] rfl (hL0.get _ _ mZ)
     simp only [zF, Nat.reduceAdd] at hA
     have zf := (hL0.get _ _ mZ).frz
     have hPt := hL0.putn 0 (w.heap.size + 1 + 1) _ rfl 2 [.slice av5 (k + 1) cv5] (by simp)
     simp only [setAll, setCells, List.set_cons_zero, List.set_cons_succ] at hPt
     have hup : Upd (w.heap.size + 1 + 1) w5 (w5.setCell ⟨w.heap.size + 1 + 1, 2, none⟩ (.slice av5 (k + 1) cv5)) := (Upd.refl (w.heap.size + 1 + 1) w5).setCell 2 (.slice av5 (k + 1) cv5)
     generalize hput1 : w5.setCell ⟨w.heap.size + 1 + 1, 2, none⟩ (.slice av5 (k + 1) cv5) = w6 at hPt hup
     have hown6 := Lib.hid (own_updM hown5.out hup (by have := hkB.out; omega))
     have hB6 := Lib.hid (Nat.le_trans hB5.out (Nat.le_of_eq hup.size.symm))
     clear hL0 hown5 hup
     have hL0 := hPt
     clear hPt
     go_wp2_with fail
     go_roundg (m - (k + 1))
     case measure => omega
     case rel => exact ⟨k + 1, _, _, by omega, by first | rfl | go_num, by omega, hown6.out, hB6.out, hL0⟩
   ·have k2 : ¬ (k : Int) < (nl : Int) := by omega
    have HQ := qof_any 0 0 (by decide) (by decide) (by decide) (by decide)
    obtain ⟨q, hqq⟩ : ∃ q, q = qmade 0 (0 : Int).toNat := ⟨_, rfl⟩
    rw [← hqq] at HQ
    have hz0 : qE ql k = 0 := qE_out (by have := qv_len hv; omega)
    rw [show qmade 0 (0 : Int).toNat = 0 by decide +kernel, ← hz0] at hqq
    replace HQ := Lib.hid HQ
    replace hqq := Lib.hid hqq
    clear hz0 hv
    have hC := cells_of _ 0 [] rfl (hL0.get _ _ (mK (mK (mK mZ))))
    simp only [zF, Nat.reduceAdd] at hC
    go_upto_region 8 with fail
    clear hweq hput1 hC hA zA
    refine region_tl 5 [EV (.pointer (some ⟨w.heap.size + 1 + 1, 2, none⟩)), EV v, EV (.agg #[.int .i64 0, .int .u32 0]), EV (.agg #[.int .u64 ((zl q.num : Nat) : Int), .string (zh q.num), .bool (zs q.num), .int .u64 ((lo (fe q) : Nat) : Int), .string (hs (fe q))]), NSl x2.heap.size [.int .u64 ((zl q.num : Nat) : Int), .string (zh q.num), .bool (zs q.num), .int .u64 ((lo (fe q) : Nat) : Int), .string (hs (fe q))]] (by kernel_rfl) (by kernel_rfl) ?_ ?_ ?_
    ·repeat' first | exact stays_nil | apply stays_cons | exact stays_eq _ | exact stays_nsl _ _
    ·simp only [List.take_succ_cons, List.take_zero, hopsR, and_true]
     refine ⟨?_, ?_, ?_, ?_, ?_⟩ <;> intro fv w1 hb1 hp
     all_goals (simp only [putsV, Act.put, zP, Nat.zero_add, Nat.reduceAdd])
     ·refine tyAt_none rfl ?_
      simp [tyUpon, execOp, go_sem, Act.eval, Below.refl]
     ·have h0 : EV _ (fv 0) w1 := hp 0 (LC (by kernel_rfl))
      refine tyAt_none rfl ?_
      have hc := cells_of _ 0 [] rfl ((hL0.call (below_drew hb1)).get _ _ (mK mZ))
      simp only [zF, Nat.reduceAdd] at hc
      simp [tyUpon, execOp, go_sem, Act.eval, h0, hc, Below.refl]
     ·refine tyAt_none rfl ?_
      have hc := cells_of _ 0 [] rfl ((hL0.call (below_drew hb1)).get _ _ mZ)
      simp only [zF, Nat.reduceAdd] at hc
      simp [tyUpon, execOp, go_sem, Act.eval, hc, Below.refl]
     ·have h2 : EV _ (fv 2) w1 := hp 2 (LC (by kernel_rfl))
      refine tyAt_none rfl ?_
      refine ty_call (f := 13) (args := #[(.agg #[.int .i64 0, .int .u32 0])]) (by simp [execOp, go_sem, Act.eval, h2]) ?_
      exact (HQ.out w1).mono fun e w2 ⟨h1, h2⟩ => ⟨_, h1, rfl, h2⟩
     ·have h3 : EV _ (fv 3) w1 := hp 3 (LC (by kernel_rfl))
      refine tyAt_none rfl ?_
      refine ty_val8 (u := .slice (some ⟨w1.heap.size, 0, none⟩) 1 1) (w' := w1.alloc (.cells #[.int .u64 ((zl q.num : Nat) : Int), .string (zh q.num), .bool (zs q.num), .int .u64 ((lo (fe q) : Nat) : Int), .string (hs (fe q))] 36)) (by simp [execOp, go_sem, Act.eval, h3]) ((Below.refl _ _).alloc (Nat.le_refl _) _) (nsl_mk (below_drew hb1).size)
    ·intro fv u1 hb1 hv
     have e0 : fv 0 = _ := hv 0 (by omega)
     have e1 : fv 1 = _ := hv 1 (by omega)
     have e2 : fv 2 = _ := hv 2 (by omega)
     have e3 : fv 3 = _ := hv 3 (by omega)
     obtain ⟨gn, e4, n4, m4⟩ := hv 4 (by omega)
     simp only [List.take_succ_cons, List.take_zero, putsV, Act.put, zP, List.drop_succ_cons, List.drop_zero, Nat.zero_add, Nat.reduceAdd, e0, e1, e2, e3, e4]
     have hbd := below_drew hb1
     replace hown := Lib.hid (own_below hown.out hbd)
     replace hL0 := (hL0.call hbd).weak (List.Sublist.cons _ (List.Sublist.refl _))
     have hBs := Lib.hid (Nat.le_trans hBz.out hbd.size)
     replace m4 := Lib.hid m4
     clear hb1 hv hbd e0 e1 e2 e3 e4 n4 HQ hBz
     go_wp2_with (at_builtin; refine wp_appendM rfl _ _ rfl B v k (qs.take k) rfl hown.out gn q rfl m4.out (by omega) hBs.out ?_)
     intro v' w5 hown5 hgrow hor
     have hL8 := gl_grown hL0 hgrow (fun z hz => ⟨Nat.le_trans (by have := hkB.out; omega) (World.ownsRow.lt hown.out z hz).1, fun p hp => by
      have h9 := (World.ownsRow.lt hown.out z hz).1
      have h7 := hkB.out
      simp only [List.mem_cons, List.not_mem_nil, or_false] at hp
      rcases hp with rfl | rfl | rfl <;> (show _ ≠ z; omega)⟩)
     have hB5 := Lib.hid (Nat.le_trans hBs.out hgrow.size)
     rw [hqq.out, ← hti.out k hin] at hown5
     clear hL0 hown hgrow hor m4 hBs
     obtain ⟨av5, cv5, rfl⟩ := own_formM hown5
     replace hown5 := Lib.hid hown5
     have hL0 := hL8
     clear hL8
     have hA := cells_of _ 0 [] rfl (hL0.get _ _ mZ)
     simp only [zF, Nat.reduceAdd] at hA
     have zf := (hL0.get _ _ mZ).frz
     have hPt := hL0.putn 0 (w.heap.size + 1 + 1) _ rfl 2 [.slice av5 (k + 1) cv5] (by simp)
     simp only [setAll, setCells, List.set_cons_zero, List.set_cons_succ] at hPt
     have hup : Upd (w.heap.size + 1 + 1) w5 (w5.setCell ⟨w.heap.size + 1 + 1, 2, none⟩ (.slice av5 (k + 1) cv5)) := (Upd.refl (w.heap.size + 1 + 1) w5).setCell 2 (.slice av5 (k + 1) cv5)
     generalize hput1 : w5.setCell ⟨w.heap.size + 1 + 1, 2, none⟩ (.slice av5 (k + 1) cv5) = w6 at hPt hup
     have hown6 := Lib.hid (own_updM hown5.out hup (by have := hkB.out; omega))
     have hB6 := Lib.hid (Nat.le_trans hB5.out (Nat.le_of_eq hup.size.symm))
     clear hL0 hown5 hup
     have hL0 := hPt
     clear hPt
     go_wp2_with fail
     go_roundg (m - (k + 1))
     case measure => omega
     case rel => exact ⟨k + 1, _, _, by omega, by first | rfl | go_num, by omega, hown6.out, hB6.out, hL0⟩
  ·obtain rfl : k = m := by omega
   subst hzi
   have k1 : ¬ (k : Int) < (k : Int) := by omega
   rw [List.take_of_length_le (Nat.le_of_eq hlq.out)] at hown
   obtain ⟨av, cv, rfl⟩ := own_formM hown.out
   have hA := cells_of _ 0 [] rfl (hL0.get _ _ mZ)
   simp only [zF, Nat.reduceAdd] at hA
   have hC := cells_of _ 0 [] rfl (hL0.get _ _ (mK mZ))
   simp only [zF, Nat.reduceAdd] at hC
   have zC := (hL0.get _ _ (mK mZ)).frz
   have hPt := hL0.put 1 (w.heap.size + 1) _ rfl [.int .i64 (r : Int), .int .i64 (c : Int), .slice av k cv] rfl
   simp only [setAll, List.set_cons_zero, List.set_cons_succ] at hPt
   have hup : Upd (w.heap.size + 1) wr ((((wr.setCell ⟨w.heap.size + 1, 0, none⟩ (.int .i64 (r : Int))).setCell ⟨w.heap.size + 1, 1, none⟩ (.int .i64 (c : Int))).setCell ⟨w.heap.size + 1, 2, none⟩ (.slice av k cv))) := (((Upd.refl (w.heap.size + 1) wr).setCell 0 (.int .i64 (r : Int))).setCell 1 (.int .i64 (c : Int))).setCell 2 (.slice av k cv)
   generalize hput1 : (((wr.setCell ⟨w.heap.size + 1, 0, none⟩ (.int .i64 (r : Int))).setCell ⟨w.heap.size + 1, 1, none⟩ (.int .i64 (c : Int))).setCell ⟨w.heap.size + 1, 2, none⟩ (.slice av k cv)) = y9 at hPt hup
   have hB1 := cells_of _ 0 [] rfl (hPt.get _ _ (mK mZ))
   simp only [zF, Nat.reduceAdd] at hB1
   have hcq := Lib.hid (own_cq (own_updM hown.out hup (by have := hkB.out; omega)) hlq.out.symm)
   clear hL0 hown hup
   go_wp2_with fail
   exact bodyPost_ret (v := .agg #[.int .i64 (r : Int), .int .i64 (c : Int), .slice av k cv]) (by simp [results, Tryz.results40, go_sem, hB1]) rfl ⟨_, rfl, ⟨_, rfl, hcq.out⟩, hPt.bl⟩
end Go.Proofs.YthffglapmkkohaaGreatDoor
namespace Go.Proofs.YthffglapmkkohaaGreatDoor
open Go.RowKit
theorem gm_rows {x : Mx} {n k K : Nat} (gx : GM x n k K) : ∀ i, i < n → ∀ j, j < k → Sz (rowsE x i j) K := fun i hi j hj => by
 unfold rowsE
 rw [if_pos (by rw [gx.c]; exact hj)]
 exact gx.at i j hi hj
end Go.Proofs.YthffglapmkkohaaGreatDoor
namespace Go.Proofs.YthffglapmkkohaaGreatDoor
open Go.RowKit
/-- The sums of the first vectors with weights, upon a first vector. -/
def smK (Z : Nat → Rat) (W : Nat → Rat) (V : Nat → Nat → Rat) : Nat → Nat → Rat
 | 0 => Z
 | i + 1 => fun j => W i * V i j + smK Z W V i j
theorem smK_sz {Z : Nat → Rat} {W : Nat → Rat} {V : Nat → Nat → Rat} {m c S T : Nat} (hZ : ∀ j, j < c → Sz (Z j) T) (hW : ∀ i, i < m → Sz (W i) 1) (hV : ∀ i, i < m → ∀ j, j < c → Sz (V i j) S) : ∀ i, i ≤ m → ∀ j, j < c → Sz (smK Z W V i j) (i * (S + 2) + T)
 | 0, _, j, hj => (hZ j hj).mono (by omega)
 | i + 1, hi, j, hj => (((hW i (by omega)).mul (hV i (by omega) j hj)).add (smK_sz hZ hW hV i (by omega) j hj)).mono (by rw [Nat.add_mul]; omega)
theorem smK_app {Z : Nat → Rat} {W : Nat → Rat} {V : Nat → Nat → Rat} {m c : Nat} (E : Nat → Rat) (h : ∀ i, i < m → (bsV c fun t => E t * V i t) = 0) : ∀ i, i ≤ m → (bsV c fun t => E t * smK Z W V i t) = bsV c fun t => E t * Z t
 | 0, _ => rfl
 | i + 1, hi => by
  have e : (bsV c fun t => E t * smK Z W V (i + 1) t) = W i * (bsV c fun t => E t * V i t) + bsV c fun t => E t * smK Z W V i t := by
   rw [← bs_mul, ← bs_add]
   refine bs_congr fun t _ => ?_
   show E t * (W i * V i t + smK Z W V i t) = _
   grind
  rw [e, h i (by omega), smK_app E h i (by omega)]
  grind
/-- The pivots, the reduced form, the columns without pivots, the kernel's vectors. -/
def dsX (x : Mx) : ES := descE x.r ⟨rowsE x, [], 1⟩ x.c
def pvX (x : Mx) : List Nat := (dsX x).pv
def rdX (x : Mx) : Gd := ascE (dsX x).pv (dsX x).G (dsX x).pv.length
def frX (x : Mx) : List Nat := freeL (pvX x) x.c
def kvX (x : Mx) (i : Nat) : Nat → Rat := kvE (pvX x) (rdX x) ((frX x).getD i 0)
theorem redX {x : Mx} {n k K : Nat} (gx : GM x n k K) : Red n k (pvX x) (rdX x) ∧ Span n (rowsE x) (rdX x) ∧ Span n (rdX x) (rowsE x) := by
 have := red_ok n k (rowsE x)
 unfold pvX rdX dsX
 rw [gx.r, gx.c]
 exact this
theorem fr_mem {x : Mx} {i : Nat} (hi : i < (frX x).length) : (frX x).getD i 0 < x.c ∧ (frX x).getD i 0 ∉ pvX x := by
 rw [List.getD_eq_getElem?_getD, List.getElem?_eq_getElem hi]
 exact free_mem.1 (List.getElem_mem hi)
theorem ker_app {x : Mx} {n k K : Nat} (gx : GM x n k K) {i : Nat} (hi : i < (frX x).length) (r : Nat) (hr : r < n) : (bsV k fun t => ent x r t * kvX x i t) = 0 := by
 obtain ⟨h1, h2, h3⟩ := redX gx
 obtain ⟨f1, f2⟩ := fr_mem hi
 rw [gx.c] at f1
 have h4 := (ker_iff h2 h3 (kvX x i)).2 (fun r hr => h1.ker f1 f2 r hr) r hr
 refine Eq.trans (bs_congr fun t ht => ?_) h4
 show ent x r t * _ = (if t < x.c then ent x r t else 0) * _
 rw [if_pos (by rw [gx.c]; exact ht)]
theorem fr_len {x : Mx} {n k K : Nat} (gx : GM x n k K) : (pvX x).length + (frX x).length = k := by
 obtain ⟨h1, -, -⟩ := redX gx
 have := free_len (c := k) h1.nodup (fun z hz => by
  obtain ⟨i, hi, rfl⟩ := List.getElem_of_mem hz
  exact h1.lt i hi)
 unfold frX
 rw [gx.c]
 omega
theorem fr_inj {x : Mx} {a b : Nat} (ha : a < (frX x).length) (hb : b < (frX x).length) (e : (frX x).getD a 0 = (frX x).getD b 0) : a = b := by
 rw [List.getD_eq_getElem?_getD, List.getD_eq_getElem?_getD, List.getElem?_eq_getElem ha, List.getElem?_eq_getElem hb] at e
 exact (List.getElem_inj (List.Nodup.sublist List.filter_sublist List.nodup_range)).1 e
/-- At its column a vector of the kernel is 1, at the others' 0. -/
theorem kv_at {x : Mx} {i l : Nat} (hi : i < (frX x).length) (hl : l < (frX x).length) : kvX x i ((frX x).getD l 0) = if l = i then 1 else 0 := by
 unfold kvX kvE
 by_cases e : l = i
 ·subst e; rw [if_pos rfl, if_pos rfl]
 ·rw [if_neg fun h => e (fr_inj hl hi h), if_neg (fr_mem hl).2, if_neg e]
theorem kv_sz {pv : List Nat} {G : Gd} {S c k j : Nat} (hS : ∀ i, i < pv.length → ∀ j, j < c → Sz (G i j) S) (hS1 : 1 ≤ S) (hk : k < c) : Sz (kvE pv G k j) S := by
 unfold kvE
 split
 ·exact (szc 1 (by decide) (by decide)).mono hS1
 ·split
  ·rename_i h
   exact (hS _ (List.idxOf_lt_length_iff.2 h) k hk).neg
  ·exact (szc 0 (by decide) (by decide)).mono hS1
theorem asc_sz {R n c P K B : Nat} {G : Gd} {D : ES} (hD : descE R ⟨G, [], 1⟩ c = D) (h : ∀ i, i < R → ∀ j, j < n → Sz (G i j) K) (hK : 1 ≤ K) (hc : c ≤ n) (hp : D.pv.length ≤ P) (b : ueE (2 * kdE K (P - 1)) (P - 1) ≤ B) : ∀ i, i < D.pv.length → ∀ j, j < n → Sz (ascE D.pv D.G D.pv.length i j) B := fun i hi j hj => by
 have hO := (desc_ok (R := R) G 1 c).1
 have hz := SzI.desc h hK c hc
 rw [hD] at hO hz
 obtain ⟨lo, up, f⟩ := hz
 have m2 := kd_mono K (show D.pv.length - 1 ≤ P - 1 by omega)
 obtain ⟨a1, a2⟩ := asc_rows (R := R) (n := n) hO.le (fun i hi j hj => up i hi (by have := hO.le; omega) j hj) (fun r hr => by have := hO.lt r hr; omega) _ (Nat.le_refl _)
 have u1 := ue_mono2 (show 2 * kdE K (D.pv.length - 1) ≤ 2 * kdE K (P - 1) by omega) (min D.pv.length (D.pv.length - 1))
 have u2 := ue_mono (2 * kdE K (P - 1)) (show min D.pv.length (D.pv.length - 1) ≤ P - 1 by omega)
 exact (a1 i hi j hj).mono (by omega)
/-- The kernel's vectors of a matrix of words with at most six columns. -/
theorem kvX_sz {x : Mx} {n k : Nat} (gx : GM x n k 1) (hk : k ≤ 6) {i : Nat} (hi : i < (frX x).length) (j : Nat) : Sz (kvX x i j) 55282 := by
 have hl := fr_len gx
 obtain ⟨f1, -⟩ := fr_mem hi
 refine kv_sz (c := x.c) (fun r hr j hj => ?_) (by omega) f1
 exact asc_sz (R := x.r) (n := x.c) (K := 1) (P := 5) rfl (fun i hi j hj => gm_rows gx i (by rw [← gx.r]; exact hi) j (by rw [← gx.c]; exact hj)) (Nat.le_refl 1) (Nat.le_refl _) (show (pvX x).length ≤ 5 by omega) (by decide) r hr j hj
section
variable {x : Mx} {n k : Nat} (gx : GM x n k 1) (hn : n ≤ 12) (hk : k ≤ 6)
include gx hn hk
theorem ApplyE {v z : List Rat} {M : Nat} (hv : v.length = k) (sv : ∀ q ∈ v, Sz q M) (hM : M ≤ 700000) (hM1 : 1 ≤ M) (hz : appV n k x v = z) (u s : Value) (w : World) (hu : MT w u x) (hs : PT w s v) :
  Calls Tryz.prog 48 #[u, s] w fun e w' => ∃ pv, e = .returned (.tuple #[pv, .int .i64 0]) ∧ PT w' pv z ∧ Below w.heap.size w w' := by
 have ox := gx.ok (by omega) (by omega)
 have sx := (gx.mono hM1).sz
 obtain ⟨rfl, rfl, -, -⟩ := gx
 obtain ⟨u1, rfl, hu⟩ := hu
 refine (mApplyV x v M ox hv (by omega) (mul9 hk (show M + M + 1 ≤ 1400001 by omega) (by omega)) (by omega) sx sv u1 s w hu hs).mono ?_
 rintro e w' ⟨t, rfl, h1, hb⟩
 rw [← hz]
 exact ⟨_, rfl, h1.slq, hb⟩
theorem KernE (u : Value) (w : World) (h : MT w u x) :
  Calls Tryz.prog 44 #[u] w fun e w' => (∃ v, e = .returned (.tuple #[v, .int .i64 0]) ∧ VLs w' v ((List.range (frX x).length).map fun i => tabV k (kvX x i))) ∧ Below w.heap.size w w' := by
 obtain ⟨u1, rfl, hu⟩ := h
 refine (ekern_w x (gx.ok (by omega) (by omega)) 663511 (by rw [gx.r, gx.c]; exact esz_six (gm_rows gx) (by omega) (by omega) (by omega) (Nat.le_refl _)) _ rfl u1 w hu).mono ?_
 rintro e w' ⟨⟨v, rfl, hv⟩, hb⟩
 refine ⟨⟨v, rfl, ?_⟩, hb⟩
 have e : ((List.range (frX x).length).map fun i => tabV k (kvX x i)) = (freeL (dsX x).pv x.c).map fun j => tabV x.c (kvE (dsX x).pv (ascE (dsX x).pv (dsX x).G (dsX x).pv.length) j) := by
  rw [gx.c]
  refine List.ext_getElem (by simp [frX, pvX, gx.c]) fun a h1 h2 => ?_
  have ha : a < (frX x).length := by simpa using h1
  rw [List.getElem_map, List.getElem_map, List.getElem_range]
  unfold kvX
  rw [List.getD_eq_getElem?_getD, List.getElem?_eq_getElem ha]
  simp only [frX, pvX, rdX, gx.c, Option.getD_some]
 rw [e]
 exact hv
theorem RedE9 (u : Value) (w : World) (h : MT w u x) :
  Calls Tryz.prog 45 #[u] w fun e w' => (∃ b N s, e = .returned (.tuple #[.agg #[.int .i64 (n : Int), .int .i64 (k : Int), .slice (some ⟨b, 0, none⟩) N N], s, .int .i64 0]) ∧ ILs w' s ((pvX x).map Int.ofNat)) ∧ Below w.heap.size w w' := by
 obtain ⟨u1, rfl, hu⟩ := h
 have h72 : x.r * x.c ≤ 12 * 6 := Nat.mul_le_mul (by rw [gx.r]; exact hn) (by rw [gx.c]; exact hk)
 refine (ereduce_w x (gx.ok (by omega) (by omega)) 663511 (by rw [gx.r, gx.c]; exact esz_six (gm_rows gx) (by omega) (by omega) (by omega) (Nat.le_refl _)) _ rfl u1 w hu (by omega)).mono ?_
 rintro e w' ⟨⟨b, s, rfl, -, hs⟩, hb⟩
 exact ⟨⟨b, x.r * x.c, s, by rw [gx.r, gx.c], hs⟩, hb⟩
end
theorem AxpyE {c : Rat} {x y z : List Rat} {n M : Nat} (hx : x.length = n) (hy : y.length = n) (hn : n ≤ 2048) (hM : M ≤ 1000000) (sc : Sz c M) (sx : ∀ q ∈ x, Sz q M) (sy : ∀ q ∈ y, Sz q M) (hz : (tabV n fun i => c * gv x i + gv y i) = z) (p q : Value) (w : World) (hp : PT w p x) (hq : PT w q y) :
  Calls Tryz.prog 47 #[fracV c, p, q] w fun e w' => ∃ pv, e = .returned (.tuple #[pv, .int .i64 0]) ∧ PT w' pv z ∧ Below w.heap.size w w' := by
 refine (vaxpyV c x y n M hx hy hn hM sc sx sy p q w hp hq).mono ?_
 rintro e w' ⟨t, rfl, h1, hb⟩
 rw [← hz]
 exact ⟨_, rfl, h1.slq, hb⟩
theorem nul_len9 (n : Nat) : (nulL n).length = n := tabV_len _ _
end Go.Proofs.YthffglapmkkohaaGreatDoor
namespace Go.Proofs.YthffglapmkkohaaGreatDoor
open Go.RowKit
attribute [local irreducible] lo hs sm s64 c64 d64 b64 mh ml pd pc qd qc val hiB str cmpI srD lz nb zl zh zs fe rowV tabV gv bsV tabM turM mulM sumM oneM appV formM dotL sumL mulL nulL kvX smK pvX rdX frX
theorem vl_form9 {w : World} {v : Value} {m k : Nat} {V : Nat → Nat → Rat} (h : VLs w v ((List.range m).map fun i => tabV k (V i))) : ∃ ao c, v = .slice ao m c ∧ ∀ i, i < m → ∃ g u, ao = some ⟨g, 0, none⟩ ∧ w.cell? ⟨g, i, none⟩ = some u ∧ SlQ w u (tabV k (V i)) := by
 obtain ⟨ao, c, g, rfl, h1, h2⟩ := h
 have hl : ((List.range m).map fun i => tabV k (V i)).length = m := by simp
 refine ⟨ao, c, by rw [hl], fun i hi => ?_⟩
 obtain ⟨u, h3, h4⟩ := h2 i (by rw [hl]; exact hi)
 rw [List.getElem_map, List.getElem_range] at h4
 exact ⟨g, u, (h1 (by rw [hl]; omega)).1, h3, h4⟩
theorem il_form9 {w : World} {v : Value} {pv : List Nat} {n : Nat} (h : ILs w v (pv.map Int.ofNat)) (hn : pv.length = n) : ∃ ao c, v = .slice ao n c ∧ ∀ i, (hi : i < pv.length) → ∃ g, ao = some ⟨g, 0, none⟩ ∧ w.cell? ⟨g, i, none⟩ = some (.int .i64 (pv[i] : Int)) := by
 obtain ⟨ao, c, g, rfl, h1, h2⟩ := h
 have hl : (pv.map Int.ofNat).length = n := by simp [hn]
 refine ⟨ao, c, by rw [hl], fun i hi => ?_⟩
 have h3 := h2 i (by rw [hl]; omega)
 rw [List.getElem_map] at h3
 exact ⟨g, (h1 (by rw [hl]; omega)).1, h3⟩
theorem slq_fsE {w : World} {g n c : Nat} {l : List Rat} (h : SlQ w (.slice (some ⟨g, 0, none⟩) n c) l) (h0 : 0 < l.length) : FS w g l := by
 obtain ⟨g2, e, _, f⟩ := slq_pos h h0
 obtain rfl : g = g2 := by simpa using e
 exact f
theorem mem_take9 {pv : List Nat} {j p : Nat} (hp : p < pv.length) : j ∈ pv.take (p + 1) ↔ j ∈ pv.take p ∨ pv[p] = j := by
 rw [List.take_succ_eq_append_getElem hp, List.mem_append, List.mem_singleton]
 constructor
 ·rintro (h | h); exact .inl h; exact .inr h.symm
 ·rintro (h | h); exact .inl h; exact .inr h.symm
end Go.Proofs.YthffglapmkkohaaGreatDoor
