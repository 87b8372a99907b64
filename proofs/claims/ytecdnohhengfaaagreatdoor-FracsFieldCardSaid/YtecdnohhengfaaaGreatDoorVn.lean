/-
  Layer 3, law: FracsField.
-/
import Derived.Test.YtecdnohhengfaaaGreatDoorZf
import Derived.ChangeMaps5
set_option linter.unusedVariables false
set_option linter.unusedSimpArgs false
namespace Go.Proofs.YtecdnohhengfaaaGreatDoor
open Go.RowKit
attribute [local irreducible] lo hs sm s64 c64 d64 b64 mh ml pd pc qd qc val hiB str cmpI srD lz nb isq decB zl zh zs

set_option maxHeartbeats 16000000 in
set_option maxRecDepth 100000 in
theorem ffield_big_w (sx sy sz : Bool) (ax qx ay qy az qz : Option Addr) (nx cx mx dx ny cy my dy nz cz mz dz : Nat) (KW : World → Prop) (hKW : Keeps KW) (HW : ∀ w, KW w → Calls Tryz.prog 57 #[] w fun xe w' => xe = .returned (.bool true) ∧ Below w.heap.size w w') (hfew : decide (nx ≤ 5 ∧ mx ≤ 5 ∧ ny ≤ 5 ∧ my ≤ 5 ∧ nz ≤ 5 ∧ mz ≤ 5) = false) (w : World) (kKW : KW w) :
    Calls Tryz.prog 9 #[.agg #[.bool sx, .slice ax nx cx, .slice qx mx dx], .agg #[.bool sy, .slice ay ny cy, .slice qy my dy], .agg #[.bool sz, .slice az nz cz, .slice qz mz dz]] w fun xe w' => xe = .returned (.bool true) ∧ Below w.heap.size w w' := by
  have hL0 : GL w w [] := GL.start w
  replace hKW := Lib.hid hKW
  replace HW := Lib.hid HW
  replace hL0 := ((((hL0.new rfl [.bool sx, .slice ax nx cx, .slice qx mx dx] 76).new (K := w.heap.size + 1) (szA _ _) [.bool sy, .slice ay ny cy, .slice qy my dy] 76).new (K := w.heap.size + 1 + 1) (by simp only [World.size_alloc]) [.bool sz, .slice az nz cz, .slice qz mz dz] 76).new (K := w.heap.size + 1 + 1 + 1) (by simp only [World.size_alloc]) [.bool sx, .slice ax nx cx, .slice qx mx dx, .bool sy, .slice ay ny cy, .slice qy my dy, .bool sz, .slice az nz cz, .slice qz mz dz] 76)
  generalize hweq : ((((w.alloc (.cells #[.bool sx, .slice ax nx cx, .slice qx mx dx] 76)).alloc (.cells #[.bool sy, .slice ay ny cy, .slice qy my dy] 76)).alloc (.cells #[.bool sz, .slice az nz cz, .slice qz mz dz] 76)).alloc (.cells #[.bool sx, .slice ax nx cx, .slice qx mx dx, .bool sy, .slice ay ny cy, .slice qy my dy, .bool sz, .slice az nz cz, .slice qz mz dz] 76)) = x1 at hL0
  go_enter Tryz.func9, Tryz.ntmps9
  have hN0 := cells_of _ 0 [] rfl (hL0.get _ _ (List.mem_cons_of_mem _ List.mem_cons_self))
  simp only [cellsF, and_true, Nat.zero_add, Nat.reduceAdd] at hN0
  have hN1 := cells_of _ 0 [] rfl (hL0.get _ _ (List.mem_cons_of_mem _ (List.mem_cons_of_mem _ List.mem_cons_self)))
  simp only [cellsF, and_true, Nat.zero_add, Nat.reduceAdd] at hN1
  have hN2 := cells_of _ 0 [] rfl (hL0.get _ _ (List.mem_cons_of_mem _ (List.mem_cons_of_mem _ (List.mem_cons_of_mem _ List.mem_cons_self))))
  simp only [cellsF, and_true, Nat.zero_add, Nat.reduceAdd] at hN2
  have HFw := gfew3 5 5 rfl (by omega) (hL0.get _ _ List.mem_cons_self)
  rw [hfew] at HFw
  replace HFw := Lib.hid HFw
  go_wp2_with fail
  with_reducible refine Calls.mono (HFw.out) ?_
  rintro e x2 ⟨rfl, rfl⟩
  clear HFw
  clear hN0 hN1 hN2
  go_wp2_with fail
  with_reducible refine Calls.mono (HW.out _ (hKW.out.at hL0.bl kKW)) ?_
  rintro e x3 ⟨rfl, hb⟩
  replace hL0 := hL0.call hb
  clear hb hweq
  go_wp2_with fail
  exact bodyPost_ret (v := .bool true) (by simp [results, Tryz.results9, go_sem]) rfl ⟨rfl, hL0.bl⟩

theorem ffield_big (sx sy sz : Bool) (ax qx ay qy az qz : Option Addr) (nx cx mx dx ny cy my dy nz cz mz dz : Nat) (lx kx ly ky lz kz : List Nat) (h : ¬ (nx ≤ 5 ∧ mx ≤ 5 ∧ ny ≤ 5 ∧ my ≤ 5 ∧ nz ≤ 5 ∧ mz ≤ 5)) (w : World) (htab : Tab w) (hm : MaxL w) (hwx : Ws w (.slice ax nx cx) lx) (hvx : Ws w (.slice qx mx dx) kx) (hwy : Ws w (.slice ay ny cy) ly) (hvy : Ws w (.slice qy my dy) ky) (hwz : Ws w (.slice az nz cz) lz) (hvz : Ws w (.slice qz mz dz) kz) :
    Calls Tryz.prog 9 #[.agg #[.bool sx, .slice ax nx cx, .slice qx mx dx], .agg #[.bool sy, .slice ay ny cy, .slice qy my dy], .agg #[.bool sz, .slice az nz cz, .slice qz mz dz]] w fun xe w' => xe = .returned (.bool true) ∧ Below w.heap.size w w' := by
  have HW := fun w (h : Tab w ∧ MaxL w) => fworks_any w h.1 h.2
  exact ffield_big_w sx sy sz ax qx ay qy az qz nx cx mx dx ny cy my dy nz cz mz dz  _ (Keeps.and Keeps.tab MaxL.keeps) HW (decide_eq_false h) w ⟨htab, hm⟩

theorem sgnQ_ne {b : Rat} (hb : b ≠ 0) : (sgnQ b == 0) = false := by rw [sgnQ_eq0]; exact decide_eq_false hb
set_option maxHeartbeats 16000000 in
set_option maxRecDepth 100000 in
theorem ffield_pos_w (sx sy sz : Bool) (ax qx ay qy az qz : Option Addr) (nx cx mx dx ny cy my dy nz cz mz dz : Nat) (a : Rat) (b : Rat) (c : Rat) (r1 : Rat) (r2 : Rat) (r3 : Rat) (r4 : Rat) (r5 : Rat) (r6 : Rat) (r7 : Rat) (r8 : Rat) (i1 : Int) (r9 : Rat) (i2 : Int) (r10 : Rat) (i3 : Int) (i4 : Int) (i5 : Int) (i6 : Int) (Kx : World → Prop) (hKx : Keeps Kx) (Gx : ∀ w, Kx w → Calls Tryz.prog 58 #[.agg #[.bool sx, .slice ax nx cx, .slice qx mx dx]] w fun xe w' => xe = .returned (.agg #[.int .u64 ((zl a.num : Nat) : Int), .string (zh a.num), .bool (zs a.num), .int .u64 ((lo (fe a) : Nat) : Int), .string (hs (fe a))]) ∧ Below w.heap.size w w') (Ky : World → Prop) (hKy : Keeps Ky) (Gy : ∀ w, Ky w → Calls Tryz.prog 58 #[.agg #[.bool sy, .slice ay ny cy, .slice qy my dy]] w fun xe w' => xe = .returned (.agg #[.int .u64 ((zl b.num : Nat) : Int), .string (zh b.num), .bool (zs b.num), .int .u64 ((lo (fe b) : Nat) : Int), .string (hs (fe b))]) ∧ Below w.heap.size w w') (Kz : World → Prop) (hKz : Keeps Kz) (Gz : ∀ w, Kz w → Calls Tryz.prog 58 #[.agg #[.bool sz, .slice az nz cz, .slice qz mz dz]] w fun xe w' => xe = .returned (.agg #[.int .u64 ((zl c.num : Nat) : Int), .string (zh c.num), .bool (zs c.num), .int .u64 ((lo (fe c) : Nat) : Int), .string (hs (fe c))]) ∧ Below w.heap.size w w') (H1 : ∀ w, Calls Tryz.prog 64 #[.agg #[.int .u64 ((zl a.num : Nat) : Int), .string (zh a.num), .bool (zs a.num), .int .u64 ((lo (fe a) : Nat) : Int), .string (hs (fe a))], .agg #[.int .u64 ((zl b.num : Nat) : Int), .string (zh b.num), .bool (zs b.num), .int .u64 ((lo (fe b) : Nat) : Int), .string (hs (fe b))]] w fun xe w' => xe = .returned (.agg #[.int .u64 ((zl r1.num : Nat) : Int), .string (zh r1.num), .bool (zs r1.num), .int .u64 ((lo (fe r1) : Nat) : Int), .string (hs (fe r1))]) ∧ Below w.heap.size w w') (H2 : ∀ w, Calls Tryz.prog 64 #[.agg #[.int .u64 ((zl b.num : Nat) : Int), .string (zh b.num), .bool (zs b.num), .int .u64 ((lo (fe b) : Nat) : Int), .string (hs (fe b))], .agg #[.int .u64 ((zl a.num : Nat) : Int), .string (zh a.num), .bool (zs a.num), .int .u64 ((lo (fe a) : Nat) : Int), .string (hs (fe a))]] w fun xe w' => xe = .returned (.agg #[.int .u64 ((zl r1.num : Nat) : Int), .string (zh r1.num), .bool (zs r1.num), .int .u64 ((lo (fe r1) : Nat) : Int), .string (hs (fe r1))]) ∧ Below w.heap.size w w') (H3 : ∀ w, Calls Tryz.prog 68 #[.agg #[.int .u64 ((zl a.num : Nat) : Int), .string (zh a.num), .bool (zs a.num), .int .u64 ((lo (fe a) : Nat) : Int), .string (hs (fe a))], .agg #[.int .u64 ((zl b.num : Nat) : Int), .string (zh b.num), .bool (zs b.num), .int .u64 ((lo (fe b) : Nat) : Int), .string (hs (fe b))]] w fun xe w' => xe = .returned (.agg #[.int .u64 ((zl r2.num : Nat) : Int), .string (zh r2.num), .bool (zs r2.num), .int .u64 ((lo (fe r2) : Nat) : Int), .string (hs (fe r2))]) ∧ Below w.heap.size w w') (H4 : ∀ w, Calls Tryz.prog 68 #[.agg #[.int .u64 ((zl b.num : Nat) : Int), .string (zh b.num), .bool (zs b.num), .int .u64 ((lo (fe b) : Nat) : Int), .string (hs (fe b))], .agg #[.int .u64 ((zl a.num : Nat) : Int), .string (zh a.num), .bool (zs a.num), .int .u64 ((lo (fe a) : Nat) : Int), .string (hs (fe a))]] w fun xe w' => xe = .returned (.agg #[.int .u64 ((zl r2.num : Nat) : Int), .string (zh r2.num), .bool (zs r2.num), .int .u64 ((lo (fe r2) : Nat) : Int), .string (hs (fe r2))]) ∧ Below w.heap.size w w') (H5 : ∀ w, Calls Tryz.prog 64 #[.agg #[.int .u64 ((zl r1.num : Nat) : Int), .string (zh r1.num), .bool (zs r1.num), .int .u64 ((lo (fe r1) : Nat) : Int), .string (hs (fe r1))], .agg #[.int .u64 ((zl c.num : Nat) : Int), .string (zh c.num), .bool (zs c.num), .int .u64 ((lo (fe c) : Nat) : Int), .string (hs (fe c))]] w fun xe w' => xe = .returned (.agg #[.int .u64 ((zl r3.num : Nat) : Int), .string (zh r3.num), .bool (zs r3.num), .int .u64 ((lo (fe r3) : Nat) : Int), .string (hs (fe r3))]) ∧ Below w.heap.size w w') (H6 : ∀ w, Calls Tryz.prog 64 #[.agg #[.int .u64 ((zl b.num : Nat) : Int), .string (zh b.num), .bool (zs b.num), .int .u64 ((lo (fe b) : Nat) : Int), .string (hs (fe b))], .agg #[.int .u64 ((zl c.num : Nat) : Int), .string (zh c.num), .bool (zs c.num), .int .u64 ((lo (fe c) : Nat) : Int), .string (hs (fe c))]] w fun xe w' => xe = .returned (.agg #[.int .u64 ((zl r4.num : Nat) : Int), .string (zh r4.num), .bool (zs r4.num), .int .u64 ((lo (fe r4) : Nat) : Int), .string (hs (fe r4))]) ∧ Below w.heap.size w w') (H7 : ∀ w, Calls Tryz.prog 64 #[.agg #[.int .u64 ((zl a.num : Nat) : Int), .string (zh a.num), .bool (zs a.num), .int .u64 ((lo (fe a) : Nat) : Int), .string (hs (fe a))], .agg #[.int .u64 ((zl r4.num : Nat) : Int), .string (zh r4.num), .bool (zs r4.num), .int .u64 ((lo (fe r4) : Nat) : Int), .string (hs (fe r4))]] w fun xe w' => xe = .returned (.agg #[.int .u64 ((zl r3.num : Nat) : Int), .string (zh r3.num), .bool (zs r3.num), .int .u64 ((lo (fe r3) : Nat) : Int), .string (hs (fe r3))]) ∧ Below w.heap.size w w') (H8 : ∀ w, Calls Tryz.prog 68 #[.agg #[.int .u64 ((zl r2.num : Nat) : Int), .string (zh r2.num), .bool (zs r2.num), .int .u64 ((lo (fe r2) : Nat) : Int), .string (hs (fe r2))], .agg #[.int .u64 ((zl c.num : Nat) : Int), .string (zh c.num), .bool (zs c.num), .int .u64 ((lo (fe c) : Nat) : Int), .string (hs (fe c))]] w fun xe w' => xe = .returned (.agg #[.int .u64 ((zl r5.num : Nat) : Int), .string (zh r5.num), .bool (zs r5.num), .int .u64 ((lo (fe r5) : Nat) : Int), .string (hs (fe r5))]) ∧ Below w.heap.size w w') (H9 : ∀ w, Calls Tryz.prog 68 #[.agg #[.int .u64 ((zl b.num : Nat) : Int), .string (zh b.num), .bool (zs b.num), .int .u64 ((lo (fe b) : Nat) : Int), .string (hs (fe b))], .agg #[.int .u64 ((zl c.num : Nat) : Int), .string (zh c.num), .bool (zs c.num), .int .u64 ((lo (fe c) : Nat) : Int), .string (hs (fe c))]] w fun xe w' => xe = .returned (.agg #[.int .u64 ((zl r6.num : Nat) : Int), .string (zh r6.num), .bool (zs r6.num), .int .u64 ((lo (fe r6) : Nat) : Int), .string (hs (fe r6))]) ∧ Below w.heap.size w w') (H10 : ∀ w, Calls Tryz.prog 68 #[.agg #[.int .u64 ((zl a.num : Nat) : Int), .string (zh a.num), .bool (zs a.num), .int .u64 ((lo (fe a) : Nat) : Int), .string (hs (fe a))], .agg #[.int .u64 ((zl r6.num : Nat) : Int), .string (zh r6.num), .bool (zs r6.num), .int .u64 ((lo (fe r6) : Nat) : Int), .string (hs (fe r6))]] w fun xe w' => xe = .returned (.agg #[.int .u64 ((zl r5.num : Nat) : Int), .string (zh r5.num), .bool (zs r5.num), .int .u64 ((lo (fe r5) : Nat) : Int), .string (hs (fe r5))]) ∧ Below w.heap.size w w') (H11 : ∀ w, Calls Tryz.prog 68 #[.agg #[.int .u64 ((zl a.num : Nat) : Int), .string (zh a.num), .bool (zs a.num), .int .u64 ((lo (fe a) : Nat) : Int), .string (hs (fe a))], .agg #[.int .u64 ((zl r4.num : Nat) : Int), .string (zh r4.num), .bool (zs r4.num), .int .u64 ((lo (fe r4) : Nat) : Int), .string (hs (fe r4))]] w fun xe w' => xe = .returned (.agg #[.int .u64 ((zl r7.num : Nat) : Int), .string (zh r7.num), .bool (zs r7.num), .int .u64 ((lo (fe r7) : Nat) : Int), .string (hs (fe r7))]) ∧ Below w.heap.size w w') (H12 : ∀ w, Calls Tryz.prog 68 #[.agg #[.int .u64 ((zl a.num : Nat) : Int), .string (zh a.num), .bool (zs a.num), .int .u64 ((lo (fe a) : Nat) : Int), .string (hs (fe a))], .agg #[.int .u64 ((zl c.num : Nat) : Int), .string (zh c.num), .bool (zs c.num), .int .u64 ((lo (fe c) : Nat) : Int), .string (hs (fe c))]] w fun xe w' => xe = .returned (.agg #[.int .u64 ((zl r8.num : Nat) : Int), .string (zh r8.num), .bool (zs r8.num), .int .u64 ((lo (fe r8) : Nat) : Int), .string (hs (fe r8))]) ∧ Below w.heap.size w w') (H13 : ∀ w, Calls Tryz.prog 64 #[.agg #[.int .u64 ((zl r2.num : Nat) : Int), .string (zh r2.num), .bool (zs r2.num), .int .u64 ((lo (fe r2) : Nat) : Int), .string (hs (fe r2))], .agg #[.int .u64 ((zl r8.num : Nat) : Int), .string (zh r8.num), .bool (zs r8.num), .int .u64 ((lo (fe r8) : Nat) : Int), .string (hs (fe r8))]] w fun xe w' => xe = .returned (.agg #[.int .u64 ((zl r7.num : Nat) : Int), .string (zh r7.num), .bool (zs r7.num), .int .u64 ((lo (fe r7) : Nat) : Int), .string (hs (fe r7))]) ∧ Below w.heap.size w w') (H14 : ∀ w, Calls Tryz.prog 66 #[.agg #[.int .u64 ((zl r1.num : Nat) : Int), .string (zh r1.num), .bool (zs r1.num), .int .u64 ((lo (fe r1) : Nat) : Int), .string (hs (fe r1))], .agg #[.int .u64 ((zl b.num : Nat) : Int), .string (zh b.num), .bool (zs b.num), .int .u64 ((lo (fe b) : Nat) : Int), .string (hs (fe b))]] w fun xe w' => xe = .returned (.agg #[.int .u64 ((zl a.num : Nat) : Int), .string (zh a.num), .bool (zs a.num), .int .u64 ((lo (fe a) : Nat) : Int), .string (hs (fe a))]) ∧ Below w.heap.size w w') (H15 : ∀ w, Calls Tryz.prog 61 #[.agg #[.int .u64 ((zl r2.num : Nat) : Int), .string (zh r2.num), .bool (zs r2.num), .int .u64 ((lo (fe r2) : Nat) : Int), .string (hs (fe r2))], .agg #[.int .u64 ((zl b.num : Nat) : Int), .string (zh b.num), .bool (zs b.num), .int .u64 ((lo (fe b) : Nat) : Int), .string (hs (fe b))]] w fun xe w' => xe = .returned (.tuple #[.agg #[.int .u64 ((zl a.num : Nat) : Int), .string (zh a.num), .bool (zs a.num), .int .u64 ((lo (fe a) : Nat) : Int), .string (hs (fe a))], .int .i64 0]) ∧ Below w.heap.size w w') (H16 : ∀ w, Calls Tryz.prog 75 #[.agg #[.int .u64 ((zl b.num : Nat) : Int), .string (zh b.num), .bool (zs b.num), .int .u64 ((lo (fe b) : Nat) : Int), .string (hs (fe b))]] w fun xe w' => xe = .returned (.int .i64 i1) ∧ Below w.heap.size w w') (H17 : ∀ w, Calls Tryz.prog 83 #[.agg #[.int .u64 ((zl a.num : Nat) : Int), .string (zh a.num), .bool (zs a.num), .int .u64 ((lo (fe a) : Nat) : Int), .string (hs (fe a))]] w fun xe w' => xe = .returned (.agg #[.int .u64 ((zl r9.num : Nat) : Int), .string (zh r9.num), .bool (zs r9.num), .int .u64 ((lo (fe r9) : Nat) : Int), .string (hs (fe r9))]) ∧ Below w.heap.size w w') (H18 : ∀ w, Calls Tryz.prog 75 #[.agg #[.int .u64 ((zl r9.num : Nat) : Int), .string (zh r9.num), .bool (zs r9.num), .int .u64 ((lo (fe r9) : Nat) : Int), .string (hs (fe r9))]] w fun xe w' => xe = .returned (.int .i64 i2) ∧ Below w.heap.size w w') (H19 : ∀ w, Calls Tryz.prog 68 #[.agg #[.int .u64 ((zl a.num : Nat) : Int), .string (zh a.num), .bool (zs a.num), .int .u64 ((lo (fe a) : Nat) : Int), .string (hs (fe a))], .agg #[.int .u64 ((zl a.num : Nat) : Int), .string (zh a.num), .bool (zs a.num), .int .u64 ((lo (fe a) : Nat) : Int), .string (hs (fe a))]] w fun xe w' => xe = .returned (.agg #[.int .u64 ((zl r9.num : Nat) : Int), .string (zh r9.num), .bool (zs r9.num), .int .u64 ((lo (fe r9) : Nat) : Int), .string (hs (fe r9))]) ∧ Below w.heap.size w w') (H20 : ∀ w, Calls Tryz.prog 64 #[.agg #[.int .u64 ((zl a.num : Nat) : Int), .string (zh a.num), .bool (zs a.num), .int .u64 ((lo (fe a) : Nat) : Int), .string (hs (fe a))], .agg #[.int .u64 ((zl c.num : Nat) : Int), .string (zh c.num), .bool (zs c.num), .int .u64 ((lo (fe c) : Nat) : Int), .string (hs (fe c))]] w fun xe w' => xe = .returned (.agg #[.int .u64 ((zl r10.num : Nat) : Int), .string (zh r10.num), .bool (zs r10.num), .int .u64 ((lo (fe r10) : Nat) : Int), .string (hs (fe r10))]) ∧ Below w.heap.size w w') (H21 : ∀ w, Calls Tryz.prog 76 #[.agg #[.int .u64 ((zl r10.num : Nat) : Int), .string (zh r10.num), .bool (zs r10.num), .int .u64 ((lo (fe r10) : Nat) : Int), .string (hs (fe r10))], .agg #[.int .u64 ((zl r4.num : Nat) : Int), .string (zh r4.num), .bool (zs r4.num), .int .u64 ((lo (fe r4) : Nat) : Int), .string (hs (fe r4))]] w fun xe w' => xe = .returned (.int .i64 i3) ∧ Below w.heap.size w w') (H22 : ∀ w, Calls Tryz.prog 76 #[.agg #[.int .u64 ((zl a.num : Nat) : Int), .string (zh a.num), .bool (zs a.num), .int .u64 ((lo (fe a) : Nat) : Int), .string (hs (fe a))], .agg #[.int .u64 ((zl b.num : Nat) : Int), .string (zh b.num), .bool (zs b.num), .int .u64 ((lo (fe b) : Nat) : Int), .string (hs (fe b))]] w fun xe w' => xe = .returned (.int .i64 i3) ∧ Below w.heap.size w w') (H23 : ∀ w, Calls Tryz.prog 76 #[.agg #[.int .u64 ((zl r8.num : Nat) : Int), .string (zh r8.num), .bool (zs r8.num), .int .u64 ((lo (fe r8) : Nat) : Int), .string (hs (fe r8))], .agg #[.int .u64 ((zl r6.num : Nat) : Int), .string (zh r6.num), .bool (zs r6.num), .int .u64 ((lo (fe r6) : Nat) : Int), .string (hs (fe r6))]] w fun xe w' => xe = .returned (.int .i64 i4) ∧ Below w.heap.size w w') (H24 : ∀ w, Calls Tryz.prog 75 #[.agg #[.int .u64 ((zl c.num : Nat) : Int), .string (zh c.num), .bool (zs c.num), .int .u64 ((lo (fe c) : Nat) : Int), .string (hs (fe c))]] w fun xe w' => xe = .returned (.int .i64 i5) ∧ Below w.heap.size w w') (H25 : ∀ w, Calls Tryz.prog 76 #[.agg #[.int .u64 ((zl b.num : Nat) : Int), .string (zh b.num), .bool (zs b.num), .int .u64 ((lo (fe b) : Nat) : Int), .string (hs (fe b))], .agg #[.int .u64 ((zl a.num : Nat) : Int), .string (zh a.num), .bool (zs a.num), .int .u64 ((lo (fe a) : Nat) : Int), .string (hs (fe a))]] w fun xe w' => xe = .returned (.int .i64 i6) ∧ Below w.heap.size w w') (KW : World → Prop) (hKW : Keeps KW) (HW : ∀ w, KW w → Calls Tryz.prog 57 #[] w fun xe w' => xe = .returned (.bool true) ∧ Below w.heap.size w w') (hfew : decide (nx ≤ 5 ∧ mx ≤ 5 ∧ ny ≤ 5 ∧ my ≤ 5 ∧ nz ≤ 5 ∧ mz ≤ 5) = true) (hd1 : (i1 == 0) = false) (hd2 : (i1 != 0) = true) (hd3 : decide (i2 < 0) = false) (hd4 : decide (0 ≤ i2) = true) (hd5 : IntKind.i64.wrap (i3 * i5) = i4) (hd6 : IntKind.i64.wrap (-i6) = i3) (w : World) (kKx : Kx w) (kKy : Ky w) (kKz : Kz w) (kKW : KW w) :
    Calls Tryz.prog 9 #[.agg #[.bool sx, .slice ax nx cx, .slice qx mx dx], .agg #[.bool sy, .slice ay ny cy, .slice qy my dy], .agg #[.bool sz, .slice az nz cz, .slice qz mz dz]] w fun xe w' => xe = .returned (.bool true) ∧ Below w.heap.size w w' := by
  have hL0 : GL w w [] := GL.start w
  replace hKx := Lib.hid hKx
  replace Gx := Lib.hid Gx
  replace hKy := Lib.hid hKy
  replace Gy := Lib.hid Gy
  replace hKz := Lib.hid hKz
  replace Gz := Lib.hid Gz
  replace H1 := Lib.hid H1
  replace H2 := Lib.hid H2
  replace H3 := Lib.hid H3
  replace H4 := Lib.hid H4
  replace H5 := Lib.hid H5
  replace H6 := Lib.hid H6
  replace H7 := Lib.hid H7
  replace H8 := Lib.hid H8
  replace H9 := Lib.hid H9
  replace H10 := Lib.hid H10
  replace H11 := Lib.hid H11
  replace H12 := Lib.hid H12
  replace H13 := Lib.hid H13
  replace H14 := Lib.hid H14
  replace H15 := Lib.hid H15
  replace H16 := Lib.hid H16
  replace H17 := Lib.hid H17
  replace H18 := Lib.hid H18
  replace H19 := Lib.hid H19
  replace H20 := Lib.hid H20
  replace H21 := Lib.hid H21
  replace H22 := Lib.hid H22
  replace H23 := Lib.hid H23
  replace H24 := Lib.hid H24
  replace H25 := Lib.hid H25
  replace hKW := Lib.hid hKW
  replace HW := Lib.hid HW
  replace hL0 := ((((hL0.new rfl [.bool sx, .slice ax nx cx, .slice qx mx dx] 76).new (K := w.heap.size + 1) (szA _ _) [.bool sy, .slice ay ny cy, .slice qy my dy] 76).new (K := w.heap.size + 1 + 1) (by simp only [World.size_alloc]) [.bool sz, .slice az nz cz, .slice qz mz dz] 76).new (K := w.heap.size + 1 + 1 + 1) (by simp only [World.size_alloc]) [.bool sx, .slice ax nx cx, .slice qx mx dx, .bool sy, .slice ay ny cy, .slice qy my dy, .bool sz, .slice az nz cz, .slice qz mz dz] 76)
  generalize hweq : ((((w.alloc (.cells #[.bool sx, .slice ax nx cx, .slice qx mx dx] 76)).alloc (.cells #[.bool sy, .slice ay ny cy, .slice qy my dy] 76)).alloc (.cells #[.bool sz, .slice az nz cz, .slice qz mz dz] 76)).alloc (.cells #[.bool sx, .slice ax nx cx, .slice qx mx dx, .bool sy, .slice ay ny cy, .slice qy my dy, .bool sz, .slice az nz cz, .slice qz mz dz] 76)) = x1 at hL0
  go_enter Tryz.func9, Tryz.ntmps9
  have hN0 := cells_of _ 0 [] rfl (hL0.get _ _ (List.mem_cons_of_mem _ List.mem_cons_self))
  simp only [cellsF, and_true, Nat.zero_add, Nat.reduceAdd] at hN0
  have hN1 := cells_of _ 0 [] rfl (hL0.get _ _ (List.mem_cons_of_mem _ (List.mem_cons_of_mem _ List.mem_cons_self)))
  simp only [cellsF, and_true, Nat.zero_add, Nat.reduceAdd] at hN1
  have hN2 := cells_of _ 0 [] rfl (hL0.get _ _ (List.mem_cons_of_mem _ (List.mem_cons_of_mem _ (List.mem_cons_of_mem _ List.mem_cons_self))))
  simp only [cellsF, and_true, Nat.zero_add, Nat.reduceAdd] at hN2
  have HFw := gfew3 5 5 rfl (by omega) (hL0.get _ _ List.mem_cons_self)
  rw [hfew] at HFw
  replace HFw := Lib.hid HFw
  go_wp2_with fail
  with_reducible refine Calls.mono (HFw.out) ?_
  rintro e x2 ⟨rfl, rfl⟩
  clear HFw
  clear hN0 hN1 hN2
  go_upto_region 3 with fail
  have kKx1 := hKx.out.at hL0.bl kKx
  have kKy1 := hKy.out.at hL0.bl kKy
  have kKz1 := hKz.out.at hL0.bl kKz
  clear hweq
  refine region_gh (by kernel_rfl) (by kernel_rfl) ?_
  refine lex_seg (gl := []) 6 (by kernel_rfl) ?_
  intro α iα F hF1 hF2
  have hq := GL.seg hF1 hL0
  simp only [fcC, cellsC, and_true, Nat.zero_add, Nat.reduceAdd] at hq
  simp only [List.take_succ_cons, List.take_zero, List.drop_succ_cons, List.drop_zero, List.take_nil, List.drop_nil]
  repeat (go_big_quiet_step (first | fail | (go_at_call 58; with_reducible exact seg_callK hKx.out hF1 hF2 kKx1 Gx.out _) | (go_at_call 58; with_reducible exact seg_callK hKy.out hF1 hF2 kKy1 Gy.out _) | (go_at_call 58; with_reducible exact seg_callK hKz.out hF1 hF2 kKz1 Gz.out _)))
  refine wpQuiet_nil ?_
  clear hq hF1 hF2 iα F α
  refine lex_new [.int .u64 0, .string ⟨#[]⟩, .bool false, .int .u64 0, .string ⟨#[]⟩] 7 79 79 rfl rfl (of_decide_eq_true (by kernel_rfl)) (by kernel_rfl) rfl new_frac ?_
  simp only [Act.put, List.setIfInBounds_toArray, List.set_cons_succ, List.set_cons_zero]
  refine lex_new [.int .u64 0, .string ⟨#[]⟩, .bool false, .int .u64 0, .string ⟨#[]⟩] 8 79 79 rfl rfl (of_decide_eq_true (by kernel_rfl)) (by kernel_rfl) rfl new_frac ?_
  simp only [Act.put, List.setIfInBounds_toArray, List.set_cons_succ, List.set_cons_zero]
  refine lex_new [.int .u64 0, .string ⟨#[]⟩, .bool false, .int .u64 0, .string ⟨#[]⟩] 9 79 79 rfl rfl (of_decide_eq_true (by kernel_rfl)) (by kernel_rfl) rfl new_frac ?_
  simp only [Act.put, List.setIfInBounds_toArray, List.set_cons_succ, List.set_cons_zero]
  refine lex_put [.int .u64 ((zl a.num : Nat) : Int), .string (zh a.num), .bool (zs a.num), .int .u64 ((lo (fe a) : Nat) : Int), .string (hs (fe a))] [.int .u64 0, .string ⟨#[]⟩, .bool false, .int .u64 0, .string ⟨#[]⟩] 7 79 (.tmp 20) rfl (by kernel_rfl) (by simp [toG, upd]) rfl (fun w k h => put_frac _ _ _ _ _ _ _ _ _ _ w k h) ?_
  simp only [Act.put]
  refine lex_put [.int .u64 ((zl b.num : Nat) : Int), .string (zh b.num), .bool (zs b.num), .int .u64 ((lo (fe b) : Nat) : Int), .string (hs (fe b))] [.int .u64 0, .string ⟨#[]⟩, .bool false, .int .u64 0, .string ⟨#[]⟩] 8 79 (.tmp 22) rfl (by kernel_rfl) (by simp [toG, upd]) rfl (fun w k h => put_frac _ _ _ _ _ _ _ _ _ _ w k h) ?_
  simp only [Act.put]
  refine lex_put [.int .u64 ((zl c.num : Nat) : Int), .string (zh c.num), .bool (zs c.num), .int .u64 ((lo (fe c) : Nat) : Int), .string (hs (fe c))] [.int .u64 0, .string ⟨#[]⟩, .bool false, .int .u64 0, .string ⟨#[]⟩] 9 79 (.tmp 24) rfl (by kernel_rfl) (by simp [toG, upd]) rfl (fun w k h => put_frac _ _ _ _ _ _ _ _ _ _ w k h) ?_
  simp only [Act.put]
  refine lexG_nil ?_
  intro κ x3 hS
  replace hL0 := hL0.ghs hS [(9, [.int .u64 ((zl c.num : Nat) : Int), .string (zh c.num), .bool (zs c.num), .int .u64 ((lo (fe c) : Nat) : Int), .string (hs (fe c))]), (8, [.int .u64 ((zl b.num : Nat) : Int), .string (zh b.num), .bool (zs b.num), .int .u64 ((lo (fe b) : Nat) : Int), .string (hs (fe b))]), (7, [.int .u64 ((zl a.num : Nat) : Int), .string (zh a.num), .bool (zs a.num), .int .u64 ((lo (fe a) : Nat) : Int), .string (hs (fe a))])] (by simp) (by intro p hp; simp only [List.mem_cons, List.not_mem_nil, or_false] at hp; rcases hp with rfl | rfl | rfl <;> exact ⟨_, by simp only [toG, upd]; rfl⟩)
  simp only [List.map_cons, List.map_nil, List.cons_append, List.nil_append] at hL0
  simp only [over_toG, over_nil, Act.put, List.setIfInBounds_toArray, List.set_cons_succ, List.set_cons_zero]
  clear hS
  generalize κ 9 = k3_9 at *
  generalize κ 8 = k3_8 at *
  generalize κ 7 = k3_7 at *
  clear kKx1 kKy1 kKz1
  go_upto_region 4 with fail
  obtain ⟨α, iα, F, hF1, hF2⟩ := cls x3
  have hq0 := cls_box hF1 hL0 _ _ List.mem_cons_self
  simp only [cellsC, and_true, Nat.zero_add, Nat.reduceAdd] at hq0
  have hq1 := cls_box hF1 hL0 _ _ (List.mem_cons_of_mem _ List.mem_cons_self)
  simp only [cellsC, and_true, Nat.zero_add, Nat.reduceAdd] at hq1
  have hq2 := cls_box hF1 hL0 _ _ (List.mem_cons_of_mem _ (List.mem_cons_of_mem _ List.mem_cons_self))
  simp only [cellsC, and_true, Nat.zero_add, Nat.reduceAdd] at hq2
  refine region_cls (F := F) (by kernel_rfl) (lexB_of_fast (by kernel_rfl)) (cls_drew hF2) ?_
  simp only [List.append]
  repeat (go_big_quiet_step (first | fail | (go_at_call 64; with_reducible exact cls_call hF1 hF2 H1.out _) | (go_at_call 64; with_reducible exact cls_call hF1 hF2 H2.out _) | (go_at_call 68; with_reducible exact cls_call hF1 hF2 H3.out _) | (go_at_call 68; with_reducible exact cls_call hF1 hF2 H4.out _) | (go_at_call 64; with_reducible exact cls_call hF1 hF2 H5.out _) | (go_at_call 64; with_reducible exact cls_call hF1 hF2 H6.out _) | (go_at_call 64; with_reducible exact cls_call hF1 hF2 H7.out _) | (go_at_call 68; with_reducible exact cls_call hF1 hF2 H8.out _) | (go_at_call 68; with_reducible exact cls_call hF1 hF2 H9.out _) | (go_at_call 68; with_reducible exact cls_call hF1 hF2 H10.out _) | (go_at_call 68; with_reducible exact cls_call hF1 hF2 H11.out _) | (go_at_call 68; with_reducible exact cls_call hF1 hF2 H12.out _) | (go_at_call 64; with_reducible exact cls_call hF1 hF2 H13.out _) | (go_at_call 66; with_reducible exact cls_call hF1 hF2 H14.out _)))
  refine wpQuiet_nil ?_
  rintro wq ⟨xq, rfl⟩
  replace hL0 := hL0.call (hF1 xq)
  clear  hq0 hq1 hq2 hF2
  generalize F xq = x4 at hL0 ⊢
  clear hF1 xq iα F α
  go_upto_region 6 with fail
  refine region_gh (by kernel_rfl) (by kernel_rfl) ?_
  refine lex_seg (gl := []) 8 (by kernel_rfl) ?_
  intro α iα F hF1 hF2
  have hq := GL.seg hF1 hL0
  simp only [fcC, cellsC, and_true, Nat.zero_add, Nat.reduceAdd] at hq
  simp only [List.take_succ_cons, List.take_zero, List.drop_succ_cons, List.drop_zero, List.take_nil, List.drop_nil]
  repeat (go_big_quiet_step (first | fail | (go_at_call 68; with_reducible exact seg_call hF2 H3.out _) | (go_at_call 61; with_reducible exact seg_call hF2 H15.out _)))
  refine wpQuiet_nil ?_
  clear hq hF1 hF2 iα F α
  refine lex_new [.int .u64 0, .string ⟨#[]⟩, .bool false, .int .u64 0, .string ⟨#[]⟩] 10 79 79 rfl rfl (of_decide_eq_true (by kernel_rfl)) (by kernel_rfl) rfl new_frac ?_
  simp only [Act.put, List.setIfInBounds_toArray, List.set_cons_succ, List.set_cons_zero]
  refine lex_put [.int .u64 ((zl a.num : Nat) : Int), .string (zh a.num), .bool (zs a.num), .int .u64 ((lo (fe a) : Nat) : Int), .string (hs (fe a))] [.int .u64 0, .string ⟨#[]⟩, .bool false, .int .u64 0, .string ⟨#[]⟩] 10 79 (.tmp 97) rfl (by kernel_rfl) (by simp [toG, upd]) rfl (fun w k h => put_frac _ _ _ _ _ _ _ _ _ _ w k h) ?_
  simp only [Act.put]
  refine lex_seg (gl := [(10, [.int .u64 ((zl a.num : Nat) : Int), .string (zh a.num), .bool (zs a.num), .int .u64 ((lo (fe a) : Nat) : Int), .string (hs (fe a))], true), (10, [.int .u64 0, .string ⟨#[]⟩, .bool false, .int .u64 0, .string ⟨#[]⟩], false)]) 1 (by kernel_rfl) ?_
  intro α iα F hF1 hF2
  have hq := GL.seg hF1 hL0
  simp only [fcC, cellsC, and_true, Nat.zero_add, Nat.reduceAdd] at hq
  simp only [List.take_succ_cons, List.take_zero, List.drop_succ_cons, List.drop_zero, List.take_nil, List.drop_nil]
  repeat (go_big_quiet_step (first | fail | (go_at_call 68; with_reducible exact seg_call hF2 H3.out _) | (go_at_call 61; with_reducible exact seg_call hF2 H15.out _)))
  refine wpQuiet_nil ?_
  clear hq hF1 hF2 iα F α
  refine lexG_nil ?_
  intro κ x5 hS
  replace hL0 := hL0.ghs hS [(10, [.int .u64 ((zl a.num : Nat) : Int), .string (zh a.num), .bool (zs a.num), .int .u64 ((lo (fe a) : Nat) : Int), .string (hs (fe a))])] (by simp) (by intro p hp; simp only [List.mem_cons, List.not_mem_nil, or_false] at hp; rcases hp with rfl <;> exact ⟨_, by simp only [toG, upd]; rfl⟩)
  simp only [List.map_cons, List.map_nil, List.cons_append, List.nil_append] at hL0
  simp only [over_toG, over_nil, Act.put, List.setIfInBounds_toArray, List.set_cons_succ, List.set_cons_zero]
  clear hS
  generalize κ 10 = k5_10 at *
  go_upto_region 7 with fail
  obtain ⟨α, iα, F, hF1, hF2⟩ := cls x5
  have hq0 := cls_box hF1 hL0 _ _ List.mem_cons_self
  simp only [cellsC, and_true, Nat.zero_add, Nat.reduceAdd] at hq0
  have hq1 := cls_box hF1 hL0 _ _ (List.mem_cons_of_mem _ (List.mem_cons_of_mem _ List.mem_cons_self))
  simp only [cellsC, and_true, Nat.zero_add, Nat.reduceAdd] at hq1
  have hq2 := cls_box hF1 hL0 _ _ (List.mem_cons_of_mem _ (List.mem_cons_of_mem _ (List.mem_cons_of_mem _ List.mem_cons_self)))
  simp only [cellsC, and_true, Nat.zero_add, Nat.reduceAdd] at hq2
  refine region_qs 35 (C := fun w' => ∃ x, w' = F x) (by kernel_rfl) (by kernel_rfl) (cls_drew hF2) ?_
  simp only [List.take_succ_cons, List.take_zero, List.drop_succ_cons, List.drop_zero, List.take_nil, List.drop_nil]
  repeat (go_big_quiet_step (first | fail | (go_at_call 75; with_reducible exact cls_call hF1 hF2 H16.out _) | (go_at_call 83; with_reducible exact cls_call hF1 hF2 H17.out _) | (go_at_call 75; with_reducible exact cls_call hF1 hF2 H18.out _) | (go_at_call 68; with_reducible exact cls_call hF1 hF2 H19.out _)))
  refine wpQuiet_nil ?_
  rintro wq ⟨xq, rfl⟩
  replace hL0 := hL0.call (hF1 xq)
  clear  hq0 hq1 hq2 hF2
  generalize F xq = x6 at hL0 ⊢
  clear hF1 xq iα F α
  go_upto_region 9 with fail
  have kKW1 := hKW.out.at hL0.bl kKW
  obtain ⟨α, iα, F, hF1, hF2⟩ := cls x6
  have hq0 := cls_box hF1 hL0 _ _ (List.mem_cons_of_mem _ List.mem_cons_self)
  simp only [cellsC, and_true, Nat.zero_add, Nat.reduceAdd] at hq0
  have hq1 := cls_box hF1 hL0 _ _ (List.mem_cons_of_mem _ (List.mem_cons_of_mem _ List.mem_cons_self))
  simp only [cellsC, and_true, Nat.zero_add, Nat.reduceAdd] at hq1
  have hq2 := cls_box hF1 hL0 _ _ (List.mem_cons_of_mem _ (List.mem_cons_of_mem _ (List.mem_cons_of_mem _ List.mem_cons_self)))
  simp only [cellsC, and_true, Nat.zero_add, Nat.reduceAdd] at hq2
  refine region_cls (F := F) (by kernel_rfl) (lexB_of_fast (by kernel_rfl)) (cls_drew hF2) ?_
  repeat (go_big_quiet_step (first | fail | (go_at_call 64; with_reducible exact cls_call hF1 hF2 H20.out _) | (go_at_call 64; with_reducible exact cls_call hF1 hF2 H6.out _) | (go_at_call 76; with_reducible exact cls_call hF1 hF2 H21.out _) | (go_at_call 76; with_reducible exact cls_call hF1 hF2 H22.out _) | (go_at_call 68; with_reducible exact cls_call hF1 hF2 H12.out _) | (go_at_call 68; with_reducible exact cls_call hF1 hF2 H9.out _) | (go_at_call 76; with_reducible exact cls_call hF1 hF2 H23.out _) | (go_at_call 75; with_reducible exact cls_call hF1 hF2 H24.out _) | (go_at_call 76; with_reducible exact cls_call hF1 hF2 H25.out _) | (go_at_call 57; with_reducible exact cls_callK hKW.out hF1 hF2 kKW1 HW.out _)))
  refine wpQuiet_nil ?_
  rintro wq ⟨xq, rfl⟩
  replace hL0 := hL0.call (hF1 xq)
  clear  hq0 hq1 hq2 hF2
  generalize F xq = x7 at hL0 ⊢
  clear hF1 xq iα F α
  clear kKW1
  go_wp2_with fail
  exact bodyPost_ret (v := .bool true) (by simp [results, Tryz.results9, go_sem]) rfl ⟨rfl, hL0.bl⟩

theorem ffield_pos (sx sy sz : Bool) (ax qx ay qy az qz : Option Addr) (nx cx mx dx ny cy my dy nz cz mz dz : Nat) (lx kx ly ky lz kz : List Nat) (hk : nx ≤ 5 ∧ mx ≤ 5 ∧ ny ≤ 5 ∧ my ≤ 5 ∧ nz ≤ 5 ∧ mz ≤ 5) (hb : gmade sy ly ky ≠ 0) (w : World) (htab : Tab w) (hm : MaxL w) (hwx : Ws w (.slice ax nx cx) lx) (hvx : Ws w (.slice qx mx dx) kx) (hwy : Ws w (.slice ay ny cy) ly) (hvy : Ws w (.slice qy my dy) ky) (hwz : Ws w (.slice az nz cz) lz) (hvz : Ws w (.slice qz mz dz) kz) :
    Calls Tryz.prog 9 #[.agg #[.bool sx, .slice ax nx cx, .slice qx mx dx], .agg #[.bool sy, .slice ay ny cy, .slice qy my dy], .agg #[.bool sz, .slice az nz cz, .slice qz mz dz]] w fun xe w' => xe = .returned (.bool true) ∧ Below w.heap.size w w' := by
  have elx := hwx.len
  have ekx := hvx.len
  have Gx := fun w (h : Ws w (.slice ax nx cx) lx ∧ Ws w (.slice qx mx dx) kx) => gof_any sx ax qx nx cx mx dx lx kx (by omega) (by omega) w h.1 h.2
  have Sa : Sz (gmade sx lx kx) 6 := gmade_sz (by omega) hwx hvx (by omega) (by omega)
  generalize gmade sx lx kx = a at *
  have ely := hwy.len
  have eky := hvy.len
  have Gy := fun w (h : Ws w (.slice ay ny cy) ly ∧ Ws w (.slice qy my dy) ky) => gof_any sy ay qy ny cy my dy ly ky (by omega) (by omega) w h.1 h.2
  have Sb : Sz (gmade sy ly ky) 6 := gmade_sz (by omega) hwy hvy (by omega) (by omega)
  generalize gmade sy ly ky = b at *
  have elz := hwz.len
  have ekz := hvz.len
  have Gz := fun w (h : Ws w (.slice az nz cz) lz ∧ Ws w (.slice qz mz dz) kz) => gof_any sz az qz nz cz mz dz lz kz (by omega) (by omega) w h.1 h.2
  have Sc : Sz (gmade sz lz kz) 6 := gmade_sz (by omega) hwz hvz (by omega) (by omega)
  generalize gmade sz lz kz = c at *
  have Sr1 := (Sa).add Sb
  have H1 := fun w => addF a b 6 (Sa.mono (by omega)) (Sb.mono (by omega)) (by omega) w
  have H2 := fun w => addF b a 6 (Sb.mono (by omega)) (Sa.mono (by omega)) (by omega) w
  rw [show (b + a) = (a + b) from by grind] at H2
  have Sr2 := (Sa).mul Sb
  have H3 := fun w => mulF a b 6 (Sa.mono (by omega)) (Sb.mono (by omega)) (by omega) w
  have H4 := fun w => mulF b a 6 (Sb.mono (by omega)) (Sa.mono (by omega)) (by omega) w
  rw [show (b * a) = (a * b) from by grind] at H4
  have Sr3 := (Sr1).add Sc
  have H5 := fun w => addF (a + b) c 13 (Sr1.mono (by omega)) (Sc.mono (by omega)) (by omega) w
  have Sr4 := (Sb).add Sc
  have H6 := fun w => addF b c 6 (Sb.mono (by omega)) (Sc.mono (by omega)) (by omega) w
  have H7 := fun w => addF a (b + c) 13 (Sa.mono (by omega)) (Sr4.mono (by omega)) (by omega) w
  rw [show (a + (b + c)) = ((a + b) + c) from by grind] at H7
  have Sr5 := (Sr2).mul Sc
  have H8 := fun w => mulF (a * b) c 12 (Sr2.mono (by omega)) (Sc.mono (by omega)) (by omega) w
  have Sr6 := (Sb).mul Sc
  have H9 := fun w => mulF b c 6 (Sb.mono (by omega)) (Sc.mono (by omega)) (by omega) w
  have H10 := fun w => mulF a (b * c) 12 (Sa.mono (by omega)) (Sr6.mono (by omega)) (by omega) w
  rw [show (a * (b * c)) = ((a * b) * c) from by grind] at H10
  have Sr7 := (Sa).mul Sr4
  have H11 := fun w => mulF a (b + c) 13 (Sa.mono (by omega)) (Sr4.mono (by omega)) (by omega) w
  have Sr8 := (Sa).mul Sc
  have H12 := fun w => mulF a c 6 (Sa.mono (by omega)) (Sc.mono (by omega)) (by omega) w
  have H13 := fun w => addF (a * b) (a * c) 12 (Sr2.mono (by omega)) (Sr8.mono (by omega)) (by omega) w
  rw [show ((a * b) + (a * c)) = (a * (b + c)) from by grind] at H13
  have H14 := fun w => subF (a + b) b 13 (Sr1.mono (by omega)) (Sb.mono (by omega)) (by omega) w
  rw [show ((a + b) - b) = a from by grind] at H14
  have H15 := fun w => divF (a * b) b 12 (Sr2.mono (by omega)) (Sb.mono (by omega)) (by omega) hb w
  rw [show ((a * b) / b) = a from by grind] at H15
  have H16 := fun w => signF b w
  have Sr9 := (Sa).mul Sa
  have H17 := fun w => squareF a 6 Sa (by omega) w
  have H18 := fun w => signF (a * a) w
  have H19 := fun w => mulF a a 6 (Sa.mono (by omega)) (Sa.mono (by omega)) (by omega) w
  have Sr10 := (Sa).add Sc
  have H20 := fun w => addF a c 6 (Sa.mono (by omega)) (Sc.mono (by omega)) (by omega) w
  have H21 := fun w => cmpF (a + c) (b + c) 13 (Sr10.mono (by omega)) (Sr4.mono (by omega)) (by omega) w
  have H22 := fun w => cmpF a b 6 (Sa.mono (by omega)) (Sb.mono (by omega)) (by omega) w
  rw [show (cmpQ a b) = (cmpQ (a + c) (b + c)) from by unfold cmpQ; grind] at H22
  have H23 := fun w => cmpF (a * c) (b * c) 12 (Sr8.mono (by omega)) (Sr6.mono (by omega)) (by omega) w
  have H24 := fun w => signF c w
  have H25 := fun w => cmpF b a 6 (Sb.mono (by omega)) (Sa.mono (by omega)) (by omega) w
  have HW := fun w (h : Tab w ∧ MaxL w) => fworks_any w h.1 h.2
  exact ffield_pos_w sx sy sz ax qx ay qy az qz nx cx mx dx ny cy my dy nz cz mz dz  a b c (a + b) (a * b) ((a + b) + c) (b + c) ((a * b) * c) (b * c) (a * (b + c)) (a * c) (sgnQ b) (a * a) (sgnQ (a * a)) (a + c) (cmpQ (a + c) (b + c)) (cmpQ (a * c) (b * c)) (sgnQ c) (cmpQ b a) _ (Keeps.and (Keeps.ws _ _) (Keeps.ws _ _)) Gx _ (Keeps.and (Keeps.ws _ _) (Keeps.ws _ _)) Gy _ (Keeps.and (Keeps.ws _ _) (Keeps.ws _ _)) Gz H1 H2 H3 H4 H5 H6 H7 H8 H9 H10 H11 H12 H13 H14 H15 H16 H17 H18 H19 H20 H21 H22 H23 H24 H25 _ (Keeps.and Keeps.tab MaxL.keeps) HW (decide_eq_true hk) (by first | exact sgnQ_ne hb | (have e := sgnQ_ne hb; simp only [bne, e, Bool.not_false])) (by first | exact sgnQ_ne hb | (have e := sgnQ_ne hb; simp only [bne, e, Bool.not_false])) (by first | exact decide_eq_false (by have := sgnQ_sq a; omega) | exact decide_eq_true (sgnQ_sq a)) (by first | exact decide_eq_false (by have := sgnQ_sq a; omega) | exact decide_eq_true (sgnQ_sq a)) (by rw [show (cmpQ (a + c) (b + c)) = cmpQ a b from by unfold cmpQ; grind, show (cmpQ (a * c) (b * c)) = cmpQ (a * c) (b * c) from by first | rfl | (rw [Rat.zero_mul])]; exact cmpQ_wrap a b c) (by rw [show (cmpQ (a + c) (b + c)) = cmpQ a b from by unfold cmpQ; grind, show (cmpQ b a) = cmpQ b a from by unfold cmpQ; grind]; exact cmpQ_wneg a b) w ⟨hwx, hvx⟩ ⟨hwy, hvy⟩ ⟨hwz, hvz⟩ ⟨htab, hm⟩

set_option maxHeartbeats 16000000 in
set_option maxRecDepth 100000 in
theorem ffield_zero_w (sx sy sz : Bool) (ax qx ay qy az qz : Option Addr) (nx cx mx dx ny cy my dy nz cz mz dz : Nat) (a : Rat) (c : Rat) (r1 : Rat) (r2 : Rat) (r3 : Rat) (i1 : Int) (i2 : Int) (i3 : Int) (i4 : Int) (i5 : Int) (Kx : World → Prop) (hKx : Keeps Kx) (Gx : ∀ w, Kx w → Calls Tryz.prog 58 #[.agg #[.bool sx, .slice ax nx cx, .slice qx mx dx]] w fun xe w' => xe = .returned (.agg #[.int .u64 ((zl a.num : Nat) : Int), .string (zh a.num), .bool (zs a.num), .int .u64 ((lo (fe a) : Nat) : Int), .string (hs (fe a))]) ∧ Below w.heap.size w w') (Ky : World → Prop) (hKy : Keeps Ky) (Gy : ∀ w, Ky w → Calls Tryz.prog 58 #[.agg #[.bool sy, .slice ay ny cy, .slice qy my dy]] w fun xe w' => xe = .returned (.agg #[.int .u64 0, .string ⟨#[]⟩, .bool false, .int .u64 0, .string ⟨#[]⟩]) ∧ Below w.heap.size w w') (Kz : World → Prop) (hKz : Keeps Kz) (Gz : ∀ w, Kz w → Calls Tryz.prog 58 #[.agg #[.bool sz, .slice az nz cz, .slice qz mz dz]] w fun xe w' => xe = .returned (.agg #[.int .u64 ((zl c.num : Nat) : Int), .string (zh c.num), .bool (zs c.num), .int .u64 ((lo (fe c) : Nat) : Int), .string (hs (fe c))]) ∧ Below w.heap.size w w') (H1 : ∀ w, Calls Tryz.prog 64 #[.agg #[.int .u64 ((zl a.num : Nat) : Int), .string (zh a.num), .bool (zs a.num), .int .u64 ((lo (fe a) : Nat) : Int), .string (hs (fe a))], .agg #[.int .u64 0, .string ⟨#[]⟩, .bool false, .int .u64 0, .string ⟨#[]⟩]] w fun xe w' => xe = .returned (.agg #[.int .u64 ((zl a.num : Nat) : Int), .string (zh a.num), .bool (zs a.num), .int .u64 ((lo (fe a) : Nat) : Int), .string (hs (fe a))]) ∧ Below w.heap.size w w') (H2 : ∀ w, Calls Tryz.prog 64 #[.agg #[.int .u64 0, .string ⟨#[]⟩, .bool false, .int .u64 0, .string ⟨#[]⟩], .agg #[.int .u64 ((zl a.num : Nat) : Int), .string (zh a.num), .bool (zs a.num), .int .u64 ((lo (fe a) : Nat) : Int), .string (hs (fe a))]] w fun xe w' => xe = .returned (.agg #[.int .u64 ((zl a.num : Nat) : Int), .string (zh a.num), .bool (zs a.num), .int .u64 ((lo (fe a) : Nat) : Int), .string (hs (fe a))]) ∧ Below w.heap.size w w') (H3 : ∀ w, Calls Tryz.prog 68 #[.agg #[.int .u64 ((zl a.num : Nat) : Int), .string (zh a.num), .bool (zs a.num), .int .u64 ((lo (fe a) : Nat) : Int), .string (hs (fe a))], .agg #[.int .u64 0, .string ⟨#[]⟩, .bool false, .int .u64 0, .string ⟨#[]⟩]] w fun xe w' => xe = .returned (.agg #[.int .u64 0, .string ⟨#[]⟩, .bool false, .int .u64 0, .string ⟨#[]⟩]) ∧ Below w.heap.size w w') (H4 : ∀ w, Calls Tryz.prog 68 #[.agg #[.int .u64 0, .string ⟨#[]⟩, .bool false, .int .u64 0, .string ⟨#[]⟩], .agg #[.int .u64 ((zl a.num : Nat) : Int), .string (zh a.num), .bool (zs a.num), .int .u64 ((lo (fe a) : Nat) : Int), .string (hs (fe a))]] w fun xe w' => xe = .returned (.agg #[.int .u64 0, .string ⟨#[]⟩, .bool false, .int .u64 0, .string ⟨#[]⟩]) ∧ Below w.heap.size w w') (H5 : ∀ w, Calls Tryz.prog 64 #[.agg #[.int .u64 ((zl a.num : Nat) : Int), .string (zh a.num), .bool (zs a.num), .int .u64 ((lo (fe a) : Nat) : Int), .string (hs (fe a))], .agg #[.int .u64 ((zl c.num : Nat) : Int), .string (zh c.num), .bool (zs c.num), .int .u64 ((lo (fe c) : Nat) : Int), .string (hs (fe c))]] w fun xe w' => xe = .returned (.agg #[.int .u64 ((zl r1.num : Nat) : Int), .string (zh r1.num), .bool (zs r1.num), .int .u64 ((lo (fe r1) : Nat) : Int), .string (hs (fe r1))]) ∧ Below w.heap.size w w') (H6 : ∀ w, Calls Tryz.prog 64 #[.agg #[.int .u64 0, .string ⟨#[]⟩, .bool false, .int .u64 0, .string ⟨#[]⟩], .agg #[.int .u64 ((zl c.num : Nat) : Int), .string (zh c.num), .bool (zs c.num), .int .u64 ((lo (fe c) : Nat) : Int), .string (hs (fe c))]] w fun xe w' => xe = .returned (.agg #[.int .u64 ((zl c.num : Nat) : Int), .string (zh c.num), .bool (zs c.num), .int .u64 ((lo (fe c) : Nat) : Int), .string (hs (fe c))]) ∧ Below w.heap.size w w') (H7 : ∀ w, Calls Tryz.prog 68 #[.agg #[.int .u64 0, .string ⟨#[]⟩, .bool false, .int .u64 0, .string ⟨#[]⟩], .agg #[.int .u64 ((zl c.num : Nat) : Int), .string (zh c.num), .bool (zs c.num), .int .u64 ((lo (fe c) : Nat) : Int), .string (hs (fe c))]] w fun xe w' => xe = .returned (.agg #[.int .u64 0, .string ⟨#[]⟩, .bool false, .int .u64 0, .string ⟨#[]⟩]) ∧ Below w.heap.size w w') (H8 : ∀ w, Calls Tryz.prog 68 #[.agg #[.int .u64 ((zl a.num : Nat) : Int), .string (zh a.num), .bool (zs a.num), .int .u64 ((lo (fe a) : Nat) : Int), .string (hs (fe a))], .agg #[.int .u64 ((zl c.num : Nat) : Int), .string (zh c.num), .bool (zs c.num), .int .u64 ((lo (fe c) : Nat) : Int), .string (hs (fe c))]] w fun xe w' => xe = .returned (.agg #[.int .u64 ((zl r2.num : Nat) : Int), .string (zh r2.num), .bool (zs r2.num), .int .u64 ((lo (fe r2) : Nat) : Int), .string (hs (fe r2))]) ∧ Below w.heap.size w w') (H9 : ∀ w, Calls Tryz.prog 64 #[.agg #[.int .u64 0, .string ⟨#[]⟩, .bool false, .int .u64 0, .string ⟨#[]⟩], .agg #[.int .u64 ((zl r2.num : Nat) : Int), .string (zh r2.num), .bool (zs r2.num), .int .u64 ((lo (fe r2) : Nat) : Int), .string (hs (fe r2))]] w fun xe w' => xe = .returned (.agg #[.int .u64 ((zl r2.num : Nat) : Int), .string (zh r2.num), .bool (zs r2.num), .int .u64 ((lo (fe r2) : Nat) : Int), .string (hs (fe r2))]) ∧ Below w.heap.size w w') (H10 : ∀ w, Calls Tryz.prog 66 #[.agg #[.int .u64 ((zl a.num : Nat) : Int), .string (zh a.num), .bool (zs a.num), .int .u64 ((lo (fe a) : Nat) : Int), .string (hs (fe a))], .agg #[.int .u64 0, .string ⟨#[]⟩, .bool false, .int .u64 0, .string ⟨#[]⟩]] w fun xe w' => xe = .returned (.agg #[.int .u64 ((zl a.num : Nat) : Int), .string (zh a.num), .bool (zs a.num), .int .u64 ((lo (fe a) : Nat) : Int), .string (hs (fe a))]) ∧ Below w.heap.size w w') (H11 : ∀ w, Calls Tryz.prog 61 #[.agg #[.int .u64 0, .string ⟨#[]⟩, .bool false, .int .u64 0, .string ⟨#[]⟩], .agg #[.int .u64 0, .string ⟨#[]⟩, .bool false, .int .u64 0, .string ⟨#[]⟩]] w fun xe w' => xe = .returned (.tuple #[.agg #[.int .u64 0, .string ⟨#[]⟩, .bool false, .int .u64 0, .string ⟨#[]⟩], .int .i64 5]) ∧ Below w.heap.size w w') (H12 : ∀ w, Calls Tryz.prog 75 #[.agg #[.int .u64 0, .string ⟨#[]⟩, .bool false, .int .u64 0, .string ⟨#[]⟩]] w fun xe w' => xe = .returned (.int .i64 0) ∧ Below w.heap.size w w') (H13 : ∀ w, Calls Tryz.prog 83 #[.agg #[.int .u64 ((zl a.num : Nat) : Int), .string (zh a.num), .bool (zs a.num), .int .u64 ((lo (fe a) : Nat) : Int), .string (hs (fe a))]] w fun xe w' => xe = .returned (.agg #[.int .u64 ((zl r3.num : Nat) : Int), .string (zh r3.num), .bool (zs r3.num), .int .u64 ((lo (fe r3) : Nat) : Int), .string (hs (fe r3))]) ∧ Below w.heap.size w w') (H14 : ∀ w, Calls Tryz.prog 75 #[.agg #[.int .u64 ((zl r3.num : Nat) : Int), .string (zh r3.num), .bool (zs r3.num), .int .u64 ((lo (fe r3) : Nat) : Int), .string (hs (fe r3))]] w fun xe w' => xe = .returned (.int .i64 i1) ∧ Below w.heap.size w w') (H15 : ∀ w, Calls Tryz.prog 68 #[.agg #[.int .u64 ((zl a.num : Nat) : Int), .string (zh a.num), .bool (zs a.num), .int .u64 ((lo (fe a) : Nat) : Int), .string (hs (fe a))], .agg #[.int .u64 ((zl a.num : Nat) : Int), .string (zh a.num), .bool (zs a.num), .int .u64 ((lo (fe a) : Nat) : Int), .string (hs (fe a))]] w fun xe w' => xe = .returned (.agg #[.int .u64 ((zl r3.num : Nat) : Int), .string (zh r3.num), .bool (zs r3.num), .int .u64 ((lo (fe r3) : Nat) : Int), .string (hs (fe r3))]) ∧ Below w.heap.size w w') (H16 : ∀ w, Calls Tryz.prog 76 #[.agg #[.int .u64 ((zl r1.num : Nat) : Int), .string (zh r1.num), .bool (zs r1.num), .int .u64 ((lo (fe r1) : Nat) : Int), .string (hs (fe r1))], .agg #[.int .u64 ((zl c.num : Nat) : Int), .string (zh c.num), .bool (zs c.num), .int .u64 ((lo (fe c) : Nat) : Int), .string (hs (fe c))]] w fun xe w' => xe = .returned (.int .i64 i2) ∧ Below w.heap.size w w') (H17 : ∀ w, Calls Tryz.prog 76 #[.agg #[.int .u64 ((zl a.num : Nat) : Int), .string (zh a.num), .bool (zs a.num), .int .u64 ((lo (fe a) : Nat) : Int), .string (hs (fe a))], .agg #[.int .u64 0, .string ⟨#[]⟩, .bool false, .int .u64 0, .string ⟨#[]⟩]] w fun xe w' => xe = .returned (.int .i64 i2) ∧ Below w.heap.size w w') (H18 : ∀ w, Calls Tryz.prog 76 #[.agg #[.int .u64 ((zl r2.num : Nat) : Int), .string (zh r2.num), .bool (zs r2.num), .int .u64 ((lo (fe r2) : Nat) : Int), .string (hs (fe r2))], .agg #[.int .u64 0, .string ⟨#[]⟩, .bool false, .int .u64 0, .string ⟨#[]⟩]] w fun xe w' => xe = .returned (.int .i64 i3) ∧ Below w.heap.size w w') (H19 : ∀ w, Calls Tryz.prog 75 #[.agg #[.int .u64 ((zl c.num : Nat) : Int), .string (zh c.num), .bool (zs c.num), .int .u64 ((lo (fe c) : Nat) : Int), .string (hs (fe c))]] w fun xe w' => xe = .returned (.int .i64 i4) ∧ Below w.heap.size w w') (H20 : ∀ w, Calls Tryz.prog 76 #[.agg #[.int .u64 0, .string ⟨#[]⟩, .bool false, .int .u64 0, .string ⟨#[]⟩], .agg #[.int .u64 ((zl a.num : Nat) : Int), .string (zh a.num), .bool (zs a.num), .int .u64 ((lo (fe a) : Nat) : Int), .string (hs (fe a))]] w fun xe w' => xe = .returned (.int .i64 i5) ∧ Below w.heap.size w w') (KW : World → Prop) (hKW : Keeps KW) (HW : ∀ w, KW w → Calls Tryz.prog 57 #[] w fun xe w' => xe = .returned (.bool true) ∧ Below w.heap.size w w') (hfew : decide (nx ≤ 5 ∧ mx ≤ 5 ∧ ny ≤ 5 ∧ my ≤ 5 ∧ nz ≤ 5 ∧ mz ≤ 5) = true) (hd1 : decide (i1 < 0) = false) (hd2 : decide (0 ≤ i1) = true) (hd3 : IntKind.i64.wrap (i2 * i4) = i3) (hd4 : IntKind.i64.wrap (-i5) = i2) (w : World) (kKx : Kx w) (kKy : Ky w) (kKz : Kz w) (kKW : KW w) :
    Calls Tryz.prog 9 #[.agg #[.bool sx, .slice ax nx cx, .slice qx mx dx], .agg #[.bool sy, .slice ay ny cy, .slice qy my dy], .agg #[.bool sz, .slice az nz cz, .slice qz mz dz]] w fun xe w' => xe = .returned (.bool true) ∧ Below w.heap.size w w' := by
  have hL0 : GL w w [] := GL.start w
  replace hKx := Lib.hid hKx
  replace Gx := Lib.hid Gx
  replace hKy := Lib.hid hKy
  replace Gy := Lib.hid Gy
  replace hKz := Lib.hid hKz
  replace Gz := Lib.hid Gz
  replace H1 := Lib.hid H1
  replace H2 := Lib.hid H2
  replace H3 := Lib.hid H3
  replace H4 := Lib.hid H4
  replace H5 := Lib.hid H5
  replace H6 := Lib.hid H6
  replace H7 := Lib.hid H7
  replace H8 := Lib.hid H8
  replace H9 := Lib.hid H9
  replace H10 := Lib.hid H10
  replace H11 := Lib.hid H11
  replace H12 := Lib.hid H12
  replace H13 := Lib.hid H13
  replace H14 := Lib.hid H14
  replace H15 := Lib.hid H15
  replace H16 := Lib.hid H16
  replace H17 := Lib.hid H17
  replace H18 := Lib.hid H18
  replace H19 := Lib.hid H19
  replace H20 := Lib.hid H20
  replace hKW := Lib.hid hKW
  replace HW := Lib.hid HW
  replace hL0 := ((((hL0.new rfl [.bool sx, .slice ax nx cx, .slice qx mx dx] 76).new (K := w.heap.size + 1) (szA _ _) [.bool sy, .slice ay ny cy, .slice qy my dy] 76).new (K := w.heap.size + 1 + 1) (by simp only [World.size_alloc]) [.bool sz, .slice az nz cz, .slice qz mz dz] 76).new (K := w.heap.size + 1 + 1 + 1) (by simp only [World.size_alloc]) [.bool sx, .slice ax nx cx, .slice qx mx dx, .bool sy, .slice ay ny cy, .slice qy my dy, .bool sz, .slice az nz cz, .slice qz mz dz] 76)
  generalize hweq : ((((w.alloc (.cells #[.bool sx, .slice ax nx cx, .slice qx mx dx] 76)).alloc (.cells #[.bool sy, .slice ay ny cy, .slice qy my dy] 76)).alloc (.cells #[.bool sz, .slice az nz cz, .slice qz mz dz] 76)).alloc (.cells #[.bool sx, .slice ax nx cx, .slice qx mx dx, .bool sy, .slice ay ny cy, .slice qy my dy, .bool sz, .slice az nz cz, .slice qz mz dz] 76)) = x1 at hL0
  go_enter Tryz.func9, Tryz.ntmps9
  have hN0 := cells_of _ 0 [] rfl (hL0.get _ _ (List.mem_cons_of_mem _ List.mem_cons_self))
  simp only [cellsF, and_true, Nat.zero_add, Nat.reduceAdd] at hN0
  have hN1 := cells_of _ 0 [] rfl (hL0.get _ _ (List.mem_cons_of_mem _ (List.mem_cons_of_mem _ List.mem_cons_self)))
  simp only [cellsF, and_true, Nat.zero_add, Nat.reduceAdd] at hN1
  have hN2 := cells_of _ 0 [] rfl (hL0.get _ _ (List.mem_cons_of_mem _ (List.mem_cons_of_mem _ (List.mem_cons_of_mem _ List.mem_cons_self))))
  simp only [cellsF, and_true, Nat.zero_add, Nat.reduceAdd] at hN2
  have HFw := gfew3 5 5 rfl (by omega) (hL0.get _ _ List.mem_cons_self)
  rw [hfew] at HFw
  replace HFw := Lib.hid HFw
  go_wp2_with fail
  with_reducible refine Calls.mono (HFw.out) ?_
  rintro e x2 ⟨rfl, rfl⟩
  clear HFw
  clear hN0 hN1 hN2
  go_upto_region 3 with fail
  have kKx1 := hKx.out.at hL0.bl kKx
  have kKy1 := hKy.out.at hL0.bl kKy
  have kKz1 := hKz.out.at hL0.bl kKz
  clear hweq
  refine region_gh (by kernel_rfl) (by kernel_rfl) ?_
  refine lex_seg (gl := []) 6 (by kernel_rfl) ?_
  intro α iα F hF1 hF2
  have hq := GL.seg hF1 hL0
  simp only [fcC, cellsC, and_true, Nat.zero_add, Nat.reduceAdd] at hq
  simp only [List.take_succ_cons, List.take_zero, List.drop_succ_cons, List.drop_zero, List.take_nil, List.drop_nil]
  repeat (go_big_quiet_step (first | fail | (go_at_call 58; with_reducible exact seg_callK hKx.out hF1 hF2 kKx1 Gx.out _) | (go_at_call 58; with_reducible exact seg_callK hKy.out hF1 hF2 kKy1 Gy.out _) | (go_at_call 58; with_reducible exact seg_callK hKz.out hF1 hF2 kKz1 Gz.out _)))
  refine wpQuiet_nil ?_
  clear hq hF1 hF2 iα F α
  refine lex_new [.int .u64 0, .string ⟨#[]⟩, .bool false, .int .u64 0, .string ⟨#[]⟩] 7 79 79 rfl rfl (of_decide_eq_true (by kernel_rfl)) (by kernel_rfl) rfl new_frac ?_
  simp only [Act.put, List.setIfInBounds_toArray, List.set_cons_succ, List.set_cons_zero]
  refine lex_new [.int .u64 0, .string ⟨#[]⟩, .bool false, .int .u64 0, .string ⟨#[]⟩] 8 79 79 rfl rfl (of_decide_eq_true (by kernel_rfl)) (by kernel_rfl) rfl new_frac ?_
  simp only [Act.put, List.setIfInBounds_toArray, List.set_cons_succ, List.set_cons_zero]
  refine lex_new [.int .u64 0, .string ⟨#[]⟩, .bool false, .int .u64 0, .string ⟨#[]⟩] 9 79 79 rfl rfl (of_decide_eq_true (by kernel_rfl)) (by kernel_rfl) rfl new_frac ?_
  simp only [Act.put, List.setIfInBounds_toArray, List.set_cons_succ, List.set_cons_zero]
  refine lex_put [.int .u64 ((zl a.num : Nat) : Int), .string (zh a.num), .bool (zs a.num), .int .u64 ((lo (fe a) : Nat) : Int), .string (hs (fe a))] [.int .u64 0, .string ⟨#[]⟩, .bool false, .int .u64 0, .string ⟨#[]⟩] 7 79 (.tmp 20) rfl (by kernel_rfl) (by simp [toG, upd]) rfl (fun w k h => put_frac _ _ _ _ _ _ _ _ _ _ w k h) ?_
  simp only [Act.put]
  refine lex_put [.int .u64 0, .string ⟨#[]⟩, .bool false, .int .u64 0, .string ⟨#[]⟩] [.int .u64 0, .string ⟨#[]⟩, .bool false, .int .u64 0, .string ⟨#[]⟩] 8 79 (.tmp 22) rfl (by kernel_rfl) (by simp [toG, upd]) rfl (fun w k h => put_frac _ _ _ _ _ _ _ _ _ _ w k h) ?_
  simp only [Act.put]
  refine lex_put [.int .u64 ((zl c.num : Nat) : Int), .string (zh c.num), .bool (zs c.num), .int .u64 ((lo (fe c) : Nat) : Int), .string (hs (fe c))] [.int .u64 0, .string ⟨#[]⟩, .bool false, .int .u64 0, .string ⟨#[]⟩] 9 79 (.tmp 24) rfl (by kernel_rfl) (by simp [toG, upd]) rfl (fun w k h => put_frac _ _ _ _ _ _ _ _ _ _ w k h) ?_
  simp only [Act.put]
  refine lexG_nil ?_
  intro κ x3 hS
  replace hL0 := hL0.ghs hS [(9, [.int .u64 ((zl c.num : Nat) : Int), .string (zh c.num), .bool (zs c.num), .int .u64 ((lo (fe c) : Nat) : Int), .string (hs (fe c))]), (8, [.int .u64 0, .string ⟨#[]⟩, .bool false, .int .u64 0, .string ⟨#[]⟩]), (7, [.int .u64 ((zl a.num : Nat) : Int), .string (zh a.num), .bool (zs a.num), .int .u64 ((lo (fe a) : Nat) : Int), .string (hs (fe a))])] (by simp) (by intro p hp; simp only [List.mem_cons, List.not_mem_nil, or_false] at hp; rcases hp with rfl | rfl | rfl <;> exact ⟨_, by simp only [toG, upd]; rfl⟩)
  simp only [List.map_cons, List.map_nil, List.cons_append, List.nil_append] at hL0
  simp only [over_toG, over_nil, Act.put, List.setIfInBounds_toArray, List.set_cons_succ, List.set_cons_zero]
  clear hS
  generalize κ 9 = k3_9 at *
  generalize κ 8 = k3_8 at *
  generalize κ 7 = k3_7 at *
  clear kKx1 kKy1 kKz1
  go_upto_region 4 with fail
  obtain ⟨α, iα, F, hF1, hF2⟩ := cls x3
  have hq0 := cls_box hF1 hL0 _ _ List.mem_cons_self
  simp only [cellsC, and_true, Nat.zero_add, Nat.reduceAdd] at hq0
  have hq1 := cls_box hF1 hL0 _ _ (List.mem_cons_of_mem _ List.mem_cons_self)
  simp only [cellsC, and_true, Nat.zero_add, Nat.reduceAdd] at hq1
  have hq2 := cls_box hF1 hL0 _ _ (List.mem_cons_of_mem _ (List.mem_cons_of_mem _ List.mem_cons_self))
  simp only [cellsC, and_true, Nat.zero_add, Nat.reduceAdd] at hq2
  refine region_cls (F := F) (by kernel_rfl) (lexB_of_fast (by kernel_rfl)) (cls_drew hF2) ?_
  simp only [List.append]
  repeat (go_big_quiet_step (first | fail | (go_at_call 64; with_reducible exact cls_call hF1 hF2 H1.out _) | (go_at_call 64; with_reducible exact cls_call hF1 hF2 H2.out _) | (go_at_call 68; with_reducible exact cls_call hF1 hF2 H3.out _) | (go_at_call 68; with_reducible exact cls_call hF1 hF2 H4.out _) | (go_at_call 64; with_reducible exact cls_call hF1 hF2 H5.out _) | (go_at_call 64; with_reducible exact cls_call hF1 hF2 H6.out _) | (go_at_call 68; with_reducible exact cls_call hF1 hF2 H7.out _) | (go_at_call 68; with_reducible exact cls_call hF1 hF2 H8.out _) | (go_at_call 64; with_reducible exact cls_call hF1 hF2 H9.out _) | (go_at_call 66; with_reducible exact cls_call hF1 hF2 H10.out _)))
  refine wpQuiet_nil ?_
  rintro wq ⟨xq, rfl⟩
  replace hL0 := hL0.call (hF1 xq)
  clear  hq0 hq1 hq2 hF2
  generalize F xq = x4 at hL0 ⊢
  clear hF1 xq iα F α
  go_upto_region 6 with fail
  refine region_gh (by kernel_rfl) (by kernel_rfl) ?_
  refine lex_seg (gl := []) 8 (by kernel_rfl) ?_
  intro α iα F hF1 hF2
  have hq := GL.seg hF1 hL0
  simp only [fcC, cellsC, and_true, Nat.zero_add, Nat.reduceAdd] at hq
  simp only [List.take_succ_cons, List.take_zero, List.drop_succ_cons, List.drop_zero, List.take_nil, List.drop_nil]
  repeat (go_big_quiet_step (first | fail | (go_at_call 68; with_reducible exact seg_call hF2 H3.out _) | (go_at_call 61; with_reducible exact seg_call hF2 H11.out _)))
  refine wpQuiet_nil ?_
  clear hq hF1 hF2 iα F α
  refine lex_new [.int .u64 0, .string ⟨#[]⟩, .bool false, .int .u64 0, .string ⟨#[]⟩] 10 79 79 rfl rfl (of_decide_eq_true (by kernel_rfl)) (by kernel_rfl) rfl new_frac ?_
  simp only [Act.put, List.setIfInBounds_toArray, List.set_cons_succ, List.set_cons_zero]
  refine lex_put [.int .u64 0, .string ⟨#[]⟩, .bool false, .int .u64 0, .string ⟨#[]⟩] [.int .u64 0, .string ⟨#[]⟩, .bool false, .int .u64 0, .string ⟨#[]⟩] 10 79 (.tmp 97) rfl (by kernel_rfl) (by simp [toG, upd]) rfl (fun w k h => put_frac _ _ _ _ _ _ _ _ _ _ w k h) ?_
  simp only [Act.put]
  refine lex_seg (gl := [(10, [.int .u64 0, .string ⟨#[]⟩, .bool false, .int .u64 0, .string ⟨#[]⟩], true), (10, [.int .u64 0, .string ⟨#[]⟩, .bool false, .int .u64 0, .string ⟨#[]⟩], false)]) 1 (by kernel_rfl) ?_
  intro α iα F hF1 hF2
  have hq := GL.seg hF1 hL0
  simp only [fcC, cellsC, and_true, Nat.zero_add, Nat.reduceAdd] at hq
  simp only [List.take_succ_cons, List.take_zero, List.drop_succ_cons, List.drop_zero, List.take_nil, List.drop_nil]
  repeat (go_big_quiet_step (first | fail | (go_at_call 68; with_reducible exact seg_call hF2 H3.out _) | (go_at_call 61; with_reducible exact seg_call hF2 H11.out _)))
  refine wpQuiet_nil ?_
  clear hq hF1 hF2 iα F α
  refine lexG_nil ?_
  intro κ x5 hS
  replace hL0 := hL0.ghs hS [(10, [.int .u64 0, .string ⟨#[]⟩, .bool false, .int .u64 0, .string ⟨#[]⟩])] (by simp) (by intro p hp; simp only [List.mem_cons, List.not_mem_nil, or_false] at hp; rcases hp with rfl <;> exact ⟨_, by simp only [toG, upd]; rfl⟩)
  simp only [List.map_cons, List.map_nil, List.cons_append, List.nil_append] at hL0
  simp only [over_toG, over_nil, Act.put, List.setIfInBounds_toArray, List.set_cons_succ, List.set_cons_zero]
  clear hS
  generalize κ 10 = k5_10 at *
  go_upto_region 7 with fail
  obtain ⟨α, iα, F, hF1, hF2⟩ := cls x5
  have hq0 := cls_box hF1 hL0 _ _ (List.mem_cons_of_mem _ (List.mem_cons_of_mem _ List.mem_cons_self))
  simp only [cellsC, and_true, Nat.zero_add, Nat.reduceAdd] at hq0
  have hq1 := cls_box hF1 hL0 _ _ (List.mem_cons_of_mem _ (List.mem_cons_of_mem _ (List.mem_cons_of_mem _ List.mem_cons_self)))
  simp only [cellsC, and_true, Nat.zero_add, Nat.reduceAdd] at hq1
  refine region_qs 35 (C := fun w' => ∃ x, w' = F x) (by kernel_rfl) (by kernel_rfl) (cls_drew hF2) ?_
  simp only [List.take_succ_cons, List.take_zero, List.drop_succ_cons, List.drop_zero, List.take_nil, List.drop_nil]
  repeat (go_big_quiet_step (first | fail | (go_at_call 75; with_reducible exact cls_call hF1 hF2 H12.out _) | (go_at_call 83; with_reducible exact cls_call hF1 hF2 H13.out _) | (go_at_call 75; with_reducible exact cls_call hF1 hF2 H14.out _) | (go_at_call 68; with_reducible exact cls_call hF1 hF2 H15.out _)))
  refine wpQuiet_nil ?_
  rintro wq ⟨xq, rfl⟩
  replace hL0 := hL0.call (hF1 xq)
  clear  hq0 hq1 hF2
  generalize F xq = x6 at hL0 ⊢
  clear hF1 xq iα F α
  go_upto_region 9 with fail
  have kKW1 := hKW.out.at hL0.bl kKW
  obtain ⟨α, iα, F, hF1, hF2⟩ := cls x6
  have hq0 := cls_box hF1 hL0 _ _ (List.mem_cons_of_mem _ List.mem_cons_self)
  simp only [cellsC, and_true, Nat.zero_add, Nat.reduceAdd] at hq0
  have hq1 := cls_box hF1 hL0 _ _ (List.mem_cons_of_mem _ (List.mem_cons_of_mem _ List.mem_cons_self))
  simp only [cellsC, and_true, Nat.zero_add, Nat.reduceAdd] at hq1
  have hq2 := cls_box hF1 hL0 _ _ (List.mem_cons_of_mem _ (List.mem_cons_of_mem _ (List.mem_cons_of_mem _ List.mem_cons_self)))
  simp only [cellsC, and_true, Nat.zero_add, Nat.reduceAdd] at hq2
  refine region_cls (F := F) (by kernel_rfl) (lexB_of_fast (by kernel_rfl)) (cls_drew hF2) ?_
  repeat (go_big_quiet_step (first | fail | (go_at_call 64; with_reducible exact cls_call hF1 hF2 H5.out _) | (go_at_call 64; with_reducible exact cls_call hF1 hF2 H6.out _) | (go_at_call 76; with_reducible exact cls_call hF1 hF2 H16.out _) | (go_at_call 76; with_reducible exact cls_call hF1 hF2 H17.out _) | (go_at_call 68; with_reducible exact cls_call hF1 hF2 H8.out _) | (go_at_call 68; with_reducible exact cls_call hF1 hF2 H7.out _) | (go_at_call 76; with_reducible exact cls_call hF1 hF2 H18.out _) | (go_at_call 75; with_reducible exact cls_call hF1 hF2 H19.out _) | (go_at_call 76; with_reducible exact cls_call hF1 hF2 H20.out _) | (go_at_call 57; with_reducible exact cls_callK hKW.out hF1 hF2 kKW1 HW.out _)))
  refine wpQuiet_nil ?_
  rintro wq ⟨xq, rfl⟩
  replace hL0 := hL0.call (hF1 xq)
  clear  hq0 hq1 hq2 hF2
  generalize F xq = x7 at hL0 ⊢
  clear hF1 xq iα F α
  clear kKW1
  go_wp2_with fail
  exact bodyPost_ret (v := .bool true) (by simp [results, Tryz.results9, go_sem]) rfl ⟨rfl, hL0.bl⟩

theorem ffield_zero (sx sy sz : Bool) (ax qx ay qy az qz : Option Addr) (nx cx mx dx ny cy my dy nz cz mz dz : Nat) (lx kx ly ky lz kz : List Nat) (hk : nx ≤ 5 ∧ mx ≤ 5 ∧ ny ≤ 5 ∧ my ≤ 5 ∧ nz ≤ 5 ∧ mz ≤ 5) (h0y : gmade sy ly ky = 0) (w : World) (htab : Tab w) (hm : MaxL w) (hwx : Ws w (.slice ax nx cx) lx) (hvx : Ws w (.slice qx mx dx) kx) (hwy : Ws w (.slice ay ny cy) ly) (hvy : Ws w (.slice qy my dy) ky) (hwz : Ws w (.slice az nz cz) lz) (hvz : Ws w (.slice qz mz dz) kz) :
    Calls Tryz.prog 9 #[.agg #[.bool sx, .slice ax nx cx, .slice qx mx dx], .agg #[.bool sy, .slice ay ny cy, .slice qy my dy], .agg #[.bool sz, .slice az nz cz, .slice qz mz dz]] w fun xe w' => xe = .returned (.bool true) ∧ Below w.heap.size w w' := by
  have elx := hwx.len
  have ekx := hvx.len
  have Gx := fun w (h : Ws w (.slice ax nx cx) lx ∧ Ws w (.slice qx mx dx) kx) => gof_any sx ax qx nx cx mx dx lx kx (by omega) (by omega) w h.1 h.2
  have Sa : Sz (gmade sx lx kx) 6 := gmade_sz (by omega) hwx hvx (by omega) (by omega)
  generalize gmade sx lx kx = a at *
  have ely := hwy.len
  have eky := hvy.len
  have Gy := fun w (h : Ws w (.slice ay ny cy) ly ∧ Ws w (.slice qy my dy) ky) => gof_any sy ay qy ny cy my dy ly ky (by omega) (by omega) w h.1 h.2
  rw [h0y, frV_q0] at Gy
  have elz := hwz.len
  have ekz := hvz.len
  have Gz := fun w (h : Ws w (.slice az nz cz) lz ∧ Ws w (.slice qz mz dz) kz) => gof_any sz az qz nz cz mz dz lz kz (by omega) (by omega) w h.1 h.2
  have Sc : Sz (gmade sz lz kz) 6 := gmade_sz (by omega) hwz hvz (by omega) (by omega)
  generalize gmade sz lz kz = c at *
  have H1 := fun w => addF a (0 : Rat) 6 (Sa.mono (by omega)) ((szc 0 (by decide) (by decide)).mono (by omega)) (by omega) w
  rw [show (a + (0 : Rat)) = a from by grind] at H1
  try rw [frV_q0] at H1
  have H2 := fun w => addF (0 : Rat) a 6 ((szc 0 (by decide) (by decide)).mono (by omega)) (Sa.mono (by omega)) (by omega) w
  rw [show ((0 : Rat) + a) = a from by grind] at H2
  try rw [frV_q0] at H2
  have H3 := fun w => mulF a (0 : Rat) 6 (Sa.mono (by omega)) ((szc 0 (by decide) (by decide)).mono (by omega)) (by omega) w
  rw [show (a * (0 : Rat)) = (0 : Rat) from by first | decide +kernel | grind] at H3
  try rw [frV_q0] at H3
  have H4 := fun w => mulF (0 : Rat) a 6 ((szc 0 (by decide) (by decide)).mono (by omega)) (Sa.mono (by omega)) (by omega) w
  rw [show ((0 : Rat) * a) = (0 : Rat) from by first | decide +kernel | grind] at H4
  try rw [frV_q0] at H4
  have Sr1 := (Sa).add Sc
  have H5 := fun w => addF a c 6 (Sa.mono (by omega)) (Sc.mono (by omega)) (by omega) w
  have H6 := fun w => addF (0 : Rat) c 6 ((szc 0 (by decide) (by decide)).mono (by omega)) (Sc.mono (by omega)) (by omega) w
  rw [show ((0 : Rat) + c) = c from by grind] at H6
  try rw [frV_q0] at H6
  have H7 := fun w => mulF (0 : Rat) c 6 ((szc 0 (by decide) (by decide)).mono (by omega)) (Sc.mono (by omega)) (by omega) w
  rw [show ((0 : Rat) * c) = (0 : Rat) from by first | decide +kernel | grind] at H7
  try rw [frV_q0] at H7
  have Sr2 := (Sa).mul Sc
  have H8 := fun w => mulF a c 6 (Sa.mono (by omega)) (Sc.mono (by omega)) (by omega) w
  have H9 := fun w => addF (0 : Rat) (a * c) 12 ((szc 0 (by decide) (by decide)).mono (by omega)) (Sr2.mono (by omega)) (by omega) w
  rw [show ((0 : Rat) + (a * c)) = (a * c) from by grind] at H9
  try rw [frV_q0] at H9
  have H10 := fun w => subF a (0 : Rat) 6 (Sa.mono (by omega)) ((szc 0 (by decide) (by decide)).mono (by omega)) (by omega) w
  rw [show (a - (0 : Rat)) = a from by grind] at H10
  try rw [frV_q0] at H10
  have H11 := fun w => div0F (0 : Rat) w
  try rw [frV_q0] at H11
  have H12 := fun w => signF (0 : Rat) w
  rw [show sgnQ (0 : Rat) = 0 from by decide +kernel] at H12
  try rw [frV_q0] at H12
  have Sr3 := (Sa).mul Sa
  have H13 := fun w => squareF a 6 Sa (by omega) w
  have H14 := fun w => signF (a * a) w
  have H15 := fun w => mulF a a 6 (Sa.mono (by omega)) (Sa.mono (by omega)) (by omega) w
  have H16 := fun w => cmpF (a + c) c 13 (Sr1.mono (by omega)) (Sc.mono (by omega)) (by omega) w
  have H17 := fun w => cmpF a (0 : Rat) 6 (Sa.mono (by omega)) ((szc 0 (by decide) (by decide)).mono (by omega)) (by omega) w
  rw [show (cmpQ a (0 : Rat)) = (cmpQ (a + c) c) from by unfold cmpQ; grind] at H17
  try rw [frV_q0] at H17
  have H18 := fun w => cmpF (a * c) (0 : Rat) 12 (Sr2.mono (by omega)) ((szc 0 (by decide) (by decide)).mono (by omega)) (by omega) w
  try rw [frV_q0] at H18
  have H19 := fun w => signF c w
  have H20 := fun w => cmpF (0 : Rat) a 6 ((szc 0 (by decide) (by decide)).mono (by omega)) (Sa.mono (by omega)) (by omega) w
  try rw [frV_q0] at H20
  have HW := fun w (h : Tab w ∧ MaxL w) => fworks_any w h.1 h.2
  exact ffield_zero_w sx sy sz ax qx ay qy az qz nx cx mx dx ny cy my dy nz cz mz dz  a c (a + c) (a * c) (a * a) (sgnQ (a * a)) (cmpQ (a + c) c) (cmpQ (a * c) (0 : Rat)) (sgnQ c) (cmpQ (0 : Rat) a) _ (Keeps.and (Keeps.ws _ _) (Keeps.ws _ _)) Gx _ (Keeps.and (Keeps.ws _ _) (Keeps.ws _ _)) Gy _ (Keeps.and (Keeps.ws _ _) (Keeps.ws _ _)) Gz H1 H2 H3 H4 H5 H6 H7 H8 H9 H10 H11 H12 H13 H14 H15 H16 H17 H18 H19 H20 _ (Keeps.and Keeps.tab MaxL.keeps) HW (decide_eq_true hk) (by first | exact decide_eq_false (by have := sgnQ_sq a; omega) | exact decide_eq_true (sgnQ_sq a)) (by first | exact decide_eq_false (by have := sgnQ_sq a; omega) | exact decide_eq_true (sgnQ_sq a)) (by rw [show (cmpQ (a + c) c) = cmpQ a 0 from by unfold cmpQ; grind, show (cmpQ (a * c) (0 : Rat)) = cmpQ (a * c) (0 * c) from by first | rfl | (rw [Rat.zero_mul])]; exact cmpQ_wrap a 0 c) (by rw [show (cmpQ (a + c) c) = cmpQ a 0 from by unfold cmpQ; grind, show (cmpQ (0 : Rat) a) = cmpQ 0 a from by unfold cmpQ; grind]; exact cmpQ_wneg a 0) w ⟨hwx, hvx⟩ ⟨hwy, hvy⟩ ⟨hwz, hvz⟩ ⟨htab, hm⟩

theorem ffield_any (sx sy sz : Bool) (ax qx ay qy az qz : Option Addr) (nx cx mx dx ny cy my dy nz cz mz dz : Nat) (lx kx ly ky lz kz : List Nat) (w : World) (htab : Tab w) (hm : MaxL w) (hwx : Ws w (.slice ax nx cx) lx) (hvx : Ws w (.slice qx mx dx) kx) (hwy : Ws w (.slice ay ny cy) ly) (hvy : Ws w (.slice qy my dy) ky) (hwz : Ws w (.slice az nz cz) lz) (hvz : Ws w (.slice qz mz dz) kz) :
    Calls Tryz.prog 9 #[.agg #[.bool sx, .slice ax nx cx, .slice qx mx dx], .agg #[.bool sy, .slice ay ny cy, .slice qy my dy], .agg #[.bool sz, .slice az nz cz, .slice qz mz dz]] w fun xe w' => xe = .returned (.bool true) ∧ Below w.heap.size w w' := by
  by_cases hk : nx ≤ 5 ∧ mx ≤ 5 ∧ ny ≤ 5 ∧ my ≤ 5 ∧ nz ≤ 5 ∧ mz ≤ 5
  · by_cases hb : gmade sy ly ky = 0
    · exact ffield_zero sx sy sz ax qx ay qy az qz nx cx mx dx ny cy my dy nz cz mz dz lx kx ly ky lz kz hk hb w htab hm hwx hvx hwy hvy hwz hvz
    · exact ffield_pos sx sy sz ax qx ay qy az qz nx cx mx dx ny cy my dy nz cz mz dz lx kx ly ky lz kz hk hb w htab hm hwx hvx hwy hvy hwz hvz
  · exact ffield_big sx sy sz ax qx ay qy az qz nx cx mx dx ny cy my dy nz cz mz dz lx kx ly ky lz kz  hk w htab hm hwx hvx hwy hvy hwz hvz

end Go.Proofs.YtecdnohhengfaaaGreatDoor

/-
  The law FracsField answers true at every input, and leaves its arguments as they were. CONDITIONS: the package-level tables start as the program's text lays them (the card ties them).
-/
namespace Go.Proofs.YtecdnohhengfaaaGreatDoor.fracsField
open Go.ChangeShapes Go.WideShapes Go.ChangeAt Go.RowKit

set_option maxRecDepth 100000 in
theorem contract (H : Type) (enc : TypeId × Value → H) (W : World) (base : Nat) (args : Array Value) (ds gs : List (DataW H)) (before : List MemPlace)
    (hval : ∀ (j : Nat) t v, Tryz.f9.params[j]? = some t → args[j]? = some v → Value.okWide Tryz.prog W .any base t v)
    (hW : DataW.Whole enc Tryz.prog Tryz.f9.params.toList Rows.fracsFieldSpec.vars false W args.toList ds gs before) (hL : laidMetH Tryz.prog Rows.fracsFieldRow.laid W) (hSh : W.ShapedOpen Tryz.prog) :
    Calls Tryz.prog 9 args W fun e W' => ∃ v, e = .returned v ∧ Rows.fracsFieldSpec.post enc Tryz.prog Tryz.f9 false true false false W args v W' := by
  have hW' := hW
  obtain ⟨p, q, hA0, hV, rfl, _, _⟩ := hW
  have hA : DataW.TrodAll enc Tryz.prog W 0 (fun _ => true) true Tryz.f9.params.toList args.toList ds p := hA0
  rw [Tryz.params9] at hA hval
  obtain ⟨v0, v1, v2, e0, e1, e2, p0, p1, p2, rfl, rfl, rfl, h0, h1, h2⟩ := trodAll_three hA
  obtain ⟨rfl, rfl⟩ := trodVars_none hV
  clear hA0
  simp only [List.append_nil] at hW'
  have hlt : ∀ x ∈ p0 ++ p1 ++ p2, x.block < W.heap.size := fun x hx => by simpa using hW'.lt x hx
  have t0 : ∀ x ∈ p0, x.block < W.heap.size := fun x hx => hlt x (by simp [hx])
  obtain ⟨s0, a0, q0, n0, c0, m0, d0, l0, k0, rfl, w0, u0⟩ := great_of (hval 0 76 v0 rfl rfl) h0
  have t1 : ∀ x ∈ p1, x.block < W.heap.size := fun x hx => hlt x (by simp [hx])
  obtain ⟨s1, a1, q1, n1, c1, m1, d1, l1, k1, rfl, w1, u1⟩ := great_of (hval 1 76 v1 rfl rfl) h1
  have t2 : ∀ x ∈ p2, x.block < W.heap.size := fun x hx => hlt x (by simp [hx])
  obtain ⟨s2, a2, q2, n2, c2, m2, d2, l2, k2, rfl, w2, u2⟩ := great_of (hval 2 76 v2 rfl rfl) h2
  refine (ffield_any s0 s1 s2 a0 q0 a1 q1 a2 q2 n0 c0 m0 d0 n1 c1 m1 d1 n2 c2 m2 d2 l0 k0 l1 k1 l2 k2  W (tab_of hL) (maxL_of hSh) w0 u0 w1 u1 w2 u2).mono fun e W' ⟨he, hb⟩ => ?_
  subst he
  refine ⟨_, rfl, _, _, _, [], ?pl, [], hW', ?_, ?_, rfl, hb.frame _, fun h => by cases h⟩
  rotate_left
  · exact trodAll_mk1 (shut_bool Tryz.underlying4 _)
  · exact trodAll_mk3 (Below.trod laidOut (by kernel_rfl) (of_decide_eq_true (by kernel_rfl)) h0 hb t0) (Below.trod laidOut (by kernel_rfl) (of_decide_eq_true (by kernel_rfl)) h1 hb t1) (Below.trod laidOut (by kernel_rfl) (of_decide_eq_true (by kernel_rfl)) h2 hb t2)

/-- A world for the witness: the settled one, the tables as their initialisers lay them. -/
noncomputable def laidWorld (os : Os) : World := World.laidAll Tryz.prog os Rows.fracsFieldRow.laid
theorem laid_met (os : Os) : laidMet Tryz.prog Rows.fracsFieldRow.laid ((laidWorld os).forCall (fun _ _ => 0) ⟨#[], #[.agg #[.bool false, .slice none 0 0, .slice none 0 0], .agg #[.bool false, .slice none 0 0, .slice none 0 0], .agg #[.bool false, .slice none 0 0, .slice none 0 0]], []⟩).memory :=
  laidMet_laidAll _ (by kernel_rfl) (by kernel_rfl)
theorem reads (os : Os) {H : Type} (enc : TypeId × Value → H) : ∃ places, DataW.whole enc Tryz.prog ((laidWorld os).forCall (fun _ _ => 0) ⟨#[], #[.agg #[.bool false, .slice none 0 0, .slice none 0 0], .agg #[.bool false, .slice none 0 0, .slice none 0 0], .agg #[.bool false, .slice none 0 0, .slice none 0 0]], []⟩).memory Tryz.f9.params.toList Rows.fracsFieldSpec.vars false (#[.agg #[.bool false, .slice none 0 0, .slice none 0 0], .agg #[.bool false, .slice none 0 0, .slice none 0 0], .agg #[.bool false, .slice none 0 0, .slice none 0 0]] : Array Value).toList 8 = some ([.agg [.agg [.lit (.bool false), .nil], .nil], .agg [.agg [.lit (.bool false), .nil], .nil], .agg [.agg [.lit (.bool false), .nil], .nil]], [], places) :=
  ⟨[], by kernel_rfl⟩

set_option maxRecDepth 100000 in
theorem lifted (os : Os) (started : os.Started) (H : Type) (enc : TypeId × Value → H) (F : Stop.Interp) :
    ReturnsInHanded {} Tryz.checked os 9 .any ((OpenSpec.ofChange Rows.fracsFieldSpec).preRow enc Tryz.prog Tryz.f9 Rows.fracsFieldRow.domain false Rows.fracsFieldRow.laid) (((OpenSpec.ofChange Rows.fracsFieldSpec).at F).post enc Tryz.prog Tryz.f9 false true false false) := by
  obtain ⟨places, hx⟩ := reads os enc
  refine returnsInHanded_of_row (C := Tryz.checked) (s := OpenSpec.ofChange Rows.fracsFieldSpec) own started (by kernel_rfl) Tryz.func9
    (witness_row_at (enc := enc) (C := Tryz.checked) false (laidWorld os) #[.agg #[.bool false, .slice none 0 0, .slice none 0 0], .agg #[.bool false, .slice none 0 0, .slice none 0 0], .agg #[.bool false, .slice none 0 0, .slice none 0 0]] (World.laidAll_os _ _ _) (by kernel_rfl) (by kernel_rfl) (by kernel_rfl)
      (OpenSpec.preRow_of_cond 8 hx (by kernel_rfl) (fun k hk => by cases hk) (by kernel_rfl) (laid_met os))) ?_
  intro W base args ds gs before hval hW _ _ _ hL hSh _
  exact contract H enc W base args ds gs before hval hW hL hSh

theorem said : Rows.FracsFieldSaid :=
  OpenClaim.holds_of_cond 9 Tryz.f9 rfl rfl rfl rfl rfl rfl rfl ⟨rfl, rfl, rfl, rfl, rfl⟩ rfl rfl rfl rfl rfl (by kernel_rfl) Tryz.func9 (by kernel_rfl)
    (of_decide_eq_true (by kernel_rfl)) (by unfold Func.isWrapper; first | (rw [if_pos (by decide +kernel)]; kernel_rfl) | (rw [if_neg (by decide +kernel)]; exact ⟨rfl, rfl⟩))
    (fun os started H enc _ F => by rw [OpenClaim.pre_eq_preRow]; exact lifted os started H enc F)

theorem plain (f : FuncId) (fn : Func) (hf : Tryz.pinned.checked.prog.funcNamed "gusset/gussetlaw03.FracsField" = some f) (hfn : Tryz.pinned.checked.prog.funcs[f]? = some fn) :
    false = Tryz.pinned.checked.prog.looks [] ∧ ∀ (j : Nat) t, fn.params[j]? = some t → Tryz.pinned.checked.prog.wantsStandIn t = false := by
  obtain rfl : f = 9 := Option.some.inj ((show Tryz.prog.funcNamed "gusset/gussetlaw03.FracsField" = some 9 by kernel_rfl).symm.trans hf) |>.symm
  obtain rfl : fn = Tryz.f9 := (Option.some.inj (Tryz.func9.symm.trans hfn)).symm
  refine ⟨by kernel_rfl, fun j t ht => ?_⟩
  rw [Tryz.params9] at ht
  have hm := Array.mem_of_getElem? ht
  simp only [List.mem_toArray, List.mem_cons, List.not_mem_nil, or_false] at hm
  rcases hm with rfl | rfl | rfl
  · exact (show Tryz.prog.wantsStandIn 76 = false by kernel_rfl)
  · exact (show Tryz.prog.wantsStandIn 76 = false by kernel_rfl)
  · exact (show Tryz.prog.wantsStandIn 76 = false by kernel_rfl)
end Go.Proofs.YtecdnohhengfaaaGreatDoor.fracsField

namespace Go.Proofs.YtecdnohhengfaaaGreatDoor
open Go.ChangeShapes Go.WideShapes Go.ChangeAt Go.RowKit
/-- THE CARD -/
theorem fracsFieldProved : Rows.FracsFieldCardSaid :=
  Claim7.holds_tied_plain_at .later [] _ _ _ _ fracsField.said (fun _ h => by cases h) (by kernel_rfl) (fun _ h => by cases h) fracsField_row_tie rfl ⟨rfl, rfl⟩ (by kernel_rfl) rfl fracsField.plain (by kernel_rfl)
end Go.Proofs.YtecdnohhengfaaaGreatDoor
