/-
  The law answers true at every input, and leaves its arguments as they were: a part of the proof. CONDITIONS: the package-level tables start as the program's text lays them (the card ties them).
-/
import Derived.Test.YthkodldppaccmaaGreatDoorZae
set_option linter.unusedVariables false
set_option linter.unusedSimpArgs false
namespace Go.Proofs.YthkodldppaccmaaGreatDoor
open Go.RowKit
attribute [local irreducible] lo hs sm s64 c64 d64 b64 mh ml pd pc qd qc val hiB str cmpI srD lz nb
/-- A new box of two cells. -/
def nw : Prop := ∀ (W : World) (v0 v1 : Value) (t : TypeId), (W.alloc (.cells #[v0, v1] t)).cell? ⟨W.heap.size, 0, none⟩ = some v0 ∧ (W.alloc (.cells #[v0, v1] t)).cell? ⟨W.heap.size, 1, none⟩ = some v1 ∧ ∀ j, (W.alloc (.cells #[v0, v1] t)).frozen? ⟨W.heap.size, j, none⟩ = false
end Go.Proofs.YthkodldppaccmaaGreatDoor
namespace Go.Proofs.YthkodldppaccmaaGreatDoor
open Go.RowKit
attribute [local irreducible] lo hs sm s64 c64 d64 b64 mh ml pd pc qd qc val hiB str cmpI srD lz nb zl zh zs
/-- few: its slice's structs. -/
structure FW (w : World) (g n : Nat) (len : Nat → Nat) : Prop where
 cell : ∀ i, i < n → ∃ a c, w.cell? ⟨g, i * 2 + 1, none⟩ = some (.slice a (len i) c)
 lt : n ≤ 1000
end Go.Proofs.YthkodldppaccmaaGreatDoor
namespace Go.Proofs.YthkodldppaccmaaGreatDoor
open Go.RowKit
attribute [local irreducible] lo hs sm s64 c64 d64 b64 mh ml pd pc qd qc val hiB str cmpI srD lz nb zl zh zs dval
end Go.Proofs.YthkodldppaccmaaGreatDoor
namespace Go.Proofs.YthkodldppaccmaaGreatDoor
open Go.RowKit
attribute [local irreducible] lo hs zl zh zs
end Go.Proofs.YthkodldppaccmaaGreatDoor
namespace Go.Proofs.YthkodldppaccmaaGreatDoor
open Go.RowKit
attribute [local irreducible] lo hs sm s64 c64 d64 b64 mh ml pd pc qd qc val hiB str cmpI srD lz nb zl zh zs fe
theorem rep_tab (n : Nat) : List.replicate n (0 : Rat) = tabV n fun _ => 0 := by
 apply List.ext_getElem (by rw [tabV_len, List.length_replicate])
 intro i h1 h2
 rw [tabV_get, List.getElem_replicate]
end Go.Proofs.YthkodldppaccmaaGreatDoor
namespace Go.Proofs.YthkodldppaccmaaGreatDoor
open Go.RowKit
attribute [local irreducible] lo hs sm s64 c64 d64 b64 mh ml pd pc qd qc val hiB str cmpI srD lz nb zl zh zs fe rowV tabV gv bsV
theorem run_eqlF (p q : Rat) (y : Bool) (hy : y = decide (p = q)) (W : World) : (binOp .eql 38 (fracV p) (fracV q)).run Tryz.prog W = .ok (.bool y) W := by
 rcases same_fr hy with hz | hz | hz | hz | hz | hz <;> simp [go_sem, hz]
end Go.Proofs.YthkodldppaccmaaGreatDoor
namespace Go.Proofs.YthkodldppaccmaaGreatDoor
open Go.RowKit
attribute [local irreducible] lo hs sm s64 c64 d64 b64 mh ml pd pc qd qc val hiB str cmpI srD lz nb zl zh zs fe rowV tabV gv bsV
set_option maxHeartbeats 4000000 in
set_option maxRecDepth 100000 in
theorem msize_neg2 (r c : Int) (hr : ¬ r < 0) (hc : c < 0) (w : World) : Calls Tryz.prog 139 #[.int .i64 r, .int .i64 c] w fun xe w' => xe = .returned (.int .i64 1) ∧ Below w.heap.size w w' := by
 go_enter Tryz.func139, Tryz.ntmps139
 go_wp2_with fail
 exact bodyPost_ret (v := .int .i64 1) (by simp [results, Tryz.results139, go_sem]) rfl ⟨rfl, Below.refl _ _⟩
set_option maxHeartbeats 4000000 in
set_option maxRecDepth 100000 in
theorem msize_big2 (r c : Int) (hr : ¬ r < 0) (hc : ¬ c < 0) (h2 : ¬ 2048 < r) (h3 : 2048 < c) (w : World) : Calls Tryz.prog 139 #[.int .i64 r, .int .i64 c] w fun xe w' => xe = .returned (.int .i64 3) ∧ Below w.heap.size w w' := by
 go_enter Tryz.func139, Tryz.ntmps139
 go_wp2_with fail
 exact bodyPost_ret (v := .int .i64 3) (by simp [results, Tryz.results139, go_sem]) rfl ⟨rfl, Below.refl _ _⟩
end Go.Proofs.YthkodldppaccmaaGreatDoor
namespace Go.Proofs.YthkodldppaccmaaGreatDoor
open Go.RowKit
attribute [local irreducible] lo hs sm s64 c64 d64 b64 mh ml pd pc qd qc val hiB str cmpI srD lz nb zl zh zs fe rowV tabV gv bsV tabM
theorem tab_row (c : Nat) (f : Nat → Rat) : (tabM 1 c fun _ k => f k).l = tabV c f := by
 unfold tabM
 show tabV (1 * c) (fun p => f (p % c)) = tabV c f
 rw [Nat.one_mul]
 exact tab_ext fun i hi => by rw [Nat.mod_eq_of_lt hi]
end Go.Proofs.YthkodldppaccmaaGreatDoor
namespace Go.Proofs.YthkodldppaccmaaGreatDoor
open Go.RowKit
attribute [local irreducible] lo hs sm s64 c64 d64 b64 mh ml pd pc qd qc val hiB str cmpI srD lz nb zl zh zs fe rowV tabV gv bsV
theorem new_mat (w : World) : (Instr.alloc 81 true (.tuple #[])).run Tryz.prog w = .ok (.pointer (some ⟨w.heap.size, 0, none⟩)) (w.alloc (.cells #[.int .i64 0, .int .i64 0, .slice none 0 0] 81)) := by
 simp [go_sem, Instr.alloc]
end Go.Proofs.YthkodldppaccmaaGreatDoor
namespace Go.Proofs.YthkodldppaccmaaGreatDoor
open Go.ChangeShapes Go.WideShapes Go.ChangeAt Go.RowKit Go.Joins
section
variable {H : Type} {enc : TypeId × Value → H} {P : Program} {w : World} {base : Nat} {spare : Nat → Bool} {held : Bool}
theorem trodAll_five {t t1 t2 t3 t4 : TypeId} {args : Array Value} {ds : List (DataW H)} {ps : List MemPlace} (h : DataW.TrodAll enc P w base spare held [t, t1, t2, t3, t4] args.toList ds ps) :
  ∃ v v1 v2 v3 v4 d d1 d2 d3 d4 p p1 p2 p3 p4, args = #[v, v1, v2, v3, v4] ∧ ds = [d, d1, d2, d3, d4] ∧ ps = p ++ p1 ++ p2 ++ p3 ++ p4 ∧ DataW.Trod enc P w base spare held t v d p ∧ DataW.Trod enc P w base spare held t1 v1 d1 p1 ∧ DataW.Trod enc P w base spare held t2 v2 d2 p2 ∧ DataW.Trod enc P w base spare held t3 v3 d3 p3 ∧ DataW.Trod enc P w base spare held t4 v4 d4 p4 := by
 obtain ⟨v, vs, d, ds1, p, q, hargs, rfl, rfl, hd, hr⟩ := trodAll_cons h
 obtain ⟨v1, vs1, d1, ds2, p1, q1, rfl, rfl, rfl, hd1, hr1⟩ := trodAll_cons hr
 obtain ⟨v2, vs2, d2, ds3, p2, q2, rfl, rfl, rfl, hd2, hr2⟩ := trodAll_cons hr1
 obtain ⟨v3, vs3, d3, ds4, p3, q3, rfl, rfl, rfl, hd3, hr3⟩ := trodAll_cons hr2
 obtain ⟨v4, vs4, d4, ds5, p4, q4, rfl, rfl, rfl, hd4, hr4⟩ := trodAll_cons hr3
 obtain ⟨rfl, rfl, rfl⟩ := trodAll_nil hr4
 exact ⟨v, v1, v2, v3, v4, d, d1, d2, d3, d4, p, p1, p2, p3, p4, by cases args; simp_all, rfl, by simp, hd, hd1, hd2, hd3, hd4⟩
theorem trodAll_mk5 {t t1 t2 t3 t4 : TypeId} {v v1 v2 v3 v4 : Value} {d d1 d2 d3 d4 : DataW H} {p p1 p2 p3 p4 : List MemPlace} (h : DataW.Trod enc P w base spare held t v d p) (h1 : DataW.Trod enc P w base spare held t1 v1 d1 p1)
  (h2 : DataW.Trod enc P w base spare held t2 v2 d2 p2) (h3 : DataW.Trod enc P w base spare held t3 v3 d3 p3) (h4 : DataW.Trod enc P w base spare held t4 v4 d4 p4) : DataW.TrodAll enc P w base spare held [t, t1, t2, t3, t4] [v, v1, v2, v3, v4] [d, d1, d2, d3, d4] (p ++ (p1 ++ (p2 ++ (p3 ++ p4)))) := ⟨p, p1 ++ (p2 ++ (p3 ++ p4)), h, trodAll_mk4 h1 h2 h3 h4, rfl⟩
end
end Go.Proofs.YthkodldppaccmaaGreatDoor
namespace Go.Proofs.YthkodldppaccmaaGreatDoor
open Go.RowKit
attribute [local irreducible] lo hs sm s64 c64 d64 b64 mh ml pd pc qd qc val hiB str cmpI srD lz nb zl zh zs fe rowV tabV gv bsV tabM
set_option maxHeartbeats 4000000 in
set_option maxRecDepth 100000 in
theorem mrow_err (r c e : Int) (n d : Nat) (ao : Option Addr) (i : Int) (he : e ≠ 0) (HK : ∀ w, Calls Tryz.prog 51 #[.agg #[.int .i64 r, .int .i64 c, .slice ao n d]] w fun xe w' => xe = .returned (.int .i64 e) ∧ Below w.heap.size w w') (w : World) : Calls Tryz.prog 61 #[.agg #[.int .i64 r, .int .i64 c, .slice ao n d], .int .i64 i] w fun xe w' => xe = .returned (.tuple #[.slice none 0 0, .int .i64 e]) ∧ Below w.heap.size w w' := by
 replace HK := Lib.hid HK
 have h1 : (e != 0) = true := by simpa using he
 have h2 : (e == 0) = false := by simpa using he
 clear he
 have hL0 : GL w w [] := GL.start w
 replace hL0 := ((hL0.new rfl [.int .i64 r, .int .i64 c, .slice ao n d] 81).new (K := w.heap.size + 1) (szA _ _) [.int .i64 i] 3)
 generalize hweq : ((w.alloc (.cells #[.int .i64 r, .int .i64 c, .slice ao n d] 81)).alloc (.cells #[.int .i64 i] 3)) = x1 at hL0
 have hA := hL0.fc
 simp only [fcG, cellsF, neK, and_true, ne_eq, Nat.zero_add, Nat.reduceAdd] at hA
 go_enter Tryz.func61, Tryz.ntmps61
 go_wp2_with fail
 with_reducible refine Calls.mono (HK.out _) ?_
 rintro e y1 ⟨rfl, hb⟩
 replace hL0 := hL0.call hb
 clear hb hA hweq HK
 have hA := hL0.fc
 simp only [fcG, cellsF, neK, and_true, ne_eq, Nat.zero_add, Nat.reduceAdd] at hA
 go_wp2_with fail
 exact bodyPost_ret (v := .tuple #[.slice none 0 0, .int .i64 e]) (by simp [results, Tryz.results61, go_sem]) rfl ⟨rfl, hL0.bl⟩
set_option maxHeartbeats 4000000 in
set_option maxRecDepth 100000 in
theorem mcol_err (r c e : Int) (n d : Nat) (ao : Option Addr) (i : Int) (he : e ≠ 0) (HK : ∀ w, Calls Tryz.prog 51 #[.agg #[.int .i64 r, .int .i64 c, .slice ao n d]] w fun xe w' => xe = .returned (.int .i64 e) ∧ Below w.heap.size w w') (w : World) : Calls Tryz.prog 63 #[.agg #[.int .i64 r, .int .i64 c, .slice ao n d], .int .i64 i] w fun xe w' => xe = .returned (.tuple #[.slice none 0 0, .int .i64 e]) ∧ Below w.heap.size w w' := by
 replace HK := Lib.hid HK
 have h1 : (e != 0) = true := by simpa using he
 have h2 : (e == 0) = false := by simpa using he
 clear he
 have hL0 : GL w w [] := GL.start w
 replace hL0 := ((hL0.new rfl [.int .i64 r, .int .i64 c, .slice ao n d] 81).new (K := w.heap.size + 1) (szA _ _) [.int .i64 i] 3)
 generalize hweq : ((w.alloc (.cells #[.int .i64 r, .int .i64 c, .slice ao n d] 81)).alloc (.cells #[.int .i64 i] 3)) = x1 at hL0
 have hA := hL0.fc
 simp only [fcG, cellsF, neK, and_true, ne_eq, Nat.zero_add, Nat.reduceAdd] at hA
 go_enter Tryz.func63, Tryz.ntmps63
 go_wp2_with fail
 with_reducible refine Calls.mono (HK.out _) ?_
 rintro e y1 ⟨rfl, hb⟩
 replace hL0 := hL0.call hb
 clear hb hA hweq HK
 have hA := hL0.fc
 simp only [fcG, cellsF, neK, and_true, ne_eq, Nat.zero_add, Nat.reduceAdd] at hA
 go_wp2_with fail
 exact bodyPost_ret (v := .tuple #[.slice none 0 0, .int .i64 e]) (by simp [results, Tryz.results63, go_sem]) rfl ⟨rfl, hL0.bl⟩
set_option maxHeartbeats 4000000 in
set_option maxRecDepth 100000 in
theorem mturn_err (r c e : Int) (n d : Nat) (ao : Option Addr) (he : e ≠ 0) (HK : ∀ w, Calls Tryz.prog 51 #[.agg #[.int .i64 r, .int .i64 c, .slice ao n d]] w fun xe w' => xe = .returned (.int .i64 e) ∧ Below w.heap.size w w') (w : World) : Calls Tryz.prog 49 #[.agg #[.int .i64 r, .int .i64 c, .slice ao n d]] w fun xe w' => xe = .returned (.tuple #[.agg #[.int .i64 0, .int .i64 0, .slice none 0 0], .int .i64 e]) ∧ Below w.heap.size w w' := by
 replace HK := Lib.hid HK
 have h1 : (e != 0) = true := by simpa using he
 have h2 : (e == 0) = false := by simpa using he
 clear he
 have hL0 : GL w w [] := GL.start w
 replace hL0 := ((hL0.new rfl [.int .i64 r, .int .i64 c, .slice ao n d] 81).new (K := w.heap.size + 1) (szA _ _) [.int .i64 0, .int .i64 0, .slice none 0 0] 81)
 generalize hweq : ((w.alloc (.cells #[.int .i64 r, .int .i64 c, .slice ao n d] 81)).alloc (.cells #[.int .i64 0, .int .i64 0, .slice none 0 0] 81)) = x1 at hL0
 have hA := hL0.fc
 simp only [fcG, cellsF, neK, and_true, ne_eq, Nat.zero_add, Nat.reduceAdd] at hA
 go_enter Tryz.func49, Tryz.ntmps49
 go_wp2_with fail
 with_reducible refine Calls.mono (HK.out _) ?_
 rintro e y1 ⟨rfl, hb⟩
 replace hL0 := hL0.call hb
 clear hb hA hweq HK
 have hA := cells_of _ 0 [] rfl (hL0.get _ _ List.mem_cons_self)
 simp only [cellsF, and_true, Nat.zero_add, Nat.reduceAdd] at hA
 have zf := (hL0.get _ _ List.mem_cons_self).frz
 have hPt := hL0.put 0 (w.heap.size + 1) _ rfl [.int .i64 0, .int .i64 0, .slice none 0 0] rfl
 simp only [setAll, List.set_cons_zero, List.set_cons_succ] at hPt
 generalize hput1 : (((y1.setCell ⟨w.heap.size + 1, 0, none⟩ (.int .i64 0)).setCell ⟨w.heap.size + 1, 1, none⟩ (.int .i64 0)).setCell ⟨w.heap.size + 1, 2, none⟩ (.slice none 0 0)) = y9 at hPt
 have hB1 := cells_of _ 0 [] rfl (hPt.get _ _ List.mem_cons_self)
 simp only [cellsF, and_true, Nat.zero_add, Nat.reduceAdd] at hB1
 clear hL0
 go_wp2_with fail
 exact bodyPost_ret (v := .tuple #[.agg #[.int .i64 0, .int .i64 0, .slice none 0 0], .int .i64 e]) (by simp [results, Tryz.results49, go_sem, hB1]) rfl ⟨rfl, hPt.bl⟩
set_option maxHeartbeats 4000000 in
set_option maxRecDepth 100000 in
theorem mscale_err (r c e : Int) (n d : Nat) (ao : Option Addr) (t : Rat) (he : e ≠ 0) (HK : ∀ w, Calls Tryz.prog 51 #[.agg #[.int .i64 r, .int .i64 c, .slice ao n d]] w fun xe w' => xe = .returned (.int .i64 e) ∧ Below w.heap.size w w') (w : World) : Calls Tryz.prog 47 #[fracV t, .agg #[.int .i64 r, .int .i64 c, .slice ao n d]] w fun xe w' => xe = .returned (.tuple #[.agg #[.int .i64 0, .int .i64 0, .slice none 0 0], .int .i64 e]) ∧ Below w.heap.size w w' := by
 replace HK := Lib.hid HK
 have h1 : (e != 0) = true := by simpa using he
 have h2 : (e == 0) = false := by simpa using he
 clear he
 have hL0 : GL w w [] := GL.start w
 replace hL0 := (((hL0.new rfl [.int .u64 ((zl t.num : Nat) : Int), .string (zh t.num), .bool (zs t.num), .int .u64 ((lo (fe t) : Nat) : Int), .string (hs (fe t))] 38).new (K := w.heap.size + 1) (szA _ _) [.int .i64 r, .int .i64 c, .slice ao n d] 81).new (K := w.heap.size + 1 + 1) (by simp only [World.size_alloc]) [.int .i64 0, .int .i64 0, .slice none 0 0] 81)
 generalize hweq : (((w.alloc (.cells #[.int .u64 ((zl t.num : Nat) : Int), .string (zh t.num), .bool (zs t.num), .int .u64 ((lo (fe t) : Nat) : Int), .string (hs (fe t))] 38)).alloc (.cells #[.int .i64 r, .int .i64 c, .slice ao n d] 81)).alloc (.cells #[.int .i64 0, .int .i64 0, .slice none 0 0] 81)) = x1 at hL0
 have hA := hL0.fc
 simp only [fcG, cellsF, neK, and_true, ne_eq, Nat.zero_add, Nat.reduceAdd] at hA
 go_enter Tryz.func47, Tryz.ntmps47
 go_wp2_with fail
 with_reducible refine Calls.mono (HK.out _) ?_
 rintro e y1 ⟨rfl, hb⟩
 replace hL0 := hL0.call hb
 clear hb hA hweq HK
 have hA := cells_of _ 0 [] rfl (hL0.get _ _ List.mem_cons_self)
 simp only [cellsF, and_true, Nat.zero_add, Nat.reduceAdd] at hA
 have zf := (hL0.get _ _ List.mem_cons_self).frz
 have hPt := hL0.put 0 (w.heap.size + 1 + 1) _ rfl [.int .i64 0, .int .i64 0, .slice none 0 0] rfl
 simp only [setAll, List.set_cons_zero, List.set_cons_succ] at hPt
 generalize hput1 : (((y1.setCell ⟨w.heap.size + 1 + 1, 0, none⟩ (.int .i64 0)).setCell ⟨w.heap.size + 1 + 1, 1, none⟩ (.int .i64 0)).setCell ⟨w.heap.size + 1 + 1, 2, none⟩ (.slice none 0 0)) = y9 at hPt
 have hB1 := cells_of _ 0 [] rfl (hPt.get _ _ List.mem_cons_self)
 simp only [cellsF, and_true, Nat.zero_add, Nat.reduceAdd] at hB1
 clear hL0
 go_wp2_with fail
 exact bodyPost_ret (v := .tuple #[.agg #[.int .i64 0, .int .i64 0, .slice none 0 0], .int .i64 e]) (by simp [results, Tryz.results47, go_sem, hB1]) rfl ⟨rfl, hPt.bl⟩
set_option maxHeartbeats 4000000 in
set_option maxRecDepth 100000 in
theorem mpart_err (r c e : Int) (n d : Nat) (ao : Option Addr) (he : e ≠ 0) (HK : ∀ w, Calls Tryz.prog 51 #[.agg #[.int .i64 r, .int .i64 c, .slice ao n d]] w fun xe w' => xe = .returned (.int .i64 e) ∧ Below w.heap.size w w') (w : World) : Calls Tryz.prog 77 #[.agg #[.int .i64 r, .int .i64 c, .slice ao n d], .slice none 0 0, .slice none 0 0] w fun xe w' => xe = .returned (.tuple #[.agg #[.int .i64 0, .int .i64 0, .slice none 0 0], .int .i64 e]) ∧ Below w.heap.size w w' := by
 replace HK := Lib.hid HK
 have h1 : (e != 0) = true := by simpa using he
 have h2 : (e == 0) = false := by simpa using he
 clear he
 have hL0 : GL w w [] := GL.start w
 replace hL0 := ((((hL0.new rfl [.int .i64 r, .int .i64 c, .slice ao n d] 81).new (K := w.heap.size + 1) (szA _ _) [.slice none 0 0] 42).new (K := w.heap.size + 1 + 1) (by simp only [World.size_alloc]) [.slice none 0 0] 42).new (K := w.heap.size + 1 + 1 + 1) (by simp only [World.size_alloc]) [.int .i64 0, .int .i64 0, .slice none 0 0] 81)
 generalize hweq : ((((w.alloc (.cells #[.int .i64 r, .int .i64 c, .slice ao n d] 81)).alloc (.cells #[.slice none 0 0] 42)).alloc (.cells #[.slice none 0 0] 42)).alloc (.cells #[.int .i64 0, .int .i64 0, .slice none 0 0] 81)) = x1 at hL0
 have hA := hL0.fc
 simp only [fcG, cellsF, neK, and_true, ne_eq, Nat.zero_add, Nat.reduceAdd] at hA
 go_enter Tryz.func77, Tryz.ntmps77
 go_wp2_with fail
 with_reducible refine Calls.mono (HK.out _) ?_
 rintro e y1 ⟨rfl, hb⟩
 replace hL0 := hL0.call hb
 clear hb hA hweq HK
 have hA := cells_of _ 0 [] rfl (hL0.get _ _ List.mem_cons_self)
 simp only [cellsF, and_true, Nat.zero_add, Nat.reduceAdd] at hA
 have zf := (hL0.get _ _ List.mem_cons_self).frz
 have hPt := hL0.put 0 (w.heap.size + 1 + 1 + 1) _ rfl [.int .i64 0, .int .i64 0, .slice none 0 0] rfl
 simp only [setAll, List.set_cons_zero, List.set_cons_succ] at hPt
 generalize hput1 : (((y1.setCell ⟨w.heap.size + 1 + 1 + 1, 0, none⟩ (.int .i64 0)).setCell ⟨w.heap.size + 1 + 1 + 1, 1, none⟩ (.int .i64 0)).setCell ⟨w.heap.size + 1 + 1 + 1, 2, none⟩ (.slice none 0 0)) = y9 at hPt
 have hB1 := cells_of _ 0 [] rfl (hPt.get _ _ List.mem_cons_self)
 simp only [cellsF, and_true, Nat.zero_add, Nat.reduceAdd] at hB1
 clear hL0
 go_wp2_with fail
 exact bodyPost_ret (v := .tuple #[.agg #[.int .i64 0, .int .i64 0, .slice none 0 0], .int .i64 e]) (by simp [results, Tryz.results77, go_sem, hB1]) rfl ⟨rfl, hPt.bl⟩
set_option maxHeartbeats 4000000 in
set_option maxRecDepth 100000 in
theorem mtext_err (r c e : Int) (n d : Nat) (ao : Option Addr) (he : e ≠ 0) (HK : ∀ w, Calls Tryz.prog 51 #[.agg #[.int .i64 r, .int .i64 c, .slice ao n d]] w fun xe w' => xe = .returned (.int .i64 e) ∧ Below w.heap.size w w') (w : World) : Calls Tryz.prog 128 #[.agg #[.int .i64 r, .int .i64 c, .slice ao n d]] w fun xe w' => xe = .returned (.string ⟨#[]⟩) ∧ Below w.heap.size w w' := by
 replace HK := Lib.hid HK
 have h1 : (e != 0) = true := by simpa using he
 have h2 : (e == 0) = false := by simpa using he
 clear he
 have hL0 : GL w w [] := GL.start w
 replace hL0 := (hL0.new rfl [.int .i64 r, .int .i64 c, .slice ao n d] 81)
 generalize hweq : (w.alloc (.cells #[.int .i64 r, .int .i64 c, .slice ao n d] 81)) = x1 at hL0
 have hA := hL0.fc
 simp only [fcG, cellsF, neK, and_true, ne_eq, Nat.zero_add, Nat.reduceAdd] at hA
 go_enter Tryz.func128, Tryz.ntmps128
 go_wp2_with fail
 with_reducible refine Calls.mono (HK.out _) ?_
 rintro e y1 ⟨rfl, hb⟩
 replace hL0 := hL0.call hb
 clear hb hA hweq HK
 have hA := hL0.fc
 simp only [fcG, cellsF, neK, and_true, ne_eq, Nat.zero_add, Nat.reduceAdd] at hA
 go_wp2_with fail
 exact bodyPost_ret (v := .string ⟨#[]⟩) (by simp [results, Tryz.results128, go_sem]) rfl ⟨rfl, hL0.bl⟩
set_option maxHeartbeats 4000000 in
set_option maxRecDepth 100000 in
theorem msymm_err (r c e : Int) (n d : Nat) (ao : Option Addr) (he : e ≠ 0) (HK : ∀ w, Calls Tryz.prog 51 #[.agg #[.int .i64 r, .int .i64 c, .slice ao n d]] w fun xe w' => xe = .returned (.int .i64 e) ∧ Below w.heap.size w w') (w : World) : Calls Tryz.prog 71 #[.agg #[.int .i64 r, .int .i64 c, .slice ao n d]] w fun xe w' => xe = .returned (.bool false) ∧ Below w.heap.size w w' := by
 replace HK := Lib.hid HK
 have h1 : (e != 0) = true := by simpa using he
 have h2 : (e == 0) = false := by simpa using he
 clear he
 have hL0 : GL w w [] := GL.start w
 replace hL0 := (hL0.new rfl [.int .i64 r, .int .i64 c, .slice ao n d] 81)
 generalize hweq : (w.alloc (.cells #[.int .i64 r, .int .i64 c, .slice ao n d] 81)) = x1 at hL0
 have hA := hL0.fc
 simp only [fcG, cellsF, neK, and_true, ne_eq, Nat.zero_add, Nat.reduceAdd] at hA
 go_enter Tryz.func71, Tryz.ntmps71
 go_wp2_with fail
 with_reducible refine Calls.mono (HK.out _) ?_
 rintro e y1 ⟨rfl, hb⟩
 replace hL0 := hL0.call hb
 clear hb hA hweq HK
 have hA := hL0.fc
 simp only [fcG, cellsF, neK, and_true, ne_eq, Nat.zero_add, Nat.reduceAdd] at hA
 go_wp2_with fail
 exact bodyPost_ret (v := .bool false) (by simp [results, Tryz.results71, go_sem]) rfl ⟨rfl, hL0.bl⟩
set_option maxHeartbeats 4000000 in
set_option maxRecDepth 100000 in
theorem msum_err (r c e : Int) (n d : Nat) (ao : Option Addr) (he : e ≠ 0) (HK : ∀ w, Calls Tryz.prog 51 #[.agg #[.int .i64 r, .int .i64 c, .slice ao n d]] w fun xe w' => xe = .returned (.int .i64 e) ∧ Below w.heap.size w w') (w : World) : Calls Tryz.prog 65 #[.agg #[.int .i64 r, .int .i64 c, .slice ao n d]] w fun xe w' => xe = .returned (.agg #[.int .u64 0, .string ⟨#[]⟩, .bool false, .int .u64 0, .string ⟨#[]⟩]) ∧ Below w.heap.size w w' := by
 replace HK := Lib.hid HK
 have h1 : (e != 0) = true := by simpa using he
 have h2 : (e == 0) = false := by simpa using he
 clear he
 have hL0 : GL w w [] := GL.start w
 replace hL0 := ((hL0.new rfl [.int .i64 r, .int .i64 c, .slice ao n d] 81).new (K := w.heap.size + 1) (szA _ _) [.int .u64 0, .string ⟨#[]⟩, .bool false, .int .u64 0, .string ⟨#[]⟩] 38)
 generalize hweq : ((w.alloc (.cells #[.int .i64 r, .int .i64 c, .slice ao n d] 81)).alloc (.cells #[.int .u64 0, .string ⟨#[]⟩, .bool false, .int .u64 0, .string ⟨#[]⟩] 38)) = x1 at hL0
 have hA := hL0.fc
 simp only [fcG, cellsF, neK, and_true, ne_eq, Nat.zero_add, Nat.reduceAdd] at hA
 go_enter Tryz.func65, Tryz.ntmps65
 go_wp2_with fail
 with_reducible refine Calls.mono (HK.out _) ?_
 rintro e y1 ⟨rfl, hb⟩
 replace hL0 := hL0.call hb
 clear hb hA hweq HK
 have hA := cells_of _ 0 [] rfl (hL0.get _ _ List.mem_cons_self)
 simp only [cellsF, and_true, Nat.zero_add, Nat.reduceAdd] at hA
 have zf := (hL0.get _ _ List.mem_cons_self).frz
 have hPt := hL0.put 0 (w.heap.size + 1) _ rfl [.int .u64 0, .string ⟨#[]⟩, .bool false, .int .u64 0, .string ⟨#[]⟩] rfl
 simp only [setAll, List.set_cons_zero, List.set_cons_succ] at hPt
 generalize hput1 : (((((y1.setCell ⟨w.heap.size + 1, 0, none⟩ (.int .u64 0)).setCell ⟨w.heap.size + 1, 1, none⟩ (.string ⟨#[]⟩)).setCell ⟨w.heap.size + 1, 2, none⟩ (.bool false)).setCell ⟨w.heap.size + 1, 3, none⟩ (.int .u64 0)).setCell ⟨w.heap.size + 1, 4, none⟩ (.string ⟨#[]⟩)) = y9 at hPt
 have hB1 := cells_of _ 0 [] rfl (hPt.get _ _ List.mem_cons_self)
 simp only [cellsF, and_true, Nat.zero_add, Nat.reduceAdd] at hB1
 clear hL0
 go_wp2_with fail
 exact bodyPost_ret (v := .agg #[.int .u64 0, .string ⟨#[]⟩, .bool false, .int .u64 0, .string ⟨#[]⟩]) (by simp [results, Tryz.results65, go_sem, hB1]) rfl ⟨rfl, hPt.bl⟩
set_option maxHeartbeats 4000000 in
set_option maxRecDepth 100000 in
theorem mfault_err (m c g j : Nat) (ao : Option Addr) (hm : m ≤ 100000) (hj : j < m) (e : Int) (he : e ≠ 0) (w : World) (hx : 0 < m → ao = some ⟨g, 0, none⟩)
  (hc : ∀ i, i < j → ∃ (r k n d : Nat) (a : Option Addr), r ≤ 2048 ∧ k ≤ 2048 ∧ n = r * k ∧ w.cell? ⟨g, i * 3, none⟩ = some (.int .i64 (r : Int)) ∧ w.cell? ⟨g, i * 3 + 1, none⟩ = some (.int .i64 (k : Int)) ∧ w.cell? ⟨g, i * 3 + 2, none⟩ = some (.slice a n d))
  (rj kj : Int) (nj dj : Nat) (aj : Option Addr) (c0 : w.cell? ⟨g, j * 3, none⟩ = some (.int .i64 rj)) (c1 : w.cell? ⟨g, j * 3 + 1, none⟩ = some (.int .i64 kj)) (c2 : w.cell? ⟨g, j * 3 + 2, none⟩ = some (.slice aj nj dj))
  (HK : ∀ w, Calls Tryz.prog 51 #[.agg #[.int .i64 rj, .int .i64 kj, .slice aj nj dj]] w fun xe w' => xe = .returned (.int .i64 e) ∧ Below w.heap.size w w') :
  Calls Tryz.prog 133 #[.slice ao m c] w fun xe w' => xe = .returned (.int .i64 e) ∧ Below w.heap.size w w' := by
 replace hm := Lib.hid hm
 replace hx := Lib.hid hx
 replace hc := Lib.hid hc
 replace HK := Lib.hid HK
 replace c0 := Lib.hid c0
 replace c1 := Lib.hid c1
 replace c2 := Lib.hid c2
 have h1 : (e != 0) = true := by simpa using he
 have h2 : (e == 0) = false := by simpa using he
 clear he
 go_enter Tryz.func133, Tryz.ntmps133
 go_wp2_with fail
 go_loopg [8] m (fun gk iv wr => ∃ (k : Nat) (zi : Int), k + gk = m ∧ k ≤ j ∧ iv = .int .i64 zi ∧ zi = (k : Int) ∧ Below w.heap.size w wr)
 case atStart => exact ⟨0, 0, Nat.zero_add m, Nat.zero_le _, by first | rfl | go_num, rfl, Below.refl _ _⟩
 case round =>
  obtain ⟨k, zi, hik, hkj, rfl, hzi, hbl⟩ := hrel
  have hmm := hm.out
  subst hzi
  have hkm : k < m := Nat.lt_of_le_of_lt hkj hj
  have k1 : (k : Int) < (m : Int) := by omega
  have k0 : (0 : Int) ≤ (k : Int) := Int.natCast_nonneg _
  have kb : (k : Int) ≤ 100000 := by omega
  have e0 := hx.out (by omega)
  subst e0
  rcases Nat.lt_or_ge k j with hin | hin
  ·clear c0 c1 c2
   obtain ⟨r, q, n, d, a, g1, g2, g3, c0, c1, c3⟩ := hc.out k hin
   replace HK := Lib.hid (mcheck_ok r q n d a g1 g2 g3)
   clear g1 g2 g3 h1 h2
   replace c0 := keepsC hbl c0
   replace c1 := keepsC hbl c1
   replace c3 := keepsC hbl c3
   have hL0 := (GL.start wr).new rfl [.int .i64 (r : Int), .int .i64 (q : Int), .slice a n d] 81
   generalize hweq : wr.alloc (.cells #[.int .i64 (r : Int), .int .i64 (q : Int), .slice a n d] 81) = y1 at hL0
   have hA := hL0.fc
   simp only [fcG, cellsF, neK, and_true, ne_eq, Nat.zero_add, Nat.reduceAdd] at hA
   go_wp2_with fail
   with_reducible refine Calls.mono (HK.out _) ?_
   rintro e y2 ⟨rfl, hb⟩
   have hb2 := hbl.trans ((hL0.call hb).bl.mono hbl.size)
   clear hb hL0 hbl hA hweq c0 c1 c3
   replace hb2 := Lib.hid hb2
   go_wp2_with fail
   go_roundg (m - (k + 1))
   case measure => omega
   case rel => exact ⟨k + 1, _, by omega, by omega, by first | rfl | go_num, by omega, hb2.out⟩
  ·obtain rfl : k = j := by omega
   have c0 := keepsC hbl c0.out
   have c1 := keepsC hbl c1.out
   have c3 := keepsC hbl c2.out
   have hL0 := (GL.start wr).new rfl [.int .i64 rj, .int .i64 kj, .slice aj nj dj] 81
   generalize hweq : wr.alloc (.cells #[.int .i64 rj, .int .i64 kj, .slice aj nj dj] 81) = y1 at hL0
   have hA := hL0.fc
   simp only [fcG, cellsF, neK, and_true, ne_eq, Nat.zero_add, Nat.reduceAdd] at hA
   go_wp2_with fail
   with_reducible refine Calls.mono (HK.out _) ?_
   rintro e2 y2 ⟨rfl, hb⟩
   have hb2 := hbl.trans ((hL0.call hb).bl.mono hbl.size)
   clear hb hL0 hbl hA hweq c0 c1 c3
   replace hb2 := Lib.hid hb2
   go_wp2_with fail
   exact bodyPost_ret (v := .int .i64 e) (by simp [results, Tryz.results133, go_sem]) rfl ⟨rfl, hb2.out⟩
set_option maxHeartbeats 4000000 in
set_option maxRecDepth 100000 in
theorem mfaultWith_err (r c e : Int) (n d : Nat) (ao : Option Addr) (m cc g : Nat) (a1 : Option Addr) (he : e ≠ 0) (HK : ∀ w, Calls Tryz.prog 51 #[.agg #[.int .i64 r, .int .i64 c, .slice ao n d]] w fun xe w' => xe = .returned (.int .i64 e) ∧ Below w.heap.size w w') (w : World) : Calls Tryz.prog 140 #[.agg #[.int .i64 r, .int .i64 c, .slice ao n d], .slice a1 m cc] w fun xe w' => xe = .returned (.int .i64 e) ∧ Below w.heap.size w w' := by
 replace HK := Lib.hid HK
 have h1 : (e != 0) = true := by simpa using he
 have h2 : (e == 0) = false := by simpa using he
 clear he
 have hL0 : GL w w [] := GL.start w
 replace hL0 := (hL0.new rfl [.int .i64 r, .int .i64 c, .slice ao n d] 81)
 generalize hweq : (w.alloc (.cells #[.int .i64 r, .int .i64 c, .slice ao n d] 81)) = x1 at hL0
 have hA := hL0.fc
 simp only [fcG, cellsF, neK, and_true, ne_eq, Nat.zero_add, Nat.reduceAdd] at hA
 go_enter Tryz.func140, Tryz.ntmps140
 go_wp2_with fail
 with_reducible refine Calls.mono (HK.out _) ?_
 rintro e y1 ⟨rfl, hb⟩
 replace hL0 := hL0.call hb
 clear hb hA hweq HK
 have hA := hL0.fc
 simp only [fcG, cellsF, neK, and_true, ne_eq, Nat.zero_add, Nat.reduceAdd] at hA
 go_wp2_with fail
 exact bodyPost_ret (v := .int .i64 e) (by simp [results, Tryz.results140, go_sem]) rfl ⟨rfl, hL0.bl⟩
set_option maxHeartbeats 4000000 in
set_option maxRecDepth 100000 in
theorem mcombA_err (r c r2 c2 e : Int) (n d n2 d2 : Nat) (ao ao2 : Option Addr) (he : e ≠ 0) (HF : ∀ g w, Hd w g [.int .i64 r, .int .i64 c, .slice ao n d, .int .i64 r2, .int .i64 c2, .slice ao2 n2 d2] → Calls Tryz.prog 133 #[.slice (some ⟨g, 0, none⟩) 2 2] w fun xe w' => xe = .returned (.int .i64 e) ∧ Below w.heap.size w w') (w : World) : Calls Tryz.prog 129 #[.agg #[.int .i64 r, .int .i64 c, .slice ao n d], .agg #[.int .i64 r2, .int .i64 c2, .slice ao2 n2 d2], .func (.func 35) #[] #[]] w fun xe w' => xe = .returned (.tuple #[.agg #[.int .i64 0, .int .i64 0, .slice none 0 0], .int .i64 e]) ∧ Below w.heap.size w w' := by
 replace HF := Lib.hid HF
 have h1 : (e != 0) = true := by simpa using he
 have h2 : (e == 0) = false := by simpa using he
 clear he
 have hL0 : GL w w [] := GL.start w
 replace hL0 := ((((hL0.new rfl [.int .i64 r, .int .i64 c, .slice ao n d] 81).new (K := w.heap.size + 1) (szA _ _) [.int .i64 r2, .int .i64 c2, .slice ao2 n2 d2] 81).new (K := w.heap.size + 1 + 1) (by simp only [World.size_alloc]) [.func (.func 35) #[] #[]] 70).new (K := w.heap.size + 1 + 1 + 1) (by simp only [World.size_alloc]) [.int .i64 0, .int .i64 0, .slice none 0 0] 81)
 generalize hweq : ((((w.alloc (.cells #[.int .i64 r, .int .i64 c, .slice ao n d] 81)).alloc (.cells #[.int .i64 r2, .int .i64 c2, .slice ao2 n2 d2] 81)).alloc (.cells #[.func (.func 35) #[] #[]] 70)).alloc (.cells #[.int .i64 0, .int .i64 0, .slice none 0 0] 81)) = x1 at hL0
 have hZ := hL0.fc
 simp only [fcG, cellsF, neK, and_true, ne_eq, Nat.zero_add, Nat.reduceAdd] at hZ
 replace hL0 := (hL0.new rfl [.int .i64 r, .int .i64 c, .slice ao n d, .int .i64 r2, .int .i64 c2, .slice ao2 n2 d2] 81)
 generalize hweq2 : (x1.alloc (.cells #[.int .i64 r, .int .i64 c, .slice ao n d, .int .i64 r2, .int .i64 c2, .slice ao2 n2 d2] 81)) = x2 at hL0
 replace HF := Lib.hid (HF.out x1.heap.size x2 (hL0.get _ _ List.mem_cons_self))
 have hA := hL0.fc
 simp only [fcG, cellsF, neK, and_true, ne_eq, Nat.zero_add, Nat.reduceAdd] at hA
 go_enter Tryz.func129, Tryz.ntmps129
 go_wp2_with fail
 with_reducible refine Calls.mono (HF.out) ?_
 rintro e y1 ⟨rfl, hb⟩
 replace hL0 := hL0.call hb
 clear hb hA hZ hweq hweq2 HF
 have hA := cells_of _ 0 [] rfl (hL0.get _ _ (List.mem_cons_of_mem _ List.mem_cons_self))
 simp only [cellsF, and_true, Nat.zero_add, Nat.reduceAdd] at hA
 have zf := (hL0.get _ _ (List.mem_cons_of_mem _ List.mem_cons_self)).frz
 have hPt := hL0.put 1 (w.heap.size + 1 + 1 + 1) _ rfl [.int .i64 0, .int .i64 0, .slice none 0 0] rfl
 simp only [setAll, List.set_cons_zero, List.set_cons_succ] at hPt
 generalize hput1 : (((y1.setCell ⟨w.heap.size + 1 + 1 + 1, 0, none⟩ (.int .i64 0)).setCell ⟨w.heap.size + 1 + 1 + 1, 1, none⟩ (.int .i64 0)).setCell ⟨w.heap.size + 1 + 1 + 1, 2, none⟩ (.slice none 0 0)) = y9 at hPt
 have hB1 := cells_of _ 0 [] rfl (hPt.get _ _ (List.mem_cons_of_mem _ List.mem_cons_self))
 simp only [cellsF, and_true, Nat.zero_add, Nat.reduceAdd] at hB1
 clear hL0
 go_wp2_with fail
 exact bodyPost_ret (v := .tuple #[.agg #[.int .i64 0, .int .i64 0, .slice none 0 0], .int .i64 e]) (by simp [results, Tryz.results129, go_sem, hB1]) rfl ⟨rfl, hPt.bl⟩
set_option maxHeartbeats 4000000 in
set_option maxRecDepth 100000 in
theorem madd_err (r c r2 c2 e : Int) (n d n2 d2 : Nat) (ao ao2 : Option Addr) (he : e ≠ 0) (HC : ∀ w, Calls Tryz.prog 129 #[.agg #[.int .i64 r, .int .i64 c, .slice ao n d], .agg #[.int .i64 r2, .int .i64 c2, .slice ao2 n2 d2], .func (.func 35) #[] #[]] w fun xe w' => xe = .returned (.tuple #[.agg #[.int .i64 0, .int .i64 0, .slice none 0 0], .int .i64 e]) ∧ Below w.heap.size w w') (w : World) : Calls Tryz.prog 45 #[.agg #[.int .i64 r, .int .i64 c, .slice ao n d], .agg #[.int .i64 r2, .int .i64 c2, .slice ao2 n2 d2]] w fun xe w' => xe = .returned (.tuple #[.agg #[.int .i64 0, .int .i64 0, .slice none 0 0], .int .i64 e]) ∧ Below w.heap.size w w' := by
 replace HC := Lib.hid HC
 have hL0 : GL w w [] := GL.start w
 replace hL0 := (((hL0.new rfl [.int .i64 r, .int .i64 c, .slice ao n d] 81).new (K := w.heap.size + 1) (szA _ _) [.int .i64 r2, .int .i64 c2, .slice ao2 n2 d2] 81).new (K := w.heap.size + 1 + 1) (by simp only [World.size_alloc]) [.int .i64 0, .int .i64 0, .slice none 0 0] 81)
 generalize hweq : (((w.alloc (.cells #[.int .i64 r, .int .i64 c, .slice ao n d] 81)).alloc (.cells #[.int .i64 r2, .int .i64 c2, .slice ao2 n2 d2] 81)).alloc (.cells #[.int .i64 0, .int .i64 0, .slice none 0 0] 81)) = x1 at hL0
 have hA := hL0.fc
 simp only [fcG, cellsF, neK, and_true, ne_eq, Nat.zero_add, Nat.reduceAdd] at hA
 go_enter Tryz.func45, Tryz.ntmps45
 go_wp2_with fail
 with_reducible refine Calls.mono (HC.out _) ?_
 rintro e y1 ⟨rfl, hb⟩
 replace hL0 := hL0.call hb
 clear hb hA hweq HC
 have hA := cells_of _ 0 [] rfl (hL0.get _ _ List.mem_cons_self)
 simp only [cellsF, and_true, Nat.zero_add, Nat.reduceAdd] at hA
 have zf := (hL0.get _ _ List.mem_cons_self).frz
 have hPt := hL0.put 0 (w.heap.size + 1 + 1) _ rfl [.int .i64 0, .int .i64 0, .slice none 0 0] rfl
 simp only [setAll, List.set_cons_zero, List.set_cons_succ] at hPt
 generalize hput1 : (((y1.setCell ⟨w.heap.size + 1 + 1, 0, none⟩ (.int .i64 0)).setCell ⟨w.heap.size + 1 + 1, 1, none⟩ (.int .i64 0)).setCell ⟨w.heap.size + 1 + 1, 2, none⟩ (.slice none 0 0)) = y9 at hPt
 have hB1 := cells_of _ 0 [] rfl (hPt.get _ _ List.mem_cons_self)
 simp only [cellsF, and_true, Nat.zero_add, Nat.reduceAdd] at hB1
 clear hL0
 go_wp2_with fail
 exact bodyPost_ret (v := .tuple #[.agg #[.int .i64 0, .int .i64 0, .slice none 0 0], .int .i64 e]) (by simp [results, Tryz.results45, go_sem, hB1]) rfl ⟨rfl, hPt.bl⟩
set_option maxHeartbeats 4000000 in
set_option maxRecDepth 100000 in
theorem mmul_err (r c r2 c2 e : Int) (n d n2 d2 : Nat) (ao ao2 : Option Addr) (he : e ≠ 0) (HF : ∀ g w, Hd w g [.int .i64 r, .int .i64 c, .slice ao n d, .int .i64 r2, .int .i64 c2, .slice ao2 n2 d2] → Calls Tryz.prog 133 #[.slice (some ⟨g, 0, none⟩) 2 2] w fun xe w' => xe = .returned (.int .i64 e) ∧ Below w.heap.size w w') (w : World) : Calls Tryz.prog 48 #[.agg #[.int .i64 r, .int .i64 c, .slice ao n d], .agg #[.int .i64 r2, .int .i64 c2, .slice ao2 n2 d2]] w fun xe w' => xe = .returned (.tuple #[.agg #[.int .i64 0, .int .i64 0, .slice none 0 0], .int .i64 e]) ∧ Below w.heap.size w w' := by
 replace HF := Lib.hid HF
 have h1 : (e != 0) = true := by simpa using he
 have h2 : (e == 0) = false := by simpa using he
 clear he
 have hL0 : GL w w [] := GL.start w
 replace hL0 := (((hL0.new rfl [.int .i64 r, .int .i64 c, .slice ao n d] 81).new (K := w.heap.size + 1) (szA _ _) [.int .i64 r2, .int .i64 c2, .slice ao2 n2 d2] 81).new (K := w.heap.size + 1 + 1) (by simp only [World.size_alloc]) [.int .i64 0, .int .i64 0, .slice none 0 0] 81)
 generalize hweq : (((w.alloc (.cells #[.int .i64 r, .int .i64 c, .slice ao n d] 81)).alloc (.cells #[.int .i64 r2, .int .i64 c2, .slice ao2 n2 d2] 81)).alloc (.cells #[.int .i64 0, .int .i64 0, .slice none 0 0] 81)) = x1 at hL0
 have hZ := hL0.fc
 simp only [fcG, cellsF, neK, and_true, ne_eq, Nat.zero_add, Nat.reduceAdd] at hZ
 replace hL0 := (hL0.new rfl [.int .i64 r, .int .i64 c, .slice ao n d, .int .i64 r2, .int .i64 c2, .slice ao2 n2 d2] 81)
 generalize hweq2 : (x1.alloc (.cells #[.int .i64 r, .int .i64 c, .slice ao n d, .int .i64 r2, .int .i64 c2, .slice ao2 n2 d2] 81)) = x2 at hL0
 replace HF := Lib.hid (HF.out x1.heap.size x2 (hL0.get _ _ List.mem_cons_self))
 have hA := hL0.fc
 simp only [fcG, cellsF, neK, and_true, ne_eq, Nat.zero_add, Nat.reduceAdd] at hA
 go_enter Tryz.func48, Tryz.ntmps48
 go_wp2_with fail
 with_reducible refine Calls.mono (HF.out) ?_
 rintro e y1 ⟨rfl, hb⟩
 replace hL0 := hL0.call hb
 clear hb hA hZ hweq hweq2 HF
 have hA := cells_of _ 0 [] rfl (hL0.get _ _ (List.mem_cons_of_mem _ List.mem_cons_self))
 simp only [cellsF, and_true, Nat.zero_add, Nat.reduceAdd] at hA
 have zf := (hL0.get _ _ (List.mem_cons_of_mem _ List.mem_cons_self)).frz
 have hPt := hL0.put 1 (w.heap.size + 1 + 1) _ rfl [.int .i64 0, .int .i64 0, .slice none 0 0] rfl
 simp only [setAll, List.set_cons_zero, List.set_cons_succ] at hPt
 generalize hput1 : (((y1.setCell ⟨w.heap.size + 1 + 1, 0, none⟩ (.int .i64 0)).setCell ⟨w.heap.size + 1 + 1, 1, none⟩ (.int .i64 0)).setCell ⟨w.heap.size + 1 + 1, 2, none⟩ (.slice none 0 0)) = y9 at hPt
 have hB1 := cells_of _ 0 [] rfl (hPt.get _ _ (List.mem_cons_of_mem _ List.mem_cons_self))
 simp only [cellsF, and_true, Nat.zero_add, Nat.reduceAdd] at hB1
 clear hL0
 go_wp2_with fail
 exact bodyPost_ret (v := .tuple #[.agg #[.int .i64 0, .int .i64 0, .slice none 0 0], .int .i64 e]) (by simp [results, Tryz.results48, go_sem, hB1]) rfl ⟨rfl, hPt.bl⟩
set_option maxHeartbeats 4000000 in
set_option maxRecDepth 100000 in
theorem mapply_err (r c e : Int) (n d : Nat) (ao : Option Addr) (nv cv : Nat) (av : Option Addr) (he : e ≠ 0) (HF : ∀ g w, Hd w g [.slice av nv cv] → Calls Tryz.prog 140 #[.agg #[.int .i64 r, .int .i64 c, .slice ao n d], .slice (some ⟨g, 0, none⟩) 1 1] w fun xe w' => xe = .returned (.int .i64 e) ∧ Below w.heap.size w w') (w : World) : Calls Tryz.prog 59 #[.agg #[.int .i64 r, .int .i64 c, .slice ao n d], .slice av nv cv] w fun xe w' => xe = .returned (.tuple #[.slice none 0 0, .int .i64 e]) ∧ Below w.heap.size w w' := by
 replace HF := Lib.hid HF
 have h1 : (e != 0) = true := by simpa using he
 have h2 : (e == 0) = false := by simpa using he
 clear he
 have hL0 : GL w w [] := GL.start w
 replace hL0 := (hL0.new rfl [.int .i64 r, .int .i64 c, .slice ao n d] 81)
 generalize hweq : (w.alloc (.cells #[.int .i64 r, .int .i64 c, .slice ao n d] 81)) = x1 at hL0
 have hZ := hL0.fc
 simp only [fcG, cellsF, neK, and_true, ne_eq, Nat.zero_add, Nat.reduceAdd] at hZ
 replace hL0 := (hL0.new rfl [.slice av nv cv] 30)
 generalize hweq2 : (x1.alloc (.cells #[.slice av nv cv] 30)) = x2 at hL0
 replace HF := Lib.hid (HF.out x1.heap.size x2 (hL0.get _ _ List.mem_cons_self))
 have hA := hL0.fc
 simp only [fcG, cellsF, neK, and_true, ne_eq, Nat.zero_add, Nat.reduceAdd] at hA
 go_enter Tryz.func59, Tryz.ntmps59
 go_wp2_with fail
 with_reducible refine Calls.mono (HF.out) ?_
 rintro e y1 ⟨rfl, hb⟩
 replace hL0 := hL0.call hb
 clear hb hA hZ hweq hweq2 HF
 have hA := hL0.fc
 simp only [fcG, cellsF, neK, and_true, ne_eq, Nat.zero_add, Nat.reduceAdd] at hA
 go_wp2_with fail
 exact bodyPost_ret (v := .tuple #[.slice none 0 0, .int .i64 e]) (by simp [results, Tryz.results59, go_sem]) rfl ⟨rfl, hL0.bl⟩
set_option maxHeartbeats 4000000 in
set_option maxRecDepth 100000 in
theorem mform_err (r c e : Int) (n d : Nat) (ao : Option Addr) (nv cv : Nat) (av : Option Addr) (nw cw : Nat) (aw : Option Addr) (he : e ≠ 0) (HF : ∀ g w, Hd w g [.slice av nv cv, .slice aw nw cw] → Calls Tryz.prog 140 #[.agg #[.int .i64 r, .int .i64 c, .slice ao n d], .slice (some ⟨g, 0, none⟩) 2 2] w fun xe w' => xe = .returned (.int .i64 e) ∧ Below w.heap.size w w') (w : World) : Calls Tryz.prog 60 #[.agg #[.int .i64 r, .int .i64 c, .slice ao n d], .slice av nv cv, .slice aw nw cw] w fun xe w' => xe = .returned (.tuple #[.agg #[.int .u64 0, .string ⟨#[]⟩, .bool false, .int .u64 0, .string ⟨#[]⟩], .int .i64 e]) ∧ Below w.heap.size w w' := by
 replace HF := Lib.hid HF
 have h1 : (e != 0) = true := by simpa using he
 have h2 : (e == 0) = false := by simpa using he
 clear he
 have hL0 : GL w w [] := GL.start w
 replace hL0 := ((hL0.new rfl [.int .i64 r, .int .i64 c, .slice ao n d] 81).new (K := w.heap.size + 1) (szA _ _) [.int .u64 0, .string ⟨#[]⟩, .bool false, .int .u64 0, .string ⟨#[]⟩] 38)
 generalize hweq : ((w.alloc (.cells #[.int .i64 r, .int .i64 c, .slice ao n d] 81)).alloc (.cells #[.int .u64 0, .string ⟨#[]⟩, .bool false, .int .u64 0, .string ⟨#[]⟩] 38)) = x1 at hL0
 have hZ := hL0.fc
 simp only [fcG, cellsF, neK, and_true, ne_eq, Nat.zero_add, Nat.reduceAdd] at hZ
 replace hL0 := (hL0.new rfl [.slice av nv cv, .slice aw nw cw] 30)
 generalize hweq2 : (x1.alloc (.cells #[.slice av nv cv, .slice aw nw cw] 30)) = x2 at hL0
 replace HF := Lib.hid (HF.out x1.heap.size x2 (hL0.get _ _ List.mem_cons_self))
 have hA := hL0.fc
 simp only [fcG, cellsF, neK, and_true, ne_eq, Nat.zero_add, Nat.reduceAdd] at hA
 go_enter Tryz.func60, Tryz.ntmps60
 go_wp2_with fail
 with_reducible refine Calls.mono (HF.out) ?_
 rintro e y1 ⟨rfl, hb⟩
 replace hL0 := hL0.call hb
 clear hb hA hZ hweq hweq2 HF
 have hA := cells_of _ 0 [] rfl (hL0.get _ _ (List.mem_cons_of_mem _ List.mem_cons_self))
 simp only [cellsF, and_true, Nat.zero_add, Nat.reduceAdd] at hA
 have zf := (hL0.get _ _ (List.mem_cons_of_mem _ List.mem_cons_self)).frz
 have hPt := hL0.put 1 (w.heap.size + 1) _ rfl [.int .u64 0, .string ⟨#[]⟩, .bool false, .int .u64 0, .string ⟨#[]⟩] rfl
 simp only [setAll, List.set_cons_zero, List.set_cons_succ] at hPt
 generalize hput1 : (((((y1.setCell ⟨w.heap.size + 1, 0, none⟩ (.int .u64 0)).setCell ⟨w.heap.size + 1, 1, none⟩ (.string ⟨#[]⟩)).setCell ⟨w.heap.size + 1, 2, none⟩ (.bool false)).setCell ⟨w.heap.size + 1, 3, none⟩ (.int .u64 0)).setCell ⟨w.heap.size + 1, 4, none⟩ (.string ⟨#[]⟩)) = y9 at hPt
 have hB1 := cells_of _ 0 [] rfl (hPt.get _ _ (List.mem_cons_of_mem _ List.mem_cons_self))
 simp only [cellsF, and_true, Nat.zero_add, Nat.reduceAdd] at hB1
 clear hL0
 go_wp2_with fail
 exact bodyPost_ret (v := .tuple #[.agg #[.int .u64 0, .string ⟨#[]⟩, .bool false, .int .u64 0, .string ⟨#[]⟩], .int .i64 e]) (by simp [results, Tryz.results60, go_sem, hB1]) rfl ⟨rfl, hPt.bl⟩
end Go.Proofs.YthkodldppaccmaaGreatDoor
namespace Go.Proofs.YthkodldppaccmaaGreatDoor
open Go.RowKit
attribute [local irreducible] lo hs sm s64 c64 d64 b64 mh ml pd pc qd qc val hiB str cmpI srD lz nb zl zh zs fe rowV tabV gv bsV tabM
set_option maxHeartbeats 4000000 in
set_option maxRecDepth 100000 in
theorem mcombAdd_ns (r c r2 c2 : Int) (n d n2 d2 : Nat) (ao ao2 : Option Addr) (hne : ¬ r = r2) (HF : ∀ g w, Hd w g [.int .i64 r, .int .i64 c, .slice ao n d, .int .i64 r2, .int .i64 c2, .slice ao2 n2 d2] → Calls Tryz.prog 133 #[.slice (some ⟨g, 0, none⟩) 2 2] w fun xe w' => xe = .returned (.int .i64 0) ∧ Below w.heap.size w w') (w : World) : Calls Tryz.prog 129 #[.agg #[.int .i64 r, .int .i64 c, .slice ao n d], .agg #[.int .i64 r2, .int .i64 c2, .slice ao2 n2 d2], .func (.func 35) #[] #[]] w fun xe w' => xe = .returned (.tuple #[.agg #[.int .i64 0, .int .i64 0, .slice none 0 0], .int .i64 1]) ∧ Below w.heap.size w w' := by
 replace HF := Lib.hid HF
 have h1 : (r != r2) = true := by simpa using hne
 have h2 : (r == r2) = false := by simpa using hne
 clear hne
 have hL0 : GL w w [] := GL.start w
 replace hL0 := ((((hL0.new rfl [.int .i64 r, .int .i64 c, .slice ao n d] 81).new (K := w.heap.size + 1) (szA _ _) [.int .i64 r2, .int .i64 c2, .slice ao2 n2 d2] 81).new (K := w.heap.size + 1 + 1) (by simp only [World.size_alloc]) [.func (.func 35) #[] #[]] 70).new (K := w.heap.size + 1 + 1 + 1) (by simp only [World.size_alloc]) [.int .i64 0, .int .i64 0, .slice none 0 0] 81)
 generalize hweq : ((((w.alloc (.cells #[.int .i64 r, .int .i64 c, .slice ao n d] 81)).alloc (.cells #[.int .i64 r2, .int .i64 c2, .slice ao2 n2 d2] 81)).alloc (.cells #[.func (.func 35) #[] #[]] 70)).alloc (.cells #[.int .i64 0, .int .i64 0, .slice none 0 0] 81)) = x1 at hL0
 have hZ := hL0.fc
 simp only [fcG, cellsF, neK, and_true, ne_eq, Nat.zero_add, Nat.reduceAdd] at hZ
 replace hL0 := (hL0.new rfl [.int .i64 r, .int .i64 c, .slice ao n d, .int .i64 r2, .int .i64 c2, .slice ao2 n2 d2] 81)
 generalize hweq2 : (x1.alloc (.cells #[.int .i64 r, .int .i64 c, .slice ao n d, .int .i64 r2, .int .i64 c2, .slice ao2 n2 d2] 81)) = x2 at hL0
 replace HF := Lib.hid (HF.out x1.heap.size x2 (hL0.get _ _ List.mem_cons_self))
 have hA := hL0.fc
 simp only [fcG, cellsF, neK, and_true, ne_eq, Nat.zero_add, Nat.reduceAdd] at hA
 go_enter Tryz.func129, Tryz.ntmps129
 go_wp2_with fail
 with_reducible refine Calls.mono (HF.out) ?_
 rintro e y1 ⟨rfl, hb⟩
 replace hL0 := hL0.call hb
 clear hb hA hZ hweq hweq2 HF
 have hA := hL0.fc
 simp only [fcG, cellsF, neK, and_true, ne_eq, Nat.zero_add, Nat.reduceAdd] at hA
 have hA := cells_of _ 0 [] rfl (hL0.get _ _ (List.mem_cons_of_mem _ List.mem_cons_self))
 simp only [cellsF, and_true, Nat.zero_add, Nat.reduceAdd] at hA
 have zf := (hL0.get _ _ (List.mem_cons_of_mem _ List.mem_cons_self)).frz
 have hPt := hL0.put 1 (w.heap.size + 1 + 1 + 1) _ rfl [.int .i64 0, .int .i64 0, .slice none 0 0] rfl
 simp only [setAll, List.set_cons_zero, List.set_cons_succ] at hPt
 generalize hput1 : (((y1.setCell ⟨w.heap.size + 1 + 1 + 1, 0, none⟩ (.int .i64 0)).setCell ⟨w.heap.size + 1 + 1 + 1, 1, none⟩ (.int .i64 0)).setCell ⟨w.heap.size + 1 + 1 + 1, 2, none⟩ (.slice none 0 0)) = y9 at hPt
 have hB1 := cells_of _ 0 [] rfl (hPt.get _ _ (List.mem_cons_of_mem _ List.mem_cons_self))
 simp only [cellsF, and_true, Nat.zero_add, Nat.reduceAdd] at hB1
 clear hL0
 go_wp2_with fail
 exact bodyPost_ret (v := .tuple #[.agg #[.int .i64 0, .int .i64 0, .slice none 0 0], .int .i64 1]) (by simp [results, Tryz.results129, go_sem, hB1]) rfl ⟨rfl, hPt.bl⟩
set_option maxHeartbeats 4000000 in
set_option maxRecDepth 100000 in
theorem mAdd_ns (r c r2 c2 : Int) (n d n2 d2 : Nat) (ao ao2 : Option Addr) (HC : ∀ w, Calls Tryz.prog 129 #[.agg #[.int .i64 r, .int .i64 c, .slice ao n d], .agg #[.int .i64 r2, .int .i64 c2, .slice ao2 n2 d2], .func (.func 35) #[] #[]] w fun xe w' => xe = .returned (.tuple #[.agg #[.int .i64 0, .int .i64 0, .slice none 0 0], .int .i64 1]) ∧ Below w.heap.size w w') (w : World) : Calls Tryz.prog 45 #[.agg #[.int .i64 r, .int .i64 c, .slice ao n d], .agg #[.int .i64 r2, .int .i64 c2, .slice ao2 n2 d2]] w fun xe w' => xe = .returned (.tuple #[.agg #[.int .i64 0, .int .i64 0, .slice none 0 0], .int .i64 1]) ∧ Below w.heap.size w w' := by
 replace HC := Lib.hid HC
 have hL0 : GL w w [] := GL.start w
 replace hL0 := (((hL0.new rfl [.int .i64 r, .int .i64 c, .slice ao n d] 81).new (K := w.heap.size + 1) (szA _ _) [.int .i64 r2, .int .i64 c2, .slice ao2 n2 d2] 81).new (K := w.heap.size + 1 + 1) (by simp only [World.size_alloc]) [.int .i64 0, .int .i64 0, .slice none 0 0] 81)
 generalize hweq : (((w.alloc (.cells #[.int .i64 r, .int .i64 c, .slice ao n d] 81)).alloc (.cells #[.int .i64 r2, .int .i64 c2, .slice ao2 n2 d2] 81)).alloc (.cells #[.int .i64 0, .int .i64 0, .slice none 0 0] 81)) = x1 at hL0
 have hA := hL0.fc
 simp only [fcG, cellsF, neK, and_true, ne_eq, Nat.zero_add, Nat.reduceAdd] at hA
 go_enter Tryz.func45, Tryz.ntmps45
 go_wp2_with fail
 with_reducible refine Calls.mono (HC.out _) ?_
 rintro e y1 ⟨rfl, hb⟩
 replace hL0 := hL0.call hb
 clear hb hA hweq HC
 have hA := cells_of _ 0 [] rfl (hL0.get _ _ List.mem_cons_self)
 simp only [cellsF, and_true, Nat.zero_add, Nat.reduceAdd] at hA
 have zf := (hL0.get _ _ List.mem_cons_self).frz
 have hPt := hL0.put 0 (w.heap.size + 1 + 1) _ rfl [.int .i64 0, .int .i64 0, .slice none 0 0] rfl
 simp only [setAll, List.set_cons_zero, List.set_cons_succ] at hPt
 generalize hput1 : (((y1.setCell ⟨w.heap.size + 1 + 1, 0, none⟩ (.int .i64 0)).setCell ⟨w.heap.size + 1 + 1, 1, none⟩ (.int .i64 0)).setCell ⟨w.heap.size + 1 + 1, 2, none⟩ (.slice none 0 0)) = y9 at hPt
 have hB1 := cells_of _ 0 [] rfl (hPt.get _ _ List.mem_cons_self)
 simp only [cellsF, and_true, Nat.zero_add, Nat.reduceAdd] at hB1
 clear hL0
 go_wp2_with fail
 exact bodyPost_ret (v := .tuple #[.agg #[.int .i64 0, .int .i64 0, .slice none 0 0], .int .i64 1]) (by simp [results, Tryz.results45, go_sem, hB1]) rfl ⟨rfl, hPt.bl⟩
set_option maxHeartbeats 4000000 in
set_option maxRecDepth 100000 in
theorem mcombSub_ns (r c r2 c2 : Int) (n d n2 d2 : Nat) (ao ao2 : Option Addr) (hne : ¬ r = r2) (HF : ∀ g w, Hd w g [.int .i64 r, .int .i64 c, .slice ao n d, .int .i64 r2, .int .i64 c2, .slice ao2 n2 d2] → Calls Tryz.prog 133 #[.slice (some ⟨g, 0, none⟩) 2 2] w fun xe w' => xe = .returned (.int .i64 0) ∧ Below w.heap.size w w') (w : World) : Calls Tryz.prog 129 #[.agg #[.int .i64 r, .int .i64 c, .slice ao n d], .agg #[.int .i64 r2, .int .i64 c2, .slice ao2 n2 d2], .func (.func 90) #[] #[]] w fun xe w' => xe = .returned (.tuple #[.agg #[.int .i64 0, .int .i64 0, .slice none 0 0], .int .i64 1]) ∧ Below w.heap.size w w' := by
 replace HF := Lib.hid HF
 have h1 : (r != r2) = true := by simpa using hne
 have h2 : (r == r2) = false := by simpa using hne
 clear hne
 have hL0 : GL w w [] := GL.start w
 replace hL0 := ((((hL0.new rfl [.int .i64 r, .int .i64 c, .slice ao n d] 81).new (K := w.heap.size + 1) (szA _ _) [.int .i64 r2, .int .i64 c2, .slice ao2 n2 d2] 81).new (K := w.heap.size + 1 + 1) (by simp only [World.size_alloc]) [.func (.func 90) #[] #[]] 70).new (K := w.heap.size + 1 + 1 + 1) (by simp only [World.size_alloc]) [.int .i64 0, .int .i64 0, .slice none 0 0] 81)
 generalize hweq : ((((w.alloc (.cells #[.int .i64 r, .int .i64 c, .slice ao n d] 81)).alloc (.cells #[.int .i64 r2, .int .i64 c2, .slice ao2 n2 d2] 81)).alloc (.cells #[.func (.func 90) #[] #[]] 70)).alloc (.cells #[.int .i64 0, .int .i64 0, .slice none 0 0] 81)) = x1 at hL0
 have hZ := hL0.fc
 simp only [fcG, cellsF, neK, and_true, ne_eq, Nat.zero_add, Nat.reduceAdd] at hZ
 replace hL0 := (hL0.new rfl [.int .i64 r, .int .i64 c, .slice ao n d, .int .i64 r2, .int .i64 c2, .slice ao2 n2 d2] 81)
 generalize hweq2 : (x1.alloc (.cells #[.int .i64 r, .int .i64 c, .slice ao n d, .int .i64 r2, .int .i64 c2, .slice ao2 n2 d2] 81)) = x2 at hL0
 replace HF := Lib.hid (HF.out x1.heap.size x2 (hL0.get _ _ List.mem_cons_self))
 have hA := hL0.fc
 simp only [fcG, cellsF, neK, and_true, ne_eq, Nat.zero_add, Nat.reduceAdd] at hA
 go_enter Tryz.func129, Tryz.ntmps129
 go_wp2_with fail
 with_reducible refine Calls.mono (HF.out) ?_
 rintro e y1 ⟨rfl, hb⟩
 replace hL0 := hL0.call hb
 clear hb hA hZ hweq hweq2 HF
 have hA := hL0.fc
 simp only [fcG, cellsF, neK, and_true, ne_eq, Nat.zero_add, Nat.reduceAdd] at hA
 have hA := cells_of _ 0 [] rfl (hL0.get _ _ (List.mem_cons_of_mem _ List.mem_cons_self))
 simp only [cellsF, and_true, Nat.zero_add, Nat.reduceAdd] at hA
 have zf := (hL0.get _ _ (List.mem_cons_of_mem _ List.mem_cons_self)).frz
 have hPt := hL0.put 1 (w.heap.size + 1 + 1 + 1) _ rfl [.int .i64 0, .int .i64 0, .slice none 0 0] rfl
 simp only [setAll, List.set_cons_zero, List.set_cons_succ] at hPt
 generalize hput1 : (((y1.setCell ⟨w.heap.size + 1 + 1 + 1, 0, none⟩ (.int .i64 0)).setCell ⟨w.heap.size + 1 + 1 + 1, 1, none⟩ (.int .i64 0)).setCell ⟨w.heap.size + 1 + 1 + 1, 2, none⟩ (.slice none 0 0)) = y9 at hPt
 have hB1 := cells_of _ 0 [] rfl (hPt.get _ _ (List.mem_cons_of_mem _ List.mem_cons_self))
 simp only [cellsF, and_true, Nat.zero_add, Nat.reduceAdd] at hB1
 clear hL0
 go_wp2_with fail
 exact bodyPost_ret (v := .tuple #[.agg #[.int .i64 0, .int .i64 0, .slice none 0 0], .int .i64 1]) (by simp [results, Tryz.results129, go_sem, hB1]) rfl ⟨rfl, hPt.bl⟩
set_option maxHeartbeats 4000000 in
set_option maxRecDepth 100000 in
theorem mSub_ns (r c r2 c2 : Int) (n d n2 d2 : Nat) (ao ao2 : Option Addr) (HC : ∀ w, Calls Tryz.prog 129 #[.agg #[.int .i64 r, .int .i64 c, .slice ao n d], .agg #[.int .i64 r2, .int .i64 c2, .slice ao2 n2 d2], .func (.func 90) #[] #[]] w fun xe w' => xe = .returned (.tuple #[.agg #[.int .i64 0, .int .i64 0, .slice none 0 0], .int .i64 1]) ∧ Below w.heap.size w w') (w : World) : Calls Tryz.prog 46 #[.agg #[.int .i64 r, .int .i64 c, .slice ao n d], .agg #[.int .i64 r2, .int .i64 c2, .slice ao2 n2 d2]] w fun xe w' => xe = .returned (.tuple #[.agg #[.int .i64 0, .int .i64 0, .slice none 0 0], .int .i64 1]) ∧ Below w.heap.size w w' := by
 replace HC := Lib.hid HC
 have hL0 : GL w w [] := GL.start w
 replace hL0 := (((hL0.new rfl [.int .i64 r, .int .i64 c, .slice ao n d] 81).new (K := w.heap.size + 1) (szA _ _) [.int .i64 r2, .int .i64 c2, .slice ao2 n2 d2] 81).new (K := w.heap.size + 1 + 1) (by simp only [World.size_alloc]) [.int .i64 0, .int .i64 0, .slice none 0 0] 81)
 generalize hweq : (((w.alloc (.cells #[.int .i64 r, .int .i64 c, .slice ao n d] 81)).alloc (.cells #[.int .i64 r2, .int .i64 c2, .slice ao2 n2 d2] 81)).alloc (.cells #[.int .i64 0, .int .i64 0, .slice none 0 0] 81)) = x1 at hL0
 have hA := hL0.fc
 simp only [fcG, cellsF, neK, and_true, ne_eq, Nat.zero_add, Nat.reduceAdd] at hA
 go_enter Tryz.func46, Tryz.ntmps46
 go_wp2_with fail
 with_reducible refine Calls.mono (HC.out _) ?_
 rintro e y1 ⟨rfl, hb⟩
 replace hL0 := hL0.call hb
 clear hb hA hweq HC
 have hA := cells_of _ 0 [] rfl (hL0.get _ _ List.mem_cons_self)
 simp only [cellsF, and_true, Nat.zero_add, Nat.reduceAdd] at hA
 have zf := (hL0.get _ _ List.mem_cons_self).frz
 have hPt := hL0.put 0 (w.heap.size + 1 + 1) _ rfl [.int .i64 0, .int .i64 0, .slice none 0 0] rfl
 simp only [setAll, List.set_cons_zero, List.set_cons_succ] at hPt
 generalize hput1 : (((y1.setCell ⟨w.heap.size + 1 + 1, 0, none⟩ (.int .i64 0)).setCell ⟨w.heap.size + 1 + 1, 1, none⟩ (.int .i64 0)).setCell ⟨w.heap.size + 1 + 1, 2, none⟩ (.slice none 0 0)) = y9 at hPt
 have hB1 := cells_of _ 0 [] rfl (hPt.get _ _ List.mem_cons_self)
 simp only [cellsF, and_true, Nat.zero_add, Nat.reduceAdd] at hB1
 clear hL0
 go_wp2_with fail
 exact bodyPost_ret (v := .tuple #[.agg #[.int .i64 0, .int .i64 0, .slice none 0 0], .int .i64 1]) (by simp [results, Tryz.results46, go_sem, hB1]) rfl ⟨rfl, hPt.bl⟩
set_option maxHeartbeats 4000000 in
set_option maxRecDepth 100000 in
theorem mmul_ns (r c r2 c2 : Int) (n d n2 d2 : Nat) (ao ao2 : Option Addr) (hne : ¬ c = r2) (HF : ∀ g w, Hd w g [.int .i64 r, .int .i64 c, .slice ao n d, .int .i64 r2, .int .i64 c2, .slice ao2 n2 d2] → Calls Tryz.prog 133 #[.slice (some ⟨g, 0, none⟩) 2 2] w fun xe w' => xe = .returned (.int .i64 0) ∧ Below w.heap.size w w') (w : World) : Calls Tryz.prog 48 #[.agg #[.int .i64 r, .int .i64 c, .slice ao n d], .agg #[.int .i64 r2, .int .i64 c2, .slice ao2 n2 d2]] w fun xe w' => xe = .returned (.tuple #[.agg #[.int .i64 0, .int .i64 0, .slice none 0 0], .int .i64 1]) ∧ Below w.heap.size w w' := by
 replace HF := Lib.hid HF
 have h1 : (c != r2) = true := by simpa using hne
 have h2 : (c == r2) = false := by simpa using hne
 clear hne
 have hL0 : GL w w [] := GL.start w
 replace hL0 := (((hL0.new rfl [.int .i64 r, .int .i64 c, .slice ao n d] 81).new (K := w.heap.size + 1) (szA _ _) [.int .i64 r2, .int .i64 c2, .slice ao2 n2 d2] 81).new (K := w.heap.size + 1 + 1) (by simp only [World.size_alloc]) [.int .i64 0, .int .i64 0, .slice none 0 0] 81)
 generalize hweq : (((w.alloc (.cells #[.int .i64 r, .int .i64 c, .slice ao n d] 81)).alloc (.cells #[.int .i64 r2, .int .i64 c2, .slice ao2 n2 d2] 81)).alloc (.cells #[.int .i64 0, .int .i64 0, .slice none 0 0] 81)) = x1 at hL0
 have hZ := hL0.fc
 simp only [fcG, cellsF, neK, and_true, ne_eq, Nat.zero_add, Nat.reduceAdd] at hZ
 replace hL0 := (hL0.new rfl [.int .i64 r, .int .i64 c, .slice ao n d, .int .i64 r2, .int .i64 c2, .slice ao2 n2 d2] 81)
 generalize hweq2 : (x1.alloc (.cells #[.int .i64 r, .int .i64 c, .slice ao n d, .int .i64 r2, .int .i64 c2, .slice ao2 n2 d2] 81)) = x2 at hL0
 replace HF := Lib.hid (HF.out x1.heap.size x2 (hL0.get _ _ List.mem_cons_self))
 have hA := hL0.fc
 simp only [fcG, cellsF, neK, and_true, ne_eq, Nat.zero_add, Nat.reduceAdd] at hA
 go_enter Tryz.func48, Tryz.ntmps48
 go_wp2_with fail
 with_reducible refine Calls.mono (HF.out) ?_
 rintro e y1 ⟨rfl, hb⟩
 replace hL0 := hL0.call hb
 clear hb hA hZ hweq hweq2 HF
 have hA := hL0.fc
 simp only [fcG, cellsF, neK, and_true, ne_eq, Nat.zero_add, Nat.reduceAdd] at hA
 have hA := cells_of _ 0 [] rfl (hL0.get _ _ (List.mem_cons_of_mem _ List.mem_cons_self))
 simp only [cellsF, and_true, Nat.zero_add, Nat.reduceAdd] at hA
 have zf := (hL0.get _ _ (List.mem_cons_of_mem _ List.mem_cons_self)).frz
 have hPt := hL0.put 1 (w.heap.size + 1 + 1) _ rfl [.int .i64 0, .int .i64 0, .slice none 0 0] rfl
 simp only [setAll, List.set_cons_zero, List.set_cons_succ] at hPt
 generalize hput1 : (((y1.setCell ⟨w.heap.size + 1 + 1, 0, none⟩ (.int .i64 0)).setCell ⟨w.heap.size + 1 + 1, 1, none⟩ (.int .i64 0)).setCell ⟨w.heap.size + 1 + 1, 2, none⟩ (.slice none 0 0)) = y9 at hPt
 have hB1 := cells_of _ 0 [] rfl (hPt.get _ _ (List.mem_cons_of_mem _ List.mem_cons_self))
 simp only [cellsF, and_true, Nat.zero_add, Nat.reduceAdd] at hB1
 clear hL0
 go_wp2_with fail
 exact bodyPost_ret (v := .tuple #[.agg #[.int .i64 0, .int .i64 0, .slice none 0 0], .int .i64 1]) (by simp [results, Tryz.results48, go_sem, hB1]) rfl ⟨rfl, hPt.bl⟩
set_option maxHeartbeats 4000000 in
set_option maxRecDepth 100000 in
theorem mapply_ns (r c : Int) (n d : Nat) (ao : Option Addr) (nv cv : Nat) (av : Option Addr) (hne : ¬ (nv : Int) = c) (HF : ∀ g w, Hd w g [.slice av nv cv] → Calls Tryz.prog 140 #[.agg #[.int .i64 r, .int .i64 c, .slice ao n d], .slice (some ⟨g, 0, none⟩) 1 1] w fun xe w' => xe = .returned (.int .i64 0) ∧ Below w.heap.size w w') (w : World) : Calls Tryz.prog 59 #[.agg #[.int .i64 r, .int .i64 c, .slice ao n d], .slice av nv cv] w fun xe w' => xe = .returned (.tuple #[.slice none 0 0, .int .i64 1]) ∧ Below w.heap.size w w' := by
 replace HF := Lib.hid HF
 have h1 : ((nv : Int) != c) = true := by simpa using hne
 have h2 : ((nv : Int) == c) = false := by simpa using hne
 clear hne
 have hL0 : GL w w [] := GL.start w
 replace hL0 := (hL0.new rfl [.int .i64 r, .int .i64 c, .slice ao n d] 81)
 generalize hweq : (w.alloc (.cells #[.int .i64 r, .int .i64 c, .slice ao n d] 81)) = x1 at hL0
 have hZ := hL0.fc
 simp only [fcG, cellsF, neK, and_true, ne_eq, Nat.zero_add, Nat.reduceAdd] at hZ
 replace hL0 := (hL0.new rfl [.slice av nv cv] 30)
 generalize hweq2 : (x1.alloc (.cells #[.slice av nv cv] 30)) = x2 at hL0
 replace HF := Lib.hid (HF.out x1.heap.size x2 (hL0.get _ _ List.mem_cons_self))
 have hA := hL0.fc
 simp only [fcG, cellsF, neK, and_true, ne_eq, Nat.zero_add, Nat.reduceAdd] at hA
 go_enter Tryz.func59, Tryz.ntmps59
 go_wp2_with fail
 with_reducible refine Calls.mono (HF.out) ?_
 rintro e y1 ⟨rfl, hb⟩
 replace hL0 := hL0.call hb
 clear hb hA hZ hweq hweq2 HF
 have hA := hL0.fc
 simp only [fcG, cellsF, neK, and_true, ne_eq, Nat.zero_add, Nat.reduceAdd] at hA
 go_wp2_with fail
 exact bodyPost_ret (v := .tuple #[.slice none 0 0, .int .i64 1]) (by simp [results, Tryz.results59, go_sem]) rfl ⟨rfl, hL0.bl⟩
set_option maxHeartbeats 4000000 in
set_option maxRecDepth 100000 in
theorem mform_ns (r c : Int) (n d : Nat) (ao : Option Addr) (nv cv : Nat) (av : Option Addr) (nw cw : Nat) (aw : Option Addr) (hne : ¬ (nv : Int) = r) (HF : ∀ g w, Hd w g [.slice av nv cv, .slice aw nw cw] → Calls Tryz.prog 140 #[.agg #[.int .i64 r, .int .i64 c, .slice ao n d], .slice (some ⟨g, 0, none⟩) 2 2] w fun xe w' => xe = .returned (.int .i64 0) ∧ Below w.heap.size w w') (w : World) : Calls Tryz.prog 60 #[.agg #[.int .i64 r, .int .i64 c, .slice ao n d], .slice av nv cv, .slice aw nw cw] w fun xe w' => xe = .returned (.tuple #[.agg #[.int .u64 0, .string ⟨#[]⟩, .bool false, .int .u64 0, .string ⟨#[]⟩], .int .i64 1]) ∧ Below w.heap.size w w' := by
 replace HF := Lib.hid HF
 have h1 : ((nv : Int) != r) = true := by simpa using hne
 have h2 : ((nv : Int) == r) = false := by simpa using hne
 clear hne
 have hL0 : GL w w [] := GL.start w
 replace hL0 := ((hL0.new rfl [.int .i64 r, .int .i64 c, .slice ao n d] 81).new (K := w.heap.size + 1) (szA _ _) [.int .u64 0, .string ⟨#[]⟩, .bool false, .int .u64 0, .string ⟨#[]⟩] 38)
 generalize hweq : ((w.alloc (.cells #[.int .i64 r, .int .i64 c, .slice ao n d] 81)).alloc (.cells #[.int .u64 0, .string ⟨#[]⟩, .bool false, .int .u64 0, .string ⟨#[]⟩] 38)) = x1 at hL0
 have hZ := hL0.fc
 simp only [fcG, cellsF, neK, and_true, ne_eq, Nat.zero_add, Nat.reduceAdd] at hZ
 replace hL0 := (hL0.new rfl [.slice av nv cv, .slice aw nw cw] 30)
 generalize hweq2 : (x1.alloc (.cells #[.slice av nv cv, .slice aw nw cw] 30)) = x2 at hL0
 replace HF := Lib.hid (HF.out x1.heap.size x2 (hL0.get _ _ List.mem_cons_self))
 have hA := hL0.fc
 simp only [fcG, cellsF, neK, and_true, ne_eq, Nat.zero_add, Nat.reduceAdd] at hA
 go_enter Tryz.func60, Tryz.ntmps60
 go_wp2_with fail
 with_reducible refine Calls.mono (HF.out) ?_
 rintro e y1 ⟨rfl, hb⟩
 replace hL0 := hL0.call hb
 clear hb hA hZ hweq hweq2 HF
 have hA := hL0.fc
 simp only [fcG, cellsF, neK, and_true, ne_eq, Nat.zero_add, Nat.reduceAdd] at hA
 have hA := cells_of _ 0 [] rfl (hL0.get _ _ (List.mem_cons_of_mem _ List.mem_cons_self))
 simp only [cellsF, and_true, Nat.zero_add, Nat.reduceAdd] at hA
 have zf := (hL0.get _ _ (List.mem_cons_of_mem _ List.mem_cons_self)).frz
 have hPt := hL0.put 1 (w.heap.size + 1) _ rfl [.int .u64 0, .string ⟨#[]⟩, .bool false, .int .u64 0, .string ⟨#[]⟩] rfl
 simp only [setAll, List.set_cons_zero, List.set_cons_succ] at hPt
 generalize hput1 : (((((y1.setCell ⟨w.heap.size + 1, 0, none⟩ (.int .u64 0)).setCell ⟨w.heap.size + 1, 1, none⟩ (.string ⟨#[]⟩)).setCell ⟨w.heap.size + 1, 2, none⟩ (.bool false)).setCell ⟨w.heap.size + 1, 3, none⟩ (.int .u64 0)).setCell ⟨w.heap.size + 1, 4, none⟩ (.string ⟨#[]⟩)) = y9 at hPt
 have hB1 := cells_of _ 0 [] rfl (hPt.get _ _ (List.mem_cons_of_mem _ List.mem_cons_self))
 simp only [cellsF, and_true, Nat.zero_add, Nat.reduceAdd] at hB1
 clear hL0
 go_wp2_with fail
 exact bodyPost_ret (v := .tuple #[.agg #[.int .u64 0, .string ⟨#[]⟩, .bool false, .int .u64 0, .string ⟨#[]⟩], .int .i64 1]) (by simp [results, Tryz.results60, go_sem, hB1]) rfl ⟨rfl, hPt.bl⟩
set_option maxHeartbeats 4000000 in
set_option maxRecDepth 100000 in
theorem mindex_out (i n : Int) (h : ¬ (0 ≤ i ∧ i < n)) (w : World) : Calls Tryz.prog 142 #[.int .i64 i, .int .i64 n] w fun xe w' => xe = .returned (.bool false) ∧ Below w.heap.size w w' := by
 by_cases h0 : 0 ≤ i
 ·have h1 : ¬ i < n := fun g => h ⟨h0, g⟩
  clear h
  go_enter Tryz.func142, Tryz.ntmps142
  go_wp2_with fail
  exact bodyPost_ret (v := .bool false) (by simp [results, Tryz.results142, go_sem]) rfl ⟨rfl, Below.refl _ _⟩
 ·clear h
  go_enter Tryz.func142, Tryz.ntmps142
  go_wp2_with fail
  exact bodyPost_ret (v := .bool false) (by simp [results, Tryz.results142, go_sem]) rfl ⟨rfl, Below.refl _ _⟩
set_option maxHeartbeats 4000000 in
set_option maxRecDepth 100000 in
theorem mrow_out (r c : Int) (n d : Nat) (ao : Option Addr) (i : Int) (HK : ∀ w, Calls Tryz.prog 51 #[.agg #[.int .i64 r, .int .i64 c, .slice ao n d]] w fun xe w' => xe = .returned (.int .i64 0) ∧ Below w.heap.size w w') (HI : ∀ w, Calls Tryz.prog 142 #[.int .i64 i, .int .i64 r] w fun xe w' => xe = .returned (.bool false) ∧ Below w.heap.size w w') (w : World) : Calls Tryz.prog 61 #[.agg #[.int .i64 r, .int .i64 c, .slice ao n d], .int .i64 i] w fun xe w' => xe = .returned (.tuple #[.slice none 0 0, .int .i64 1]) ∧ Below w.heap.size w w' := by
 replace HK := Lib.hid HK
 replace HI := Lib.hid HI
 have hL0 : GL w w [] := GL.start w
 replace hL0 := ((hL0.new rfl [.int .i64 r, .int .i64 c, .slice ao n d] 81).new (K := w.heap.size + 1) (szA _ _) [.int .i64 i] 3)
 generalize hweq : ((w.alloc (.cells #[.int .i64 r, .int .i64 c, .slice ao n d] 81)).alloc (.cells #[.int .i64 i] 3)) = x1 at hL0
 have hA := hL0.fc
 simp only [fcG, cellsF, neK, and_true, ne_eq, Nat.zero_add, Nat.reduceAdd] at hA
 go_enter Tryz.func61, Tryz.ntmps61
 go_wp2_with fail
 with_reducible refine Calls.mono (HK.out _) ?_
 rintro e y1 ⟨rfl, hb⟩
 replace hL0 := hL0.call hb
 clear hb hA hweq HK
 have hA := hL0.fc
 simp only [fcG, cellsF, neK, and_true, ne_eq, Nat.zero_add, Nat.reduceAdd] at hA
 go_wp2_with fail
 with_reducible refine Calls.mono (HI.out _) ?_
 rintro e y2 ⟨rfl, hb⟩
 replace hL0 := hL0.call hb
 clear hb hA HI
 have hA := hL0.fc
 simp only [fcG, cellsF, neK, and_true, ne_eq, Nat.zero_add, Nat.reduceAdd] at hA
 go_wp2_with fail
 exact bodyPost_ret (v := .tuple #[.slice none 0 0, .int .i64 1]) (by simp [results, Tryz.results61, go_sem]) rfl ⟨rfl, hL0.bl⟩
set_option maxHeartbeats 4000000 in
set_option maxRecDepth 100000 in
theorem mcol_out (r c : Int) (n d : Nat) (ao : Option Addr) (i : Int) (HK : ∀ w, Calls Tryz.prog 51 #[.agg #[.int .i64 r, .int .i64 c, .slice ao n d]] w fun xe w' => xe = .returned (.int .i64 0) ∧ Below w.heap.size w w') (HI : ∀ w, Calls Tryz.prog 142 #[.int .i64 i, .int .i64 c] w fun xe w' => xe = .returned (.bool false) ∧ Below w.heap.size w w') (w : World) : Calls Tryz.prog 63 #[.agg #[.int .i64 r, .int .i64 c, .slice ao n d], .int .i64 i] w fun xe w' => xe = .returned (.tuple #[.slice none 0 0, .int .i64 1]) ∧ Below w.heap.size w w' := by
 replace HK := Lib.hid HK
 replace HI := Lib.hid HI
 have hL0 : GL w w [] := GL.start w
 replace hL0 := ((hL0.new rfl [.int .i64 r, .int .i64 c, .slice ao n d] 81).new (K := w.heap.size + 1) (szA _ _) [.int .i64 i] 3)
 generalize hweq : ((w.alloc (.cells #[.int .i64 r, .int .i64 c, .slice ao n d] 81)).alloc (.cells #[.int .i64 i] 3)) = x1 at hL0
 have hA := hL0.fc
 simp only [fcG, cellsF, neK, and_true, ne_eq, Nat.zero_add, Nat.reduceAdd] at hA
 go_enter Tryz.func63, Tryz.ntmps63
 go_wp2_with fail
 with_reducible refine Calls.mono (HK.out _) ?_
 rintro e y1 ⟨rfl, hb⟩
 replace hL0 := hL0.call hb
 clear hb hA hweq HK
 have hA := hL0.fc
 simp only [fcG, cellsF, neK, and_true, ne_eq, Nat.zero_add, Nat.reduceAdd] at hA
 go_wp2_with fail
 with_reducible refine Calls.mono (HI.out _) ?_
 rintro e y2 ⟨rfl, hb⟩
 replace hL0 := hL0.call hb
 clear hb hA HI
 have hA := hL0.fc
 simp only [fcG, cellsF, neK, and_true, ne_eq, Nat.zero_add, Nat.reduceAdd] at hA
 go_wp2_with fail
 exact bodyPost_ret (v := .tuple #[.slice none 0 0, .int .i64 1]) (by simp [results, Tryz.results63, go_sem]) rfl ⟨rfl, hL0.bl⟩
set_option maxHeartbeats 4000000 in
set_option maxRecDepth 100000 in
theorem mat_out1 (r c : Int) (n d : Nat) (ao : Option Addr) (i k : Int) (HK : ∀ w, Calls Tryz.prog 51 #[.agg #[.int .i64 r, .int .i64 c, .slice ao n d]] w fun xe w' => xe = .returned (.int .i64 0) ∧ Below w.heap.size w w') (HI : ∀ w, Calls Tryz.prog 142 #[.int .i64 i, .int .i64 r] w fun xe w' => xe = .returned (.bool false) ∧ Below w.heap.size w w') (w : World) : Calls Tryz.prog 62 #[.agg #[.int .i64 r, .int .i64 c, .slice ao n d], .int .i64 i, .int .i64 k] w fun xe w' => xe = .returned (.tuple #[.agg #[.int .u64 0, .string ⟨#[]⟩, .bool false, .int .u64 0, .string ⟨#[]⟩], .bool false]) ∧ Below w.heap.size w w' := by
 replace HK := Lib.hid HK
 replace HI := Lib.hid HI
 have hL0 : GL w w [] := GL.start w
 replace hL0 := ((hL0.new rfl [.int .i64 r, .int .i64 c, .slice ao n d] 81).new (K := w.heap.size + 1) (szA _ _) [.int .u64 0, .string ⟨#[]⟩, .bool false, .int .u64 0, .string ⟨#[]⟩] 38)
 generalize hweq : ((w.alloc (.cells #[.int .i64 r, .int .i64 c, .slice ao n d] 81)).alloc (.cells #[.int .u64 0, .string ⟨#[]⟩, .bool false, .int .u64 0, .string ⟨#[]⟩] 38)) = x1 at hL0
 have hA := hL0.fc
 simp only [fcG, cellsF, neK, and_true, ne_eq, Nat.zero_add, Nat.reduceAdd] at hA
 go_enter Tryz.func62, Tryz.ntmps62
 go_wp2_with fail
 with_reducible refine Calls.mono (HK.out _) ?_
 rintro e y1 ⟨rfl, hb⟩
 replace hL0 := hL0.call hb
 clear hb hA hweq HK
 have hA := hL0.fc
 simp only [fcG, cellsF, neK, and_true, ne_eq, Nat.zero_add, Nat.reduceAdd] at hA
 go_wp2_with fail
 with_reducible refine Calls.mono (HI.out _) ?_
 rintro e y2 ⟨rfl, hb⟩
 replace hL0 := hL0.call hb
 clear hb hA HI
 have hA := cells_of _ 0 [] rfl (hL0.get _ _ List.mem_cons_self)
 simp only [cellsF, and_true, Nat.zero_add, Nat.reduceAdd] at hA
 have zf := (hL0.get _ _ List.mem_cons_self).frz
 have hPt := hL0.put 0 (w.heap.size + 1) _ rfl [.int .u64 0, .string ⟨#[]⟩, .bool false, .int .u64 0, .string ⟨#[]⟩] rfl
 simp only [setAll, List.set_cons_zero, List.set_cons_succ] at hPt
 generalize hput1 : (((((y2.setCell ⟨w.heap.size + 1, 0, none⟩ (.int .u64 0)).setCell ⟨w.heap.size + 1, 1, none⟩ (.string ⟨#[]⟩)).setCell ⟨w.heap.size + 1, 2, none⟩ (.bool false)).setCell ⟨w.heap.size + 1, 3, none⟩ (.int .u64 0)).setCell ⟨w.heap.size + 1, 4, none⟩ (.string ⟨#[]⟩)) = y9 at hPt
 have hB1 := cells_of _ 0 [] rfl (hPt.get _ _ List.mem_cons_self)
 simp only [cellsF, and_true, Nat.zero_add, Nat.reduceAdd] at hB1
 clear hL0
 go_wp2_with fail
 exact bodyPost_ret (v := .tuple #[.agg #[.int .u64 0, .string ⟨#[]⟩, .bool false, .int .u64 0, .string ⟨#[]⟩], .bool false]) (by simp [results, Tryz.results62, go_sem, hB1]) rfl ⟨rfl, hPt.bl⟩
set_option maxHeartbeats 4000000 in
set_option maxRecDepth 100000 in
theorem mat_out2 (r c : Int) (n d : Nat) (ao : Option Addr) (i k : Int) (HK : ∀ w, Calls Tryz.prog 51 #[.agg #[.int .i64 r, .int .i64 c, .slice ao n d]] w fun xe w' => xe = .returned (.int .i64 0) ∧ Below w.heap.size w w') (HI : ∀ w, Calls Tryz.prog 142 #[.int .i64 i, .int .i64 r] w fun xe w' => xe = .returned (.bool true) ∧ Below w.heap.size w w') (HJ : ∀ w, Calls Tryz.prog 142 #[.int .i64 k, .int .i64 c] w fun xe w' => xe = .returned (.bool false) ∧ Below w.heap.size w w') (w : World) : Calls Tryz.prog 62 #[.agg #[.int .i64 r, .int .i64 c, .slice ao n d], .int .i64 i, .int .i64 k] w fun xe w' => xe = .returned (.tuple #[.agg #[.int .u64 0, .string ⟨#[]⟩, .bool false, .int .u64 0, .string ⟨#[]⟩], .bool false]) ∧ Below w.heap.size w w' := by
 replace HK := Lib.hid HK
 replace HI := Lib.hid HI
 replace HJ := Lib.hid HJ
 have hL0 : GL w w [] := GL.start w
 replace hL0 := ((hL0.new rfl [.int .i64 r, .int .i64 c, .slice ao n d] 81).new (K := w.heap.size + 1) (szA _ _) [.int .u64 0, .string ⟨#[]⟩, .bool false, .int .u64 0, .string ⟨#[]⟩] 38)
 generalize hweq : ((w.alloc (.cells #[.int .i64 r, .int .i64 c, .slice ao n d] 81)).alloc (.cells #[.int .u64 0, .string ⟨#[]⟩, .bool false, .int .u64 0, .string ⟨#[]⟩] 38)) = x1 at hL0
 have hA := hL0.fc
 simp only [fcG, cellsF, neK, and_true, ne_eq, Nat.zero_add, Nat.reduceAdd] at hA
 go_enter Tryz.func62, Tryz.ntmps62
 go_wp2_with fail
 with_reducible refine Calls.mono (HK.out _) ?_
 rintro e y1 ⟨rfl, hb⟩
 replace hL0 := hL0.call hb
 clear hb hA hweq HK
 have hA := hL0.fc
 simp only [fcG, cellsF, neK, and_true, ne_eq, Nat.zero_add, Nat.reduceAdd] at hA
 go_wp2_with fail
 with_reducible refine Calls.mono (HI.out _) ?_
 rintro e y2 ⟨rfl, hb⟩
 replace hL0 := hL0.call hb
 clear hb hA HI
 have hA := hL0.fc
 simp only [fcG, cellsF, neK, and_true, ne_eq, Nat.zero_add, Nat.reduceAdd] at hA
 go_wp2_with fail
 with_reducible refine Calls.mono (HJ.out _) ?_
 rintro e y3 ⟨rfl, hb⟩
 replace hL0 := hL0.call hb
 clear hb hA HJ
 have hA := cells_of _ 0 [] rfl (hL0.get _ _ List.mem_cons_self)
 simp only [cellsF, and_true, Nat.zero_add, Nat.reduceAdd] at hA
 have zf := (hL0.get _ _ List.mem_cons_self).frz
 have hPt := hL0.put 0 (w.heap.size + 1) _ rfl [.int .u64 0, .string ⟨#[]⟩, .bool false, .int .u64 0, .string ⟨#[]⟩] rfl
 simp only [setAll, List.set_cons_zero, List.set_cons_succ] at hPt
 generalize hput1 : (((((y3.setCell ⟨w.heap.size + 1, 0, none⟩ (.int .u64 0)).setCell ⟨w.heap.size + 1, 1, none⟩ (.string ⟨#[]⟩)).setCell ⟨w.heap.size + 1, 2, none⟩ (.bool false)).setCell ⟨w.heap.size + 1, 3, none⟩ (.int .u64 0)).setCell ⟨w.heap.size + 1, 4, none⟩ (.string ⟨#[]⟩)) = y9 at hPt
 have hB1 := cells_of _ 0 [] rfl (hPt.get _ _ List.mem_cons_self)
 simp only [cellsF, and_true, Nat.zero_add, Nat.reduceAdd] at hB1
 clear hL0
 go_wp2_with fail
 exact bodyPost_ret (v := .tuple #[.agg #[.int .u64 0, .string ⟨#[]⟩, .bool false, .int .u64 0, .string ⟨#[]⟩], .bool false]) (by simp [results, Tryz.results62, go_sem, hB1]) rfl ⟨rfl, hPt.bl⟩
end Go.Proofs.YthkodldppaccmaaGreatDoor
namespace Go.Proofs.YthkodldppaccmaaGreatDoor
open Go.RowKit
attribute [local irreducible] lo hs sm s64 c64 d64 b64 mh ml pd pc qd qc val hiB str cmpI srD lz nb zl zh zs fe rowV tabV gv bsV tabM
set_option maxHeartbeats 4000000 in
set_option maxRecDepth 100000 in
theorem mrow1_w (i k j r c n d b1 b2 : Nat) (ao : Option Addr) (q : Rat) (KC : World → Prop) (hKC : Keeps KC) (HA : ∀ w, KC w → Calls Tryz.prog 132 #[.agg #[.int .i64 (r : Int), .int .i64 (c : Int), .slice ao n d], .int .i64 (j : Int), .int .i64 (k : Int)] w fun xe w' => xe = .returned (fracV q) ∧ Below w.heap.size w w') (w : World) (kC : KC w) (c0 : w.cell? ⟨b1, 0, none⟩ = some (.int .i64 (r : Int))) (c1 : w.cell? ⟨b1, 1, none⟩ = some (.int .i64 (c : Int))) (c2 : w.cell? ⟨b1, 2, none⟩ = some (.slice ao n d)) (c3 : w.cell? ⟨b2, 0, none⟩ = some (.int .i64 (j : Int))) :
  Calls Tryz.prog 143 #[.int .i64 (i : Int), .int .i64 (k : Int), .pointer (some ⟨b1, 0, none⟩), .pointer (some ⟨b2, 0, none⟩)] w fun xe w' => xe = .returned (fracV q) ∧ Below w.heap.size w w' := by
 replace HA := Lib.hid HA
 replace hKC := Lib.hid hKC
 have hL0 : GL w w [] := GL.start w
 have hb0 : Below w.heap.size w (w.alloc (.cells #[.int .u64 0, .string ⟨#[]⟩, .bool false, .int .u64 0, .string ⟨#[]⟩] 38)) := (Below.refl _ _).alloc (Nat.le_refl _) _
 replace c0 := keepsC hb0 c0
 replace c1 := keepsC hb0 c1
 replace c2 := keepsC hb0 c2
 replace c3 := keepsC hb0 c3
 replace kC := hKC.out _ _ hb0 kC
 replace hL0 := hL0.new rfl [.int .u64 0, .string ⟨#[]⟩, .bool false, .int .u64 0, .string ⟨#[]⟩] 38
 generalize hweq : w.alloc (.cells #[.int .u64 0, .string ⟨#[]⟩, .bool false, .int .u64 0, .string ⟨#[]⟩] 38) = x1 at hL0 c0 c1 c2 c3 kC
 clear hb0
 go_enter Tryz.func143, Tryz.ntmps143
 go_wp2_with fail
 with_reducible refine Calls.mono (HA.out _ kC) ?_
 rintro e x2 ⟨rfl, hb⟩
 replace hL0 := hL0.call hb
 clear hb hweq c0 c1 c2 c3
 have hA := hL0.fc
 simp only [fcG, cellsF, neK, and_true, ne_eq, Nat.zero_add, Nat.reduceAdd] at hA
 have hPt := hL0.put 0 (w.heap.size) _ rfl [.int .u64 ((zl q.num : Nat) : Int), .string (zh q.num), .bool (zs q.num), .int .u64 ((lo (fe q) : Nat) : Int), .string (hs (fe q))] rfl
 simp only [setAll, List.set_cons_zero, List.set_cons_succ] at hPt
 generalize hput1 : (((((x2.setCell ⟨w.heap.size, 0, none⟩ (.int .u64 ((zl q.num : Nat) : Int))).setCell ⟨w.heap.size, 1, none⟩ (.string (zh q.num))).setCell ⟨w.heap.size, 2, none⟩ (.bool (zs q.num))).setCell ⟨w.heap.size, 3, none⟩ (.int .u64 ((lo (fe q) : Nat) : Int))).setCell ⟨w.heap.size, 4, none⟩ (.string (hs (fe q)))) = x9 at hPt
 have hB1 := hPt.fc
 simp only [fcG, cellsF, neK, and_true, ne_eq, Nat.zero_add, Nat.reduceAdd] at hB1
 go_wp2_with fail
 exact bodyPost_ret (v := fracV q) (by simp [results, Tryz.results143, go_sem, hB1]) rfl ⟨rfl, hPt.bl⟩
set_option maxHeartbeats 4000000 in
set_option maxRecDepth 100000 in
theorem mcol1_w (i k j r c n d b1 b2 : Nat) (ao : Option Addr) (q : Rat) (KC : World → Prop) (hKC : Keeps KC) (HA : ∀ w, KC w → Calls Tryz.prog 132 #[.agg #[.int .i64 (r : Int), .int .i64 (c : Int), .slice ao n d], .int .i64 (i : Int), .int .i64 (j : Int)] w fun xe w' => xe = .returned (fracV q) ∧ Below w.heap.size w w') (w : World) (kC : KC w) (c0 : w.cell? ⟨b1, 0, none⟩ = some (.int .i64 (r : Int))) (c1 : w.cell? ⟨b1, 1, none⟩ = some (.int .i64 (c : Int))) (c2 : w.cell? ⟨b1, 2, none⟩ = some (.slice ao n d)) (c3 : w.cell? ⟨b2, 0, none⟩ = some (.int .i64 (j : Int))) :
  Calls Tryz.prog 144 #[.int .i64 (i : Int), .int .i64 (k : Int), .pointer (some ⟨b1, 0, none⟩), .pointer (some ⟨b2, 0, none⟩)] w fun xe w' => xe = .returned (fracV q) ∧ Below w.heap.size w w' := by
 replace HA := Lib.hid HA
 replace hKC := Lib.hid hKC
 have hL0 : GL w w [] := GL.start w
 have hb0 : Below w.heap.size w (w.alloc (.cells #[.int .u64 0, .string ⟨#[]⟩, .bool false, .int .u64 0, .string ⟨#[]⟩] 38)) := (Below.refl _ _).alloc (Nat.le_refl _) _
 replace c0 := keepsC hb0 c0
 replace c1 := keepsC hb0 c1
 replace c2 := keepsC hb0 c2
 replace c3 := keepsC hb0 c3
 replace kC := hKC.out _ _ hb0 kC
 replace hL0 := hL0.new rfl [.int .u64 0, .string ⟨#[]⟩, .bool false, .int .u64 0, .string ⟨#[]⟩] 38
 generalize hweq : w.alloc (.cells #[.int .u64 0, .string ⟨#[]⟩, .bool false, .int .u64 0, .string ⟨#[]⟩] 38) = x1 at hL0 c0 c1 c2 c3 kC
 clear hb0
 go_enter Tryz.func144, Tryz.ntmps144
 go_wp2_with fail
 with_reducible refine Calls.mono (HA.out _ kC) ?_
 rintro e x2 ⟨rfl, hb⟩
 replace hL0 := hL0.call hb
 clear hb hweq c0 c1 c2 c3
 have hA := hL0.fc
 simp only [fcG, cellsF, neK, and_true, ne_eq, Nat.zero_add, Nat.reduceAdd] at hA
 have hPt := hL0.put 0 (w.heap.size) _ rfl [.int .u64 ((zl q.num : Nat) : Int), .string (zh q.num), .bool (zs q.num), .int .u64 ((lo (fe q) : Nat) : Int), .string (hs (fe q))] rfl
 simp only [setAll, List.set_cons_zero, List.set_cons_succ] at hPt
 generalize hput1 : (((((x2.setCell ⟨w.heap.size, 0, none⟩ (.int .u64 ((zl q.num : Nat) : Int))).setCell ⟨w.heap.size, 1, none⟩ (.string (zh q.num))).setCell ⟨w.heap.size, 2, none⟩ (.bool (zs q.num))).setCell ⟨w.heap.size, 3, none⟩ (.int .u64 ((lo (fe q) : Nat) : Int))).setCell ⟨w.heap.size, 4, none⟩ (.string (hs (fe q)))) = x9 at hPt
 have hB1 := hPt.fc
 simp only [fcG, cellsF, neK, and_true, ne_eq, Nat.zero_add, Nat.reduceAdd] at hB1
 go_wp2_with fail
 exact bodyPost_ret (v := fracV q) (by simp [results, Tryz.results144, go_sem, hB1]) rfl ⟨rfl, hPt.bl⟩
theorem enmrow : ∀ (args : Array Value) (w : World), (callFunc 143 args).run Tryz.prog w = .ok (.enter 143 args) w := enters_of Tryz.func143 (by kernel_rfl) rfl
theorem enmcol : ∀ (args : Array Value) (w : World), (callFunc 144 args).run Tryz.prog w = .ok (.enter 144 args) w := enters_of Tryz.func144 (by kernel_rfl) rfl
theorem mrow_at (x : Mx) (hx : OKM x) (j : Nat) (hj : j < x.r) (b1 b2 : Nat) (u : Value) (i k : Nat) (hk : k < x.c) (w : World) (hw : (BM w b1 u x ∧ w.cell? ⟨b2, 0, none⟩ = some (.int .i64 (j : Int)))) :
  Calls Tryz.prog 143 (#[.int .i64 (i : Int), .int .i64 (k : Int)] ++ #[.pointer (some ⟨b1, 0, none⟩), .pointer (some ⟨b2, 0, none⟩)]) w fun xe w' => xe = .returned (fracV (ent x j k)) ∧ Below w.heap.size w w' := by
 obtain ⟨ao, d, rfl, -⟩ := hw.1.2.2.2.form
 exact mrow1_w i k j x.r x.c x.l.length d b1 b2 ao (ent x j k) (fun w => CQ w _ x.l) (CQ.keeps _ _) (fun w h => matV x hx j k hj hk _ w h) w hw.1.2.2.2 hw.1.1 hw.1.2.1 hw.1.2.2.1 hw.2
set_option maxHeartbeats 4000000 in
set_option maxRecDepth 100000 in
theorem mRowV (x : Mx) (hx : OKM x) (j : Nat) (hj : j < x.r) (u : Value) (w : World) (hu : CQ w u x.l) :
  Calls Tryz.prog 61 #[.agg #[.int .i64 (x.r : Int), .int .i64 (x.c : Int), u], .int .i64 (j : Int)] w fun xe w' => ∃ t, xe = .returned (.tuple #[t, .int .i64 0]) ∧ NV w.heap.size (tabV x.c fun k => ent x j k) t w' ∧ Below w.heap.size w w' := by
 rw [← tab_row]
 have HB : ∀ b1 b2 u (w : World), (BM w b1 u x ∧ w.cell? ⟨b2, 0, none⟩ = some (.int .i64 (j : Int))) → Calls Tryz.prog 130 #[.int .i64 (1 : Int), .int .i64 (x.c : Int), .func (.func 143) #[] #[.pointer (some ⟨b1, 0, none⟩), .pointer (some ⟨b2, 0, none⟩)]] w fun xe w' => ∃ v, xe = .returned (.agg #[.int .i64 (1 : Int), .int .i64 (x.c : Int), v]) ∧ NV w.heap.size (tabM 1 x.c (fun _ k => ent x j k)).l v w' ∧ Below w.heap.size w w' := fun b1 b2 u w h =>
  mbuild_w 143 #[.pointer (some ⟨b1, 0, none⟩), .pointer (some ⟨b2, 0, none⟩)] enmrow 1 x.c (fun _ k => ent x j k) (fun w => (BM w b1 u x ∧ w.cell? ⟨b2, 0, none⟩ = some (.int .i64 (j : Int)))) (Keeps.and (BM.keeps _ _ _) (keepsB _ _)) (fun i k hi hk w h => mrow_at x hx j hj b1 b2 u i k hk w h) (by omega) hx.c (by have := hx.c; omega) w h
 have HI := Lib.hid (mindex_in (j : Int) (x.r : Int) (Int.natCast_nonneg _) (by omega))
 have HK := fun (n d : Nat) (ao : Option Addr) (hn : n = x.r * x.c) => mcheck_ok x.r x.c n d ao hx.r hx.c hn
 have hlen := hx.len
 clear hx hj
 generalize (tabM 1 x.c (fun _ k => ent x j k)).l = tl at HB ⊢
 obtain ⟨ao, d, rfl, -⟩ := id hu.form
 replace HK := Lib.hid (HK x.l.length d ao hlen)
 clear hlen
 replace HB := Lib.hid HB
 have hL0 : GL w w [] := GL.start w
 replace hL0 := ((hL0.new rfl [.int .i64 (x.r : Int), .int .i64 (x.c : Int), (.slice ao x.l.length d)] 81).new (K := w.heap.size + 1) (szA _ _) [.int .i64 (j : Int)] 3)
 generalize hweq : ((w.alloc (.cells #[.int .i64 (x.r : Int), .int .i64 (x.c : Int), (.slice ao x.l.length d)] 81)).alloc (.cells #[.int .i64 (j : Int)] 3)) = x1 at hL0
 have hu1 := Lib.hid (hu.below hL0.bl)
 clear hu
 have hA := hL0.fc
 simp only [fcG, cellsF, neK, and_true, ne_eq, Nat.zero_add, Nat.reduceAdd] at hA
 go_enter Tryz.func61, Tryz.ntmps61
 go_wp2_with fail
 with_reducible refine Calls.mono (HK.out _) ?_
 rintro e y1 ⟨rfl, hb⟩
 replace hu1 := Lib.hid (hu1.out.below hb)
 replace hL0 := hL0.call hb
 clear hb hA hweq HK
 have hA := hL0.fc
 simp only [fcG, cellsF, neK, and_true, ne_eq, Nat.zero_add, Nat.reduceAdd] at hA
 go_wp2_with fail
 with_reducible refine Calls.mono (HI.out _) ?_
 rintro e y2 ⟨rfl, hb⟩
 replace hu1 := Lib.hid (hu1.out.below hb)
 replace hL0 := hL0.call hb
 clear hb hA HI
 have hB1 := BM.of (hL0.get _ _ (List.mem_cons_of_mem _ List.mem_cons_self)) hu1.out
 have hc1 := (hL0.get _ _ List.mem_cons_self).cell 0 (by simp)
 simp only [List.getElem_cons_zero, List.getElem_cons_succ] at hc1
 replace HB := Lib.hid (HB.out _ _ _ _ ⟨hB1, hc1⟩)
 clear hc1 hB1 hu1
 have hx0 := Lib.hid hL0
 have hA := hL0.fc
 simp only [fcG, cellsF, neK, and_true, ne_eq, Nat.zero_add, Nat.reduceAdd] at hA
 go_wp2_with fail
 with_reducible refine Calls.mono (HB.out) ?_
 rintro e y4 ⟨u, rfl, hnv, hb⟩
 replace hL0 := hL0.call hb
 clear hb hA HB
 have hNV := Lib.hid (hnv.mono hx0.out.bl.size)
 obtain ⟨gu, rfl, -, -⟩ := hnv
 clear hx0
 replace hL0 := Lib.hid hL0
 have hfd := fun W => m_field2 (1 : Int) (x.c : Int) (some ⟨gu, 0, none⟩) tl.length tl.length W
 go_wp2_with fail
 exact bodyPost_ret (v := .tuple #[.slice (some ⟨gu, 0, none⟩) tl.length tl.length, .int .i64 0]) (by simp [results, Tryz.results61, go_sem]) rfl ⟨_, rfl, hNV.out, hL0.out.bl⟩
theorem mcol_at (x : Mx) (hx : OKM x) (j : Nat) (hj : j < x.c) (b1 b2 : Nat) (u : Value) (i k : Nat) (hi : i < x.r) (w : World) (hw : (BM w b1 u x ∧ w.cell? ⟨b2, 0, none⟩ = some (.int .i64 (j : Int)))) :
  Calls Tryz.prog 144 (#[.int .i64 (i : Int), .int .i64 (k : Int)] ++ #[.pointer (some ⟨b1, 0, none⟩), .pointer (some ⟨b2, 0, none⟩)]) w fun xe w' => xe = .returned (fracV (ent x i j)) ∧ Below w.heap.size w w' := by
 obtain ⟨ao, d, rfl, -⟩ := hw.1.2.2.2.form
 exact mcol1_w i k j x.r x.c x.l.length d b1 b2 ao (ent x i j) (fun w => CQ w _ x.l) (CQ.keeps _ _) (fun w h => matV x hx i j hi hj _ w h) w hw.1.2.2.2 hw.1.1 hw.1.2.1 hw.1.2.2.1 hw.2
set_option maxHeartbeats 4000000 in
set_option maxRecDepth 100000 in
theorem mColV (x : Mx) (hx : OKM x) (j : Nat) (hj : j < x.c) (u : Value) (w : World) (hu : CQ w u x.l) :
  Calls Tryz.prog 63 #[.agg #[.int .i64 (x.r : Int), .int .i64 (x.c : Int), u], .int .i64 (j : Int)] w fun xe w' => ∃ t, xe = .returned (.tuple #[t, .int .i64 0]) ∧ NV w.heap.size (tabV x.r fun i => ent x i j) t w' ∧ Below w.heap.size w w' := by
 rw [← tab_col]
 have HB : ∀ b1 b2 u (w : World), (BM w b1 u x ∧ w.cell? ⟨b2, 0, none⟩ = some (.int .i64 (j : Int))) → Calls Tryz.prog 130 #[.int .i64 (x.r : Int), .int .i64 (1 : Int), .func (.func 144) #[] #[.pointer (some ⟨b1, 0, none⟩), .pointer (some ⟨b2, 0, none⟩)]] w fun xe w' => ∃ v, xe = .returned (.agg #[.int .i64 (x.r : Int), .int .i64 (1 : Int), v]) ∧ NV w.heap.size (tabM x.r 1 (fun i _ => ent x i j)).l v w' ∧ Below w.heap.size w w' := fun b1 b2 u w h =>
  mbuild_w 144 #[.pointer (some ⟨b1, 0, none⟩), .pointer (some ⟨b2, 0, none⟩)] enmcol x.r 1 (fun i _ => ent x i j) (fun w => (BM w b1 u x ∧ w.cell? ⟨b2, 0, none⟩ = some (.int .i64 (j : Int)))) (Keeps.and (BM.keeps _ _ _) (keepsB _ _)) (fun i k hi hk w h => mcol_at x hx j hj b1 b2 u i k hi w h) hx.r (by omega) (by have := hx.r; omega) w h
 have HI := Lib.hid (mindex_in (j : Int) (x.c : Int) (Int.natCast_nonneg _) (by omega))
 have HK := fun (n d : Nat) (ao : Option Addr) (hn : n = x.r * x.c) => mcheck_ok x.r x.c n d ao hx.r hx.c hn
 have hlen := hx.len
 clear hx hj
 generalize (tabM x.r 1 (fun i _ => ent x i j)).l = tl at HB ⊢
 obtain ⟨ao, d, rfl, -⟩ := id hu.form
 replace HK := Lib.hid (HK x.l.length d ao hlen)
 clear hlen
 replace HB := Lib.hid HB
 have hL0 : GL w w [] := GL.start w
 replace hL0 := ((hL0.new rfl [.int .i64 (x.r : Int), .int .i64 (x.c : Int), (.slice ao x.l.length d)] 81).new (K := w.heap.size + 1) (szA _ _) [.int .i64 (j : Int)] 3)
 generalize hweq : ((w.alloc (.cells #[.int .i64 (x.r : Int), .int .i64 (x.c : Int), (.slice ao x.l.length d)] 81)).alloc (.cells #[.int .i64 (j : Int)] 3)) = x1 at hL0
 have hu1 := Lib.hid (hu.below hL0.bl)
 clear hu
 have hA := hL0.fc
 simp only [fcG, cellsF, neK, and_true, ne_eq, Nat.zero_add, Nat.reduceAdd] at hA
 go_enter Tryz.func63, Tryz.ntmps63
 go_wp2_with fail
 with_reducible refine Calls.mono (HK.out _) ?_
 rintro e y1 ⟨rfl, hb⟩
 replace hu1 := Lib.hid (hu1.out.below hb)
 replace hL0 := hL0.call hb
 clear hb hA hweq HK
 have hA := hL0.fc
 simp only [fcG, cellsF, neK, and_true, ne_eq, Nat.zero_add, Nat.reduceAdd] at hA
 go_wp2_with fail
 with_reducible refine Calls.mono (HI.out _) ?_
 rintro e y2 ⟨rfl, hb⟩
 replace hu1 := Lib.hid (hu1.out.below hb)
 replace hL0 := hL0.call hb
 clear hb hA HI
 have hB1 := BM.of (hL0.get _ _ (List.mem_cons_of_mem _ List.mem_cons_self)) hu1.out
 have hc1 := (hL0.get _ _ List.mem_cons_self).cell 0 (by simp)
 simp only [List.getElem_cons_zero, List.getElem_cons_succ] at hc1
 replace HB := Lib.hid (HB.out _ _ _ _ ⟨hB1, hc1⟩)
 clear hc1 hB1 hu1
 have hx0 := Lib.hid hL0
 have hA := hL0.fc
 simp only [fcG, cellsF, neK, and_true, ne_eq, Nat.zero_add, Nat.reduceAdd] at hA
 go_wp2_with fail
 with_reducible refine Calls.mono (HB.out) ?_
 rintro e y4 ⟨u, rfl, hnv, hb⟩
 replace hL0 := hL0.call hb
 clear hb hA HB
 have hNV := Lib.hid (hnv.mono hx0.out.bl.size)
 obtain ⟨gu, rfl, -, -⟩ := hnv
 clear hx0
 replace hL0 := Lib.hid hL0
 have hfd := fun W => m_field2 (x.r : Int) (1 : Int) (some ⟨gu, 0, none⟩) tl.length tl.length W
 go_wp2_with fail
 exact bodyPost_ret (v := .tuple #[.slice (some ⟨gu, 0, none⟩) tl.length tl.length, .int .i64 0]) (by simp [results, Tryz.results63, go_sem]) rfl ⟨_, rfl, hNV.out, hL0.out.bl⟩
set_option maxHeartbeats 4000000 in
set_option maxRecDepth 100000 in
theorem mAtV (x : Mx) (hx : OKM x) (i k : Nat) (hi : i < x.r) (hk : k < x.c) (u : Value) (w : World) (hu : CQ w u x.l) :
  Calls Tryz.prog 62 #[.agg #[.int .i64 (x.r : Int), .int .i64 (x.c : Int), u], .int .i64 (i : Int), .int .i64 (k : Int)] w fun xe w' => xe = .returned (.tuple #[fracV (ent x i k), .bool true]) ∧ Below w.heap.size w w' := by
 have HA := fun w h => matV x hx i k hi hk u w h
 have HI := Lib.hid (mindex_in (i : Int) (x.r : Int) (Int.natCast_nonneg _) (by omega))
 have HJ := Lib.hid (mindex_in (k : Int) (x.c : Int) (Int.natCast_nonneg _) (by omega))
 have HK := fun (n d : Nat) (ao : Option Addr) (hn : n = x.r * x.c) => mcheck_ok x.r x.c n d ao hx.r hx.c hn
 have hlen := hx.len
 clear hx hi hk
 generalize ent x i k = q at HA ⊢
 obtain ⟨ao, d, rfl, -⟩ := id hu.form
 replace HK := Lib.hid (HK x.l.length d ao hlen)
 clear hlen
 replace HA := Lib.hid HA
 have hL0 : GL w w [] := GL.start w
 replace hL0 := ((hL0.new rfl [.int .i64 (x.r : Int), .int .i64 (x.c : Int), (.slice ao x.l.length d)] 81).new (K := w.heap.size + 1) (szA _ _) [.int .u64 0, .string ⟨#[]⟩, .bool false, .int .u64 0, .string ⟨#[]⟩] 38)
 generalize hweq : ((w.alloc (.cells #[.int .i64 (x.r : Int), .int .i64 (x.c : Int), (.slice ao x.l.length d)] 81)).alloc (.cells #[.int .u64 0, .string ⟨#[]⟩, .bool false, .int .u64 0, .string ⟨#[]⟩] 38)) = x1 at hL0
 have hu1 := Lib.hid (hu.below hL0.bl)
 clear hu
 have hA := hL0.fc
 simp only [fcG, cellsF, neK, and_true, ne_eq, Nat.zero_add, Nat.reduceAdd] at hA
 go_enter Tryz.func62, Tryz.ntmps62
 go_wp2_with fail
 with_reducible refine Calls.mono (HK.out _) ?_
 rintro e y1 ⟨rfl, hb⟩
 replace hu1 := Lib.hid (hu1.out.below hb)
 replace hL0 := hL0.call hb
 clear hb hA hweq HK
 have hA := hL0.fc
 simp only [fcG, cellsF, neK, and_true, ne_eq, Nat.zero_add, Nat.reduceAdd] at hA
 go_wp2_with fail
 with_reducible refine Calls.mono (HI.out _) ?_
 rintro e y2 ⟨rfl, hb⟩
 replace hu1 := Lib.hid (hu1.out.below hb)
 replace hL0 := hL0.call hb
 clear hb hA HI
 have hA := hL0.fc
 simp only [fcG, cellsF, neK, and_true, ne_eq, Nat.zero_add, Nat.reduceAdd] at hA
 go_wp2_with fail
 with_reducible refine Calls.mono (HJ.out _) ?_
 rintro e y3 ⟨rfl, hb⟩
 replace hu1 := Lib.hid (hu1.out.below hb)
 replace hL0 := hL0.call hb
 clear hb hA HJ
 have hA := hL0.fc
 simp only [fcG, cellsF, neK, and_true, ne_eq, Nat.zero_add, Nat.reduceAdd] at hA
 go_wp2_with fail
 with_reducible refine Calls.mono (HA.out _ hu1.out) ?_
 rintro e y4 ⟨rfl, hb⟩
 replace hL0 := hL0.call hb
 clear hb hA hu1 HA
 have hA := hL0.fc
 simp only [fcG, cellsF, neK, and_true, ne_eq, Nat.zero_add, Nat.reduceAdd] at hA
 have hPt := hL0.put 0 (w.heap.size + 1) _ rfl [.int .u64 ((zl q.num : Nat) : Int), .string (zh q.num), .bool (zs q.num), .int .u64 ((lo (fe q) : Nat) : Int), .string (hs (fe q))] rfl
 simp only [setAll, List.set_cons_zero, List.set_cons_succ] at hPt
 generalize hput1 : (((((y4.setCell ⟨w.heap.size + 1, 0, none⟩ (.int .u64 ((zl q.num : Nat) : Int))).setCell ⟨w.heap.size + 1, 1, none⟩ (.string (zh q.num))).setCell ⟨w.heap.size + 1, 2, none⟩ (.bool (zs q.num))).setCell ⟨w.heap.size + 1, 3, none⟩ (.int .u64 ((lo (fe q) : Nat) : Int))).setCell ⟨w.heap.size + 1, 4, none⟩ (.string (hs (fe q)))) = y5 at hPt
 have hB1 := hPt.fc
 simp only [fcG, cellsF, neK, and_true, ne_eq, Nat.zero_add, Nat.reduceAdd] at hB1
 go_wp2_with fail
 exact bodyPost_ret (v := .tuple #[fracV q, .bool true]) (by simp [results, Tryz.results62, go_sem, hB1]) rfl ⟨rfl, hPt.bl⟩
set_option maxHeartbeats 4000000 in
set_option maxRecDepth 100000 in
theorem mindices_bad (i n : Int) (h : ¬ (0 ≤ i ∧ i < n)) (v : Value) (w : World) (hv : ILs w v [i]) : Calls Tryz.prog 152 #[v, .int .i64 n] w fun xe w' => xe = .returned (.bool false) ∧ Below w.heap.size w w' := by
 obtain ⟨ao, c, g, rfl, h2, h3⟩ := hv
 obtain ⟨rfl, -⟩ := h2 (by simp)
 have h4 : w.cell? ⟨g, 0, none⟩ = some (.int .i64 i) := by have e := h3 0 (by simp); simpa using e
 clear h3 h2
 have HI := Lib.hid (mindex_out i n h)
 clear h
 simp only [List.length_cons, List.length_nil, Nat.zero_add]
 go_enter Tryz.func152, Tryz.ntmps152
 go_wp2_with fail
 go_loopg [9] 1 (fun gk iv wr => gk = 1 ∧ iv = .int .i64 0 ∧ Below w.heap.size w wr)
 case atStart => exact ⟨rfl, by first | rfl | go_num, Below.refl _ _⟩
 case round =>
  obtain ⟨hg, rfl, hbl⟩ := hrel
  replace h4 := keepsC hbl h4
  replace hbl := Lib.hid hbl
  go_wp2_with fail
  with_reducible refine Calls.mono (HI.out _) ?_
  rintro e y2 ⟨rfl, hb⟩
  have hb2 := Lib.hid (hbl.out.trans (hb.mono hbl.out.size))
  clear hb hbl h4
  go_wp2_with fail
  exact bodyPost_ret (v := .bool false) (by simp [results, Tryz.results152, go_sem]) rfl ⟨rfl, hb2.out⟩
set_option maxHeartbeats 4000000 in
set_option maxRecDepth 100000 in
theorem mpart_out1 (r c i : Int) (n d ci : Nat) (ao ai : Option Addr) (HK : ∀ w, Calls Tryz.prog 51 #[.agg #[.int .i64 r, .int .i64 c, .slice ao n d]] w fun xe w' => xe = .returned (.int .i64 0) ∧ Below w.heap.size w w') (HN : ∀ w, Calls Tryz.prog 152 #[.slice none 0 0, .int .i64 r] w fun xe w' => xe = .returned (.bool true) ∧ Below w.heap.size w w') (w : World) (hs : ILs w (.slice ai 1 ci) [i]) (hi : ¬ (0 ≤ i ∧ i < r)) : Calls Tryz.prog 77 #[.agg #[.int .i64 r, .int .i64 c, .slice ao n d], .slice ai 1 ci, .slice none 0 0] w fun xe w' => xe = .returned (.tuple #[.agg #[.int .i64 0, .int .i64 0, .slice none 0 0], .int .i64 1]) ∧ Below w.heap.size w w' := by
 have HS := Lib.hid (msize_ok 1 0 (by omega) (by omega))
 have HI := Lib.hid fun w h => mindices_bad i r hi (.slice ai 1 ci) w h
 clear hi
 replace HK := Lib.hid HK
 replace HN := Lib.hid HN
 have hL0 : GL w w [] := GL.start w
 replace hL0 := ((((hL0.new rfl [.int .i64 r, .int .i64 c, .slice ao n d] 81).new (K := w.heap.size + 1) (szA _ _) [.slice ai 1 ci] 42).new (K := w.heap.size + 1 + 1) (by simp only [World.size_alloc]) [.slice none 0 0] 42).new (K := w.heap.size + 1 + 1 + 1) (by simp only [World.size_alloc]) [.int .i64 0, .int .i64 0, .slice none 0 0] 81)
 generalize hweq : ((((w.alloc (.cells #[.int .i64 r, .int .i64 c, .slice ao n d] 81)).alloc (.cells #[.slice ai 1 ci] 42)).alloc (.cells #[.slice none 0 0] 42)).alloc (.cells #[.int .i64 0, .int .i64 0, .slice none 0 0] 81)) = x1 at hL0
 have hs1 := Lib.hid (hs.below hL0.bl)
 clear hs
 have hA := hL0.fc
 simp only [fcG, cellsF, neK, and_true, ne_eq, Nat.zero_add, Nat.reduceAdd] at hA
 go_enter Tryz.func77, Tryz.ntmps77
 go_wp2_with fail
 with_reducible refine Calls.mono (HK.out _) ?_
 rintro e y1 ⟨rfl, hb⟩
 replace hs1 := Lib.hid (hs1.out.below hb)
 replace hL0 := hL0.call hb
 clear hb hA hweq HK
 have hA := hL0.fc
 simp only [fcG, cellsF, neK, and_true, ne_eq, Nat.zero_add, Nat.reduceAdd] at hA
 go_wp2_with fail
 with_reducible refine Calls.mono (HS.out _) ?_
 rintro e y2 ⟨rfl, hb⟩
 replace hs1 := Lib.hid (hs1.out.below hb)
 replace hL0 := hL0.call hb
 clear hb hA HS
 have hA := hL0.fc
 simp only [fcG, cellsF, neK, and_true, ne_eq, Nat.zero_add, Nat.reduceAdd] at hA
 go_wp2_with fail
 with_reducible refine Calls.mono (HI.out _ hs1.out) ?_
 rintro e y3 ⟨rfl, hb⟩
 replace hL0 := hL0.call hb
 clear hb hA HI hs1
 have hA := cells_of _ 0 [] rfl (hL0.get _ _ List.mem_cons_self)
 simp only [cellsF, and_true, Nat.zero_add, Nat.reduceAdd] at hA
 have zf := (hL0.get _ _ List.mem_cons_self).frz
 have hPt := hL0.put 0 (w.heap.size + 1 + 1 + 1) _ rfl [.int .i64 0, .int .i64 0, .slice none 0 0] rfl
 simp only [setAll, List.set_cons_zero, List.set_cons_succ] at hPt
 generalize hput1 : (((y3.setCell ⟨w.heap.size + 1 + 1 + 1, 0, none⟩ (.int .i64 0)).setCell ⟨w.heap.size + 1 + 1 + 1, 1, none⟩ (.int .i64 0)).setCell ⟨w.heap.size + 1 + 1 + 1, 2, none⟩ (.slice none 0 0)) = y9 at hPt
 have hB1 := cells_of _ 0 [] rfl (hPt.get _ _ List.mem_cons_self)
 simp only [cellsF, and_true, Nat.zero_add, Nat.reduceAdd] at hB1
 clear hL0
 go_wp2_with fail
 exact bodyPost_ret (v := .tuple #[.agg #[.int .i64 0, .int .i64 0, .slice none 0 0], .int .i64 1]) (by simp [results, Tryz.results77, go_sem, hB1]) rfl ⟨rfl, hPt.bl⟩
set_option maxHeartbeats 4000000 in
set_option maxRecDepth 100000 in
theorem mpart_out2 (r c i : Int) (n d ci : Nat) (ao ai : Option Addr) (HK : ∀ w, Calls Tryz.prog 51 #[.agg #[.int .i64 r, .int .i64 c, .slice ao n d]] w fun xe w' => xe = .returned (.int .i64 0) ∧ Below w.heap.size w w') (HN : ∀ w, Calls Tryz.prog 152 #[.slice none 0 0, .int .i64 r] w fun xe w' => xe = .returned (.bool true) ∧ Below w.heap.size w w') (w : World) (hs : ILs w (.slice ai 1 ci) [i]) (hi : ¬ (0 ≤ i ∧ i < c)) : Calls Tryz.prog 77 #[.agg #[.int .i64 r, .int .i64 c, .slice ao n d], .slice none 0 0, .slice ai 1 ci] w fun xe w' => xe = .returned (.tuple #[.agg #[.int .i64 0, .int .i64 0, .slice none 0 0], .int .i64 1]) ∧ Below w.heap.size w w' := by
 have HS := Lib.hid (msize_ok 0 1 (by omega) (by omega))
 have HI := Lib.hid fun w h => mindices_bad i c hi (.slice ai 1 ci) w h
 clear hi
 replace HK := Lib.hid HK
 replace HN := Lib.hid HN
 have hL0 : GL w w [] := GL.start w
 replace hL0 := ((((hL0.new rfl [.int .i64 r, .int .i64 c, .slice ao n d] 81).new (K := w.heap.size + 1) (szA _ _) [.slice none 0 0] 42).new (K := w.heap.size + 1 + 1) (by simp only [World.size_alloc]) [.slice ai 1 ci] 42).new (K := w.heap.size + 1 + 1 + 1) (by simp only [World.size_alloc]) [.int .i64 0, .int .i64 0, .slice none 0 0] 81)
 generalize hweq : ((((w.alloc (.cells #[.int .i64 r, .int .i64 c, .slice ao n d] 81)).alloc (.cells #[.slice none 0 0] 42)).alloc (.cells #[.slice ai 1 ci] 42)).alloc (.cells #[.int .i64 0, .int .i64 0, .slice none 0 0] 81)) = x1 at hL0
 have hs1 := Lib.hid (hs.below hL0.bl)
 clear hs
 have hA := hL0.fc
 simp only [fcG, cellsF, neK, and_true, ne_eq, Nat.zero_add, Nat.reduceAdd] at hA
 go_enter Tryz.func77, Tryz.ntmps77
 go_wp2_with fail
 with_reducible refine Calls.mono (HK.out _) ?_
 rintro e y1 ⟨rfl, hb⟩
 replace hs1 := Lib.hid (hs1.out.below hb)
 replace hL0 := hL0.call hb
 clear hb hA hweq HK
 have hA := hL0.fc
 simp only [fcG, cellsF, neK, and_true, ne_eq, Nat.zero_add, Nat.reduceAdd] at hA
 go_wp2_with fail
 with_reducible refine Calls.mono (HS.out _) ?_
 rintro e y2 ⟨rfl, hb⟩
 replace hs1 := Lib.hid (hs1.out.below hb)
 replace hL0 := hL0.call hb
 clear hb hA HS
 have hA := hL0.fc
 simp only [fcG, cellsF, neK, and_true, ne_eq, Nat.zero_add, Nat.reduceAdd] at hA
 go_wp2_with fail
 with_reducible refine Calls.mono (HN.out _) ?_
 rintro e y3 ⟨rfl, hb⟩
 replace hs1 := Lib.hid (hs1.out.below hb)
 replace hL0 := hL0.call hb
 clear hb hA HN
 have hA := hL0.fc
 simp only [fcG, cellsF, neK, and_true, ne_eq, Nat.zero_add, Nat.reduceAdd] at hA
 go_wp2_with fail
 with_reducible refine Calls.mono (HI.out _ hs1.out) ?_
 rintro e y4 ⟨rfl, hb⟩
 replace hL0 := hL0.call hb
 clear hb hA HI hs1
 have hA := cells_of _ 0 [] rfl (hL0.get _ _ List.mem_cons_self)
 simp only [cellsF, and_true, Nat.zero_add, Nat.reduceAdd] at hA
 have zf := (hL0.get _ _ List.mem_cons_self).frz
 have hPt := hL0.put 0 (w.heap.size + 1 + 1 + 1) _ rfl [.int .i64 0, .int .i64 0, .slice none 0 0] rfl
 simp only [setAll, List.set_cons_zero, List.set_cons_succ] at hPt
 generalize hput1 : (((y4.setCell ⟨w.heap.size + 1 + 1 + 1, 0, none⟩ (.int .i64 0)).setCell ⟨w.heap.size + 1 + 1 + 1, 1, none⟩ (.int .i64 0)).setCell ⟨w.heap.size + 1 + 1 + 1, 2, none⟩ (.slice none 0 0)) = y9 at hPt
 have hB1 := cells_of _ 0 [] rfl (hPt.get _ _ List.mem_cons_self)
 simp only [cellsF, and_true, Nat.zero_add, Nat.reduceAdd] at hB1
 clear hL0
 go_wp2_with fail
 exact bodyPost_ret (v := .tuple #[.agg #[.int .i64 0, .int .i64 0, .slice none 0 0], .int .i64 1]) (by simp [results, Tryz.results77, go_sem, hB1]) rfl ⟨rfl, hPt.bl⟩
/-- A matrix of zeros of any sizes, valid or not. -/
def XM (w : World) (v : Value) (r c : Int) (m : Nat) : Prop := ∃ ao d, v = .agg #[.int .i64 r, .int .i64 c, .slice ao m d] ∧ m ≤ d ∧ SlQ w (.slice ao m d) (List.replicate m 0)
theorem xm_of {w : World} {r c : Int} {m d : Nat} {ao : Option Addr} (h : SlQ w (.slice ao m d) (List.replicate m 0)) (hd : m ≤ d) : XM w (.agg #[.int .i64 r, .int .i64 c, .slice ao m d]) r c m := ⟨_, _, rfl, hd, h⟩
/-- A slice; a matrix: whatever they hold. -/
def YS (v : Value) : Prop := ∃ o n d, v = .slice o n d
def WS (v : Value) : Prop := ∃ a b o n d, v = .agg #[.int .i64 a, .int .i64 b, .slice o n d]
theorem slq_new0 {w : World} {g n : Nat} (h : Hd w g (frCs (List.replicate n 0))) : SlQ w (.slice (some ⟨g, 0, none⟩) n n) (List.replicate n 0) := .inr ⟨g, n, by rw [List.length_replicate], hd_fs h⟩
theorem i64w9 (x : Int) (h1 : -9223372036854775808 ≤ x) (h2 : x < 9223372036854775808) : IntKind.i64.wrap x = x := by
 simp only [IntKind.wrap, IntKind.signed, IntKind.bits]
 simp
 omega
/-- An operation that only makes a value. -/
theorem wpl_pure {P : Program} {ops : Array Oper} {Q : Exit → Act → World → Prop} {a : Act} {w : World} {rest : List Oper} {o : Oper} (T : Value → Prop) (h : if Region.wanted o (yielded ops a.tmps) then ∃ u, (execOp a.eval o).run P w = .ok (.value u) w ∧ T u else T undef) (hk : ∀ u, T u → wpList P ops Q rest (a.put o.dst u) w) : wpList P ops Q (o :: rest) a w := by
 refine wpList_step fun K hK => ?_
 by_cases hg : Region.wanted o (yielded ops a.tmps) = true
 ·rw [if_pos hg] at h ⊢
  obtain ⟨u, h1, h2⟩ := h
  unfold Oper.wp
  rw [h1, Oper.upon_value]
  exact hK _ _ (hk u h2)
 ·rw [if_neg hg] at h ⊢
  exact hK _ _ (hk _ h)
set_option maxHeartbeats 4000000 in
set_option maxRecDepth 100000 in
theorem mSameX (r c : Int) (m d : Nat) (ao : Option Addr) (b : Bool) (hb : b = decide (m = 0)) (hm : m ≤ 1000) (w : World) (hs : SlQ w (.slice ao m d) (List.replicate m 0)) :
  Calls Tryz.prog 67 #[.agg #[.int .i64 r, .int .i64 c, .slice ao m d], .agg #[.int .i64 r, .int .i64 c, .slice none 0 0]] w fun xe w' => xe = .returned (.bool b) ∧ Below w.heap.size w w' := by
 have hb2 : b = decide (List.replicate m (0 : Rat) = []) := by rw [hb]; apply decide_eq_decide.2; cases m <;> simp [List.replicate]
 have HE := fun (w : World) (h1 : SlQ w (.slice ao m d) (List.replicate m 0)) => mequal_w (List.replicate m 0) [] m 0 d 0 ao none (List.length_replicate) rfl (by omega) w (by obtain ⟨a, c, e, h⟩ := slq_len h1; injection e with e1 e2; rw [e1]; intro h0; exact h (by rw [List.length_replicate]; exact h0)) (fun h => absurd h (Nat.lt_irrefl _)) b hb2
 clear hb hb2 hm
 have hL0 : GL w w [] := GL.start w
 replace hL0 := ((hL0.new rfl [.int .i64 r, .int .i64 c, .slice ao m d] 81).new (K := w.heap.size + 1) (szA _ _) [.int .i64 r, .int .i64 c, .slice none 0 0] 81)
 generalize hweq : ((w.alloc (.cells #[.int .i64 r, .int .i64 c, .slice ao m d] 81)).alloc (.cells #[.int .i64 r, .int .i64 c, .slice none 0 0] 81)) = x1 at hL0
 replace HE := Lib.hid (HE x1 (hs.below hL0.bl))
 clear hs
 have hA := hL0.fc
 simp only [fcG, cellsF, neK, and_true, ne_eq, Nat.zero_add, Nat.reduceAdd] at hA
 go_enter Tryz.func67, Tryz.ntmps67
 go_wp2_with fail
 with_reducible refine Calls.mono (HE.out) ?_
 rintro e y1 ⟨rfl, hb⟩
 replace hL0 := hL0.call hb
 clear hb hA hweq HE
 replace hL0 := Lib.hid hL0
 go_wp2_with fail
 exact bodyPost_ret (v := .bool b) (by simp [results, Tryz.results67, go_sem]) rfl ⟨rfl, hL0.out.bl⟩
end Go.Proofs.YthkodldppaccmaaGreatDoor
namespace Go.Proofs.YthkodldppaccmaaGreatDoor
open Go.RowKit
attribute [local irreducible] lo hs sm s64 c64 d64 b64 mh ml pd pc qd qc val hiB str cmpI srD lz nb zl zh zs fe rowV tabV gv bsV turM mulM sumM oneM appV formM tabM dotL sumL mulL
set_option maxHeartbeats 16000000 in
set_option maxRecDepth 100000 in
theorem mrefused_w (r c ec : Int) (n d : Nat) (ao : Option Addr) (on : Mx) (qi : Rat) (HOf : ∀ (p2 : Value) (w : World), ILs w p2 ([1]) → Calls Tryz.prog 127 #[.int .i64 1, .int .i64 1, p2] w fun e w' => ∃ pv, e = .returned (.tuple #[pv, .int .i64 0]) ∧ MT w' pv on ∧ Below w.heap.size w w') (HA1 : ∀ (p1 : Value) (w : World), MT w p1 on → Calls Tryz.prog 45 #[.agg #[.int .i64 r, .int .i64 c, .slice ao n d], p1] w fun e w' => e = .returned (.tuple #[.agg #[.int .i64 0, .int .i64 0, .slice none 0 0], .int .i64 ec]) ∧ Below w.heap.size w w') (HA2 : ∀ (p0 : Value) (w : World), MT w p0 on → Calls Tryz.prog 45 #[p0, .agg #[.int .i64 r, .int .i64 c, .slice ao n d]] w fun e w' => e = .returned (.tuple #[.agg #[.int .i64 0, .int .i64 0, .slice none 0 0], .int .i64 ec]) ∧ Below w.heap.size w w') (HMu : ∀ w, Calls Tryz.prog 48 #[.agg #[.int .i64 r, .int .i64 c, .slice ao n d], .agg #[.int .i64 r, .int .i64 c, .slice ao n d]] w fun xe w' => xe = .returned (.tuple #[.agg #[.int .i64 0, .int .i64 0, .slice none 0 0], .int .i64 ec]) ∧ Below w.heap.size w w') (HIn : ∀ w, Calls Tryz.prog 34 #[.int .i64 1] w fun xe w' => xe = .returned (fracV qi) ∧ Below w.heap.size w w') (HSc : ∀ w, Calls Tryz.prog 47 #[fracV qi, .agg #[.int .i64 r, .int .i64 c, .slice ao n d]] w fun xe w' => xe = .returned (.tuple #[.agg #[.int .i64 0, .int .i64 0, .slice none 0 0], .int .i64 ec]) ∧ Below w.heap.size w w') (HTu : ∀ w, Calls Tryz.prog 49 #[.agg #[.int .i64 r, .int .i64 c, .slice ao n d]] w fun xe w' => xe = .returned (.tuple #[.agg #[.int .i64 0, .int .i64 0, .slice none 0 0], .int .i64 ec]) ∧ Below w.heap.size w w') (HPa : ∀ w, Calls Tryz.prog 77 #[.agg #[.int .i64 r, .int .i64 c, .slice ao n d], .slice none 0 0, .slice none 0 0] w fun xe w' => xe = .returned (.tuple #[.agg #[.int .i64 0, .int .i64 0, .slice none 0 0], .int .i64 ec]) ∧ Below w.heap.size w w') (HAp : ∀ w, Calls Tryz.prog 59 #[.agg #[.int .i64 r, .int .i64 c, .slice ao n d], .slice none 0 0] w fun xe w' => xe = .returned (.tuple #[.slice none 0 0, .int .i64 ec]) ∧ Below w.heap.size w w') (HRo : ∀ w, Calls Tryz.prog 61 #[.agg #[.int .i64 r, .int .i64 c, .slice ao n d], .int .i64 0] w fun xe w' => xe = .returned (.tuple #[.slice none 0 0, .int .i64 ec]) ∧ Below w.heap.size w w') (HCo : ∀ w, Calls Tryz.prog 63 #[.agg #[.int .i64 r, .int .i64 c, .slice ao n d], .int .i64 0] w fun xe w' => xe = .returned (.tuple #[.slice none 0 0, .int .i64 ec]) ∧ Below w.heap.size w w') (HFo : ∀ w, Calls Tryz.prog 60 #[.agg #[.int .i64 r, .int .i64 c, .slice ao n d], .slice none 0 0, .slice none 0 0] w fun xe w' => xe = .returned (.tuple #[.agg #[.int .u64 0, .string ⟨#[]⟩, .bool false, .int .u64 0, .string ⟨#[]⟩], .int .i64 ec]) ∧ Below w.heap.size w w') (HTe : ∀ w, Calls Tryz.prog 128 #[.agg #[.int .i64 r, .int .i64 c, .slice ao n d]] w fun xe w' => xe = .returned (.string ⟨#[]⟩) ∧ Below w.heap.size w w') (HSy : ∀ w, Calls Tryz.prog 71 #[.agg #[.int .i64 r, .int .i64 c, .slice ao n d]] w fun xe w' => xe = .returned (.bool false) ∧ Below w.heap.size w w') (HSu : ∀ w, Calls Tryz.prog 65 #[.agg #[.int .i64 r, .int .i64 c, .slice ao n d]] w fun xe w' => xe = .returned (.agg #[.int .u64 0, .string ⟨#[]⟩, .bool false, .int .u64 0, .string ⟨#[]⟩]) ∧ Below w.heap.size w w') (hon1 : (on.r : Int) = 1) (hon2 : (on.c : Int) = 1) (w : World) :
  Calls Tryz.prog 79 #[.agg #[.int .i64 r, .int .i64 c, .slice ao n d], .int .i64 ec] w fun e w' => e = .returned (.bool true) ∧ Below w.heap.size w w' := by
 replace HOf := Lib.hid HOf
 replace HA1 := Lib.hid HA1
 replace HA2 := Lib.hid HA2
 replace HMu := Lib.hid HMu
 replace HIn := Lib.hid HIn
 replace HSc := Lib.hid HSc
 replace HTu := Lib.hid HTu
 replace HPa := Lib.hid HPa
 replace HAp := Lib.hid HAp
 replace HRo := Lib.hid HRo
 replace HCo := Lib.hid HCo
 replace HFo := Lib.hid HFo
 replace HTe := Lib.hid HTe
 replace HSy := Lib.hid HSy
 replace HSu := Lib.hid HSu
 have hL0 : GL w w [] := GL.start w
 have hT : PTs w [] := PTs.nil w
 replace hon1 := Lib.hid hon1
 replace hon2 := Lib.hid hon2
 have heq0 : ∀ W, (binOp .eql 38 (.agg #[.int .u64 0, .string ⟨#[]⟩, .bool false, .int .u64 0, .string ⟨#[]⟩]) (.agg #[.int .u64 0, .string ⟨#[]⟩, .bool false, .int .u64 0, .string ⟨#[]⟩])).run Tryz.prog W = .ok (.bool true) W := fun W => by have := run_eqlF 0 0 true (by simp) W; rwa [frV_q0] at this
 replace hT := ((hT.new (.cells #[.int .i64 r, .int .i64 c, .slice ao n d] 81)).new (.cells #[.int .i64 1] 2))
 replace hL0 := ((hL0.new rfl [.int .i64 r, .int .i64 c, .slice ao n d] 81).new (K := w.heap.size + 1) (szA _ _) [.int .i64 1] 2)
 generalize hweq : ((w.alloc (.cells #[.int .i64 r, .int .i64 c, .slice ao n d] 81)).alloc (.cells #[.int .i64 1] 2)) = x1 at hL0 hT
 go_enter Tryz.func79, Tryz.ntmps79
 have hbv1 : ILs x1 (.slice (some ⟨w.heap.size + 1, 0, none⟩) 1 1) [1] := ils_at (hL0.get _ _ List.mem_cons_self) rfl rfl
 replace hbv1 := Lib.hid hbv1
 go_wp2_with fail
 with_reducible refine Calls.mono (HOf.out (.slice (some ⟨w.heap.size + 1, 0, none⟩) 1 1) _ hbv1.out) ?_
 rintro e x2 ⟨v0, rfl, q0, hb⟩
 replace hL0 := hL0.call hb
 replace hT := hT.call hb
 clear hb hweq
 obtain ⟨g1, d1, g1c, rfl, hm1, hcp1⟩ := mt_form q0 hon1.out hon2.out
 replace hcp1 := Lib.hid hcp1
 replace hT := hT.cons hm1
 clear hm1
 clear q0
 replace hT := (hT.new (.cells #[.int .i64 1, .int .i64 1, .slice g1 d1 g1c] 81))
 replace hL0 := (hL0.new rfl [.int .i64 1, .int .i64 1, .slice g1 d1 g1c] 81)
 generalize hweq : (x2.alloc (.cells #[.int .i64 1, .int .i64 1, .slice g1 d1 g1c] 81)) = x3 at hL0 hT
 go_upto_region 2 with fail
 have hN0 := cells_of _ 0 [] rfl (hL0.get _ _ List.mem_cons_self)
 simp only [cellsF, and_true, Nat.zero_add, Nat.reduceAdd] at hN0
 have hN1 := cells_of _ 0 [] rfl (hL0.get _ _ (List.mem_cons_of_mem _ (List.mem_cons_of_mem _ List.mem_cons_self)))
 simp only [cellsF, and_true, Nat.zero_add, Nat.reduceAdd] at hN1
 go_wp2_with fail
 clear hN0 hN1
 with_reducible refine Calls.mono (HA1.out (.agg #[.int .i64 1, .int .i64 1, .slice g1 d1 g1c]) _ (mt_of (hT.get List.mem_cons_self) hcp1.out hon1.out hon2.out)) ?_
 rintro e x4 ⟨rfl, hb⟩
 replace hL0 := hL0.call hb
 replace hT := hT.call hb
 clear hb hweq
 replace hT := (hT.new (.cells #[.int .i64 0, .int .i64 0, .slice none 0 0] 81))
 replace hL0 := (hL0.new rfl [.int .i64 0, .int .i64 0, .slice none 0 0] 81)
 generalize hweq : (x4.alloc (.cells #[.int .i64 0, .int .i64 0, .slice none 0 0] 81)) = x5 at hL0 hT
 have hT1 := hT.putM ((((Upd.refl x4.heap.size x5).setCell 0 (.int .i64 0)).setCell 1 (.int .i64 0)).setCell 2 (.slice none 0 0)) (hL0.get _ _ List.mem_cons_self) (by intro n; simp)
 have hA := hL0.fc
 simp only [fcG, cellsF, neK, and_true, ne_eq, Nat.zero_add, Nat.reduceAdd] at hA
 have hP := hL0.put 0 (x4.heap.size) _ rfl [.int .i64 0, .int .i64 0, .slice none 0 0] rfl
 simp only [setAll, List.set_cons_zero, List.set_cons_succ] at hP
 generalize hput1 : (((x5.setCell ⟨x4.heap.size, 0, none⟩ (.int .i64 0)).setCell ⟨x4.heap.size, 1, none⟩ (.int .i64 0)).setCell ⟨x4.heap.size, 2, none⟩ (.slice none 0 0)) = x6 at hP hT1
 have hB1 := hP.fc
 simp only [fcG, cellsF, neK, and_true, ne_eq, Nat.zero_add, Nat.reduceAdd] at hB1
 replace hL0 := hP
 replace hT := hT1
 clear hT1
 go_wp2_with fail
 clear hA
 with_reducible refine Calls.mono (HA2.out (.agg #[.int .i64 1, .int .i64 1, .slice g1 d1 g1c]) _ (mt_of (hT.get List.mem_cons_self) hcp1.out hon1.out hon2.out)) ?_
 rintro e x7 ⟨rfl, hb⟩
 replace hL0 := hL0.call hb
 replace hT := hT.call hb
 clear hb hweq hput1 hB1
 replace hT := (hT.new (.cells #[.int .i64 0, .int .i64 0, .slice none 0 0] 81))
 replace hL0 := (hL0.new rfl [.int .i64 0, .int .i64 0, .slice none 0 0] 81)
 generalize hweq : (x7.alloc (.cells #[.int .i64 0, .int .i64 0, .slice none 0 0] 81)) = x8 at hL0 hT
 have hT1 := hT.putM ((((Upd.refl x7.heap.size x8).setCell 0 (.int .i64 0)).setCell 1 (.int .i64 0)).setCell 2 (.slice none 0 0)) (hL0.get _ _ List.mem_cons_self) (by intro n; simp)
 have hA := hL0.fc
 simp only [fcG, cellsF, neK, and_true, ne_eq, Nat.zero_add, Nat.reduceAdd] at hA
 have hP := hL0.put 0 (x7.heap.size) _ rfl [.int .i64 0, .int .i64 0, .slice none 0 0] rfl
 simp only [setAll, List.set_cons_zero, List.set_cons_succ] at hP
 generalize hput2 : (((x8.setCell ⟨x7.heap.size, 0, none⟩ (.int .i64 0)).setCell ⟨x7.heap.size, 1, none⟩ (.int .i64 0)).setCell ⟨x7.heap.size, 2, none⟩ (.slice none 0 0)) = x9 at hP hT1
 have hB2 := hP.fc
 simp only [fcG, cellsF, neK, and_true, ne_eq, Nat.zero_add, Nat.reduceAdd] at hB2
 replace hL0 := hP
 replace hT := hT1
 clear hT1
 go_wp2_with fail
 clear hA
 with_reducible refine Calls.mono (HMu.out _) ?_
 rintro e x10 ⟨rfl, hb⟩
 replace hL0 := hL0.call hb
 replace hT := hT.call hb
 clear hb hweq hput2 hB2
 replace hT := (hT.new (.cells #[.int .i64 0, .int .i64 0, .slice none 0 0] 81))
 replace hL0 := (hL0.new rfl [.int .i64 0, .int .i64 0, .slice none 0 0] 81)
 generalize hweq : (x10.alloc (.cells #[.int .i64 0, .int .i64 0, .slice none 0 0] 81)) = x11 at hL0 hT
 have hT1 := hT.putM ((((Upd.refl x10.heap.size x11).setCell 0 (.int .i64 0)).setCell 1 (.int .i64 0)).setCell 2 (.slice none 0 0)) (hL0.get _ _ List.mem_cons_self) (by intro n; simp)
 have hA := hL0.fc
 simp only [fcG, cellsF, neK, and_true, ne_eq, Nat.zero_add, Nat.reduceAdd] at hA
 have hP := hL0.put 0 (x10.heap.size) _ rfl [.int .i64 0, .int .i64 0, .slice none 0 0] rfl
 simp only [setAll, List.set_cons_zero, List.set_cons_succ] at hP
 generalize hput3 : (((x11.setCell ⟨x10.heap.size, 0, none⟩ (.int .i64 0)).setCell ⟨x10.heap.size, 1, none⟩ (.int .i64 0)).setCell ⟨x10.heap.size, 2, none⟩ (.slice none 0 0)) = x12 at hP hT1
 have hB3 := hP.fc
 simp only [fcG, cellsF, neK, and_true, ne_eq, Nat.zero_add, Nat.reduceAdd] at hB3
 replace hL0 := hP
 replace hT := hT1
 clear hT1
 go_upto_region 5 with fail
 clear hweq
 clear hput3 hB3
 clear hA
 refine region_tbl 7 5 [EV (.agg #[.int .u64 ((zl qi.num : Nat) : Int), .string (zh qi.num), .bool (zs qi.num), .int .u64 ((lo (fe qi) : Nat) : Int), .string (hs (fe qi))]), EV (.agg #[.int .i64 r, .int .i64 c, .slice ao n d]), EV (.tuple #[.agg #[.int .i64 0, .int .i64 0, .slice none 0 0], .int .i64 ec]), EV (.tuple #[.agg #[.int .i64 0, .int .i64 0, .slice none 0 0], .int .i64 ec]), EV (.agg #[.int .i64 0, .int .i64 0, .slice none 0 0]), EV (.int .i64 ec), NewB x12.heap.size [.int .i64 0, .int .i64 0, .slice none 0 0]] [6] (by kernel_rfl) (by kernel_rfl) ?_ ?_ ?_ ?_ ?_ (by rfl) ?_
 ·exact stays_cons (stays_eq _) (stays_cons (stays_eq _) (stays_cons (stays_eq _) (stays_cons (stays_eq _) (stays_cons (stays_eq _) (stays_cons (stays_eq _) (stays_cons (stays_new _ _) (stays_nil)))))))
 ·simp only [List.take_succ_cons, List.take_zero, hopsR, and_true]
  refine ⟨?_, ?_, ?_, ?_, ?_, ?_, ?_⟩ <;> intro fv w1 hb1 hp
  all_goals (simp only [putsV, Act.put, List.setIfInBounds_toArray, List.set_cons_succ, List.set_cons_zero, Nat.zero_add, Nat.reduceAdd])
  ·refine tyAt_none rfl ?_
   refine ty_call (f := 34) (args := #[.int .i64 1]) (by simp [execOp, go_sem, Act.eval]) ?_
   exact (HIn.out w1).mono fun e w2 ⟨h1, h2⟩ => ⟨_, h1, rfl, h2⟩
  ·refine tyAt_none rfl ?_
   have hc := (hL0.call (below_drew hb1)).fc
   simp only [fcG, cellsF, neK, and_true, ne_eq, Nat.zero_add, Nat.reduceAdd] at hc
   simp [tyUpon, execOp, go_sem, Act.eval, hc, Below.refl]
  ·have h0 : EV _ (fv 0) w1 := hp 0 (LC (by kernel_rfl))
   have h1 : EV _ (fv 1) w1 := hp 1 (LC (by kernel_rfl))
   refine tyAt_none rfl ?_
   refine ty_call (f := 47) (args := #[.agg #[.int .u64 ((zl qi.num : Nat) : Int), .string (zh qi.num), .bool (zs qi.num), .int .u64 ((lo (fe qi) : Nat) : Int), .string (hs (fe qi))], .agg #[.int .i64 r, .int .i64 c, .slice ao n d]]) (by simp [execOp, go_sem, Act.eval, h0, h1]) ?_
   exact (HSc.out w1).mono fun e w2 ⟨h1, h2⟩ => ⟨_, h1, rfl, h2⟩
  ·have h2 : EV _ (fv 2) w1 := hp 2 (LC (by kernel_rfl))
   refine tyAt_none rfl ?_
   simp [tyUpon, execOp, go_sem, Act.eval, h2, Below.refl]
  ·have h3 : EV _ (fv 3) w1 := hp 3 (LC (by kernel_rfl))
   refine tyAt_none rfl ?_
   simp [tyUpon, execOp, go_sem, Act.eval, h3, Below.refl]
  ·have h3 : EV _ (fv 3) w1 := hp 3 (LC (by kernel_rfl))
   refine tyAt_none rfl ?_
   simp [tyUpon, execOp, go_sem, Act.eval, h3, Below.refl]
  ·exact tyAt_new rfl rfl new_mat (below_drew hb1).size
 ·intro j hj u w2 hT
  simp only [List.contains_iff_mem, List.mem_cons, List.not_mem_nil, or_false] at hj
  rcases hj with rfl <;> exact NewB.ptr hT
 ·exact ⟨⟨_, _, _, _, rfl, rfl, rfl, new_mat⟩, trivial⟩
 ·intro fv wl hb1 hv
  have e0 : fv 0 = .agg #[.int .u64 ((zl qi.num : Nat) : Int), .string (zh qi.num), .bool (zs qi.num), .int .u64 ((lo (fe qi) : Nat) : Int), .string (hs (fe qi))] := hv 0 (by omega) (by omega)
  have e1 : fv 1 = .agg #[.int .i64 r, .int .i64 c, .slice ao n d] := hv 1 (by omega) (by omega)
  have e2 : fv 2 = .tuple #[.agg #[.int .i64 0, .int .i64 0, .slice none 0 0], .int .i64 ec] := hv 2 (by omega) (by omega)
  have e3 : fv 3 = .tuple #[.agg #[.int .i64 0, .int .i64 0, .slice none 0 0], .int .i64 ec] := hv 3 (by omega) (by omega)
  have e4 : fv 4 = .agg #[.int .i64 0, .int .i64 0, .slice none 0 0] := hv 4 (by omega) (by omega)
  obtain ⟨kb6, e6, n6, m6⟩ : NewB x12.heap.size [.int .i64 0, .int .i64 0, .slice none 0 0] (fv 6) wl := hv 6 (by omega) (by omega)
  have hx0 := hL0
  replace hL0 := hL0.call (below_drew hb1)
  replace hL0 := GL.tnew (M := []) hL0 hx0 n6 m6 (fun p hp => by cases hp)
  simp only [List.cons_append, List.nil_append] at hL0
  have hA := hL0.fc
  simp only [fcG, cellsF, neK, and_true, ne_eq, Nat.zero_add, Nat.reduceAdd] at hA
  have hP := hL0.put 0 (kb6) _ rfl [.int .i64 0, .int .i64 0, .slice none 0 0] rfl
  simp only [setAll, List.set_cons_zero, List.set_cons_succ] at hP
  have hB1 := hP.fc
  simp only [fcG, cellsF, neK, and_true, ne_eq, Nat.zero_add, Nat.reduceAdd] at hB1
  refine ⟨(((wl.setCell ⟨kb6, 0, none⟩ (.int .i64 0)).setCell ⟨kb6, 1, none⟩ (.int .i64 0)).setCell ⟨kb6, 2, none⟩ (.slice none 0 0)), .int .i64 ec, fun o ho => ?_, fun o ho => ?_, ?_⟩
  ·obtain rfl := Option.some.inj ho
   simp [execOp, go_sem, Act.eval, putsV, Act.put, List.take_succ_cons, List.take_zero, List.setIfInBounds_toArray, List.set_cons_succ, List.set_cons_zero, Nat.zero_add, Nat.reduceAdd, hA, e0, e1, e2, e3, e4, e6]
  ·obtain rfl := Option.some.inj ho
   simp [execOp, go_sem, Act.eval, putsV, Act.put, List.take_succ_cons, List.take_zero, List.setIfInBounds_toArray, List.set_cons_succ, List.set_cons_zero, Nat.zero_add, Nat.reduceAdd, hB1, e0, e1, e2, e3, e4, e6]
  ·rfl
 ·intro fv x13 hb1 hv hne
  have e0 : fv 0 = _ := hv 0 (by omega)
  have e1 : fv 1 = _ := hv 1 (by omega)
  have e2 : fv 2 = _ := hv 2 (by omega)
  have e3 : fv 3 = _ := hv 3 (by omega)
  have e4 : fv 4 = _ := hv 4 (by omega)
  have e5 : fv 5 = _ := hv 5 (by omega)
  obtain ⟨kb6, e6, n6, m6⟩ : NewB x12.heap.size [.int .i64 0, .int .i64 0, .slice none 0 0] (fv 6) x13 := hv 6 (by omega)
  simp only [List.take_succ_cons, List.take_zero, putsV, Act.put, List.setIfInBounds_toArray, List.set_cons_succ, List.set_cons_zero, List.drop_succ_cons, List.drop_zero, Nat.zero_add, Nat.reduceAdd, e0, e1, e2, e3, e4, e5, e6]
  have hx0 := hL0
  replace hL0 := hL0.call (below_drew hb1)
  replace hT := hT.call (below_drew hb1)
  replace hL0 := GL.tnew (M := []) hL0 hx0 n6 m6 (fun p hp => by cases hp)
  simp only [List.cons_append, List.nil_append] at hL0
  clear e0 e1 e2 e3 e4 e5 e6 hb1 hv hne hx0 n6 m6 fv
  have hT1 := hT.putM ((((Upd.refl kb6 x13).setCell 0 (.int .i64 0)).setCell 1 (.int .i64 0)).setCell 2 (.slice none 0 0)) (hL0.get _ _ List.mem_cons_self) (by intro n; simp)
  have hA := hL0.fc
  simp only [fcG, cellsF, neK, and_true, ne_eq, Nat.zero_add, Nat.reduceAdd] at hA
  have hP := hL0.put 0 (kb6) _ rfl [.int .i64 0, .int .i64 0, .slice none 0 0] rfl
  simp only [setAll, List.set_cons_zero, List.set_cons_succ] at hP
  generalize hput4 : (((x13.setCell ⟨kb6, 0, none⟩ (.int .i64 0)).setCell ⟨kb6, 1, none⟩ (.int .i64 0)).setCell ⟨kb6, 2, none⟩ (.slice none 0 0)) = x14 at hP hT1
  have hB4 := hP.fc
  simp only [fcG, cellsF, neK, and_true, ne_eq, Nat.zero_add, Nat.reduceAdd] at hB4
  replace hL0 := hP
  replace hT := hT1
  clear hT1
  go_wp2_with fail
  clear hA
  with_reducible refine Calls.mono (HTu.out _) ?_
  rintro e x15 ⟨rfl, hb⟩
  replace hL0 := hL0.call hb
  replace hT := hT.call hb
  clear hb hput4 hB4
  replace hT := (hT.new (.cells #[.int .i64 0, .int .i64 0, .slice none 0 0] 81))
  replace hL0 := (hL0.new rfl [.int .i64 0, .int .i64 0, .slice none 0 0] 81)
  generalize hweq : (x15.alloc (.cells #[.int .i64 0, .int .i64 0, .slice none 0 0] 81)) = x16 at hL0 hT
  have hT1 := hT.putM ((((Upd.refl x15.heap.size x16).setCell 0 (.int .i64 0)).setCell 1 (.int .i64 0)).setCell 2 (.slice none 0 0)) (hL0.get _ _ List.mem_cons_self) (by intro n; simp)
  have hA := hL0.fc
  simp only [fcG, cellsF, neK, and_true, ne_eq, Nat.zero_add, Nat.reduceAdd] at hA
  have hP := hL0.put 0 (x15.heap.size) _ rfl [.int .i64 0, .int .i64 0, .slice none 0 0] rfl
  simp only [setAll, List.set_cons_zero, List.set_cons_succ] at hP
  generalize hput5 : (((x16.setCell ⟨x15.heap.size, 0, none⟩ (.int .i64 0)).setCell ⟨x15.heap.size, 1, none⟩ (.int .i64 0)).setCell ⟨x15.heap.size, 2, none⟩ (.slice none 0 0)) = x17 at hP hT1
  have hB5 := hP.fc
  simp only [fcG, cellsF, neK, and_true, ne_eq, Nat.zero_add, Nat.reduceAdd] at hB5
  replace hL0 := hP
  replace hT := hT1
  clear hT1
  go_wp2_with fail
  clear hA
  with_reducible refine Calls.mono (HPa.out _) ?_
  rintro e x18 ⟨rfl, hb⟩
  replace hL0 := hL0.call hb
  replace hT := hT.call hb
  clear hb hweq hput5 hB5
  replace hT := (hT.new (.cells #[.int .i64 0, .int .i64 0, .slice none 0 0] 81))
  replace hL0 := (hL0.new rfl [.int .i64 0, .int .i64 0, .slice none 0 0] 81)
  generalize hweq : (x18.alloc (.cells #[.int .i64 0, .int .i64 0, .slice none 0 0] 81)) = x19 at hL0 hT
  have hT1 := hT.putM ((((Upd.refl x18.heap.size x19).setCell 0 (.int .i64 0)).setCell 1 (.int .i64 0)).setCell 2 (.slice none 0 0)) (hL0.get _ _ List.mem_cons_self) (by intro n; simp)
  have hA := hL0.fc
  simp only [fcG, cellsF, neK, and_true, ne_eq, Nat.zero_add, Nat.reduceAdd] at hA
  have hP := hL0.put 0 (x18.heap.size) _ rfl [.int .i64 0, .int .i64 0, .slice none 0 0] rfl
  simp only [setAll, List.set_cons_zero, List.set_cons_succ] at hP
  generalize hput6 : (((x19.setCell ⟨x18.heap.size, 0, none⟩ (.int .i64 0)).setCell ⟨x18.heap.size, 1, none⟩ (.int .i64 0)).setCell ⟨x18.heap.size, 2, none⟩ (.slice none 0 0)) = x20 at hP hT1
  have hB6 := hP.fc
  simp only [fcG, cellsF, neK, and_true, ne_eq, Nat.zero_add, Nat.reduceAdd] at hB6
  replace hL0 := hP
  replace hT := hT1
  clear hT1
  go_wp2_with fail
  clear hA
  with_reducible refine Calls.mono (HAp.out _) ?_
  rintro e x21 ⟨rfl, hb⟩
  replace hL0 := hL0.call hb
  replace hT := hT.call hb
  clear hb hweq hput6 hB6
  have hN0 := cells_of _ 0 [] rfl (hL0.get _ _ (List.mem_cons_of_mem _ (List.mem_cons_of_mem _ (List.mem_cons_of_mem _ (List.mem_cons_of_mem _ (List.mem_cons_of_mem _ (List.mem_cons_of_mem _ (List.mem_cons_of_mem _ (List.mem_cons_of_mem _ List.mem_cons_self)))))))))
  simp only [cellsF, and_true, Nat.zero_add, Nat.reduceAdd] at hN0
  go_wp2_with fail
  clear hN0
  with_reducible refine Calls.mono (HRo.out _) ?_
  rintro e x22 ⟨rfl, hb⟩
  replace hL0 := hL0.call hb
  replace hT := hT.call hb
  clear hb
  have hN0 := cells_of _ 0 [] rfl (hL0.get _ _ (List.mem_cons_of_mem _ (List.mem_cons_of_mem _ (List.mem_cons_of_mem _ (List.mem_cons_of_mem _ (List.mem_cons_of_mem _ (List.mem_cons_of_mem _ (List.mem_cons_of_mem _ (List.mem_cons_of_mem _ List.mem_cons_self)))))))))
  simp only [cellsF, and_true, Nat.zero_add, Nat.reduceAdd] at hN0
  go_wp2_with fail
  clear hN0
  with_reducible refine Calls.mono (HCo.out _) ?_
  rintro e x23 ⟨rfl, hb⟩
  replace hL0 := hL0.call hb
  replace hT := hT.call hb
  clear hb
  have hN0 := cells_of _ 0 [] rfl (hL0.get _ _ (List.mem_cons_of_mem _ (List.mem_cons_of_mem _ (List.mem_cons_of_mem _ (List.mem_cons_of_mem _ (List.mem_cons_of_mem _ (List.mem_cons_of_mem _ (List.mem_cons_of_mem _ (List.mem_cons_of_mem _ List.mem_cons_self)))))))))
  simp only [cellsF, and_true, Nat.zero_add, Nat.reduceAdd] at hN0
  go_wp2_with fail
  clear hN0
  with_reducible refine Calls.mono (HFo.out _) ?_
  rintro e x24 ⟨rfl, hb⟩
  replace hL0 := hL0.call hb
  replace hT := hT.call hb
  clear hb
  have hSo := Lib.hid hT
  replace hT := (hT.new (.cells #[.int .u64 0, .string ⟨#[]⟩, .bool false, .int .u64 0, .string ⟨#[]⟩] 38))
  replace hL0 := (hL0.new rfl [.int .u64 0, .string ⟨#[]⟩, .bool false, .int .u64 0, .string ⟨#[]⟩] 38)
  generalize hweq : (x24.alloc (.cells #[.int .u64 0, .string ⟨#[]⟩, .bool false, .int .u64 0, .string ⟨#[]⟩] 38)) = x25 at hL0 hT
  have hkb := Lib.hid (show x24.heap.size ≤ x24.heap.size by omega)
  have hT1 := hT.putN hSo.out hkb.out ((((((Upd.refl x24.heap.size x25).setCell 0 (.int .u64 0)).setCell 1 (.string ⟨#[]⟩)).setCell 2 (.bool false)).setCell 3 (.int .u64 0)).setCell 4 (.string ⟨#[]⟩))
  have hA := hL0.fc
  simp only [fcG, cellsF, neK, and_true, ne_eq, Nat.zero_add, Nat.reduceAdd] at hA
  have hP := hL0.put 0 (x24.heap.size) _ rfl [.int .u64 0, .string ⟨#[]⟩, .bool false, .int .u64 0, .string ⟨#[]⟩] rfl
  simp only [setAll, List.set_cons_zero, List.set_cons_succ] at hP
  generalize hput7 : (((((x25.setCell ⟨x24.heap.size, 0, none⟩ (.int .u64 0)).setCell ⟨x24.heap.size, 1, none⟩ (.string ⟨#[]⟩)).setCell ⟨x24.heap.size, 2, none⟩ (.bool false)).setCell ⟨x24.heap.size, 3, none⟩ (.int .u64 0)).setCell ⟨x24.heap.size, 4, none⟩ (.string ⟨#[]⟩)) = x26 at hP hT1
  have hB7 := hP.fc
  simp only [fcG, cellsF, neK, and_true, ne_eq, Nat.zero_add, Nat.reduceAdd] at hB7
  replace hL0 := hP
  replace hT := hT1
  clear hT1 hSo hkb
  go_wp2_with fail
  clear hA
  with_reducible refine Calls.mono (HTe.out _) ?_
  rintro e x27 ⟨rfl, hb⟩
  replace hL0 := hL0.call hb
  replace hT := hT.call hb
  clear hb hweq hput7 hB7
  have hN0 := cells_of _ 0 [] rfl (hL0.get _ _ (List.mem_cons_of_mem _ (List.mem_cons_of_mem _ (List.mem_cons_of_mem _ (List.mem_cons_of_mem _ (List.mem_cons_of_mem _ (List.mem_cons_of_mem _ (List.mem_cons_of_mem _ (List.mem_cons_of_mem _ (List.mem_cons_of_mem _ List.mem_cons_self))))))))))
  simp only [cellsF, and_true, Nat.zero_add, Nat.reduceAdd] at hN0
  go_wp2_with fail
  clear hN0
  with_reducible refine Calls.mono (HSy.out _) ?_
  rintro e x28 ⟨rfl, hb⟩
  replace hL0 := hL0.call hb
  replace hT := hT.call hb
  clear hb
  have hN0 := cells_of _ 0 [] rfl (hL0.get _ _ (List.mem_cons_of_mem _ (List.mem_cons_of_mem _ (List.mem_cons_of_mem _ (List.mem_cons_of_mem _ (List.mem_cons_of_mem _ (List.mem_cons_of_mem _ (List.mem_cons_of_mem _ (List.mem_cons_of_mem _ (List.mem_cons_of_mem _ List.mem_cons_self))))))))))
  simp only [cellsF, and_true, Nat.zero_add, Nat.reduceAdd] at hN0
  go_wp2_with fail
  clear hN0
  with_reducible refine Calls.mono (HSu.out _) ?_
  rintro e x29 ⟨rfl, hb⟩
  replace hL0 := hL0.call hb
  replace hT := hT.call hb
  clear hb
  go_wp2_with fail
  exact bodyPost_ret (v := .bool true) (by simp [results, Tryz.results79, go_sem]) rfl ⟨rfl, hL0.bl⟩
end Go.Proofs.YthkodldppaccmaaGreatDoor
namespace Go.Proofs.YthkodldppaccmaaGreatDoor
open Go.RowKit
attribute [local irreducible] lo hs sm s64 c64 d64 b64 mh ml pd pc qd qc val hiB str cmpI srD lz nb zl zh zs fe rowV tabV gv bsV turM mulM sumM oneM appV formM tabM dotL sumL mulL
set_option maxHeartbeats 16000000 in
set_option maxRecDepth 100000 in
theorem merr_bad1 (r c i k zn : Int) (m : Nat) (b1 b2 b3 b4 bz : Bool) (pz : Int) (HCk : ∀ (p0 : Value) (w : World), XM w p0 r c m → Calls Tryz.prog 51 #[p0] w fun e w' => e = .returned (.int .i64 1) ∧ Below w.heap.size w w') (HSm : ∀ (p0 : Value) (w : World), XM w p0 r c m → Calls Tryz.prog 67 #[p0, .agg #[.int .i64 r, .int .i64 c, .slice none 0 0]] w fun e w' => e = .returned (.bool bz) ∧ Below w.heap.size w w') (HRf : ∀ (p0 : Value) (w : World), XM w p0 r c m → Calls Tryz.prog 79 #[p0, .int .i64 1] w fun e w' => e = .returned (.bool true) ∧ Below w.heap.size w w') (KT : World → Prop) (hKT : Keeps KT) (HW : ∀ w, KT w → Calls Tryz.prog 41 #[] w fun xe w' => xe = .returned (.bool true) ∧ Below w.heap.size w w') (ezn : Int.tmod zn 60 = (m : Int)) (m59 : (m : Int) ≤ 59) (d1 : decide (r < 0) = b1) (d2 : decide (c < 0) = b2) (d3 : decide ((2048 : Int) < r) = b3) (d4 : decide ((2048 : Int) < c) = b4) (epz : b1 = false → b2 = false → b3 = false → b4 = false → r * c = pz) (pz0 : 0 ≤ pz) (pz9 : pz ≤ 5000000) (hnz : (pz != (m : Int)) = true) (hny : (pz == (m : Int)) = false) (hbz : ((m : Int) == 0) = bz) (hbz2 : (m == 0) = bz) (hbz3 : decide (m = 0) = bz) (hw : (b1 = true) ∨ (b1 = false ∧ b2 = true) ∨ (b1 = false ∧ b2 = false ∧ b3 = false ∧ b4 = false)) (w : World) (kKT : KT w) :
  Calls Tryz.prog 10 #[.int .i64 r, .int .i64 c, .int .u8 zn, .int .i64 i, .int .i64 k] w fun e w' => e = .returned (.bool true) ∧ Below w.heap.size w w' := by
 replace HCk := Lib.hid HCk
 replace HSm := Lib.hid HSm
 replace HRf := Lib.hid HRf
 replace hKT := Lib.hid hKT
 replace HW := Lib.hid HW
 have hL0 : GL w w [] := GL.start w
 have hT : PTs w [] := PTs.nil w
 have m0 : (0 : Int) ≤ (m : Int) := Int.natCast_nonneg _
 have hmkm := Lib.hid fun W => makeM W (m : Int) m rfl (by omega)
 rcases hw with rfl | ⟨rfl, rfl⟩ | ⟨rfl, rfl, rfl, rfl⟩
 all_goals (try simp only [forall_const, reduceCtorEq, false_implies, true_implies] at epz)
 all_goals (
  have hmkm' := hmkm.out w
  have hb0 : Below w.heap.size w (w.alloc (.cells (frCs (List.replicate m 0)).toArray 38)) := (Below.refl _ _).alloc (Nat.le_refl _) _
  have hq0 : SlQ (w.alloc (.cells (frCs (List.replicate m 0)).toArray 38)) (.slice (some ⟨w.heap.size, 0, none⟩) m m) (List.replicate m 0) := slq_new0 (hd_new w (frCs (List.replicate m 0)) _)
  generalize hwz : (w.alloc (.cells (frCs (List.replicate m 0)).toArray 38)) = x1 at hb0 hq0
  rw [hwz] at hmkm'
  replace hL0 := hL0.call hb0
  replace hT := hT.call hb0
  replace hT := hT.cons hq0
  clear hb0 hq0 hwz
  replace hT := (hT.new (.cells #[.int .i64 0, .int .i64 0, .slice none 0 0] 81))
  replace hL0 := (hL0.new rfl [.int .i64 0, .int .i64 0, .slice none 0 0] 81)
  generalize hweq : (x1.alloc (.cells #[.int .i64 0, .int .i64 0, .slice none 0 0] 81)) = x2 at hL0 hT
  go_enter Tryz.func10, Tryz.ntmps10
  have hT1 := hT.putM ((((Upd.refl x1.heap.size x2).setCell 0 (.int .i64 r)).setCell 1 (.int .i64 c)).setCell 2 (.slice (some ⟨w.heap.size, 0, none⟩) m m)) (hL0.get _ _ List.mem_cons_self) (by intro n; simp)
  have hA := hL0.fc
  simp only [fcG, cellsF, neK, and_true, ne_eq, Nat.zero_add, Nat.reduceAdd] at hA
  have hP := hL0.put 0 (x1.heap.size) _ rfl [.int .i64 r, .int .i64 c, .slice (some ⟨w.heap.size, 0, none⟩) m m] rfl
  simp only [setAll, List.set_cons_zero, List.set_cons_succ] at hP
  generalize hput1 : (((x2.setCell ⟨x1.heap.size, 0, none⟩ (.int .i64 r)).setCell ⟨x1.heap.size, 1, none⟩ (.int .i64 c)).setCell ⟨x1.heap.size, 2, none⟩ (.slice (some ⟨w.heap.size, 0, none⟩) m m)) = x3 at hP hT1
  have hB1 := hP.fc
  simp only [fcG, cellsF, neK, and_true, ne_eq, Nat.zero_add, Nat.reduceAdd] at hB1
  replace hL0 := hP
  replace hT := hT1
  clear hT1
  go_upto_region 9 with fail
  clear hweq
  clear hput1 hB1
  clear hA
  refine region_tl 16 [EV (.agg #[.int .i64 r, .int .i64 c, .slice (some ⟨w.heap.size, 0, none⟩) m m]), EV (.int .i64 1), EV (.int .i64 1), EV (.bool false), EV (.bool false), EV (.agg #[.int .i64 r, .int .i64 c, .slice (some ⟨w.heap.size, 0, none⟩) m m]), EV (.int .i64 r), EV (.int .i64 c), EV (.agg #[.int .i64 r, .int .i64 c, .slice none 0 0]), EV (.bool bz), EV (.pointer (some ⟨x1.heap.size, 2, none⟩)), EV (.slice (some ⟨w.heap.size, 0, none⟩) m m), EV (.int .i64 (m : Int)), EV (.bool bz), EV (.bool false), EV (.bool false)] (by kernel_rfl) (by kernel_rfl) ?_ ?_ ?_
  ·exact stays_cons (stays_eq _) (stays_cons (stays_eq _) (stays_cons (stays_eq _) (stays_cons (stays_eq _) (stays_cons (stays_eq _) (stays_cons (stays_eq _) (stays_cons (stays_eq _) (stays_cons (stays_eq _) (stays_cons (stays_eq _) (stays_cons (stays_eq _) (stays_cons (stays_eq _) (stays_cons (stays_eq _) (stays_cons (stays_eq _) (stays_cons (stays_eq _) (stays_cons (stays_eq _) (stays_cons (stays_eq _) (stays_nil))))))))))))))))
  ·simp only [List.take_succ_cons, List.take_zero, hopsR, and_true]
   refine ⟨?_, ?_, ?_, ?_, ?_, ?_, ?_, ?_, ?_, ?_, ?_, ?_, ?_, ?_, ?_, ?_⟩ <;> intro fv w1 hb1 hp
   all_goals (simp only [putsV, Act.put, List.setIfInBounds_toArray, List.set_cons_succ, List.set_cons_zero, Nat.zero_add, Nat.reduceAdd])
   ·refine tyAt_none rfl ?_
    have hc := (hL0.call (below_drew hb1)).fc
    simp only [fcG, cellsF, neK, and_true, ne_eq, Nat.zero_add, Nat.reduceAdd] at hc
    simp [tyUpon, execOp, go_sem, Act.eval, hc, hbz, hbz2, hbz3, Below.refl]
   ·have h0 : EV _ (fv 0) w1 := hp 0 (LC (by kernel_rfl))
    refine tyAt_none rfl ?_
    refine ty_call (f := 51) (args := #[.agg #[.int .i64 r, .int .i64 c, .slice (some ⟨w.heap.size, 0, none⟩) m m]]) (by simp [execOp, go_sem, Act.eval, h0]) ?_
    exact (HCk.out (.agg #[.int .i64 r, .int .i64 c, .slice (some ⟨w.heap.size, 0, none⟩) m m]) w1 (xm_of (PT.below (hT.get List.mem_cons_self) (below_drew hb1)) (Nat.le_refl _))).mono fun e w2 ⟨h1, h2⟩ => ⟨_, h1, rfl, h2⟩
   ·refine tyAt_none rfl ?_
    simp [tyUpon, execOp, go_sem, Act.eval, hbz, hbz2, hbz3, Below.refl]
   ·have h1 : EV _ (fv 1) w1 := hp 1 (LC (by kernel_rfl))
    have h2 : EV _ (fv 2) w1 := hp 2 (LC (by kernel_rfl))
    refine tyAt_none rfl ?_
    simp [tyUpon, execOp, go_sem, Act.eval, h1, h2, hbz, hbz2, hbz3, Below.refl]
   ·have h3 : EV _ (fv 3) w1 := hp 3 (LC (by kernel_rfl))
    refine tyAt_none rfl ?_
    simp [tyUpon, execOp, go_sem, Act.eval, h3, hbz, hbz2, hbz3, Below.refl]
   ·have h4 : EV _ (fv 4) w1 := hp 4 (LC (by kernel_rfl))
    refine tyAt_yes (by simp [Region.wanted, yielded, h4]) ?_
    have hc := (hL0.call (below_drew hb1)).fc
    simp only [fcG, cellsF, neK, and_true, ne_eq, Nat.zero_add, Nat.reduceAdd] at hc
    simp [tyUpon, execOp, go_sem, Act.eval, hc, h4, hbz, hbz2, hbz3, Below.refl]
   ·have h4 : EV _ (fv 4) w1 := hp 4 (LC (by kernel_rfl))
    refine tyAt_yes (by simp [Region.wanted, yielded, h4]) ?_
    simp [tyUpon, execOp, go_sem, Act.eval, h4, hbz, hbz2, hbz3, Below.refl]
   ·have h4 : EV _ (fv 4) w1 := hp 4 (LC (by kernel_rfl))
    refine tyAt_yes (by simp [Region.wanted, yielded, h4]) ?_
    simp [tyUpon, execOp, go_sem, Act.eval, h4, hbz, hbz2, hbz3, Below.refl]
   ·have h6 : EV _ (fv 6) w1 := hp 6 (LC (by kernel_rfl))
    have h7 : EV _ (fv 7) w1 := hp 7 (LC (by kernel_rfl))
    have h4 : EV _ (fv 4) w1 := hp 4 (LC (by kernel_rfl))
    refine tyAt_yes (by simp [Region.wanted, yielded, h6, h7, h4]) ?_
    simp [tyUpon, execOp, go_sem, Act.eval, h6, h7, h4, hbz, hbz2, hbz3, Below.refl]
   ·have h5 : EV _ (fv 5) w1 := hp 5 (LC (by kernel_rfl))
    have h8 : EV _ (fv 8) w1 := hp 8 (LC (by kernel_rfl))
    have h4 : EV _ (fv 4) w1 := hp 4 (LC (by kernel_rfl))
    refine tyAt_yes (by simp [Region.wanted, yielded, h5, h8, h4]) ?_
    refine ty_call (f := 67) (args := #[.agg #[.int .i64 r, .int .i64 c, .slice (some ⟨w.heap.size, 0, none⟩) m m], .agg #[.int .i64 r, .int .i64 c, .slice none 0 0]]) (by simp [execOp, go_sem, Act.eval, h5, h8, h4]) ?_
    exact (HSm.out (.agg #[.int .i64 r, .int .i64 c, .slice (some ⟨w.heap.size, 0, none⟩) m m]) w1 (xm_of (PT.below (hT.get List.mem_cons_self) (below_drew hb1)) (Nat.le_refl _))).mono fun e w2 ⟨h1, h2⟩ => ⟨_, h1, rfl, h2⟩
   ·have h4 : EV _ (fv 4) w1 := hp 4 (LC (by kernel_rfl))
    refine tyAt_yes (by simp [Region.wanted, yielded, h4]) ?_
    simp [tyUpon, execOp, go_sem, Act.eval, h4, hbz, hbz2, hbz3, Below.refl]
   ·have h10 : EV _ (fv 10) w1 := hp 10 (LC (by kernel_rfl))
    have h4 : EV _ (fv 4) w1 := hp 4 (LC (by kernel_rfl))
    refine tyAt_yes (by simp [Region.wanted, yielded, h10, h4]) ?_
    have hc := (hL0.call (below_drew hb1)).fc
    simp only [fcG, cellsF, neK, and_true, ne_eq, Nat.zero_add, Nat.reduceAdd] at hc
    simp [tyUpon, execOp, go_sem, Act.eval, hc, h10, h4, hbz, hbz2, hbz3, Below.refl]
   ·have h11 : EV _ (fv 11) w1 := hp 11 (LC (by kernel_rfl))
    have h4 : EV _ (fv 4) w1 := hp 4 (LC (by kernel_rfl))
    refine tyAt_yes (by simp [Region.wanted, yielded, h11, h4]) ?_
    simp [tyUpon, execOp, go_sem, Act.eval, h11, h4, hbz, hbz2, hbz3, Below.refl]
   ·have h12 : EV _ (fv 12) w1 := hp 12 (LC (by kernel_rfl))
    have h4 : EV _ (fv 4) w1 := hp 4 (LC (by kernel_rfl))
    refine tyAt_yes (by simp [Region.wanted, yielded, h12, h4]) ?_
    simp [tyUpon, execOp, go_sem, Act.eval, h12, h4, hbz, hbz2, hbz3, Below.refl]
   ·have h9 : EV _ (fv 9) w1 := hp 9 (LC (by kernel_rfl))
    have h13 : EV _ (fv 13) w1 := hp 13 (LC (by kernel_rfl))
    have h4 : EV _ (fv 4) w1 := hp 4 (LC (by kernel_rfl))
    refine tyAt_yes (by simp [Region.wanted, yielded, h9, h13, h4]) ?_
    simp [tyUpon, execOp, go_sem, Act.eval, h9, h13, h4, hbz, hbz2, hbz3, Below.refl]
   ·have h4 : EV _ (fv 4) w1 := hp 4 (LC (by kernel_rfl))
    have h14 : EV _ (fv 14) w1 := hp 14 (LC (by kernel_rfl))
    refine tyAt_none rfl ?_
    simp [tyUpon, execOp, go_sem, Act.eval, h4, h14, hbz, hbz2, hbz3, Below.refl]
  ·intro fv x4 hb1 hv
   have e0 : fv 0 = _ := hv 0 (by omega)
   have e1 : fv 1 = _ := hv 1 (by omega)
   have e2 : fv 2 = _ := hv 2 (by omega)
   have e3 : fv 3 = _ := hv 3 (by omega)
   have e4 : fv 4 = _ := hv 4 (by omega)
   have e5 : fv 5 = _ := hv 5 (by omega)
   have e6 : fv 6 = _ := hv 6 (by omega)
   have e7 : fv 7 = _ := hv 7 (by omega)
   have e8 : fv 8 = _ := hv 8 (by omega)
   have e9 : fv 9 = _ := hv 9 (by omega)
   have e10 : fv 10 = _ := hv 10 (by omega)
   have e11 : fv 11 = _ := hv 11 (by omega)
   have e12 : fv 12 = _ := hv 12 (by omega)
   have e13 : fv 13 = _ := hv 13 (by omega)
   have e14 : fv 14 = _ := hv 14 (by omega)
   have e15 : fv 15 = _ := hv 15 (by omega)
   simp only [List.take_succ_cons, List.take_zero, putsV, Act.put, List.setIfInBounds_toArray, List.set_cons_succ, List.set_cons_zero, List.drop_succ_cons, List.drop_zero, Nat.zero_add, Nat.reduceAdd, e0, e1, e2, e3, e4, e5, e6, e7, e8, e9, e10, e11, e12, e13, e14, e15]
   replace hL0 := hL0.call (below_drew hb1)
   replace hT := hT.call (below_drew hb1)
   clear e0 e1 e2 e3 e4 e5 e6 e7 e8 e9 e10 e11 e12 e13 e14 e15 hb1 hv fv
   have hN0 := cells_of _ 0 [] rfl (hL0.get _ _ List.mem_cons_self)
   simp only [cellsF, and_true, Nat.zero_add, Nat.reduceAdd] at hN0
   go_wp2_with fail
   clear hN0
   with_reducible refine Calls.mono (HRf.out (.agg #[.int .i64 r, .int .i64 c, .slice (some ⟨w.heap.size, 0, none⟩) m m]) _ (xm_of (hT.get List.mem_cons_self) (Nat.le_refl _))) ?_
   rintro e x5 ⟨rfl, hb⟩
   replace hL0 := hL0.call hb
   replace hT := hT.call hb
   clear hb
   clear hmkm'
   go_wp2_with fail
   with_reducible refine Calls.mono (HW.out _ (hKT.out.at hL0.bl kKT)) ?_
   rintro e x6 ⟨rfl, hb⟩
   replace hL0 := hL0.call hb
   replace hT := hT.call hb
   clear hb
   go_wp2_with fail
   exact bodyPost_ret (v := .bool true) (by simp [results, Tryz.results10, go_sem]) rfl ⟨rfl, hL0.bl⟩)
set_option maxHeartbeats 16000000 in
set_option maxRecDepth 100000 in
theorem merr_bad3 (r c i k zn : Int) (m : Nat) (b1 b2 b3 b4 bz : Bool) (HCk : ∀ (p0 : Value) (w : World), XM w p0 r c m → Calls Tryz.prog 51 #[p0] w fun e w' => e = .returned (.int .i64 3) ∧ Below w.heap.size w w') (HSm : ∀ (p0 : Value) (w : World), XM w p0 r c m → Calls Tryz.prog 67 #[p0, .agg #[.int .i64 r, .int .i64 c, .slice none 0 0]] w fun e w' => e = .returned (.bool bz) ∧ Below w.heap.size w w') (HRf : ∀ (p0 : Value) (w : World), XM w p0 r c m → Calls Tryz.prog 79 #[p0, .int .i64 3] w fun e w' => e = .returned (.bool true) ∧ Below w.heap.size w w') (KT : World → Prop) (hKT : Keeps KT) (HW : ∀ w, KT w → Calls Tryz.prog 41 #[] w fun xe w' => xe = .returned (.bool true) ∧ Below w.heap.size w w') (ezn : Int.tmod zn 60 = (m : Int)) (m59 : (m : Int) ≤ 59) (d1 : decide (r < 0) = b1) (d2 : decide (c < 0) = b2) (d3 : decide ((2048 : Int) < r) = b3) (d4 : decide ((2048 : Int) < c) = b4) (hbz : ((m : Int) == 0) = bz) (hbz2 : (m == 0) = bz) (hbz3 : decide (m = 0) = bz) (hw : (b1 = false ∧ b2 = false ∧ b3 = true) ∨ (b1 = false ∧ b2 = false ∧ b3 = false ∧ b4 = true)) (w : World) (kKT : KT w) :
  Calls Tryz.prog 10 #[.int .i64 r, .int .i64 c, .int .u8 zn, .int .i64 i, .int .i64 k] w fun e w' => e = .returned (.bool true) ∧ Below w.heap.size w w' := by
 replace HCk := Lib.hid HCk
 replace HSm := Lib.hid HSm
 replace HRf := Lib.hid HRf
 replace hKT := Lib.hid hKT
 replace HW := Lib.hid HW
 have hL0 : GL w w [] := GL.start w
 have hT : PTs w [] := PTs.nil w
 have m0 : (0 : Int) ≤ (m : Int) := Int.natCast_nonneg _
 have hmkm := Lib.hid fun W => makeM W (m : Int) m rfl (by omega)
 rcases hw with ⟨rfl, rfl, rfl⟩ | ⟨rfl, rfl, rfl, rfl⟩
 all_goals (
  have hmkm' := hmkm.out w
  have hb0 : Below w.heap.size w (w.alloc (.cells (frCs (List.replicate m 0)).toArray 38)) := (Below.refl _ _).alloc (Nat.le_refl _) _
  have hq0 : SlQ (w.alloc (.cells (frCs (List.replicate m 0)).toArray 38)) (.slice (some ⟨w.heap.size, 0, none⟩) m m) (List.replicate m 0) := slq_new0 (hd_new w (frCs (List.replicate m 0)) _)
  generalize hwz : (w.alloc (.cells (frCs (List.replicate m 0)).toArray 38)) = x1 at hb0 hq0
  rw [hwz] at hmkm'
  replace hL0 := hL0.call hb0
  replace hT := hT.call hb0
  replace hT := hT.cons hq0
  clear hb0 hq0 hwz
  replace hT := (hT.new (.cells #[.int .i64 0, .int .i64 0, .slice none 0 0] 81))
  replace hL0 := (hL0.new rfl [.int .i64 0, .int .i64 0, .slice none 0 0] 81)
  generalize hweq : (x1.alloc (.cells #[.int .i64 0, .int .i64 0, .slice none 0 0] 81)) = x2 at hL0 hT
  go_enter Tryz.func10, Tryz.ntmps10
  have hT1 := hT.putM ((((Upd.refl x1.heap.size x2).setCell 0 (.int .i64 r)).setCell 1 (.int .i64 c)).setCell 2 (.slice (some ⟨w.heap.size, 0, none⟩) m m)) (hL0.get _ _ List.mem_cons_self) (by intro n; simp)
  have hA := hL0.fc
  simp only [fcG, cellsF, neK, and_true, ne_eq, Nat.zero_add, Nat.reduceAdd] at hA
  have hP := hL0.put 0 (x1.heap.size) _ rfl [.int .i64 r, .int .i64 c, .slice (some ⟨w.heap.size, 0, none⟩) m m] rfl
  simp only [setAll, List.set_cons_zero, List.set_cons_succ] at hP
  generalize hput1 : (((x2.setCell ⟨x1.heap.size, 0, none⟩ (.int .i64 r)).setCell ⟨x1.heap.size, 1, none⟩ (.int .i64 c)).setCell ⟨x1.heap.size, 2, none⟩ (.slice (some ⟨w.heap.size, 0, none⟩) m m)) = x3 at hP hT1
  have hB1 := hP.fc
  simp only [fcG, cellsF, neK, and_true, ne_eq, Nat.zero_add, Nat.reduceAdd] at hB1
  replace hL0 := hP
  replace hT := hT1
  clear hT1
  go_upto_region 9 with fail
  clear hweq
  clear hput1 hB1
  clear hA
  refine region_tl 16 [EV (.agg #[.int .i64 r, .int .i64 c, .slice (some ⟨w.heap.size, 0, none⟩) m m]), EV (.int .i64 3), EV (.int .i64 3), EV (.bool false), EV (.bool false), EV (.agg #[.int .i64 r, .int .i64 c, .slice (some ⟨w.heap.size, 0, none⟩) m m]), EV (.int .i64 r), EV (.int .i64 c), EV (.agg #[.int .i64 r, .int .i64 c, .slice none 0 0]), EV (.bool bz), EV (.pointer (some ⟨x1.heap.size, 2, none⟩)), EV (.slice (some ⟨w.heap.size, 0, none⟩) m m), EV (.int .i64 (m : Int)), EV (.bool bz), EV (.bool false), EV (.bool false)] (by kernel_rfl) (by kernel_rfl) ?_ ?_ ?_
  ·exact stays_cons (stays_eq _) (stays_cons (stays_eq _) (stays_cons (stays_eq _) (stays_cons (stays_eq _) (stays_cons (stays_eq _) (stays_cons (stays_eq _) (stays_cons (stays_eq _) (stays_cons (stays_eq _) (stays_cons (stays_eq _) (stays_cons (stays_eq _) (stays_cons (stays_eq _) (stays_cons (stays_eq _) (stays_cons (stays_eq _) (stays_cons (stays_eq _) (stays_cons (stays_eq _) (stays_cons (stays_eq _) (stays_nil))))))))))))))))
  ·simp only [List.take_succ_cons, List.take_zero, hopsR, and_true]
   refine ⟨?_, ?_, ?_, ?_, ?_, ?_, ?_, ?_, ?_, ?_, ?_, ?_, ?_, ?_, ?_, ?_⟩ <;> intro fv w1 hb1 hp
   all_goals (simp only [putsV, Act.put, List.setIfInBounds_toArray, List.set_cons_succ, List.set_cons_zero, Nat.zero_add, Nat.reduceAdd])
   ·refine tyAt_none rfl ?_
    have hc := (hL0.call (below_drew hb1)).fc
    simp only [fcG, cellsF, neK, and_true, ne_eq, Nat.zero_add, Nat.reduceAdd] at hc
    simp [tyUpon, execOp, go_sem, Act.eval, hc, hbz, hbz2, hbz3, Below.refl]
   ·have h0 : EV _ (fv 0) w1 := hp 0 (LC (by kernel_rfl))
    refine tyAt_none rfl ?_
    refine ty_call (f := 51) (args := #[.agg #[.int .i64 r, .int .i64 c, .slice (some ⟨w.heap.size, 0, none⟩) m m]]) (by simp [execOp, go_sem, Act.eval, h0]) ?_
    exact (HCk.out (.agg #[.int .i64 r, .int .i64 c, .slice (some ⟨w.heap.size, 0, none⟩) m m]) w1 (xm_of (PT.below (hT.get List.mem_cons_self) (below_drew hb1)) (Nat.le_refl _))).mono fun e w2 ⟨h1, h2⟩ => ⟨_, h1, rfl, h2⟩
   ·refine tyAt_none rfl ?_
    simp [tyUpon, execOp, go_sem, Act.eval, hbz, hbz2, hbz3, Below.refl]
   ·have h1 : EV _ (fv 1) w1 := hp 1 (LC (by kernel_rfl))
    have h2 : EV _ (fv 2) w1 := hp 2 (LC (by kernel_rfl))
    refine tyAt_none rfl ?_
    simp [tyUpon, execOp, go_sem, Act.eval, h1, h2, hbz, hbz2, hbz3, Below.refl]
   ·have h3 : EV _ (fv 3) w1 := hp 3 (LC (by kernel_rfl))
    refine tyAt_none rfl ?_
    simp [tyUpon, execOp, go_sem, Act.eval, h3, hbz, hbz2, hbz3, Below.refl]
   ·have h4 : EV _ (fv 4) w1 := hp 4 (LC (by kernel_rfl))
    refine tyAt_yes (by simp [Region.wanted, yielded, h4]) ?_
    have hc := (hL0.call (below_drew hb1)).fc
    simp only [fcG, cellsF, neK, and_true, ne_eq, Nat.zero_add, Nat.reduceAdd] at hc
    simp [tyUpon, execOp, go_sem, Act.eval, hc, h4, hbz, hbz2, hbz3, Below.refl]
   ·have h4 : EV _ (fv 4) w1 := hp 4 (LC (by kernel_rfl))
    refine tyAt_yes (by simp [Region.wanted, yielded, h4]) ?_
    simp [tyUpon, execOp, go_sem, Act.eval, h4, hbz, hbz2, hbz3, Below.refl]
   ·have h4 : EV _ (fv 4) w1 := hp 4 (LC (by kernel_rfl))
    refine tyAt_yes (by simp [Region.wanted, yielded, h4]) ?_
    simp [tyUpon, execOp, go_sem, Act.eval, h4, hbz, hbz2, hbz3, Below.refl]
   ·have h6 : EV _ (fv 6) w1 := hp 6 (LC (by kernel_rfl))
    have h7 : EV _ (fv 7) w1 := hp 7 (LC (by kernel_rfl))
    have h4 : EV _ (fv 4) w1 := hp 4 (LC (by kernel_rfl))
    refine tyAt_yes (by simp [Region.wanted, yielded, h6, h7, h4]) ?_
    simp [tyUpon, execOp, go_sem, Act.eval, h6, h7, h4, hbz, hbz2, hbz3, Below.refl]
   ·have h5 : EV _ (fv 5) w1 := hp 5 (LC (by kernel_rfl))
    have h8 : EV _ (fv 8) w1 := hp 8 (LC (by kernel_rfl))
    have h4 : EV _ (fv 4) w1 := hp 4 (LC (by kernel_rfl))
    refine tyAt_yes (by simp [Region.wanted, yielded, h5, h8, h4]) ?_
    refine ty_call (f := 67) (args := #[.agg #[.int .i64 r, .int .i64 c, .slice (some ⟨w.heap.size, 0, none⟩) m m], .agg #[.int .i64 r, .int .i64 c, .slice none 0 0]]) (by simp [execOp, go_sem, Act.eval, h5, h8, h4]) ?_
    exact (HSm.out (.agg #[.int .i64 r, .int .i64 c, .slice (some ⟨w.heap.size, 0, none⟩) m m]) w1 (xm_of (PT.below (hT.get List.mem_cons_self) (below_drew hb1)) (Nat.le_refl _))).mono fun e w2 ⟨h1, h2⟩ => ⟨_, h1, rfl, h2⟩
   ·have h4 : EV _ (fv 4) w1 := hp 4 (LC (by kernel_rfl))
    refine tyAt_yes (by simp [Region.wanted, yielded, h4]) ?_
    simp [tyUpon, execOp, go_sem, Act.eval, h4, hbz, hbz2, hbz3, Below.refl]
   ·have h10 : EV _ (fv 10) w1 := hp 10 (LC (by kernel_rfl))
    have h4 : EV _ (fv 4) w1 := hp 4 (LC (by kernel_rfl))
    refine tyAt_yes (by simp [Region.wanted, yielded, h10, h4]) ?_
    have hc := (hL0.call (below_drew hb1)).fc
    simp only [fcG, cellsF, neK, and_true, ne_eq, Nat.zero_add, Nat.reduceAdd] at hc
    simp [tyUpon, execOp, go_sem, Act.eval, hc, h10, h4, hbz, hbz2, hbz3, Below.refl]
   ·have h11 : EV _ (fv 11) w1 := hp 11 (LC (by kernel_rfl))
    have h4 : EV _ (fv 4) w1 := hp 4 (LC (by kernel_rfl))
    refine tyAt_yes (by simp [Region.wanted, yielded, h11, h4]) ?_
    simp [tyUpon, execOp, go_sem, Act.eval, h11, h4, hbz, hbz2, hbz3, Below.refl]
   ·have h12 : EV _ (fv 12) w1 := hp 12 (LC (by kernel_rfl))
    have h4 : EV _ (fv 4) w1 := hp 4 (LC (by kernel_rfl))
    refine tyAt_yes (by simp [Region.wanted, yielded, h12, h4]) ?_
    simp [tyUpon, execOp, go_sem, Act.eval, h12, h4, hbz, hbz2, hbz3, Below.refl]
   ·have h9 : EV _ (fv 9) w1 := hp 9 (LC (by kernel_rfl))
    have h13 : EV _ (fv 13) w1 := hp 13 (LC (by kernel_rfl))
    have h4 : EV _ (fv 4) w1 := hp 4 (LC (by kernel_rfl))
    refine tyAt_yes (by simp [Region.wanted, yielded, h9, h13, h4]) ?_
    simp [tyUpon, execOp, go_sem, Act.eval, h9, h13, h4, hbz, hbz2, hbz3, Below.refl]
   ·have h4 : EV _ (fv 4) w1 := hp 4 (LC (by kernel_rfl))
    have h14 : EV _ (fv 14) w1 := hp 14 (LC (by kernel_rfl))
    refine tyAt_none rfl ?_
    simp [tyUpon, execOp, go_sem, Act.eval, h4, h14, hbz, hbz2, hbz3, Below.refl]
  ·intro fv x4 hb1 hv
   have e0 : fv 0 = _ := hv 0 (by omega)
   have e1 : fv 1 = _ := hv 1 (by omega)
   have e2 : fv 2 = _ := hv 2 (by omega)
   have e3 : fv 3 = _ := hv 3 (by omega)
   have e4 : fv 4 = _ := hv 4 (by omega)
   have e5 : fv 5 = _ := hv 5 (by omega)
   have e6 : fv 6 = _ := hv 6 (by omega)
   have e7 : fv 7 = _ := hv 7 (by omega)
   have e8 : fv 8 = _ := hv 8 (by omega)
   have e9 : fv 9 = _ := hv 9 (by omega)
   have e10 : fv 10 = _ := hv 10 (by omega)
   have e11 : fv 11 = _ := hv 11 (by omega)
   have e12 : fv 12 = _ := hv 12 (by omega)
   have e13 : fv 13 = _ := hv 13 (by omega)
   have e14 : fv 14 = _ := hv 14 (by omega)
   have e15 : fv 15 = _ := hv 15 (by omega)
   simp only [List.take_succ_cons, List.take_zero, putsV, Act.put, List.setIfInBounds_toArray, List.set_cons_succ, List.set_cons_zero, List.drop_succ_cons, List.drop_zero, Nat.zero_add, Nat.reduceAdd, e0, e1, e2, e3, e4, e5, e6, e7, e8, e9, e10, e11, e12, e13, e14, e15]
   replace hL0 := hL0.call (below_drew hb1)
   replace hT := hT.call (below_drew hb1)
   clear e0 e1 e2 e3 e4 e5 e6 e7 e8 e9 e10 e11 e12 e13 e14 e15 hb1 hv fv
   have hN0 := cells_of _ 0 [] rfl (hL0.get _ _ List.mem_cons_self)
   simp only [cellsF, and_true, Nat.zero_add, Nat.reduceAdd] at hN0
   go_wp2_with fail
   clear hN0
   with_reducible refine Calls.mono (HRf.out (.agg #[.int .i64 r, .int .i64 c, .slice (some ⟨w.heap.size, 0, none⟩) m m]) _ (xm_of (hT.get List.mem_cons_self) (Nat.le_refl _))) ?_
   rintro e x5 ⟨rfl, hb⟩
   replace hL0 := hL0.call hb
   replace hT := hT.call hb
   clear hb
   clear hmkm'
   go_wp2_with fail
   with_reducible refine Calls.mono (HW.out _ (hKT.out.at hL0.bl kKT)) ?_
   rintro e x6 ⟨rfl, hb⟩
   replace hL0 := hL0.call hb
   replace hT := hT.call hb
   clear hb
   go_wp2_with fail
   exact bodyPost_ret (v := .bool true) (by simp [results, Tryz.results10, go_sem]) rfl ⟨rfl, hL0.bl⟩)
end Go.Proofs.YthkodldppaccmaaGreatDoor
namespace Go.Proofs.YthkodldppaccmaaGreatDoor
open Go.RowKit
attribute [local irreducible] lo hs sm s64 c64 d64 b64 mh ml pd pc qd qc val hiB str cmpI srD lz nb zl zh zs fe rowV tabV gv bsV turM mulM sumM oneM appV formM tabM dotL sumL mulL
set_option maxHeartbeats 16000000 in
set_option maxRecDepth 100000 in
theorem merr_ok (r c i k zn : Int) (m : Nat) (rs cs pm cz : Nat) (bi0 bi1 bk0 bk1 bz : Bool) (er ef eg eh : Int) (HCk : ∀ (p0 : Value) (w : World), XM w p0 r c m → Calls Tryz.prog 51 #[p0] w fun e w' => e = .returned (.int .i64 0) ∧ Below w.heap.size w w') (HSm : ∀ (p0 : Value) (w : World), XM w p0 r c m → Calls Tryz.prog 67 #[p0, .agg #[.int .i64 r, .int .i64 c, .slice none 0 0]] w fun e w' => e = .returned (.bool bz) ∧ Below w.heap.size w w') (HAt : ∀ (p0 : Value) (w : World), XM w p0 r c m → Calls Tryz.prog 62 #[p0, .int .i64 i, .int .i64 k] w fun e w' => e = .returned (.tuple #[.agg #[.int .u64 0, .string ⟨#[]⟩, .bool false, .int .u64 0, .string ⟨#[]⟩], .bool (((bi0 && bi1) && bk0) && bk1)]) ∧ Below w.heap.size w w') (HRo : ∀ (p0 : Value) (w : World), XM w p0 r c m → Calls Tryz.prog 61 #[p0, .int .i64 i] w fun e w' => ∃ pv, e = .returned (.tuple #[pv, .int .i64 er]) ∧ YS pv ∧ Below w.heap.size w w') (HCo : ∀ (p0 : Value) (w : World), XM w p0 r c m → Calls Tryz.prog 63 #[p0, .int .i64 k] w fun e w' => ∃ pv, e = .returned (.tuple #[pv, .int .i64 ef]) ∧ YS pv ∧ Below w.heap.size w w') (HP1 : ∀ (p0 p1 : Value) (w : World), XM w p0 r c m → ILs w p1 ([i]) → Calls Tryz.prog 77 #[p0, p1, .slice none 0 0] w fun e w' => ∃ pv, e = .returned (.tuple #[pv, .int .i64 eg]) ∧ WS pv ∧ Below w.heap.size w w') (HP2 : ∀ (p0 p2 : Value) (w : World), XM w p0 r c m → ILs w p2 ([k]) → Calls Tryz.prog 77 #[p0, .slice none 0 0, p2] w fun e w' => ∃ pv, e = .returned (.tuple #[pv, .int .i64 eh]) ∧ WS pv ∧ Below w.heap.size w w') (HAd : ∀ (p0 p1 : Value) (w : World), XM w p0 r c m → XM w p1 (rs : Int) c pm → Calls Tryz.prog 45 #[p0, p1] w fun e w' => e = .returned (.tuple #[.agg #[.int .i64 0, .int .i64 0, .slice none 0 0], .int .i64 1]) ∧ Below w.heap.size w w') (HSu : ∀ (p0 p1 : Value) (w : World), XM w p0 (rs : Int) c pm → XM w p1 r c m → Calls Tryz.prog 46 #[p0, p1] w fun e w' => e = .returned (.tuple #[.agg #[.int .i64 0, .int .i64 0, .slice none 0 0], .int .i64 1]) ∧ Below w.heap.size w w') (HMu : ∀ (p0 : Value) (w : World), XM w p0 r c m → Calls Tryz.prog 48 #[p0, .agg #[.int .i64 (cs : Int), .int .i64 0, .slice none 0 0]] w fun e w' => e = .returned (.tuple #[.agg #[.int .i64 0, .int .i64 0, .slice none 0 0], .int .i64 1]) ∧ Below w.heap.size w w') (HAp : ∀ (p0 p1 : Value) (w : World), XM w p0 r c m → PT w p1 (List.replicate cs 0) → Calls Tryz.prog 59 #[p0, p1] w fun e w' => e = .returned (.tuple #[.slice none 0 0, .int .i64 1]) ∧ Below w.heap.size w w') (HFo : ∀ (p0 p1 p2 : Value) (w : World), XM w p0 r c m → PT w p1 (List.replicate rs 0) → PT w p2 (List.replicate cz 0) → Calls Tryz.prog 60 #[p0, p1, p2] w fun e w' => e = .returned (.tuple #[.agg #[.int .u64 0, .string ⟨#[]⟩, .bool false, .int .u64 0, .string ⟨#[]⟩], .int .i64 1]) ∧ Below w.heap.size w w') (KT : World → Prop) (hKT : Keeps KT) (HW : ∀ w, KT w → Calls Tryz.prog 41 #[] w fun xe w' => xe = .returned (.bool true) ∧ Below w.heap.size w w') (ezn : Int.tmod zn 60 = (m : Int)) (m59 : (m : Int) ≤ 59) (r0 : 0 ≤ r) (r9 : r ≤ 2048) (c0 : 0 ≤ c) (c9 : c ≤ 2048) (epz : r * c = (m : Int)) (er1 : r + 1 = (rs : Int)) (ec1 : c + 1 = (cs : Int)) (ep1 : (rs : Int) * c = (pm : Int)) (p19 : (pm : Int) ≤ 5000) (ecn : c = (cz : Int)) (hbz : ((m : Int) == 0) = bz) (hbz2 : (m == 0) = bz) (hbz3 : decide (m = 0) = bz) (di0 : decide (0 ≤ i) = bi0) (di1 : decide (i < r) = bi1) (dk0 : decide (0 ≤ k) = bk0) (dk1 : decide (k < c) = bk1) (qer : (er == 0) = (bi0 && bi1)) (qef : (ef == 0) = (bk0 && bk1)) (qeg : (eg == 0) = (bi0 && bi1)) (qeh : (eh == 0) = (bk0 && bk1)) (her : er = 0 ∨ er = 1) (hef : ef = 0 ∨ ef = 1) (heg : eg = 0 ∨ eg = 1) (heh : eh = 0 ∨ eh = 1) (hR : (r == 2048) = false) (hC : (c == 2048) = false) (w : World) (kKT : KT w) :
  Calls Tryz.prog 10 #[.int .i64 r, .int .i64 c, .int .u8 zn, .int .i64 i, .int .i64 k] w fun e w' => e = .returned (.bool true) ∧ Below w.heap.size w w' := by
 replace HCk := Lib.hid HCk
 replace HSm := Lib.hid HSm
 replace HAt := Lib.hid HAt
 replace HRo := Lib.hid HRo
 replace HCo := Lib.hid HCo
 replace HP1 := Lib.hid HP1
 replace HP2 := Lib.hid HP2
 replace HAd := Lib.hid HAd
 replace HSu := Lib.hid HSu
 replace HMu := Lib.hid HMu
 replace HAp := Lib.hid HAp
 replace HFo := Lib.hid HFo
 replace hKT := Lib.hid hKT
 replace HW := Lib.hid HW
 have hL0 : GL w w [] := GL.start w
 have hT : PTs w [] := PTs.nil w
 have m0 : (0 : Int) ≤ (m : Int) := Int.natCast_nonneg _
 have hmkm := Lib.hid fun W => makeM W (m : Int) m rfl (by omega)
 replace her := Lib.hid her
 replace hef := Lib.hid hef
 replace heg := Lib.hid heg
 replace heh := Lib.hid heh
 have r8 : ¬ r < 0 := by omega
 have c8 : ¬ c < 0 := by omega
 have r7 : ¬ (2048 : Int) < r := by omega
 have c7 : ¬ (2048 : Int) < c := by omega
 have p10 : (0 : Int) ≤ (pm : Int) := Int.natCast_nonneg _
 have r10 : (0 : Int) ≤ (rs : Int) := Int.natCast_nonneg _
 have c10 : (0 : Int) ≤ (cs : Int) := Int.natCast_nonneg _
 have r19 : (rs : Int) ≤ 2049 := by omega
 have c19 : (cs : Int) ≤ 2049 := by omega
 have hmkpm := Lib.hid fun W => makeM W (pm : Int) pm rfl (by omega)
 have hmkcs := Lib.hid fun W => makeV W (cs : Int) cs rfl (by omega)
 have hmkrs := Lib.hid fun W => makeV W (rs : Int) rs rfl (by omega)
 have hmkcz := Lib.hid fun W => makeV W c cz ecn (by omega)
 clear ecn
 have hwr : IntKind.i64.wrap (r + 1) = (rs : Int) := by rw [i64w9 _ (by omega) (by omega)]; exact er1
 have hwc : IntKind.i64.wrap (c + 1) = (cs : Int) := by rw [i64w9 _ (by omega) (by omega)]; exact ec1
 have hne0 : ∀ W, (binOp .neq 38 (.agg #[.int .u64 0, .string ⟨#[]⟩, .bool false, .int .u64 0, .string ⟨#[]⟩]) (.agg #[.int .u64 0, .string ⟨#[]⟩, .bool false, .int .u64 0, .string ⟨#[]⟩])).run Tryz.prog W = .ok (.bool false) W := fun W => by have := run_neqF 0 0 true (by simp) W; rwa [frV_q0] at this
 have hmkm' := hmkm.out w
 have hb0 : Below w.heap.size w (w.alloc (.cells (frCs (List.replicate m 0)).toArray 38)) := (Below.refl _ _).alloc (Nat.le_refl _) _
 have hq0 : SlQ (w.alloc (.cells (frCs (List.replicate m 0)).toArray 38)) (.slice (some ⟨w.heap.size, 0, none⟩) m m) (List.replicate m 0) := slq_new0 (hd_new w (frCs (List.replicate m 0)) _)
 generalize hwz : (w.alloc (.cells (frCs (List.replicate m 0)).toArray 38)) = x1 at hb0 hq0
 rw [hwz] at hmkm'
 replace hL0 := hL0.call hb0
 replace hT := hT.call hb0
 replace hT := hT.cons hq0
 clear hb0 hq0 hwz
 replace hT := (hT.new (.cells #[.int .i64 0, .int .i64 0, .slice none 0 0] 81))
 replace hL0 := (hL0.new rfl [.int .i64 0, .int .i64 0, .slice none 0 0] 81)
 generalize hweq : (x1.alloc (.cells #[.int .i64 0, .int .i64 0, .slice none 0 0] 81)) = x2 at hL0 hT
 go_enter Tryz.func10, Tryz.ntmps10
 have hT1 := hT.putM ((((Upd.refl x1.heap.size x2).setCell 0 (.int .i64 r)).setCell 1 (.int .i64 c)).setCell 2 (.slice (some ⟨w.heap.size, 0, none⟩) m m)) (hL0.get _ _ List.mem_cons_self) (by intro n; simp)
 have hA := hL0.fc
 simp only [fcG, cellsF, neK, and_true, ne_eq, Nat.zero_add, Nat.reduceAdd] at hA
 have hP := hL0.put 0 (x1.heap.size) _ rfl [.int .i64 r, .int .i64 c, .slice (some ⟨w.heap.size, 0, none⟩) m m] rfl
 simp only [setAll, List.set_cons_zero, List.set_cons_succ] at hP
 generalize hput1 : (((x2.setCell ⟨x1.heap.size, 0, none⟩ (.int .i64 r)).setCell ⟨x1.heap.size, 1, none⟩ (.int .i64 c)).setCell ⟨x1.heap.size, 2, none⟩ (.slice (some ⟨w.heap.size, 0, none⟩) m m)) = x3 at hP hT1
 have hB1 := hP.fc
 simp only [fcG, cellsF, neK, and_true, ne_eq, Nat.zero_add, Nat.reduceAdd] at hB1
 replace hL0 := hP
 replace hT := hT1
 clear hT1
 go_upto_region 9 with fail
 clear hweq
 clear hput1 hB1
 clear hA
 refine region_tl 16 [EV (.agg #[.int .i64 r, .int .i64 c, .slice (some ⟨w.heap.size, 0, none⟩) m m]), EV (.int .i64 0), EV (.int .i64 0), EV (.bool false), EV (.bool false), EV (.agg #[.int .i64 r, .int .i64 c, .slice (some ⟨w.heap.size, 0, none⟩) m m]), EV (.int .i64 r), EV (.int .i64 c), EV (.agg #[.int .i64 r, .int .i64 c, .slice none 0 0]), EV (.bool bz), EV (.pointer (some ⟨x1.heap.size, 2, none⟩)), EV (.slice (some ⟨w.heap.size, 0, none⟩) m m), EV (.int .i64 (m : Int)), EV (.bool bz), EV (.bool false), EV (.bool false)] (by kernel_rfl) (by kernel_rfl) ?_ ?_ ?_
 ·exact stays_cons (stays_eq _) (stays_cons (stays_eq _) (stays_cons (stays_eq _) (stays_cons (stays_eq _) (stays_cons (stays_eq _) (stays_cons (stays_eq _) (stays_cons (stays_eq _) (stays_cons (stays_eq _) (stays_cons (stays_eq _) (stays_cons (stays_eq _) (stays_cons (stays_eq _) (stays_cons (stays_eq _) (stays_cons (stays_eq _) (stays_cons (stays_eq _) (stays_cons (stays_eq _) (stays_cons (stays_eq _) (stays_nil))))))))))))))))
 ·simp only [List.take_succ_cons, List.take_zero, hopsR, and_true]
  refine ⟨?_, ?_, ?_, ?_, ?_, ?_, ?_, ?_, ?_, ?_, ?_, ?_, ?_, ?_, ?_, ?_⟩ <;> intro fv w1 hb1 hp
  all_goals (simp only [putsV, Act.put, List.setIfInBounds_toArray, List.set_cons_succ, List.set_cons_zero, Nat.zero_add, Nat.reduceAdd])
  ·refine tyAt_none rfl ?_
   have hc := (hL0.call (below_drew hb1)).fc
   simp only [fcG, cellsF, neK, and_true, ne_eq, Nat.zero_add, Nat.reduceAdd] at hc
   simp [tyUpon, execOp, go_sem, Act.eval, hc, hbz, hbz2, hbz3, hwr, hwc, Below.refl]
  ·have h0 : EV _ (fv 0) w1 := hp 0 (LC (by kernel_rfl))
   refine tyAt_none rfl ?_
   refine ty_call (f := 51) (args := #[.agg #[.int .i64 r, .int .i64 c, .slice (some ⟨w.heap.size, 0, none⟩) m m]]) (by simp [execOp, go_sem, Act.eval, h0]) ?_
   exact (HCk.out (.agg #[.int .i64 r, .int .i64 c, .slice (some ⟨w.heap.size, 0, none⟩) m m]) w1 (xm_of (PT.below (hT.get List.mem_cons_self) (below_drew hb1)) (Nat.le_refl _))).mono fun e w2 ⟨h1, h2⟩ => ⟨_, h1, rfl, h2⟩
  ·refine tyAt_none rfl ?_
   simp [tyUpon, execOp, go_sem, Act.eval, hbz, hbz2, hbz3, hwr, hwc, Below.refl]
  ·have h1 : EV _ (fv 1) w1 := hp 1 (LC (by kernel_rfl))
   have h2 : EV _ (fv 2) w1 := hp 2 (LC (by kernel_rfl))
   refine tyAt_none rfl ?_
   simp [tyUpon, execOp, go_sem, Act.eval, h1, h2, hbz, hbz2, hbz3, hwr, hwc, Below.refl]
  ·have h3 : EV _ (fv 3) w1 := hp 3 (LC (by kernel_rfl))
   refine tyAt_none rfl ?_
   simp [tyUpon, execOp, go_sem, Act.eval, h3, hbz, hbz2, hbz3, hwr, hwc, Below.refl]
  ·have h4 : EV _ (fv 4) w1 := hp 4 (LC (by kernel_rfl))
   refine tyAt_yes (by simp [Region.wanted, yielded, h4]) ?_
   have hc := (hL0.call (below_drew hb1)).fc
   simp only [fcG, cellsF, neK, and_true, ne_eq, Nat.zero_add, Nat.reduceAdd] at hc
   simp [tyUpon, execOp, go_sem, Act.eval, hc, h4, hbz, hbz2, hbz3, hwr, hwc, Below.refl]
  ·have h4 : EV _ (fv 4) w1 := hp 4 (LC (by kernel_rfl))
   refine tyAt_yes (by simp [Region.wanted, yielded, h4]) ?_
   simp [tyUpon, execOp, go_sem, Act.eval, h4, hbz, hbz2, hbz3, hwr, hwc, Below.refl]
  ·have h4 : EV _ (fv 4) w1 := hp 4 (LC (by kernel_rfl))
   refine tyAt_yes (by simp [Region.wanted, yielded, h4]) ?_
   simp [tyUpon, execOp, go_sem, Act.eval, h4, hbz, hbz2, hbz3, hwr, hwc, Below.refl]
  ·have h6 : EV _ (fv 6) w1 := hp 6 (LC (by kernel_rfl))
   have h7 : EV _ (fv 7) w1 := hp 7 (LC (by kernel_rfl))
   have h4 : EV _ (fv 4) w1 := hp 4 (LC (by kernel_rfl))
   refine tyAt_yes (by simp [Region.wanted, yielded, h6, h7, h4]) ?_
   simp [tyUpon, execOp, go_sem, Act.eval, h6, h7, h4, hbz, hbz2, hbz3, hwr, hwc, Below.refl]
  ·have h5 : EV _ (fv 5) w1 := hp 5 (LC (by kernel_rfl))
   have h8 : EV _ (fv 8) w1 := hp 8 (LC (by kernel_rfl))
   have h4 : EV _ (fv 4) w1 := hp 4 (LC (by kernel_rfl))
   refine tyAt_yes (by simp [Region.wanted, yielded, h5, h8, h4]) ?_
   refine ty_call (f := 67) (args := #[.agg #[.int .i64 r, .int .i64 c, .slice (some ⟨w.heap.size, 0, none⟩) m m], .agg #[.int .i64 r, .int .i64 c, .slice none 0 0]]) (by simp [execOp, go_sem, Act.eval, h5, h8, h4]) ?_
   exact (HSm.out (.agg #[.int .i64 r, .int .i64 c, .slice (some ⟨w.heap.size, 0, none⟩) m m]) w1 (xm_of (PT.below (hT.get List.mem_cons_self) (below_drew hb1)) (Nat.le_refl _))).mono fun e w2 ⟨h1, h2⟩ => ⟨_, h1, rfl, h2⟩
  ·have h4 : EV _ (fv 4) w1 := hp 4 (LC (by kernel_rfl))
   refine tyAt_yes (by simp [Region.wanted, yielded, h4]) ?_
   simp [tyUpon, execOp, go_sem, Act.eval, h4, hbz, hbz2, hbz3, hwr, hwc, Below.refl]
  ·have h10 : EV _ (fv 10) w1 := hp 10 (LC (by kernel_rfl))
   have h4 : EV _ (fv 4) w1 := hp 4 (LC (by kernel_rfl))
   refine tyAt_yes (by simp [Region.wanted, yielded, h10, h4]) ?_
   have hc := (hL0.call (below_drew hb1)).fc
   simp only [fcG, cellsF, neK, and_true, ne_eq, Nat.zero_add, Nat.reduceAdd] at hc
   simp [tyUpon, execOp, go_sem, Act.eval, hc, h10, h4, hbz, hbz2, hbz3, hwr, hwc, Below.refl]
  ·have h11 : EV _ (fv 11) w1 := hp 11 (LC (by kernel_rfl))
   have h4 : EV _ (fv 4) w1 := hp 4 (LC (by kernel_rfl))
   refine tyAt_yes (by simp [Region.wanted, yielded, h11, h4]) ?_
   simp [tyUpon, execOp, go_sem, Act.eval, h11, h4, hbz, hbz2, hbz3, hwr, hwc, Below.refl]
  ·have h12 : EV _ (fv 12) w1 := hp 12 (LC (by kernel_rfl))
   have h4 : EV _ (fv 4) w1 := hp 4 (LC (by kernel_rfl))
   refine tyAt_yes (by simp [Region.wanted, yielded, h12, h4]) ?_
   simp [tyUpon, execOp, go_sem, Act.eval, h12, h4, hbz, hbz2, hbz3, hwr, hwc, Below.refl]
  ·have h9 : EV _ (fv 9) w1 := hp 9 (LC (by kernel_rfl))
   have h13 : EV _ (fv 13) w1 := hp 13 (LC (by kernel_rfl))
   have h4 : EV _ (fv 4) w1 := hp 4 (LC (by kernel_rfl))
   refine tyAt_yes (by simp [Region.wanted, yielded, h9, h13, h4]) ?_
   simp [tyUpon, execOp, go_sem, Act.eval, h9, h13, h4, hbz, hbz2, hbz3, hwr, hwc, Below.refl]
  ·have h4 : EV _ (fv 4) w1 := hp 4 (LC (by kernel_rfl))
   have h14 : EV _ (fv 14) w1 := hp 14 (LC (by kernel_rfl))
   refine tyAt_none rfl ?_
   simp [tyUpon, execOp, go_sem, Act.eval, h4, h14, hbz, hbz2, hbz3, hwr, hwc, Below.refl]
 ·intro fv x4 hb1 hv
  have e0 : fv 0 = _ := hv 0 (by omega)
  have e1 : fv 1 = _ := hv 1 (by omega)
  have e2 : fv 2 = _ := hv 2 (by omega)
  have e3 : fv 3 = _ := hv 3 (by omega)
  have e4 : fv 4 = _ := hv 4 (by omega)
  have e5 : fv 5 = _ := hv 5 (by omega)
  have e6 : fv 6 = _ := hv 6 (by omega)
  have e7 : fv 7 = _ := hv 7 (by omega)
  have e8 : fv 8 = _ := hv 8 (by omega)
  have e9 : fv 9 = _ := hv 9 (by omega)
  have e10 : fv 10 = _ := hv 10 (by omega)
  have e11 : fv 11 = _ := hv 11 (by omega)
  have e12 : fv 12 = _ := hv 12 (by omega)
  have e13 : fv 13 = _ := hv 13 (by omega)
  have e14 : fv 14 = _ := hv 14 (by omega)
  have e15 : fv 15 = _ := hv 15 (by omega)
  simp only [List.take_succ_cons, List.take_zero, putsV, Act.put, List.setIfInBounds_toArray, List.set_cons_succ, List.set_cons_zero, List.drop_succ_cons, List.drop_zero, Nat.zero_add, Nat.reduceAdd, e0, e1, e2, e3, e4, e5, e6, e7, e8, e9, e10, e11, e12, e13, e14, e15]
  replace hL0 := hL0.call (below_drew hb1)
  replace hT := hT.call (below_drew hb1)
  clear e0 e1 e2 e3 e4 e5 e6 e7 e8 e9 e10 e11 e12 e13 e14 e15 hb1 hv fv
  go_upto_region 13 with fail
  refine wp_region_lit ?_
  refine wpl_pure (fun u => u = .int .i64 i) ?_ ?_
  ·rw [if_pos (by simp [Region.wanted])]; exact ⟨.int .i64 i, by simp [execOp, go_sem, Act.eval, di0, di1, dk0, dk1], rfl⟩
  rintro _ rfl
  simp only [Act.put, List.setIfInBounds_toArray, List.set_cons_succ, List.set_cons_zero, Nat.zero_add, Nat.reduceAdd]
  refine wpl_pure (fun u => u = .bool bi0) ?_ ?_
  ·rw [if_pos (by simp [Region.wanted])]; exact ⟨.bool bi0, by simp [execOp, go_sem, Act.eval, di0, di1, dk0, dk1], rfl⟩
  rintro _ rfl
  simp only [Act.put, List.setIfInBounds_toArray, List.set_cons_succ, List.set_cons_zero, Nat.zero_add, Nat.reduceAdd]
  refine wpl_pure (fun u => u = .bool bi0) ?_ ?_
  ·rw [if_pos (by simp [Region.wanted])]; exact ⟨.bool bi0, by simp [execOp, go_sem, Act.eval, di0, di1, dk0, dk1], rfl⟩
  rintro _ rfl
  simp only [Act.put, List.setIfInBounds_toArray, List.set_cons_succ, List.set_cons_zero, Nat.zero_add, Nat.reduceAdd]
  refine wpl_pure (fun u => (bi0) = true → u = .int .i64 i) ?_ ?_
  ·by_cases hcb : (bi0) = true
   ·rw [if_pos (by simp [Region.wanted, yielded, hcb])]; exact ⟨.int .i64 i, by simp [execOp, go_sem, Act.eval, di0, di1, dk0, dk1], fun _ => rfl⟩
   ·have hcf : (bi0) = false := by simpa using hcb
    rw [if_neg (by simp [Region.wanted, yielded, hcf])]; exact fun h => absurd h hcb
  intro u13_3 hu13_3
  simp only [Act.put, List.setIfInBounds_toArray, List.set_cons_succ, List.set_cons_zero, Nat.zero_add, Nat.reduceAdd]
  refine wpl_pure (fun u => (bi0) = true → u = .int .i64 r) ?_ ?_
  ·by_cases hcb : (bi0) = true
   ·rw [if_pos (by simp [Region.wanted, yielded, hcb])]; exact ⟨.int .i64 r, by simp [execOp, go_sem, Act.eval, di0, di1, dk0, dk1], fun _ => rfl⟩
   ·have hcf : (bi0) = false := by simpa using hcb
    rw [if_neg (by simp [Region.wanted, yielded, hcf])]; exact fun h => absurd h hcb
  intro u13_4 hu13_4
  simp only [Act.put, List.setIfInBounds_toArray, List.set_cons_succ, List.set_cons_zero, Nat.zero_add, Nat.reduceAdd]
  refine wpl_pure (fun u => (bi0) = true → u = .bool bi1) ?_ ?_
  ·by_cases hcb : (bi0) = true
   ·rw [if_pos (by simp [Region.wanted, yielded, hcb])]; exact ⟨.bool bi1, by simp [execOp, go_sem, Act.eval, di0, di1, dk0, dk1, hu13_3 hcb, hu13_4 hcb], fun _ => rfl⟩
   ·have hcf : (bi0) = false := by simpa using hcb
    rw [if_neg (by simp [Region.wanted, yielded, hcf])]; exact fun h => absurd h hcb
  intro u13_5 hu13_5
  simp only [Act.put, List.setIfInBounds_toArray, List.set_cons_succ, List.set_cons_zero, Nat.zero_add, Nat.reduceAdd]
  refine wpl_pure (fun u => u = .bool (bi0 && bi1)) ?_ ?_
  ·rw [if_pos (by simp [Region.wanted])]
   by_cases hcb : (bi0) = true
   ·exact ⟨.bool (bi0 && bi1), by simp [execOp, go_sem, Act.eval, di0, di1, dk0, dk1, hcb, hu13_5 hcb], rfl⟩
   ·have hcf : (bi0) = false := by simpa using hcb
    exact ⟨.bool (bi0 && bi1), by simp [execOp, go_sem, Act.eval, di0, di1, dk0, dk1, hcf], rfl⟩
  rintro _ rfl
  simp only [Act.put, List.setIfInBounds_toArray, List.set_cons_succ, List.set_cons_zero, Nat.zero_add, Nat.reduceAdd]
  refine wpl_pure (fun u => u = .bool (bi0 && bi1)) ?_ ?_
  ·rw [if_pos (by simp [Region.wanted])]; exact ⟨.bool (bi0 && bi1), by simp [execOp, go_sem, Act.eval, di0, di1, dk0, dk1], rfl⟩
  rintro _ rfl
  simp only [Act.put, List.setIfInBounds_toArray, List.set_cons_succ, List.set_cons_zero, Nat.zero_add, Nat.reduceAdd]
  refine wpl_pure (fun u => ((bi0 && bi1)) = true → u = .int .i64 k) ?_ ?_
  ·by_cases hcb : ((bi0 && bi1)) = true
   ·rw [if_pos (by simp [Region.wanted, yielded, hcb])]; exact ⟨.int .i64 k, by simp [execOp, go_sem, Act.eval, di0, di1, dk0, dk1], fun _ => rfl⟩
   ·have hcf : ((bi0 && bi1)) = false := by simpa using hcb
    rw [if_neg (by simp [Region.wanted, yielded, hcf])]; exact fun h => absurd h hcb
  intro u13_8 hu13_8
  simp only [Act.put, List.setIfInBounds_toArray, List.set_cons_succ, List.set_cons_zero, Nat.zero_add, Nat.reduceAdd]
  refine wpl_pure (fun u => ((bi0 && bi1)) = true → u = .bool bk0) ?_ ?_
  ·by_cases hcb : ((bi0 && bi1)) = true
   ·rw [if_pos (by simp [Region.wanted, yielded, hcb])]; exact ⟨.bool bk0, by simp [execOp, go_sem, Act.eval, di0, di1, dk0, dk1, hu13_8 hcb], fun _ => rfl⟩
   ·have hcf : ((bi0 && bi1)) = false := by simpa using hcb
    rw [if_neg (by simp [Region.wanted, yielded, hcf])]; exact fun h => absurd h hcb
  intro u13_9 hu13_9
  simp only [Act.put, List.setIfInBounds_toArray, List.set_cons_succ, List.set_cons_zero, Nat.zero_add, Nat.reduceAdd]
  refine wpl_pure (fun u => u = .bool ((bi0 && bi1) && bk0)) ?_ ?_
  ·rw [if_pos (by simp [Region.wanted])]
   by_cases hcb : ((bi0 && bi1)) = true
   ·exact ⟨.bool ((bi0 && bi1) && bk0), by simp [execOp, go_sem, Act.eval, di0, di1, dk0, dk1, hcb, hu13_9 hcb], rfl⟩
   ·have hcf : ((bi0 && bi1)) = false := by simpa using hcb
    exact ⟨.bool ((bi0 && bi1) && bk0), by simp [execOp, go_sem, Act.eval, di0, di1, dk0, dk1, hcf], rfl⟩
  rintro _ rfl
  simp only [Act.put, List.setIfInBounds_toArray, List.set_cons_succ, List.set_cons_zero, Nat.zero_add, Nat.reduceAdd]
  refine wpl_pure (fun u => u = .bool ((bi0 && bi1) && bk0)) ?_ ?_
  ·rw [if_pos (by simp [Region.wanted])]; exact ⟨.bool ((bi0 && bi1) && bk0), by simp [execOp, go_sem, Act.eval, di0, di1, dk0, dk1], rfl⟩
  rintro _ rfl
  simp only [Act.put, List.setIfInBounds_toArray, List.set_cons_succ, List.set_cons_zero, Nat.zero_add, Nat.reduceAdd]
  refine wpl_pure (fun u => (((bi0 && bi1) && bk0)) = true → u = .int .i64 k) ?_ ?_
  ·by_cases hcb : (((bi0 && bi1) && bk0)) = true
   ·rw [if_pos (by simp [Region.wanted, yielded, hcb])]; exact ⟨.int .i64 k, by simp [execOp, go_sem, Act.eval, di0, di1, dk0, dk1], fun _ => rfl⟩
   ·have hcf : (((bi0 && bi1) && bk0)) = false := by simpa using hcb
    rw [if_neg (by simp [Region.wanted, yielded, hcf])]; exact fun h => absurd h hcb
  intro u13_12 hu13_12
  simp only [Act.put, List.setIfInBounds_toArray, List.set_cons_succ, List.set_cons_zero, Nat.zero_add, Nat.reduceAdd]
  refine wpl_pure (fun u => (((bi0 && bi1) && bk0)) = true → u = .int .i64 c) ?_ ?_
  ·by_cases hcb : (((bi0 && bi1) && bk0)) = true
   ·rw [if_pos (by simp [Region.wanted, yielded, hcb])]; exact ⟨.int .i64 c, by simp [execOp, go_sem, Act.eval, di0, di1, dk0, dk1], fun _ => rfl⟩
   ·have hcf : (((bi0 && bi1) && bk0)) = false := by simpa using hcb
    rw [if_neg (by simp [Region.wanted, yielded, hcf])]; exact fun h => absurd h hcb
  intro u13_13 hu13_13
  simp only [Act.put, List.setIfInBounds_toArray, List.set_cons_succ, List.set_cons_zero, Nat.zero_add, Nat.reduceAdd]
  refine wpl_pure (fun u => (((bi0 && bi1) && bk0)) = true → u = .bool bk1) ?_ ?_
  ·by_cases hcb : (((bi0 && bi1) && bk0)) = true
   ·rw [if_pos (by simp [Region.wanted, yielded, hcb])]; exact ⟨.bool bk1, by simp [execOp, go_sem, Act.eval, di0, di1, dk0, dk1, hu13_12 hcb, hu13_13 hcb], fun _ => rfl⟩
   ·have hcf : (((bi0 && bi1) && bk0)) = false := by simpa using hcb
    rw [if_neg (by simp [Region.wanted, yielded, hcf])]; exact fun h => absurd h hcb
  intro u13_14 hu13_14
  simp only [Act.put, List.setIfInBounds_toArray, List.set_cons_succ, List.set_cons_zero, Nat.zero_add, Nat.reduceAdd]
  refine wpl_pure (fun u => u = .bool (((bi0 && bi1) && bk0) && bk1)) ?_ ?_
  ·rw [if_pos (by simp [Region.wanted])]
   by_cases hcb : (((bi0 && bi1) && bk0)) = true
   ·exact ⟨.bool (((bi0 && bi1) && bk0) && bk1), by simp [execOp, go_sem, Act.eval, di0, di1, dk0, dk1, hcb, hu13_14 hcb], rfl⟩
   ·have hcf : (((bi0 && bi1) && bk0)) = false := by simpa using hcb
    exact ⟨.bool (((bi0 && bi1) && bk0) && bk1), by simp [execOp, go_sem, Act.eval, di0, di1, dk0, dk1, hcf], rfl⟩
  rintro _ rfl
  simp only [Act.put, List.setIfInBounds_toArray, List.set_cons_succ, List.set_cons_zero, Nat.zero_add, Nat.reduceAdd]
  refine wpl_pure (fun u => u = .bool (((bi0 && bi1) && bk0) && bk1)) ?_ ?_
  ·rw [if_pos (by simp [Region.wanted])]; exact ⟨.bool (((bi0 && bi1) && bk0) && bk1), by simp [execOp, go_sem, Act.eval, di0, di1, dk0, dk1], rfl⟩
  rintro _ rfl
  simp only [Act.put, List.setIfInBounds_toArray, List.set_cons_succ, List.set_cons_zero, Nat.zero_add, Nat.reduceAdd]
  clear hu13_3 hu13_4 hu13_5 hu13_8 hu13_9 hu13_12 hu13_13 hu13_14
  have hN0 := cells_of _ 0 [] rfl (hL0.get _ _ List.mem_cons_self)
  simp only [cellsF, and_true, Nat.zero_add, Nat.reduceAdd] at hN0
  go_wp2_with fail
  clear hN0
  with_reducible refine Calls.mono (HAt.out (.agg #[.int .i64 r, .int .i64 c, .slice (some ⟨w.heap.size, 0, none⟩) m m]) _ (xm_of (hT.get List.mem_cons_self) (Nat.le_refl _))) ?_
  rintro e x5 ⟨rfl, hb⟩
  replace hL0 := hL0.call hb
  replace hT := hT.call hb
  clear hb
  clear hmkm'
  have hSo := Lib.hid hT
  replace hT := (hT.new (.cells #[.int .u64 0, .string ⟨#[]⟩, .bool false, .int .u64 0, .string ⟨#[]⟩] 38))
  replace hL0 := (hL0.new rfl [.int .u64 0, .string ⟨#[]⟩, .bool false, .int .u64 0, .string ⟨#[]⟩] 38)
  generalize hweq : (x5.alloc (.cells #[.int .u64 0, .string ⟨#[]⟩, .bool false, .int .u64 0, .string ⟨#[]⟩] 38)) = x6 at hL0 hT
  have hkb := Lib.hid (show x5.heap.size ≤ x5.heap.size by omega)
  have hT1 := hT.putN hSo.out hkb.out ((((((Upd.refl x5.heap.size x6).setCell 0 (.int .u64 0)).setCell 1 (.string ⟨#[]⟩)).setCell 2 (.bool false)).setCell 3 (.int .u64 0)).setCell 4 (.string ⟨#[]⟩))
  have hA := hL0.fc
  simp only [fcG, cellsF, neK, and_true, ne_eq, Nat.zero_add, Nat.reduceAdd] at hA
  have hP := hL0.put 0 (x5.heap.size) _ rfl [.int .u64 0, .string ⟨#[]⟩, .bool false, .int .u64 0, .string ⟨#[]⟩] rfl
  simp only [setAll, List.set_cons_zero, List.set_cons_succ] at hP
  generalize hput2 : (((((x6.setCell ⟨x5.heap.size, 0, none⟩ (.int .u64 0)).setCell ⟨x5.heap.size, 1, none⟩ (.string ⟨#[]⟩)).setCell ⟨x5.heap.size, 2, none⟩ (.bool false)).setCell ⟨x5.heap.size, 3, none⟩ (.int .u64 0)).setCell ⟨x5.heap.size, 4, none⟩ (.string ⟨#[]⟩)) = x7 at hP hT1
  have hB2 := hP.fc
  simp only [fcG, cellsF, neK, and_true, ne_eq, Nat.zero_add, Nat.reduceAdd] at hB2
  replace hL0 := hP
  replace hT := hT1
  clear hT1 hSo hkb
  go_wp2_with fail
  clear hA
  with_reducible refine Calls.mono (HRo.out (.agg #[.int .i64 r, .int .i64 c, .slice (some ⟨w.heap.size, 0, none⟩) m m]) _ (xm_of (hT.get List.mem_cons_self) (Nat.le_refl _))) ?_
  rintro e x8 ⟨v0, rfl, q0, hb⟩
  replace hL0 := hL0.call hb
  replace hT := hT.call hb
  clear hb hweq hput2 hB2
  obtain ⟨g1, d1, g1c, rfl⟩ := id q0
  clear q0
  have hN0 := cells_of _ 0 [] rfl (hL0.get _ _ (List.mem_cons_of_mem _ List.mem_cons_self))
  simp only [cellsF, and_true, Nat.zero_add, Nat.reduceAdd] at hN0
  go_wp2_with fail
  clear hN0
  with_reducible refine Calls.mono (HCo.out (.agg #[.int .i64 r, .int .i64 c, .slice (some ⟨w.heap.size, 0, none⟩) m m]) _ (xm_of (hT.get List.mem_cons_self) (Nat.le_refl _))) ?_
  rintro e x9 ⟨v0, rfl, q0, hb⟩
  replace hL0 := hL0.call hb
  replace hT := hT.call hb
  clear hb
  obtain ⟨g2, d2, g2c, rfl⟩ := id q0
  clear q0
  have hZ0 := cells_of _ 0 [] rfl (hL0.get _ _ (List.mem_cons_of_mem _ List.mem_cons_self))
  simp only [cellsF, and_true, Nat.zero_add, Nat.reduceAdd] at hZ0
  replace hT := (hT.new (.cells #[.int .i64 i] 3))
  replace hL0 := (hL0.new rfl [.int .i64 i] 3)
  generalize hweq : (x9.alloc (.cells #[.int .i64 i] 3)) = x10 at hL0 hT
  have hN0 := cells_of _ 0 [] rfl (hL0.get _ _ (List.mem_cons_of_mem _ (List.mem_cons_of_mem _ List.mem_cons_self)))
  simp only [cellsF, and_true, Nat.zero_add, Nat.reduceAdd] at hN0
  have hbv1 : ILs x10 (.slice (some ⟨x9.heap.size, 0, none⟩) 1 1) [i] := ils_at (hL0.get _ _ List.mem_cons_self) rfl rfl
  replace hbv1 := Lib.hid hbv1
  go_wp2_with fail
  clear hN0
  with_reducible refine Calls.mono (HP1.out (.agg #[.int .i64 r, .int .i64 c, .slice (some ⟨w.heap.size, 0, none⟩) m m]) (.slice (some ⟨x9.heap.size, 0, none⟩) 1 1) _ (xm_of (hT.get List.mem_cons_self) (Nat.le_refl _)) hbv1.out) ?_
  rintro e x11 ⟨v0, rfl, q0, hb⟩
  replace hL0 := hL0.call hb
  replace hT := hT.call hb
  clear hb hweq
  clear hZ0
  obtain ⟨g3a, g3b, g3, d3, g3c, rfl⟩ := id q0
  clear q0
  replace hT := (hT.new (.cells #[.int .i64 0, .int .i64 0, .slice none 0 0] 81))
  replace hL0 := (hL0.new rfl [.int .i64 0, .int .i64 0, .slice none 0 0] 81)
  generalize hweq : (x11.alloc (.cells #[.int .i64 0, .int .i64 0, .slice none 0 0] 81)) = x12 at hL0 hT
  have hT1 := hT.putM ((((Upd.refl x11.heap.size x12).setCell 0 (.int .i64 g3a)).setCell 1 (.int .i64 g3b)).setCell 2 (.slice g3 d3 g3c)) (hL0.get _ _ List.mem_cons_self) (by intro n; simp)
  have hA := hL0.fc
  simp only [fcG, cellsF, neK, and_true, ne_eq, Nat.zero_add, Nat.reduceAdd] at hA
  have hP := hL0.put 0 (x11.heap.size) _ rfl [.int .i64 g3a, .int .i64 g3b, .slice g3 d3 g3c] rfl
  simp only [setAll, List.set_cons_zero, List.set_cons_succ] at hP
  generalize hput3 : (((x12.setCell ⟨x11.heap.size, 0, none⟩ (.int .i64 g3a)).setCell ⟨x11.heap.size, 1, none⟩ (.int .i64 g3b)).setCell ⟨x11.heap.size, 2, none⟩ (.slice g3 d3 g3c)) = x13 at hP hT1
  have hB3 := hP.fc
  simp only [fcG, cellsF, neK, and_true, ne_eq, Nat.zero_add, Nat.reduceAdd] at hB3
  replace hL0 := hP
  replace hT := hT1
  clear hT1
  go_upto_region 18 with fail
  clear hA
  clear hweq
  clear hput3 hB3
  have hZ0 := cells_of _ 0 [] rfl (hL0.get _ _ (List.mem_cons_of_mem _ (List.mem_cons_of_mem _ (List.mem_cons_of_mem _ List.mem_cons_self))))
  simp only [cellsF, and_true, Nat.zero_add, Nat.reduceAdd] at hZ0
  replace hT := (hT.new (.cells #[.int .i64 k] 3))
  replace hL0 := (hL0.new rfl [.int .i64 k] 3)
  generalize hweq : (x13.alloc (.cells #[.int .i64 k] 3)) = x14 at hL0 hT
  have hN0 := cells_of _ 0 [] rfl (hL0.get _ _ (List.mem_cons_of_mem _ (List.mem_cons_of_mem _ (List.mem_cons_of_mem _ (List.mem_cons_of_mem _ List.mem_cons_self)))))
  simp only [cellsF, and_true, Nat.zero_add, Nat.reduceAdd] at hN0
  have hbv2 : ILs x14 (.slice (some ⟨x13.heap.size, 0, none⟩) 1 1) [k] := ils_at (hL0.get _ _ List.mem_cons_self) rfl rfl
  replace hbv2 := Lib.hid hbv2
  go_wp2_with fail
  clear hN0
  with_reducible refine Calls.mono (HP2.out (.agg #[.int .i64 r, .int .i64 c, .slice (some ⟨w.heap.size, 0, none⟩) m m]) (.slice (some ⟨x13.heap.size, 0, none⟩) 1 1) _ (xm_of (hT.get List.mem_cons_self) (Nat.le_refl _)) hbv2.out) ?_
  rintro e x15 ⟨v0, rfl, q0, hb⟩
  replace hL0 := hL0.call hb
  replace hT := hT.call hb
  clear hb hweq
  clear hZ0
  obtain ⟨g4a, g4b, g4, d4, g4c, rfl⟩ := id q0
  clear q0
  replace hT := (hT.new (.cells #[.int .i64 0, .int .i64 0, .slice none 0 0] 81))
  replace hL0 := (hL0.new rfl [.int .i64 0, .int .i64 0, .slice none 0 0] 81)
  generalize hweq : (x15.alloc (.cells #[.int .i64 0, .int .i64 0, .slice none 0 0] 81)) = x16 at hL0 hT
  have hT1 := hT.putM ((((Upd.refl x15.heap.size x16).setCell 0 (.int .i64 g4a)).setCell 1 (.int .i64 g4b)).setCell 2 (.slice g4 d4 g4c)) (hL0.get _ _ List.mem_cons_self) (by intro n; simp)
  have hA := hL0.fc
  simp only [fcG, cellsF, neK, and_true, ne_eq, Nat.zero_add, Nat.reduceAdd] at hA
  have hP := hL0.put 0 (x15.heap.size) _ rfl [.int .i64 g4a, .int .i64 g4b, .slice g4 d4 g4c] rfl
  simp only [setAll, List.set_cons_zero, List.set_cons_succ] at hP
  generalize hput4 : (((x16.setCell ⟨x15.heap.size, 0, none⟩ (.int .i64 g4a)).setCell ⟨x15.heap.size, 1, none⟩ (.int .i64 g4b)).setCell ⟨x15.heap.size, 2, none⟩ (.slice g4 d4 g4c)) = x17 at hP hT1
  have hB4 := hP.fc
  simp only [fcG, cellsF, neK, and_true, ne_eq, Nat.zero_add, Nat.reduceAdd] at hB4
  replace hL0 := hP
  replace hT := hT1
  clear hT1
  go_upto_region 19 with fail
  clear hA
  clear hweq
  clear hput4 hB4
  refine wp_region_lit ?_
  refine wpl_pure (fun u => u = .int .i64 i) ?_ ?_
  ·rw [if_pos (by simp [Region.wanted])]; exact ⟨.int .i64 i, by simp [execOp, go_sem, Act.eval, di0, di1, dk0, dk1], rfl⟩
  rintro _ rfl
  simp only [Act.put, List.setIfInBounds_toArray, List.set_cons_succ, List.set_cons_zero, Nat.zero_add, Nat.reduceAdd]
  refine wpl_pure (fun u => u = .bool bi0) ?_ ?_
  ·rw [if_pos (by simp [Region.wanted])]; exact ⟨.bool bi0, by simp [execOp, go_sem, Act.eval, di0, di1, dk0, dk1], rfl⟩
  rintro _ rfl
  simp only [Act.put, List.setIfInBounds_toArray, List.set_cons_succ, List.set_cons_zero, Nat.zero_add, Nat.reduceAdd]
  refine wpl_pure (fun u => u = .bool bi0) ?_ ?_
  ·rw [if_pos (by simp [Region.wanted])]; exact ⟨.bool bi0, by simp [execOp, go_sem, Act.eval, di0, di1, dk0, dk1], rfl⟩
  rintro _ rfl
  simp only [Act.put, List.setIfInBounds_toArray, List.set_cons_succ, List.set_cons_zero, Nat.zero_add, Nat.reduceAdd]
  refine wpl_pure (fun u => (bi0) = true → u = .int .i64 i) ?_ ?_
  ·by_cases hcb : (bi0) = true
   ·rw [if_pos (by simp [Region.wanted, yielded, hcb])]; exact ⟨.int .i64 i, by simp [execOp, go_sem, Act.eval, di0, di1, dk0, dk1], fun _ => rfl⟩
   ·have hcf : (bi0) = false := by simpa using hcb
    rw [if_neg (by simp [Region.wanted, yielded, hcf])]; exact fun h => absurd h hcb
  intro u19_3 hu19_3
  simp only [Act.put, List.setIfInBounds_toArray, List.set_cons_succ, List.set_cons_zero, Nat.zero_add, Nat.reduceAdd]
  refine wpl_pure (fun u => (bi0) = true → u = .int .i64 r) ?_ ?_
  ·by_cases hcb : (bi0) = true
   ·rw [if_pos (by simp [Region.wanted, yielded, hcb])]; exact ⟨.int .i64 r, by simp [execOp, go_sem, Act.eval, di0, di1, dk0, dk1], fun _ => rfl⟩
   ·have hcf : (bi0) = false := by simpa using hcb
    rw [if_neg (by simp [Region.wanted, yielded, hcf])]; exact fun h => absurd h hcb
  intro u19_4 hu19_4
  simp only [Act.put, List.setIfInBounds_toArray, List.set_cons_succ, List.set_cons_zero, Nat.zero_add, Nat.reduceAdd]
  refine wpl_pure (fun u => (bi0) = true → u = .bool bi1) ?_ ?_
  ·by_cases hcb : (bi0) = true
   ·rw [if_pos (by simp [Region.wanted, yielded, hcb])]; exact ⟨.bool bi1, by simp [execOp, go_sem, Act.eval, di0, di1, dk0, dk1, hu19_3 hcb, hu19_4 hcb], fun _ => rfl⟩
   ·have hcf : (bi0) = false := by simpa using hcb
    rw [if_neg (by simp [Region.wanted, yielded, hcf])]; exact fun h => absurd h hcb
  intro u19_5 hu19_5
  simp only [Act.put, List.setIfInBounds_toArray, List.set_cons_succ, List.set_cons_zero, Nat.zero_add, Nat.reduceAdd]
  refine wpl_pure (fun u => u = .bool (bi0 && bi1)) ?_ ?_
  ·rw [if_pos (by simp [Region.wanted])]
   by_cases hcb : (bi0) = true
   ·exact ⟨.bool (bi0 && bi1), by simp [execOp, go_sem, Act.eval, di0, di1, dk0, dk1, hcb, hu19_5 hcb], rfl⟩
   ·have hcf : (bi0) = false := by simpa using hcb
    exact ⟨.bool (bi0 && bi1), by simp [execOp, go_sem, Act.eval, di0, di1, dk0, dk1, hcf], rfl⟩
  rintro _ rfl
  simp only [Act.put, List.setIfInBounds_toArray, List.set_cons_succ, List.set_cons_zero, Nat.zero_add, Nat.reduceAdd]
  refine wpl_pure (fun u => u = .int .i64 k) ?_ ?_
  ·rw [if_pos (by simp [Region.wanted])]; exact ⟨.int .i64 k, by simp [execOp, go_sem, Act.eval, di0, di1, dk0, dk1], rfl⟩
  rintro _ rfl
  simp only [Act.put, List.setIfInBounds_toArray, List.set_cons_succ, List.set_cons_zero, Nat.zero_add, Nat.reduceAdd]
  refine wpl_pure (fun u => u = .bool bk0) ?_ ?_
  ·rw [if_pos (by simp [Region.wanted])]; exact ⟨.bool bk0, by simp [execOp, go_sem, Act.eval, di0, di1, dk0, dk1], rfl⟩
  rintro _ rfl
  simp only [Act.put, List.setIfInBounds_toArray, List.set_cons_succ, List.set_cons_zero, Nat.zero_add, Nat.reduceAdd]
  refine wpl_pure (fun u => u = .bool bk0) ?_ ?_
  ·rw [if_pos (by simp [Region.wanted])]; exact ⟨.bool bk0, by simp [execOp, go_sem, Act.eval, di0, di1, dk0, dk1], rfl⟩
  rintro _ rfl
  simp only [Act.put, List.setIfInBounds_toArray, List.set_cons_succ, List.set_cons_zero, Nat.zero_add, Nat.reduceAdd]
  refine wpl_pure (fun u => (bk0) = true → u = .int .i64 k) ?_ ?_
  ·by_cases hcb : (bk0) = true
   ·rw [if_pos (by simp [Region.wanted, yielded, hcb])]; exact ⟨.int .i64 k, by simp [execOp, go_sem, Act.eval, di0, di1, dk0, dk1], fun _ => rfl⟩
   ·have hcf : (bk0) = false := by simpa using hcb
    rw [if_neg (by simp [Region.wanted, yielded, hcf])]; exact fun h => absurd h hcb
  intro u19_10 hu19_10
  simp only [Act.put, List.setIfInBounds_toArray, List.set_cons_succ, List.set_cons_zero, Nat.zero_add, Nat.reduceAdd]
  refine wpl_pure (fun u => (bk0) = true → u = .int .i64 c) ?_ ?_
  ·by_cases hcb : (bk0) = true
   ·rw [if_pos (by simp [Region.wanted, yielded, hcb])]; exact ⟨.int .i64 c, by simp [execOp, go_sem, Act.eval, di0, di1, dk0, dk1], fun _ => rfl⟩
   ·have hcf : (bk0) = false := by simpa using hcb
    rw [if_neg (by simp [Region.wanted, yielded, hcf])]; exact fun h => absurd h hcb
  intro u19_11 hu19_11
  simp only [Act.put, List.setIfInBounds_toArray, List.set_cons_succ, List.set_cons_zero, Nat.zero_add, Nat.reduceAdd]
  refine wpl_pure (fun u => (bk0) = true → u = .bool bk1) ?_ ?_
  ·by_cases hcb : (bk0) = true
   ·rw [if_pos (by simp [Region.wanted, yielded, hcb])]; exact ⟨.bool bk1, by simp [execOp, go_sem, Act.eval, di0, di1, dk0, dk1, hu19_10 hcb, hu19_11 hcb], fun _ => rfl⟩
   ·have hcf : (bk0) = false := by simpa using hcb
    rw [if_neg (by simp [Region.wanted, yielded, hcf])]; exact fun h => absurd h hcb
  intro u19_12 hu19_12
  simp only [Act.put, List.setIfInBounds_toArray, List.set_cons_succ, List.set_cons_zero, Nat.zero_add, Nat.reduceAdd]
  refine wpl_pure (fun u => u = .bool (bk0 && bk1)) ?_ ?_
  ·rw [if_pos (by simp [Region.wanted])]
   by_cases hcb : (bk0) = true
   ·exact ⟨.bool (bk0 && bk1), by simp [execOp, go_sem, Act.eval, di0, di1, dk0, dk1, hcb, hu19_12 hcb], rfl⟩
   ·have hcf : (bk0) = false := by simpa using hcb
    exact ⟨.bool (bk0 && bk1), by simp [execOp, go_sem, Act.eval, di0, di1, dk0, dk1, hcf], rfl⟩
  rintro _ rfl
  simp only [Act.put, List.setIfInBounds_toArray, List.set_cons_succ, List.set_cons_zero, Nat.zero_add, Nat.reduceAdd]
  refine wpl_pure (fun u => u = .bool (bi0 && bi1)) ?_ ?_
  ·rw [if_pos (by simp [Region.wanted])]; exact ⟨.bool (bi0 && bi1), by simp [execOp, go_sem, Act.eval, di0, di1, dk0, dk1], rfl⟩
  rintro _ rfl
  simp only [Act.put, List.setIfInBounds_toArray, List.set_cons_succ, List.set_cons_zero, Nat.zero_add, Nat.reduceAdd]
  refine wpl_pure (fun u => u = .bool (bk0 && bk1)) ?_ ?_
  ·rw [if_pos (by simp [Region.wanted])]; exact ⟨.bool (bk0 && bk1), by simp [execOp, go_sem, Act.eval, di0, di1, dk0, dk1], rfl⟩
  rintro _ rfl
  simp only [Act.put, List.setIfInBounds_toArray, List.set_cons_succ, List.set_cons_zero, Nat.zero_add, Nat.reduceAdd]
  clear hu19_3 hu19_4 hu19_5 hu19_10 hu19_11 hu19_12
  have hZ0 := cells_of _ 0 [] rfl (hL0.get _ _ (List.mem_cons_of_mem _ (List.mem_cons_of_mem _ (List.mem_cons_of_mem _ (List.mem_cons_of_mem _ List.mem_cons_self)))))
  simp only [cellsF, and_true, Nat.zero_add, Nat.reduceAdd] at hZ0
  replace hT := (hT.new (.cells #[.int .i64 er, .int .i64 ef, .int .i64 eg, .int .i64 eh] 49))
  replace hL0 := (hL0.new rfl [.int .i64 er, .int .i64 ef, .int .i64 eg, .int .i64 eh] 49)
  generalize hweq : (x17.alloc (.cells #[.int .i64 er, .int .i64 ef, .int .i64 eg, .int .i64 eh] 49)) = x18 at hL0 hT
  have hN0 := cells_of _ 0 [] rfl (hL0.get _ _ (List.mem_cons_of_mem _ (List.mem_cons_of_mem _ (List.mem_cons_of_mem _ (List.mem_cons_of_mem _ (List.mem_cons_of_mem _ List.mem_cons_self))))))
  simp only [cellsF, and_true, Nat.zero_add, Nat.reduceAdd] at hN0
  go_wp2_with fail
  clear hN0
  clear hweq
  clear hZ0
  have hbc := Lib.hid (hL0.get _ _ List.mem_cons_self)
  go_loopg [194] 4 (fun gk iv wr => ∃ (k : Nat) (zi : Int), k + gk = 4 ∧ iv = .int .i64 zi ∧ zi = (k : Int) ∧ Below x18.heap.size x18 wr)
  case atStart => exact ⟨0, 0, rfl, by first | rfl | go_num, rfl, Below.refl _ _⟩
  case round =>
   obtain ⟨ki, zi, hik, rfl, hzi, hB⟩ := hrel
   rcases Nat.lt_or_ge ki 4 with hin | hin
   ·subst hzi
    have k1 : (ki : Int) < 4 := by omega
    have k0 : (0 : Int) ≤ (ki : Int) := Int.natCast_nonneg _
    have kb : (ki : Int) ≤ 100 := by omega
    obtain ⟨ez, hez, hcell⟩ : ∃ ez : Int, (ez = 0 ∨ ez = 1) ∧ wr.cell? ⟨x17.heap.size, ki, none⟩ = some (.int .i64 ez) := by
     have hcc := hbc.out.below hB
     rcases (by omega : ki = 0 ∨ ki = 1 ∨ ki = 2 ∨ ki = 3) with rfl | rfl | rfl | rfl
     ·exact ⟨_, her.out, hcc.cell 0 (by simp)⟩
     ·exact ⟨_, hef.out, hcc.cell 1 (by simp)⟩
     ·exact ⟨_, heg.out, hcc.cell 2 (by simp)⟩
     ·exact ⟨_, heh.out, hcc.cell 3 (by simp)⟩
    replace hB := Lib.hid hB
    clear hL0 hT hbc
    rcases hez with rfl | rfl
    all_goals (
     go_wp2_with fail
     go_roundg (4 - (ki + 1))
     case measure => omega
     case rel => exact ⟨ki + 1, _, by omega, by first | rfl | go_num, by omega, hB.out⟩)
   ·have hz4 : zi = 4 := by omega
    subst hz4
    replace hL0 := hL0.call hB
    replace hT := hT.call hB
    clear hB hbc hzi hik hin
    have hN0 := cells_of _ 0 [] rfl (hL0.get _ _ (List.mem_cons_of_mem _ (List.mem_cons_of_mem _ (List.mem_cons_of_mem _ (List.mem_cons_of_mem _ (List.mem_cons_of_mem _ List.mem_cons_self))))))
    simp only [cellsF, and_true, Nat.zero_add, Nat.reduceAdd] at hN0
    go_upto_region 28 with fail
    clear hN0
    have hmkpm' := hmkpm.out wr
    have hb0 : Below wr.heap.size wr (wr.alloc (.cells (frCs (List.replicate pm 0)).toArray 38)) := (Below.refl _ _).alloc (Nat.le_refl _) _
    have hq0 : SlQ (wr.alloc (.cells (frCs (List.replicate pm 0)).toArray 38)) (.slice (some ⟨wr.heap.size, 0, none⟩) pm pm) (List.replicate pm 0) := slq_new0 (hd_new wr (frCs (List.replicate pm 0)) _)
    generalize hwz : (wr.alloc (.cells (frCs (List.replicate pm 0)).toArray 38)) = x19 at hb0 hq0
    rw [hwz] at hmkpm'
    replace hL0 := hL0.call hb0
    replace hT := hT.call hb0
    replace hT := hT.cons hq0
    clear hb0 hq0 hwz
    replace hT := (hT.new (.cells #[.int .i64 0, .int .i64 0, .slice none 0 0] 81))
    replace hL0 := (hL0.new rfl [.int .i64 0, .int .i64 0, .slice none 0 0] 81)
    generalize hweq : (x19.alloc (.cells #[.int .i64 0, .int .i64 0, .slice none 0 0] 81)) = x20 at hL0 hT
    have hT1 := hT.putM ((((Upd.refl x19.heap.size x20).setCell 0 (.int .i64 (rs : Int))).setCell 1 (.int .i64 c)).setCell 2 (.slice (some ⟨wr.heap.size, 0, none⟩) pm pm)) (hL0.get _ _ List.mem_cons_self) (by intro n; simp)
    have hA := hL0.fc
    simp only [fcG, cellsF, neK, and_true, ne_eq, Nat.zero_add, Nat.reduceAdd] at hA
    have hP := hL0.put 0 (x19.heap.size) _ rfl [.int .i64 (rs : Int), .int .i64 c, .slice (some ⟨wr.heap.size, 0, none⟩) pm pm] rfl
    simp only [setAll, List.set_cons_zero, List.set_cons_succ] at hP
    generalize hput5 : (((x20.setCell ⟨x19.heap.size, 0, none⟩ (.int .i64 (rs : Int))).setCell ⟨x19.heap.size, 1, none⟩ (.int .i64 c)).setCell ⟨x19.heap.size, 2, none⟩ (.slice (some ⟨wr.heap.size, 0, none⟩) pm pm)) = x21 at hP hT1
    have hB5 := hP.fc
    simp only [fcG, cellsF, neK, and_true, ne_eq, Nat.zero_add, Nat.reduceAdd] at hB5
    replace hL0 := hP
    replace hT := hT1
    clear hT1
    go_wp2_with fail
    clear hA
    with_reducible refine Calls.mono (HAd.out (.agg #[.int .i64 r, .int .i64 c, .slice (some ⟨w.heap.size, 0, none⟩) m m]) (.agg #[.int .i64 (rs : Int), .int .i64 c, .slice (some ⟨wr.heap.size, 0, none⟩) pm pm]) _ (xm_of (hT.get (List.mem_cons_of_mem _ List.mem_cons_self)) (Nat.le_refl _)) (xm_of (hT.get List.mem_cons_self) (Nat.le_refl _))) ?_
    rintro e x22 ⟨rfl, hb⟩
    replace hL0 := hL0.call hb
    replace hT := hT.call hb
    clear hb hweq hput5 hB5
    clear hmkpm'
    replace hT := (hT.new (.cells #[.int .i64 0, .int .i64 0, .slice none 0 0] 81))
    replace hL0 := (hL0.new rfl [.int .i64 0, .int .i64 0, .slice none 0 0] 81)
    generalize hweq : (x22.alloc (.cells #[.int .i64 0, .int .i64 0, .slice none 0 0] 81)) = x23 at hL0 hT
    have hT1 := hT.putM ((((Upd.refl x22.heap.size x23).setCell 0 (.int .i64 0)).setCell 1 (.int .i64 0)).setCell 2 (.slice none 0 0)) (hL0.get _ _ List.mem_cons_self) (by intro n; simp)
    have hA := hL0.fc
    simp only [fcG, cellsF, neK, and_true, ne_eq, Nat.zero_add, Nat.reduceAdd] at hA
    have hP := hL0.put 0 (x22.heap.size) _ rfl [.int .i64 0, .int .i64 0, .slice none 0 0] rfl
    simp only [setAll, List.set_cons_zero, List.set_cons_succ] at hP
    generalize hput6 : (((x23.setCell ⟨x22.heap.size, 0, none⟩ (.int .i64 0)).setCell ⟨x22.heap.size, 1, none⟩ (.int .i64 0)).setCell ⟨x22.heap.size, 2, none⟩ (.slice none 0 0)) = x24 at hP hT1
    have hB6 := hP.fc
    simp only [fcG, cellsF, neK, and_true, ne_eq, Nat.zero_add, Nat.reduceAdd] at hB6
    replace hL0 := hP
    replace hT := hT1
    clear hT1
    go_wp2_with fail
    clear hA
    with_reducible refine Calls.mono (HSu.out (.agg #[.int .i64 (rs : Int), .int .i64 c, .slice (some ⟨wr.heap.size, 0, none⟩) pm pm]) (.agg #[.int .i64 r, .int .i64 c, .slice (some ⟨w.heap.size, 0, none⟩) m m]) _ (xm_of (hT.get List.mem_cons_self) (Nat.le_refl _)) (xm_of (hT.get (List.mem_cons_of_mem _ List.mem_cons_self)) (Nat.le_refl _))) ?_
    rintro e x25 ⟨rfl, hb⟩
    replace hL0 := hL0.call hb
    replace hT := hT.call hb
    clear hb hweq hput6 hB6
    replace hT := (hT.new (.cells #[.int .i64 0, .int .i64 0, .slice none 0 0] 81))
    replace hL0 := (hL0.new rfl [.int .i64 0, .int .i64 0, .slice none 0 0] 81)
    generalize hweq : (x25.alloc (.cells #[.int .i64 0, .int .i64 0, .slice none 0 0] 81)) = x26 at hL0 hT
    have hT1 := hT.putM ((((Upd.refl x25.heap.size x26).setCell 0 (.int .i64 0)).setCell 1 (.int .i64 0)).setCell 2 (.slice none 0 0)) (hL0.get _ _ List.mem_cons_self) (by intro n; simp)
    have hA := hL0.fc
    simp only [fcG, cellsF, neK, and_true, ne_eq, Nat.zero_add, Nat.reduceAdd] at hA
    have hP := hL0.put 0 (x25.heap.size) _ rfl [.int .i64 0, .int .i64 0, .slice none 0 0] rfl
    simp only [setAll, List.set_cons_zero, List.set_cons_succ] at hP
    generalize hput7 : (((x26.setCell ⟨x25.heap.size, 0, none⟩ (.int .i64 0)).setCell ⟨x25.heap.size, 1, none⟩ (.int .i64 0)).setCell ⟨x25.heap.size, 2, none⟩ (.slice none 0 0)) = x27 at hP hT1
    have hB7 := hP.fc
    simp only [fcG, cellsF, neK, and_true, ne_eq, Nat.zero_add, Nat.reduceAdd] at hB7
    replace hL0 := hP
    replace hT := hT1
    clear hT1
    go_wp2_with fail
    clear hA
    with_reducible refine Calls.mono (HMu.out (.agg #[.int .i64 r, .int .i64 c, .slice (some ⟨w.heap.size, 0, none⟩) m m]) _ (xm_of (hT.get (List.mem_cons_of_mem _ List.mem_cons_self)) (Nat.le_refl _))) ?_
    rintro e x28 ⟨rfl, hb⟩
    replace hL0 := hL0.call hb
    replace hT := hT.call hb
    clear hb hweq hput7 hB7
    replace hT := (hT.new (.cells #[.int .i64 0, .int .i64 0, .slice none 0 0] 81))
    replace hL0 := (hL0.new rfl [.int .i64 0, .int .i64 0, .slice none 0 0] 81)
    generalize hweq : (x28.alloc (.cells #[.int .i64 0, .int .i64 0, .slice none 0 0] 81)) = x29 at hL0 hT
    have hT1 := hT.putM ((((Upd.refl x28.heap.size x29).setCell 0 (.int .i64 0)).setCell 1 (.int .i64 0)).setCell 2 (.slice none 0 0)) (hL0.get _ _ List.mem_cons_self) (by intro n; simp)
    have hA := hL0.fc
    simp only [fcG, cellsF, neK, and_true, ne_eq, Nat.zero_add, Nat.reduceAdd] at hA
    have hP := hL0.put 0 (x28.heap.size) _ rfl [.int .i64 0, .int .i64 0, .slice none 0 0] rfl
    simp only [setAll, List.set_cons_zero, List.set_cons_succ] at hP
    generalize hput8 : (((x29.setCell ⟨x28.heap.size, 0, none⟩ (.int .i64 0)).setCell ⟨x28.heap.size, 1, none⟩ (.int .i64 0)).setCell ⟨x28.heap.size, 2, none⟩ (.slice none 0 0)) = x30 at hP hT1
    have hB8 := hP.fc
    simp only [fcG, cellsF, neK, and_true, ne_eq, Nat.zero_add, Nat.reduceAdd] at hB8
    replace hL0 := hP
    replace hT := hT1
    clear hT1
    go_upto_region 32 with fail
    clear hweq
    clear hput8 hB8
    clear hA
    refine region_tl 10 [EV (.agg #[.int .i64 r, .int .i64 c, .slice (some ⟨w.heap.size, 0, none⟩) m m]), EV (.int .i64 c), EV (.int .i64 (cs : Int)), PP (List.replicate cs 0), EV (.tuple #[.slice none 0 0, .int .i64 1]), EV (.tuple #[.slice none 0 0, .int .i64 1]), EV (.slice none 0 0), EV (.int .i64 1), EV (.slice none 0 0), EV (.int .i64 1)] (by kernel_rfl) (by kernel_rfl) ?_ ?_ ?_
    ·exact stays_cons (stays_eq _) (stays_cons (stays_eq _) (stays_cons (stays_eq _) (stays_cons (stays_pt _) (stays_cons (stays_eq _) (stays_cons (stays_eq _) (stays_cons (stays_eq _) (stays_cons (stays_eq _) (stays_cons (stays_eq _) (stays_cons (stays_eq _) (stays_nil))))))))))
    ·simp only [List.take_succ_cons, List.take_zero, hopsR, and_true]
     refine ⟨?_, ?_, ?_, ?_, ?_, ?_, ?_, ?_, ?_, ?_⟩ <;> intro fv w1 hb1 hp
     all_goals (simp only [putsV, Act.put, List.setIfInBounds_toArray, List.set_cons_succ, List.set_cons_zero, Nat.zero_add, Nat.reduceAdd])
     ·refine tyAt_none rfl ?_
      have hc := (hL0.call (below_drew hb1)).fc
      simp only [fcG, cellsF, neK, and_true, ne_eq, Nat.zero_add, Nat.reduceAdd] at hc
      simp [tyUpon, execOp, go_sem, Act.eval, hc, hbz, hbz2, hbz3, hwr, hwc, Below.refl]
     ·refine tyAt_none rfl ?_
      simp [tyUpon, execOp, go_sem, Act.eval, hbz, hbz2, hbz3, hwr, hwc, Below.refl]
     ·have h1 : EV _ (fv 1) w1 := hp 1 (LC (by kernel_rfl))
      refine tyAt_none rfl ?_
      simp [tyUpon, execOp, go_sem, Act.eval, h1, hbz, hbz2, hbz3, hwr, hwc, Below.refl]
     ·have h2 : EV _ (fv 2) w1 := hp 2 (LC (by kernel_rfl))
      refine tyAt_none rfl ?_
      refine ty_val8 (u := .slice (some ⟨w1.heap.size, 0, none⟩) cs cs) (w' := w1.alloc (.cells (frCs (List.replicate cs 0)).toArray 38)) (by simp [execOp, go_sem, Act.eval, h2, hmkcs.out]) ((Below.refl _ _).alloc (Nat.le_refl _) _) (slq_new0 (hd_new w1 (frCs (List.replicate cs 0)) _))
     ·have h0 : EV _ (fv 0) w1 := hp 0 (LC (by kernel_rfl))
      have h3 : (PP (List.replicate cs 0)) (fv 3) w1 := hp 3 (LC (by kernel_rfl))
      refine tyAt_none rfl ?_
      refine ty_call (f := 59) (args := #[.agg #[.int .i64 r, .int .i64 c, .slice (some ⟨w.heap.size, 0, none⟩) m m], fv 3]) (by simp [execOp, go_sem, Act.eval, h0]) ?_
      exact (HAp.out (.agg #[.int .i64 r, .int .i64 c, .slice (some ⟨w.heap.size, 0, none⟩) m m]) (fv 3) w1 (xm_of (PT.below (hT.get (List.mem_cons_of_mem _ List.mem_cons_self)) (below_drew hb1)) (Nat.le_refl _)) h3).mono fun e w2 ⟨h1, h2⟩ => ⟨_, h1, rfl, h2⟩
     ·have h4 : EV _ (fv 4) w1 := hp 4 (LC (by kernel_rfl))
      refine tyAt_none rfl ?_
      simp [tyUpon, execOp, go_sem, Act.eval, h4, hbz, hbz2, hbz3, hwr, hwc, Below.refl]
     ·have h5 : EV _ (fv 5) w1 := hp 5 (LC (by kernel_rfl))
      refine tyAt_none rfl ?_
      simp [tyUpon, execOp, go_sem, Act.eval, h5, hbz, hbz2, hbz3, hwr, hwc, Below.refl]
     ·have h5 : EV _ (fv 5) w1 := hp 5 (LC (by kernel_rfl))
      refine tyAt_none rfl ?_
      simp [tyUpon, execOp, go_sem, Act.eval, h5, hbz, hbz2, hbz3, hwr, hwc, Below.refl]
     ·have h6 : EV _ (fv 6) w1 := hp 6 (LC (by kernel_rfl))
      refine tyAt_none rfl ?_
      simp [tyUpon, execOp, go_sem, Act.eval, h6, hbz, hbz2, hbz3, hwr, hwc, Below.refl]
     ·have h7 : EV _ (fv 7) w1 := hp 7 (LC (by kernel_rfl))
      refine tyAt_none rfl ?_
      simp [tyUpon, execOp, go_sem, Act.eval, h7, hbz, hbz2, hbz3, hwr, hwc, Below.refl]
    ·intro fv x31 hb1 hv
     have e0 : fv 0 = _ := hv 0 (by omega)
     have e1 : fv 1 = _ := hv 1 (by omega)
     have e2 : fv 2 = _ := hv 2 (by omega)
     have q3 : PT x31 (fv 3) (List.replicate cs 0) := hv 3 (by omega)
     obtain ⟨g5, d5, g5c, e3, -⟩ := pt_form q3
     rw [e3] at q3
     have e4 : fv 4 = _ := hv 4 (by omega)
     have e5 : fv 5 = _ := hv 5 (by omega)
     have e6 : fv 6 = _ := hv 6 (by omega)
     have e7 : fv 7 = _ := hv 7 (by omega)
     have e8 : fv 8 = _ := hv 8 (by omega)
     have e9 : fv 9 = _ := hv 9 (by omega)
     simp only [List.take_succ_cons, List.take_zero, putsV, Act.put, List.setIfInBounds_toArray, List.set_cons_succ, List.set_cons_zero, List.drop_succ_cons, List.drop_zero, Nat.zero_add, Nat.reduceAdd, e0, e1, e2, e3, e4, e5, e6, e7, e8, e9]
     replace hL0 := hL0.call (below_drew hb1)
     replace hT := hT.call (below_drew hb1)
     replace hT := hT.cons q3
     clear e0 e1 e2 e3 e4 e5 e6 e7 e8 e9 hb1 hv q3 fv
     go_upto_region 33 with fail
     have hSo := Lib.hid hT
     refine region_tbl 11 9 [EV (.agg #[.int .i64 r, .int .i64 c, .slice (some ⟨w.heap.size, 0, none⟩) m m]), EV (.int .i64 r), EV (.int .i64 (rs : Int)), PP (List.replicate rs 0), EV (.int .i64 c), PP (List.replicate cz 0), EV (.tuple #[.agg #[.int .u64 0, .string ⟨#[]⟩, .bool false, .int .u64 0, .string ⟨#[]⟩], .int .i64 1]), EV (.tuple #[.agg #[.int .u64 0, .string ⟨#[]⟩, .bool false, .int .u64 0, .string ⟨#[]⟩], .int .i64 1]), EV (.agg #[.int .u64 0, .string ⟨#[]⟩, .bool false, .int .u64 0, .string ⟨#[]⟩]), EV (.int .i64 1), NewB x31.heap.size [.int .u64 0, .string ⟨#[]⟩, .bool false, .int .u64 0, .string ⟨#[]⟩]] [10] (by kernel_rfl) (by kernel_rfl) ?_ ?_ ?_ ?_ ?_ (by rfl) ?_
     ·exact stays_cons (stays_eq _) (stays_cons (stays_eq _) (stays_cons (stays_eq _) (stays_cons (stays_pt _) (stays_cons (stays_eq _) (stays_cons (stays_pt _) (stays_cons (stays_eq _) (stays_cons (stays_eq _) (stays_cons (stays_eq _) (stays_cons (stays_eq _) (stays_cons (stays_new _ _) (stays_nil)))))))))))
     ·simp only [List.take_succ_cons, List.take_zero, hopsR, and_true]
      refine ⟨?_, ?_, ?_, ?_, ?_, ?_, ?_, ?_, ?_, ?_, ?_⟩ <;> intro fv w1 hb1 hp
      all_goals (simp only [putsV, Act.put, List.setIfInBounds_toArray, List.set_cons_succ, List.set_cons_zero, Nat.zero_add, Nat.reduceAdd])
      ·refine tyAt_none rfl ?_
       have hc := (hL0.call (below_drew hb1)).fc
       simp only [fcG, cellsF, neK, and_true, ne_eq, Nat.zero_add, Nat.reduceAdd] at hc
       simp [tyUpon, execOp, go_sem, Act.eval, hc, hbz, hbz2, hbz3, hwr, hwc, Below.refl]
      ·refine tyAt_none rfl ?_
       simp [tyUpon, execOp, go_sem, Act.eval, hbz, hbz2, hbz3, hwr, hwc, Below.refl]
      ·have h1 : EV _ (fv 1) w1 := hp 1 (LC (by kernel_rfl))
       refine tyAt_none rfl ?_
       simp [tyUpon, execOp, go_sem, Act.eval, h1, hbz, hbz2, hbz3, hwr, hwc, Below.refl]
      ·have h2 : EV _ (fv 2) w1 := hp 2 (LC (by kernel_rfl))
       refine tyAt_none rfl ?_
       refine ty_val8 (u := .slice (some ⟨w1.heap.size, 0, none⟩) rs rs) (w' := w1.alloc (.cells (frCs (List.replicate rs 0)).toArray 38)) (by simp [execOp, go_sem, Act.eval, h2, hmkrs.out]) ((Below.refl _ _).alloc (Nat.le_refl _) _) (slq_new0 (hd_new w1 (frCs (List.replicate rs 0)) _))
      ·refine tyAt_none rfl ?_
       simp [tyUpon, execOp, go_sem, Act.eval, hbz, hbz2, hbz3, hwr, hwc, Below.refl]
      ·have h4 : EV _ (fv 4) w1 := hp 4 (LC (by kernel_rfl))
       refine tyAt_none rfl ?_
       refine ty_val8 (u := .slice (some ⟨w1.heap.size, 0, none⟩) cz cz) (w' := w1.alloc (.cells (frCs (List.replicate cz 0)).toArray 38)) (by simp [execOp, go_sem, Act.eval, h4, hmkcz.out]) ((Below.refl _ _).alloc (Nat.le_refl _) _) (slq_new0 (hd_new w1 (frCs (List.replicate cz 0)) _))
      ·have h0 : EV _ (fv 0) w1 := hp 0 (LC (by kernel_rfl))
       have h3 : (PP (List.replicate rs 0)) (fv 3) w1 := hp 3 (LC (by kernel_rfl))
       have h5 : (PP (List.replicate cz 0)) (fv 5) w1 := hp 5 (LC (by kernel_rfl))
       refine tyAt_none rfl ?_
       refine ty_call (f := 60) (args := #[.agg #[.int .i64 r, .int .i64 c, .slice (some ⟨w.heap.size, 0, none⟩) m m], fv 3, fv 5]) (by simp [execOp, go_sem, Act.eval, h0]) ?_
       exact (HFo.out (.agg #[.int .i64 r, .int .i64 c, .slice (some ⟨w.heap.size, 0, none⟩) m m]) (fv 3) (fv 5) w1 (xm_of (PT.below (hT.get (List.mem_cons_of_mem _ (List.mem_cons_of_mem _ List.mem_cons_self))) (below_drew hb1)) (Nat.le_refl _)) h3 h5).mono fun e w2 ⟨h1, h2⟩ => ⟨_, h1, rfl, h2⟩
      ·have h6 : EV _ (fv 6) w1 := hp 6 (LC (by kernel_rfl))
       refine tyAt_none rfl ?_
       simp [tyUpon, execOp, go_sem, Act.eval, h6, hbz, hbz2, hbz3, hwr, hwc, Below.refl]
      ·have h7 : EV _ (fv 7) w1 := hp 7 (LC (by kernel_rfl))
       refine tyAt_none rfl ?_
       simp [tyUpon, execOp, go_sem, Act.eval, h7, hbz, hbz2, hbz3, hwr, hwc, Below.refl]
      ·have h7 : EV _ (fv 7) w1 := hp 7 (LC (by kernel_rfl))
       refine tyAt_none rfl ?_
       simp [tyUpon, execOp, go_sem, Act.eval, h7, hbz, hbz2, hbz3, hwr, hwc, Below.refl]
      ·exact tyAt_new rfl rfl new_frac (below_drew hb1).size
     ·intro j hj u w2 hT
      simp only [List.contains_iff_mem, List.mem_cons, List.not_mem_nil, or_false] at hj
      rcases hj with rfl <;> exact NewB.ptr hT
     ·exact ⟨⟨_, _, _, _, rfl, rfl, rfl, new_frac⟩, trivial⟩
     ·intro fv wl hb1 hv
      have e0 : fv 0 = .agg #[.int .i64 r, .int .i64 c, .slice (some ⟨w.heap.size, 0, none⟩) m m] := hv 0 (by omega) (by omega)
      have e1 : fv 1 = .int .i64 r := hv 1 (by omega) (by omega)
      have e2 : fv 2 = .int .i64 (rs : Int) := hv 2 (by omega) (by omega)
      have e4 : fv 4 = .int .i64 c := hv 4 (by omega) (by omega)
      have e6 : fv 6 = .tuple #[.agg #[.int .u64 0, .string ⟨#[]⟩, .bool false, .int .u64 0, .string ⟨#[]⟩], .int .i64 1] := hv 6 (by omega) (by omega)
      have e7 : fv 7 = .tuple #[.agg #[.int .u64 0, .string ⟨#[]⟩, .bool false, .int .u64 0, .string ⟨#[]⟩], .int .i64 1] := hv 7 (by omega) (by omega)
      have e8 : fv 8 = .agg #[.int .u64 0, .string ⟨#[]⟩, .bool false, .int .u64 0, .string ⟨#[]⟩] := hv 8 (by omega) (by omega)
      obtain ⟨kb10, e10, n10, m10⟩ : NewB x31.heap.size [.int .u64 0, .string ⟨#[]⟩, .bool false, .int .u64 0, .string ⟨#[]⟩] (fv 10) wl := hv 10 (by omega) (by omega)
      have hx0 := hL0
      replace hL0 := hL0.call (below_drew hb1)
      replace hL0 := GL.tnew (M := []) hL0 hx0 n10 m10 (fun p hp => by cases hp)
      simp only [List.cons_append, List.nil_append] at hL0
      have hA := hL0.fc
      simp only [fcG, cellsF, neK, and_true, ne_eq, Nat.zero_add, Nat.reduceAdd] at hA
      have hP := hL0.put 0 (kb10) _ rfl [.int .u64 0, .string ⟨#[]⟩, .bool false, .int .u64 0, .string ⟨#[]⟩] rfl
      simp only [setAll, List.set_cons_zero, List.set_cons_succ] at hP
      have hB1 := hP.fc
      simp only [fcG, cellsF, neK, and_true, ne_eq, Nat.zero_add, Nat.reduceAdd] at hB1
      refine ⟨(((((wl.setCell ⟨kb10, 0, none⟩ (.int .u64 0)).setCell ⟨kb10, 1, none⟩ (.string ⟨#[]⟩)).setCell ⟨kb10, 2, none⟩ (.bool false)).setCell ⟨kb10, 3, none⟩ (.int .u64 0)).setCell ⟨kb10, 4, none⟩ (.string ⟨#[]⟩)), .int .i64 1, fun o ho => ?_, fun o ho => ?_, ?_⟩
      ·obtain rfl := Option.some.inj ho
       simp [execOp, go_sem, Act.eval, putsV, Act.put, List.take_succ_cons, List.take_zero, List.setIfInBounds_toArray, List.set_cons_succ, List.set_cons_zero, Nat.zero_add, Nat.reduceAdd, hA, e0, e1, e2, e4, e6, e7, e8, e10]
      ·obtain rfl := Option.some.inj ho
       simp [execOp, go_sem, Act.eval, putsV, Act.put, List.take_succ_cons, List.take_zero, List.setIfInBounds_toArray, List.set_cons_succ, List.set_cons_zero, Nat.zero_add, Nat.reduceAdd, hB1, e0, e1, e2, e4, e6, e7, e8, e10]
      ·rfl
     ·intro fv x32 hb1 hv hne
      have e0 : fv 0 = _ := hv 0 (by omega)
      have e1 : fv 1 = _ := hv 1 (by omega)
      have e2 : fv 2 = _ := hv 2 (by omega)
      have q3 : PT x32 (fv 3) (List.replicate rs 0) := hv 3 (by omega)
      obtain ⟨g6, d6, g6c, e3, -⟩ := pt_form q3
      rw [e3] at q3
      have e4 : fv 4 = _ := hv 4 (by omega)
      have q5 : PT x32 (fv 5) (List.replicate cz 0) := hv 5 (by omega)
      obtain ⟨g7, d7, g7c, e5, -⟩ := pt_form q5
      rw [e5] at q5
      have e6 : fv 6 = _ := hv 6 (by omega)
      have e7 : fv 7 = _ := hv 7 (by omega)
      have e8 : fv 8 = _ := hv 8 (by omega)
      have e9 : fv 9 = _ := hv 9 (by omega)
      obtain ⟨kb10, e10, n10, m10⟩ : NewB x31.heap.size [.int .u64 0, .string ⟨#[]⟩, .bool false, .int .u64 0, .string ⟨#[]⟩] (fv 10) x32 := hv 10 (by omega)
      simp only [List.take_succ_cons, List.take_zero, putsV, Act.put, List.setIfInBounds_toArray, List.set_cons_succ, List.set_cons_zero, List.drop_succ_cons, List.drop_zero, Nat.zero_add, Nat.reduceAdd, e0, e1, e2, e3, e4, e5, e6, e7, e8, e9, e10]
      have hx0 := hL0
      replace hL0 := hL0.call (below_drew hb1)
      replace hT := hT.call (below_drew hb1)
      replace hL0 := GL.tnew (M := []) hL0 hx0 n10 m10 (fun p hp => by cases hp)
      simp only [List.cons_append, List.nil_append] at hL0
      have hkb := Lib.hid m10
      clear e0 e1 e2 e3 e4 e5 e6 e7 e8 e9 e10 hb1 hv hne hx0 n10 m10 q3 q5 fv
      have hT1 := hT.putN hSo.out hkb.out ((((((Upd.refl kb10 x32).setCell 0 (.int .u64 0)).setCell 1 (.string ⟨#[]⟩)).setCell 2 (.bool false)).setCell 3 (.int .u64 0)).setCell 4 (.string ⟨#[]⟩))
      have hA := hL0.fc
      simp only [fcG, cellsF, neK, and_true, ne_eq, Nat.zero_add, Nat.reduceAdd] at hA
      have hP := hL0.put 0 (kb10) _ rfl [.int .u64 0, .string ⟨#[]⟩, .bool false, .int .u64 0, .string ⟨#[]⟩] rfl
      simp only [setAll, List.set_cons_zero, List.set_cons_succ] at hP
      generalize hput9 : (((((x32.setCell ⟨kb10, 0, none⟩ (.int .u64 0)).setCell ⟨kb10, 1, none⟩ (.string ⟨#[]⟩)).setCell ⟨kb10, 2, none⟩ (.bool false)).setCell ⟨kb10, 3, none⟩ (.int .u64 0)).setCell ⟨kb10, 4, none⟩ (.string ⟨#[]⟩)) = x33 at hP hT1
      have hB9 := hP.fc
      simp only [fcG, cellsF, neK, and_true, ne_eq, Nat.zero_add, Nat.reduceAdd] at hB9
      replace hL0 := hP
      replace hT := hT1
      clear hT1 hSo hkb
      go_wp2_with fail
      clear hA
      with_reducible refine Calls.mono (HW.out _ (hKT.out.at hL0.bl kKT)) ?_
      rintro e x34 ⟨rfl, hb⟩
      replace hL0 := hL0.call hb
      replace hT := hT.call hb
      clear hb hput9 hB9
      go_wp2_with fail
      exact bodyPost_ret (v := .bool true) (by simp [results, Tryz.results10, go_sem]) rfl ⟨rfl, hL0.bl⟩
end Go.Proofs.YthkodldppaccmaaGreatDoor
