/-
  The law answers true at every input, and leaves its arguments as they were: a part of the proof. CONDITIONS: the package-level tables start as the program's text lays them (the card ties them).
-/
import Derived.Test.YtdmoadfnogdfnaaGreatDoorVcb
set_option linter.unusedVariables false
set_option linter.unusedSimpArgs false
namespace Go.Proofs.YtdmoadfnogdfnaaGreatDoor
open Go.RowKit
attribute [local irreducible] lo hs sm s64 c64 d64 b64 mh ml pd pc qd qc val hiB str cmpI srD lz nb isq decB zl zh zs dval ztxt
theorem known_z (s : Bool) (a : Option Addr) (n c : Nat) (l : List Nat) (b : Bool) (hl : l.length ≤ 1000) (hb : in64 (zmade s l) = b) : ∃ z v : Int,
  (∀ w, Ws w (.slice a n c) l → Calls Tryz.prog 24 #[.agg #[.bool s, .slice a n c]] w fun e w' => e = .returned (intV z) ∧ Below w.heap.size w w') ∧
  (∀ w, Calls Tryz.prog 50 #[intV z] w fun e w' => e = .returned (.tuple #[.int .i64 v, .bool b]) ∧ Below w.heap.size w w') := by
 refine ⟨zmade s l, (if b then zmade s l else 0), fun w h => zof_any s a n c l hl w h, fun w => ?_⟩
 have h := i64I (zmade s l) w
 rw [hb] at h
 exact h
/-- What a law says of its integers. -/
abbrev SaysZ1 (f : FuncId) : Prop := ∀ (sx : Bool) (ax : Option Addr) (nx cx : Nat) (lx : List Nat) (w : World), Tab w → Ws w (.slice ax nx cx) lx →
  Calls Tryz.prog f #[.agg #[.bool sx, .slice ax nx cx]] w fun e w' => e = .returned (.bool true) ∧ Below w.heap.size w w'
abbrev SaysZ2 (f : FuncId) : Prop := ∀ (sx sy : Bool) (ax ay : Option Addr) (nx cx ny cy : Nat) (lx ly : List Nat) (w : World), Tab w → Ws w (.slice ax nx cx) lx → Ws w (.slice ay ny cy) ly →
  Calls Tryz.prog f #[.agg #[.bool sx, .slice ax nx cx], .agg #[.bool sy, .slice ay ny cy]] w fun e w' => e = .returned (.bool true) ∧ Below w.heap.size w w'
abbrev SaysZ3 (f : FuncId) : Prop := ∀ (sx sy sz : Bool) (ax ay az : Option Addr) (nx cx ny cy nz cz : Nat) (lx ly lz : List Nat) (w : World), Tab w → Ws w (.slice ax nx cx) lx → Ws w (.slice ay ny cy) ly → Ws w (.slice az nz cz) lz →
  Calls Tryz.prog f #[.agg #[.bool sx, .slice ax nx cx], .agg #[.bool sy, .slice ay ny cy], .agg #[.bool sz, .slice az nz cz]] w fun e w' => e = .returned (.bool true) ∧ Below w.heap.size w w'
set_option maxHeartbeats 16000000 in
set_option maxRecDepth 100000 in
theorem iknown_of (HSm : ∀ m n : Int, -9223372036854775808 ≤ m → m ≤ 9223372036854775807 → -9223372036854775808 ≤ n → n ≤ 9223372036854775807 → ∀ w, Tab w → Calls Tryz.prog 47 #[.int .i64 m, .int .i64 n] w fun e w' => e = .returned (.bool true) ∧ Below w.heap.size w w')
  (HSu : SaysZ2 4) (HDv : SaysZ2 5) (HDd : SaysZ3 48) (HRg : SaysZ3 49) (HTx : SaysZ1 51)
  (HRd : ∀ (s : ByteArray) w, Tab w → Calls Tryz.prog 52 #[.string s] w fun e w' => e = .returned (.bool true) ∧ Below w.heap.size w w')
  (HW : ∀ w, Tab w → Calls Tryz.prog 23 #[] w fun e w' => e = .returned (.bool true) ∧ Below w.heap.size w w')
  (w : World) (htab : Tab w) :
  Calls Tryz.prog 6 #[] w fun e w' => e = .returned (.bool true) ∧ Below w.heap.size w w' := by
 have hL0 : GL w w [] := GL.start w
 replace HSm := Lib.hid HSm
 replace HSu := Lib.hid HSu
 replace HDv := Lib.hid HDv
 replace HDd := Lib.hid HDd
 replace HRg := Lib.hid HRg
 replace HTx := Lib.hid HTx
 replace HRd := Lib.hid HRd
 replace HW := Lib.hid HW
 go_enter Tryz.func6, Tryz.ntmps6
 have hA := hL0.fc
 simp only [fcG, cellsF, neK, and_true, ne_eq, Nat.zero_add, Nat.reduceAdd] at hA
 go_wp2_with fail
 clear hA
 go_loopw [1] (fun iv wr => ∃ (i : Nat) (zi : Int), i ≤ 19 ∧ iv = .int .i64 zi ∧ zi = (i : Int) + (-9) ∧ GL w wr []) (fun iv _ => 19 - (intOf iv - (-9)).toNat)
 case atStart => exact ⟨0, _, by omega, rfl, by omega, hL0⟩
 case round =>
  clear hL0
  obtain ⟨mi, m, hmi, rfl, hm, hL0⟩ := hrel
  have mlo : (-9) ≤ m := by omega
  have mhi : m ≤ (-9) + 19 := by omega
  rcases Nat.lt_or_ge mi 19 with hm19 | hm19
  ·have mk : m < 10 := by omega
   replace hm := Lib.hid hm
   have hA := hL0.fc
   simp only [fcG, cellsF, neK, and_true, ne_eq, Nat.zero_add, Nat.reduceAdd] at hA
   go_wp2_with fail
   clear hA
   go_loopw [2] (fun iv wr => ∃ (i : Nat) (zi : Int), i ≤ 19 ∧ iv = .int .i64 zi ∧ zi = (i : Int) + (-9) ∧ GL w wr []) (fun iv _ => 19 - (intOf iv - (-9)).toNat)
   case atStart => exact ⟨0, _, by omega, rfl, by omega, hL0⟩
   case round =>
    clear hL0
    obtain ⟨ni, n, hni, rfl, hn, hL0⟩ := hrel
    have nlo : (-9) ≤ n := by omega
    have nhi : n ≤ (-9) + 19 := by omega
    rcases Nat.lt_or_ge ni 19 with hn19 | hn19
    ·have nk : n < 10 := by omega
     replace hn := Lib.hid hn
     obtain ⟨p, hp, hwp, gp⟩ : ∃ p : Nat, max m (-m) = (p : Int) ∧ (∀ x ∈ [p], x < 4294967296) ∧ (p : Int) ≤ 9 := ⟨m.natAbs, by omega, fun x hx => by rw [List.mem_singleton] at hx; omega, by omega⟩
     obtain ⟨sm, hsm⟩ : ∃ sm, decide (m < 0) = sm := ⟨_, rfl⟩
     replace hwp := Lib.hid hwp
     have gp0 : (0 : Int) ≤ (p : Int) := Int.natCast_nonneg _
     obtain ⟨q, hq, hwq, gq⟩ : ∃ q : Nat, max n (-n) = (q : Int) ∧ (∀ x ∈ [q], x < 4294967296) ∧ (q : Int) ≤ 9 := ⟨n.natAbs, by omega, fun x hx => by rw [List.mem_singleton] at hx; omega, by omega⟩
     obtain ⟨sn, hsn⟩ : ∃ sn, decide (n < 0) = sn := ⟨_, rfl⟩
     replace hwq := Lib.hid hwq
     have gq0 : (0 : Int) ≤ (q : Int) := Int.natCast_nonneg _
     replace hL0 := ((((hL0.new rfl [.int .u32 (p : Int)] 22).new (K := wr.heap.size + 1) (szA _ _) [.int .u32 (q : Int)] 22).new (K := wr.heap.size + 1 + 1) (by simp only [World.size_alloc]) [.bool sm, .slice (some ⟨wr.heap.size, 0, none⟩) 1 1] 36).new (K := wr.heap.size + 1 + 1 + 1) (by simp only [World.size_alloc]) [.bool sn, .slice (some ⟨wr.heap.size + 1, 0, none⟩) 1 1] 36)
     generalize hweq : ((((wr.alloc (.cells #[.int .u32 (p : Int)] 22)).alloc (.cells #[.int .u32 (q : Int)] 22)).alloc (.cells #[.bool sm, .slice (some ⟨wr.heap.size, 0, none⟩) 1 1] 36)).alloc (.cells #[.bool sn, .slice (some ⟨wr.heap.size + 1, 0, none⟩) 1 1] 36)) = x1 at hL0
     go_wp2_with fail
     with_reducible refine Calls.mono (HSm.out _ _ (by omega) (by omega) (by omega) (by omega) _ (htab.below hL0.bl)) ?_
     rintro e x2 ⟨rfl, hb⟩
     replace hL0 := hL0.call hb
     clear hb hweq
     have hN0 := cells_of _ 0 [] rfl (hL0.get _ _ List.mem_cons_self)
     simp only [cellsF, and_true, Nat.zero_add, Nat.reduceAdd] at hN0
     have hN1 := cells_of _ 0 [] rfl (hL0.get _ _ (List.mem_cons_of_mem _ List.mem_cons_self))
     simp only [cellsF, and_true, Nat.zero_add, Nat.reduceAdd] at hN1
     go_wp2_with fail
     clear hN0 hN1
     with_reducible refine Calls.mono (HSu.out _ _ _ _ _ _ _ _ [p] [q] _ (htab.below hL0.bl) (ws_box [p] 1 _ (hL0.get _ _ (List.mem_cons_of_mem _ (List.mem_cons_of_mem _ (List.mem_cons_of_mem _ List.mem_cons_self)))) rfl rfl hwp.out) (ws_box [q] 1 _ (hL0.get _ _ (List.mem_cons_of_mem _ (List.mem_cons_of_mem _ List.mem_cons_self))) rfl rfl hwq.out)) ?_
     rintro e x3 ⟨rfl, hb⟩
     replace hL0 := hL0.call hb
     clear hb
     have hN0 := cells_of _ 0 [] rfl (hL0.get _ _ List.mem_cons_self)
     simp only [cellsF, and_true, Nat.zero_add, Nat.reduceAdd] at hN0
     have hN1 := cells_of _ 0 [] rfl (hL0.get _ _ (List.mem_cons_of_mem _ List.mem_cons_self))
     simp only [cellsF, and_true, Nat.zero_add, Nat.reduceAdd] at hN1
     go_wp2_with fail
     clear hN0 hN1
     with_reducible refine Calls.mono (HDv.out _ _ _ _ _ _ _ _ [p] [q] _ (htab.below hL0.bl) (ws_box [p] 1 _ (hL0.get _ _ (List.mem_cons_of_mem _ (List.mem_cons_of_mem _ (List.mem_cons_of_mem _ List.mem_cons_self)))) rfl rfl hwp.out) (ws_box [q] 1 _ (hL0.get _ _ (List.mem_cons_of_mem _ (List.mem_cons_of_mem _ List.mem_cons_self))) rfl rfl hwq.out)) ?_
     rintro e x4 ⟨rfl, hb⟩
     replace hL0 := hL0.call hb
     clear hb
     have hN0 := cells_of _ 0 [] rfl (hL0.get _ _ List.mem_cons_self)
     simp only [cellsF, and_true, Nat.zero_add, Nat.reduceAdd] at hN0
     have hN1 := cells_of _ 0 [] rfl (hL0.get _ _ (List.mem_cons_of_mem _ List.mem_cons_self))
     simp only [cellsF, and_true, Nat.zero_add, Nat.reduceAdd] at hN1
     go_wp2_with fail
     clear hN0 hN1
     with_reducible refine Calls.mono (HDd.out _ _ _ _ _ _ _ _ _ _ _ _ [p] [q] [p] _ (htab.below hL0.bl) (ws_box [p] 1 _ (hL0.get _ _ (List.mem_cons_of_mem _ (List.mem_cons_of_mem _ (List.mem_cons_of_mem _ List.mem_cons_self)))) rfl rfl hwp.out) (ws_box [q] 1 _ (hL0.get _ _ (List.mem_cons_of_mem _ (List.mem_cons_of_mem _ List.mem_cons_self))) rfl rfl hwq.out) (ws_box [p] 1 _ (hL0.get _ _ (List.mem_cons_of_mem _ (List.mem_cons_of_mem _ (List.mem_cons_of_mem _ List.mem_cons_self)))) rfl rfl hwp.out)) ?_
     rintro e x5 ⟨rfl, hb⟩
     replace hL0 := hL0.call hb
     clear hb
     have hN0 := cells_of _ 0 [] rfl (hL0.get _ _ List.mem_cons_self)
     simp only [cellsF, and_true, Nat.zero_add, Nat.reduceAdd] at hN0
     have hN1 := cells_of _ 0 [] rfl (hL0.get _ _ (List.mem_cons_of_mem _ List.mem_cons_self))
     simp only [cellsF, and_true, Nat.zero_add, Nat.reduceAdd] at hN1
     go_wp2_with fail
     clear hN0 hN1
     with_reducible refine Calls.mono (HRg.out _ _ _ _ _ _ _ _ _ _ _ _ [p] [q] [p] _ (htab.below hL0.bl) (ws_box [p] 1 _ (hL0.get _ _ (List.mem_cons_of_mem _ (List.mem_cons_of_mem _ (List.mem_cons_of_mem _ List.mem_cons_self)))) rfl rfl hwp.out) (ws_box [q] 1 _ (hL0.get _ _ (List.mem_cons_of_mem _ (List.mem_cons_of_mem _ List.mem_cons_self))) rfl rfl hwq.out) (ws_box [p] 1 _ (hL0.get _ _ (List.mem_cons_of_mem _ (List.mem_cons_of_mem _ (List.mem_cons_of_mem _ List.mem_cons_self)))) rfl rfl hwp.out)) ?_
     rintro e x6 ⟨rfl, hb⟩
     replace hL0 := hL0.call hb
     clear hb
     go_wp2_with fail
     go_roundw
     case rel => exact ⟨ni + 1, _, by omega, by first | rfl | go_num, by have := hn.out; omega, hL0.weak (List.nil_sublist _)⟩
     case measure => simp [intOf] <;> omega
    ·obtain rfl : n = 10 := by omega
     clear hn
     have hA := hL0.fc
     simp only [fcG, cellsF, neK, and_true, ne_eq, Nat.zero_add, Nat.reduceAdd] at hA
     go_wp2_with fail
     clear hA
     go_roundw
     case rel => exact ⟨mi + 1, _, by omega, by first | rfl | go_num, by have := hm.out; omega, hL0.weak (List.nil_sublist _)⟩
     case measure => simp [intOf] <;> omega
  ·obtain rfl : m = 10 := by omega
   clear hm hmi mlo mhi hm19 HDv HDd HRg
   replace hL0 := (hL0.new rfl [.int .i64 (-9223372036854775808), .int .i64 (-9223372036854775807), .int .i64 (-4294967296), .int .i64 (-1), .int .i64 0, .int .i64 1, .int .i64 4294967295, .int .i64 4294967296, .int .i64 9223372036854775807] 2)
   generalize hweq : (wr.alloc (.cells #[.int .i64 (-9223372036854775808), .int .i64 (-9223372036854775807), .int .i64 (-4294967296), .int .i64 (-1), .int .i64 0, .int .i64 1, .int .i64 4294967295, .int .i64 4294967296, .int .i64 9223372036854775807] 2)) = x7 at hL0
   go_wp2_with fail
   clear hweq
   generalize wr.heap.size = g0 at *
   have hcs : ∀ W, Hd W g0 [.int .i64 (-9223372036854775808), .int .i64 (-9223372036854775807), .int .i64 (-4294967296), .int .i64 (-1), .int .i64 0, .int .i64 1, .int .i64 4294967295, .int .i64 4294967296, .int .i64 9223372036854775807] → ∀ i : Nat, i < 9 → ∃ m : Int, W.cell? ⟨g0, i, none⟩ = some (.int .i64 m) ∧ -9223372036854775808 ≤ m ∧ m ≤ 9223372036854775807 := fun W h i hi => ints_cell [(-9223372036854775808), (-9223372036854775807), (-4294967296), (-1), 0, 1, 4294967295, 4294967296, 9223372036854775807] h i hi (by decide)
   replace hcs := Lib.hid hcs
   go_loopw [76] (fun iv wr => ∃ (i : Nat) (zi : Int), i ≤ 9 ∧ iv = .int .i64 zi ∧ zi = (i : Int) ∧ GL w wr [(g0, [.int .i64 (-9223372036854775808), .int .i64 (-9223372036854775807), .int .i64 (-4294967296), .int .i64 (-1), .int .i64 0, .int .i64 1, .int .i64 4294967295, .int .i64 4294967296, .int .i64 9223372036854775807])]) (fun iv _ => 9 - (intOf iv).toNat)
   case atStart => exact ⟨0, _, by omega, rfl, by omega, hL0⟩
   case round =>
    clear hL0
    obtain ⟨ii, i, hii, rfl, hi, hL0⟩ := hrel
    rcases Nat.lt_or_ge ii 9 with hi9 | hi9
    ·subst hi
     obtain ⟨m, cm, mlo, mhi⟩ := hcs.out _ (hL0.get _ _ List.mem_cons_self) ii hi9
     have k1 : (ii : Int) < 9 := by omega
     have k0 : (0 : Int) ≤ (ii : Int) := by omega
     go_wp2_with fail
     clear cm
     go_loopw [82] (fun iv wr => ∃ (i : Nat) (zi : Int), i ≤ 9 ∧ iv = .int .i64 zi ∧ zi = (i : Int) ∧ GL w wr [(g0, [.int .i64 (-9223372036854775808), .int .i64 (-9223372036854775807), .int .i64 (-4294967296), .int .i64 (-1), .int .i64 0, .int .i64 1, .int .i64 4294967295, .int .i64 4294967296, .int .i64 9223372036854775807])]) (fun iv _ => 9 - (intOf iv).toNat)
     case atStart => exact ⟨0, _, by omega, rfl, by omega, hL0⟩
     case round =>
      clear hL0
      obtain ⟨ji, j, hji, rfl, hj, hL0⟩ := hrel
      rcases Nat.lt_or_ge ji 9 with hj9 | hj9
      ·subst hj
       obtain ⟨n, cn, nlo, nhi⟩ := hcs.out _ (hL0.get _ _ List.mem_cons_self) ji hj9
       have k2 : (ji : Int) < 9 := by omega
       have k3 : (0 : Int) ≤ (ji : Int) := by omega
       go_wp2_with fail
       clear cn
       with_reducible refine Calls.mono (HSm.out _ _ (by omega) (by omega) (by omega) (by omega) _ (htab.below hL0.bl)) ?_
       rintro e x1 ⟨rfl, hb⟩
       replace hL0 := hL0.call hb
       clear hb
       go_wp2_with fail
       go_roundw
       case rel => exact ⟨ji + 1, _, by omega, by first | rfl | go_num, by omega, hL0⟩
       case measure => simp [intOf] <;> omega
      ·obtain rfl : j = 9 := by omega
       clear hj
       go_wp2_with fail
       go_roundw
       case rel => exact ⟨ii + 1, _, by omega, by first | rfl | go_num, by omega, hL0⟩
       case measure => simp [intOf] <;> omega
    ·obtain rfl : i = 9 := by omega
     clear hcs hi hii hi9 HSm
     replace hL0 := hL0.weak (List.nil_sublist _)
     replace hL0 := ((((((hL0.new rfl [.int .u32 0] 22).new (K := wr.heap.size + 1) (szA _ _) [.int .u32 0, .int .u32 2147483648] 22).new (K := wr.heap.size + 1 + 1) (by simp only [World.size_alloc]) [.int .u32 0, .int .u32 2147483648] 22).new (K := wr.heap.size + 1 + 1 + 1) (by simp only [World.size_alloc]) [.int .u32 1, .int .u32 2147483648] 22).new (K := wr.heap.size + 1 + 1 + 1 + 1) (by simp only [World.size_alloc]) [.int .u32 4294967295, .int .u32 4294967295] 22).new (K := wr.heap.size + 1 + 1 + 1 + 1 + 1) (by simp only [World.size_alloc]) [.bool false, .slice none 0 0, .bool true, .slice none 0 0, .bool true, .slice (some ⟨wr.heap.size, 0, none⟩) 1 1, .bool true, .slice (some ⟨wr.heap.size + 1, 0, none⟩) 2 2, .bool false, .slice (some ⟨wr.heap.size + 1 + 1, 0, none⟩) 2 2, .bool true, .slice (some ⟨wr.heap.size + 1 + 1 + 1, 0, none⟩) 2 2, .bool true, .slice (some ⟨wr.heap.size + 1 + 1 + 1 + 1, 0, none⟩) 2 2] 36)
     generalize hweq : ((((((wr.alloc (.cells #[.int .u32 0] 22)).alloc (.cells #[.int .u32 0, .int .u32 2147483648] 22)).alloc (.cells #[.int .u32 0, .int .u32 2147483648] 22)).alloc (.cells #[.int .u32 1, .int .u32 2147483648] 22)).alloc (.cells #[.int .u32 4294967295, .int .u32 4294967295] 22)).alloc (.cells #[.bool false, .slice none 0 0, .bool true, .slice none 0 0, .bool true, .slice (some ⟨wr.heap.size, 0, none⟩) 1 1, .bool true, .slice (some ⟨wr.heap.size + 1, 0, none⟩) 2 2, .bool false, .slice (some ⟨wr.heap.size + 1 + 1, 0, none⟩) 2 2, .bool true, .slice (some ⟨wr.heap.size + 1 + 1 + 1, 0, none⟩) 2 2, .bool true, .slice (some ⟨wr.heap.size + 1 + 1 + 1 + 1, 0, none⟩) 2 2] 36)) = x8 at hL0
     go_wp2_with fail
     clear hweq
     generalize wr.heap.size + 1 + 1 + 1 + 1 + 1 = g6 at *
     generalize wr.heap.size + 1 + 1 + 1 + 1 = g5 at *
     generalize wr.heap.size + 1 + 1 + 1 = g4 at *
     generalize wr.heap.size + 1 + 1 = g3 at *
     generalize wr.heap.size + 1 = g2 at *
     generalize wr.heap.size = g1 at *
     go_loopw [106] (fun iv wr => ∃ (i : Nat) (zi : Int), i ≤ 7 ∧ iv = .int .i64 zi ∧ zi = (i : Int) ∧ GL w wr [(g6, [.bool false, .slice none 0 0, .bool true, .slice none 0 0, .bool true, .slice (some ⟨g1, 0, none⟩) 1 1, .bool true, .slice (some ⟨g2, 0, none⟩) 2 2, .bool false, .slice (some ⟨g3, 0, none⟩) 2 2, .bool true, .slice (some ⟨g4, 0, none⟩) 2 2, .bool true, .slice (some ⟨g5, 0, none⟩) 2 2]), (g5, [.int .u32 4294967295, .int .u32 4294967295]), (g4, [.int .u32 1, .int .u32 2147483648]), (g3, [.int .u32 0, .int .u32 2147483648]), (g2, [.int .u32 0, .int .u32 2147483648]), (g1, [.int .u32 0])]) (fun iv _ => 7 - (intOf iv).toNat)
     case atStart => exact ⟨0, _, by omega, rfl, by omega, hL0⟩
     case round =>
      clear hL0
      obtain ⟨ii, i, hii, rfl, hi, hL0⟩ := hrel
      rcases (show ii = 0 ∨ ii = 1 ∨ ii = 2 ∨ ii = 3 ∨ ii = 4 ∨ ii = 5 ∨ ii = 6 ∨ ii = 7 by omega) with rfl | rfl | rfl | rfl | rfl | rfl | rfl | rfl
      ·obtain rfl : i = 0 := by omega
       clear hi hii
       obtain ⟨z, v, CZ, CI⟩ := known_z false none 0 0 [] true (by decide) (by decide +kernel)
       replace CZ := Lib.hid CZ
       replace CI := Lib.hid CI
       have hV := cells_of _ 0 [] rfl (hL0.get _ _ List.mem_cons_self)
       simp only [cellsF, and_true, Nat.zero_add, Nat.reduceAdd] at hV
       replace hL0 := (hL0.new rfl [.bool false, .slice none 0 0] 36)
       generalize hweq : (wr.alloc (.cells #[.bool false, .slice none 0 0] 36)) = x9 at hL0
       have hA := hL0.fc
       simp only [fcG, cellsF, neK, and_true, ne_eq, Nat.zero_add, Nat.reduceAdd] at hA
       have hP := hL0.put 0 (wr.heap.size) _ rfl [.bool false, .slice none 0 0] rfl
       simp only [setAll, List.set_cons_zero, List.set_cons_succ] at hP
       generalize hput1 : ((x9.setCell ⟨wr.heap.size, 0, none⟩ (.bool false)).setCell ⟨wr.heap.size, 1, none⟩ (.slice none 0 0)) = x10 at hP
       have hB1 := hP.fc
       simp only [fcG, cellsF, neK, and_true, ne_eq, Nat.zero_add, Nat.reduceAdd] at hB1
       replace hL0 := hP
       go_wp2_with fail
       clear hA
       with_reducible refine Calls.mono (CZ.out _ (ws_nil _)) ?_
       rintro e x11 ⟨rfl, hb⟩
       replace hL0 := hL0.call hb
       clear hb hweq hput1 hB1
       go_wp2_with fail
       with_reducible refine Calls.mono (CI.out _) ?_
       rintro e x12 ⟨rfl, hb⟩
       replace hL0 := hL0.call hb
       clear hb
       clear hV
       have hN0 := cells_of _ 0 [] rfl (hL0.get _ _ List.mem_cons_self)
       simp only [cellsF, and_true, Nat.zero_add, Nat.reduceAdd] at hN0
       go_wp2_with fail
       clear hN0
       with_reducible refine Calls.mono (HTx.out _ _ _ _ [] _ (htab.below hL0.bl) (ws_nil _)) ?_
       rintro e x13 ⟨rfl, hb⟩
       replace hL0 := hL0.call hb
       clear hb
       have hN0 := cells_of _ 0 [] rfl (hL0.get _ _ List.mem_cons_self)
       simp only [cellsF, and_true, Nat.zero_add, Nat.reduceAdd] at hN0
       go_wp2_with fail
       clear hN0
       with_reducible refine Calls.mono (HSu.out _ _ _ _ _ _ _ _ [] [] _ (htab.below hL0.bl) (ws_nil _) (ws_nil _)) ?_
       rintro e x14 ⟨rfl, hb⟩
       replace hL0 := hL0.call hb
       clear hb
       go_wp2_with fail
       go_roundw
       case rel => exact ⟨1, _, by omega, by first | rfl | go_num, by omega, hL0.weak (List.Sublist.cons _ (List.Sublist.refl _))⟩
       case measure => simp [intOf] <;> omega
      ·obtain rfl : i = 1 := by omega
       clear hi hii
       obtain ⟨z, v, CZ, CI⟩ := known_z true none 0 0 [] true (by decide) (by decide +kernel)
       replace CZ := Lib.hid CZ
       replace CI := Lib.hid CI
       have hV := cells_of _ 0 [] rfl (hL0.get _ _ List.mem_cons_self)
       simp only [cellsF, and_true, Nat.zero_add, Nat.reduceAdd] at hV
       replace hL0 := (hL0.new rfl [.bool false, .slice none 0 0] 36)
       generalize hweq : (wr.alloc (.cells #[.bool false, .slice none 0 0] 36)) = x15 at hL0
       have hA := hL0.fc
       simp only [fcG, cellsF, neK, and_true, ne_eq, Nat.zero_add, Nat.reduceAdd] at hA
       have hP := hL0.put 0 (wr.heap.size) _ rfl [.bool true, .slice none 0 0] rfl
       simp only [setAll, List.set_cons_zero, List.set_cons_succ] at hP
       generalize hput2 : ((x15.setCell ⟨wr.heap.size, 0, none⟩ (.bool true)).setCell ⟨wr.heap.size, 1, none⟩ (.slice none 0 0)) = x16 at hP
       have hB2 := hP.fc
       simp only [fcG, cellsF, neK, and_true, ne_eq, Nat.zero_add, Nat.reduceAdd] at hB2
       replace hL0 := hP
       go_wp2_with fail
       clear hA
       with_reducible refine Calls.mono (CZ.out _ (ws_nil _)) ?_
       rintro e x17 ⟨rfl, hb⟩
       replace hL0 := hL0.call hb
       clear hb hweq hput2 hB2
       go_wp2_with fail
       with_reducible refine Calls.mono (CI.out _) ?_
       rintro e x18 ⟨rfl, hb⟩
       replace hL0 := hL0.call hb
       clear hb
       clear hV
       have hN0 := cells_of _ 0 [] rfl (hL0.get _ _ List.mem_cons_self)
       simp only [cellsF, and_true, Nat.zero_add, Nat.reduceAdd] at hN0
       go_wp2_with fail
       clear hN0
       with_reducible refine Calls.mono (HTx.out _ _ _ _ [] _ (htab.below hL0.bl) (ws_nil _)) ?_
       rintro e x19 ⟨rfl, hb⟩
       replace hL0 := hL0.call hb
       clear hb
       have hN0 := cells_of _ 0 [] rfl (hL0.get _ _ List.mem_cons_self)
       simp only [cellsF, and_true, Nat.zero_add, Nat.reduceAdd] at hN0
       go_wp2_with fail
       clear hN0
       with_reducible refine Calls.mono (HSu.out _ _ _ _ _ _ _ _ [] [] _ (htab.below hL0.bl) (ws_nil _) (ws_nil _)) ?_
       rintro e x20 ⟨rfl, hb⟩
       replace hL0 := hL0.call hb
       clear hb
       go_wp2_with fail
       go_roundw
       case rel => exact ⟨2, _, by omega, by first | rfl | go_num, by omega, hL0.weak (List.Sublist.cons _ (List.Sublist.refl _))⟩
       case measure => simp [intOf] <;> omega
      ·obtain rfl : i = 2 := by omega
       clear hi hii
       obtain ⟨z, v, CZ, CI⟩ := known_z true (some ⟨g1, 0, none⟩) 1 1 [0] true (by decide) (by decide +kernel)
       replace CZ := Lib.hid CZ
       replace CI := Lib.hid CI
       have hV := cells_of _ 0 [] rfl (hL0.get _ _ List.mem_cons_self)
       simp only [cellsF, and_true, Nat.zero_add, Nat.reduceAdd] at hV
       replace hL0 := (hL0.new rfl [.bool true, .slice (some ⟨g1, 0, none⟩) 1 1] 36)
       generalize hweq : (wr.alloc (.cells #[.bool true, .slice (some ⟨g1, 0, none⟩) 1 1] 36)) = x21 at hL0
       have hN0 := cells_of _ 0 [] rfl (hL0.get _ _ List.mem_cons_self)
       simp only [cellsF, and_true, Nat.zero_add, Nat.reduceAdd] at hN0
       have hN1 := cells_of _ 0 [] rfl (hL0.get _ _ (List.mem_cons_of_mem _ List.mem_cons_self))
       simp only [cellsF, and_true, Nat.zero_add, Nat.reduceAdd] at hN1
       go_wp2_with fail
       clear hN0 hN1
       with_reducible refine Calls.mono (CZ.out _ (ws_box [0] 1 _ (hL0.get _ _ (List.mem_cons_of_mem _ (List.mem_cons_of_mem _ (List.mem_cons_of_mem _ (List.mem_cons_of_mem _ (List.mem_cons_of_mem _ (List.mem_cons_of_mem _ List.mem_cons_self))))))) rfl rfl (by decide))) ?_
       rintro e x22 ⟨rfl, hb⟩
       replace hL0 := hL0.call hb
       clear hb hweq
       go_wp2_with fail
       with_reducible refine Calls.mono (CI.out _) ?_
       rintro e x23 ⟨rfl, hb⟩
       replace hL0 := hL0.call hb
       clear hb
       clear hV
       have hN0 := cells_of _ 0 [] rfl (hL0.get _ _ List.mem_cons_self)
       simp only [cellsF, and_true, Nat.zero_add, Nat.reduceAdd] at hN0
       go_wp2_with fail
       clear hN0
       with_reducible refine Calls.mono (HTx.out _ _ _ _ [0] _ (htab.below hL0.bl) (ws_box [0] 1 _ (hL0.get _ _ (List.mem_cons_of_mem _ (List.mem_cons_of_mem _ (List.mem_cons_of_mem _ (List.mem_cons_of_mem _ (List.mem_cons_of_mem _ (List.mem_cons_of_mem _ List.mem_cons_self))))))) rfl rfl (by decide))) ?_
       rintro e x24 ⟨rfl, hb⟩
       replace hL0 := hL0.call hb
       clear hb
       have hN0 := cells_of _ 0 [] rfl (hL0.get _ _ List.mem_cons_self)
       simp only [cellsF, and_true, Nat.zero_add, Nat.reduceAdd] at hN0
       go_wp2_with fail
       clear hN0
       with_reducible refine Calls.mono (HSu.out _ _ _ _ _ _ _ _ [0] [0] _ (htab.below hL0.bl) (ws_box [0] 1 _ (hL0.get _ _ (List.mem_cons_of_mem _ (List.mem_cons_of_mem _ (List.mem_cons_of_mem _ (List.mem_cons_of_mem _ (List.mem_cons_of_mem _ (List.mem_cons_of_mem _ List.mem_cons_self))))))) rfl rfl (by decide)) (ws_box [0] 1 _ (hL0.get _ _ (List.mem_cons_of_mem _ (List.mem_cons_of_mem _ (List.mem_cons_of_mem _ (List.mem_cons_of_mem _ (List.mem_cons_of_mem _ (List.mem_cons_of_mem _ List.mem_cons_self))))))) rfl rfl (by decide))) ?_
       rintro e x25 ⟨rfl, hb⟩
       replace hL0 := hL0.call hb
       clear hb
       go_wp2_with fail
       go_roundw
       case rel => exact ⟨3, _, by omega, by first | rfl | go_num, by omega, hL0.weak (List.Sublist.cons _ (List.Sublist.refl _))⟩
       case measure => simp [intOf] <;> omega
      ·obtain rfl : i = 3 := by omega
       clear hi hii
       obtain ⟨z, v, CZ, CI⟩ := known_z true (some ⟨g2, 0, none⟩) 2 2 [0, 2147483648] true (by decide) (by decide +kernel)
       replace CZ := Lib.hid CZ
       replace CI := Lib.hid CI
       have hV := cells_of _ 0 [] rfl (hL0.get _ _ List.mem_cons_self)
       simp only [cellsF, and_true, Nat.zero_add, Nat.reduceAdd] at hV
       replace hL0 := (hL0.new rfl [.bool true, .slice (some ⟨g2, 0, none⟩) 2 2] 36)
       generalize hweq : (wr.alloc (.cells #[.bool true, .slice (some ⟨g2, 0, none⟩) 2 2] 36)) = x26 at hL0
       have hN0 := cells_of _ 0 [] rfl (hL0.get _ _ List.mem_cons_self)
       simp only [cellsF, and_true, Nat.zero_add, Nat.reduceAdd] at hN0
       have hN1 := cells_of _ 0 [] rfl (hL0.get _ _ (List.mem_cons_of_mem _ List.mem_cons_self))
       simp only [cellsF, and_true, Nat.zero_add, Nat.reduceAdd] at hN1
       go_wp2_with fail
       clear hN0 hN1
       with_reducible refine Calls.mono (CZ.out _ (ws_box [0, 2147483648] 2 _ (hL0.get _ _ (List.mem_cons_of_mem _ (List.mem_cons_of_mem _ (List.mem_cons_of_mem _ (List.mem_cons_of_mem _ (List.mem_cons_of_mem _ List.mem_cons_self)))))) rfl rfl (by decide))) ?_
       rintro e x27 ⟨rfl, hb⟩
       replace hL0 := hL0.call hb
       clear hb hweq
       go_wp2_with fail
       with_reducible refine Calls.mono (CI.out _) ?_
       rintro e x28 ⟨rfl, hb⟩
       replace hL0 := hL0.call hb
       clear hb
       clear hV
       have hN0 := cells_of _ 0 [] rfl (hL0.get _ _ List.mem_cons_self)
       simp only [cellsF, and_true, Nat.zero_add, Nat.reduceAdd] at hN0
       have hN1 := cells_of _ 0 [] rfl (hL0.get _ _ (List.mem_cons_of_mem _ (List.mem_cons_of_mem _ (List.mem_cons_of_mem _ (List.mem_cons_of_mem _ (List.mem_cons_of_mem _ List.mem_cons_self))))))
       simp only [cellsF, and_true, Nat.zero_add, Nat.reduceAdd] at hN1
       go_wp2_with fail
       clear hN0 hN1
       with_reducible refine Calls.mono (HTx.out _ _ _ _ [0, 2147483648] _ (htab.below hL0.bl) (ws_box [0, 2147483648] 2 _ (hL0.get _ _ (List.mem_cons_of_mem _ (List.mem_cons_of_mem _ (List.mem_cons_of_mem _ (List.mem_cons_of_mem _ (List.mem_cons_of_mem _ List.mem_cons_self)))))) rfl rfl (by decide))) ?_
       rintro e x29 ⟨rfl, hb⟩
       replace hL0 := hL0.call hb
       clear hb
       have hN0 := cells_of _ 0 [] rfl (hL0.get _ _ List.mem_cons_self)
       simp only [cellsF, and_true, Nat.zero_add, Nat.reduceAdd] at hN0
       go_wp2_with fail
       clear hN0
       with_reducible refine Calls.mono (HSu.out _ _ _ _ _ _ _ _ [0, 2147483648] [0, 2147483648] _ (htab.below hL0.bl) (ws_box [0, 2147483648] 2 _ (hL0.get _ _ (List.mem_cons_of_mem _ (List.mem_cons_of_mem _ (List.mem_cons_of_mem _ (List.mem_cons_of_mem _ (List.mem_cons_of_mem _ List.mem_cons_self)))))) rfl rfl (by decide)) (ws_box [0, 2147483648] 2 _ (hL0.get _ _ (List.mem_cons_of_mem _ (List.mem_cons_of_mem _ (List.mem_cons_of_mem _ (List.mem_cons_of_mem _ (List.mem_cons_of_mem _ List.mem_cons_self)))))) rfl rfl (by decide))) ?_
       rintro e x30 ⟨rfl, hb⟩
       replace hL0 := hL0.call hb
       clear hb
       go_wp2_with fail
       go_roundw
       case rel => exact ⟨4, _, by omega, by first | rfl | go_num, by omega, hL0.weak (List.Sublist.cons _ (List.Sublist.refl _))⟩
       case measure => simp [intOf] <;> omega
      ·obtain rfl : i = 4 := by omega
       clear hi hii
       obtain ⟨z, v, CZ, CI⟩ := known_z false (some ⟨g3, 0, none⟩) 2 2 [0, 2147483648] false (by decide) (by decide +kernel)
       replace CZ := Lib.hid CZ
       replace CI := Lib.hid CI
       have hV := cells_of _ 0 [] rfl (hL0.get _ _ List.mem_cons_self)
       simp only [cellsF, and_true, Nat.zero_add, Nat.reduceAdd] at hV
       replace hL0 := (hL0.new rfl [.bool false, .slice (some ⟨g3, 0, none⟩) 2 2] 36)
       generalize hweq : (wr.alloc (.cells #[.bool false, .slice (some ⟨g3, 0, none⟩) 2 2] 36)) = x31 at hL0
       have hN0 := cells_of _ 0 [] rfl (hL0.get _ _ List.mem_cons_self)
       simp only [cellsF, and_true, Nat.zero_add, Nat.reduceAdd] at hN0
       have hN1 := cells_of _ 0 [] rfl (hL0.get _ _ (List.mem_cons_of_mem _ List.mem_cons_self))
       simp only [cellsF, and_true, Nat.zero_add, Nat.reduceAdd] at hN1
       go_wp2_with fail
       clear hN0 hN1
       with_reducible refine Calls.mono (CZ.out _ (ws_box [0, 2147483648] 2 _ (hL0.get _ _ (List.mem_cons_of_mem _ (List.mem_cons_of_mem _ (List.mem_cons_of_mem _ (List.mem_cons_of_mem _ List.mem_cons_self))))) rfl rfl (by decide))) ?_
       rintro e x32 ⟨rfl, hb⟩
       replace hL0 := hL0.call hb
       clear hb hweq
       go_wp2_with fail
       with_reducible refine Calls.mono (CI.out _) ?_
       rintro e x33 ⟨rfl, hb⟩
       replace hL0 := hL0.call hb
       clear hb
       clear hV
       have hN0 := cells_of _ 0 [] rfl (hL0.get _ _ List.mem_cons_self)
       simp only [cellsF, and_true, Nat.zero_add, Nat.reduceAdd] at hN0
       go_wp2_with fail
       clear hN0
       with_reducible refine Calls.mono (HTx.out _ _ _ _ [0, 2147483648] _ (htab.below hL0.bl) (ws_box [0, 2147483648] 2 _ (hL0.get _ _ (List.mem_cons_of_mem _ (List.mem_cons_of_mem _ (List.mem_cons_of_mem _ (List.mem_cons_of_mem _ List.mem_cons_self))))) rfl rfl (by decide))) ?_
       rintro e x34 ⟨rfl, hb⟩
       replace hL0 := hL0.call hb
       clear hb
       have hN0 := cells_of _ 0 [] rfl (hL0.get _ _ List.mem_cons_self)
       simp only [cellsF, and_true, Nat.zero_add, Nat.reduceAdd] at hN0
       go_wp2_with fail
       clear hN0
       with_reducible refine Calls.mono (HSu.out _ _ _ _ _ _ _ _ [0, 2147483648] [0, 2147483648] _ (htab.below hL0.bl) (ws_box [0, 2147483648] 2 _ (hL0.get _ _ (List.mem_cons_of_mem _ (List.mem_cons_of_mem _ (List.mem_cons_of_mem _ (List.mem_cons_of_mem _ List.mem_cons_self))))) rfl rfl (by decide)) (ws_box [0, 2147483648] 2 _ (hL0.get _ _ (List.mem_cons_of_mem _ (List.mem_cons_of_mem _ (List.mem_cons_of_mem _ (List.mem_cons_of_mem _ List.mem_cons_self))))) rfl rfl (by decide))) ?_
       rintro e x35 ⟨rfl, hb⟩
       replace hL0 := hL0.call hb
       clear hb
       go_wp2_with fail
       go_roundw
       case rel => exact ⟨5, _, by omega, by first | rfl | go_num, by omega, hL0.weak (List.Sublist.cons _ (List.Sublist.refl _))⟩
       case measure => simp [intOf] <;> omega
      ·obtain rfl : i = 5 := by omega
       clear hi hii
       obtain ⟨z, v, CZ, CI⟩ := known_z true (some ⟨g4, 0, none⟩) 2 2 [1, 2147483648] false (by decide) (by decide +kernel)
       replace CZ := Lib.hid CZ
       replace CI := Lib.hid CI
       have hV := cells_of _ 0 [] rfl (hL0.get _ _ List.mem_cons_self)
       simp only [cellsF, and_true, Nat.zero_add, Nat.reduceAdd] at hV
       replace hL0 := (hL0.new rfl [.bool true, .slice (some ⟨g4, 0, none⟩) 2 2] 36)
       generalize hweq : (wr.alloc (.cells #[.bool true, .slice (some ⟨g4, 0, none⟩) 2 2] 36)) = x36 at hL0
       have hN0 := cells_of _ 0 [] rfl (hL0.get _ _ List.mem_cons_self)
       simp only [cellsF, and_true, Nat.zero_add, Nat.reduceAdd] at hN0
       have hN1 := cells_of _ 0 [] rfl (hL0.get _ _ (List.mem_cons_of_mem _ List.mem_cons_self))
       simp only [cellsF, and_true, Nat.zero_add, Nat.reduceAdd] at hN1
       go_wp2_with fail
       clear hN0 hN1
       with_reducible refine Calls.mono (CZ.out _ (ws_box [1, 2147483648] 2 _ (hL0.get _ _ (List.mem_cons_of_mem _ (List.mem_cons_of_mem _ (List.mem_cons_of_mem _ List.mem_cons_self)))) rfl rfl (by decide))) ?_
       rintro e x37 ⟨rfl, hb⟩
       replace hL0 := hL0.call hb
       clear hb hweq
       go_wp2_with fail
       with_reducible refine Calls.mono (CI.out _) ?_
       rintro e x38 ⟨rfl, hb⟩
       replace hL0 := hL0.call hb
       clear hb
       clear hV
       have hN0 := cells_of _ 0 [] rfl (hL0.get _ _ List.mem_cons_self)
       simp only [cellsF, and_true, Nat.zero_add, Nat.reduceAdd] at hN0
       have hN1 := cells_of _ 0 [] rfl (hL0.get _ _ (List.mem_cons_of_mem _ (List.mem_cons_of_mem _ (List.mem_cons_of_mem _ List.mem_cons_self))))
       simp only [cellsF, and_true, Nat.zero_add, Nat.reduceAdd] at hN1
       go_wp2_with fail
       clear hN0 hN1
       with_reducible refine Calls.mono (HTx.out _ _ _ _ [1, 2147483648] _ (htab.below hL0.bl) (ws_box [1, 2147483648] 2 _ (hL0.get _ _ (List.mem_cons_of_mem _ (List.mem_cons_of_mem _ (List.mem_cons_of_mem _ List.mem_cons_self)))) rfl rfl (by decide))) ?_
       rintro e x39 ⟨rfl, hb⟩
       replace hL0 := hL0.call hb
       clear hb
       have hN0 := cells_of _ 0 [] rfl (hL0.get _ _ List.mem_cons_self)
       simp only [cellsF, and_true, Nat.zero_add, Nat.reduceAdd] at hN0
       go_wp2_with fail
       clear hN0
       with_reducible refine Calls.mono (HSu.out _ _ _ _ _ _ _ _ [1, 2147483648] [1, 2147483648] _ (htab.below hL0.bl) (ws_box [1, 2147483648] 2 _ (hL0.get _ _ (List.mem_cons_of_mem _ (List.mem_cons_of_mem _ (List.mem_cons_of_mem _ List.mem_cons_self)))) rfl rfl (by decide)) (ws_box [1, 2147483648] 2 _ (hL0.get _ _ (List.mem_cons_of_mem _ (List.mem_cons_of_mem _ (List.mem_cons_of_mem _ List.mem_cons_self)))) rfl rfl (by decide))) ?_
       rintro e x40 ⟨rfl, hb⟩
       replace hL0 := hL0.call hb
       clear hb
       go_wp2_with fail
       go_roundw
       case rel => exact ⟨6, _, by omega, by first | rfl | go_num, by omega, hL0.weak (List.Sublist.cons _ (List.Sublist.refl _))⟩
       case measure => simp [intOf] <;> omega
      ·obtain rfl : i = 6 := by omega
       clear hi hii
       obtain ⟨z, v, CZ, CI⟩ := known_z true (some ⟨g5, 0, none⟩) 2 2 [4294967295, 4294967295] false (by decide) (by decide +kernel)
       replace CZ := Lib.hid CZ
       replace CI := Lib.hid CI
       have hV := cells_of _ 0 [] rfl (hL0.get _ _ List.mem_cons_self)
       simp only [cellsF, and_true, Nat.zero_add, Nat.reduceAdd] at hV
       replace hL0 := (hL0.new rfl [.bool true, .slice (some ⟨g5, 0, none⟩) 2 2] 36)
       generalize hweq : (wr.alloc (.cells #[.bool true, .slice (some ⟨g5, 0, none⟩) 2 2] 36)) = x41 at hL0
       have hN0 := cells_of _ 0 [] rfl (hL0.get _ _ List.mem_cons_self)
       simp only [cellsF, and_true, Nat.zero_add, Nat.reduceAdd] at hN0
       have hN1 := cells_of _ 0 [] rfl (hL0.get _ _ (List.mem_cons_of_mem _ List.mem_cons_self))
       simp only [cellsF, and_true, Nat.zero_add, Nat.reduceAdd] at hN1
       go_wp2_with fail
       clear hN0 hN1
       with_reducible refine Calls.mono (CZ.out _ (ws_box [4294967295, 4294967295] 2 _ (hL0.get _ _ (List.mem_cons_of_mem _ (List.mem_cons_of_mem _ List.mem_cons_self))) rfl rfl (by decide))) ?_
       rintro e x42 ⟨rfl, hb⟩
       replace hL0 := hL0.call hb
       clear hb hweq
       go_wp2_with fail
       with_reducible refine Calls.mono (CI.out _) ?_
       rintro e x43 ⟨rfl, hb⟩
       replace hL0 := hL0.call hb
       clear hb
       clear hV
       have hN0 := cells_of _ 0 [] rfl (hL0.get _ _ List.mem_cons_self)
       simp only [cellsF, and_true, Nat.zero_add, Nat.reduceAdd] at hN0
       have hN1 := cells_of _ 0 [] rfl (hL0.get _ _ (List.mem_cons_of_mem _ (List.mem_cons_of_mem _ List.mem_cons_self)))
       simp only [cellsF, and_true, Nat.zero_add, Nat.reduceAdd] at hN1
       go_wp2_with fail
       clear hN0 hN1
       with_reducible refine Calls.mono (HTx.out _ _ _ _ [4294967295, 4294967295] _ (htab.below hL0.bl) (ws_box [4294967295, 4294967295] 2 _ (hL0.get _ _ (List.mem_cons_of_mem _ (List.mem_cons_of_mem _ List.mem_cons_self))) rfl rfl (by decide))) ?_
       rintro e x44 ⟨rfl, hb⟩
       replace hL0 := hL0.call hb
       clear hb
       have hN0 := cells_of _ 0 [] rfl (hL0.get _ _ List.mem_cons_self)
       simp only [cellsF, and_true, Nat.zero_add, Nat.reduceAdd] at hN0
       go_wp2_with fail
       clear hN0
       with_reducible refine Calls.mono (HSu.out _ _ _ _ _ _ _ _ [4294967295, 4294967295] [4294967295, 4294967295] _ (htab.below hL0.bl) (ws_box [4294967295, 4294967295] 2 _ (hL0.get _ _ (List.mem_cons_of_mem _ (List.mem_cons_of_mem _ List.mem_cons_self))) rfl rfl (by decide)) (ws_box [4294967295, 4294967295] 2 _ (hL0.get _ _ (List.mem_cons_of_mem _ (List.mem_cons_of_mem _ List.mem_cons_self))) rfl rfl (by decide))) ?_
       rintro e x45 ⟨rfl, hb⟩
       replace hL0 := hL0.call hb
       clear hb
       go_wp2_with fail
       go_roundw
       case rel => exact ⟨7, _, by omega, by first | rfl | go_num, by omega, hL0.weak (List.Sublist.cons _ (List.Sublist.refl _))⟩
       case measure => simp [intOf] <;> omega
      ·obtain rfl : i = 7 := by omega
       clear hi hii
       replace hL0 := hL0.weak (List.nil_sublist _)
       clear HSu HTx
       go_wp2_with fail
       go_loopw [14] (fun sv wr => ∃ s : ByteArray, sv = .string s ∧ s.size ≤ 4105 ∧ GL w wr []) (fun sv _ => match sv with | .string s => 4096 - s.size | _ => 0)
       case atStart => exact ⟨_, rfl, by decide, hL0⟩
       case round =>
        clear hL0
        obtain ⟨s, rfl, hl, hL0⟩ := hrel
        rcases Nat.lt_or_ge s.size 4096 with hlt | hge
        ·have s1 : ((s.size : Nat) : Int) < 4096 := by omega
         have s2 : ((s.size : Nat) : Int) ≤ 4105 := by omega
         obtain ⟨m, hm⟩ : ∃ m, m = s.size % 7 := ⟨_, rfl⟩
         have hm7 : ((s.size : Nat) : Int) % 7 = (m : Int) := by omega
         have hm6 : (m : Int) ≤ 10 := by omega
         have hm9 : m ≤ 10 := by omega
         have hz : (s ++ (⟨#[56, 55, 54, 53, 52, 51, 50, 49, 48, 57]⟩ : ByteArray).extract m 10).size = s.size + (10 - m) := join_size s ⟨#[56, 55, 54, 53, 52, 51, 50, 49, 48, 57]⟩ m (show m ≤ 10 by omega)
         replace hz := Lib.hid hz
         replace hm := Lib.hid hm
         go_wp2_with fail
         exact ⟨⟨_, rfl, by have := hz.out; have := hm.out; omega, hL0⟩, by have := hz.out; have := hm.out; show 4096 - _ < 4096 - _; omega⟩
        ·have s1 : ¬ ((s.size : Nat) : Int) < 4096 := by omega
         have s2 : ((s.size : Nat) : Int) ≤ 4105 := by omega
         have s3 : ¬ s.size < 4096 := by omega
         have s4 : (4096 : Int) ≤ ((s.size : Nat) : Int) := by omega
         have mn1 : min 4096 s.size = 4096 := Nat.min_eq_left hge
         have mn2 : min 4095 s.size = 4095 := Nat.min_eq_left (by omega)
         have s5 : (4095 : Int) ≤ ((s.size : Nat) : Int) := by omega
         go_wp2_with fail
         go_region_held3 (fun w' => True)
          (trivial)
          (fail)
         go_wp2_with fail
         go_loopw [167] (fun iv wx => ∃ i : Nat, iv = .int .i64 (i : Int) ∧ i ≤ 12 ∧ (∀ j, j < 12 → ∃ s, wx.cell? ⟨wr.heap.size, j, none⟩ = some (.string s)) ∧ wr.heap.size < wx.heap.size ∧ Below w.heap.size w wx) (fun iv _ => 12 - (intOf iv).toNat)
         case atStart => exact ⟨0, rfl, by omega, fun j hj => strsK_ok wr _ _ (by simp [isStrK]) j hj, Nat.lt_of_lt_of_le (Nat.lt_succ_self _) (Nat.le_of_eq (World.size_alloc wr _).symm), (hL0.bl.alloc hL0.bl.size _).drew⟩
         case round =>
          obtain ⟨i, rfl, hi, hcs, hgl, hb⟩ := hrel
          replace hcs := Lib.hid hcs
          rcases Nat.lt_or_ge i 12 with h20 | h20
          ·have k3 : (i : Int) < 12 := by omega
           obtain ⟨s, cs⟩ := hcs.out i h20
           go_wp2_with fail
           with_reducible refine Calls.mono (HRd.out s _ (htab.below hb)) ?_
           rintro e x1 ⟨rfl, hc⟩
           have hs1 := Lib.hid (fun j (hj : j < 12) => (hcs.out j hj).imp fun s h => (hc.cell (p := ⟨_, j, none⟩) hgl).trans h)
           have h4 := hb.trans (hc.mono hb.size)
           have hgl1 := Nat.lt_of_lt_of_le hgl hc.size
           clear hc cs hcs hgl
           go_wp2_with fail
           go_roundw
           case rel => exact ⟨i + 1, by first | rfl | go_num, by omega, hs1.out, hgl1, h4⟩
           case measure => simp [intOf] <;> omega
          ·obtain rfl : i = 12 := by omega
           have k3 : ¬ ((12 : Nat) : Int) < 12 := by omega
           go_wp2_with fail
           with_reducible refine Calls.mono (HW.out _ (htab.below hb)) ?_
           rintro e x1 ⟨rfl, hc⟩
           have h4 := hb.trans (hc.mono hb.size)
           clear hc hcs
           go_wp2_with fail
           go_ret
           exact ⟨rfl, h4⟩
end Go.Proofs.YtdmoadfnogdfnaaGreatDoor
namespace Go.Proofs.YtdmoadfnogdfnaaGreatDoor
open Go.RowKit
attribute [local irreducible] lo hs sm s64 c64 d64 b64 mh ml pd pc qd qc val hiB str cmpI srD lz nb isq decB zl zh zs dval
set_option maxHeartbeats 16000000 in
set_option maxRecDepth 100000 in
theorem itexts_big (sx : Bool) (ax : Option Addr) (nx cx : Nat) (lx : List Nat) (h : ¬ (nx ≤ 20)) (w : World) (htab : Tab w) (hwx : Ws w (.slice ax nx cx) lx) :
  Calls Tryz.prog 51 #[.agg #[.bool sx, .slice ax nx cx]] w fun e w' => e = .returned (.bool true) ∧ Below w.heap.size w w' := by
 have hL0 : GL w w [] := GL.start w
 have HW := Lib.hid (fun w h => zworks_any w h)
 replace hL0 := (hL0.new rfl [.bool sx, .slice ax nx cx] 36)
 generalize hweq : (w.alloc (.cells #[.bool sx, .slice ax nx cx] 36)) = x1 at hL0
 go_enter Tryz.func51, Tryz.ntmps51
 have hN0 := cells_of _ 0 [] rfl (hL0.get _ _ List.mem_cons_self)
 simp only [cellsF, and_true, Nat.zero_add, Nat.reduceAdd] at hN0
 have hG := hL0.new rfl [.bool sx, .slice ax nx cx] 36
 generalize hbs : x1.alloc (.cells #[.bool sx, .slice ax nx cx] 36) = x2 at hG
 clear hL0
 have hL0 := hG
 clear hG
 have HFw := few1 20 20 rfl (by omega) (hL0.get _ _ List.mem_cons_self)
 rw [show decide (nx ≤ 20) = false from decide_eq_false (by omega)] at HFw
 replace HFw := Lib.hid HFw
 go_wp2_with fail
 clear hN0
 with_reducible refine Calls.mono HFw.out ?_
 rintro e x3 ⟨rfl, rfl⟩
 clear HFw hbs hweq
 go_wp2_with fail
 with_reducible refine Calls.mono (HW.out _ (htab.below hL0.bl)) ?_
 rintro e x4 ⟨rfl, hb⟩
 replace hL0 := hL0.call hb
 clear hb
 go_wp2_with fail
 exact bodyPost_ret (v := .bool true) (by simp [results, Tryz.results51, go_sem]) rfl ⟨rfl, hL0.bl⟩
theorem st_take' (r : List UInt8) (k : Nat) : (st r).extract 0 k = st (r.take k) := by
 apply ByteArray.ext
 rw [ByteArray.data_extract]
 show r.toArray.extract 0 k = (r.take k).toArray
 simp
theorem take_head (l : List UInt8) (h : l.head? ≠ some 45) : ((st (l.take 1)).data.toList == [45]) = false := by
 cases l with
 | nil => rfl
 | cons c r =>
  show ([c] == [45]) = false
  rw [beq_eq_false_iff_ne]
  intro e
  exact h (by simp only [List.cons.injEq, and_true] at e; simp [e])
set_option maxHeartbeats 16000000 in
set_option maxRecDepth 100000 in
theorem itexts_neg (sx : Bool) (ax : Option Addr) (nx cx : Nat) (lx : List Nat) (kx : nx ≤ 20) (ha : zmade sx lx < 0) (w : World) (htab : Tab w) (hwx : Ws w (.slice ax nx cx) lx) :
  Calls Tryz.prog 51 #[.agg #[.bool sx, .slice ax nx cx]] w fun e w' => e = .returned (.bool true) ∧ Below w.heap.size w w' := by
 have hL0 : GL w w [] := GL.start w
 have ex := hwx.len
 have ZX := fun w h => zof_any sx ax nx cx lx (by omega) w h
 have dx : dI (zmade sx lx) ≤ 20 := Nat.le_trans (zmade_dI hwx.lt) (by omega)
 generalize zmade sx lx = a at *
 replace ZX := Lib.hid ZX
 have HT := Lib.hid (fun w h => textI a (by omega) w h)
 have HP := Lib.hid (fun w => parse_ztxt a (by omega) w)
 have HS := fun w => signI a w
 rw [sgn_neg ha] at HS
 replace HS := Lib.hid HS
 have HA := Lib.hid (fun w => absI a w)
 have HN := fun w h => text_any a.natAbs (Nat.le_trans dx (by omega)) w h
 have hsz := txt_small (k := 20) (by omega) dx
 have ez : ztxt a = ByteArray.mk #[45] ++ txt a.natAbs := by unfold ztxt; rw [if_pos ha]
 have ex : ∃ X : ByteArray, (ByteArray.mk #[45] ++ txt a.natAbs).extract 0 1 = X ∧ (X.toList == [45]) = true := ⟨_, rfl, by rw [← ez, ztxt_st, if_pos ha, st_take']; rw [ByteArray.toList_eq]; rfl⟩
 have hs1 : 1 ≤ (txt a.natAbs).size := by show 1 ≤ (Lib.decDigits a.natAbs).length; exact dec_length_pos _
 rw [ez] at HT HP
 generalize txt a.natAbs = t at *
 replace HN := Lib.hid HN
 obtain ⟨X, ex1, ex2⟩ := ex
 generalize a.natAbs = m at *
 have hs2 : ((t.size : Nat) : Int) ≤ 400 := by omega
 have hs3 : (1 : Int) ≤ ((t.size : Nat) : Int) := by omega
 have HW := Lib.hid (fun w h => zworks_any w h)
 have hs4 : (((ByteArray.mk #[45] ++ t).size : Nat) : Int) = 1 + ((t.size : Nat) : Int) := by rw [ByteArray.size_append]; rfl
 have f1 : decide ((0 : Int) < 1 + ((t.size : Nat) : Int)) = true := decide_eq_true (by omega)
 have f2 : decide ((0 : Int) < ((t.size : Nat) : Int)) = true := decide_eq_true (by omega)
 have f3 : decide (0 < t.size) = true := decide_eq_true (by omega)
 have f4 : decide (0 < 1 + t.size) = true := decide_eq_true (by omega)
 clear ez ha
 replace kx := Lib.hid kx
 clear ex dx
 replace hL0 := (hL0.new rfl [.bool sx, .slice ax nx cx] 36)
 generalize hweq : (w.alloc (.cells #[.bool sx, .slice ax nx cx] 36)) = x1 at hL0
 replace hwx := Lib.hid hwx
 go_enter Tryz.func51, Tryz.ntmps51
 have kx' := kx.out
 have hN0 := cells_of _ 0 [] rfl (hL0.get _ _ List.mem_cons_self)
 simp only [cellsF, and_true, Nat.zero_add, Nat.reduceAdd] at hN0
 have hG := hL0.new rfl [.bool sx, .slice ax nx cx] 36
 generalize hbs : x1.alloc (.cells #[.bool sx, .slice ax nx cx] 36) = x2 at hG
 clear hL0
 have hL0 := hG
 clear hG
 have HFw := few1 20 20 rfl (by omega) (hL0.get _ _ List.mem_cons_self)
 rw [show decide (nx ≤ 20) = true from decide_eq_true (by omega)] at HFw
 replace HFw := Lib.hid HFw
 go_wp2_with fail
 clear hN0
 with_reducible refine Calls.mono HFw.out ?_
 rintro e x3 ⟨rfl, rfl⟩
 clear HFw hbs hweq
 clear kx kx'
 have hwx1 := hwx.out.below hL0.bl
 have hN0 := cells_of _ 0 [] rfl (hL0.get _ _ (List.mem_cons_of_mem _ List.mem_cons_self))
 simp only [cellsF, and_true, Nat.zero_add, Nat.reduceAdd] at hN0
 go_wp2_with fail
 clear hN0
 with_reducible refine Calls.mono (ZX.out _ hwx1) ?_
 rintro e x4 ⟨rfl, hb⟩
 replace hL0 := hL0.call hb
 clear hb
 clear hwx1
 replace hL0 := (hL0.new rfl [.int .u64 ((zl a : Nat) : Int), .string (zh a), .bool (zs a)] 39)
 generalize hweq : (x4.alloc (.cells #[.int .u64 ((zl a : Nat) : Int), .string (zh a), .bool (zs a)] 39)) = x5 at hL0
 have hN0 := cells_of _ 0 [] rfl (hL0.get _ _ List.mem_cons_self)
 simp only [cellsF, and_true, Nat.zero_add, Nat.reduceAdd] at hN0
 go_wp2_with fail
 clear hN0
 with_reducible refine Calls.mono (HT.out _ (htab.below hL0.bl)) ?_
 rintro e x6 ⟨rfl, hb⟩
 replace hL0 := hL0.call hb
 clear hb hweq
 go_wp2_with fail
 with_reducible refine Calls.mono (HP.out _) ?_
 rintro e x7 ⟨rfl, hb⟩
 replace hL0 := hL0.call hb
 clear hb
 replace hL0 := (hL0.new rfl [.int .u64 ((zl a : Nat) : Int), .string (zh a), .bool (zs a)] 39)
 generalize hweq : (x7.alloc (.cells #[.int .u64 ((zl a : Nat) : Int), .string (zh a), .bool (zs a)] 39)) = x8 at hL0
 go_upto_region 6 with fail
 have ht := htab.below hL0.bl
 clear hweq
 obtain ⟨α, iα, F, hF1, hF2⟩ := cls x8
 have hq0 := cls_box hF1 hL0 _ _ (List.mem_cons_of_mem _ List.mem_cons_self)
 simp only [cellsC, and_true, Nat.zero_add, Nat.reduceAdd] at hq0
 have hq1 := cls_box hF1 hL0 _ _ List.mem_cons_self
 simp only [cellsC, and_true, Nat.zero_add, Nat.reduceAdd] at hq1
 refine region_qs 49 (C := fun w' => ∃ x, w' = F x) (by kernel_rfl) (by kernel_rfl) (cls_drew hF2) ?_
 simp only [List.take_succ_cons, List.take_zero, List.drop_succ_cons, List.drop_zero, List.take_nil, List.drop_nil]
 repeat (go_big_quiet_step (first | fail | (go_at_call 36; with_reducible exact cls_call hF1 hF2 HS.out _) | (go_at_call 40; with_reducible exact cls_call hF1 hF2 HA.out _) | (go_at_call 39; with_reducible exact cls_callT hF1 hF2 ht HN.out _) | (go_at_call 23; with_reducible exact cls_callT hF1 hF2 ht HW.out _)))
 refine wpQuiet_nil ?_
 rintro wq ⟨xq, rfl⟩
 replace hL0 := hL0.call (hF1 xq)
 clear  hq0 hq1 hF2
 generalize F xq = x9 at hL0 ⊢
 clear hF1 xq iα F α
 go_wp2_with fail
 exact bodyPost_ret (v := .bool true) (by simp [results, Tryz.results51, go_sem]) rfl ⟨rfl, hL0.bl⟩
set_option maxHeartbeats 16000000 in
set_option maxRecDepth 100000 in
theorem itexts_zero (sx : Bool) (ax : Option Addr) (nx cx : Nat) (lx : List Nat) (kx : nx ≤ 20) (ha : zmade sx lx = 0) (w : World) (htab : Tab w) (hwx : Ws w (.slice ax nx cx) lx) :
  Calls Tryz.prog 51 #[.agg #[.bool sx, .slice ax nx cx]] w fun e w' => e = .returned (.bool true) ∧ Below w.heap.size w w' := by
 have hL0 : GL w w [] := GL.start w
 have ex := hwx.len
 have ZX := fun w h => zof_any sx ax nx cx lx (by omega) w h
 have dx : dI (zmade sx lx) ≤ 20 := Nat.le_trans (zmade_dI hwx.lt) (by omega)
 generalize zmade sx lx = a at *
 replace ZX := Lib.hid ZX
 have HT := Lib.hid (fun w h => textI a (by omega) w h)
 have HP := Lib.hid (fun w => parse_ztxt a (by omega) w)
 have HS := fun w => signI a w
 rw [show sgn a = 0 by rw [ha]; rfl] at HS
 replace HS := Lib.hid HS
 have HA := Lib.hid (fun w => absI a w)
 have HN := fun w h => text_any a.natAbs (Nat.le_trans dx (by omega)) w h
 have hsz := txt_small (k := 20) (by omega) dx
 have ez : ztxt a = txt a.natAbs := by unfold ztxt; rw [if_neg (by omega)]
 have ex : ∃ X : ByteArray, (txt a.natAbs).extract 0 1 = X ∧ (X.toList == [45]) = false := ⟨_, rfl, by rw [← ez, ztxt_st, if_neg (by omega), st_take', ByteArray.toList_eq]; exact take_head _ (dec_head _)⟩
 have hs1 : 1 ≤ (txt a.natAbs).size := by show 1 ≤ (Lib.decDigits a.natAbs).length; exact dec_length_pos _
 rw [ez] at HT HP
 generalize txt a.natAbs = t at *
 replace HN := Lib.hid HN
 obtain ⟨X, ex1, ex2⟩ := ex
 generalize a.natAbs = m at *
 have hs2 : ((t.size : Nat) : Int) ≤ 400 := by omega
 have hs3 : (1 : Int) ≤ ((t.size : Nat) : Int) := by omega
 have HW := Lib.hid (fun w h => zworks_any w h)
 have f1 : decide ((0 : Int) < 1 + ((t.size : Nat) : Int)) = true := decide_eq_true (by omega)
 have f2 : decide ((0 : Int) < ((t.size : Nat) : Int)) = true := decide_eq_true (by omega)
 have f3 : decide (0 < t.size) = true := decide_eq_true (by omega)
 have f4 : decide (0 < 1 + t.size) = true := decide_eq_true (by omega)
 clear ez ha
 replace kx := Lib.hid kx
 clear ex dx
 replace hL0 := (hL0.new rfl [.bool sx, .slice ax nx cx] 36)
 generalize hweq : (w.alloc (.cells #[.bool sx, .slice ax nx cx] 36)) = x1 at hL0
 replace hwx := Lib.hid hwx
 go_enter Tryz.func51, Tryz.ntmps51
 have kx' := kx.out
 have hN0 := cells_of _ 0 [] rfl (hL0.get _ _ List.mem_cons_self)
 simp only [cellsF, and_true, Nat.zero_add, Nat.reduceAdd] at hN0
 have hG := hL0.new rfl [.bool sx, .slice ax nx cx] 36
 generalize hbs : x1.alloc (.cells #[.bool sx, .slice ax nx cx] 36) = x2 at hG
 clear hL0
 have hL0 := hG
 clear hG
 have HFw := few1 20 20 rfl (by omega) (hL0.get _ _ List.mem_cons_self)
 rw [show decide (nx ≤ 20) = true from decide_eq_true (by omega)] at HFw
 replace HFw := Lib.hid HFw
 go_wp2_with fail
 clear hN0
 with_reducible refine Calls.mono HFw.out ?_
 rintro e x3 ⟨rfl, rfl⟩
 clear HFw hbs hweq
 clear kx kx'
 have hwx1 := hwx.out.below hL0.bl
 have hN0 := cells_of _ 0 [] rfl (hL0.get _ _ (List.mem_cons_of_mem _ List.mem_cons_self))
 simp only [cellsF, and_true, Nat.zero_add, Nat.reduceAdd] at hN0
 go_wp2_with fail
 clear hN0
 with_reducible refine Calls.mono (ZX.out _ hwx1) ?_
 rintro e x4 ⟨rfl, hb⟩
 replace hL0 := hL0.call hb
 clear hb
 clear hwx1
 replace hL0 := (hL0.new rfl [.int .u64 ((zl a : Nat) : Int), .string (zh a), .bool (zs a)] 39)
 generalize hweq : (x4.alloc (.cells #[.int .u64 ((zl a : Nat) : Int), .string (zh a), .bool (zs a)] 39)) = x5 at hL0
 have hN0 := cells_of _ 0 [] rfl (hL0.get _ _ List.mem_cons_self)
 simp only [cellsF, and_true, Nat.zero_add, Nat.reduceAdd] at hN0
 go_wp2_with fail
 clear hN0
 with_reducible refine Calls.mono (HT.out _ (htab.below hL0.bl)) ?_
 rintro e x6 ⟨rfl, hb⟩
 replace hL0 := hL0.call hb
 clear hb hweq
 go_wp2_with fail
 with_reducible refine Calls.mono (HP.out _) ?_
 rintro e x7 ⟨rfl, hb⟩
 replace hL0 := hL0.call hb
 clear hb
 replace hL0 := (hL0.new rfl [.int .u64 ((zl a : Nat) : Int), .string (zh a), .bool (zs a)] 39)
 generalize hweq : (x7.alloc (.cells #[.int .u64 ((zl a : Nat) : Int), .string (zh a), .bool (zs a)] 39)) = x8 at hL0
 go_upto_region 6 with fail
 have ht := htab.below hL0.bl
 clear hweq
 obtain ⟨α, iα, F, hF1, hF2⟩ := cls x8
 have hq0 := cls_box hF1 hL0 _ _ (List.mem_cons_of_mem _ List.mem_cons_self)
 simp only [cellsC, and_true, Nat.zero_add, Nat.reduceAdd] at hq0
 have hq1 := cls_box hF1 hL0 _ _ List.mem_cons_self
 simp only [cellsC, and_true, Nat.zero_add, Nat.reduceAdd] at hq1
 refine region_qs 49 (C := fun w' => ∃ x, w' = F x) (by kernel_rfl) (by kernel_rfl) (cls_drew hF2) ?_
 simp only [List.take_succ_cons, List.take_zero, List.drop_succ_cons, List.drop_zero, List.take_nil, List.drop_nil]
 repeat (go_big_quiet_step (first | fail | (go_at_call 36; with_reducible exact cls_call hF1 hF2 HS.out _) | (go_at_call 40; with_reducible exact cls_call hF1 hF2 HA.out _) | (go_at_call 39; with_reducible exact cls_callT hF1 hF2 ht HN.out _) | (go_at_call 23; with_reducible exact cls_callT hF1 hF2 ht HW.out _)))
 refine wpQuiet_nil ?_
 rintro wq ⟨xq, rfl⟩
 replace hL0 := hL0.call (hF1 xq)
 clear  hq0 hq1 hF2
 generalize F xq = x9 at hL0 ⊢
 clear hF1 xq iα F α
 go_wp2_with fail
 exact bodyPost_ret (v := .bool true) (by simp [results, Tryz.results51, go_sem]) rfl ⟨rfl, hL0.bl⟩
set_option maxHeartbeats 16000000 in
set_option maxRecDepth 100000 in
theorem itexts_pos (sx : Bool) (ax : Option Addr) (nx cx : Nat) (lx : List Nat) (kx : nx ≤ 20) (ha : 0 < zmade sx lx) (w : World) (htab : Tab w) (hwx : Ws w (.slice ax nx cx) lx) :
  Calls Tryz.prog 51 #[.agg #[.bool sx, .slice ax nx cx]] w fun e w' => e = .returned (.bool true) ∧ Below w.heap.size w w' := by
 have hL0 : GL w w [] := GL.start w
 have ex := hwx.len
 have ZX := fun w h => zof_any sx ax nx cx lx (by omega) w h
 have dx : dI (zmade sx lx) ≤ 20 := Nat.le_trans (zmade_dI hwx.lt) (by omega)
 generalize zmade sx lx = a at *
 replace ZX := Lib.hid ZX
 have HT := Lib.hid (fun w h => textI a (by omega) w h)
 have HP := Lib.hid (fun w => parse_ztxt a (by omega) w)
 have HS := fun w => signI a w
 rw [sgn_pos ha] at HS
 replace HS := Lib.hid HS
 have HA := Lib.hid (fun w => absI a w)
 have HN := fun w h => text_any a.natAbs (Nat.le_trans dx (by omega)) w h
 have hsz := txt_small (k := 20) (by omega) dx
 have ez : ztxt a = txt a.natAbs := by unfold ztxt; rw [if_neg (by omega)]
 have ex : ∃ X : ByteArray, (txt a.natAbs).extract 0 1 = X ∧ (X.toList == [45]) = false := ⟨_, rfl, by rw [← ez, ztxt_st, if_neg (by omega), st_take', ByteArray.toList_eq]; exact take_head _ (dec_head _)⟩
 have hs1 : 1 ≤ (txt a.natAbs).size := by show 1 ≤ (Lib.decDigits a.natAbs).length; exact dec_length_pos _
 rw [ez] at HT HP
 generalize txt a.natAbs = t at *
 replace HN := Lib.hid HN
 obtain ⟨X, ex1, ex2⟩ := ex
 generalize a.natAbs = m at *
 have hs2 : ((t.size : Nat) : Int) ≤ 400 := by omega
 have hs3 : (1 : Int) ≤ ((t.size : Nat) : Int) := by omega
 have HW := Lib.hid (fun w h => zworks_any w h)
 have f1 : decide ((0 : Int) < 1 + ((t.size : Nat) : Int)) = true := decide_eq_true (by omega)
 have f2 : decide ((0 : Int) < ((t.size : Nat) : Int)) = true := decide_eq_true (by omega)
 have f3 : decide (0 < t.size) = true := decide_eq_true (by omega)
 have f4 : decide (0 < 1 + t.size) = true := decide_eq_true (by omega)
 clear ez ha
 replace kx := Lib.hid kx
 clear ex dx
 replace hL0 := (hL0.new rfl [.bool sx, .slice ax nx cx] 36)
 generalize hweq : (w.alloc (.cells #[.bool sx, .slice ax nx cx] 36)) = x1 at hL0
 replace hwx := Lib.hid hwx
 go_enter Tryz.func51, Tryz.ntmps51
 have kx' := kx.out
 have hN0 := cells_of _ 0 [] rfl (hL0.get _ _ List.mem_cons_self)
 simp only [cellsF, and_true, Nat.zero_add, Nat.reduceAdd] at hN0
 have hG := hL0.new rfl [.bool sx, .slice ax nx cx] 36
 generalize hbs : x1.alloc (.cells #[.bool sx, .slice ax nx cx] 36) = x2 at hG
 clear hL0
 have hL0 := hG
 clear hG
 have HFw := few1 20 20 rfl (by omega) (hL0.get _ _ List.mem_cons_self)
 rw [show decide (nx ≤ 20) = true from decide_eq_true (by omega)] at HFw
 replace HFw := Lib.hid HFw
 go_wp2_with fail
 clear hN0
 with_reducible refine Calls.mono HFw.out ?_
 rintro e x3 ⟨rfl, rfl⟩
 clear HFw hbs hweq
 clear kx kx'
 have hwx1 := hwx.out.below hL0.bl
 have hN0 := cells_of _ 0 [] rfl (hL0.get _ _ (List.mem_cons_of_mem _ List.mem_cons_self))
 simp only [cellsF, and_true, Nat.zero_add, Nat.reduceAdd] at hN0
 go_wp2_with fail
 clear hN0
 with_reducible refine Calls.mono (ZX.out _ hwx1) ?_
 rintro e x4 ⟨rfl, hb⟩
 replace hL0 := hL0.call hb
 clear hb
 clear hwx1
 replace hL0 := (hL0.new rfl [.int .u64 ((zl a : Nat) : Int), .string (zh a), .bool (zs a)] 39)
 generalize hweq : (x4.alloc (.cells #[.int .u64 ((zl a : Nat) : Int), .string (zh a), .bool (zs a)] 39)) = x5 at hL0
 have hN0 := cells_of _ 0 [] rfl (hL0.get _ _ List.mem_cons_self)
 simp only [cellsF, and_true, Nat.zero_add, Nat.reduceAdd] at hN0
 go_wp2_with fail
 clear hN0
 with_reducible refine Calls.mono (HT.out _ (htab.below hL0.bl)) ?_
 rintro e x6 ⟨rfl, hb⟩
 replace hL0 := hL0.call hb
 clear hb hweq
 go_wp2_with fail
 with_reducible refine Calls.mono (HP.out _) ?_
 rintro e x7 ⟨rfl, hb⟩
 replace hL0 := hL0.call hb
 clear hb
 replace hL0 := (hL0.new rfl [.int .u64 ((zl a : Nat) : Int), .string (zh a), .bool (zs a)] 39)
 generalize hweq : (x7.alloc (.cells #[.int .u64 ((zl a : Nat) : Int), .string (zh a), .bool (zs a)] 39)) = x8 at hL0
 go_upto_region 6 with fail
 have ht := htab.below hL0.bl
 clear hweq
 obtain ⟨α, iα, F, hF1, hF2⟩ := cls x8
 have hq0 := cls_box hF1 hL0 _ _ (List.mem_cons_of_mem _ List.mem_cons_self)
 simp only [cellsC, and_true, Nat.zero_add, Nat.reduceAdd] at hq0
 have hq1 := cls_box hF1 hL0 _ _ List.mem_cons_self
 simp only [cellsC, and_true, Nat.zero_add, Nat.reduceAdd] at hq1
 refine region_qs 49 (C := fun w' => ∃ x, w' = F x) (by kernel_rfl) (by kernel_rfl) (cls_drew hF2) ?_
 simp only [List.take_succ_cons, List.take_zero, List.drop_succ_cons, List.drop_zero, List.take_nil, List.drop_nil]
 repeat (go_big_quiet_step (first | fail | (go_at_call 36; with_reducible exact cls_call hF1 hF2 HS.out _) | (go_at_call 40; with_reducible exact cls_call hF1 hF2 HA.out _) | (go_at_call 39; with_reducible exact cls_callT hF1 hF2 ht HN.out _) | (go_at_call 23; with_reducible exact cls_callT hF1 hF2 ht HW.out _)))
 refine wpQuiet_nil ?_
 rintro wq ⟨xq, rfl⟩
 replace hL0 := hL0.call (hF1 xq)
 clear  hq0 hq1 hF2
 generalize F xq = x9 at hL0 ⊢
 clear hF1 xq iα F α
 go_wp2_with fail
 exact bodyPost_ret (v := .bool true) (by simp [results, Tryz.results51, go_sem]) rfl ⟨rfl, hL0.bl⟩
theorem itexts_small (sx : Bool) (ax : Option Addr) (nx cx : Nat) (lx : List Nat) (kx : nx ≤ 20) (w : World) (htab : Tab w) (hwx : Ws w (.slice ax nx cx) lx) :
  Calls Tryz.prog 51 #[.agg #[.bool sx, .slice ax nx cx]] w fun e w' => e = .returned (.bool true) ∧ Below w.heap.size w w' := by
 rcases Int.lt_trichotomy (zmade sx lx) 0 with h | h | h
 ·exact itexts_neg sx ax nx cx lx kx h w htab hwx
 ·exact itexts_zero sx ax nx cx lx kx h w htab hwx
 ·exact itexts_pos sx ax nx cx lx kx h w htab hwx
theorem itexts_any (sx : Bool) (ax : Option Addr) (nx cx : Nat) (lx : List Nat)  (w : World) (htab : Tab w) (hwx : Ws w (.slice ax nx cx) lx) :
  Calls Tryz.prog 51 #[.agg #[.bool sx, .slice ax nx cx]] w fun e w' => e = .returned (.bool true) ∧ Below w.heap.size w w' := by
 by_cases h : nx ≤ 20
 ·exact itexts_small sx ax nx cx lx h w htab hwx
 ·exact itexts_big sx ax nx cx lx h w htab hwx
end Go.Proofs.YtdmoadfnogdfnaaGreatDoor
namespace Go.Proofs.YtdmoadfnogdfnaaGreatDoor
open Go.RowKit
attribute [local irreducible] lo hs sm s64 c64 d64 b64 mh ml pd pc qd qc val hiB str cmpI srD lz nb isq decB zl zh zs dval
theorem sgn_prod (a b : Int) : sgn (a * b) = sgn a * sgn b := by
 rcases Int.lt_trichotomy a 0 with h | h | h <;> rcases Int.lt_trichotomy b 0 with g | g | g
 ·rw [sgn_neg h, sgn_neg g, sgn_pos (Int.mul_pos_of_neg_of_neg h g)]; rfl
 ·subst g; rw [Int.mul_zero, sgn_zero, Int.mul_zero]
 ·rw [sgn_neg h, sgn_pos g, sgn_neg (Int.mul_neg_of_neg_of_pos h g)]; rfl
 ·subst h; rw [Int.zero_mul, sgn_zero, Int.zero_mul]
 ·subst h; rw [Int.zero_mul, sgn_zero, Int.zero_mul]
 ·subst h; rw [Int.zero_mul, sgn_zero, Int.zero_mul]
 ·rw [sgn_pos h, sgn_neg g, sgn_neg (Int.mul_neg_of_pos_of_neg h g)]; rfl
 ·subst g; rw [Int.mul_zero, sgn_zero, Int.mul_zero]
 ·rw [sgn_pos h, sgn_pos g, sgn_pos (Int.mul_pos h g)]; rfl
theorem sgn_one (a : Int) : sgn a = -1 ∨ sgn a = 0 ∨ sgn a = 1 := by unfold sgn; split <;> (try split) <;> simp
theorem cmpZ_sub (a b : Int) : cmpZ a b = sgn (a - b) := by unfold cmpZ sgn; split <;> split <;> (try split) <;> (try split) <;> omega
theorem cmpZ_add (a b c : Int) : cmpZ (a + c) (b + c) = cmpZ a b := by unfold cmpZ; split <;> split <;> (try split) <;> (try split) <;> omega
theorem sgn_lt (a : Int) : decide (sgn a < 0) = decide (a < 0) := by rcases Int.lt_trichotomy a 0 with h | h | h; · rw [sgn_neg h, decide_eq_true h]; rfl
                                                                     · subst h; rfl
                                                                     · rw [sgn_pos h, show decide (a < 0) = false from decide_eq_false (by omega)]; rfl
theorem natAbs_back (a : Int) : a = if decide (a < 0) = true then -(a.natAbs : Int) else (a.natAbs : Int) := by
 by_cases h : a < 0
 ·rw [decide_eq_true h, if_pos rfl]; omega
 ·rw [decide_eq_false h, if_neg Bool.false_ne_true]; omega
set_option maxHeartbeats 16000000 in
set_option maxRecDepth 100000 in
theorem irings_big (sx sy sz : Bool) (ax ay az : Option Addr) (nx cx ny cy nz cz : Nat) (lx ly lz : List Nat) (h : ¬ (nx ≤ 12 ∧ ny ≤ 12 ∧ nz ≤ 12)) (w : World) (htab : Tab w) (hwx : Ws w (.slice ax nx cx) lx) (hwy : Ws w (.slice ay ny cy) ly) (hwz : Ws w (.slice az nz cz) lz) :
  Calls Tryz.prog 49 #[.agg #[.bool sx, .slice ax nx cx], .agg #[.bool sy, .slice ay ny cy], .agg #[.bool sz, .slice az nz cz]] w fun e w' => e = .returned (.bool true) ∧ Below w.heap.size w w' := by
 have hL0 : GL w w [] := GL.start w
 have HW := Lib.hid (fun w h => zworks_any w h)
 replace hL0 := (((hL0.new rfl [.bool sx, .slice ax nx cx] 36).new (K := w.heap.size + 1) (szA _ _) [.bool sy, .slice ay ny cy] 36).new (K := w.heap.size + 1 + 1) (by simp only [World.size_alloc]) [.bool sz, .slice az nz cz] 36)
 generalize hweq : (((w.alloc (.cells #[.bool sx, .slice ax nx cx] 36)).alloc (.cells #[.bool sy, .slice ay ny cy] 36)).alloc (.cells #[.bool sz, .slice az nz cz] 36)) = x1 at hL0
 go_enter Tryz.func49, Tryz.ntmps49
 have hN0 := cells_of _ 0 [] rfl (hL0.get _ _ (List.mem_cons_of_mem _ (List.mem_cons_of_mem _ List.mem_cons_self)))
 simp only [cellsF, and_true, Nat.zero_add, Nat.reduceAdd] at hN0
 have hN1 := cells_of _ 0 [] rfl (hL0.get _ _ (List.mem_cons_of_mem _ List.mem_cons_self))
 simp only [cellsF, and_true, Nat.zero_add, Nat.reduceAdd] at hN1
 have hN2 := cells_of _ 0 [] rfl (hL0.get _ _ List.mem_cons_self)
 simp only [cellsF, and_true, Nat.zero_add, Nat.reduceAdd] at hN2
 have hG := hL0.new rfl [.bool sx, .slice ax nx cx, .bool sy, .slice ay ny cy, .bool sz, .slice az nz cz] 36
 generalize hbs : x1.alloc (.cells #[.bool sx, .slice ax nx cx, .bool sy, .slice ay ny cy, .bool sz, .slice az nz cz] 36) = x2 at hG
 clear hL0
 have hL0 := hG
 clear hG
 have HFw := few3 12 12 rfl (by omega) (hL0.get _ _ List.mem_cons_self)
 rw [show decide (nx ≤ 12 ∧ ny ≤ 12 ∧ nz ≤ 12) = false from decide_eq_false (by omega)] at HFw
 replace HFw := Lib.hid HFw
 go_wp2_with fail
 clear hN0 hN1 hN2
 with_reducible refine Calls.mono HFw.out ?_
 rintro e x3 ⟨rfl, rfl⟩
 clear HFw hbs hweq
 go_wp2_with fail
 with_reducible refine Calls.mono (HW.out _ (htab.below hL0.bl)) ?_
 rintro e x4 ⟨rfl, hb⟩
 replace hL0 := hL0.call hb
 clear hb
 go_wp2_with fail
 exact bodyPost_ret (v := .bool true) (by simp [results, Tryz.results49, go_sem]) rfl ⟨rfl, hL0.bl⟩
set_option maxHeartbeats 16000000 in
set_option maxRecDepth 100000 in
theorem irings_small (sx sy sz : Bool) (ax ay az : Option Addr) (nx cx ny cy nz cz : Nat) (lx ly lz : List Nat) (kx : nx ≤ 12) (ky : ny ≤ 12) (kz : nz ≤ 12) (w : World) (htab : Tab w) (hwx : Ws w (.slice ax nx cx) lx) (hwy : Ws w (.slice ay ny cy) ly) (hwz : Ws w (.slice az nz cz) lz) :
  Calls Tryz.prog 49 #[.agg #[.bool sx, .slice ax nx cx], .agg #[.bool sy, .slice ay ny cy], .agg #[.bool sz, .slice az nz cz]] w fun e w' => e = .returned (.bool true) ∧ Below w.heap.size w w' := by
 have hL0 : GL w w [] := GL.start w
 have ex := hwx.len
 have ZX := fun w h => zof_any sx ax nx cx lx (by omega) w h
 have dx : dI (zmade sx lx) ≤ 12 := Nat.le_trans (zmade_dI hwx.lt) (by omega)
 generalize zmade sx lx = a at *
 replace ZX := Lib.hid ZX
 have ey := hwy.len
 have ZY := fun w h => zof_any sy ay ny cy ly (by omega) w h
 have dy : dI (zmade sy ly) ≤ 12 := Nat.le_trans (zmade_dI hwy.lt) (by omega)
 generalize zmade sy ly = b at *
 replace ZY := Lib.hid ZY
 have ez := hwz.len
 have ZZ := fun w h => zof_any sz az nz cz lz (by omega) w h
 have dz : dI (zmade sz lz) ≤ 12 := Nat.le_trans (zmade_dI hwz.lt) (by omega)
 generalize zmade sz lz = c at *
 replace ZZ := Lib.hid ZZ
 have ds : dI (a + b) ≤ 13 := dI_add dx dy
 have dt : dI (b + c) ≤ 13 := dI_add dy dz
 have dac : dI (a + c) ≤ 13 := dI_add dx dz
 have dp : dI (a * b) ≤ 24 := dI_mul dx dy
 have dr : dI (b * c) ≤ 24 := dI_mul dy dz
 have dm : dI (a * c) ≤ 24 := dI_mul dx dz
 have dd : dI (b - a) ≤ 13 := dI_sub dy dx
 have d0 : dI 0 ≤ 1 := dI_lit (by decide)
 have d1 : dI 1 ≤ 1 := dI_lit (by decide)
 have dn : dI (-1) ≤ 1 := dI_lit (by decide)
 have Aab := fun w => addI a b (by omega) (by omega) w
 have Aba := fun w => addI b a (by omega) (by omega) w
 rw [Int.add_comm b a] at Aba
 have Mab := fun w => mulI a b (by omega) (by omega) w
 have Mba := fun w => mulI b a (by omega) (by omega) w
 rw [Int.mul_comm b a] at Mba
 have Asc := fun w => addI (a + b) c (by omega) (by omega) w
 have Abc := fun w => addI b c (by omega) (by omega) w
 have Aat := fun w => addI a (b + c) (by omega) (by omega) w
 rw [← Int.add_assoc] at Aat
 have Mpc := fun w => mulI (a * b) c (by omega) (by omega) w
 have Mbc := fun w => mulI b c (by omega) (by omega) w
 have Mar := fun w => mulI a (b * c) (by omega) (by omega) w
 rw [← Int.mul_assoc] at Mar
 have Mat := fun w => mulI a (b + c) (by omega) (by omega) w
 have Mac := fun w => mulI a c (by omega) (by omega) w
 have Apm := fun w => addI (a * b) (a * c) (by omega) (by omega) w
 rw [← Int.mul_add] at Apm
 have Saa := fun w => subI a a (by omega) (by omega) w
 rw [Int.sub_self] at Saa
 have I0 := fun w => is_eq 0 (by decide) (by decide) w
 have Ssb := fun w => subI (a + b) b (by omega) (by omega) w
 rw [Int.add_sub_cancel] at Ssb
 have Na := fun w => negI a w
 have Nn := fun w => negI (-a) w
 rw [Int.neg_neg] at Nn
 have Sab := fun w => subI a b (by omega) (by omega) w
 have Sba := fun w => subI b a (by omega) (by omega) w
 have Nd := fun w => negI (b - a) w
 rw [Int.neg_sub] at Nd
 have O0 := fun w => ofI 0 (by decide) (by decide) w
 have O1 := fun w => ofI 1 (by decide) (by decide) w
 have On := fun w => ofI (-1) (by decide) (by decide) w
 have A0 := fun w => addI a 0 (by omega) (by omega) w
 rw [Int.add_zero] at A0
 have M1 := fun w => mulI a 1 (by omega) (by omega) w
 rw [Int.mul_one] at M1
 have Mn := fun w => mulI a (-1) (by omega) (by omega) w
 rw [Int.mul_neg_one] at Mn
 have Gp := fun w => signI (a * b) w
 have Ga := fun w => signI a w
 have Gb := fun w => signI b w
 have Gd := fun w => signI (a - b) w
 rw [← cmpZ_sub] at Gd
 have Cab := fun w => cmpII a b w
 have Aac := fun w => addI a c (by omega) (by omega) w
 have Ct := fun w => cmpII (a + c) (b + c) w
 rw [cmpZ_add] at Ct
 have Mq := fun w => mulI a a (by omega) (by omega) w
 have Gq := fun w => signI (a * a) w
 have Ba := fun w => absI a w
 have Fa := fun w => fromI (decide (a < 0)) a.natAbs a (natAbs_back a) w
 rw [← sgn_lt] at Fa
 have hsp : IntKind.i64.wrap (sgn a * sgn b) = sgn (a * b) := by rw [sgn_prod]; rcases sgn_one a with h | h | h <;> rcases sgn_one b with g | g | g <;> rw [h, g] <;> rfl
 have hsq : 0 ≤ sgn (a * a) := by rw [sgn_prod]; rcases sgn_one a with h | h | h <;> rw [h] <;> decide
 generalize a + b + c = u at *
 generalize a * b * c = v at *
 generalize a * (b + c) = mt at *
 generalize sgn (a * b) = sp at *
 generalize sgn (a * a) = sq at *
 generalize sgn a = sa at *
 generalize sgn b = sb at *
 generalize cmpZ a b = ccm at *
 generalize a.natAbs = na at *
 generalize a + b = s at *
 generalize a * b = p at *
 generalize b + c = t at *
 generalize b * c = r at *
 generalize a * c = m at *
 generalize a + c = ac at *
 generalize a * a = q at *
 generalize a - b = d at *
 generalize b - a = d2 at *
 generalize -a = ng at *
 replace Aab := Lib.hid Aab
 replace Aba := Lib.hid Aba
 replace Mab := Lib.hid Mab
 replace Mba := Lib.hid Mba
 replace Asc := Lib.hid Asc
 replace Abc := Lib.hid Abc
 replace Aat := Lib.hid Aat
 replace Mpc := Lib.hid Mpc
 replace Mbc := Lib.hid Mbc
 replace Mar := Lib.hid Mar
 replace Mat := Lib.hid Mat
 replace Mac := Lib.hid Mac
 replace Apm := Lib.hid Apm
 replace Saa := Lib.hid Saa
 replace I0 := Lib.hid I0
 replace Ssb := Lib.hid Ssb
 replace Na := Lib.hid Na
 replace Nn := Lib.hid Nn
 replace Sab := Lib.hid Sab
 replace Sba := Lib.hid Sba
 replace Nd := Lib.hid Nd
 replace O0 := Lib.hid O0
 replace O1 := Lib.hid O1
 replace On := Lib.hid On
 replace A0 := Lib.hid A0
 replace M1 := Lib.hid M1
 replace Mn := Lib.hid Mn
 replace Gp := Lib.hid Gp
 replace Ga := Lib.hid Ga
 replace Gb := Lib.hid Gb
 replace Gd := Lib.hid Gd
 replace Cab := Lib.hid Cab
 replace Aac := Lib.hid Aac
 replace Ct := Lib.hid Ct
 replace Mq := Lib.hid Mq
 replace Gq := Lib.hid Gq
 replace Ba := Lib.hid Ba
 replace Fa := Lib.hid Fa
 have hsq1 : decide (0 ≤ sq) = true := decide_eq_true hsq
 have hsq2 : decide (sq ≥ 0) = true := decide_eq_true hsq
 replace hsq := Lib.hid hsq
 have HW := Lib.hid (fun w h => zworks_any w h)
 clear ds dt dac dp dr dm dd d0 d1 dn
 replace kx := Lib.hid kx
 replace ky := Lib.hid ky
 replace kz := Lib.hid kz
 clear ex dx ey dy ez dz
 replace hL0 := (((hL0.new rfl [.bool sx, .slice ax nx cx] 36).new (K := w.heap.size + 1) (szA _ _) [.bool sy, .slice ay ny cy] 36).new (K := w.heap.size + 1 + 1) (by simp only [World.size_alloc]) [.bool sz, .slice az nz cz] 36)
 generalize hweq : (((w.alloc (.cells #[.bool sx, .slice ax nx cx] 36)).alloc (.cells #[.bool sy, .slice ay ny cy] 36)).alloc (.cells #[.bool sz, .slice az nz cz] 36)) = x1 at hL0
 replace hwx := Lib.hid hwx
 replace hwy := Lib.hid hwy
 replace hwz := Lib.hid hwz
 go_enter Tryz.func49, Tryz.ntmps49
 have kx' := kx.out
 have ky' := ky.out
 have kz' := kz.out
 have hN0 := cells_of _ 0 [] rfl (hL0.get _ _ (List.mem_cons_of_mem _ (List.mem_cons_of_mem _ List.mem_cons_self)))
 simp only [cellsF, and_true, Nat.zero_add, Nat.reduceAdd] at hN0
 have hN1 := cells_of _ 0 [] rfl (hL0.get _ _ (List.mem_cons_of_mem _ List.mem_cons_self))
 simp only [cellsF, and_true, Nat.zero_add, Nat.reduceAdd] at hN1
 have hN2 := cells_of _ 0 [] rfl (hL0.get _ _ List.mem_cons_self)
 simp only [cellsF, and_true, Nat.zero_add, Nat.reduceAdd] at hN2
 have hG := hL0.new rfl [.bool sx, .slice ax nx cx, .bool sy, .slice ay ny cy, .bool sz, .slice az nz cz] 36
 generalize hbs : x1.alloc (.cells #[.bool sx, .slice ax nx cx, .bool sy, .slice ay ny cy, .bool sz, .slice az nz cz] 36) = x2 at hG
 clear hL0
 have hL0 := hG
 clear hG
 have HFw := few3 12 12 rfl (by omega) (hL0.get _ _ List.mem_cons_self)
 rw [show decide (nx ≤ 12 ∧ ny ≤ 12 ∧ nz ≤ 12) = true from decide_eq_true (by omega)] at HFw
 replace HFw := Lib.hid HFw
 go_wp2_with fail
 clear hN0 hN1 hN2
 with_reducible refine Calls.mono HFw.out ?_
 rintro e x3 ⟨rfl, rfl⟩
 clear HFw hbs hweq
 clear kx kx' ky ky' kz kz'
 have hwx1 := hwx.out.below hL0.bl
 have hwy1 := hwy.out.below hL0.bl
 have hwz1 := hwz.out.below hL0.bl
 have hN0 := cells_of _ 0 [] rfl (hL0.get _ _ (List.mem_cons_of_mem _ (List.mem_cons_of_mem _ (List.mem_cons_of_mem _ List.mem_cons_self))))
 simp only [cellsF, and_true, Nat.zero_add, Nat.reduceAdd] at hN0
 have hN1 := cells_of _ 0 [] rfl (hL0.get _ _ (List.mem_cons_of_mem _ (List.mem_cons_of_mem _ List.mem_cons_self)))
 simp only [cellsF, and_true, Nat.zero_add, Nat.reduceAdd] at hN1
 have hN2 := cells_of _ 0 [] rfl (hL0.get _ _ (List.mem_cons_of_mem _ List.mem_cons_self))
 simp only [cellsF, and_true, Nat.zero_add, Nat.reduceAdd] at hN2
 go_upto_region 3 with fail
 clear hN0 hN1 hN2
 refine region_gh (by kernel_rfl) (by kernel_rfl) ?_
 refine lex_seg (gl := []) 6 (by kernel_rfl) ?_
 intro α iα F hF1 hF2
 have hq := GL.seg hF1 hL0
 simp only [fcC, cellsC, and_true, Nat.zero_add, Nat.reduceAdd] at hq
 simp only [List.take_succ_cons, List.take_zero, List.drop_succ_cons, List.drop_zero, List.take_nil, List.drop_nil]
 repeat (go_big_quiet_step (first | fail | (go_at_call 24; with_reducible exact seg_callW hF1 hF2 hwx1 ZX.out _) | (go_at_call 24; with_reducible exact seg_callW hF1 hF2 hwy1 ZY.out _) | (go_at_call 24; with_reducible exact seg_callW hF1 hF2 hwz1 ZZ.out _)))
 refine wpQuiet_nil ?_
 clear hq hF1 hF2 iα F α
 refine lex_new [.int .u64 0, .string ⟨#[]⟩, .bool false] 7 39 39 rfl rfl (of_decide_eq_true (by kernel_rfl)) (by kernel_rfl) rfl new_int ?_
 simp only [Act.put, List.setIfInBounds_toArray, List.set_cons_succ, List.set_cons_zero]
 refine lex_new [.int .u64 0, .string ⟨#[]⟩, .bool false] 8 39 39 rfl rfl (of_decide_eq_true (by kernel_rfl)) (by kernel_rfl) rfl new_int ?_
 simp only [Act.put, List.setIfInBounds_toArray, List.set_cons_succ, List.set_cons_zero]
 refine lex_new [.int .u64 0, .string ⟨#[]⟩, .bool false] 9 39 39 rfl rfl (of_decide_eq_true (by kernel_rfl)) (by kernel_rfl) rfl new_int ?_
 simp only [Act.put, List.setIfInBounds_toArray, List.set_cons_succ, List.set_cons_zero]
 refine lex_put [.int .u64 ((zl a : Nat) : Int), .string (zh a), .bool (zs a)] [.int .u64 0, .string ⟨#[]⟩, .bool false] 7 39 (.tmp 18) rfl (by kernel_rfl) (by simp [toG, upd]) rfl (fun w k h => put_int _ _ _ _ _ _ w k h) ?_
 simp only [Act.put]
 refine lex_put [.int .u64 ((zl b : Nat) : Int), .string (zh b), .bool (zs b)] [.int .u64 0, .string ⟨#[]⟩, .bool false] 8 39 (.tmp 20) rfl (by kernel_rfl) (by simp [toG, upd]) rfl (fun w k h => put_int _ _ _ _ _ _ w k h) ?_
 simp only [Act.put]
 refine lex_put [.int .u64 ((zl c : Nat) : Int), .string (zh c), .bool (zs c)] [.int .u64 0, .string ⟨#[]⟩, .bool false] 9 39 (.tmp 22) rfl (by kernel_rfl) (by simp [toG, upd]) rfl (fun w k h => put_int _ _ _ _ _ _ w k h) ?_
 simp only [Act.put]
 refine lexG_nil ?_
 intro κ x4 hS
 replace hL0 := hL0.ghs hS [(9, [.int .u64 ((zl c : Nat) : Int), .string (zh c), .bool (zs c)]), (8, [.int .u64 ((zl b : Nat) : Int), .string (zh b), .bool (zs b)]), (7, [.int .u64 ((zl a : Nat) : Int), .string (zh a), .bool (zs a)])] (by simp) (by intro p hp; simp only [List.mem_cons, List.not_mem_nil, or_false] at hp; rcases hp with rfl | rfl | rfl <;> exact ⟨_, by simp only [toG, upd]; rfl⟩)
 simp only [List.map_cons, List.map_nil, List.cons_append, List.nil_append] at hL0
 simp only [over_toG, over_nil, Act.put, List.setIfInBounds_toArray, List.set_cons_succ, List.set_cons_zero]
 clear hS
 generalize κ 9 = k4_9 at *
 generalize κ 8 = k4_8 at *
 generalize κ 7 = k4_7 at *
 clear hwx1 hwy1 hwz1 ZX ZY ZZ
 go_upto_region 4 with fail
 obtain ⟨α, iα, F, hF1, hF2⟩ := cls x4
 have hq0 := cls_box hF1 hL0 _ _ (List.mem_cons_of_mem _ (List.mem_cons_of_mem _ List.mem_cons_self))
 simp only [cellsC, and_true, Nat.zero_add, Nat.reduceAdd] at hq0
 have hq1 := cls_box hF1 hL0 _ _ (List.mem_cons_of_mem _ List.mem_cons_self)
 simp only [cellsC, and_true, Nat.zero_add, Nat.reduceAdd] at hq1
 have hq2 := cls_box hF1 hL0 _ _ List.mem_cons_self
 simp only [cellsC, and_true, Nat.zero_add, Nat.reduceAdd] at hq2
 refine region_qs 57 (C := fun w' => ∃ x, w' = F x) (by kernel_rfl) (by kernel_rfl) (cls_drew hF2) ?_
 simp only [List.take_succ_cons, List.take_zero, List.drop_succ_cons, List.drop_zero, List.take_nil, List.drop_nil]
 repeat (go_big_quiet_step (first | fail | (go_at_call 28; with_reducible exact cls_call hF1 hF2 Aab.out _) | (go_at_call 28; with_reducible exact cls_call hF1 hF2 Aba.out _) | (go_at_call 32; with_reducible exact cls_call hF1 hF2 Mab.out _) | (go_at_call 32; with_reducible exact cls_call hF1 hF2 Mba.out _) | (go_at_call 28; with_reducible exact cls_call hF1 hF2 Asc.out _) | (go_at_call 28; with_reducible exact cls_call hF1 hF2 Abc.out _) | (go_at_call 28; with_reducible exact cls_call hF1 hF2 Aat.out _) | (go_at_call 32; with_reducible exact cls_call hF1 hF2 Mpc.out _) | (go_at_call 32; with_reducible exact cls_call hF1 hF2 Mbc.out _) | (go_at_call 32; with_reducible exact cls_call hF1 hF2 Mar.out _) | (go_at_call 32; with_reducible exact cls_call hF1 hF2 Mat.out _) | (go_at_call 32; with_reducible exact cls_call hF1 hF2 Mac.out _) | (go_at_call 28; with_reducible exact cls_call hF1 hF2 Apm.out _)))
 refine wpQuiet_nil ?_
 rintro wq ⟨xq, rfl⟩
 replace hL0 := hL0.call (hF1 xq)
 clear  hq0 hq1 hq2 hF2
 generalize F xq = x5 at hL0 ⊢
 clear hF1 xq iα F α
 go_upto_region 6 with fail
 obtain ⟨α, iα, F, hF1, hF2⟩ := cls x5
 have hq0 := cls_box hF1 hL0 _ _ (List.mem_cons_of_mem _ (List.mem_cons_of_mem _ List.mem_cons_self))
 simp only [cellsC, and_true, Nat.zero_add, Nat.reduceAdd] at hq0
 have hq1 := cls_box hF1 hL0 _ _ (List.mem_cons_of_mem _ List.mem_cons_self)
 simp only [cellsC, and_true, Nat.zero_add, Nat.reduceAdd] at hq1
 have hq2 := cls_box hF1 hL0 _ _ List.mem_cons_self
 simp only [cellsC, and_true, Nat.zero_add, Nat.reduceAdd] at hq2
 refine region_qs 53 (C := fun w' => ∃ x, w' = F x) (by kernel_rfl) (by kernel_rfl) (cls_drew hF2) ?_
 simp only [List.take_succ_cons, List.take_zero, List.drop_succ_cons, List.drop_zero, List.take_nil, List.drop_nil]
 repeat (go_big_quiet_step (first | fail | (go_at_call 30; with_reducible exact cls_call hF1 hF2 Saa.out _) | (go_at_call 28; with_reducible exact cls_call hF1 hF2 Aab.out _) | (go_at_call 30; with_reducible exact cls_call hF1 hF2 Ssb.out _) | (go_at_call 34; with_reducible exact cls_call hF1 hF2 Na.out _) | (go_at_call 34; with_reducible exact cls_call hF1 hF2 Nn.out _) | (go_at_call 30; with_reducible exact cls_call hF1 hF2 Sab.out _) | (go_at_call 30; with_reducible exact cls_call hF1 hF2 Sba.out _) | (go_at_call 34; with_reducible exact cls_call hF1 hF2 Nd.out _) | (go_at_call 120; with_reducible exact cls_call hF1 hF2 O0.out _) | (go_at_call 120; with_reducible exact cls_call hF1 hF2 O1.out _) | (go_at_call 120; with_reducible exact cls_call hF1 hF2 On.out _) | (go_at_call 28; with_reducible exact cls_call hF1 hF2 A0.out _) | (go_at_call 32; with_reducible exact cls_call hF1 hF2 M1.out _) | (go_at_call 32; with_reducible exact cls_call hF1 hF2 Mn.out _) | (go_at_call 45; with_reducible exact cls_call hF1 hF2 I0.out _)))
 refine wpQuiet_nil ?_
 rintro wq ⟨xq, rfl⟩
 replace hL0 := hL0.call (hF1 xq)
 clear  hq0 hq1 hq2 hF2
 generalize F xq = x6 at hL0 ⊢
 clear hF1 xq iα F α
 go_upto_region 8 with fail
 have ht := htab.below hL0.bl
 obtain ⟨α, iα, F, hF1, hF2⟩ := cls x6
 have hq0 := cls_box hF1 hL0 _ _ (List.mem_cons_of_mem _ (List.mem_cons_of_mem _ List.mem_cons_self))
 simp only [cellsC, and_true, Nat.zero_add, Nat.reduceAdd] at hq0
 have hq1 := cls_box hF1 hL0 _ _ (List.mem_cons_of_mem _ List.mem_cons_self)
 simp only [cellsC, and_true, Nat.zero_add, Nat.reduceAdd] at hq1
 have hq2 := cls_box hF1 hL0 _ _ List.mem_cons_self
 simp only [cellsC, and_true, Nat.zero_add, Nat.reduceAdd] at hq2
 refine region_qs 53 (C := fun w' => ∃ x, w' = F x) (by kernel_rfl) (by kernel_rfl) (cls_drew hF2) ?_
 simp only [List.take_succ_cons, List.take_zero, List.drop_succ_cons, List.drop_zero, List.take_nil, List.drop_nil]
 repeat (go_big_quiet_step (first | fail | (go_at_call 32; with_reducible exact cls_call hF1 hF2 Mab.out _) | (go_at_call 36; with_reducible exact cls_call hF1 hF2 Gp.out _) | (go_at_call 36; with_reducible exact cls_call hF1 hF2 Ga.out _) | (go_at_call 36; with_reducible exact cls_call hF1 hF2 Gb.out _) | (go_at_call 38; with_reducible exact cls_call hF1 hF2 Cab.out _) | (go_at_call 30; with_reducible exact cls_call hF1 hF2 Sab.out _) | (go_at_call 36; with_reducible exact cls_call hF1 hF2 Gd.out _) | (go_at_call 28; with_reducible exact cls_call hF1 hF2 Aac.out _) | (go_at_call 28; with_reducible exact cls_call hF1 hF2 Abc.out _) | (go_at_call 38; with_reducible exact cls_call hF1 hF2 Ct.out _) | (go_at_call 32; with_reducible exact cls_call hF1 hF2 Mq.out _) | (go_at_call 36; with_reducible exact cls_call hF1 hF2 Gq.out _) | (go_at_call 40; with_reducible exact cls_call hF1 hF2 Ba.out _) | (go_at_call 122; with_reducible exact cls_call hF1 hF2 Fa.out _) | (go_at_call 23; with_reducible exact cls_callT hF1 hF2 ht HW.out _)))
 refine wpQuiet_nil ?_
 rintro wq ⟨xq, rfl⟩
 replace hL0 := hL0.call (hF1 xq)
 clear  hq0 hq1 hq2 hF2
 generalize F xq = x7 at hL0 ⊢
 clear hF1 xq iα F α
 go_wp2_with fail
 exact bodyPost_ret (v := .bool true) (by simp [results, Tryz.results49, go_sem]) rfl ⟨rfl, hL0.bl⟩
theorem irings_any (sx sy sz : Bool) (ax ay az : Option Addr) (nx cx ny cy nz cz : Nat) (lx ly lz : List Nat)  (w : World) (htab : Tab w) (hwx : Ws w (.slice ax nx cx) lx) (hwy : Ws w (.slice ay ny cy) ly) (hwz : Ws w (.slice az nz cz) lz) :
  Calls Tryz.prog 49 #[.agg #[.bool sx, .slice ax nx cx], .agg #[.bool sy, .slice ay ny cy], .agg #[.bool sz, .slice az nz cz]] w fun e w' => e = .returned (.bool true) ∧ Below w.heap.size w w' := by
 by_cases h : nx ≤ 12 ∧ ny ≤ 12 ∧ nz ≤ 12
 ·exact irings_small sx sy sz ax ay az nx cx ny cy nz cz lx ly lz h.1 h.2.1 h.2.2 w htab hwx hwy hwz
 ·exact irings_big sx sy sz ax ay az nx cx ny cy nz cz lx ly lz h w htab hwx hwy hwz
end Go.Proofs.YtdmoadfnogdfnaaGreatDoor
namespace Go.Proofs.YtdmoadfnogdfnaaGreatDoor
open Go.RowKit
attribute [local irreducible] lo hs sm s64 c64 d64 b64 mh ml pd pc qd qc val hiB str cmpI srD lz nb isq decB zl zh zs dval
theorem in64_mul {m n : Int} (h1 : -2147483648 < m) (h2 : m < 2147483648) (h3 : -2147483648 < n) (h4 : n < 2147483648) : in64 (m * n) = true := by
 have h : (m * n).natAbs ≤ 2147483647 * 2147483647 := by rw [Int.natAbs_mul]; exact Nat.mul_le_mul (by omega) (by omega)
 exact decide_eq_true ⟨by omega, by omega⟩
theorem div_out {m n : Int} (h0 : n ≠ 0) (h1 : -9223372036854775808 ≤ m) (h2 : m ≤ 9223372036854775807) (h : in64 (m / n) = false) : m = -9223372036854775808 ∧ n = -1 := by
 have hn := of_decide_eq_false h
 have ha := Int.natAbs_ediv_le_natAbs m n
 have hb : m / n = 9223372036854775808 ∧ m = -9223372036854775808 := by omega
 refine ⟨hb.2, ?_⟩
 have e := Int.mul_ediv_add_emod m n
 have e1 := Int.emod_nonneg m h0
 have e2 := Int.emod_lt m h0
 rw [hb.1] at e
 omega
theorem wrap_div {m n : Int} (h0 : n ≠ 0) (h1 : -9223372036854775808 ≤ m) (h2 : m ≤ 9223372036854775807) : IntKind.i64.wrap (IntKind.i64.wrap (m / n * n) + m % n) = m := by
 have e := Int.mul_ediv_add_emod m n
 rw [Int.mul_comm] at e
 generalize m / n * n = x at *
 generalize m % n = r at *
 rw [IntKind.wrap_i64, IntKind.wrap_i64]
 omega
set_option maxHeartbeats 16000000 in
set_option maxRecDepth 100000 in
theorem ismall_any (m n : Int) (m1 : -9223372036854775808 ≤ m) (m2 : m ≤ 9223372036854775807) (n1 : -9223372036854775808 ≤ n) (n2 : n ≤ 9223372036854775807) (w : World) (htab : Tab w) :
  Calls Tryz.prog 47 #[.int .i64 m, .int .i64 n] w fun e w' => e = .returned (.bool true) ∧ Below w.heap.size w w' := by
 have hL0 : GL w w [] := GL.start w
 have Om := Lib.hid (fun w => ofI m m1 (by omega) w)
 have On := Lib.hid (fun w => ofI n n1 (by omega) w)
 have dm : dI m ≤ 2 := Nat.le_trans (dI_small (by unfold Bs; omega)) (by omega)
 have dn : dI n ≤ 2 := Nat.le_trans (dI_small (by unfold Bs; omega)) (by omega)
 have im : in64 m = true := decide_eq_true ⟨m1, m2⟩
 have Im := fun w => i64I m w
 rw [im, if_pos rfl] at Im
 replace Im := Lib.hid Im
 have Cmn := Lib.hid (fun w => cmpII m n w)
 have Amn := Lib.hid (fun w => addI m n (by omega) (by omega) w)
 have Ia := Lib.hid (fun w => i64I (m + n) w)
 have Mmn := Lib.hid (fun w => mulI m n (by omega) (by omega) w)
 have Ip := Lib.hid (fun w => i64I (m * n) w)
 have HW := Lib.hid (fun w h => zworks_any w h)
 have hmul : -2147483648 < m → m < 2147483648 → -2147483648 < n → n < 2147483648 → in64 (m * n) = true := in64_mul
 replace hmul := Lib.hid hmul
 have D0 := Lib.hid (fun (w : World) (h : n = 0) => show Calls Tryz.prog 44 #[intV m, intV n] w (fun e w' => e = .returned (.tuple #[intV 0, intV 0, .bool false]) ∧ Below w.heap.size w w') from by rw [h]; exact div0I m w)
 have D1 := Lib.hid (fun (w : World) (h : n ≠ 0) => divI m n h (by omega) (by omega) w)
 have Iq := Lib.hid (fun w => i64I (m / n) w)
 have Ir := Lib.hid (fun (w : World) (h : n ≠ 0) => show Calls Tryz.prog 50 #[intV (m % n)] w (fun e w' => e = .returned (.tuple #[.int .i64 (m % n), .bool true]) ∧ Below w.heap.size w w') from by have h1 := Int.emod_nonneg m h; have h2 := Int.emod_lt m h; have := i64I (m % n) w; rw [show in64 (m % n) = true from decide_eq_true ⟨by omega, by omega⟩, if_pos rfl] at this; exact this)
 have hdo := Lib.hid (fun h h' => div_out (m := m) (n := n) h m1 m2 h')
 have hwd := Lib.hid (fun h => wrap_div (m := m) (n := n) h m1 m2)
 have hr0 := Lib.hid (fun h => Int.emod_nonneg m (b := n) h)
 replace m1 := Lib.hid m1
 replace m2 := Lib.hid m2
 replace n1 := Lib.hid n1
 replace n2 := Lib.hid n2
 clear dm dn im
 go_enter Tryz.func47, Tryz.ntmps47
 go_wp2_with fail
 with_reducible refine Calls.mono (Om.out _) ?_
 rintro e x1 ⟨rfl, hb⟩
 replace hL0 := hL0.call hb
 clear hb
 go_wp2_with fail
 with_reducible refine Calls.mono (On.out _) ?_
 rintro e x2 ⟨rfl, hb⟩
 replace hL0 := hL0.call hb
 clear hb
 replace hL0 := ((hL0.new rfl [.int .u64 ((zl m : Nat) : Int), .string (zh m), .bool (zs m)] 39).new (K := x2.heap.size + 1) (szA _ _) [.int .u64 ((zl n : Nat) : Int), .string (zh n), .bool (zs n)] 39)
 generalize hweq : ((x2.alloc (.cells #[.int .u64 ((zl m : Nat) : Int), .string (zh m), .bool (zs m)] 39)).alloc (.cells #[.int .u64 ((zl n : Nat) : Int), .string (zh n), .bool (zs n)] 39)) = x3 at hL0
 have hN0 := cells_of _ 0 [] rfl (hL0.get _ _ (List.mem_cons_of_mem _ List.mem_cons_self))
 simp only [cellsF, and_true, Nat.zero_add, Nat.reduceAdd] at hN0
 go_wp2_with fail
 clear hN0
 with_reducible refine Calls.mono (Im.out _) ?_
 rintro e x4 ⟨rfl, hb⟩
 replace hL0 := hL0.call hb
 clear hb hweq
 go_upto_region 3 with fail
 go_cut [54] from 29 to 54 (fun z wx => z = .bool false ∧ GL w wx [(x2.heap.size + 1, [.int .u64 ((zl n : Nat) : Int), .string (zh n), .bool (zs n)]), (x2.heap.size, [.int .u64 ((zl m : Nat) : Int), .string (zh m), .bool (zs m)])])
 case first =>
  rcases Int.lt_trichotomy m n with h | h | h
  ·have c1 : cmpZ m n = -1 := if_pos h
   have CC := fun w => Cmn.out w
   rw [c1] at CC
   replace CC := Lib.hid CC
   have c2 : decide (m < n) = true := decide_eq_true h
   have c3 : (m == n) = false := beq_eq_false_iff_ne.2 (by omega)
   have c4 : decide (m = n) = false := decide_eq_false (by omega)
   have e := ne_int (x := m) (y := n) (by omega)
   clear h c1
   rcases e with e0 | ⟨e0, e1⟩ | ⟨e0, e1, e2⟩
   all_goals (
    have hN0 := cells_of _ 0 [] rfl (hL0.get _ _ (List.mem_cons_of_mem _ List.mem_cons_self))
    simp only [cellsF, and_true, Nat.zero_add, Nat.reduceAdd] at hN0
    have hN1 := cells_of _ 0 [] rfl (hL0.get _ _ List.mem_cons_self)
    simp only [cellsF, and_true, Nat.zero_add, Nat.reduceAdd] at hN1
    go_wp2_with fail
    clear hN0 hN1
    with_reducible refine Calls.mono (CC.out _) ?_
    rintro e x5 ⟨rfl, hb⟩
    replace hL0 := hL0.call hb
    clear hb
    go_wp2_with fail
    go_meet
    exact ⟨rfl, hL0⟩)
  ·subst h
   have c1 : cmpZ m m = 0 := by unfold cmpZ; rw [if_neg (by omega), if_pos rfl]
   have CC := fun w => Cmn.out w
   rw [c1] at CC
   replace CC := Lib.hid CC
   have c2 : decide (m < m) = false := decide_eq_false (by omega)
   have hN0 := cells_of _ 0 [] rfl (hL0.get _ _ (List.mem_cons_of_mem _ List.mem_cons_self))
   simp only [cellsF, and_true, Nat.zero_add, Nat.reduceAdd] at hN0
   have hN1 := cells_of _ 0 [] rfl (hL0.get _ _ List.mem_cons_self)
   simp only [cellsF, and_true, Nat.zero_add, Nat.reduceAdd] at hN1
   go_wp2_with fail
   clear hN0 hN1
   with_reducible refine Calls.mono (CC.out _) ?_
   rintro e x6 ⟨rfl, hb⟩
   replace hL0 := hL0.call hb
   clear hb
   go_wp2_with fail
   go_meet
   exact ⟨rfl, hL0⟩
  ·have c1 : cmpZ m n = 1 := by unfold cmpZ; rw [if_neg (by omega), if_neg (by omega)]
   have CC := fun w => Cmn.out w
   rw [c1] at CC
   replace CC := Lib.hid CC
   have c2 : decide (m < n) = false := decide_eq_false (by omega)
   have c3 : (m == n) = false := beq_eq_false_iff_ne.2 (by omega)
   have c4 : decide (m = n) = false := decide_eq_false (by omega)
   have e := ne_int (x := m) (y := n) (by omega)
   clear h c1
   rcases e with e0 | ⟨e0, e1⟩ | ⟨e0, e1, e2⟩
   all_goals (
    have hN0 := cells_of _ 0 [] rfl (hL0.get _ _ (List.mem_cons_of_mem _ List.mem_cons_self))
    simp only [cellsF, and_true, Nat.zero_add, Nat.reduceAdd] at hN0
    have hN1 := cells_of _ 0 [] rfl (hL0.get _ _ List.mem_cons_self)
    simp only [cellsF, and_true, Nat.zero_add, Nat.reduceAdd] at hN1
    go_wp2_with fail
    clear hN0 hN1
    with_reducible refine Calls.mono (CC.out _) ?_
    rintro e x7 ⟨rfl, hb⟩
    replace hL0 := hL0.call hb
    clear hb
    go_wp2_with fail
    go_meet
    exact ⟨rfl, hL0⟩)
 case rest =>
  clear hL0
  obtain ⟨rfl, hL0⟩ := hcut
  have ia := Ia.out
  have ip := Ip.out
  clear Ia Ip Cmn Im
  obtain ⟨one, h1⟩ : ∃ one, one = in64 (m + n) := ⟨_, rfl⟩
  obtain ⟨s, hs⟩ : ∃ s, s = if in64 (m + n) = true then m + n else 0 := ⟨_, rfl⟩
  rw [← hs, ← h1] at ia
  obtain ⟨two, h2⟩ : ∃ two, two = in64 (m * n) := ⟨_, rfl⟩
  obtain ⟨p, hp⟩ : ∃ p, p = if in64 (m * n) = true then m * n else 0 := ⟨_, rfl⟩
  rw [← hp, ← h2] at ip
  rw [← h1] at hs
  rw [← h2] at hp
  replace ia := Lib.hid ia
  replace ip := Lib.hid ip
  replace h1 := Lib.hid h1
  replace h2 := Lib.hid h2
  replace hs := Lib.hid hs
  replace hp := Lib.hid hp
  generalize hq : m / n = q at *
  generalize hr : m % n = r at *
  clear hq hr
  generalize hmn : m + n = mn at *
  replace hmn := Lib.hid hmn
  obtain ⟨pp, hpp⟩ : ∃ pp, pp = m * n := ⟨_, rfl⟩
  have hN0 := cells_of _ 0 [] rfl (hL0.get _ _ (List.mem_cons_of_mem _ List.mem_cons_self))
  simp only [cellsF, and_true, Nat.zero_add, Nat.reduceAdd] at hN0
  have hN1 := cells_of _ 0 [] rfl (hL0.get _ _ List.mem_cons_self)
  simp only [cellsF, and_true, Nat.zero_add, Nat.reduceAdd] at hN1
  go_wp2_with fail
  clear hN0 hN1
  with_reducible refine Calls.mono (Amn.out _) ?_
  rintro e x8 ⟨rfl, hb⟩
  replace hL0 := hL0.call hb
  clear hb
  go_wp2_with fail
  with_reducible refine Calls.mono (ia.out _) ?_
  rintro e x9 ⟨rfl, hb⟩
  replace hL0 := hL0.call hb
  clear hb
  have hN0 := cells_of _ 0 [] rfl (hL0.get _ _ (List.mem_cons_of_mem _ List.mem_cons_self))
  simp only [cellsF, and_true, Nat.zero_add, Nat.reduceAdd] at hN0
  have hN1 := cells_of _ 0 [] rfl (hL0.get _ _ List.mem_cons_self)
  simp only [cellsF, and_true, Nat.zero_add, Nat.reduceAdd] at hN1
  go_wp2_with fail
  clear hN0 hN1
  with_reducible refine Calls.mono (Mmn.out _) ?_
  rintro e x10 ⟨rfl, hb⟩
  replace hL0 := hL0.call hb
  clear hb
  go_wp2_with fail
  with_reducible refine Calls.mono (ip.out _) ?_
  rintro e x11 ⟨rfl, hb⟩
  replace hL0 := hL0.call hb
  clear hb
  clear Amn Mmn ia ip
  go_upto_region 7 with fail
  go_cut [114] from 69 to 114 (fun z wx => z = .bool false ∧ GL w wx [(x2.heap.size + 1, [.int .u64 ((zl n : Nat) : Int), .string (zh n), .bool (zs n)]), (x2.heap.size, [.int .u64 ((zl m : Nat) : Int), .string (zh m), .bool (zs m)])])
  case first =>
   have m1' := m1.out
   have m2' := m2.out
   have n1' := n1.out
   have n2' := n2.out
   have hs' := hs.out
   have h1' := h1.out
   have hmn' := hmn.out
   cases one with
   | true =>
    have h3 := of_decide_eq_true h1'.symm
    rw [if_pos rfl] at hs'
    have hW : IntKind.i64.wrap (m + n) = s := by rw [hs', ← hmn']; exact IntWalk.i64_in _ (by omega)
    rcases Int.lt_trichotomy m 0 with hm | hm | hm <;> rcases Int.lt_trichotomy n 0 with hn | hn | hn
    ·have c1 : decide (0 < m) = false := decide_eq_false (by omega)
     have c2 : decide (m < 0) = true := decide_eq_true hm
     have c3 : decide (0 < n) = false := decide_eq_false (by omega)
     have c4 : decide (n < 0) = true := decide_eq_true hn
     have c5 : decide (0 ≤ s) = false := decide_eq_false (by omega)
     clear hm hn h3 m1' m2' n1' n2' hs' h1' hmn'
     go_wp2_with fail
     go_meet
     exact ⟨rfl, hL0⟩
    ·have c1 : decide (0 < m) = false := decide_eq_false (by omega)
     have c2 : decide (m < 0) = true := decide_eq_true hm
     have c3 : decide (0 < n) = false := decide_eq_false (by omega)
     have c4 : decide (n < 0) = false := decide_eq_false (by omega)
     clear hm hn h3 m1' m2' n1' n2' hs' h1' hmn'
     go_wp2_with fail
     go_meet
     exact ⟨rfl, hL0⟩
    ·have c1 : decide (0 < m) = false := decide_eq_false (by omega)
     have c2 : decide (m < 0) = true := decide_eq_true hm
     have c3 : decide (0 < n) = true := decide_eq_true hn
     have c4 : decide (n < 0) = false := decide_eq_false (by omega)
     clear hm hn h3 m1' m2' n1' n2' hs' h1' hmn'
     go_wp2_with fail
     go_meet
     exact ⟨rfl, hL0⟩
    ·have c1 : decide (0 < m) = false := decide_eq_false (by omega)
     have c2 : decide (m < 0) = false := decide_eq_false (by omega)
     have c3 : decide (0 < n) = false := decide_eq_false (by omega)
     have c4 : decide (n < 0) = true := decide_eq_true hn
     clear hm hn h3 m1' m2' n1' n2' hs' h1' hmn'
     go_wp2_with fail
     go_meet
     exact ⟨rfl, hL0⟩
    ·have c1 : decide (0 < m) = false := decide_eq_false (by omega)
     have c2 : decide (m < 0) = false := decide_eq_false (by omega)
     have c3 : decide (0 < n) = false := decide_eq_false (by omega)
     have c4 : decide (n < 0) = false := decide_eq_false (by omega)
     clear hm hn h3 m1' m2' n1' n2' hs' h1' hmn'
     go_wp2_with fail
     go_meet
     exact ⟨rfl, hL0⟩
    ·have c1 : decide (0 < m) = false := decide_eq_false (by omega)
     have c2 : decide (m < 0) = false := decide_eq_false (by omega)
     have c3 : decide (0 < n) = true := decide_eq_true hn
     have c4 : decide (n < 0) = false := decide_eq_false (by omega)
     clear hm hn h3 m1' m2' n1' n2' hs' h1' hmn'
     go_wp2_with fail
     go_meet
     exact ⟨rfl, hL0⟩
    ·have c1 : decide (0 < m) = true := decide_eq_true hm
     have c2 : decide (m < 0) = false := decide_eq_false (by omega)
     have c3 : decide (0 < n) = false := decide_eq_false (by omega)
     have c4 : decide (n < 0) = true := decide_eq_true hn
     clear hm hn h3 m1' m2' n1' n2' hs' h1' hmn'
     go_wp2_with fail
     go_meet
     exact ⟨rfl, hL0⟩
    ·have c1 : decide (0 < m) = true := decide_eq_true hm
     have c2 : decide (m < 0) = false := decide_eq_false (by omega)
     have c3 : decide (0 < n) = false := decide_eq_false (by omega)
     have c4 : decide (n < 0) = false := decide_eq_false (by omega)
     clear hm hn h3 m1' m2' n1' n2' hs' h1' hmn'
     go_wp2_with fail
     go_meet
     exact ⟨rfl, hL0⟩
    ·have c1 : decide (0 < m) = true := decide_eq_true hm
     have c2 : decide (m < 0) = false := decide_eq_false (by omega)
     have c3 : decide (0 < n) = true := decide_eq_true hn
     have c4 : decide (n < 0) = false := decide_eq_false (by omega)
     have c5 : decide (s < 0) = false := decide_eq_false (by omega)
     clear hm hn h3 m1' m2' n1' n2' hs' h1' hmn'
     go_wp2_with fail
     go_meet
     exact ⟨rfl, hL0⟩
   | false =>
    have h3 := of_decide_eq_false h1'.symm
    rw [if_neg Bool.false_ne_true] at hs'
    subst hs'
    obtain ⟨W, hW⟩ : ∃ W, IntKind.i64.wrap (m + n) = W := ⟨_, rfl⟩
    have hWv := hW
    rw [IntKind.wrap_i64] at hWv
    rcases Int.lt_trichotomy m 0 with hm | hm | hm <;> rcases Int.lt_trichotomy n 0 with hn | hn | hn
    ·have c1 : decide (0 < m) = false := decide_eq_false (by omega)
     have c2 : decide (m < 0) = true := decide_eq_true hm
     have c3 : decide (0 < n) = false := decide_eq_false (by omega)
     have c4 : decide (n < 0) = true := decide_eq_true hn
     have c5 : decide (0 ≤ W) = true := decide_eq_true (by omega)
     clear hm hn h3 m1' m2' n1' n2' h1' hmn' hWv
     go_wp2_with fail
     go_meet
     exact ⟨rfl, hL0⟩
    ·exfalso; omega
    ·exfalso; omega
    ·exfalso; omega
    ·exfalso; omega
    ·exfalso; omega
    ·exfalso; omega
    ·exfalso; omega
    ·have c1 : decide (0 < m) = true := decide_eq_true hm
     have c2 : decide (m < 0) = false := decide_eq_false (by omega)
     have c3 : decide (0 < n) = true := decide_eq_true hn
     have c4 : decide (n < 0) = false := decide_eq_false (by omega)
     have c5 : decide (W < 0) = true := decide_eq_true (by omega)
     clear hm hn h3 m1' m2' n1' n2' h1' hmn' hWv
     go_wp2_with fail
     go_meet
     exact ⟨rfl, hL0⟩
  case rest =>
   clear hL0
   obtain ⟨rfl, hL0⟩ := hcut
   go_upto_region 9 with fail
   go_cut [150] from 115 to 150 (fun z wx => z = .bool false ∧ GL w wx [(x2.heap.size + 1, [.int .u64 ((zl n : Nat) : Int), .string (zh n), .bool (zs n)]), (x2.heap.size, [.int .u64 ((zl m : Nat) : Int), .string (zh m), .bool (zs m)])])
   case first =>
    have hp' := hp.out
    have h2' := h2.out
    have hmu := hmul.out
    cases two with
    | true =>
     have h3 := of_decide_eq_true h2'.symm
     rw [if_pos rfl] at hp'
     have hW : IntKind.i64.wrap (m * n) = p := by rw [hp']; exact IntWalk.i64_in _ (by omega)
     clear h3 hp' h2' hmu
     by_cases r0 : -2147483648 < m
     rotate_left
     ·skip
      have c0 : decide (-2147483648 < m) = false := decide_eq_false r0
      clear r0
      go_wp2_with fail
      go_meet
      exact ⟨rfl, hL0⟩
     by_cases r1 : m < 2147483648
     rotate_left
     ·skip
      have c0 : decide (-2147483648 < m) = true := decide_eq_true r0
      have c1 : decide (m < 2147483648) = false := decide_eq_false r1
      clear r0 r1
      go_wp2_with fail
      go_meet
      exact ⟨rfl, hL0⟩
     by_cases r2 : -2147483648 < n
     rotate_left
     ·skip
      have c0 : decide (-2147483648 < m) = true := decide_eq_true r0
      have c1 : decide (m < 2147483648) = true := decide_eq_true r1
      have c2 : decide (-2147483648 < n) = false := decide_eq_false r2
      clear r0 r1 r2
      go_wp2_with fail
      go_meet
      exact ⟨rfl, hL0⟩
     by_cases r3 : n < 2147483648
     rotate_left
     ·skip
      have c0 : decide (-2147483648 < m) = true := decide_eq_true r0
      have c1 : decide (m < 2147483648) = true := decide_eq_true r1
      have c2 : decide (-2147483648 < n) = true := decide_eq_true r2
      have c3 : decide (n < 2147483648) = false := decide_eq_false r3
      clear r0 r1 r2 r3
      go_wp2_with fail
      go_meet
      exact ⟨rfl, hL0⟩
     ·skip
      have c0 : decide (-2147483648 < m) = true := decide_eq_true r0
      have c1 : decide (m < 2147483648) = true := decide_eq_true r1
      have c2 : decide (-2147483648 < n) = true := decide_eq_true r2
      have c3 : decide (n < 2147483648) = true := decide_eq_true r3
      clear r0 r1 r2 r3
      go_wp2_with fail
      go_meet
      exact ⟨rfl, hL0⟩
    | false =>
     rw [if_neg Bool.false_ne_true] at hp'
     subst hp'
     by_cases r0 : -2147483648 < m
     rotate_left
     ·skip
      have c0 : decide (-2147483648 < m) = false := decide_eq_false r0
      clear r0 hmu h2'
      go_wp2_with fail
      go_meet
      exact ⟨rfl, hL0⟩
     by_cases r1 : m < 2147483648
     rotate_left
     ·skip
      have c0 : decide (-2147483648 < m) = true := decide_eq_true r0
      have c1 : decide (m < 2147483648) = false := decide_eq_false r1
      clear r0 r1 hmu h2'
      go_wp2_with fail
      go_meet
      exact ⟨rfl, hL0⟩
     by_cases r2 : -2147483648 < n
     rotate_left
     ·skip
      have c0 : decide (-2147483648 < m) = true := decide_eq_true r0
      have c1 : decide (m < 2147483648) = true := decide_eq_true r1
      have c2 : decide (-2147483648 < n) = false := decide_eq_false r2
      clear r0 r1 r2 hmu h2'
      go_wp2_with fail
      go_meet
      exact ⟨rfl, hL0⟩
     by_cases r3 : n < 2147483648
     rotate_left
     ·skip
      have c0 : decide (-2147483648 < m) = true := decide_eq_true r0
      have c1 : decide (m < 2147483648) = true := decide_eq_true r1
      have c2 : decide (-2147483648 < n) = true := decide_eq_true r2
      have c3 : decide (n < 2147483648) = false := decide_eq_false r3
      clear r0 r1 r2 r3 hmu h2'
      go_wp2_with fail
      go_meet
      exact ⟨rfl, hL0⟩
     ·exact absurd (hmu r0 r1 r2 r3) (by rw [← h2']; exact Bool.false_ne_true)
   case rest =>
    clear hL0
    obtain ⟨rfl, hL0⟩ := hcut
    clear hp h2 hs h1 hmul hmn
    by_cases hn : n = 0
    ·have D := fun w => D0.out w hn
     replace D := Lib.hid D
     have c1 : (n == 0) = true := by rw [hn]; rfl
     have c2 : decide (n = 0) = true := decide_eq_true hn
     clear D0 D1 Iq Ir hdo hwd hr0 hn
     have hN0 := cells_of _ 0 [] rfl (hL0.get _ _ (List.mem_cons_of_mem _ List.mem_cons_self))
     simp only [cellsF, and_true, Nat.zero_add, Nat.reduceAdd] at hN0
     have hN1 := cells_of _ 0 [] rfl (hL0.get _ _ List.mem_cons_self)
     simp only [cellsF, and_true, Nat.zero_add, Nat.reduceAdd] at hN1
     go_wp2_with fail
     clear hN0 hN1
     with_reducible refine Calls.mono (D.out _) ?_
     rintro e x12 ⟨rfl, hb⟩
     replace hL0 := hL0.call hb
     clear hb
     replace hL0 := ((hL0.new rfl [.int .u64 ((zl 0 : Nat) : Int), .string (zh 0), .bool (zs 0)] 39).new (K := x12.heap.size + 1) (szA _ _) [.int .u64 ((zl 0 : Nat) : Int), .string (zh 0), .bool (zs 0)] 39)
     generalize hweq : ((x12.alloc (.cells #[.int .u64 ((zl 0 : Nat) : Int), .string (zh 0), .bool (zs 0)] 39)).alloc (.cells #[.int .u64 ((zl 0 : Nat) : Int), .string (zh 0), .bool (zs 0)] 39)) = x13 at hL0
     go_wp2_with fail
     with_reducible refine Calls.mono (HW.out _ (htab.below hL0.bl)) ?_
     rintro e x14 ⟨rfl, hb⟩
     replace hL0 := hL0.call hb
     clear hb hweq
     go_wp2_with fail
     exact bodyPost_ret (v := .bool true) (by simp [results, Tryz.results47, go_sem]) rfl ⟨rfl, hL0.bl⟩
    ·have D := fun w => D1.out w hn
     replace D := Lib.hid D
     have R := fun w => Ir.out w hn
     replace R := Lib.hid R
     have c1 : (n == 0) = false := beq_eq_false_iff_ne.2 hn
     have c2 : decide (n = 0) = false := decide_eq_false hn
     have c3 : decide (0 ≤ r) = true := decide_eq_true (hr0.out hn)
     have hd' := hdo.out hn
     have hw' := hwd.out hn
     have iq := Iq.out
     generalize hth : in64 q = three at *
     clear D0 D1 Iq Ir hdo hwd hr0 hn
     replace iq := Lib.hid iq
     replace D := Lib.hid D.out
     obtain ⟨X, hX⟩ : ∃ X, IntKind.i64.wrap (q * n) = X := ⟨_, rfl⟩
     rw [hX] at hw'
     cases three with
     | true =>
      have iq' := iq.out
      simp only [if_true] at iq'
      clear hd'
      replace iq' := Lib.hid iq'
      clear iq
      have hN0 := cells_of _ 0 [] rfl (hL0.get _ _ (List.mem_cons_of_mem _ List.mem_cons_self))
      simp only [cellsF, and_true, Nat.zero_add, Nat.reduceAdd] at hN0
      have hN1 := cells_of _ 0 [] rfl (hL0.get _ _ List.mem_cons_self)
      simp only [cellsF, and_true, Nat.zero_add, Nat.reduceAdd] at hN1
      go_wp2_with fail
      clear hN0 hN1
      with_reducible refine Calls.mono (D.out _) ?_
      rintro e x15 ⟨rfl, hb⟩
      replace hL0 := hL0.call hb
      clear hb
      replace hL0 := ((hL0.new rfl [.int .u64 ((zl q : Nat) : Int), .string (zh q), .bool (zs q)] 39).new (K := x15.heap.size + 1) (szA _ _) [.int .u64 ((zl r : Nat) : Int), .string (zh r), .bool (zs r)] 39)
      generalize hweq : ((x15.alloc (.cells #[.int .u64 ((zl q : Nat) : Int), .string (zh q), .bool (zs q)] 39)).alloc (.cells #[.int .u64 ((zl r : Nat) : Int), .string (zh r), .bool (zs r)] 39)) = x16 at hL0
      have hN0 := cells_of _ 0 [] rfl (hL0.get _ _ (List.mem_cons_of_mem _ List.mem_cons_self))
      simp only [cellsF, and_true, Nat.zero_add, Nat.reduceAdd] at hN0
      go_wp2_with fail
      clear hN0
      with_reducible refine Calls.mono (iq'.out _) ?_
      rintro e x17 ⟨rfl, hb⟩
      replace hL0 := hL0.call hb
      clear hb hweq
      have hN0 := cells_of _ 0 [] rfl (hL0.get _ _ List.mem_cons_self)
      simp only [cellsF, and_true, Nat.zero_add, Nat.reduceAdd] at hN0
      go_wp2_with fail
      clear hN0
      with_reducible refine Calls.mono (R.out _) ?_
      rintro e x18 ⟨rfl, hb⟩
      replace hL0 := hL0.call hb
      clear hb
      go_wp2_with fail
      with_reducible refine Calls.mono (HW.out _ (htab.below hL0.bl)) ?_
      rintro e x19 ⟨rfl, hb⟩
      replace hL0 := hL0.call hb
      clear hb
      go_wp2_with fail
      exact bodyPost_ret (v := .bool true) (by simp [results, Tryz.results47, go_sem]) rfl ⟨rfl, hL0.bl⟩
     | false =>
      have iq' := iq.out
      simp only [Bool.false_eq_true, if_false] at iq'
      obtain ⟨em, en⟩ := hd' rfl
      have c4 : (m == -9223372036854775808) = true := by rw [em]; rfl
      have c5 : (n == -1) = true := by rw [en]; rfl
      have c6 : decide (m = -9223372036854775808) = true := decide_eq_true em
      have c7 : decide (n = -1) = true := decide_eq_true en
      clear hd' hw' hX em en
      replace iq' := Lib.hid iq'
      clear iq
      have hN0 := cells_of _ 0 [] rfl (hL0.get _ _ (List.mem_cons_of_mem _ List.mem_cons_self))
      simp only [cellsF, and_true, Nat.zero_add, Nat.reduceAdd] at hN0
      have hN1 := cells_of _ 0 [] rfl (hL0.get _ _ List.mem_cons_self)
      simp only [cellsF, and_true, Nat.zero_add, Nat.reduceAdd] at hN1
      go_wp2_with fail
      clear hN0 hN1
      with_reducible refine Calls.mono (D.out _) ?_
      rintro e x20 ⟨rfl, hb⟩
      replace hL0 := hL0.call hb
      clear hb
      replace hL0 := ((hL0.new rfl [.int .u64 ((zl q : Nat) : Int), .string (zh q), .bool (zs q)] 39).new (K := x20.heap.size + 1) (szA _ _) [.int .u64 ((zl r : Nat) : Int), .string (zh r), .bool (zs r)] 39)
      generalize hweq : ((x20.alloc (.cells #[.int .u64 ((zl q : Nat) : Int), .string (zh q), .bool (zs q)] 39)).alloc (.cells #[.int .u64 ((zl r : Nat) : Int), .string (zh r), .bool (zs r)] 39)) = x21 at hL0
      have hN0 := cells_of _ 0 [] rfl (hL0.get _ _ (List.mem_cons_of_mem _ List.mem_cons_self))
      simp only [cellsF, and_true, Nat.zero_add, Nat.reduceAdd] at hN0
      go_wp2_with fail
      clear hN0
      with_reducible refine Calls.mono (iq'.out _) ?_
      rintro e x22 ⟨rfl, hb⟩
      replace hL0 := hL0.call hb
      clear hb hweq
      have hN0 := cells_of _ 0 [] rfl (hL0.get _ _ List.mem_cons_self)
      simp only [cellsF, and_true, Nat.zero_add, Nat.reduceAdd] at hN0
      go_wp2_with fail
      clear hN0
      with_reducible refine Calls.mono (R.out _) ?_
      rintro e x23 ⟨rfl, hb⟩
      replace hL0 := hL0.call hb
      clear hb
      go_wp2_with fail
      with_reducible refine Calls.mono (HW.out _ (htab.below hL0.bl)) ?_
      rintro e x24 ⟨rfl, hb⟩
      replace hL0 := hL0.call hb
      clear hb
      go_wp2_with fail
      exact bodyPost_ret (v := .bool true) (by simp [results, Tryz.results47, go_sem]) rfl ⟨rfl, hL0.bl⟩
theorem ismall_two (m : Int) (hm : -9223372036854775808 ≤ m ∧ m ≤ 9223372036854775807) (n : Int) (hn : -9223372036854775808 ≤ n ∧ n ≤ 9223372036854775807) (w : World) (htab : Tab w) :
  Calls Tryz.prog 47 #[.int .i64 m, .int .i64 n] w fun e w' => e = .returned (.bool true) ∧ Below w.heap.size w w' := ismall_any m n hm.1 hm.2 hn.1 hn.2 w htab
end Go.Proofs.YtdmoadfnogdfnaaGreatDoor
namespace Go.Proofs.YtdmoadfnogdfnaaGreatDoor
open Go.RowKit
theorem iknown_any (w : World) (htab : Tab w) :
  Calls Tryz.prog 6 #[] w fun e w' => e = .returned (.bool true) ∧ Below w.heap.size w w' :=
 iknown_of (fun m n h1 h2 h3 h4 w ht => ismall_two m ⟨h1, h2⟩ n ⟨h3, h4⟩ w ht)
  (fun sx sy ax ay nx cx ny cy lx ly w ht h1 h2 => isums_any sx sy ax ay nx cx ny cy lx ly w ht h1 h2)
  (fun sx sy ax ay nx cx ny cy lx ly w ht h1 h2 => idivs_any sx sy ax ay nx cx ny cy lx ly w ht h1 h2)
  (fun sx sy sz ax ay az nx cx ny cy nz cz lx ly lz w ht h1 h2 h3 => idivides_any sx sy sz ax ay az nx cx ny cy nz cz lx ly lz w ht h1 h2 h3)
  (fun sx sy sz ax ay az nx cx ny cy nz cz lx ly lz w ht h1 h2 h3 => irings_any sx sy sz ax ay az nx cx ny cy nz cz lx ly lz w ht h1 h2 h3)
  (fun sx ax nx cx lx w ht h1 => itexts_any sx ax nx cx lx w ht h1)
  (fun s w ht => ireads_any s w ht) (fun w ht => zworks_any w ht) w htab
end Go.Proofs.YtdmoadfnogdfnaaGreatDoor
namespace Go.Proofs.YtdmoadfnogdfnaaGreatDoor.intsKnown
open Go.ChangeShapes Go.WideShapes Go.ChangeAt Go.RowKit
set_option maxRecDepth 100000 in
theorem contract (H : Type) (enc : TypeId × Value → H) (W : World) (base : Nat) (args : Array Value) (ds gs : List (DataW H)) (before : List MemPlace)
  (hval : ∀ (j : Nat) t v, Tryz.f6.params[j]? = some t → args[j]? = some v → Value.okWide Tryz.prog W .any base t v)
  (hW : DataW.Whole enc Tryz.prog Tryz.f6.params.toList Rows.intsKnownSpec.vars false W args.toList ds gs before) (hL : laidMetH Tryz.prog Rows.intsKnownRow.laid W) :
  Calls Tryz.prog 6 args W fun e W' => ∃ v, e = .returned v ∧ Rows.intsKnownSpec.post enc Tryz.prog Tryz.f6 false true false false W args v W' := by
 have hW' := hW
 obtain ⟨p, q, hA0, hV, rfl, _, _⟩ := hW
 have hA : DataW.TrodAll enc Tryz.prog W 0 (fun _ => true) true Tryz.f6.params.toList args.toList ds p := hA0
 rw [Tryz.params6] at hA hval
 obtain ⟨rfl, rfl, rfl⟩ := trodAll_none hA
 obtain ⟨rfl, rfl⟩ := trodVars_none hV
 clear hA0
 simp only [List.append_nil] at hW'
 refine (iknown_any W (tab_of hL)).mono fun e W' ⟨he, hb⟩ => ?_
 subst he
 refine ⟨_, rfl, _, _, _, [], [], [], hW', ?_, ?_, rfl, hb.frame _, fun h => by cases h⟩
 ·exact trodAll_mk1 (shut_bool Tryz.underlying4 _)
 ·exact trodAll_mk0
/-- A world for the witness: the settled one, the tables as their initialisers lay them. -/
noncomputable def laidWorld (os : Os) : World := World.laidAll Tryz.prog os Rows.intsKnownRow.laid
theorem laid_met (os : Os) : laidMet Tryz.prog Rows.intsKnownRow.laid ((laidWorld os).forCall (fun _ _ => 0) ⟨#[], #[], []⟩).memory :=
 laidMet_laidAll _ (by kernel_rfl) (by kernel_rfl)
theorem reads (os : Os) {H : Type} (enc : TypeId × Value → H) : ∃ places, DataW.whole enc Tryz.prog ((laidWorld os).forCall (fun _ _ => 0) ⟨#[], #[], []⟩).memory Tryz.f6.params.toList Rows.intsKnownSpec.vars false (#[] : Array Value).toList 8 = some ([], [], places) :=
 ⟨[], by kernel_rfl⟩
set_option maxRecDepth 100000 in
theorem lifted (os : Os) (started : os.Started) (H : Type) (enc : TypeId × Value → H) (F : Stop.Interp) :
  ReturnsInHanded {} Tryz.checked os 6 .any ((OpenSpec.ofChange Rows.intsKnownSpec).preRow enc Tryz.prog Tryz.f6 Rows.intsKnownRow.domain false Rows.intsKnownRow.laid) (((OpenSpec.ofChange Rows.intsKnownSpec).at F).post enc Tryz.prog Tryz.f6 false true false false) := by
 obtain ⟨places, hx⟩ := reads os enc
 refine returnsInHanded_of_row (C := Tryz.checked) (s := OpenSpec.ofChange Rows.intsKnownSpec) own started (by kernel_rfl) Tryz.func6
  (witness_row_at (enc := enc) (C := Tryz.checked) false (laidWorld os) #[] (World.laidAll_os _ _ _) (by kernel_rfl) (by kernel_rfl) (by kernel_rfl)
   (OpenSpec.preRow_of_cond 8 hx (by kernel_rfl) (fun k hk => by cases hk) (by kernel_rfl) (laid_met os))) ?_
 intro W base args ds gs before hval hW _ _ _ hL _ _
 exact contract H enc W base args ds gs before hval hW hL
theorem said : Rows.IntsKnownSaid :=
 OpenClaim.holds_of_cond 6 Tryz.f6 rfl rfl rfl rfl rfl rfl rfl ⟨rfl, rfl, rfl, rfl, rfl⟩ rfl rfl rfl rfl rfl (by kernel_rfl) Tryz.func6 (by kernel_rfl)
  (of_decide_eq_true (by kernel_rfl)) (by unfold Func.isWrapper; first | (rw [if_pos (by decide +kernel)]; kernel_rfl) | (rw [if_neg (by decide +kernel)]; exact ⟨rfl, rfl⟩))
  (fun os started H enc _ F => by rw [OpenClaim.pre_eq_preRow]; exact lifted os started H enc F)
theorem plain (f : FuncId) (fn : Func) (hf : Tryz.pinned.checked.prog.funcNamed "gusset/gussetlaw02.IntsKnown" = some f) (hfn : Tryz.pinned.checked.prog.funcs[f]? = some fn) :
  false = Tryz.pinned.checked.prog.looks [] ∧ ∀ (j : Nat) t, fn.params[j]? = some t → Tryz.pinned.checked.prog.wantsStandIn t = false := by
 obtain rfl : f = 6 := Option.some.inj ((show Tryz.prog.funcNamed "gusset/gussetlaw02.IntsKnown" = some 6 by kernel_rfl).symm.trans hf) |>.symm
 obtain rfl : fn = Tryz.f6 := (Option.some.inj (Tryz.func6.symm.trans hfn)).symm
 refine ⟨by kernel_rfl, fun j t ht => ?_⟩
 rw [Tryz.params6] at ht
 have hm := Array.mem_of_getElem? ht
 exact absurd hm (by simp)
end Go.Proofs.YtdmoadfnogdfnaaGreatDoor.intsKnown
namespace Go.Proofs.YtdmoadfnogdfnaaGreatDoor
open Go.ChangeShapes Go.WideShapes Go.ChangeAt Go.RowKit
/-- THE CARD -/
theorem intsKnownProved : Rows.IntsKnownCardSaid :=
 Claim7.holds_tied_plain_at .later [] _ _ _ _ intsKnown.said (fun _ h => by cases h) (by kernel_rfl) (fun _ h => by cases h) intsKnown_row_tie rfl ⟨rfl, rfl⟩ (by kernel_rfl) rfl intsKnown.plain (by kernel_rfl)
end Go.Proofs.YtdmoadfnogdfnaaGreatDoor
