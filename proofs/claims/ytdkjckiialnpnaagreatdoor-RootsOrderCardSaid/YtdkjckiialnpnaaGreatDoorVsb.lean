/-
  The law answers true at every input, and leaves its arguments as they were: a part of the proof. CONDITIONS: the package-level tables start as the program's text lays them (the card ties them).
-/
import Derived.Test.YtdkjckiialnpnaaGreatDoorVsa
import Derived.Deep.SlicePairs
set_option linter.unusedVariables false
set_option linter.unusedSimpArgs false
namespace Go.Proofs.YtdkjckiialnpnaaGreatDoor
open Go.RowKit
attribute [local irreducible] lo hs sm s64 c64 d64 b64 mh ml pd pc qd qc val hiB str cmpI srD lz nb isq zl zh zs fe frCs qmade
/-- The plain fractions that a slice holds. -/
structure QSr (w : World) (a : Addr) (ql : List (Int × Int)) : Prop where
 c0 : ∀ (i : Nat) (h : i < ql.length), w.cell? (a.add (i * 2)) = some (.int .i64 ql[i].1)
 c1 : ∀ (i : Nat) (h : i < ql.length), w.cell? ((a.add (i * 2)).add 1) = some (.int .u32 ql[i].2)
 rg : ∀ p ∈ ql, (-9223372036854775808 ≤ p.1 ∧ p.1 < 9223372036854775808) ∧ 0 ≤ p.2 ∧ p.2 < 4294967296
 blk : a.block < w.heap.size
theorem add_blkR (a : Addr) (i : Nat) : (a.add i).block = a.block := by unfold Addr.add; split <;> rfl
theorem add_oneR (a : Addr) : a.add 1 = ⟨a.block, a.off + 1, none⟩ := by unfold Addr.add; simp
theorem QSr.below {w w' : World} {a : Addr} {ql : List (Int × Int)} (h : QSr w a ql) (hb : Below w.heap.size w w') : QSr w' a ql :=
 ⟨fun i hi => (hb.cell (p := a.add (i * 2)) (by rw [add_blkR]; exact h.blk)).trans (h.c0 i hi), fun i hi => (hb.cell (p := (a.add (i * 2)).add 1) (by rw [add_blkR, add_blkR]; exact h.blk)).trans (h.c1 i hi), h.rg, Nat.lt_of_lt_of_le h.blk hb.size⟩
theorem slq_twoR {w : World} {g : Nat} {p q : Rat} (h : Hd w g ([.int .u64 ((zl p.num : Nat) : Int), .string (zh p.num), .bool (zs p.num), .int .u64 ((lo (fe p) : Nat) : Int), .string (hs (fe p))] ++ [.int .u64 ((zl q.num : Nat) : Int), .string (zh q.num), .bool (zs q.num), .int .u64 ((lo (fe q) : Nat) : Int), .string (hs (fe q))])) : SlQ w (.slice (some ⟨g, 0, none⟩) 2 2) [p, q] := by
 refine .inr ⟨g, 2, rfl, fun i hi => ?_, h.lt⟩
 have hi2 : i < 2 := hi
 obtain rfl | rfl : i = 0 ∨ i = 1 := by omega
 ·exact ⟨h.cell 0 (show 0 < 10 by decide), h.cell 1 (show 1 < 10 by decide), h.cell 2 (show 2 < 10 by decide), h.cell 3 (show 3 < 10 by decide), h.cell 4 (show 4 < 10 by decide)⟩
 ·exact ⟨h.cell 5 (show 5 < 10 by decide), h.cell 6 (show 6 < 10 by decide), h.cell 7 (show 7 < 10 by decide), h.cell 8 (show 8 < 10 by decide), h.cell 9 (show 9 < 10 by decide)⟩
set_option maxHeartbeats 4000000 in
set_option maxRecDepth 100000 in
theorem rorder_w (nx dx ny dy : Int) (ao : Option Addr) (n c : Nat) (ql : List (Int × Int)) (qs : List Rat) (a0 a b0 b sm pa qa pb qb bl ab lo2 hi2 s1 s2 s3 ad : Rat) (lq uq : Nat → Rat) (oc oe ss e1 e2 e3 i1 i2 i3 od gc ka kb : Int) (bz : Bool) (G1 : ∀ w, Calls Tryz.prog 16 #[.agg #[.int .i64 nx, .int .u32 dx]] w fun xe w' => xe = .returned (fracV a0) ∧ Below w.heap.size w w') (GA : ∀ w, Calls Tryz.prog 30 #[fracV a0] w fun xe w' => xe = .returned (fracV a) ∧ Below w.heap.size w w') (G2 : ∀ w, Calls Tryz.prog 16 #[.agg #[.int .i64 ny, .int .u32 dy]] w fun xe w' => xe = .returned (fracV b0) ∧ Below w.heap.size w w') (GB : ∀ w, Calls Tryz.prog 30 #[fracV b0] w fun xe w' => xe = .returned (fracV b) ∧ Below w.heap.size w w') (HSg : ∀ w, Calls Tryz.prog 41 #[fracV sm] w fun xe w' => xe = .returned (.int .i64 ss) ∧ Below w.heap.size w w') (HP1 : ∀ w, Calls Tryz.prog 36 #[fracV a, .int .i64 80] w fun xe w' => xe = .returned (.tuple #[fracV pa, .int .i64 e1]) ∧ Below w.heap.size w w') (HP2 : ∀ w, Calls Tryz.prog 37 #[fracV a, .int .i64 80] w fun xe w' => xe = .returned (.tuple #[fracV qa, .int .i64 e1]) ∧ Below w.heap.size w w') (HP3 : ∀ w, Calls Tryz.prog 36 #[fracV b, .int .i64 80] w fun xe w' => xe = .returned (.tuple #[fracV pb, .int .i64 e2]) ∧ Below w.heap.size w w') (HP4 : ∀ w, Calls Tryz.prog 37 #[fracV b, .int .i64 80] w fun xe w' => xe = .returned (.tuple #[fracV qb, .int .i64 e2]) ∧ Below w.heap.size w w') (HB1 : ∀ w, Calls Tryz.prog 36 #[fracV sm, .int .i64 80] w fun xe w' => xe = .returned (.tuple #[fracV bl, .int .i64 e3]) ∧ Below w.heap.size w w') (HB2 : ∀ w, Calls Tryz.prog 37 #[fracV sm, .int .i64 80] w fun xe w' => xe = .returned (.tuple #[fracV ab, .int .i64 e3]) ∧ Below w.heap.size w w') (HC1 : ∀ w, Calls Tryz.prog 26 #[fracV lo2, fracV ab] w fun xe w' => xe = .returned (.int .i64 i1) ∧ Below w.heap.size w w') (HC2 : ∀ w, Calls Tryz.prog 26 #[fracV hi2, fracV bl] w fun xe w' => xe = .returned (.int .i64 i2) ∧ Below w.heap.size w w') (HC3 : ∀ w, Calls Tryz.prog 26 #[fracV bl, fracV hi2] w fun xe w' => xe = .returned (.int .i64 i3) ∧ Below w.heap.size w w') (HO2 : ∀ (p2 : Value) (w : World), SlQ w p2 [a, b] → Calls Tryz.prog 44 #[fracV a, fracV b, p2] w fun e w' => e = .returned (.tuple #[.int .i64 od, .int .i64 0]) ∧ Below w.heap.size w w') (HS1 : ∀ w, Calls Tryz.prog 42 #[fracV a] w fun xe w' => xe = .returned (fracV s1) ∧ Below w.heap.size w w') (HS2 : ∀ w, Calls Tryz.prog 42 #[fracV b] w fun xe w' => xe = .returned (fracV s2) ∧ Below w.heap.size w w') (HS3 : ∀ w, Calls Tryz.prog 42 #[fracV sm] w fun xe w' => xe = .returned (fracV s3) ∧ Below w.heap.size w w') (HO3 : ∀ (p2 : Value) (w : World), SlQ w p2 [s3] → Calls Tryz.prog 44 #[fracV s1, fracV s2, p2] w fun e w' => e = .returned (.tuple #[.int .i64 gc, .int .i64 0]) ∧ Below w.heap.size w w') (HSa : ∀ w, Calls Tryz.prog 41 #[fracV a] w fun xe w' => xe = .returned (.int .i64 ka) ∧ Below w.heap.size w w') (HSb : ∀ w, Calls Tryz.prog 41 #[fracV b] w fun xe w' => xe = .returned (.int .i64 kb) ∧ Below w.heap.size w w') (HAd : ∀ w, Calls Tryz.prog 33 #[fracV a, fracV b] w fun xe w' => xe = .returned (fracV ad) ∧ Below w.heap.size w w') (HCm : decide (ss < 0) = false → ∀ w, Calls Tryz.prog 26 #[fracV ad, fracV sm] w fun xe w' => xe = .returned (.int .i64 gc) ∧ Below w.heap.size w w') (KT : World → Prop) (hKT : Keeps KT) (HW : ∀ w, KT w → Calls Tryz.prog 35 #[] w fun xe w' => xe = .returned (.bool true) ∧ Below w.heap.size w w') (HQ : ∀ (i : Nat) (h : i < ql.length) (h' : i < qs.length) (w : World), Calls Tryz.prog 16 #[.agg #[.int .i64 ql[i].1, .int .u32 ql[i].2]] w fun xe w' => xe = .returned (fracV qs[i]) ∧ Below w.heap.size w w') (HL : ∀ (sa : Option Addr) (sn sc : Nat) (w : World), SlQ w (.slice sa sn sc) qs → Calls Tryz.prog 45 #[.slice sa sn sc] w fun xe w' => xe = .returned (fracV sm) ∧ Below w.heap.size w w') (HO : ∀ (sa : Option Addr) (sn sc : Nat) (w : World), SlQ w (.slice sa sn sc) qs → Calls Tryz.prog 44 #[fracV a, fracV b, .slice sa sn sc] w fun xe w' => xe = .returned (.tuple #[.int .i64 oc, .int .i64 oe]) ∧ Below w.heap.size w w') (hl0 : (0 : Rat) = lq 0) (hh0 : (0 : Rat) = uq 0) (HX0 : ∀ w, Calls Tryz.prog 33 #[fracV (lq 0), fracV pa] w fun xe w' => xe = .returned (fracV (lq 1)) ∧ Below w.heap.size w w') (HX1 : ∀ w, Calls Tryz.prog 33 #[fracV (lq 1), fracV pb] w fun xe w' => xe = .returned (fracV (lq 2)) ∧ Below w.heap.size w w') (HY0 : ∀ w, Calls Tryz.prog 33 #[fracV (uq 0), fracV qa] w fun xe w' => xe = .returned (fracV (uq 1)) ∧ Below w.heap.size w w') (HY1 : ∀ w, Calls Tryz.prog 33 #[fracV (uq 1), fracV qb] w fun xe w' => xe = .returned (fracV (uq 2)) ∧ Below w.heap.size w w') (hl2 : lq 2 = lo2) (hh2 : uq 2 = hi2) (hF1 : (decide (ss < 0) = true ∧ (oc == 0) = true ∧ (oe == 1) = true) ∨ (decide (ss < 0) = false ∧ (oe != 0) = false)) (hF2 : decide (ss < 0) = false → (decide (oc < 0) = true ∧ decide (0 < oc) = false ∧ (oc == 0) = false ∧ decide (0 ≤ i1) = false) ∨ (decide (oc < 0) = true ∧ decide (0 < oc) = false ∧ (oc == 0) = false ∧ decide (0 ≤ i1) = true ∧ lo2 = ab) ∨ (decide (oc < 0) = false ∧ decide (0 < oc) = true ∧ (oc == 0) = false ∧ decide (i2 < 0) = false) ∨ (decide (oc < 0) = false ∧ decide (0 < oc) = false ∧ (oc == 0) = true ∧ decide (0 < i1) = false ∧ decide (0 < i3) = false)) (hF3 : (decide (0 ≤ od) = true ∧ (od == 0) = true ∧ (ka == 0) = true) ∨ (decide (0 ≤ od) = true ∧ (od == 0) = bz ∧ (ka == 0) = false ∧ (kb == 0) = bz)) (hlq : qs.length = n) (hlen : ql.length = n) (hn6 : n ≤ 6) (w : World) (kKT : KT w) (hq : 0 < n → ∃ a, ao = some a ∧ QSr w a ql) :
  Calls Tryz.prog 12 #[.agg #[.int .i64 nx, .int .u32 dx], .agg #[.int .i64 ny, .int .u32 dy], .slice ao n c] w fun xe w' => xe = .returned (.bool true) ∧ Below w.heap.size w w' := by
 replace G1 := Lib.hid G1
 replace GA := Lib.hid GA
 replace G2 := Lib.hid G2
 replace GB := Lib.hid GB
 replace HSg := Lib.hid HSg
 replace HP1 := Lib.hid HP1
 replace HP2 := Lib.hid HP2
 replace HP3 := Lib.hid HP3
 replace HP4 := Lib.hid HP4
 replace HB1 := Lib.hid HB1
 replace HB2 := Lib.hid HB2
 replace HC1 := Lib.hid HC1
 replace HC2 := Lib.hid HC2
 replace HC3 := Lib.hid HC3
 replace HO2 := Lib.hid HO2
 replace HS1 := Lib.hid HS1
 replace HS2 := Lib.hid HS2
 replace HS3 := Lib.hid HS3
 replace HO3 := Lib.hid HO3
 replace HSa := Lib.hid HSa
 replace HSb := Lib.hid HSb
 replace HAd := Lib.hid HAd
 replace HCm := Lib.hid HCm
 replace hKT := Lib.hid hKT
 replace HW := Lib.hid HW
 replace HQ := Lib.hid HQ
 replace HL := Lib.hid HL
 replace HO := Lib.hid HO
 replace hl0 := Lib.hid hl0
 replace hh0 := Lib.hid hh0
 replace HX0 := Lib.hid HX0
 replace HX1 := Lib.hid HX1
 replace HY0 := Lib.hid HY0
 replace HY1 := Lib.hid HY1
 replace hl2 := Lib.hid hl2
 replace hh2 := Lib.hid hh2
 replace hF1 := Lib.hid hF1
 replace hF2 := Lib.hid hF2
 replace hF3 := Lib.hid hF3
 replace hlq := Lib.hid hlq
 replace hq := Lib.hid hq
 obtain ⟨iF, hi, hz0, hz1, hz2⟩ := info_parts infoR
 replace hi := Lib.hid hi
 replace hz0 := Lib.hid hz0
 replace hz1 := Lib.hid hz1
 replace hz2 := Lib.hid hz2
 have g1 : decide ((6 : Int) < (n : Int)) = false := decide_eq_false (by omega)
 have g2 : decide (6 < n) = false := decide_eq_false (by omega)
 have hlq2 := hlq.out
 have hL0 : GL w w [] := GL.start w
 have hS : SS w [] := SS.nil w
 replace hS := ((hS.new (.cells #[.int .i64 nx, .int .u32 dx] 24)).new (.cells #[.int .i64 ny, .int .u32 dy] 24))
 replace hL0 := ((hL0.new rfl [.int .i64 nx, .int .u32 dx] 24).new (K := w.heap.size + 1) (szA _ _) [.int .i64 ny, .int .u32 dy] 24)
 generalize hweq : ((w.alloc (.cells #[.int .i64 nx, .int .u32 dx] 24)).alloc (.cells #[.int .i64 ny, .int .u32 dy] 24)) = x1 at hL0 hS
 go_enter Tryz.func12, Tryz.ntmps12
 go_upto_region 3 with fail
 clear hweq
 refine region_gh (by kernel_rfl) (by kernel_rfl) ?_
 refine lex_seg (gl := []) 6 (by kernel_rfl) ?_
 intro α iα F hF1 hF2
 have hq := GL.seg hF1 hL0
 simp only [fcC, cellsC, and_true, Nat.zero_add, Nat.reduceAdd] at hq
 simp only [List.take_succ_cons, List.take_zero, List.drop_succ_cons, List.drop_zero, List.take_nil, List.drop_nil]
 repeat (go_big_quiet_step (first | fail | (go_at_call 16; with_reducible exact seg_call hF2 G1.out _) | (go_at_call 30; with_reducible exact seg_call hF2 GA.out _) | (go_at_call 16; with_reducible exact seg_call hF2 G2.out _) | (go_at_call 30; with_reducible exact seg_call hF2 GB.out _)))
 refine wpQuiet_nil ?_
 clear hq hF1 hF2 iα F α
 refine lex_new [.int .u64 0, .string ⟨#[]⟩, .bool false, .int .u64 0, .string ⟨#[]⟩] 7 34 34 rfl rfl (of_decide_eq_true (by kernel_rfl)) (by kernel_rfl) rfl new_frac ?_
 simp only [Act.put, List.setIfInBounds_toArray, List.set_cons_succ, List.set_cons_zero]
 refine lex_new [.int .u64 0, .string ⟨#[]⟩, .bool false, .int .u64 0, .string ⟨#[]⟩] 8 34 34 rfl rfl (of_decide_eq_true (by kernel_rfl)) (by kernel_rfl) rfl new_frac ?_
 simp only [Act.put, List.setIfInBounds_toArray, List.set_cons_succ, List.set_cons_zero]
 refine lex_put [.int .u64 ((zl a.num : Nat) : Int), .string (zh a.num), .bool (zs a.num), .int .u64 ((lo (fe a) : Nat) : Int), .string (hs (fe a))] [.int .u64 0, .string ⟨#[]⟩, .bool false, .int .u64 0, .string ⟨#[]⟩] 7 34 (.tmp 36) rfl (by kernel_rfl) (by simp [toG, upd]) rfl (fun w k h => put_frac _ _ _ _ _ _ _ _ _ _ w k h) ?_
 simp only [Act.put]
 refine lex_put [.int .u64 ((zl b.num : Nat) : Int), .string (zh b.num), .bool (zs b.num), .int .u64 ((lo (fe b) : Nat) : Int), .string (hs (fe b))] [.int .u64 0, .string ⟨#[]⟩, .bool false, .int .u64 0, .string ⟨#[]⟩] 8 34 (.tmp 39) rfl (by kernel_rfl) (by simp [toG, upd]) rfl (fun w k h => put_frac _ _ _ _ _ _ _ _ _ _ w k h) ?_
 simp only [Act.put]
 refine lexG_nil ?_
 intro κ x2 hS
 replace hL0 := hL0.ghs hS [(8, [.int .u64 ((zl b.num : Nat) : Int), .string (zh b.num), .bool (zs b.num), .int .u64 ((lo (fe b) : Nat) : Int), .string (hs (fe b))]), (7, [.int .u64 ((zl a.num : Nat) : Int), .string (zh a.num), .bool (zs a.num), .int .u64 ((lo (fe a) : Nat) : Int), .string (hs (fe a))])] (by simp) (by intro p hp; simp only [List.mem_cons, List.not_mem_nil, or_false] at hp; rcases hp with rfl | rfl <;> exact ⟨_, by simp only [toG, upd]; rfl⟩)
 simp only [List.map_cons, List.map_nil, List.cons_append, List.nil_append] at hL0
 simp only [over_toG, over_nil, Act.put, List.setIfInBounds_toArray, List.set_cons_succ, List.set_cons_zero]
 clear hS
 generalize κ 8 = k2_8 at *
 generalize κ 7 = k2_7 at *
 replace hS := SS.nil x2
 go_wp2_with fail
 have hk0 : k2_8 < x2.heap.size := (hL0.get _ _ List.mem_cons_self).lt
 have hk1 : k2_7 < x2.heap.size := (hL0.get _ _ (List.mem_cons_of_mem _ List.mem_cons_self)).lt
 have hk2 : w.heap.size + 1 < x2.heap.size := (hL0.get _ _ (List.mem_cons_of_mem _ (List.mem_cons_of_mem _ List.mem_cons_self))).lt
 have hk3 : w.heap.size < x2.heap.size := (hL0.get _ _ (List.mem_cons_of_mem _ (List.mem_cons_of_mem _ (List.mem_cons_of_mem _ List.mem_cons_self)))).lt
 have hwE : w.heap.size ≤ x2.heap.size := hL0.bl.size
 obtain ⟨E, hE⟩ : ∃ E, E = x2.heap.size := ⟨_, rfl⟩
 rw [← hE] at hwE hk0 hk1 hk2 hk3
 have hBS : ∀ k ∈ ([k2_8, k2_7, w.heap.size + 1, w.heap.size] : List Nat), k < E := by intro k hk; simp only [List.mem_cons, List.not_mem_nil, or_false] at hk; rcases hk with rfl | rfl | rfl | rfl <;> assumption
 clear hk0 hk1 hk2 hk3
 go_loopw [9, 10] (fun v z wr => ∃ (i : Nat) (zi : Int), i ≤ n ∧ z = .int .i64 zi ∧ zi = (i : Int) ∧ E ≤ wr.heap.size ∧ wr.ownsRow E 34 5 v i (frCs (qs.take i)) ∧ GL w wr [(k2_8, [.int .u64 ((zl b.num : Nat) : Int), .string (zh b.num), .bool (zs b.num), .int .u64 ((lo (fe b) : Nat) : Int), .string (hs (fe b))]), (k2_7, [.int .u64 ((zl a.num : Nat) : Int), .string (zh a.num), .bool (zs a.num), .int .u64 ((lo (fe a) : Nat) : Int), .string (hs (fe a))]), (w.heap.size + 1, [.int .i64 ny, .int .u32 dy]), (w.heap.size, [.int .i64 nx, .int .u32 dx])]) (fun _ z _ => n - (intOf z).toNat)
 case atStart => exact ⟨0, _, Nat.zero_le _, rfl, rfl, Nat.le_of_eq hE, by rw [List.take_zero, frCs_nil]; exact World.ownsRow_nil _ _ _ _, hL0⟩
 case round =>
  clear hL0 hS hE
  obtain ⟨i, zi, hi1, rfl, hzi, hEw, hown, hL0⟩ := hrel
  replace hBS := Lib.hid hBS
  replace hwE := Lib.hid hwE
  rcases Nat.lt_or_ge i n with hin | hin
  ·subst hzi
   obtain ⟨q9, rfl, hqa⟩ := hq.out (by omega)
   have k1 : (i : Int) < (n : Int) := by omega
   have k0 : (0 : Int) ≤ (i : Int) := Int.natCast_nonneg _
   have hQw := Lib.hid (hqa.below hL0.bl)
   have c0 := hQw.out.c0 i (by omega)
   have c1 := hQw.out.c1 i (by omega)
   rw [add_oneR] at c1
   obtain ⟨N, hN⟩ : ∃ N, N = (ql[i]'(by omega)).1 := ⟨_, rfl⟩
   obtain ⟨D, hD⟩ : ∃ D, D = (ql[i]'(by omega)).2 := ⟨_, rfl⟩
   rw [← hN] at c0
   rw [← hD] at c1
   have HQi := Lib.hid (HQ.out i (by omega) (by omega))
   rw [← hN, ← hD] at HQi
   replace hN := Lib.hid hN
   replace hD := Lib.hid hD
   obtain ⟨r, hr⟩ : ∃ r, r = qs[i]'(by omega) := ⟨_, rfl⟩
   rw [← hr] at HQi
   have htk := Lib.hid (show qs.take (i + 1) = qs.take i ++ [r] by rw [List.take_succ_eq_append_getElem (by omega), hr])
   replace hr := Lib.hid hr
   clear hqa
   replace hown := Lib.hid hown
   go_wp2_with fail
   with_reducible refine Calls.mono (HQi.out _) ?_
   rintro e x92 ⟨rfl, hb⟩
   have hown2 := own_below hown.out hb
   replace hL0 := hL0.call hb
   have hE2 : E ≤ x92.heap.size := Nat.le_trans hEw hb.size
   clear hb hown hEw c0 c1 hQw
   replace hL0 := (hL0.new rfl [.int .u64 ((zl r.num : Nat) : Int), .string (zh r.num), .bool (zs r.num), .int .u64 ((lo (fe r) : Nat) : Int), .string (hs (fe r))] 34)
   generalize hweq : (x92.alloc (.cells #[.int .u64 ((zl r.num : Nat) : Int), .string (zh r.num), .bool (zs r.num), .int .u64 ((lo (fe r) : Nat) : Int), .string (hs (fe r))] 34)) = x93 at hL0
   have hown3 := own_below hown2 (show Below x92.heap.size x92 x93 by rw [← hweq]; exact (Below.refl _ _).alloc (Nat.le_refl _) _)
   have hE3 : E ≤ x93.heap.size := Nat.le_trans hE2 (by rw [← hweq, World.size_alloc]; omega)
   clear hown2 hE2
   have hnw := hd_newsR (hL0.get _ _ List.mem_cons_self)
   replace hnw := Lib.hid hnw
   replace hown3 := Lib.hid hown3
   replace hE3 := Lib.hid hE3
   have hne : ∀ u ∈ ([.int .u64 ((zl r.num : Nat) : Int), .string (zh r.num), .bool (zs r.num), .int .u64 ((lo (fe r) : Nat) : Int), .string (hs (fe r))] : List Value), u.oneCell' = true := frC_one r
   replace hne := Lib.hid hne
   go_wp2_with (at_builtin; refine wpList_append_own _ rfl _ _ 81 rfl E 34 iF (.agg #[.int .u64 0, .string ⟨#[]⟩, .bool false, .int .u64 0, .string ⟨#[]⟩]) 5 56 Tryz.underlying81 hi.out hz0.out hz1.out hz2.out rfl (by decide) _ _ _ rfl hown3.out ⟨x92.heap.size, 0, none⟩ 1 1 [.int .u64 ((zl r.num : Nat) : Int), .string (zh r.num), .bool (zs r.num), .int .u64 ((lo (fe r) : Nat) : Int), .string (hs (fe r))] rfl rfl hnw.out hne.out (by unfold maxLen; omega) (by omega) hE3.out ?_)
   intro v' w1 hown' hgrow _
   have hown4 : w1.ownsRow E 34 5 v' (i + 1) (frCs (qs.take (i + 1))) := by rw [htk.out, frCs_snoc]; exact hown'
   have hb4 : Below E x93 w1 := (Below.refl E x93).grown hgrow hE3.out (fun j hj => (hown3.out.lt j hj).1)
   replace hL0 := (hL0.weak (List.Sublist.cons _ (List.Sublist.refl _))).belowB hb4 (fun p hp => hBS.out p.1 (List.mem_map.2 ⟨p, hp, rfl⟩)) hwE.out
   have hE4 : E ≤ w1.heap.size := Nat.le_trans hE3.out hgrow.size
   clear hown' hgrow hb4 hown3 hE3 hnw hne hweq
   replace hown4 := Lib.hid hown4
   replace hE4 := Lib.hid hE4
   go_wp2_with fail
   go_roundw
   case rel => exact ⟨i + 1, _, by omega, by first | rfl | go_num, by omega, hE4.out, hown4.out, hL0⟩
   case measure => simp [intOf] <;> omega
  ·obtain rfl : i = n := by omega
   subst hzi
   have k1 : ¬ (i : Int) < (i : Int) := by omega
   rw [List.take_of_length_le (Nat.le_of_eq hlq.out)] at hown
   have hSl := own_slq hown hlq.out.symm
   obtain ⟨sa, sn, sc, rfl⟩ := slq_form hSl
   replace hSl := Lib.hid hSl
   clear hown hEw hBS hwE hi1 hin
   have hS := SS.nil wr
   go_wp2_with fail
   with_reducible refine Calls.mono (HL.out sa sn sc _ hSl.out) ?_
   rintro e x13 ⟨rfl, hb⟩
   replace hSl := Lib.hid (hSl.out.below hb)
   replace hL0 := hL0.call hb
   replace hS := hS.call hb
   clear hb
   replace hSl := Lib.hid (hSl.out.below ((Below.refl _ _).alloc (Nat.le_refl _) (.cells #[.int .u64 ((zl sm.num : Nat) : Int), .string (zh sm.num), .bool (zs sm.num), .int .u64 ((lo (fe sm) : Nat) : Int), .string (hs (fe sm))] 34)))
   replace hS := (hS.new (.cells #[.int .u64 ((zl sm.num : Nat) : Int), .string (zh sm.num), .bool (zs sm.num), .int .u64 ((lo (fe sm) : Nat) : Int), .string (hs (fe sm))] 34))
   replace hL0 := (hL0.new rfl [.int .u64 ((zl sm.num : Nat) : Int), .string (zh sm.num), .bool (zs sm.num), .int .u64 ((lo (fe sm) : Nat) : Int), .string (hs (fe sm))] 34)
   generalize hweq : (x13.alloc (.cells #[.int .u64 ((zl sm.num : Nat) : Int), .string (zh sm.num), .bool (zs sm.num), .int .u64 ((lo (fe sm) : Nat) : Int), .string (hs (fe sm))] 34)) = x14 at hL0 hS hSl
   have hN0 := cells_of _ 0 [] rfl (hL0.get _ _ (List.mem_cons_of_mem _ List.mem_cons_self))
   simp only [cellsF, and_true, Nat.zero_add, Nat.reduceAdd] at hN0
   have hN1 := cells_of _ 0 [] rfl (hL0.get _ _ (List.mem_cons_of_mem _ (List.mem_cons_of_mem _ List.mem_cons_self)))
   simp only [cellsF, and_true, Nat.zero_add, Nat.reduceAdd] at hN1
   go_wp2_with fail
   clear hN0 hN1
   with_reducible refine Calls.mono (HO.out sa sn sc _ hSl.out) ?_
   rintro e x15 ⟨rfl, hb⟩
   replace hSl := Lib.hid (hSl.out.below hb)
   replace hL0 := hL0.call hb
   replace hS := hS.call hb
   clear hb hweq
   clear hSl
   rcases hF1.out with ⟨t1, t2, t3⟩ | ⟨t1, t2⟩
   ·have hN0 := cells_of _ 0 [] rfl (hL0.get _ _ List.mem_cons_self)
    simp only [cellsF, and_true, Nat.zero_add, Nat.reduceAdd] at hN0
    go_wp2_with fail
    clear hN0
    with_reducible refine Calls.mono (HSg.out _) ?_
    rintro e x16 ⟨rfl, hb⟩
    replace hL0 := hL0.call hb
    replace hS := hS.call hb
    clear hb
    go_wp2_with fail
    with_reducible refine Calls.mono (HW.out _ (hKT.out.at hL0.bl kKT)) ?_
    rintro e x17 ⟨rfl, hb⟩
    replace hL0 := hL0.call hb
    replace hS := hS.call hb
    clear hb
    go_wp2_with fail
    exact bodyPost_ret (v := .bool true) (by simp [results, Tryz.results12, go_sem]) rfl ⟨rfl, hL0.bl⟩
   ·replace HCm := Lib.hid (HCm.out t1)
    replace hF2 := Lib.hid (hF2.out t1)
    have hN0 := cells_of _ 0 [] rfl (hL0.get _ _ List.mem_cons_self)
    simp only [cellsF, and_true, Nat.zero_add, Nat.reduceAdd] at hN0
    go_wp2_with fail
    clear hN0
    with_reducible refine Calls.mono (HSg.out _) ?_
    rintro e x16 ⟨rfl, hb⟩
    replace hL0 := hL0.call hb
    replace hS := hS.call hb
    clear hb
    replace hS := ((hS.new (.cells #[.int .u64 0, .string ⟨#[]⟩, .bool false, .int .u64 0, .string ⟨#[]⟩] 34)).new (.cells #[.int .u64 0, .string ⟨#[]⟩, .bool false, .int .u64 0, .string ⟨#[]⟩] 34))
    replace hL0 := ((hL0.new rfl [.int .u64 0, .string ⟨#[]⟩, .bool false, .int .u64 0, .string ⟨#[]⟩] 34).new (K := x16.heap.size + 1) (szA _ _) [.int .u64 0, .string ⟨#[]⟩, .bool false, .int .u64 0, .string ⟨#[]⟩] 34)
    generalize hweq : ((x16.alloc (.cells #[.int .u64 0, .string ⟨#[]⟩, .bool false, .int .u64 0, .string ⟨#[]⟩] 34)).alloc (.cells #[.int .u64 0, .string ⟨#[]⟩, .bool false, .int .u64 0, .string ⟨#[]⟩] 34)) = x17 at hL0 hS
    have hS1 := hS.put ((((((Upd.refl x16.heap.size x17).setCell 0 (.int .u64 0)).setCell 1 (.string ⟨#[]⟩)).setCell 2 (.bool false)).setCell 3 (.int .u64 0)).setCell 4 (.string ⟨#[]⟩)) (hL0.get _ _ (List.mem_cons_of_mem _ List.mem_cons_self)) (by intro v hv n; simp only [List.mem_cons, List.not_mem_nil, or_false] at hv; rcases hv with rfl | rfl | rfl | rfl | rfl <;> simp)
    have hA := hL0.fc
    simp only [fcG, cellsF, neK, and_true, ne_eq, Nat.zero_add, Nat.reduceAdd] at hA
    have hP := hL0.put 1 (x16.heap.size) _ rfl [.int .u64 0, .string ⟨#[]⟩, .bool false, .int .u64 0, .string ⟨#[]⟩] rfl
    simp only [setAll, List.set_cons_zero, List.set_cons_succ] at hP
    generalize hput1 : (((((x17.setCell ⟨x16.heap.size, 0, none⟩ (.int .u64 0)).setCell ⟨x16.heap.size, 1, none⟩ (.string ⟨#[]⟩)).setCell ⟨x16.heap.size, 2, none⟩ (.bool false)).setCell ⟨x16.heap.size, 3, none⟩ (.int .u64 0)).setCell ⟨x16.heap.size, 4, none⟩ (.string ⟨#[]⟩)) = x18 at hP hS1
    have hB1 := hP.fc
    simp only [fcG, cellsF, neK, and_true, ne_eq, Nat.zero_add, Nat.reduceAdd] at hB1
    replace hL0 := hP
    replace hS := hS1
    clear hS1
    have hS1 := hS.put ((((((Upd.refl (x16.heap.size + 1) x18).setCell 0 (.int .u64 0)).setCell 1 (.string ⟨#[]⟩)).setCell 2 (.bool false)).setCell 3 (.int .u64 0)).setCell 4 (.string ⟨#[]⟩)) (hL0.get _ _ List.mem_cons_self) (by intro v hv n; simp only [List.mem_cons, List.not_mem_nil, or_false] at hv; rcases hv with rfl | rfl | rfl | rfl | rfl <;> simp)
    have hP := hL0.put 0 (x16.heap.size + 1) _ rfl [.int .u64 0, .string ⟨#[]⟩, .bool false, .int .u64 0, .string ⟨#[]⟩] rfl
    simp only [setAll, List.set_cons_zero, List.set_cons_succ] at hP
    generalize hput2 : (((((x18.setCell ⟨x16.heap.size + 1, 0, none⟩ (.int .u64 0)).setCell ⟨x16.heap.size + 1, 1, none⟩ (.string ⟨#[]⟩)).setCell ⟨x16.heap.size + 1, 2, none⟩ (.bool false)).setCell ⟨x16.heap.size + 1, 3, none⟩ (.int .u64 0)).setCell ⟨x16.heap.size + 1, 4, none⟩ (.string ⟨#[]⟩)) = x19 at hP hS1
    have hB2 := hP.fc
    simp only [fcG, cellsF, neK, and_true, ne_eq, Nat.zero_add, Nat.reduceAdd] at hB2
    replace hL0 := hP
    replace hS := hS1
    clear hS1
    go_wp2_with fail
    clear hA
    clear hput1 hB1 hput2 hB2
    replace hS := (hS.new (.cells #[.int .u64 ((zl a.num : Nat) : Int), .string (zh a.num), .bool (zs a.num), .int .u64 ((lo (fe a) : Nat) : Int), .string (hs (fe a)), .int .u64 ((zl b.num : Nat) : Int), .string (zh b.num), .bool (zs b.num), .int .u64 ((lo (fe b) : Nat) : Int), .string (hs (fe b))] 34))
    clear hweq
    replace hL0 := (hL0.new rfl [.int .u64 ((zl a.num : Nat) : Int), .string (zh a.num), .bool (zs a.num), .int .u64 ((lo (fe a) : Nat) : Int), .string (hs (fe a)), .int .u64 ((zl b.num : Nat) : Int), .string (zh b.num), .bool (zs b.num), .int .u64 ((lo (fe b) : Nat) : Int), .string (hs (fe b))] 34)
    generalize hweq : (x19.alloc (.cells #[.int .u64 ((zl a.num : Nat) : Int), .string (zh a.num), .bool (zs a.num), .int .u64 ((lo (fe a) : Nat) : Int), .string (hs (fe a)), .int .u64 ((zl b.num : Nat) : Int), .string (zh b.num), .bool (zs b.num), .int .u64 ((lo (fe b) : Nat) : Int), .string (hs (fe b))] 34)) = x20 at hL0 hS ⊢
    clear hweq
    replace hL0 : GL w x20 [(x19.heap.size, [.int .u64 ((zl a.num : Nat) : Int), .string (zh a.num), .bool (zs a.num), .int .u64 ((lo (fe a) : Nat) : Int), .string (hs (fe a)), .int .u64 ((zl b.num : Nat) : Int), .string (zh b.num), .bool (zs b.num), .int .u64 ((lo (fe b) : Nat) : Int), .string (hs (fe b))]), (x16.heap.size + 1, [.int .u64 ((zl (0 : Rat).num : Nat) : Int), .string (zh (0 : Rat).num), .bool (zs (0 : Rat).num), .int .u64 ((lo (fe (0 : Rat)) : Nat) : Int), .string (hs (fe (0 : Rat)))]), (x16.heap.size, [.int .u64 ((zl (0 : Rat).num : Nat) : Int), .string (zh (0 : Rat).num), .bool (zs (0 : Rat).num), .int .u64 ((lo (fe (0 : Rat)) : Nat) : Int), .string (hs (fe (0 : Rat)))]), (x13.heap.size, [.int .u64 ((zl sm.num : Nat) : Int), .string (zh sm.num), .bool (zs sm.num), .int .u64 ((lo (fe sm) : Nat) : Int), .string (hs (fe sm))]), (k2_8, [.int .u64 ((zl b.num : Nat) : Int), .string (zh b.num), .bool (zs b.num), .int .u64 ((lo (fe b) : Nat) : Int), .string (hs (fe b))]), (k2_7, [.int .u64 ((zl a.num : Nat) : Int), .string (zh a.num), .bool (zs a.num), .int .u64 ((lo (fe a) : Nat) : Int), .string (hs (fe a))]), (w.heap.size + 1, [.int .i64 ny, .int .u32 dy]), (w.heap.size, [.int .i64 nx, .int .u32 dx])] := by rw [zero_cells]; exact hL0
    go_loopg [81] 2 (fun gk iv wr => ∃ (i : Nat) (zi : Int) (lo9 hi9 : Rat), i + gk = 2 ∧ iv = .int .i64 zi ∧ zi = (i : Int) ∧ lo9 = lq i ∧ hi9 = uq i ∧ GL w wr [(x19.heap.size, [.int .u64 ((zl a.num : Nat) : Int), .string (zh a.num), .bool (zs a.num), .int .u64 ((lo (fe a) : Nat) : Int), .string (hs (fe a)), .int .u64 ((zl b.num : Nat) : Int), .string (zh b.num), .bool (zs b.num), .int .u64 ((lo (fe b) : Nat) : Int), .string (hs (fe b))]), (x16.heap.size + 1, [.int .u64 ((zl hi9.num : Nat) : Int), .string (zh hi9.num), .bool (zs hi9.num), .int .u64 ((lo (fe hi9) : Nat) : Int), .string (hs (fe hi9))]), (x16.heap.size, [.int .u64 ((zl lo9.num : Nat) : Int), .string (zh lo9.num), .bool (zs lo9.num), .int .u64 ((lo (fe lo9) : Nat) : Int), .string (hs (fe lo9))]), (x13.heap.size, [.int .u64 ((zl sm.num : Nat) : Int), .string (zh sm.num), .bool (zs sm.num), .int .u64 ((lo (fe sm) : Nat) : Int), .string (hs (fe sm))]), (k2_8, [.int .u64 ((zl b.num : Nat) : Int), .string (zh b.num), .bool (zs b.num), .int .u64 ((lo (fe b) : Nat) : Int), .string (hs (fe b))]), (k2_7, [.int .u64 ((zl a.num : Nat) : Int), .string (zh a.num), .bool (zs a.num), .int .u64 ((lo (fe a) : Nat) : Int), .string (hs (fe a))]), (w.heap.size + 1, [.int .i64 ny, .int .u32 dy]), (w.heap.size, [.int .i64 nx, .int .u32 dx])])
    case atStart => exact ⟨0, 0, _, _, rfl, by first | rfl | go_num, rfl, hl0.out, hh0.out, hL0⟩
    case round =>
     clear hL0 hS
     obtain ⟨i, zi, lo9, hi9, hik, rfl, hzi, hlo, hhi, hL0⟩ := hrel
     have hS := SS.nil wr
     obtain rfl | rfl | rfl : i = 0 ∨ i = 1 ∨ i = 2 := by omega
     ·have hz : zi = 0 := by omega
      clear hzi
      subst hz
      obtain ⟨l9, el⟩ : ∃ x, x = lq 1 := ⟨_, rfl⟩
      obtain ⟨h9, eh⟩ : ∃ x, x = uq 1 := ⟨_, rfl⟩
      have HX := HX0.out
      rw [← hlo, ← el] at HX
      replace HX := Lib.hid HX
      have HY := HY0.out
      rw [← hhi, ← eh] at HY
      replace HY := Lib.hid HY
      replace el := Lib.hid el
      replace eh := Lib.hid eh
      replace hlo := Lib.hid hlo
      replace hhi := Lib.hid hhi
      have hZ := hL0.fc
      simp only [fcG, cellsF, neK, and_true, ne_eq, Nat.zero_add, Nat.reduceAdd] at hZ
      replace hS := (hS.new (.cells #[.int .u64 ((zl a.num : Nat) : Int), .string (zh a.num), .bool (zs a.num), .int .u64 ((lo (fe a) : Nat) : Int), .string (hs (fe a))] 34))
      replace hL0 := (hL0.new rfl [.int .u64 ((zl a.num : Nat) : Int), .string (zh a.num), .bool (zs a.num), .int .u64 ((lo (fe a) : Nat) : Int), .string (hs (fe a))] 34)
      generalize hweq : (wr.alloc (.cells #[.int .u64 ((zl a.num : Nat) : Int), .string (zh a.num), .bool (zs a.num), .int .u64 ((lo (fe a) : Nat) : Int), .string (hs (fe a))] 34)) = x21 at hL0 hS
      have hN0 := cells_of _ 0 [] rfl (hL0.get _ _ List.mem_cons_self)
      simp only [cellsF, and_true, Nat.zero_add, Nat.reduceAdd] at hN0
      have hN1 := cells_of _ 0 [] rfl (hL0.get _ _ (List.mem_cons_of_mem _ List.mem_cons_self))
      simp only [cellsF, and_true, Nat.zero_add, Nat.reduceAdd] at hN1
      have hN2 := cells_of _ 0 [] rfl (hL0.get _ _ (List.mem_cons_of_mem _ (List.mem_cons_of_mem _ (List.mem_cons_of_mem _ (List.mem_cons_of_mem _ (List.mem_cons_of_mem _ List.mem_cons_self))))))
      simp only [cellsF, and_true, Nat.zero_add, Nat.reduceAdd] at hN2
      have hN3 := cells_of _ 0 [] rfl (hL0.get _ _ (List.mem_cons_of_mem _ (List.mem_cons_of_mem _ (List.mem_cons_of_mem _ (List.mem_cons_of_mem _ (List.mem_cons_of_mem _ (List.mem_cons_of_mem _ List.mem_cons_self)))))))
      simp only [cellsF, and_true, Nat.zero_add, Nat.reduceAdd] at hN3
      go_wp2_with fail
      clear hN0 hN1 hN2 hN3
      with_reducible refine Calls.mono (HP1.out _) ?_
      rintro e x22 ⟨rfl, hb⟩
      replace hL0 := hL0.call hb
      replace hS := hS.call hb
      clear hb hweq
      clear hZ
      replace hS := (hS.new (.cells #[.int .u64 ((zl pa.num : Nat) : Int), .string (zh pa.num), .bool (zs pa.num), .int .u64 ((lo (fe pa) : Nat) : Int), .string (hs (fe pa))] 34))
      replace hL0 := (hL0.new rfl [.int .u64 ((zl pa.num : Nat) : Int), .string (zh pa.num), .bool (zs pa.num), .int .u64 ((lo (fe pa) : Nat) : Int), .string (hs (fe pa))] 34)
      generalize hweq : (x22.alloc (.cells #[.int .u64 ((zl pa.num : Nat) : Int), .string (zh pa.num), .bool (zs pa.num), .int .u64 ((lo (fe pa) : Nat) : Int), .string (hs (fe pa))] 34)) = x23 at hL0 hS
      have hN0 := cells_of _ 0 [] rfl (hL0.get _ _ (List.mem_cons_of_mem _ List.mem_cons_self))
      simp only [cellsF, and_true, Nat.zero_add, Nat.reduceAdd] at hN0
      go_wp2_with fail
      clear hN0
      with_reducible refine Calls.mono (HP2.out _) ?_
      rintro e x24 ⟨rfl, hb⟩
      replace hL0 := hL0.call hb
      replace hS := hS.call hb
      clear hb hweq
      replace hS := (hS.new (.cells #[.int .u64 ((zl qa.num : Nat) : Int), .string (zh qa.num), .bool (zs qa.num), .int .u64 ((lo (fe qa) : Nat) : Int), .string (hs (fe qa))] 34))
      replace hL0 := (hL0.new rfl [.int .u64 ((zl qa.num : Nat) : Int), .string (zh qa.num), .bool (zs qa.num), .int .u64 ((lo (fe qa) : Nat) : Int), .string (hs (fe qa))] 34)
      generalize hweq : (x24.alloc (.cells #[.int .u64 ((zl qa.num : Nat) : Int), .string (zh qa.num), .bool (zs qa.num), .int .u64 ((lo (fe qa) : Nat) : Int), .string (hs (fe qa))] 34)) = x25 at hL0 hS
      have hN0 := cells_of _ 0 [] rfl (hL0.get _ _ (List.mem_cons_of_mem _ List.mem_cons_self))
      simp only [cellsF, and_true, Nat.zero_add, Nat.reduceAdd] at hN0
      have hN1 := cells_of _ 0 [] rfl (hL0.get _ _ (List.mem_cons_of_mem _ (List.mem_cons_of_mem _ (List.mem_cons_of_mem _ (List.mem_cons_of_mem _ (List.mem_cons_of_mem _ List.mem_cons_self))))))
      simp only [cellsF, and_true, Nat.zero_add, Nat.reduceAdd] at hN1
      go_wp2_with fail
      clear hN0 hN1
      with_reducible refine Calls.mono (HX.out _) ?_
      rintro e x26 ⟨rfl, hb⟩
      replace hL0 := hL0.call hb
      replace hS := hS.call hb
      clear hb hweq
      have hS1 := hS.put ((((((Upd.refl x16.heap.size x26).setCell 0 (.int .u64 ((zl l9.num : Nat) : Int))).setCell 1 (.string (zh l9.num))).setCell 2 (.bool (zs l9.num))).setCell 3 (.int .u64 ((lo (fe l9) : Nat) : Int))).setCell 4 (.string (hs (fe l9)))) (hL0.get _ _ (List.mem_cons_of_mem _ (List.mem_cons_of_mem _ (List.mem_cons_of_mem _ (List.mem_cons_of_mem _ (List.mem_cons_of_mem _ List.mem_cons_self)))))) (by intro v hv n; simp only [List.mem_cons, List.not_mem_nil, or_false] at hv; rcases hv with rfl | rfl | rfl | rfl | rfl <;> simp)
      have hA := hL0.fc
      simp only [fcG, cellsF, neK, and_true, ne_eq, Nat.zero_add, Nat.reduceAdd] at hA
      have hP := hL0.put 5 (x16.heap.size) _ rfl [.int .u64 ((zl l9.num : Nat) : Int), .string (zh l9.num), .bool (zs l9.num), .int .u64 ((lo (fe l9) : Nat) : Int), .string (hs (fe l9))] rfl
      simp only [setAll, List.set_cons_zero, List.set_cons_succ] at hP
      generalize hput3 : (((((x26.setCell ⟨x16.heap.size, 0, none⟩ (.int .u64 ((zl l9.num : Nat) : Int))).setCell ⟨x16.heap.size, 1, none⟩ (.string (zh l9.num))).setCell ⟨x16.heap.size, 2, none⟩ (.bool (zs l9.num))).setCell ⟨x16.heap.size, 3, none⟩ (.int .u64 ((lo (fe l9) : Nat) : Int))).setCell ⟨x16.heap.size, 4, none⟩ (.string (hs (fe l9)))) = x27 at hP hS1
      have hB3 := hP.fc
      simp only [fcG, cellsF, neK, and_true, ne_eq, Nat.zero_add, Nat.reduceAdd] at hB3
      replace hL0 := hP
      replace hS := hS1
      clear hS1
      go_wp2_with fail
      clear hA
      with_reducible refine Calls.mono (HY.out _) ?_
      rintro e x28 ⟨rfl, hb⟩
      replace hL0 := hL0.call hb
      replace hS := hS.call hb
      clear hb hput3 hB3
      have hS1 := hS.put ((((((Upd.refl (x16.heap.size + 1) x28).setCell 0 (.int .u64 ((zl h9.num : Nat) : Int))).setCell 1 (.string (zh h9.num))).setCell 2 (.bool (zs h9.num))).setCell 3 (.int .u64 ((lo (fe h9) : Nat) : Int))).setCell 4 (.string (hs (fe h9)))) (hL0.get _ _ (List.mem_cons_of_mem _ (List.mem_cons_of_mem _ (List.mem_cons_of_mem _ (List.mem_cons_of_mem _ List.mem_cons_self))))) (by intro v hv n; simp only [List.mem_cons, List.not_mem_nil, or_false] at hv; rcases hv with rfl | rfl | rfl | rfl | rfl <;> simp)
      have hA := hL0.fc
      simp only [fcG, cellsF, neK, and_true, ne_eq, Nat.zero_add, Nat.reduceAdd] at hA
      have hP := hL0.put 4 (x16.heap.size + 1) _ rfl [.int .u64 ((zl h9.num : Nat) : Int), .string (zh h9.num), .bool (zs h9.num), .int .u64 ((lo (fe h9) : Nat) : Int), .string (hs (fe h9))] rfl
      simp only [setAll, List.set_cons_zero, List.set_cons_succ] at hP
      generalize hput4 : (((((x28.setCell ⟨x16.heap.size + 1, 0, none⟩ (.int .u64 ((zl h9.num : Nat) : Int))).setCell ⟨x16.heap.size + 1, 1, none⟩ (.string (zh h9.num))).setCell ⟨x16.heap.size + 1, 2, none⟩ (.bool (zs h9.num))).setCell ⟨x16.heap.size + 1, 3, none⟩ (.int .u64 ((lo (fe h9) : Nat) : Int))).setCell ⟨x16.heap.size + 1, 4, none⟩ (.string (hs (fe h9)))) = x29 at hP hS1
      have hB4 := hP.fc
      simp only [fcG, cellsF, neK, and_true, ne_eq, Nat.zero_add, Nat.reduceAdd] at hB4
      replace hL0 := hP
      replace hS := hS1
      clear hS1
      go_wp2_with fail
      go_roundg (gk - 1)
      case measure => omega
      case rel => exact ⟨1, 1, l9, h9, by omega, by first | rfl | go_num, by rfl, el.out, eh.out, hL0.weak (List.Sublist.cons _ (List.Sublist.cons _ (List.Sublist.cons _ (List.Sublist.refl _))))⟩
     ·have hz : zi = 1 := by omega
      clear hzi
      subst hz
      obtain ⟨l9, el⟩ : ∃ x, x = lq 2 := ⟨_, rfl⟩
      obtain ⟨h9, eh⟩ : ∃ x, x = uq 2 := ⟨_, rfl⟩
      have HX := HX1.out
      rw [← hlo, ← el] at HX
      replace HX := Lib.hid HX
      have HY := HY1.out
      rw [← hhi, ← eh] at HY
      replace HY := Lib.hid HY
      replace el := Lib.hid el
      replace eh := Lib.hid eh
      replace hlo := Lib.hid hlo
      replace hhi := Lib.hid hhi
      have hZ := hL0.fc
      simp only [fcG, cellsF, neK, and_true, ne_eq, Nat.zero_add, Nat.reduceAdd] at hZ
      replace hS := (hS.new (.cells #[.int .u64 ((zl b.num : Nat) : Int), .string (zh b.num), .bool (zs b.num), .int .u64 ((lo (fe b) : Nat) : Int), .string (hs (fe b))] 34))
      replace hL0 := (hL0.new rfl [.int .u64 ((zl b.num : Nat) : Int), .string (zh b.num), .bool (zs b.num), .int .u64 ((lo (fe b) : Nat) : Int), .string (hs (fe b))] 34)
      generalize hweq : (wr.alloc (.cells #[.int .u64 ((zl b.num : Nat) : Int), .string (zh b.num), .bool (zs b.num), .int .u64 ((lo (fe b) : Nat) : Int), .string (hs (fe b))] 34)) = x21 at hL0 hS
      have hN0 := cells_of _ 0 [] rfl (hL0.get _ _ List.mem_cons_self)
      simp only [cellsF, and_true, Nat.zero_add, Nat.reduceAdd] at hN0
      have hN1 := cells_of _ 0 [] rfl (hL0.get _ _ (List.mem_cons_of_mem _ List.mem_cons_self))
      simp only [cellsF, and_true, Nat.zero_add, Nat.reduceAdd] at hN1
      have hN2 := cells_of _ 0 [] rfl (hL0.get _ _ (List.mem_cons_of_mem _ (List.mem_cons_of_mem _ (List.mem_cons_of_mem _ (List.mem_cons_of_mem _ (List.mem_cons_of_mem _ List.mem_cons_self))))))
      simp only [cellsF, and_true, Nat.zero_add, Nat.reduceAdd] at hN2
      have hN3 := cells_of _ 0 [] rfl (hL0.get _ _ (List.mem_cons_of_mem _ (List.mem_cons_of_mem _ (List.mem_cons_of_mem _ (List.mem_cons_of_mem _ (List.mem_cons_of_mem _ (List.mem_cons_of_mem _ List.mem_cons_self)))))))
      simp only [cellsF, and_true, Nat.zero_add, Nat.reduceAdd] at hN3
      go_wp2_with fail
      clear hN0 hN1 hN2 hN3
      with_reducible refine Calls.mono (HP3.out _) ?_
      rintro e x22 ⟨rfl, hb⟩
      replace hL0 := hL0.call hb
      replace hS := hS.call hb
      clear hb hweq
      clear hZ
      replace hS := (hS.new (.cells #[.int .u64 ((zl pb.num : Nat) : Int), .string (zh pb.num), .bool (zs pb.num), .int .u64 ((lo (fe pb) : Nat) : Int), .string (hs (fe pb))] 34))
      replace hL0 := (hL0.new rfl [.int .u64 ((zl pb.num : Nat) : Int), .string (zh pb.num), .bool (zs pb.num), .int .u64 ((lo (fe pb) : Nat) : Int), .string (hs (fe pb))] 34)
      generalize hweq : (x22.alloc (.cells #[.int .u64 ((zl pb.num : Nat) : Int), .string (zh pb.num), .bool (zs pb.num), .int .u64 ((lo (fe pb) : Nat) : Int), .string (hs (fe pb))] 34)) = x23 at hL0 hS
      have hN0 := cells_of _ 0 [] rfl (hL0.get _ _ (List.mem_cons_of_mem _ List.mem_cons_self))
      simp only [cellsF, and_true, Nat.zero_add, Nat.reduceAdd] at hN0
      go_wp2_with fail
      clear hN0
      with_reducible refine Calls.mono (HP4.out _) ?_
      rintro e x24 ⟨rfl, hb⟩
      replace hL0 := hL0.call hb
      replace hS := hS.call hb
      clear hb hweq
      replace hS := (hS.new (.cells #[.int .u64 ((zl qb.num : Nat) : Int), .string (zh qb.num), .bool (zs qb.num), .int .u64 ((lo (fe qb) : Nat) : Int), .string (hs (fe qb))] 34))
      replace hL0 := (hL0.new rfl [.int .u64 ((zl qb.num : Nat) : Int), .string (zh qb.num), .bool (zs qb.num), .int .u64 ((lo (fe qb) : Nat) : Int), .string (hs (fe qb))] 34)
      generalize hweq : (x24.alloc (.cells #[.int .u64 ((zl qb.num : Nat) : Int), .string (zh qb.num), .bool (zs qb.num), .int .u64 ((lo (fe qb) : Nat) : Int), .string (hs (fe qb))] 34)) = x25 at hL0 hS
      have hN0 := cells_of _ 0 [] rfl (hL0.get _ _ (List.mem_cons_of_mem _ List.mem_cons_self))
      simp only [cellsF, and_true, Nat.zero_add, Nat.reduceAdd] at hN0
      have hN1 := cells_of _ 0 [] rfl (hL0.get _ _ (List.mem_cons_of_mem _ (List.mem_cons_of_mem _ (List.mem_cons_of_mem _ (List.mem_cons_of_mem _ (List.mem_cons_of_mem _ List.mem_cons_self))))))
      simp only [cellsF, and_true, Nat.zero_add, Nat.reduceAdd] at hN1
      go_wp2_with fail
      clear hN0 hN1
      with_reducible refine Calls.mono (HX.out _) ?_
      rintro e x26 ⟨rfl, hb⟩
      replace hL0 := hL0.call hb
      replace hS := hS.call hb
      clear hb hweq
      have hS1 := hS.put ((((((Upd.refl x16.heap.size x26).setCell 0 (.int .u64 ((zl l9.num : Nat) : Int))).setCell 1 (.string (zh l9.num))).setCell 2 (.bool (zs l9.num))).setCell 3 (.int .u64 ((lo (fe l9) : Nat) : Int))).setCell 4 (.string (hs (fe l9)))) (hL0.get _ _ (List.mem_cons_of_mem _ (List.mem_cons_of_mem _ (List.mem_cons_of_mem _ (List.mem_cons_of_mem _ (List.mem_cons_of_mem _ List.mem_cons_self)))))) (by intro v hv n; simp only [List.mem_cons, List.not_mem_nil, or_false] at hv; rcases hv with rfl | rfl | rfl | rfl | rfl <;> simp)
      have hA := hL0.fc
      simp only [fcG, cellsF, neK, and_true, ne_eq, Nat.zero_add, Nat.reduceAdd] at hA
      have hP := hL0.put 5 (x16.heap.size) _ rfl [.int .u64 ((zl l9.num : Nat) : Int), .string (zh l9.num), .bool (zs l9.num), .int .u64 ((lo (fe l9) : Nat) : Int), .string (hs (fe l9))] rfl
      simp only [setAll, List.set_cons_zero, List.set_cons_succ] at hP
      generalize hput3 : (((((x26.setCell ⟨x16.heap.size, 0, none⟩ (.int .u64 ((zl l9.num : Nat) : Int))).setCell ⟨x16.heap.size, 1, none⟩ (.string (zh l9.num))).setCell ⟨x16.heap.size, 2, none⟩ (.bool (zs l9.num))).setCell ⟨x16.heap.size, 3, none⟩ (.int .u64 ((lo (fe l9) : Nat) : Int))).setCell ⟨x16.heap.size, 4, none⟩ (.string (hs (fe l9)))) = x27 at hP hS1
      have hB3 := hP.fc
      simp only [fcG, cellsF, neK, and_true, ne_eq, Nat.zero_add, Nat.reduceAdd] at hB3
      replace hL0 := hP
      replace hS := hS1
      clear hS1
      go_wp2_with fail
      clear hA
      with_reducible refine Calls.mono (HY.out _) ?_
      rintro e x28 ⟨rfl, hb⟩
      replace hL0 := hL0.call hb
      replace hS := hS.call hb
      clear hb hput3 hB3
      have hS1 := hS.put ((((((Upd.refl (x16.heap.size + 1) x28).setCell 0 (.int .u64 ((zl h9.num : Nat) : Int))).setCell 1 (.string (zh h9.num))).setCell 2 (.bool (zs h9.num))).setCell 3 (.int .u64 ((lo (fe h9) : Nat) : Int))).setCell 4 (.string (hs (fe h9)))) (hL0.get _ _ (List.mem_cons_of_mem _ (List.mem_cons_of_mem _ (List.mem_cons_of_mem _ (List.mem_cons_of_mem _ List.mem_cons_self))))) (by intro v hv n; simp only [List.mem_cons, List.not_mem_nil, or_false] at hv; rcases hv with rfl | rfl | rfl | rfl | rfl <;> simp)
      have hA := hL0.fc
      simp only [fcG, cellsF, neK, and_true, ne_eq, Nat.zero_add, Nat.reduceAdd] at hA
      have hP := hL0.put 4 (x16.heap.size + 1) _ rfl [.int .u64 ((zl h9.num : Nat) : Int), .string (zh h9.num), .bool (zs h9.num), .int .u64 ((lo (fe h9) : Nat) : Int), .string (hs (fe h9))] rfl
      simp only [setAll, List.set_cons_zero, List.set_cons_succ] at hP
      generalize hput4 : (((((x28.setCell ⟨x16.heap.size + 1, 0, none⟩ (.int .u64 ((zl h9.num : Nat) : Int))).setCell ⟨x16.heap.size + 1, 1, none⟩ (.string (zh h9.num))).setCell ⟨x16.heap.size + 1, 2, none⟩ (.bool (zs h9.num))).setCell ⟨x16.heap.size + 1, 3, none⟩ (.int .u64 ((lo (fe h9) : Nat) : Int))).setCell ⟨x16.heap.size + 1, 4, none⟩ (.string (hs (fe h9)))) = x29 at hP hS1
      have hB4 := hP.fc
      simp only [fcG, cellsF, neK, and_true, ne_eq, Nat.zero_add, Nat.reduceAdd] at hB4
      replace hL0 := hP
      replace hS := hS1
      clear hS1
      go_wp2_with fail
      go_roundg (gk - 1)
      case measure => omega
      case rel => exact ⟨2, 2, l9, h9, by omega, by first | rfl | go_num, by rfl, el.out, eh.out, hL0.weak (List.Sublist.cons _ (List.Sublist.cons _ (List.Sublist.cons _ (List.Sublist.refl _))))⟩
     ·have hz : zi = 2 := by omega
      clear hzi
      subst hz
      have e1 := (hlo.trans hl2.out).symm
      subst e1
      have e2 := (hhi.trans hh2.out).symm
      subst e2
      clear hlo hhi
      have hN0 := cells_of _ 0 [] rfl (hL0.get _ _ (List.mem_cons_of_mem _ (List.mem_cons_of_mem _ (List.mem_cons_of_mem _ List.mem_cons_self))))
      simp only [cellsF, and_true, Nat.zero_add, Nat.reduceAdd] at hN0
      have hN1 := cells_of _ 0 [] rfl (hL0.get _ _ (List.mem_cons_of_mem _ (List.mem_cons_of_mem _ (List.mem_cons_of_mem _ (List.mem_cons_of_mem _ List.mem_cons_self)))))
      simp only [cellsF, and_true, Nat.zero_add, Nat.reduceAdd] at hN1
      have hN2 := cells_of _ 0 [] rfl (hL0.get _ _ (List.mem_cons_of_mem _ (List.mem_cons_of_mem _ (List.mem_cons_of_mem _ (List.mem_cons_of_mem _ (List.mem_cons_of_mem _ List.mem_cons_self))))))
      simp only [cellsF, and_true, Nat.zero_add, Nat.reduceAdd] at hN2
      go_wp2_with fail
      clear hN0 hN1 hN2
      with_reducible refine Calls.mono (HB1.out _) ?_
      rintro e x21 ⟨rfl, hb⟩
      replace hL0 := hL0.call hb
      replace hS := hS.call hb
      clear hb
      replace hS := (hS.new (.cells #[.int .u64 ((zl bl.num : Nat) : Int), .string (zh bl.num), .bool (zs bl.num), .int .u64 ((lo (fe bl) : Nat) : Int), .string (hs (fe bl))] 34))
      replace hL0 := (hL0.new rfl [.int .u64 ((zl bl.num : Nat) : Int), .string (zh bl.num), .bool (zs bl.num), .int .u64 ((lo (fe bl) : Nat) : Int), .string (hs (fe bl))] 34)
      generalize hweq : (x21.alloc (.cells #[.int .u64 ((zl bl.num : Nat) : Int), .string (zh bl.num), .bool (zs bl.num), .int .u64 ((lo (fe bl) : Nat) : Int), .string (hs (fe bl))] 34)) = x22 at hL0 hS
      have hN0 := cells_of _ 0 [] rfl (hL0.get _ _ (List.mem_cons_of_mem _ (List.mem_cons_of_mem _ (List.mem_cons_of_mem _ (List.mem_cons_of_mem _ List.mem_cons_self)))))
      simp only [cellsF, and_true, Nat.zero_add, Nat.reduceAdd] at hN0
      go_wp2_with fail
      clear hN0
      with_reducible refine Calls.mono (HB2.out _) ?_
      rintro e x23 ⟨rfl, hb⟩
      replace hL0 := hL0.call hb
      replace hS := hS.call hb
      clear hb hweq
      replace hS := (hS.new (.cells #[.int .u64 ((zl ab.num : Nat) : Int), .string (zh ab.num), .bool (zs ab.num), .int .u64 ((lo (fe ab) : Nat) : Int), .string (hs (fe ab))] 34))
      replace hL0 := (hL0.new rfl [.int .u64 ((zl ab.num : Nat) : Int), .string (zh ab.num), .bool (zs ab.num), .int .u64 ((lo (fe ab) : Nat) : Int), .string (hs (fe ab))] 34)
      generalize hweq : (x23.alloc (.cells #[.int .u64 ((zl ab.num : Nat) : Int), .string (zh ab.num), .bool (zs ab.num), .int .u64 ((lo (fe ab) : Nat) : Int), .string (hs (fe ab))] 34)) = x24 at hL0 hS
      rcases hF2.out with ⟨f1, f2, f3, f4⟩ | ⟨f1, f2, f3, f4, f5⟩ | ⟨f1, f2, f3, f4⟩ | ⟨f1, f2, f3, f4, f5⟩
      ·have hN0 := cells_of _ 0 [] rfl (hL0.get _ _ List.mem_cons_self)
       simp only [cellsF, and_true, Nat.zero_add, Nat.reduceAdd] at hN0
       have hN1 := cells_of _ 0 [] rfl (hL0.get _ _ (List.mem_cons_of_mem _ (List.mem_cons_of_mem _ (List.mem_cons_of_mem _ (List.mem_cons_of_mem _ List.mem_cons_self)))))
       simp only [cellsF, and_true, Nat.zero_add, Nat.reduceAdd] at hN1
       go_wp2_with fail
       clear hN0 hN1
       with_reducible refine Calls.mono (HC1.out _) ?_
       rintro e x25 ⟨rfl, hb⟩
       replace hL0 := hL0.call hb
       replace hS := hS.call hb
       clear hb hweq
       have hZ := hL0.fc
       simp only [fcG, cellsF, neK, and_true, ne_eq, Nat.zero_add, Nat.reduceAdd] at hZ
       replace hS := (hS.new (.cells #[.int .u64 ((zl a.num : Nat) : Int), .string (zh a.num), .bool (zs a.num), .int .u64 ((lo (fe a) : Nat) : Int), .string (hs (fe a)), .int .u64 ((zl b.num : Nat) : Int), .string (zh b.num), .bool (zs b.num), .int .u64 ((lo (fe b) : Nat) : Int), .string (hs (fe b))] 34))
       replace hL0 := (hL0.new rfl [.int .u64 ((zl a.num : Nat) : Int), .string (zh a.num), .bool (zs a.num), .int .u64 ((lo (fe a) : Nat) : Int), .string (hs (fe a)), .int .u64 ((zl b.num : Nat) : Int), .string (zh b.num), .bool (zs b.num), .int .u64 ((lo (fe b) : Nat) : Int), .string (hs (fe b))] 34)
       generalize hweq : (x25.alloc (.cells #[.int .u64 ((zl a.num : Nat) : Int), .string (zh a.num), .bool (zs a.num), .int .u64 ((lo (fe a) : Nat) : Int), .string (hs (fe a)), .int .u64 ((zl b.num : Nat) : Int), .string (zh b.num), .bool (zs b.num), .int .u64 ((lo (fe b) : Nat) : Int), .string (hs (fe b))] 34)) = x26 at hL0 hS
       have hN0 := cells_of _ 0 [] rfl (hL0.get _ _ (List.mem_cons_of_mem _ (List.mem_cons_of_mem _ (List.mem_cons_of_mem _ (List.mem_cons_of_mem _ (List.mem_cons_of_mem _ (List.mem_cons_of_mem _ (List.mem_cons_of_mem _ List.mem_cons_self))))))))
       simp only [cellsF, and_true, Nat.zero_add, Nat.reduceAdd] at hN0
       have hN1 := cells_of _ 0 [] rfl (hL0.get _ _ (List.mem_cons_of_mem _ (List.mem_cons_of_mem _ (List.mem_cons_of_mem _ (List.mem_cons_of_mem _ (List.mem_cons_of_mem _ (List.mem_cons_of_mem _ (List.mem_cons_of_mem _ (List.mem_cons_of_mem _ List.mem_cons_self)))))))))
       simp only [cellsF, and_true, Nat.zero_add, Nat.reduceAdd] at hN1
       go_wp2_with fail
       clear hN0 hN1
       with_reducible refine Calls.mono (HO2.out (.slice (some ⟨x25.heap.size, 0, none⟩) 2 2) _ (slq_twoR (hL0.get _ _ List.mem_cons_self))) ?_
       rintro e x27 ⟨rfl, hb⟩
       replace hL0 := hL0.call hb
       replace hS := hS.call hb
       clear hb hweq
       clear hZ
       go_upto_region 27 with fail
       refine region_tl 13 [EV (.agg #[.int .u64 ((zl a.num : Nat) : Int), .string (zh a.num), .bool (zs a.num), .int .u64 ((lo (fe a) : Nat) : Int), .string (hs (fe a))]), EV (.agg #[.int .u64 ((zl s1.num : Nat) : Int), .string (zh s1.num), .bool (zs s1.num), .int .u64 ((lo (fe s1) : Nat) : Int), .string (hs (fe s1))]), EV (.agg #[.int .u64 ((zl b.num : Nat) : Int), .string (zh b.num), .bool (zs b.num), .int .u64 ((lo (fe b) : Nat) : Int), .string (hs (fe b))]), EV (.agg #[.int .u64 ((zl s2.num : Nat) : Int), .string (zh s2.num), .bool (zs s2.num), .int .u64 ((lo (fe s2) : Nat) : Int), .string (hs (fe s2))]), EV (.agg #[.int .u64 ((zl sm.num : Nat) : Int), .string (zh sm.num), .bool (zs sm.num), .int .u64 ((lo (fe sm) : Nat) : Int), .string (hs (fe sm))]), EV (.agg #[.int .u64 ((zl s3.num : Nat) : Int), .string (zh s3.num), .bool (zs s3.num), .int .u64 ((lo (fe s3) : Nat) : Int), .string (hs (fe s3))]), PS [s3], EV (.tuple #[.int .i64 gc, .int .i64 0]), EV (.tuple #[.int .i64 gc, .int .i64 0]), EV (.int .i64 gc), EV (.int .i64 0), EV (.int .i64 gc), EV (.int .i64 0)] (by kernel_rfl) (by kernel_rfl) ?_ ?_ ?_
       ·exact stays_cons (stays_eq _) (stays_cons (stays_eq _) (stays_cons (stays_eq _) (stays_cons (stays_eq _) (stays_cons (stays_eq _) (stays_cons (stays_eq _) (stays_cons (stays_slq _) (stays_cons (stays_eq _) (stays_cons (stays_eq _) (stays_cons (stays_eq _) (stays_cons (stays_eq _) (stays_cons (stays_eq _) (stays_cons (stays_eq _) (stays_nil)))))))))))))
       ·simp only [List.take_succ_cons, List.take_zero, hopsR, and_true]
        refine ⟨?_, ?_, ?_, ?_, ?_, ?_, ?_, ?_, ?_, ?_, ?_, ?_, ?_⟩ <;> intro fv w1 hb1 hp
        all_goals (simp only [putsV, Act.put, List.setIfInBounds_toArray, List.set_cons_succ, List.set_cons_zero, Nat.zero_add, Nat.reduceAdd])
        ·refine tyAt_none rfl ?_
         have hc := (hL0.call (below_drew hb1)).fc
         simp only [fcG, cellsF, neK, and_true, ne_eq, Nat.zero_add, Nat.reduceAdd] at hc
         simp [tyUpon, execOp, go_sem, Act.eval, hc, Below.refl]
        ·have h0 : EV _ (fv 0) w1 := hp 0 (LC (by kernel_rfl))
         refine tyAt_none rfl ?_
         refine ty_call (f := 42) (args := #[.agg #[.int .u64 ((zl a.num : Nat) : Int), .string (zh a.num), .bool (zs a.num), .int .u64 ((lo (fe a) : Nat) : Int), .string (hs (fe a))]]) (by simp [execOp, go_sem, Act.eval, h0]) ?_
         exact (HS1.out w1).mono fun e w2 ⟨h1, h2⟩ => ⟨_, h1, rfl, h2⟩
        ·refine tyAt_none rfl ?_
         have hc := (hL0.call (below_drew hb1)).fc
         simp only [fcG, cellsF, neK, and_true, ne_eq, Nat.zero_add, Nat.reduceAdd] at hc
         simp [tyUpon, execOp, go_sem, Act.eval, hc, Below.refl]
        ·have h2 : EV _ (fv 2) w1 := hp 2 (LC (by kernel_rfl))
         refine tyAt_none rfl ?_
         refine ty_call (f := 42) (args := #[.agg #[.int .u64 ((zl b.num : Nat) : Int), .string (zh b.num), .bool (zs b.num), .int .u64 ((lo (fe b) : Nat) : Int), .string (hs (fe b))]]) (by simp [execOp, go_sem, Act.eval, h2]) ?_
         exact (HS2.out w1).mono fun e w2 ⟨h1, h2⟩ => ⟨_, h1, rfl, h2⟩
        ·refine tyAt_none rfl ?_
         have hc := (hL0.call (below_drew hb1)).fc
         simp only [fcG, cellsF, neK, and_true, ne_eq, Nat.zero_add, Nat.reduceAdd] at hc
         simp [tyUpon, execOp, go_sem, Act.eval, hc, Below.refl]
        ·have h4 : EV _ (fv 4) w1 := hp 4 (LC (by kernel_rfl))
         refine tyAt_none rfl ?_
         refine ty_call (f := 42) (args := #[.agg #[.int .u64 ((zl sm.num : Nat) : Int), .string (zh sm.num), .bool (zs sm.num), .int .u64 ((lo (fe sm) : Nat) : Int), .string (hs (fe sm))]]) (by simp [execOp, go_sem, Act.eval, h4]) ?_
         exact (HS3.out w1).mono fun e w2 ⟨h1, h2⟩ => ⟨_, h1, rfl, h2⟩
        ·have h5 : EV _ (fv 5) w1 := hp 5 (LC (by kernel_rfl))
         refine tyAt_none rfl ?_
         refine ty_val (u := .slice (some ⟨w1.heap.size, 0, none⟩) 1 1) (w' := w1.alloc (.cells #[.int .u64 ((zl s3.num : Nat) : Int), .string (zh s3.num), .bool (zs s3.num), .int .u64 ((lo (fe s3) : Nat) : Int), .string (hs (fe s3))] 34)) (by simp [execOp, go_sem, Act.eval, h5]) ((Below.refl _ _).alloc (Nat.le_refl _) _) (slq_new1 _ _)
        ·have h1 : EV _ (fv 1) w1 := hp 1 (LC (by kernel_rfl))
         have h3 : EV _ (fv 3) w1 := hp 3 (LC (by kernel_rfl))
         have h6 : PS _ (fv 6) w1 := hp 6 (LC (by kernel_rfl))
         refine tyAt_none rfl ?_
         refine ty_call (f := 44) (args := #[.agg #[.int .u64 ((zl s1.num : Nat) : Int), .string (zh s1.num), .bool (zs s1.num), .int .u64 ((lo (fe s1) : Nat) : Int), .string (hs (fe s1))], .agg #[.int .u64 ((zl s2.num : Nat) : Int), .string (zh s2.num), .bool (zs s2.num), .int .u64 ((lo (fe s2) : Nat) : Int), .string (hs (fe s2))], fv 6]) (by simp [execOp, go_sem, Act.eval, h1, h3]) ?_
         exact (HO3.out (fv 6) w1 h6).mono fun e w2 ⟨h1, h2⟩ => ⟨_, h1, rfl, h2⟩
        ·have h7 : EV _ (fv 7) w1 := hp 7 (LC (by kernel_rfl))
         refine tyAt_none rfl ?_
         simp [tyUpon, execOp, go_sem, Act.eval, h7, Below.refl]
        ·have h8 : EV _ (fv 8) w1 := hp 8 (LC (by kernel_rfl))
         refine tyAt_none rfl ?_
         simp [tyUpon, execOp, go_sem, Act.eval, h8, Below.refl]
        ·have h8 : EV _ (fv 8) w1 := hp 8 (LC (by kernel_rfl))
         refine tyAt_none rfl ?_
         simp [tyUpon, execOp, go_sem, Act.eval, h8, Below.refl]
        ·have h9 : EV _ (fv 9) w1 := hp 9 (LC (by kernel_rfl))
         refine tyAt_none rfl ?_
         simp [tyUpon, execOp, go_sem, Act.eval, h9, Below.refl]
        ·have h10 : EV _ (fv 10) w1 := hp 10 (LC (by kernel_rfl))
         refine tyAt_none rfl ?_
         simp [tyUpon, execOp, go_sem, Act.eval, h10, Below.refl]
       ·intro fv x28 hb1 hv
        have e0 : fv 0 = _ := hv 0 (by omega)
        have e1 : fv 1 = _ := hv 1 (by omega)
        have e2 : fv 2 = _ := hv 2 (by omega)
        have e3 : fv 3 = _ := hv 3 (by omega)
        have e4 : fv 4 = _ := hv 4 (by omega)
        have e5 : fv 5 = _ := hv 5 (by omega)
        have q6 : SlQ x28 (fv 6) [s3] := hv 6 (by omega)
        obtain ⟨g1, d1, g2, e6⟩ := slq_form q6
        rw [e6] at q6
        have e7 : fv 7 = _ := hv 7 (by omega)
        have e8 : fv 8 = _ := hv 8 (by omega)
        have e9 : fv 9 = _ := hv 9 (by omega)
        have e10 : fv 10 = _ := hv 10 (by omega)
        have e11 : fv 11 = _ := hv 11 (by omega)
        have e12 : fv 12 = _ := hv 12 (by omega)
        simp only [List.take_succ_cons, List.take_zero, putsV, Act.put, List.setIfInBounds_toArray, List.set_cons_succ, List.set_cons_zero, List.drop_succ_cons, List.drop_zero, Nat.zero_add, Nat.reduceAdd, e0, e1, e2, e3, e4, e5, e6, e7, e8, e9, e10, e11, e12]
        replace hL0 := hL0.call (below_drew hb1)
        replace hS := hS.call (below_drew hb1)
        clear e0 e1 e2 e3 e4 e5 e6 e7 e8 e9 e10 e11 e12 hb1 hv q6 fv
        rcases hF3.out with ⟨u1, u2, u3⟩ | ⟨u1, u2, u3, u4⟩
        ·go_upto_region 28 with fail
         have kKT1 := hKT.out.at hL0.bl kKT
         obtain ⟨α, iα, F, hF1, hF2⟩ := cls x28
         have hq0 := cls_box hF1 hL0 _ _ (List.mem_cons_of_mem _ (List.mem_cons_of_mem _ (List.mem_cons_of_mem _ (List.mem_cons_of_mem _ (List.mem_cons_of_mem _ (List.mem_cons_of_mem _ List.mem_cons_self))))))
         simp only [cellsC, and_true, Nat.zero_add, Nat.reduceAdd] at hq0
         have hq1 := cls_box hF1 hL0 _ _ (List.mem_cons_of_mem _ (List.mem_cons_of_mem _ (List.mem_cons_of_mem _ (List.mem_cons_of_mem _ (List.mem_cons_of_mem _ (List.mem_cons_of_mem _ (List.mem_cons_of_mem _ List.mem_cons_self)))))))
         simp only [cellsC, and_true, Nat.zero_add, Nat.reduceAdd] at hq1
         have hq2 := cls_box hF1 hL0 _ _ (List.mem_cons_of_mem _ (List.mem_cons_of_mem _ (List.mem_cons_of_mem _ (List.mem_cons_of_mem _ (List.mem_cons_of_mem _ (List.mem_cons_of_mem _ (List.mem_cons_of_mem _ (List.mem_cons_of_mem _ List.mem_cons_self))))))))
         simp only [cellsC, and_true, Nat.zero_add, Nat.reduceAdd] at hq2
         refine region_qs 36 (C := fun w' => ∃ x, w' = F x) (by kernel_rfl) (by kernel_rfl) (cls_drew hF2) ?_
         simp only [List.take_succ_cons, List.take_zero, List.drop_succ_cons, List.drop_zero, List.take_nil, List.drop_nil]
         repeat (go_big_quiet_step (first | fail | (go_at_call 41; with_reducible exact cls_call hF1 hF2 HSa.out _) | (go_at_call 33; with_reducible exact cls_call hF1 hF2 HAd.out _) | (go_at_call 26; with_reducible exact cls_call hF1 hF2 HCm.out _) | (go_at_call 35; with_reducible exact cls_callK hKT.out hF1 hF2 kKT1 HW.out _)))
         refine wpQuiet_nil ?_
         rintro wq ⟨xq, rfl⟩
         replace hL0 := hL0.call (hF1 xq)
         replace hS := hS.call (hF1 xq)
         clear  hq0 hq1 hq2 hF2
         generalize F xq = x29 at hL0 hS ⊢
         clear hF1 xq iα F α
         clear kKT1
         go_wp2_with fail
         exact bodyPost_ret (v := .bool true) (by simp [results, Tryz.results12, go_sem]) rfl ⟨rfl, hL0.bl⟩
        ·go_upto_region 28 with fail
         have kKT1 := hKT.out.at hL0.bl kKT
         obtain ⟨α, iα, F, hF1, hF2⟩ := cls x28
         have hq0 := cls_box hF1 hL0 _ _ (List.mem_cons_of_mem _ (List.mem_cons_of_mem _ (List.mem_cons_of_mem _ (List.mem_cons_of_mem _ (List.mem_cons_of_mem _ (List.mem_cons_of_mem _ List.mem_cons_self))))))
         simp only [cellsC, and_true, Nat.zero_add, Nat.reduceAdd] at hq0
         have hq1 := cls_box hF1 hL0 _ _ (List.mem_cons_of_mem _ (List.mem_cons_of_mem _ (List.mem_cons_of_mem _ (List.mem_cons_of_mem _ (List.mem_cons_of_mem _ (List.mem_cons_of_mem _ (List.mem_cons_of_mem _ List.mem_cons_self)))))))
         simp only [cellsC, and_true, Nat.zero_add, Nat.reduceAdd] at hq1
         have hq2 := cls_box hF1 hL0 _ _ (List.mem_cons_of_mem _ (List.mem_cons_of_mem _ (List.mem_cons_of_mem _ (List.mem_cons_of_mem _ (List.mem_cons_of_mem _ (List.mem_cons_of_mem _ (List.mem_cons_of_mem _ (List.mem_cons_of_mem _ List.mem_cons_self))))))))
         simp only [cellsC, and_true, Nat.zero_add, Nat.reduceAdd] at hq2
         refine region_qs 36 (C := fun w' => ∃ x, w' = F x) (by kernel_rfl) (by kernel_rfl) (cls_drew hF2) ?_
         simp only [List.take_succ_cons, List.take_zero, List.drop_succ_cons, List.drop_zero, List.take_nil, List.drop_nil]
         repeat (go_big_quiet_step (first | fail | (go_at_call 41; with_reducible exact cls_call hF1 hF2 HSa.out _) | (go_at_call 41; with_reducible exact cls_call hF1 hF2 HSb.out _) | (go_at_call 33; with_reducible exact cls_call hF1 hF2 HAd.out _) | (go_at_call 26; with_reducible exact cls_call hF1 hF2 HCm.out _) | (go_at_call 35; with_reducible exact cls_callK hKT.out hF1 hF2 kKT1 HW.out _)))
         refine wpQuiet_nil ?_
         rintro wq ⟨xq, rfl⟩
         replace hL0 := hL0.call (hF1 xq)
         replace hS := hS.call (hF1 xq)
         clear  hq0 hq1 hq2 hF2
         generalize F xq = x29 at hL0 hS ⊢
         clear hF1 xq iα F α
         clear kKT1
         go_wp2_with fail
         exact bodyPost_ret (v := .bool true) (by simp [results, Tryz.results12, go_sem]) rfl ⟨rfl, hL0.bl⟩
      ·subst f5
       have hN0 := cells_of _ 0 [] rfl (hL0.get _ _ List.mem_cons_self)
       simp only [cellsF, and_true, Nat.zero_add, Nat.reduceAdd] at hN0
       have hN1 := cells_of _ 0 [] rfl (hL0.get _ _ (List.mem_cons_of_mem _ (List.mem_cons_of_mem _ (List.mem_cons_of_mem _ (List.mem_cons_of_mem _ List.mem_cons_self)))))
       simp only [cellsF, and_true, Nat.zero_add, Nat.reduceAdd] at hN1
       go_wp2_with fail
       clear hN0 hN1
       with_reducible refine Calls.mono (HC1.out _) ?_
       rintro e x25 ⟨rfl, hb⟩
       replace hL0 := hL0.call hb
       replace hS := hS.call hb
       clear hb hweq
       have hZ := hL0.fc
       simp only [fcG, cellsF, neK, and_true, ne_eq, Nat.zero_add, Nat.reduceAdd] at hZ
       replace hS := (hS.new (.cells #[.int .u64 ((zl a.num : Nat) : Int), .string (zh a.num), .bool (zs a.num), .int .u64 ((lo (fe a) : Nat) : Int), .string (hs (fe a)), .int .u64 ((zl b.num : Nat) : Int), .string (zh b.num), .bool (zs b.num), .int .u64 ((lo (fe b) : Nat) : Int), .string (hs (fe b))] 34))
       replace hL0 := (hL0.new rfl [.int .u64 ((zl a.num : Nat) : Int), .string (zh a.num), .bool (zs a.num), .int .u64 ((lo (fe a) : Nat) : Int), .string (hs (fe a)), .int .u64 ((zl b.num : Nat) : Int), .string (zh b.num), .bool (zs b.num), .int .u64 ((lo (fe b) : Nat) : Int), .string (hs (fe b))] 34)
       generalize hweq : (x25.alloc (.cells #[.int .u64 ((zl a.num : Nat) : Int), .string (zh a.num), .bool (zs a.num), .int .u64 ((lo (fe a) : Nat) : Int), .string (hs (fe a)), .int .u64 ((zl b.num : Nat) : Int), .string (zh b.num), .bool (zs b.num), .int .u64 ((lo (fe b) : Nat) : Int), .string (hs (fe b))] 34)) = x26 at hL0 hS
       have hN0 := cells_of _ 0 [] rfl (hL0.get _ _ (List.mem_cons_of_mem _ List.mem_cons_self))
       simp only [cellsF, and_true, Nat.zero_add, Nat.reduceAdd] at hN0
       have hN1 := cells_of _ 0 [] rfl (hL0.get _ _ (List.mem_cons_of_mem _ (List.mem_cons_of_mem _ (List.mem_cons_of_mem _ (List.mem_cons_of_mem _ (List.mem_cons_of_mem _ List.mem_cons_self))))))
       simp only [cellsF, and_true, Nat.zero_add, Nat.reduceAdd] at hN1
       have hN2 := cells_of _ 0 [] rfl (hL0.get _ _ (List.mem_cons_of_mem _ (List.mem_cons_of_mem _ (List.mem_cons_of_mem _ (List.mem_cons_of_mem _ (List.mem_cons_of_mem _ (List.mem_cons_of_mem _ (List.mem_cons_of_mem _ List.mem_cons_self))))))))
       simp only [cellsF, and_true, Nat.zero_add, Nat.reduceAdd] at hN2
       have hN3 := cells_of _ 0 [] rfl (hL0.get _ _ (List.mem_cons_of_mem _ (List.mem_cons_of_mem _ (List.mem_cons_of_mem _ (List.mem_cons_of_mem _ (List.mem_cons_of_mem _ (List.mem_cons_of_mem _ (List.mem_cons_of_mem _ (List.mem_cons_of_mem _ List.mem_cons_self)))))))))
       simp only [cellsF, and_true, Nat.zero_add, Nat.reduceAdd] at hN3
       go_wp2_with fail
       clear hN0 hN1 hN2 hN3
       with_reducible refine Calls.mono (HO2.out (.slice (some ⟨x25.heap.size, 0, none⟩) 2 2) _ (slq_twoR (hL0.get _ _ List.mem_cons_self))) ?_
       rintro e x27 ⟨rfl, hb⟩
       replace hL0 := hL0.call hb
       replace hS := hS.call hb
       clear hb hweq
       clear hZ
       go_upto_region 27 with fail
       refine region_tl 13 [EV (.agg #[.int .u64 ((zl a.num : Nat) : Int), .string (zh a.num), .bool (zs a.num), .int .u64 ((lo (fe a) : Nat) : Int), .string (hs (fe a))]), EV (.agg #[.int .u64 ((zl s1.num : Nat) : Int), .string (zh s1.num), .bool (zs s1.num), .int .u64 ((lo (fe s1) : Nat) : Int), .string (hs (fe s1))]), EV (.agg #[.int .u64 ((zl b.num : Nat) : Int), .string (zh b.num), .bool (zs b.num), .int .u64 ((lo (fe b) : Nat) : Int), .string (hs (fe b))]), EV (.agg #[.int .u64 ((zl s2.num : Nat) : Int), .string (zh s2.num), .bool (zs s2.num), .int .u64 ((lo (fe s2) : Nat) : Int), .string (hs (fe s2))]), EV (.agg #[.int .u64 ((zl sm.num : Nat) : Int), .string (zh sm.num), .bool (zs sm.num), .int .u64 ((lo (fe sm) : Nat) : Int), .string (hs (fe sm))]), EV (.agg #[.int .u64 ((zl s3.num : Nat) : Int), .string (zh s3.num), .bool (zs s3.num), .int .u64 ((lo (fe s3) : Nat) : Int), .string (hs (fe s3))]), PS [s3], EV (.tuple #[.int .i64 gc, .int .i64 0]), EV (.tuple #[.int .i64 gc, .int .i64 0]), EV (.int .i64 gc), EV (.int .i64 0), EV (.int .i64 gc), EV (.int .i64 0)] (by kernel_rfl) (by kernel_rfl) ?_ ?_ ?_
       ·exact stays_cons (stays_eq _) (stays_cons (stays_eq _) (stays_cons (stays_eq _) (stays_cons (stays_eq _) (stays_cons (stays_eq _) (stays_cons (stays_eq _) (stays_cons (stays_slq _) (stays_cons (stays_eq _) (stays_cons (stays_eq _) (stays_cons (stays_eq _) (stays_cons (stays_eq _) (stays_cons (stays_eq _) (stays_cons (stays_eq _) (stays_nil)))))))))))))
       ·simp only [List.take_succ_cons, List.take_zero, hopsR, and_true]
        refine ⟨?_, ?_, ?_, ?_, ?_, ?_, ?_, ?_, ?_, ?_, ?_, ?_, ?_⟩ <;> intro fv w1 hb1 hp
        all_goals (simp only [putsV, Act.put, List.setIfInBounds_toArray, List.set_cons_succ, List.set_cons_zero, Nat.zero_add, Nat.reduceAdd])
        ·refine tyAt_none rfl ?_
         have hc := (hL0.call (below_drew hb1)).fc
         simp only [fcG, cellsF, neK, and_true, ne_eq, Nat.zero_add, Nat.reduceAdd] at hc
         simp [tyUpon, execOp, go_sem, Act.eval, hc, Below.refl]
        ·have h0 : EV _ (fv 0) w1 := hp 0 (LC (by kernel_rfl))
         refine tyAt_none rfl ?_
         refine ty_call (f := 42) (args := #[.agg #[.int .u64 ((zl a.num : Nat) : Int), .string (zh a.num), .bool (zs a.num), .int .u64 ((lo (fe a) : Nat) : Int), .string (hs (fe a))]]) (by simp [execOp, go_sem, Act.eval, h0]) ?_
         exact (HS1.out w1).mono fun e w2 ⟨h1, h2⟩ => ⟨_, h1, rfl, h2⟩
        ·refine tyAt_none rfl ?_
         have hc := (hL0.call (below_drew hb1)).fc
         simp only [fcG, cellsF, neK, and_true, ne_eq, Nat.zero_add, Nat.reduceAdd] at hc
         simp [tyUpon, execOp, go_sem, Act.eval, hc, Below.refl]
        ·have h2 : EV _ (fv 2) w1 := hp 2 (LC (by kernel_rfl))
         refine tyAt_none rfl ?_
         refine ty_call (f := 42) (args := #[.agg #[.int .u64 ((zl b.num : Nat) : Int), .string (zh b.num), .bool (zs b.num), .int .u64 ((lo (fe b) : Nat) : Int), .string (hs (fe b))]]) (by simp [execOp, go_sem, Act.eval, h2]) ?_
         exact (HS2.out w1).mono fun e w2 ⟨h1, h2⟩ => ⟨_, h1, rfl, h2⟩
        ·refine tyAt_none rfl ?_
         have hc := (hL0.call (below_drew hb1)).fc
         simp only [fcG, cellsF, neK, and_true, ne_eq, Nat.zero_add, Nat.reduceAdd] at hc
         simp [tyUpon, execOp, go_sem, Act.eval, hc, Below.refl]
        ·have h4 : EV _ (fv 4) w1 := hp 4 (LC (by kernel_rfl))
         refine tyAt_none rfl ?_
         refine ty_call (f := 42) (args := #[.agg #[.int .u64 ((zl sm.num : Nat) : Int), .string (zh sm.num), .bool (zs sm.num), .int .u64 ((lo (fe sm) : Nat) : Int), .string (hs (fe sm))]]) (by simp [execOp, go_sem, Act.eval, h4]) ?_
         exact (HS3.out w1).mono fun e w2 ⟨h1, h2⟩ => ⟨_, h1, rfl, h2⟩
        ·have h5 : EV _ (fv 5) w1 := hp 5 (LC (by kernel_rfl))
         refine tyAt_none rfl ?_
         refine ty_val (u := .slice (some ⟨w1.heap.size, 0, none⟩) 1 1) (w' := w1.alloc (.cells #[.int .u64 ((zl s3.num : Nat) : Int), .string (zh s3.num), .bool (zs s3.num), .int .u64 ((lo (fe s3) : Nat) : Int), .string (hs (fe s3))] 34)) (by simp [execOp, go_sem, Act.eval, h5]) ((Below.refl _ _).alloc (Nat.le_refl _) _) (slq_new1 _ _)
        ·have h1 : EV _ (fv 1) w1 := hp 1 (LC (by kernel_rfl))
         have h3 : EV _ (fv 3) w1 := hp 3 (LC (by kernel_rfl))
         have h6 : PS _ (fv 6) w1 := hp 6 (LC (by kernel_rfl))
         refine tyAt_none rfl ?_
         refine ty_call (f := 44) (args := #[.agg #[.int .u64 ((zl s1.num : Nat) : Int), .string (zh s1.num), .bool (zs s1.num), .int .u64 ((lo (fe s1) : Nat) : Int), .string (hs (fe s1))], .agg #[.int .u64 ((zl s2.num : Nat) : Int), .string (zh s2.num), .bool (zs s2.num), .int .u64 ((lo (fe s2) : Nat) : Int), .string (hs (fe s2))], fv 6]) (by simp [execOp, go_sem, Act.eval, h1, h3]) ?_
         exact (HO3.out (fv 6) w1 h6).mono fun e w2 ⟨h1, h2⟩ => ⟨_, h1, rfl, h2⟩
        ·have h7 : EV _ (fv 7) w1 := hp 7 (LC (by kernel_rfl))
         refine tyAt_none rfl ?_
         simp [tyUpon, execOp, go_sem, Act.eval, h7, Below.refl]
        ·have h8 : EV _ (fv 8) w1 := hp 8 (LC (by kernel_rfl))
         refine tyAt_none rfl ?_
         simp [tyUpon, execOp, go_sem, Act.eval, h8, Below.refl]
        ·have h8 : EV _ (fv 8) w1 := hp 8 (LC (by kernel_rfl))
         refine tyAt_none rfl ?_
         simp [tyUpon, execOp, go_sem, Act.eval, h8, Below.refl]
        ·have h9 : EV _ (fv 9) w1 := hp 9 (LC (by kernel_rfl))
         refine tyAt_none rfl ?_
         simp [tyUpon, execOp, go_sem, Act.eval, h9, Below.refl]
        ·have h10 : EV _ (fv 10) w1 := hp 10 (LC (by kernel_rfl))
         refine tyAt_none rfl ?_
         simp [tyUpon, execOp, go_sem, Act.eval, h10, Below.refl]
       ·intro fv x28 hb1 hv
        have e0 : fv 0 = _ := hv 0 (by omega)
        have e1 : fv 1 = _ := hv 1 (by omega)
        have e2 : fv 2 = _ := hv 2 (by omega)
        have e3 : fv 3 = _ := hv 3 (by omega)
        have e4 : fv 4 = _ := hv 4 (by omega)
        have e5 : fv 5 = _ := hv 5 (by omega)
        have q6 : SlQ x28 (fv 6) [s3] := hv 6 (by omega)
        obtain ⟨g1, d1, g2, e6⟩ := slq_form q6
        rw [e6] at q6
        have e7 : fv 7 = _ := hv 7 (by omega)
        have e8 : fv 8 = _ := hv 8 (by omega)
        have e9 : fv 9 = _ := hv 9 (by omega)
        have e10 : fv 10 = _ := hv 10 (by omega)
        have e11 : fv 11 = _ := hv 11 (by omega)
        have e12 : fv 12 = _ := hv 12 (by omega)
        simp only [List.take_succ_cons, List.take_zero, putsV, Act.put, List.setIfInBounds_toArray, List.set_cons_succ, List.set_cons_zero, List.drop_succ_cons, List.drop_zero, Nat.zero_add, Nat.reduceAdd, e0, e1, e2, e3, e4, e5, e6, e7, e8, e9, e10, e11, e12]
        replace hL0 := hL0.call (below_drew hb1)
        replace hS := hS.call (below_drew hb1)
        clear e0 e1 e2 e3 e4 e5 e6 e7 e8 e9 e10 e11 e12 hb1 hv q6 fv
        rcases hF3.out with ⟨u1, u2, u3⟩ | ⟨u1, u2, u3, u4⟩
        ·go_upto_region 28 with fail
         have kKT1 := hKT.out.at hL0.bl kKT
         obtain ⟨α, iα, F, hF1, hF2⟩ := cls x28
         have hq0 := cls_box hF1 hL0 _ _ (List.mem_cons_of_mem _ (List.mem_cons_of_mem _ (List.mem_cons_of_mem _ (List.mem_cons_of_mem _ (List.mem_cons_of_mem _ (List.mem_cons_of_mem _ List.mem_cons_self))))))
         simp only [cellsC, and_true, Nat.zero_add, Nat.reduceAdd] at hq0
         have hq1 := cls_box hF1 hL0 _ _ (List.mem_cons_of_mem _ (List.mem_cons_of_mem _ (List.mem_cons_of_mem _ (List.mem_cons_of_mem _ (List.mem_cons_of_mem _ (List.mem_cons_of_mem _ (List.mem_cons_of_mem _ List.mem_cons_self)))))))
         simp only [cellsC, and_true, Nat.zero_add, Nat.reduceAdd] at hq1
         have hq2 := cls_box hF1 hL0 _ _ (List.mem_cons_of_mem _ (List.mem_cons_of_mem _ (List.mem_cons_of_mem _ (List.mem_cons_of_mem _ (List.mem_cons_of_mem _ (List.mem_cons_of_mem _ (List.mem_cons_of_mem _ (List.mem_cons_of_mem _ List.mem_cons_self))))))))
         simp only [cellsC, and_true, Nat.zero_add, Nat.reduceAdd] at hq2
         refine region_qs 36 (C := fun w' => ∃ x, w' = F x) (by kernel_rfl) (by kernel_rfl) (cls_drew hF2) ?_
         simp only [List.take_succ_cons, List.take_zero, List.drop_succ_cons, List.drop_zero, List.take_nil, List.drop_nil]
         repeat (go_big_quiet_step (first | fail | (go_at_call 41; with_reducible exact cls_call hF1 hF2 HSa.out _) | (go_at_call 33; with_reducible exact cls_call hF1 hF2 HAd.out _) | (go_at_call 26; with_reducible exact cls_call hF1 hF2 HCm.out _) | (go_at_call 35; with_reducible exact cls_callK hKT.out hF1 hF2 kKT1 HW.out _)))
         refine wpQuiet_nil ?_
         rintro wq ⟨xq, rfl⟩
         replace hL0 := hL0.call (hF1 xq)
         replace hS := hS.call (hF1 xq)
         clear  hq0 hq1 hq2 hF2
         generalize F xq = x29 at hL0 hS ⊢
         clear hF1 xq iα F α
         clear kKT1
         go_wp2_with fail
         exact bodyPost_ret (v := .bool true) (by simp [results, Tryz.results12, go_sem]) rfl ⟨rfl, hL0.bl⟩
        ·go_upto_region 28 with fail
         have kKT1 := hKT.out.at hL0.bl kKT
         obtain ⟨α, iα, F, hF1, hF2⟩ := cls x28
         have hq0 := cls_box hF1 hL0 _ _ (List.mem_cons_of_mem _ (List.mem_cons_of_mem _ (List.mem_cons_of_mem _ (List.mem_cons_of_mem _ (List.mem_cons_of_mem _ (List.mem_cons_of_mem _ List.mem_cons_self))))))
         simp only [cellsC, and_true, Nat.zero_add, Nat.reduceAdd] at hq0
         have hq1 := cls_box hF1 hL0 _ _ (List.mem_cons_of_mem _ (List.mem_cons_of_mem _ (List.mem_cons_of_mem _ (List.mem_cons_of_mem _ (List.mem_cons_of_mem _ (List.mem_cons_of_mem _ (List.mem_cons_of_mem _ List.mem_cons_self)))))))
         simp only [cellsC, and_true, Nat.zero_add, Nat.reduceAdd] at hq1
         have hq2 := cls_box hF1 hL0 _ _ (List.mem_cons_of_mem _ (List.mem_cons_of_mem _ (List.mem_cons_of_mem _ (List.mem_cons_of_mem _ (List.mem_cons_of_mem _ (List.mem_cons_of_mem _ (List.mem_cons_of_mem _ (List.mem_cons_of_mem _ List.mem_cons_self))))))))
         simp only [cellsC, and_true, Nat.zero_add, Nat.reduceAdd] at hq2
         refine region_qs 36 (C := fun w' => ∃ x, w' = F x) (by kernel_rfl) (by kernel_rfl) (cls_drew hF2) ?_
         simp only [List.take_succ_cons, List.take_zero, List.drop_succ_cons, List.drop_zero, List.take_nil, List.drop_nil]
         repeat (go_big_quiet_step (first | fail | (go_at_call 41; with_reducible exact cls_call hF1 hF2 HSa.out _) | (go_at_call 41; with_reducible exact cls_call hF1 hF2 HSb.out _) | (go_at_call 33; with_reducible exact cls_call hF1 hF2 HAd.out _) | (go_at_call 26; with_reducible exact cls_call hF1 hF2 HCm.out _) | (go_at_call 35; with_reducible exact cls_callK hKT.out hF1 hF2 kKT1 HW.out _)))
         refine wpQuiet_nil ?_
         rintro wq ⟨xq, rfl⟩
         replace hL0 := hL0.call (hF1 xq)
         replace hS := hS.call (hF1 xq)
         clear  hq0 hq1 hq2 hF2
         generalize F xq = x29 at hL0 hS ⊢
         clear hF1 xq iα F α
         clear kKT1
         go_wp2_with fail
         exact bodyPost_ret (v := .bool true) (by simp [results, Tryz.results12, go_sem]) rfl ⟨rfl, hL0.bl⟩
      ·have hN0 := cells_of _ 0 [] rfl (hL0.get _ _ (List.mem_cons_of_mem _ List.mem_cons_self))
       simp only [cellsF, and_true, Nat.zero_add, Nat.reduceAdd] at hN0
       have hN1 := cells_of _ 0 [] rfl (hL0.get _ _ (List.mem_cons_of_mem _ (List.mem_cons_of_mem _ (List.mem_cons_of_mem _ List.mem_cons_self))))
       simp only [cellsF, and_true, Nat.zero_add, Nat.reduceAdd] at hN1
       go_wp2_with fail
       clear hN0 hN1
       with_reducible refine Calls.mono (HC2.out _) ?_
       rintro e x25 ⟨rfl, hb⟩
       replace hL0 := hL0.call hb
       replace hS := hS.call hb
       clear hb hweq
       have hZ := hL0.fc
       simp only [fcG, cellsF, neK, and_true, ne_eq, Nat.zero_add, Nat.reduceAdd] at hZ
       replace hS := (hS.new (.cells #[.int .u64 ((zl a.num : Nat) : Int), .string (zh a.num), .bool (zs a.num), .int .u64 ((lo (fe a) : Nat) : Int), .string (hs (fe a)), .int .u64 ((zl b.num : Nat) : Int), .string (zh b.num), .bool (zs b.num), .int .u64 ((lo (fe b) : Nat) : Int), .string (hs (fe b))] 34))
       replace hL0 := (hL0.new rfl [.int .u64 ((zl a.num : Nat) : Int), .string (zh a.num), .bool (zs a.num), .int .u64 ((lo (fe a) : Nat) : Int), .string (hs (fe a)), .int .u64 ((zl b.num : Nat) : Int), .string (zh b.num), .bool (zs b.num), .int .u64 ((lo (fe b) : Nat) : Int), .string (hs (fe b))] 34)
       generalize hweq : (x25.alloc (.cells #[.int .u64 ((zl a.num : Nat) : Int), .string (zh a.num), .bool (zs a.num), .int .u64 ((lo (fe a) : Nat) : Int), .string (hs (fe a)), .int .u64 ((zl b.num : Nat) : Int), .string (zh b.num), .bool (zs b.num), .int .u64 ((lo (fe b) : Nat) : Int), .string (hs (fe b))] 34)) = x26 at hL0 hS
       have hN0 := cells_of _ 0 [] rfl (hL0.get _ _ (List.mem_cons_of_mem _ (List.mem_cons_of_mem _ (List.mem_cons_of_mem _ (List.mem_cons_of_mem _ (List.mem_cons_of_mem _ (List.mem_cons_of_mem _ (List.mem_cons_of_mem _ List.mem_cons_self))))))))
       simp only [cellsF, and_true, Nat.zero_add, Nat.reduceAdd] at hN0
       have hN1 := cells_of _ 0 [] rfl (hL0.get _ _ (List.mem_cons_of_mem _ (List.mem_cons_of_mem _ (List.mem_cons_of_mem _ (List.mem_cons_of_mem _ (List.mem_cons_of_mem _ (List.mem_cons_of_mem _ (List.mem_cons_of_mem _ (List.mem_cons_of_mem _ List.mem_cons_self)))))))))
       simp only [cellsF, and_true, Nat.zero_add, Nat.reduceAdd] at hN1
       go_wp2_with fail
       clear hN0 hN1
       with_reducible refine Calls.mono (HO2.out (.slice (some ⟨x25.heap.size, 0, none⟩) 2 2) _ (slq_twoR (hL0.get _ _ List.mem_cons_self))) ?_
       rintro e x27 ⟨rfl, hb⟩
       replace hL0 := hL0.call hb
       replace hS := hS.call hb
       clear hb hweq
       clear hZ
       go_upto_region 27 with fail
       refine region_tl 13 [EV (.agg #[.int .u64 ((zl a.num : Nat) : Int), .string (zh a.num), .bool (zs a.num), .int .u64 ((lo (fe a) : Nat) : Int), .string (hs (fe a))]), EV (.agg #[.int .u64 ((zl s1.num : Nat) : Int), .string (zh s1.num), .bool (zs s1.num), .int .u64 ((lo (fe s1) : Nat) : Int), .string (hs (fe s1))]), EV (.agg #[.int .u64 ((zl b.num : Nat) : Int), .string (zh b.num), .bool (zs b.num), .int .u64 ((lo (fe b) : Nat) : Int), .string (hs (fe b))]), EV (.agg #[.int .u64 ((zl s2.num : Nat) : Int), .string (zh s2.num), .bool (zs s2.num), .int .u64 ((lo (fe s2) : Nat) : Int), .string (hs (fe s2))]), EV (.agg #[.int .u64 ((zl sm.num : Nat) : Int), .string (zh sm.num), .bool (zs sm.num), .int .u64 ((lo (fe sm) : Nat) : Int), .string (hs (fe sm))]), EV (.agg #[.int .u64 ((zl s3.num : Nat) : Int), .string (zh s3.num), .bool (zs s3.num), .int .u64 ((lo (fe s3) : Nat) : Int), .string (hs (fe s3))]), PS [s3], EV (.tuple #[.int .i64 gc, .int .i64 0]), EV (.tuple #[.int .i64 gc, .int .i64 0]), EV (.int .i64 gc), EV (.int .i64 0), EV (.int .i64 gc), EV (.int .i64 0)] (by kernel_rfl) (by kernel_rfl) ?_ ?_ ?_
       ·exact stays_cons (stays_eq _) (stays_cons (stays_eq _) (stays_cons (stays_eq _) (stays_cons (stays_eq _) (stays_cons (stays_eq _) (stays_cons (stays_eq _) (stays_cons (stays_slq _) (stays_cons (stays_eq _) (stays_cons (stays_eq _) (stays_cons (stays_eq _) (stays_cons (stays_eq _) (stays_cons (stays_eq _) (stays_cons (stays_eq _) (stays_nil)))))))))))))
       ·simp only [List.take_succ_cons, List.take_zero, hopsR, and_true]
        refine ⟨?_, ?_, ?_, ?_, ?_, ?_, ?_, ?_, ?_, ?_, ?_, ?_, ?_⟩ <;> intro fv w1 hb1 hp
        all_goals (simp only [putsV, Act.put, List.setIfInBounds_toArray, List.set_cons_succ, List.set_cons_zero, Nat.zero_add, Nat.reduceAdd])
        ·refine tyAt_none rfl ?_
         have hc := (hL0.call (below_drew hb1)).fc
         simp only [fcG, cellsF, neK, and_true, ne_eq, Nat.zero_add, Nat.reduceAdd] at hc
         simp [tyUpon, execOp, go_sem, Act.eval, hc, Below.refl]
        ·have h0 : EV _ (fv 0) w1 := hp 0 (LC (by kernel_rfl))
         refine tyAt_none rfl ?_
         refine ty_call (f := 42) (args := #[.agg #[.int .u64 ((zl a.num : Nat) : Int), .string (zh a.num), .bool (zs a.num), .int .u64 ((lo (fe a) : Nat) : Int), .string (hs (fe a))]]) (by simp [execOp, go_sem, Act.eval, h0]) ?_
         exact (HS1.out w1).mono fun e w2 ⟨h1, h2⟩ => ⟨_, h1, rfl, h2⟩
        ·refine tyAt_none rfl ?_
         have hc := (hL0.call (below_drew hb1)).fc
         simp only [fcG, cellsF, neK, and_true, ne_eq, Nat.zero_add, Nat.reduceAdd] at hc
         simp [tyUpon, execOp, go_sem, Act.eval, hc, Below.refl]
        ·have h2 : EV _ (fv 2) w1 := hp 2 (LC (by kernel_rfl))
         refine tyAt_none rfl ?_
         refine ty_call (f := 42) (args := #[.agg #[.int .u64 ((zl b.num : Nat) : Int), .string (zh b.num), .bool (zs b.num), .int .u64 ((lo (fe b) : Nat) : Int), .string (hs (fe b))]]) (by simp [execOp, go_sem, Act.eval, h2]) ?_
         exact (HS2.out w1).mono fun e w2 ⟨h1, h2⟩ => ⟨_, h1, rfl, h2⟩
        ·refine tyAt_none rfl ?_
         have hc := (hL0.call (below_drew hb1)).fc
         simp only [fcG, cellsF, neK, and_true, ne_eq, Nat.zero_add, Nat.reduceAdd] at hc
         simp [tyUpon, execOp, go_sem, Act.eval, hc, Below.refl]
        ·have h4 : EV _ (fv 4) w1 := hp 4 (LC (by kernel_rfl))
         refine tyAt_none rfl ?_
         refine ty_call (f := 42) (args := #[.agg #[.int .u64 ((zl sm.num : Nat) : Int), .string (zh sm.num), .bool (zs sm.num), .int .u64 ((lo (fe sm) : Nat) : Int), .string (hs (fe sm))]]) (by simp [execOp, go_sem, Act.eval, h4]) ?_
         exact (HS3.out w1).mono fun e w2 ⟨h1, h2⟩ => ⟨_, h1, rfl, h2⟩
        ·have h5 : EV _ (fv 5) w1 := hp 5 (LC (by kernel_rfl))
         refine tyAt_none rfl ?_
         refine ty_val (u := .slice (some ⟨w1.heap.size, 0, none⟩) 1 1) (w' := w1.alloc (.cells #[.int .u64 ((zl s3.num : Nat) : Int), .string (zh s3.num), .bool (zs s3.num), .int .u64 ((lo (fe s3) : Nat) : Int), .string (hs (fe s3))] 34)) (by simp [execOp, go_sem, Act.eval, h5]) ((Below.refl _ _).alloc (Nat.le_refl _) _) (slq_new1 _ _)
        ·have h1 : EV _ (fv 1) w1 := hp 1 (LC (by kernel_rfl))
         have h3 : EV _ (fv 3) w1 := hp 3 (LC (by kernel_rfl))
         have h6 : PS _ (fv 6) w1 := hp 6 (LC (by kernel_rfl))
         refine tyAt_none rfl ?_
         refine ty_call (f := 44) (args := #[.agg #[.int .u64 ((zl s1.num : Nat) : Int), .string (zh s1.num), .bool (zs s1.num), .int .u64 ((lo (fe s1) : Nat) : Int), .string (hs (fe s1))], .agg #[.int .u64 ((zl s2.num : Nat) : Int), .string (zh s2.num), .bool (zs s2.num), .int .u64 ((lo (fe s2) : Nat) : Int), .string (hs (fe s2))], fv 6]) (by simp [execOp, go_sem, Act.eval, h1, h3]) ?_
         exact (HO3.out (fv 6) w1 h6).mono fun e w2 ⟨h1, h2⟩ => ⟨_, h1, rfl, h2⟩
        ·have h7 : EV _ (fv 7) w1 := hp 7 (LC (by kernel_rfl))
         refine tyAt_none rfl ?_
         simp [tyUpon, execOp, go_sem, Act.eval, h7, Below.refl]
        ·have h8 : EV _ (fv 8) w1 := hp 8 (LC (by kernel_rfl))
         refine tyAt_none rfl ?_
         simp [tyUpon, execOp, go_sem, Act.eval, h8, Below.refl]
        ·have h8 : EV _ (fv 8) w1 := hp 8 (LC (by kernel_rfl))
         refine tyAt_none rfl ?_
         simp [tyUpon, execOp, go_sem, Act.eval, h8, Below.refl]
        ·have h9 : EV _ (fv 9) w1 := hp 9 (LC (by kernel_rfl))
         refine tyAt_none rfl ?_
         simp [tyUpon, execOp, go_sem, Act.eval, h9, Below.refl]
        ·have h10 : EV _ (fv 10) w1 := hp 10 (LC (by kernel_rfl))
         refine tyAt_none rfl ?_
         simp [tyUpon, execOp, go_sem, Act.eval, h10, Below.refl]
       ·intro fv x28 hb1 hv
        have e0 : fv 0 = _ := hv 0 (by omega)
        have e1 : fv 1 = _ := hv 1 (by omega)
        have e2 : fv 2 = _ := hv 2 (by omega)
        have e3 : fv 3 = _ := hv 3 (by omega)
        have e4 : fv 4 = _ := hv 4 (by omega)
        have e5 : fv 5 = _ := hv 5 (by omega)
        have q6 : SlQ x28 (fv 6) [s3] := hv 6 (by omega)
        obtain ⟨g1, d1, g2, e6⟩ := slq_form q6
        rw [e6] at q6
        have e7 : fv 7 = _ := hv 7 (by omega)
        have e8 : fv 8 = _ := hv 8 (by omega)
        have e9 : fv 9 = _ := hv 9 (by omega)
        have e10 : fv 10 = _ := hv 10 (by omega)
        have e11 : fv 11 = _ := hv 11 (by omega)
        have e12 : fv 12 = _ := hv 12 (by omega)
        simp only [List.take_succ_cons, List.take_zero, putsV, Act.put, List.setIfInBounds_toArray, List.set_cons_succ, List.set_cons_zero, List.drop_succ_cons, List.drop_zero, Nat.zero_add, Nat.reduceAdd, e0, e1, e2, e3, e4, e5, e6, e7, e8, e9, e10, e11, e12]
        replace hL0 := hL0.call (below_drew hb1)
        replace hS := hS.call (below_drew hb1)
        clear e0 e1 e2 e3 e4 e5 e6 e7 e8 e9 e10 e11 e12 hb1 hv q6 fv
        rcases hF3.out with ⟨u1, u2, u3⟩ | ⟨u1, u2, u3, u4⟩
        ·go_upto_region 28 with fail
         have kKT1 := hKT.out.at hL0.bl kKT
         obtain ⟨α, iα, F, hF1, hF2⟩ := cls x28
         have hq0 := cls_box hF1 hL0 _ _ (List.mem_cons_of_mem _ (List.mem_cons_of_mem _ (List.mem_cons_of_mem _ (List.mem_cons_of_mem _ (List.mem_cons_of_mem _ (List.mem_cons_of_mem _ List.mem_cons_self))))))
         simp only [cellsC, and_true, Nat.zero_add, Nat.reduceAdd] at hq0
         have hq1 := cls_box hF1 hL0 _ _ (List.mem_cons_of_mem _ (List.mem_cons_of_mem _ (List.mem_cons_of_mem _ (List.mem_cons_of_mem _ (List.mem_cons_of_mem _ (List.mem_cons_of_mem _ (List.mem_cons_of_mem _ List.mem_cons_self)))))))
         simp only [cellsC, and_true, Nat.zero_add, Nat.reduceAdd] at hq1
         have hq2 := cls_box hF1 hL0 _ _ (List.mem_cons_of_mem _ (List.mem_cons_of_mem _ (List.mem_cons_of_mem _ (List.mem_cons_of_mem _ (List.mem_cons_of_mem _ (List.mem_cons_of_mem _ (List.mem_cons_of_mem _ (List.mem_cons_of_mem _ List.mem_cons_self))))))))
         simp only [cellsC, and_true, Nat.zero_add, Nat.reduceAdd] at hq2
         refine region_qs 36 (C := fun w' => ∃ x, w' = F x) (by kernel_rfl) (by kernel_rfl) (cls_drew hF2) ?_
         simp only [List.take_succ_cons, List.take_zero, List.drop_succ_cons, List.drop_zero, List.take_nil, List.drop_nil]
         repeat (go_big_quiet_step (first | fail | (go_at_call 41; with_reducible exact cls_call hF1 hF2 HSa.out _) | (go_at_call 33; with_reducible exact cls_call hF1 hF2 HAd.out _) | (go_at_call 26; with_reducible exact cls_call hF1 hF2 HCm.out _) | (go_at_call 35; with_reducible exact cls_callK hKT.out hF1 hF2 kKT1 HW.out _)))
         refine wpQuiet_nil ?_
         rintro wq ⟨xq, rfl⟩
         replace hL0 := hL0.call (hF1 xq)
         replace hS := hS.call (hF1 xq)
         clear  hq0 hq1 hq2 hF2
         generalize F xq = x29 at hL0 hS ⊢
         clear hF1 xq iα F α
         clear kKT1
         go_wp2_with fail
         exact bodyPost_ret (v := .bool true) (by simp [results, Tryz.results12, go_sem]) rfl ⟨rfl, hL0.bl⟩
        ·go_upto_region 28 with fail
         have kKT1 := hKT.out.at hL0.bl kKT
         obtain ⟨α, iα, F, hF1, hF2⟩ := cls x28
         have hq0 := cls_box hF1 hL0 _ _ (List.mem_cons_of_mem _ (List.mem_cons_of_mem _ (List.mem_cons_of_mem _ (List.mem_cons_of_mem _ (List.mem_cons_of_mem _ (List.mem_cons_of_mem _ List.mem_cons_self))))))
         simp only [cellsC, and_true, Nat.zero_add, Nat.reduceAdd] at hq0
         have hq1 := cls_box hF1 hL0 _ _ (List.mem_cons_of_mem _ (List.mem_cons_of_mem _ (List.mem_cons_of_mem _ (List.mem_cons_of_mem _ (List.mem_cons_of_mem _ (List.mem_cons_of_mem _ (List.mem_cons_of_mem _ List.mem_cons_self)))))))
         simp only [cellsC, and_true, Nat.zero_add, Nat.reduceAdd] at hq1
         have hq2 := cls_box hF1 hL0 _ _ (List.mem_cons_of_mem _ (List.mem_cons_of_mem _ (List.mem_cons_of_mem _ (List.mem_cons_of_mem _ (List.mem_cons_of_mem _ (List.mem_cons_of_mem _ (List.mem_cons_of_mem _ (List.mem_cons_of_mem _ List.mem_cons_self))))))))
         simp only [cellsC, and_true, Nat.zero_add, Nat.reduceAdd] at hq2
         refine region_qs 36 (C := fun w' => ∃ x, w' = F x) (by kernel_rfl) (by kernel_rfl) (cls_drew hF2) ?_
         simp only [List.take_succ_cons, List.take_zero, List.drop_succ_cons, List.drop_zero, List.take_nil, List.drop_nil]
         repeat (go_big_quiet_step (first | fail | (go_at_call 41; with_reducible exact cls_call hF1 hF2 HSa.out _) | (go_at_call 41; with_reducible exact cls_call hF1 hF2 HSb.out _) | (go_at_call 33; with_reducible exact cls_call hF1 hF2 HAd.out _) | (go_at_call 26; with_reducible exact cls_call hF1 hF2 HCm.out _) | (go_at_call 35; with_reducible exact cls_callK hKT.out hF1 hF2 kKT1 HW.out _)))
         refine wpQuiet_nil ?_
         rintro wq ⟨xq, rfl⟩
         replace hL0 := hL0.call (hF1 xq)
         replace hS := hS.call (hF1 xq)
         clear  hq0 hq1 hq2 hF2
         generalize F xq = x29 at hL0 hS ⊢
         clear hF1 xq iα F α
         clear kKT1
         go_wp2_with fail
         exact bodyPost_ret (v := .bool true) (by simp [results, Tryz.results12, go_sem]) rfl ⟨rfl, hL0.bl⟩
      ·have hN0 := cells_of _ 0 [] rfl (hL0.get _ _ List.mem_cons_self)
       simp only [cellsF, and_true, Nat.zero_add, Nat.reduceAdd] at hN0
       have hN1 := cells_of _ 0 [] rfl (hL0.get _ _ (List.mem_cons_of_mem _ (List.mem_cons_of_mem _ (List.mem_cons_of_mem _ (List.mem_cons_of_mem _ List.mem_cons_self)))))
       simp only [cellsF, and_true, Nat.zero_add, Nat.reduceAdd] at hN1
       go_wp2_with fail
       clear hN0 hN1
       with_reducible refine Calls.mono (HC1.out _) ?_
       rintro e x25 ⟨rfl, hb⟩
       replace hL0 := hL0.call hb
       replace hS := hS.call hb
       clear hb hweq
       have hN0 := cells_of _ 0 [] rfl (hL0.get _ _ (List.mem_cons_of_mem _ List.mem_cons_self))
       simp only [cellsF, and_true, Nat.zero_add, Nat.reduceAdd] at hN0
       have hN1 := cells_of _ 0 [] rfl (hL0.get _ _ (List.mem_cons_of_mem _ (List.mem_cons_of_mem _ (List.mem_cons_of_mem _ List.mem_cons_self))))
       simp only [cellsF, and_true, Nat.zero_add, Nat.reduceAdd] at hN1
       go_wp2_with fail
       clear hN0 hN1
       with_reducible refine Calls.mono (HC3.out _) ?_
       rintro e x26 ⟨rfl, hb⟩
       replace hL0 := hL0.call hb
       replace hS := hS.call hb
       clear hb
       have hZ := hL0.fc
       simp only [fcG, cellsF, neK, and_true, ne_eq, Nat.zero_add, Nat.reduceAdd] at hZ
       replace hS := (hS.new (.cells #[.int .u64 ((zl a.num : Nat) : Int), .string (zh a.num), .bool (zs a.num), .int .u64 ((lo (fe a) : Nat) : Int), .string (hs (fe a)), .int .u64 ((zl b.num : Nat) : Int), .string (zh b.num), .bool (zs b.num), .int .u64 ((lo (fe b) : Nat) : Int), .string (hs (fe b))] 34))
       replace hL0 := (hL0.new rfl [.int .u64 ((zl a.num : Nat) : Int), .string (zh a.num), .bool (zs a.num), .int .u64 ((lo (fe a) : Nat) : Int), .string (hs (fe a)), .int .u64 ((zl b.num : Nat) : Int), .string (zh b.num), .bool (zs b.num), .int .u64 ((lo (fe b) : Nat) : Int), .string (hs (fe b))] 34)
       generalize hweq : (x26.alloc (.cells #[.int .u64 ((zl a.num : Nat) : Int), .string (zh a.num), .bool (zs a.num), .int .u64 ((lo (fe a) : Nat) : Int), .string (hs (fe a)), .int .u64 ((zl b.num : Nat) : Int), .string (zh b.num), .bool (zs b.num), .int .u64 ((lo (fe b) : Nat) : Int), .string (hs (fe b))] 34)) = x27 at hL0 hS
       have hN0 := cells_of _ 0 [] rfl (hL0.get _ _ (List.mem_cons_of_mem _ (List.mem_cons_of_mem _ (List.mem_cons_of_mem _ (List.mem_cons_of_mem _ (List.mem_cons_of_mem _ (List.mem_cons_of_mem _ (List.mem_cons_of_mem _ List.mem_cons_self))))))))
       simp only [cellsF, and_true, Nat.zero_add, Nat.reduceAdd] at hN0
       have hN1 := cells_of _ 0 [] rfl (hL0.get _ _ (List.mem_cons_of_mem _ (List.mem_cons_of_mem _ (List.mem_cons_of_mem _ (List.mem_cons_of_mem _ (List.mem_cons_of_mem _ (List.mem_cons_of_mem _ (List.mem_cons_of_mem _ (List.mem_cons_of_mem _ List.mem_cons_self)))))))))
       simp only [cellsF, and_true, Nat.zero_add, Nat.reduceAdd] at hN1
       go_wp2_with fail
       clear hN0 hN1
       with_reducible refine Calls.mono (HO2.out (.slice (some ⟨x26.heap.size, 0, none⟩) 2 2) _ (slq_twoR (hL0.get _ _ List.mem_cons_self))) ?_
       rintro e x28 ⟨rfl, hb⟩
       replace hL0 := hL0.call hb
       replace hS := hS.call hb
       clear hb hweq
       clear hZ
       go_upto_region 27 with fail
       refine region_tl 13 [EV (.agg #[.int .u64 ((zl a.num : Nat) : Int), .string (zh a.num), .bool (zs a.num), .int .u64 ((lo (fe a) : Nat) : Int), .string (hs (fe a))]), EV (.agg #[.int .u64 ((zl s1.num : Nat) : Int), .string (zh s1.num), .bool (zs s1.num), .int .u64 ((lo (fe s1) : Nat) : Int), .string (hs (fe s1))]), EV (.agg #[.int .u64 ((zl b.num : Nat) : Int), .string (zh b.num), .bool (zs b.num), .int .u64 ((lo (fe b) : Nat) : Int), .string (hs (fe b))]), EV (.agg #[.int .u64 ((zl s2.num : Nat) : Int), .string (zh s2.num), .bool (zs s2.num), .int .u64 ((lo (fe s2) : Nat) : Int), .string (hs (fe s2))]), EV (.agg #[.int .u64 ((zl sm.num : Nat) : Int), .string (zh sm.num), .bool (zs sm.num), .int .u64 ((lo (fe sm) : Nat) : Int), .string (hs (fe sm))]), EV (.agg #[.int .u64 ((zl s3.num : Nat) : Int), .string (zh s3.num), .bool (zs s3.num), .int .u64 ((lo (fe s3) : Nat) : Int), .string (hs (fe s3))]), PS [s3], EV (.tuple #[.int .i64 gc, .int .i64 0]), EV (.tuple #[.int .i64 gc, .int .i64 0]), EV (.int .i64 gc), EV (.int .i64 0), EV (.int .i64 gc), EV (.int .i64 0)] (by kernel_rfl) (by kernel_rfl) ?_ ?_ ?_
       ·exact stays_cons (stays_eq _) (stays_cons (stays_eq _) (stays_cons (stays_eq _) (stays_cons (stays_eq _) (stays_cons (stays_eq _) (stays_cons (stays_eq _) (stays_cons (stays_slq _) (stays_cons (stays_eq _) (stays_cons (stays_eq _) (stays_cons (stays_eq _) (stays_cons (stays_eq _) (stays_cons (stays_eq _) (stays_cons (stays_eq _) (stays_nil)))))))))))))
       ·simp only [List.take_succ_cons, List.take_zero, hopsR, and_true]
        refine ⟨?_, ?_, ?_, ?_, ?_, ?_, ?_, ?_, ?_, ?_, ?_, ?_, ?_⟩ <;> intro fv w1 hb1 hp
        all_goals (simp only [putsV, Act.put, List.setIfInBounds_toArray, List.set_cons_succ, List.set_cons_zero, Nat.zero_add, Nat.reduceAdd])
        ·refine tyAt_none rfl ?_
         have hc := (hL0.call (below_drew hb1)).fc
         simp only [fcG, cellsF, neK, and_true, ne_eq, Nat.zero_add, Nat.reduceAdd] at hc
         simp [tyUpon, execOp, go_sem, Act.eval, hc, Below.refl]
        ·have h0 : EV _ (fv 0) w1 := hp 0 (LC (by kernel_rfl))
         refine tyAt_none rfl ?_
         refine ty_call (f := 42) (args := #[.agg #[.int .u64 ((zl a.num : Nat) : Int), .string (zh a.num), .bool (zs a.num), .int .u64 ((lo (fe a) : Nat) : Int), .string (hs (fe a))]]) (by simp [execOp, go_sem, Act.eval, h0]) ?_
         exact (HS1.out w1).mono fun e w2 ⟨h1, h2⟩ => ⟨_, h1, rfl, h2⟩
        ·refine tyAt_none rfl ?_
         have hc := (hL0.call (below_drew hb1)).fc
         simp only [fcG, cellsF, neK, and_true, ne_eq, Nat.zero_add, Nat.reduceAdd] at hc
         simp [tyUpon, execOp, go_sem, Act.eval, hc, Below.refl]
        ·have h2 : EV _ (fv 2) w1 := hp 2 (LC (by kernel_rfl))
         refine tyAt_none rfl ?_
         refine ty_call (f := 42) (args := #[.agg #[.int .u64 ((zl b.num : Nat) : Int), .string (zh b.num), .bool (zs b.num), .int .u64 ((lo (fe b) : Nat) : Int), .string (hs (fe b))]]) (by simp [execOp, go_sem, Act.eval, h2]) ?_
         exact (HS2.out w1).mono fun e w2 ⟨h1, h2⟩ => ⟨_, h1, rfl, h2⟩
        ·refine tyAt_none rfl ?_
         have hc := (hL0.call (below_drew hb1)).fc
         simp only [fcG, cellsF, neK, and_true, ne_eq, Nat.zero_add, Nat.reduceAdd] at hc
         simp [tyUpon, execOp, go_sem, Act.eval, hc, Below.refl]
        ·have h4 : EV _ (fv 4) w1 := hp 4 (LC (by kernel_rfl))
         refine tyAt_none rfl ?_
         refine ty_call (f := 42) (args := #[.agg #[.int .u64 ((zl sm.num : Nat) : Int), .string (zh sm.num), .bool (zs sm.num), .int .u64 ((lo (fe sm) : Nat) : Int), .string (hs (fe sm))]]) (by simp [execOp, go_sem, Act.eval, h4]) ?_
         exact (HS3.out w1).mono fun e w2 ⟨h1, h2⟩ => ⟨_, h1, rfl, h2⟩
        ·have h5 : EV _ (fv 5) w1 := hp 5 (LC (by kernel_rfl))
         refine tyAt_none rfl ?_
         refine ty_val (u := .slice (some ⟨w1.heap.size, 0, none⟩) 1 1) (w' := w1.alloc (.cells #[.int .u64 ((zl s3.num : Nat) : Int), .string (zh s3.num), .bool (zs s3.num), .int .u64 ((lo (fe s3) : Nat) : Int), .string (hs (fe s3))] 34)) (by simp [execOp, go_sem, Act.eval, h5]) ((Below.refl _ _).alloc (Nat.le_refl _) _) (slq_new1 _ _)
        ·have h1 : EV _ (fv 1) w1 := hp 1 (LC (by kernel_rfl))
         have h3 : EV _ (fv 3) w1 := hp 3 (LC (by kernel_rfl))
         have h6 : PS _ (fv 6) w1 := hp 6 (LC (by kernel_rfl))
         refine tyAt_none rfl ?_
         refine ty_call (f := 44) (args := #[.agg #[.int .u64 ((zl s1.num : Nat) : Int), .string (zh s1.num), .bool (zs s1.num), .int .u64 ((lo (fe s1) : Nat) : Int), .string (hs (fe s1))], .agg #[.int .u64 ((zl s2.num : Nat) : Int), .string (zh s2.num), .bool (zs s2.num), .int .u64 ((lo (fe s2) : Nat) : Int), .string (hs (fe s2))], fv 6]) (by simp [execOp, go_sem, Act.eval, h1, h3]) ?_
         exact (HO3.out (fv 6) w1 h6).mono fun e w2 ⟨h1, h2⟩ => ⟨_, h1, rfl, h2⟩
        ·have h7 : EV _ (fv 7) w1 := hp 7 (LC (by kernel_rfl))
         refine tyAt_none rfl ?_
         simp [tyUpon, execOp, go_sem, Act.eval, h7, Below.refl]
        ·have h8 : EV _ (fv 8) w1 := hp 8 (LC (by kernel_rfl))
         refine tyAt_none rfl ?_
         simp [tyUpon, execOp, go_sem, Act.eval, h8, Below.refl]
        ·have h8 : EV _ (fv 8) w1 := hp 8 (LC (by kernel_rfl))
         refine tyAt_none rfl ?_
         simp [tyUpon, execOp, go_sem, Act.eval, h8, Below.refl]
        ·have h9 : EV _ (fv 9) w1 := hp 9 (LC (by kernel_rfl))
         refine tyAt_none rfl ?_
         simp [tyUpon, execOp, go_sem, Act.eval, h9, Below.refl]
        ·have h10 : EV _ (fv 10) w1 := hp 10 (LC (by kernel_rfl))
         refine tyAt_none rfl ?_
         simp [tyUpon, execOp, go_sem, Act.eval, h10, Below.refl]
       ·intro fv x29 hb1 hv
        have e0 : fv 0 = _ := hv 0 (by omega)
        have e1 : fv 1 = _ := hv 1 (by omega)
        have e2 : fv 2 = _ := hv 2 (by omega)
        have e3 : fv 3 = _ := hv 3 (by omega)
        have e4 : fv 4 = _ := hv 4 (by omega)
        have e5 : fv 5 = _ := hv 5 (by omega)
        have q6 : SlQ x29 (fv 6) [s3] := hv 6 (by omega)
        obtain ⟨g1, d1, g2, e6⟩ := slq_form q6
        rw [e6] at q6
        have e7 : fv 7 = _ := hv 7 (by omega)
        have e8 : fv 8 = _ := hv 8 (by omega)
        have e9 : fv 9 = _ := hv 9 (by omega)
        have e10 : fv 10 = _ := hv 10 (by omega)
        have e11 : fv 11 = _ := hv 11 (by omega)
        have e12 : fv 12 = _ := hv 12 (by omega)
        simp only [List.take_succ_cons, List.take_zero, putsV, Act.put, List.setIfInBounds_toArray, List.set_cons_succ, List.set_cons_zero, List.drop_succ_cons, List.drop_zero, Nat.zero_add, Nat.reduceAdd, e0, e1, e2, e3, e4, e5, e6, e7, e8, e9, e10, e11, e12]
        replace hL0 := hL0.call (below_drew hb1)
        replace hS := hS.call (below_drew hb1)
        clear e0 e1 e2 e3 e4 e5 e6 e7 e8 e9 e10 e11 e12 hb1 hv q6 fv
        rcases hF3.out with ⟨u1, u2, u3⟩ | ⟨u1, u2, u3, u4⟩
        ·go_upto_region 28 with fail
         have kKT1 := hKT.out.at hL0.bl kKT
         obtain ⟨α, iα, F, hF1, hF2⟩ := cls x29
         have hq0 := cls_box hF1 hL0 _ _ (List.mem_cons_of_mem _ (List.mem_cons_of_mem _ (List.mem_cons_of_mem _ (List.mem_cons_of_mem _ (List.mem_cons_of_mem _ (List.mem_cons_of_mem _ List.mem_cons_self))))))
         simp only [cellsC, and_true, Nat.zero_add, Nat.reduceAdd] at hq0
         have hq1 := cls_box hF1 hL0 _ _ (List.mem_cons_of_mem _ (List.mem_cons_of_mem _ (List.mem_cons_of_mem _ (List.mem_cons_of_mem _ (List.mem_cons_of_mem _ (List.mem_cons_of_mem _ (List.mem_cons_of_mem _ List.mem_cons_self)))))))
         simp only [cellsC, and_true, Nat.zero_add, Nat.reduceAdd] at hq1
         have hq2 := cls_box hF1 hL0 _ _ (List.mem_cons_of_mem _ (List.mem_cons_of_mem _ (List.mem_cons_of_mem _ (List.mem_cons_of_mem _ (List.mem_cons_of_mem _ (List.mem_cons_of_mem _ (List.mem_cons_of_mem _ (List.mem_cons_of_mem _ List.mem_cons_self))))))))
         simp only [cellsC, and_true, Nat.zero_add, Nat.reduceAdd] at hq2
         refine region_qs 36 (C := fun w' => ∃ x, w' = F x) (by kernel_rfl) (by kernel_rfl) (cls_drew hF2) ?_
         simp only [List.take_succ_cons, List.take_zero, List.drop_succ_cons, List.drop_zero, List.take_nil, List.drop_nil]
         repeat (go_big_quiet_step (first | fail | (go_at_call 41; with_reducible exact cls_call hF1 hF2 HSa.out _) | (go_at_call 33; with_reducible exact cls_call hF1 hF2 HAd.out _) | (go_at_call 26; with_reducible exact cls_call hF1 hF2 HCm.out _) | (go_at_call 35; with_reducible exact cls_callK hKT.out hF1 hF2 kKT1 HW.out _)))
         refine wpQuiet_nil ?_
         rintro wq ⟨xq, rfl⟩
         replace hL0 := hL0.call (hF1 xq)
         replace hS := hS.call (hF1 xq)
         clear  hq0 hq1 hq2 hF2
         generalize F xq = x30 at hL0 hS ⊢
         clear hF1 xq iα F α
         clear kKT1
         go_wp2_with fail
         exact bodyPost_ret (v := .bool true) (by simp [results, Tryz.results12, go_sem]) rfl ⟨rfl, hL0.bl⟩
        ·go_upto_region 28 with fail
         have kKT1 := hKT.out.at hL0.bl kKT
         obtain ⟨α, iα, F, hF1, hF2⟩ := cls x29
         have hq0 := cls_box hF1 hL0 _ _ (List.mem_cons_of_mem _ (List.mem_cons_of_mem _ (List.mem_cons_of_mem _ (List.mem_cons_of_mem _ (List.mem_cons_of_mem _ (List.mem_cons_of_mem _ List.mem_cons_self))))))
         simp only [cellsC, and_true, Nat.zero_add, Nat.reduceAdd] at hq0
         have hq1 := cls_box hF1 hL0 _ _ (List.mem_cons_of_mem _ (List.mem_cons_of_mem _ (List.mem_cons_of_mem _ (List.mem_cons_of_mem _ (List.mem_cons_of_mem _ (List.mem_cons_of_mem _ (List.mem_cons_of_mem _ List.mem_cons_self)))))))
         simp only [cellsC, and_true, Nat.zero_add, Nat.reduceAdd] at hq1
         have hq2 := cls_box hF1 hL0 _ _ (List.mem_cons_of_mem _ (List.mem_cons_of_mem _ (List.mem_cons_of_mem _ (List.mem_cons_of_mem _ (List.mem_cons_of_mem _ (List.mem_cons_of_mem _ (List.mem_cons_of_mem _ (List.mem_cons_of_mem _ List.mem_cons_self))))))))
         simp only [cellsC, and_true, Nat.zero_add, Nat.reduceAdd] at hq2
         refine region_qs 36 (C := fun w' => ∃ x, w' = F x) (by kernel_rfl) (by kernel_rfl) (cls_drew hF2) ?_
         simp only [List.take_succ_cons, List.take_zero, List.drop_succ_cons, List.drop_zero, List.take_nil, List.drop_nil]
         repeat (go_big_quiet_step (first | fail | (go_at_call 41; with_reducible exact cls_call hF1 hF2 HSa.out _) | (go_at_call 41; with_reducible exact cls_call hF1 hF2 HSb.out _) | (go_at_call 33; with_reducible exact cls_call hF1 hF2 HAd.out _) | (go_at_call 26; with_reducible exact cls_call hF1 hF2 HCm.out _) | (go_at_call 35; with_reducible exact cls_callK hKT.out hF1 hF2 kKT1 HW.out _)))
         refine wpQuiet_nil ?_
         rintro wq ⟨xq, rfl⟩
         replace hL0 := hL0.call (hF1 xq)
         replace hS := hS.call (hF1 xq)
         clear  hq0 hq1 hq2 hF2
         generalize F xq = x30 at hL0 hS ⊢
         clear hF1 xq iα F α
         clear kKT1
         go_wp2_with fail
         exact bodyPost_ret (v := .bool true) (by simp [results, Tryz.results12, go_sem]) rfl ⟨rfl, hL0.bl⟩
set_option maxHeartbeats 4000000 in
set_option maxRecDepth 100000 in
theorem rorder_long (nx dx ny dy : Int) (ao : Option Addr) (n c : Nat) (KT : World → Prop) (hKT : Keeps KT) (HW : ∀ w, KT w → Calls Tryz.prog 35 #[] w fun xe w' => xe = .returned (.bool true) ∧ Below w.heap.size w w') (g1 : decide ((6 : Int) < (n : Int)) = true) (g2 : decide (6 < n) = true) (w : World) (kKT : KT w) :
  Calls Tryz.prog 12 #[.agg #[.int .i64 nx, .int .u32 dx], .agg #[.int .i64 ny, .int .u32 dy], .slice ao n c] w fun xe w' => xe = .returned (.bool true) ∧ Below w.heap.size w w' := by
 have hL0 : GL w w [] := GL.start w
 replace hKT := Lib.hid hKT
 replace HW := Lib.hid HW
 replace hL0 := ((hL0.new rfl [.int .i64 nx, .int .u32 dx] 24).new (K := w.heap.size + 1) (szA _ _) [.int .i64 ny, .int .u32 dy] 24)
 generalize hweq : ((w.alloc (.cells #[.int .i64 nx, .int .u32 dx] 24)).alloc (.cells #[.int .i64 ny, .int .u32 dy] 24)) = x1 at hL0
 go_enter Tryz.func12, Tryz.ntmps12
 go_wp2_with fail
 with_reducible refine Calls.mono (HW.out _ (hKT.out.at hL0.bl kKT)) ?_
 rintro e x2 ⟨rfl, hb⟩
 replace hL0 := hL0.call hb
 clear hb hweq
 go_wp2_with fail
 exact bodyPost_ret (v := .bool true) (by simp [results, Tryz.results12, go_sem]) rfl ⟨rfl, hL0.bl⟩
end Go.Proofs.YtdkjckiialnpnaaGreatDoor
namespace Go.Proofs.YtdkjckiialnpnaaGreatDoor
open Go.RowKit
theorem sumF2 (ao : Option Addr) (n c : Nat) (qs : List Rat) (k : Nat) (hk : k ≤ 1000) (hl : qs.length ≤ 10) (hs : ∀ q ∈ qs, Sz q k) (w : World) (h : SlQ w (.slice ao n c) qs) :
  Calls Tryz.prog 45 #[.slice ao n c] w fun xe w' => xe = .returned (fracV (qsum qs)) ∧ Below w.heap.size w w' := by
 have hp := slq_parts' h (by omega)
 refine sum_w ao n c qs hp.2.2 (fun w0 t hn w hG => each_add w0 t ao n c qs 0 rfl hn (fun q a i ha hq w hG => total_add w0 t q a (q + a) (fun w => addF q a 20000 ?_ ((hs a ha).mono (by omega)) (by omega) w) w hG) w hG) w hp
 rw [hq]
 have h0 : Sz 0 1 := ⟨digs_length_iff.2 (by unfold Bs; decide), digs_length_iff.2 (by unfold Bs; decide)⟩
 have hz := qsum_sz (qs.take i) 1 0 h0 (fun q hq => hs q (List.mem_of_mem_take hq))
 refine hz.mono ?_
 rw [List.length_take]
 have h1 : min i qs.length * (k + 1) ≤ 10 * 1001 := Nat.mul_le_mul (by omega) (by omega)
 omega
theorem orderR2 (a b : Rat) (ao : Option Addr) (n c : Nat) (qs : List Rat) (k : Nat) (ha : Sz a k) (hb : Sz b k) (hk : k ≤ 1000) (hl : qs.length ≤ 10) (hs : ∀ q ∈ qs, Sz q k) (hz : Sz (qsum qs) k) (w : World) (h : SlQ w (.slice ao n c) qs) :
  Calls Tryz.prog 44 #[fracV a, fracV b, .slice ao n c] w fun xe w' => xe = .returned (.tuple #[.int .i64 (ordV a b (qsum qs)), .int .i64 (ordC a b (qsum qs))]) ∧ Below w.heap.size w w' := by
 have HL : ∀ w, SlQ w (.slice ao n c) qs → _ := fun w h => sumF2 ao n c qs k hk hl hs w h
 generalize qsum qs = s at *
 have KK := SlQ.keeps (.slice ao n c) qs
 by_cases h1 : a < 0
 ·rw [show ordV a b s = 0 by unfold ordV; rw [if_pos (.inl h1)], show ordC a b s = 1 by unfold ordC; rw [if_pos (.inl h1)]]
  exact order_a ao n c a b s _ _ KK HL (signF a) (by rw [sgn_neg']; exact decide_eq_true h1) w h
 by_cases h2 : b < 0
 ·rw [show ordV a b s = 0 by unfold ordV; rw [if_pos (.inr (.inl h2))], show ordC a b s = 1 by unfold ordC; rw [if_pos (.inr (.inl h2))]]
  exact order_b ao n c a b s _ _ _ KK HL (signF a) (signF b) (by rw [sgn_neg']; exact decide_eq_false h1) (by rw [sgn_neg']; exact decide_eq_true h2) w h
 by_cases h3 : s < 0
 ·rw [show ordV a b s = 0 by unfold ordV; rw [if_pos (.inr (.inr h3))], show ordC a b s = 1 by unfold ordC; rw [if_pos (.inr (.inr h3))]]
  exact order_s ao n c a b s _ _ _ _ KK HL (signF a) (signF b) (signF s) (by rw [sgn_neg']; exact decide_eq_false h1) (by rw [sgn_neg']; exact decide_eq_false h2) (by rw [sgn_neg']; exact decide_eq_true h3) w h
 have hno : ¬ (a < 0 ∨ b < 0 ∨ s < 0) := by rintro (g | g | g) <;> contradiction
 rw [show ordV a b s = ordQ a b s by unfold ordV; rw [if_neg hno], show ordC a b s = 0 by unfold ordC; rw [if_neg hno]]
 have hA := fun w => addF a b k ha hb (by omega) w
 have hB := fun w => subF s (a + b) (k + k + 1) (hz.mono (by omega)) (ha.add hb) (by omega) w
 have sr : Sz (s - (a + b)) (k + (k + k + 1) + 1) := hz.sub (ha.add hb)
 by_cases h4 : s - (a + b) < 0
 ·rw [show ordQ a b s = 1 by unfold ordQ; rw [if_pos h4]]
  exact order_gt ao n c a b s (a + b) (s - (a + b)) _ _ _ _ _ KK HL (signF a) (signF b) (signF s) hA hB (signF _) (by rw [sgn_neg']; exact decide_eq_false h1) (by rw [sgn_neg']; exact decide_eq_false h2) (by rw [sgn_neg']; exact decide_eq_false h3) (by rw [sgn_neg']; exact decide_eq_true h4) w h
 ·rw [show ordQ a b s = cmpQ (((4 : Int) : Rat) * (a * b)) ((s - (a + b)) * (s - (a + b))) by unfold ordQ; rw [if_neg h4]]
  exact order_cmp ao n c a b s (a + b) (s - (a + b)) _ (a * b) (((4 : Int) : Rat) * (a * b)) ((s - (a + b)) * (s - (a + b))) _ _ _ _ _ _ KK HL (signF a) (signF b) (signF s) hA hB (signF _) four_i (fun w => mulF a b k ha hb (by omega) w) (fun w => mulF _ _ (k + k + 1) (four_sz.mono (by omega)) ((ha.mul hb).mono (by omega)) (by omega) w)
   (fun w => squareF _ _ sr (by omega) w) (fun w => cmpF _ _ (8 * k + 8) ((four_sz.mul (ha.mul hb)).mono (by omega)) ((sr.mul sr).mono (by omega)) (by omega) w)
   (by rw [sgn_neg']; exact decide_eq_false h1) (by rw [sgn_neg']; exact decide_eq_false h2) (by rw [sgn_neg']; exact decide_eq_false h3) (by rw [sgn_neg']; exact decide_eq_false h4) w h
theorem rt80 (r : Nat → Rat → Rat) {a : Rat} (ha : 0 ≤ a) : rtV r 80 a = r 80 a := (rtV_ok r (p := 80) (by decide) ha).1
theorem rt80_sz {a : Rat} {k : Nat} (h : Sz a k) : Sz (rtV below 80 a) (k + 7) ∧ Sz (rtV above 80 a) (k + 7) := by
 unfold rtV
 have h0 : Sz (0 : Rat) (k + 7) := (szc 0 (by decide) (by decide)).mono (by omega)
 constructor <;> split
 ·exact (below_sz h (by decide)).mono (by omega)
 ·exact h0
 ·exact above_sz h (by decide)
 ·exact h0
def lowS (p q : Rat) : Nat → Rat
 | 0 => 0
 | 1 => 0 + p
 | _ => 0 + p + q
theorem sgn_eq0 (a : Rat) : (sgnQ a == 0) = decide (a = 0) := by unfold sgnQ; grind
theorem rorder_any (nx dx ny dy : Int) (ax : -9223372036854775808 ≤ nx ∧ nx < 9223372036854775808) (bx : 0 ≤ dx ∧ dx < 4294967296) (ay : -9223372036854775808 ≤ ny ∧ ny < 9223372036854775808) (bY : 0 ≤ dy ∧ dy < 4294967296)
  (ao : Option Addr) (n c : Nat) (ql : List (Int × Int)) (w : World) (htab : Tab w) (hq : (n = 0 ∧ ql = []) ∨ ∃ a, ao = some a ∧ ql.length = n ∧ QSr w a ql) :
  Calls Tryz.prog 12 #[.agg #[.int .i64 nx, .int .u32 dx], .agg #[.int .i64 ny, .int .u32 dy], .slice ao n c] w fun xe w' => xe = .returned (.bool true) ∧ Below w.heap.size w w' := by
 rcases Nat.lt_or_ge 6 n with h6 | h6
 ·exact rorder_long nx dx ny dy ao n c Tab Keeps.tab rworksR (decide_eq_true (by omega)) (decide_eq_true h6) w htab
 have hlen : ql.length = n := by
  rcases hq with ⟨rfl, rfl⟩ | ⟨a, -, h, -⟩
  ·rfl
  ·exact h
 have hrg : ∀ p ∈ ql, (-9223372036854775808 ≤ p.1 ∧ p.1 < 9223372036854775808) ∧ 0 ≤ p.2 ∧ p.2 < 4294967296 := by
  rcases hq with ⟨rfl, rfl⟩ | ⟨a, -, -, h⟩
  ·intro p hp; cases hp
  ·exact h.rg
 have hq2 : 0 < n → ∃ a, ao = some a ∧ QSr w a ql := by
  rcases hq with ⟨rfl, rfl⟩ | ⟨a, h1, -, h2⟩
  ·intro h; omega
  ·exact fun _ => ⟨a, h1, h2⟩
 clear hq
 obtain ⟨qs, hqs⟩ : ∃ qs, qs = ql.map (fun p => qmade p.1 p.2.toNat) := ⟨_, rfl⟩
 have hlq : qs.length = n := by rw [hqs, List.length_map]; exact hlen
 have hZ : ∀ q ∈ qs, Sz q 1 := fun q hx => by
  rw [hqs] at hx
  obtain ⟨p, hp, rfl⟩ := List.mem_map.1 hx
  obtain ⟨⟨h1, h2⟩, h3, h4⟩ := hrg p hp
  exact qmade_sz p.1 p.2.toNat h1 h2 (by omega)
 have HQ : ∀ (i : Nat) (h : i < ql.length) (h' : i < qs.length) (w : World), Calls Tryz.prog 16 #[.agg #[.int .i64 ql[i].1, .int .u32 ql[i].2]] w fun xe w' => xe = .returned (fracV qs[i]) ∧ Below w.heap.size w w' := by
  intro i h h' w
  obtain ⟨⟨h1, h2⟩, h3, h4⟩ := hrg ql[i] (List.getElem_mem h)
  have e : qs[i] = qmade ql[i].1 ql[i].2.toNat := by simp [hqs]
  rw [e]
  exact qof_any ql[i].1 ql[i].2 h1 h2 h3 h4 w
 have hsm : Sz (qsum qs) 30 := by
  have := qsum_sz qs 1 0 (szc 0 (by decide) (by decide)) hZ
  exact this.mono (by omega)
 have hz2 : ∀ q ∈ qs, Sz q 30 := fun q h => (hZ q h).mono (by omega)
 clear hqs hrg
 have G1 := fun w => qof_any nx dx ax.1 ax.2 bx.1 bx.2 w
 have G2 := fun w => qof_any ny dy ay.1 ay.2 bY.1 bY.2 w
 have sa := absR_sz (qmade_sz nx dx.toNat ax.1 ax.2 (by omega))
 have sb := absR_sz (qmade_sz ny dy.toNat ay.1 ay.2 (by omega))
 generalize qmade nx dx.toNat = a0 at *
 generalize qmade ny dy.toNat = b0 at *
 have GA := absF a0
 have GB := absF b0
 have na := absQ_nn a0
 have nb := absQ_nn b0
 generalize absQ a0 = a at *
 generalize absQ b0 = b at *
 have HL : ∀ (sa : Option Addr) (sn sc : Nat) (w : World), SlQ w (.slice sa sn sc) qs → _ := fun sa sn sc w h => sumF2 sa sn sc qs 30 (by decide) (by omega) hz2 w h
 have HO : ∀ (sa : Option Addr) (sn sc : Nat) (w : World), SlQ w (.slice sa sn sc) qs → _ := fun s0 sn sc w h => orderR2 a b s0 sn sc qs 30 (sa.mono (by decide)) (sb.mono (by decide)) (by decide) (by omega) hz2 hsm w h
 generalize qsum qs = sm at *
 have HP1 := belowR a 80 1 sa (by decide)
 have HP2 := aboveR a 80 1 sa (by decide)
 have HP3 := belowR b 80 1 sb (by decide)
 have HP4 := aboveR b 80 1 sb (by decide)
 have HB1 := belowR sm 80 30 hsm (by decide)
 have HB2 := aboveR sm 80 30 hsm (by decide)
 have qa := rt80_sz sa
 have qb := rt80_sz sb
 have qm := rt80_sz hsm
 have ca : rtC 80 a = 0 := (rtV_ok below (p := 80) (by decide) na).2
 have cb : rtC 80 b = 0 := (rtV_ok below (p := 80) (by decide) nb).2
 have ea1 := rt80 below na
 have ea2 := rt80 above na
 have eb1 := rt80 below nb
 have eb2 := rt80 above nb
 have em1 := fun h : 0 ≤ sm => rt80 below h
 have em2 := fun h : 0 ≤ sm => rt80 above h
 generalize rtV below 80 a = pa at *
 generalize rtV above 80 a = ua at *
 generalize rtV below 80 b = pb at *
 generalize rtV above 80 b = ub at *
 generalize rtV below 80 sm = bl at *
 generalize rtV above 80 sm = ab at *
 have z0 : Sz (0 : Rat) 8 := (szc 0 (by decide) (by decide)).mono (by decide)
 have X0 := fun w => addF 0 pa 8 z0 qa.1 (by decide) w
 have X1 := fun w => addF (0 + pa) pb 17 (z0.add qa.1) (qb.1.mono (by decide)) (by decide) w
 have Y0 := fun w => addF 0 ua 8 z0 qa.2 (by decide) w
 have Y1 := fun w => addF (0 + ua) ub 17 (z0.add qa.2) (qb.2.mono (by decide)) (by decide) w
 have sl : Sz (0 + pa + pb) 40 := ((z0.add qa.1).add qb.1).mono (by decide)
 have su : Sz (0 + ua + ub) 40 := ((z0.add qa.2).add qb.2).mono (by decide)
 have C1 := fun w => cmpF (0 + pa + pb) ab 40 sl (qm.2.mono (by decide)) (by decide) w
 have C2 := fun w => cmpF (0 + ua + ub) bl 40 su (qm.1.mono (by decide)) (by decide) w
 have C3 := fun w => cmpF bl (0 + ua + ub) 40 (qm.1.mono (by decide)) su (by decide) w
 have O2 : ∀ (p2 : Value) (w : World), SlQ w p2 [a, b] → Calls Tryz.prog 44 #[fracV a, fracV b, p2] w fun xe w' => xe = .returned (.tuple #[.int .i64 (ordQ a b (a + b)), .int .i64 0]) ∧ Below w.heap.size w w' := by
  intro p2 w hS
  obtain ⟨s0, m, cc, rfl⟩ := slq_form hS
  have e : qsum [a, b] = a + b := by show 0 + a + b = a + b; grind
  have hab : 0 ≤ a + b := by grind
  have := orderR2 a b s0 m cc [a, b] 30 (sa.mono (by decide)) (sb.mono (by decide)) (by decide) (by simp) (fun x hx => by simp only [List.mem_cons, List.not_mem_nil, or_false] at hx; rcases hx with rfl | rfl <;> first | exact sa.mono (by decide) | exact sb.mono (by decide)) (by rw [e]; exact (sa.add sb).mono (by decide)) w hS
  have hno : ¬ (a < 0 ∨ b < 0 ∨ a + b < 0) := by grind
  rwa [e, show ordV a b (a + b) = ordQ a b (a + b) by unfold ordV; rw [if_neg hno], show ordC a b (a + b) = 0 by unfold ordC; rw [if_neg hno]] at this
 have Q1 := squareF a 1 sa (by decide)
 have Q2 := squareF b 1 sb (by decide)
 have Q3 := squareF sm 30 hsm (by decide)
 have O3 : ∀ (p2 : Value) (w : World), SlQ w p2 [sm * sm] → Calls Tryz.prog 44 #[fracV (a * a), fracV (b * b), p2] w fun xe w' => xe = .returned (.tuple #[.int .i64 (ordQ (a * a) (b * b) (sm * sm)), .int .i64 0]) ∧ Below w.heap.size w w' := by
  intro p2 w hS
  obtain ⟨s0, m, cc, rfl⟩ := slq_form hS
  have e : qsum [sm * sm] = sm * sm := by show 0 + sm * sm = sm * sm; grind
  have := orderR2 (a * a) (b * b) s0 m cc [sm * sm] 60 ((sa.mul sa).mono (by decide)) ((sb.mul sb).mono (by decide)) (by decide) (by simp) (fun x hx => by rw [show x = sm * sm by simpa using hx]; exact hsm.mul hsm) (by rw [e]; exact hsm.mul hsm) w hS
  have h1 := Rat.mul_nonneg na na
  have h2 := Rat.mul_nonneg nb nb
  have h3 : 0 ≤ sm * sm := by
   rcases Std.le_total (a := 0) (b := sm) with g | g
   ·exact Rat.mul_nonneg g g
   ·have := Rat.mul_nonneg (show 0 ≤ -sm by grind) (show 0 ≤ -sm by grind)
    grind
  have hno : ¬ (a * a < 0 ∨ b * b < 0 ∨ sm * sm < 0) := by grind
  rwa [e, show ordV (a * a) (b * b) (sm * sm) = ordQ (a * a) (b * b) (sm * sm) by unfold ordV; rw [if_neg hno], show ordC (a * a) (b * b) (sm * sm) = 0 by unfold ordC; rw [if_neg hno]] at this
 have AD := fun w => addF a b 1 sa sb (by decide) w
 have CM := fun w => cmpF (a + b) sm 30 ((sa.add sb).mono (by decide)) hsm (by decide) w
 have two := ordQ_two na nb
 have F3 : (decide (0 ≤ ordQ a b (a + b)) = true ∧ (ordQ a b (a + b) == 0) = true ∧ (sgnQ a == 0) = true) ∨ (decide (0 ≤ ordQ a b (a + b)) = true ∧ (ordQ a b (a + b) == 0) = decide (b = 0) ∧ (sgnQ a == 0) = false ∧ (sgnQ b == 0) = decide (b = 0)) := by
  rw [sgn_eq0, sgn_eq0]
  by_cases ha : a = 0
  ·exact .inl ⟨decide_eq_true two.1, by rw [two.2.2 (.inl ha)]; rfl, decide_eq_true ha⟩
  ·refine .inr ⟨decide_eq_true two.1, ?_, decide_eq_false ha, rfl⟩
   by_cases hb : b = 0
   ·rw [two.2.2 (.inr hb), decide_eq_true hb]; rfl
   ·rw [decide_eq_false hb]
    exact beq_eq_false_iff_ne.2 (fun e => by rcases two.2.1 e with g | g <;> contradiction)
 have F1 : (decide (sgnQ sm < 0) = true ∧ (ordV a b sm == 0) = true ∧ (ordC a b sm == 1) = true) ∨ (decide (sgnQ sm < 0) = false ∧ (ordC a b sm != 0) = false) := by
  rw [sgn_neg']
  by_cases h : sm < 0
  ·exact .inl ⟨decide_eq_true h, by unfold ordV; rw [if_pos (.inr (.inr h))]; rfl, by unfold ordC; rw [if_pos (.inr (.inr h))]; rfl⟩
  ·exact .inr ⟨decide_eq_false h, by unfold ordC; rw [if_neg (by grind)]; rfl⟩
 have F2 : decide (sgnQ sm < 0) = false → (decide (ordV a b sm < 0) = true ∧ decide (0 < ordV a b sm) = false ∧ (ordV a b sm == 0) = false ∧ decide (0 ≤ cmpQ (0 + pa + pb) ab) = false) ∨ (decide (ordV a b sm < 0) = true ∧ decide (0 < ordV a b sm) = false ∧ (ordV a b sm == 0) = false ∧ decide (0 ≤ cmpQ (0 + pa + pb) ab) = true ∧ 0 + pa + pb = ab) ∨ (decide (ordV a b sm < 0) = false ∧ decide (0 < ordV a b sm) = true ∧ (ordV a b sm == 0) = false ∧ decide (cmpQ (0 + ua + ub) bl < 0) = false) ∨ (decide (ordV a b sm < 0) = false ∧ decide (0 < ordV a b sm) = false ∧ (ordV a b sm == 0) = true ∧ decide (0 < cmpQ (0 + pa + pb) ab) = false ∧ decide (0 < cmpQ bl (0 + ua + ub)) = false) := by
  intro hs0
  rw [sgn_neg'] at hs0
  have hs : 0 ≤ sm := by have := of_decide_eq_false hs0; grind
  have hno : ¬ (a < 0 ∨ b < 0 ∨ sm < 0) := by grind
  rw [show ordV a b sm = ordQ a b sm by unfold ordV; rw [if_neg hno]]
  have k1 := em1 hs
  have k2 := em2 hs
  subst ea1 ea2 eb1 eb2 k1 k2
  have under : 0 ≤ sm - (a + b) ∧ 4 * (a * b) ≤ (sm - (a + b)) * (sm - (a + b)) → below 80 a + below 80 b ≤ above 80 sm := fun h => sum_under (below_nn 80 a) (below_nn 80 b) (above_nn 80 sm) na nb (below_le 80 na) (below_le 80 nb) (above_ge 80 hs) h.1 h.2
  have over : sm - (a + b) < 0 ∨ (sm - (a + b)) * (sm - (a + b)) ≤ 4 * (a * b) → below 80 sm ≤ above 80 a + above 80 b := fun h => sum_over (above_nn 80 a) (above_nn 80 b) na nb (above_ge 80 na) (above_ge 80 nb) (below_le 80 hs) h
  rw [show 0 + below 80 a + below 80 b = below 80 a + below 80 b by grind, show 0 + above 80 a + above 80 b = above 80 a + above 80 b by grind]
  rcases Int.lt_trichotomy (ordQ a b sm) 0 with h | h | h
  ·have g := under (ordQ_neg h)
   by_cases e : below 80 a + below 80 b = above 80 sm
   ·exact .inr (.inl ⟨decide_eq_true h, decide_eq_false (by omega), beq_eq_false_iff_ne.2 (by omega), decide_eq_true (by rw [e]; unfold cmpQ; grind), e⟩)
   ·exact .inl ⟨decide_eq_true h, decide_eq_false (by omega), beq_eq_false_iff_ne.2 (by omega), decide_eq_false (by unfold cmpQ; grind)⟩
  ·have z := ordQ_zero h
   have g := under ⟨z.1, by rw [z.2]; exact Rat.le_refl⟩
   have g2 := over (.inr (by rw [z.2]; exact Rat.le_refl))
   exact .inr (.inr (.inr ⟨decide_eq_false (by omega), decide_eq_false (by omega), by rw [h]; rfl, decide_eq_false (by unfold cmpQ; grind), decide_eq_false (by unfold cmpQ; grind)⟩))
  ·have g := over (ordQ_pos h)
   exact .inr (.inr (.inl ⟨decide_eq_false (by omega), decide_eq_true h, beq_eq_false_iff_ne.2 (by omega), decide_eq_false (by unfold cmpQ; grind)⟩))
 have CM2 : decide (sgnQ sm < 0) = false → ∀ w, Calls Tryz.prog 26 #[fracV (a + b), fracV sm] w fun xe w' => xe = .returned (.int .i64 (ordQ (a * a) (b * b) (sm * sm))) ∧ Below w.heap.size w w' := by
  intro hs0
  rw [sgn_neg'] at hs0
  rw [ordQ_squares na nb (by have := of_decide_eq_false hs0; grind)]
  exact CM
 exact rorder_w nx dx ny dy ao n c ql qs a0 a b0 b sm pa ua pb ub bl ab (0 + pa + pb) (0 + ua + ub) (a * a) (b * b) (sm * sm) (a + b) (lowS pa pb) (lowS ua ub) _ _ _ _ _ _ _ _ _ _ _ _ _ _ G1 GA G2 GB (signF sm) HP1 HP2 HP3 HP4 HB1 HB2 C1 C2 C3 O2 Q1 Q2 Q3 O3 (signF a) (signF b) AD CM2 Tab Keeps.tab rworksR HQ HL HO rfl rfl X0 X1 Y0 Y1 rfl rfl F1 F2 F3 hlq hlen h6 w htab hq2
end Go.Proofs.YtdkjckiialnpnaaGreatDoor
namespace Go.Proofs.YtdkjckiialnpnaaGreatDoor
open Go.ChangeShapes Go.WideShapes Go.ChangeAt Go.RowKit Go.Joins
theorem addaddR (a : Addr) (i j : Nat) : (a.add i).add j = a.add (i + j) := by
 unfold Addr.add
 by_cases h : i = 0
 ·subst h; simp
 ·by_cases h2 : j = 0
  ·subst h2; simp [h]
  ·simp [h, h2, Nat.add_assoc]
set_option maxRecDepth 100000 in
theorem qs_ofR {H : Type} {enc : TypeId × Value → H} {W : World} {base : Nat} {v : Value} {d : DataW H} {p : List MemPlace} (hv : Value.okWide Tryz.prog W .any base 80 v)
  (h : DataW.Trod enc Tryz.prog W 0 (fun _ => true) true 80 v d p) : ∃ a n c l, v = .slice a n c ∧ ((n = 0 ∧ l = []) ∨ ∃ x, a = some x ∧ l.length = n ∧ QSr W x l) := by
 obtain ⟨a0, len, cap, rfl⟩ := okWide_slice Tryz.underlying80 hv
 obtain ⟨fuel, hf⟩ := h
 rcases Go.Deep.open_slice_pairs Tryz.underlying80 Tryz.underlying24 cellsQ rfl rfl cellsI cellsU hf with ⟨hcs, hx⟩ | ⟨a, len', cap', m, n, V0, V1, D0, D1, P0, P1, hcs, _, hl, _, hm, hx, hcell⟩
 ·simp [Value.cells] at hcs
  obtain ⟨rfl, rfl, rfl⟩ := hcs
  exact ⟨none, 0, 0, [], rfl, .inl ⟨rfl, rfl⟩⟩
 ·simp [Value.cells] at hcs
  obtain ⟨rfl, rfl, rfl⟩ := hcs
  simp only [if_true] at hm
  by_cases h0 : len = 0
  ·subst h0
   exact ⟨some a, 0, cap, [], rfl, .inl ⟨rfl, rfl⟩⟩
  have each : ∀ i, i < len → ∃ z : Int × Int, W.cell? (a.add (i * 2)) = some (.int .i64 z.1) ∧ W.cell? ((a.add (i * 2)).add 1) = some (.int .u32 z.2) ∧ (-9223372036854775808 ≤ z.1 ∧ z.1 < 9223372036854775808) ∧ 0 ≤ z.2 ∧ z.2 < 4294967296 := by
   intro i hi
   obtain ⟨e0, e1, g0, g1⟩ := hcell i (by omega)
   obtain ⟨x, y0, -, f0⟩ := DataW.trod_int Tryz.underlying2 g0
   obtain ⟨y, y1, -, f1⟩ := DataW.trod_int Tryz.underlying22 g1
   simp only [List.cons.injEq, and_true] at y0 y1
   rw [y0] at e0
   rw [y1] at e1
   have b0 := bounds_i64 f0
   have b1 := bounds_u32 f1
   exact ⟨(x, y), e0, by rw [addaddR]; exact e1, by omega, by omega⟩
  obtain ⟨q, hq⟩ := Go.Deep.choose_lt each
  refine ⟨some a, len, cap, (List.range len).map q, rfl, .inr ⟨a, rfl, by simp, fun i hi => ?_, fun i hi => ?_, fun z hz => ?_, ?_⟩⟩
  ·have hi' : i < len := by simpa using hi
   have := (hq i hi').1
   simpa using this
  ·have hi' : i < len := by simpa using hi
   have := (hq i hi').2.1
   simpa using this
  ·obtain ⟨i, hi, rfl⟩ := List.mem_map.1 hz
   exact (hq i (List.mem_range.1 hi)).2.2
  ·have e := (hq 0 (by omega)).1
   have := World.block_lt_of_cell? W _ e
   rw [add_blkR] at this
   exact this
end Go.Proofs.YtdkjckiialnpnaaGreatDoor
