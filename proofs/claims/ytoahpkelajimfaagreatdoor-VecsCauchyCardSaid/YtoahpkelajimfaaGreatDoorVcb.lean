/-
  The law answers true at every input, and leaves its arguments as they were: a part of the proof. CONDITIONS: the package-level tables start as the program's text lays them (the card ties them).
-/
import Derived.Test.YtoahpkelajimfaaGreatDoorVca
set_option linter.unusedVariables false
set_option linter.unusedSimpArgs false
namespace Go.Proofs.YtoahpkelajimfaaGreatDoor
open Go.RowKit
attribute [local irreducible] lo hs sm s64 c64 d64 b64 mh ml pd pc qd qc val hiB str cmpI srD lz nb zl zh zs fe rowV tabV gv bsV mxV colV
/-- The products that agree, as far as the two loops have come. -/
def alP (x y : List Rat) (a b : Nat) : Prop := gv x a * gv y b = gv x b * gv y a
def alV (x y : List Rat) (i k : Nat) : Prop := (∀ a, a < i → ∀ b, b < a → alP x y a b) ∧ ∀ b, b < k → alP x y i b
theorem al_zero (x y : List Rat) : alV x y 0 0 := ⟨fun a h => absurd h (Nat.not_lt_zero _), fun b h => absurd h (Nat.not_lt_zero _)⟩
theorem al_step {x y : List Rat} {i k : Nat} : alV x y i (k + 1) ↔ alV x y i k ∧ alP x y i k := by
 constructor
 ·rintro ⟨h1, h2⟩
  exact ⟨⟨h1, fun b h => h2 b (by omega)⟩, h2 k (by omega)⟩
 ·rintro ⟨⟨h1, h2⟩, h3⟩
  refine ⟨h1, fun b h => ?_⟩
  by_cases e : b = k
  ·subst e; exact h3
  ·exact h2 b (by omega)
theorem al_next {x y : List Rat} {i : Nat} : alV x y i i ↔ alV x y (i + 1) 0 := by
 constructor
 ·rintro ⟨h1, h2⟩
  refine ⟨fun a h => ?_, fun b h => absurd h (Nat.not_lt_zero _)⟩
  by_cases e : a = i
  ·subst e; exact h2
  ·exact h1 a (by omega)
 ·rintro ⟨h1, _⟩
  exact ⟨fun a h => h1 a (by omega), h1 i (by omega)⟩
def noneV (x : List Rat) (i : Nat) : Prop := ∀ a, a < i → gv x a = 0
theorem none_zero (x : List Rat) : noneV x 0 := fun a h => absurd h (Nat.not_lt_zero _)
theorem none_step {x : List Rat} {i : Nat} : noneV x (i + 1) ↔ noneV x i ∧ gv x i = 0 := by
 constructor
 ·intro h
  exact ⟨fun a ha => h a (by omega), h i (by omega)⟩
 ·rintro ⟨h1, h2⟩ a ha
  by_cases e : a = i
  ·subst e; exact h2
  ·exact h1 a (by omega)
set_option maxHeartbeats 16000000 in
set_option maxRecDepth 100000 in
theorem vcauchy_t1 (al am : Option Addr) (nl cl nm cm n : Nat) (n1 d1 : Int)  (KT : World → Prop) (hKT : Keeps KT) (HW : ∀ w, KT w → Calls Tryz.prog 12 #[] w fun xe w' => xe = .returned (.bool true) ∧ Below w.heap.size w w') (l_nl : decide ((12 : Int) < ((nl : Nat) : Int)) = true) (k_nl : decide (12 < nl) = true) (w : World) (kKT : KT w) :
  Calls Tryz.prog 6 #[.slice al nl cl, .slice am nm cm, .agg #[.int .i64 n1, .int .u32 d1], .bool true] w fun e w' => e = .returned (.bool true) ∧ Below w.heap.size w w' := by
 replace hKT := Lib.hid hKT
 replace HW := Lib.hid HW
 have hL0 : GL w w [] := GL.start w
 have hT : PTs w [] := PTs.nil w
 replace hT := (hT.new (.cells #[.int .i64 n1, .int .u32 d1] 24))
 replace hL0 := (hL0.new rfl [.int .i64 n1, .int .u32 d1] 24)
 generalize hweq : (w.alloc (.cells #[.int .i64 n1, .int .u32 d1] 24)) = x1 at hL0 hT
 go_enter Tryz.func6, Tryz.ntmps6
 go_wp2_with fail
 with_reducible refine Calls.mono (HW.out _ (hKT.out.at hL0.bl kKT)) ?_
 rintro e x2 ⟨rfl, hb⟩
 replace hL0 := hL0.call hb
 replace hT := hT.call hb
 clear hb hweq
 go_wp2_with fail
 exact bodyPost_ret (v := .bool true) (by simp [results, Tryz.results6, go_sem]) rfl ⟨rfl, hL0.bl⟩
set_option maxHeartbeats 16000000 in
set_option maxRecDepth 100000 in
theorem vcauchy_t2 (al am : Option Addr) (nl cl nm cm n : Nat) (n1 d1 : Int)  (KT : World → Prop) (hKT : Keeps KT) (HW : ∀ w, KT w → Calls Tryz.prog 12 #[] w fun xe w' => xe = .returned (.bool true) ∧ Below w.heap.size w w') (l_nl : decide ((12 : Int) < ((nl : Nat) : Int)) = false) (k_nl : decide (12 < nl) = false) (l_nm : decide ((12 : Int) < ((nm : Nat) : Int)) = true) (k_nm : decide (12 < nm) = true) (w : World) (kKT : KT w) :
  Calls Tryz.prog 6 #[.slice al nl cl, .slice am nm cm, .agg #[.int .i64 n1, .int .u32 d1], .bool true] w fun e w' => e = .returned (.bool true) ∧ Below w.heap.size w w' := by
 replace hKT := Lib.hid hKT
 replace HW := Lib.hid HW
 have hL0 : GL w w [] := GL.start w
 have hT : PTs w [] := PTs.nil w
 replace hT := (hT.new (.cells #[.int .i64 n1, .int .u32 d1] 24))
 replace hL0 := (hL0.new rfl [.int .i64 n1, .int .u32 d1] 24)
 generalize hweq : (w.alloc (.cells #[.int .i64 n1, .int .u32 d1] 24)) = x1 at hL0 hT
 go_enter Tryz.func6, Tryz.ntmps6
 go_wp2_with fail
 with_reducible refine Calls.mono (HW.out _ (hKT.out.at hL0.bl kKT)) ?_
 rintro e x2 ⟨rfl, hb⟩
 replace hL0 := hL0.call hb
 replace hT := hT.call hb
 clear hb hweq
 go_wp2_with fail
 exact bodyPost_ret (v := .bool true) (by simp [results, Tryz.results6, go_sem]) rfl ⟨rfl, hL0.bl⟩
set_option maxHeartbeats 16000000 in
set_option maxRecDepth 100000 in
theorem vcauchy_tw (al am : Option Addr) (nl cl nm cm n : Nat) (n1 d1 : Int) (x y yb : List Rat) (q xx yy xy lf rg : Rat) (c1 sx : Int) (HCu : ∀ w, Calls Tryz.prog 13 #[.slice al nl cl, .slice am nm cm] w fun xe w' => xe = .returned (.tuple #[.slice al n cl, .slice am n cm]) ∧ Below w.heap.size w w') (KL : World → Prop) (hKL : Keeps KL) (HVa : ∀ (w : World), KL w → Calls Tryz.prog 14 #[.slice al n cl] w fun e w' => ∃ pv, e = .returned pv ∧ PT w' pv x ∧ Below w.heap.size w w') (KM : World → Prop) (hKM : Keeps KM) (HVb : ∀ (w : World), KM w → Calls Tryz.prog 14 #[.slice am n cm] w fun e w' => ∃ pv, e = .returned pv ∧ PT w' pv yb ∧ Below w.heap.size w w') (HQ : ∀ w, Calls Tryz.prog 15 #[.agg #[.int .i64 n1, .int .u32 d1]] w fun xe w' => xe = .returned (fracV q) ∧ Below w.heap.size w w') (T1 : ∀ (p1 : Value) (w : World), PT w p1 x → Calls Tryz.prog 42 #[fracV q, p1] w fun e w' => ∃ pv, e = .returned pv ∧ PT w' pv y ∧ Below w.heap.size w w') (D1 : ∀ (p0 p1 : Value) (w : World), PT w p0 x → PT w p1 x → Calls Tryz.prog 43 #[p0, p1] w fun e w' => e = .returned (fracV xx) ∧ Below w.heap.size w w') (D2 : ∀ (p0 p1 : Value) (w : World), PT w p0 y → PT w p1 y → Calls Tryz.prog 43 #[p0, p1] w fun e w' => e = .returned (fracV yy) ∧ Below w.heap.size w w') (D3 : ∀ (p0 p1 : Value) (w : World), PT w p0 x → PT w p1 y → Calls Tryz.prog 43 #[p0, p1] w fun e w' => e = .returned (fracV xy) ∧ Below w.heap.size w w') (F1 : ∀ w, Calls Tryz.prog 36 #[fracV xy, fracV xy] w fun xe w' => xe = .returned (fracV lf) ∧ Below w.heap.size w w') (F2 : ∀ w, Calls Tryz.prog 36 #[fracV xx, fracV yy] w fun xe w' => xe = .returned (fracV rg) ∧ Below w.heap.size w w') (C1 : ∀ w, Calls Tryz.prog 44 #[fracV lf, fracV rg] w fun xe w' => xe = .returned (.int .i64 c1) ∧ Below w.heap.size w w') (S1 : ∀ w, Calls Tryz.prog 45 #[fracV xx] w fun xe w' => xe = .returned (.int .i64 sx) ∧ Below w.heap.size w w') (KT : World → Prop) (hKT : Keeps KT) (HW : ∀ w, KT w → Calls Tryz.prog 12 #[] w fun xe w' => xe = .returned (.bool true) ∧ Below w.heap.size w w') (l_nl : decide ((12 : Int) < ((nl : Nat) : Int)) = false) (k_nl : decide (12 < nl) = false) (l_nm : decide ((12 : Int) < ((nm : Nat) : Int)) = false) (k_nm : decide (12 < nm) = false) (lx : x.length = n) (ly : y.length = n) (lb : yb.length = n) (hta : alV x y n 0) (hn1 : n ≤ 20) (hc1 : decide (0 < c1) = false) (hd1 : c1 ≤ 0) (hce : alV x y n 0 ↔ lf = rg) (hsn : sx = 0 ↔ noneV x n) (hs0 : 0 ≤ sx) (HMu : ∀ i, i < n → ∀ k, k < n → ∀ w, Calls Tryz.prog 36 #[fracV (gv x i), fracV (gv y k)] w fun xe w' => xe = .returned (fracV (gv x i * gv y k)) ∧ Below w.heap.size w w') (HSg : ∀ i, i < n → ∃ sg : Int, (sg = 0 ↔ gv x i = 0) ∧ ∀ w, Calls Tryz.prog 45 #[fracV (gv x i)] w fun xe w' => xe = .returned (.int .i64 sg) ∧ Below w.heap.size w w') (w : World) (kKL : KL w) (kKM : KM w) (kKT : KT w) :
  Calls Tryz.prog 6 #[.slice al nl cl, .slice am nm cm, .agg #[.int .i64 n1, .int .u32 d1], .bool true] w fun e w' => e = .returned (.bool true) ∧ Below w.heap.size w w' := by
 replace HCu := Lib.hid HCu
 replace hKL := Lib.hid hKL
 replace HVa := Lib.hid HVa
 replace hKM := Lib.hid hKM
 replace HVb := Lib.hid HVb
 replace HQ := Lib.hid HQ
 replace T1 := Lib.hid T1
 replace D1 := Lib.hid D1
 replace D2 := Lib.hid D2
 replace D3 := Lib.hid D3
 replace F1 := Lib.hid F1
 replace F2 := Lib.hid F2
 replace C1 := Lib.hid C1
 replace S1 := Lib.hid S1
 replace hKT := Lib.hid hKT
 replace HW := Lib.hid HW
 have hL0 : GL w w [] := GL.start w
 have hT : PTs w [] := PTs.nil w
 replace lx := Lib.hid lx
 replace ly := Lib.hid ly
 replace lb := Lib.hid lb
 replace hta := Lib.hid hta
 replace hn1 := Lib.hid hn1
 replace hce := Lib.hid hce
 replace hsn := Lib.hid hsn
 replace HMu := Lib.hid HMu
 replace HSg := Lib.hid HSg
 replace hT := (hT.new (.cells #[.int .i64 n1, .int .u32 d1] 24))
 replace hL0 := (hL0.new rfl [.int .i64 n1, .int .u32 d1] 24)
 generalize hweq : (w.alloc (.cells #[.int .i64 n1, .int .u32 d1] 24)) = x1 at hL0 hT
 go_enter Tryz.func6, Tryz.ntmps6
 go_wp2_with fail
 with_reducible refine Calls.mono (HCu.out _) ?_
 rintro e x2 ⟨rfl, hb⟩
 replace hL0 := hL0.call hb
 replace hT := hT.call hb
 clear hb hweq
 go_wp2_with fail
 with_reducible refine Calls.mono (HVa.out _ (hKL.out.at (hL0.bl) kKL)) ?_
 rintro e x3 ⟨v0, rfl, q0, hb⟩
 replace hL0 := hL0.call hb
 replace hT := hT.call hb
 clear hb
 obtain ⟨g1, g1c, rfl⟩ := ptn_form q0 lx.out
 replace hT := hT.cons q0
 clear q0
 go_wp2_with fail
 with_reducible refine Calls.mono (HVb.out _ (hKM.out.at (hL0.bl) kKM)) ?_
 rintro e x4 ⟨v0, rfl, q0, hb⟩
 replace hL0 := hL0.call hb
 replace hT := hT.call hb
 clear hb
 obtain ⟨g2, g2c, rfl⟩ := ptn_form q0 lb.out
 replace hT := hT.cons q0
 clear q0
 have hN0 := cells_of _ 0 [] rfl (hL0.get _ _ List.mem_cons_self)
 simp only [cellsF, and_true, Nat.zero_add, Nat.reduceAdd] at hN0
 go_wp2_with fail
 clear hN0
 with_reducible refine Calls.mono (HQ.out _) ?_
 rintro e x5 ⟨rfl, hb⟩
 replace hL0 := hL0.call hb
 replace hT := hT.call hb
 clear hb
 go_wp2_with fail
 with_reducible refine Calls.mono (T1.out (.slice g1 n g1c) _ (hT.get (List.mem_cons_of_mem _ List.mem_cons_self))) ?_
 rintro e x6 ⟨v0, rfl, q0, hb⟩
 replace hL0 := hL0.call hb
 replace hT := hT.call hb
 clear hb
 obtain ⟨g3, g3c, rfl⟩ := ptn_form q0 ly.out
 replace hT := hT.cons q0
 clear q0
 go_wp2_with fail
 with_reducible refine Calls.mono (D1.out (.slice g1 n g1c) (.slice g1 n g1c) _ (hT.get (List.mem_cons_of_mem _ (List.mem_cons_of_mem _ List.mem_cons_self))) (hT.get (List.mem_cons_of_mem _ (List.mem_cons_of_mem _ List.mem_cons_self)))) ?_
 rintro e x7 ⟨rfl, hb⟩
 replace hL0 := hL0.call hb
 replace hT := hT.call hb
 clear hb
 go_wp2_with fail
 with_reducible refine Calls.mono (D2.out (.slice g3 n g3c) (.slice g3 n g3c) _ (hT.get List.mem_cons_self) (hT.get List.mem_cons_self)) ?_
 rintro e x8 ⟨rfl, hb⟩
 replace hL0 := hL0.call hb
 replace hT := hT.call hb
 clear hb
 go_wp2_with fail
 with_reducible refine Calls.mono (D3.out (.slice g1 n g1c) (.slice g3 n g3c) _ (hT.get (List.mem_cons_of_mem _ (List.mem_cons_of_mem _ List.mem_cons_self))) (hT.get List.mem_cons_self)) ?_
 rintro e x9 ⟨rfl, hb⟩
 replace hL0 := hL0.call hb
 replace hT := hT.call hb
 clear hb
 replace hT := (((hT.new (.cells #[.int .u64 ((zl xx.num : Nat) : Int), .string (zh xx.num), .bool (zs xx.num), .int .u64 ((lo (fe xx) : Nat) : Int), .string (hs (fe xx))] 38)).new (.cells #[.int .u64 ((zl yy.num : Nat) : Int), .string (zh yy.num), .bool (zs yy.num), .int .u64 ((lo (fe yy) : Nat) : Int), .string (hs (fe yy))] 38)).new (.cells #[.int .u64 ((zl xy.num : Nat) : Int), .string (zh xy.num), .bool (zs xy.num), .int .u64 ((lo (fe xy) : Nat) : Int), .string (hs (fe xy))] 38))
 replace hL0 := (((hL0.new rfl [.int .u64 ((zl xx.num : Nat) : Int), .string (zh xx.num), .bool (zs xx.num), .int .u64 ((lo (fe xx) : Nat) : Int), .string (hs (fe xx))] 38).new (K := x9.heap.size + 1) (szA _ _) [.int .u64 ((zl yy.num : Nat) : Int), .string (zh yy.num), .bool (zs yy.num), .int .u64 ((lo (fe yy) : Nat) : Int), .string (hs (fe yy))] 38).new (K := x9.heap.size + 1 + 1) (by simp only [World.size_alloc]) [.int .u64 ((zl xy.num : Nat) : Int), .string (zh xy.num), .bool (zs xy.num), .int .u64 ((lo (fe xy) : Nat) : Int), .string (hs (fe xy))] 38)
 generalize hweq : (((x9.alloc (.cells #[.int .u64 ((zl xx.num : Nat) : Int), .string (zh xx.num), .bool (zs xx.num), .int .u64 ((lo (fe xx) : Nat) : Int), .string (hs (fe xx))] 38)).alloc (.cells #[.int .u64 ((zl yy.num : Nat) : Int), .string (zh yy.num), .bool (zs yy.num), .int .u64 ((lo (fe yy) : Nat) : Int), .string (hs (fe yy))] 38)).alloc (.cells #[.int .u64 ((zl xy.num : Nat) : Int), .string (zh xy.num), .bool (zs xy.num), .int .u64 ((lo (fe xy) : Nat) : Int), .string (hs (fe xy))] 38)) = x10 at hL0 hT
 go_wp2_with fail
 clear hweq
 go_loopg [14, 15] n (fun gk bv iv wr => ∃ (i : Nat) (zi : Int) (bb : Bool), i + gk = n ∧ bv = .bool bb ∧ iv = .int .i64 zi ∧ zi = (i : Int) ∧ (bb = true ↔ alV x y i 0) ∧ GL w wr [(x9.heap.size + 1 + 1, [.int .u64 ((zl xy.num : Nat) : Int), .string (zh xy.num), .bool (zs xy.num), .int .u64 ((lo (fe xy) : Nat) : Int), .string (hs (fe xy))]), (x9.heap.size + 1, [.int .u64 ((zl yy.num : Nat) : Int), .string (zh yy.num), .bool (zs yy.num), .int .u64 ((lo (fe yy) : Nat) : Int), .string (hs (fe yy))]), (x9.heap.size, [.int .u64 ((zl xx.num : Nat) : Int), .string (zh xx.num), .bool (zs xx.num), .int .u64 ((lo (fe xx) : Nat) : Int), .string (hs (fe xx))]), (w.heap.size, [.int .i64 n1, .int .u32 d1])] ∧ PTs wr [(.slice g3 n g3c, y), (.slice g2 n g2c, yb), (.slice g1 n g1c, x)])
 case atStart => exact ⟨0, 0, true, Nat.zero_add n, rfl, by first | rfl | go_num, rfl, ⟨fun _ => al_zero _ _, fun _ => rfl⟩, hL0, hT⟩
 case round =>
  clear hL0 hT
  obtain ⟨i, zi, bb, hik, rfl, rfl, hzi, hal, hL0, hT⟩ := hrel
  replace hal := Lib.hid hal
  rcases Nat.lt_or_ge i n with hin | hin
  ·subst hzi
   have k1 : (i : Int) < (n : Int) := by omega
   have k0 : (0 : Int) ≤ (i : Int) := Int.natCast_nonneg _
   have kb : (i : Int) ≤ 1000 := by have := hn1.out; omega
   obtain ⟨ga, hga, -, -⟩ := slq_at (hT.get (List.mem_cons_of_mem _ (List.mem_cons_of_mem _ List.mem_cons_self))) i (by rw [lx.out]; exact hin)
   subst hga
   obtain ⟨gb, hgb, -, -⟩ := slq_at (hT.get List.mem_cons_self) i (by rw [ly.out]; exact hin)
   subst hgb
   have hlx : i < x.length := by rw [lx.out]; exact hin
   have hly : i < y.length := by rw [ly.out]; exact hin
   replace hlx := Lib.hid hlx
   replace hly := Lib.hid hly
   go_wp2_with fail
   go_loopg [14, 16] i (fun gk bv kv wr2 => ∃ (k : Nat) (zk : Int) (bc : Bool), k + gk = i ∧ bv = .bool bc ∧ kv = .int .i64 zk ∧ zk = (k : Int) ∧ (bc = true ↔ alV x y i k) ∧ GL w wr2 [(x9.heap.size + 1 + 1, [.int .u64 ((zl xy.num : Nat) : Int), .string (zh xy.num), .bool (zs xy.num), .int .u64 ((lo (fe xy) : Nat) : Int), .string (hs (fe xy))]), (x9.heap.size + 1, [.int .u64 ((zl yy.num : Nat) : Int), .string (zh yy.num), .bool (zs yy.num), .int .u64 ((lo (fe yy) : Nat) : Int), .string (hs (fe yy))]), (x9.heap.size, [.int .u64 ((zl xx.num : Nat) : Int), .string (zh xx.num), .bool (zs xx.num), .int .u64 ((lo (fe xx) : Nat) : Int), .string (hs (fe xx))]), (w.heap.size, [.int .i64 n1, .int .u32 d1])] ∧ PTs wr2 [(.slice (some ⟨gb, 0, none⟩) n g3c, y), (.slice g2 n g2c, yb), (.slice (some ⟨ga, 0, none⟩) n g1c, x)])
   case atStart => exact ⟨0, 0, bb, Nat.zero_add i, rfl, by first | rfl | go_num, rfl, hal.out, hL0, hT⟩
   case round =>
    clear hL0 hT hal
    obtain ⟨k, zk, bc, hkk, rfl, rfl, hzk, hal, hL0, hT⟩ := hrel
    replace hal := Lib.hid hal
    rcases Nat.lt_or_ge k i with hki | hki
    ·subst hzk
     have m1 : (k : Int) < (i : Int) := by omega
     have m0 : (0 : Int) ≤ (k : Int) := Int.natCast_nonneg _
     have m2 : (k : Int) < (n : Int) := by omega
     have hlx2 : k < x.length := by rw [lx.out]; omega
     have hly2 : k < y.length := by rw [ly.out]; omega
     have HM1 := HMu.out i hin k (by omega)
     have HM2 := HMu.out k (by omega) i hin
     obtain ⟨t, ht⟩ : ∃ t, t = decide (gv x i * gv y k = gv x k * gv y i) := ⟨_, rfl⟩
     have heq := fun W => run_eqlF _ _ t ht W
     have hst : t = true ↔ alP x y i k := by rw [ht, decide_eq_true_iff]; exact Iff.rfl
     obtain ⟨a0, a1, a2, a3, a4⟩ := fsc (slq_fs (hT.get (List.mem_cons_of_mem _ (List.mem_cons_of_mem _ List.mem_cons_self))) (by have := hlx.out; omega)) i hlx.out
     obtain ⟨b0, b1, b2, b3, b4⟩ := fsc (slq_fs (hT.get List.mem_cons_self) (by have := hly.out; omega)) k hly2
     obtain ⟨c0, c1, c2, c3, c4⟩ := fsc (slq_fs (hT.get (List.mem_cons_of_mem _ (List.mem_cons_of_mem _ List.mem_cons_self))) (by have := hlx.out; omega)) k hlx2
     obtain ⟨d0, d1, d2, d3, d4⟩ := fsc (slq_fs (hT.get List.mem_cons_self) (by have := hly.out; omega)) i hly.out
     generalize gv x i * gv y k = p1 at *
     generalize gv x k * gv y i = p2 at *
     generalize gv x i = xi at *
     generalize gv y k = yk at *
     generalize gv x k = xk at *
     generalize gv y i = yi at *
     replace HM1 := Lib.hid HM1
     replace HM2 := Lib.hid HM2
     replace hst := Lib.hid hst
     clear ht hlx2 hly2
     cases bc with
     | true =>
      go_upto_region 17 with fail
      obtain ⟨α, iα, F, hF1, hF2⟩ := cls wr
      have aa0 := fun yz => keepsC (hF1 yz) a0
      have aa1 := fun yz => keepsC (hF1 yz) a1
      have aa2 := fun yz => keepsC (hF1 yz) a2
      have aa3 := fun yz => keepsC (hF1 yz) a3
      have aa4 := fun yz => keepsC (hF1 yz) a4
      have bb0 := fun yz => keepsC (hF1 yz) b0
      have bb1 := fun yz => keepsC (hF1 yz) b1
      have bb2 := fun yz => keepsC (hF1 yz) b2
      have bb3 := fun yz => keepsC (hF1 yz) b3
      have bb4 := fun yz => keepsC (hF1 yz) b4
      have cc0 := fun yz => keepsC (hF1 yz) c0
      have cc1 := fun yz => keepsC (hF1 yz) c1
      have cc2 := fun yz => keepsC (hF1 yz) c2
      have cc3 := fun yz => keepsC (hF1 yz) c3
      have cc4 := fun yz => keepsC (hF1 yz) c4
      have dd0 := fun yz => keepsC (hF1 yz) d0
      have dd1 := fun yz => keepsC (hF1 yz) d1
      have dd2 := fun yz => keepsC (hF1 yz) d2
      have dd3 := fun yz => keepsC (hF1 yz) d3
      have dd4 := fun yz => keepsC (hF1 yz) d4
      clear a0 a1 a2 a3 a4 b0 b1 b2 b3 b4 c0 c1 c2 c3 c4 d0 d1 d2 d3 d4
      refine region_cls (F := F) (by kernel_rfl) (lexB_of_fast (by kernel_rfl)) (cls_drew hF2) ?_
      repeat (go_big_quiet_step (first | fail | (go_at_call 36; with_reducible exact cls_call hF1 hF2 HM1.out _) | (go_at_call 36; with_reducible exact cls_call hF1 hF2 HM2.out _)))
      refine wpQuiet_nil ?_
      rintro wq ⟨xq, rfl⟩
      replace hL0 := hL0.call (hF1 xq)
      replace hT := hT.call (hF1 xq)
      clear aa0 aa1 aa2 aa3 aa4 bb0 bb1 bb2 bb3 bb4 cc0 cc1 cc2 cc3 cc4 dd0 dd1 dd2 dd3 dd4 hF2 heq
      generalize F xq = wy at hL0 hT ⊢
      clear hF1 xq iα F α
      go_wp2_with fail
      go_roundg (i - (k + 1))
      case measure => omega
      case rel => exact ⟨k + 1, _, t, by omega, rfl, by first | rfl | go_num, by omega, by rw [al_step, hst.out]; exact ⟨fun h => ⟨by first | exact hal.out.1 rfl | exact hal.out.1 trivial, h⟩, fun h => h.2⟩, hL0, hT⟩
     | false =>
      clear heq a0 a1 a2 a3 a4 b0 b1 b2 b3 b4 c0 c1 c2 c3 c4 d0 d1 d2 d3 d4
      go_upto_region 17 with fail
      obtain ⟨α, iα, F, hF1, hF2⟩ := cls wr
      refine region_cls (F := F) (by kernel_rfl) (lexB_of_fast (by kernel_rfl)) (cls_drew hF2) ?_
      repeat (go_big_quiet_step (first | fail))
      refine wpQuiet_nil ?_
      rintro wq ⟨xq, rfl⟩
      replace hL0 := hL0.call (hF1 xq)
      replace hT := hT.call (hF1 xq)
      clear hF2
      generalize F xq = wy at hL0 hT ⊢
      clear hF1 xq iα F α
      go_wp2_with fail
      go_roundg (i - (k + 1))
      case measure => omega
      case rel => exact ⟨k + 1, _, false, by omega, rfl, by first | rfl | go_num, by omega, by rw [al_step]; exact ⟨(fun h => by cases h), fun h => by first | exact hal.out.2 h.1 | exact (hal.out.2 h.1).elim⟩, hL0, hT⟩
    ·obtain rfl : i = k := by omega
     subst hzk
     have m1 : ¬ (i : Int) < (i : Int) := by omega
     go_wp2_with fail
     go_roundg (n - (i + 1))
     case measure => omega
     case rel => exact ⟨i + 1, _, bc, by omega, rfl, by first | rfl | go_num, by omega, hal.out.trans al_next, hL0, hT⟩
  ·obtain rfl : n = i := by omega
   subst hzi
   have k1 : ¬ (n : Int) < (n : Int) := by omega
   obtain rfl : bb = true := hal.out.2 hta.out
   have hbb : true = decide (lf = rg) := Bool.eq_iff_iff.2 (by rw [decide_eq_true_iff]; exact hal.out.trans hce.out)
   have heqv := fun W => run_eqlF lf rg true hbb W
   replace hbb := Lib.hid hbb
   go_upto_region 18 with fail
   refine region_gh (by kernel_rfl) (by kernel_rfl) ?_
   refine lex_seg (gl := []) 6 (by kernel_rfl) ?_
   intro α iα F hF1 hF2
   have hq := GL.seg hF1 hL0
   simp only [fcC, cellsC, and_true, Nat.zero_add, Nat.reduceAdd] at hq
   simp only [List.take_succ_cons, List.take_zero, List.drop_succ_cons, List.drop_zero, List.take_nil, List.drop_nil]
   repeat (go_big_quiet_step (first | fail | (go_at_call 36; with_reducible exact seg_call hF2 F1.out _) | (go_at_call 36; with_reducible exact seg_call hF2 F2.out _)))
   refine wpQuiet_nil ?_
   clear hq hF1 hF2 iα F α
   refine lex_new [.int .u64 0, .string ⟨#[]⟩, .bool false, .int .u64 0, .string ⟨#[]⟩] 17 38 38 rfl rfl (of_decide_eq_true (by kernel_rfl)) (by kernel_rfl) rfl new_frac ?_
   simp only [Act.put, List.setIfInBounds_toArray, List.set_cons_succ, List.set_cons_zero]
   refine lex_new [.int .u64 0, .string ⟨#[]⟩, .bool false, .int .u64 0, .string ⟨#[]⟩] 18 38 38 rfl rfl (of_decide_eq_true (by kernel_rfl)) (by kernel_rfl) rfl new_frac ?_
   simp only [Act.put, List.setIfInBounds_toArray, List.set_cons_succ, List.set_cons_zero]
   refine lex_put [.int .u64 ((zl lf.num : Nat) : Int), .string (zh lf.num), .bool (zs lf.num), .int .u64 ((lo (fe lf) : Nat) : Int), .string (hs (fe lf))] [.int .u64 0, .string ⟨#[]⟩, .bool false, .int .u64 0, .string ⟨#[]⟩] 17 38 (.tmp 94) rfl (by kernel_rfl) (by simp [toG, upd]) rfl (fun w k h => put_frac _ _ _ _ _ _ _ _ _ _ w k h) ?_
   simp only [Act.put]
   refine lex_put [.int .u64 ((zl rg.num : Nat) : Int), .string (zh rg.num), .bool (zs rg.num), .int .u64 ((lo (fe rg) : Nat) : Int), .string (hs (fe rg))] [.int .u64 0, .string ⟨#[]⟩, .bool false, .int .u64 0, .string ⟨#[]⟩] 18 38 (.tmp 97) rfl (by kernel_rfl) (by simp [toG, upd]) rfl (fun w k h => put_frac _ _ _ _ _ _ _ _ _ _ w k h) ?_
   simp only [Act.put]
   refine lexG_nil ?_
   intro κ x11 hSim
   replace hL0 := hL0.ghs hSim [(18, [.int .u64 ((zl rg.num : Nat) : Int), .string (zh rg.num), .bool (zs rg.num), .int .u64 ((lo (fe rg) : Nat) : Int), .string (hs (fe rg))]), (17, [.int .u64 ((zl lf.num : Nat) : Int), .string (zh lf.num), .bool (zs lf.num), .int .u64 ((lo (fe lf) : Nat) : Int), .string (hs (fe lf))])] (by simp) (by intro p hp; simp only [List.mem_cons, List.not_mem_nil, or_false] at hp; rcases hp with rfl | rfl <;> exact ⟨_, by simp only [toG, upd]; rfl⟩)
   simp only [List.map_cons, List.map_nil, List.cons_append, List.nil_append] at hL0
   simp only [over_toG, over_nil, Act.put, List.setIfInBounds_toArray, List.set_cons_succ, List.set_cons_zero]
   replace hT := hT.call (below_drew hSim.base)
   clear hSim
   generalize κ 18 = k11_18 at *
   generalize κ 17 = k11_17 at *
   have hN0 := cells_of _ 0 [] rfl (hL0.get _ _ List.mem_cons_self)
   simp only [cellsF, and_true, Nat.zero_add, Nat.reduceAdd] at hN0
   have hN1 := cells_of _ 0 [] rfl (hL0.get _ _ (List.mem_cons_of_mem _ List.mem_cons_self))
   simp only [cellsF, and_true, Nat.zero_add, Nat.reduceAdd] at hN1
   go_wp2_with fail
   clear hN0 hN1
   with_reducible refine Calls.mono (C1.out _) ?_
   rintro e x12 ⟨rfl, hb⟩
   replace hL0 := hL0.call hb
   replace hT := hT.call hb
   clear hb
   have hN0 := cells_of _ 0 [] rfl (hL0.get _ _ List.mem_cons_self)
   simp only [cellsF, and_true, Nat.zero_add, Nat.reduceAdd] at hN0
   have hN1 := cells_of _ 0 [] rfl (hL0.get _ _ (List.mem_cons_of_mem _ List.mem_cons_self))
   simp only [cellsF, and_true, Nat.zero_add, Nat.reduceAdd] at hN1
   go_wp2_with fail
   clear hN0 hN1
   go_loopg [19, 20] n (fun gk bv iv wr => ∃ (i : Nat) (zi : Int) (bn : Bool), i + gk = n ∧ bv = .bool bn ∧ iv = .int .i64 zi ∧ zi = (i : Int) ∧ (bn = true ↔ noneV x i) ∧ GL w wr [(k11_18, [.int .u64 ((zl rg.num : Nat) : Int), .string (zh rg.num), .bool (zs rg.num), .int .u64 ((lo (fe rg) : Nat) : Int), .string (hs (fe rg))]), (k11_17, [.int .u64 ((zl lf.num : Nat) : Int), .string (zh lf.num), .bool (zs lf.num), .int .u64 ((lo (fe lf) : Nat) : Int), .string (hs (fe lf))]), (x9.heap.size + 1 + 1, [.int .u64 ((zl xy.num : Nat) : Int), .string (zh xy.num), .bool (zs xy.num), .int .u64 ((lo (fe xy) : Nat) : Int), .string (hs (fe xy))]), (x9.heap.size + 1, [.int .u64 ((zl yy.num : Nat) : Int), .string (zh yy.num), .bool (zs yy.num), .int .u64 ((lo (fe yy) : Nat) : Int), .string (hs (fe yy))]), (x9.heap.size, [.int .u64 ((zl xx.num : Nat) : Int), .string (zh xx.num), .bool (zs xx.num), .int .u64 ((lo (fe xx) : Nat) : Int), .string (hs (fe xx))]), (w.heap.size, [.int .i64 n1, .int .u32 d1])] ∧ PTs wr [(.slice g3 n g3c, y), (.slice g2 n g2c, yb), (.slice g1 n g1c, x)])
   case atStart => exact ⟨0, 0, true, Nat.zero_add n, rfl, by first | rfl | go_num, rfl, ⟨fun _ => none_zero _, fun _ => rfl⟩, hL0, hT⟩
   case round =>
    clear hL0 hT
    obtain ⟨i, zi, bn, hik, rfl, rfl, hzi, hno, hL0, hT⟩ := hrel
    replace hno := Lib.hid hno
    rcases Nat.lt_or_ge i n with hin | hin
    ·subst hzi
     have k1 : (i : Int) < (n : Int) := by omega
     have k0 : (0 : Int) ≤ (i : Int) := Int.natCast_nonneg _
     have kb : (i : Int) ≤ 1000 := by have := hn1.out; omega
     obtain ⟨ga, hga, -, ff⟩ := slq_at (hT.get (List.mem_cons_of_mem _ (List.mem_cons_of_mem _ List.mem_cons_self))) i (by rw [lx.out]; exact hin)
     subst hga
     have hlx : i < x.length := by rw [lx.out]; exact hin
     obtain ⟨sg, hsg, HS1⟩ := HSg.out i hin
     obtain ⟨f0, f1, f2, f3, f4⟩ := fsc ff i hlx
     have hst := none_step (x := x) (i := i)
     rw [← hsg] at hst
     obtain ⟨t, ht⟩ : ∃ t, t = (sg == 0) := ⟨_, rfl⟩
     have e1 : (sg == 0) = t := ht.symm
     have e2 : decide (sg = 0) = t := by rw [ht]; rfl
     have hst2 : t = true ↔ sg = 0 := by rw [ht]; simp
     generalize gv x i = xi at *
     replace HS1 := Lib.hid HS1
     replace hst := Lib.hid hst
     replace hst2 := Lib.hid hst2
     clear ht hsg ff hlx
     cases bn with
     | true =>
      go_wp2_with fail
      with_reducible refine Calls.mono (HS1.out _) ?_
      rintro e yy ⟨rfl, hb⟩
      replace hL0 := hL0.call hb
      replace hT := hT.call hb
      clear hb
      go_wp2_with fail
      go_roundg (n - (i + 1))
      case measure => omega
      case rel => exact ⟨i + 1, _, t, by omega, rfl, by first | rfl | go_num, by omega, by rw [hst.out, hst2.out]; exact ⟨fun h => ⟨by first | exact hno.out.1 rfl | exact hno.out.1 trivial, h⟩, fun h => h.2⟩, hL0, hT⟩
     | false =>
      clear e1 e2 f0 f1 f2 f3 f4
      go_wp2_with fail
      go_roundg (n - (i + 1))
      case measure => omega
      case rel => exact ⟨i + 1, _, false, by omega, rfl, by first | rfl | go_num, by omega, by rw [hst.out]; exact ⟨(fun h => by cases h), fun h => by first | exact hno.out.2 h.1 | exact (hno.out.2 h.1).elim⟩, hL0, hT⟩
    ·obtain rfl : n = i := by omega
     subst hzi
     have k1 : ¬ (n : Int) < (n : Int) := by omega
     have hx0 : bn = true ↔ sx = 0 := hno.out.trans hsn.out.symm
     have hx1 : (sx == 0) = bn := Bool.eq_iff_iff.2 (by rw [hx0]; simp)
     have hx2 : decide (sx = 0) = bn := Bool.eq_iff_iff.2 (by rw [hx0, decide_eq_true_iff])
     replace hx0 := Lib.hid hx0
     have hN0 := cells_of _ 0 [] rfl (hL0.get _ _ (List.mem_cons_of_mem _ (List.mem_cons_of_mem _ (List.mem_cons_of_mem _ (List.mem_cons_of_mem _ List.mem_cons_self)))))
     simp only [cellsF, and_true, Nat.zero_add, Nat.reduceAdd] at hN0
     go_wp2_with fail
     clear hN0
     with_reducible refine Calls.mono (S1.out _) ?_
     rintro e x13 ⟨rfl, hb⟩
     replace hL0 := hL0.call hb
     replace hT := hT.call hb
     clear hb
     have hN0 := cells_of _ 0 [] rfl (hL0.get _ _ (List.mem_cons_of_mem _ (List.mem_cons_of_mem _ (List.mem_cons_of_mem _ (List.mem_cons_of_mem _ List.mem_cons_self)))))
     simp only [cellsF, and_true, Nat.zero_add, Nat.reduceAdd] at hN0
     go_wp2_with fail
     clear hN0
     with_reducible refine Calls.mono (S1.out _) ?_
     rintro e x14 ⟨rfl, hb⟩
     replace hL0 := hL0.call hb
     replace hT := hT.call hb
     clear hb
     go_wp2_with fail
     with_reducible refine Calls.mono (HW.out _ (hKT.out.at hL0.bl kKT)) ?_
     rintro e x15 ⟨rfl, hb⟩
     replace hL0 := hL0.call hb
     replace hT := hT.call hb
     clear hb
     go_wp2_with fail
     exact bodyPost_ret (v := .bool true) (by simp [results, Tryz.results6, go_sem]) rfl ⟨rfl, hL0.bl⟩
set_option maxHeartbeats 16000000 in
set_option maxRecDepth 100000 in
theorem vcauchy_f1 (al am : Option Addr) (nl cl nm cm n : Nat) (n1 d1 : Int)  (KT : World → Prop) (hKT : Keeps KT) (HW : ∀ w, KT w → Calls Tryz.prog 12 #[] w fun xe w' => xe = .returned (.bool true) ∧ Below w.heap.size w w') (l_nl : decide ((12 : Int) < ((nl : Nat) : Int)) = true) (k_nl : decide (12 < nl) = true) (w : World) (kKT : KT w) :
  Calls Tryz.prog 6 #[.slice al nl cl, .slice am nm cm, .agg #[.int .i64 n1, .int .u32 d1], .bool false] w fun e w' => e = .returned (.bool true) ∧ Below w.heap.size w w' := by
 replace hKT := Lib.hid hKT
 replace HW := Lib.hid HW
 have hL0 : GL w w [] := GL.start w
 have hT : PTs w [] := PTs.nil w
 replace hT := (hT.new (.cells #[.int .i64 n1, .int .u32 d1] 24))
 replace hL0 := (hL0.new rfl [.int .i64 n1, .int .u32 d1] 24)
 generalize hweq : (w.alloc (.cells #[.int .i64 n1, .int .u32 d1] 24)) = x1 at hL0 hT
 go_enter Tryz.func6, Tryz.ntmps6
 go_wp2_with fail
 with_reducible refine Calls.mono (HW.out _ (hKT.out.at hL0.bl kKT)) ?_
 rintro e x2 ⟨rfl, hb⟩
 replace hL0 := hL0.call hb
 replace hT := hT.call hb
 clear hb hweq
 go_wp2_with fail
 exact bodyPost_ret (v := .bool true) (by simp [results, Tryz.results6, go_sem]) rfl ⟨rfl, hL0.bl⟩
set_option maxHeartbeats 16000000 in
set_option maxRecDepth 100000 in
theorem vcauchy_f2 (al am : Option Addr) (nl cl nm cm n : Nat) (n1 d1 : Int)  (KT : World → Prop) (hKT : Keeps KT) (HW : ∀ w, KT w → Calls Tryz.prog 12 #[] w fun xe w' => xe = .returned (.bool true) ∧ Below w.heap.size w w') (l_nl : decide ((12 : Int) < ((nl : Nat) : Int)) = false) (k_nl : decide (12 < nl) = false) (l_nm : decide ((12 : Int) < ((nm : Nat) : Int)) = true) (k_nm : decide (12 < nm) = true) (w : World) (kKT : KT w) :
  Calls Tryz.prog 6 #[.slice al nl cl, .slice am nm cm, .agg #[.int .i64 n1, .int .u32 d1], .bool false] w fun e w' => e = .returned (.bool true) ∧ Below w.heap.size w w' := by
 replace hKT := Lib.hid hKT
 replace HW := Lib.hid HW
 have hL0 : GL w w [] := GL.start w
 have hT : PTs w [] := PTs.nil w
 replace hT := (hT.new (.cells #[.int .i64 n1, .int .u32 d1] 24))
 replace hL0 := (hL0.new rfl [.int .i64 n1, .int .u32 d1] 24)
 generalize hweq : (w.alloc (.cells #[.int .i64 n1, .int .u32 d1] 24)) = x1 at hL0 hT
 go_enter Tryz.func6, Tryz.ntmps6
 go_wp2_with fail
 with_reducible refine Calls.mono (HW.out _ (hKT.out.at hL0.bl kKT)) ?_
 rintro e x2 ⟨rfl, hb⟩
 replace hL0 := hL0.call hb
 replace hT := hT.call hb
 clear hb hweq
 go_wp2_with fail
 exact bodyPost_ret (v := .bool true) (by simp [results, Tryz.results6, go_sem]) rfl ⟨rfl, hL0.bl⟩
set_option maxHeartbeats 16000000 in
set_option maxRecDepth 100000 in
theorem vcauchy_fw (al am : Option Addr) (nl cl nm cm n : Nat) (n1 d1 : Int) (x y : List Rat) (xx yy xy lf rg : Rat) (c1 sx : Int) (HCu : ∀ w, Calls Tryz.prog 13 #[.slice al nl cl, .slice am nm cm] w fun xe w' => xe = .returned (.tuple #[.slice al n cl, .slice am n cm]) ∧ Below w.heap.size w w') (KL : World → Prop) (hKL : Keeps KL) (HVa : ∀ (w : World), KL w → Calls Tryz.prog 14 #[.slice al n cl] w fun e w' => ∃ pv, e = .returned pv ∧ PT w' pv x ∧ Below w.heap.size w w') (KM : World → Prop) (hKM : Keeps KM) (HVb : ∀ (w : World), KM w → Calls Tryz.prog 14 #[.slice am n cm] w fun e w' => ∃ pv, e = .returned pv ∧ PT w' pv y ∧ Below w.heap.size w w') (D1 : ∀ (p0 p1 : Value) (w : World), PT w p0 x → PT w p1 x → Calls Tryz.prog 43 #[p0, p1] w fun e w' => e = .returned (fracV xx) ∧ Below w.heap.size w w') (D2 : ∀ (p0 p1 : Value) (w : World), PT w p0 y → PT w p1 y → Calls Tryz.prog 43 #[p0, p1] w fun e w' => e = .returned (fracV yy) ∧ Below w.heap.size w w') (D3 : ∀ (p0 p1 : Value) (w : World), PT w p0 x → PT w p1 y → Calls Tryz.prog 43 #[p0, p1] w fun e w' => e = .returned (fracV xy) ∧ Below w.heap.size w w') (F1 : ∀ w, Calls Tryz.prog 36 #[fracV xy, fracV xy] w fun xe w' => xe = .returned (fracV lf) ∧ Below w.heap.size w w') (F2 : ∀ w, Calls Tryz.prog 36 #[fracV xx, fracV yy] w fun xe w' => xe = .returned (fracV rg) ∧ Below w.heap.size w w') (C1 : ∀ w, Calls Tryz.prog 44 #[fracV lf, fracV rg] w fun xe w' => xe = .returned (.int .i64 c1) ∧ Below w.heap.size w w') (S1 : ∀ w, Calls Tryz.prog 45 #[fracV xx] w fun xe w' => xe = .returned (.int .i64 sx) ∧ Below w.heap.size w w') (KT : World → Prop) (hKT : Keeps KT) (HW : ∀ w, KT w → Calls Tryz.prog 12 #[] w fun xe w' => xe = .returned (.bool true) ∧ Below w.heap.size w w') (l_nl : decide ((12 : Int) < ((nl : Nat) : Int)) = false) (k_nl : decide (12 < nl) = false) (l_nm : decide ((12 : Int) < ((nm : Nat) : Int)) = false) (k_nm : decide (12 < nm) = false) (lx : x.length = n) (ly : y.length = n) (hn1 : n ≤ 20) (hc1 : decide (0 < c1) = false) (hd1 : c1 ≤ 0) (hce : alV x y n 0 ↔ lf = rg) (hsn : sx = 0 ↔ noneV x n) (hs0 : 0 ≤ sx) (HMu : ∀ i, i < n → ∀ k, k < n → ∀ w, Calls Tryz.prog 36 #[fracV (gv x i), fracV (gv y k)] w fun xe w' => xe = .returned (fracV (gv x i * gv y k)) ∧ Below w.heap.size w w') (HSg : ∀ i, i < n → ∃ sg : Int, (sg = 0 ↔ gv x i = 0) ∧ ∀ w, Calls Tryz.prog 45 #[fracV (gv x i)] w fun xe w' => xe = .returned (.int .i64 sg) ∧ Below w.heap.size w w') (w : World) (kKL : KL w) (kKM : KM w) (kKT : KT w) :
  Calls Tryz.prog 6 #[.slice al nl cl, .slice am nm cm, .agg #[.int .i64 n1, .int .u32 d1], .bool false] w fun e w' => e = .returned (.bool true) ∧ Below w.heap.size w w' := by
 replace HCu := Lib.hid HCu
 replace hKL := Lib.hid hKL
 replace HVa := Lib.hid HVa
 replace hKM := Lib.hid hKM
 replace HVb := Lib.hid HVb
 replace D1 := Lib.hid D1
 replace D2 := Lib.hid D2
 replace D3 := Lib.hid D3
 replace F1 := Lib.hid F1
 replace F2 := Lib.hid F2
 replace C1 := Lib.hid C1
 replace S1 := Lib.hid S1
 replace hKT := Lib.hid hKT
 replace HW := Lib.hid HW
 have hL0 : GL w w [] := GL.start w
 have hT : PTs w [] := PTs.nil w
 replace lx := Lib.hid lx
 replace ly := Lib.hid ly
 replace hn1 := Lib.hid hn1
 replace hce := Lib.hid hce
 replace hsn := Lib.hid hsn
 replace HMu := Lib.hid HMu
 replace HSg := Lib.hid HSg
 replace hT := (hT.new (.cells #[.int .i64 n1, .int .u32 d1] 24))
 replace hL0 := (hL0.new rfl [.int .i64 n1, .int .u32 d1] 24)
 generalize hweq : (w.alloc (.cells #[.int .i64 n1, .int .u32 d1] 24)) = x1 at hL0 hT
 go_enter Tryz.func6, Tryz.ntmps6
 go_wp2_with fail
 with_reducible refine Calls.mono (HCu.out _) ?_
 rintro e x2 ⟨rfl, hb⟩
 replace hL0 := hL0.call hb
 replace hT := hT.call hb
 clear hb hweq
 go_wp2_with fail
 with_reducible refine Calls.mono (HVa.out _ (hKL.out.at (hL0.bl) kKL)) ?_
 rintro e x3 ⟨v0, rfl, q0, hb⟩
 replace hL0 := hL0.call hb
 replace hT := hT.call hb
 clear hb
 obtain ⟨g1, g1c, rfl⟩ := ptn_form q0 lx.out
 replace hT := hT.cons q0
 clear q0
 go_wp2_with fail
 with_reducible refine Calls.mono (HVb.out _ (hKM.out.at (hL0.bl) kKM)) ?_
 rintro e x4 ⟨v0, rfl, q0, hb⟩
 replace hL0 := hL0.call hb
 replace hT := hT.call hb
 clear hb
 obtain ⟨g2, g2c, rfl⟩ := ptn_form q0 ly.out
 replace hT := hT.cons q0
 clear q0
 go_wp2_with fail
 with_reducible refine Calls.mono (D1.out (.slice g1 n g1c) (.slice g1 n g1c) _ (hT.get (List.mem_cons_of_mem _ List.mem_cons_self)) (hT.get (List.mem_cons_of_mem _ List.mem_cons_self))) ?_
 rintro e x5 ⟨rfl, hb⟩
 replace hL0 := hL0.call hb
 replace hT := hT.call hb
 clear hb
 go_wp2_with fail
 with_reducible refine Calls.mono (D2.out (.slice g2 n g2c) (.slice g2 n g2c) _ (hT.get List.mem_cons_self) (hT.get List.mem_cons_self)) ?_
 rintro e x6 ⟨rfl, hb⟩
 replace hL0 := hL0.call hb
 replace hT := hT.call hb
 clear hb
 go_wp2_with fail
 with_reducible refine Calls.mono (D3.out (.slice g1 n g1c) (.slice g2 n g2c) _ (hT.get (List.mem_cons_of_mem _ List.mem_cons_self)) (hT.get List.mem_cons_self)) ?_
 rintro e x7 ⟨rfl, hb⟩
 replace hL0 := hL0.call hb
 replace hT := hT.call hb
 clear hb
 replace hT := (((hT.new (.cells #[.int .u64 ((zl xx.num : Nat) : Int), .string (zh xx.num), .bool (zs xx.num), .int .u64 ((lo (fe xx) : Nat) : Int), .string (hs (fe xx))] 38)).new (.cells #[.int .u64 ((zl yy.num : Nat) : Int), .string (zh yy.num), .bool (zs yy.num), .int .u64 ((lo (fe yy) : Nat) : Int), .string (hs (fe yy))] 38)).new (.cells #[.int .u64 ((zl xy.num : Nat) : Int), .string (zh xy.num), .bool (zs xy.num), .int .u64 ((lo (fe xy) : Nat) : Int), .string (hs (fe xy))] 38))
 replace hL0 := (((hL0.new rfl [.int .u64 ((zl xx.num : Nat) : Int), .string (zh xx.num), .bool (zs xx.num), .int .u64 ((lo (fe xx) : Nat) : Int), .string (hs (fe xx))] 38).new (K := x7.heap.size + 1) (szA _ _) [.int .u64 ((zl yy.num : Nat) : Int), .string (zh yy.num), .bool (zs yy.num), .int .u64 ((lo (fe yy) : Nat) : Int), .string (hs (fe yy))] 38).new (K := x7.heap.size + 1 + 1) (by simp only [World.size_alloc]) [.int .u64 ((zl xy.num : Nat) : Int), .string (zh xy.num), .bool (zs xy.num), .int .u64 ((lo (fe xy) : Nat) : Int), .string (hs (fe xy))] 38)
 generalize hweq : (((x7.alloc (.cells #[.int .u64 ((zl xx.num : Nat) : Int), .string (zh xx.num), .bool (zs xx.num), .int .u64 ((lo (fe xx) : Nat) : Int), .string (hs (fe xx))] 38)).alloc (.cells #[.int .u64 ((zl yy.num : Nat) : Int), .string (zh yy.num), .bool (zs yy.num), .int .u64 ((lo (fe yy) : Nat) : Int), .string (hs (fe yy))] 38)).alloc (.cells #[.int .u64 ((zl xy.num : Nat) : Int), .string (zh xy.num), .bool (zs xy.num), .int .u64 ((lo (fe xy) : Nat) : Int), .string (hs (fe xy))] 38)) = x8 at hL0 hT
 go_wp2_with fail
 clear hweq
 go_loopg [14, 15] n (fun gk bv iv wr => ∃ (i : Nat) (zi : Int) (bb : Bool), i + gk = n ∧ bv = .bool bb ∧ iv = .int .i64 zi ∧ zi = (i : Int) ∧ (bb = true ↔ alV x y i 0) ∧ GL w wr [(x7.heap.size + 1 + 1, [.int .u64 ((zl xy.num : Nat) : Int), .string (zh xy.num), .bool (zs xy.num), .int .u64 ((lo (fe xy) : Nat) : Int), .string (hs (fe xy))]), (x7.heap.size + 1, [.int .u64 ((zl yy.num : Nat) : Int), .string (zh yy.num), .bool (zs yy.num), .int .u64 ((lo (fe yy) : Nat) : Int), .string (hs (fe yy))]), (x7.heap.size, [.int .u64 ((zl xx.num : Nat) : Int), .string (zh xx.num), .bool (zs xx.num), .int .u64 ((lo (fe xx) : Nat) : Int), .string (hs (fe xx))]), (w.heap.size, [.int .i64 n1, .int .u32 d1])] ∧ PTs wr [(.slice g2 n g2c, y), (.slice g1 n g1c, x)])
 case atStart => exact ⟨0, 0, true, Nat.zero_add n, rfl, by first | rfl | go_num, rfl, ⟨fun _ => al_zero _ _, fun _ => rfl⟩, hL0, hT⟩
 case round =>
  clear hL0 hT
  obtain ⟨i, zi, bb, hik, rfl, rfl, hzi, hal, hL0, hT⟩ := hrel
  replace hal := Lib.hid hal
  rcases Nat.lt_or_ge i n with hin | hin
  ·subst hzi
   have k1 : (i : Int) < (n : Int) := by omega
   have k0 : (0 : Int) ≤ (i : Int) := Int.natCast_nonneg _
   have kb : (i : Int) ≤ 1000 := by have := hn1.out; omega
   obtain ⟨ga, hga, -, -⟩ := slq_at (hT.get (List.mem_cons_of_mem _ List.mem_cons_self)) i (by rw [lx.out]; exact hin)
   subst hga
   obtain ⟨gb, hgb, -, -⟩ := slq_at (hT.get List.mem_cons_self) i (by rw [ly.out]; exact hin)
   subst hgb
   have hlx : i < x.length := by rw [lx.out]; exact hin
   have hly : i < y.length := by rw [ly.out]; exact hin
   replace hlx := Lib.hid hlx
   replace hly := Lib.hid hly
   go_wp2_with fail
   go_loopg [14, 16] i (fun gk bv kv wr2 => ∃ (k : Nat) (zk : Int) (bc : Bool), k + gk = i ∧ bv = .bool bc ∧ kv = .int .i64 zk ∧ zk = (k : Int) ∧ (bc = true ↔ alV x y i k) ∧ GL w wr2 [(x7.heap.size + 1 + 1, [.int .u64 ((zl xy.num : Nat) : Int), .string (zh xy.num), .bool (zs xy.num), .int .u64 ((lo (fe xy) : Nat) : Int), .string (hs (fe xy))]), (x7.heap.size + 1, [.int .u64 ((zl yy.num : Nat) : Int), .string (zh yy.num), .bool (zs yy.num), .int .u64 ((lo (fe yy) : Nat) : Int), .string (hs (fe yy))]), (x7.heap.size, [.int .u64 ((zl xx.num : Nat) : Int), .string (zh xx.num), .bool (zs xx.num), .int .u64 ((lo (fe xx) : Nat) : Int), .string (hs (fe xx))]), (w.heap.size, [.int .i64 n1, .int .u32 d1])] ∧ PTs wr2 [(.slice (some ⟨gb, 0, none⟩) n g2c, y), (.slice (some ⟨ga, 0, none⟩) n g1c, x)])
   case atStart => exact ⟨0, 0, bb, Nat.zero_add i, rfl, by first | rfl | go_num, rfl, hal.out, hL0, hT⟩
   case round =>
    clear hL0 hT hal
    obtain ⟨k, zk, bc, hkk, rfl, rfl, hzk, hal, hL0, hT⟩ := hrel
    replace hal := Lib.hid hal
    rcases Nat.lt_or_ge k i with hki | hki
    ·subst hzk
     have m1 : (k : Int) < (i : Int) := by omega
     have m0 : (0 : Int) ≤ (k : Int) := Int.natCast_nonneg _
     have m2 : (k : Int) < (n : Int) := by omega
     have hlx2 : k < x.length := by rw [lx.out]; omega
     have hly2 : k < y.length := by rw [ly.out]; omega
     have HM1 := HMu.out i hin k (by omega)
     have HM2 := HMu.out k (by omega) i hin
     obtain ⟨t, ht⟩ : ∃ t, t = decide (gv x i * gv y k = gv x k * gv y i) := ⟨_, rfl⟩
     have heq := fun W => run_eqlF _ _ t ht W
     have hst : t = true ↔ alP x y i k := by rw [ht, decide_eq_true_iff]; exact Iff.rfl
     obtain ⟨a0, a1, a2, a3, a4⟩ := fsc (slq_fs (hT.get (List.mem_cons_of_mem _ List.mem_cons_self)) (by have := hlx.out; omega)) i hlx.out
     obtain ⟨b0, b1, b2, b3, b4⟩ := fsc (slq_fs (hT.get List.mem_cons_self) (by have := hly.out; omega)) k hly2
     obtain ⟨c0, c1, c2, c3, c4⟩ := fsc (slq_fs (hT.get (List.mem_cons_of_mem _ List.mem_cons_self)) (by have := hlx.out; omega)) k hlx2
     obtain ⟨d0, d1, d2, d3, d4⟩ := fsc (slq_fs (hT.get List.mem_cons_self) (by have := hly.out; omega)) i hly.out
     generalize gv x i * gv y k = p1 at *
     generalize gv x k * gv y i = p2 at *
     generalize gv x i = xi at *
     generalize gv y k = yk at *
     generalize gv x k = xk at *
     generalize gv y i = yi at *
     replace HM1 := Lib.hid HM1
     replace HM2 := Lib.hid HM2
     replace hst := Lib.hid hst
     clear ht hlx2 hly2
     cases bc with
     | true =>
      go_upto_region 17 with fail
      obtain ⟨α, iα, F, hF1, hF2⟩ := cls wr
      have aa0 := fun yz => keepsC (hF1 yz) a0
      have aa1 := fun yz => keepsC (hF1 yz) a1
      have aa2 := fun yz => keepsC (hF1 yz) a2
      have aa3 := fun yz => keepsC (hF1 yz) a3
      have aa4 := fun yz => keepsC (hF1 yz) a4
      have bb0 := fun yz => keepsC (hF1 yz) b0
      have bb1 := fun yz => keepsC (hF1 yz) b1
      have bb2 := fun yz => keepsC (hF1 yz) b2
      have bb3 := fun yz => keepsC (hF1 yz) b3
      have bb4 := fun yz => keepsC (hF1 yz) b4
      have cc0 := fun yz => keepsC (hF1 yz) c0
      have cc1 := fun yz => keepsC (hF1 yz) c1
      have cc2 := fun yz => keepsC (hF1 yz) c2
      have cc3 := fun yz => keepsC (hF1 yz) c3
      have cc4 := fun yz => keepsC (hF1 yz) c4
      have dd0 := fun yz => keepsC (hF1 yz) d0
      have dd1 := fun yz => keepsC (hF1 yz) d1
      have dd2 := fun yz => keepsC (hF1 yz) d2
      have dd3 := fun yz => keepsC (hF1 yz) d3
      have dd4 := fun yz => keepsC (hF1 yz) d4
      clear a0 a1 a2 a3 a4 b0 b1 b2 b3 b4 c0 c1 c2 c3 c4 d0 d1 d2 d3 d4
      refine region_cls (F := F) (by kernel_rfl) (lexB_of_fast (by kernel_rfl)) (cls_drew hF2) ?_
      repeat (go_big_quiet_step (first | fail | (go_at_call 36; with_reducible exact cls_call hF1 hF2 HM1.out _) | (go_at_call 36; with_reducible exact cls_call hF1 hF2 HM2.out _)))
      refine wpQuiet_nil ?_
      rintro wq ⟨xq, rfl⟩
      replace hL0 := hL0.call (hF1 xq)
      replace hT := hT.call (hF1 xq)
      clear aa0 aa1 aa2 aa3 aa4 bb0 bb1 bb2 bb3 bb4 cc0 cc1 cc2 cc3 cc4 dd0 dd1 dd2 dd3 dd4 hF2 heq
      generalize F xq = wy at hL0 hT ⊢
      clear hF1 xq iα F α
      go_wp2_with fail
      go_roundg (i - (k + 1))
      case measure => omega
      case rel => exact ⟨k + 1, _, t, by omega, rfl, by first | rfl | go_num, by omega, by rw [al_step, hst.out]; exact ⟨fun h => ⟨by first | exact hal.out.1 rfl | exact hal.out.1 trivial, h⟩, fun h => h.2⟩, hL0, hT⟩
     | false =>
      clear heq a0 a1 a2 a3 a4 b0 b1 b2 b3 b4 c0 c1 c2 c3 c4 d0 d1 d2 d3 d4
      go_upto_region 17 with fail
      obtain ⟨α, iα, F, hF1, hF2⟩ := cls wr
      refine region_cls (F := F) (by kernel_rfl) (lexB_of_fast (by kernel_rfl)) (cls_drew hF2) ?_
      repeat (go_big_quiet_step (first | fail))
      refine wpQuiet_nil ?_
      rintro wq ⟨xq, rfl⟩
      replace hL0 := hL0.call (hF1 xq)
      replace hT := hT.call (hF1 xq)
      clear hF2
      generalize F xq = wy at hL0 hT ⊢
      clear hF1 xq iα F α
      go_wp2_with fail
      go_roundg (i - (k + 1))
      case measure => omega
      case rel => exact ⟨k + 1, _, false, by omega, rfl, by first | rfl | go_num, by omega, by rw [al_step]; exact ⟨(fun h => by cases h), fun h => by first | exact hal.out.2 h.1 | exact (hal.out.2 h.1).elim⟩, hL0, hT⟩
    ·obtain rfl : i = k := by omega
     subst hzk
     have m1 : ¬ (i : Int) < (i : Int) := by omega
     go_wp2_with fail
     go_roundg (n - (i + 1))
     case measure => omega
     case rel => exact ⟨i + 1, _, bc, by omega, rfl, by first | rfl | go_num, by omega, hal.out.trans al_next, hL0, hT⟩
  ·obtain rfl : n = i := by omega
   subst hzi
   have k1 : ¬ (n : Int) < (n : Int) := by omega
   have hbb : bb = decide (lf = rg) := Bool.eq_iff_iff.2 (by rw [decide_eq_true_iff]; exact hal.out.trans hce.out)
   have heqv := fun W => run_eqlF lf rg bb hbb W
   replace hbb := Lib.hid hbb
   go_upto_region 18 with fail
   refine region_gh (by kernel_rfl) (by kernel_rfl) ?_
   refine lex_seg (gl := []) 6 (by kernel_rfl) ?_
   intro α iα F hF1 hF2
   have hq := GL.seg hF1 hL0
   simp only [fcC, cellsC, and_true, Nat.zero_add, Nat.reduceAdd] at hq
   simp only [List.take_succ_cons, List.take_zero, List.drop_succ_cons, List.drop_zero, List.take_nil, List.drop_nil]
   repeat (go_big_quiet_step (first | fail | (go_at_call 36; with_reducible exact seg_call hF2 F1.out _) | (go_at_call 36; with_reducible exact seg_call hF2 F2.out _)))
   refine wpQuiet_nil ?_
   clear hq hF1 hF2 iα F α
   refine lex_new [.int .u64 0, .string ⟨#[]⟩, .bool false, .int .u64 0, .string ⟨#[]⟩] 17 38 38 rfl rfl (of_decide_eq_true (by kernel_rfl)) (by kernel_rfl) rfl new_frac ?_
   simp only [Act.put, List.setIfInBounds_toArray, List.set_cons_succ, List.set_cons_zero]
   refine lex_new [.int .u64 0, .string ⟨#[]⟩, .bool false, .int .u64 0, .string ⟨#[]⟩] 18 38 38 rfl rfl (of_decide_eq_true (by kernel_rfl)) (by kernel_rfl) rfl new_frac ?_
   simp only [Act.put, List.setIfInBounds_toArray, List.set_cons_succ, List.set_cons_zero]
   refine lex_put [.int .u64 ((zl lf.num : Nat) : Int), .string (zh lf.num), .bool (zs lf.num), .int .u64 ((lo (fe lf) : Nat) : Int), .string (hs (fe lf))] [.int .u64 0, .string ⟨#[]⟩, .bool false, .int .u64 0, .string ⟨#[]⟩] 17 38 (.tmp 94) rfl (by kernel_rfl) (by simp [toG, upd]) rfl (fun w k h => put_frac _ _ _ _ _ _ _ _ _ _ w k h) ?_
   simp only [Act.put]
   refine lex_put [.int .u64 ((zl rg.num : Nat) : Int), .string (zh rg.num), .bool (zs rg.num), .int .u64 ((lo (fe rg) : Nat) : Int), .string (hs (fe rg))] [.int .u64 0, .string ⟨#[]⟩, .bool false, .int .u64 0, .string ⟨#[]⟩] 18 38 (.tmp 97) rfl (by kernel_rfl) (by simp [toG, upd]) rfl (fun w k h => put_frac _ _ _ _ _ _ _ _ _ _ w k h) ?_
   simp only [Act.put]
   refine lexG_nil ?_
   intro κ x9 hSim
   replace hL0 := hL0.ghs hSim [(18, [.int .u64 ((zl rg.num : Nat) : Int), .string (zh rg.num), .bool (zs rg.num), .int .u64 ((lo (fe rg) : Nat) : Int), .string (hs (fe rg))]), (17, [.int .u64 ((zl lf.num : Nat) : Int), .string (zh lf.num), .bool (zs lf.num), .int .u64 ((lo (fe lf) : Nat) : Int), .string (hs (fe lf))])] (by simp) (by intro p hp; simp only [List.mem_cons, List.not_mem_nil, or_false] at hp; rcases hp with rfl | rfl <;> exact ⟨_, by simp only [toG, upd]; rfl⟩)
   simp only [List.map_cons, List.map_nil, List.cons_append, List.nil_append] at hL0
   simp only [over_toG, over_nil, Act.put, List.setIfInBounds_toArray, List.set_cons_succ, List.set_cons_zero]
   replace hT := hT.call (below_drew hSim.base)
   clear hSim
   generalize κ 18 = k9_18 at *
   generalize κ 17 = k9_17 at *
   have hN0 := cells_of _ 0 [] rfl (hL0.get _ _ List.mem_cons_self)
   simp only [cellsF, and_true, Nat.zero_add, Nat.reduceAdd] at hN0
   have hN1 := cells_of _ 0 [] rfl (hL0.get _ _ (List.mem_cons_of_mem _ List.mem_cons_self))
   simp only [cellsF, and_true, Nat.zero_add, Nat.reduceAdd] at hN1
   go_wp2_with fail
   clear hN0 hN1
   with_reducible refine Calls.mono (C1.out _) ?_
   rintro e x10 ⟨rfl, hb⟩
   replace hL0 := hL0.call hb
   replace hT := hT.call hb
   clear hb
   have hN0 := cells_of _ 0 [] rfl (hL0.get _ _ List.mem_cons_self)
   simp only [cellsF, and_true, Nat.zero_add, Nat.reduceAdd] at hN0
   have hN1 := cells_of _ 0 [] rfl (hL0.get _ _ (List.mem_cons_of_mem _ List.mem_cons_self))
   simp only [cellsF, and_true, Nat.zero_add, Nat.reduceAdd] at hN1
   go_wp2_with fail
   clear hN0 hN1
   go_loopg [19, 20] n (fun gk bv iv wr => ∃ (i : Nat) (zi : Int) (bn : Bool), i + gk = n ∧ bv = .bool bn ∧ iv = .int .i64 zi ∧ zi = (i : Int) ∧ (bn = true ↔ noneV x i) ∧ GL w wr [(k9_18, [.int .u64 ((zl rg.num : Nat) : Int), .string (zh rg.num), .bool (zs rg.num), .int .u64 ((lo (fe rg) : Nat) : Int), .string (hs (fe rg))]), (k9_17, [.int .u64 ((zl lf.num : Nat) : Int), .string (zh lf.num), .bool (zs lf.num), .int .u64 ((lo (fe lf) : Nat) : Int), .string (hs (fe lf))]), (x7.heap.size + 1 + 1, [.int .u64 ((zl xy.num : Nat) : Int), .string (zh xy.num), .bool (zs xy.num), .int .u64 ((lo (fe xy) : Nat) : Int), .string (hs (fe xy))]), (x7.heap.size + 1, [.int .u64 ((zl yy.num : Nat) : Int), .string (zh yy.num), .bool (zs yy.num), .int .u64 ((lo (fe yy) : Nat) : Int), .string (hs (fe yy))]), (x7.heap.size, [.int .u64 ((zl xx.num : Nat) : Int), .string (zh xx.num), .bool (zs xx.num), .int .u64 ((lo (fe xx) : Nat) : Int), .string (hs (fe xx))]), (w.heap.size, [.int .i64 n1, .int .u32 d1])] ∧ PTs wr [(.slice g2 n g2c, y), (.slice g1 n g1c, x)])
   case atStart => exact ⟨0, 0, true, Nat.zero_add n, rfl, by first | rfl | go_num, rfl, ⟨fun _ => none_zero _, fun _ => rfl⟩, hL0, hT⟩
   case round =>
    clear hL0 hT
    obtain ⟨i, zi, bn, hik, rfl, rfl, hzi, hno, hL0, hT⟩ := hrel
    replace hno := Lib.hid hno
    rcases Nat.lt_or_ge i n with hin | hin
    ·subst hzi
     have k1 : (i : Int) < (n : Int) := by omega
     have k0 : (0 : Int) ≤ (i : Int) := Int.natCast_nonneg _
     have kb : (i : Int) ≤ 1000 := by have := hn1.out; omega
     obtain ⟨ga, hga, -, ff⟩ := slq_at (hT.get (List.mem_cons_of_mem _ List.mem_cons_self)) i (by rw [lx.out]; exact hin)
     subst hga
     have hlx : i < x.length := by rw [lx.out]; exact hin
     obtain ⟨sg, hsg, HS1⟩ := HSg.out i hin
     obtain ⟨f0, f1, f2, f3, f4⟩ := fsc ff i hlx
     have hst := none_step (x := x) (i := i)
     rw [← hsg] at hst
     obtain ⟨t, ht⟩ : ∃ t, t = (sg == 0) := ⟨_, rfl⟩
     have e1 : (sg == 0) = t := ht.symm
     have e2 : decide (sg = 0) = t := by rw [ht]; rfl
     have hst2 : t = true ↔ sg = 0 := by rw [ht]; simp
     generalize gv x i = xi at *
     replace HS1 := Lib.hid HS1
     replace hst := Lib.hid hst
     replace hst2 := Lib.hid hst2
     clear ht hsg ff hlx
     cases bn with
     | true =>
      go_wp2_with fail
      with_reducible refine Calls.mono (HS1.out _) ?_
      rintro e yy ⟨rfl, hb⟩
      replace hL0 := hL0.call hb
      replace hT := hT.call hb
      clear hb
      go_wp2_with fail
      go_roundg (n - (i + 1))
      case measure => omega
      case rel => exact ⟨i + 1, _, t, by omega, rfl, by first | rfl | go_num, by omega, by rw [hst.out, hst2.out]; exact ⟨fun h => ⟨by first | exact hno.out.1 rfl | exact hno.out.1 trivial, h⟩, fun h => h.2⟩, hL0, hT⟩
     | false =>
      clear e1 e2 f0 f1 f2 f3 f4
      go_wp2_with fail
      go_roundg (n - (i + 1))
      case measure => omega
      case rel => exact ⟨i + 1, _, false, by omega, rfl, by first | rfl | go_num, by omega, by rw [hst.out]; exact ⟨(fun h => by cases h), fun h => by first | exact hno.out.2 h.1 | exact (hno.out.2 h.1).elim⟩, hL0, hT⟩
    ·obtain rfl : n = i := by omega
     subst hzi
     have k1 : ¬ (n : Int) < (n : Int) := by omega
     have hx0 : bn = true ↔ sx = 0 := hno.out.trans hsn.out.symm
     have hx1 : (sx == 0) = bn := Bool.eq_iff_iff.2 (by rw [hx0]; simp)
     have hx2 : decide (sx = 0) = bn := Bool.eq_iff_iff.2 (by rw [hx0, decide_eq_true_iff])
     replace hx0 := Lib.hid hx0
     have hN0 := cells_of _ 0 [] rfl (hL0.get _ _ (List.mem_cons_of_mem _ (List.mem_cons_of_mem _ (List.mem_cons_of_mem _ (List.mem_cons_of_mem _ List.mem_cons_self)))))
     simp only [cellsF, and_true, Nat.zero_add, Nat.reduceAdd] at hN0
     go_wp2_with fail
     clear hN0
     with_reducible refine Calls.mono (S1.out _) ?_
     rintro e x11 ⟨rfl, hb⟩
     replace hL0 := hL0.call hb
     replace hT := hT.call hb
     clear hb
     have hN0 := cells_of _ 0 [] rfl (hL0.get _ _ (List.mem_cons_of_mem _ (List.mem_cons_of_mem _ (List.mem_cons_of_mem _ (List.mem_cons_of_mem _ List.mem_cons_self)))))
     simp only [cellsF, and_true, Nat.zero_add, Nat.reduceAdd] at hN0
     go_wp2_with fail
     clear hN0
     with_reducible refine Calls.mono (S1.out _) ?_
     rintro e x12 ⟨rfl, hb⟩
     replace hL0 := hL0.call hb
     replace hT := hT.call hb
     clear hb
     go_wp2_with fail
     with_reducible refine Calls.mono (HW.out _ (hKT.out.at hL0.bl kKT)) ?_
     rintro e x13 ⟨rfl, hb⟩
     replace hL0 := hL0.call hb
     replace hT := hT.call hb
     clear hb
     go_wp2_with fail
     exact bodyPost_ret (v := .bool true) (by simp [results, Tryz.results6, go_sem]) rfl ⟨rfl, hL0.bl⟩
end Go.Proofs.YtoahpkelajimfaaGreatDoor
namespace Go.Proofs.YtoahpkelajimfaaGreatDoor
open Go.RowKit
attribute [local irreducible] lo hs sm s64 c64 d64 b64 mh ml pd pc qd qc val hiB str cmpI srD lz nb zl zh zs fe qmade
theorem sgnQ_nilV {q : Rat} : sgnQ q = 0 ↔ q = 0 := by unfold sgnQ; split <;> (try split) <;> grind
theorem sgnQ_nnV {q : Rat} (h : 0 ≤ q) : 0 ≤ sgnQ q := by unfold sgnQ; split <;> (try split) <;> grind
theorem al_cauchy (x y : List Rat) (n : Nat) : alV x y n 0 ↔ dotL n x y * dotL n x y = dotL n x x * dotL n y y := by
 unfold dotL
 rw [cauchy_eq (gv x) (gv y) n]
 exact ⟨fun h i hi k hk => h.1 i hi k hk, fun h => ⟨fun a ha b hb => h a ha b hb, fun b hb => absurd hb (Nat.not_lt_zero _)⟩⟩
theorem al_turn (n : Nat) (q : Rat) (x : List Rat) : alV x (mulL n q x) n 0 := ⟨fun a ha b hb => by
 show gv x a * gv (mulL n q x) b = gv x b * gv (mulL n q x) a
 rw [gv_mul (by omega), gv_mul ha]; grind, fun b hb => absurd hb (Nat.not_lt_zero _)⟩
theorem none_dot (x : List Rat) (n : Nat) : sgnQ (dotL n x x) = 0 ↔ noneV x n := by
 rw [sgnQ_nilV]
 unfold dotL noneV
 rw [bs_null fun i _ => sq_nn (gv x i)]
 exact ⟨fun h a ha => sq_null.1 (h a ha), fun h i hi => sq_null.2 (h i hi)⟩
theorem dot_nn (x : List Rat) (n : Nat) : 0 ≤ sgnQ (dotL n x x) := sgnQ_nnV (bs_nonneg fun i _ => sq_nn (gv x i))
set_option maxHeartbeats 4000000 in
theorem vcauchy_true_any (l0 : Int × Int) (la lb : List (Int × Int)) (h0 : QR l0) (al am : Option Addr) (nl cl nm cm : Nat) (w : World) (hv0 : QV w (.slice al nl cl) la) (hu : QV w (.slice am nm cm) lb) (ht : Tab w) :
  Calls Tryz.prog 6 #[.slice al nl cl, .slice am nm cm, .agg #[.int .i64 l0.1, .int .u32 l0.2], .bool true] w fun e w' => e = .returned (.bool true) ∧ Below w.heap.size w w' := by
 by_cases g1 : 12 < nl
 ·exact vcauchy_t1 al am nl cl nm cm 0 _ _ Tab Keeps.tab vworks_any (decide_eq_true (by omega)) (decide_eq_true g1) w ht
 by_cases g2 : 12 < nm
 ·exact vcauchy_t2 al am nl cl nm cm 0 _ _ Tab Keeps.tab vworks_any (decide_eq_false (by omega)) (decide_eq_false g1) (decide_eq_true (by omega)) (decide_eq_true g2) w ht
 obtain ⟨n, hn⟩ : ∃ n, n = min nl nm := ⟨_, rfl⟩
 have gx := gv_of (take_len (qv_len hv0) (by omega : n ≤ nl)) (take_rg (qv_rg hv0) n)
 have gy := gv_of (take_len (qv_len hu) (by omega : n ≤ nm)) (take_rg (qv_rg hu) n)
 have hA := fun w hv => vVG (la.take n) (by rw [take_len (qv_len hv0) (by omega)]; omega) (.slice al n cl) w hv
 have hB := fun w hv => vVG (lb.take n) (by rw [take_len (qv_len hu) (by omega)]; omega) (.slice am n cm) w hv
 generalize (la.take n).map qm = x at gx hA
 generalize (lb.take n).map qm = y at gy hB
 have sq := qm_sz h0
 have HQ := fun w => qmof h0 w
 generalize qm l0 = q at sq HQ
 have gb := gy
 have gy := GV.mul sq gx
 have zxx := gx.dot gx
 have zyy := gy.dot gy
 have zxy := gx.dot gy
 have hle := cmpQ_leV (cauchy_le (gv x) (gv (mulL n q x)) n)
 refine vcauchy_tw al am nl cl nm cm n l0.1 l0.2 x (mulL n q x) y q (dotL n x x) (dotL n (mulL n q x) (mulL n q x)) (dotL n x (mulL n q x)) (dotL n x (mulL n q x) * dotL n x (mulL n q x)) (dotL n x x * dotL n (mulL n q x) (mulL n q x)) (cmpQ (dotL n x (mulL n q x) * dotL n x (mulL n q x)) (dotL n x x * dotL n (mulL n q x) (mulL n q x))) (sgnQ (dotL n x x))
  (fun w => cut_any hn hv0 hu w) (fun w => QV w (.slice al n cl) (la.take n)) (QV.keeps _ _) hA (fun w => QV w (.slice am n cm) (lb.take n)) (QV.keeps _ _) hB
  HQ (fun u w h => ltimesG sq gx (by omega) (by omega) (by omega) rfl u w h)
  (fun u1 u2 w h g => ldotG gx gx (by omega) (by omega) (by omega) rfl u1 u2 w h g) (fun u1 u2 w h g => ldotG gy gy (by omega) (by omega) (by omega) rfl u1 u2 w h g) (fun u1 u2 w h g => ldotG gx gy (by omega) (by omega) (by omega) rfl u1 u2 w h g)
  (fun w => mulF _ _ 100000 (zxy.mono (by omega)) (zxy.mono (by omega)) (by omega) w) (fun w => mulF _ _ 100000 (zxx.mono (by omega)) (zyy.mono (by omega)) (by omega) w) (fun w => cmpF _ _ 100000 ((zxy.mul zxy).mono (by omega)) ((zxx.mul zyy).mono (by omega)) (by omega) w) (fun w => signF _ w)
  Tab Keeps.tab vworks_any (decide_eq_false (by omega)) (decide_eq_false g1) (decide_eq_false (by omega)) (decide_eq_false g2) gx.len gy.len gb.len (al_turn n q x) (by omega) (decide_eq_false (by unfold dotL; omega)) hle (al_cauchy x (mulL n q x) n) (none_dot x n) (dot_nn x n)
  (fun i hi k hk w => mulF _ _ 100000 ((gx.at i hi).mono (by omega)) ((gy.at k hk).mono (by omega)) (by omega) w) (fun i hi => ⟨_, sgnQ_nilV, fun w => signF _ w⟩) w (hv0.take n (by omega)) (hu.take n (by omega)) ht
set_option maxHeartbeats 4000000 in
theorem vcauchy_false_any (l0 : Int × Int) (la lb : List (Int × Int)) (h0 : QR l0) (al am : Option Addr) (nl cl nm cm : Nat) (w : World) (hv0 : QV w (.slice al nl cl) la) (hu : QV w (.slice am nm cm) lb) (ht : Tab w) :
  Calls Tryz.prog 6 #[.slice al nl cl, .slice am nm cm, .agg #[.int .i64 l0.1, .int .u32 l0.2], .bool false] w fun e w' => e = .returned (.bool true) ∧ Below w.heap.size w w' := by
 by_cases g1 : 12 < nl
 ·exact vcauchy_f1 al am nl cl nm cm 0 _ _ Tab Keeps.tab vworks_any (decide_eq_true (by omega)) (decide_eq_true g1) w ht
 by_cases g2 : 12 < nm
 ·exact vcauchy_f2 al am nl cl nm cm 0 _ _ Tab Keeps.tab vworks_any (decide_eq_false (by omega)) (decide_eq_false g1) (decide_eq_true (by omega)) (decide_eq_true g2) w ht
 obtain ⟨n, hn⟩ : ∃ n, n = min nl nm := ⟨_, rfl⟩
 have gx := gv_of (take_len (qv_len hv0) (by omega : n ≤ nl)) (take_rg (qv_rg hv0) n)
 have gy := gv_of (take_len (qv_len hu) (by omega : n ≤ nm)) (take_rg (qv_rg hu) n)
 have hA := fun w hv => vVG (la.take n) (by rw [take_len (qv_len hv0) (by omega)]; omega) (.slice al n cl) w hv
 have hB := fun w hv => vVG (lb.take n) (by rw [take_len (qv_len hu) (by omega)]; omega) (.slice am n cm) w hv
 generalize (la.take n).map qm = x at gx hA
 generalize (lb.take n).map qm = y at gy hB
 have zxx := gx.dot gx
 have zyy := gy.dot gy
 have zxy := gx.dot gy
 have hle := cmpQ_leV (cauchy_le (gv x) (gv y) n)
 refine vcauchy_fw al am nl cl nm cm n l0.1 l0.2 x y (dotL n x x) (dotL n y y) (dotL n x y) (dotL n x y * dotL n x y) (dotL n x x * dotL n y y) (cmpQ (dotL n x y * dotL n x y) (dotL n x x * dotL n y y)) (sgnQ (dotL n x x))
  (fun w => cut_any hn hv0 hu w) (fun w => QV w (.slice al n cl) (la.take n)) (QV.keeps _ _) hA (fun w => QV w (.slice am n cm) (lb.take n)) (QV.keeps _ _) hB
  (fun u1 u2 w h g => ldotG gx gx (by omega) (by omega) (by omega) rfl u1 u2 w h g) (fun u1 u2 w h g => ldotG gy gy (by omega) (by omega) (by omega) rfl u1 u2 w h g) (fun u1 u2 w h g => ldotG gx gy (by omega) (by omega) (by omega) rfl u1 u2 w h g)
  (fun w => mulF _ _ 100000 (zxy.mono (by omega)) (zxy.mono (by omega)) (by omega) w) (fun w => mulF _ _ 100000 (zxx.mono (by omega)) (zyy.mono (by omega)) (by omega) w) (fun w => cmpF _ _ 100000 ((zxy.mul zxy).mono (by omega)) ((zxx.mul zyy).mono (by omega)) (by omega) w) (fun w => signF _ w)
  Tab Keeps.tab vworks_any (decide_eq_false (by omega)) (decide_eq_false g1) (decide_eq_false (by omega)) (decide_eq_false g2) gx.len gy.len (by omega) (decide_eq_false (by unfold dotL; omega)) hle (al_cauchy x y n) (none_dot x n) (dot_nn x n)
  (fun i hi k hk w => mulF _ _ 100000 ((gx.at i hi).mono (by omega)) ((gy.at k hk).mono (by omega)) (by omega) w) (fun i hi => ⟨_, sgnQ_nilV, fun w => signF _ w⟩) w (hv0.take n (by omega)) (hu.take n (by omega)) ht
theorem vcauchy_any (l0 : Int × Int) (la lb : List (Int × Int)) (turn : Bool) (h0 : QR l0) (al am : Option Addr) (nl cl nm cm : Nat) (w : World) (hv0 : QV w (.slice al nl cl) la) (hu : QV w (.slice am nm cm) lb) (ht : Tab w) :
  Calls Tryz.prog 6 #[.slice al nl cl, .slice am nm cm, .agg #[.int .i64 l0.1, .int .u32 l0.2], .bool turn] w fun e w' => e = .returned (.bool true) ∧ Below w.heap.size w w' := by
 cases turn with
 | true => exact vcauchy_true_any l0 la lb h0 al am nl cl nm cm w hv0 hu ht
 | false => exact vcauchy_false_any l0 la lb h0 al am nl cl nm cm w hv0 hu ht
end Go.Proofs.YtoahpkelajimfaaGreatDoor
