/-
  Joined from parts.
-/
import Derived.Test.YthehcjfmokabfaaDoorIh
import Derived.Test.YthehcjfmokabfaaDoorIj
import Derived.Test.YthehcjfmokabfaaDoorIh
import Derived.Test.YthehcjfmokabfaaDoorLn
set_option linter.unusedVariables false
set_option linter.unusedSimpArgs false
namespace Go.Proofs.YthehcjfmokabfaaDoor
open Go.RowKit
attribute [local irreducible] lo hs sm s64 c64 d64 b64 mh ml pd pc qd qc val hiB str cmpI srD lz nb isq decB zl zh zs

theorem cls_box {α : Type} {F : α → World} {z : World} (h1 : ∀ x, Below z.heap.size z (F x)) {w : World} {L : List (Nat × List Value)} (hL : GL w z L) (k : Nat) (c : List Value) (hm : (k, c) ∈ L) : cellsC F k 0 c :=
  cellsC_of c 0 fun x => cells_of c 0 [] rfl ((hL.get k c hm).below (h1 x))
theorem cls_callW {α : Type} {F : α → World} {w0 : World} (h1 : ∀ x, Below w0.heap.size w0 (F x)) (h2 : ∀ W, Below w0.heap.size w0 W → ∃ x, W = F x) {v0 : Value} {l : List Nat} (hw : Ws w0 v0 l) {P : Program} {f : FuncId} {args : Array Value} {v : Value}
    (h : ∀ w, Ws w v0 l → Calls P f args w fun e w' => e = .returned v ∧ Below w.heap.size w w') (x : α) : Calls P f args (F x) fun e w'' => e = .returned v ∧ ∃ y, w'' = F y :=
  (h (F x) (hw.below (h1 x))).mono fun _ _ ⟨he, hb⟩ => ⟨he, h2 _ ((h1 x).trans (hb.mono (h1 x).size))⟩
/-- An integer as plain data. -/
def zmade (s : Bool) (l : List Nat) : Int := if s then -(made l : Int) else (made l : Int)
theorem zmade_dI {s : Bool} {l : List Nat} (h : ∀ x ∈ l, x < 4294967296) : dI (zmade s l) ≤ l.length := by
  unfold zmade
  cases s
  · simp only [Bool.false_eq_true, if_false, dI_nat]; exact made_digs h
  · simp only [if_true, dI_neg, dI_nat]; exact made_digs h

set_option maxHeartbeats 4000000 in
set_option maxRecDepth 100000 in
theorem zof_any (s : Bool) (a : Option Addr) (n c : Nat) (l : List Nat) (hl : l.length ≤ 1000) (w : World) (hw : Ws w (.slice a n c) l) :
    Calls Tryd.prog 15 #[.agg #[.bool s, .slice a n c]] w fun e w' => e = .returned (intV (zmade s l)) ∧ Below w.heap.size w w' := by
  have hL0 : GL w w [] := GL.start w
  have HM := Lib.hid (fun w h => made_any (.slice a n c) l hl w h)
  have HF := Lib.hid (fun w => fromI s (made l) (zmade s l) rfl w)
  generalize hz : zmade s l = z at *
  replace hz := Lib.hid hz
  generalize made l = m at *
  clear hl
  replace hL0 := ((hL0.new rfl [.bool s, .slice a n c] 43).new (K := w.heap.size + 1) (szA _ _) [.int .u64 0, .string ⟨#[]⟩, .bool false] 27)
  generalize hweq : ((w.alloc (.cells #[.bool s, .slice a n c] 43)).alloc (.cells #[.int .u64 0, .string ⟨#[]⟩, .bool false] 27)) = x1 at hL0
  have hW := Lib.hid (hw.below hL0.bl)
  clear hw
  go_enter Tryd.func15, Tryd.ntmps15
  have hA := hL0.fc
  simp only [fcG, cellsF, neK, and_true, ne_eq, Nat.zero_add, Nat.reduceAdd] at hA
  go_upto_region 1 with fail
  clear hA
  clear hweq
  obtain ⟨α, iα, F, hF1, hF2⟩ := cls x1
  have hq := GL.fcC hF1 hL0
  simp only [fcC, cellsC, and_true, Nat.zero_add, Nat.reduceAdd] at hq
  refine region_qs 6 (C := fun w' => ∃ x, w' = F x) (by kernel_rfl) (by kernel_rfl) (cls_drew hF2) ?_
  simp only [List.take_succ_cons, List.take_zero, List.drop_succ_cons, List.drop_zero, List.take_nil, List.drop_nil]
  repeat (go_big_quiet_step (first | fail | (go_at_call 35; with_reducible exact cls_callW hF1 hF2 hW.out HM.out _) | (go_at_call 22; with_reducible exact cls_call hF1 hF2 HF.out _)))
  refine wpQuiet_nil ?_
  rintro wq ⟨xq, rfl⟩
  replace hL0 := hL0.call (hF1 xq)
  clear hq hF2
  generalize F xq = x2 at hL0 ⊢
  clear hF1 xq iα F α
  have hA := hL0.fc
  simp only [fcG, cellsF, neK, and_true, ne_eq, Nat.zero_add, Nat.reduceAdd] at hA
  have hP := hL0.put 0 (w.heap.size + 1) _ rfl [.int .u64 ((zl z : Nat) : Int), .string (zh z), .bool (zs z)] rfl
  simp only [setAll, List.set_cons_zero, List.set_cons_succ] at hP
  generalize hput1 : (((x2.setCell ⟨w.heap.size + 1, 0, none⟩ (.int .u64 ((zl z : Nat) : Int))).setCell ⟨w.heap.size + 1, 1, none⟩ (.string (zh z))).setCell ⟨w.heap.size + 1, 2, none⟩ (.bool (zs z))) = x3 at hP
  have hB1 := hP.fc
  simp only [fcG, cellsF, neK, and_true, ne_eq, Nat.zero_add, Nat.reduceAdd] at hB1
  replace hL0 := hP
  go_wp2_with fail
  exact bodyPost_ret (v := intV z) (by simp [results, Tryd.results15, go_sem, hB1]) rfl ⟨rfl, hL0.bl⟩

set_option maxHeartbeats 4000000 in
set_option maxRecDepth 100000 in
theorem is_eq (k : Int) (h1 : -9223372036854775808 ≤ k) (h2 : k < 9223372036854775808) (w : World) :
    Calls Tryd.prog 13 #[intV k, .int .i64 k] w fun e w' => e = .returned (.bool true) ∧ Below w.heap.size w w' := by
  have hL0 : GL w w [] := GL.start w
  have HO := Lib.hid (fun w => ofI k h1 h2 w)
  clear h1 h2
  replace hL0 := (hL0.new rfl [.int .u64 ((zl k : Nat) : Int), .string (zh k), .bool (zs k)] 27)
  generalize hweq : (w.alloc (.cells #[.int .u64 ((zl k : Nat) : Int), .string (zh k), .bool (zs k)] 27)) = x1 at hL0
  go_enter Tryd.func13, Tryd.ntmps13
  have hA := hL0.fc
  simp only [fcG, cellsF, neK, and_true, ne_eq, Nat.zero_add, Nat.reduceAdd] at hA
  go_upto_region 1 with fail
  clear hA
  clear hweq
  obtain ⟨α, iα, F, hF1, hF2⟩ := cls x1
  have hq := GL.fcC hF1 hL0
  simp only [fcC, cellsC, and_true, Nat.zero_add, Nat.reduceAdd] at hq
  refine region_qs 4 (C := fun w' => ∃ x, w' = F x) (by kernel_rfl) (by kernel_rfl) (cls_drew hF2) ?_
  simp only [List.take_succ_cons, List.take_zero, List.drop_succ_cons, List.drop_zero, List.take_nil, List.drop_nil]
  repeat (go_big_quiet_step (first | fail | (go_at_call 27; with_reducible exact cls_call hF1 hF2 HO.out _)))
  refine wpQuiet_nil ?_
  rintro wq ⟨xq, rfl⟩
  replace hL0 := hL0.call (hF1 xq)
  clear hq hF2
  generalize F xq = x2 at hL0 ⊢
  clear hF1 xq iα F α
  have hA := hL0.fc
  simp only [fcG, cellsF, neK, and_true, ne_eq, Nat.zero_add, Nat.reduceAdd] at hA
  go_wp2_with fail
  exact bodyPost_ret (v := .bool true) (by simp [results, Tryd.results13, go_sem, hA]) rfl ⟨rfl, hL0.bl⟩

set_option maxHeartbeats 4000000 in
set_option maxRecDepth 100000 in
theorem is_ne (z k : Int) (h1 : -9223372036854775808 ≤ k) (h2 : k < 9223372036854775808) (h : z ≠ k) (w : World) :
    Calls Tryd.prog 13 #[intV z, .int .i64 k] w fun e w' => e = .returned (.bool false) ∧ Below w.heap.size w w' := by
  have hL0 : GL w w [] := GL.start w
  have HO := Lib.hid (fun w => ofI k h1 h2 w)
  have e := ne_int h
  clear h1 h2 h
  rcases e with e0 | ⟨e0, e1⟩ | ⟨e0, e1, e2⟩
  all_goals (
    replace hL0 := (hL0.new rfl [.int .u64 ((zl z : Nat) : Int), .string (zh z), .bool (zs z)] 27)
    generalize hweq : (w.alloc (.cells #[.int .u64 ((zl z : Nat) : Int), .string (zh z), .bool (zs z)] 27)) = x1 at hL0
    go_enter Tryd.func13, Tryd.ntmps13
    have hA := hL0.fc
    simp only [fcG, cellsF, neK, and_true, ne_eq, Nat.zero_add, Nat.reduceAdd] at hA
    go_upto_region 1 with fail
    clear hA
    clear hweq
    obtain ⟨α, iα, F, hF1, hF2⟩ := cls x1
    have hq := GL.fcC hF1 hL0
    simp only [fcC, cellsC, and_true, Nat.zero_add, Nat.reduceAdd] at hq
    refine region_qs 4 (C := fun w' => ∃ x, w' = F x) (by kernel_rfl) (by kernel_rfl) (cls_drew hF2) ?_
    simp only [List.take_succ_cons, List.take_zero, List.drop_succ_cons, List.drop_zero, List.take_nil, List.drop_nil]
    repeat (go_big_quiet_step (first | fail | (go_at_call 27; with_reducible exact cls_call hF1 hF2 HO.out _)))
    refine wpQuiet_nil ?_
    rintro wq ⟨xq, rfl⟩
    replace hL0 := hL0.call (hF1 xq)
    clear hq hF2
    generalize F xq = x2 at hL0 ⊢
    clear hF1 xq iα F α
    have hA := hL0.fc
    simp only [fcG, cellsF, neK, and_true, ne_eq, Nat.zero_add, Nat.reduceAdd] at hA
    go_wp2_with fail
    exact bodyPost_ret (v := .bool false) (by simp [results, Tryd.results13, go_sem, hA]) rfl ⟨rfl, hL0.bl⟩)

theorem is_any (z k : Int) (h1 : -9223372036854775808 ≤ k) (h2 : k < 9223372036854775808) (w : World) : Calls Tryd.prog 13 #[intV z, .int .i64 k] w fun e w' => e = .returned (.bool (decide (z = k))) ∧ Below w.heap.size w w' := by
  by_cases h : z = k
  · subst h; rw [decide_eq_true rfl]; exact is_eq _ h1 h2 w
  · rw [decide_eq_false h]; exact is_ne z k h1 h2 h w

/-- few: its slice's structs. -/
structure FW (w : World) (g n : Nat) (len : Nat → Nat) : Prop where
  cell : ∀ i, i < n → ∃ a c, w.cell? ⟨g, i * 2 + 1, none⟩ = some (.slice a (len i) c)
  lt : n ≤ 1000
set_option maxHeartbeats 4000000 in
set_option maxRecDepth 100000 in
theorem few_yes (most : Nat) (g n c : Nat) (len : Nat → Nat) (w : World) (hF : FW w g n len) (hn : 0 < n) (hm : most < 1000) (h : ∀ i, i < n → len i ≤ most) :
    Calls Tryd.prog 14 #[.int .i64 (most : Int), .slice (some ⟨g, 0, none⟩) n c] w fun e w' => e = .returned (.bool true) ∧ w' = w := by
  have hlt := hF.lt
  have hc := Lib.hid hF.cell
  have h := Lib.hid h
  clear hF
  go_enter Tryd.func14, Tryd.ntmps14
  go_wp2_with fail
  go_loopw [5] (fun z wr => ∃ i : Nat, i ≤ n ∧ z = .int .i64 (i : Int) ∧ wr = w) (fun z _ => n - (intOf z).toNat)
  case atStart => exact ⟨0, Nat.zero_le _, rfl, rfl⟩
  case round =>
    obtain ⟨i, hi, rfl, rfl⟩ := hrel
    rcases Nat.lt_or_ge i n with hin | hin
    · obtain ⟨a, c1, hci⟩ := hc.out i hin
      have hle := h.out i hin
      have k1 : (i : Int) < (n : Int) := by omega
      have k2 : decide ((i : Int) < (n : Int)) = true := decide_eq_true k1
      have k3 : decide ((most : Int) < (len i : Int)) = false := decide_eq_false (by omega)
      generalize len i = m at *
      go_wp2_with fail
      go_roundw
      case rel => exact ⟨i + 1, by omega, by first | rfl | go_num, by first | trivial | rfl⟩
      case measure => simp [intOf]; omega
    · obtain rfl : i = n := by omega
      have k2 : decide ((i : Int) < (i : Int)) = false := decide_eq_false (by omega)
      go_wp2_with fail
      go_ret
      exact ⟨rfl, rfl⟩

set_option maxHeartbeats 4000000 in
set_option maxRecDepth 100000 in
theorem few_no (most : Nat) (g n c k : Nat) (len : Nat → Nat) (w : World) (hF : FW w g n len) (hk : k < n) (hm : most < 1000) (h : ∀ i, i < k → len i ≤ most) (hg : most < len k) :
    Calls Tryd.prog 14 #[.int .i64 (most : Int), .slice (some ⟨g, 0, none⟩) n c] w fun e w' => e = .returned (.bool false) ∧ w' = w := by
  have hlt := hF.lt
  have hc := Lib.hid hF.cell
  have h := Lib.hid h
  clear hF
  go_enter Tryd.func14, Tryd.ntmps14
  go_wp2_with fail
  go_loopw [5] (fun z wr => ∃ i : Nat, i ≤ k ∧ z = .int .i64 (i : Int) ∧ wr = w) (fun z _ => n - (intOf z).toNat)
  case atStart => exact ⟨0, Nat.zero_le _, rfl, rfl⟩
  case round =>
    obtain ⟨i, hi, rfl, rfl⟩ := hrel
    have hin : i < n := by omega
    obtain ⟨a, c1, hci⟩ := hc.out i hin
    have k1 : (i : Int) < (n : Int) := by omega
    have k2 : decide ((i : Int) < (n : Int)) = true := decide_eq_true k1
    rcases Nat.lt_or_ge i k with hik | hik
    · have hle := h.out i hik
      have k3 : decide ((most : Int) < (len i : Int)) = false := decide_eq_false (by omega)
      generalize len i = m at *
      go_wp2_with fail
      go_roundw
      case rel => exact ⟨i + 1, by omega, by first | rfl | go_num, by first | trivial | rfl⟩
      case measure => simp [intOf]; omega
    · obtain rfl : i = k := by omega
      have k3 : decide ((most : Int) < (len i : Int)) = true := decide_eq_true (by omega)
      generalize len i = m at *
      go_wp2_with fail
      go_ret
      exact ⟨rfl, rfl⟩

end Go.Proofs.YthehcjfmokabfaaDoor

namespace Go.Proofs.YthehcjfmokabfaaDoor
open Go.RowKit
attribute [local irreducible] lo hs sm s64 c64 d64 b64 mh ml pd pc qd qc val hiB str cmpI srD lz nb isq decB zl zh zs dval

theorem dI_small {z : Int} (h : z.natAbs < Bs) : dI z ≤ 1 := digs_length_iff.2 (by rw [Nat.pow_one]; exact h)
theorem dI_lit {z : Int} (h : z.natAbs < 18446744073709551616) : dI z ≤ 1 := dI_small (by unfold Bs; exact h)
theorem xg1 : xgcd 12 18 = (6, -1, 1) := by
  have e1 := xgcd_step (a := 12) (b := 18) (by decide)
  have e2 := xgcd_step (a := 18) (b := 12) (by decide)
  have e3 := xgcd_step (a := 12) (b := 6) (by decide)
  simp [e1, e2, e3, xgcd_zero, sgn]
theorem xg2 : xgcd (-5) 0 = (5, -1, 0) := by simp [xgcd_zero, sgn]
theorem xg3 : xgcd 0 0 = (0, 0, 0) := by simp [xgcd_zero, sgn]
theorem big_txt : ztxt 85070591730234615865843651857942052864 = ⟨#[56, 53, 48, 55, 48, 53, 57, 49, 55, 51, 48, 50, 51, 52, 54, 49, 53, 56, 54, 53, 56, 52, 51, 54, 53, 49, 56, 53, 55, 57, 52, 50, 48, 53, 50, 56, 54, 52]⟩ := by
  unfold ztxt
  rw [if_neg (by decide)]
  unfold txt
  have := dec_dval (l := [56, 53, 48, 55, 48, 53, 57, 49, 55, 51, 48, 50, 51, 52, 54, 49, 53, 56, 54, 53, 56, 52, 51, 54, 53, 49, 56, 53, 55, 57, 52, 50, 48, 53, 50, 56, 54, 52]) (isDec_yes (by decide))
  rw [show dval [56, 53, 48, 55, 48, 53, 57, 49, 55, 51, 48, 50, 51, 52, 54, 49, 53, 56, 54, 53, 56, 52, 51, 54, 53, 49, 56, 53, 55, 57, 52, 50, 48, 53, 50, 56, 54, 52] = 85070591730234615865843651857942052864 by unfold dval; decide] at this
  rw [show (85070591730234615865843651857942052864 : Int).natAbs = 85070591730234615865843651857942052864 from rfl, this]

set_option maxHeartbeats 16000000 in
set_option maxRecDepth 100000 in
theorem zworks_any (w : World) (htab : Tab w) :
    Calls Tryd.prog 8 #[] w fun e w' => e = .returned (.bool true) ∧ Below w.heap.size w w' := by
  have hL0 : GL w w [] := GL.start w
  have H1 := Lib.hid (show ∀ w, Calls Tryd.prog 23 #[intV (-7), intV 2] w (fun e w' => e = .returned (.tuple #[intV (-4), intV 1, .bool true]) ∧ Below w.heap.size w w') from fun w => divI (-7) 2 (by decide) (Nat.le_trans (dI_lit (by decide)) (by omega)) (Nat.le_trans (dI_lit (by decide)) (by omega)) w)
  have O0 := Lib.hid (fun w => ofI (-7) (by decide) (by decide) w)
  have O1 := Lib.hid (fun w => ofI 2 (by decide) (by decide) w)
  have H2 := Lib.hid (show ∀ w, Calls Tryd.prog 23 #[intV 7, intV (-2)] w (fun e w' => e = .returned (.tuple #[intV (-3), intV 1, .bool true]) ∧ Below w.heap.size w w') from fun w => divI 7 (-2) (by decide) (Nat.le_trans (dI_lit (by decide)) (by omega)) (Nat.le_trans (dI_lit (by decide)) (by omega)) w)
  have O2 := Lib.hid (fun w => ofI 7 (by decide) (by decide) w)
  have O3 := Lib.hid (fun w => ofI (-2) (by decide) (by decide) w)
  have H3 := Lib.hid (show ∀ w, Calls Tryd.prog 23 #[intV (-7), intV (-2)] w (fun e w' => e = .returned (.tuple #[intV 4, intV 1, .bool true]) ∧ Below w.heap.size w w') from fun w => divI (-7) (-2) (by decide) (Nat.le_trans (dI_lit (by decide)) (by omega)) (Nat.le_trans (dI_lit (by decide)) (by omega)) w)
  have H4 := Lib.hid (show ∀ w, Calls Tryd.prog 23 #[intV 7, intV 0] w (fun e w' => e = .returned (.tuple #[intV 0, intV 0, .bool false]) ∧ Below w.heap.size w w') from fun w => div0I 7 w)
  have O4 := Lib.hid (fun w => ofI 0 (by decide) (by decide) w)
  have S0 := Lib.hid (fun w => is_eq (-4) (by decide) (by decide) w)
  have S1 := Lib.hid (fun w => is_eq 1 (by decide) (by decide) w)
  have S2 := Lib.hid (fun w => is_eq (-3) (by decide) (by decide) w)
  have S3 := Lib.hid (fun w => is_eq 4 (by decide) (by decide) w)
  have H5 := Lib.hid (show ∀ w, Calls Tryd.prog 16 #[intV 12, intV 18] w (fun e w' => e = .returned (.tuple #[intV 6, intV (-1), intV 1]) ∧ Below w.heap.size w w') from fun w => by have := gcdI 12 18 (Nat.le_trans (dI_lit (by decide)) (by omega)) (Nat.le_trans (dI_lit (by decide)) (by omega)) w; rw [xg1] at this; exact this)
  have O5 := Lib.hid (fun w => ofI 12 (by decide) (by decide) w)
  have O6 := Lib.hid (fun w => ofI 18 (by decide) (by decide) w)
  have H6 := Lib.hid (show ∀ w, Calls Tryd.prog 16 #[intV (-5), intV 0] w (fun e w' => e = .returned (.tuple #[intV 5, intV (-1), intV 0]) ∧ Below w.heap.size w w') from fun w => by have := gcdI (-5) 0 (Nat.le_trans (dI_lit (by decide)) (by omega)) (Nat.le_trans (dI_lit (by decide)) (by omega)) w; rw [xg2] at this; exact this)
  have O7 := Lib.hid (fun w => ofI (-5) (by decide) (by decide) w)
  have H7 := Lib.hid (show ∀ w, Calls Tryd.prog 16 #[intV 0, intV 0] w (fun e w' => e = .returned (.tuple #[intV 0, intV 0, intV 0]) ∧ Below w.heap.size w w') from fun w => by have := gcdI 0 0 (Nat.le_trans (dI_lit (by decide)) (by omega)) (Nat.le_trans (dI_lit (by decide)) (by omega)) w; rw [xg3] at this; exact this)
  have O8 := Lib.hid (fun w => ofI (-9223372036854775808) (by decide) (by decide) w)
  have S4 := Lib.hid (fun w => is_eq 6 (by decide) (by decide) w)
  have S5 := Lib.hid (fun w => is_eq (-1) (by decide) (by decide) w)
  have S6 := Lib.hid (fun w => is_eq 5 (by decide) (by decide) w)
  have S7 := Lib.hid (fun w => is_eq 0 (by decide) (by decide) w)
  have H8 := Lib.hid (show ∀ w, Calls Tryd.prog 18 #[intV (-9223372036854775808), intV (-9223372036854775808)] w (fun e w' => e = .returned (intV 85070591730234615865843651857942052864) ∧ Below w.heap.size w w') from fun w => mulI (-9223372036854775808) (-9223372036854775808) (Nat.le_trans (dI_lit (by decide)) (by omega)) (Nat.le_trans (dI_lit (by decide)) (by omega)) w)
  have HT := Lib.hid (fun w h => textI 85070591730234615865843651857942052864 (Nat.le_trans (dI_mul (x := (-9223372036854775808)) (y := (-9223372036854775808)) (dI_lit (by decide)) (dI_lit (by decide))) (by omega)) w h)
  rw [big_txt] at HT
  have H9 := Lib.hid (show ∀ w, Calls Tryd.prog 9 #[.string ⟨#[45, 48]⟩] w (fun e w' => e = .returned (.tuple #[intV 0, .int .i64 4]) ∧ Below w.heap.size w w') from fun w => iparse_n_zero [48] (by decide) (isDec_yes (by decide)) (by unfold dval; decide) w)
  have H10 := Lib.hid (show ∀ w, Calls Tryd.prog 9 #[.string ⟨#[45, 45, 49]⟩] w (fun e w' => e = .returned (.tuple #[intV 0, .int .i64 4]) ∧ Below w.heap.size w w') from fun w => iparse_n_form [45, 49] (by decide) (isDec_no (by decide)) w)
  have H11 := Lib.hid (show ∀ w, Calls Tryd.prog 9 #[.string ⟨#[45, 49, 50]⟩] w (fun e w' => e = .returned (.tuple #[intV (-12), .int .i64 0]) ∧ Below w.heap.size w w') from fun w => by have := iparse_n_ok [49, 50] (by decide) (isDec_yes (by decide)) (by unfold dval; decide) w; rw [show dval [49, 50] = 12 by unfold dval; decide] at this; exact this)
  have H12 := Lib.hid (show ∀ w, Calls Tryd.prog 9 #[.string ⟨#[48, 49, 50]⟩] w (fun e w' => e = .returned (.tuple #[intV 0, .int .i64 4]) ∧ Below w.heap.size w w') from fun w => iparse_p_form [48, 49, 50] (by decide) (isDec_no (by decide)) (by decide) w)
  have S8 := Lib.hid (fun w => is_eq (-12) (by decide) (by decide) w)
  go_enter Tryd.func8, Tryd.ntmps8
  go_wp2_with fail
  with_reducible refine Calls.mono (O0.out _) ?_
  rintro e x1 ⟨rfl, hb⟩
  replace hL0 := hL0.call hb
  clear hb
  go_wp2_with fail
  with_reducible refine Calls.mono (O1.out _) ?_
  rintro e x2 ⟨rfl, hb⟩
  replace hL0 := hL0.call hb
  clear hb
  go_wp2_with fail
  with_reducible refine Calls.mono (H1.out _) ?_
  rintro e x3 ⟨rfl, hb⟩
  replace hL0 := hL0.call hb
  clear hb
  replace hL0 := ((hL0.new rfl [.int .u64 ((zl (-4) : Nat) : Int), .string (zh (-4)), .bool (zs (-4))] 27).new (K := x3.heap.size + 1) (szA _ _) [.int .u64 ((zl 1 : Nat) : Int), .string (zh 1), .bool (zs 1)] 27)
  generalize hweq : ((x3.alloc (.cells #[.int .u64 ((zl (-4) : Nat) : Int), .string (zh (-4)), .bool (zs (-4))] 27)).alloc (.cells #[.int .u64 ((zl 1 : Nat) : Int), .string (zh 1), .bool (zs 1)] 27)) = x4 at hL0
  go_wp2_with fail
  with_reducible refine Calls.mono (O2.out _) ?_
  rintro e x5 ⟨rfl, hb⟩
  replace hL0 := hL0.call hb
  clear hb hweq
  go_wp2_with fail
  with_reducible refine Calls.mono (O3.out _) ?_
  rintro e x6 ⟨rfl, hb⟩
  replace hL0 := hL0.call hb
  clear hb
  go_wp2_with fail
  with_reducible refine Calls.mono (H2.out _) ?_
  rintro e x7 ⟨rfl, hb⟩
  replace hL0 := hL0.call hb
  clear hb
  replace hL0 := ((hL0.new rfl [.int .u64 ((zl (-3) : Nat) : Int), .string (zh (-3)), .bool (zs (-3))] 27).new (K := x7.heap.size + 1) (szA _ _) [.int .u64 ((zl 1 : Nat) : Int), .string (zh 1), .bool (zs 1)] 27)
  generalize hweq : ((x7.alloc (.cells #[.int .u64 ((zl (-3) : Nat) : Int), .string (zh (-3)), .bool (zs (-3))] 27)).alloc (.cells #[.int .u64 ((zl 1 : Nat) : Int), .string (zh 1), .bool (zs 1)] 27)) = x8 at hL0
  go_wp2_with fail
  with_reducible refine Calls.mono (O0.out _) ?_
  rintro e x9 ⟨rfl, hb⟩
  replace hL0 := hL0.call hb
  clear hb hweq
  go_wp2_with fail
  with_reducible refine Calls.mono (O3.out _) ?_
  rintro e x10 ⟨rfl, hb⟩
  replace hL0 := hL0.call hb
  clear hb
  go_wp2_with fail
  with_reducible refine Calls.mono (H3.out _) ?_
  rintro e x11 ⟨rfl, hb⟩
  replace hL0 := hL0.call hb
  clear hb
  replace hL0 := ((hL0.new rfl [.int .u64 ((zl 4 : Nat) : Int), .string (zh 4), .bool (zs 4)] 27).new (K := x11.heap.size + 1) (szA _ _) [.int .u64 ((zl 1 : Nat) : Int), .string (zh 1), .bool (zs 1)] 27)
  generalize hweq : ((x11.alloc (.cells #[.int .u64 ((zl 4 : Nat) : Int), .string (zh 4), .bool (zs 4)] 27)).alloc (.cells #[.int .u64 ((zl 1 : Nat) : Int), .string (zh 1), .bool (zs 1)] 27)) = x12 at hL0
  go_wp2_with fail
  with_reducible refine Calls.mono (O2.out _) ?_
  rintro e x13 ⟨rfl, hb⟩
  replace hL0 := hL0.call hb
  clear hb hweq
  go_wp2_with fail
  with_reducible refine Calls.mono (O4.out _) ?_
  rintro e x14 ⟨rfl, hb⟩
  replace hL0 := hL0.call hb
  clear hb
  go_wp2_with fail
  with_reducible refine Calls.mono (H4.out _) ?_
  rintro e x15 ⟨rfl, hb⟩
  replace hL0 := hL0.call hb
  clear hb
  replace hL0 := ((hL0.new rfl [.int .u64 ((zl 0 : Nat) : Int), .string (zh 0), .bool (zs 0)] 27).new (K := x15.heap.size + 1) (szA _ _) [.int .u64 ((zl 0 : Nat) : Int), .string (zh 0), .bool (zs 0)] 27)
  generalize hweq : ((x15.alloc (.cells #[.int .u64 ((zl 0 : Nat) : Int), .string (zh 0), .bool (zs 0)] 27)).alloc (.cells #[.int .u64 ((zl 0 : Nat) : Int), .string (zh 0), .bool (zs 0)] 27)) = x16 at hL0
  have hN0 := cells_of _ 0 [] rfl (hL0.get _ _ (List.mem_cons_of_mem _ (List.mem_cons_of_mem _ (List.mem_cons_of_mem _ (List.mem_cons_of_mem _ (List.mem_cons_of_mem _ (List.mem_cons_of_mem _ (List.mem_cons_of_mem _ List.mem_cons_self))))))))
  simp only [cellsF, and_true, Nat.zero_add, Nat.reduceAdd] at hN0
  go_wp2_with fail
  clear hN0
  with_reducible refine Calls.mono (S0.out _) ?_
  rintro e x17 ⟨rfl, hb⟩
  replace hL0 := hL0.call hb
  clear hb hweq
  have hN0 := cells_of _ 0 [] rfl (hL0.get _ _ (List.mem_cons_of_mem _ (List.mem_cons_of_mem _ (List.mem_cons_of_mem _ (List.mem_cons_of_mem _ (List.mem_cons_of_mem _ (List.mem_cons_of_mem _ List.mem_cons_self)))))))
  simp only [cellsF, and_true, Nat.zero_add, Nat.reduceAdd] at hN0
  go_wp2_with fail
  clear hN0
  with_reducible refine Calls.mono (S1.out _) ?_
  rintro e x18 ⟨rfl, hb⟩
  replace hL0 := hL0.call hb
  clear hb
  have hN0 := cells_of _ 0 [] rfl (hL0.get _ _ (List.mem_cons_of_mem _ (List.mem_cons_of_mem _ (List.mem_cons_of_mem _ (List.mem_cons_of_mem _ (List.mem_cons_of_mem _ List.mem_cons_self))))))
  simp only [cellsF, and_true, Nat.zero_add, Nat.reduceAdd] at hN0
  go_wp2_with fail
  clear hN0
  with_reducible refine Calls.mono (S2.out _) ?_
  rintro e x19 ⟨rfl, hb⟩
  replace hL0 := hL0.call hb
  clear hb
  have hN0 := cells_of _ 0 [] rfl (hL0.get _ _ (List.mem_cons_of_mem _ (List.mem_cons_of_mem _ (List.mem_cons_of_mem _ (List.mem_cons_of_mem _ List.mem_cons_self)))))
  simp only [cellsF, and_true, Nat.zero_add, Nat.reduceAdd] at hN0
  go_wp2_with fail
  clear hN0
  with_reducible refine Calls.mono (S1.out _) ?_
  rintro e x20 ⟨rfl, hb⟩
  replace hL0 := hL0.call hb
  clear hb
  have hN0 := cells_of _ 0 [] rfl (hL0.get _ _ (List.mem_cons_of_mem _ (List.mem_cons_of_mem _ (List.mem_cons_of_mem _ List.mem_cons_self))))
  simp only [cellsF, and_true, Nat.zero_add, Nat.reduceAdd] at hN0
  go_wp2_with fail
  clear hN0
  with_reducible refine Calls.mono (S3.out _) ?_
  rintro e x21 ⟨rfl, hb⟩
  replace hL0 := hL0.call hb
  clear hb
  have hN0 := cells_of _ 0 [] rfl (hL0.get _ _ (List.mem_cons_of_mem _ (List.mem_cons_of_mem _ List.mem_cons_self)))
  simp only [cellsF, and_true, Nat.zero_add, Nat.reduceAdd] at hN0
  go_wp2_with fail
  clear hN0
  with_reducible refine Calls.mono (S1.out _) ?_
  rintro e x22 ⟨rfl, hb⟩
  replace hL0 := hL0.call hb
  clear hb
  go_wp2_with fail
  with_reducible refine Calls.mono (O5.out _) ?_
  rintro e x23 ⟨rfl, hb⟩
  replace hL0 := hL0.call hb
  clear hb
  go_wp2_with fail
  with_reducible refine Calls.mono (O6.out _) ?_
  rintro e x24 ⟨rfl, hb⟩
  replace hL0 := hL0.call hb
  clear hb
  go_wp2_with fail
  with_reducible refine Calls.mono (H5.out _) ?_
  rintro e x25 ⟨rfl, hb⟩
  replace hL0 := hL0.call hb
  clear hb
  replace hL0 := (((hL0.new rfl [.int .u64 ((zl 6 : Nat) : Int), .string (zh 6), .bool (zs 6)] 27).new (K := x25.heap.size + 1) (szA _ _) [.int .u64 ((zl (-1) : Nat) : Int), .string (zh (-1)), .bool (zs (-1))] 27).new (K := x25.heap.size + 1 + 1) (by simp only [World.size_alloc]) [.int .u64 ((zl 1 : Nat) : Int), .string (zh 1), .bool (zs 1)] 27)
  generalize hweq : (((x25.alloc (.cells #[.int .u64 ((zl 6 : Nat) : Int), .string (zh 6), .bool (zs 6)] 27)).alloc (.cells #[.int .u64 ((zl (-1) : Nat) : Int), .string (zh (-1)), .bool (zs (-1))] 27)).alloc (.cells #[.int .u64 ((zl 1 : Nat) : Int), .string (zh 1), .bool (zs 1)] 27)) = x26 at hL0
  go_wp2_with fail
  with_reducible refine Calls.mono (O7.out _) ?_
  rintro e x27 ⟨rfl, hb⟩
  replace hL0 := hL0.call hb
  clear hb hweq
  go_wp2_with fail
  with_reducible refine Calls.mono (O4.out _) ?_
  rintro e x28 ⟨rfl, hb⟩
  replace hL0 := hL0.call hb
  clear hb
  go_wp2_with fail
  with_reducible refine Calls.mono (H6.out _) ?_
  rintro e x29 ⟨rfl, hb⟩
  replace hL0 := hL0.call hb
  clear hb
  replace hL0 := (((hL0.new rfl [.int .u64 ((zl 5 : Nat) : Int), .string (zh 5), .bool (zs 5)] 27).new (K := x29.heap.size + 1) (szA _ _) [.int .u64 ((zl (-1) : Nat) : Int), .string (zh (-1)), .bool (zs (-1))] 27).new (K := x29.heap.size + 1 + 1) (by simp only [World.size_alloc]) [.int .u64 ((zl 0 : Nat) : Int), .string (zh 0), .bool (zs 0)] 27)
  generalize hweq : (((x29.alloc (.cells #[.int .u64 ((zl 5 : Nat) : Int), .string (zh 5), .bool (zs 5)] 27)).alloc (.cells #[.int .u64 ((zl (-1) : Nat) : Int), .string (zh (-1)), .bool (zs (-1))] 27)).alloc (.cells #[.int .u64 ((zl 0 : Nat) : Int), .string (zh 0), .bool (zs 0)] 27)) = x30 at hL0
  go_wp2_with fail
  with_reducible refine Calls.mono (O4.out _) ?_
  rintro e x31 ⟨rfl, hb⟩
  replace hL0 := hL0.call hb
  clear hb hweq
  go_wp2_with fail
  with_reducible refine Calls.mono (O4.out _) ?_
  rintro e x32 ⟨rfl, hb⟩
  replace hL0 := hL0.call hb
  clear hb
  go_wp2_with fail
  with_reducible refine Calls.mono (H7.out _) ?_
  rintro e x33 ⟨rfl, hb⟩
  replace hL0 := hL0.call hb
  clear hb
  replace hL0 := (((hL0.new rfl [.int .u64 ((zl 0 : Nat) : Int), .string (zh 0), .bool (zs 0)] 27).new (K := x33.heap.size + 1) (szA _ _) [.int .u64 ((zl 0 : Nat) : Int), .string (zh 0), .bool (zs 0)] 27).new (K := x33.heap.size + 1 + 1) (by simp only [World.size_alloc]) [.int .u64 ((zl 0 : Nat) : Int), .string (zh 0), .bool (zs 0)] 27)
  generalize hweq : (((x33.alloc (.cells #[.int .u64 ((zl 0 : Nat) : Int), .string (zh 0), .bool (zs 0)] 27)).alloc (.cells #[.int .u64 ((zl 0 : Nat) : Int), .string (zh 0), .bool (zs 0)] 27)).alloc (.cells #[.int .u64 ((zl 0 : Nat) : Int), .string (zh 0), .bool (zs 0)] 27)) = x34 at hL0
  go_wp2_with fail
  with_reducible refine Calls.mono (O8.out _) ?_
  rintro e x35 ⟨rfl, hb⟩
  replace hL0 := hL0.call hb
  clear hb hweq
  replace hL0 := (hL0.new rfl [.int .u64 ((zl (-9223372036854775808) : Nat) : Int), .string (zh (-9223372036854775808)), .bool (zs (-9223372036854775808))] 27)
  generalize hweq : (x35.alloc (.cells #[.int .u64 ((zl (-9223372036854775808) : Nat) : Int), .string (zh (-9223372036854775808)), .bool (zs (-9223372036854775808))] 27)) = x36 at hL0
  have hN0 := cells_of _ 0 [] rfl (hL0.get _ _ (List.mem_cons_of_mem _ (List.mem_cons_of_mem _ (List.mem_cons_of_mem _ (List.mem_cons_of_mem _ (List.mem_cons_of_mem _ (List.mem_cons_of_mem _ (List.mem_cons_of_mem _ (List.mem_cons_of_mem _ (List.mem_cons_of_mem _ List.mem_cons_self))))))))))
  simp only [cellsF, and_true, Nat.zero_add, Nat.reduceAdd] at hN0
  go_wp2_with fail
  clear hN0
  with_reducible refine Calls.mono (S4.out _) ?_
  rintro e x37 ⟨rfl, hb⟩
  replace hL0 := hL0.call hb
  clear hb hweq
  have hN0 := cells_of _ 0 [] rfl (hL0.get _ _ (List.mem_cons_of_mem _ (List.mem_cons_of_mem _ (List.mem_cons_of_mem _ (List.mem_cons_of_mem _ (List.mem_cons_of_mem _ (List.mem_cons_of_mem _ (List.mem_cons_of_mem _ (List.mem_cons_of_mem _ List.mem_cons_self)))))))))
  simp only [cellsF, and_true, Nat.zero_add, Nat.reduceAdd] at hN0
  go_wp2_with fail
  clear hN0
  with_reducible refine Calls.mono (S5.out _) ?_
  rintro e x38 ⟨rfl, hb⟩
  replace hL0 := hL0.call hb
  clear hb
  have hN0 := cells_of _ 0 [] rfl (hL0.get _ _ (List.mem_cons_of_mem _ (List.mem_cons_of_mem _ (List.mem_cons_of_mem _ (List.mem_cons_of_mem _ (List.mem_cons_of_mem _ (List.mem_cons_of_mem _ (List.mem_cons_of_mem _ List.mem_cons_self))))))))
  simp only [cellsF, and_true, Nat.zero_add, Nat.reduceAdd] at hN0
  go_wp2_with fail
  clear hN0
  with_reducible refine Calls.mono (S1.out _) ?_
  rintro e x39 ⟨rfl, hb⟩
  replace hL0 := hL0.call hb
  clear hb
  have hN0 := cells_of _ 0 [] rfl (hL0.get _ _ (List.mem_cons_of_mem _ (List.mem_cons_of_mem _ (List.mem_cons_of_mem _ (List.mem_cons_of_mem _ (List.mem_cons_of_mem _ (List.mem_cons_of_mem _ List.mem_cons_self)))))))
  simp only [cellsF, and_true, Nat.zero_add, Nat.reduceAdd] at hN0
  go_wp2_with fail
  clear hN0
  with_reducible refine Calls.mono (S6.out _) ?_
  rintro e x40 ⟨rfl, hb⟩
  replace hL0 := hL0.call hb
  clear hb
  have hN0 := cells_of _ 0 [] rfl (hL0.get _ _ (List.mem_cons_of_mem _ (List.mem_cons_of_mem _ (List.mem_cons_of_mem _ (List.mem_cons_of_mem _ (List.mem_cons_of_mem _ List.mem_cons_self))))))
  simp only [cellsF, and_true, Nat.zero_add, Nat.reduceAdd] at hN0
  go_wp2_with fail
  clear hN0
  with_reducible refine Calls.mono (S5.out _) ?_
  rintro e x41 ⟨rfl, hb⟩
  replace hL0 := hL0.call hb
  clear hb
  have hN0 := cells_of _ 0 [] rfl (hL0.get _ _ (List.mem_cons_of_mem _ (List.mem_cons_of_mem _ (List.mem_cons_of_mem _ (List.mem_cons_of_mem _ List.mem_cons_self)))))
  simp only [cellsF, and_true, Nat.zero_add, Nat.reduceAdd] at hN0
  go_wp2_with fail
  clear hN0
  with_reducible refine Calls.mono (S7.out _) ?_
  rintro e x42 ⟨rfl, hb⟩
  replace hL0 := hL0.call hb
  clear hb
  have hN0 := cells_of _ 0 [] rfl (hL0.get _ _ (List.mem_cons_of_mem _ (List.mem_cons_of_mem _ (List.mem_cons_of_mem _ List.mem_cons_self))))
  simp only [cellsF, and_true, Nat.zero_add, Nat.reduceAdd] at hN0
  go_wp2_with fail
  clear hN0
  with_reducible refine Calls.mono (S7.out _) ?_
  rintro e x43 ⟨rfl, hb⟩
  replace hL0 := hL0.call hb
  clear hb
  have hN0 := cells_of _ 0 [] rfl (hL0.get _ _ (List.mem_cons_of_mem _ (List.mem_cons_of_mem _ List.mem_cons_self)))
  simp only [cellsF, and_true, Nat.zero_add, Nat.reduceAdd] at hN0
  go_wp2_with fail
  clear hN0
  with_reducible refine Calls.mono (S7.out _) ?_
  rintro e x44 ⟨rfl, hb⟩
  replace hL0 := hL0.call hb
  clear hb
  have hN0 := cells_of _ 0 [] rfl (hL0.get _ _ (List.mem_cons_of_mem _ List.mem_cons_self))
  simp only [cellsF, and_true, Nat.zero_add, Nat.reduceAdd] at hN0
  go_wp2_with fail
  clear hN0
  with_reducible refine Calls.mono (S7.out _) ?_
  rintro e x45 ⟨rfl, hb⟩
  replace hL0 := hL0.call hb
  clear hb
  have hN0 := cells_of _ 0 [] rfl (hL0.get _ _ List.mem_cons_self)
  simp only [cellsF, and_true, Nat.zero_add, Nat.reduceAdd] at hN0
  go_wp2_with fail
  clear hN0
  with_reducible refine Calls.mono (H8.out _) ?_
  rintro e x46 ⟨rfl, hb⟩
  replace hL0 := hL0.call hb
  clear hb
  go_wp2_with fail
  with_reducible refine Calls.mono (HT.out _ (htab.below hL0.bl)) ?_
  rintro e x47 ⟨rfl, hb⟩
  replace hL0 := hL0.call hb
  clear hb
  go_wp2_with fail
  with_reducible refine Calls.mono (H9.out _) ?_
  rintro e x48 ⟨rfl, hb⟩
  replace hL0 := hL0.call hb
  clear hb
  replace hL0 := (hL0.new rfl [.int .u64 ((zl 0 : Nat) : Int), .string (zh 0), .bool (zs 0)] 27)
  generalize hweq : (x48.alloc (.cells #[.int .u64 ((zl 0 : Nat) : Int), .string (zh 0), .bool (zs 0)] 27)) = x49 at hL0
  go_wp2_with fail
  with_reducible refine Calls.mono (H10.out _) ?_
  rintro e x50 ⟨rfl, hb⟩
  replace hL0 := hL0.call hb
  clear hb hweq
  replace hL0 := (hL0.new rfl [.int .u64 ((zl 0 : Nat) : Int), .string (zh 0), .bool (zs 0)] 27)
  generalize hweq : (x50.alloc (.cells #[.int .u64 ((zl 0 : Nat) : Int), .string (zh 0), .bool (zs 0)] 27)) = x51 at hL0
  go_wp2_with fail
  with_reducible refine Calls.mono (H11.out _) ?_
  rintro e x52 ⟨rfl, hb⟩
  replace hL0 := hL0.call hb
  clear hb hweq
  replace hL0 := (hL0.new rfl [.int .u64 ((zl (-12) : Nat) : Int), .string (zh (-12)), .bool (zs (-12))] 27)
  generalize hweq : (x52.alloc (.cells #[.int .u64 ((zl (-12) : Nat) : Int), .string (zh (-12)), .bool (zs (-12))] 27)) = x53 at hL0
  go_wp2_with fail
  with_reducible refine Calls.mono (H12.out _) ?_
  rintro e x54 ⟨rfl, hb⟩
  replace hL0 := hL0.call hb
  clear hb hweq
  replace hL0 := (hL0.new rfl [.int .u64 ((zl 0 : Nat) : Int), .string (zh 0), .bool (zs 0)] 27)
  generalize hweq : (x54.alloc (.cells #[.int .u64 ((zl 0 : Nat) : Int), .string (zh 0), .bool (zs 0)] 27)) = x55 at hL0
  have hN0 := cells_of _ 0 [] rfl (hL0.get _ _ (List.mem_cons_of_mem _ List.mem_cons_self))
  simp only [cellsF, and_true, Nat.zero_add, Nat.reduceAdd] at hN0
  go_wp2_with fail
  clear hN0
  with_reducible refine Calls.mono (S8.out _) ?_
  rintro e x56 ⟨rfl, hb⟩
  replace hL0 := hL0.call hb
  clear hb hweq
  go_wp2_with fail
  exact bodyPost_ret (v := .bool true) (by simp [results, Tryd.results8, go_sem]) rfl ⟨rfl, hL0.bl⟩
end Go.Proofs.YthehcjfmokabfaaDoor

namespace Go.Proofs.YthehcjfmokabfaaDoor
open Go.RowKit
attribute [local irreducible] lo hs zl zh zs

theorem Ws.len {w : World} {a : Option Addr} {n c : Nat} {l : List Nat} (h : Ws w (.slice a n c) l) : l.length = n := by
  rcases h with ⟨ao, c1, h1, h2⟩ | ⟨a1, c1, h1, h2⟩
  · simp only [Value.slice.injEq] at h1; rw [h2, h1.2.1]; rfl
  · simp only [Value.slice.injEq] at h1; rw [h1.2.1]
theorem fw1 {w : World} {g : Nat} {s0 a0 : _} {n0 c0 : Nat} (h : Hd w g [.bool s0, .slice a0 n0 c0]) : FW w g 1 (fun _ => n0) :=
  ⟨fun i hi => ⟨a0, c0, by obtain rfl : i = 0 := by omega
                           exact h.cell 1 (by simp)⟩, by omega⟩
theorem fw2 {w : World} {g : Nat} {s0 a0 s1 a1 : _} {n0 c0 n1 c1 : Nat} (h : Hd w g [.bool s0, .slice a0 n0 c0, .bool s1, .slice a1 n1 c1]) : FW w g 2 (fun i => if i = 0 then n0 else n1) :=
  ⟨fun i hi => by
    rcases (show i = 0 ∨ i = 1 by omega) with rfl | rfl
    · exact ⟨a0, c0, h.cell 1 (by simp)⟩
    · exact ⟨a1, c1, h.cell 3 (by simp)⟩, by omega⟩
theorem fw3 {w : World} {g : Nat} {s0 a0 s1 a1 s2 a2 : _} {n0 c0 n1 c1 n2 c2 : Nat} (h : Hd w g [.bool s0, .slice a0 n0 c0, .bool s1, .slice a1 n1 c1, .bool s2, .slice a2 n2 c2]) :
    FW w g 3 (fun i => if i = 0 then n0 else if i = 1 then n1 else n2) :=
  ⟨fun i hi => by
    rcases (show i = 0 ∨ i = 1 ∨ i = 2 by omega) with rfl | rfl | rfl
    · exact ⟨a0, c0, h.cell 1 (by simp)⟩
    · exact ⟨a1, c1, h.cell 3 (by simp)⟩
    · exact ⟨a2, c2, h.cell 5 (by simp)⟩, by omega⟩
theorem few_any (z : Int) (most : Nat) (hz : z = (most : Int)) (g n c : Nat) (len : Nat → Nat) (w : World) (hF : FW w g n len) (hn : 0 < n) (hm : most < 1000) (B : Bool) (hB : B = true ↔ ∀ i, i < n → len i ≤ most) :
    Calls Tryd.prog 14 #[.int .i64 z, .slice (some ⟨g, 0, none⟩) n c] w fun e w' => e = .returned (.bool B) ∧ w' = w := by
  subst hz
  by_cases h : ∀ i, i < n → len i ≤ most
  · rw [hB.2 h]; exact few_yes most g n c len w hF hn hm h
  · have hf : B = false := Bool.eq_false_iff.2 fun e => h (hB.1 e)
    rw [hf]
    have : ∃ k, k < n ∧ most < len k ∧ ∀ i, i < k → len i ≤ most := by
      have ex : ∃ k, k < n ∧ most < len k := Classical.byContradiction fun hc => h fun i hi => Nat.le_of_not_lt fun hh => hc ⟨i, hi, hh⟩
      have key : ∀ m k, k ≤ m → k < n → most < len k → ∃ k, k < n ∧ most < len k ∧ ∀ i, i < k → len i ≤ most := by
        intro m
        induction m with
        | zero => intro k hk h1 h2; exact ⟨k, h1, h2, fun i hi => by omega⟩
        | succ m ih =>
          intro k hk h1 h2
          by_cases hx : ∀ i, i < k → len i ≤ most
          · exact ⟨k, h1, h2, hx⟩
          · have : ∃ i, i < k ∧ most < len i := Classical.byContradiction fun hc => hx fun i hi => Nat.le_of_not_lt fun hh => hc ⟨i, hi, hh⟩
            obtain ⟨i, hi, hl⟩ := this
            exact ih i (by omega) (by omega) hl
      obtain ⟨k, h1, h2⟩ := ex
      exact key k k (Nat.le_refl _) h1 h2
    obtain ⟨k, h1, h2, h3⟩ := this
    exact few_no most g n c k len w hF h1 hm h3 h2
theorem few1 (z : Int) (most : Nat) (hz : z = (most : Int)) (hm : most < 1000) {w : World} {g : Nat} {s0 : Bool} {a0 : Option Addr} {n0 c0 : Nat} (h : Hd w g [.bool s0, .slice a0 n0 c0]) :
    Calls Tryd.prog 14 #[.int .i64 z, .slice (some ⟨g, 0, none⟩) 1 1] w fun e w' => e = .returned (.bool (decide (n0 ≤ most))) ∧ w' = w :=
  few_any z most hz g 1 1 _ w (fw1 h) (by omega) hm _ ⟨fun hb i hi => of_decide_eq_true hb, fun hb => decide_eq_true (hb 0 (by omega))⟩
theorem few2 (z : Int) (most : Nat) (hz : z = (most : Int)) (hm : most < 1000) {w : World} {g : Nat} {s0 s1 : Bool} {a0 a1 : Option Addr} {n0 c0 n1 c1 : Nat} (h : Hd w g [.bool s0, .slice a0 n0 c0, .bool s1, .slice a1 n1 c1]) :
    Calls Tryd.prog 14 #[.int .i64 z, .slice (some ⟨g, 0, none⟩) 2 2] w fun e w' => e = .returned (.bool (decide (n0 ≤ most ∧ n1 ≤ most))) ∧ w' = w :=
  few_any z most hz g 2 2 _ w (fw2 h) (by omega) hm _ ⟨fun hb i hi => by have h0 := of_decide_eq_true hb; split <;> omega, fun hb => decide_eq_true ⟨by have := hb 0 (by omega); simpa using this, by have := hb 1 (by omega); simpa using this⟩⟩
theorem few3 (z : Int) (most : Nat) (hz : z = (most : Int)) (hm : most < 1000) {w : World} {g : Nat} {s0 s1 s2 : Bool} {a0 a1 a2 : Option Addr} {n0 c0 n1 c1 n2 c2 : Nat} (h : Hd w g [.bool s0, .slice a0 n0 c0, .bool s1, .slice a1 n1 c1, .bool s2, .slice a2 n2 c2]) :
    Calls Tryd.prog 14 #[.int .i64 z, .slice (some ⟨g, 0, none⟩) 3 3] w fun e w' => e = .returned (.bool (decide (n0 ≤ most ∧ n1 ≤ most ∧ n2 ≤ most))) ∧ w' = w :=
  few_any z most hz g 3 3 _ w (fw3 h) (by omega) hm _ ⟨fun hb i hi => by have h0 := of_decide_eq_true hb; split <;> (try split) <;> omega,
    fun hb => decide_eq_true ⟨by have := hb 0 (by omega); simpa using this, by have := hb 1 (by omega); simpa using this, by have := hb 2 (by omega); simpa using this⟩⟩

theorem seg_callW {α : Type} {F : α → World} {x : World} (h1 : ∀ y, Below x.drew.heap.size x.drew (F y)) (h2 : ∀ x W, Below (F x).heap.size (F x) W → ∃ y, W = F y) {v0 : Value} {l : List Nat} (hw : Ws x v0 l) {P : Program} {f : FuncId} {args : Array Value} {v : Value}
    (h : ∀ w, Ws w v0 l → Calls P f args w fun e w' => e = .returned v ∧ Below w.heap.size w w') (y : α) : Calls P f args (F y) fun e w'' => e = .returned v ∧ ∃ y, w'' = F y :=
  (h (F y) (hw.below (below_drew (h1 y)))).mono fun _ _ ⟨he, hb⟩ => ⟨he, h2 y _ hb⟩

theorem ztxt_st (z : Int) : ztxt z = st (if z < 0 then 45 :: Lib.decDigits z.natAbs else Lib.decDigits z.natAbs) := by
  unfold ztxt txt st
  split
  · apply ByteArray.ext; rw [ByteArray.data_append]; simp
  · rfl
theorem dec_len {z : Int} {k : Nat} (hk : 0 < k) (hz : dI z ≤ k) : (Lib.decDigits z.natAbs).length ≤ 20 * k := dec_size hk hz
theorem dec_head (n : Nat) : (Lib.decDigits n).head? ≠ some 45 := by
  have h := dec_isDig n
  have h0 := dec_ne_nil n
  cases hd : Lib.decDigits n with
  | nil => exact absurd hd h0
  | cons c r =>
    intro e
    simp only [List.head?_cons, Option.some.injEq] at e
    have := h c (by rw [hd]; exact List.mem_cons_self)
    subst e
    unfold isDig at this
    simp at this
theorem parse_ztxt (z : Int) (hz : dI z ≤ 200) (w : World) : Calls Tryd.prog 9 #[.string (ztxt z)] w fun e w' => e = .returned (.tuple #[intV z, .int .i64 0]) ∧ Below w.heap.size w w' := by
  have hl := dec_len (k := 200) (by omega) hz
  have hd := dec_isDec z.natAbs
  have hv := dval_dec z.natAbs
  rw [ztxt_st]
  by_cases h : z < 0
  · rw [if_pos h]
    have := iparse_n_ok (Lib.decDigits z.natAbs) (by omega) hd (by rw [hv]; omega) w
    rw [hv, show -((z.natAbs : Nat) : Int) = z by omega] at this
    exact this
  · rw [if_neg h]
    have := iparse_p_ok (Lib.decDigits z.natAbs) (by omega) hd (dec_head _) w
    rw [hv, show ((z.natAbs : Nat) : Int) = z by omega] at this
    exact this
theorem sgn_neg {z : Int} (h : z < 0) : sgn z = -1 := if_pos h
theorem sgn_pos {z : Int} (h : 0 < z) : sgn z = 1 := by unfold sgn; rw [if_neg (by omega), if_neg (by omega)]
theorem sgn_zero : sgn 0 = 0 := rfl
end Go.Proofs.YthehcjfmokabfaaDoor
