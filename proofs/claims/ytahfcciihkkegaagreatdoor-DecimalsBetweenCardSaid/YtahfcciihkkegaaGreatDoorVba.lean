/-
  The law answers true at every input, and leaves its arguments as they were: a part of the proof. CONDITIONS: the package-level tables start as the program's text lays them (the card ties them).
-/
import Derived.Test.YtahfcciihkkegaaGreatDoorZad
import Derived.Test.YtahfcciihkkegaaGreatDoorRows
import Derived.Test.YtahfcciihkkegaaGreatDoorTie
import Derived.Test.YtahfcciihkkegaaGreatDoorCards
set_option linter.unusedVariables false
set_option linter.unusedSimpArgs false
namespace Go.Proofs.YtahfcciihkkegaaGreatDoor
theorem isq_spec (n : Nat) : isq n * isq n ≤ n ∧ n < (isq n + 1) * (isq n + 1) := by
 induction n with
 | zero => simp [isq]
 | succ n ih =>
  unfold isq
  split
  ·rename_i h
   refine ⟨h, ?_⟩
   have e : (isq n + 1 + 1) * (isq n + 1 + 1) = (isq n + 1) * (isq n + 1) + 2 * (isq n + 1) + 1 := by
    generalize isq n + 1 = s; rw [Nat.add_mul, Nat.mul_add]; omega
   omega
  ·omega
theorem isq_uniq {n s : Nat} (h1 : s * s ≤ n) (h2 : n < (s + 1) * (s + 1)) : s = isq n := by
 obtain ⟨g1, g2⟩ := isq_spec n
 rcases Nat.lt_trichotomy s (isq n) with h | h | h
 ·have := Nat.mul_le_mul (show s + 1 ≤ isq n by omega) (show s + 1 ≤ isq n by omega); omega
 ·exact h
 ·have := Nat.mul_le_mul (show isq n + 1 ≤ s by omega) (show isq n + 1 ≤ s by omega); omega
end Go.Proofs.YtahfcciihkkegaaGreatDoor
namespace Go.Proofs.YtahfcciihkkegaaGreatDoor
open Go.RowKit
theorem natV_inj {a b : Nat} (h : natV a = natV b) : a = b := by
 have h1 : lo a = lo b := by simp [natV] at h; omega
 have h2 : hs a = hs b := by simp [natV] at h; exact h.2
 have h3 : a / Bs = b / Bs := by
  have := congrArg ByteArray.toList h2
  rw [hs_toList, hs_toList] at this
  exact hiB_inj this
 rw [divmod a, divmod b, h1, h3]
end Go.Proofs.YtahfcciihkkegaaGreatDoor
namespace Go.Proofs.YtahfcciihkkegaaGreatDoor
open Go.RowKit
attribute [local irreducible] lo hs sm s64 c64 d64 b64 mh ml pd pc qd qc val hiB str cmpI srD lz nb isq decB
theorem made_lt {l : List Nat} (h : ∀ x ∈ l, x < 4294967296) : made l < Bs ^ l.length := by
 induction l with
 | nil => exact Nat.one_pos
 | cons x l ih =>
  have h1 := ih fun y hy => h y (List.mem_cons_of_mem _ hy)
  have h2 := h x (List.mem_cons_self)
  rw [made, List.length_cons, Nat.pow_succ]
  have hB : 4294967296 * 2 ≤ Bs := by unfold Bs; omega
  have h3 : Bs ^ l.length * (4294967296 * 2) ≤ Bs ^ l.length * Bs := Nat.mul_le_mul_left _ hB
  generalize Bs ^ l.length = X at *
  generalize X * Bs = Y at *
  omega
theorem made_digs {l : List Nat} (h : ∀ x ∈ l, x < 4294967296) : (digs (made l)).length ≤ l.length := digs_length_iff.2 (made_lt h)
set_option maxHeartbeats 2000000 in
set_option maxRecDepth 100000 in
theorem made_row (a : Addr) (c : Nat) (l : List Nat) (hl : l.length ≤ 1000) (w : World) (hw : Wd w a l) :
  Calls Tryz.prog 100 #[.slice (some a) l.length c] w fun e w' => e = .returned (natV (made l)) ∧ Below w.heap.size w w' := by
 obtain ⟨w0, hw0, hR, hO, hb0, hsz0⟩ := boxes2 w (.int .u64 0) (.string ⟨#[]⟩) (.int .u64 0) (.string ⟨#[]⟩) 30
 obtain ⟨n, hn⟩ : ∃ n, n = l.length := ⟨_, rfl⟩
 have hln := hl
 rw [← hn] at hl
 have hM0 : MS w w0 a l 0 := ⟨by rw [lo_small Bs_pos, hs_small Bs_pos]; exact hO, hR, hw.below hb0, hsz0, hb0⟩
 have hab := hw.blk
 have hlt := hw.lt
 clear hw hR hO hb0 hsz0
 go_enter Tryz.func100, Tryz.ntmps100
 simp only [← hn]
 have HNn := Lib.hid hn
 have hst : made (l.drop n) = 0 := by rw [List.drop_eq_nil_of_le (by omega)]; rfl
 replace hst := Lib.hid hst
 clear hn
 go_wp2_with fail
 go_loopw [4] (fun z wr => ∃ (j m : Nat), j ≤ n ∧ z = .int .i64 ((j : Int) - 1) ∧ m = made (l.drop j) ∧ MS w wr a l m) (fun z _ => (intOf z + 1).toNat)
 case atStart => exact ⟨n, 0, Nat.le_refl _, by first | rfl | go_num, hst.out.symm, hM0⟩
 case round =>
  obtain ⟨j, m, hj, rfl, hm, hS⟩ := hrel
  clear hw0 hM0
  have hn := HNn.out
  cases j with
  | zero =>
   rw [List.drop_zero] at hm
   have HM := Lib.hid hm
   obtain ⟨⟨o0, o1, of⟩, ⟨r0, r1, rf⟩, -, hsz, hB⟩ := id hS
   clear hm hS hn
   go_wp2_with fail
   exact bodyPost_ret (v := natV m) (by simp [results, Tryz.results100, go_sem, r0, r1]) rfl ⟨by rw [HM.out], (hB.setCell (by simp <;> omega) _).setCell (by simp <;> omega) _⟩
  | succ i =>
   have hi : i < l.length := by omega
   obtain ⟨x, hx⟩ : ∃ x, x = l[i] := ⟨_, rfl⟩
   have hx32 : x < 4294967296 := by rw [hx]; exact hlt _ (List.getElem_mem hi)
   have hlm : (digs m).length ≤ 1000 := by
    rw [hm]; exact Nat.le_trans (made_digs fun y hy => hlt y (List.mem_of_mem_drop hy)) (by rw [List.length_drop]; omega)
   have hmd : made (l.drop i) = m * 4294967296 + x := by
    rw [List.drop_eq_getElem_cons hi, made, ← hm, ← hx]; omega
   have hdm : ∀ k, (digs (made (l.drop k))).length ≤ 1000 := fun k => Nat.le_trans (made_digs fun y hy => hlt y (List.mem_of_mem_drop hy)) (by rw [List.length_drop]; omega)
   have hxB : x < Bs := by unfold Bs; omega
   have hlx : (digs x).length ≤ 1 := digs_length_iff.2 (by rw [Nat.pow_one]; exact hxB)
   obtain ⟨C, hC⟩ : ∃ C, C = 4294967296 := ⟨_, rfl⟩
   have hCB : C < Bs := by rw [hC]; unfold Bs; omega
   have hlC : (digs C).length ≤ 1 := digs_length_iff.2 (by rw [Nat.pow_one]; exact hCB)
   have HO1 := Lib.hid (fun w => of_val 4294967296 C (by rw [hC]; rfl) hCB w)
   have HO2 := Lib.hid (fun w => of_any x hxB w)
   have HM := Lib.hid (fun w => mul_any m C (by omega) (by omega) w)
   have hlmc : (digs (m * C)).length ≤ 1000 + 1 := digs_mul_le hlm hlC
   have HA := fun w => add_any (m * C) x (by omega) (by omega) w
   rw [show m * C + x = made (l.drop i) by rw [hmd, hC]] at HA
   obtain ⟨m2, hm2⟩ : ∃ m2, m2 = made (l.drop i) := ⟨_, rfl⟩
   rw [← hm2] at HA
   generalize m * C = mc at *
   replace HA := Lib.hid HA
   have HM2 := Lib.hid hm2
   have hS' := hS.drew
   have h0 := hS.cells i x hi hx
   have h0' := hS'.cells i x hi hx
   have HX := Lib.hid hx
   have e1 : (((i + 1 : Nat) : Int) - 1) = (i : Int) := by omega
   have hwx : IntKind.u64.wrap (x : Int) = (x : Int) := wrapN _ (by omega)
   have hin : (i : Int) < (n : Int) := by omega
   clear hn hx hm hm2 hmd hdm hlm hlmc hlx hlC hC hCB hxB hx32 hlt
   rw [e1]
   go_wp2_with fail
   obtain ⟨o0, o1, of⟩ := id hS'.O
   obtain ⟨g0, g1, g2⟩ := id h0'
   go_region_with
    (first
     | (go_at_call 52; ((with_reducible refine Calls.mono (HO1.out _) ?_); rintro e w1 ⟨rfl, hb1⟩; have hS1 : MS w w1 a l m := (by first | exact hS'.below hb1 | exact hS1.below hb1 | exact hS2.below hb1 | exact hS3.below hb1 | exact hS4.below hb1); obtain ⟨o01, o11, of1⟩ := id hS1.O; have h1 := (hS1.cells i x hi HX.out).2.2))
     | (go_at_call 52; ((with_reducible refine Calls.mono (HO2.out _) ?_); rintro e w2 ⟨rfl, hb2⟩; have hS2 : MS w w2 a l m := (by first | exact hS'.below hb2 | exact hS1.below hb2 | exact hS2.below hb2 | exact hS3.below hb2 | exact hS4.below hb2); obtain ⟨o02, o12, of2⟩ := id hS2.O; have h2 := (hS2.cells i x hi HX.out).2.2))
     | (go_at_call 68; ((with_reducible refine Calls.mono (HM.out _) ?_); rintro e w3 ⟨rfl, hb3⟩; have hS3 : MS w w3 a l m := (by first | exact hS'.below hb3 | exact hS1.below hb3 | exact hS2.below hb3 | exact hS3.below hb3 | exact hS4.below hb3); obtain ⟨o03, o13, of3⟩ := id hS3.O; have h3 := (hS3.cells i x hi HX.out).2.2))
     | (go_at_call 49; ((with_reducible refine Calls.mono (HA.out _) ?_); rintro e w4 ⟨rfl, hb4⟩; have hS4 : MS w w4 a l m := (by first | exact hS'.below hb4 | exact hS1.below hb4 | exact hS2.below hb4 | exact hS3.below hb4 | exact hS4.below hb4); obtain ⟨o04, o14, of4⟩ := id hS4.O; have h4 := (hS4.cells i x hi HX.out).2.2; have hS5 := hS4.put hab m2; have h5 := (hS5.cells i x hi HX.out).2.2)))
   all_goals (
    have HS5 := Lib.hid hS5
    clear hS5 h5 hS h0 h0' hS' o0 o1 of
    go_wp2_with fail
    go_roundw
    case rel => exact ⟨i, m2, by omega, by first | rfl | go_num, HM2.out, HS5.out⟩
    case measure => simp [intOf])
set_option maxHeartbeats 2000000 in
set_option maxRecDepth 100000 in
theorem made_nil (ao : Option Addr) (c : Nat) (w : World) :
  Calls Tryz.prog 100 #[.slice ao 0 c] w fun e w' => e = .returned (natV 0) ∧ Below w.heap.size w w' := by
 obtain ⟨w0, hw0, hR, hO, hb0, hsz0⟩ := boxes2 w (.int .u64 0) (.string ⟨#[]⟩) (.int .u64 0) (.string ⟨#[]⟩) 30
 obtain ⟨o0, o1, of⟩ := id hO
 obtain ⟨r0, r1, rf⟩ := id hR
 rw [natV_zero]
 go_enter Tryz.func100, Tryz.ntmps100
 go_wp2_with fail
 go_loopw [4] (fun z wr => z = .int .i64 (-1) ∧ wr = w0) (fun z _ => (intOf z + 1).toNat)
 case atStart => exact ⟨rfl, rfl⟩
 case round =>
  obtain ⟨rfl, rfl⟩ := hrel
  go_wp2_with fail
  exact bodyPost_ret (v := .agg #[.int .u64 0, .string ⟨#[]⟩]) (by simp [results, Tryz.results100, go_sem, r0, r1]) rfl ⟨rfl, (hb0.setCell (by simp <;> omega) _).setCell (by simp <;> omega) _⟩
theorem made_any (v : Value) (l : List Nat) (hl : l.length ≤ 1000) (w : World) (h : Ws w v l) :
  Calls Tryz.prog 100 #[v] w fun e w' => e = .returned (natV (made l)) ∧ Below w.heap.size w w' := by
 rcases h with ⟨ao, c, rfl, rfl⟩ | ⟨a, c, rfl, h2⟩
 ·exact made_nil ao c w
 ·exact made_row a c l hl w h2
end Go.Proofs.YtahfcciihkkegaaGreatDoor
namespace Go.Proofs.YtahfcciihkkegaaGreatDoor
open Go.RowKit
/-- No int lies in a box that holds none. -/
theorem Hd.no_int {w : World} {k : Nat} {c : List Value} (h : Hd w k c) (hc : ∀ v ∈ c, ∀ n, v ≠ .int .i64 n) {a : Addr} {n : Int} (hx : w.cell? a = some (.int .i64 n)) : a.block ≠ k := by
 intro e
 obtain ⟨arr, t, h1, h2⟩ := h.row
 unfold World.cell? at hx
 rw [e, h1] at hx
 simp only at hx
 split at hx
 ·cases hx
 ·rename_i hs
  have ho : a.off < c.length := by
   have := (Array.getElem?_eq_some_iff.1 hx).1
   omega
  have h3 := h.cell a.off ho
  unfold World.cell? at h3
  simp only [h1] at h3
  rw [if_neg (by simp)] at h3
  rw [hx] at h3
  exact hc c[a.off] (List.getElem_mem ho) n (Option.some.inj h3).symm
end Go.Proofs.YtahfcciihkkegaaGreatDoor
namespace Go.Proofs.YtahfcciihkkegaaGreatDoor
open Go.RowKit
attribute [local irreducible] lo hs sm s64 c64 d64 b64 mh ml pd pc qd qc val hiB str cmpI srD lz nb isq decB
end Go.Proofs.YtahfcciihkkegaaGreatDoor
namespace Go.Proofs.YtahfcciihkkegaaGreatDoor
open Go.RowKit
attribute [local irreducible] lo hs
theorem intV_inj {x y : Int} (h : intV x = intV y) : x = y := by
 rw [intV_zV, intV_zV] at h
 simp only [zV, Value.agg.injEq, Array.mk.injEq, List.cons.injEq, Value.int.injEq, Value.string.injEq, Value.bool.injEq, and_true, true_and] at h
 obtain ⟨h1, h2, h3⟩ := h
 have h4 : x.natAbs = y.natAbs := natV_inj (by unfold natV; rw [h1, h2])
 by_cases hx : x < 0
 ·rw [decide_eq_true hx] at h3
  have : y < 0 := by simpa using h3.symm
  omega
 ·rw [decide_eq_false hx] at h3
  have : ¬ y < 0 := by simpa using h3.symm
  omega
/-- What == sees of two integers that differ. -/
theorem ne_int {x y : Int} (h : x ≠ y) : (((zl x : Nat) : Int) == ((zl y : Nat) : Int)) = false ∨ ((((zl x : Nat) : Int) == ((zl y : Nat) : Int)) = true ∧ ((zh x).toList == (zh y).toList) = false) ∨
  ((((zl x : Nat) : Int) == ((zl y : Nat) : Int)) = true ∧ ((zh x).toList == (zh y).toList) = true ∧ (zs x == zs y) = false) := by
 by_cases h1 : zl x = zl y
 ·right
  have e1 : (((zl x : Nat) : Int) == ((zl y : Nat) : Int)) = true := by rw [h1]; exact beq_self_eq_true _
  by_cases h2 : zh x = zh y
  ·right
   refine ⟨e1, by rw [h2]; exact beq_self_eq_true _, ?_⟩
   rw [beq_eq_false_iff_ne]
   intro h3
   exact h (intV_inj (by unfold intV; rw [h1, h2, h3]))
  ·left
   refine ⟨e1, beq_eq_false_iff_ne.2 fun h3 => h2 ?_⟩
   unfold zh at h3 ⊢
   rw [hs_toList, hs_toList] at h3
   have h4 := hiB_inj h3
   have h5 := divmod x.natAbs
   have h6 := divmod y.natAbs
   have h7 : lo x.natAbs = lo y.natAbs := h1
   rw [h4, h7, ← h6] at h5
   rw [h5]
 ·left
  exact beq_eq_false_iff_ne.2 fun h2 => h1 (by omega)
end Go.Proofs.YtahfcciihkkegaaGreatDoor
namespace Go.Proofs.YtahfcciihkkegaaGreatDoor
open Go.RowKit
attribute [local irreducible] lo hs
end Go.Proofs.YtahfcciihkkegaaGreatDoor
namespace Go.Proofs.YtahfcciihkkegaaGreatDoor
open Go.RowKit
theorem rinv_parts {a : Rat} (h : a ≠ 0) : (a⁻¹).num = (if a.num < 0 then -(a.den : Int) else (a.den : Int)) ∧ (a⁻¹).den = a.num.natAbs := by
 have h0 : a.num ≠ 0 := fun e => h (Rat.num_eq_zero.1 e)
 rw [Rat.num_inv, Rat.den_inv, if_neg h0]
 refine ⟨?_, rfl⟩
 split
 ·rename_i h1; rw [Int.sign_eq_neg_one_of_neg h1]; omega
 ·rw [Int.sign_eq_one_of_pos (by omega)]; omega
theorem den_one' {a : Rat} : a.den = 1 ↔ (a.floor : Rat) = a := by
 constructor
 ·intro h; rw [rfloor, h]; refine Rat.ext ?_ h.symm; simp
 ·intro h; rw [← h]; rfl
theorem ceil_ge (a : Rat) : a ≤ (rceil a : Rat) := by
 have := Rat.floor_le (-a)
 unfold rceil
 rw [Rat.intCast_neg]
 grind
theorem ceil_lt (a : Rat) : (rceil a : Rat) - 1 < a := by
 have := Rat.lt_floor_add_one (-a)
 unfold rceil
 rw [Rat.intCast_add] at this
 rw [Rat.intCast_neg]
 simp at this ⊢
 grind
def sgnQ (a : Rat) : Int := if a < 0 then -1 else if a = 0 then 0 else 1
theorem sgnQ_num (a : Rat) : sgnQ a = if a.num < 0 then -1 else if a.num = 0 then 0 else 1 := by
 unfold sgnQ
 have h1 : a < 0 ↔ a.num < 0 := by rw [← Rat.not_le, ← Rat.num_nonneg]; omega
 have h2 : a = 0 ↔ a.num = 0 := Rat.num_eq_zero.symm
 simp only [h1, h2]
theorem frV_inj {m n : Int} {d e : Nat} (h : frV m d = frV n e) : m = n ∧ d = e := by
 simp only [frV, Value.agg.injEq, Array.mk.injEq, List.cons.injEq, Value.int.injEq, Value.string.injEq, Value.bool.injEq, and_true, true_and] at h
 obtain ⟨h1, h2, h3, h4, h5⟩ := h
 exact ⟨intV_inj (by unfold intV; rw [h1, h2, h3]), natV_inj (by unfold natV; rw [h4, h5])⟩
theorem fracV_inj {p q : Rat} (h : fracV p = fracV q) : p = q := by
 obtain ⟨h1, h2⟩ := frV_inj h
 refine Rat.ext h1 ?_
 unfold fe at h2
 have := p.den_nz
 have := q.den_nz
 split at h2 <;> split at h2 <;> omega
theorem Sz.inv {q : Rat} {k : Nat} (h : Sz q k) (h0 : q ≠ 0) : Sz q⁻¹ k := by
 obtain ⟨h1, h2⟩ := rinv_parts h0
 refine ⟨?_, by rw [h2]; exact h.1⟩
 rw [h1]
 split
 ·rw [dI_neg, dI_nat]; exact h.2
 ·rw [dI_nat]; exact h.2
theorem Sz.div {p q : Rat} {k m : Nat} (hp : Sz p k) (hq : Sz q m) (h0 : q ≠ 0) : Sz (p / q) (k + m) := by
 rw [Rat.div_def]; exact hp.mul (hq.inv h0)
theorem Keeps.ws (v : Value) (l : List Nat) : Keeps (fun w => Ws w v l) := fun _ _ hb h => h.below hb
theorem seg_callK {α : Type} {F : α → World} {x : World} {K : World → Prop} (hK : Keeps K) (h1 : ∀ y, Below x.drew.heap.size x.drew (F y)) (h2 : ∀ x W, Below (F x).heap.size (F x) W → ∃ y, W = F y) (hk : K x) {P : Program} {f : FuncId} {args : Array Value} {v : Value}
  (h : ∀ w, K w → Calls P f args w fun e w' => e = .returned v ∧ Below w.heap.size w w') (y : α) : Calls P f args (F y) fun e w'' => e = .returned v ∧ ∃ y, w'' = F y :=
 (h (F y) (hK _ _ (below_drew (h1 y)) hk)).mono fun _ _ ⟨he, hb⟩ => ⟨he, h2 y _ hb⟩
end Go.Proofs.YtahfcciihkkegaaGreatDoor
namespace Go.Proofs.YtahfcciihkkegaaGreatDoor
open Go.RowKit
attribute [local irreducible] lo hs sm s64 c64 d64 b64 mh ml pd pc qd qc val hiB str cmpI srD lz nb isq decB zl zh zs
theorem cls_callW {α : Type} {F : α → World} {w0 : World} (h1 : ∀ x, Below w0.heap.size w0 (F x)) (h2 : ∀ W, Below w0.heap.size w0 W → ∃ x, W = F x) {v0 : Value} {l : List Nat} (hw : Ws w0 v0 l) {P : Program} {f : FuncId} {args : Array Value} {v : Value}
  (h : ∀ w, Ws w v0 l → Calls P f args w fun e w' => e = .returned v ∧ Below w.heap.size w w') (x : α) : Calls P f args (F x) fun e w'' => e = .returned v ∧ ∃ y, w'' = F y :=
 (h (F x) (hw.below (h1 x))).mono fun _ _ ⟨he, hb⟩ => ⟨he, h2 _ ((h1 x).trans (hb.mono (h1 x).size))⟩
/-- An integer as plain data. -/
def zmade (s : Bool) (l : List Nat) : Int := if s then -(made l : Int) else (made l : Int)
theorem zmade_dI {s : Bool} {l : List Nat} (h : ∀ x ∈ l, x < 4294967296) : dI (zmade s l) ≤ l.length := by
 unfold zmade
 cases s
 ·simp only [Bool.false_eq_true, if_false, dI_nat]; exact made_digs h
 ·simp only [if_true, dI_neg, dI_nat]; exact made_digs h
set_option maxHeartbeats 4000000 in
set_option maxRecDepth 100000 in
theorem zof_any (s : Bool) (a : Option Addr) (n c : Nat) (l : List Nat) (hl : l.length ≤ 1000) (w : World) (hw : Ws w (.slice a n c) l) :
  Calls Tryz.prog 48 #[.agg #[.bool s, .slice a n c]] w fun e w' => e = .returned (intV (zmade s l)) ∧ Below w.heap.size w w' := by
 have hL0 : GL w w [] := GL.start w
 have HM := Lib.hid (fun w h => made_any (.slice a n c) l hl w h)
 have HF := Lib.hid (fun w => fromI s (made l) (zmade s l) rfl w)
 generalize hz : zmade s l = z at *
 replace hz := Lib.hid hz
 generalize made l = m at *
 clear hl
 replace hL0 := ((hL0.new rfl [.bool s, .slice a n c] 24).new (K := w.heap.size + 1) (szA _ _) [.int .u64 0, .string ⟨#[]⟩, .bool false] 32)
 generalize hweq : ((w.alloc (.cells #[.bool s, .slice a n c] 24)).alloc (.cells #[.int .u64 0, .string ⟨#[]⟩, .bool false] 32)) = x1 at hL0
 have hW := Lib.hid (hw.below hL0.bl)
 clear hw
 go_enter Tryz.func48, Tryz.ntmps48
 have hA := hL0.fc
 simp only [fcG, cellsF, neK, and_true, ne_eq, Nat.zero_add, Nat.reduceAdd] at hA
 go_upto_region 1 with fail
 clear hA
 clear hweq
 obtain ⟨α, iα, F, hF1, hF2⟩ := cls x1
 have hq := GL.fcC hF1 hL0
 simp only [fcC, cellsC, and_true, Nat.zero_add, Nat.reduceAdd] at hq
 refine region_qs 6 (C := fun w' => ∃ x, w' = F x) (by kernel_rfl) (by kernel_rfl) (cls_drew hF2) ?_
 simp only [List.take_succ_cons, List.take_zero, List.drop_succ_cons, List.drop_zero, List.take_nil, List.drop_nil]
 repeat (go_big_quiet_step (first | fail | (go_at_call 100; with_reducible exact cls_callW hF1 hF2 hW.out HM.out _) | (go_at_call 69; with_reducible exact cls_call hF1 hF2 HF.out _)))
 refine wpQuiet_nil ?_
 rintro wq ⟨xq, rfl⟩
 replace hL0 := hL0.call (hF1 xq)
 clear hq hF2
 generalize F xq = x2 at hL0 ⊢
 clear hF1 xq iα F α
 have hA := hL0.fc
 simp only [fcG, cellsF, neK, and_true, ne_eq, Nat.zero_add, Nat.reduceAdd] at hA
 have hP := hL0.put 0 (w.heap.size + 1) _ rfl [.int .u64 ((zl z : Nat) : Int), .string (zh z), .bool (zs z)] rfl
 simp only [setAll, List.set_cons_zero, List.set_cons_succ] at hP
 generalize hput1 : (((x2.setCell ⟨w.heap.size + 1, 0, none⟩ (.int .u64 ((zl z : Nat) : Int))).setCell ⟨w.heap.size + 1, 1, none⟩ (.string (zh z))).setCell ⟨w.heap.size + 1, 2, none⟩ (.bool (zs z))) = x3 at hP
 have hB1 := hP.fc
 simp only [fcG, cellsF, neK, and_true, ne_eq, Nat.zero_add, Nat.reduceAdd] at hB1
 replace hL0 := hP
 go_wp2_with fail
 exact bodyPost_ret (v := intV z) (by simp [results, Tryz.results48, go_sem, hB1]) rfl ⟨rfl, hL0.bl⟩
end Go.Proofs.YtahfcciihkkegaaGreatDoor
namespace Go.Proofs.YtahfcciihkkegaaGreatDoor
open Go.RowKit
attribute [local irreducible] lo hs sm s64 c64 d64 b64 mh ml pd pc qd qc val hiB str cmpI srD lz nb isq decB zl zh zs dval
theorem dI_small {z : Int} (h : z.natAbs < Bs) : dI z ≤ 1 := digs_length_iff.2 (by rw [Nat.pow_one]; exact h)
theorem dI_lit {z : Int} (h : z.natAbs < 18446744073709551616) : dI z ≤ 1 := dI_small (by unfold Bs; exact h)
end Go.Proofs.YtahfcciihkkegaaGreatDoor
namespace Go.Proofs.YtahfcciihkkegaaGreatDoor
open Go.RowKit
attribute [local irreducible] lo hs zl zh zs
end Go.Proofs.YtahfcciihkkegaaGreatDoor
namespace Go.Proofs.YtahfcciihkkegaaGreatDoor
open Go.RowKit
attribute [local irreducible] lo hs sm s64 c64 d64 b64 mh ml pd pc qd qc val hiB str cmpI srD lz nb isq decB zl zh zs
set_option maxHeartbeats 4000000 in
set_option maxRecDepth 100000 in
theorem fabs_w (n m : Int) (a e : Nat) (HA : RT 50 #[intV n] (natV a)) (HF : RT 69 #[.bool false, natV a] (intV m)) (w : World) :
  Calls Tryz.prog 33 #[frV n e] w fun xe w' => xe = .returned (frV m e) ∧ Below w.heap.size w w' := by
 have hL0 : GL w w [] := GL.start w
 replace HA := Lib.hid HA
 replace HF := Lib.hid HF
 replace hL0 := ((hL0.new rfl [.int .u64 ((zl n : Nat) : Int), .string (zh n), .bool (zs n), .int .u64 ((lo e : Nat) : Int), .string (hs e)] 34).new (K := w.heap.size + 1) (szA _ _) [.int .u64 0, .string ⟨#[]⟩, .bool false, .int .u64 0, .string ⟨#[]⟩] 34)
 generalize hweq : ((w.alloc (.cells #[.int .u64 ((zl n : Nat) : Int), .string (zh n), .bool (zs n), .int .u64 ((lo e : Nat) : Int), .string (hs e)] 34)).alloc (.cells #[.int .u64 0, .string ⟨#[]⟩, .bool false, .int .u64 0, .string ⟨#[]⟩] 34)) = x1 at hL0
 go_enter Tryz.func33, Tryz.ntmps33
 go_upto_region 1 with fail
 clear hweq
 obtain ⟨α, iα, F, hF1, hF2⟩ := cls x1
 have hq0 := cls_box hF1 hL0 _ _ (List.mem_cons_of_mem _ List.mem_cons_self)
 simp only [cellsC, and_true, Nat.zero_add, Nat.reduceAdd] at hq0
 refine region_qs 7 (C := fun w' => ∃ x, w' = F x) (by kernel_rfl) (by kernel_rfl) (cls_drew hF2) ?_
 simp only [List.take_succ_cons, List.take_zero, List.drop_succ_cons, List.drop_zero, List.take_nil, List.drop_nil]
 repeat (go_big_quiet_step (first | fail | (go_at_call 50; with_reducible exact cls_call hF1 hF2 HA.out _) | (go_at_call 69; with_reducible exact cls_call hF1 hF2 HF.out _)))
 refine wpQuiet_nil ?_
 rintro wq ⟨xq, rfl⟩
 replace hL0 := hL0.call (hF1 xq)
 clear  hq0 hF2
 generalize F xq = x2 at hL0 ⊢
 clear hF1 xq iα F α
 have hA := hL0.fc
 simp only [fcG, cellsF, neK, and_true, ne_eq, Nat.zero_add, Nat.reduceAdd] at hA
 have hP := hL0.put 0 (w.heap.size + 1) _ rfl [.int .u64 ((zl m : Nat) : Int), .string (zh m), .bool (zs m), .int .u64 ((lo e : Nat) : Int), .string (hs e)] rfl
 simp only [setAll, List.set_cons_zero, List.set_cons_succ] at hP
 generalize hput1 : (((((x2.setCell ⟨w.heap.size + 1, 0, none⟩ (.int .u64 ((zl m : Nat) : Int))).setCell ⟨w.heap.size + 1, 1, none⟩ (.string (zh m))).setCell ⟨w.heap.size + 1, 2, none⟩ (.bool (zs m))).setCell ⟨w.heap.size + 1, 3, none⟩ (.int .u64 ((lo e : Nat) : Int))).setCell ⟨w.heap.size + 1, 4, none⟩ (.string (hs e))) = x3 at hP
 have hB1 := hP.fc
 simp only [fcG, cellsF, neK, and_true, ne_eq, Nat.zero_add, Nat.reduceAdd] at hB1
 replace hL0 := hP
 go_wp2_with fail
 exact bodyPost_ret (v := frV m e) (by simp [results, Tryz.results33, go_sem, hB1]) rfl ⟨rfl, hL0.bl⟩
set_option maxHeartbeats 4000000 in
set_option maxRecDepth 100000 in
theorem fsign_w (n s : Int) (e : Nat) (HS : RT 92 #[intV n] (.int .i64 s)) (w : World) :
  Calls Tryz.prog 34 #[frV n e] w fun xe w' => xe = .returned (.int .i64 s) ∧ Below w.heap.size w w' := by
 have hL0 : GL w w [] := GL.start w
 replace HS := Lib.hid HS
 replace hL0 := (hL0.new rfl [.int .u64 ((zl n : Nat) : Int), .string (zh n), .bool (zs n), .int .u64 ((lo e : Nat) : Int), .string (hs e)] 34)
 generalize hweq : (w.alloc (.cells #[.int .u64 ((zl n : Nat) : Int), .string (zh n), .bool (zs n), .int .u64 ((lo e : Nat) : Int), .string (hs e)] 34)) = x1 at hL0
 go_enter Tryz.func34, Tryz.ntmps34
 have hN0 := cells_of _ 0 [] rfl (hL0.get _ _ List.mem_cons_self)
 simp only [cellsF, and_true, Nat.zero_add, Nat.reduceAdd] at hN0
 go_wp2_with fail
 clear hN0
 with_reducible refine Calls.mono (HS.out _) ?_
 rintro e x2 ⟨rfl, hb⟩
 replace hL0 := hL0.call hb
 clear hb hweq
 go_wp2_with fail
 exact bodyPost_ret (v := .int .i64 s) (by simp [results, Tryz.results34, go_sem]) rfl ⟨rfl, hL0.bl⟩
end Go.Proofs.YtahfcciihkkegaaGreatDoor
namespace Go.Proofs.YtahfcciihkkegaaGreatDoor
open Go.RowKit
attribute [local irreducible] lo hs sm s64 c64 d64 b64 mh ml pd pc qd qc val hiB str cmpI srD lz nb isq decB zl zh zs
set_option maxHeartbeats 4000000 in
set_option maxRecDepth 100000 in
theorem finv_true (n s m x : Int) (e d a f : Nat) (HS : RT 34 #[frV n e] (.int .i64 s)) (HD : RT 75 #[frV n e] (natV d)) (HF : RT 69 #[.bool true, natV d] (intV m)) (HA : RT 50 #[intV n] (natV a)) (HL : RT 89 #[intV m, natV a] (frV x f)) (hsg : decide (s < 0) = true) (w : World) :
  Calls Tryz.prog 83 #[frV n e] w fun xe w' => xe = .returned (frV x f) ∧ Below w.heap.size w w' := by
 have hL0 : GL w w [] := GL.start w
 replace HS := Lib.hid HS
 replace HD := Lib.hid HD
 replace HF := Lib.hid HF
 replace HA := Lib.hid HA
 replace HL := Lib.hid HL
 replace hL0 := ((hL0.new rfl [.int .u64 ((zl n : Nat) : Int), .string (zh n), .bool (zs n), .int .u64 ((lo e : Nat) : Int), .string (hs e)] 34).new (K := w.heap.size + 1) (szA _ _) [.int .u64 0, .string ⟨#[]⟩, .bool false, .int .u64 0, .string ⟨#[]⟩] 34)
 generalize hweq : ((w.alloc (.cells #[.int .u64 ((zl n : Nat) : Int), .string (zh n), .bool (zs n), .int .u64 ((lo e : Nat) : Int), .string (hs e)] 34)).alloc (.cells #[.int .u64 0, .string ⟨#[]⟩, .bool false, .int .u64 0, .string ⟨#[]⟩] 34)) = x1 at hL0
 go_enter Tryz.func83, Tryz.ntmps83
 go_upto_region 1 with fail
 clear hweq
 obtain ⟨α, iα, F, hF1, hF2⟩ := cls x1
 have hq0 := cls_box hF1 hL0 _ _ (List.mem_cons_of_mem _ List.mem_cons_self)
 simp only [cellsC, and_true, Nat.zero_add, Nat.reduceAdd] at hq0
 refine region_qs 10 (C := fun w' => ∃ x, w' = F x) (by kernel_rfl) (by kernel_rfl) (cls_drew hF2) ?_
 simp only [List.take_succ_cons, List.take_zero, List.drop_succ_cons, List.drop_zero, List.take_nil, List.drop_nil]
 repeat (go_big_quiet_step (first | fail | (go_at_call 34; with_reducible exact cls_call hF1 hF2 HS.out _) | (go_at_call 75; with_reducible exact cls_call hF1 hF2 HD.out _) | (go_at_call 69; with_reducible exact cls_call hF1 hF2 HF.out _) | (go_at_call 50; with_reducible exact cls_call hF1 hF2 HA.out _) | (go_at_call 89; with_reducible exact cls_call hF1 hF2 HL.out _)))
 refine wpQuiet_nil ?_
 rintro wq ⟨xq, rfl⟩
 replace hL0 := hL0.call (hF1 xq)
 clear  hq0 hF2
 generalize F xq = x2 at hL0 ⊢
 clear hF1 xq iα F α
 have hA := hL0.fc
 simp only [fcG, cellsF, neK, and_true, ne_eq, Nat.zero_add, Nat.reduceAdd] at hA
 have hP := hL0.put 0 (w.heap.size + 1) _ rfl [.int .u64 ((zl x : Nat) : Int), .string (zh x), .bool (zs x), .int .u64 ((lo f : Nat) : Int), .string (hs f)] rfl
 simp only [setAll, List.set_cons_zero, List.set_cons_succ] at hP
 generalize hput1 : (((((x2.setCell ⟨w.heap.size + 1, 0, none⟩ (.int .u64 ((zl x : Nat) : Int))).setCell ⟨w.heap.size + 1, 1, none⟩ (.string (zh x))).setCell ⟨w.heap.size + 1, 2, none⟩ (.bool (zs x))).setCell ⟨w.heap.size + 1, 3, none⟩ (.int .u64 ((lo f : Nat) : Int))).setCell ⟨w.heap.size + 1, 4, none⟩ (.string (hs f))) = x3 at hP
 have hB1 := hP.fc
 simp only [fcG, cellsF, neK, and_true, ne_eq, Nat.zero_add, Nat.reduceAdd] at hB1
 replace hL0 := hP
 go_wp2_with fail
 exact bodyPost_ret (v := frV x f) (by simp [results, Tryz.results83, go_sem, hB1]) rfl ⟨rfl, hL0.bl⟩
set_option maxHeartbeats 4000000 in
set_option maxRecDepth 100000 in
theorem finv_false (n s m x : Int) (e d a f : Nat) (HS : RT 34 #[frV n e] (.int .i64 s)) (HD : RT 75 #[frV n e] (natV d)) (HF : RT 69 #[.bool false, natV d] (intV m)) (HA : RT 50 #[intV n] (natV a)) (HL : RT 89 #[intV m, natV a] (frV x f)) (hsg : decide (s < 0) = false) (w : World) :
  Calls Tryz.prog 83 #[frV n e] w fun xe w' => xe = .returned (frV x f) ∧ Below w.heap.size w w' := by
 have hL0 : GL w w [] := GL.start w
 replace HS := Lib.hid HS
 replace HD := Lib.hid HD
 replace HF := Lib.hid HF
 replace HA := Lib.hid HA
 replace HL := Lib.hid HL
 replace hL0 := ((hL0.new rfl [.int .u64 ((zl n : Nat) : Int), .string (zh n), .bool (zs n), .int .u64 ((lo e : Nat) : Int), .string (hs e)] 34).new (K := w.heap.size + 1) (szA _ _) [.int .u64 0, .string ⟨#[]⟩, .bool false, .int .u64 0, .string ⟨#[]⟩] 34)
 generalize hweq : ((w.alloc (.cells #[.int .u64 ((zl n : Nat) : Int), .string (zh n), .bool (zs n), .int .u64 ((lo e : Nat) : Int), .string (hs e)] 34)).alloc (.cells #[.int .u64 0, .string ⟨#[]⟩, .bool false, .int .u64 0, .string ⟨#[]⟩] 34)) = x1 at hL0
 go_enter Tryz.func83, Tryz.ntmps83
 go_upto_region 1 with fail
 clear hweq
 obtain ⟨α, iα, F, hF1, hF2⟩ := cls x1
 have hq0 := cls_box hF1 hL0 _ _ (List.mem_cons_of_mem _ List.mem_cons_self)
 simp only [cellsC, and_true, Nat.zero_add, Nat.reduceAdd] at hq0
 refine region_qs 10 (C := fun w' => ∃ x, w' = F x) (by kernel_rfl) (by kernel_rfl) (cls_drew hF2) ?_
 simp only [List.take_succ_cons, List.take_zero, List.drop_succ_cons, List.drop_zero, List.take_nil, List.drop_nil]
 repeat (go_big_quiet_step (first | fail | (go_at_call 34; with_reducible exact cls_call hF1 hF2 HS.out _) | (go_at_call 75; with_reducible exact cls_call hF1 hF2 HD.out _) | (go_at_call 69; with_reducible exact cls_call hF1 hF2 HF.out _) | (go_at_call 50; with_reducible exact cls_call hF1 hF2 HA.out _) | (go_at_call 89; with_reducible exact cls_call hF1 hF2 HL.out _)))
 refine wpQuiet_nil ?_
 rintro wq ⟨xq, rfl⟩
 replace hL0 := hL0.call (hF1 xq)
 clear  hq0 hF2
 generalize F xq = x2 at hL0 ⊢
 clear hF1 xq iα F α
 have hA := hL0.fc
 simp only [fcG, cellsF, neK, and_true, ne_eq, Nat.zero_add, Nat.reduceAdd] at hA
 have hP := hL0.put 0 (w.heap.size + 1) _ rfl [.int .u64 ((zl x : Nat) : Int), .string (zh x), .bool (zs x), .int .u64 ((lo f : Nat) : Int), .string (hs f)] rfl
 simp only [setAll, List.set_cons_zero, List.set_cons_succ] at hP
 generalize hput1 : (((((x2.setCell ⟨w.heap.size + 1, 0, none⟩ (.int .u64 ((zl x : Nat) : Int))).setCell ⟨w.heap.size + 1, 1, none⟩ (.string (zh x))).setCell ⟨w.heap.size + 1, 2, none⟩ (.bool (zs x))).setCell ⟨w.heap.size + 1, 3, none⟩ (.int .u64 ((lo f : Nat) : Int))).setCell ⟨w.heap.size + 1, 4, none⟩ (.string (hs f))) = x3 at hP
 have hB1 := hP.fc
 simp only [fcG, cellsF, neK, and_true, ne_eq, Nat.zero_add, Nat.reduceAdd] at hB1
 replace hL0 := hP
 go_wp2_with fail
 exact bodyPost_ret (v := frV x f) (by simp [results, Tryz.results83, go_sem, hB1]) rfl ⟨rfl, hL0.bl⟩
set_option maxHeartbeats 4000000 in
set_option maxRecDepth 100000 in
theorem fdiv_w (m n x y : Int) (d e f g : Nat) (HI : RT 32 #[.int .i64 0] (frV 0 0)) (HV : RT 83 #[frV n e] (frV x f)) (HM : RT 31 #[frV m d, frV x f] (frV y g)) (hn : n ≠ 0) (w : World) :
  Calls Tryz.prog 27 #[frV m d, frV n e] w fun xe w' => xe = .returned (.tuple #[frV y g, .int .i64 0]) ∧ Below w.heap.size w w' := by
 have hL0 : GL w w [] := GL.start w
 replace HI := Lib.hid HI
 replace HV := Lib.hid HV
 replace HM := Lib.hid HM
 have hz := ne_int hn
 clear hn
 rcases hz with e0 | ⟨e0, e1⟩ | ⟨e0, e1, e2⟩
 all_goals (
  replace hL0 := (((hL0.new rfl [.int .u64 ((zl m : Nat) : Int), .string (zh m), .bool (zs m), .int .u64 ((lo d : Nat) : Int), .string (hs d)] 34).new (K := w.heap.size + 1) (szA _ _) [.int .u64 ((zl n : Nat) : Int), .string (zh n), .bool (zs n), .int .u64 ((lo e : Nat) : Int), .string (hs e)] 34).new (K := w.heap.size + 1 + 1) (by simp only [World.size_alloc]) [.int .u64 0, .string ⟨#[]⟩, .bool false, .int .u64 0, .string ⟨#[]⟩] 34)
  generalize hweq : (((w.alloc (.cells #[.int .u64 ((zl m : Nat) : Int), .string (zh m), .bool (zs m), .int .u64 ((lo d : Nat) : Int), .string (hs d)] 34)).alloc (.cells #[.int .u64 ((zl n : Nat) : Int), .string (zh n), .bool (zs n), .int .u64 ((lo e : Nat) : Int), .string (hs e)] 34)).alloc (.cells #[.int .u64 0, .string ⟨#[]⟩, .bool false, .int .u64 0, .string ⟨#[]⟩] 34)) = x1 at hL0
  go_enter Tryz.func27, Tryz.ntmps27
  go_upto_region 1 with fail
  clear hweq
  obtain ⟨α, iα, F, hF1, hF2⟩ := cls x1
  have hq0 := cls_box hF1 hL0 _ _ (List.mem_cons_of_mem _ List.mem_cons_self)
  simp only [cellsC, and_true, Nat.zero_add, Nat.reduceAdd] at hq0
  refine region_qs 3 (C := fun w' => ∃ x, w' = F x) (by kernel_rfl) (by kernel_rfl) (cls_drew hF2) ?_
  simp only [List.take_succ_cons, List.take_zero, List.drop_succ_cons, List.drop_zero, List.take_nil, List.drop_nil]
  repeat (go_big_quiet_step (first | fail | (go_at_call 32; with_reducible exact cls_call hF1 hF2 HI.out _)))
  refine wpQuiet_nil ?_
  rintro wq ⟨xq, rfl⟩
  replace hL0 := hL0.call (hF1 xq)
  clear  hq0 hF2
  generalize F xq = x2 at hL0 ⊢
  clear hF1 xq iα F α
  go_upto_region 3 with fail
  obtain ⟨α, iα, F, hF1, hF2⟩ := cls x2
  have hq0 := cls_box hF1 hL0 _ _ (List.mem_cons_of_mem _ List.mem_cons_self)
  simp only [cellsC, and_true, Nat.zero_add, Nat.reduceAdd] at hq0
  have hq1 := cls_box hF1 hL0 _ _ (List.mem_cons_of_mem _ (List.mem_cons_of_mem _ List.mem_cons_self))
  simp only [cellsC, and_true, Nat.zero_add, Nat.reduceAdd] at hq1
  refine region_qs 4 (C := fun w' => ∃ x, w' = F x) (by kernel_rfl) (by kernel_rfl) (cls_drew hF2) ?_
  simp only [List.take_succ_cons, List.take_zero, List.drop_succ_cons, List.drop_zero, List.take_nil, List.drop_nil]
  repeat (go_big_quiet_step (first | fail | (go_at_call 83; with_reducible exact cls_call hF1 hF2 HV.out _) | (go_at_call 31; with_reducible exact cls_call hF1 hF2 HM.out _)))
  refine wpQuiet_nil ?_
  rintro wq ⟨xq, rfl⟩
  replace hL0 := hL0.call (hF1 xq)
  clear  hq0 hq1 hF2
  generalize F xq = x3 at hL0 ⊢
  clear hF1 xq iα F α
  have hA := hL0.fc
  simp only [fcG, cellsF, neK, and_true, ne_eq, Nat.zero_add, Nat.reduceAdd] at hA
  have hP := hL0.put 0 (w.heap.size + 1 + 1) _ rfl [.int .u64 ((zl y : Nat) : Int), .string (zh y), .bool (zs y), .int .u64 ((lo g : Nat) : Int), .string (hs g)] rfl
  simp only [setAll, List.set_cons_zero, List.set_cons_succ] at hP
  generalize hput1 : (((((x3.setCell ⟨w.heap.size + 1 + 1, 0, none⟩ (.int .u64 ((zl y : Nat) : Int))).setCell ⟨w.heap.size + 1 + 1, 1, none⟩ (.string (zh y))).setCell ⟨w.heap.size + 1 + 1, 2, none⟩ (.bool (zs y))).setCell ⟨w.heap.size + 1 + 1, 3, none⟩ (.int .u64 ((lo g : Nat) : Int))).setCell ⟨w.heap.size + 1 + 1, 4, none⟩ (.string (hs g))) = x4 at hP
  have hB1 := hP.fc
  simp only [fcG, cellsF, neK, and_true, ne_eq, Nat.zero_add, Nat.reduceAdd] at hB1
  replace hL0 := hP
  go_wp2_with fail
  exact bodyPost_ret (v := .tuple #[frV y g, .int .i64 0]) (by simp [results, Tryz.results27, go_sem, hB1]) rfl ⟨rfl, hL0.bl⟩)
end Go.Proofs.YtahfcciihkkegaaGreatDoor
namespace Go.Proofs.YtahfcciihkkegaaGreatDoor
open Go.RowKit
attribute [local irreducible] lo hs sm s64 c64 d64 b64 mh ml pd pc qd qc val hiB str cmpI srD lz nb isq decB zl zh zs
set_option maxHeartbeats 4000000 in
set_option maxRecDepth 100000 in
theorem fpower_pos (n s z u : Int) (e a d x y f : Nat) (k : Int) (HA : RT 50 #[intV n] (natV a)) (HP : RT 99 #[natV a, .int .i64 k] (.tuple #[natV x, .int .i64 0])) (HD : RT 75 #[frV n e] (natV d)) (HQ : RT 99 #[natV d, .int .i64 k] (.tuple #[natV y, .int .i64 0])) (HS : RT 34 #[frV n e] (.int .i64 s)) (HF : RT 69 #[.bool false, natV x] (intV z)) (HL : RT 89 #[intV z, natV y] (frV u f)) (hsg : decide (s < 0) = false) (w : World) :
  Calls Tryz.prog 140 #[frV n e, .int .i64 k] w fun xe w' => xe = .returned (.tuple #[frV u f, .int .i64 0]) ∧ Below w.heap.size w w' := by
 have hL0 : GL w w [] := GL.start w
 replace HA := Lib.hid HA
 replace HP := Lib.hid HP
 replace HD := Lib.hid HD
 replace HQ := Lib.hid HQ
 replace HS := Lib.hid HS
 replace HF := Lib.hid HF
 replace HL := Lib.hid HL
 replace hL0 := ((hL0.new rfl [.int .u64 ((zl n : Nat) : Int), .string (zh n), .bool (zs n), .int .u64 ((lo e : Nat) : Int), .string (hs e)] 34).new (K := w.heap.size + 1) (szA _ _) [.int .u64 0, .string ⟨#[]⟩, .bool false, .int .u64 0, .string ⟨#[]⟩] 34)
 generalize hweq : ((w.alloc (.cells #[.int .u64 ((zl n : Nat) : Int), .string (zh n), .bool (zs n), .int .u64 ((lo e : Nat) : Int), .string (hs e)] 34)).alloc (.cells #[.int .u64 0, .string ⟨#[]⟩, .bool false, .int .u64 0, .string ⟨#[]⟩] 34)) = x1 at hL0
 go_enter Tryz.func140, Tryz.ntmps140
 have hN0 := cells_of _ 0 [] rfl (hL0.get _ _ (List.mem_cons_of_mem _ List.mem_cons_self))
 simp only [cellsF, and_true, Nat.zero_add, Nat.reduceAdd] at hN0
 go_wp2_with fail
 clear hN0
 with_reducible refine Calls.mono (HA.out _) ?_
 rintro e x2 ⟨rfl, hb⟩
 replace hL0 := hL0.call hb
 clear hb hweq
 go_wp2_with fail
 with_reducible refine Calls.mono (HP.out _) ?_
 rintro e x3 ⟨rfl, hb⟩
 replace hL0 := hL0.call hb
 clear hb
 replace hL0 := (hL0.new rfl [.int .u64 ((lo x : Nat) : Int), .string (hs x)] 30)
 generalize hweq : (x3.alloc (.cells #[.int .u64 ((lo x : Nat) : Int), .string (hs x)] 30)) = x4 at hL0
 have hN0 := cells_of _ 0 [] rfl (hL0.get _ _ (List.mem_cons_of_mem _ (List.mem_cons_of_mem _ List.mem_cons_self)))
 simp only [cellsF, and_true, Nat.zero_add, Nat.reduceAdd] at hN0
 go_wp2_with fail
 clear hN0
 with_reducible refine Calls.mono (HD.out _) ?_
 rintro e x5 ⟨rfl, hb⟩
 replace hL0 := hL0.call hb
 clear hb hweq
 go_wp2_with fail
 with_reducible refine Calls.mono (HQ.out _) ?_
 rintro e x6 ⟨rfl, hb⟩
 replace hL0 := hL0.call hb
 clear hb
 replace hL0 := (hL0.new rfl [.int .u64 ((lo y : Nat) : Int), .string (hs y)] 30)
 generalize hweq : (x6.alloc (.cells #[.int .u64 ((lo y : Nat) : Int), .string (hs y)] 30)) = x7 at hL0
 go_upto_region 7 with fail
 clear hweq
 obtain ⟨α, iα, F, hF1, hF2⟩ := cls x7
 have hq0 := cls_box hF1 hL0 _ _ List.mem_cons_self
 simp only [cellsC, and_true, Nat.zero_add, Nat.reduceAdd] at hq0
 have hq1 := cls_box hF1 hL0 _ _ (List.mem_cons_of_mem _ List.mem_cons_self)
 simp only [cellsC, and_true, Nat.zero_add, Nat.reduceAdd] at hq1
 have hq2 := cls_box hF1 hL0 _ _ (List.mem_cons_of_mem _ (List.mem_cons_of_mem _ (List.mem_cons_of_mem _ List.mem_cons_self)))
 simp only [cellsC, and_true, Nat.zero_add, Nat.reduceAdd] at hq2
 refine region_qs 12 (C := fun w' => ∃ x, w' = F x) (by kernel_rfl) (by kernel_rfl) (cls_drew hF2) ?_
 simp only [List.take_succ_cons, List.take_zero, List.drop_succ_cons, List.drop_zero, List.take_nil, List.drop_nil]
 repeat (go_big_quiet_step (first | fail | (go_at_call 34; with_reducible exact cls_call hF1 hF2 HS.out _) | (go_at_call 69; with_reducible exact cls_call hF1 hF2 HF.out _) | (go_at_call 89; with_reducible exact cls_call hF1 hF2 HL.out _)))
 refine wpQuiet_nil ?_
 rintro wq ⟨xq, rfl⟩
 replace hL0 := hL0.call (hF1 xq)
 clear  hq0 hq1 hq2 hF2
 generalize F xq = x8 at hL0 ⊢
 clear hF1 xq iα F α
 have hA := hL0.fc
 simp only [fcG, cellsF, neK, and_true, ne_eq, Nat.zero_add, Nat.reduceAdd] at hA
 have hP := hL0.put 2 (w.heap.size + 1) _ rfl [.int .u64 ((zl u : Nat) : Int), .string (zh u), .bool (zs u), .int .u64 ((lo f : Nat) : Int), .string (hs f)] rfl
 simp only [setAll, List.set_cons_zero, List.set_cons_succ] at hP
 generalize hput1 : (((((x8.setCell ⟨w.heap.size + 1, 0, none⟩ (.int .u64 ((zl u : Nat) : Int))).setCell ⟨w.heap.size + 1, 1, none⟩ (.string (zh u))).setCell ⟨w.heap.size + 1, 2, none⟩ (.bool (zs u))).setCell ⟨w.heap.size + 1, 3, none⟩ (.int .u64 ((lo f : Nat) : Int))).setCell ⟨w.heap.size + 1, 4, none⟩ (.string (hs f))) = x9 at hP
 have hB1 := hP.fc
 simp only [fcG, cellsF, neK, and_true, ne_eq, Nat.zero_add, Nat.reduceAdd] at hB1
 replace hL0 := hP
 go_wp2_with fail
 exact bodyPost_ret (v := .tuple #[frV u f, .int .i64 0]) (by simp [results, Tryz.results140, go_sem, hB1]) rfl ⟨rfl, hL0.bl⟩
set_option maxHeartbeats 4000000 in
set_option maxRecDepth 100000 in
theorem fpower_odd (n s z u : Int) (e a d x y f : Nat) (k : Int) (HA : RT 50 #[intV n] (natV a)) (HP : RT 99 #[natV a, .int .i64 k] (.tuple #[natV x, .int .i64 0])) (HD : RT 75 #[frV n e] (natV d)) (HQ : RT 99 #[natV d, .int .i64 k] (.tuple #[natV y, .int .i64 0])) (HS : RT 34 #[frV n e] (.int .i64 s)) (HF : RT 69 #[.bool true, natV x] (intV z)) (HL : RT 89 #[intV z, natV y] (frV u f)) (hsg : decide (s < 0) = true) (hk : (k.tmod 2 == 1) = true) (w : World) :
  Calls Tryz.prog 140 #[frV n e, .int .i64 k] w fun xe w' => xe = .returned (.tuple #[frV u f, .int .i64 0]) ∧ Below w.heap.size w w' := by
 have hL0 : GL w w [] := GL.start w
 replace HA := Lib.hid HA
 replace HP := Lib.hid HP
 replace HD := Lib.hid HD
 replace HQ := Lib.hid HQ
 replace HS := Lib.hid HS
 replace HF := Lib.hid HF
 replace HL := Lib.hid HL
 replace hL0 := ((hL0.new rfl [.int .u64 ((zl n : Nat) : Int), .string (zh n), .bool (zs n), .int .u64 ((lo e : Nat) : Int), .string (hs e)] 34).new (K := w.heap.size + 1) (szA _ _) [.int .u64 0, .string ⟨#[]⟩, .bool false, .int .u64 0, .string ⟨#[]⟩] 34)
 generalize hweq : ((w.alloc (.cells #[.int .u64 ((zl n : Nat) : Int), .string (zh n), .bool (zs n), .int .u64 ((lo e : Nat) : Int), .string (hs e)] 34)).alloc (.cells #[.int .u64 0, .string ⟨#[]⟩, .bool false, .int .u64 0, .string ⟨#[]⟩] 34)) = x1 at hL0
 go_enter Tryz.func140, Tryz.ntmps140
 have hN0 := cells_of _ 0 [] rfl (hL0.get _ _ (List.mem_cons_of_mem _ List.mem_cons_self))
 simp only [cellsF, and_true, Nat.zero_add, Nat.reduceAdd] at hN0
 go_wp2_with fail
 clear hN0
 with_reducible refine Calls.mono (HA.out _) ?_
 rintro e x2 ⟨rfl, hb⟩
 replace hL0 := hL0.call hb
 clear hb hweq
 go_wp2_with fail
 with_reducible refine Calls.mono (HP.out _) ?_
 rintro e x3 ⟨rfl, hb⟩
 replace hL0 := hL0.call hb
 clear hb
 replace hL0 := (hL0.new rfl [.int .u64 ((lo x : Nat) : Int), .string (hs x)] 30)
 generalize hweq : (x3.alloc (.cells #[.int .u64 ((lo x : Nat) : Int), .string (hs x)] 30)) = x4 at hL0
 have hN0 := cells_of _ 0 [] rfl (hL0.get _ _ (List.mem_cons_of_mem _ (List.mem_cons_of_mem _ List.mem_cons_self)))
 simp only [cellsF, and_true, Nat.zero_add, Nat.reduceAdd] at hN0
 go_wp2_with fail
 clear hN0
 with_reducible refine Calls.mono (HD.out _) ?_
 rintro e x5 ⟨rfl, hb⟩
 replace hL0 := hL0.call hb
 clear hb hweq
 go_wp2_with fail
 with_reducible refine Calls.mono (HQ.out _) ?_
 rintro e x6 ⟨rfl, hb⟩
 replace hL0 := hL0.call hb
 clear hb
 replace hL0 := (hL0.new rfl [.int .u64 ((lo y : Nat) : Int), .string (hs y)] 30)
 generalize hweq : (x6.alloc (.cells #[.int .u64 ((lo y : Nat) : Int), .string (hs y)] 30)) = x7 at hL0
 go_upto_region 7 with fail
 clear hweq
 obtain ⟨α, iα, F, hF1, hF2⟩ := cls x7
 have hq0 := cls_box hF1 hL0 _ _ List.mem_cons_self
 simp only [cellsC, and_true, Nat.zero_add, Nat.reduceAdd] at hq0
 have hq1 := cls_box hF1 hL0 _ _ (List.mem_cons_of_mem _ List.mem_cons_self)
 simp only [cellsC, and_true, Nat.zero_add, Nat.reduceAdd] at hq1
 have hq2 := cls_box hF1 hL0 _ _ (List.mem_cons_of_mem _ (List.mem_cons_of_mem _ (List.mem_cons_of_mem _ List.mem_cons_self)))
 simp only [cellsC, and_true, Nat.zero_add, Nat.reduceAdd] at hq2
 refine region_qs 12 (C := fun w' => ∃ x, w' = F x) (by kernel_rfl) (by kernel_rfl) (cls_drew hF2) ?_
 simp only [List.take_succ_cons, List.take_zero, List.drop_succ_cons, List.drop_zero, List.take_nil, List.drop_nil]
 repeat (go_big_quiet_step (first | fail | (go_at_call 34; with_reducible exact cls_call hF1 hF2 HS.out _) | (go_at_call 69; with_reducible exact cls_call hF1 hF2 HF.out _) | (go_at_call 89; with_reducible exact cls_call hF1 hF2 HL.out _)))
 refine wpQuiet_nil ?_
 rintro wq ⟨xq, rfl⟩
 replace hL0 := hL0.call (hF1 xq)
 clear  hq0 hq1 hq2 hF2
 generalize F xq = x8 at hL0 ⊢
 clear hF1 xq iα F α
 have hA := hL0.fc
 simp only [fcG, cellsF, neK, and_true, ne_eq, Nat.zero_add, Nat.reduceAdd] at hA
 have hP := hL0.put 2 (w.heap.size + 1) _ rfl [.int .u64 ((zl u : Nat) : Int), .string (zh u), .bool (zs u), .int .u64 ((lo f : Nat) : Int), .string (hs f)] rfl
 simp only [setAll, List.set_cons_zero, List.set_cons_succ] at hP
 generalize hput1 : (((((x8.setCell ⟨w.heap.size + 1, 0, none⟩ (.int .u64 ((zl u : Nat) : Int))).setCell ⟨w.heap.size + 1, 1, none⟩ (.string (zh u))).setCell ⟨w.heap.size + 1, 2, none⟩ (.bool (zs u))).setCell ⟨w.heap.size + 1, 3, none⟩ (.int .u64 ((lo f : Nat) : Int))).setCell ⟨w.heap.size + 1, 4, none⟩ (.string (hs f))) = x9 at hP
 have hB1 := hP.fc
 simp only [fcG, cellsF, neK, and_true, ne_eq, Nat.zero_add, Nat.reduceAdd] at hB1
 replace hL0 := hP
 go_wp2_with fail
 exact bodyPost_ret (v := .tuple #[frV u f, .int .i64 0]) (by simp [results, Tryz.results140, go_sem, hB1]) rfl ⟨rfl, hL0.bl⟩
set_option maxHeartbeats 4000000 in
set_option maxRecDepth 100000 in
theorem fpower_even (n s z u : Int) (e a d x y f : Nat) (k : Int) (HA : RT 50 #[intV n] (natV a)) (HP : RT 99 #[natV a, .int .i64 k] (.tuple #[natV x, .int .i64 0])) (HD : RT 75 #[frV n e] (natV d)) (HQ : RT 99 #[natV d, .int .i64 k] (.tuple #[natV y, .int .i64 0])) (HS : RT 34 #[frV n e] (.int .i64 s)) (HF : RT 69 #[.bool false, natV x] (intV z)) (HL : RT 89 #[intV z, natV y] (frV u f)) (hsg : decide (s < 0) = true) (hk : (k.tmod 2 == 1) = false) (w : World) :
  Calls Tryz.prog 140 #[frV n e, .int .i64 k] w fun xe w' => xe = .returned (.tuple #[frV u f, .int .i64 0]) ∧ Below w.heap.size w w' := by
 have hL0 : GL w w [] := GL.start w
 replace HA := Lib.hid HA
 replace HP := Lib.hid HP
 replace HD := Lib.hid HD
 replace HQ := Lib.hid HQ
 replace HS := Lib.hid HS
 replace HF := Lib.hid HF
 replace HL := Lib.hid HL
 replace hL0 := ((hL0.new rfl [.int .u64 ((zl n : Nat) : Int), .string (zh n), .bool (zs n), .int .u64 ((lo e : Nat) : Int), .string (hs e)] 34).new (K := w.heap.size + 1) (szA _ _) [.int .u64 0, .string ⟨#[]⟩, .bool false, .int .u64 0, .string ⟨#[]⟩] 34)
 generalize hweq : ((w.alloc (.cells #[.int .u64 ((zl n : Nat) : Int), .string (zh n), .bool (zs n), .int .u64 ((lo e : Nat) : Int), .string (hs e)] 34)).alloc (.cells #[.int .u64 0, .string ⟨#[]⟩, .bool false, .int .u64 0, .string ⟨#[]⟩] 34)) = x1 at hL0
 go_enter Tryz.func140, Tryz.ntmps140
 have hN0 := cells_of _ 0 [] rfl (hL0.get _ _ (List.mem_cons_of_mem _ List.mem_cons_self))
 simp only [cellsF, and_true, Nat.zero_add, Nat.reduceAdd] at hN0
 go_wp2_with fail
 clear hN0
 with_reducible refine Calls.mono (HA.out _) ?_
 rintro e x2 ⟨rfl, hb⟩
 replace hL0 := hL0.call hb
 clear hb hweq
 go_wp2_with fail
 with_reducible refine Calls.mono (HP.out _) ?_
 rintro e x3 ⟨rfl, hb⟩
 replace hL0 := hL0.call hb
 clear hb
 replace hL0 := (hL0.new rfl [.int .u64 ((lo x : Nat) : Int), .string (hs x)] 30)
 generalize hweq : (x3.alloc (.cells #[.int .u64 ((lo x : Nat) : Int), .string (hs x)] 30)) = x4 at hL0
 have hN0 := cells_of _ 0 [] rfl (hL0.get _ _ (List.mem_cons_of_mem _ (List.mem_cons_of_mem _ List.mem_cons_self)))
 simp only [cellsF, and_true, Nat.zero_add, Nat.reduceAdd] at hN0
 go_wp2_with fail
 clear hN0
 with_reducible refine Calls.mono (HD.out _) ?_
 rintro e x5 ⟨rfl, hb⟩
 replace hL0 := hL0.call hb
 clear hb hweq
 go_wp2_with fail
 with_reducible refine Calls.mono (HQ.out _) ?_
 rintro e x6 ⟨rfl, hb⟩
 replace hL0 := hL0.call hb
 clear hb
 replace hL0 := (hL0.new rfl [.int .u64 ((lo y : Nat) : Int), .string (hs y)] 30)
 generalize hweq : (x6.alloc (.cells #[.int .u64 ((lo y : Nat) : Int), .string (hs y)] 30)) = x7 at hL0
 go_upto_region 7 with fail
 clear hweq
 obtain ⟨α, iα, F, hF1, hF2⟩ := cls x7
 have hq0 := cls_box hF1 hL0 _ _ List.mem_cons_self
 simp only [cellsC, and_true, Nat.zero_add, Nat.reduceAdd] at hq0
 have hq1 := cls_box hF1 hL0 _ _ (List.mem_cons_of_mem _ List.mem_cons_self)
 simp only [cellsC, and_true, Nat.zero_add, Nat.reduceAdd] at hq1
 have hq2 := cls_box hF1 hL0 _ _ (List.mem_cons_of_mem _ (List.mem_cons_of_mem _ (List.mem_cons_of_mem _ List.mem_cons_self)))
 simp only [cellsC, and_true, Nat.zero_add, Nat.reduceAdd] at hq2
 refine region_qs 12 (C := fun w' => ∃ x, w' = F x) (by kernel_rfl) (by kernel_rfl) (cls_drew hF2) ?_
 simp only [List.take_succ_cons, List.take_zero, List.drop_succ_cons, List.drop_zero, List.take_nil, List.drop_nil]
 repeat (go_big_quiet_step (first | fail | (go_at_call 34; with_reducible exact cls_call hF1 hF2 HS.out _) | (go_at_call 69; with_reducible exact cls_call hF1 hF2 HF.out _) | (go_at_call 89; with_reducible exact cls_call hF1 hF2 HL.out _)))
 refine wpQuiet_nil ?_
 rintro wq ⟨xq, rfl⟩
 replace hL0 := hL0.call (hF1 xq)
 clear  hq0 hq1 hq2 hF2
 generalize F xq = x8 at hL0 ⊢
 clear hF1 xq iα F α
 have hA := hL0.fc
 simp only [fcG, cellsF, neK, and_true, ne_eq, Nat.zero_add, Nat.reduceAdd] at hA
 have hP := hL0.put 2 (w.heap.size + 1) _ rfl [.int .u64 ((zl u : Nat) : Int), .string (zh u), .bool (zs u), .int .u64 ((lo f : Nat) : Int), .string (hs f)] rfl
 simp only [setAll, List.set_cons_zero, List.set_cons_succ] at hP
 generalize hput1 : (((((x8.setCell ⟨w.heap.size + 1, 0, none⟩ (.int .u64 ((zl u : Nat) : Int))).setCell ⟨w.heap.size + 1, 1, none⟩ (.string (zh u))).setCell ⟨w.heap.size + 1, 2, none⟩ (.bool (zs u))).setCell ⟨w.heap.size + 1, 3, none⟩ (.int .u64 ((lo f : Nat) : Int))).setCell ⟨w.heap.size + 1, 4, none⟩ (.string (hs f))) = x9 at hP
 have hB1 := hP.fc
 simp only [fcG, cellsF, neK, and_true, ne_eq, Nat.zero_add, Nat.reduceAdd] at hB1
 replace hL0 := hP
 go_wp2_with fail
 exact bodyPost_ret (v := .tuple #[frV u f, .int .i64 0]) (by simp [results, Tryz.results140, go_sem, hB1]) rfl ⟨rfl, hL0.bl⟩
set_option maxHeartbeats 4000000 in
set_option maxRecDepth 100000 in
theorem fpow_pos (n m c : Int) (e f : Nat) (k : Int) (HP : RT 140 #[frV n e, .int .i64 k] (.tuple #[frV m f, .int .i64 c])) (hk : decide (k < -4096) = false) (hl : decide (4096 < k) = false) (h0 : decide (0 ≤ k) = true) (w : World) :
  Calls Tryz.prog 82 #[frV n e, .int .i64 k] w fun xe w' => xe = .returned (.tuple #[frV m f, .int .i64 c]) ∧ Below w.heap.size w w' := by
 have hL0 : GL w w [] := GL.start w
 replace HP := Lib.hid HP
 replace hL0 := ((hL0.new rfl [.int .u64 ((zl n : Nat) : Int), .string (zh n), .bool (zs n), .int .u64 ((lo e : Nat) : Int), .string (hs e)] 34).new (K := w.heap.size + 1) (szA _ _) [.int .u64 0, .string ⟨#[]⟩, .bool false, .int .u64 0, .string ⟨#[]⟩] 34)
 generalize hweq : ((w.alloc (.cells #[.int .u64 ((zl n : Nat) : Int), .string (zh n), .bool (zs n), .int .u64 ((lo e : Nat) : Int), .string (hs e)] 34)).alloc (.cells #[.int .u64 0, .string ⟨#[]⟩, .bool false, .int .u64 0, .string ⟨#[]⟩] 34)) = x1 at hL0
 go_enter Tryz.func82, Tryz.ntmps82
 have hN0 := cells_of _ 0 [] rfl (hL0.get _ _ (List.mem_cons_of_mem _ List.mem_cons_self))
 simp only [cellsF, and_true, Nat.zero_add, Nat.reduceAdd] at hN0
 go_wp2_with fail
 clear hN0
 with_reducible refine Calls.mono (HP.out _) ?_
 rintro e x2 ⟨rfl, hb⟩
 replace hL0 := hL0.call hb
 clear hb hweq
 have hA := hL0.fc
 simp only [fcG, cellsF, neK, and_true, ne_eq, Nat.zero_add, Nat.reduceAdd] at hA
 have hP := hL0.put 0 (w.heap.size + 1) _ rfl [.int .u64 ((zl m : Nat) : Int), .string (zh m), .bool (zs m), .int .u64 ((lo f : Nat) : Int), .string (hs f)] rfl
 simp only [setAll, List.set_cons_zero, List.set_cons_succ] at hP
 generalize hput1 : (((((x2.setCell ⟨w.heap.size + 1, 0, none⟩ (.int .u64 ((zl m : Nat) : Int))).setCell ⟨w.heap.size + 1, 1, none⟩ (.string (zh m))).setCell ⟨w.heap.size + 1, 2, none⟩ (.bool (zs m))).setCell ⟨w.heap.size + 1, 3, none⟩ (.int .u64 ((lo f : Nat) : Int))).setCell ⟨w.heap.size + 1, 4, none⟩ (.string (hs f))) = x3 at hP
 have hB1 := hP.fc
 simp only [fcG, cellsF, neK, and_true, ne_eq, Nat.zero_add, Nat.reduceAdd] at hB1
 replace hL0 := hP
 go_wp2_with fail
 exact bodyPost_ret (v := .tuple #[frV m f, .int .i64 c]) (by simp [results, Tryz.results82, go_sem, hB1]) rfl ⟨rfl, hL0.bl⟩
end Go.Proofs.YtahfcciihkkegaaGreatDoor
namespace Go.Proofs.YtahfcciihkkegaaGreatDoor
open Go.RowKit
attribute [local irreducible] lo hs sm s64 c64 d64 b64 mh ml pd pc qd qc val hiB str cmpI srD lz nb isq decB zl zh zs
theorem wholeF (q : Rat) (w : World) : Calls Tryz.prog 28 #[fracV q] w fun x w' => x = .returned (.bool (decide (q.den = 1))) ∧ Below w.heap.size w w' := by
 have h := whole_raw q.num (fe q) w
 have e : (fe q = 0) = (q.den = 1) := by
  unfold fe
  have := q.den_nz
  split <;> simp_all
 rw [decide_eq_decide.2 (Iff.of_eq e)] at h
 exact h
end Go.Proofs.YtahfcciihkkegaaGreatDoor
namespace Go.Proofs.YtahfcciihkkegaaGreatDoor
open Go.RowKit
attribute [local irreducible] lo hs sm s64 c64 d64 b64 mh ml pd pc qd qc val hiB str cmpI srD lz nb isq decB zl zh zs
/-- The absolute value. -/
def absQ (q : Rat) : Rat := if q < 0 then -q else q
theorem num_neg_iff (q : Rat) : q.num < 0 ↔ q < 0 := by rw [← Rat.not_le, ← Rat.num_nonneg]; omega
theorem absQ_num (q : Rat) : (absQ q).num = (q.num.natAbs : Int) ∧ fe (absQ q) = fe q := by
 unfold absQ
 have := num_neg_iff q
 split
 ·rename_i h
  have h1 := this.2 h
  exact ⟨by rw [Rat.neg_num]; omega, rfl⟩
 ·rename_i h
  have h1 := mt this.1 h
  exact ⟨by omega, rfl⟩
theorem absF (q : Rat) (w : World) : Calls Tryz.prog 33 #[fracV q] w fun x w' => x = .returned (fracV (absQ q)) ∧ Below w.heap.size w w' := by
 rw [show fracV (absQ q) = frV (absQ q).num (fe (absQ q)) from rfl, (absQ_num q).1, (absQ_num q).2]
 exact fabs_w q.num (q.num.natAbs : Int) _ (fe q) (fun w => absI q.num w) (fun w => fromI false _ _ rfl w) w
theorem signF (q : Rat) (w : World) : Calls Tryz.prog 34 #[fracV q] w fun x w' => x = .returned (.int .i64 (sgnQ q)) ∧ Below w.heap.size w w' := by
 rw [sgnQ_num]; exact fsign_w q.num (sgn q.num) (fe q) (fun w => signI q.num w) w
theorem invF (q : Rat) (h0 : q ≠ 0) (w : World) : Calls Tryz.prog 83 #[fracV q] w fun x w' => x = .returned (fracV q⁻¹) ∧ Below w.heap.size w w' := by
 obtain ⟨h1, h2⟩ := rinv_parts h0
 have hs : decide (sgnQ q < 0) = decide (q.num < 0) := by
  have : sgnQ q < 0 ↔ q.num < 0 := by rw [sgnQ_num]; split <;> (try split) <;> omega
  simp only [this]
 have hF := fun w => fromI (decide (q.num < 0)) q.den (if q.num < 0 then -(q.den : Int) else (q.den : Int)) (by by_cases h : q.num < 0 <;> simp [h]) w
 by_cases h : q.num < 0
 ·rw [decide_eq_true h] at hs hF
  exact finv_true q.num _ _ _ (fe q) q.den _ _ (signF q) (denF q) hF (fun w => absI q.num w) (fun w => lowestF h1 h2 w) hs w
 ·rw [decide_eq_false h] at hs hF
  exact finv_false q.num _ _ _ (fe q) q.den _ _ (signF q) (denF q) hF (fun w => absI q.num w) (fun w => lowestF h1 h2 w) hs w
theorem zero_i (w : World) : Calls Tryz.prog 32 #[.int .i64 0] w fun x w' => x = .returned (frV 0 0) ∧ Below w.heap.size w w' := intF 0 (by decide) (by decide) w
theorem num_ne {q : Rat} (h : q ≠ 0) : q.num ≠ 0 := fun e => h (Rat.num_eq_zero.1 e)
theorem divF (p q : Rat) (k : Nat) (hp : Sz p k) (hq : Sz q k) (hk : k ≤ 100000000) (h0 : q ≠ 0) (w : World) : Calls Tryz.prog 27 #[fracV p, fracV q] w fun x w' => x = .returned (.tuple #[fracV (p / q), .int .i64 0]) ∧ Below w.heap.size w w' := by
 rw [Rat.div_def]
 exact fdiv_w p.num q.num _ _ (fe p) (fe q) _ _ zero_i (invF q h0) (mulF p q⁻¹ k hp (hq.inv h0) hk) (num_ne h0) w
end Go.Proofs.YtahfcciihkkegaaGreatDoor
namespace Go.Proofs.YtahfcciihkkegaaGreatDoor
open Go.RowKit
attribute [local irreducible] lo hs sm s64 c64 d64 b64 mh ml pd pc qd qc val hiB str cmpI srD lz nb isq decB zl zh zs
theorem ne_fr {p q : Rat} (h : p ≠ q) : (((zl p.num : Nat) : Int) == ((zl q.num : Nat) : Int)) = false ∨
  ((((zl p.num : Nat) : Int) == ((zl q.num : Nat) : Int)) = true ∧ ((zh p.num).toList == (zh q.num).toList) = false) ∨
  ((((zl p.num : Nat) : Int) == ((zl q.num : Nat) : Int)) = true ∧ ((zh p.num).toList == (zh q.num).toList) = true ∧ (zs p.num == zs q.num) = false) ∨
  ((((zl p.num : Nat) : Int) == ((zl q.num : Nat) : Int)) = true ∧ ((zh p.num).toList == (zh q.num).toList) = true ∧ (zs p.num == zs q.num) = true ∧ (((lo (fe p) : Nat) : Int) == ((lo (fe q) : Nat) : Int)) = false) ∨
  ((((zl p.num : Nat) : Int) == ((zl q.num : Nat) : Int)) = true ∧ ((zh p.num).toList == (zh q.num).toList) = true ∧ (zs p.num == zs q.num) = true ∧ (((lo (fe p) : Nat) : Int) == ((lo (fe q) : Nat) : Int)) = true ∧ ((hs (fe p)).toList == (hs (fe q)).toList) = false) := by
 by_cases hn : p.num = q.num
 ·have he : fe p ≠ fe q := fun e => h (fracV_inj (by unfold fracV; rw [hn, e]))
  rw [hn]
  rcases ne_nat he with h1 | ⟨h1, h2⟩
  ·exact .inr (.inr (.inr (.inl ⟨by simp, by simp, by simp, h1⟩)))
  ·exact .inr (.inr (.inr (.inr ⟨by simp, by simp, by simp, h1, h2⟩)))
 ·rcases ne_int hn with h1 | h1 | h1
  ·exact .inl h1
  ·exact .inr (.inl h1)
  ·exact .inr (.inr (.inl h1))
end Go.Proofs.YtahfcciihkkegaaGreatDoor
namespace Go.Proofs.YtahfcciihkkegaaGreatDoor
open Go.RowKit
attribute [local irreducible] lo hs sm s64 c64 d64 b64 mh ml pd pc qd qc val hiB str cmpI srD lz nb isq decB zl zh zs
set_option maxHeartbeats 4000000 in
set_option maxRecDepth 100000 in
theorem gden_w (s : Bool) (a b : Option Addr) (n c m d : Nat) (w : World) :
  Calls Tryz.prog 51 #[.agg #[.bool s, .slice a n c, .slice b m d]] w fun xe w' => xe = .returned (.agg #[.bool false, .slice b m d]) ∧ Below w.heap.size w w' := by
 have hL0 : GL w w [] := GL.start w
 replace hL0 := ((hL0.new rfl [.bool s, .slice a n c, .slice b m d] 26).new (K := w.heap.size + 1) (szA _ _) [.bool false, .slice b m d] 24)
 generalize hweq : ((w.alloc (.cells #[.bool s, .slice a n c, .slice b m d] 26)).alloc (.cells #[.bool false, .slice b m d] 24)) = x1 at hL0
 go_enter Tryz.func51, Tryz.ntmps51
 have hN0 := cells_of _ 0 [] rfl (hL0.get _ _ List.mem_cons_self)
 simp only [cellsF, and_true, Nat.zero_add, Nat.reduceAdd] at hN0
 have hN1 := cells_of _ 0 [] rfl (hL0.get _ _ (List.mem_cons_of_mem _ List.mem_cons_self))
 simp only [cellsF, and_true, Nat.zero_add, Nat.reduceAdd] at hN1
 go_wp2_with fail
 exact bodyPost_ret (v := .agg #[.bool false, .slice b m d]) (by simp [results, Tryz.results51, go_sem, hN0 ,hN1]) rfl ⟨rfl, hL0.bl⟩
set_option maxHeartbeats 4000000 in
set_option maxRecDepth 100000 in
theorem gof_w (s : Bool) (a b : Option Addr) (n c m d : Nat) (y z x : Int) (p q e : Nat) (K : World → Prop) (hK : Keeps K) (HZ : RK K 48 #[.agg #[.bool s, .slice a n c]] (intV z)) (HD : RT 51 #[.agg #[.bool s, .slice a n c, .slice b m d]] (.agg #[.bool false, .slice b m d])) (L : World → Prop) (hL : Keeps L) (HY : RK L 48 #[.agg #[.bool false, .slice b m d]] (intV y)) (HA : RT 50 #[intV y] (natV p)) (HO : RT 52 #[.int .u64 1] (natV 1)) (HP : RT 49 #[natV p, natV 1] (natV q)) (HF : RT 46 #[intV z, natV q] (.tuple #[frV x e, .int .i64 0])) (w : World) (kK : K w) (kL : L w) :
  Calls Tryz.prog 13 #[.agg #[.bool s, .slice a n c, .slice b m d]] w fun xe w' => xe = .returned (frV x e) ∧ Below w.heap.size w w' := by
 have hL0 : GL w w [] := GL.start w
 replace hK := Lib.hid hK
 replace HZ := Lib.hid HZ
 replace HD := Lib.hid HD
 replace hL := Lib.hid hL
 replace HY := Lib.hid HY
 replace HA := Lib.hid HA
 replace HO := Lib.hid HO
 replace HP := Lib.hid HP
 replace HF := Lib.hid HF
 replace hL0 := ((hL0.new rfl [.bool s, .slice a n c, .slice b m d] 26).new (K := w.heap.size + 1) (szA _ _) [.int .u64 0, .string ⟨#[]⟩, .bool false, .int .u64 0, .string ⟨#[]⟩] 34)
 generalize hweq : ((w.alloc (.cells #[.bool s, .slice a n c, .slice b m d] 26)).alloc (.cells #[.int .u64 0, .string ⟨#[]⟩, .bool false, .int .u64 0, .string ⟨#[]⟩] 34)) = x1 at hL0
 go_enter Tryz.func13, Tryz.ntmps13
 go_upto_region 1 with fail
 have kK1 := hK.out.at hL0.bl kK
 have kL1 := hL.out.at hL0.bl kL
 clear hweq
 refine region_gh (by kernel_rfl) (by kernel_rfl) ?_
 refine lex_seg (gl := []) 13 (by kernel_rfl) ?_
 intro α iα F hF1 hF2
 have hq := GL.seg hF1 hL0
 simp only [fcC, cellsC, and_true, Nat.zero_add, Nat.reduceAdd] at hq
 simp only [List.take_succ_cons, List.take_zero, List.drop_succ_cons, List.drop_zero, List.take_nil, List.drop_nil]
 repeat (go_big_quiet_step (first | fail | (go_at_call 48; with_reducible exact seg_callK hK.out hF1 hF2 kK1 HZ.out _) | (go_at_call 51; with_reducible exact seg_call hF2 HD.out _) | (go_at_call 48; with_reducible exact seg_callK hL.out hF1 hF2 kL1 HY.out _) | (go_at_call 50; with_reducible exact seg_call hF2 HA.out _) | (go_at_call 52; with_reducible exact seg_call hF2 HO.out _) | (go_at_call 49; with_reducible exact seg_call hF2 HP.out _) | (go_at_call 46; with_reducible exact seg_call hF2 HF.out _)))
 refine wpQuiet_nil ?_
 clear hq hF1 hF2 iα F α
 refine lex_new [.int .u64 0, .string ⟨#[]⟩, .bool false, .int .u64 0, .string ⟨#[]⟩] 3 34 34 rfl rfl (of_decide_eq_true (by kernel_rfl)) (by kernel_rfl) rfl new_frac ?_
 simp only [Act.put, List.setIfInBounds_toArray, List.set_cons_succ, List.set_cons_zero]
 refine lex_put [.int .u64 ((zl x : Nat) : Int), .string (zh x), .bool (zs x), .int .u64 ((lo e : Nat) : Int), .string (hs e)] [.int .u64 0, .string ⟨#[]⟩, .bool false, .int .u64 0, .string ⟨#[]⟩] 3 34 (.tmp 16) rfl (by kernel_rfl) (by simp [toG, upd]) rfl (fun w k h => put_frac _ _ _ _ _ _ _ _ _ _ w k h) ?_
 simp only [Act.put]
 refine lex_seg (gl := [(3, [.int .u64 ((zl x : Nat) : Int), .string (zh x), .bool (zs x), .int .u64 ((lo e : Nat) : Int), .string (hs e)], true), (3, [.int .u64 0, .string ⟨#[]⟩, .bool false, .int .u64 0, .string ⟨#[]⟩], false)]) 1 (by kernel_rfl) ?_
 intro α iα F hF1 hF2
 have hq := GL.seg hF1 hL0
 simp only [fcC, cellsC, and_true, Nat.zero_add, Nat.reduceAdd] at hq
 simp only [List.take_succ_cons, List.take_zero, List.drop_succ_cons, List.drop_zero, List.take_nil, List.drop_nil]
 repeat (go_big_quiet_step (first | fail | (go_at_call 48; with_reducible exact seg_callK hK.out hF1 hF2 kK1 HZ.out _) | (go_at_call 51; with_reducible exact seg_call hF2 HD.out _) | (go_at_call 48; with_reducible exact seg_callK hL.out hF1 hF2 kL1 HY.out _) | (go_at_call 50; with_reducible exact seg_call hF2 HA.out _) | (go_at_call 52; with_reducible exact seg_call hF2 HO.out _) | (go_at_call 49; with_reducible exact seg_call hF2 HP.out _) | (go_at_call 46; with_reducible exact seg_call hF2 HF.out _)))
 refine wpQuiet_nil ?_
 clear hq hF1 hF2 iα F α
 refine lexG_nil ?_
 intro κ x2 hS
 replace hL0 := hL0.ghs hS [(3, [.int .u64 ((zl x : Nat) : Int), .string (zh x), .bool (zs x), .int .u64 ((lo e : Nat) : Int), .string (hs e)])] (by simp) (by intro p hp; simp only [List.mem_cons, List.not_mem_nil, or_false] at hp; rcases hp with rfl <;> exact ⟨_, by simp only [toG, upd]; rfl⟩)
 simp only [List.map_cons, List.map_nil, List.cons_append, List.nil_append] at hL0
 simp only [over_toG, over_nil, Act.put, List.setIfInBounds_toArray, List.set_cons_succ, List.set_cons_zero]
 clear hS
 generalize κ 3 = k2_3 at *
 clear kK1 kL1
 have hA := hL0.fc
 simp only [fcG, cellsF, neK, and_true, ne_eq, Nat.zero_add, Nat.reduceAdd] at hA
 have hP := hL0.put 1 (w.heap.size + 1) _ rfl [.int .u64 ((zl x : Nat) : Int), .string (zh x), .bool (zs x), .int .u64 ((lo e : Nat) : Int), .string (hs e)] rfl
 simp only [setAll, List.set_cons_zero, List.set_cons_succ] at hP
 generalize hput1 : (((((x2.setCell ⟨w.heap.size + 1, 0, none⟩ (.int .u64 ((zl x : Nat) : Int))).setCell ⟨w.heap.size + 1, 1, none⟩ (.string (zh x))).setCell ⟨w.heap.size + 1, 2, none⟩ (.bool (zs x))).setCell ⟨w.heap.size + 1, 3, none⟩ (.int .u64 ((lo e : Nat) : Int))).setCell ⟨w.heap.size + 1, 4, none⟩ (.string (hs e))) = x3 at hP
 have hB1 := hP.fc
 simp only [fcG, cellsF, neK, and_true, ne_eq, Nat.zero_add, Nat.reduceAdd] at hB1
 replace hL0 := hP
 go_wp2_with fail
 exact bodyPost_ret (v := frV x e) (by simp [results, Tryz.results13, go_sem, hB1]) rfl ⟨rfl, hL0.bl⟩
end Go.Proofs.YtahfcciihkkegaaGreatDoor
namespace Go.Proofs.YtahfcciihkkegaaGreatDoor
open Go.RowKit
attribute [local irreducible] lo hs sm s64 c64 d64 b64 mh ml pd pc qd qc val hiB str cmpI srD lz nb isq decB zl zh zs fe
def gtQ (p q : Rat) : Bool := decide (q < p)
def ltQ (p q : Rat) : Bool := decide (p < q)
theorem cmpQ_gt (p q : Rat) : decide (0 < cmpQ p q) = gtQ p q := by
 unfold cmpQ gtQ
 by_cases h : p < q
 ·rw [if_pos h, decide_eq_false (p := q < p) (by grind)]; rfl
 ·rw [if_neg h]
  by_cases h' : p = q
  ·rw [if_pos h', decide_eq_false (p := q < p) (by grind)]; rfl
  ·rw [if_neg h', decide_eq_true (p := q < p) (by grind)]; rfl
theorem cmpQ_lt (p q : Rat) : decide (cmpQ p q < 0) = ltQ p q := by
 unfold cmpQ ltQ
 by_cases h : p < q
 ·rw [if_pos h, decide_eq_true h]; rfl
 ·rw [if_neg h, decide_eq_false h]
  split <;> rfl
end Go.Proofs.YtahfcciihkkegaaGreatDoor
namespace Go.Proofs.YtahfcciihkkegaaGreatDoor
open Go.RowKit
attribute [local irreducible] lo hs sm s64 c64 d64 b64 mh ml pd pc qd qc val hiB str cmpI srD lz nb isq decB zl zh zs
theorem int_pow_sgn (z : Int) : ∀ k : Nat, z ^ k = if (decide (z < 0) && decide (k % 2 = 1)) = true then -((z.natAbs ^ k : Nat) : Int) else ((z.natAbs ^ k : Nat) : Int)
 | 0 => by simp
 | k + 1 => by
  rw [Int.pow_succ, int_pow_sgn z k, Nat.pow_succ]
  by_cases h : z < 0
  ·rw [decide_eq_true h, Bool.true_and, Bool.true_and]
   have e : z = -(z.natAbs : Int) := by omega
   rcases Nat.mod_two_eq_zero_or_one k with hk | hk
   ·rw [decide_eq_false (p := k % 2 = 1) (by omega), decide_eq_true (p := (k + 1) % 2 = 1) (by omega), if_neg Bool.false_ne_true, if_pos rfl]
    conv => lhs; rw [e]
    rw [Int.mul_neg, Int.natAbs_neg, Int.natAbs_natCast, Int.natCast_mul]
   ·rw [decide_eq_true hk, decide_eq_false (p := (k + 1) % 2 = 1) (by omega), if_neg Bool.false_ne_true, if_pos rfl]
    conv => lhs; rw [e]
    rw [Int.neg_mul_neg, Int.natAbs_neg, Int.natAbs_natCast, Int.natCast_mul]
  ·rw [decide_eq_false h, Bool.false_and, Bool.false_and, if_neg Bool.false_ne_true, if_neg Bool.false_ne_true]
   have e : z = (z.natAbs : Int) := by omega
   conv => lhs; rw [e]
   rw [Int.natAbs_natCast, Int.natCast_mul]
theorem odd_tmod (k : Nat) : (((k : Int).tmod 2) == 1) = decide (k % 2 = 1) := by
 rw [show (2 : Int) = ((2 : Nat) : Int) from rfl, ← Int.ofNat_tmod]
 by_cases h : k % 2 = 1
 ·rw [h, decide_eq_true rfl]; rfl
 ·rw [show k % 2 = 0 by omega]; rfl
theorem dec_sgnQ (q : Rat) : decide (sgnQ q < 0) = decide (q.num < 0) := by
 have : sgnQ q < 0 ↔ q.num < 0 := by rw [sgnQ_num]; split <;> (try split) <;> omega
 simp only [this]
theorem powerF (q : Rat) (k : Nat) (hk : k ≤ 4096) (hn : k = 0 ∨ nb q.num.natAbs ≤ 262144 / k) (hd : k = 0 ∨ nb q.den ≤ 262144 / k) (m : Nat) (hq : Sz q m) (hm : m ≤ 100000000) (w : World) :
  Calls Tryz.prog 140 #[fracV q, .int .i64 (k : Int)] w fun x w' => x = .returned (.tuple #[fracV (q ^ k), .int .i64 0]) ∧ Below w.heap.size w w' := by
 have hs := dec_sgnQ q
 have hP := fun w => pow_ok q.num.natAbs k hk hn (Nat.le_trans hq.1 (by omega)) w
 have hQ := fun w => pow_ok q.den k hk hd (Nat.le_trans hq.2 (by omega)) w
 have hF := fun w => fromI (decide (q.num < 0) && decide (k % 2 = 1)) (q.num.natAbs ^ k) (q.num ^ k) (int_pow_sgn q.num k) w
 have hL := fun w => lowestF (Rat.num_pow q k) (Rat.den_pow q k) w
 by_cases h : q.num < 0
 ·rw [decide_eq_true h] at hs hF
  rw [Bool.true_and] at hF
  by_cases ho : k % 2 = 1
  ·rw [decide_eq_true ho] at hF
   exact fpower_odd q.num _ _ _ (fe q) _ q.den _ _ _ _ (fun w => absI q.num w) hP (denF q) hQ (signF q) hF hL hs (by rw [odd_tmod, decide_eq_true ho]) w
  ·rw [decide_eq_false ho] at hF
   exact fpower_even q.num _ _ _ (fe q) _ q.den _ _ _ _ (fun w => absI q.num w) hP (denF q) hQ (signF q) hF hL hs (by rw [odd_tmod, decide_eq_false ho]) w
 ·rw [decide_eq_false h] at hs hF
  rw [Bool.false_and] at hF
  exact fpower_pos q.num _ _ _ (fe q) _ q.den _ _ _ _ (fun w => absI q.num w) hP (denF q) hQ (signF q) hF hL hs w
theorem powF_pos (q : Rat) (k : Nat) (hk : k ≤ 4096) (p : Rat) (c : Int) (HP : ∀ w, Calls Tryz.prog 140 #[fracV q, .int .i64 (k : Int)] w fun x w' => x = .returned (.tuple #[fracV p, .int .i64 c]) ∧ Below w.heap.size w w') (w : World) :
  Calls Tryz.prog 82 #[fracV q, .int .i64 (k : Int)] w fun x w' => x = .returned (.tuple #[fracV p, .int .i64 c]) ∧ Below w.heap.size w w' :=
 fpow_pos q.num p.num c (fe q) (fe p) k HP (decide_eq_false (by omega)) (decide_eq_false (by omega)) (decide_eq_true (by omega)) w
end Go.Proofs.YtahfcciihkkegaaGreatDoor
namespace Go.Proofs.YtahfcciihkkegaaGreatDoor
open Go.RowKit
theorem tenQ_pos (p : Nat) : 0 < tenQ p := by
 unfold tenQ
 exact Rat.natCast_pos.2 (tenN_pos p)
theorem tenQ_ne (p : Nat) : tenQ p ≠ 0 := fun e => by have := tenQ_pos p; rw [e] at this; exact absurd this (by decide)
/-- 10^-p. -/
def stepQ (p : Nat) : Rat := 1 / tenQ p
theorem stepQ_pos (p : Nat) : 0 < stepQ p := by
 unfold stepQ
 rw [Rat.div_def, Rat.one_mul]
 exact Rat.inv_pos.2 (tenQ_pos p)
theorem step_mul (p : Nat) : stepQ p * tenQ p = 1 := by
 unfold stepQ
 exact Rat.div_mul_cancel (tenQ_ne p)
theorem rnd_eq (way : Int) (p : Nat) (q : Rat) : rnd way p q = (toI way (q * tenQ p) : Rat) * stepQ p := by
 unfold rnd stepQ
 rw [Rat.div_def, Rat.div_def, Rat.one_mul]
theorem q_eq (p : Nat) (q : Rat) : q = (q * tenQ p) * stepQ p := by
 rw [Rat.mul_assoc, Rat.mul_comm (tenQ p), step_mul, Rat.mul_one]
theorem div_step (p : Nat) (q : Rat) : q / stepQ p = q * tenQ p := by
 unfold stepQ
 rw [Rat.div_def, Rat.div_def, Rat.one_mul, Rat.inv_inv]
theorem mul_step_le {a b : Rat} (p : Nat) (h : a ≤ b) : a * stepQ p ≤ b * stepQ p := Rat.mul_le_mul_of_nonneg_right h (Rat.le_of_lt (stepQ_pos p))
theorem mul_step_inj {a b : Rat} (p : Nat) (h : a * stepQ p = b * stepQ p) : a = b := by
 have e : a * stepQ p * tenQ p = b * stepQ p * tenQ p := by rw [h]
 rwa [Rat.mul_assoc, Rat.mul_assoc, step_mul, Rat.mul_one, Rat.mul_one] at e
theorem int_floor (z : Int) : ((z : Rat)).floor = z := Rat.floor_intCast z
theorem int_ceil (z : Int) : rceil (z : Rat) = z := by
 unfold rceil
 rw [← Rat.intCast_neg, Rat.floor_intCast]; omega
theorem ceil_cases (x : Rat) : (x = (x.floor : Rat) ∧ rceil x = x.floor) ∨ (x ≠ (x.floor : Rat) ∧ rceil x = x.floor + 1) := by
 by_cases h : x = (x.floor : Rat)
 ·left
  refine ⟨h, ?_⟩
  conv => lhs; rw [h]
  exact int_ceil _
 ·right
  refine ⟨h, ?_⟩
  have f1 := Rat.floor_le x
  have f2 := Rat.lt_floor_add_one x
  have c1 := ceil_ge x
  have c2 := ceil_lt x
  have g1 : (x.floor : Rat) < (rceil x : Rat) := by grind
  have g2 : (rceil x : Rat) < ((x.floor + 2 : Int) : Rat) := by rw [Rat.intCast_add] at f2 ⊢; grind
  have g3 := Rat.intCast_lt_intCast.1 g1
  have g4 := Rat.intCast_lt_intCast.1 g2
  omega
theorem toI_int (way : Int) (z : Int) : toI way (z : Rat) = z := by
 unfold toI
 rw [int_floor, int_ceil]
 split <;> (try split) <;> rfl
theorem rnd_mul (way : Int) (p : Nat) (q : Rat) : rnd way p q * tenQ p = (toI way (q * tenQ p) : Rat) := by
 rw [rnd_eq, Rat.mul_assoc, step_mul, Rat.mul_one]
theorem rnd_rnd (way w2 : Int) (p : Nat) (q : Rat) : rnd way p (rnd w2 p q) = rnd w2 p q := by
 rw [rnd_eq way, rnd_mul, toI_int, ← rnd_eq]
theorem rnd_whole (way : Int) (p : Nat) (q : Rat) : (rnd way p q / stepQ p).den = 1 := by
 rw [div_step, rnd_mul]; rfl
theorem rnd_low (p : Nat) (q : Rat) : rnd 1 p q ≤ q := by
 conv => rhs; rw [q_eq p q]
 rw [rnd_eq]
 exact mul_step_le p (Rat.floor_le _)
theorem rnd_high (p : Nat) (q : Rat) : q ≤ rnd 2 p q := by
 conv => lhs; rw [q_eq p q]
 rw [rnd_eq]
 exact mul_step_le p (ceil_ge _)
theorem rnd_same (p : Nat) (q : Rat) : rnd 1 p q = rnd 2 p q ↔ (q / stepQ p).den = 1 := by
 rw [div_step, rnd_eq, rnd_eq, den_one']
 show ((q * tenQ p).floor : Rat) * stepQ p = (rceil (q * tenQ p) : Rat) * stepQ p ↔ _
 generalize q * tenQ p = x
 rcases ceil_cases x with ⟨h1, h2⟩ | ⟨h1, h2⟩
 ·rw [h2]; exact ⟨fun _ => h1.symm, fun _ => rfl⟩
 ·refine ⟨fun h => absurd (mul_step_inj p h) ?_, fun h => absurd h.symm h1⟩
  rw [h2, Rat.intCast_add]
  intro e
  have : (1 : Rat) = 0 := by grind
  exact absurd this (by decide)
theorem rnd_gap (p : Nat) (q : Rat) (h : rnd 1 p q ≠ rnd 2 p q) : rnd 2 p q - rnd 1 p q = stepQ p := by
 rw [rnd_eq, rnd_eq] at h ⊢
 show (rceil (q * tenQ p) : Rat) * stepQ p - ((q * tenQ p).floor : Rat) * stepQ p = stepQ p
 have h' : ((q * tenQ p).floor : Rat) * stepQ p ≠ (rceil (q * tenQ p) : Rat) * stepQ p := h
 generalize q * tenQ p = x at h' ⊢
 rcases ceil_cases x with ⟨h1, h2⟩ | ⟨h1, h2⟩
 ·rw [h2] at h'; exact absurd rfl h'
 ·rw [h2, Rat.intCast_add]
  grind
theorem rnd_near (p : Nat) (q : Rat) : rnd 3 p q = rnd 1 p q ∨ rnd 3 p q = rnd 2 p q := by
 rw [rnd_eq, rnd_eq, rnd_eq]
 show ((if nearUp (q * tenQ p) = true then rceil (q * tenQ p) else (q * tenQ p).floor : Int) : Rat) * stepQ p = ((q * tenQ p).floor : Rat) * stepQ p ∨ ((if nearUp (q * tenQ p) = true then rceil (q * tenQ p) else (q * tenQ p).floor : Int) : Rat) * stepQ p = (rceil (q * tenQ p) : Rat) * stepQ p
 split
 ·exact .inr rfl
 ·exact .inl rfl
theorem half2 : mkRat 1 2 + mkRat 1 2 = 1 := by decide +kernel
/-- The nearest integer is at most a half away; at a half it is even. -/
theorem toI_near (x : Rat) : ∃ d : Rat, 0 ≤ d ∧ d ≤ mkRat 1 2 ∧ ((toI 3 x : Rat) = x + d ∨ (toI 3 x : Rat) = x - d) ∧ (d = mkRat 1 2 → toI 3 x % 2 = 0) := by
 have f1 := Rat.floor_le x
 have f2 := Rat.lt_floor_add_one x
 rw [Rat.intCast_add] at f2
 have hh := half2
 have h0 : (0 : Rat) < mkRat 1 2 := by decide +kernel
 unfold toI
 rw [if_pos rfl]
 unfold nearUp
 by_cases h1 : x - (x.floor : Rat) < mkRat 1 2
 ·rw [if_pos h1]
  refine ⟨x - (x.floor : Rat), by grind, by grind, .inr ?_, fun e => ?_⟩
  ·simp; grind
  ·rw [e] at h1; exact absurd h1 (by grind)
 ·rw [if_neg h1]
  have hn : x ≠ (x.floor : Rat) := fun e => h1 (by rw [← e]; grind)
  have hc : rceil x = x.floor + 1 := by
   rcases ceil_cases x with ⟨h, _⟩ | ⟨_, h⟩
   ·exact absurd h hn
   ·exact h
  by_cases h2 : x - (x.floor : Rat) = mkRat 1 2
  ·rw [if_pos h2]
   by_cases h3 : x.floor % 2 = 1
   ·rw [if_pos (by simpa using h3), hc]
    refine ⟨mkRat 1 2, Rat.le_of_lt h0, Rat.le_refl, .inl ?_, fun _ => by omega⟩
    rw [Rat.intCast_add]; grind
   ·rw [if_neg (by simpa using h3)]
    refine ⟨mkRat 1 2, Rat.le_of_lt h0, Rat.le_refl, .inr ?_, fun _ => by omega⟩
    grind
  ·rw [if_neg h2, if_pos rfl, hc]
   refine ⟨1 - (x - (x.floor : Rat)), by grind, by grind, .inl ?_, fun e => ?_⟩
   ·rw [Rat.intCast_add]; grind
   ·exact absurd e (by grind)
theorem absQ_of (a : Rat) {d : Rat} (hd : 0 ≤ d) (h : a = d ∨ a = -d) : absQ a = d := by
 unfold absQ
 rcases h with rfl | rfl
 ·rw [if_neg (by grind)]
 ·by_cases h0 : d = 0
  ·subst h0; decide +kernel
  ·rw [if_pos (by grind)]; grind
/-- Twice the distance to the nearest multiple is at most a step; at a step the multiple is even. -/
theorem rnd_away (p : Nat) (q : Rat) : (2 : Int) * absQ (rnd 3 p q - q) ≤ stepQ p ∧ ((2 : Int) * absQ (rnd 3 p q - q) = stepQ p → (rnd 3 p q / ((2 : Int) * stepQ p)).den = 1) := by
 obtain ⟨d, h0, h1, h2, h3⟩ := toI_near (q * tenQ p)
 have hs := stepQ_pos p
 have hd : absQ (rnd 3 p q - q) = d * stepQ p := by
  refine absQ_of _ (Rat.mul_nonneg h0 (Rat.le_of_lt hs)) ?_
  have e1 := rnd_eq 3 p q
  have e2 := q_eq p q
  rcases h2 with h2 | h2
  ·left; rw [h2] at e1; grind
  ·right; rw [h2] at e1; grind
 have hh := half2
 have e2 : (((2 : Int) : Rat)) * (d * stepQ p) = (((2 : Int) : Rat) * d) * stepQ p := by rw [Rat.mul_assoc]
 have e3 : (((2 : Int) : Rat)) * mkRat 1 2 = 1 := by decide +kernel
 have e4 : (((2 : Int) : Rat)) * d ≤ 1 := by
  rw [← e3]; exact Rat.mul_le_mul_of_nonneg_left h1 (by decide +kernel)
 rw [hd, e2]
 refine ⟨?_, fun h => ?_⟩
 ·have := mul_step_le p e4
  rwa [Rat.one_mul] at this
 ·have e5 : (((2 : Int) : Rat)) * d = 1 := mul_step_inj p (by rw [h, Rat.one_mul])
  have e6 : d = mkRat 1 2 := by
   have : ((2 : Int) : Rat) * d = ((2 : Int) : Rat) * mkRat 1 2 := by rw [e5, e3]
   grind
  have hz := h3 e6
  have e7 : rnd 3 p q / (((2 : Int) : Rat) * stepQ p) = ((toI 3 (q * tenQ p) / 2 : Int) : Rat) := by
   have hm : toI 3 (q * tenQ p) = 2 * (toI 3 (q * tenQ p) / 2) := by omega
   rw [rnd_eq]
   have e8 : (toI 3 (q * tenQ p) : Rat) = ((2 : Int) : Rat) * ((toI 3 (q * tenQ p) / 2 : Int) : Rat) := by
    rw [← Rat.intCast_mul, ← hm]
   rw [e8]
   have hs0 : ((2 : Int) : Rat) * stepQ p ≠ 0 := by
    intro e
    rcases Rat.mul_eq_zero.1 e with e | e
    ·exact absurd e (by decide +kernel)
    ·rw [e] at hs; exact absurd hs (by decide)
   rw [show ((2 : Int) : Rat) * ((toI 3 (q * tenQ p) / 2 : Int) : Rat) * stepQ p = ((toI 3 (q * tenQ p) / 2 : Int) : Rat) * (((2 : Int) : Rat) * stepQ p) by grind]
   exact Rat.mul_div_cancel hs0
  rw [e7]; rfl
end Go.Proofs.YtahfcciihkkegaaGreatDoor
namespace Go.Proofs.YtahfcciihkkegaaGreatDoor
open Go.RowKit
theorem rnd_sz {q : Rat} {k p : Nat} (way : Int) (h : Sz q k) (hp : p ≤ 100) : Sz (rnd way p q) (k + 12) := by
 unfold rnd
 exact (Sz.int (toI_d way (h.mul (ten_sz hp))) (by omega)).div (ten_sz hp) (tenQ_ne p)
theorem one_sz : Sz 1 1 := nat_sz (n := 1) (by refine digs_length_iff.2 ?_; unfold Bs; decide) (by decide)
theorem step_sz {p : Nat} (h : p ≤ 100) : Sz (stepQ p) 7 := by unfold stepQ; exact one_sz.div (ten_sz h) (tenQ_ne p)
end Go.Proofs.YtahfcciihkkegaaGreatDoor
namespace Go.Proofs.YtahfcciihkkegaaGreatDoor
open Go.RowKit
attribute [local irreducible] lo hs sm s64 c64 d64 b64 mh ml pd pc qd qc val hiB str cmpI srD lz nb isq decB zl zh zs fe txt
set_option maxHeartbeats 4000000 in
set_option maxRecDepth 100000 in
theorem lpower_w (n c : Int) (t a : Rat) (HO : ∀ w, Calls Tryz.prog 41 #[.int .i64 1, .int .i64 10] w fun xe w' => xe = .returned (fracV t) ∧ Below w.heap.size w w') (HP : ∀ w, Calls Tryz.prog 82 #[fracV t, .int .i64 n] w fun xe w' => xe = .returned (.tuple #[fracV a, .int .i64 c]) ∧ Below w.heap.size w w') (w : World) :
  Calls Tryz.prog 25 #[.int .i64 n] w fun xe w' => xe = .returned (fracV a) ∧ Below w.heap.size w w' := by
 have hL0 : GL w w [] := GL.start w
 replace HO := Lib.hid HO
 replace HP := Lib.hid HP
 replace hL0 := (hL0.new rfl [.int .u64 0, .string ⟨#[]⟩, .bool false, .int .u64 0, .string ⟨#[]⟩] 34)
 generalize hweq : (w.alloc (.cells #[.int .u64 0, .string ⟨#[]⟩, .bool false, .int .u64 0, .string ⟨#[]⟩] 34)) = x1 at hL0
 go_enter Tryz.func25, Tryz.ntmps25
 go_wp2_with fail
 with_reducible refine Calls.mono (HO.out _) ?_
 rintro e x2 ⟨rfl, hb⟩
 replace hL0 := hL0.call hb
 clear hb hweq
 go_wp2_with fail
 with_reducible refine Calls.mono (HP.out _) ?_
 rintro e x3 ⟨rfl, hb⟩
 replace hL0 := hL0.call hb
 clear hb
 replace hL0 := (hL0.new rfl [.int .u64 ((zl a.num : Nat) : Int), .string (zh a.num), .bool (zs a.num), .int .u64 ((lo (fe a) : Nat) : Int), .string (hs (fe a))] 34)
 generalize hweq : (x3.alloc (.cells #[.int .u64 ((zl a.num : Nat) : Int), .string (zh a.num), .bool (zs a.num), .int .u64 ((lo (fe a) : Nat) : Int), .string (hs (fe a))] 34)) = x4 at hL0
 have hA := hL0.fc
 simp only [fcG, cellsF, neK, and_true, ne_eq, Nat.zero_add, Nat.reduceAdd] at hA
 have hP := hL0.put 1 (w.heap.size) _ rfl [.int .u64 ((zl a.num : Nat) : Int), .string (zh a.num), .bool (zs a.num), .int .u64 ((lo (fe a) : Nat) : Int), .string (hs (fe a))] rfl
 simp only [setAll, List.set_cons_zero, List.set_cons_succ] at hP
 generalize hput1 : (((((x4.setCell ⟨w.heap.size, 0, none⟩ (.int .u64 ((zl a.num : Nat) : Int))).setCell ⟨w.heap.size, 1, none⟩ (.string (zh a.num))).setCell ⟨w.heap.size, 2, none⟩ (.bool (zs a.num))).setCell ⟨w.heap.size, 3, none⟩ (.int .u64 ((lo (fe a) : Nat) : Int))).setCell ⟨w.heap.size, 4, none⟩ (.string (hs (fe a)))) = x5 at hP
 have hB1 := hP.fc
 simp only [fcG, cellsF, neK, and_true, ne_eq, Nat.zero_add, Nat.reduceAdd] at hB1
 replace hL0 := hP
 go_wp2_with fail
 exact bodyPost_ret (v := .agg #[.int .u64 ((zl a.num : Nat) : Int), .string (zh a.num), .bool (zs a.num), .int .u64 ((lo (fe a) : Nat) : Int), .string (hs (fe a))]) (by simp [results, Tryz.results25, go_sem, hB1]) rfl ⟨rfl, hL0.bl⟩
end Go.Proofs.YtahfcciihkkegaaGreatDoor
namespace Go.Proofs.YtahfcciihkkegaaGreatDoor
open Go.RowKit
attribute [local irreducible] lo hs sm s64 c64 d64 b64 mh ml pd pc qd qc val hiB str cmpI srD lz nb isq decB zl zh zs
/-- A Great as plain data. -/
def gmade (s : Bool) (l k : List Nat) : Rat := mkRat (zmade s l) (made k + 1)
theorem gof_any (s : Bool) (a b : Option Addr) (n c m d : Nat) (l k : List Nat) (hl : l.length ≤ 1000) (hk : k.length ≤ 1000) (w : World) (h1 : Ws w (.slice a n c) l) (h2 : Ws w (.slice b m d) k) :
  Calls Tryz.prog 13 #[.agg #[.bool s, .slice a n c, .slice b m d]] w fun xe w' => xe = .returned (fracV (gmade s l k)) ∧ Below w.heap.size w w' := by
 have d1 := zmade_dI (s := s) h1.lt
 have d2 := made_digs h2.lt
 have dz1 : (digs 1).length ≤ 1 := digs_length_iff.2 (by rw [Nat.pow_one]; exact Bs_gt)
 have d3 : (digs (made k + 1)).length ≤ 1001 := Nat.le_trans (digs_add_le (k := 1000) (by omega) (Nat.le_trans dz1 (by omega))) (by omega)
 refine gof_w s a b n c m d (zmade false k) (zmade s l) _ (made k) (made k + 1) _ _ (Keeps.ws _ l) (fun w h => zof_any s a n c l hl w h) (fun w => gden_w s a b n c m d w) _ (Keeps.ws _ k) (fun w h => zof_any false b m d k hk w h) (fun w => ?_) one_o (fun w => add_any (made k) 1 (by omega) (by omega) w) (fromF (zmade s l) (made k + 1) (by omega) (by omega) (by omega)) w h1 h2
 have h := absI (zmade false k) w
 rw [show (zmade false k).natAbs = made k from rfl] at h
 exact h
theorem gmade_sz {s : Bool} {w : World} {a b : Option Addr} {n c m d : Nat} {l k : List Nat} {most : Nat} (hp : 0 < most) (h1 : Ws w (.slice a n c) l) (h2 : Ws w (.slice b m d) k) (hn : n ≤ most) (hm : m ≤ most) : Sz (gmade s l k) (most + 1) := by
 have e1 := h1.len
 have e2 := h2.len
 have d1 := zmade_dI (s := s) h1.lt
 have d2 := made_digs h2.lt
 refine Sz.mk (by omega) ?_ (by omega)
 have dz1 : (digs 1).length ≤ 1 := digs_length_iff.2 (by rw [Nat.pow_one]; exact Bs_gt)
 exact digs_add_le (k := most) (by omega) (by omega)
end Go.Proofs.YtahfcciihkkegaaGreatDoor
namespace Go.Proofs.YtahfcciihkkegaaGreatDoor
open Go.RowKit
open Go.Lib (decDigits)
theorem dpair (v u : Value) (l k : List Nat) : Keeps (fun w => Ws w v l ∧ Ws w u k) := Keeps.and (Keeps.ws v l) (Keeps.ws u k)
attribute [local irreducible] decT toI rnd tenQ tailT
end Go.Proofs.YtahfcciihkkegaaGreatDoor
namespace Go.Proofs.YtahfcciihkkegaaGreatDoor
open Go.ChangeShapes Go.WideShapes Go.ChangeAt Go.RowKit
theorem cells62 : Tryz.prog.cellsOf 56 = 1 := by kernel_rfl
theorem wide_u32 {n : Int} (h : (Lit.int .u32 n).wf = true) : 0 ≤ n ∧ n ≤ 4294967295 := bounds_u32 h
end Go.Proofs.YtahfcciihkkegaaGreatDoor
namespace Go.Proofs.YtahfcciihkkegaaGreatDoor
open Go.ChangeShapes Go.WideShapes Go.ChangeAt Go.RowKit Go.Joins
theorem cellsZ : Tryz.prog.cellsOf 24 = 2 := by kernel_rfl
theorem ws_of_trod {H : Type} {enc : TypeId × Value → H} {W : World} {v : Value} {y : DataW H × List MemPlace} {fuel : Nat} (hf : DataW.trod enc Tryz.prog W 0 (fun _ => true) true fuel 22 [v] = some y) : ∃ a n c l, v = .slice a n c ∧ Ws W v l := by
 rcases open_ints Tryz.underlying22 Tryz.underlying56 cells62 hf with ⟨hcs, hx⟩ | ⟨a, len', cap', zs, hcs, _, hl, hm, hz, hx, hcell, hwz⟩
 ·simp only [List.cons.injEq, and_true] at hcs
  subst hcs
  exact ⟨none, 0, 0, [], rfl, .inl ⟨_, _, rfl, rfl⟩⟩
 ·simp only [List.cons.injEq, and_true] at hcs
  subst hcs
  simp only [if_true] at hz
  refine ⟨some a, len', cap', ?_⟩
  by_cases h0 : len' = 0
  ·subst h0
   exact ⟨[], rfl, .inl ⟨_, _, rfl, rfl⟩⟩
  ·have hll : ((zs.take len').map Int.toNat).length = len' := by simp; omega
   refine ⟨(zs.take len').map Int.toNat, rfl, .inr ⟨a, cap', by rw [hll], ?_, ?_, ?_⟩⟩
   ·intro x hx
    obtain ⟨z, hz1, rfl⟩ := List.mem_map.1 hx
    have := wide_u32 (hwz z (List.mem_of_mem_take hz1))
    omega
   ·intro i hi
    rw [hll] at hi
    have hi2 : i < zs.length := by omega
    have e := hcell i hi2
    rw [show zs.getD i 0 = zs[i] by simp [List.getD, hi2]] at e
    have hw := wide_u32 (hwz zs[i] (List.getElem_mem hi2))
    rw [e]
    simp only [List.getElem_map, List.getElem_take]
    rw [Int.toNat_of_nonneg hw.1]
   ·have e := hcell 0 (by omega)
    have := World.block_lt_of_cell? W _ e
    rw [show (a.add 0).block = a.block from by unfold Addr.add; split <;> rfl] at this
    exact this
end Go.Proofs.YtahfcciihkkegaaGreatDoor
namespace Go.Proofs.YtahfcciihkkegaaGreatDoor
open Go.ChangeShapes Go.WideShapes Go.ChangeAt Go.RowKit Go.Joins
theorem cellsG : Tryz.prog.cellsOf 26 = 3 := by kernel_rfl
theorem cellsW : Tryz.prog.cellsOf 22 = 1 := by kernel_rfl
theorem cellsB : Tryz.prog.cellsOf 4 = 1 := by kernel_rfl
set_option maxRecDepth 100000 in
theorem great_of {H : Type} {enc : TypeId × Value → H} {W : World} {base : Nat} {v : Value} {d : DataW H} {p : List MemPlace} (hv : Value.okWide Tryz.prog W .any base 26 v)
  (h : DataW.Trod enc Tryz.prog W 0 (fun _ => true) true 26 v d p) : ∃ s a q n c m d l k, v = .agg #[.bool s, .slice a n c, .slice q m d] ∧ Ws W (.slice a n c) l ∧ Ws W (.slice q m d) k := by
 obtain ⟨cs, rfl, hsz⟩ := okWide_struct Tryz.underlying26 hv
 obtain ⟨c0, c1, c2, rfl⟩ := array3 (hsz.trans cellsG)
 obtain ⟨fuel, hf⟩ := h
 obtain ⟨y0, y1, n, hx, _, h0, h1⟩ := trod_struct2 Tryz.underlying26 hf
 simp only [cellsZ, cellsW] at h0 h1
 obtain ⟨z0, z1, m, hz, _, g0, g1⟩ := trod_struct2 Tryz.underlying24 h0
 simp only [cellsB, cellsW] at g0 g1
 obtain ⟨s, e0, -⟩ := DataW.trod_bool Tryz.underlying4 g0
 obtain ⟨a1, n1, k1, l1, r1, w1⟩ := ws_of_trod g1
 obtain ⟨a2, n2, k2, l2, r2, w2⟩ := ws_of_trod h1
 simp [Value.cells] at e0 r1 r2
 subst e0 r1 r2
 exact ⟨s, a1, a2, n1, k1, n2, k2, l1, l2, rfl, w1, w2⟩
end Go.Proofs.YtahfcciihkkegaaGreatDoor
namespace Go.Proofs.YtahfcciihkkegaaGreatDoor.Rx
open Go.RowKit
/-- The number that digits spell. -/
def tv : List Nat → Nat
 | [] => 0
 | d :: l => d + 10000 * tv l
theorem tv_nil : tv [] = 0 := rfl
/-- The digits of a number. -/
def td (n : Nat) : List Nat := if h : n = 0 then [] else n % 10000 :: td (n / 10000)
theorem td_zero : td 0 = [] := by rw [td, dif_pos rfl]
theorem td_pos {n : Nat} (h : n ≠ 0) : td n = n % 10000 :: td (n / 10000) := by rw [td, dif_neg h]
theorem tv_td (n : Nat) : tv (td n) = n := by
 induction n using Nat.strongRecOn with
 | _ n ih =>
  by_cases h : n = 0
  ·rw [h, td_zero]; rfl
  ·rw [td_pos h, tv, ih (n / 10000) (by omega)]; omega
theorem td_lt (n : Nat) : ∀ d ∈ td n, d < 10000 := by
 induction n using Nat.strongRecOn with
 | _ n ih =>
  by_cases h : n = 0
  ·rw [h, td_zero]; intro d hd; cases hd
  ·rw [td_pos h]
   intro d hd
   rcases List.mem_cons.1 hd with rfl | hd
   ·omega
   ·exact ih (n / 10000) (by omega) d hd
theorem td_nil {n : Nat} : td n = [] ↔ n = 0 := by
 by_cases h : n = 0
 ·rw [h, td_zero]; simp
 ·rw [td_pos h]; simp [h]
theorem tv_append (l m : List Nat) : tv (l ++ m) = tv l + 10000 ^ l.length * tv m := by
 induction l with
 | nil => simp [tv]
 | cons d l ih => rw [List.cons_append, tv, ih, tv, List.length_cons, Nat.pow_succ, Nat.mul_add, Nat.mul_comm _ 10000, Nat.mul_assoc]; omega
theorem tv_lt {l : List Nat} (h : ∀ d ∈ l, d < 10000) : tv l < 10000 ^ l.length := by
 induction l with
 | nil => exact Nat.one_pos
 | cons d l ih =>
  have h1 := ih fun x hx => h x (List.mem_cons_of_mem _ hx)
  have h2 := h d List.mem_cons_self
  rw [tv, List.length_cons, Nat.pow_succ]
  omega
theorem tv_zeros (k : Nat) : tv (List.replicate k 0) = 0 := by
 induction k with
 | zero => rfl
 | succ k ih => rw [List.replicate_succ, tv, ih]
/-- Digits are those of their number, and zeros behind them. -/
theorem td_tv {l : List Nat} (h : ∀ d ∈ l, d < 10000) : ∃ z, l = td (tv l) ++ List.replicate z 0 := by
 induction l with
 | nil => exact ⟨0, by rw [tv, td_zero]; rfl⟩
 | cons d l ih =>
  obtain ⟨z, hz⟩ := ih fun x hx => h x (List.mem_cons_of_mem _ hx)
  have hd := h d List.mem_cons_self
  rw [tv]
  by_cases h0 : d + 10000 * tv l = 0
  ·have h1 : tv l = 0 := by omega
   rw [h1, td_zero, List.nil_append] at hz
   refine ⟨z + 1, ?_⟩
   rw [h0, td_zero, List.nil_append, List.replicate_succ, ← hz, show d = 0 by omega]
  ·refine ⟨z, ?_⟩
   rw [td_pos h0, show (d + 10000 * tv l) % 10000 = d by omega, show (d + 10000 * tv l) / 10000 = tv l by omega, List.cons_append, ← hz]
theorem td_length {n k : Nat} : (td n).length ≤ k ↔ n < 10000 ^ k := by
 induction k generalizing n with
 | zero =>
  rw [Nat.pow_zero]
  constructor
  ·intro h; have := td_nil.1 (List.eq_nil_of_length_eq_zero (l := td n) (by omega)); omega
  ·intro h; rw [show n = 0 by omega, td_zero]; exact Nat.le_refl _
 | succ k ih =>
  by_cases h : n = 0
  ·rw [h, td_zero]; exact ⟨fun _ => Nat.pow_pos (by omega), fun _ => Nat.zero_le _⟩
  ·rw [td_pos h, List.length_cons, Nat.pow_succ]
   have := ih (n := n / 10000)
   constructor
   ·intro h1; have := this.1 (by omega); omega
   ·intro h1; have := this.2 (by omega); omega
theorem td_mono {a b : Nat} (h : a ≤ b) : (td a).length ≤ (td b).length := td_length.2 (Nat.lt_of_le_of_lt h (td_length.1 (Nat.le_refl _)))
theorem tv_snoc (l : List Nat) (d : Nat) : tv (l ++ [d]) = tv l + 10000 ^ l.length * d := by rw [tv_append]; simp [tv]
theorem tv_take_getElem {l : List Nat} {k : Nat} (h : k < l.length) : tv (l.take (k + 1)) = tv (l.take k) + 10000 ^ k * l[k] := by
 rw [List.take_succ_eq_append_getElem h, tv_snoc, List.length_take, Nat.min_eq_left (Nat.le_of_lt h)]
theorem td_last {n : Nat} (h : td n ≠ []) : (td n).getLast h ≠ 0 := by
 induction n using Nat.strongRecOn with
 | _ n ih =>
  have h0 : n ≠ 0 := fun e => h (td_nil.2 e)
  by_cases h1 : n / 10000 = 0
  ·simp only [td_pos h0, h1, td_zero, List.getLast_singleton]; omega
  ·have h2 : td (n / 10000) ≠ [] := fun e => h1 (td_nil.1 e)
   have := ih (n / 10000) (by omega) h2
   simp only [td_pos h0]
   rwa [List.getLast_cons h2]
/-- A digit, or 0 behind the last one. -/
def dg (l : List Nat) (i : Nat) : Nat := l.getD i 0
theorem dg_lt {l : List Nat} (h : ∀ d ∈ l, d < 10000) (i : Nat) : dg l i < 10000 := by
 unfold dg
 rcases Nat.lt_or_ge i l.length with hi | hi
 ·simp [hi]; exact h _ (List.getElem_mem hi)
 ·simp [hi]
theorem dg_in {l : List Nat} {i : Nat} (h : i < l.length) : dg l i = l[i] := by unfold dg; simp [h]
theorem dg_out {l : List Nat} {i : Nat} (h : l.length ≤ i) : dg l i = 0 := by unfold dg; simp [h]
theorem tv_take (l : List Nat) (k : Nat) : tv (l.take (k + 1)) = tv (l.take k) + 10000 ^ k * dg l k := by
 rcases Nat.lt_or_ge k l.length with h | h
 ·rw [tv_take_getElem h, dg_in h]
 ·rw [dg_out h, List.take_of_length_le (by omega), List.take_of_length_le h]; omega
/-- A slice of ints that can be read. -/
structure Sd (w : World) (a : Addr) (l : List Nat) : Prop where
 cell : ∀ (i : Nat) (h : i < l.length), w.cell? (a.add i) = some (.int .i64 ((l[i] : Nat) : Int))
 blk : a.block < w.heap.size
theorem addB (a : Addr) (i : Nat) : (a.add i).block = a.block := by unfold Addr.add; split <;> rfl
theorem Sd.below {w w' : World} {a : Addr} {l : List Nat} (h : Sd w a l) (hb : Below w.heap.size w w') : Sd w' a l :=
 ⟨fun i hi => (hb.cell (p := a.add i) (by rw [addB]; exact h.blk)).trans (h.cell i hi), Nat.lt_of_lt_of_le h.blk hb.size⟩
theorem Sd.left {w : World} {a : Addr} {l m : List Nat} (h : Sd w a (l ++ m)) : Sd w a l :=
 ⟨fun i hi => by rw [h.cell i (by rw [List.length_append]; omega), List.getElem_append_left hi], h.blk⟩
def Sl (w : World) (v : Value) (l : List Nat) : Prop := (∃ ao c, v = .slice ao 0 c ∧ l = [] ∧ (ao = none → c = 0)) ∨ ∃ a c, v = .slice (some a) l.length c ∧ l.length ≤ c ∧ Sd w a l
theorem Sl.below {w w' : World} {v : Value} {l : List Nat} (h : Sl w v l) (hb : Below w.heap.size w w') : Sl w' v l := by
 rcases h with h | ⟨a, c, h1, h2, h3⟩
 ·exact .inl h
 ·exact .inr ⟨a, c, h1, h2, h3.below hb⟩
theorem Sl.form {w : World} {v : Value} {l : List Nat} (h : Sl w v l) : ∃ ao c, v = .slice ao l.length c := by
 rcases h with ⟨ao, c, rfl, rfl, -⟩ | ⟨a, c, rfl, _⟩
 ·exact ⟨_, _, rfl⟩
 ·exact ⟨_, _, rfl⟩
theorem Sl.nil (w : World) : Sl w (.slice none 0 0) [] := .inl ⟨_, _, rfl, rfl, fun _ => rfl⟩
theorem Sl.drew {w : World} {v : Value} {l : List Nat} (h : Sl w v l) : Sl w.drew v l := by
 rcases h with h | ⟨a, c, h1, h2, h3⟩
 ·exact .inl h
 ·exact .inr ⟨a, c, h1, h2, h3.cell, h3.blk⟩
abbrev iv (d : Nat) : Value := .int .i64 (d : Int)
end Go.Proofs.YtahfcciihkkegaaGreatDoor.Rx
namespace Go.Proofs.YtahfcciihkkegaaGreatDoor.Rx
open Go.RowKit
attribute [local irreducible] tv dg
def lenOf : Value → Nat | .slice _ n _ => n | _ => 0
theorem trim_nil (ao : Option Addr) (c : Nat) (w : World) :
  Calls Tryz.prog 138 #[.slice ao 0 c] w fun e w' => e = .returned (.slice ao 0 c) ∧ w = w' := by
 go_enter Tryz.func138, Tryz.ntmps138
 go_wp2_with fail
 go_loopw [0] (fun v wr => v = .slice ao 0 c ∧ wr = w) (fun v _ => lenOf v)
 case atStart => exact ⟨rfl, rfl⟩
 case round =>
  obtain ⟨rfl, rfl⟩ := hrel
  go_wp2_with fail
  go_ret
  exact ⟨rfl, rfl⟩
theorem trim_row (a : Addr) (c m z : Nat) (l : List Nat) (hm : l.length = m) (hc : m + z ≤ c) (hB : m + z < 9223372036854775807) (hlast : ∀ h : l ≠ [], l.getLast h ≠ 0) (w : World) (h : Sd w a (l ++ List.replicate z 0)) :
  Calls Tryz.prog 138 #[.slice (some a) (m + z) c] w fun e w' => e = .returned (.slice (some a) m c) ∧ w = w' := by
 have hz : ∀ k, k < z → w.cell? (a.add (m + k)) = some (.int .i64 0) := fun k hk => by
  rw [h.cell (m + k) (by simp; omega), List.getElem_append_right (by omega)]; simp
 have hl : ∀ p, m = p + 1 → ∃ d : Nat, d ≠ 0 ∧ w.cell? (a.add p) = some (.int .i64 (d : Int)) := fun p hp => by
  have hne : l ≠ [] := fun e => by rw [e] at hm; simp at hm; omega
  refine ⟨l.getLast hne, hlast hne, ?_⟩
  rw [h.cell p (by simp; omega), List.getElem_append_left (by omega), List.getLast_eq_getElem hne]
  simp [hm, hp]
 clear h hlast hm
 replace hz := Lib.hid hz
 replace hl := Lib.hid hl
 go_enter Tryz.func138, Tryz.ntmps138
 go_wp2_with fail
 go_loopw [0] (fun v wr => ∃ k, k ≤ z ∧ v = .slice (some a) (m + k) c ∧ wr = w) (fun v _ => lenOf v)
 case atStart => exact ⟨z, Nat.le_refl _, rfl, rfl⟩
 case round =>
  obtain ⟨k, hk, rfl, rfl⟩ := hrel
  cases k with
  | zero =>
   rw [Nat.add_zero]
   cases m with
   | zero =>
    go_wp2_with fail
    go_ret
    exact ⟨rfl, rfl⟩
   | succ p =>
    obtain ⟨d, hd, hcell⟩ := hl.out p rfl
    have hd1 : ((d : Int) == 0) = false := beq_eq_false_iff_ne.2 (by omega)
    go_wp2_with fail
    go_ret
    exact ⟨rfl, rfl⟩
  | succ j =>
   have hcell := hz.out j (by omega)
   rw [show m + (j + 1) = (m + j) + 1 from by omega]
   obtain ⟨q, hq⟩ : ∃ q, q = m + j := ⟨_, rfl⟩
   rw [← hq] at hcell ⊢
   have hqc : q + 1 ≤ c := by omega
   have hqB : q + 1 < 9223372036854775807 := by omega
   replace hq := Lib.hid hq
   go_wp2_with fail
   go_roundw
   case rel => exact ⟨j, by omega, by rw [hq.out], trivial⟩
   case measure => simp [lenOf]
/-- trim: the digits of a number. -/
theorem trim_any (v : Value) (l : List Nat) (hd : ∀ d ∈ l, d < 10000) (hB : l.length < 9223372036854775807) (w : World) (h : Sl w v l) :
  Calls Tryz.prog 138 #[v] w fun e w' => ∃ v', e = .returned v' ∧ Sl w v' (td (tv l)) ∧ w = w' := by
 obtain ⟨z, hz⟩ := td_tv hd
 rcases h with ⟨ao, c, rfl, rfl, hc0⟩ | ⟨a, c, rfl, h2, h3⟩
 ·refine (trim_nil ao c w).mono ?_
  rintro e w' ⟨rfl, rfl⟩
  exact ⟨_, rfl, .inl ⟨ao, c, rfl, by rw [tv_nil, td_zero], hc0⟩, rfl⟩
 ·have hlen : l.length = (td (tv l)).length + z := by
   have := congrArg List.length hz
   rwa [List.length_append, List.length_replicate] at this
  rw [hz] at h3
  rw [hlen] at h2 hB ⊢
  refine (trim_row a c _ z (td (tv l)) rfl h2 hB (fun h => td_last h) w h3).mono ?_
  rintro e w' ⟨rfl, rfl⟩
  exact ⟨_, rfl, .inr ⟨a, c, rfl, by omega, h3.left⟩, rfl⟩
end Go.Proofs.YtahfcciihkkegaaGreatDoor.Rx
namespace Go.Proofs.YtahfcciihkkegaaGreatDoor.Rx
open Go.RowKit
attribute [local irreducible] tv dg
/-- What the digits so far spell, with what is left. -/
theorem td_step {n k : Nat} (hk : k < (td n).length) : n / 10000 ^ k ≠ 0 ∧ (td n)[k] = n / 10000 ^ k % 10000 := by
 induction k generalizing n with
 | zero =>
  have h0 : n ≠ 0 := fun e => by rw [e, td_zero] at hk; exact absurd hk (by simp)
  simp only [Nat.pow_zero, Nat.div_one]
  refine ⟨h0, ?_⟩
  simp only [td_pos h0, List.getElem_cons_zero]
 | succ k ih =>
  have h0 : n ≠ 0 := fun e => by rw [e, td_zero] at hk; exact absurd hk (by simp)
  have hk' : k < (td (n / 10000)).length := by rw [td_pos h0, List.length_cons] at hk; omega
  have := ih hk'
  rw [Nat.div_div_eq_div_mul, Nat.mul_comm, ← Nat.pow_succ] at this
  refine ⟨this.1, ?_⟩
  simp only [td_pos h0, List.getElem_cons_succ]
  exact this.2
theorem td_end {n k : Nat} (hk : (td n).length ≤ k) : n / 10000 ^ k = 0 := Nat.div_eq_of_lt (td_length.1 hk)
end Go.Proofs.YtahfcciihkkegaaGreatDoor.Rx
namespace Go.Proofs.YtahfcciihkkegaaGreatDoor.Rx
open Go.RowKit
attribute [local irreducible] tv dg
/-- What Add's rounds keep. -/
structure AddS (A B S : List Nat) (i c : Nat) : Prop where
 len : S.length = i
 lt : ∀ d ∈ S, d < 10000
 car : c ≤ 1
 eq : tv S + 10000 ^ i * c = tv (A.take i) + tv (B.take i)
theorem AddS.step {A B S : List Nat} {i c : Nat} (h : AddS A B S i c) (hA : ∀ d ∈ A, d < 10000) (hB : ∀ d ∈ B, d < 10000) :
  AddS A B (S ++ [(dg A i + dg B i + c) % 10000]) (i + 1) ((dg A i + dg B i + c) / 10000) := by
 have h1 := dg_lt hA i
 have h2 := dg_lt hB i
 have h3 := h.car
 refine ⟨by rw [List.length_append, h.len]; rfl, fun d hd => ?_, by omega, ?_⟩
 ·rcases List.mem_append.1 hd with hd | hd
  ·exact h.lt d hd
  ·rw [List.mem_singleton.1 hd]; omega
 ·rw [tv_snoc, h.len, tv_take, tv_take, Nat.pow_succ]
  have h4 := h.eq
  generalize dg A i = x at *
  generalize dg B i = y at *
  have h5 : (x + y + c) % 10000 + 10000 * ((x + y + c) / 10000) = x + y + c := by omega
  have h6 : 10000 ^ i * ((x + y + c) % 10000) + 10000 ^ i * 10000 * ((x + y + c) / 10000) = 10000 ^ i * x + 10000 ^ i * y + 10000 ^ i * c := by
   rw [Nat.mul_assoc, ← Nat.mul_add, h5, Nat.mul_add, Nat.mul_add]
  generalize 10000 ^ i * ((x + y + c) % 10000) = p at *
  generalize 10000 ^ i * 10000 * ((x + y + c) / 10000) = q at *
  omega
end Go.Proofs.YtahfcciihkkegaaGreatDoor.Rx
namespace Go.Proofs.YtahfcciihkkegaaGreatDoor.Rx
open Go.RowKit
attribute [local irreducible] tv dg
theorem add0 (g i : Nat) : (⟨g, 0, none⟩ : Addr).add i = ⟨g, i, none⟩ := by
 unfold Addr.add
 split <;> simp_all
/-- Block g holds just these ints. -/
def IB (w : World) (g : Nat) (l : List Nat) : Prop := w.heap[g]? = some (.cells (l.map iv).toArray 3 (0, 0))
section
variable {w w' : World} {g : Nat} {l : List Nat}
theorem IB.lt (h : IB w g l) : g < w.heap.size := (Array.getElem?_eq_some_iff.1 h).1
theorem IB.cell (h : IB w g l) (i : Nat) (hi : i < l.length) : w.cell? ⟨g, i, none⟩ = some (.int .i64 ((l[i] : Nat) : Int)) := by
 rw [cell_of_row w g i _ _ _ h]; simp [hi]
theorem IB.frozen (h : IB w g l) (i : Nat) : w.frozen? ⟨g, i, none⟩ = false := frozen_of_row w g i _ _ h
theorem IB.set (h : IB w g l) (i : Nat) (d : Nat) : IB (w.setCell ⟨g, i, none⟩ (.int .i64 (d : Int))) g (l.set i d) := by
 unfold IB at *
 rw [heap_setCell_same w g i _ _ _ h]
 congr 2
 rw [List.map_set]; simp
theorem IB.keep (h : IB w g l) (hk : w'.heap[g]? = w.heap[g]?) : IB w' g l := hk.trans h
theorem IB.below {B : Nat} (h : IB w g l) (hb : Below B w w') (hg : g < B) : IB w' g l := h.keep (hb.block g hg)
theorem IB.drewN (h : IB w g l) (n : Nat) : IB (w.drewN n) g l := h
theorem IB.sl (h : IB w g l) (c : Nat) (hc : l.length ≤ c) : Sl w (.slice (some ⟨g, 0, none⟩) l.length c) l :=
 .inr ⟨⟨g, 0, none⟩, c, rfl, hc, fun i hi => by rw [add0]; exact h.cell i hi, h.lt⟩
end
/-- Zeros, as make lays them. -/
def zobjI (n : Nat) : Obj := .cells ((List.replicate n 0).map iv).toArray 3
theorem IB.zeros (w : World) (n : Nat) : IB (w.alloc (zobjI n)) w.heap.size (List.replicate n 0) := heap_alloc_new w _
theorem tv_set {l : List Nat} {j : Nat} (h : j < l.length) (d : Nat) : tv (l.set j d) + 10000 ^ j * l[j] = tv l + 10000 ^ j * d := by
 induction l generalizing j with
 | nil => exact absurd h (by simp)
 | cons x l ih =>
  cases j with
  | zero => simp only [List.set_cons_zero, List.getElem_cons_zero, tv, Nat.pow_zero, Nat.one_mul]; omega
  | succ j =>
   have hj : j < l.length := by simpa using h
   have := ih (j := j) hj
   simp only [List.set_cons_succ, List.getElem_cons_succ, tv, Nat.pow_succ]
   rw [Nat.mul_comm (10000 ^ j) 10000, Nat.mul_assoc, Nat.mul_assoc]
   generalize 10000 ^ j * l[j] = p at *
   generalize 10000 ^ j * d = q at *
   omega
/-- What Mul's inner rounds keep. -/
structure MulS (A B X : List Nat) (i k c : Nat) : Prop where
 len : X.length = A.length + B.length
 lt : ∀ d ∈ X, d < 10000
 car : c < 10000
 eq : tv X + 10000 ^ (i + k) * c = tv (A.take i) * tv B + 10000 ^ i * (dg A i * tv (B.take k))
theorem MulS.step {A B X : List Nat} {i k c : Nat} (h : MulS A B X i k c) (hA : ∀ d ∈ A, d < 10000) (hB : ∀ d ∈ B, d < 10000) (hj : i + k < X.length) {s : Nat} (hs : s = X[i + k] + dg A i * dg B k + c) :
  s < 100000000 ∧ MulS A B (X.set (i + k) (s % 10000)) i (k + 1) (s / 10000) := by
 have h1 := dg_lt hA i
 have h2 := dg_lt hB k
 have h3 := h.car
 have hx := h.lt _ (List.getElem_mem hj)
 have hp : dg A i * dg B k ≤ 9999 * 9999 := Nat.mul_le_mul (by omega) (by omega)
 have hs1 : s < 100000000 := by omega
 refine ⟨hs1, by rw [List.length_set]; exact h.len, fun d hd => ?_, by omega, ?_⟩
 ·rcases List.mem_or_eq_of_mem_set hd with hd | hd
  ·exact h.lt d hd
  ·omega
 ·have e1 := tv_set hj (s % 10000)
  have e2 := h.eq
  rw [tv_take, ← Nat.add_assoc, Nat.pow_succ]
  have e3 : s % 10000 + 10000 * (s / 10000) = X[i + k] + dg A i * dg B k + c := by omega
  have e4 : 10000 ^ (i + k) * (s % 10000) + 10000 ^ (i + k) * 10000 * (s / 10000) = 10000 ^ (i + k) * X[i + k] + 10000 ^ (i + k) * (dg A i * dg B k) + 10000 ^ (i + k) * c := by
   rw [Nat.mul_assoc, ← Nat.mul_add, e3, Nat.mul_add, Nat.mul_add]
  have e5 : 10000 ^ i * (dg A i * (tv (B.take k) + 10000 ^ k * dg B k)) = 10000 ^ i * (dg A i * tv (B.take k)) + 10000 ^ (i + k) * (dg A i * dg B k) := by
   rw [Nat.mul_add, Nat.mul_add, Nat.pow_add, Nat.mul_left_comm (dg A i), Nat.mul_assoc (10000 ^ i)]
  rw [e5]
  generalize 10000 ^ (i + k) * (s % 10000) = p1 at *
  generalize 10000 ^ (i + k) * 10000 * (s / 10000) = p2 at *
  generalize 10000 ^ (i + k) * X[i + k] = p3 at *
  generalize 10000 ^ (i + k) * (dg A i * dg B k) = p4 at *
  generalize 10000 ^ (i + k) * c = p5 at *
  generalize 10000 ^ i * (dg A i * tv (B.take k)) = p6 at *
  generalize tv (A.take i) * tv B = p7 at *
  generalize tv (X.set (i + k) (s % 10000)) = p8 at *
  generalize tv X = p9 at *
  omega
/-- Behind b's digits one carry may be left, and no more. -/
theorem MulS.carry {A B X : List Nat} {i k c : Nat} (h : MulS A B X i k c) (hA : ∀ d ∈ A, d < 10000) (hB : ∀ d ∈ B, d < 10000) (hi : i < A.length) (hk : B.length + 1 ≤ k) : c = 0 := by
 rcases Nat.eq_zero_or_pos c with h0 | h0
 ·exact h0
 ·have e := h.eq
  have e2 : tv (A.take i) * tv B + 10000 ^ i * (dg A i * tv (B.take k)) = tv (A.take (i + 1)) * tv B := by
   rw [List.take_of_length_le (l := B) (by omega), tv_take, Nat.add_mul, Nat.mul_assoc]
  have e3 : tv (A.take (i + 1)) < 10000 ^ (i + 1) := by
   have := tv_lt (l := A.take (i + 1)) fun d hd => hA d (List.mem_of_mem_take hd)
   rwa [List.length_take, Nat.min_eq_left (by omega)] at this
  have e4 := tv_lt hB
  have e5 : tv (A.take (i + 1)) * tv B < 10000 ^ (i + 1) * 10000 ^ B.length := Nat.lt_of_le_of_lt (Nat.mul_le_mul_left _ (Nat.le_of_lt e4)) (Nat.mul_lt_mul_of_pos_right e3 (Nat.pow_pos (by omega)))
  rw [← Nat.pow_add] at e5
  have e6 : 10000 ^ (i + 1 + B.length) ≤ 10000 ^ (i + k) := Nat.pow_le_pow_right (by omega) (by omega)
  have e7 : 10000 ^ (i + k) ≤ 10000 ^ (i + k) * c := Nat.le_mul_of_pos_right _ h0
  omega
theorem MulS.done {A B X : List Nat} {i k : Nat} (h : MulS A B X i k 0) (hk : B.length ≤ k) : MulS A B X (i + 1) 0 0 := by
 refine ⟨h.len, h.lt, by omega, ?_⟩
 have e := h.eq
 rw [List.take_of_length_le hk] at e
 rw [List.take_zero, tv_take, Nat.add_mul, Nat.mul_assoc]
 rw [Nat.mul_zero, Nat.add_zero] at e ⊢
 rw [e]
 have : tv [] = 0 := by unfold tv; rfl
 rw [this, Nat.mul_zero, Nat.mul_zero, Nat.add_zero]
theorem MulS.start (A B : List Nat) : MulS A B (List.replicate (A.length + B.length) 0) 0 0 0 := by
 refine ⟨List.length_replicate, fun d hd => by rw [(List.mem_replicate.1 hd).2]; omega, by omega, ?_⟩
 have : tv [] = 0 := by unfold tv; rfl
 rw [tv_zeros, List.take_zero, List.take_zero, this]
 simp
end Go.Proofs.YtahfcciihkkegaaGreatDoor.Rx
namespace Go.Proofs.YtahfcciihkkegaaGreatDoor.Rx
open Go.RowKit
attribute [local irreducible] tv dg
/-- A slice that holds a number's digits. -/
abbrev Rn (w : World) (v : Value) (n : Nat) : Prop := Sl w v (td n)
end Go.Proofs.YtahfcciihkkegaaGreatDoor.Rx
namespace Go.Proofs.YtahfcciihkkegaaGreatDoor.Rx
open Go.RowKit
attribute [local irreducible] tv dg cmpI
end Go.Proofs.YtahfcciihkkegaaGreatDoor.Rx
namespace Go.Proofs.YtahfcciihkkegaaGreatDoor.Rx
open Go.RowKit
attribute [local irreducible] tv dg cmpI
/-- What Sub's rounds keep. -/
structure SubS (A B S : List Nat) (i c : Nat) : Prop where
 len : S.length = i
 lt : ∀ d ∈ S, d < 10000
 car : c ≤ 1
 eq : tv (A.take i) + 10000 ^ i * c = tv S + tv (B.take i)
theorem SubS.step {A B S : List Nat} {i c d c' : Nat} (h : SubS A B S i c) (hd : d < 10000) (hc : c' ≤ 1) (he : d + dg B i + c = dg A i + 10000 * c') : SubS A B (S ++ [d]) (i + 1) c' := by
 refine ⟨by rw [List.length_append, h.len]; rfl, fun x hx => ?_, hc, ?_⟩
 ·rcases List.mem_append.1 hx with hx | hx
  ·exact h.lt x hx
  ·rw [List.mem_singleton.1 hx]; exact hd
 ·rw [tv_snoc, h.len, tv_take, tv_take, Nat.pow_succ]
  have h4 := h.eq
  have h6 : 10000 ^ i * d + 10000 ^ i * dg B i + 10000 ^ i * c = 10000 ^ i * dg A i + 10000 ^ i * 10000 * c' := by
   rw [Nat.mul_assoc, ← Nat.mul_add, ← Nat.mul_add, ← Nat.mul_add, he]
  generalize 10000 ^ i * d = p1 at *
  generalize 10000 ^ i * dg B i = p2 at *
  generalize 10000 ^ i * c = p3 at *
  generalize 10000 ^ i * dg A i = p4 at *
  generalize 10000 ^ i * 10000 * c' = p5 at *
  omega
theorem SubS.done {A B S : List Nat} {c : Nat} (h : SubS A B S A.length c) (hB : B.length ≤ A.length) (hle : tv B ≤ tv A) : tv S = tv A - tv B := by
 have e := h.eq
 rw [List.take_of_length_le (Nat.le_refl _), List.take_of_length_le hB] at e
 have h1 := tv_lt h.lt
 rw [h.len] at h1
 have hc := h.car
 rcases Nat.eq_zero_or_pos c with h0 | h0
 ·rw [h0, Nat.mul_zero] at e; omega
 ·rw [show c = 1 by omega, Nat.mul_one] at e; omega
end Go.Proofs.YtahfcciihkkegaaGreatDoor.Rx
namespace Go.Proofs.YtahfcciihkkegaaGreatDoor.Rx
open Go.RowKit
open Go.Lib (decDigits)
attribute [local irreducible] tv dg cmpI
/-- What Text has written behind digit i. -/
def TS (n i : Nat) (T : List UInt8) : Prop := (i < (td n).length ∧ decDigits n = decDigits (n / 10000 ^ i) ++ T) ∨ (i = (td n).length ∧ T = decDigits n)
theorem TS.start {n : Nat} (h : 0 < (td n).length) : TS n 0 [] := .inl ⟨h, by simp⟩
theorem TS.step {n i : Nat} {T : List UInt8} (h : TS n i T) (hl : i < (td n).length) (hi : i + 1 < (td n).length) : TS n (i + 1) (pad 4 ((td n)[i]'hl) ++ T) := by
 rcases h with ⟨h1, h2⟩ | ⟨h1, h2⟩
 ·refine .inl ⟨hi, ?_⟩
  have hd := (td_step h1).2
  have hq := (td_step hi).1
  have e : n / 10000 ^ i = n / 10000 ^ (i + 1) * 10 ^ 4 + (td n)[i] := by
   rw [hd, Nat.pow_succ, ← Nat.div_div_eq_div_mul]
   show _ = _ * 10000 + _
   omega
  have hlt : (td n)[i] < 10 ^ 4 := td_lt n _ (List.getElem_mem _)
  have := dec_mul_add 4 (n / 10000 ^ (i + 1)) ((td n)[i]) (by omega) hlt
  rw [h2, e, this, List.append_assoc]
 ·omega
theorem TS.last {n i : Nat} {T : List UInt8} (h : TS n i T) (hl : i < (td n).length) (hi : i + 1 = (td n).length) : 0 < (td n)[i]'hl ∧ TS n (i + 1) (decDigits ((td n)[i]'hl) ++ T) := by
 rcases h with ⟨h1, h2⟩ | ⟨h1, h2⟩
 ·have hd := td_step h1
  have h0 : n / 10000 ^ (i + 1) = 0 := td_end (by omega)
  have e : n / 10000 ^ i = (td n)[i] := by
   rw [hd.2]
   rw [Nat.pow_succ, ← Nat.div_div_eq_div_mul] at h0
   omega
  refine ⟨by rw [← e]; omega, .inr ⟨hi, ?_⟩⟩
  rw [h2, e]
 ·omega
theorem TS.len {n i : Nat} {T : List UInt8} (h : TS n i T) : T.length ≤ (decDigits n).length := by
 rcases h with ⟨h1, h2⟩ | ⟨h1, h2⟩
 ·rw [h2, List.length_append]; omega
 ·rw [h2]; exact Nat.le_refl _
end Go.Proofs.YtahfcciihkkegaaGreatDoor.Rx
namespace Go.Proofs.YtahfcciihkkegaaGreatDoor.Rx
open Go.RowKit
attribute [local irreducible] lo hs tv dg cmpI txt decB
end Go.Proofs.YtahfcciihkkegaaGreatDoor.Rx
namespace Go.Proofs.YtahfcciihkkegaaGreatDoor.Rx
open Go.RowKit
attribute [local irreducible] tv dg cmpI txt decB
/-- What is appended, chunk by chunk. -/
structure PS (l : List UInt8) (S : List Nat) (t e : Nat) : Prop where
 len : S.length = t
 lt : ∀ d ∈ S, d < 10000
 pos : e = l.length - 4 * t
 eq : tv S + 10000 ^ t * dval (l.take e) = dval l
theorem PS.step {l : List UInt8} {S : List Nat} {t e : Nat} (h : PS l S t e) (hd : ∀ c ∈ l, isDig c) (he : 0 < e) :
  dval ((l.drop (e - 4)).take (e - (e - 4))) < 10000 ∧ PS l (S ++ [dval ((l.drop (e - 4)).take (e - (e - 4)))]) (t + 1) (e - 4) := by
 have hle : e ≤ l.length := by have := h.pos; omega
 have hch : ((l.drop (e - 4)).take (e - (e - 4))).length = e - (e - 4) := by rw [List.length_take, List.length_drop]; omega
 have hlt : dval ((l.drop (e - 4)).take (e - (e - 4))) < 10000 := by
  have h1 := dval_lt (l := (l.drop (e - 4)).take (e - (e - 4))) fun c hc => hd c (List.mem_of_mem_drop (List.mem_of_mem_take hc))
  rw [hch] at h1
  exact Nat.lt_of_lt_of_le h1 (Nat.le_trans (Nat.pow_le_pow_right (by omega) (show e - (e - 4) ≤ 4 by omega)) (by decide))
 refine ⟨hlt, by rw [List.length_append, h.len]; rfl, fun d hx => ?_, by have := h.pos; omega, ?_⟩
 ·rcases List.mem_append.1 hx with hx | hx
  ·exact h.lt d hx
  ·rw [List.mem_singleton.1 hx]; exact hlt
 ·have e1 : l.take e = l.take (e - 4) ++ (l.drop (e - 4)).take (e - (e - 4)) := by
   have := List.take_add (l := l) (i := e - 4) (j := e - (e - 4))
   rw [show e - 4 + (e - (e - 4)) = e by omega] at this
   exact this
  have e2 := h.eq
  rw [e1, dval_append, hch] at e2
  rw [tv_snoc, h.len, Nat.pow_succ]
  generalize dval ((l.drop (e - 4)).take (e - (e - 4))) = d at *
  rcases Nat.lt_or_ge e 4 with h4 | h4
  ·have h0 : dval (l.take (e - 4)) = 0 := by rw [show e - 4 = 0 by omega, List.take_zero, dval_nil]
   rw [h0, Nat.zero_mul, Nat.zero_add] at e2
   rw [h0, Nat.mul_zero]; omega
  ·rw [show e - (e - 4) = 4 by omega] at e2
   rw [Nat.mul_add, Nat.mul_comm (dval _) (10 ^ 4), ← Nat.mul_assoc, show (10 : Nat) ^ 4 = 10000 by rfl] at e2
   omega
theorem PS.start (l : List UInt8) : PS l [] 0 l.length := ⟨rfl, (fun d hd => by cases hd), by omega, by rw [tv_nil, List.take_length]; simp⟩
end Go.Proofs.YtahfcciihkkegaaGreatDoor.Rx
namespace Go.Proofs.YtahfcciihkkegaaGreatDoor
open Go.RowKit Go.Proofs.YtahfcciihkkegaaGreatDoor.Rx
attribute [local irreducible] lo hs sm s64 c64 d64 b64 mh ml pd pc qd qc val hiB str cmpI srD lz nb isq decB dval
theorem sl_upd {w w' : World} {k : Nat} {c : List Value} {v : Value} {l : List Nat} (h : Sl w v l) (hu : Upd k w w') (hd : Hd w k c) (hc : ∀ v ∈ c, ∀ n, v ≠ .int .i64 n) : Sl w' v l := by
 rcases h with h | ⟨a, c1, h1, h2, h3⟩
 ·exact .inl h
 ·refine .inr ⟨a, c1, h1, h2, fun i hi => ?_, by rw [hu.size]; exact h3.blk⟩
  have hx := h3.cell i hi
  exact (World.cell?_of_block (w := w) (hu.block _ (hd.no_int hc hx))).trans hx
end Go.Proofs.YtahfcciihkkegaaGreatDoor
namespace Go.Proofs.YtahfcciihkkegaaGreatDoor
open Go.RowKit
section
variable {P : Program} {ops : Array Oper} {C : World → Prop}
/-- What an operation does: its value has the property in the world that it leaves. -/
def tyUpon (P : Program) (w : World) (T : Value → World → Prop) : Result Next → Prop
 | .ok (.value u) w' => Below w.heap.size w w' ∧ T u w'
 | .ok .skip w' => Below w.heap.size w w' ∧ T undef w'
 | .ok (.enter f args) w' => w' = w ∧ Calls P f args w (fun e w'' => ∃ u, e = .returned u ∧ T u w'' ∧ Below w.heap.size w w'')
 | _ => False
def TyAt (P : Program) (ops : Array Oper) (o : Oper) (a : Act) (w : World) (T : Value → World → Prop) : Prop :=
 if Region.wanted o (yielded ops a.tmps) then tyUpon P w T ((execOp a.eval o).run P w) else T undef w
theorem tyAt_none {o : Oper} {a : Act} {w : World} {T : Value → World → Prop} (hg : o.guard = none) (h : tyUpon P w T ((execOp a.eval o).run P w)) : TyAt P ops o a w T := by
 unfold TyAt
 rw [if_pos (by unfold Region.wanted; rw [hg])]
 exact h
/-- A call whose contract gives the property. -/
theorem ty_call {o : Oper} {a : Act} {w : World} {T : Value → World → Prop} {f : FuncId} {args : Array Value} (hr : (execOp a.eval o).run P w = .ok (.enter f args) w) (h : Calls P f args w fun e w'' => ∃ u, e = .returned u ∧ T u w'' ∧ Below w.heap.size w w'') : tyUpon P w T ((execOp a.eval o).run P w) := by
 rw [hr]; exact ⟨rfl, h⟩
/-- The frame with the values of the operations that have come up. -/
def putsIf : List Oper → Nat → (Nat → Bool) → (Nat → Value) → Act → Act
 | [], _, _, _, a => a
 | o :: l, k, b, v, a => putsIf l (k + 1) b v (if b k then a.put o.dst (v k) else a)
def putsV : List Oper → Nat → (Nat → Value) → Act → Act
 | [], _, _, a => a
 | o :: l, k, v, a => putsV l (k + 1) v (a.put o.dst (v k))
theorem putsIf_all {v : Nat → Value} {b : Nat → Bool} : ∀ (l : List Oper) (k : Nat) (a : Act), (∀ i, k ≤ i → i < k + l.length → b i = true) → putsIf l k b v a = putsV l k v a
 | [], _, _, _ => rfl
 | o :: l, k, a, h => by
  rw [putsIf, putsV, if_pos (h k (Nat.le_refl k) (by rw [List.length_cons]; omega))]
  exact putsIf_all l (k + 1) _ fun i h1 h2 => h i (by omega) (by rw [List.length_cons]; omega)
theorem putsIf_none {v : Nat → Value} {b : Nat → Bool} : ∀ (l : List Oper) (k : Nat) (a : Act), (∀ i, k ≤ i → i < k + l.length → b i = false) → putsIf l k b v a = a
 | [], _, _, _ => rfl
 | o :: l, k, a, h => by
  rw [putsIf, if_neg (by rw [h k (Nat.le_refl k) (by rw [List.length_cons]; omega)]; exact Bool.false_ne_true)]
  exact putsIf_none l (k + 1) _ fun i h1 h2 => h i (by omega) (by rw [List.length_cons]; omega)
theorem putsIf_congr {v v' : Nat → Value} {b b' : Nat → Bool} : ∀ (l : List Oper) (k : Nat) (a : Act), (∀ i, k ≤ i → i < k + l.length → b i = b' i ∧ (b i = true → v i = v' i)) → putsIf l k b v a = putsIf l k b' v' a
 | [], _, _, _ => rfl
 | o :: l, k, a, h => by
  obtain ⟨h1, h2⟩ := h k (Nat.le_refl k) (by rw [List.length_cons]; omega)
  rw [putsIf, putsIf]
  have e : (if b k = true then a.put o.dst (v k) else a) = (if b' k = true then a.put o.dst (v' k) else a) := by
   rw [← h1]
   by_cases hb : b k = true
   ·rw [if_pos hb, if_pos hb, h2 hb]
   ·rw [if_neg hb, if_neg hb]
  rw [e]
  exact putsIf_congr l (k + 1) _ fun i h1 h2 => h i (by omega) (by rw [List.length_cons]; omega)
/-- No two of them write one slot. -/
def apartD (d : Option Tmp) (l : List Oper) : Bool := l.all fun o => match d, o.dst with
 | some x, some y => !(x == y)
 | _, _ => true
def nodupD : List Oper → Bool
 | [] => true
 | o :: l => apartD o.dst l && nodupD l
theorem apartD_spec {d : Option Tmp} {l : List Oper} (h : apartD d l = true) {o : Oper} (ho : o ∈ l) {x : Tmp} (hx : d = some x) : o.dst ≠ some x := by
 intro e
 have := (List.all_eq_true.1 h) o ho
 subst hx
 simp only [e] at this
 simp at this
theorem put_late {v : Nat → Value} {b : Nat → Bool} {d : Option Tmp} {u : Value} : ∀ (l : List Oper) (k : Nat) (a : Act), apartD d l = true → putsIf l k b v (a.put d u) = (putsIf l k b v a).put d u
 | [], _, _, _ => rfl
 | o :: l, k, a, h => by
  have h0 := h
  simp only [apartD, List.all_cons, Bool.and_eq_true] at h
  rw [putsIf, putsIf]
  by_cases hb : b k = true
  ·rw [if_pos hb, if_pos hb]
   have : (a.put d u).put o.dst (v k) = (a.put o.dst (v k)).put d u := by
    cases d with
    | none => rfl
    | some x =>
     cases ho : o.dst with
     | none => rfl
     | some y =>
      have hne : y ≠ x := fun e => apartD_spec h0 List.mem_cons_self rfl (by rw [ho, e])
      exact Act.put_comm a u (v k) (fun d hd e => hne (Option.some.inj (e.trans hd.symm)))
   rw [this]
   exact put_late l (k + 1) _ h.2
  ·rw [if_neg hb, if_neg hb]; exact put_late l (k + 1) _ h.2
theorem put_at {v v' : Nat → Value} {b b' : Nat → Bool} {j : Nat} {u : Value} (hb : b j = false) (hb' : b' j = true) (hv : v' j = u) (hbb : ∀ i, i ≠ j → b' i = b i ∧ v' i = v i) :
  ∀ (l : List Oper) (k : Nat) (a : Act) (o : Oper), nodupD l = true → k ≤ j → l[j - k]? = some o → (putsIf l k b v a).put o.dst u = putsIf l k b' v' a
 | [], _, _, _, _, _, h => by simp at h
 | o1 :: l, k, a, o, hn, hk, h => by
  simp only [nodupD, Bool.and_eq_true] at hn
  rw [putsIf, putsIf]
  by_cases e : j = k
  ·subst e
   simp only [Nat.sub_self, List.getElem?_cons_zero, Option.some.injEq] at h
   subst h
   rw [if_neg (by rw [hb]; exact Bool.false_ne_true), if_pos hb', hv, ← put_late l (j + 1) a hn.1]
   exact putsIf_congr l (j + 1) _ fun i h1 h2 => ⟨(hbb i (by omega)).1.symm, fun _ => (hbb i (by omega)).2.symm⟩
  ·have hk' : k + 1 ≤ j := by omega
   rw [show j - k = (j - (k + 1)) + 1 by omega, List.getElem?_cons_succ] at h
   obtain ⟨h1, h2⟩ := hbb k (fun e' => e e'.symm)
   rw [h1, h2]
   exact put_at hb hb' hv hbb l (k + 1) _ o hn.2 hk' h
theorem put_get (a : Act) (d : Option Tmp) (u : Value) (t : Nat) : (a.put d u).tmps[t]? = if d = some t then (if t < a.tmps.size then some u else none) else a.tmps[t]? := by
 cases d with
 | none => simp [Act.put]
 | some x =>
  simp only [Act.put, Array.getElem?_setIfInBounds, Option.some.injEq]
  by_cases h : x = t
  ·subst h; simp
  ·simp [h]
theorem get_puts {v : Nat → Value} {b : Nat → Bool} {t : Nat} : ∀ (l : List Oper) (k : Nat) (a a' : Act), a.tmps[t]? = a'.tmps[t]? → (∀ i o, l[i]? = some o → o.dst = some t → b (k + i) = true) → (putsIf l k b v a).tmps[t]? = (putsV l k v a').tmps[t]?
 | [], _, _, _, h, _ => h
 | o :: l, k, a, a', h, hd => by
  rw [putsIf, putsV]
  refine get_puts l (k + 1) _ _ ?_ fun i o' ho' hd' => by have := hd (i + 1) o' (by simpa using ho') hd'; rwa [show k + (i + 1) = k + 1 + i by omega] at this
  have hsz : t < a.tmps.size ↔ t < a'.tmps.size := by
   constructor <;> intro h1
   ·rw [Array.getElem?_eq_getElem h1] at h; exact (Array.getElem?_eq_some_iff.1 h.symm).1
   ·rw [Array.getElem?_eq_getElem h1] at h; exact (Array.getElem?_eq_some_iff.1 h).1
  by_cases e : o.dst = some t
  ·have hb := hd 0 o (by simp) e
   rw [Nat.add_zero] at hb
   rw [if_pos hb, put_get, put_get, if_pos e, if_pos e]
   by_cases h2 : t < a.tmps.size
   ·rw [if_pos h2, if_pos (hsz.1 h2)]
   ·rw [if_neg h2, if_neg fun h3 => h2 (hsz.2 h3)]
  ·by_cases hb : b k = true
   ·rw [if_pos hb, put_get, put_get, if_neg e, if_neg e]; exact h
   ·rw [if_neg hb, put_get, if_neg e]; exact h
theorem wanted_same {a a' : Act} {o : Oper} (h : ∀ t ∈ o.looksAt ops, a.tmps[t]? = a'.tmps[t]?) : Region.wanted o (yielded ops a.tmps) = Region.wanted o (yielded ops a'.tmps) := by
 unfold Region.wanted
 cases hg : o.guard with
 | none => rfl
 | some gw =>
  obtain ⟨gg, want⟩ := gw
  have hy : yielded ops a.tmps gg = yielded ops a'.tmps gg := by
   unfold yielded
   cases ht : (ops[gg]?).bind (·.dst) with
   | none => rfl
   | some t =>
    have := h t (List.mem_append_right _ (by simp [hg, ht]))
    simp [this]
  simp only [hy]
theorem exec_same {a a' : Act} {o : Oper} (hs : ∀ cs b, o.op ≠ .select cs b) (h : ∀ t ∈ o.looksAt ops, a.tmps[t]? = a'.tmps[t]?) : execOp a.eval o = execOp a'.eval o :=
 execOp_congr o hs fun x hx => by
  cases x with
  | tmp t =>
   have ht : t ∈ o.looksAt ops := List.mem_append_left _ (List.mem_filterMap.2 ⟨_, by simpa using hx, rfl⟩)
   simp only [Act.eval, Array.getD_eq_getD_getElem?, h t ht]
  | _ => rfl
/-- Each of the first n waits for earlier ones alone, and for each of them that writes a slot that it looks at. -/
def depB (ops : Array Oper) (n : Nat) : Bool :=
 (List.range n).all fun j => (predsOf .any ops j).all (fun i => decide (i < j)) && match ops[j]? with
  | some o => (o.looksAt ops).all fun t => (List.range n).all fun i => match (ops[i]?).bind (·.dst) with
    | some d => !(d == t) || (predsOf .any ops j).contains i
    | none => true
  | none => true
theorem depB_pred {n j i : Nat} (h : depB ops n = true) (hj : j < n) (hi : i ∈ predsOf .any ops j) : i < j := by
 simp only [depB, List.all_eq_true, List.mem_range, Bool.and_eq_true, decide_eq_true_eq] at h
 exact (h j hj).1 i hi
theorem depB_looks {n j i : Nat} (h : depB ops n = true) (hj : j < n) (hi : i < n) {o o' : Oper} (ho : ops[j]? = some o) (ho' : ops[i]? = some o') {t : Tmp} (ht : t ∈ o.looksAt ops) (hd : o'.dst = some t) : i ∈ predsOf .any ops j := by
 simp only [depB, List.all_eq_true, List.mem_range, Bool.and_eq_true, decide_eq_true_eq] at h
 have h1 := (h j hj).2
 rw [ho] at h1
 simp only [List.all_eq_true, List.mem_range] at h1
 have h2 := h1 t ht i hi
 rw [ho'] at h2
 simp only [Option.bind_some, hd, beq_self_eq_true, Bool.not_true, Bool.false_or] at h2
 exact List.contains_iff_mem.1 h2
/-- A property that later worlds keep. -/
def Stays (T : Value → World → Prop) : Prop := ∀ v w w', Below w.heap.size w w' → T v w → T v w'
/-- How many of the first n have not come up. -/
def left (n : Nat) (listed : Array Bool) : Nat := (List.range n).countP fun i => !listed.getD i false
theorem left_zero {n : Nat} {listed : Array Bool} (h : left n listed = 0) : doneN n listed = true := by
 refine doneN_iff.2 fun i hi => ?_
 have := (List.countP_eq_zero.1 h) i (List.mem_range.2 hi)
 simpa using this
theorem left_some {n m : Nat} {listed : Array Bool} (h : left n listed = m + 1) : doneN n listed = false := by
 refine Bool.eq_false_iff.2 fun hd => ?_
 have : left n listed = 0 := List.countP_eq_zero.2 fun i hi => by simp [doneN_iff.1 hd i (List.mem_range.1 hi)]
 omega
theorem countP_drop {p q : Nat → Bool} {j : Nat} (hpq : ∀ i, i ≠ j → q i = p i) (hp : p j = true) (hq : q j = false) : ∀ (r : List Nat), r.Nodup → j ∈ r → r.countP p = r.countP q + 1
 | [], _, h => by cases h
 | x :: r, hn, h => by
  rw [List.nodup_cons] at hn
  rcases List.mem_cons.1 h with rfl | h
  ·rw [List.countP_cons_of_pos hp, List.countP_cons_of_neg (by rw [hq]; exact Bool.false_ne_true)]
   congr 1
   refine List.countP_congr fun i hi => ?_
   rw [hpq i (fun e => hn.1 (e ▸ hi))]
  ·have hx : x ≠ j := fun e => hn.1 (e ▸ h)
   have ih := countP_drop hpq hp hq r hn.2 h
   by_cases hpx : p x = true
   ·rw [List.countP_cons_of_pos hpx, List.countP_cons_of_pos (by rw [hpq x hx]; exact hpx), ih]
   ·rw [List.countP_cons_of_neg hpx, List.countP_cons_of_neg (by rw [hpq x hx]; exact hpx), ih]
theorem left_set {n j m : Nat} {listed : Array Bool} (hs : listed.size = ops.size) (hj : j < n) (hjs : j < ops.size) (hu : listed.getD j false = false) (h : left n listed = m + 1) : left n (listed.setIfInBounds j true) = m := by
 have := countP_drop (p := fun i => !listed.getD i false) (q := fun i => !(listed.setIfInBounds j true).getD i false) (j := j) (fun i hi => by simp only [getD_set_ne false (fun e => hi e.symm)]) (by simp [hu]) (by simp [hs, hjs]) (List.range n) List.nodup_range (List.mem_range.2 hj)
 unfold left at h ⊢
 omega
theorem ready_some {n m : Nat} {listed : Array Bool} (hs : listed.size = ops.size) (hn : n ≤ ops.size) (hD : depB ops n = true) (h : left n listed = m + 1) : Region.ready .any ops listed ≠ [] := by
  have hnd := left_some h
  have ex : ∃ i, i < n ∧ listed.getD i false = false := Classical.byContradiction fun hc => by
    have : doneN n listed = true := doneN_iff.2 fun i hi => by
      cases hv : listed.getD i false with
      | true => rfl
      | false => exact absurd ⟨i, hi, hv⟩ hc
    rw [this] at hnd; cases hnd
  have key : ∀ k i, i ≤ k → i < n → listed.getD i false = false → ∃ i, i ∈ Region.ready .any ops listed := by
    intro k
    induction k with
    | zero =>
      intro i hi h1 h2
      obtain rfl : i = 0 := by omega
      have ho : 0 < ops.size := by omega
      refine ⟨0, mem_ready.2 ⟨by have h3 : 0 < listed.size := by omega
                                 simpa [h3] using h2, ops[0], Array.getElem?_eq_getElem ho, fun e he hb => ?_⟩⟩
      have : e.on ∈ predsOf .any ops 0 := by
        unfold predsOf; rw [Array.getElem?_eq_getElem ho]
        exact List.mem_map.2 ⟨e, List.mem_filter.2 ⟨by simpa using he, hb⟩, rfl⟩
      have := depB_pred hD h1 this
      omega
    | succ k ih =>
      intro i hi h1 h2
      have ho : i < ops.size := by omega
      by_cases hall : ∀ p ∈ predsOf .any ops i, listed.getD p false = true
      · refine ⟨i, mem_ready.2 ⟨by have h3 : i < listed.size := by omega
                                   simpa [h3] using h2, ops[i], Array.getElem?_eq_getElem ho, fun e he hb => hall _ ?_⟩⟩
        unfold predsOf; rw [Array.getElem?_eq_getElem ho]
        exact List.mem_map.2 ⟨e, List.mem_filter.2 ⟨by simpa using he, hb⟩, rfl⟩
      · have : ∃ p, p ∈ predsOf .any ops i ∧ listed.getD p false = false := Classical.byContradiction fun hc => hall fun p hp => by
          cases hv : listed.getD p false with
          | true => rfl
          | false => exact absurd ⟨p, hp, hv⟩ hc
        obtain ⟨p, hp, hv⟩ := this
        have := depB_pred hD h1 hp
        exact ih p (by omega) (by omega) hv
  obtain ⟨i, h1, h2⟩ := ex
  obtain ⟨i, hi⟩ := key i i (Nat.le_refl _) h1 h2
  exact List.ne_nil_of_mem hi
theorem preds_of_ready {j : Nat} {listed : Array Bool} (hj : j ∈ Region.ready .any ops listed) : ∀ p ∈ predsOf .any ops j, listed.getD p false = true := by
 obtain ⟨-, o, ho, hall⟩ := mem_ready.1 hj
 intro p hp
 unfold predsOf at hp
 simp only [ho, List.mem_map, List.mem_filter] at hp
 obtain ⟨e, ⟨he, hb⟩, rfl⟩ := hp
 exact hall e (by simpa using he) hb
theorem wpAny_ty {n s : Nat} {l : List Oper} {T : Nat → Value → World → Prop} {w0 : World} {a0 : Act} {Q : Exit → Act → World → Prop} (hT : ∀ i, Stays (T i)) (hsel : Region.noSelect l.toArray = true) (hn : n ≤ l.length)
  (hB : barB .any l.toArray n = true) (hN : nodupD (l.take n) = true) (hD : depB l.toArray n = true)
  (hops : ∀ j o, j < n → l[j]? = some o → ∀ v w, Below w0.heap.size w0 w → (∀ p ∈ predsOf .any l.toArray j, T p (v p) w) → TyAt P l.toArray o (putsV (l.take n) 0 v a0) w (T j))
  (hend : ∀ v w, Below w0.heap.size w0 w → (∀ i, i < n → T i (v i) w) → wpAny P .any l.toArray Q s (canonL l.length n) (putsV (l.take n) 0 v a0) w) :
  ∀ (m : Nat) (listed : Array Bool) (v : Nat → Value) (w : World), left n listed = m → closedL .any l.toArray listed → sufL n l.toArray listed → Below w0.heap.size w0 w →
   (∀ i, i < n → listed.getD i false = true → T i (v i) w) → wpAny P .any l.toArray Q (s + m) listed (putsIf (l.take n) 0 (fun i => listed.getD i false) v a0) w := by
 intro m
 have hlen : (l.take n).length = n := by rw [List.length_take]; omega
 induction m with
 | zero =>
  intro listed v w hl hc hu hb ht
  have hd := left_zero hl
  rw [putsIf_all (l.take n) 0 a0 fun i _ h2 => doneN_iff.1 hd i (by omega)]
  have e := canon_of hu hd
  rw [show l.toArray.size = l.length by simp] at e
  rw [e]
  exact hend v w hb fun i hi => ht i hi (doneN_iff.1 hd i hi)
 | succ m ih =>
  intro listed v w hl hc hu hb ht
  have hnd := left_some hl
  refine ⟨fun h0 => absurd h0 (ready_some hu.1 (by simpa using hn) hD hl), fun j hj => ?_⟩
  have hjn := bar hB hc hj hnd
  obtain ⟨hju, o, ho, -⟩ := mem_ready.1 hj
  have hpre := preds_of_ready hj
  have hol : l[j]? = some o := by simpa using ho
  have hjs : j < l.toArray.size := (Array.getElem?_eq_some_iff.1 ho).1
  have hty := hops j o hjn hol v w hb fun p hp => ht p (by have := depB_pred hD hjn hp; omega) (hpre p hp)
  have hag : ∀ t ∈ o.looksAt l.toArray, (putsIf (l.take n) 0 (fun i => listed.getD i false) v a0).tmps[t]? = (putsV (l.take n) 0 v a0).tmps[t]? := fun t ht' =>
   get_puts (l.take n) 0 a0 a0 rfl fun i o' ho' hd' => by
    have hin : i < n := by rw [← hlen]; exact (List.getElem?_eq_some_iff.1 ho').1
    have ho2 : l.toArray[i]? = some o' := by rw [List.getElem?_take, if_pos hin] at ho'; simpa using ho'
    rw [Nat.zero_add]
    exact hpre i (depB_looks hD hjn hin ho ho2 ht' hd')
  have step : ∀ u w', Below w.heap.size w w' → T j u w' → wpAny P .any l.toArray Q (s + m) (listed.setIfInBounds j true) ((putsIf (l.take n) 0 (fun i => listed.getD i false) v a0).put o.dst u) w' := by
   intro u w' hw' hu'
   have e := put_at (v := v) (v' := fun i => if i = j then u else v i) (b := fun i => listed.getD i false) (b' := fun i => (listed.setIfInBounds j true).getD i false) (j := j) (u := u) (unl hju) (by simp [hu.1]; simpa using hjs) (by simp)
    (fun i hi => ⟨getD_set_ne false fun e => hi e.symm, by simp [hi]⟩) (l.take n) 0 a0 o hN (Nat.zero_le _) (by rw [Nat.sub_zero, List.getElem?_take, if_pos hjn]; exact hol)
   rw [e]
   refine ih _ _ w' (left_set (ops := l.toArray) hu.1 hjn hjs (unl hju) hl) (hc.set hj) ⟨by simpa using hu.1, fun k hk hks => by rw [getD_set_ne true (by omega)]; exact hu.2 k hk hks⟩ (hb.trans (hw'.mono hb.size)) fun i hi hli => ?_
   by_cases e : i = j
   ·subst e; simpa using hu'
   ·rw [getD_set_ne false fun e' => e e'.symm] at hli
    simp only [if_neg e]
    exact hT i _ _ _ hw' (ht i hi hli)
  unfold wpOp
  simp only [ho]
  unfold TyAt at hty
  rw [← wanted_same hag] at hty
  by_cases hw : Region.wanted o (yielded l.toArray (putsIf (l.take n) 0 (fun i => listed.getD i false) v a0).tmps) = true
  ·simp only [hw, if_true] at hty ⊢
   refine .inl ?_
   unfold Oper.wp
   rw [exec_same (fun cs b => Region.noSelect_spec hsel j o cs b ho) hag]
   generalize (execOp (putsV (l.take n) 0 v a0).eval o).run P w = r at *
   cases r with
   | ok nx w' =>
    cases nx <;> simp only [tyUpon] at hty <;> simp only [Oper.upon]
    case value u => exact step u w' hty.1 hty.2
    case skip => exact step undef w' hty.1 hty.2
    case enter f args =>
     obtain ⟨rfl, hcall⟩ := hty
     exact hcall.mono fun e w'' ⟨u, he, h1, h2⟩ => by subst he; exact step u w'' h2 h1
   | halt x w' => simp only [tyUpon] at hty
  ·simp only [hw] at hty ⊢
   exact step undef w (Below.refl _ _) hty
def tyB (n : Nat) (l : List Oper) : Bool :=
 Region.noSelect l.toArray && decide (n ≤ l.length) && barB .any l.toArray n && nodupD (l.take n) && depB l.toArray n && seqB .any l.toArray (l.length - n) n (canonL l.length n)
/-- **A region whose first n operations each give a value of a property; then the others, in their order.** -/
theorem region_ty (n : Nat) (T : Nat → Value → World → Prop) {id : Nat} {Q : Exit → Act → World → Prop} {a : Act} {w : World} {l : List Oper} (hm : P.follows .mixedOrders = true) (hB : tyB n l = true) (hT : ∀ i, Stays (T i))
  (hops : ∀ j o, j < n → l[j]? = some o → ∀ v w1, Below w.drew.heap.size w.drew w1 → (∀ p ∈ predsOf .any l.toArray j, T p (v p) w1) → TyAt P l.toArray o (putsV (l.take n) 0 v a) w1 (T j))
  (hend : ∀ v w1, Below w.drew.heap.size w.drew w1 → (∀ i, i < n → T i (v i) w1) → wpList P l.toArray Q (l.drop n) (putsV (l.take n) 0 v a) w1) : (Code.region id l.toArray true).wp P Q a w := by
 simp only [tyB, Bool.and_eq_true, decide_eq_true_eq] at hB
 obtain ⟨⟨⟨⟨⟨hs, hn⟩, hb⟩, hN⟩, hD⟩, hq⟩ := hB
 refine wp_region_any hm ?_
 have hrep : ∀ i, (Array.replicate l.length false).getD i false = false := fun i => by
  rcases Nat.lt_or_ge i l.length with h' | h' <;> simp [h']
 have h0 : closedL .any l.toArray (Array.replicate l.length false) := fun j o _ hl => by rw [hrep] at hl; cases hl
 have hleft : left n (Array.replicate l.length false) = n := by
  unfold left
  rw [List.countP_eq_length.2 fun i _ => by rw [hrep]; rfl, List.length_range]
 have h2 := wpAny_ty (P := P) (s := l.length - n) (Q := Q) (a0 := a) hT hs hn hb hN hD hops (fun v w1 h1 h2 => by
   have h3 := wpAny_of_seq (md := .any) (P := P) (Q' := Q) (l.drop n) n (canonL l.length n) (putsV (l.take n) 0 v a) w1 (fun j hj => by simp [List.getElem?_drop]) (by rw [List.length_drop]; exact hq) (hend v w1 h1 h2)
   rw [List.length_drop] at h3
   exact h3) n (Array.replicate l.length false) (fun _ => undef) w.drew hleft h0 ⟨by simp, fun j _ hj => by simp at hj; simp [hj]⟩ (Below.refl _ _) (fun i _ hl => by rw [hrep] at hl; cases hl)
 rw [putsIf_none (l.take n) 0 a fun i _ _ => hrep i, Nat.sub_add_cancel hn] at h2
 simpa using h2
theorem stays_nil : ∀ i : Nat, Stays (([] : List (Value → World → Prop)).getD i (fun _ _ => True)) := fun i => by simp [Stays]
theorem stays_cons {T : Value → World → Prop} {L : List (Value → World → Prop)} (h : Stays T) (hL : ∀ i : Nat, Stays (L.getD i (fun _ _ => True))) : ∀ i : Nat, Stays ((T :: L).getD i (fun _ _ => True))
 | 0 => h
 | i + 1 => by simpa using hL i
theorem stays_eq (c : Value) : Stays (fun u _ => u = c) := fun _ _ _ _ h => h
/-- The operations, one obligation each. -/
def hopsR (P : Program) (ops : Array Oper) (T : Nat → Value → World → Prop) (w0 : World) (F : (Nat → Value) → Act) : List Oper → Nat → Prop
 | [], _ => True
 | o :: l, k => (∀ v w1, Below w0.heap.size w0 w1 → (∀ p ∈ predsOf .any ops k, T p (v p) w1) → TyAt P ops o (F v) w1 (T k)) ∧ hopsR P ops T w0 F l (k + 1)
theorem hops_of {T : Nat → Value → World → Prop} {w0 : World} {F : (Nat → Value) → Act} : ∀ (l : List Oper) (k : Nat), hopsR P ops T w0 F l k → ∀ j o, l[j]? = some o → ∀ v w1, Below w0.heap.size w0 w1 → (∀ p ∈ predsOf .any ops (k + j), T p (v p) w1) → TyAt P ops o (F v) w1 (T (k + j))
 | [], _, _, j, o, h => by simp at h
 | o' :: l, k, hh, 0, o, h => by
  simp only [List.getElem?_cons_zero, Option.some.injEq] at h
  subst h; exact hh.1
 | o' :: l, k, hh, j + 1, o, h => by
  have := hops_of l (k + 1) hh.2 j o (by simpa using h)
  rwa [show k + 1 + j = k + (j + 1) by omega] at this
/-- region_ty, with its properties as a list. -/
theorem region_tl (n : Nat) (L : List (Value → World → Prop)) {id : Nat} {Q : Exit → Act → World → Prop} {a : Act} {w : World} {l : List Oper} (hm : P.follows .mixedOrders = true) (hB : tyB n l = true) (hT : ∀ i, Stays (L.getD i (fun _ _ => True)))
  (hops : hopsR P l.toArray (fun i => L.getD i (fun _ _ => True)) w.drew (fun v => putsV (l.take n) 0 v a) (l.take n) 0)
  (hend : ∀ v w1, Below w.drew.heap.size w.drew w1 → (∀ i, i < n → L.getD i (fun _ _ => True) (v i) w1) → wpList P l.toArray Q (l.drop n) (putsV (l.take n) 0 v a) w1) : (Code.region id l.toArray true).wp P Q a w :=
 region_ty n (fun i => L.getD i (fun _ _ => True)) hm hB hT (fun j o hj ho v w1 hb hp => by
  have := hops_of (l.take n) 0 hops j o (by rw [List.getElem?_take, if_pos hj]; exact ho) v w1 hb (by rw [Nat.zero_add]; exact hp)
  rwa [Nat.zero_add] at this) hend
end
end Go.Proofs.YtahfcciihkkegaaGreatDoor
namespace Go.Proofs.YtahfcciihkkegaaGreatDoor
open Go.RowKit Go.Proofs.YtahfcciihkkegaaGreatDoor.Rx
/-- A struct of the reference that stands for an integer. -/
def RZ (w : World) (v : Value) (z : Int) : Prop := ∃ u, v = .agg #[.bool (decide (z < 0)), u] ∧ Rn w u z.natAbs
theorem RZ.below {w w' : World} {v : Value} {z : Int} (h : RZ w v z) (hb : Below w.heap.size w w') : RZ w' v z := by
 obtain ⟨u, h1, h2⟩ := h
 exact ⟨u, h1, Sl.below h2 hb⟩
theorem RZ.of {w : World} {b : Bool} {u : Value} {n : Nat} {z : Int} (h : Rn w u n) (hb : b = decide (z < 0)) (hn : n = z.natAbs) : RZ w (.agg #[.bool b, u]) z := ⟨u, by rw [hb], by rw [← hn]; exact h⟩
end Go.Proofs.YtahfcciihkkegaaGreatDoor
namespace Go.Proofs.YtahfcciihkkegaaGreatDoor
open Go.RowKit Go.Proofs.YtahfcciihkkegaaGreatDoor.Rx
/-- The slices of digits that a call has got hold of. -/
def SS (W : World) (S : List (Value × Nat)) : Prop := ∀ p ∈ S, Rn W p.1 p.2
theorem SS.nil (W : World) : SS W [] := fun p hp => by cases hp
theorem SS.call {W W' : World} {S : List (Value × Nat)} (h : SS W S) (hb : Below W.heap.size W W') : SS W' S := fun p hp => Sl.below (h p hp) hb
theorem SS.new {W : World} {S : List (Value × Nat)} (h : SS W S) (o : Obj) : SS (W.alloc o) S := h.call ((Below.refl _ _).alloc (Nat.le_refl _) o)
theorem SS.cons {W : World} {S : List (Value × Nat)} (h : SS W S) {v : Value} {n : Nat} (hv : Rn W v n) : SS W ((v, n) :: S) := fun p hp => by
 rcases List.mem_cons.1 hp with rfl | hp
 ·exact hv
 ·exact h p hp
theorem SS.put {W W' : World} {S : List (Value × Nat)} (h : SS W S) {k : Nat} {c : List Value} (hu : Upd k W W') (hd : Hd W k c) (hc : ∀ v ∈ c, ∀ n, v ≠ .int .i64 n) : SS W' S := fun p hp => sl_upd (h p hp) hu hd hc
theorem SS.drew {W : World} {S : List (Value × Nat)} (h : SS W S) : SS W.drew S := fun p hp => Sl.drew (h p hp)
theorem SS.get {W : World} {S : List (Value × Nat)} (h : SS W S) {v : Value} {n : Nat} (hm : (v, n) ∈ S) : Rn W v n := h _ hm
theorem tyAt_yes {P : Program} {ops : Array Oper} {o : Oper} {a : Act} {w : World} {T : Value → World → Prop} (hg : Region.wanted o (yielded ops a.tmps) = true) (h : tyUpon P w T ((execOp a.eval o).run P w)) : TyAt P ops o a w T := by
 unfold TyAt
 rw [if_pos hg]; exact h
theorem tyAt_no {P : Program} {ops : Array Oper} {o : Oper} {a : Act} {w : World} {T : Value → World → Prop} (hg : Region.wanted o (yielded ops a.tmps) = false) (h : T undef w) : TyAt P ops o a w T := by
 unfold TyAt
 rw [hg]; exact h
/-- A typed region's properties, in short. -/
abbrev EV (v : Value) : Value → World → Prop := fun u _ => u = v
theorem LC {l : List Nat} {a : Nat} (h : l.contains a = true) : a ∈ l := List.contains_iff_mem.1 h
end Go.Proofs.YtahfcciihkkegaaGreatDoor
namespace Go.Proofs.YtahfcciihkkegaaGreatDoor
open Go.RowKit
attribute [local irreducible] lo hs sm s64 c64 d64 b64 mh ml pd pc qd qc val hiB str cmpI srD lz nb isq decB zl zh zs fe
set_option maxHeartbeats 4000000 in
set_option maxRecDepth 100000 in
theorem dbetween_big0 (sx : Bool) (ax qx : Option Addr) (nx cx mx dx : Nat) (p8 : Int) (KT : World → Prop) (hKT : Keeps KT) (HW : ∀ w, KT w → Calls Tryz.prog 11 #[] w fun xe w' => xe = .returned (.bool true) ∧ Below w.heap.size w w') (l0 : decide ((6 : Int) < ((nx : Nat) : Int)) = true) (k0 : decide (6 < nx) = true) (w : World) (kKT : KT w) :
  Calls Tryz.prog 6 #[.agg #[.bool sx, .slice ax nx cx, .slice qx mx dx], .int .u8 p8] w fun xe w' => xe = .returned (.bool true) ∧ Below w.heap.size w w' := by
 have hL0 : GL w w [] := GL.start w
 replace hKT := Lib.hid hKT
 replace HW := Lib.hid HW
 replace hL0 := (hL0.new rfl [.bool sx, .slice ax nx cx, .slice qx mx dx] 26)
 generalize hweq : (w.alloc (.cells #[.bool sx, .slice ax nx cx, .slice qx mx dx] 26)) = x1 at hL0
 go_enter Tryz.func6, Tryz.ntmps6
 have hN0 := cells_of _ 0 [] rfl (hL0.get _ _ List.mem_cons_self)
 simp only [cellsF, and_true, Nat.zero_add, Nat.reduceAdd] at hN0
 go_wp2_with fail
 clear hN0
 with_reducible refine Calls.mono (HW.out _ (hKT.out.at hL0.bl kKT)) ?_
 rintro e x2 ⟨rfl, hb⟩
 replace hL0 := hL0.call hb
 clear hb hweq
 go_wp2_with fail
 exact bodyPost_ret (v := .bool true) (by simp [results, Tryz.results6, go_sem]) rfl ⟨rfl, hL0.bl⟩
set_option maxHeartbeats 4000000 in
set_option maxRecDepth 100000 in
theorem dbetween_big1 (sx : Bool) (ax qx : Option Addr) (nx cx mx dx : Nat) (p8 : Int) (KT : World → Prop) (hKT : Keeps KT) (HW : ∀ w, KT w → Calls Tryz.prog 11 #[] w fun xe w' => xe = .returned (.bool true) ∧ Below w.heap.size w w') (l0 : decide ((6 : Int) < ((nx : Nat) : Int)) = false) (k0 : decide (6 < nx) = false) (l1 : decide ((6 : Int) < ((mx : Nat) : Int)) = true) (k1 : decide (6 < mx) = true) (w : World) (kKT : KT w) :
  Calls Tryz.prog 6 #[.agg #[.bool sx, .slice ax nx cx, .slice qx mx dx], .int .u8 p8] w fun xe w' => xe = .returned (.bool true) ∧ Below w.heap.size w w' := by
 have hL0 : GL w w [] := GL.start w
 replace hKT := Lib.hid hKT
 replace HW := Lib.hid HW
 replace hL0 := (hL0.new rfl [.bool sx, .slice ax nx cx, .slice qx mx dx] 26)
 generalize hweq : (w.alloc (.cells #[.bool sx, .slice ax nx cx, .slice qx mx dx] 26)) = x1 at hL0
 go_enter Tryz.func6, Tryz.ntmps6
 have hN0 := cells_of _ 0 [] rfl (hL0.get _ _ List.mem_cons_self)
 simp only [cellsF, and_true, Nat.zero_add, Nat.reduceAdd] at hN0
 go_wp2_with fail
 clear hN0
 with_reducible refine Calls.mono (HW.out _ (hKT.out.at hL0.bl kKT)) ?_
 rintro e x2 ⟨rfl, hb⟩
 replace hL0 := hL0.call hb
 clear hb hweq
 go_wp2_with fail
 exact bodyPost_ret (v := .bool true) (by simp [results, Tryz.results6, go_sem]) rfl ⟨rfl, hL0.bl⟩
end Go.Proofs.YtahfcciihkkegaaGreatDoor
namespace Go.Proofs.YtahfcciihkkegaaGreatDoor
open Go.RowKit
attribute [local irreducible] lo hs sm s64 c64 d64 b64 mh ml pd pc qd qc val hiB str cmpI srD lz nb isq decB zl zh zs fe
set_option maxHeartbeats 4000000 in
set_option maxRecDepth 100000 in
theorem dbetween_same (sx : Bool) (ax qx : Option Addr) (nx cx mx dx : Nat) (p8 n i1 k3 : Int) (q st lw y1 wh tw dd ab aw s2 tt : Rat) (Kx : World → Prop) (hKx : Keeps Kx) (GX : ∀ w, Kx w → Calls Tryz.prog 13 #[.agg #[.bool sx, .slice ax nx cx, .slice qx mx dx]] w fun xe w' => xe = .returned (fracV q) ∧ Below w.heap.size w w') (HP : ∀ w, Calls Tryz.prog 25 #[.int .i64 n] w fun xe w' => xe = .returned (fracV st) ∧ Below w.heap.size w w') (HB : ∀ w, Calls Tryz.prog 26 #[fracV q, .int .i64 n] w fun xe w' => xe = .returned (.tuple #[fracV lw, fracV lw, .int .i64 0]) ∧ Below w.heap.size w w') (HR : ∀ w, Calls Tryz.prog 12 #[fracV q, .int .i64 n, .int .i64 3] w fun xe w' => xe = .returned (.tuple #[fracV lw, .int .i64 0]) ∧ Below w.heap.size w w') (D1 : ∀ w, Calls Tryz.prog 27 #[fracV lw, fracV st] w fun xe w' => xe = .returned (.tuple #[fracV y1, .int .i64 0]) ∧ Below w.heap.size w w') (D3 : ∀ w, Calls Tryz.prog 27 #[fracV q, fracV st] w fun xe w' => xe = .returned (.tuple #[fracV wh, .int .i64 0]) ∧ Below w.heap.size w w') (W1 : ∀ w, Calls Tryz.prog 28 #[fracV y1] w fun xe w' => xe = .returned (.bool true) ∧ Below w.heap.size w w') (C1 : ∀ w, Calls Tryz.prog 29 #[fracV lw, fracV q] w fun xe w' => xe = .returned (.int .i64 i1) ∧ Below w.heap.size w w') (W3 : ∀ w, Calls Tryz.prog 28 #[fracV wh] w fun xe w' => xe = .returned (.bool true) ∧ Below w.heap.size w w') (I2 : ∀ w, Calls Tryz.prog 32 #[.int .i64 2] w fun xe w' => xe = .returned (fracV tw) ∧ Below w.heap.size w w') (S2 : ∀ w, Calls Tryz.prog 30 #[fracV lw, fracV q] w fun xe w' => xe = .returned (fracV dd) ∧ Below w.heap.size w w') (A1 : ∀ w, Calls Tryz.prog 33 #[fracV dd] w fun xe w' => xe = .returned (fracV ab) ∧ Below w.heap.size w w') (M1 : ∀ w, Calls Tryz.prog 31 #[fracV tw, fracV ab] w fun xe w' => xe = .returned (fracV aw) ∧ Below w.heap.size w w') (M2 : ∀ w, Calls Tryz.prog 31 #[fracV tw, fracV st] w fun xe w' => xe = .returned (fracV s2) ∧ Below w.heap.size w w') (D4 : ∀ w, Calls Tryz.prog 27 #[fracV lw, fracV s2] w fun xe w' => xe = .returned (.tuple #[fracV tt, .int .i64 0]) ∧ Below w.heap.size w w') (C3 : ∀ w, Calls Tryz.prog 29 #[fracV aw, fracV st] w fun xe w' => xe = .returned (.int .i64 k3) ∧ Below w.heap.size w w') (KT : World → Prop) (hKT : Keeps KT) (HW : ∀ w, KT w → Calls Tryz.prog 11 #[] w fun xe w' => xe = .returned (.bool true) ∧ Below w.heap.size w w') (l0 : decide ((6 : Int) < ((nx : Nat) : Int)) = false) (k0 : decide (6 < nx) = false) (l1 : decide ((6 : Int) < ((mx : Nat) : Int)) = false) (k1 : decide (6 < mx) = false) (hw : IntKind.i64.wrap p8 = p8) (hn : p8.tmod 101 = n) (g1 : decide (0 < i1) = false) (g2 : decide (i1 < 0) = false) (g3 : decide (0 < k3) = false) (HO : ∀ i : Nat, 1 ≤ i → i ≤ 3 → ∃ r : Rat, (∀ w, Calls Tryz.prog 12 #[fracV q, .int .i64 n, .int .i64 (i : Int)] w fun xe w' => xe = .returned (.tuple #[fracV r, .int .i64 0]) ∧ Below w.heap.size w w') ∧ (∀ w, Calls Tryz.prog 12 #[fracV r, .int .i64 n, .int .i64 (i : Int)] w fun xe w' => xe = .returned (.tuple #[fracV r, .int .i64 0]) ∧ Below w.heap.size w w')) (haw : aw ≠ st) (w : World) (kKx : Kx w) (kKT : KT w) :
  Calls Tryz.prog 6 #[.agg #[.bool sx, .slice ax nx cx, .slice qx mx dx], .int .u8 p8] w fun e w' => e = .returned (.bool true) ∧ Below w.heap.size w w' := by
 replace hKx := Lib.hid hKx
 replace GX := Lib.hid GX
 replace HP := Lib.hid HP
 replace HB := Lib.hid HB
 replace HR := Lib.hid HR
 replace D1 := Lib.hid D1
 replace D3 := Lib.hid D3
 replace W1 := Lib.hid W1
 replace C1 := Lib.hid C1
 replace W3 := Lib.hid W3
 replace I2 := Lib.hid I2
 replace S2 := Lib.hid S2
 replace A1 := Lib.hid A1
 replace M1 := Lib.hid M1
 replace M2 := Lib.hid M2
 replace D4 := Lib.hid D4
 replace C3 := Lib.hid C3
 replace hKT := Lib.hid hKT
 replace HW := Lib.hid HW
 have hL0 : GL w w [] := GL.start w
 have hS : SS w [] := SS.nil w
 replace HO := Lib.hid HO
 have G1 : i1 ≤ 0 := by have := of_decide_eq_false g1; omega
 have G2 : 0 ≤ i1 := by have := of_decide_eq_false g2; omega
 replace haw := Lib.hid haw
 replace hS := (hS.new (.cells #[.bool sx, .slice ax nx cx, .slice qx mx dx] 26))
 replace hL0 := (hL0.new rfl [.bool sx, .slice ax nx cx, .slice qx mx dx] 26)
 generalize hweq : (w.alloc (.cells #[.bool sx, .slice ax nx cx, .slice qx mx dx] 26)) = x1 at hL0 hS
 go_enter Tryz.func6, Tryz.ntmps6
 have hN0 := cells_of _ 0 [] rfl (hL0.get _ _ List.mem_cons_self)
 simp only [cellsF, and_true, Nat.zero_add, Nat.reduceAdd] at hN0
 go_wp2_with fail
 clear hN0
 with_reducible refine Calls.mono (GX.out _ (hKx.out.at hL0.bl kKx)) ?_
 rintro e x2 ⟨rfl, hb⟩
 replace hL0 := hL0.call hb
 replace hS := hS.call hb
 clear hb hweq
 go_wp2_with fail
 with_reducible refine Calls.mono (HP.out _) ?_
 rintro e x3 ⟨rfl, hb⟩
 replace hL0 := hL0.call hb
 replace hS := hS.call hb
 clear hb
 replace hS := ((hS.new (.cells #[.int .u64 ((zl q.num : Nat) : Int), .string (zh q.num), .bool (zs q.num), .int .u64 ((lo (fe q) : Nat) : Int), .string (hs (fe q))] 34)).new (.cells #[.int .u64 ((zl st.num : Nat) : Int), .string (zh st.num), .bool (zs st.num), .int .u64 ((lo (fe st) : Nat) : Int), .string (hs (fe st))] 34))
 replace hL0 := ((hL0.new rfl [.int .u64 ((zl q.num : Nat) : Int), .string (zh q.num), .bool (zs q.num), .int .u64 ((lo (fe q) : Nat) : Int), .string (hs (fe q))] 34).new (K := x3.heap.size + 1) (szA _ _) [.int .u64 ((zl st.num : Nat) : Int), .string (zh st.num), .bool (zs st.num), .int .u64 ((lo (fe st) : Nat) : Int), .string (hs (fe st))] 34)
 generalize hweq : ((x3.alloc (.cells #[.int .u64 ((zl q.num : Nat) : Int), .string (zh q.num), .bool (zs q.num), .int .u64 ((lo (fe q) : Nat) : Int), .string (hs (fe q))] 34)).alloc (.cells #[.int .u64 ((zl st.num : Nat) : Int), .string (zh st.num), .bool (zs st.num), .int .u64 ((lo (fe st) : Nat) : Int), .string (hs (fe st))] 34)) = x4 at hL0 hS
 have hN0 := cells_of _ 0 [] rfl (hL0.get _ _ (List.mem_cons_of_mem _ List.mem_cons_self))
 simp only [cellsF, and_true, Nat.zero_add, Nat.reduceAdd] at hN0
 go_wp2_with fail
 clear hN0
 with_reducible refine Calls.mono (HB.out _) ?_
 rintro e x5 ⟨rfl, hb⟩
 replace hL0 := hL0.call hb
 replace hS := hS.call hb
 clear hb hweq
 replace hS := ((hS.new (.cells #[.int .u64 ((zl lw.num : Nat) : Int), .string (zh lw.num), .bool (zs lw.num), .int .u64 ((lo (fe lw) : Nat) : Int), .string (hs (fe lw))] 34)).new (.cells #[.int .u64 ((zl lw.num : Nat) : Int), .string (zh lw.num), .bool (zs lw.num), .int .u64 ((lo (fe lw) : Nat) : Int), .string (hs (fe lw))] 34))
 replace hL0 := ((hL0.new rfl [.int .u64 ((zl lw.num : Nat) : Int), .string (zh lw.num), .bool (zs lw.num), .int .u64 ((lo (fe lw) : Nat) : Int), .string (hs (fe lw))] 34).new (K := x5.heap.size + 1) (szA _ _) [.int .u64 ((zl lw.num : Nat) : Int), .string (zh lw.num), .bool (zs lw.num), .int .u64 ((lo (fe lw) : Nat) : Int), .string (hs (fe lw))] 34)
 generalize hweq : ((x5.alloc (.cells #[.int .u64 ((zl lw.num : Nat) : Int), .string (zh lw.num), .bool (zs lw.num), .int .u64 ((lo (fe lw) : Nat) : Int), .string (hs (fe lw))] 34)).alloc (.cells #[.int .u64 ((zl lw.num : Nat) : Int), .string (zh lw.num), .bool (zs lw.num), .int .u64 ((lo (fe lw) : Nat) : Int), .string (hs (fe lw))] 34)) = x6 at hL0 hS
 have hN0 := cells_of _ 0 [] rfl (hL0.get _ _ (List.mem_cons_of_mem _ (List.mem_cons_of_mem _ (List.mem_cons_of_mem _ List.mem_cons_self))))
 simp only [cellsF, and_true, Nat.zero_add, Nat.reduceAdd] at hN0
 go_wp2_with fail
 clear hN0
 with_reducible refine Calls.mono (HR.out _) ?_
 rintro e x7 ⟨rfl, hb⟩
 replace hL0 := hL0.call hb
 replace hS := hS.call hb
 clear hb hweq
 replace hS := (hS.new (.cells #[.int .u64 ((zl lw.num : Nat) : Int), .string (zh lw.num), .bool (zs lw.num), .int .u64 ((lo (fe lw) : Nat) : Int), .string (hs (fe lw))] 34))
 replace hL0 := (hL0.new rfl [.int .u64 ((zl lw.num : Nat) : Int), .string (zh lw.num), .bool (zs lw.num), .int .u64 ((lo (fe lw) : Nat) : Int), .string (hs (fe lw))] 34)
 generalize hweq : (x7.alloc (.cells #[.int .u64 ((zl lw.num : Nat) : Int), .string (zh lw.num), .bool (zs lw.num), .int .u64 ((lo (fe lw) : Nat) : Int), .string (hs (fe lw))] 34)) = x8 at hL0 hS
 have hN0 := cells_of _ 0 [] rfl (hL0.get _ _ (List.mem_cons_of_mem _ (List.mem_cons_of_mem _ List.mem_cons_self)))
 simp only [cellsF, and_true, Nat.zero_add, Nat.reduceAdd] at hN0
 have hN1 := cells_of _ 0 [] rfl (hL0.get _ _ (List.mem_cons_of_mem _ (List.mem_cons_of_mem _ (List.mem_cons_of_mem _ List.mem_cons_self))))
 simp only [cellsF, and_true, Nat.zero_add, Nat.reduceAdd] at hN1
 go_wp2_with fail
 clear hN0 hN1
 with_reducible refine Calls.mono (D1.out _) ?_
 rintro e x9 ⟨rfl, hb⟩
 replace hL0 := hL0.call hb
 replace hS := hS.call hb
 clear hb hweq
 replace hS := (hS.new (.cells #[.int .u64 ((zl y1.num : Nat) : Int), .string (zh y1.num), .bool (zs y1.num), .int .u64 ((lo (fe y1) : Nat) : Int), .string (hs (fe y1))] 34))
 replace hL0 := (hL0.new rfl [.int .u64 ((zl y1.num : Nat) : Int), .string (zh y1.num), .bool (zs y1.num), .int .u64 ((lo (fe y1) : Nat) : Int), .string (hs (fe y1))] 34)
 generalize hweq : (x9.alloc (.cells #[.int .u64 ((zl y1.num : Nat) : Int), .string (zh y1.num), .bool (zs y1.num), .int .u64 ((lo (fe y1) : Nat) : Int), .string (hs (fe y1))] 34)) = x10 at hL0 hS
 have hN0 := cells_of _ 0 [] rfl (hL0.get _ _ (List.mem_cons_of_mem _ (List.mem_cons_of_mem _ List.mem_cons_self)))
 simp only [cellsF, and_true, Nat.zero_add, Nat.reduceAdd] at hN0
 have hN1 := cells_of _ 0 [] rfl (hL0.get _ _ (List.mem_cons_of_mem _ (List.mem_cons_of_mem _ (List.mem_cons_of_mem _ (List.mem_cons_of_mem _ List.mem_cons_self)))))
 simp only [cellsF, and_true, Nat.zero_add, Nat.reduceAdd] at hN1
 go_wp2_with fail
 clear hN0 hN1
 with_reducible refine Calls.mono (D1.out _) ?_
 rintro e x11 ⟨rfl, hb⟩
 replace hL0 := hL0.call hb
 replace hS := hS.call hb
 clear hb hweq
 replace hS := (hS.new (.cells #[.int .u64 ((zl y1.num : Nat) : Int), .string (zh y1.num), .bool (zs y1.num), .int .u64 ((lo (fe y1) : Nat) : Int), .string (hs (fe y1))] 34))
 replace hL0 := (hL0.new rfl [.int .u64 ((zl y1.num : Nat) : Int), .string (zh y1.num), .bool (zs y1.num), .int .u64 ((lo (fe y1) : Nat) : Int), .string (hs (fe y1))] 34)
 generalize hweq : (x11.alloc (.cells #[.int .u64 ((zl y1.num : Nat) : Int), .string (zh y1.num), .bool (zs y1.num), .int .u64 ((lo (fe y1) : Nat) : Int), .string (hs (fe y1))] 34)) = x12 at hL0 hS
 have hN0 := cells_of _ 0 [] rfl (hL0.get _ _ (List.mem_cons_of_mem _ (List.mem_cons_of_mem _ (List.mem_cons_of_mem _ (List.mem_cons_of_mem _ (List.mem_cons_of_mem _ List.mem_cons_self))))))
 simp only [cellsF, and_true, Nat.zero_add, Nat.reduceAdd] at hN0
 have hN1 := cells_of _ 0 [] rfl (hL0.get _ _ (List.mem_cons_of_mem _ (List.mem_cons_of_mem _ (List.mem_cons_of_mem _ (List.mem_cons_of_mem _ (List.mem_cons_of_mem _ (List.mem_cons_of_mem _ List.mem_cons_self)))))))
 simp only [cellsF, and_true, Nat.zero_add, Nat.reduceAdd] at hN1
 go_wp2_with fail
 clear hN0 hN1
 with_reducible refine Calls.mono (D3.out _) ?_
 rintro e x13 ⟨rfl, hb⟩
 replace hL0 := hL0.call hb
 replace hS := hS.call hb
 clear hb hweq
 replace hS := (hS.new (.cells #[.int .u64 ((zl wh.num : Nat) : Int), .string (zh wh.num), .bool (zs wh.num), .int .u64 ((lo (fe wh) : Nat) : Int), .string (hs (fe wh))] 34))
 replace hL0 := (hL0.new rfl [.int .u64 ((zl wh.num : Nat) : Int), .string (zh wh.num), .bool (zs wh.num), .int .u64 ((lo (fe wh) : Nat) : Int), .string (hs (fe wh))] 34)
 generalize hweq : (x13.alloc (.cells #[.int .u64 ((zl wh.num : Nat) : Int), .string (zh wh.num), .bool (zs wh.num), .int .u64 ((lo (fe wh) : Nat) : Int), .string (hs (fe wh))] 34)) = x14 at hL0 hS
 go_upto_region 10 with fail
 clear hweq
 refine region_tl 62 [EV (.int .i64 0), EV (.bool false), EV (.bool false), EV (.int .i64 0), EV (.bool false), EV (.bool false), EV (.bool false), EV (.int .i64 0), EV (.bool false), EV (.bool false), EV (.bool false), EV (.agg #[.int .u64 ((zl y1.num : Nat) : Int), .string (zh y1.num), .bool (zs y1.num), .int .u64 ((lo (fe y1) : Nat) : Int), .string (hs (fe y1))]), EV (.bool true), EV (.bool false), EV (.bool false), EV (.bool false), EV (.agg #[.int .u64 ((zl y1.num : Nat) : Int), .string (zh y1.num), .bool (zs y1.num), .int .u64 ((lo (fe y1) : Nat) : Int), .string (hs (fe y1))]), EV (.bool true), EV (.bool false), EV (.bool false), EV (.bool false), EV (.agg #[.int .u64 ((zl lw.num : Nat) : Int), .string (zh lw.num), .bool (zs lw.num), .int .u64 ((lo (fe lw) : Nat) : Int), .string (hs (fe lw))]), EV (.agg #[.int .u64 ((zl q.num : Nat) : Int), .string (zh q.num), .bool (zs q.num), .int .u64 ((lo (fe q) : Nat) : Int), .string (hs (fe q))]), EV (.int .i64 i1), EV (.bool false), EV (.bool false), EV (.bool false), EV (.agg #[.int .u64 ((zl lw.num : Nat) : Int), .string (zh lw.num), .bool (zs lw.num), .int .u64 ((lo (fe lw) : Nat) : Int), .string (hs (fe lw))]), EV (.agg #[.int .u64 ((zl q.num : Nat) : Int), .string (zh q.num), .bool (zs q.num), .int .u64 ((lo (fe q) : Nat) : Int), .string (hs (fe q))]), EV (.int .i64 i1), EV (.bool false), EV (.bool false), EV (.bool false), EV (.agg #[.int .u64 ((zl lw.num : Nat) : Int), .string (zh lw.num), .bool (zs lw.num), .int .u64 ((lo (fe lw) : Nat) : Int), .string (hs (fe lw))]), EV (.agg #[.int .u64 ((zl lw.num : Nat) : Int), .string (zh lw.num), .bool (zs lw.num), .int .u64 ((lo (fe lw) : Nat) : Int), .string (hs (fe lw))]), EV (.bool true), EV (.agg #[.int .u64 ((zl wh.num : Nat) : Int), .string (zh wh.num), .bool (zs wh.num), .int .u64 ((lo (fe wh) : Nat) : Int), .string (hs (fe wh))]), EV (.bool true), EV (.bool false), EV (.bool false), EV (.bool false), EV (.agg #[.int .u64 ((zl lw.num : Nat) : Int), .string (zh lw.num), .bool (zs lw.num), .int .u64 ((lo (fe lw) : Nat) : Int), .string (hs (fe lw))]), EV (.agg #[.int .u64 ((zl lw.num : Nat) : Int), .string (zh lw.num), .bool (zs lw.num), .int .u64 ((lo (fe lw) : Nat) : Int), .string (hs (fe lw))]), EV (.bool false), EV (.bool false), EV undef, EV undef, EV undef, EV undef, EV undef, EV (.bool false), EV (.bool false), EV (.bool false), EV (.agg #[.int .u64 ((zl lw.num : Nat) : Int), .string (zh lw.num), .bool (zs lw.num), .int .u64 ((lo (fe lw) : Nat) : Int), .string (hs (fe lw))]), EV (.agg #[.int .u64 ((zl lw.num : Nat) : Int), .string (zh lw.num), .bool (zs lw.num), .int .u64 ((lo (fe lw) : Nat) : Int), .string (hs (fe lw))]), EV (.bool false), EV (.bool false), EV undef, EV undef, EV undef, EV (.bool false), EV (.bool false)] (by kernel_rfl) (by kernel_rfl) ?_ ?_ ?_
 ·exact stays_cons (stays_eq _) (stays_cons (stays_eq _) (stays_cons (stays_eq _) (stays_cons (stays_eq _) (stays_cons (stays_eq _) (stays_cons (stays_eq _) (stays_cons (stays_eq _) (stays_cons (stays_eq _) (stays_cons (stays_eq _) (stays_cons (stays_eq _) (stays_cons (stays_eq _) (stays_cons (stays_eq _) (stays_cons (stays_eq _) (stays_cons (stays_eq _) (stays_cons (stays_eq _) (stays_cons (stays_eq _) (stays_cons (stays_eq _) (stays_cons (stays_eq _) (stays_cons (stays_eq _) (stays_cons (stays_eq _) (stays_cons (stays_eq _) (stays_cons (stays_eq _) (stays_cons (stays_eq _) (stays_cons (stays_eq _) (stays_cons (stays_eq _) (stays_cons (stays_eq _) (stays_cons (stays_eq _) (stays_cons (stays_eq _) (stays_cons (stays_eq _) (stays_cons (stays_eq _) (stays_cons (stays_eq _) (stays_cons (stays_eq _) (stays_cons (stays_eq _) (stays_cons (stays_eq _) (stays_cons (stays_eq _) (stays_cons (stays_eq _) (stays_cons (stays_eq _) (stays_cons (stays_eq _) (stays_cons (stays_eq _) (stays_cons (stays_eq _) (stays_cons (stays_eq _) (stays_cons (stays_eq _) (stays_cons (stays_eq _) (stays_cons (stays_eq _) (stays_cons (stays_eq _) (stays_cons (stays_eq _) (stays_cons (stays_eq _) (stays_cons (stays_eq _) (stays_cons (stays_eq _) (stays_cons (stays_eq _) (stays_cons (stays_eq _) (stays_cons (stays_eq _) (stays_cons (stays_eq _) (stays_cons (stays_eq _) (stays_cons (stays_eq _) (stays_cons (stays_eq _) (stays_cons (stays_eq _) (stays_cons (stays_eq _) (stays_cons (stays_eq _) (stays_cons (stays_eq _) (stays_cons (stays_eq _) (stays_cons (stays_eq _) (stays_nil))))))))))))))))))))))))))))))))))))))))))))))))))))))))))))))
 ·simp only [List.take_succ_cons, List.take_zero, hopsR, and_true]
  refine ⟨?_, ?_, ?_, ?_, ?_, ?_, ?_, ?_, ?_, ?_, ?_, ?_, ?_, ?_, ?_, ?_, ?_, ?_, ?_, ?_, ?_, ?_, ?_, ?_, ?_, ?_, ?_, ?_, ?_, ?_, ?_, ?_, ?_, ?_, ?_, ?_, ?_, ?_, ?_, ?_, ?_, ?_, ?_, ?_, ?_, ?_, ?_, ?_, ?_, ?_, ?_, ?_, ?_, ?_, ?_, ?_, ?_, ?_, ?_, ?_, ?_, ?_⟩ <;> intro fv w1 hb1 hp
  all_goals (simp only [putsV, Act.put, List.setIfInBounds_toArray, List.set_cons_succ, List.set_cons_zero, Nat.zero_add, Nat.reduceAdd])
  ·refine tyAt_none rfl ?_
   simp [tyUpon, execOp, go_sem, Act.eval, G1, G2, Below.refl]
  ·have h0 : EV _ (fv 0) w1 := hp 0 (LC (by kernel_rfl))
   refine tyAt_none rfl ?_
   simp [tyUpon, execOp, go_sem, Act.eval, h0, G1, G2, Below.refl]
  ·have h1 : EV _ (fv 1) w1 := hp 1 (LC (by kernel_rfl))
   refine tyAt_none rfl ?_
   simp [tyUpon, execOp, go_sem, Act.eval, h1, G1, G2, Below.refl]
  ·have h2 : EV _ (fv 2) w1 := hp 2 (LC (by kernel_rfl))
   refine tyAt_yes (by simp [Region.wanted, yielded, h2]) ?_
   simp [tyUpon, execOp, go_sem, Act.eval, h2, G1, G2, Below.refl]
  ·have h3 : EV _ (fv 3) w1 := hp 3 (LC (by kernel_rfl))
   have h2 : EV _ (fv 2) w1 := hp 2 (LC (by kernel_rfl))
   refine tyAt_yes (by simp [Region.wanted, yielded, h3, h2]) ?_
   simp [tyUpon, execOp, go_sem, Act.eval, h3, h2, G1, G2, Below.refl]
  ·have h2 : EV _ (fv 2) w1 := hp 2 (LC (by kernel_rfl))
   have h4 : EV _ (fv 4) w1 := hp 4 (LC (by kernel_rfl))
   refine tyAt_none rfl ?_
   simp [tyUpon, execOp, go_sem, Act.eval, h2, h4, G1, G2, Below.refl]
  ·have h5 : EV _ (fv 5) w1 := hp 5 (LC (by kernel_rfl))
   refine tyAt_none rfl ?_
   simp [tyUpon, execOp, go_sem, Act.eval, h5, G1, G2, Below.refl]
  ·have h6 : EV _ (fv 6) w1 := hp 6 (LC (by kernel_rfl))
   refine tyAt_yes (by simp [Region.wanted, yielded, h6]) ?_
   simp [tyUpon, execOp, go_sem, Act.eval, h6, G1, G2, Below.refl]
  ·have h7 : EV _ (fv 7) w1 := hp 7 (LC (by kernel_rfl))
   have h6 : EV _ (fv 6) w1 := hp 6 (LC (by kernel_rfl))
   refine tyAt_yes (by simp [Region.wanted, yielded, h7, h6]) ?_
   simp [tyUpon, execOp, go_sem, Act.eval, h7, h6, G1, G2, Below.refl]
  ·have h6 : EV _ (fv 6) w1 := hp 6 (LC (by kernel_rfl))
   have h8 : EV _ (fv 8) w1 := hp 8 (LC (by kernel_rfl))
   refine tyAt_none rfl ?_
   simp [tyUpon, execOp, go_sem, Act.eval, h6, h8, G1, G2, Below.refl]
  ·have h9 : EV _ (fv 9) w1 := hp 9 (LC (by kernel_rfl))
   refine tyAt_none rfl ?_
   simp [tyUpon, execOp, go_sem, Act.eval, h9, G1, G2, Below.refl]
  ·have h10 : EV _ (fv 10) w1 := hp 10 (LC (by kernel_rfl))
   refine tyAt_yes (by simp [Region.wanted, yielded, h10]) ?_
   have hc := (hL0.call (below_drew hb1)).fc
   simp only [fcG, cellsF, neK, and_true, ne_eq, Nat.zero_add, Nat.reduceAdd] at hc
   simp [tyUpon, execOp, go_sem, Act.eval, hc, h10, G1, G2, Below.refl]
  ·have h11 : EV _ (fv 11) w1 := hp 11 (LC (by kernel_rfl))
   have h10 : EV _ (fv 10) w1 := hp 10 (LC (by kernel_rfl))
   refine tyAt_yes (by simp [Region.wanted, yielded, h11, h10]) ?_
   refine ty_call (f := 28) (args := #[.agg #[.int .u64 ((zl y1.num : Nat) : Int), .string (zh y1.num), .bool (zs y1.num), .int .u64 ((lo (fe y1) : Nat) : Int), .string (hs (fe y1))]]) (by simp [execOp, go_sem, Act.eval, h11, h10]) ?_
   exact (W1.out w1).mono fun e w2 ⟨h1, h2⟩ => ⟨_, h1, rfl, h2⟩
  ·have h12 : EV _ (fv 12) w1 := hp 12 (LC (by kernel_rfl))
   have h10 : EV _ (fv 10) w1 := hp 10 (LC (by kernel_rfl))
   refine tyAt_yes (by simp [Region.wanted, yielded, h12, h10]) ?_
   simp [tyUpon, execOp, go_sem, Act.eval, h12, h10, G1, G2, Below.refl]
  ·have h10 : EV _ (fv 10) w1 := hp 10 (LC (by kernel_rfl))
   have h13 : EV _ (fv 13) w1 := hp 13 (LC (by kernel_rfl))
   refine tyAt_none rfl ?_
   simp [tyUpon, execOp, go_sem, Act.eval, h10, h13, G1, G2, Below.refl]
  ·have h14 : EV _ (fv 14) w1 := hp 14 (LC (by kernel_rfl))
   refine tyAt_none rfl ?_
   simp [tyUpon, execOp, go_sem, Act.eval, h14, G1, G2, Below.refl]
  ·have h15 : EV _ (fv 15) w1 := hp 15 (LC (by kernel_rfl))
   refine tyAt_yes (by simp [Region.wanted, yielded, h15]) ?_
   have hc := (hL0.call (below_drew hb1)).fc
   simp only [fcG, cellsF, neK, and_true, ne_eq, Nat.zero_add, Nat.reduceAdd] at hc
   simp [tyUpon, execOp, go_sem, Act.eval, hc, h15, G1, G2, Below.refl]
  ·have h16 : EV _ (fv 16) w1 := hp 16 (LC (by kernel_rfl))
   have h15 : EV _ (fv 15) w1 := hp 15 (LC (by kernel_rfl))
   refine tyAt_yes (by simp [Region.wanted, yielded, h16, h15]) ?_
   refine ty_call (f := 28) (args := #[.agg #[.int .u64 ((zl y1.num : Nat) : Int), .string (zh y1.num), .bool (zs y1.num), .int .u64 ((lo (fe y1) : Nat) : Int), .string (hs (fe y1))]]) (by simp [execOp, go_sem, Act.eval, h16, h15]) ?_
   exact (W1.out w1).mono fun e w2 ⟨h1, h2⟩ => ⟨_, h1, rfl, h2⟩
  ·have h17 : EV _ (fv 17) w1 := hp 17 (LC (by kernel_rfl))
   have h15 : EV _ (fv 15) w1 := hp 15 (LC (by kernel_rfl))
   refine tyAt_yes (by simp [Region.wanted, yielded, h17, h15]) ?_
   simp [tyUpon, execOp, go_sem, Act.eval, h17, h15, G1, G2, Below.refl]
  ·have h15 : EV _ (fv 15) w1 := hp 15 (LC (by kernel_rfl))
   have h18 : EV _ (fv 18) w1 := hp 18 (LC (by kernel_rfl))
   refine tyAt_none rfl ?_
   simp [tyUpon, execOp, go_sem, Act.eval, h15, h18, G1, G2, Below.refl]
  ·have h19 : EV _ (fv 19) w1 := hp 19 (LC (by kernel_rfl))
   refine tyAt_none rfl ?_
   simp [tyUpon, execOp, go_sem, Act.eval, h19, G1, G2, Below.refl]
  ·have h20 : EV _ (fv 20) w1 := hp 20 (LC (by kernel_rfl))
   refine tyAt_yes (by simp [Region.wanted, yielded, h20]) ?_
   have hc := (hL0.call (below_drew hb1)).fc
   simp only [fcG, cellsF, neK, and_true, ne_eq, Nat.zero_add, Nat.reduceAdd] at hc
   simp [tyUpon, execOp, go_sem, Act.eval, hc, h20, G1, G2, Below.refl]
  ·have h20 : EV _ (fv 20) w1 := hp 20 (LC (by kernel_rfl))
   refine tyAt_yes (by simp [Region.wanted, yielded, h20]) ?_
   have hc := (hL0.call (below_drew hb1)).fc
   simp only [fcG, cellsF, neK, and_true, ne_eq, Nat.zero_add, Nat.reduceAdd] at hc
   simp [tyUpon, execOp, go_sem, Act.eval, hc, h20, G1, G2, Below.refl]
  ·have h21 : EV _ (fv 21) w1 := hp 21 (LC (by kernel_rfl))
   have h22 : EV _ (fv 22) w1 := hp 22 (LC (by kernel_rfl))
   have h20 : EV _ (fv 20) w1 := hp 20 (LC (by kernel_rfl))
   refine tyAt_yes (by simp [Region.wanted, yielded, h21, h22, h20]) ?_
   refine ty_call (f := 29) (args := #[.agg #[.int .u64 ((zl lw.num : Nat) : Int), .string (zh lw.num), .bool (zs lw.num), .int .u64 ((lo (fe lw) : Nat) : Int), .string (hs (fe lw))], .agg #[.int .u64 ((zl q.num : Nat) : Int), .string (zh q.num), .bool (zs q.num), .int .u64 ((lo (fe q) : Nat) : Int), .string (hs (fe q))]]) (by simp [execOp, go_sem, Act.eval, h21, h22, h20]) ?_
   exact (C1.out w1).mono fun e w2 ⟨h1, h2⟩ => ⟨_, h1, rfl, h2⟩
  ·have h23 : EV _ (fv 23) w1 := hp 23 (LC (by kernel_rfl))
   have h20 : EV _ (fv 20) w1 := hp 20 (LC (by kernel_rfl))
   refine tyAt_yes (by simp [Region.wanted, yielded, h23, h20]) ?_
   simp [tyUpon, execOp, go_sem, Act.eval, h23, h20, G1, G2, Below.refl]
  ·have h20 : EV _ (fv 20) w1 := hp 20 (LC (by kernel_rfl))
   have h24 : EV _ (fv 24) w1 := hp 24 (LC (by kernel_rfl))
   refine tyAt_none rfl ?_
   simp [tyUpon, execOp, go_sem, Act.eval, h20, h24, G1, G2, Below.refl]
  ·have h25 : EV _ (fv 25) w1 := hp 25 (LC (by kernel_rfl))
   refine tyAt_none rfl ?_
   simp [tyUpon, execOp, go_sem, Act.eval, h25, G1, G2, Below.refl]
  ·have h26 : EV _ (fv 26) w1 := hp 26 (LC (by kernel_rfl))
   refine tyAt_yes (by simp [Region.wanted, yielded, h26]) ?_
   have hc := (hL0.call (below_drew hb1)).fc
   simp only [fcG, cellsF, neK, and_true, ne_eq, Nat.zero_add, Nat.reduceAdd] at hc
   simp [tyUpon, execOp, go_sem, Act.eval, hc, h26, G1, G2, Below.refl]
  ·have h26 : EV _ (fv 26) w1 := hp 26 (LC (by kernel_rfl))
   refine tyAt_yes (by simp [Region.wanted, yielded, h26]) ?_
   have hc := (hL0.call (below_drew hb1)).fc
   simp only [fcG, cellsF, neK, and_true, ne_eq, Nat.zero_add, Nat.reduceAdd] at hc
   simp [tyUpon, execOp, go_sem, Act.eval, hc, h26, G1, G2, Below.refl]
  ·have h27 : EV _ (fv 27) w1 := hp 27 (LC (by kernel_rfl))
   have h28 : EV _ (fv 28) w1 := hp 28 (LC (by kernel_rfl))
   have h26 : EV _ (fv 26) w1 := hp 26 (LC (by kernel_rfl))
   refine tyAt_yes (by simp [Region.wanted, yielded, h27, h28, h26]) ?_
   refine ty_call (f := 29) (args := #[.agg #[.int .u64 ((zl lw.num : Nat) : Int), .string (zh lw.num), .bool (zs lw.num), .int .u64 ((lo (fe lw) : Nat) : Int), .string (hs (fe lw))], .agg #[.int .u64 ((zl q.num : Nat) : Int), .string (zh q.num), .bool (zs q.num), .int .u64 ((lo (fe q) : Nat) : Int), .string (hs (fe q))]]) (by simp [execOp, go_sem, Act.eval, h27, h28, h26]) ?_
   exact (C1.out w1).mono fun e w2 ⟨h1, h2⟩ => ⟨_, h1, rfl, h2⟩
  ·have h29 : EV _ (fv 29) w1 := hp 29 (LC (by kernel_rfl))
   have h26 : EV _ (fv 26) w1 := hp 26 (LC (by kernel_rfl))
   refine tyAt_yes (by simp [Region.wanted, yielded, h29, h26]) ?_
   simp [tyUpon, execOp, go_sem, Act.eval, h29, h26, G1, G2, Below.refl]
  ·have h26 : EV _ (fv 26) w1 := hp 26 (LC (by kernel_rfl))
   have h30 : EV _ (fv 30) w1 := hp 30 (LC (by kernel_rfl))
   refine tyAt_none rfl ?_
   simp [tyUpon, execOp, go_sem, Act.eval, h26, h30, G1, G2, Below.refl]
  ·have h31 : EV _ (fv 31) w1 := hp 31 (LC (by kernel_rfl))
   refine tyAt_none rfl ?_
   simp [tyUpon, execOp, go_sem, Act.eval, h31, G1, G2, Below.refl]
  ·have h32 : EV _ (fv 32) w1 := hp 32 (LC (by kernel_rfl))
   refine tyAt_yes (by simp [Region.wanted, yielded, h32]) ?_
   have hc := (hL0.call (below_drew hb1)).fc
   simp only [fcG, cellsF, neK, and_true, ne_eq, Nat.zero_add, Nat.reduceAdd] at hc
   simp [tyUpon, execOp, go_sem, Act.eval, hc, h32, G1, G2, Below.refl]
  ·have h32 : EV _ (fv 32) w1 := hp 32 (LC (by kernel_rfl))
   refine tyAt_yes (by simp [Region.wanted, yielded, h32]) ?_
   have hc := (hL0.call (below_drew hb1)).fc
   simp only [fcG, cellsF, neK, and_true, ne_eq, Nat.zero_add, Nat.reduceAdd] at hc
   simp [tyUpon, execOp, go_sem, Act.eval, hc, h32, G1, G2, Below.refl]
  ·have h33 : EV _ (fv 33) w1 := hp 33 (LC (by kernel_rfl))
   have h34 : EV _ (fv 34) w1 := hp 34 (LC (by kernel_rfl))
   have h32 : EV _ (fv 32) w1 := hp 32 (LC (by kernel_rfl))
   refine tyAt_yes (by simp [Region.wanted, yielded, h33, h34, h32]) ?_
   simp [tyUpon, execOp, go_sem, Act.eval, h33, h34, h32, G1, G2, Below.refl]
  ·have h32 : EV _ (fv 32) w1 := hp 32 (LC (by kernel_rfl))
   refine tyAt_yes (by simp [Region.wanted, yielded, h32]) ?_
   have hc := (hL0.call (below_drew hb1)).fc
   simp only [fcG, cellsF, neK, and_true, ne_eq, Nat.zero_add, Nat.reduceAdd] at hc
   simp [tyUpon, execOp, go_sem, Act.eval, hc, h32, G1, G2, Below.refl]
  ·have h36 : EV _ (fv 36) w1 := hp 36 (LC (by kernel_rfl))
   have h32 : EV _ (fv 32) w1 := hp 32 (LC (by kernel_rfl))
   refine tyAt_yes (by simp [Region.wanted, yielded, h36, h32]) ?_
   refine ty_call (f := 28) (args := #[.agg #[.int .u64 ((zl wh.num : Nat) : Int), .string (zh wh.num), .bool (zs wh.num), .int .u64 ((lo (fe wh) : Nat) : Int), .string (hs (fe wh))]]) (by simp [execOp, go_sem, Act.eval, h36, h32]) ?_
   exact (W3.out w1).mono fun e w2 ⟨h1, h2⟩ => ⟨_, h1, rfl, h2⟩
  ·have h35 : EV _ (fv 35) w1 := hp 35 (LC (by kernel_rfl))
   have h37 : EV _ (fv 37) w1 := hp 37 (LC (by kernel_rfl))
   have h32 : EV _ (fv 32) w1 := hp 32 (LC (by kernel_rfl))
   refine tyAt_yes (by simp [Region.wanted, yielded, h35, h37, h32]) ?_
   simp [tyUpon, execOp, go_sem, Act.eval, h35, h37, h32, G1, G2, Below.refl]
  ·have h32 : EV _ (fv 32) w1 := hp 32 (LC (by kernel_rfl))
   have h38 : EV _ (fv 38) w1 := hp 38 (LC (by kernel_rfl))
   refine tyAt_none rfl ?_
   simp [tyUpon, execOp, go_sem, Act.eval, h32, h38, G1, G2, Below.refl]
  ·have h39 : EV _ (fv 39) w1 := hp 39 (LC (by kernel_rfl))
   refine tyAt_none rfl ?_
   simp [tyUpon, execOp, go_sem, Act.eval, h39, G1, G2, Below.refl]
  ·have h40 : EV _ (fv 40) w1 := hp 40 (LC (by kernel_rfl))
   refine tyAt_yes (by simp [Region.wanted, yielded, h40]) ?_
   have hc := (hL0.call (below_drew hb1)).fc
   simp only [fcG, cellsF, neK, and_true, ne_eq, Nat.zero_add, Nat.reduceAdd] at hc
   simp [tyUpon, execOp, go_sem, Act.eval, hc, h40, G1, G2, Below.refl]
  ·have h40 : EV _ (fv 40) w1 := hp 40 (LC (by kernel_rfl))
   refine tyAt_yes (by simp [Region.wanted, yielded, h40]) ?_
   have hc := (hL0.call (below_drew hb1)).fc
   simp only [fcG, cellsF, neK, and_true, ne_eq, Nat.zero_add, Nat.reduceAdd] at hc
   simp [tyUpon, execOp, go_sem, Act.eval, hc, h40, G1, G2, Below.refl]
  ·have h41 : EV _ (fv 41) w1 := hp 41 (LC (by kernel_rfl))
   have h42 : EV _ (fv 42) w1 := hp 42 (LC (by kernel_rfl))
   have h40 : EV _ (fv 40) w1 := hp 40 (LC (by kernel_rfl))
   refine tyAt_yes (by simp [Region.wanted, yielded, h41, h42, h40]) ?_
   simp [tyUpon, execOp, go_sem, Act.eval, h41, h42, h40, G1, G2, Below.refl]
  ·have h43 : EV _ (fv 43) w1 := hp 43 (LC (by kernel_rfl))
   have h40 : EV _ (fv 40) w1 := hp 40 (LC (by kernel_rfl))
   refine tyAt_yes (by simp [Region.wanted, yielded, h43, h40]) ?_
   simp [tyUpon, execOp, go_sem, Act.eval, h43, h40, G1, G2, Below.refl]
  ·have h44 : EV _ (fv 44) w1 := hp 44 (LC (by kernel_rfl))
   exact tyAt_no (by simp [Region.wanted, yielded, h44]) rfl
  ·have h44 : EV _ (fv 44) w1 := hp 44 (LC (by kernel_rfl))
   exact tyAt_no (by simp [Region.wanted, yielded, h44]) rfl
  ·have h44 : EV _ (fv 44) w1 := hp 44 (LC (by kernel_rfl))
   exact tyAt_no (by simp [Region.wanted, yielded, h44]) rfl
  ·have h44 : EV _ (fv 44) w1 := hp 44 (LC (by kernel_rfl))
   exact tyAt_no (by simp [Region.wanted, yielded, h44]) rfl
  ·have h44 : EV _ (fv 44) w1 := hp 44 (LC (by kernel_rfl))
   exact tyAt_no (by simp [Region.wanted, yielded, h44]) rfl
  ·have h44 : EV _ (fv 44) w1 := hp 44 (LC (by kernel_rfl))
   have h49 : EV _ (fv 49) w1 := hp 49 (LC (by kernel_rfl))
   have h40 : EV _ (fv 40) w1 := hp 40 (LC (by kernel_rfl))
   refine tyAt_yes (by simp [Region.wanted, yielded, h44, h49, h40]) ?_
   simp [tyUpon, execOp, go_sem, Act.eval, h44, h49, h40, G1, G2, Below.refl]
  ·have h40 : EV _ (fv 40) w1 := hp 40 (LC (by kernel_rfl))
   have h50 : EV _ (fv 50) w1 := hp 50 (LC (by kernel_rfl))
   refine tyAt_none rfl ?_
   simp [tyUpon, execOp, go_sem, Act.eval, h40, h50, G1, G2, Below.refl]
  ·have h51 : EV _ (fv 51) w1 := hp 51 (LC (by kernel_rfl))
   refine tyAt_none rfl ?_
   simp [tyUpon, execOp, go_sem, Act.eval, h51, G1, G2, Below.refl]
  ·have h52 : EV _ (fv 52) w1 := hp 52 (LC (by kernel_rfl))
   refine tyAt_yes (by simp [Region.wanted, yielded, h52]) ?_
   have hc := (hL0.call (below_drew hb1)).fc
   simp only [fcG, cellsF, neK, and_true, ne_eq, Nat.zero_add, Nat.reduceAdd] at hc
   simp [tyUpon, execOp, go_sem, Act.eval, hc, h52, G1, G2, Below.refl]
  ·have h52 : EV _ (fv 52) w1 := hp 52 (LC (by kernel_rfl))
   refine tyAt_yes (by simp [Region.wanted, yielded, h52]) ?_
   have hc := (hL0.call (below_drew hb1)).fc
   simp only [fcG, cellsF, neK, and_true, ne_eq, Nat.zero_add, Nat.reduceAdd] at hc
   simp [tyUpon, execOp, go_sem, Act.eval, hc, h52, G1, G2, Below.refl]
  ·have h53 : EV _ (fv 53) w1 := hp 53 (LC (by kernel_rfl))
   have h54 : EV _ (fv 54) w1 := hp 54 (LC (by kernel_rfl))
   have h52 : EV _ (fv 52) w1 := hp 52 (LC (by kernel_rfl))
   refine tyAt_yes (by simp [Region.wanted, yielded, h53, h54, h52]) ?_
   simp [tyUpon, execOp, go_sem, Act.eval, h53, h54, h52, G1, G2, Below.refl]
  ·have h55 : EV _ (fv 55) w1 := hp 55 (LC (by kernel_rfl))
   have h52 : EV _ (fv 52) w1 := hp 52 (LC (by kernel_rfl))
   refine tyAt_yes (by simp [Region.wanted, yielded, h55, h52]) ?_
   simp [tyUpon, execOp, go_sem, Act.eval, h55, h52, G1, G2, Below.refl]
  ·have h56 : EV _ (fv 56) w1 := hp 56 (LC (by kernel_rfl))
   exact tyAt_no (by simp [Region.wanted, yielded, h56]) rfl
  ·have h56 : EV _ (fv 56) w1 := hp 56 (LC (by kernel_rfl))
   exact tyAt_no (by simp [Region.wanted, yielded, h56]) rfl
  ·have h56 : EV _ (fv 56) w1 := hp 56 (LC (by kernel_rfl))
   exact tyAt_no (by simp [Region.wanted, yielded, h56]) rfl
  ·have h56 : EV _ (fv 56) w1 := hp 56 (LC (by kernel_rfl))
   have h59 : EV _ (fv 59) w1 := hp 59 (LC (by kernel_rfl))
   have h52 : EV _ (fv 52) w1 := hp 52 (LC (by kernel_rfl))
   refine tyAt_yes (by simp [Region.wanted, yielded, h56, h59, h52]) ?_
   simp [tyUpon, execOp, go_sem, Act.eval, h56, h59, h52, G1, G2, Below.refl]
  ·have h52 : EV _ (fv 52) w1 := hp 52 (LC (by kernel_rfl))
   have h60 : EV _ (fv 60) w1 := hp 60 (LC (by kernel_rfl))
   refine tyAt_none rfl ?_
   simp [tyUpon, execOp, go_sem, Act.eval, h52, h60, G1, G2, Below.refl]
 ·intro fv x15 hb1 hv
  have e0 : fv 0 = _ := hv 0 (by omega)
  have e1 : fv 1 = _ := hv 1 (by omega)
  have e2 : fv 2 = _ := hv 2 (by omega)
  have e3 : fv 3 = _ := hv 3 (by omega)
  have e4 : fv 4 = _ := hv 4 (by omega)
  have e5 : fv 5 = _ := hv 5 (by omega)
  have e6 : fv 6 = _ := hv 6 (by omega)
  have e7 : fv 7 = _ := hv 7 (by omega)
  have e8 : fv 8 = _ := hv 8 (by omega)
  have e9 : fv 9 = _ := hv 9 (by omega)
  have e10 : fv 10 = _ := hv 10 (by omega)
  have e11 : fv 11 = _ := hv 11 (by omega)
  have e12 : fv 12 = _ := hv 12 (by omega)
  have e13 : fv 13 = _ := hv 13 (by omega)
  have e14 : fv 14 = _ := hv 14 (by omega)
  have e15 : fv 15 = _ := hv 15 (by omega)
  have e16 : fv 16 = _ := hv 16 (by omega)
  have e17 : fv 17 = _ := hv 17 (by omega)
  have e18 : fv 18 = _ := hv 18 (by omega)
  have e19 : fv 19 = _ := hv 19 (by omega)
  have e20 : fv 20 = _ := hv 20 (by omega)
  have e21 : fv 21 = _ := hv 21 (by omega)
  have e22 : fv 22 = _ := hv 22 (by omega)
  have e23 : fv 23 = _ := hv 23 (by omega)
  have e24 : fv 24 = _ := hv 24 (by omega)
  have e25 : fv 25 = _ := hv 25 (by omega)
  have e26 : fv 26 = _ := hv 26 (by omega)
  have e27 : fv 27 = _ := hv 27 (by omega)
  have e28 : fv 28 = _ := hv 28 (by omega)
  have e29 : fv 29 = _ := hv 29 (by omega)
  have e30 : fv 30 = _ := hv 30 (by omega)
  have e31 : fv 31 = _ := hv 31 (by omega)
  have e32 : fv 32 = _ := hv 32 (by omega)
  have e33 : fv 33 = _ := hv 33 (by omega)
  have e34 : fv 34 = _ := hv 34 (by omega)
  have e35 : fv 35 = _ := hv 35 (by omega)
  have e36 : fv 36 = _ := hv 36 (by omega)
  have e37 : fv 37 = _ := hv 37 (by omega)
  have e38 : fv 38 = _ := hv 38 (by omega)
  have e39 : fv 39 = _ := hv 39 (by omega)
  have e40 : fv 40 = _ := hv 40 (by omega)
  have e41 : fv 41 = _ := hv 41 (by omega)
  have e42 : fv 42 = _ := hv 42 (by omega)
  have e43 : fv 43 = _ := hv 43 (by omega)
  have e44 : fv 44 = _ := hv 44 (by omega)
  have e45 : fv 45 = _ := hv 45 (by omega)
  have e46 : fv 46 = _ := hv 46 (by omega)
  have e47 : fv 47 = _ := hv 47 (by omega)
  have e48 : fv 48 = _ := hv 48 (by omega)
  have e49 : fv 49 = _ := hv 49 (by omega)
  have e50 : fv 50 = _ := hv 50 (by omega)
  have e51 : fv 51 = _ := hv 51 (by omega)
  have e52 : fv 52 = _ := hv 52 (by omega)
  have e53 : fv 53 = _ := hv 53 (by omega)
  have e54 : fv 54 = _ := hv 54 (by omega)
  have e55 : fv 55 = _ := hv 55 (by omega)
  have e56 : fv 56 = _ := hv 56 (by omega)
  have e57 : fv 57 = _ := hv 57 (by omega)
  have e58 : fv 58 = _ := hv 58 (by omega)
  have e59 : fv 59 = _ := hv 59 (by omega)
  have e60 : fv 60 = _ := hv 60 (by omega)
  have e61 : fv 61 = _ := hv 61 (by omega)
  simp only [List.take_succ_cons, List.take_zero, putsV, Act.put, List.setIfInBounds_toArray, List.set_cons_succ, List.set_cons_zero, List.drop_succ_cons, List.drop_zero, Nat.zero_add, Nat.reduceAdd, e0, e1, e2, e3, e4, e5, e6, e7, e8, e9, e10, e11, e12, e13, e14, e15, e16, e17, e18, e19, e20, e21, e22, e23, e24, e25, e26, e27, e28, e29, e30, e31, e32, e33, e34, e35, e36, e37, e38, e39, e40, e41, e42, e43, e44, e45, e46, e47, e48, e49, e50, e51, e52, e53, e54, e55, e56, e57, e58, e59, e60, e61]
  replace hL0 := hL0.call (below_drew hb1)
  replace hS := hS.call (below_drew hb1)
  clear e0 e1 e2 e3 e4 e5 e6 e7 e8 e9 e10 e11 e12 e13 e14 e15 e16 e17 e18 e19 e20 e21 e22 e23 e24 e25 e26 e27 e28 e29 e30 e31 e32 e33 e34 e35 e36 e37 e38 e39 e40 e41 e42 e43 e44 e45 e46 e47 e48 e49 e50 e51 e52 e53 e54 e55 e56 e57 e58 e59 e60 e61 hb1 hv fv
  go_upto_region 12 with fail
  refine region_gh (by kernel_rfl) (by kernel_rfl) ?_
  refine lex_seg (gl := []) 6 (by kernel_rfl) ?_
  intro α iα F hF1 hF2
  have hq := GL.seg hF1 hL0
  simp only [fcC, cellsC, and_true, Nat.zero_add, Nat.reduceAdd] at hq
  simp only [List.take_succ_cons, List.take_zero, List.drop_succ_cons, List.drop_zero, List.take_nil, List.drop_nil]
  repeat (go_big_quiet_step (first | fail | (go_at_call 32; with_reducible exact seg_call hF2 I2.out _) | (go_at_call 30; with_reducible exact seg_call hF2 S2.out _) | (go_at_call 33; with_reducible exact seg_call hF2 A1.out _) | (go_at_call 31; with_reducible exact seg_call hF2 M1.out _)))
  refine wpQuiet_nil ?_
  clear hq hF1 hF2 iα F α
  refine lex_new [.int .u64 0, .string ⟨#[]⟩, .bool false, .int .u64 0, .string ⟨#[]⟩] 19 34 34 rfl rfl (of_decide_eq_true (by kernel_rfl)) (by kernel_rfl) rfl new_frac ?_
  simp only [Act.put, List.setIfInBounds_toArray, List.set_cons_succ, List.set_cons_zero]
  refine lex_put [.int .u64 ((zl aw.num : Nat) : Int), .string (zh aw.num), .bool (zs aw.num), .int .u64 ((lo (fe aw) : Nat) : Int), .string (hs (fe aw))] [.int .u64 0, .string ⟨#[]⟩, .bool false, .int .u64 0, .string ⟨#[]⟩] 19 34 (.tmp 144) rfl (by kernel_rfl) (by simp [toG, upd]) rfl (fun w k h => put_frac _ _ _ _ _ _ _ _ _ _ w k h) ?_
  simp only [Act.put]
  refine lexG_nil ?_
  intro κ x16 hS
  replace hL0 := hL0.ghs hS [(19, [.int .u64 ((zl aw.num : Nat) : Int), .string (zh aw.num), .bool (zs aw.num), .int .u64 ((lo (fe aw) : Nat) : Int), .string (hs (fe aw))])] (by simp) (by intro p hp; simp only [List.mem_cons, List.not_mem_nil, or_false] at hp; rcases hp with rfl <;> exact ⟨_, by simp only [toG, upd]; rfl⟩)
  simp only [List.map_cons, List.map_nil, List.cons_append, List.nil_append] at hL0
  simp only [over_toG, over_nil, Act.put, List.setIfInBounds_toArray, List.set_cons_succ, List.set_cons_zero]
  clear hS
  generalize κ 19 = k16_19 at *
  replace hS := SS.nil x16
  go_upto_region 13 with fail
  refine region_gh (by kernel_rfl) (by kernel_rfl) ?_
  refine lex_seg (gl := []) 8 (by kernel_rfl) ?_
  intro α iα F hF1 hF2
  have hq := GL.seg hF1 hL0
  simp only [fcC, cellsC, and_true, Nat.zero_add, Nat.reduceAdd] at hq
  simp only [List.take_succ_cons, List.take_zero, List.drop_succ_cons, List.drop_zero, List.take_nil, List.drop_nil]
  repeat (go_big_quiet_step (first | fail | (go_at_call 32; with_reducible exact seg_call hF2 I2.out _) | (go_at_call 31; with_reducible exact seg_call hF2 M2.out _) | (go_at_call 27; with_reducible exact seg_call hF2 D4.out _)))
  refine wpQuiet_nil ?_
  clear hq hF1 hF2 iα F α
  refine lex_new [.int .u64 0, .string ⟨#[]⟩, .bool false, .int .u64 0, .string ⟨#[]⟩] 20 34 34 rfl rfl (of_decide_eq_true (by kernel_rfl)) (by kernel_rfl) rfl new_frac ?_
  simp only [Act.put, List.setIfInBounds_toArray, List.set_cons_succ, List.set_cons_zero]
  refine lex_put [.int .u64 ((zl tt.num : Nat) : Int), .string (zh tt.num), .bool (zs tt.num), .int .u64 ((lo (fe tt) : Nat) : Int), .string (hs (fe tt))] [.int .u64 0, .string ⟨#[]⟩, .bool false, .int .u64 0, .string ⟨#[]⟩] 20 34 (.tmp 151) rfl (by kernel_rfl) (by simp [toG, upd]) rfl (fun w k h => put_frac _ _ _ _ _ _ _ _ _ _ w k h) ?_
  simp only [Act.put]
  refine lex_seg (gl := [(20, [.int .u64 ((zl tt.num : Nat) : Int), .string (zh tt.num), .bool (zs tt.num), .int .u64 ((lo (fe tt) : Nat) : Int), .string (hs (fe tt))], true), (20, [.int .u64 0, .string ⟨#[]⟩, .bool false, .int .u64 0, .string ⟨#[]⟩], false)]) 1 (by kernel_rfl) ?_
  intro α iα F hF1 hF2
  have hq := GL.seg hF1 hL0
  simp only [fcC, cellsC, and_true, Nat.zero_add, Nat.reduceAdd] at hq
  simp only [List.take_succ_cons, List.take_zero, List.drop_succ_cons, List.drop_zero, List.take_nil, List.drop_nil]
  repeat (go_big_quiet_step (first | fail | (go_at_call 32; with_reducible exact seg_call hF2 I2.out _) | (go_at_call 31; with_reducible exact seg_call hF2 M2.out _) | (go_at_call 27; with_reducible exact seg_call hF2 D4.out _)))
  refine wpQuiet_nil ?_
  clear hq hF1 hF2 iα F α
  refine lexG_nil ?_
  intro κ x17 hS
  replace hL0 := hL0.ghs hS [(20, [.int .u64 ((zl tt.num : Nat) : Int), .string (zh tt.num), .bool (zs tt.num), .int .u64 ((lo (fe tt) : Nat) : Int), .string (hs (fe tt))])] (by simp) (by intro p hp; simp only [List.mem_cons, List.not_mem_nil, or_false] at hp; rcases hp with rfl <;> exact ⟨_, by simp only [toG, upd]; rfl⟩)
  simp only [List.map_cons, List.map_nil, List.cons_append, List.nil_append] at hL0
  simp only [over_toG, over_nil, Act.put, List.setIfInBounds_toArray, List.set_cons_succ, List.set_cons_zero]
  clear hS
  generalize κ 20 = k17_20 at *
  replace hS := SS.nil x17
  rcases ne_fr haw.out with e0 | ⟨e0, e1⟩ | ⟨e0, e1, e2⟩ | ⟨e0, e1, e2, e3⟩ | ⟨e0, e1, e2, e3, e4⟩
  all_goals (
   have hN0 := cells_of _ 0 [] rfl (hL0.get _ _ (List.mem_cons_of_mem _ List.mem_cons_self))
   simp only [cellsF, and_true, Nat.zero_add, Nat.reduceAdd] at hN0
   have hN1 := cells_of _ 0 [] rfl (hL0.get _ _ (List.mem_cons_of_mem _ (List.mem_cons_of_mem _ (List.mem_cons_of_mem _ (List.mem_cons_of_mem _ (List.mem_cons_of_mem _ (List.mem_cons_of_mem _ (List.mem_cons_of_mem _ (List.mem_cons_of_mem _ List.mem_cons_self)))))))))
   simp only [cellsF, and_true, Nat.zero_add, Nat.reduceAdd] at hN1
   go_wp2_with fail
   clear hN0 hN1
   with_reducible refine Calls.mono (C3.out _) ?_
   rintro e x18 ⟨rfl, hb⟩
   replace hL0 := hL0.call hb
   replace hS := hS.call hb
   clear hb
   have hN0 := cells_of _ 0 [] rfl (hL0.get _ _ (List.mem_cons_of_mem _ List.mem_cons_self))
   simp only [cellsF, and_true, Nat.zero_add, Nat.reduceAdd] at hN0
   have hN1 := cells_of _ 0 [] rfl (hL0.get _ _ (List.mem_cons_of_mem _ (List.mem_cons_of_mem _ (List.mem_cons_of_mem _ (List.mem_cons_of_mem _ (List.mem_cons_of_mem _ (List.mem_cons_of_mem _ (List.mem_cons_of_mem _ (List.mem_cons_of_mem _ List.mem_cons_self)))))))))
   simp only [cellsF, and_true, Nat.zero_add, Nat.reduceAdd] at hN1
   go_wp2_with fail
   clear hN0 hN1
   go_loopg [22] 3 (fun gk iv wr => ∃ (i : Nat), 1 ≤ i ∧ i + gk = 4 ∧ iv = .int .i64 (i : Int) ∧ GL w wr [(k17_20, [.int .u64 ((zl tt.num : Nat) : Int), .string (zh tt.num), .bool (zs tt.num), .int .u64 ((lo (fe tt) : Nat) : Int), .string (hs (fe tt))]), (k16_19, [.int .u64 ((zl aw.num : Nat) : Int), .string (zh aw.num), .bool (zs aw.num), .int .u64 ((lo (fe aw) : Nat) : Int), .string (hs (fe aw))]), (x13.heap.size, [.int .u64 ((zl wh.num : Nat) : Int), .string (zh wh.num), .bool (zs wh.num), .int .u64 ((lo (fe wh) : Nat) : Int), .string (hs (fe wh))]), (x11.heap.size, [.int .u64 ((zl y1.num : Nat) : Int), .string (zh y1.num), .bool (zs y1.num), .int .u64 ((lo (fe y1) : Nat) : Int), .string (hs (fe y1))]), (x9.heap.size, [.int .u64 ((zl y1.num : Nat) : Int), .string (zh y1.num), .bool (zs y1.num), .int .u64 ((lo (fe y1) : Nat) : Int), .string (hs (fe y1))]), (x7.heap.size, [.int .u64 ((zl lw.num : Nat) : Int), .string (zh lw.num), .bool (zs lw.num), .int .u64 ((lo (fe lw) : Nat) : Int), .string (hs (fe lw))]), (x5.heap.size + 1, [.int .u64 ((zl lw.num : Nat) : Int), .string (zh lw.num), .bool (zs lw.num), .int .u64 ((lo (fe lw) : Nat) : Int), .string (hs (fe lw))]), (x5.heap.size, [.int .u64 ((zl lw.num : Nat) : Int), .string (zh lw.num), .bool (zs lw.num), .int .u64 ((lo (fe lw) : Nat) : Int), .string (hs (fe lw))]), (x3.heap.size + 1, [.int .u64 ((zl st.num : Nat) : Int), .string (zh st.num), .bool (zs st.num), .int .u64 ((lo (fe st) : Nat) : Int), .string (hs (fe st))]), (x3.heap.size, [.int .u64 ((zl q.num : Nat) : Int), .string (zh q.num), .bool (zs q.num), .int .u64 ((lo (fe q) : Nat) : Int), .string (hs (fe q))]), (w.heap.size, [.bool sx, .slice ax nx cx, .slice qx mx dx])])
   case atStart => exact ⟨1, Nat.le_refl _, by omega, by first | rfl | go_num, hL0⟩
   case round =>
    clear hL0 hS
    obtain ⟨i, hi1, hik, rfl, hL0⟩ := hrel
    have hS := SS.nil wr
    by_cases hin : i < 4
    ·have k1 : (i : Int) ≤ 3 := by omega
     have kb : (i : Int) ≤ 1000000 := by omega
     obtain ⟨r9, HO1, HO2⟩ := HO.out i hi1 (by omega)
     replace HO1 := Lib.hid HO1
     replace HO2 := Lib.hid HO2
     clear hin hi1
     have hN0 := cells_of _ 0 [] rfl (hL0.get _ _ (List.mem_cons_of_mem _ (List.mem_cons_of_mem _ (List.mem_cons_of_mem _ (List.mem_cons_of_mem _ (List.mem_cons_of_mem _ (List.mem_cons_of_mem _ (List.mem_cons_of_mem _ (List.mem_cons_of_mem _ (List.mem_cons_of_mem _ List.mem_cons_self))))))))))
     simp only [cellsF, and_true, Nat.zero_add, Nat.reduceAdd] at hN0
     go_wp2_with fail
     clear hN0
     with_reducible refine Calls.mono (HO1.out _) ?_
     rintro e x19 ⟨rfl, hb⟩
     replace hL0 := hL0.call hb
     replace hS := hS.call hb
     clear hb
     replace hS := (hS.new (.cells #[.int .u64 ((zl r9.num : Nat) : Int), .string (zh r9.num), .bool (zs r9.num), .int .u64 ((lo (fe r9) : Nat) : Int), .string (hs (fe r9))] 34))
     replace hL0 := (hL0.new rfl [.int .u64 ((zl r9.num : Nat) : Int), .string (zh r9.num), .bool (zs r9.num), .int .u64 ((lo (fe r9) : Nat) : Int), .string (hs (fe r9))] 34)
     generalize hweq : (x19.alloc (.cells #[.int .u64 ((zl r9.num : Nat) : Int), .string (zh r9.num), .bool (zs r9.num), .int .u64 ((lo (fe r9) : Nat) : Int), .string (hs (fe r9))] 34)) = x20 at hL0 hS
     have hN0 := cells_of _ 0 [] rfl (hL0.get _ _ List.mem_cons_self)
     simp only [cellsF, and_true, Nat.zero_add, Nat.reduceAdd] at hN0
     go_wp2_with fail
     clear hN0
     with_reducible refine Calls.mono (HO2.out _) ?_
     rintro e x21 ⟨rfl, hb⟩
     replace hL0 := hL0.call hb
     replace hS := hS.call hb
     clear hb hweq
     replace hS := (hS.new (.cells #[.int .u64 ((zl r9.num : Nat) : Int), .string (zh r9.num), .bool (zs r9.num), .int .u64 ((lo (fe r9) : Nat) : Int), .string (hs (fe r9))] 34))
     replace hL0 := (hL0.new rfl [.int .u64 ((zl r9.num : Nat) : Int), .string (zh r9.num), .bool (zs r9.num), .int .u64 ((lo (fe r9) : Nat) : Int), .string (hs (fe r9))] 34)
     generalize hweq : (x21.alloc (.cells #[.int .u64 ((zl r9.num : Nat) : Int), .string (zh r9.num), .bool (zs r9.num), .int .u64 ((lo (fe r9) : Nat) : Int), .string (hs (fe r9))] 34)) = x22 at hL0 hS
     have hN0 := cells_of _ 0 [] rfl (hL0.get _ _ List.mem_cons_self)
     simp only [cellsF, and_true, Nat.zero_add, Nat.reduceAdd] at hN0
     have hN1 := cells_of _ 0 [] rfl (hL0.get _ _ (List.mem_cons_of_mem _ List.mem_cons_self))
     simp only [cellsF, and_true, Nat.zero_add, Nat.reduceAdd] at hN1
     go_wp2_with fail
     go_roundg (gk - 1)
     case measure => omega
     case rel => exact ⟨i + 1, by omega, by omega, by first | rfl | go_num, hL0.weak (List.Sublist.cons _ (List.Sublist.cons _ (List.Sublist.refl _)))⟩
    ·have k1 : ¬ (i : Int) ≤ 3 := by omega
     go_wp2_with fail
     with_reducible refine Calls.mono (HW.out _ (hKT.out.at hL0.bl kKT)) ?_
     rintro e x19 ⟨rfl, hb⟩
     replace hL0 := hL0.call hb
     replace hS := hS.call hb
     clear hb
     go_wp2_with fail
     exact bodyPost_ret (v := .bool true) (by simp [results, Tryz.results6, go_sem]) rfl ⟨rfl, hL0.bl⟩)
end Go.Proofs.YtahfcciihkkegaaGreatDoor
namespace Go.Proofs.YtahfcciihkkegaaGreatDoor
open Go.RowKit
attribute [local irreducible] lo hs sm s64 c64 d64 b64 mh ml pd pc qd qc val hiB str cmpI srD lz nb isq decB zl zh zs fe
set_option maxHeartbeats 4000000 in
set_option maxRecDepth 100000 in
theorem dbetween_low (sx : Bool) (ax qx : Option Addr) (nx cx mx dx : Nat) (p8 n i1 j1 k3 : Int) (q st lw hg z1 y1 wh tw dd ab aw s2 tt : Rat) (Kx : World → Prop) (hKx : Keeps Kx) (GX : ∀ w, Kx w → Calls Tryz.prog 13 #[.agg #[.bool sx, .slice ax nx cx, .slice qx mx dx]] w fun xe w' => xe = .returned (fracV q) ∧ Below w.heap.size w w') (HP : ∀ w, Calls Tryz.prog 25 #[.int .i64 n] w fun xe w' => xe = .returned (fracV st) ∧ Below w.heap.size w w') (HB : ∀ w, Calls Tryz.prog 26 #[fracV q, .int .i64 n] w fun xe w' => xe = .returned (.tuple #[fracV lw, fracV hg, .int .i64 0]) ∧ Below w.heap.size w w') (HR : ∀ w, Calls Tryz.prog 12 #[fracV q, .int .i64 n, .int .i64 3] w fun xe w' => xe = .returned (.tuple #[fracV lw, .int .i64 0]) ∧ Below w.heap.size w w') (D1 : ∀ w, Calls Tryz.prog 27 #[fracV lw, fracV st] w fun xe w' => xe = .returned (.tuple #[fracV y1, .int .i64 0]) ∧ Below w.heap.size w w') (D2 : ∀ w, Calls Tryz.prog 27 #[fracV hg, fracV st] w fun xe w' => xe = .returned (.tuple #[fracV z1, .int .i64 0]) ∧ Below w.heap.size w w') (D3 : ∀ w, Calls Tryz.prog 27 #[fracV q, fracV st] w fun xe w' => xe = .returned (.tuple #[fracV wh, .int .i64 0]) ∧ Below w.heap.size w w') (W1 : ∀ w, Calls Tryz.prog 28 #[fracV y1] w fun xe w' => xe = .returned (.bool true) ∧ Below w.heap.size w w') (W2 : ∀ w, Calls Tryz.prog 28 #[fracV z1] w fun xe w' => xe = .returned (.bool true) ∧ Below w.heap.size w w') (C1 : ∀ w, Calls Tryz.prog 29 #[fracV lw, fracV q] w fun xe w' => xe = .returned (.int .i64 i1) ∧ Below w.heap.size w w') (C2 : ∀ w, Calls Tryz.prog 29 #[fracV hg, fracV q] w fun xe w' => xe = .returned (.int .i64 j1) ∧ Below w.heap.size w w') (W3 : ∀ w, Calls Tryz.prog 28 #[fracV wh] w fun xe w' => xe = .returned (.bool false) ∧ Below w.heap.size w w') (S1 : ∀ w, Calls Tryz.prog 30 #[fracV hg, fracV lw] w fun xe w' => xe = .returned (fracV st) ∧ Below w.heap.size w w') (I2 : ∀ w, Calls Tryz.prog 32 #[.int .i64 2] w fun xe w' => xe = .returned (fracV tw) ∧ Below w.heap.size w w') (S2 : ∀ w, Calls Tryz.prog 30 #[fracV lw, fracV q] w fun xe w' => xe = .returned (fracV dd) ∧ Below w.heap.size w w') (A1 : ∀ w, Calls Tryz.prog 33 #[fracV dd] w fun xe w' => xe = .returned (fracV ab) ∧ Below w.heap.size w w') (M1 : ∀ w, Calls Tryz.prog 31 #[fracV tw, fracV ab] w fun xe w' => xe = .returned (fracV aw) ∧ Below w.heap.size w w') (M2 : ∀ w, Calls Tryz.prog 31 #[fracV tw, fracV st] w fun xe w' => xe = .returned (fracV s2) ∧ Below w.heap.size w w') (D4 : ∀ w, Calls Tryz.prog 27 #[fracV lw, fracV s2] w fun xe w' => xe = .returned (.tuple #[fracV tt, .int .i64 0]) ∧ Below w.heap.size w w') (C3 : ∀ w, Calls Tryz.prog 29 #[fracV aw, fracV st] w fun xe w' => xe = .returned (.int .i64 k3) ∧ Below w.heap.size w w') (KT : World → Prop) (hKT : Keeps KT) (HW : ∀ w, KT w → Calls Tryz.prog 11 #[] w fun xe w' => xe = .returned (.bool true) ∧ Below w.heap.size w w') (l0 : decide ((6 : Int) < ((nx : Nat) : Int)) = false) (k0 : decide (6 < nx) = false) (l1 : decide ((6 : Int) < ((mx : Nat) : Int)) = false) (k1 : decide (6 < mx) = false) (hw : IntKind.i64.wrap p8 = p8) (hn : p8.tmod 101 = n) (g1 : decide (0 < i1) = false) (g2 : decide (j1 < 0) = false) (g3 : decide (0 < k3) = false) (HO : ∀ i : Nat, 1 ≤ i → i ≤ 3 → ∃ r : Rat, (∀ w, Calls Tryz.prog 12 #[fracV q, .int .i64 n, .int .i64 (i : Int)] w fun xe w' => xe = .returned (.tuple #[fracV r, .int .i64 0]) ∧ Below w.heap.size w w') ∧ (∀ w, Calls Tryz.prog 12 #[fracV r, .int .i64 n, .int .i64 (i : Int)] w fun xe w' => xe = .returned (.tuple #[fracV r, .int .i64 0]) ∧ Below w.heap.size w w')) (hlh : lw ≠ hg) (W4 : aw = st → ∀ w, Calls Tryz.prog 28 #[fracV tt] w fun xe w' => xe = .returned (.bool true) ∧ Below w.heap.size w w') (w : World) (kKx : Kx w) (kKT : KT w) :
  Calls Tryz.prog 6 #[.agg #[.bool sx, .slice ax nx cx, .slice qx mx dx], .int .u8 p8] w fun e w' => e = .returned (.bool true) ∧ Below w.heap.size w w' := by
 replace hKx := Lib.hid hKx
 replace GX := Lib.hid GX
 replace HP := Lib.hid HP
 replace HB := Lib.hid HB
 replace HR := Lib.hid HR
 replace D1 := Lib.hid D1
 replace D2 := Lib.hid D2
 replace D3 := Lib.hid D3
 replace W1 := Lib.hid W1
 replace W2 := Lib.hid W2
 replace C1 := Lib.hid C1
 replace C2 := Lib.hid C2
 replace W3 := Lib.hid W3
 replace S1 := Lib.hid S1
 replace I2 := Lib.hid I2
 replace S2 := Lib.hid S2
 replace A1 := Lib.hid A1
 replace M1 := Lib.hid M1
 replace M2 := Lib.hid M2
 replace D4 := Lib.hid D4
 replace C3 := Lib.hid C3
 replace hKT := Lib.hid hKT
 replace HW := Lib.hid HW
 have hL0 : GL w w [] := GL.start w
 have hS : SS w [] := SS.nil w
 replace HO := Lib.hid HO
 have G1 : i1 ≤ 0 := by have := of_decide_eq_false g1; omega
 have G2 : 0 ≤ j1 := by have := of_decide_eq_false g2; omega
 replace hlh := Lib.hid hlh
 replace W4 := Lib.hid W4
 replace hS := (hS.new (.cells #[.bool sx, .slice ax nx cx, .slice qx mx dx] 26))
 replace hL0 := (hL0.new rfl [.bool sx, .slice ax nx cx, .slice qx mx dx] 26)
 generalize hweq : (w.alloc (.cells #[.bool sx, .slice ax nx cx, .slice qx mx dx] 26)) = x1 at hL0 hS
 go_enter Tryz.func6, Tryz.ntmps6
 have hN0 := cells_of _ 0 [] rfl (hL0.get _ _ List.mem_cons_self)
 simp only [cellsF, and_true, Nat.zero_add, Nat.reduceAdd] at hN0
 go_wp2_with fail
 clear hN0
 with_reducible refine Calls.mono (GX.out _ (hKx.out.at hL0.bl kKx)) ?_
 rintro e x2 ⟨rfl, hb⟩
 replace hL0 := hL0.call hb
 replace hS := hS.call hb
 clear hb hweq
 go_wp2_with fail
 with_reducible refine Calls.mono (HP.out _) ?_
 rintro e x3 ⟨rfl, hb⟩
 replace hL0 := hL0.call hb
 replace hS := hS.call hb
 clear hb
 replace hS := ((hS.new (.cells #[.int .u64 ((zl q.num : Nat) : Int), .string (zh q.num), .bool (zs q.num), .int .u64 ((lo (fe q) : Nat) : Int), .string (hs (fe q))] 34)).new (.cells #[.int .u64 ((zl st.num : Nat) : Int), .string (zh st.num), .bool (zs st.num), .int .u64 ((lo (fe st) : Nat) : Int), .string (hs (fe st))] 34))
 replace hL0 := ((hL0.new rfl [.int .u64 ((zl q.num : Nat) : Int), .string (zh q.num), .bool (zs q.num), .int .u64 ((lo (fe q) : Nat) : Int), .string (hs (fe q))] 34).new (K := x3.heap.size + 1) (szA _ _) [.int .u64 ((zl st.num : Nat) : Int), .string (zh st.num), .bool (zs st.num), .int .u64 ((lo (fe st) : Nat) : Int), .string (hs (fe st))] 34)
 generalize hweq : ((x3.alloc (.cells #[.int .u64 ((zl q.num : Nat) : Int), .string (zh q.num), .bool (zs q.num), .int .u64 ((lo (fe q) : Nat) : Int), .string (hs (fe q))] 34)).alloc (.cells #[.int .u64 ((zl st.num : Nat) : Int), .string (zh st.num), .bool (zs st.num), .int .u64 ((lo (fe st) : Nat) : Int), .string (hs (fe st))] 34)) = x4 at hL0 hS
 have hN0 := cells_of _ 0 [] rfl (hL0.get _ _ (List.mem_cons_of_mem _ List.mem_cons_self))
 simp only [cellsF, and_true, Nat.zero_add, Nat.reduceAdd] at hN0
 go_wp2_with fail
 clear hN0
 with_reducible refine Calls.mono (HB.out _) ?_
 rintro e x5 ⟨rfl, hb⟩
 replace hL0 := hL0.call hb
 replace hS := hS.call hb
 clear hb hweq
 replace hS := ((hS.new (.cells #[.int .u64 ((zl lw.num : Nat) : Int), .string (zh lw.num), .bool (zs lw.num), .int .u64 ((lo (fe lw) : Nat) : Int), .string (hs (fe lw))] 34)).new (.cells #[.int .u64 ((zl hg.num : Nat) : Int), .string (zh hg.num), .bool (zs hg.num), .int .u64 ((lo (fe hg) : Nat) : Int), .string (hs (fe hg))] 34))
 replace hL0 := ((hL0.new rfl [.int .u64 ((zl lw.num : Nat) : Int), .string (zh lw.num), .bool (zs lw.num), .int .u64 ((lo (fe lw) : Nat) : Int), .string (hs (fe lw))] 34).new (K := x5.heap.size + 1) (szA _ _) [.int .u64 ((zl hg.num : Nat) : Int), .string (zh hg.num), .bool (zs hg.num), .int .u64 ((lo (fe hg) : Nat) : Int), .string (hs (fe hg))] 34)
 generalize hweq : ((x5.alloc (.cells #[.int .u64 ((zl lw.num : Nat) : Int), .string (zh lw.num), .bool (zs lw.num), .int .u64 ((lo (fe lw) : Nat) : Int), .string (hs (fe lw))] 34)).alloc (.cells #[.int .u64 ((zl hg.num : Nat) : Int), .string (zh hg.num), .bool (zs hg.num), .int .u64 ((lo (fe hg) : Nat) : Int), .string (hs (fe hg))] 34)) = x6 at hL0 hS
 have hN0 := cells_of _ 0 [] rfl (hL0.get _ _ (List.mem_cons_of_mem _ (List.mem_cons_of_mem _ (List.mem_cons_of_mem _ List.mem_cons_self))))
 simp only [cellsF, and_true, Nat.zero_add, Nat.reduceAdd] at hN0
 go_wp2_with fail
 clear hN0
 with_reducible refine Calls.mono (HR.out _) ?_
 rintro e x7 ⟨rfl, hb⟩
 replace hL0 := hL0.call hb
 replace hS := hS.call hb
 clear hb hweq
 replace hS := (hS.new (.cells #[.int .u64 ((zl lw.num : Nat) : Int), .string (zh lw.num), .bool (zs lw.num), .int .u64 ((lo (fe lw) : Nat) : Int), .string (hs (fe lw))] 34))
 replace hL0 := (hL0.new rfl [.int .u64 ((zl lw.num : Nat) : Int), .string (zh lw.num), .bool (zs lw.num), .int .u64 ((lo (fe lw) : Nat) : Int), .string (hs (fe lw))] 34)
 generalize hweq : (x7.alloc (.cells #[.int .u64 ((zl lw.num : Nat) : Int), .string (zh lw.num), .bool (zs lw.num), .int .u64 ((lo (fe lw) : Nat) : Int), .string (hs (fe lw))] 34)) = x8 at hL0 hS
 have hN0 := cells_of _ 0 [] rfl (hL0.get _ _ (List.mem_cons_of_mem _ (List.mem_cons_of_mem _ List.mem_cons_self)))
 simp only [cellsF, and_true, Nat.zero_add, Nat.reduceAdd] at hN0
 have hN1 := cells_of _ 0 [] rfl (hL0.get _ _ (List.mem_cons_of_mem _ (List.mem_cons_of_mem _ (List.mem_cons_of_mem _ List.mem_cons_self))))
 simp only [cellsF, and_true, Nat.zero_add, Nat.reduceAdd] at hN1
 go_wp2_with fail
 clear hN0 hN1
 with_reducible refine Calls.mono (D1.out _) ?_
 rintro e x9 ⟨rfl, hb⟩
 replace hL0 := hL0.call hb
 replace hS := hS.call hb
 clear hb hweq
 replace hS := (hS.new (.cells #[.int .u64 ((zl y1.num : Nat) : Int), .string (zh y1.num), .bool (zs y1.num), .int .u64 ((lo (fe y1) : Nat) : Int), .string (hs (fe y1))] 34))
 replace hL0 := (hL0.new rfl [.int .u64 ((zl y1.num : Nat) : Int), .string (zh y1.num), .bool (zs y1.num), .int .u64 ((lo (fe y1) : Nat) : Int), .string (hs (fe y1))] 34)
 generalize hweq : (x9.alloc (.cells #[.int .u64 ((zl y1.num : Nat) : Int), .string (zh y1.num), .bool (zs y1.num), .int .u64 ((lo (fe y1) : Nat) : Int), .string (hs (fe y1))] 34)) = x10 at hL0 hS
 have hN0 := cells_of _ 0 [] rfl (hL0.get _ _ (List.mem_cons_of_mem _ (List.mem_cons_of_mem _ List.mem_cons_self)))
 simp only [cellsF, and_true, Nat.zero_add, Nat.reduceAdd] at hN0
 have hN1 := cells_of _ 0 [] rfl (hL0.get _ _ (List.mem_cons_of_mem _ (List.mem_cons_of_mem _ (List.mem_cons_of_mem _ (List.mem_cons_of_mem _ List.mem_cons_self)))))
 simp only [cellsF, and_true, Nat.zero_add, Nat.reduceAdd] at hN1
 go_wp2_with fail
 clear hN0 hN1
 with_reducible refine Calls.mono (D2.out _) ?_
 rintro e x11 ⟨rfl, hb⟩
 replace hL0 := hL0.call hb
 replace hS := hS.call hb
 clear hb hweq
 replace hS := (hS.new (.cells #[.int .u64 ((zl z1.num : Nat) : Int), .string (zh z1.num), .bool (zs z1.num), .int .u64 ((lo (fe z1) : Nat) : Int), .string (hs (fe z1))] 34))
 replace hL0 := (hL0.new rfl [.int .u64 ((zl z1.num : Nat) : Int), .string (zh z1.num), .bool (zs z1.num), .int .u64 ((lo (fe z1) : Nat) : Int), .string (hs (fe z1))] 34)
 generalize hweq : (x11.alloc (.cells #[.int .u64 ((zl z1.num : Nat) : Int), .string (zh z1.num), .bool (zs z1.num), .int .u64 ((lo (fe z1) : Nat) : Int), .string (hs (fe z1))] 34)) = x12 at hL0 hS
 have hN0 := cells_of _ 0 [] rfl (hL0.get _ _ (List.mem_cons_of_mem _ (List.mem_cons_of_mem _ (List.mem_cons_of_mem _ (List.mem_cons_of_mem _ (List.mem_cons_of_mem _ List.mem_cons_self))))))
 simp only [cellsF, and_true, Nat.zero_add, Nat.reduceAdd] at hN0
 have hN1 := cells_of _ 0 [] rfl (hL0.get _ _ (List.mem_cons_of_mem _ (List.mem_cons_of_mem _ (List.mem_cons_of_mem _ (List.mem_cons_of_mem _ (List.mem_cons_of_mem _ (List.mem_cons_of_mem _ List.mem_cons_self)))))))
 simp only [cellsF, and_true, Nat.zero_add, Nat.reduceAdd] at hN1
 go_wp2_with fail
 clear hN0 hN1
 with_reducible refine Calls.mono (D3.out _) ?_
 rintro e x13 ⟨rfl, hb⟩
 replace hL0 := hL0.call hb
 replace hS := hS.call hb
 clear hb hweq
 replace hS := (hS.new (.cells #[.int .u64 ((zl wh.num : Nat) : Int), .string (zh wh.num), .bool (zs wh.num), .int .u64 ((lo (fe wh) : Nat) : Int), .string (hs (fe wh))] 34))
 replace hL0 := (hL0.new rfl [.int .u64 ((zl wh.num : Nat) : Int), .string (zh wh.num), .bool (zs wh.num), .int .u64 ((lo (fe wh) : Nat) : Int), .string (hs (fe wh))] 34)
 generalize hweq : (x13.alloc (.cells #[.int .u64 ((zl wh.num : Nat) : Int), .string (zh wh.num), .bool (zs wh.num), .int .u64 ((lo (fe wh) : Nat) : Int), .string (hs (fe wh))] 34)) = x14 at hL0 hS
 go_upto_region 10 with fail
 clear hweq
 refine region_tl 62 [EV (.int .i64 0), EV (.bool false), EV (.bool false), EV (.int .i64 0), EV (.bool false), EV (.bool false), EV (.bool false), EV (.int .i64 0), EV (.bool false), EV (.bool false), EV (.bool false), EV (.agg #[.int .u64 ((zl y1.num : Nat) : Int), .string (zh y1.num), .bool (zs y1.num), .int .u64 ((lo (fe y1) : Nat) : Int), .string (hs (fe y1))]), EV (.bool true), EV (.bool false), EV (.bool false), EV (.bool false), EV (.agg #[.int .u64 ((zl z1.num : Nat) : Int), .string (zh z1.num), .bool (zs z1.num), .int .u64 ((lo (fe z1) : Nat) : Int), .string (hs (fe z1))]), EV (.bool true), EV (.bool false), EV (.bool false), EV (.bool false), EV (.agg #[.int .u64 ((zl lw.num : Nat) : Int), .string (zh lw.num), .bool (zs lw.num), .int .u64 ((lo (fe lw) : Nat) : Int), .string (hs (fe lw))]), EV (.agg #[.int .u64 ((zl q.num : Nat) : Int), .string (zh q.num), .bool (zs q.num), .int .u64 ((lo (fe q) : Nat) : Int), .string (hs (fe q))]), EV (.int .i64 i1), EV (.bool false), EV (.bool false), EV (.bool false), EV (.agg #[.int .u64 ((zl hg.num : Nat) : Int), .string (zh hg.num), .bool (zs hg.num), .int .u64 ((lo (fe hg) : Nat) : Int), .string (hs (fe hg))]), EV (.agg #[.int .u64 ((zl q.num : Nat) : Int), .string (zh q.num), .bool (zs q.num), .int .u64 ((lo (fe q) : Nat) : Int), .string (hs (fe q))]), EV (.int .i64 j1), EV (.bool false), EV (.bool false), EV (.bool false), EV (.agg #[.int .u64 ((zl lw.num : Nat) : Int), .string (zh lw.num), .bool (zs lw.num), .int .u64 ((lo (fe lw) : Nat) : Int), .string (hs (fe lw))]), EV (.agg #[.int .u64 ((zl hg.num : Nat) : Int), .string (zh hg.num), .bool (zs hg.num), .int .u64 ((lo (fe hg) : Nat) : Int), .string (hs (fe hg))]), EV (.bool false), EV (.agg #[.int .u64 ((zl wh.num : Nat) : Int), .string (zh wh.num), .bool (zs wh.num), .int .u64 ((lo (fe wh) : Nat) : Int), .string (hs (fe wh))]), EV (.bool false), EV (.bool false), EV (.bool false), EV (.bool false), EV (.agg #[.int .u64 ((zl lw.num : Nat) : Int), .string (zh lw.num), .bool (zs lw.num), .int .u64 ((lo (fe lw) : Nat) : Int), .string (hs (fe lw))]), EV (.agg #[.int .u64 ((zl hg.num : Nat) : Int), .string (zh hg.num), .bool (zs hg.num), .int .u64 ((lo (fe hg) : Nat) : Int), .string (hs (fe hg))]), EV (.bool true), EV (.bool true), EV (.agg #[.int .u64 ((zl hg.num : Nat) : Int), .string (zh hg.num), .bool (zs hg.num), .int .u64 ((lo (fe hg) : Nat) : Int), .string (hs (fe hg))]), EV (.agg #[.int .u64 ((zl lw.num : Nat) : Int), .string (zh lw.num), .bool (zs lw.num), .int .u64 ((lo (fe lw) : Nat) : Int), .string (hs (fe lw))]), EV (.agg #[.int .u64 ((zl st.num : Nat) : Int), .string (zh st.num), .bool (zs st.num), .int .u64 ((lo (fe st) : Nat) : Int), .string (hs (fe st))]), EV (.agg #[.int .u64 ((zl st.num : Nat) : Int), .string (zh st.num), .bool (zs st.num), .int .u64 ((lo (fe st) : Nat) : Int), .string (hs (fe st))]), EV (.bool false), EV (.bool false), EV (.bool false), EV (.bool false), EV (.agg #[.int .u64 ((zl lw.num : Nat) : Int), .string (zh lw.num), .bool (zs lw.num), .int .u64 ((lo (fe lw) : Nat) : Int), .string (hs (fe lw))]), EV (.agg #[.int .u64 ((zl lw.num : Nat) : Int), .string (zh lw.num), .bool (zs lw.num), .int .u64 ((lo (fe lw) : Nat) : Int), .string (hs (fe lw))]), EV (.bool false), EV (.bool false), EV undef, EV undef, EV undef, EV (.bool false), EV (.bool false)] (by kernel_rfl) (by kernel_rfl) ?_ ?_ ?_
 ·exact stays_cons (stays_eq _) (stays_cons (stays_eq _) (stays_cons (stays_eq _) (stays_cons (stays_eq _) (stays_cons (stays_eq _) (stays_cons (stays_eq _) (stays_cons (stays_eq _) (stays_cons (stays_eq _) (stays_cons (stays_eq _) (stays_cons (stays_eq _) (stays_cons (stays_eq _) (stays_cons (stays_eq _) (stays_cons (stays_eq _) (stays_cons (stays_eq _) (stays_cons (stays_eq _) (stays_cons (stays_eq _) (stays_cons (stays_eq _) (stays_cons (stays_eq _) (stays_cons (stays_eq _) (stays_cons (stays_eq _) (stays_cons (stays_eq _) (stays_cons (stays_eq _) (stays_cons (stays_eq _) (stays_cons (stays_eq _) (stays_cons (stays_eq _) (stays_cons (stays_eq _) (stays_cons (stays_eq _) (stays_cons (stays_eq _) (stays_cons (stays_eq _) (stays_cons (stays_eq _) (stays_cons (stays_eq _) (stays_cons (stays_eq _) (stays_cons (stays_eq _) (stays_cons (stays_eq _) (stays_cons (stays_eq _) (stays_cons (stays_eq _) (stays_cons (stays_eq _) (stays_cons (stays_eq _) (stays_cons (stays_eq _) (stays_cons (stays_eq _) (stays_cons (stays_eq _) (stays_cons (stays_eq _) (stays_cons (stays_eq _) (stays_cons (stays_eq _) (stays_cons (stays_eq _) (stays_cons (stays_eq _) (stays_cons (stays_eq _) (stays_cons (stays_eq _) (stays_cons (stays_eq _) (stays_cons (stays_eq _) (stays_cons (stays_eq _) (stays_cons (stays_eq _) (stays_cons (stays_eq _) (stays_cons (stays_eq _) (stays_cons (stays_eq _) (stays_cons (stays_eq _) (stays_cons (stays_eq _) (stays_cons (stays_eq _) (stays_cons (stays_eq _) (stays_cons (stays_eq _) (stays_cons (stays_eq _) (stays_cons (stays_eq _) (stays_nil))))))))))))))))))))))))))))))))))))))))))))))))))))))))))))))
 ·simp only [List.take_succ_cons, List.take_zero, hopsR, and_true]
  refine ⟨?_, ?_, ?_, ?_, ?_, ?_, ?_, ?_, ?_, ?_, ?_, ?_, ?_, ?_, ?_, ?_, ?_, ?_, ?_, ?_, ?_, ?_, ?_, ?_, ?_, ?_, ?_, ?_, ?_, ?_, ?_, ?_, ?_, ?_, ?_, ?_, ?_, ?_, ?_, ?_, ?_, ?_, ?_, ?_, ?_, ?_, ?_, ?_, ?_, ?_, ?_, ?_, ?_, ?_, ?_, ?_, ?_, ?_, ?_, ?_, ?_, ?_⟩ <;> intro fv w1 hb1 hp
  all_goals (simp only [putsV, Act.put, List.setIfInBounds_toArray, List.set_cons_succ, List.set_cons_zero, Nat.zero_add, Nat.reduceAdd])
  ·refine tyAt_none rfl ?_
   simp [tyUpon, execOp, go_sem, Act.eval, G1, G2, Below.refl]
  ·have h0 : EV _ (fv 0) w1 := hp 0 (LC (by kernel_rfl))
   refine tyAt_none rfl ?_
   simp [tyUpon, execOp, go_sem, Act.eval, h0, G1, G2, Below.refl]
  ·have h1 : EV _ (fv 1) w1 := hp 1 (LC (by kernel_rfl))
   refine tyAt_none rfl ?_
   simp [tyUpon, execOp, go_sem, Act.eval, h1, G1, G2, Below.refl]
  ·have h2 : EV _ (fv 2) w1 := hp 2 (LC (by kernel_rfl))
   refine tyAt_yes (by simp [Region.wanted, yielded, h2]) ?_
   simp [tyUpon, execOp, go_sem, Act.eval, h2, G1, G2, Below.refl]
  ·have h3 : EV _ (fv 3) w1 := hp 3 (LC (by kernel_rfl))
   have h2 : EV _ (fv 2) w1 := hp 2 (LC (by kernel_rfl))
   refine tyAt_yes (by simp [Region.wanted, yielded, h3, h2]) ?_
   simp [tyUpon, execOp, go_sem, Act.eval, h3, h2, G1, G2, Below.refl]
  ·have h2 : EV _ (fv 2) w1 := hp 2 (LC (by kernel_rfl))
   have h4 : EV _ (fv 4) w1 := hp 4 (LC (by kernel_rfl))
   refine tyAt_none rfl ?_
   simp [tyUpon, execOp, go_sem, Act.eval, h2, h4, G1, G2, Below.refl]
  ·have h5 : EV _ (fv 5) w1 := hp 5 (LC (by kernel_rfl))
   refine tyAt_none rfl ?_
   simp [tyUpon, execOp, go_sem, Act.eval, h5, G1, G2, Below.refl]
  ·have h6 : EV _ (fv 6) w1 := hp 6 (LC (by kernel_rfl))
   refine tyAt_yes (by simp [Region.wanted, yielded, h6]) ?_
   simp [tyUpon, execOp, go_sem, Act.eval, h6, G1, G2, Below.refl]
  ·have h7 : EV _ (fv 7) w1 := hp 7 (LC (by kernel_rfl))
   have h6 : EV _ (fv 6) w1 := hp 6 (LC (by kernel_rfl))
   refine tyAt_yes (by simp [Region.wanted, yielded, h7, h6]) ?_
   simp [tyUpon, execOp, go_sem, Act.eval, h7, h6, G1, G2, Below.refl]
  ·have h6 : EV _ (fv 6) w1 := hp 6 (LC (by kernel_rfl))
   have h8 : EV _ (fv 8) w1 := hp 8 (LC (by kernel_rfl))
   refine tyAt_none rfl ?_
   simp [tyUpon, execOp, go_sem, Act.eval, h6, h8, G1, G2, Below.refl]
  ·have h9 : EV _ (fv 9) w1 := hp 9 (LC (by kernel_rfl))
   refine tyAt_none rfl ?_
   simp [tyUpon, execOp, go_sem, Act.eval, h9, G1, G2, Below.refl]
  ·have h10 : EV _ (fv 10) w1 := hp 10 (LC (by kernel_rfl))
   refine tyAt_yes (by simp [Region.wanted, yielded, h10]) ?_
   have hc := (hL0.call (below_drew hb1)).fc
   simp only [fcG, cellsF, neK, and_true, ne_eq, Nat.zero_add, Nat.reduceAdd] at hc
   simp [tyUpon, execOp, go_sem, Act.eval, hc, h10, G1, G2, Below.refl]
  ·have h11 : EV _ (fv 11) w1 := hp 11 (LC (by kernel_rfl))
   have h10 : EV _ (fv 10) w1 := hp 10 (LC (by kernel_rfl))
   refine tyAt_yes (by simp [Region.wanted, yielded, h11, h10]) ?_
   refine ty_call (f := 28) (args := #[.agg #[.int .u64 ((zl y1.num : Nat) : Int), .string (zh y1.num), .bool (zs y1.num), .int .u64 ((lo (fe y1) : Nat) : Int), .string (hs (fe y1))]]) (by simp [execOp, go_sem, Act.eval, h11, h10]) ?_
   exact (W1.out w1).mono fun e w2 ⟨h1, h2⟩ => ⟨_, h1, rfl, h2⟩
  ·have h12 : EV _ (fv 12) w1 := hp 12 (LC (by kernel_rfl))
   have h10 : EV _ (fv 10) w1 := hp 10 (LC (by kernel_rfl))
   refine tyAt_yes (by simp [Region.wanted, yielded, h12, h10]) ?_
   simp [tyUpon, execOp, go_sem, Act.eval, h12, h10, G1, G2, Below.refl]
  ·have h10 : EV _ (fv 10) w1 := hp 10 (LC (by kernel_rfl))
   have h13 : EV _ (fv 13) w1 := hp 13 (LC (by kernel_rfl))
   refine tyAt_none rfl ?_
   simp [tyUpon, execOp, go_sem, Act.eval, h10, h13, G1, G2, Below.refl]
  ·have h14 : EV _ (fv 14) w1 := hp 14 (LC (by kernel_rfl))
   refine tyAt_none rfl ?_
   simp [tyUpon, execOp, go_sem, Act.eval, h14, G1, G2, Below.refl]
  ·have h15 : EV _ (fv 15) w1 := hp 15 (LC (by kernel_rfl))
   refine tyAt_yes (by simp [Region.wanted, yielded, h15]) ?_
   have hc := (hL0.call (below_drew hb1)).fc
   simp only [fcG, cellsF, neK, and_true, ne_eq, Nat.zero_add, Nat.reduceAdd] at hc
   simp [tyUpon, execOp, go_sem, Act.eval, hc, h15, G1, G2, Below.refl]
  ·have h16 : EV _ (fv 16) w1 := hp 16 (LC (by kernel_rfl))
   have h15 : EV _ (fv 15) w1 := hp 15 (LC (by kernel_rfl))
   refine tyAt_yes (by simp [Region.wanted, yielded, h16, h15]) ?_
   refine ty_call (f := 28) (args := #[.agg #[.int .u64 ((zl z1.num : Nat) : Int), .string (zh z1.num), .bool (zs z1.num), .int .u64 ((lo (fe z1) : Nat) : Int), .string (hs (fe z1))]]) (by simp [execOp, go_sem, Act.eval, h16, h15]) ?_
   exact (W2.out w1).mono fun e w2 ⟨h1, h2⟩ => ⟨_, h1, rfl, h2⟩
  ·have h17 : EV _ (fv 17) w1 := hp 17 (LC (by kernel_rfl))
   have h15 : EV _ (fv 15) w1 := hp 15 (LC (by kernel_rfl))
   refine tyAt_yes (by simp [Region.wanted, yielded, h17, h15]) ?_
   simp [tyUpon, execOp, go_sem, Act.eval, h17, h15, G1, G2, Below.refl]
  ·have h15 : EV _ (fv 15) w1 := hp 15 (LC (by kernel_rfl))
   have h18 : EV _ (fv 18) w1 := hp 18 (LC (by kernel_rfl))
   refine tyAt_none rfl ?_
   simp [tyUpon, execOp, go_sem, Act.eval, h15, h18, G1, G2, Below.refl]
  ·have h19 : EV _ (fv 19) w1 := hp 19 (LC (by kernel_rfl))
   refine tyAt_none rfl ?_
   simp [tyUpon, execOp, go_sem, Act.eval, h19, G1, G2, Below.refl]
  ·have h20 : EV _ (fv 20) w1 := hp 20 (LC (by kernel_rfl))
   refine tyAt_yes (by simp [Region.wanted, yielded, h20]) ?_
   have hc := (hL0.call (below_drew hb1)).fc
   simp only [fcG, cellsF, neK, and_true, ne_eq, Nat.zero_add, Nat.reduceAdd] at hc
   simp [tyUpon, execOp, go_sem, Act.eval, hc, h20, G1, G2, Below.refl]
  ·have h20 : EV _ (fv 20) w1 := hp 20 (LC (by kernel_rfl))
   refine tyAt_yes (by simp [Region.wanted, yielded, h20]) ?_
   have hc := (hL0.call (below_drew hb1)).fc
   simp only [fcG, cellsF, neK, and_true, ne_eq, Nat.zero_add, Nat.reduceAdd] at hc
   simp [tyUpon, execOp, go_sem, Act.eval, hc, h20, G1, G2, Below.refl]
  ·have h21 : EV _ (fv 21) w1 := hp 21 (LC (by kernel_rfl))
   have h22 : EV _ (fv 22) w1 := hp 22 (LC (by kernel_rfl))
   have h20 : EV _ (fv 20) w1 := hp 20 (LC (by kernel_rfl))
   refine tyAt_yes (by simp [Region.wanted, yielded, h21, h22, h20]) ?_
   refine ty_call (f := 29) (args := #[.agg #[.int .u64 ((zl lw.num : Nat) : Int), .string (zh lw.num), .bool (zs lw.num), .int .u64 ((lo (fe lw) : Nat) : Int), .string (hs (fe lw))], .agg #[.int .u64 ((zl q.num : Nat) : Int), .string (zh q.num), .bool (zs q.num), .int .u64 ((lo (fe q) : Nat) : Int), .string (hs (fe q))]]) (by simp [execOp, go_sem, Act.eval, h21, h22, h20]) ?_
   exact (C1.out w1).mono fun e w2 ⟨h1, h2⟩ => ⟨_, h1, rfl, h2⟩
  ·have h23 : EV _ (fv 23) w1 := hp 23 (LC (by kernel_rfl))
   have h20 : EV _ (fv 20) w1 := hp 20 (LC (by kernel_rfl))
   refine tyAt_yes (by simp [Region.wanted, yielded, h23, h20]) ?_
   simp [tyUpon, execOp, go_sem, Act.eval, h23, h20, G1, G2, Below.refl]
  ·have h20 : EV _ (fv 20) w1 := hp 20 (LC (by kernel_rfl))
   have h24 : EV _ (fv 24) w1 := hp 24 (LC (by kernel_rfl))
   refine tyAt_none rfl ?_
   simp [tyUpon, execOp, go_sem, Act.eval, h20, h24, G1, G2, Below.refl]
  ·have h25 : EV _ (fv 25) w1 := hp 25 (LC (by kernel_rfl))
   refine tyAt_none rfl ?_
   simp [tyUpon, execOp, go_sem, Act.eval, h25, G1, G2, Below.refl]
  ·have h26 : EV _ (fv 26) w1 := hp 26 (LC (by kernel_rfl))
   refine tyAt_yes (by simp [Region.wanted, yielded, h26]) ?_
   have hc := (hL0.call (below_drew hb1)).fc
   simp only [fcG, cellsF, neK, and_true, ne_eq, Nat.zero_add, Nat.reduceAdd] at hc
   simp [tyUpon, execOp, go_sem, Act.eval, hc, h26, G1, G2, Below.refl]
  ·have h26 : EV _ (fv 26) w1 := hp 26 (LC (by kernel_rfl))
   refine tyAt_yes (by simp [Region.wanted, yielded, h26]) ?_
   have hc := (hL0.call (below_drew hb1)).fc
   simp only [fcG, cellsF, neK, and_true, ne_eq, Nat.zero_add, Nat.reduceAdd] at hc
   simp [tyUpon, execOp, go_sem, Act.eval, hc, h26, G1, G2, Below.refl]
  ·have h27 : EV _ (fv 27) w1 := hp 27 (LC (by kernel_rfl))
   have h28 : EV _ (fv 28) w1 := hp 28 (LC (by kernel_rfl))
   have h26 : EV _ (fv 26) w1 := hp 26 (LC (by kernel_rfl))
   refine tyAt_yes (by simp [Region.wanted, yielded, h27, h28, h26]) ?_
   refine ty_call (f := 29) (args := #[.agg #[.int .u64 ((zl hg.num : Nat) : Int), .string (zh hg.num), .bool (zs hg.num), .int .u64 ((lo (fe hg) : Nat) : Int), .string (hs (fe hg))], .agg #[.int .u64 ((zl q.num : Nat) : Int), .string (zh q.num), .bool (zs q.num), .int .u64 ((lo (fe q) : Nat) : Int), .string (hs (fe q))]]) (by simp [execOp, go_sem, Act.eval, h27, h28, h26]) ?_
   exact (C2.out w1).mono fun e w2 ⟨h1, h2⟩ => ⟨_, h1, rfl, h2⟩
  ·have h29 : EV _ (fv 29) w1 := hp 29 (LC (by kernel_rfl))
   have h26 : EV _ (fv 26) w1 := hp 26 (LC (by kernel_rfl))
   refine tyAt_yes (by simp [Region.wanted, yielded, h29, h26]) ?_
   simp [tyUpon, execOp, go_sem, Act.eval, h29, h26, G1, G2, Below.refl]
  ·have h26 : EV _ (fv 26) w1 := hp 26 (LC (by kernel_rfl))
   have h30 : EV _ (fv 30) w1 := hp 30 (LC (by kernel_rfl))
   refine tyAt_none rfl ?_
   simp [tyUpon, execOp, go_sem, Act.eval, h26, h30, G1, G2, Below.refl]
  ·have h31 : EV _ (fv 31) w1 := hp 31 (LC (by kernel_rfl))
   refine tyAt_none rfl ?_
   simp [tyUpon, execOp, go_sem, Act.eval, h31, G1, G2, Below.refl]
  ·have h32 : EV _ (fv 32) w1 := hp 32 (LC (by kernel_rfl))
   refine tyAt_yes (by simp [Region.wanted, yielded, h32]) ?_
   have hc := (hL0.call (below_drew hb1)).fc
   simp only [fcG, cellsF, neK, and_true, ne_eq, Nat.zero_add, Nat.reduceAdd] at hc
   simp [tyUpon, execOp, go_sem, Act.eval, hc, h32, G1, G2, Below.refl]
  ·have h32 : EV _ (fv 32) w1 := hp 32 (LC (by kernel_rfl))
   refine tyAt_yes (by simp [Region.wanted, yielded, h32]) ?_
   have hc := (hL0.call (below_drew hb1)).fc
   simp only [fcG, cellsF, neK, and_true, ne_eq, Nat.zero_add, Nat.reduceAdd] at hc
   simp [tyUpon, execOp, go_sem, Act.eval, hc, h32, G1, G2, Below.refl]
  ·have h33 : EV _ (fv 33) w1 := hp 33 (LC (by kernel_rfl))
   have h34 : EV _ (fv 34) w1 := hp 34 (LC (by kernel_rfl))
   have h32 : EV _ (fv 32) w1 := hp 32 (LC (by kernel_rfl))
   refine tyAt_yes (by simp [Region.wanted, yielded, h33, h34, h32]) ?_
   rcases ne_fr hlh.out with hz | hz | hz | hz | hz <;> simp [tyUpon, execOp, go_sem, Act.eval, h33, h34, h32, G1, G2, hz, Below.refl]
  ·have h32 : EV _ (fv 32) w1 := hp 32 (LC (by kernel_rfl))
   refine tyAt_yes (by simp [Region.wanted, yielded, h32]) ?_
   have hc := (hL0.call (below_drew hb1)).fc
   simp only [fcG, cellsF, neK, and_true, ne_eq, Nat.zero_add, Nat.reduceAdd] at hc
   simp [tyUpon, execOp, go_sem, Act.eval, hc, h32, G1, G2, Below.refl]
  ·have h36 : EV _ (fv 36) w1 := hp 36 (LC (by kernel_rfl))
   have h32 : EV _ (fv 32) w1 := hp 32 (LC (by kernel_rfl))
   refine tyAt_yes (by simp [Region.wanted, yielded, h36, h32]) ?_
   refine ty_call (f := 28) (args := #[.agg #[.int .u64 ((zl wh.num : Nat) : Int), .string (zh wh.num), .bool (zs wh.num), .int .u64 ((lo (fe wh) : Nat) : Int), .string (hs (fe wh))]]) (by simp [execOp, go_sem, Act.eval, h36, h32]) ?_
   exact (W3.out w1).mono fun e w2 ⟨h1, h2⟩ => ⟨_, h1, rfl, h2⟩
  ·have h35 : EV _ (fv 35) w1 := hp 35 (LC (by kernel_rfl))
   have h37 : EV _ (fv 37) w1 := hp 37 (LC (by kernel_rfl))
   have h32 : EV _ (fv 32) w1 := hp 32 (LC (by kernel_rfl))
   refine tyAt_yes (by simp [Region.wanted, yielded, h35, h37, h32]) ?_
   simp [tyUpon, execOp, go_sem, Act.eval, h35, h37, h32, G1, G2, Below.refl]
  ·have h32 : EV _ (fv 32) w1 := hp 32 (LC (by kernel_rfl))
   have h38 : EV _ (fv 38) w1 := hp 38 (LC (by kernel_rfl))
   refine tyAt_none rfl ?_
   simp [tyUpon, execOp, go_sem, Act.eval, h32, h38, G1, G2, Below.refl]
  ·have h39 : EV _ (fv 39) w1 := hp 39 (LC (by kernel_rfl))
   refine tyAt_none rfl ?_
   simp [tyUpon, execOp, go_sem, Act.eval, h39, G1, G2, Below.refl]
  ·have h40 : EV _ (fv 40) w1 := hp 40 (LC (by kernel_rfl))
   refine tyAt_yes (by simp [Region.wanted, yielded, h40]) ?_
   have hc := (hL0.call (below_drew hb1)).fc
   simp only [fcG, cellsF, neK, and_true, ne_eq, Nat.zero_add, Nat.reduceAdd] at hc
   simp [tyUpon, execOp, go_sem, Act.eval, hc, h40, G1, G2, Below.refl]
  ·have h40 : EV _ (fv 40) w1 := hp 40 (LC (by kernel_rfl))
   refine tyAt_yes (by simp [Region.wanted, yielded, h40]) ?_
   have hc := (hL0.call (below_drew hb1)).fc
   simp only [fcG, cellsF, neK, and_true, ne_eq, Nat.zero_add, Nat.reduceAdd] at hc
   simp [tyUpon, execOp, go_sem, Act.eval, hc, h40, G1, G2, Below.refl]
  ·have h41 : EV _ (fv 41) w1 := hp 41 (LC (by kernel_rfl))
   have h42 : EV _ (fv 42) w1 := hp 42 (LC (by kernel_rfl))
   have h40 : EV _ (fv 40) w1 := hp 40 (LC (by kernel_rfl))
   refine tyAt_yes (by simp [Region.wanted, yielded, h41, h42, h40]) ?_
   rcases ne_fr hlh.out with hz | hz | hz | hz | hz <;> simp [tyUpon, execOp, go_sem, Act.eval, h41, h42, h40, G1, G2, hz, Below.refl]
  ·have h43 : EV _ (fv 43) w1 := hp 43 (LC (by kernel_rfl))
   have h40 : EV _ (fv 40) w1 := hp 40 (LC (by kernel_rfl))
   refine tyAt_yes (by simp [Region.wanted, yielded, h43, h40]) ?_
   simp [tyUpon, execOp, go_sem, Act.eval, h43, h40, G1, G2, Below.refl]
  ·have h44 : EV _ (fv 44) w1 := hp 44 (LC (by kernel_rfl))
   refine tyAt_yes (by simp [Region.wanted, yielded, h44]) ?_
   have hc := (hL0.call (below_drew hb1)).fc
   simp only [fcG, cellsF, neK, and_true, ne_eq, Nat.zero_add, Nat.reduceAdd] at hc
   simp [tyUpon, execOp, go_sem, Act.eval, hc, h44, G1, G2, Below.refl]
  ·have h44 : EV _ (fv 44) w1 := hp 44 (LC (by kernel_rfl))
   refine tyAt_yes (by simp [Region.wanted, yielded, h44]) ?_
   have hc := (hL0.call (below_drew hb1)).fc
   simp only [fcG, cellsF, neK, and_true, ne_eq, Nat.zero_add, Nat.reduceAdd] at hc
   simp [tyUpon, execOp, go_sem, Act.eval, hc, h44, G1, G2, Below.refl]
  ·have h45 : EV _ (fv 45) w1 := hp 45 (LC (by kernel_rfl))
   have h46 : EV _ (fv 46) w1 := hp 46 (LC (by kernel_rfl))
   have h44 : EV _ (fv 44) w1 := hp 44 (LC (by kernel_rfl))
   refine tyAt_yes (by simp [Region.wanted, yielded, h45, h46, h44]) ?_
   refine ty_call (f := 30) (args := #[.agg #[.int .u64 ((zl hg.num : Nat) : Int), .string (zh hg.num), .bool (zs hg.num), .int .u64 ((lo (fe hg) : Nat) : Int), .string (hs (fe hg))], .agg #[.int .u64 ((zl lw.num : Nat) : Int), .string (zh lw.num), .bool (zs lw.num), .int .u64 ((lo (fe lw) : Nat) : Int), .string (hs (fe lw))]]) (by simp [execOp, go_sem, Act.eval, h45, h46, h44]) ?_
   exact (S1.out w1).mono fun e w2 ⟨h1, h2⟩ => ⟨_, h1, rfl, h2⟩
  ·have h44 : EV _ (fv 44) w1 := hp 44 (LC (by kernel_rfl))
   refine tyAt_yes (by simp [Region.wanted, yielded, h44]) ?_
   have hc := (hL0.call (below_drew hb1)).fc
   simp only [fcG, cellsF, neK, and_true, ne_eq, Nat.zero_add, Nat.reduceAdd] at hc
   simp [tyUpon, execOp, go_sem, Act.eval, hc, h44, G1, G2, Below.refl]
  ·have h47 : EV _ (fv 47) w1 := hp 47 (LC (by kernel_rfl))
   have h48 : EV _ (fv 48) w1 := hp 48 (LC (by kernel_rfl))
   have h44 : EV _ (fv 44) w1 := hp 44 (LC (by kernel_rfl))
   refine tyAt_yes (by simp [Region.wanted, yielded, h47, h48, h44]) ?_
   simp [tyUpon, execOp, go_sem, Act.eval, h47, h48, h44, G1, G2, Below.refl]
  ·have h44 : EV _ (fv 44) w1 := hp 44 (LC (by kernel_rfl))
   have h49 : EV _ (fv 49) w1 := hp 49 (LC (by kernel_rfl))
   have h40 : EV _ (fv 40) w1 := hp 40 (LC (by kernel_rfl))
   refine tyAt_yes (by simp [Region.wanted, yielded, h44, h49, h40]) ?_
   simp [tyUpon, execOp, go_sem, Act.eval, h44, h49, h40, G1, G2, Below.refl]
  ·have h40 : EV _ (fv 40) w1 := hp 40 (LC (by kernel_rfl))
   have h50 : EV _ (fv 50) w1 := hp 50 (LC (by kernel_rfl))
   refine tyAt_none rfl ?_
   simp [tyUpon, execOp, go_sem, Act.eval, h40, h50, G1, G2, Below.refl]
  ·have h51 : EV _ (fv 51) w1 := hp 51 (LC (by kernel_rfl))
   refine tyAt_none rfl ?_
   simp [tyUpon, execOp, go_sem, Act.eval, h51, G1, G2, Below.refl]
  ·have h52 : EV _ (fv 52) w1 := hp 52 (LC (by kernel_rfl))
   refine tyAt_yes (by simp [Region.wanted, yielded, h52]) ?_
   have hc := (hL0.call (below_drew hb1)).fc
   simp only [fcG, cellsF, neK, and_true, ne_eq, Nat.zero_add, Nat.reduceAdd] at hc
   simp [tyUpon, execOp, go_sem, Act.eval, hc, h52, G1, G2, Below.refl]
  ·have h52 : EV _ (fv 52) w1 := hp 52 (LC (by kernel_rfl))
   refine tyAt_yes (by simp [Region.wanted, yielded, h52]) ?_
   have hc := (hL0.call (below_drew hb1)).fc
   simp only [fcG, cellsF, neK, and_true, ne_eq, Nat.zero_add, Nat.reduceAdd] at hc
   simp [tyUpon, execOp, go_sem, Act.eval, hc, h52, G1, G2, Below.refl]
  ·have h53 : EV _ (fv 53) w1 := hp 53 (LC (by kernel_rfl))
   have h54 : EV _ (fv 54) w1 := hp 54 (LC (by kernel_rfl))
   have h52 : EV _ (fv 52) w1 := hp 52 (LC (by kernel_rfl))
   refine tyAt_yes (by simp [Region.wanted, yielded, h53, h54, h52]) ?_
   simp [tyUpon, execOp, go_sem, Act.eval, h53, h54, h52, G1, G2, Below.refl]
  ·have h55 : EV _ (fv 55) w1 := hp 55 (LC (by kernel_rfl))
   have h52 : EV _ (fv 52) w1 := hp 52 (LC (by kernel_rfl))
   refine tyAt_yes (by simp [Region.wanted, yielded, h55, h52]) ?_
   simp [tyUpon, execOp, go_sem, Act.eval, h55, h52, G1, G2, Below.refl]
  ·have h56 : EV _ (fv 56) w1 := hp 56 (LC (by kernel_rfl))
   exact tyAt_no (by simp [Region.wanted, yielded, h56]) rfl
  ·have h56 : EV _ (fv 56) w1 := hp 56 (LC (by kernel_rfl))
   exact tyAt_no (by simp [Region.wanted, yielded, h56]) rfl
  ·have h56 : EV _ (fv 56) w1 := hp 56 (LC (by kernel_rfl))
   exact tyAt_no (by simp [Region.wanted, yielded, h56]) rfl
  ·have h56 : EV _ (fv 56) w1 := hp 56 (LC (by kernel_rfl))
   have h59 : EV _ (fv 59) w1 := hp 59 (LC (by kernel_rfl))
   have h52 : EV _ (fv 52) w1 := hp 52 (LC (by kernel_rfl))
   refine tyAt_yes (by simp [Region.wanted, yielded, h56, h59, h52]) ?_
   simp [tyUpon, execOp, go_sem, Act.eval, h56, h59, h52, G1, G2, Below.refl]
  ·have h52 : EV _ (fv 52) w1 := hp 52 (LC (by kernel_rfl))
   have h60 : EV _ (fv 60) w1 := hp 60 (LC (by kernel_rfl))
   refine tyAt_none rfl ?_
   simp [tyUpon, execOp, go_sem, Act.eval, h52, h60, G1, G2, Below.refl]
 ·intro fv x15 hb1 hv
  have e0 : fv 0 = _ := hv 0 (by omega)
  have e1 : fv 1 = _ := hv 1 (by omega)
  have e2 : fv 2 = _ := hv 2 (by omega)
  have e3 : fv 3 = _ := hv 3 (by omega)
  have e4 : fv 4 = _ := hv 4 (by omega)
  have e5 : fv 5 = _ := hv 5 (by omega)
  have e6 : fv 6 = _ := hv 6 (by omega)
  have e7 : fv 7 = _ := hv 7 (by omega)
  have e8 : fv 8 = _ := hv 8 (by omega)
  have e9 : fv 9 = _ := hv 9 (by omega)
  have e10 : fv 10 = _ := hv 10 (by omega)
  have e11 : fv 11 = _ := hv 11 (by omega)
  have e12 : fv 12 = _ := hv 12 (by omega)
  have e13 : fv 13 = _ := hv 13 (by omega)
  have e14 : fv 14 = _ := hv 14 (by omega)
  have e15 : fv 15 = _ := hv 15 (by omega)
  have e16 : fv 16 = _ := hv 16 (by omega)
  have e17 : fv 17 = _ := hv 17 (by omega)
  have e18 : fv 18 = _ := hv 18 (by omega)
  have e19 : fv 19 = _ := hv 19 (by omega)
  have e20 : fv 20 = _ := hv 20 (by omega)
  have e21 : fv 21 = _ := hv 21 (by omega)
  have e22 : fv 22 = _ := hv 22 (by omega)
  have e23 : fv 23 = _ := hv 23 (by omega)
  have e24 : fv 24 = _ := hv 24 (by omega)
  have e25 : fv 25 = _ := hv 25 (by omega)
  have e26 : fv 26 = _ := hv 26 (by omega)
  have e27 : fv 27 = _ := hv 27 (by omega)
  have e28 : fv 28 = _ := hv 28 (by omega)
  have e29 : fv 29 = _ := hv 29 (by omega)
  have e30 : fv 30 = _ := hv 30 (by omega)
  have e31 : fv 31 = _ := hv 31 (by omega)
  have e32 : fv 32 = _ := hv 32 (by omega)
  have e33 : fv 33 = _ := hv 33 (by omega)
  have e34 : fv 34 = _ := hv 34 (by omega)
  have e35 : fv 35 = _ := hv 35 (by omega)
  have e36 : fv 36 = _ := hv 36 (by omega)
  have e37 : fv 37 = _ := hv 37 (by omega)
  have e38 : fv 38 = _ := hv 38 (by omega)
  have e39 : fv 39 = _ := hv 39 (by omega)
  have e40 : fv 40 = _ := hv 40 (by omega)
  have e41 : fv 41 = _ := hv 41 (by omega)
  have e42 : fv 42 = _ := hv 42 (by omega)
  have e43 : fv 43 = _ := hv 43 (by omega)
  have e44 : fv 44 = _ := hv 44 (by omega)
  have e45 : fv 45 = _ := hv 45 (by omega)
  have e46 : fv 46 = _ := hv 46 (by omega)
  have e47 : fv 47 = _ := hv 47 (by omega)
  have e48 : fv 48 = _ := hv 48 (by omega)
  have e49 : fv 49 = _ := hv 49 (by omega)
  have e50 : fv 50 = _ := hv 50 (by omega)
  have e51 : fv 51 = _ := hv 51 (by omega)
  have e52 : fv 52 = _ := hv 52 (by omega)
  have e53 : fv 53 = _ := hv 53 (by omega)
  have e54 : fv 54 = _ := hv 54 (by omega)
  have e55 : fv 55 = _ := hv 55 (by omega)
  have e56 : fv 56 = _ := hv 56 (by omega)
  have e57 : fv 57 = _ := hv 57 (by omega)
  have e58 : fv 58 = _ := hv 58 (by omega)
  have e59 : fv 59 = _ := hv 59 (by omega)
  have e60 : fv 60 = _ := hv 60 (by omega)
  have e61 : fv 61 = _ := hv 61 (by omega)
  simp only [List.take_succ_cons, List.take_zero, putsV, Act.put, List.setIfInBounds_toArray, List.set_cons_succ, List.set_cons_zero, List.drop_succ_cons, List.drop_zero, Nat.zero_add, Nat.reduceAdd, e0, e1, e2, e3, e4, e5, e6, e7, e8, e9, e10, e11, e12, e13, e14, e15, e16, e17, e18, e19, e20, e21, e22, e23, e24, e25, e26, e27, e28, e29, e30, e31, e32, e33, e34, e35, e36, e37, e38, e39, e40, e41, e42, e43, e44, e45, e46, e47, e48, e49, e50, e51, e52, e53, e54, e55, e56, e57, e58, e59, e60, e61]
  replace hL0 := hL0.call (below_drew hb1)
  replace hS := hS.call (below_drew hb1)
  clear e0 e1 e2 e3 e4 e5 e6 e7 e8 e9 e10 e11 e12 e13 e14 e15 e16 e17 e18 e19 e20 e21 e22 e23 e24 e25 e26 e27 e28 e29 e30 e31 e32 e33 e34 e35 e36 e37 e38 e39 e40 e41 e42 e43 e44 e45 e46 e47 e48 e49 e50 e51 e52 e53 e54 e55 e56 e57 e58 e59 e60 e61 hb1 hv fv
  go_upto_region 12 with fail
  refine region_gh (by kernel_rfl) (by kernel_rfl) ?_
  refine lex_seg (gl := []) 6 (by kernel_rfl) ?_
  intro α iα F hF1 hF2
  have hq := GL.seg hF1 hL0
  simp only [fcC, cellsC, and_true, Nat.zero_add, Nat.reduceAdd] at hq
  simp only [List.take_succ_cons, List.take_zero, List.drop_succ_cons, List.drop_zero, List.take_nil, List.drop_nil]
  repeat (go_big_quiet_step (first | fail | (go_at_call 32; with_reducible exact seg_call hF2 I2.out _) | (go_at_call 30; with_reducible exact seg_call hF2 S2.out _) | (go_at_call 33; with_reducible exact seg_call hF2 A1.out _) | (go_at_call 31; with_reducible exact seg_call hF2 M1.out _)))
  refine wpQuiet_nil ?_
  clear hq hF1 hF2 iα F α
  refine lex_new [.int .u64 0, .string ⟨#[]⟩, .bool false, .int .u64 0, .string ⟨#[]⟩] 19 34 34 rfl rfl (of_decide_eq_true (by kernel_rfl)) (by kernel_rfl) rfl new_frac ?_
  simp only [Act.put, List.setIfInBounds_toArray, List.set_cons_succ, List.set_cons_zero]
  refine lex_put [.int .u64 ((zl aw.num : Nat) : Int), .string (zh aw.num), .bool (zs aw.num), .int .u64 ((lo (fe aw) : Nat) : Int), .string (hs (fe aw))] [.int .u64 0, .string ⟨#[]⟩, .bool false, .int .u64 0, .string ⟨#[]⟩] 19 34 (.tmp 144) rfl (by kernel_rfl) (by simp [toG, upd]) rfl (fun w k h => put_frac _ _ _ _ _ _ _ _ _ _ w k h) ?_
  simp only [Act.put]
  refine lexG_nil ?_
  intro κ x16 hS
  replace hL0 := hL0.ghs hS [(19, [.int .u64 ((zl aw.num : Nat) : Int), .string (zh aw.num), .bool (zs aw.num), .int .u64 ((lo (fe aw) : Nat) : Int), .string (hs (fe aw))])] (by simp) (by intro p hp; simp only [List.mem_cons, List.not_mem_nil, or_false] at hp; rcases hp with rfl <;> exact ⟨_, by simp only [toG, upd]; rfl⟩)
  simp only [List.map_cons, List.map_nil, List.cons_append, List.nil_append] at hL0
  simp only [over_toG, over_nil, Act.put, List.setIfInBounds_toArray, List.set_cons_succ, List.set_cons_zero]
  clear hS
  generalize κ 19 = k16_19 at *
  replace hS := SS.nil x16
  go_upto_region 13 with fail
  refine region_gh (by kernel_rfl) (by kernel_rfl) ?_
  refine lex_seg (gl := []) 8 (by kernel_rfl) ?_
  intro α iα F hF1 hF2
  have hq := GL.seg hF1 hL0
  simp only [fcC, cellsC, and_true, Nat.zero_add, Nat.reduceAdd] at hq
  simp only [List.take_succ_cons, List.take_zero, List.drop_succ_cons, List.drop_zero, List.take_nil, List.drop_nil]
  repeat (go_big_quiet_step (first | fail | (go_at_call 32; with_reducible exact seg_call hF2 I2.out _) | (go_at_call 31; with_reducible exact seg_call hF2 M2.out _) | (go_at_call 27; with_reducible exact seg_call hF2 D4.out _)))
  refine wpQuiet_nil ?_
  clear hq hF1 hF2 iα F α
  refine lex_new [.int .u64 0, .string ⟨#[]⟩, .bool false, .int .u64 0, .string ⟨#[]⟩] 20 34 34 rfl rfl (of_decide_eq_true (by kernel_rfl)) (by kernel_rfl) rfl new_frac ?_
  simp only [Act.put, List.setIfInBounds_toArray, List.set_cons_succ, List.set_cons_zero]
  refine lex_put [.int .u64 ((zl tt.num : Nat) : Int), .string (zh tt.num), .bool (zs tt.num), .int .u64 ((lo (fe tt) : Nat) : Int), .string (hs (fe tt))] [.int .u64 0, .string ⟨#[]⟩, .bool false, .int .u64 0, .string ⟨#[]⟩] 20 34 (.tmp 151) rfl (by kernel_rfl) (by simp [toG, upd]) rfl (fun w k h => put_frac _ _ _ _ _ _ _ _ _ _ w k h) ?_
  simp only [Act.put]
  refine lex_seg (gl := [(20, [.int .u64 ((zl tt.num : Nat) : Int), .string (zh tt.num), .bool (zs tt.num), .int .u64 ((lo (fe tt) : Nat) : Int), .string (hs (fe tt))], true), (20, [.int .u64 0, .string ⟨#[]⟩, .bool false, .int .u64 0, .string ⟨#[]⟩], false)]) 1 (by kernel_rfl) ?_
  intro α iα F hF1 hF2
  have hq := GL.seg hF1 hL0
  simp only [fcC, cellsC, and_true, Nat.zero_add, Nat.reduceAdd] at hq
  simp only [List.take_succ_cons, List.take_zero, List.drop_succ_cons, List.drop_zero, List.take_nil, List.drop_nil]
  repeat (go_big_quiet_step (first | fail | (go_at_call 32; with_reducible exact seg_call hF2 I2.out _) | (go_at_call 31; with_reducible exact seg_call hF2 M2.out _) | (go_at_call 27; with_reducible exact seg_call hF2 D4.out _)))
  refine wpQuiet_nil ?_
  clear hq hF1 hF2 iα F α
  refine lexG_nil ?_
  intro κ x17 hS
  replace hL0 := hL0.ghs hS [(20, [.int .u64 ((zl tt.num : Nat) : Int), .string (zh tt.num), .bool (zs tt.num), .int .u64 ((lo (fe tt) : Nat) : Int), .string (hs (fe tt))])] (by simp) (by intro p hp; simp only [List.mem_cons, List.not_mem_nil, or_false] at hp; rcases hp with rfl <;> exact ⟨_, by simp only [toG, upd]; rfl⟩)
  simp only [List.map_cons, List.map_nil, List.cons_append, List.nil_append] at hL0
  simp only [over_toG, over_nil, Act.put, List.setIfInBounds_toArray, List.set_cons_succ, List.set_cons_zero]
  clear hS
  generalize κ 20 = k17_20 at *
  replace hS := SS.nil x17
  by_cases hat : aw = st
  ·have W5 := Lib.hid (W4.out hat)
   have h2 := hat.symm
   clear hat W4
   subst h2
   have hN0 := cells_of _ 0 [] rfl (hL0.get _ _ (List.mem_cons_of_mem _ List.mem_cons_self))
   simp only [cellsF, and_true, Nat.zero_add, Nat.reduceAdd] at hN0
   have hN1 := cells_of _ 0 [] rfl (hL0.get _ _ (List.mem_cons_of_mem _ (List.mem_cons_of_mem _ (List.mem_cons_of_mem _ (List.mem_cons_of_mem _ (List.mem_cons_of_mem _ (List.mem_cons_of_mem _ (List.mem_cons_of_mem _ (List.mem_cons_of_mem _ List.mem_cons_self)))))))))
   simp only [cellsF, and_true, Nat.zero_add, Nat.reduceAdd] at hN1
   go_wp2_with fail
   clear hN0 hN1
   with_reducible refine Calls.mono (C3.out _) ?_
   rintro e x18 ⟨rfl, hb⟩
   replace hL0 := hL0.call hb
   replace hS := hS.call hb
   clear hb
   have hN0 := cells_of _ 0 [] rfl (hL0.get _ _ List.mem_cons_self)
   simp only [cellsF, and_true, Nat.zero_add, Nat.reduceAdd] at hN0
   have hN1 := cells_of _ 0 [] rfl (hL0.get _ _ (List.mem_cons_of_mem _ List.mem_cons_self))
   simp only [cellsF, and_true, Nat.zero_add, Nat.reduceAdd] at hN1
   have hN2 := cells_of _ 0 [] rfl (hL0.get _ _ (List.mem_cons_of_mem _ (List.mem_cons_of_mem _ (List.mem_cons_of_mem _ (List.mem_cons_of_mem _ (List.mem_cons_of_mem _ (List.mem_cons_of_mem _ (List.mem_cons_of_mem _ (List.mem_cons_of_mem _ List.mem_cons_self)))))))))
   simp only [cellsF, and_true, Nat.zero_add, Nat.reduceAdd] at hN2
   go_wp2_with fail
   clear hN0 hN1 hN2
   with_reducible refine Calls.mono (W5.out _) ?_
   rintro e x19 ⟨rfl, hb⟩
   replace hL0 := hL0.call hb
   replace hS := hS.call hb
   clear hb
   go_wp2_with fail
   go_loopg [22] 3 (fun gk iv wr => ∃ (i : Nat), 1 ≤ i ∧ i + gk = 4 ∧ iv = .int .i64 (i : Int) ∧ GL w wr [(k17_20, [.int .u64 ((zl tt.num : Nat) : Int), .string (zh tt.num), .bool (zs tt.num), .int .u64 ((lo (fe tt) : Nat) : Int), .string (hs (fe tt))]), (k16_19, [.int .u64 ((zl st.num : Nat) : Int), .string (zh st.num), .bool (zs st.num), .int .u64 ((lo (fe st) : Nat) : Int), .string (hs (fe st))]), (x13.heap.size, [.int .u64 ((zl wh.num : Nat) : Int), .string (zh wh.num), .bool (zs wh.num), .int .u64 ((lo (fe wh) : Nat) : Int), .string (hs (fe wh))]), (x11.heap.size, [.int .u64 ((zl z1.num : Nat) : Int), .string (zh z1.num), .bool (zs z1.num), .int .u64 ((lo (fe z1) : Nat) : Int), .string (hs (fe z1))]), (x9.heap.size, [.int .u64 ((zl y1.num : Nat) : Int), .string (zh y1.num), .bool (zs y1.num), .int .u64 ((lo (fe y1) : Nat) : Int), .string (hs (fe y1))]), (x7.heap.size, [.int .u64 ((zl lw.num : Nat) : Int), .string (zh lw.num), .bool (zs lw.num), .int .u64 ((lo (fe lw) : Nat) : Int), .string (hs (fe lw))]), (x5.heap.size + 1, [.int .u64 ((zl hg.num : Nat) : Int), .string (zh hg.num), .bool (zs hg.num), .int .u64 ((lo (fe hg) : Nat) : Int), .string (hs (fe hg))]), (x5.heap.size, [.int .u64 ((zl lw.num : Nat) : Int), .string (zh lw.num), .bool (zs lw.num), .int .u64 ((lo (fe lw) : Nat) : Int), .string (hs (fe lw))]), (x3.heap.size + 1, [.int .u64 ((zl st.num : Nat) : Int), .string (zh st.num), .bool (zs st.num), .int .u64 ((lo (fe st) : Nat) : Int), .string (hs (fe st))]), (x3.heap.size, [.int .u64 ((zl q.num : Nat) : Int), .string (zh q.num), .bool (zs q.num), .int .u64 ((lo (fe q) : Nat) : Int), .string (hs (fe q))]), (w.heap.size, [.bool sx, .slice ax nx cx, .slice qx mx dx])])
   case atStart => exact ⟨1, Nat.le_refl _, by omega, by first | rfl | go_num, hL0⟩
   case round =>
    clear hL0 hS
    obtain ⟨i, hi1, hik, rfl, hL0⟩ := hrel
    have hS := SS.nil wr
    by_cases hin : i < 4
    ·have k1 : (i : Int) ≤ 3 := by omega
     have kb : (i : Int) ≤ 1000000 := by omega
     obtain ⟨r9, HO1, HO2⟩ := HO.out i hi1 (by omega)
     replace HO1 := Lib.hid HO1
     replace HO2 := Lib.hid HO2
     clear hin hi1
     have hN0 := cells_of _ 0 [] rfl (hL0.get _ _ (List.mem_cons_of_mem _ (List.mem_cons_of_mem _ (List.mem_cons_of_mem _ (List.mem_cons_of_mem _ (List.mem_cons_of_mem _ (List.mem_cons_of_mem _ (List.mem_cons_of_mem _ (List.mem_cons_of_mem _ (List.mem_cons_of_mem _ List.mem_cons_self))))))))))
     simp only [cellsF, and_true, Nat.zero_add, Nat.reduceAdd] at hN0
     go_wp2_with fail
     clear hN0
     with_reducible refine Calls.mono (HO1.out _) ?_
     rintro e x20 ⟨rfl, hb⟩
     replace hL0 := hL0.call hb
     replace hS := hS.call hb
     clear hb
     replace hS := (hS.new (.cells #[.int .u64 ((zl r9.num : Nat) : Int), .string (zh r9.num), .bool (zs r9.num), .int .u64 ((lo (fe r9) : Nat) : Int), .string (hs (fe r9))] 34))
     replace hL0 := (hL0.new rfl [.int .u64 ((zl r9.num : Nat) : Int), .string (zh r9.num), .bool (zs r9.num), .int .u64 ((lo (fe r9) : Nat) : Int), .string (hs (fe r9))] 34)
     generalize hweq : (x20.alloc (.cells #[.int .u64 ((zl r9.num : Nat) : Int), .string (zh r9.num), .bool (zs r9.num), .int .u64 ((lo (fe r9) : Nat) : Int), .string (hs (fe r9))] 34)) = x21 at hL0 hS
     have hN0 := cells_of _ 0 [] rfl (hL0.get _ _ List.mem_cons_self)
     simp only [cellsF, and_true, Nat.zero_add, Nat.reduceAdd] at hN0
     go_wp2_with fail
     clear hN0
     with_reducible refine Calls.mono (HO2.out _) ?_
     rintro e x22 ⟨rfl, hb⟩
     replace hL0 := hL0.call hb
     replace hS := hS.call hb
     clear hb hweq
     replace hS := (hS.new (.cells #[.int .u64 ((zl r9.num : Nat) : Int), .string (zh r9.num), .bool (zs r9.num), .int .u64 ((lo (fe r9) : Nat) : Int), .string (hs (fe r9))] 34))
     replace hL0 := (hL0.new rfl [.int .u64 ((zl r9.num : Nat) : Int), .string (zh r9.num), .bool (zs r9.num), .int .u64 ((lo (fe r9) : Nat) : Int), .string (hs (fe r9))] 34)
     generalize hweq : (x22.alloc (.cells #[.int .u64 ((zl r9.num : Nat) : Int), .string (zh r9.num), .bool (zs r9.num), .int .u64 ((lo (fe r9) : Nat) : Int), .string (hs (fe r9))] 34)) = x23 at hL0 hS
     have hN0 := cells_of _ 0 [] rfl (hL0.get _ _ List.mem_cons_self)
     simp only [cellsF, and_true, Nat.zero_add, Nat.reduceAdd] at hN0
     have hN1 := cells_of _ 0 [] rfl (hL0.get _ _ (List.mem_cons_of_mem _ List.mem_cons_self))
     simp only [cellsF, and_true, Nat.zero_add, Nat.reduceAdd] at hN1
     go_wp2_with fail
     go_roundg (gk - 1)
     case measure => omega
     case rel => exact ⟨i + 1, by omega, by omega, by first | rfl | go_num, hL0.weak (List.Sublist.cons _ (List.Sublist.cons _ (List.Sublist.refl _)))⟩
    ·have k1 : ¬ (i : Int) ≤ 3 := by omega
     go_wp2_with fail
     with_reducible refine Calls.mono (HW.out _ (hKT.out.at hL0.bl kKT)) ?_
     rintro e x20 ⟨rfl, hb⟩
     replace hL0 := hL0.call hb
     replace hS := hS.call hb
     clear hb
     go_wp2_with fail
     exact bodyPost_ret (v := .bool true) (by simp [results, Tryz.results6, go_sem]) rfl ⟨rfl, hL0.bl⟩
  ·have haw := Lib.hid (show aw ≠ st from hat)
   clear hat W4
   rcases ne_fr haw.out with e0 | ⟨e0, e1⟩ | ⟨e0, e1, e2⟩ | ⟨e0, e1, e2, e3⟩ | ⟨e0, e1, e2, e3, e4⟩
   all_goals (
    have hN0 := cells_of _ 0 [] rfl (hL0.get _ _ (List.mem_cons_of_mem _ List.mem_cons_self))
    simp only [cellsF, and_true, Nat.zero_add, Nat.reduceAdd] at hN0
    have hN1 := cells_of _ 0 [] rfl (hL0.get _ _ (List.mem_cons_of_mem _ (List.mem_cons_of_mem _ (List.mem_cons_of_mem _ (List.mem_cons_of_mem _ (List.mem_cons_of_mem _ (List.mem_cons_of_mem _ (List.mem_cons_of_mem _ (List.mem_cons_of_mem _ List.mem_cons_self)))))))))
    simp only [cellsF, and_true, Nat.zero_add, Nat.reduceAdd] at hN1
    go_wp2_with fail
    clear hN0 hN1
    with_reducible refine Calls.mono (C3.out _) ?_
    rintro e x18 ⟨rfl, hb⟩
    replace hL0 := hL0.call hb
    replace hS := hS.call hb
    clear hb
    have hN0 := cells_of _ 0 [] rfl (hL0.get _ _ (List.mem_cons_of_mem _ List.mem_cons_self))
    simp only [cellsF, and_true, Nat.zero_add, Nat.reduceAdd] at hN0
    have hN1 := cells_of _ 0 [] rfl (hL0.get _ _ (List.mem_cons_of_mem _ (List.mem_cons_of_mem _ (List.mem_cons_of_mem _ (List.mem_cons_of_mem _ (List.mem_cons_of_mem _ (List.mem_cons_of_mem _ (List.mem_cons_of_mem _ (List.mem_cons_of_mem _ List.mem_cons_self)))))))))
    simp only [cellsF, and_true, Nat.zero_add, Nat.reduceAdd] at hN1
    go_wp2_with fail
    clear hN0 hN1
    go_loopg [22] 3 (fun gk iv wr => ∃ (i : Nat), 1 ≤ i ∧ i + gk = 4 ∧ iv = .int .i64 (i : Int) ∧ GL w wr [(k17_20, [.int .u64 ((zl tt.num : Nat) : Int), .string (zh tt.num), .bool (zs tt.num), .int .u64 ((lo (fe tt) : Nat) : Int), .string (hs (fe tt))]), (k16_19, [.int .u64 ((zl aw.num : Nat) : Int), .string (zh aw.num), .bool (zs aw.num), .int .u64 ((lo (fe aw) : Nat) : Int), .string (hs (fe aw))]), (x13.heap.size, [.int .u64 ((zl wh.num : Nat) : Int), .string (zh wh.num), .bool (zs wh.num), .int .u64 ((lo (fe wh) : Nat) : Int), .string (hs (fe wh))]), (x11.heap.size, [.int .u64 ((zl z1.num : Nat) : Int), .string (zh z1.num), .bool (zs z1.num), .int .u64 ((lo (fe z1) : Nat) : Int), .string (hs (fe z1))]), (x9.heap.size, [.int .u64 ((zl y1.num : Nat) : Int), .string (zh y1.num), .bool (zs y1.num), .int .u64 ((lo (fe y1) : Nat) : Int), .string (hs (fe y1))]), (x7.heap.size, [.int .u64 ((zl lw.num : Nat) : Int), .string (zh lw.num), .bool (zs lw.num), .int .u64 ((lo (fe lw) : Nat) : Int), .string (hs (fe lw))]), (x5.heap.size + 1, [.int .u64 ((zl hg.num : Nat) : Int), .string (zh hg.num), .bool (zs hg.num), .int .u64 ((lo (fe hg) : Nat) : Int), .string (hs (fe hg))]), (x5.heap.size, [.int .u64 ((zl lw.num : Nat) : Int), .string (zh lw.num), .bool (zs lw.num), .int .u64 ((lo (fe lw) : Nat) : Int), .string (hs (fe lw))]), (x3.heap.size + 1, [.int .u64 ((zl st.num : Nat) : Int), .string (zh st.num), .bool (zs st.num), .int .u64 ((lo (fe st) : Nat) : Int), .string (hs (fe st))]), (x3.heap.size, [.int .u64 ((zl q.num : Nat) : Int), .string (zh q.num), .bool (zs q.num), .int .u64 ((lo (fe q) : Nat) : Int), .string (hs (fe q))]), (w.heap.size, [.bool sx, .slice ax nx cx, .slice qx mx dx])])
    case atStart => exact ⟨1, Nat.le_refl _, by omega, by first | rfl | go_num, hL0⟩
    case round =>
     clear hL0 hS
     obtain ⟨i, hi1, hik, rfl, hL0⟩ := hrel
     have hS := SS.nil wr
     by_cases hin : i < 4
     ·have k1 : (i : Int) ≤ 3 := by omega
      have kb : (i : Int) ≤ 1000000 := by omega
      obtain ⟨r9, HO1, HO2⟩ := HO.out i hi1 (by omega)
      replace HO1 := Lib.hid HO1
      replace HO2 := Lib.hid HO2
      clear hin hi1
      have hN0 := cells_of _ 0 [] rfl (hL0.get _ _ (List.mem_cons_of_mem _ (List.mem_cons_of_mem _ (List.mem_cons_of_mem _ (List.mem_cons_of_mem _ (List.mem_cons_of_mem _ (List.mem_cons_of_mem _ (List.mem_cons_of_mem _ (List.mem_cons_of_mem _ (List.mem_cons_of_mem _ List.mem_cons_self))))))))))
      simp only [cellsF, and_true, Nat.zero_add, Nat.reduceAdd] at hN0
      go_wp2_with fail
      clear hN0
      with_reducible refine Calls.mono (HO1.out _) ?_
      rintro e x19 ⟨rfl, hb⟩
      replace hL0 := hL0.call hb
      replace hS := hS.call hb
      clear hb
      replace hS := (hS.new (.cells #[.int .u64 ((zl r9.num : Nat) : Int), .string (zh r9.num), .bool (zs r9.num), .int .u64 ((lo (fe r9) : Nat) : Int), .string (hs (fe r9))] 34))
      replace hL0 := (hL0.new rfl [.int .u64 ((zl r9.num : Nat) : Int), .string (zh r9.num), .bool (zs r9.num), .int .u64 ((lo (fe r9) : Nat) : Int), .string (hs (fe r9))] 34)
      generalize hweq : (x19.alloc (.cells #[.int .u64 ((zl r9.num : Nat) : Int), .string (zh r9.num), .bool (zs r9.num), .int .u64 ((lo (fe r9) : Nat) : Int), .string (hs (fe r9))] 34)) = x20 at hL0 hS
      have hN0 := cells_of _ 0 [] rfl (hL0.get _ _ List.mem_cons_self)
      simp only [cellsF, and_true, Nat.zero_add, Nat.reduceAdd] at hN0
      go_wp2_with fail
      clear hN0
      with_reducible refine Calls.mono (HO2.out _) ?_
      rintro e x21 ⟨rfl, hb⟩
      replace hL0 := hL0.call hb
      replace hS := hS.call hb
      clear hb hweq
      replace hS := (hS.new (.cells #[.int .u64 ((zl r9.num : Nat) : Int), .string (zh r9.num), .bool (zs r9.num), .int .u64 ((lo (fe r9) : Nat) : Int), .string (hs (fe r9))] 34))
      replace hL0 := (hL0.new rfl [.int .u64 ((zl r9.num : Nat) : Int), .string (zh r9.num), .bool (zs r9.num), .int .u64 ((lo (fe r9) : Nat) : Int), .string (hs (fe r9))] 34)
      generalize hweq : (x21.alloc (.cells #[.int .u64 ((zl r9.num : Nat) : Int), .string (zh r9.num), .bool (zs r9.num), .int .u64 ((lo (fe r9) : Nat) : Int), .string (hs (fe r9))] 34)) = x22 at hL0 hS
      have hN0 := cells_of _ 0 [] rfl (hL0.get _ _ List.mem_cons_self)
      simp only [cellsF, and_true, Nat.zero_add, Nat.reduceAdd] at hN0
      have hN1 := cells_of _ 0 [] rfl (hL0.get _ _ (List.mem_cons_of_mem _ List.mem_cons_self))
      simp only [cellsF, and_true, Nat.zero_add, Nat.reduceAdd] at hN1
      go_wp2_with fail
      go_roundg (gk - 1)
      case measure => omega
      case rel => exact ⟨i + 1, by omega, by omega, by first | rfl | go_num, hL0.weak (List.Sublist.cons _ (List.Sublist.cons _ (List.Sublist.refl _)))⟩
     ·have k1 : ¬ (i : Int) ≤ 3 := by omega
      go_wp2_with fail
      with_reducible refine Calls.mono (HW.out _ (hKT.out.at hL0.bl kKT)) ?_
      rintro e x19 ⟨rfl, hb⟩
      replace hL0 := hL0.call hb
      replace hS := hS.call hb
      clear hb
      go_wp2_with fail
      exact bodyPost_ret (v := .bool true) (by simp [results, Tryz.results6, go_sem]) rfl ⟨rfl, hL0.bl⟩)
end Go.Proofs.YtahfcciihkkegaaGreatDoor
