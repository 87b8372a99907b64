/-
  The law answers true at every input, and leaves its arguments as they were: a part of the proof. CONDITIONS: the package-level tables start as the program's text lays them (the card ties them).
-/
import Derived.Test.YtahfcciihkkegaaGreatDoorZad
import Derived.Test.YtahfcciihkkegaaGreatDoorRows
import Derived.Test.YtahfcciihkkegaaGreatDoorTie
import Derived.Test.YtahfcciihkkegaaGreatDoorCards
set_option linter.unusedVariables false
set_option linter.unusedSimpArgs false
namespace Go.Proofs.YtahfcciihkkegaaGreatDoor
open Go.RowKit
attribute [local irreducible] lo hs sm s64 c64 d64 b64 mh ml pd pc qd qc val hiB str cmpI srD lz nb isq decB
theorem made_lt {l : List Nat} (h : ∀ x ∈ l, x < 4294967296) : made l < Bs ^ l.length := by
 induction l with
 | nil => exact Nat.one_pos
 | cons x l ih =>
  have h1 := ih fun y hy => h y (List.mem_cons_of_mem _ hy)
  have h2 := h x (List.mem_cons_self)
  rw [made, List.length_cons, Nat.pow_succ]
  have hB : 4294967296 * 2 ≤ Bs := by unfold Bs; omega
  have h3 : Bs ^ l.length * (4294967296 * 2) ≤ Bs ^ l.length * Bs := Nat.mul_le_mul_left _ hB
  generalize Bs ^ l.length = X at *
  generalize X * Bs = Y at *
  omega
theorem made_digs {l : List Nat} (h : ∀ x ∈ l, x < 4294967296) : (digs (made l)).length ≤ l.length := digs_length_iff.2 (made_lt h)
set_option maxHeartbeats 2000000 in
set_option maxRecDepth 100000 in
theorem made_row (a : Addr) (c : Nat) (l : List Nat) (hl : l.length ≤ 1000) (w : World) (hw : Wd w a l) :
  Calls Tryz.prog 100 #[.slice (some a) l.length c] w fun e w' => e = .returned (natV (made l)) ∧ Below w.heap.size w w' := by
 obtain ⟨w0, hw0, hR, hO, hb0, hsz0⟩ := boxes2 w (.int .u64 0) (.string ⟨#[]⟩) (.int .u64 0) (.string ⟨#[]⟩) 30
 obtain ⟨n, hn⟩ : ∃ n, n = l.length := ⟨_, rfl⟩
 have hln := hl
 rw [← hn] at hl
 have hM0 : MS w w0 a l 0 := ⟨by rw [lo_small Bs_pos, hs_small Bs_pos]; exact hO, hR, hw.below hb0, hsz0, hb0⟩
 have hab := hw.blk
 have hlt := hw.lt
 clear hw hR hO hb0 hsz0
 go_enter Tryz.func100, Tryz.ntmps100
 simp only [← hn]
 have HNn := Lib.hid hn
 have hst : made (l.drop n) = 0 := by rw [List.drop_eq_nil_of_le (by omega)]; rfl
 replace hst := Lib.hid hst
 clear hn
 go_wp2_with fail
 go_loopw [4] (fun z wr => ∃ (j m : Nat), j ≤ n ∧ z = .int .i64 ((j : Int) - 1) ∧ m = made (l.drop j) ∧ MS w wr a l m) (fun z _ => (intOf z + 1).toNat)
 case atStart => exact ⟨n, 0, Nat.le_refl _, by first | rfl | go_num, hst.out.symm, hM0⟩
 case round =>
  obtain ⟨j, m, hj, rfl, hm, hS⟩ := hrel
  clear hw0 hM0
  have hn := HNn.out
  cases j with
  | zero =>
   rw [List.drop_zero] at hm
   have HM := Lib.hid hm
   obtain ⟨⟨o0, o1, of⟩, ⟨r0, r1, rf⟩, -, hsz, hB⟩ := id hS
   clear hm hS hn
   go_wp2_with fail
   exact bodyPost_ret (v := natV m) (by simp [results, Tryz.results100, go_sem, r0, r1]) rfl ⟨by rw [HM.out], (hB.setCell (by simp <;> omega) _).setCell (by simp <;> omega) _⟩
  | succ i =>
   have hi : i < l.length := by omega
   obtain ⟨x, hx⟩ : ∃ x, x = l[i] := ⟨_, rfl⟩
   have hx32 : x < 4294967296 := by rw [hx]; exact hlt _ (List.getElem_mem hi)
   have hlm : (digs m).length ≤ 1000 := by
    rw [hm]; exact Nat.le_trans (made_digs fun y hy => hlt y (List.mem_of_mem_drop hy)) (by rw [List.length_drop]; omega)
   have hmd : made (l.drop i) = m * 4294967296 + x := by
    rw [List.drop_eq_getElem_cons hi, made, ← hm, ← hx]; omega
   have hdm : ∀ k, (digs (made (l.drop k))).length ≤ 1000 := fun k => Nat.le_trans (made_digs fun y hy => hlt y (List.mem_of_mem_drop hy)) (by rw [List.length_drop]; omega)
   have hxB : x < Bs := by unfold Bs; omega
   have hlx : (digs x).length ≤ 1 := digs_length_iff.2 (by rw [Nat.pow_one]; exact hxB)
   obtain ⟨C, hC⟩ : ∃ C, C = 4294967296 := ⟨_, rfl⟩
   have hCB : C < Bs := by rw [hC]; unfold Bs; omega
   have hlC : (digs C).length ≤ 1 := digs_length_iff.2 (by rw [Nat.pow_one]; exact hCB)
   have HO1 := Lib.hid (fun w => of_val 4294967296 C (by rw [hC]; rfl) hCB w)
   have HO2 := Lib.hid (fun w => of_any x hxB w)
   have HM := Lib.hid (fun w => mul_any m C (by omega) (by omega) w)
   have hlmc : (digs (m * C)).length ≤ 1000 + 1 := digs_mul_le hlm hlC
   have HA := fun w => add_any (m * C) x (by omega) (by omega) w
   rw [show m * C + x = made (l.drop i) by rw [hmd, hC]] at HA
   obtain ⟨m2, hm2⟩ : ∃ m2, m2 = made (l.drop i) := ⟨_, rfl⟩
   rw [← hm2] at HA
   generalize m * C = mc at *
   replace HA := Lib.hid HA
   have HM2 := Lib.hid hm2
   have hS' := hS.drew
   have h0 := hS.cells i x hi hx
   have h0' := hS'.cells i x hi hx
   have HX := Lib.hid hx
   have e1 : (((i + 1 : Nat) : Int) - 1) = (i : Int) := by omega
   have hwx : IntKind.u64.wrap (x : Int) = (x : Int) := wrapN _ (by omega)
   have hin : (i : Int) < (n : Int) := by omega
   clear hn hx hm hm2 hmd hdm hlm hlmc hlx hlC hC hCB hxB hx32 hlt
   rw [e1]
   go_wp2_with fail
   obtain ⟨o0, o1, of⟩ := id hS'.O
   obtain ⟨g0, g1, g2⟩ := id h0'
   go_region_with
    (first
     | (go_at_call 52; ((with_reducible refine Calls.mono (HO1.out _) ?_); rintro e w1 ⟨rfl, hb1⟩; have hS1 : MS w w1 a l m := (by first | exact hS'.below hb1 | exact hS1.below hb1 | exact hS2.below hb1 | exact hS3.below hb1 | exact hS4.below hb1); obtain ⟨o01, o11, of1⟩ := id hS1.O; have h1 := (hS1.cells i x hi HX.out).2.2))
     | (go_at_call 52; ((with_reducible refine Calls.mono (HO2.out _) ?_); rintro e w2 ⟨rfl, hb2⟩; have hS2 : MS w w2 a l m := (by first | exact hS'.below hb2 | exact hS1.below hb2 | exact hS2.below hb2 | exact hS3.below hb2 | exact hS4.below hb2); obtain ⟨o02, o12, of2⟩ := id hS2.O; have h2 := (hS2.cells i x hi HX.out).2.2))
     | (go_at_call 68; ((with_reducible refine Calls.mono (HM.out _) ?_); rintro e w3 ⟨rfl, hb3⟩; have hS3 : MS w w3 a l m := (by first | exact hS'.below hb3 | exact hS1.below hb3 | exact hS2.below hb3 | exact hS3.below hb3 | exact hS4.below hb3); obtain ⟨o03, o13, of3⟩ := id hS3.O; have h3 := (hS3.cells i x hi HX.out).2.2))
     | (go_at_call 49; ((with_reducible refine Calls.mono (HA.out _) ?_); rintro e w4 ⟨rfl, hb4⟩; have hS4 : MS w w4 a l m := (by first | exact hS'.below hb4 | exact hS1.below hb4 | exact hS2.below hb4 | exact hS3.below hb4 | exact hS4.below hb4); obtain ⟨o04, o14, of4⟩ := id hS4.O; have h4 := (hS4.cells i x hi HX.out).2.2; have hS5 := hS4.put hab m2; have h5 := (hS5.cells i x hi HX.out).2.2)))
   all_goals (
    have HS5 := Lib.hid hS5
    clear hS5 h5 hS h0 h0' hS' o0 o1 of
    go_wp2_with fail
    go_roundw
    case rel => exact ⟨i, m2, by omega, by first | rfl | go_num, HM2.out, HS5.out⟩
    case measure => simp [intOf])
set_option maxHeartbeats 2000000 in
set_option maxRecDepth 100000 in
theorem made_nil (ao : Option Addr) (c : Nat) (w : World) :
  Calls Tryz.prog 100 #[.slice ao 0 c] w fun e w' => e = .returned (natV 0) ∧ Below w.heap.size w w' := by
 obtain ⟨w0, hw0, hR, hO, hb0, hsz0⟩ := boxes2 w (.int .u64 0) (.string ⟨#[]⟩) (.int .u64 0) (.string ⟨#[]⟩) 30
 obtain ⟨o0, o1, of⟩ := id hO
 obtain ⟨r0, r1, rf⟩ := id hR
 rw [natV_zero]
 go_enter Tryz.func100, Tryz.ntmps100
 go_wp2_with fail
 go_loopw [4] (fun z wr => z = .int .i64 (-1) ∧ wr = w0) (fun z _ => (intOf z + 1).toNat)
 case atStart => exact ⟨rfl, rfl⟩
 case round =>
  obtain ⟨rfl, rfl⟩ := hrel
  go_wp2_with fail
  exact bodyPost_ret (v := .agg #[.int .u64 0, .string ⟨#[]⟩]) (by simp [results, Tryz.results100, go_sem, r0, r1]) rfl ⟨rfl, (hb0.setCell (by simp <;> omega) _).setCell (by simp <;> omega) _⟩
theorem made_any (v : Value) (l : List Nat) (hl : l.length ≤ 1000) (w : World) (h : Ws w v l) :
  Calls Tryz.prog 100 #[v] w fun e w' => e = .returned (natV (made l)) ∧ Below w.heap.size w w' := by
 rcases h with ⟨ao, c, rfl, rfl⟩ | ⟨a, c, rfl, h2⟩
 ·exact made_nil ao c w
 ·exact made_row a c l hl w h2
end Go.Proofs.YtahfcciihkkegaaGreatDoor
namespace Go.Proofs.YtahfcciihkkegaaGreatDoor
open Go.RowKit
/-- No int lies in a box that holds none. -/
theorem Hd.no_int {w : World} {k : Nat} {c : List Value} (h : Hd w k c) (hc : ∀ v ∈ c, ∀ n, v ≠ .int .i64 n) {a : Addr} {n : Int} (hx : w.cell? a = some (.int .i64 n)) : a.block ≠ k := by
 intro e
 obtain ⟨arr, t, h1, h2⟩ := h.row
 unfold World.cell? at hx
 rw [e, h1] at hx
 simp only at hx
 split at hx
 ·cases hx
 ·rename_i hs
  have ho : a.off < c.length := by
   have := (Array.getElem?_eq_some_iff.1 hx).1
   omega
  have h3 := h.cell a.off ho
  unfold World.cell? at h3
  simp only [h1] at h3
  rw [if_neg (by simp)] at h3
  rw [hx] at h3
  exact hc c[a.off] (List.getElem_mem ho) n (Option.some.inj h3).symm
end Go.Proofs.YtahfcciihkkegaaGreatDoor
namespace Go.Proofs.YtahfcciihkkegaaGreatDoor
open Go.RowKit
theorem rinv_parts {a : Rat} (h : a ≠ 0) : (a⁻¹).num = (if a.num < 0 then -(a.den : Int) else (a.den : Int)) ∧ (a⁻¹).den = a.num.natAbs := by
 have h0 : a.num ≠ 0 := fun e => h (Rat.num_eq_zero.1 e)
 rw [Rat.num_inv, Rat.den_inv, if_neg h0]
 refine ⟨?_, rfl⟩
 split
 ·rename_i h1; rw [Int.sign_eq_neg_one_of_neg h1]; omega
 ·rw [Int.sign_eq_one_of_pos (by omega)]; omega
theorem ceil_ge (a : Rat) : a ≤ (rceil a : Rat) := by
 have := Rat.floor_le (-a)
 unfold rceil
 rw [Rat.intCast_neg]
 grind
theorem ceil_lt (a : Rat) : (rceil a : Rat) - 1 < a := by
 have := Rat.lt_floor_add_one (-a)
 unfold rceil
 rw [Rat.intCast_add] at this
 rw [Rat.intCast_neg]
 simp at this ⊢
 grind
theorem Sz.inv {q : Rat} {k : Nat} (h : Sz q k) (h0 : q ≠ 0) : Sz q⁻¹ k := by
 obtain ⟨h1, h2⟩ := rinv_parts h0
 refine ⟨?_, by rw [h2]; exact h.1⟩
 rw [h1]
 split
 ·rw [dI_neg, dI_nat]; exact h.2
 ·rw [dI_nat]; exact h.2
theorem Sz.div {p q : Rat} {k m : Nat} (hp : Sz p k) (hq : Sz q m) (h0 : q ≠ 0) : Sz (p / q) (k + m) := by
 rw [Rat.div_def]; exact hp.mul (hq.inv h0)
theorem Keeps.ws (v : Value) (l : List Nat) : Keeps (fun w => Ws w v l) := fun _ _ hb h => h.below hb
theorem seg_callK {α : Type} {F : α → World} {x : World} {K : World → Prop} (hK : Keeps K) (h1 : ∀ y, Below x.drew.heap.size x.drew (F y)) (h2 : ∀ x W, Below (F x).heap.size (F x) W → ∃ y, W = F y) (hk : K x) {P : Program} {f : FuncId} {args : Array Value} {v : Value}
  (h : ∀ w, K w → Calls P f args w fun e w' => e = .returned v ∧ Below w.heap.size w w') (y : α) : Calls P f args (F y) fun e w'' => e = .returned v ∧ ∃ y, w'' = F y :=
 (h (F y) (hK _ _ (below_drew (h1 y)) hk)).mono fun _ _ ⟨he, hb⟩ => ⟨he, h2 y _ hb⟩
end Go.Proofs.YtahfcciihkkegaaGreatDoor
namespace Go.Proofs.YtahfcciihkkegaaGreatDoor
open Go.RowKit
attribute [local irreducible] lo hs sm s64 c64 d64 b64 mh ml pd pc qd qc val hiB str cmpI srD lz nb isq decB zl zh zs
theorem cls_callW {α : Type} {F : α → World} {w0 : World} (h1 : ∀ x, Below w0.heap.size w0 (F x)) (h2 : ∀ W, Below w0.heap.size w0 W → ∃ x, W = F x) {v0 : Value} {l : List Nat} (hw : Ws w0 v0 l) {P : Program} {f : FuncId} {args : Array Value} {v : Value}
  (h : ∀ w, Ws w v0 l → Calls P f args w fun e w' => e = .returned v ∧ Below w.heap.size w w') (x : α) : Calls P f args (F x) fun e w'' => e = .returned v ∧ ∃ y, w'' = F y :=
 (h (F x) (hw.below (h1 x))).mono fun _ _ ⟨he, hb⟩ => ⟨he, h2 _ ((h1 x).trans (hb.mono (h1 x).size))⟩
/-- An integer as plain data. -/
def zmade (s : Bool) (l : List Nat) : Int := if s then -(made l : Int) else (made l : Int)
theorem zmade_dI {s : Bool} {l : List Nat} (h : ∀ x ∈ l, x < 4294967296) : dI (zmade s l) ≤ l.length := by
 unfold zmade
 cases s
 ·simp only [Bool.false_eq_true, if_false, dI_nat]; exact made_digs h
 ·simp only [if_true, dI_neg, dI_nat]; exact made_digs h
set_option maxHeartbeats 4000000 in
set_option maxRecDepth 100000 in
theorem zof_any (s : Bool) (a : Option Addr) (n c : Nat) (l : List Nat) (hl : l.length ≤ 1000) (w : World) (hw : Ws w (.slice a n c) l) :
  Calls Tryz.prog 48 #[.agg #[.bool s, .slice a n c]] w fun e w' => e = .returned (intV (zmade s l)) ∧ Below w.heap.size w w' := by
 have hL0 : GL w w [] := GL.start w
 have HM := Lib.hid (fun w h => made_any (.slice a n c) l hl w h)
 have HF := Lib.hid (fun w => fromI s (made l) (zmade s l) rfl w)
 generalize hz : zmade s l = z at *
 replace hz := Lib.hid hz
 generalize made l = m at *
 clear hl
 replace hL0 := ((hL0.new rfl [.bool s, .slice a n c] 24).new (K := w.heap.size + 1) (szA _ _) [.int .u64 0, .string ⟨#[]⟩, .bool false] 32)
 generalize hweq : ((w.alloc (.cells #[.bool s, .slice a n c] 24)).alloc (.cells #[.int .u64 0, .string ⟨#[]⟩, .bool false] 32)) = x1 at hL0
 have hW := Lib.hid (hw.below hL0.bl)
 clear hw
 go_enter Tryz.func48, Tryz.ntmps48
 have hA := hL0.fc
 simp only [fcG, cellsF, neK, and_true, ne_eq, Nat.zero_add, Nat.reduceAdd] at hA
 go_upto_region 1 with fail
 clear hA
 clear hweq
 obtain ⟨α, iα, F, hF1, hF2⟩ := cls x1
 have hq := GL.fcC hF1 hL0
 simp only [fcC, cellsC, and_true, Nat.zero_add, Nat.reduceAdd] at hq
 refine region_qs 6 (C := fun w' => ∃ x, w' = F x) (by kernel_rfl) (by kernel_rfl) (cls_drew hF2) ?_
 simp only [List.take_succ_cons, List.take_zero, List.drop_succ_cons, List.drop_zero, List.take_nil, List.drop_nil]
 repeat (go_big_quiet_step (first | fail | (go_at_call 100; with_reducible exact cls_callW hF1 hF2 hW.out HM.out _) | (go_at_call 69; with_reducible exact cls_call hF1 hF2 HF.out _)))
 refine wpQuiet_nil ?_
 rintro wq ⟨xq, rfl⟩
 replace hL0 := hL0.call (hF1 xq)
 clear hq hF2
 generalize F xq = x2 at hL0 ⊢
 clear hF1 xq iα F α
 have hA := hL0.fc
 simp only [fcG, cellsF, neK, and_true, ne_eq, Nat.zero_add, Nat.reduceAdd] at hA
 have hP := hL0.put 0 (w.heap.size + 1) _ rfl [.int .u64 ((zl z : Nat) : Int), .string (zh z), .bool (zs z)] rfl
 simp only [setAll, List.set_cons_zero, List.set_cons_succ] at hP
 generalize hput1 : (((x2.setCell ⟨w.heap.size + 1, 0, none⟩ (.int .u64 ((zl z : Nat) : Int))).setCell ⟨w.heap.size + 1, 1, none⟩ (.string (zh z))).setCell ⟨w.heap.size + 1, 2, none⟩ (.bool (zs z))) = x3 at hP
 have hB1 := hP.fc
 simp only [fcG, cellsF, neK, and_true, ne_eq, Nat.zero_add, Nat.reduceAdd] at hB1
 replace hL0 := hP
 go_wp2_with fail
 exact bodyPost_ret (v := intV z) (by simp [results, Tryz.results48, go_sem, hB1]) rfl ⟨rfl, hL0.bl⟩
end Go.Proofs.YtahfcciihkkegaaGreatDoor
namespace Go.Proofs.YtahfcciihkkegaaGreatDoor
open Go.RowKit
attribute [local irreducible] lo hs sm s64 c64 d64 b64 mh ml pd pc qd qc val hiB str cmpI srD lz nb isq decB zl zh zs dval
end Go.Proofs.YtahfcciihkkegaaGreatDoor
namespace Go.Proofs.YtahfcciihkkegaaGreatDoor
open Go.RowKit
attribute [local irreducible] lo hs zl zh zs
end Go.Proofs.YtahfcciihkkegaaGreatDoor
namespace Go.Proofs.YtahfcciihkkegaaGreatDoor
open Go.RowKit
attribute [local irreducible] lo hs sm s64 c64 d64 b64 mh ml pd pc qd qc val hiB str cmpI srD lz nb isq decB zl zh zs
set_option maxHeartbeats 4000000 in
set_option maxRecDepth 100000 in
theorem gden_w (s : Bool) (a b : Option Addr) (n c m d : Nat) (w : World) :
  Calls Tryz.prog 51 #[.agg #[.bool s, .slice a n c, .slice b m d]] w fun xe w' => xe = .returned (.agg #[.bool false, .slice b m d]) ∧ Below w.heap.size w w' := by
 have hL0 : GL w w [] := GL.start w
 replace hL0 := ((hL0.new rfl [.bool s, .slice a n c, .slice b m d] 26).new (K := w.heap.size + 1) (szA _ _) [.bool false, .slice b m d] 24)
 generalize hweq : ((w.alloc (.cells #[.bool s, .slice a n c, .slice b m d] 26)).alloc (.cells #[.bool false, .slice b m d] 24)) = x1 at hL0
 go_enter Tryz.func51, Tryz.ntmps51
 have hN0 := cells_of _ 0 [] rfl (hL0.get _ _ List.mem_cons_self)
 simp only [cellsF, and_true, Nat.zero_add, Nat.reduceAdd] at hN0
 have hN1 := cells_of _ 0 [] rfl (hL0.get _ _ (List.mem_cons_of_mem _ List.mem_cons_self))
 simp only [cellsF, and_true, Nat.zero_add, Nat.reduceAdd] at hN1
 go_wp2_with fail
 exact bodyPost_ret (v := .agg #[.bool false, .slice b m d]) (by simp [results, Tryz.results51, go_sem, hN0 ,hN1]) rfl ⟨rfl, hL0.bl⟩
set_option maxHeartbeats 4000000 in
set_option maxRecDepth 100000 in
theorem gof_w (s : Bool) (a b : Option Addr) (n c m d : Nat) (y z x : Int) (p q e : Nat) (K : World → Prop) (hK : Keeps K) (HZ : RK K 48 #[.agg #[.bool s, .slice a n c]] (intV z)) (HD : RT 51 #[.agg #[.bool s, .slice a n c, .slice b m d]] (.agg #[.bool false, .slice b m d])) (L : World → Prop) (hL : Keeps L) (HY : RK L 48 #[.agg #[.bool false, .slice b m d]] (intV y)) (HA : RT 50 #[intV y] (natV p)) (HO : RT 52 #[.int .u64 1] (natV 1)) (HP : RT 49 #[natV p, natV 1] (natV q)) (HF : RT 46 #[intV z, natV q] (.tuple #[frV x e, .int .i64 0])) (w : World) (kK : K w) (kL : L w) :
  Calls Tryz.prog 13 #[.agg #[.bool s, .slice a n c, .slice b m d]] w fun xe w' => xe = .returned (frV x e) ∧ Below w.heap.size w w' := by
 have hL0 : GL w w [] := GL.start w
 replace hK := Lib.hid hK
 replace HZ := Lib.hid HZ
 replace HD := Lib.hid HD
 replace hL := Lib.hid hL
 replace HY := Lib.hid HY
 replace HA := Lib.hid HA
 replace HO := Lib.hid HO
 replace HP := Lib.hid HP
 replace HF := Lib.hid HF
 replace hL0 := ((hL0.new rfl [.bool s, .slice a n c, .slice b m d] 26).new (K := w.heap.size + 1) (szA _ _) [.int .u64 0, .string ⟨#[]⟩, .bool false, .int .u64 0, .string ⟨#[]⟩] 34)
 generalize hweq : ((w.alloc (.cells #[.bool s, .slice a n c, .slice b m d] 26)).alloc (.cells #[.int .u64 0, .string ⟨#[]⟩, .bool false, .int .u64 0, .string ⟨#[]⟩] 34)) = x1 at hL0
 go_enter Tryz.func13, Tryz.ntmps13
 go_upto_region 1 with fail
 have kK1 := hK.out.at hL0.bl kK
 have kL1 := hL.out.at hL0.bl kL
 clear hweq
 refine region_gh (by kernel_rfl) (by kernel_rfl) ?_
 refine lex_seg (gl := []) 13 (by kernel_rfl) ?_
 intro α iα F hF1 hF2
 have hq := GL.seg hF1 hL0
 simp only [fcC, cellsC, and_true, Nat.zero_add, Nat.reduceAdd] at hq
 simp only [List.take_succ_cons, List.take_zero, List.drop_succ_cons, List.drop_zero, List.take_nil, List.drop_nil]
 repeat (go_big_quiet_step (first | fail | (go_at_call 48; with_reducible exact seg_callK hK.out hF1 hF2 kK1 HZ.out _) | (go_at_call 51; with_reducible exact seg_call hF2 HD.out _) | (go_at_call 48; with_reducible exact seg_callK hL.out hF1 hF2 kL1 HY.out _) | (go_at_call 50; with_reducible exact seg_call hF2 HA.out _) | (go_at_call 52; with_reducible exact seg_call hF2 HO.out _) | (go_at_call 49; with_reducible exact seg_call hF2 HP.out _) | (go_at_call 46; with_reducible exact seg_call hF2 HF.out _)))
 refine wpQuiet_nil ?_
 clear hq hF1 hF2 iα F α
 refine lex_new [.int .u64 0, .string ⟨#[]⟩, .bool false, .int .u64 0, .string ⟨#[]⟩] 3 34 34 rfl rfl (of_decide_eq_true (by kernel_rfl)) (by kernel_rfl) rfl new_frac ?_
 simp only [Act.put, List.setIfInBounds_toArray, List.set_cons_succ, List.set_cons_zero]
 refine lex_put [.int .u64 ((zl x : Nat) : Int), .string (zh x), .bool (zs x), .int .u64 ((lo e : Nat) : Int), .string (hs e)] [.int .u64 0, .string ⟨#[]⟩, .bool false, .int .u64 0, .string ⟨#[]⟩] 3 34 (.tmp 16) rfl (by kernel_rfl) (by simp [toG, upd]) rfl (fun w k h => put_frac _ _ _ _ _ _ _ _ _ _ w k h) ?_
 simp only [Act.put]
 refine lex_seg (gl := [(3, [.int .u64 ((zl x : Nat) : Int), .string (zh x), .bool (zs x), .int .u64 ((lo e : Nat) : Int), .string (hs e)], true), (3, [.int .u64 0, .string ⟨#[]⟩, .bool false, .int .u64 0, .string ⟨#[]⟩], false)]) 1 (by kernel_rfl) ?_
 intro α iα F hF1 hF2
 have hq := GL.seg hF1 hL0
 simp only [fcC, cellsC, and_true, Nat.zero_add, Nat.reduceAdd] at hq
 simp only [List.take_succ_cons, List.take_zero, List.drop_succ_cons, List.drop_zero, List.take_nil, List.drop_nil]
 repeat (go_big_quiet_step (first | fail | (go_at_call 48; with_reducible exact seg_callK hK.out hF1 hF2 kK1 HZ.out _) | (go_at_call 51; with_reducible exact seg_call hF2 HD.out _) | (go_at_call 48; with_reducible exact seg_callK hL.out hF1 hF2 kL1 HY.out _) | (go_at_call 50; with_reducible exact seg_call hF2 HA.out _) | (go_at_call 52; with_reducible exact seg_call hF2 HO.out _) | (go_at_call 49; with_reducible exact seg_call hF2 HP.out _) | (go_at_call 46; with_reducible exact seg_call hF2 HF.out _)))
 refine wpQuiet_nil ?_
 clear hq hF1 hF2 iα F α
 refine lexG_nil ?_
 intro κ x2 hS
 replace hL0 := hL0.ghs hS [(3, [.int .u64 ((zl x : Nat) : Int), .string (zh x), .bool (zs x), .int .u64 ((lo e : Nat) : Int), .string (hs e)])] (by simp) (by intro p hp; simp only [List.mem_cons, List.not_mem_nil, or_false] at hp; rcases hp with rfl <;> exact ⟨_, by simp only [toG, upd]; rfl⟩)
 simp only [List.map_cons, List.map_nil, List.cons_append, List.nil_append] at hL0
 simp only [over_toG, over_nil, Act.put, List.setIfInBounds_toArray, List.set_cons_succ, List.set_cons_zero]
 clear hS
 generalize κ 3 = k2_3 at *
 clear kK1 kL1
 have hA := hL0.fc
 simp only [fcG, cellsF, neK, and_true, ne_eq, Nat.zero_add, Nat.reduceAdd] at hA
 have hP := hL0.put 1 (w.heap.size + 1) _ rfl [.int .u64 ((zl x : Nat) : Int), .string (zh x), .bool (zs x), .int .u64 ((lo e : Nat) : Int), .string (hs e)] rfl
 simp only [setAll, List.set_cons_zero, List.set_cons_succ] at hP
 generalize hput1 : (((((x2.setCell ⟨w.heap.size + 1, 0, none⟩ (.int .u64 ((zl x : Nat) : Int))).setCell ⟨w.heap.size + 1, 1, none⟩ (.string (zh x))).setCell ⟨w.heap.size + 1, 2, none⟩ (.bool (zs x))).setCell ⟨w.heap.size + 1, 3, none⟩ (.int .u64 ((lo e : Nat) : Int))).setCell ⟨w.heap.size + 1, 4, none⟩ (.string (hs e))) = x3 at hP
 have hB1 := hP.fc
 simp only [fcG, cellsF, neK, and_true, ne_eq, Nat.zero_add, Nat.reduceAdd] at hB1
 replace hL0 := hP
 go_wp2_with fail
 exact bodyPost_ret (v := frV x e) (by simp [results, Tryz.results13, go_sem, hB1]) rfl ⟨rfl, hL0.bl⟩
end Go.Proofs.YtahfcciihkkegaaGreatDoor
namespace Go.Proofs.YtahfcciihkkegaaGreatDoor
open Go.RowKit
attribute [local irreducible] lo hs sm s64 c64 d64 b64 mh ml pd pc qd qc val hiB str cmpI srD lz nb isq decB zl zh zs fe
def gtQ (p q : Rat) : Bool := decide (q < p)
theorem cmpQ_gt (p q : Rat) : decide (0 < cmpQ p q) = gtQ p q := by
 unfold cmpQ gtQ
 by_cases h : p < q
 ·rw [if_pos h, decide_eq_false (p := q < p) (by grind)]; rfl
 ·rw [if_neg h]
  by_cases h' : p = q
  ·rw [if_pos h', decide_eq_false (p := q < p) (by grind)]; rfl
  ·rw [if_neg h', decide_eq_true (p := q < p) (by grind)]; rfl
end Go.Proofs.YtahfcciihkkegaaGreatDoor
namespace Go.Proofs.YtahfcciihkkegaaGreatDoor
open Go.RowKit
theorem tenQ_pos (p : Nat) : 0 < tenQ p := by
 unfold tenQ
 exact Rat.natCast_pos.2 (tenN_pos p)
theorem tenQ_ne (p : Nat) : tenQ p ≠ 0 := fun e => by have := tenQ_pos p; rw [e] at this; exact absurd this (by decide)
/-- 10^-p. -/
def stepQ (p : Nat) : Rat := 1 / tenQ p
theorem stepQ_pos (p : Nat) : 0 < stepQ p := by
 unfold stepQ
 rw [Rat.div_def, Rat.one_mul]
 exact Rat.inv_pos.2 (tenQ_pos p)
theorem step_mul (p : Nat) : stepQ p * tenQ p = 1 := by
 unfold stepQ
 exact Rat.div_mul_cancel (tenQ_ne p)
theorem rnd_eq (way : Int) (p : Nat) (q : Rat) : rnd way p q = (toI way (q * tenQ p) : Rat) * stepQ p := by
 unfold rnd stepQ
 rw [Rat.div_def, Rat.div_def, Rat.one_mul]
theorem q_eq (p : Nat) (q : Rat) : q = (q * tenQ p) * stepQ p := by
 rw [Rat.mul_assoc, Rat.mul_comm (tenQ p), step_mul, Rat.mul_one]
theorem mul_step_le {a b : Rat} (p : Nat) (h : a ≤ b) : a * stepQ p ≤ b * stepQ p := Rat.mul_le_mul_of_nonneg_right h (Rat.le_of_lt (stepQ_pos p))
theorem int_ceil (z : Int) : rceil (z : Rat) = z := by
 unfold rceil
 rw [← Rat.intCast_neg, Rat.floor_intCast]; omega
theorem ceil_cases (x : Rat) : (x = (x.floor : Rat) ∧ rceil x = x.floor) ∨ (x ≠ (x.floor : Rat) ∧ rceil x = x.floor + 1) := by
 by_cases h : x = (x.floor : Rat)
 ·left
  refine ⟨h, ?_⟩
  conv => lhs; rw [h]
  exact int_ceil _
 ·right
  refine ⟨h, ?_⟩
  have f1 := Rat.floor_le x
  have f2 := Rat.lt_floor_add_one x
  have c1 := ceil_ge x
  have c2 := ceil_lt x
  have g1 : (x.floor : Rat) < (rceil x : Rat) := by grind
  have g2 : (rceil x : Rat) < ((x.floor + 2 : Int) : Rat) := by rw [Rat.intCast_add] at f2 ⊢; grind
  have g3 := Rat.intCast_lt_intCast.1 g1
  have g4 := Rat.intCast_lt_intCast.1 g2
  omega
theorem rnd_mul (way : Int) (p : Nat) (q : Rat) : rnd way p q * tenQ p = (toI way (q * tenQ p) : Rat) := by
 rw [rnd_eq, Rat.mul_assoc, step_mul, Rat.mul_one]
theorem rnd_low (p : Nat) (q : Rat) : rnd 1 p q ≤ q := by
 conv => rhs; rw [q_eq p q]
 rw [rnd_eq]
 exact mul_step_le p (Rat.floor_le _)
theorem half2 : mkRat 1 2 + mkRat 1 2 = 1 := by decide +kernel
/-- The nearest integer is at most a half away; at a half it is even. -/
theorem toI_near (x : Rat) : ∃ d : Rat, 0 ≤ d ∧ d ≤ mkRat 1 2 ∧ ((toI 3 x : Rat) = x + d ∨ (toI 3 x : Rat) = x - d) ∧ (d = mkRat 1 2 → toI 3 x % 2 = 0) := by
 have f1 := Rat.floor_le x
 have f2 := Rat.lt_floor_add_one x
 rw [Rat.intCast_add] at f2
 have hh := half2
 have h0 : (0 : Rat) < mkRat 1 2 := by decide +kernel
 unfold toI
 rw [if_pos rfl]
 unfold nearUp
 by_cases h1 : x - (x.floor : Rat) < mkRat 1 2
 ·rw [if_pos h1]
  refine ⟨x - (x.floor : Rat), by grind, by grind, .inr ?_, fun e => ?_⟩
  ·simp; grind
  ·rw [e] at h1; exact absurd h1 (by grind)
 ·rw [if_neg h1]
  have hn : x ≠ (x.floor : Rat) := fun e => h1 (by rw [← e]; grind)
  have hc : rceil x = x.floor + 1 := by
   rcases ceil_cases x with ⟨h, _⟩ | ⟨_, h⟩
   ·exact absurd h hn
   ·exact h
  by_cases h2 : x - (x.floor : Rat) = mkRat 1 2
  ·rw [if_pos h2]
   by_cases h3 : x.floor % 2 = 1
   ·rw [if_pos (by simpa using h3), hc]
    refine ⟨mkRat 1 2, Rat.le_of_lt h0, Rat.le_refl, .inl ?_, fun _ => by omega⟩
    rw [Rat.intCast_add]; grind
   ·rw [if_neg (by simpa using h3)]
    refine ⟨mkRat 1 2, Rat.le_of_lt h0, Rat.le_refl, .inr ?_, fun _ => by omega⟩
    grind
  ·rw [if_neg h2, if_pos rfl, hc]
   refine ⟨1 - (x - (x.floor : Rat)), by grind, by grind, .inl ?_, fun e => ?_⟩
   ·rw [Rat.intCast_add]; grind
   ·exact absurd e (by grind)
end Go.Proofs.YtahfcciihkkegaaGreatDoor
namespace Go.Proofs.YtahfcciihkkegaaGreatDoor
open Go.RowKit
theorem floor_mono {x y : Rat} (h : x ≤ y) : x.floor ≤ y.floor := Rat.le_floor_iff.2 (Rat.le_trans (Rat.floor_le x) h)
theorem ceil_mono {x y : Rat} (h : x ≤ y) : rceil x ≤ rceil y := by
 unfold rceil
 have := floor_mono (show -y ≤ -x by grind)
 omega
/-- What the nearest integer is. -/
def NearI (x : Rat) (z : Int) : Prop := ∃ d : Rat, 0 ≤ d ∧ d ≤ mkRat 1 2 ∧ ((z : Rat) = x + d ∨ (z : Rat) = x - d) ∧ (d = mkRat 1 2 → z % 2 = 0)
theorem near_close {x : Rat} {z : Int} (h : NearI x z) : x - mkRat 1 2 ≤ (z : Rat) ∧ (z : Rat) ≤ x + mkRat 1 2 := by
 obtain ⟨d, h0, h1, h2, _⟩ := h
 rcases h2 with h2 | h2 <;> constructor <;> grind
theorem near_uniq {x : Rat} {y z : Int} (hy : NearI x y) (hz : NearI x z) : y = z := by
 have key : ∀ {a b : Int}, NearI x a → NearI x b → a < b → False := by
  intro a b ha hb hab
  obtain ⟨a1, a2⟩ := near_close ha
  obtain ⟨b1, b2⟩ := near_close hb
  have hh := half2
  have h1 : ((a + 1 : Int) : Rat) ≤ (b : Rat) := Rat.intCast_le_intCast.2 (by omega)
  rw [Rat.intCast_add] at h1
  have e1 : (a : Rat) = x - mkRat 1 2 := by grind
  have e2 : (b : Rat) = x + mkRat 1 2 := by grind
  have e3 : (b : Rat) = ((a + 1 : Int) : Rat) := by rw [Rat.intCast_add]; grind
  have e4 : b = a + 1 := Rat.intCast_inj.1 e3
  obtain ⟨d, d0, d1, d2, d3⟩ := ha
  obtain ⟨f, f0, f1, f2, f3⟩ := hb
  have p1 := d3 (by rcases d2 with d2 | d2 <;> grind)
  have p2 := f3 (by rcases f2 with f2 | f2 <;> grind)
  omega
 rcases Int.lt_trichotomy y z with h | h | h
 ·exact (key hy hz h).elim
 ·exact h
 ·exact (key hz hy h).elim
theorem near_neg (x : Rat) : toI 3 (-x) = -toI 3 x := by
 refine near_uniq (toI_near (-x)) ?_
 obtain ⟨d, h0, h1, h2, h3⟩ := toI_near x
 refine ⟨d, h0, h1, ?_, fun e => by have := h3 e; omega⟩
 rw [Rat.intCast_neg]
 rcases h2 with h2 | h2
 ·right; rw [h2]; grind
 ·left; rw [h2]; grind
theorem toI_mono (way : Int) {x y : Rat} (h : x ≤ y) : toI way x ≤ toI way y := by
 by_cases h3 : way = 3
 ·subst h3
  rcases Int.lt_or_le (toI 3 y) (toI 3 x) with h1 | h1
  ·exfalso
   obtain ⟨a1, a2⟩ := near_close (toI_near x)
   obtain ⟨b1, b2⟩ := near_close (toI_near y)
   have hh := half2
   have g : ((toI 3 y + 1 : Int) : Rat) ≤ (toI 3 x : Rat) := Rat.intCast_le_intCast.2 (by omega)
   rw [Rat.intCast_add] at g
   have e : x = y := by grind
   rw [e] at h1; omega
  ·exact h1
 ·unfold toI
  rw [if_neg h3, if_neg h3]
  split
  ·exact ceil_mono h
  ·exact floor_mono h
theorem rnd_mono (way : Int) (p : Nat) {q r : Rat} (h : q ≤ r) : rnd way p q ≤ rnd way p r := by
 rw [rnd_eq, rnd_eq]
 exact mul_step_le p (Rat.intCast_le_intCast.2 (toI_mono way (Rat.mul_le_mul_of_nonneg_right h (Rat.le_of_lt (tenQ_pos p)))))
theorem rnd_neg_low (p : Nat) (q : Rat) : rnd 1 p (-q) = -rnd 2 p q := by
 rw [rnd_eq, rnd_eq, Rat.neg_mul]
 show ((-(q * tenQ p)).floor : Rat) * stepQ p = -((rceil (q * tenQ p) : Rat) * stepQ p)
 unfold rceil
 rw [Rat.intCast_neg]; grind
theorem rnd_neg_high (p : Nat) (q : Rat) : rnd 2 p (-q) = -rnd 1 p q := by
 rw [rnd_eq, rnd_eq, Rat.neg_mul]
 show (rceil (-(q * tenQ p)) : Rat) * stepQ p = -(((q * tenQ p).floor : Rat) * stepQ p)
 unfold rceil
 rw [Rat.neg_neg, Rat.intCast_neg]; grind
theorem rnd_neg_near (p : Nat) (q : Rat) : rnd 3 p (-q) = -rnd 3 p q := by
 rw [rnd_eq, rnd_eq, Rat.neg_mul, near_neg, Rat.intCast_neg]; grind
theorem ten_split {p r : Nat} (h : p ≤ r) : tenQ r = tenQ p * ((10 ^ (r - p) : Nat) : Rat) := by
 unfold tenQ
 rw [← Rat.natCast_mul, ← Nat.pow_add, Nat.add_sub_cancel' h]
theorem rnd_tens {way : Int} {p r : Nat} (q : Rat) (h : p ≤ r) : rnd way p q * tenQ r = ((toI way (q * tenQ p) * (10 ^ (r - p) : Nat) : Int) : Rat) := by
 rw [ten_split h, ← Rat.mul_assoc, rnd_mul, Rat.intCast_mul]; rfl
theorem rnd_finer_low {p r : Nat} (q : Rat) (h : p ≤ r) : rnd 1 p q ≤ rnd 1 r q := by
 have h1 := rnd_low p q
 have h2 : rnd 1 p q * tenQ r ≤ q * tenQ r := Rat.mul_le_mul_of_nonneg_right h1 (Rat.le_of_lt (tenQ_pos r))
 rw [rnd_tens q h] at h2
 have h3 := Rat.le_floor_iff.2 h2
 have h4 := mul_step_le r (Rat.intCast_le_intCast.2 h3)
 rw [← rnd_tens q h, ← q_eq] at h4
 rw [rnd_eq 1 r]
 exact h4
theorem rnd_finer_high {p r : Nat} (q : Rat) (h : p ≤ r) : rnd 2 r q ≤ rnd 2 p q := by
 have h1 := rnd_finer_low (-q) h
 rw [rnd_neg_low, rnd_neg_low] at h1
 grind
end Go.Proofs.YtahfcciihkkegaaGreatDoor
namespace Go.Proofs.YtahfcciihkkegaaGreatDoor
open Go.RowKit
theorem rnd_sz {q : Rat} {k p : Nat} (way : Int) (h : Sz q k) (hp : p ≤ 100) : Sz (rnd way p q) (k + 12) := by
 unfold rnd
 exact (Sz.int (toI_d way (h.mul (ten_sz hp))) (by omega)).div (ten_sz hp) (tenQ_ne p)
end Go.Proofs.YtahfcciihkkegaaGreatDoor
namespace Go.Proofs.YtahfcciihkkegaaGreatDoor
open Go.RowKit
attribute [local irreducible] lo hs sm s64 c64 d64 b64 mh ml pd pc qd qc val hiB str cmpI srD lz nb isq decB zl zh zs
/-- A Great as plain data. -/
def gmade (s : Bool) (l k : List Nat) : Rat := mkRat (zmade s l) (made k + 1)
theorem gof_any (s : Bool) (a b : Option Addr) (n c m d : Nat) (l k : List Nat) (hl : l.length ≤ 1000) (hk : k.length ≤ 1000) (w : World) (h1 : Ws w (.slice a n c) l) (h2 : Ws w (.slice b m d) k) :
  Calls Tryz.prog 13 #[.agg #[.bool s, .slice a n c, .slice b m d]] w fun xe w' => xe = .returned (fracV (gmade s l k)) ∧ Below w.heap.size w w' := by
 have d1 := zmade_dI (s := s) h1.lt
 have d2 := made_digs h2.lt
 have dz1 : (digs 1).length ≤ 1 := digs_length_iff.2 (by rw [Nat.pow_one]; exact Bs_gt)
 have d3 : (digs (made k + 1)).length ≤ 1001 := Nat.le_trans (digs_add_le (k := 1000) (by omega) (Nat.le_trans dz1 (by omega))) (by omega)
 refine gof_w s a b n c m d (zmade false k) (zmade s l) _ (made k) (made k + 1) _ _ (Keeps.ws _ l) (fun w h => zof_any s a n c l hl w h) (fun w => gden_w s a b n c m d w) _ (Keeps.ws _ k) (fun w h => zof_any false b m d k hk w h) (fun w => ?_) one_o (fun w => add_any (made k) 1 (by omega) (by omega) w) (fromF (zmade s l) (made k + 1) (by omega) (by omega) (by omega)) w h1 h2
 have h := absI (zmade false k) w
 rw [show (zmade false k).natAbs = made k from rfl] at h
 exact h
theorem gmade_sz {s : Bool} {w : World} {a b : Option Addr} {n c m d : Nat} {l k : List Nat} {most : Nat} (hp : 0 < most) (h1 : Ws w (.slice a n c) l) (h2 : Ws w (.slice b m d) k) (hn : n ≤ most) (hm : m ≤ most) : Sz (gmade s l k) (most + 1) := by
 have e1 := h1.len
 have e2 := h2.len
 have d1 := zmade_dI (s := s) h1.lt
 have d2 := made_digs h2.lt
 refine Sz.mk (by omega) ?_ (by omega)
 have dz1 : (digs 1).length ≤ 1 := digs_length_iff.2 (by rw [Nat.pow_one]; exact Bs_gt)
 exact digs_add_le (k := most) (by omega) (by omega)
end Go.Proofs.YtahfcciihkkegaaGreatDoor
namespace Go.Proofs.YtahfcciihkkegaaGreatDoor
open Go.RowKit
open Go.Lib (decDigits)
theorem dpair (v u : Value) (l k : List Nat) : Keeps (fun w => Ws w v l ∧ Ws w u k) := Keeps.and (Keeps.ws v l) (Keeps.ws u k)
attribute [local irreducible] decT toI rnd tenQ tailT
end Go.Proofs.YtahfcciihkkegaaGreatDoor
namespace Go.Proofs.YtahfcciihkkegaaGreatDoor
open Go.ChangeShapes Go.WideShapes Go.ChangeAt Go.RowKit
theorem cells62 : Tryz.prog.cellsOf 56 = 1 := by kernel_rfl
theorem wide_u32 {n : Int} (h : (Lit.int .u32 n).wf = true) : 0 ≤ n ∧ n ≤ 4294967295 := bounds_u32 h
end Go.Proofs.YtahfcciihkkegaaGreatDoor
namespace Go.Proofs.YtahfcciihkkegaaGreatDoor
open Go.ChangeShapes Go.WideShapes Go.ChangeAt Go.RowKit Go.Joins
theorem cellsZ : Tryz.prog.cellsOf 24 = 2 := by kernel_rfl
theorem ws_of_trod {H : Type} {enc : TypeId × Value → H} {W : World} {v : Value} {y : DataW H × List MemPlace} {fuel : Nat} (hf : DataW.trod enc Tryz.prog W 0 (fun _ => true) true fuel 22 [v] = some y) : ∃ a n c l, v = .slice a n c ∧ Ws W v l := by
 rcases open_ints Tryz.underlying22 Tryz.underlying56 cells62 hf with ⟨hcs, hx⟩ | ⟨a, len', cap', zs, hcs, _, hl, hm, hz, hx, hcell, hwz⟩
 ·simp only [List.cons.injEq, and_true] at hcs
  subst hcs
  exact ⟨none, 0, 0, [], rfl, .inl ⟨_, _, rfl, rfl⟩⟩
 ·simp only [List.cons.injEq, and_true] at hcs
  subst hcs
  simp only [if_true] at hz
  refine ⟨some a, len', cap', ?_⟩
  by_cases h0 : len' = 0
  ·subst h0
   exact ⟨[], rfl, .inl ⟨_, _, rfl, rfl⟩⟩
  ·have hll : ((zs.take len').map Int.toNat).length = len' := by simp; omega
   refine ⟨(zs.take len').map Int.toNat, rfl, .inr ⟨a, cap', by rw [hll], ?_, ?_, ?_⟩⟩
   ·intro x hx
    obtain ⟨z, hz1, rfl⟩ := List.mem_map.1 hx
    have := wide_u32 (hwz z (List.mem_of_mem_take hz1))
    omega
   ·intro i hi
    rw [hll] at hi
    have hi2 : i < zs.length := by omega
    have e := hcell i hi2
    rw [show zs.getD i 0 = zs[i] by simp [List.getD, hi2]] at e
    have hw := wide_u32 (hwz zs[i] (List.getElem_mem hi2))
    rw [e]
    simp only [List.getElem_map, List.getElem_take]
    rw [Int.toNat_of_nonneg hw.1]
   ·have e := hcell 0 (by omega)
    have := World.block_lt_of_cell? W _ e
    rw [show (a.add 0).block = a.block from by unfold Addr.add; split <;> rfl] at this
    exact this
end Go.Proofs.YtahfcciihkkegaaGreatDoor
namespace Go.Proofs.YtahfcciihkkegaaGreatDoor
open Go.ChangeShapes Go.WideShapes Go.ChangeAt Go.RowKit Go.Joins
theorem cellsG : Tryz.prog.cellsOf 26 = 3 := by kernel_rfl
theorem cellsW : Tryz.prog.cellsOf 22 = 1 := by kernel_rfl
theorem cellsB : Tryz.prog.cellsOf 4 = 1 := by kernel_rfl
set_option maxRecDepth 100000 in
theorem great_of {H : Type} {enc : TypeId × Value → H} {W : World} {base : Nat} {v : Value} {d : DataW H} {p : List MemPlace} (hv : Value.okWide Tryz.prog W .any base 26 v)
  (h : DataW.Trod enc Tryz.prog W 0 (fun _ => true) true 26 v d p) : ∃ s a q n c m d l k, v = .agg #[.bool s, .slice a n c, .slice q m d] ∧ Ws W (.slice a n c) l ∧ Ws W (.slice q m d) k := by
 obtain ⟨cs, rfl, hsz⟩ := okWide_struct Tryz.underlying26 hv
 obtain ⟨c0, c1, c2, rfl⟩ := array3 (hsz.trans cellsG)
 obtain ⟨fuel, hf⟩ := h
 obtain ⟨y0, y1, n, hx, _, h0, h1⟩ := trod_struct2 Tryz.underlying26 hf
 simp only [cellsZ, cellsW] at h0 h1
 obtain ⟨z0, z1, m, hz, _, g0, g1⟩ := trod_struct2 Tryz.underlying24 h0
 simp only [cellsB, cellsW] at g0 g1
 obtain ⟨s, e0, -⟩ := DataW.trod_bool Tryz.underlying4 g0
 obtain ⟨a1, n1, k1, l1, r1, w1⟩ := ws_of_trod g1
 obtain ⟨a2, n2, k2, l2, r2, w2⟩ := ws_of_trod h1
 simp [Value.cells] at e0 r1 r2
 subst e0 r1 r2
 exact ⟨s, a1, a2, n1, k1, n2, k2, l1, l2, rfl, w1, w2⟩
end Go.Proofs.YtahfcciihkkegaaGreatDoor
namespace Go.Proofs.YtahfcciihkkegaaGreatDoor.Rx
open Go.RowKit
/-- The number that digits spell. -/
def tv : List Nat → Nat
 | [] => 0
 | d :: l => d + 10000 * tv l
theorem tv_nil : tv [] = 0 := rfl
/-- The digits of a number. -/
def td (n : Nat) : List Nat := if h : n = 0 then [] else n % 10000 :: td (n / 10000)
theorem td_zero : td 0 = [] := by rw [td, dif_pos rfl]
theorem td_pos {n : Nat} (h : n ≠ 0) : td n = n % 10000 :: td (n / 10000) := by rw [td, dif_neg h]
theorem td_lt (n : Nat) : ∀ d ∈ td n, d < 10000 := by
 induction n using Nat.strongRecOn with
 | _ n ih =>
  by_cases h : n = 0
  ·rw [h, td_zero]; intro d hd; cases hd
  ·rw [td_pos h]
   intro d hd
   rcases List.mem_cons.1 hd with rfl | hd
   ·omega
   ·exact ih (n / 10000) (by omega) d hd
theorem td_nil {n : Nat} : td n = [] ↔ n = 0 := by
 by_cases h : n = 0
 ·rw [h, td_zero]; simp
 ·rw [td_pos h]; simp [h]
theorem tv_append (l m : List Nat) : tv (l ++ m) = tv l + 10000 ^ l.length * tv m := by
 induction l with
 | nil => simp [tv]
 | cons d l ih => rw [List.cons_append, tv, ih, tv, List.length_cons, Nat.pow_succ, Nat.mul_add, Nat.mul_comm _ 10000, Nat.mul_assoc]; omega
theorem tv_lt {l : List Nat} (h : ∀ d ∈ l, d < 10000) : tv l < 10000 ^ l.length := by
 induction l with
 | nil => exact Nat.one_pos
 | cons d l ih =>
  have h1 := ih fun x hx => h x (List.mem_cons_of_mem _ hx)
  have h2 := h d List.mem_cons_self
  rw [tv, List.length_cons, Nat.pow_succ]
  omega
theorem tv_zeros (k : Nat) : tv (List.replicate k 0) = 0 := by
 induction k with
 | zero => rfl
 | succ k ih => rw [List.replicate_succ, tv, ih]
/-- Digits are those of their number, and zeros behind them. -/
theorem td_tv {l : List Nat} (h : ∀ d ∈ l, d < 10000) : ∃ z, l = td (tv l) ++ List.replicate z 0 := by
 induction l with
 | nil => exact ⟨0, by rw [tv, td_zero]; rfl⟩
 | cons d l ih =>
  obtain ⟨z, hz⟩ := ih fun x hx => h x (List.mem_cons_of_mem _ hx)
  have hd := h d List.mem_cons_self
  rw [tv]
  by_cases h0 : d + 10000 * tv l = 0
  ·have h1 : tv l = 0 := by omega
   rw [h1, td_zero, List.nil_append] at hz
   refine ⟨z + 1, ?_⟩
   rw [h0, td_zero, List.nil_append, List.replicate_succ, ← hz, show d = 0 by omega]
  ·refine ⟨z, ?_⟩
   rw [td_pos h0, show (d + 10000 * tv l) % 10000 = d by omega, show (d + 10000 * tv l) / 10000 = tv l by omega, List.cons_append, ← hz]
theorem td_length {n k : Nat} : (td n).length ≤ k ↔ n < 10000 ^ k := by
 induction k generalizing n with
 | zero =>
  rw [Nat.pow_zero]
  constructor
  ·intro h; have := td_nil.1 (List.eq_nil_of_length_eq_zero (l := td n) (by omega)); omega
  ·intro h; rw [show n = 0 by omega, td_zero]; exact Nat.le_refl _
 | succ k ih =>
  by_cases h : n = 0
  ·rw [h, td_zero]; exact ⟨fun _ => Nat.pow_pos (by omega), fun _ => Nat.zero_le _⟩
  ·rw [td_pos h, List.length_cons, Nat.pow_succ]
   have := ih (n := n / 10000)
   constructor
   ·intro h1; have := this.1 (by omega); omega
   ·intro h1; have := this.2 (by omega); omega
theorem tv_snoc (l : List Nat) (d : Nat) : tv (l ++ [d]) = tv l + 10000 ^ l.length * d := by rw [tv_append]; simp [tv]
theorem tv_take_getElem {l : List Nat} {k : Nat} (h : k < l.length) : tv (l.take (k + 1)) = tv (l.take k) + 10000 ^ k * l[k] := by
 rw [List.take_succ_eq_append_getElem h, tv_snoc, List.length_take, Nat.min_eq_left (Nat.le_of_lt h)]
theorem td_last {n : Nat} (h : td n ≠ []) : (td n).getLast h ≠ 0 := by
 induction n using Nat.strongRecOn with
 | _ n ih =>
  have h0 : n ≠ 0 := fun e => h (td_nil.2 e)
  by_cases h1 : n / 10000 = 0
  ·simp only [td_pos h0, h1, td_zero, List.getLast_singleton]; omega
  ·have h2 : td (n / 10000) ≠ [] := fun e => h1 (td_nil.1 e)
   have := ih (n / 10000) (by omega) h2
   simp only [td_pos h0]
   rwa [List.getLast_cons h2]
/-- A digit, or 0 behind the last one. -/
def dg (l : List Nat) (i : Nat) : Nat := l.getD i 0
theorem dg_lt {l : List Nat} (h : ∀ d ∈ l, d < 10000) (i : Nat) : dg l i < 10000 := by
 unfold dg
 rcases Nat.lt_or_ge i l.length with hi | hi
 ·simp [hi]; exact h _ (List.getElem_mem hi)
 ·simp [hi]
theorem dg_in {l : List Nat} {i : Nat} (h : i < l.length) : dg l i = l[i] := by unfold dg; simp [h]
theorem dg_out {l : List Nat} {i : Nat} (h : l.length ≤ i) : dg l i = 0 := by unfold dg; simp [h]
theorem tv_take (l : List Nat) (k : Nat) : tv (l.take (k + 1)) = tv (l.take k) + 10000 ^ k * dg l k := by
 rcases Nat.lt_or_ge k l.length with h | h
 ·rw [tv_take_getElem h, dg_in h]
 ·rw [dg_out h, List.take_of_length_le (by omega), List.take_of_length_le h]; omega
/-- A slice of ints that can be read. -/
structure Sd (w : World) (a : Addr) (l : List Nat) : Prop where
 cell : ∀ (i : Nat) (h : i < l.length), w.cell? (a.add i) = some (.int .i64 ((l[i] : Nat) : Int))
 blk : a.block < w.heap.size
theorem addB (a : Addr) (i : Nat) : (a.add i).block = a.block := by unfold Addr.add; split <;> rfl
theorem Sd.below {w w' : World} {a : Addr} {l : List Nat} (h : Sd w a l) (hb : Below w.heap.size w w') : Sd w' a l :=
 ⟨fun i hi => (hb.cell (p := a.add i) (by rw [addB]; exact h.blk)).trans (h.cell i hi), Nat.lt_of_lt_of_le h.blk hb.size⟩
theorem Sd.left {w : World} {a : Addr} {l m : List Nat} (h : Sd w a (l ++ m)) : Sd w a l :=
 ⟨fun i hi => by rw [h.cell i (by rw [List.length_append]; omega), List.getElem_append_left hi], h.blk⟩
def Sl (w : World) (v : Value) (l : List Nat) : Prop := (∃ ao c, v = .slice ao 0 c ∧ l = [] ∧ (ao = none → c = 0)) ∨ ∃ a c, v = .slice (some a) l.length c ∧ l.length ≤ c ∧ Sd w a l
theorem Sl.below {w w' : World} {v : Value} {l : List Nat} (h : Sl w v l) (hb : Below w.heap.size w w') : Sl w' v l := by
 rcases h with h | ⟨a, c, h1, h2, h3⟩
 ·exact .inl h
 ·exact .inr ⟨a, c, h1, h2, h3.below hb⟩
theorem Sl.form {w : World} {v : Value} {l : List Nat} (h : Sl w v l) : ∃ ao c, v = .slice ao l.length c := by
 rcases h with ⟨ao, c, rfl, rfl, -⟩ | ⟨a, c, rfl, _⟩
 ·exact ⟨_, _, rfl⟩
 ·exact ⟨_, _, rfl⟩
theorem Sl.nil (w : World) : Sl w (.slice none 0 0) [] := .inl ⟨_, _, rfl, rfl, fun _ => rfl⟩
theorem Sl.drew {w : World} {v : Value} {l : List Nat} (h : Sl w v l) : Sl w.drew v l := by
 rcases h with h | ⟨a, c, h1, h2, h3⟩
 ·exact .inl h
 ·exact .inr ⟨a, c, h1, h2, h3.cell, h3.blk⟩
abbrev iv (d : Nat) : Value := .int .i64 (d : Int)
end Go.Proofs.YtahfcciihkkegaaGreatDoor.Rx
namespace Go.Proofs.YtahfcciihkkegaaGreatDoor.Rx
open Go.RowKit
attribute [local irreducible] tv dg
def lenOf : Value → Nat | .slice _ n _ => n | _ => 0
theorem trim_nil (ao : Option Addr) (c : Nat) (w : World) :
  Calls Tryz.prog 138 #[.slice ao 0 c] w fun e w' => e = .returned (.slice ao 0 c) ∧ w = w' := by
 go_enter Tryz.func138, Tryz.ntmps138
 go_wp2_with fail
 go_loopw [0] (fun v wr => v = .slice ao 0 c ∧ wr = w) (fun v _ => lenOf v)
 case atStart => exact ⟨rfl, rfl⟩
 case round =>
  obtain ⟨rfl, rfl⟩ := hrel
  go_wp2_with fail
  go_ret
  exact ⟨rfl, rfl⟩
theorem trim_row (a : Addr) (c m z : Nat) (l : List Nat) (hm : l.length = m) (hc : m + z ≤ c) (hB : m + z < 9223372036854775807) (hlast : ∀ h : l ≠ [], l.getLast h ≠ 0) (w : World) (h : Sd w a (l ++ List.replicate z 0)) :
  Calls Tryz.prog 138 #[.slice (some a) (m + z) c] w fun e w' => e = .returned (.slice (some a) m c) ∧ w = w' := by
 have hz : ∀ k, k < z → w.cell? (a.add (m + k)) = some (.int .i64 0) := fun k hk => by
  rw [h.cell (m + k) (by simp; omega), List.getElem_append_right (by omega)]; simp
 have hl : ∀ p, m = p + 1 → ∃ d : Nat, d ≠ 0 ∧ w.cell? (a.add p) = some (.int .i64 (d : Int)) := fun p hp => by
  have hne : l ≠ [] := fun e => by rw [e] at hm; simp at hm; omega
  refine ⟨l.getLast hne, hlast hne, ?_⟩
  rw [h.cell p (by simp; omega), List.getElem_append_left (by omega), List.getLast_eq_getElem hne]
  simp [hm, hp]
 clear h hlast hm
 replace hz := Lib.hid hz
 replace hl := Lib.hid hl
 go_enter Tryz.func138, Tryz.ntmps138
 go_wp2_with fail
 go_loopw [0] (fun v wr => ∃ k, k ≤ z ∧ v = .slice (some a) (m + k) c ∧ wr = w) (fun v _ => lenOf v)
 case atStart => exact ⟨z, Nat.le_refl _, rfl, rfl⟩
 case round =>
  obtain ⟨k, hk, rfl, rfl⟩ := hrel
  cases k with
  | zero =>
   rw [Nat.add_zero]
   cases m with
   | zero =>
    go_wp2_with fail
    go_ret
    exact ⟨rfl, rfl⟩
   | succ p =>
    obtain ⟨d, hd, hcell⟩ := hl.out p rfl
    have hd1 : ((d : Int) == 0) = false := beq_eq_false_iff_ne.2 (by omega)
    go_wp2_with fail
    go_ret
    exact ⟨rfl, rfl⟩
  | succ j =>
   have hcell := hz.out j (by omega)
   rw [show m + (j + 1) = (m + j) + 1 from by omega]
   obtain ⟨q, hq⟩ : ∃ q, q = m + j := ⟨_, rfl⟩
   rw [← hq] at hcell ⊢
   have hqc : q + 1 ≤ c := by omega
   have hqB : q + 1 < 9223372036854775807 := by omega
   replace hq := Lib.hid hq
   go_wp2_with fail
   go_roundw
   case rel => exact ⟨j, by omega, by rw [hq.out], trivial⟩
   case measure => simp [lenOf]
/-- trim: the digits of a number. -/
theorem trim_any (v : Value) (l : List Nat) (hd : ∀ d ∈ l, d < 10000) (hB : l.length < 9223372036854775807) (w : World) (h : Sl w v l) :
  Calls Tryz.prog 138 #[v] w fun e w' => ∃ v', e = .returned v' ∧ Sl w v' (td (tv l)) ∧ w = w' := by
 obtain ⟨z, hz⟩ := td_tv hd
 rcases h with ⟨ao, c, rfl, rfl, hc0⟩ | ⟨a, c, rfl, h2, h3⟩
 ·refine (trim_nil ao c w).mono ?_
  rintro e w' ⟨rfl, rfl⟩
  exact ⟨_, rfl, .inl ⟨ao, c, rfl, by rw [tv_nil, td_zero], hc0⟩, rfl⟩
 ·have hlen : l.length = (td (tv l)).length + z := by
   have := congrArg List.length hz
   rwa [List.length_append, List.length_replicate] at this
  rw [hz] at h3
  rw [hlen] at h2 hB ⊢
  refine (trim_row a c _ z (td (tv l)) rfl h2 hB (fun h => td_last h) w h3).mono ?_
  rintro e w' ⟨rfl, rfl⟩
  exact ⟨_, rfl, .inr ⟨a, c, rfl, by omega, h3.left⟩, rfl⟩
end Go.Proofs.YtahfcciihkkegaaGreatDoor.Rx
namespace Go.Proofs.YtahfcciihkkegaaGreatDoor.Rx
open Go.RowKit
attribute [local irreducible] tv dg
/-- What the digits so far spell, with what is left. -/
theorem td_step {n k : Nat} (hk : k < (td n).length) : n / 10000 ^ k ≠ 0 ∧ (td n)[k] = n / 10000 ^ k % 10000 := by
 induction k generalizing n with
 | zero =>
  have h0 : n ≠ 0 := fun e => by rw [e, td_zero] at hk; exact absurd hk (by simp)
  simp only [Nat.pow_zero, Nat.div_one]
  refine ⟨h0, ?_⟩
  simp only [td_pos h0, List.getElem_cons_zero]
 | succ k ih =>
  have h0 : n ≠ 0 := fun e => by rw [e, td_zero] at hk; exact absurd hk (by simp)
  have hk' : k < (td (n / 10000)).length := by rw [td_pos h0, List.length_cons] at hk; omega
  have := ih hk'
  rw [Nat.div_div_eq_div_mul, Nat.mul_comm, ← Nat.pow_succ] at this
  refine ⟨this.1, ?_⟩
  simp only [td_pos h0, List.getElem_cons_succ]
  exact this.2
theorem td_end {n k : Nat} (hk : (td n).length ≤ k) : n / 10000 ^ k = 0 := Nat.div_eq_of_lt (td_length.1 hk)
end Go.Proofs.YtahfcciihkkegaaGreatDoor.Rx
namespace Go.Proofs.YtahfcciihkkegaaGreatDoor.Rx
open Go.RowKit
attribute [local irreducible] tv dg
/-- What Add's rounds keep. -/
structure AddS (A B S : List Nat) (i c : Nat) : Prop where
 len : S.length = i
 lt : ∀ d ∈ S, d < 10000
 car : c ≤ 1
 eq : tv S + 10000 ^ i * c = tv (A.take i) + tv (B.take i)
theorem AddS.step {A B S : List Nat} {i c : Nat} (h : AddS A B S i c) (hA : ∀ d ∈ A, d < 10000) (hB : ∀ d ∈ B, d < 10000) :
  AddS A B (S ++ [(dg A i + dg B i + c) % 10000]) (i + 1) ((dg A i + dg B i + c) / 10000) := by
 have h1 := dg_lt hA i
 have h2 := dg_lt hB i
 have h3 := h.car
 refine ⟨by rw [List.length_append, h.len]; rfl, fun d hd => ?_, by omega, ?_⟩
 ·rcases List.mem_append.1 hd with hd | hd
  ·exact h.lt d hd
  ·rw [List.mem_singleton.1 hd]; omega
 ·rw [tv_snoc, h.len, tv_take, tv_take, Nat.pow_succ]
  have h4 := h.eq
  generalize dg A i = x at *
  generalize dg B i = y at *
  have h5 : (x + y + c) % 10000 + 10000 * ((x + y + c) / 10000) = x + y + c := by omega
  have h6 : 10000 ^ i * ((x + y + c) % 10000) + 10000 ^ i * 10000 * ((x + y + c) / 10000) = 10000 ^ i * x + 10000 ^ i * y + 10000 ^ i * c := by
   rw [Nat.mul_assoc, ← Nat.mul_add, h5, Nat.mul_add, Nat.mul_add]
  generalize 10000 ^ i * ((x + y + c) % 10000) = p at *
  generalize 10000 ^ i * 10000 * ((x + y + c) / 10000) = q at *
  omega
end Go.Proofs.YtahfcciihkkegaaGreatDoor.Rx
namespace Go.Proofs.YtahfcciihkkegaaGreatDoor.Rx
open Go.RowKit
attribute [local irreducible] tv dg
/-- Block g holds just these ints. -/
def IB (w : World) (g : Nat) (l : List Nat) : Prop := w.heap[g]? = some (.cells (l.map iv).toArray 3 (0, 0))
section
variable {w w' : World} {g : Nat} {l : List Nat}
theorem IB.lt (h : IB w g l) : g < w.heap.size := (Array.getElem?_eq_some_iff.1 h).1
theorem IB.cell (h : IB w g l) (i : Nat) (hi : i < l.length) : w.cell? ⟨g, i, none⟩ = some (.int .i64 ((l[i] : Nat) : Int)) := by
 rw [cell_of_row w g i _ _ _ h]; simp [hi]
theorem IB.frozen (h : IB w g l) (i : Nat) : w.frozen? ⟨g, i, none⟩ = false := frozen_of_row w g i _ _ h
theorem IB.set (h : IB w g l) (i : Nat) (d : Nat) : IB (w.setCell ⟨g, i, none⟩ (.int .i64 (d : Int))) g (l.set i d) := by
 unfold IB at *
 rw [heap_setCell_same w g i _ _ _ h]
 congr 2
 rw [List.map_set]; simp
theorem IB.keep (h : IB w g l) (hk : w'.heap[g]? = w.heap[g]?) : IB w' g l := hk.trans h
theorem IB.below {B : Nat} (h : IB w g l) (hb : Below B w w') (hg : g < B) : IB w' g l := h.keep (hb.block g hg)
theorem IB.drewN (h : IB w g l) (n : Nat) : IB (w.drewN n) g l := h
end
/-- Zeros, as make lays them. -/
def zobjI (n : Nat) : Obj := .cells ((List.replicate n 0).map iv).toArray 3
theorem IB.zeros (w : World) (n : Nat) : IB (w.alloc (zobjI n)) w.heap.size (List.replicate n 0) := heap_alloc_new w _
theorem tv_set {l : List Nat} {j : Nat} (h : j < l.length) (d : Nat) : tv (l.set j d) + 10000 ^ j * l[j] = tv l + 10000 ^ j * d := by
 induction l generalizing j with
 | nil => exact absurd h (by simp)
 | cons x l ih =>
  cases j with
  | zero => simp only [List.set_cons_zero, List.getElem_cons_zero, tv, Nat.pow_zero, Nat.one_mul]; omega
  | succ j =>
   have hj : j < l.length := by simpa using h
   have := ih (j := j) hj
   simp only [List.set_cons_succ, List.getElem_cons_succ, tv, Nat.pow_succ]
   rw [Nat.mul_comm (10000 ^ j) 10000, Nat.mul_assoc, Nat.mul_assoc]
   generalize 10000 ^ j * l[j] = p at *
   generalize 10000 ^ j * d = q at *
   omega
/-- What Mul's inner rounds keep. -/
structure MulS (A B X : List Nat) (i k c : Nat) : Prop where
 len : X.length = A.length + B.length
 lt : ∀ d ∈ X, d < 10000
 car : c < 10000
 eq : tv X + 10000 ^ (i + k) * c = tv (A.take i) * tv B + 10000 ^ i * (dg A i * tv (B.take k))
theorem MulS.step {A B X : List Nat} {i k c : Nat} (h : MulS A B X i k c) (hA : ∀ d ∈ A, d < 10000) (hB : ∀ d ∈ B, d < 10000) (hj : i + k < X.length) {s : Nat} (hs : s = X[i + k] + dg A i * dg B k + c) :
  s < 100000000 ∧ MulS A B (X.set (i + k) (s % 10000)) i (k + 1) (s / 10000) := by
 have h1 := dg_lt hA i
 have h2 := dg_lt hB k
 have h3 := h.car
 have hx := h.lt _ (List.getElem_mem hj)
 have hp : dg A i * dg B k ≤ 9999 * 9999 := Nat.mul_le_mul (by omega) (by omega)
 have hs1 : s < 100000000 := by omega
 refine ⟨hs1, by rw [List.length_set]; exact h.len, fun d hd => ?_, by omega, ?_⟩
 ·rcases List.mem_or_eq_of_mem_set hd with hd | hd
  ·exact h.lt d hd
  ·omega
 ·have e1 := tv_set hj (s % 10000)
  have e2 := h.eq
  rw [tv_take, ← Nat.add_assoc, Nat.pow_succ]
  have e3 : s % 10000 + 10000 * (s / 10000) = X[i + k] + dg A i * dg B k + c := by omega
  have e4 : 10000 ^ (i + k) * (s % 10000) + 10000 ^ (i + k) * 10000 * (s / 10000) = 10000 ^ (i + k) * X[i + k] + 10000 ^ (i + k) * (dg A i * dg B k) + 10000 ^ (i + k) * c := by
   rw [Nat.mul_assoc, ← Nat.mul_add, e3, Nat.mul_add, Nat.mul_add]
  have e5 : 10000 ^ i * (dg A i * (tv (B.take k) + 10000 ^ k * dg B k)) = 10000 ^ i * (dg A i * tv (B.take k)) + 10000 ^ (i + k) * (dg A i * dg B k) := by
   rw [Nat.mul_add, Nat.mul_add, Nat.pow_add, Nat.mul_left_comm (dg A i), Nat.mul_assoc (10000 ^ i)]
  rw [e5]
  generalize 10000 ^ (i + k) * (s % 10000) = p1 at *
  generalize 10000 ^ (i + k) * 10000 * (s / 10000) = p2 at *
  generalize 10000 ^ (i + k) * X[i + k] = p3 at *
  generalize 10000 ^ (i + k) * (dg A i * dg B k) = p4 at *
  generalize 10000 ^ (i + k) * c = p5 at *
  generalize 10000 ^ i * (dg A i * tv (B.take k)) = p6 at *
  generalize tv (A.take i) * tv B = p7 at *
  generalize tv (X.set (i + k) (s % 10000)) = p8 at *
  generalize tv X = p9 at *
  omega
/-- Behind b's digits one carry may be left, and no more. -/
theorem MulS.carry {A B X : List Nat} {i k c : Nat} (h : MulS A B X i k c) (hA : ∀ d ∈ A, d < 10000) (hB : ∀ d ∈ B, d < 10000) (hi : i < A.length) (hk : B.length + 1 ≤ k) : c = 0 := by
 rcases Nat.eq_zero_or_pos c with h0 | h0
 ·exact h0
 ·have e := h.eq
  have e2 : tv (A.take i) * tv B + 10000 ^ i * (dg A i * tv (B.take k)) = tv (A.take (i + 1)) * tv B := by
   rw [List.take_of_length_le (l := B) (by omega), tv_take, Nat.add_mul, Nat.mul_assoc]
  have e3 : tv (A.take (i + 1)) < 10000 ^ (i + 1) := by
   have := tv_lt (l := A.take (i + 1)) fun d hd => hA d (List.mem_of_mem_take hd)
   rwa [List.length_take, Nat.min_eq_left (by omega)] at this
  have e4 := tv_lt hB
  have e5 : tv (A.take (i + 1)) * tv B < 10000 ^ (i + 1) * 10000 ^ B.length := Nat.lt_of_le_of_lt (Nat.mul_le_mul_left _ (Nat.le_of_lt e4)) (Nat.mul_lt_mul_of_pos_right e3 (Nat.pow_pos (by omega)))
  rw [← Nat.pow_add] at e5
  have e6 : 10000 ^ (i + 1 + B.length) ≤ 10000 ^ (i + k) := Nat.pow_le_pow_right (by omega) (by omega)
  have e7 : 10000 ^ (i + k) ≤ 10000 ^ (i + k) * c := Nat.le_mul_of_pos_right _ h0
  omega
theorem MulS.done {A B X : List Nat} {i k : Nat} (h : MulS A B X i k 0) (hk : B.length ≤ k) : MulS A B X (i + 1) 0 0 := by
 refine ⟨h.len, h.lt, by omega, ?_⟩
 have e := h.eq
 rw [List.take_of_length_le hk] at e
 rw [List.take_zero, tv_take, Nat.add_mul, Nat.mul_assoc]
 rw [Nat.mul_zero, Nat.add_zero] at e ⊢
 rw [e]
 have : tv [] = 0 := by unfold tv; rfl
 rw [this, Nat.mul_zero, Nat.mul_zero, Nat.add_zero]
theorem MulS.start (A B : List Nat) : MulS A B (List.replicate (A.length + B.length) 0) 0 0 0 := by
 refine ⟨List.length_replicate, fun d hd => by rw [(List.mem_replicate.1 hd).2]; omega, by omega, ?_⟩
 have : tv [] = 0 := by unfold tv; rfl
 rw [tv_zeros, List.take_zero, List.take_zero, this]
 simp
end Go.Proofs.YtahfcciihkkegaaGreatDoor.Rx
namespace Go.Proofs.YtahfcciihkkegaaGreatDoor.Rx
open Go.RowKit
attribute [local irreducible] tv dg
/-- A slice that holds a number's digits. -/
abbrev Rn (w : World) (v : Value) (n : Nat) : Prop := Sl w v (td n)
end Go.Proofs.YtahfcciihkkegaaGreatDoor.Rx
namespace Go.Proofs.YtahfcciihkkegaaGreatDoor.Rx
open Go.RowKit
attribute [local irreducible] tv dg cmpI
end Go.Proofs.YtahfcciihkkegaaGreatDoor.Rx
namespace Go.Proofs.YtahfcciihkkegaaGreatDoor.Rx
open Go.RowKit
attribute [local irreducible] tv dg cmpI
/-- What Sub's rounds keep. -/
structure SubS (A B S : List Nat) (i c : Nat) : Prop where
 len : S.length = i
 lt : ∀ d ∈ S, d < 10000
 car : c ≤ 1
 eq : tv (A.take i) + 10000 ^ i * c = tv S + tv (B.take i)
theorem SubS.step {A B S : List Nat} {i c d c' : Nat} (h : SubS A B S i c) (hd : d < 10000) (hc : c' ≤ 1) (he : d + dg B i + c = dg A i + 10000 * c') : SubS A B (S ++ [d]) (i + 1) c' := by
 refine ⟨by rw [List.length_append, h.len]; rfl, fun x hx => ?_, hc, ?_⟩
 ·rcases List.mem_append.1 hx with hx | hx
  ·exact h.lt x hx
  ·rw [List.mem_singleton.1 hx]; exact hd
 ·rw [tv_snoc, h.len, tv_take, tv_take, Nat.pow_succ]
  have h4 := h.eq
  have h6 : 10000 ^ i * d + 10000 ^ i * dg B i + 10000 ^ i * c = 10000 ^ i * dg A i + 10000 ^ i * 10000 * c' := by
   rw [Nat.mul_assoc, ← Nat.mul_add, ← Nat.mul_add, ← Nat.mul_add, he]
  generalize 10000 ^ i * d = p1 at *
  generalize 10000 ^ i * dg B i = p2 at *
  generalize 10000 ^ i * c = p3 at *
  generalize 10000 ^ i * dg A i = p4 at *
  generalize 10000 ^ i * 10000 * c' = p5 at *
  omega
theorem SubS.done {A B S : List Nat} {c : Nat} (h : SubS A B S A.length c) (hB : B.length ≤ A.length) (hle : tv B ≤ tv A) : tv S = tv A - tv B := by
 have e := h.eq
 rw [List.take_of_length_le (Nat.le_refl _), List.take_of_length_le hB] at e
 have h1 := tv_lt h.lt
 rw [h.len] at h1
 have hc := h.car
 rcases Nat.eq_zero_or_pos c with h0 | h0
 ·rw [h0, Nat.mul_zero] at e; omega
 ·rw [show c = 1 by omega, Nat.mul_one] at e; omega
end Go.Proofs.YtahfcciihkkegaaGreatDoor.Rx
namespace Go.Proofs.YtahfcciihkkegaaGreatDoor.Rx
open Go.RowKit
open Go.Lib (decDigits)
attribute [local irreducible] tv dg cmpI
/-- What Text has written behind digit i. -/
def TS (n i : Nat) (T : List UInt8) : Prop := (i < (td n).length ∧ decDigits n = decDigits (n / 10000 ^ i) ++ T) ∨ (i = (td n).length ∧ T = decDigits n)
theorem TS.start {n : Nat} (h : 0 < (td n).length) : TS n 0 [] := .inl ⟨h, by simp⟩
theorem TS.step {n i : Nat} {T : List UInt8} (h : TS n i T) (hl : i < (td n).length) (hi : i + 1 < (td n).length) : TS n (i + 1) (pad 4 ((td n)[i]'hl) ++ T) := by
 rcases h with ⟨h1, h2⟩ | ⟨h1, h2⟩
 ·refine .inl ⟨hi, ?_⟩
  have hd := (td_step h1).2
  have hq := (td_step hi).1
  have e : n / 10000 ^ i = n / 10000 ^ (i + 1) * 10 ^ 4 + (td n)[i] := by
   rw [hd, Nat.pow_succ, ← Nat.div_div_eq_div_mul]
   show _ = _ * 10000 + _
   omega
  have hlt : (td n)[i] < 10 ^ 4 := td_lt n _ (List.getElem_mem _)
  have := dec_mul_add 4 (n / 10000 ^ (i + 1)) ((td n)[i]) (by omega) hlt
  rw [h2, e, this, List.append_assoc]
 ·omega
theorem TS.last {n i : Nat} {T : List UInt8} (h : TS n i T) (hl : i < (td n).length) (hi : i + 1 = (td n).length) : 0 < (td n)[i]'hl ∧ TS n (i + 1) (decDigits ((td n)[i]'hl) ++ T) := by
 rcases h with ⟨h1, h2⟩ | ⟨h1, h2⟩
 ·have hd := td_step h1
  have h0 : n / 10000 ^ (i + 1) = 0 := td_end (by omega)
  have e : n / 10000 ^ i = (td n)[i] := by
   rw [hd.2]
   rw [Nat.pow_succ, ← Nat.div_div_eq_div_mul] at h0
   omega
  refine ⟨by rw [← e]; omega, .inr ⟨hi, ?_⟩⟩
  rw [h2, e]
 ·omega
theorem TS.len {n i : Nat} {T : List UInt8} (h : TS n i T) : T.length ≤ (decDigits n).length := by
 rcases h with ⟨h1, h2⟩ | ⟨h1, h2⟩
 ·rw [h2, List.length_append]; omega
 ·rw [h2]; exact Nat.le_refl _
end Go.Proofs.YtahfcciihkkegaaGreatDoor.Rx
namespace Go.Proofs.YtahfcciihkkegaaGreatDoor.Rx
open Go.RowKit
attribute [local irreducible] lo hs tv dg cmpI txt decB
end Go.Proofs.YtahfcciihkkegaaGreatDoor.Rx
namespace Go.Proofs.YtahfcciihkkegaaGreatDoor.Rx
open Go.RowKit
attribute [local irreducible] tv dg cmpI txt decB
/-- What is appended, chunk by chunk. -/
structure PS (l : List UInt8) (S : List Nat) (t e : Nat) : Prop where
 len : S.length = t
 lt : ∀ d ∈ S, d < 10000
 pos : e = l.length - 4 * t
 eq : tv S + 10000 ^ t * dval (l.take e) = dval l
theorem PS.step {l : List UInt8} {S : List Nat} {t e : Nat} (h : PS l S t e) (hd : ∀ c ∈ l, isDig c) (he : 0 < e) :
  dval ((l.drop (e - 4)).take (e - (e - 4))) < 10000 ∧ PS l (S ++ [dval ((l.drop (e - 4)).take (e - (e - 4)))]) (t + 1) (e - 4) := by
 have hle : e ≤ l.length := by have := h.pos; omega
 have hch : ((l.drop (e - 4)).take (e - (e - 4))).length = e - (e - 4) := by rw [List.length_take, List.length_drop]; omega
 have hlt : dval ((l.drop (e - 4)).take (e - (e - 4))) < 10000 := by
  have h1 := dval_lt (l := (l.drop (e - 4)).take (e - (e - 4))) fun c hc => hd c (List.mem_of_mem_drop (List.mem_of_mem_take hc))
  rw [hch] at h1
  exact Nat.lt_of_lt_of_le h1 (Nat.le_trans (Nat.pow_le_pow_right (by omega) (show e - (e - 4) ≤ 4 by omega)) (by decide))
 refine ⟨hlt, by rw [List.length_append, h.len]; rfl, fun d hx => ?_, by have := h.pos; omega, ?_⟩
 ·rcases List.mem_append.1 hx with hx | hx
  ·exact h.lt d hx
  ·rw [List.mem_singleton.1 hx]; exact hlt
 ·have e1 : l.take e = l.take (e - 4) ++ (l.drop (e - 4)).take (e - (e - 4)) := by
   have := List.take_add (l := l) (i := e - 4) (j := e - (e - 4))
   rw [show e - 4 + (e - (e - 4)) = e by omega] at this
   exact this
  have e2 := h.eq
  rw [e1, dval_append, hch] at e2
  rw [tv_snoc, h.len, Nat.pow_succ]
  generalize dval ((l.drop (e - 4)).take (e - (e - 4))) = d at *
  rcases Nat.lt_or_ge e 4 with h4 | h4
  ·have h0 : dval (l.take (e - 4)) = 0 := by rw [show e - 4 = 0 by omega, List.take_zero, dval_nil]
   rw [h0, Nat.zero_mul, Nat.zero_add] at e2
   rw [h0, Nat.mul_zero]; omega
  ·rw [show e - (e - 4) = 4 by omega] at e2
   rw [Nat.mul_add, Nat.mul_comm (dval _) (10 ^ 4), ← Nat.mul_assoc, show (10 : Nat) ^ 4 = 10000 by rfl] at e2
   omega
theorem PS.start (l : List UInt8) : PS l [] 0 l.length := ⟨rfl, (fun d hd => by cases hd), by omega, by rw [tv_nil, List.take_length]; simp⟩
end Go.Proofs.YtahfcciihkkegaaGreatDoor.Rx
namespace Go.Proofs.YtahfcciihkkegaaGreatDoor
open Go.RowKit Go.Proofs.YtahfcciihkkegaaGreatDoor.Rx
attribute [local irreducible] lo hs sm s64 c64 d64 b64 mh ml pd pc qd qc val hiB str cmpI srD lz nb isq decB dval
theorem sl_upd {w w' : World} {k : Nat} {c : List Value} {v : Value} {l : List Nat} (h : Sl w v l) (hu : Upd k w w') (hd : Hd w k c) (hc : ∀ v ∈ c, ∀ n, v ≠ .int .i64 n) : Sl w' v l := by
 rcases h with h | ⟨a, c1, h1, h2, h3⟩
 ·exact .inl h
 ·refine .inr ⟨a, c1, h1, h2, fun i hi => ?_, by rw [hu.size]; exact h3.blk⟩
  have hx := h3.cell i hi
  exact (World.cell?_of_block (w := w) (hu.block _ (hd.no_int hc hx))).trans hx
end Go.Proofs.YtahfcciihkkegaaGreatDoor
namespace Go.Proofs.YtahfcciihkkegaaGreatDoor
open Go.RowKit
section
variable {P : Program} {ops : Array Oper} {C : World → Prop}
/-- How many of the first n have not come up. -/
def left (n : Nat) (listed : Array Bool) : Nat := (List.range n).countP fun i => !listed.getD i false
end
end Go.Proofs.YtahfcciihkkegaaGreatDoor
namespace Go.Proofs.YtahfcciihkkegaaGreatDoor
open Go.RowKit Go.Proofs.YtahfcciihkkegaaGreatDoor.Rx
/-- A struct of the reference that stands for an integer. -/
def RZ (w : World) (v : Value) (z : Int) : Prop := ∃ u, v = .agg #[.bool (decide (z < 0)), u] ∧ Rn w u z.natAbs
theorem RZ.below {w w' : World} {v : Value} {z : Int} (h : RZ w v z) (hb : Below w.heap.size w w') : RZ w' v z := by
 obtain ⟨u, h1, h2⟩ := h
 exact ⟨u, h1, Sl.below h2 hb⟩
theorem RZ.of {w : World} {b : Bool} {u : Value} {n : Nat} {z : Int} (h : Rn w u n) (hb : b = decide (z < 0)) (hn : n = z.natAbs) : RZ w (.agg #[.bool b, u]) z := ⟨u, by rw [hb], by rw [← hn]; exact h⟩
end Go.Proofs.YtahfcciihkkegaaGreatDoor
namespace Go.Proofs.YtahfcciihkkegaaGreatDoor
open Go.RowKit Go.Proofs.YtahfcciihkkegaaGreatDoor.Rx
/-- The slices of digits that a call has got hold of. -/
def SS (W : World) (S : List (Value × Nat)) : Prop := ∀ p ∈ S, Rn W p.1 p.2
theorem SS.nil (W : World) : SS W [] := fun p hp => by cases hp
theorem SS.call {W W' : World} {S : List (Value × Nat)} (h : SS W S) (hb : Below W.heap.size W W') : SS W' S := fun p hp => Sl.below (h p hp) hb
theorem SS.new {W : World} {S : List (Value × Nat)} (h : SS W S) (o : Obj) : SS (W.alloc o) S := h.call ((Below.refl _ _).alloc (Nat.le_refl _) o)
theorem SS.cons {W : World} {S : List (Value × Nat)} (h : SS W S) {v : Value} {n : Nat} (hv : Rn W v n) : SS W ((v, n) :: S) := fun p hp => by
 rcases List.mem_cons.1 hp with rfl | hp
 ·exact hv
 ·exact h p hp
theorem SS.put {W W' : World} {S : List (Value × Nat)} (h : SS W S) {k : Nat} {c : List Value} (hu : Upd k W W') (hd : Hd W k c) (hc : ∀ v ∈ c, ∀ n, v ≠ .int .i64 n) : SS W' S := fun p hp => sl_upd (h p hp) hu hd hc
theorem SS.drew {W : World} {S : List (Value × Nat)} (h : SS W S) : SS W.drew S := fun p hp => Sl.drew (h p hp)
theorem SS.get {W : World} {S : List (Value × Nat)} (h : SS W S) {v : Value} {n : Nat} (hm : (v, n) ∈ S) : Rn W v n := h _ hm
end Go.Proofs.YtahfcciihkkegaaGreatDoor
namespace Go.Proofs.YtahfcciihkkegaaGreatDoor
open Go.RowKit
theorem dm_le {x y : Rat} (h : x ≤ y) : decide (0 < cmpQ x y) = false := by
 rw [cmpQ_gt]; exact decide_eq_false (by grind)
end Go.Proofs.YtahfcciihkkegaaGreatDoor
namespace Go.Proofs.YtahfcciihkkegaaGreatDoor
open Go.RowKit
attribute [local irreducible] lo hs sm s64 c64 d64 b64 mh ml pd pc qd qc val hiB str cmpI srD lz nb isq decB zl zh zs fe
set_option maxHeartbeats 4000000 in
set_option maxRecDepth 100000 in
theorem dturned_big0 (sx sy : Bool) (ax qx ay qy : Option Addr) (nx cx mx dx ny cy my dy : Nat) (m8 e8 : Int) (KT : World → Prop) (hKT : Keeps KT) (HW : ∀ w, KT w → Calls Tryz.prog 11 #[] w fun xe w' => xe = .returned (.bool true) ∧ Below w.heap.size w w') (l0 : decide ((4 : Int) < ((nx : Nat) : Int)) = true) (k0 : decide (4 < nx) = true) (w : World) (kKT : KT w) :
  Calls Tryz.prog 8 #[.agg #[.bool sx, .slice ax nx cx, .slice qx mx dx], .agg #[.bool sy, .slice ay ny cy, .slice qy my dy], .int .u8 m8, .int .u8 e8] w fun xe w' => xe = .returned (.bool true) ∧ Below w.heap.size w w' := by
 have hL0 : GL w w [] := GL.start w
 replace hKT := Lib.hid hKT
 replace HW := Lib.hid HW
 replace hL0 := ((hL0.new rfl [.bool sx, .slice ax nx cx, .slice qx mx dx] 26).new (K := w.heap.size + 1) (szA _ _) [.bool sy, .slice ay ny cy, .slice qy my dy] 26)
 generalize hweq : ((w.alloc (.cells #[.bool sx, .slice ax nx cx, .slice qx mx dx] 26)).alloc (.cells #[.bool sy, .slice ay ny cy, .slice qy my dy] 26)) = x1 at hL0
 go_enter Tryz.func8, Tryz.ntmps8
 have hN0 := cells_of _ 0 [] rfl (hL0.get _ _ (List.mem_cons_of_mem _ List.mem_cons_self))
 simp only [cellsF, and_true, Nat.zero_add, Nat.reduceAdd] at hN0
 go_wp2_with fail
 clear hN0
 with_reducible refine Calls.mono (HW.out _ (hKT.out.at hL0.bl kKT)) ?_
 rintro e x2 ⟨rfl, hb⟩
 replace hL0 := hL0.call hb
 clear hb hweq
 go_wp2_with fail
 exact bodyPost_ret (v := .bool true) (by simp [results, Tryz.results8, go_sem]) rfl ⟨rfl, hL0.bl⟩
set_option maxHeartbeats 4000000 in
set_option maxRecDepth 100000 in
theorem dturned_big1 (sx sy : Bool) (ax qx ay qy : Option Addr) (nx cx mx dx ny cy my dy : Nat) (m8 e8 : Int) (KT : World → Prop) (hKT : Keeps KT) (HW : ∀ w, KT w → Calls Tryz.prog 11 #[] w fun xe w' => xe = .returned (.bool true) ∧ Below w.heap.size w w') (l0 : decide ((4 : Int) < ((nx : Nat) : Int)) = false) (k0 : decide (4 < nx) = false) (l1 : decide ((4 : Int) < ((mx : Nat) : Int)) = true) (k1 : decide (4 < mx) = true) (w : World) (kKT : KT w) :
  Calls Tryz.prog 8 #[.agg #[.bool sx, .slice ax nx cx, .slice qx mx dx], .agg #[.bool sy, .slice ay ny cy, .slice qy my dy], .int .u8 m8, .int .u8 e8] w fun xe w' => xe = .returned (.bool true) ∧ Below w.heap.size w w' := by
 have hL0 : GL w w [] := GL.start w
 replace hKT := Lib.hid hKT
 replace HW := Lib.hid HW
 replace hL0 := ((hL0.new rfl [.bool sx, .slice ax nx cx, .slice qx mx dx] 26).new (K := w.heap.size + 1) (szA _ _) [.bool sy, .slice ay ny cy, .slice qy my dy] 26)
 generalize hweq : ((w.alloc (.cells #[.bool sx, .slice ax nx cx, .slice qx mx dx] 26)).alloc (.cells #[.bool sy, .slice ay ny cy, .slice qy my dy] 26)) = x1 at hL0
 go_enter Tryz.func8, Tryz.ntmps8
 have hN0 := cells_of _ 0 [] rfl (hL0.get _ _ (List.mem_cons_of_mem _ List.mem_cons_self))
 simp only [cellsF, and_true, Nat.zero_add, Nat.reduceAdd] at hN0
 go_wp2_with fail
 clear hN0
 with_reducible refine Calls.mono (HW.out _ (hKT.out.at hL0.bl kKT)) ?_
 rintro e x2 ⟨rfl, hb⟩
 replace hL0 := hL0.call hb
 clear hb hweq
 go_wp2_with fail
 exact bodyPost_ret (v := .bool true) (by simp [results, Tryz.results8, go_sem]) rfl ⟨rfl, hL0.bl⟩
set_option maxHeartbeats 4000000 in
set_option maxRecDepth 100000 in
theorem dturned_big2 (sx sy : Bool) (ax qx ay qy : Option Addr) (nx cx mx dx ny cy my dy : Nat) (m8 e8 : Int) (KT : World → Prop) (hKT : Keeps KT) (HW : ∀ w, KT w → Calls Tryz.prog 11 #[] w fun xe w' => xe = .returned (.bool true) ∧ Below w.heap.size w w') (l0 : decide ((4 : Int) < ((nx : Nat) : Int)) = false) (k0 : decide (4 < nx) = false) (l1 : decide ((4 : Int) < ((mx : Nat) : Int)) = false) (k1 : decide (4 < mx) = false) (l2 : decide ((4 : Int) < ((ny : Nat) : Int)) = true) (k2 : decide (4 < ny) = true) (w : World) (kKT : KT w) :
  Calls Tryz.prog 8 #[.agg #[.bool sx, .slice ax nx cx, .slice qx mx dx], .agg #[.bool sy, .slice ay ny cy, .slice qy my dy], .int .u8 m8, .int .u8 e8] w fun xe w' => xe = .returned (.bool true) ∧ Below w.heap.size w w' := by
 have hL0 : GL w w [] := GL.start w
 replace hKT := Lib.hid hKT
 replace HW := Lib.hid HW
 replace hL0 := ((hL0.new rfl [.bool sx, .slice ax nx cx, .slice qx mx dx] 26).new (K := w.heap.size + 1) (szA _ _) [.bool sy, .slice ay ny cy, .slice qy my dy] 26)
 generalize hweq : ((w.alloc (.cells #[.bool sx, .slice ax nx cx, .slice qx mx dx] 26)).alloc (.cells #[.bool sy, .slice ay ny cy, .slice qy my dy] 26)) = x1 at hL0
 go_enter Tryz.func8, Tryz.ntmps8
 have hN0 := cells_of _ 0 [] rfl (hL0.get _ _ List.mem_cons_self)
 simp only [cellsF, and_true, Nat.zero_add, Nat.reduceAdd] at hN0
 have hN1 := cells_of _ 0 [] rfl (hL0.get _ _ (List.mem_cons_of_mem _ List.mem_cons_self))
 simp only [cellsF, and_true, Nat.zero_add, Nat.reduceAdd] at hN1
 go_wp2_with fail
 clear hN0 hN1
 with_reducible refine Calls.mono (HW.out _ (hKT.out.at hL0.bl kKT)) ?_
 rintro e x2 ⟨rfl, hb⟩
 replace hL0 := hL0.call hb
 clear hb hweq
 go_wp2_with fail
 exact bodyPost_ret (v := .bool true) (by simp [results, Tryz.results8, go_sem]) rfl ⟨rfl, hL0.bl⟩
set_option maxHeartbeats 4000000 in
set_option maxRecDepth 100000 in
theorem dturned_big3 (sx sy : Bool) (ax qx ay qy : Option Addr) (nx cx mx dx ny cy my dy : Nat) (m8 e8 : Int) (KT : World → Prop) (hKT : Keeps KT) (HW : ∀ w, KT w → Calls Tryz.prog 11 #[] w fun xe w' => xe = .returned (.bool true) ∧ Below w.heap.size w w') (l0 : decide ((4 : Int) < ((nx : Nat) : Int)) = false) (k0 : decide (4 < nx) = false) (l1 : decide ((4 : Int) < ((mx : Nat) : Int)) = false) (k1 : decide (4 < mx) = false) (l2 : decide ((4 : Int) < ((ny : Nat) : Int)) = false) (k2 : decide (4 < ny) = false) (l3 : decide ((4 : Int) < ((my : Nat) : Int)) = true) (k3 : decide (4 < my) = true) (w : World) (kKT : KT w) :
  Calls Tryz.prog 8 #[.agg #[.bool sx, .slice ax nx cx, .slice qx mx dx], .agg #[.bool sy, .slice ay ny cy, .slice qy my dy], .int .u8 m8, .int .u8 e8] w fun xe w' => xe = .returned (.bool true) ∧ Below w.heap.size w w' := by
 have hL0 : GL w w [] := GL.start w
 replace hKT := Lib.hid hKT
 replace HW := Lib.hid HW
 replace hL0 := ((hL0.new rfl [.bool sx, .slice ax nx cx, .slice qx mx dx] 26).new (K := w.heap.size + 1) (szA _ _) [.bool sy, .slice ay ny cy, .slice qy my dy] 26)
 generalize hweq : ((w.alloc (.cells #[.bool sx, .slice ax nx cx, .slice qx mx dx] 26)).alloc (.cells #[.bool sy, .slice ay ny cy, .slice qy my dy] 26)) = x1 at hL0
 go_enter Tryz.func8, Tryz.ntmps8
 have hN0 := cells_of _ 0 [] rfl (hL0.get _ _ List.mem_cons_self)
 simp only [cellsF, and_true, Nat.zero_add, Nat.reduceAdd] at hN0
 have hN1 := cells_of _ 0 [] rfl (hL0.get _ _ (List.mem_cons_of_mem _ List.mem_cons_self))
 simp only [cellsF, and_true, Nat.zero_add, Nat.reduceAdd] at hN1
 go_wp2_with fail
 clear hN0 hN1
 with_reducible refine Calls.mono (HW.out _ (hKT.out.at hL0.bl kKT)) ?_
 rintro e x2 ⟨rfl, hb⟩
 replace hL0 := hL0.call hb
 clear hb hweq
 go_wp2_with fail
 exact bodyPost_ret (v := .bool true) (by simp [results, Tryz.results8, go_sem]) rfl ⟨rfl, hL0.bl⟩
set_option maxHeartbeats 4000000 in
set_option maxRecDepth 100000 in
theorem dturned_le (sx sy : Bool) (ax qx ay qy : Option Addr) (nx cx mx dx ny cy my dy : Nat) (m8 e8 m1 n1 p r c0 c1 c2 : Int) (u0 v0 na lw hg dn up lw2 hg2 ne nt : Rat) (Kx : World → Prop) (hKx : Keeps Kx) (GX : ∀ w, Kx w → Calls Tryz.prog 13 #[.agg #[.bool sx, .slice ax nx cx, .slice qx mx dx]] w fun xe w' => xe = .returned (fracV u0) ∧ Below w.heap.size w w') (Ky : World → Prop) (hKy : Keeps Ky) (GY : ∀ w, Ky w → Calls Tryz.prog 13 #[.agg #[.bool sy, .slice ay ny cy, .slice qy my dy]] w fun xe w' => xe = .returned (fracV v0) ∧ Below w.heap.size w w') (C0 : ∀ w, Calls Tryz.prog 29 #[fracV u0, fracV v0] w fun xe w' => xe = .returned (.int .i64 c0) ∧ Below w.heap.size w w') (B1 : ∀ w, Calls Tryz.prog 26 #[fracV u0, .int .i64 p] w fun xe w' => xe = .returned (.tuple #[fracV lw, fracV hg, .int .i64 0]) ∧ Below w.heap.size w w') (N1 : ∀ w, Calls Tryz.prog 36 #[fracV u0] w fun xe w' => xe = .returned (fracV na) ∧ Below w.heap.size w w') (B2 : ∀ w, Calls Tryz.prog 26 #[fracV na, .int .i64 p] w fun xe w' => xe = .returned (.tuple #[fracV dn, fracV up, .int .i64 0]) ∧ Below w.heap.size w w') (B3 : ∀ w, Calls Tryz.prog 26 #[fracV u0, .int .i64 r] w fun xe w' => xe = .returned (.tuple #[fracV lw2, fracV hg2, .int .i64 0]) ∧ Below w.heap.size w w') (R1 : ∀ w, Calls Tryz.prog 12 #[fracV u0, .int .i64 p, .int .i64 3] w fun xe w' => xe = .returned (.tuple #[fracV ne, .int .i64 0]) ∧ Below w.heap.size w w') (R2 : ∀ w, Calls Tryz.prog 12 #[fracV na, .int .i64 p, .int .i64 3] w fun xe w' => xe = .returned (.tuple #[fracV nt, .int .i64 0]) ∧ Below w.heap.size w w') (N2 : ∀ w, Calls Tryz.prog 36 #[fracV hg] w fun xe w' => xe = .returned (fracV dn) ∧ Below w.heap.size w w') (N3 : ∀ w, Calls Tryz.prog 36 #[fracV lw] w fun xe w' => xe = .returned (fracV up) ∧ Below w.heap.size w w') (N4 : ∀ w, Calls Tryz.prog 36 #[fracV ne] w fun xe w' => xe = .returned (fracV nt) ∧ Below w.heap.size w w') (C1 : ∀ w, Calls Tryz.prog 29 #[fracV lw, fracV lw2] w fun xe w' => xe = .returned (.int .i64 c1) ∧ Below w.heap.size w w') (C2 : ∀ w, Calls Tryz.prog 29 #[fracV hg2, fracV hg] w fun xe w' => xe = .returned (.int .i64 c2) ∧ Below w.heap.size w w') (KT : World → Prop) (hKT : Keeps KT) (HW : ∀ w, KT w → Calls Tryz.prog 11 #[] w fun xe w' => xe = .returned (.bool true) ∧ Below w.heap.size w w') (l0 : decide ((4 : Int) < ((nx : Nat) : Int)) = false) (k0 : decide (4 < nx) = false) (l1 : decide ((4 : Int) < ((mx : Nat) : Int)) = false) (k1 : decide (4 < mx) = false) (l2 : decide ((4 : Int) < ((ny : Nat) : Int)) = false) (k2 : decide (4 < ny) = false) (l3 : decide ((4 : Int) < ((my : Nat) : Int)) = false) (k3 : decide (4 < my) = false) (w1 : IntKind.i64.wrap m8 = m8) (w2 : IntKind.i64.wrap e8 = e8) (e1 : m8.tmod 101 = m1) (e2 : e8.tmod 101 = n1) (s0 : decide (0 < c0) = false) (s1 : decide (0 < c1) = false) (s2 : decide (0 < c2) = false) (hmin : min m1 n1 = p) (hmax : max m1 n1 = r) (HO : ∀ i : Nat, 1 ≤ i → i ≤ 3 → ∃ (c d : Rat) (k : Int), (∀ w, Calls Tryz.prog 12 #[fracV u0, .int .i64 p, .int .i64 (i : Int)] w fun xe w' => xe = .returned (.tuple #[fracV c, .int .i64 0]) ∧ Below w.heap.size w w') ∧ (∀ w, Calls Tryz.prog 12 #[fracV v0, .int .i64 p, .int .i64 (i : Int)] w fun xe w' => xe = .returned (.tuple #[fracV d, .int .i64 0]) ∧ Below w.heap.size w w') ∧ (∀ w, Calls Tryz.prog 29 #[fracV c, fracV d] w fun xe w' => xe = .returned (.int .i64 k) ∧ Below w.heap.size w w') ∧ decide (0 < k) = false) (w : World) (kKx : Kx w) (kKy : Ky w) (kKT : KT w) :
  Calls Tryz.prog 8 #[.agg #[.bool sx, .slice ax nx cx, .slice qx mx dx], .agg #[.bool sy, .slice ay ny cy, .slice qy my dy], .int .u8 m8, .int .u8 e8] w fun e w' => e = .returned (.bool true) ∧ Below w.heap.size w w' := by
 replace hKx := Lib.hid hKx
 replace GX := Lib.hid GX
 replace hKy := Lib.hid hKy
 replace GY := Lib.hid GY
 replace C0 := Lib.hid C0
 replace B1 := Lib.hid B1
 replace N1 := Lib.hid N1
 replace B2 := Lib.hid B2
 replace B3 := Lib.hid B3
 replace R1 := Lib.hid R1
 replace R2 := Lib.hid R2
 replace N2 := Lib.hid N2
 replace N3 := Lib.hid N3
 replace N4 := Lib.hid N4
 replace C1 := Lib.hid C1
 replace C2 := Lib.hid C2
 replace hKT := Lib.hid hKT
 replace HW := Lib.hid HW
 have hL0 : GL w w [] := GL.start w
 have hS : SS w [] := SS.nil w
 replace HO := Lib.hid HO
 replace hS := ((hS.new (.cells #[.bool sx, .slice ax nx cx, .slice qx mx dx] 26)).new (.cells #[.bool sy, .slice ay ny cy, .slice qy my dy] 26))
 replace hL0 := ((hL0.new rfl [.bool sx, .slice ax nx cx, .slice qx mx dx] 26).new (K := w.heap.size + 1) (szA _ _) [.bool sy, .slice ay ny cy, .slice qy my dy] 26)
 generalize hweq : ((w.alloc (.cells #[.bool sx, .slice ax nx cx, .slice qx mx dx] 26)).alloc (.cells #[.bool sy, .slice ay ny cy, .slice qy my dy] 26)) = x1 at hL0 hS
 go_enter Tryz.func8, Tryz.ntmps8
 have hN0 := cells_of _ 0 [] rfl (hL0.get _ _ List.mem_cons_self)
 simp only [cellsF, and_true, Nat.zero_add, Nat.reduceAdd] at hN0
 have hN1 := cells_of _ 0 [] rfl (hL0.get _ _ (List.mem_cons_of_mem _ List.mem_cons_self))
 simp only [cellsF, and_true, Nat.zero_add, Nat.reduceAdd] at hN1
 go_upto_region 3 with fail
 have kKx1 := hKx.out.at hL0.bl kKx
 have kKy1 := hKy.out.at hL0.bl kKy
 clear hN0 hN1
 clear hweq
 refine region_gh (by kernel_rfl) (by kernel_rfl) ?_
 refine lex_seg (gl := []) 4 (by kernel_rfl) ?_
 intro α iα F hF1 hF2
 have hq := GL.seg hF1 hL0
 simp only [fcC, cellsC, and_true, Nat.zero_add, Nat.reduceAdd] at hq
 simp only [List.take_succ_cons, List.take_zero, List.drop_succ_cons, List.drop_zero, List.take_nil, List.drop_nil]
 repeat (go_big_quiet_step (first | fail | (go_at_call 13; with_reducible exact seg_callK hKx.out hF1 hF2 kKx1 GX.out _) | (go_at_call 13; with_reducible exact seg_callK hKy.out hF1 hF2 kKy1 GY.out _)))
 refine wpQuiet_nil ?_
 clear hq hF1 hF2 iα F α
 refine lex_new [.int .u64 0, .string ⟨#[]⟩, .bool false, .int .u64 0, .string ⟨#[]⟩] 9 34 34 rfl rfl (of_decide_eq_true (by kernel_rfl)) (by kernel_rfl) rfl new_frac ?_
 simp only [Act.put, List.setIfInBounds_toArray, List.set_cons_succ, List.set_cons_zero]
 refine lex_new [.int .u64 0, .string ⟨#[]⟩, .bool false, .int .u64 0, .string ⟨#[]⟩] 10 34 34 rfl rfl (of_decide_eq_true (by kernel_rfl)) (by kernel_rfl) rfl new_frac ?_
 simp only [Act.put, List.setIfInBounds_toArray, List.set_cons_succ, List.set_cons_zero]
 refine lex_put [.int .u64 ((zl u0.num : Nat) : Int), .string (zh u0.num), .bool (zs u0.num), .int .u64 ((lo (fe u0) : Nat) : Int), .string (hs (fe u0))] [.int .u64 0, .string ⟨#[]⟩, .bool false, .int .u64 0, .string ⟨#[]⟩] 9 34 (.tmp 57) rfl (by kernel_rfl) (by simp [toG, upd]) rfl (fun w k h => put_frac _ _ _ _ _ _ _ _ _ _ w k h) ?_
 simp only [Act.put]
 refine lex_put [.int .u64 ((zl v0.num : Nat) : Int), .string (zh v0.num), .bool (zs v0.num), .int .u64 ((lo (fe v0) : Nat) : Int), .string (hs (fe v0))] [.int .u64 0, .string ⟨#[]⟩, .bool false, .int .u64 0, .string ⟨#[]⟩] 10 34 (.tmp 59) rfl (by kernel_rfl) (by simp [toG, upd]) rfl (fun w k h => put_frac _ _ _ _ _ _ _ _ _ _ w k h) ?_
 simp only [Act.put]
 refine lexG_nil ?_
 intro κ x2 hS
 replace hL0 := hL0.ghs hS [(10, [.int .u64 ((zl v0.num : Nat) : Int), .string (zh v0.num), .bool (zs v0.num), .int .u64 ((lo (fe v0) : Nat) : Int), .string (hs (fe v0))]), (9, [.int .u64 ((zl u0.num : Nat) : Int), .string (zh u0.num), .bool (zs u0.num), .int .u64 ((lo (fe u0) : Nat) : Int), .string (hs (fe u0))])] (by simp) (by intro p hp; simp only [List.mem_cons, List.not_mem_nil, or_false] at hp; rcases hp with rfl | rfl <;> exact ⟨_, by simp only [toG, upd]; rfl⟩)
 simp only [List.map_cons, List.map_nil, List.cons_append, List.nil_append] at hL0
 simp only [over_toG, over_nil, Act.put, List.setIfInBounds_toArray, List.set_cons_succ, List.set_cons_zero]
 clear hS
 generalize κ 10 = k2_10 at *
 generalize κ 9 = k2_9 at *
 replace hS := SS.nil x2
 clear kKx1 kKy1
 have hN0 := cells_of _ 0 [] rfl (hL0.get _ _ List.mem_cons_self)
 simp only [cellsF, and_true, Nat.zero_add, Nat.reduceAdd] at hN0
 have hN1 := cells_of _ 0 [] rfl (hL0.get _ _ (List.mem_cons_of_mem _ List.mem_cons_self))
 simp only [cellsF, and_true, Nat.zero_add, Nat.reduceAdd] at hN1
 go_wp2_with fail
 clear hN0 hN1
 with_reducible refine Calls.mono (C0.out _) ?_
 rintro e x3 ⟨rfl, hb⟩
 replace hL0 := hL0.call hb
 replace hS := hS.call hb
 clear hb
 have hN0 := cells_of _ 0 [] rfl (hL0.get _ _ (List.mem_cons_of_mem _ List.mem_cons_self))
 simp only [cellsF, and_true, Nat.zero_add, Nat.reduceAdd] at hN0
 go_wp2_with fail
 clear hN0
 with_reducible refine Calls.mono (B1.out _) ?_
 rintro e x4 ⟨rfl, hb⟩
 replace hL0 := hL0.call hb
 replace hS := hS.call hb
 clear hb
 replace hS := ((hS.new (.cells #[.int .u64 ((zl lw.num : Nat) : Int), .string (zh lw.num), .bool (zs lw.num), .int .u64 ((lo (fe lw) : Nat) : Int), .string (hs (fe lw))] 34)).new (.cells #[.int .u64 ((zl hg.num : Nat) : Int), .string (zh hg.num), .bool (zs hg.num), .int .u64 ((lo (fe hg) : Nat) : Int), .string (hs (fe hg))] 34))
 replace hL0 := ((hL0.new rfl [.int .u64 ((zl lw.num : Nat) : Int), .string (zh lw.num), .bool (zs lw.num), .int .u64 ((lo (fe lw) : Nat) : Int), .string (hs (fe lw))] 34).new (K := x4.heap.size + 1) (szA _ _) [.int .u64 ((zl hg.num : Nat) : Int), .string (zh hg.num), .bool (zs hg.num), .int .u64 ((lo (fe hg) : Nat) : Int), .string (hs (fe hg))] 34)
 generalize hweq : ((x4.alloc (.cells #[.int .u64 ((zl lw.num : Nat) : Int), .string (zh lw.num), .bool (zs lw.num), .int .u64 ((lo (fe lw) : Nat) : Int), .string (hs (fe lw))] 34)).alloc (.cells #[.int .u64 ((zl hg.num : Nat) : Int), .string (zh hg.num), .bool (zs hg.num), .int .u64 ((lo (fe hg) : Nat) : Int), .string (hs (fe hg))] 34)) = x5 at hL0 hS
 have hN0 := cells_of _ 0 [] rfl (hL0.get _ _ (List.mem_cons_of_mem _ (List.mem_cons_of_mem _ (List.mem_cons_of_mem _ List.mem_cons_self))))
 simp only [cellsF, and_true, Nat.zero_add, Nat.reduceAdd] at hN0
 go_wp2_with fail
 clear hN0
 with_reducible refine Calls.mono (N1.out _) ?_
 rintro e x6 ⟨rfl, hb⟩
 replace hL0 := hL0.call hb
 replace hS := hS.call hb
 clear hb hweq
 go_wp2_with fail
 with_reducible refine Calls.mono (B2.out _) ?_
 rintro e x7 ⟨rfl, hb⟩
 replace hL0 := hL0.call hb
 replace hS := hS.call hb
 clear hb
 replace hS := ((hS.new (.cells #[.int .u64 ((zl dn.num : Nat) : Int), .string (zh dn.num), .bool (zs dn.num), .int .u64 ((lo (fe dn) : Nat) : Int), .string (hs (fe dn))] 34)).new (.cells #[.int .u64 ((zl up.num : Nat) : Int), .string (zh up.num), .bool (zs up.num), .int .u64 ((lo (fe up) : Nat) : Int), .string (hs (fe up))] 34))
 replace hL0 := ((hL0.new rfl [.int .u64 ((zl dn.num : Nat) : Int), .string (zh dn.num), .bool (zs dn.num), .int .u64 ((lo (fe dn) : Nat) : Int), .string (hs (fe dn))] 34).new (K := x7.heap.size + 1) (szA _ _) [.int .u64 ((zl up.num : Nat) : Int), .string (zh up.num), .bool (zs up.num), .int .u64 ((lo (fe up) : Nat) : Int), .string (hs (fe up))] 34)
 generalize hweq : ((x7.alloc (.cells #[.int .u64 ((zl dn.num : Nat) : Int), .string (zh dn.num), .bool (zs dn.num), .int .u64 ((lo (fe dn) : Nat) : Int), .string (hs (fe dn))] 34)).alloc (.cells #[.int .u64 ((zl up.num : Nat) : Int), .string (zh up.num), .bool (zs up.num), .int .u64 ((lo (fe up) : Nat) : Int), .string (hs (fe up))] 34)) = x8 at hL0 hS
 have hN0 := cells_of _ 0 [] rfl (hL0.get _ _ (List.mem_cons_of_mem _ (List.mem_cons_of_mem _ (List.mem_cons_of_mem _ (List.mem_cons_of_mem _ (List.mem_cons_of_mem _ List.mem_cons_self))))))
 simp only [cellsF, and_true, Nat.zero_add, Nat.reduceAdd] at hN0
 go_wp2_with fail
 clear hN0
 with_reducible refine Calls.mono (B3.out _) ?_
 rintro e x9 ⟨rfl, hb⟩
 replace hL0 := hL0.call hb
 replace hS := hS.call hb
 clear hb hweq
 replace hS := ((hS.new (.cells #[.int .u64 ((zl lw2.num : Nat) : Int), .string (zh lw2.num), .bool (zs lw2.num), .int .u64 ((lo (fe lw2) : Nat) : Int), .string (hs (fe lw2))] 34)).new (.cells #[.int .u64 ((zl hg2.num : Nat) : Int), .string (zh hg2.num), .bool (zs hg2.num), .int .u64 ((lo (fe hg2) : Nat) : Int), .string (hs (fe hg2))] 34))
 replace hL0 := ((hL0.new rfl [.int .u64 ((zl lw2.num : Nat) : Int), .string (zh lw2.num), .bool (zs lw2.num), .int .u64 ((lo (fe lw2) : Nat) : Int), .string (hs (fe lw2))] 34).new (K := x9.heap.size + 1) (szA _ _) [.int .u64 ((zl hg2.num : Nat) : Int), .string (zh hg2.num), .bool (zs hg2.num), .int .u64 ((lo (fe hg2) : Nat) : Int), .string (hs (fe hg2))] 34)
 generalize hweq : ((x9.alloc (.cells #[.int .u64 ((zl lw2.num : Nat) : Int), .string (zh lw2.num), .bool (zs lw2.num), .int .u64 ((lo (fe lw2) : Nat) : Int), .string (hs (fe lw2))] 34)).alloc (.cells #[.int .u64 ((zl hg2.num : Nat) : Int), .string (zh hg2.num), .bool (zs hg2.num), .int .u64 ((lo (fe hg2) : Nat) : Int), .string (hs (fe hg2))] 34)) = x10 at hL0 hS
 have hN0 := cells_of _ 0 [] rfl (hL0.get _ _ (List.mem_cons_of_mem _ (List.mem_cons_of_mem _ (List.mem_cons_of_mem _ (List.mem_cons_of_mem _ (List.mem_cons_of_mem _ (List.mem_cons_of_mem _ (List.mem_cons_of_mem _ List.mem_cons_self))))))))
 simp only [cellsF, and_true, Nat.zero_add, Nat.reduceAdd] at hN0
 go_wp2_with fail
 clear hN0
 with_reducible refine Calls.mono (R1.out _) ?_
 rintro e x11 ⟨rfl, hb⟩
 replace hL0 := hL0.call hb
 replace hS := hS.call hb
 clear hb hweq
 replace hS := (hS.new (.cells #[.int .u64 ((zl ne.num : Nat) : Int), .string (zh ne.num), .bool (zs ne.num), .int .u64 ((lo (fe ne) : Nat) : Int), .string (hs (fe ne))] 34))
 replace hL0 := (hL0.new rfl [.int .u64 ((zl ne.num : Nat) : Int), .string (zh ne.num), .bool (zs ne.num), .int .u64 ((lo (fe ne) : Nat) : Int), .string (hs (fe ne))] 34)
 generalize hweq : (x11.alloc (.cells #[.int .u64 ((zl ne.num : Nat) : Int), .string (zh ne.num), .bool (zs ne.num), .int .u64 ((lo (fe ne) : Nat) : Int), .string (hs (fe ne))] 34)) = x12 at hL0 hS
 have hN0 := cells_of _ 0 [] rfl (hL0.get _ _ (List.mem_cons_of_mem _ (List.mem_cons_of_mem _ (List.mem_cons_of_mem _ (List.mem_cons_of_mem _ (List.mem_cons_of_mem _ (List.mem_cons_of_mem _ (List.mem_cons_of_mem _ (List.mem_cons_of_mem _ List.mem_cons_self)))))))))
 simp only [cellsF, and_true, Nat.zero_add, Nat.reduceAdd] at hN0
 go_wp2_with fail
 clear hN0
 with_reducible refine Calls.mono (N1.out _) ?_
 rintro e x13 ⟨rfl, hb⟩
 replace hL0 := hL0.call hb
 replace hS := hS.call hb
 clear hb hweq
 go_wp2_with fail
 with_reducible refine Calls.mono (R2.out _) ?_
 rintro e x14 ⟨rfl, hb⟩
 replace hL0 := hL0.call hb
 replace hS := hS.call hb
 clear hb
 replace hS := (hS.new (.cells #[.int .u64 ((zl nt.num : Nat) : Int), .string (zh nt.num), .bool (zs nt.num), .int .u64 ((lo (fe nt) : Nat) : Int), .string (hs (fe nt))] 34))
 replace hL0 := (hL0.new rfl [.int .u64 ((zl nt.num : Nat) : Int), .string (zh nt.num), .bool (zs nt.num), .int .u64 ((lo (fe nt) : Nat) : Int), .string (hs (fe nt))] 34)
 generalize hweq : (x14.alloc (.cells #[.int .u64 ((zl nt.num : Nat) : Int), .string (zh nt.num), .bool (zs nt.num), .int .u64 ((lo (fe nt) : Nat) : Int), .string (hs (fe nt))] 34)) = x15 at hL0 hS
 go_upto_region 12 with fail
 clear hweq
 obtain ⟨α, iα, F, hF1, hF2⟩ := cls x15
 have hq0 := cls_box hF1 hL0 _ _ List.mem_cons_self
 simp only [cellsC, and_true, Nat.zero_add, Nat.reduceAdd] at hq0
 have hq1 := cls_box hF1 hL0 _ _ (List.mem_cons_of_mem _ List.mem_cons_self)
 simp only [cellsC, and_true, Nat.zero_add, Nat.reduceAdd] at hq1
 have hq2 := cls_box hF1 hL0 _ _ (List.mem_cons_of_mem _ (List.mem_cons_of_mem _ List.mem_cons_self))
 simp only [cellsC, and_true, Nat.zero_add, Nat.reduceAdd] at hq2
 have hq3 := cls_box hF1 hL0 _ _ (List.mem_cons_of_mem _ (List.mem_cons_of_mem _ (List.mem_cons_of_mem _ List.mem_cons_self)))
 simp only [cellsC, and_true, Nat.zero_add, Nat.reduceAdd] at hq3
 have hq4 := cls_box hF1 hL0 _ _ (List.mem_cons_of_mem _ (List.mem_cons_of_mem _ (List.mem_cons_of_mem _ (List.mem_cons_of_mem _ List.mem_cons_self))))
 simp only [cellsC, and_true, Nat.zero_add, Nat.reduceAdd] at hq4
 have hq5 := cls_box hF1 hL0 _ _ (List.mem_cons_of_mem _ (List.mem_cons_of_mem _ (List.mem_cons_of_mem _ (List.mem_cons_of_mem _ (List.mem_cons_of_mem _ List.mem_cons_self)))))
 simp only [cellsC, and_true, Nat.zero_add, Nat.reduceAdd] at hq5
 have hq6 := cls_box hF1 hL0 _ _ (List.mem_cons_of_mem _ (List.mem_cons_of_mem _ (List.mem_cons_of_mem _ (List.mem_cons_of_mem _ (List.mem_cons_of_mem _ (List.mem_cons_of_mem _ List.mem_cons_self))))))
 simp only [cellsC, and_true, Nat.zero_add, Nat.reduceAdd] at hq6
 have hq7 := cls_box hF1 hL0 _ _ (List.mem_cons_of_mem _ (List.mem_cons_of_mem _ (List.mem_cons_of_mem _ (List.mem_cons_of_mem _ (List.mem_cons_of_mem _ (List.mem_cons_of_mem _ (List.mem_cons_of_mem _ List.mem_cons_self)))))))
 simp only [cellsC, and_true, Nat.zero_add, Nat.reduceAdd] at hq7
 refine region_qs 28 (C := fun w' => ∃ x, w' = F x) (by kernel_rfl) (by kernel_rfl) (cls_drew hF2) ?_
 simp only [List.take_succ_cons, List.take_zero, List.drop_succ_cons, List.drop_zero, List.take_nil, List.drop_nil]
 repeat (go_big_quiet_step (first | fail | (go_at_call 36; with_reducible exact cls_call hF1 hF2 N2.out _) | (go_at_call 36; with_reducible exact cls_call hF1 hF2 N3.out _) | (go_at_call 36; with_reducible exact cls_call hF1 hF2 N4.out _) | (go_at_call 29; with_reducible exact cls_call hF1 hF2 C1.out _) | (go_at_call 29; with_reducible exact cls_call hF1 hF2 C2.out _)))
 refine wpQuiet_nil ?_
 rintro wq ⟨xq, rfl⟩
 replace hL0 := hL0.call (hF1 xq)
 replace hS := hS.call (hF1 xq)
 clear  hq0 hq1 hq2 hq3 hq4 hq5 hq6 hq7 hF2
 generalize F xq = x16 at hL0 hS ⊢
 clear hF1 xq iα F α
 go_wp2_with fail
 go_loopg [26] 3 (fun gk iv wr => ∃ (i : Nat), 1 ≤ i ∧ i + gk = 4 ∧ iv = .int .i64 (i : Int) ∧ GL w wr [(x14.heap.size, [.int .u64 ((zl nt.num : Nat) : Int), .string (zh nt.num), .bool (zs nt.num), .int .u64 ((lo (fe nt) : Nat) : Int), .string (hs (fe nt))]), (x11.heap.size, [.int .u64 ((zl ne.num : Nat) : Int), .string (zh ne.num), .bool (zs ne.num), .int .u64 ((lo (fe ne) : Nat) : Int), .string (hs (fe ne))]), (x9.heap.size + 1, [.int .u64 ((zl hg2.num : Nat) : Int), .string (zh hg2.num), .bool (zs hg2.num), .int .u64 ((lo (fe hg2) : Nat) : Int), .string (hs (fe hg2))]), (x9.heap.size, [.int .u64 ((zl lw2.num : Nat) : Int), .string (zh lw2.num), .bool (zs lw2.num), .int .u64 ((lo (fe lw2) : Nat) : Int), .string (hs (fe lw2))]), (x7.heap.size + 1, [.int .u64 ((zl up.num : Nat) : Int), .string (zh up.num), .bool (zs up.num), .int .u64 ((lo (fe up) : Nat) : Int), .string (hs (fe up))]), (x7.heap.size, [.int .u64 ((zl dn.num : Nat) : Int), .string (zh dn.num), .bool (zs dn.num), .int .u64 ((lo (fe dn) : Nat) : Int), .string (hs (fe dn))]), (x4.heap.size + 1, [.int .u64 ((zl hg.num : Nat) : Int), .string (zh hg.num), .bool (zs hg.num), .int .u64 ((lo (fe hg) : Nat) : Int), .string (hs (fe hg))]), (x4.heap.size, [.int .u64 ((zl lw.num : Nat) : Int), .string (zh lw.num), .bool (zs lw.num), .int .u64 ((lo (fe lw) : Nat) : Int), .string (hs (fe lw))]), (k2_10, [.int .u64 ((zl v0.num : Nat) : Int), .string (zh v0.num), .bool (zs v0.num), .int .u64 ((lo (fe v0) : Nat) : Int), .string (hs (fe v0))]), (k2_9, [.int .u64 ((zl u0.num : Nat) : Int), .string (zh u0.num), .bool (zs u0.num), .int .u64 ((lo (fe u0) : Nat) : Int), .string (hs (fe u0))]), (w.heap.size + 1, [.bool sy, .slice ay ny cy, .slice qy my dy]), (w.heap.size, [.bool sx, .slice ax nx cx, .slice qx mx dx])])
 case atStart => exact ⟨1, Nat.le_refl _, by omega, by first | rfl | go_num, hL0⟩
 case round =>
  clear hL0 hS
  obtain ⟨i, hi1, hik, rfl, hL0⟩ := hrel
  have hS := SS.nil wr
  by_cases hin : i < 4
  ·have k1 : (i : Int) ≤ 3 := by omega
   have kb : (i : Int) ≤ 1000000 := by omega
   obtain ⟨c9, d9, k9, HO1, HO2, HO3, g9⟩ := HO.out i hi1 (by omega)
   replace HO1 := Lib.hid HO1
   replace HO2 := Lib.hid HO2
   replace HO3 := Lib.hid HO3
   clear hin hi1
   have hN0 := cells_of _ 0 [] rfl (hL0.get _ _ (List.mem_cons_of_mem _ (List.mem_cons_of_mem _ (List.mem_cons_of_mem _ (List.mem_cons_of_mem _ (List.mem_cons_of_mem _ (List.mem_cons_of_mem _ (List.mem_cons_of_mem _ (List.mem_cons_of_mem _ (List.mem_cons_of_mem _ List.mem_cons_self))))))))))
   simp only [cellsF, and_true, Nat.zero_add, Nat.reduceAdd] at hN0
   go_wp2_with fail
   clear hN0
   with_reducible refine Calls.mono (HO1.out _) ?_
   rintro e x17 ⟨rfl, hb⟩
   replace hL0 := hL0.call hb
   replace hS := hS.call hb
   clear hb
   replace hS := (hS.new (.cells #[.int .u64 ((zl c9.num : Nat) : Int), .string (zh c9.num), .bool (zs c9.num), .int .u64 ((lo (fe c9) : Nat) : Int), .string (hs (fe c9))] 34))
   replace hL0 := (hL0.new rfl [.int .u64 ((zl c9.num : Nat) : Int), .string (zh c9.num), .bool (zs c9.num), .int .u64 ((lo (fe c9) : Nat) : Int), .string (hs (fe c9))] 34)
   generalize hweq : (x17.alloc (.cells #[.int .u64 ((zl c9.num : Nat) : Int), .string (zh c9.num), .bool (zs c9.num), .int .u64 ((lo (fe c9) : Nat) : Int), .string (hs (fe c9))] 34)) = x18 at hL0 hS
   have hN0 := cells_of _ 0 [] rfl (hL0.get _ _ (List.mem_cons_of_mem _ (List.mem_cons_of_mem _ (List.mem_cons_of_mem _ (List.mem_cons_of_mem _ (List.mem_cons_of_mem _ (List.mem_cons_of_mem _ (List.mem_cons_of_mem _ (List.mem_cons_of_mem _ (List.mem_cons_of_mem _ List.mem_cons_self))))))))))
   simp only [cellsF, and_true, Nat.zero_add, Nat.reduceAdd] at hN0
   go_wp2_with fail
   clear hN0
   with_reducible refine Calls.mono (HO2.out _) ?_
   rintro e x19 ⟨rfl, hb⟩
   replace hL0 := hL0.call hb
   replace hS := hS.call hb
   clear hb hweq
   replace hS := (hS.new (.cells #[.int .u64 ((zl d9.num : Nat) : Int), .string (zh d9.num), .bool (zs d9.num), .int .u64 ((lo (fe d9) : Nat) : Int), .string (hs (fe d9))] 34))
   replace hL0 := (hL0.new rfl [.int .u64 ((zl d9.num : Nat) : Int), .string (zh d9.num), .bool (zs d9.num), .int .u64 ((lo (fe d9) : Nat) : Int), .string (hs (fe d9))] 34)
   generalize hweq : (x19.alloc (.cells #[.int .u64 ((zl d9.num : Nat) : Int), .string (zh d9.num), .bool (zs d9.num), .int .u64 ((lo (fe d9) : Nat) : Int), .string (hs (fe d9))] 34)) = x20 at hL0 hS
   have hN0 := cells_of _ 0 [] rfl (hL0.get _ _ List.mem_cons_self)
   simp only [cellsF, and_true, Nat.zero_add, Nat.reduceAdd] at hN0
   have hN1 := cells_of _ 0 [] rfl (hL0.get _ _ (List.mem_cons_of_mem _ List.mem_cons_self))
   simp only [cellsF, and_true, Nat.zero_add, Nat.reduceAdd] at hN1
   go_wp2_with fail
   clear hN0 hN1
   with_reducible refine Calls.mono (HO3.out _) ?_
   rintro e x21 ⟨rfl, hb⟩
   replace hL0 := hL0.call hb
   replace hS := hS.call hb
   clear hb hweq
   go_wp2_with fail
   go_roundg (gk - 1)
   case measure => omega
   case rel => exact ⟨i + 1, by omega, by omega, by first | rfl | go_num, hL0.weak (List.Sublist.cons _ (List.Sublist.cons _ (List.Sublist.refl _)))⟩
  ·have k1 : ¬ (i : Int) ≤ 3 := by omega
   go_wp2_with fail
   with_reducible refine Calls.mono (HW.out _ (hKT.out.at hL0.bl kKT)) ?_
   rintro e x17 ⟨rfl, hb⟩
   replace hL0 := hL0.call hb
   replace hS := hS.call hb
   clear hb
   go_wp2_with fail
   exact bodyPost_ret (v := .bool true) (by simp [results, Tryz.results8, go_sem]) rfl ⟨rfl, hL0.bl⟩
set_option maxHeartbeats 4000000 in
set_option maxRecDepth 100000 in
theorem dturned_gt (sx sy : Bool) (ax qx ay qy : Option Addr) (nx cx mx dx ny cy my dy : Nat) (m8 e8 m1 n1 p r c0 c1 c2 : Int) (u0 v0 na lw hg dn up lw2 hg2 ne nt : Rat) (Kx : World → Prop) (hKx : Keeps Kx) (GX : ∀ w, Kx w → Calls Tryz.prog 13 #[.agg #[.bool sx, .slice ax nx cx, .slice qx mx dx]] w fun xe w' => xe = .returned (fracV u0) ∧ Below w.heap.size w w') (Ky : World → Prop) (hKy : Keeps Ky) (GY : ∀ w, Ky w → Calls Tryz.prog 13 #[.agg #[.bool sy, .slice ay ny cy, .slice qy my dy]] w fun xe w' => xe = .returned (fracV v0) ∧ Below w.heap.size w w') (C0 : ∀ w, Calls Tryz.prog 29 #[fracV u0, fracV v0] w fun xe w' => xe = .returned (.int .i64 c0) ∧ Below w.heap.size w w') (B1 : ∀ w, Calls Tryz.prog 26 #[fracV v0, .int .i64 p] w fun xe w' => xe = .returned (.tuple #[fracV lw, fracV hg, .int .i64 0]) ∧ Below w.heap.size w w') (N1 : ∀ w, Calls Tryz.prog 36 #[fracV v0] w fun xe w' => xe = .returned (fracV na) ∧ Below w.heap.size w w') (B2 : ∀ w, Calls Tryz.prog 26 #[fracV na, .int .i64 p] w fun xe w' => xe = .returned (.tuple #[fracV dn, fracV up, .int .i64 0]) ∧ Below w.heap.size w w') (B3 : ∀ w, Calls Tryz.prog 26 #[fracV v0, .int .i64 r] w fun xe w' => xe = .returned (.tuple #[fracV lw2, fracV hg2, .int .i64 0]) ∧ Below w.heap.size w w') (R1 : ∀ w, Calls Tryz.prog 12 #[fracV v0, .int .i64 p, .int .i64 3] w fun xe w' => xe = .returned (.tuple #[fracV ne, .int .i64 0]) ∧ Below w.heap.size w w') (R2 : ∀ w, Calls Tryz.prog 12 #[fracV na, .int .i64 p, .int .i64 3] w fun xe w' => xe = .returned (.tuple #[fracV nt, .int .i64 0]) ∧ Below w.heap.size w w') (N2 : ∀ w, Calls Tryz.prog 36 #[fracV hg] w fun xe w' => xe = .returned (fracV dn) ∧ Below w.heap.size w w') (N3 : ∀ w, Calls Tryz.prog 36 #[fracV lw] w fun xe w' => xe = .returned (fracV up) ∧ Below w.heap.size w w') (N4 : ∀ w, Calls Tryz.prog 36 #[fracV ne] w fun xe w' => xe = .returned (fracV nt) ∧ Below w.heap.size w w') (C1 : ∀ w, Calls Tryz.prog 29 #[fracV lw, fracV lw2] w fun xe w' => xe = .returned (.int .i64 c1) ∧ Below w.heap.size w w') (C2 : ∀ w, Calls Tryz.prog 29 #[fracV hg2, fracV hg] w fun xe w' => xe = .returned (.int .i64 c2) ∧ Below w.heap.size w w') (KT : World → Prop) (hKT : Keeps KT) (HW : ∀ w, KT w → Calls Tryz.prog 11 #[] w fun xe w' => xe = .returned (.bool true) ∧ Below w.heap.size w w') (l0 : decide ((4 : Int) < ((nx : Nat) : Int)) = false) (k0 : decide (4 < nx) = false) (l1 : decide ((4 : Int) < ((mx : Nat) : Int)) = false) (k1 : decide (4 < mx) = false) (l2 : decide ((4 : Int) < ((ny : Nat) : Int)) = false) (k2 : decide (4 < ny) = false) (l3 : decide ((4 : Int) < ((my : Nat) : Int)) = false) (k3 : decide (4 < my) = false) (w1 : IntKind.i64.wrap m8 = m8) (w2 : IntKind.i64.wrap e8 = e8) (e1 : m8.tmod 101 = m1) (e2 : e8.tmod 101 = n1) (s0 : decide (0 < c0) = true) (s1 : decide (0 < c1) = false) (s2 : decide (0 < c2) = false) (hmin : min m1 n1 = p) (hmax : max m1 n1 = r) (HO : ∀ i : Nat, 1 ≤ i → i ≤ 3 → ∃ (c d : Rat) (k : Int), (∀ w, Calls Tryz.prog 12 #[fracV v0, .int .i64 p, .int .i64 (i : Int)] w fun xe w' => xe = .returned (.tuple #[fracV c, .int .i64 0]) ∧ Below w.heap.size w w') ∧ (∀ w, Calls Tryz.prog 12 #[fracV u0, .int .i64 p, .int .i64 (i : Int)] w fun xe w' => xe = .returned (.tuple #[fracV d, .int .i64 0]) ∧ Below w.heap.size w w') ∧ (∀ w, Calls Tryz.prog 29 #[fracV c, fracV d] w fun xe w' => xe = .returned (.int .i64 k) ∧ Below w.heap.size w w') ∧ decide (0 < k) = false) (w : World) (kKx : Kx w) (kKy : Ky w) (kKT : KT w) :
  Calls Tryz.prog 8 #[.agg #[.bool sx, .slice ax nx cx, .slice qx mx dx], .agg #[.bool sy, .slice ay ny cy, .slice qy my dy], .int .u8 m8, .int .u8 e8] w fun e w' => e = .returned (.bool true) ∧ Below w.heap.size w w' := by
 replace hKx := Lib.hid hKx
 replace GX := Lib.hid GX
 replace hKy := Lib.hid hKy
 replace GY := Lib.hid GY
 replace C0 := Lib.hid C0
 replace B1 := Lib.hid B1
 replace N1 := Lib.hid N1
 replace B2 := Lib.hid B2
 replace B3 := Lib.hid B3
 replace R1 := Lib.hid R1
 replace R2 := Lib.hid R2
 replace N2 := Lib.hid N2
 replace N3 := Lib.hid N3
 replace N4 := Lib.hid N4
 replace C1 := Lib.hid C1
 replace C2 := Lib.hid C2
 replace hKT := Lib.hid hKT
 replace HW := Lib.hid HW
 have hL0 : GL w w [] := GL.start w
 have hS : SS w [] := SS.nil w
 replace HO := Lib.hid HO
 replace hS := ((hS.new (.cells #[.bool sx, .slice ax nx cx, .slice qx mx dx] 26)).new (.cells #[.bool sy, .slice ay ny cy, .slice qy my dy] 26))
 replace hL0 := ((hL0.new rfl [.bool sx, .slice ax nx cx, .slice qx mx dx] 26).new (K := w.heap.size + 1) (szA _ _) [.bool sy, .slice ay ny cy, .slice qy my dy] 26)
 generalize hweq : ((w.alloc (.cells #[.bool sx, .slice ax nx cx, .slice qx mx dx] 26)).alloc (.cells #[.bool sy, .slice ay ny cy, .slice qy my dy] 26)) = x1 at hL0 hS
 go_enter Tryz.func8, Tryz.ntmps8
 have hN0 := cells_of _ 0 [] rfl (hL0.get _ _ List.mem_cons_self)
 simp only [cellsF, and_true, Nat.zero_add, Nat.reduceAdd] at hN0
 have hN1 := cells_of _ 0 [] rfl (hL0.get _ _ (List.mem_cons_of_mem _ List.mem_cons_self))
 simp only [cellsF, and_true, Nat.zero_add, Nat.reduceAdd] at hN1
 go_upto_region 3 with fail
 have kKx1 := hKx.out.at hL0.bl kKx
 have kKy1 := hKy.out.at hL0.bl kKy
 clear hN0 hN1
 clear hweq
 refine region_gh (by kernel_rfl) (by kernel_rfl) ?_
 refine lex_seg (gl := []) 4 (by kernel_rfl) ?_
 intro α iα F hF1 hF2
 have hq := GL.seg hF1 hL0
 simp only [fcC, cellsC, and_true, Nat.zero_add, Nat.reduceAdd] at hq
 simp only [List.take_succ_cons, List.take_zero, List.drop_succ_cons, List.drop_zero, List.take_nil, List.drop_nil]
 repeat (go_big_quiet_step (first | fail | (go_at_call 13; with_reducible exact seg_callK hKx.out hF1 hF2 kKx1 GX.out _) | (go_at_call 13; with_reducible exact seg_callK hKy.out hF1 hF2 kKy1 GY.out _)))
 refine wpQuiet_nil ?_
 clear hq hF1 hF2 iα F α
 refine lex_new [.int .u64 0, .string ⟨#[]⟩, .bool false, .int .u64 0, .string ⟨#[]⟩] 9 34 34 rfl rfl (of_decide_eq_true (by kernel_rfl)) (by kernel_rfl) rfl new_frac ?_
 simp only [Act.put, List.setIfInBounds_toArray, List.set_cons_succ, List.set_cons_zero]
 refine lex_new [.int .u64 0, .string ⟨#[]⟩, .bool false, .int .u64 0, .string ⟨#[]⟩] 10 34 34 rfl rfl (of_decide_eq_true (by kernel_rfl)) (by kernel_rfl) rfl new_frac ?_
 simp only [Act.put, List.setIfInBounds_toArray, List.set_cons_succ, List.set_cons_zero]
 refine lex_put [.int .u64 ((zl u0.num : Nat) : Int), .string (zh u0.num), .bool (zs u0.num), .int .u64 ((lo (fe u0) : Nat) : Int), .string (hs (fe u0))] [.int .u64 0, .string ⟨#[]⟩, .bool false, .int .u64 0, .string ⟨#[]⟩] 9 34 (.tmp 57) rfl (by kernel_rfl) (by simp [toG, upd]) rfl (fun w k h => put_frac _ _ _ _ _ _ _ _ _ _ w k h) ?_
 simp only [Act.put]
 refine lex_put [.int .u64 ((zl v0.num : Nat) : Int), .string (zh v0.num), .bool (zs v0.num), .int .u64 ((lo (fe v0) : Nat) : Int), .string (hs (fe v0))] [.int .u64 0, .string ⟨#[]⟩, .bool false, .int .u64 0, .string ⟨#[]⟩] 10 34 (.tmp 59) rfl (by kernel_rfl) (by simp [toG, upd]) rfl (fun w k h => put_frac _ _ _ _ _ _ _ _ _ _ w k h) ?_
 simp only [Act.put]
 refine lexG_nil ?_
 intro κ x2 hS
 replace hL0 := hL0.ghs hS [(10, [.int .u64 ((zl v0.num : Nat) : Int), .string (zh v0.num), .bool (zs v0.num), .int .u64 ((lo (fe v0) : Nat) : Int), .string (hs (fe v0))]), (9, [.int .u64 ((zl u0.num : Nat) : Int), .string (zh u0.num), .bool (zs u0.num), .int .u64 ((lo (fe u0) : Nat) : Int), .string (hs (fe u0))])] (by simp) (by intro p hp; simp only [List.mem_cons, List.not_mem_nil, or_false] at hp; rcases hp with rfl | rfl <;> exact ⟨_, by simp only [toG, upd]; rfl⟩)
 simp only [List.map_cons, List.map_nil, List.cons_append, List.nil_append] at hL0
 simp only [over_toG, over_nil, Act.put, List.setIfInBounds_toArray, List.set_cons_succ, List.set_cons_zero]
 clear hS
 generalize κ 10 = k2_10 at *
 generalize κ 9 = k2_9 at *
 replace hS := SS.nil x2
 clear kKx1 kKy1
 have hN0 := cells_of _ 0 [] rfl (hL0.get _ _ List.mem_cons_self)
 simp only [cellsF, and_true, Nat.zero_add, Nat.reduceAdd] at hN0
 have hN1 := cells_of _ 0 [] rfl (hL0.get _ _ (List.mem_cons_of_mem _ List.mem_cons_self))
 simp only [cellsF, and_true, Nat.zero_add, Nat.reduceAdd] at hN1
 go_wp2_with fail
 clear hN0 hN1
 with_reducible refine Calls.mono (C0.out _) ?_
 rintro e x3 ⟨rfl, hb⟩
 replace hL0 := hL0.call hb
 replace hS := hS.call hb
 clear hb
 have hS1 := hS.put ((((((Upd.refl k2_9 x3).setCell 0 (.int .u64 ((zl v0.num : Nat) : Int))).setCell 1 (.string (zh v0.num))).setCell 2 (.bool (zs v0.num))).setCell 3 (.int .u64 ((lo (fe v0) : Nat) : Int))).setCell 4 (.string (hs (fe v0)))) (hL0.get _ _ (List.mem_cons_of_mem _ List.mem_cons_self)) (by intro v hv n; simp only [List.mem_cons, List.not_mem_nil, or_false] at hv; rcases hv with rfl | rfl | rfl | rfl | rfl <;> simp)
 have hA := hL0.fc
 simp only [fcG, cellsF, neK, and_true, ne_eq, Nat.zero_add, Nat.reduceAdd] at hA
 have hP := hL0.put 1 (k2_9) _ rfl [.int .u64 ((zl v0.num : Nat) : Int), .string (zh v0.num), .bool (zs v0.num), .int .u64 ((lo (fe v0) : Nat) : Int), .string (hs (fe v0))] rfl
 simp only [setAll, List.set_cons_zero, List.set_cons_succ] at hP
 generalize hput1 : (((((x3.setCell ⟨k2_9, 0, none⟩ (.int .u64 ((zl v0.num : Nat) : Int))).setCell ⟨k2_9, 1, none⟩ (.string (zh v0.num))).setCell ⟨k2_9, 2, none⟩ (.bool (zs v0.num))).setCell ⟨k2_9, 3, none⟩ (.int .u64 ((lo (fe v0) : Nat) : Int))).setCell ⟨k2_9, 4, none⟩ (.string (hs (fe v0)))) = x4 at hP hS1
 have hB1 := hP.fc
 simp only [fcG, cellsF, neK, and_true, ne_eq, Nat.zero_add, Nat.reduceAdd] at hB1
 replace hL0 := hP
 replace hS := hS1
 clear hS1
 have hS1 := hS.put ((((((Upd.refl k2_10 x4).setCell 0 (.int .u64 ((zl u0.num : Nat) : Int))).setCell 1 (.string (zh u0.num))).setCell 2 (.bool (zs u0.num))).setCell 3 (.int .u64 ((lo (fe u0) : Nat) : Int))).setCell 4 (.string (hs (fe u0)))) (hL0.get _ _ List.mem_cons_self) (by intro v hv n; simp only [List.mem_cons, List.not_mem_nil, or_false] at hv; rcases hv with rfl | rfl | rfl | rfl | rfl <;> simp)
 have hP := hL0.put 0 (k2_10) _ rfl [.int .u64 ((zl u0.num : Nat) : Int), .string (zh u0.num), .bool (zs u0.num), .int .u64 ((lo (fe u0) : Nat) : Int), .string (hs (fe u0))] rfl
 simp only [setAll, List.set_cons_zero, List.set_cons_succ] at hP
 generalize hput2 : (((((x4.setCell ⟨k2_10, 0, none⟩ (.int .u64 ((zl u0.num : Nat) : Int))).setCell ⟨k2_10, 1, none⟩ (.string (zh u0.num))).setCell ⟨k2_10, 2, none⟩ (.bool (zs u0.num))).setCell ⟨k2_10, 3, none⟩ (.int .u64 ((lo (fe u0) : Nat) : Int))).setCell ⟨k2_10, 4, none⟩ (.string (hs (fe u0)))) = x5 at hP hS1
 have hB2 := hP.fc
 simp only [fcG, cellsF, neK, and_true, ne_eq, Nat.zero_add, Nat.reduceAdd] at hB2
 replace hL0 := hP
 replace hS := hS1
 clear hS1
 go_wp2_with fail
 clear hA
 with_reducible refine Calls.mono (B1.out _) ?_
 rintro e x6 ⟨rfl, hb⟩
 replace hL0 := hL0.call hb
 replace hS := hS.call hb
 clear hb hput1 hB1 hput2 hB2
 replace hS := ((hS.new (.cells #[.int .u64 ((zl lw.num : Nat) : Int), .string (zh lw.num), .bool (zs lw.num), .int .u64 ((lo (fe lw) : Nat) : Int), .string (hs (fe lw))] 34)).new (.cells #[.int .u64 ((zl hg.num : Nat) : Int), .string (zh hg.num), .bool (zs hg.num), .int .u64 ((lo (fe hg) : Nat) : Int), .string (hs (fe hg))] 34))
 replace hL0 := ((hL0.new rfl [.int .u64 ((zl lw.num : Nat) : Int), .string (zh lw.num), .bool (zs lw.num), .int .u64 ((lo (fe lw) : Nat) : Int), .string (hs (fe lw))] 34).new (K := x6.heap.size + 1) (szA _ _) [.int .u64 ((zl hg.num : Nat) : Int), .string (zh hg.num), .bool (zs hg.num), .int .u64 ((lo (fe hg) : Nat) : Int), .string (hs (fe hg))] 34)
 generalize hweq : ((x6.alloc (.cells #[.int .u64 ((zl lw.num : Nat) : Int), .string (zh lw.num), .bool (zs lw.num), .int .u64 ((lo (fe lw) : Nat) : Int), .string (hs (fe lw))] 34)).alloc (.cells #[.int .u64 ((zl hg.num : Nat) : Int), .string (zh hg.num), .bool (zs hg.num), .int .u64 ((lo (fe hg) : Nat) : Int), .string (hs (fe hg))] 34)) = x7 at hL0 hS
 have hN0 := cells_of _ 0 [] rfl (hL0.get _ _ (List.mem_cons_of_mem _ (List.mem_cons_of_mem _ (List.mem_cons_of_mem _ List.mem_cons_self))))
 simp only [cellsF, and_true, Nat.zero_add, Nat.reduceAdd] at hN0
 go_wp2_with fail
 clear hN0
 with_reducible refine Calls.mono (N1.out _) ?_
 rintro e x8 ⟨rfl, hb⟩
 replace hL0 := hL0.call hb
 replace hS := hS.call hb
 clear hb hweq
 go_wp2_with fail
 with_reducible refine Calls.mono (B2.out _) ?_
 rintro e x9 ⟨rfl, hb⟩
 replace hL0 := hL0.call hb
 replace hS := hS.call hb
 clear hb
 replace hS := ((hS.new (.cells #[.int .u64 ((zl dn.num : Nat) : Int), .string (zh dn.num), .bool (zs dn.num), .int .u64 ((lo (fe dn) : Nat) : Int), .string (hs (fe dn))] 34)).new (.cells #[.int .u64 ((zl up.num : Nat) : Int), .string (zh up.num), .bool (zs up.num), .int .u64 ((lo (fe up) : Nat) : Int), .string (hs (fe up))] 34))
 replace hL0 := ((hL0.new rfl [.int .u64 ((zl dn.num : Nat) : Int), .string (zh dn.num), .bool (zs dn.num), .int .u64 ((lo (fe dn) : Nat) : Int), .string (hs (fe dn))] 34).new (K := x9.heap.size + 1) (szA _ _) [.int .u64 ((zl up.num : Nat) : Int), .string (zh up.num), .bool (zs up.num), .int .u64 ((lo (fe up) : Nat) : Int), .string (hs (fe up))] 34)
 generalize hweq : ((x9.alloc (.cells #[.int .u64 ((zl dn.num : Nat) : Int), .string (zh dn.num), .bool (zs dn.num), .int .u64 ((lo (fe dn) : Nat) : Int), .string (hs (fe dn))] 34)).alloc (.cells #[.int .u64 ((zl up.num : Nat) : Int), .string (zh up.num), .bool (zs up.num), .int .u64 ((lo (fe up) : Nat) : Int), .string (hs (fe up))] 34)) = x10 at hL0 hS
 have hN0 := cells_of _ 0 [] rfl (hL0.get _ _ (List.mem_cons_of_mem _ (List.mem_cons_of_mem _ (List.mem_cons_of_mem _ (List.mem_cons_of_mem _ (List.mem_cons_of_mem _ List.mem_cons_self))))))
 simp only [cellsF, and_true, Nat.zero_add, Nat.reduceAdd] at hN0
 go_wp2_with fail
 clear hN0
 with_reducible refine Calls.mono (B3.out _) ?_
 rintro e x11 ⟨rfl, hb⟩
 replace hL0 := hL0.call hb
 replace hS := hS.call hb
 clear hb hweq
 replace hS := ((hS.new (.cells #[.int .u64 ((zl lw2.num : Nat) : Int), .string (zh lw2.num), .bool (zs lw2.num), .int .u64 ((lo (fe lw2) : Nat) : Int), .string (hs (fe lw2))] 34)).new (.cells #[.int .u64 ((zl hg2.num : Nat) : Int), .string (zh hg2.num), .bool (zs hg2.num), .int .u64 ((lo (fe hg2) : Nat) : Int), .string (hs (fe hg2))] 34))
 replace hL0 := ((hL0.new rfl [.int .u64 ((zl lw2.num : Nat) : Int), .string (zh lw2.num), .bool (zs lw2.num), .int .u64 ((lo (fe lw2) : Nat) : Int), .string (hs (fe lw2))] 34).new (K := x11.heap.size + 1) (szA _ _) [.int .u64 ((zl hg2.num : Nat) : Int), .string (zh hg2.num), .bool (zs hg2.num), .int .u64 ((lo (fe hg2) : Nat) : Int), .string (hs (fe hg2))] 34)
 generalize hweq : ((x11.alloc (.cells #[.int .u64 ((zl lw2.num : Nat) : Int), .string (zh lw2.num), .bool (zs lw2.num), .int .u64 ((lo (fe lw2) : Nat) : Int), .string (hs (fe lw2))] 34)).alloc (.cells #[.int .u64 ((zl hg2.num : Nat) : Int), .string (zh hg2.num), .bool (zs hg2.num), .int .u64 ((lo (fe hg2) : Nat) : Int), .string (hs (fe hg2))] 34)) = x12 at hL0 hS
 have hN0 := cells_of _ 0 [] rfl (hL0.get _ _ (List.mem_cons_of_mem _ (List.mem_cons_of_mem _ (List.mem_cons_of_mem _ (List.mem_cons_of_mem _ (List.mem_cons_of_mem _ (List.mem_cons_of_mem _ (List.mem_cons_of_mem _ List.mem_cons_self))))))))
 simp only [cellsF, and_true, Nat.zero_add, Nat.reduceAdd] at hN0
 go_wp2_with fail
 clear hN0
 with_reducible refine Calls.mono (R1.out _) ?_
 rintro e x13 ⟨rfl, hb⟩
 replace hL0 := hL0.call hb
 replace hS := hS.call hb
 clear hb hweq
 replace hS := (hS.new (.cells #[.int .u64 ((zl ne.num : Nat) : Int), .string (zh ne.num), .bool (zs ne.num), .int .u64 ((lo (fe ne) : Nat) : Int), .string (hs (fe ne))] 34))
 replace hL0 := (hL0.new rfl [.int .u64 ((zl ne.num : Nat) : Int), .string (zh ne.num), .bool (zs ne.num), .int .u64 ((lo (fe ne) : Nat) : Int), .string (hs (fe ne))] 34)
 generalize hweq : (x13.alloc (.cells #[.int .u64 ((zl ne.num : Nat) : Int), .string (zh ne.num), .bool (zs ne.num), .int .u64 ((lo (fe ne) : Nat) : Int), .string (hs (fe ne))] 34)) = x14 at hL0 hS
 have hN0 := cells_of _ 0 [] rfl (hL0.get _ _ (List.mem_cons_of_mem _ (List.mem_cons_of_mem _ (List.mem_cons_of_mem _ (List.mem_cons_of_mem _ (List.mem_cons_of_mem _ (List.mem_cons_of_mem _ (List.mem_cons_of_mem _ (List.mem_cons_of_mem _ List.mem_cons_self)))))))))
 simp only [cellsF, and_true, Nat.zero_add, Nat.reduceAdd] at hN0
 go_wp2_with fail
 clear hN0
 with_reducible refine Calls.mono (N1.out _) ?_
 rintro e x15 ⟨rfl, hb⟩
 replace hL0 := hL0.call hb
 replace hS := hS.call hb
 clear hb hweq
 go_wp2_with fail
 with_reducible refine Calls.mono (R2.out _) ?_
 rintro e x16 ⟨rfl, hb⟩
 replace hL0 := hL0.call hb
 replace hS := hS.call hb
 clear hb
 replace hS := (hS.new (.cells #[.int .u64 ((zl nt.num : Nat) : Int), .string (zh nt.num), .bool (zs nt.num), .int .u64 ((lo (fe nt) : Nat) : Int), .string (hs (fe nt))] 34))
 replace hL0 := (hL0.new rfl [.int .u64 ((zl nt.num : Nat) : Int), .string (zh nt.num), .bool (zs nt.num), .int .u64 ((lo (fe nt) : Nat) : Int), .string (hs (fe nt))] 34)
 generalize hweq : (x16.alloc (.cells #[.int .u64 ((zl nt.num : Nat) : Int), .string (zh nt.num), .bool (zs nt.num), .int .u64 ((lo (fe nt) : Nat) : Int), .string (hs (fe nt))] 34)) = x17 at hL0 hS
 go_upto_region 12 with fail
 clear hweq
 obtain ⟨α, iα, F, hF1, hF2⟩ := cls x17
 have hq0 := cls_box hF1 hL0 _ _ List.mem_cons_self
 simp only [cellsC, and_true, Nat.zero_add, Nat.reduceAdd] at hq0
 have hq1 := cls_box hF1 hL0 _ _ (List.mem_cons_of_mem _ List.mem_cons_self)
 simp only [cellsC, and_true, Nat.zero_add, Nat.reduceAdd] at hq1
 have hq2 := cls_box hF1 hL0 _ _ (List.mem_cons_of_mem _ (List.mem_cons_of_mem _ List.mem_cons_self))
 simp only [cellsC, and_true, Nat.zero_add, Nat.reduceAdd] at hq2
 have hq3 := cls_box hF1 hL0 _ _ (List.mem_cons_of_mem _ (List.mem_cons_of_mem _ (List.mem_cons_of_mem _ List.mem_cons_self)))
 simp only [cellsC, and_true, Nat.zero_add, Nat.reduceAdd] at hq3
 have hq4 := cls_box hF1 hL0 _ _ (List.mem_cons_of_mem _ (List.mem_cons_of_mem _ (List.mem_cons_of_mem _ (List.mem_cons_of_mem _ List.mem_cons_self))))
 simp only [cellsC, and_true, Nat.zero_add, Nat.reduceAdd] at hq4
 have hq5 := cls_box hF1 hL0 _ _ (List.mem_cons_of_mem _ (List.mem_cons_of_mem _ (List.mem_cons_of_mem _ (List.mem_cons_of_mem _ (List.mem_cons_of_mem _ List.mem_cons_self)))))
 simp only [cellsC, and_true, Nat.zero_add, Nat.reduceAdd] at hq5
 have hq6 := cls_box hF1 hL0 _ _ (List.mem_cons_of_mem _ (List.mem_cons_of_mem _ (List.mem_cons_of_mem _ (List.mem_cons_of_mem _ (List.mem_cons_of_mem _ (List.mem_cons_of_mem _ List.mem_cons_self))))))
 simp only [cellsC, and_true, Nat.zero_add, Nat.reduceAdd] at hq6
 have hq7 := cls_box hF1 hL0 _ _ (List.mem_cons_of_mem _ (List.mem_cons_of_mem _ (List.mem_cons_of_mem _ (List.mem_cons_of_mem _ (List.mem_cons_of_mem _ (List.mem_cons_of_mem _ (List.mem_cons_of_mem _ List.mem_cons_self)))))))
 simp only [cellsC, and_true, Nat.zero_add, Nat.reduceAdd] at hq7
 refine region_qs 28 (C := fun w' => ∃ x, w' = F x) (by kernel_rfl) (by kernel_rfl) (cls_drew hF2) ?_
 simp only [List.take_succ_cons, List.take_zero, List.drop_succ_cons, List.drop_zero, List.take_nil, List.drop_nil]
 repeat (go_big_quiet_step (first | fail | (go_at_call 36; with_reducible exact cls_call hF1 hF2 N2.out _) | (go_at_call 36; with_reducible exact cls_call hF1 hF2 N3.out _) | (go_at_call 36; with_reducible exact cls_call hF1 hF2 N4.out _) | (go_at_call 29; with_reducible exact cls_call hF1 hF2 C1.out _) | (go_at_call 29; with_reducible exact cls_call hF1 hF2 C2.out _)))
 refine wpQuiet_nil ?_
 rintro wq ⟨xq, rfl⟩
 replace hL0 := hL0.call (hF1 xq)
 replace hS := hS.call (hF1 xq)
 clear  hq0 hq1 hq2 hq3 hq4 hq5 hq6 hq7 hF2
 generalize F xq = x18 at hL0 hS ⊢
 clear hF1 xq iα F α
 go_wp2_with fail
 go_loopg [26] 3 (fun gk iv wr => ∃ (i : Nat), 1 ≤ i ∧ i + gk = 4 ∧ iv = .int .i64 (i : Int) ∧ GL w wr [(x16.heap.size, [.int .u64 ((zl nt.num : Nat) : Int), .string (zh nt.num), .bool (zs nt.num), .int .u64 ((lo (fe nt) : Nat) : Int), .string (hs (fe nt))]), (x13.heap.size, [.int .u64 ((zl ne.num : Nat) : Int), .string (zh ne.num), .bool (zs ne.num), .int .u64 ((lo (fe ne) : Nat) : Int), .string (hs (fe ne))]), (x11.heap.size + 1, [.int .u64 ((zl hg2.num : Nat) : Int), .string (zh hg2.num), .bool (zs hg2.num), .int .u64 ((lo (fe hg2) : Nat) : Int), .string (hs (fe hg2))]), (x11.heap.size, [.int .u64 ((zl lw2.num : Nat) : Int), .string (zh lw2.num), .bool (zs lw2.num), .int .u64 ((lo (fe lw2) : Nat) : Int), .string (hs (fe lw2))]), (x9.heap.size + 1, [.int .u64 ((zl up.num : Nat) : Int), .string (zh up.num), .bool (zs up.num), .int .u64 ((lo (fe up) : Nat) : Int), .string (hs (fe up))]), (x9.heap.size, [.int .u64 ((zl dn.num : Nat) : Int), .string (zh dn.num), .bool (zs dn.num), .int .u64 ((lo (fe dn) : Nat) : Int), .string (hs (fe dn))]), (x6.heap.size + 1, [.int .u64 ((zl hg.num : Nat) : Int), .string (zh hg.num), .bool (zs hg.num), .int .u64 ((lo (fe hg) : Nat) : Int), .string (hs (fe hg))]), (x6.heap.size, [.int .u64 ((zl lw.num : Nat) : Int), .string (zh lw.num), .bool (zs lw.num), .int .u64 ((lo (fe lw) : Nat) : Int), .string (hs (fe lw))]), (k2_10, [.int .u64 ((zl u0.num : Nat) : Int), .string (zh u0.num), .bool (zs u0.num), .int .u64 ((lo (fe u0) : Nat) : Int), .string (hs (fe u0))]), (k2_9, [.int .u64 ((zl v0.num : Nat) : Int), .string (zh v0.num), .bool (zs v0.num), .int .u64 ((lo (fe v0) : Nat) : Int), .string (hs (fe v0))]), (w.heap.size + 1, [.bool sy, .slice ay ny cy, .slice qy my dy]), (w.heap.size, [.bool sx, .slice ax nx cx, .slice qx mx dx])])
 case atStart => exact ⟨1, Nat.le_refl _, by omega, by first | rfl | go_num, hL0⟩
 case round =>
  clear hL0 hS
  obtain ⟨i, hi1, hik, rfl, hL0⟩ := hrel
  have hS := SS.nil wr
  by_cases hin : i < 4
  ·have k1 : (i : Int) ≤ 3 := by omega
   have kb : (i : Int) ≤ 1000000 := by omega
   obtain ⟨c9, d9, k9, HO1, HO2, HO3, g9⟩ := HO.out i hi1 (by omega)
   replace HO1 := Lib.hid HO1
   replace HO2 := Lib.hid HO2
   replace HO3 := Lib.hid HO3
   clear hin hi1
   have hN0 := cells_of _ 0 [] rfl (hL0.get _ _ (List.mem_cons_of_mem _ (List.mem_cons_of_mem _ (List.mem_cons_of_mem _ (List.mem_cons_of_mem _ (List.mem_cons_of_mem _ (List.mem_cons_of_mem _ (List.mem_cons_of_mem _ (List.mem_cons_of_mem _ (List.mem_cons_of_mem _ List.mem_cons_self))))))))))
   simp only [cellsF, and_true, Nat.zero_add, Nat.reduceAdd] at hN0
   go_wp2_with fail
   clear hN0
   with_reducible refine Calls.mono (HO1.out _) ?_
   rintro e x19 ⟨rfl, hb⟩
   replace hL0 := hL0.call hb
   replace hS := hS.call hb
   clear hb
   replace hS := (hS.new (.cells #[.int .u64 ((zl c9.num : Nat) : Int), .string (zh c9.num), .bool (zs c9.num), .int .u64 ((lo (fe c9) : Nat) : Int), .string (hs (fe c9))] 34))
   replace hL0 := (hL0.new rfl [.int .u64 ((zl c9.num : Nat) : Int), .string (zh c9.num), .bool (zs c9.num), .int .u64 ((lo (fe c9) : Nat) : Int), .string (hs (fe c9))] 34)
   generalize hweq : (x19.alloc (.cells #[.int .u64 ((zl c9.num : Nat) : Int), .string (zh c9.num), .bool (zs c9.num), .int .u64 ((lo (fe c9) : Nat) : Int), .string (hs (fe c9))] 34)) = x20 at hL0 hS
   have hN0 := cells_of _ 0 [] rfl (hL0.get _ _ (List.mem_cons_of_mem _ (List.mem_cons_of_mem _ (List.mem_cons_of_mem _ (List.mem_cons_of_mem _ (List.mem_cons_of_mem _ (List.mem_cons_of_mem _ (List.mem_cons_of_mem _ (List.mem_cons_of_mem _ (List.mem_cons_of_mem _ List.mem_cons_self))))))))))
   simp only [cellsF, and_true, Nat.zero_add, Nat.reduceAdd] at hN0
   go_wp2_with fail
   clear hN0
   with_reducible refine Calls.mono (HO2.out _) ?_
   rintro e x21 ⟨rfl, hb⟩
   replace hL0 := hL0.call hb
   replace hS := hS.call hb
   clear hb hweq
   replace hS := (hS.new (.cells #[.int .u64 ((zl d9.num : Nat) : Int), .string (zh d9.num), .bool (zs d9.num), .int .u64 ((lo (fe d9) : Nat) : Int), .string (hs (fe d9))] 34))
   replace hL0 := (hL0.new rfl [.int .u64 ((zl d9.num : Nat) : Int), .string (zh d9.num), .bool (zs d9.num), .int .u64 ((lo (fe d9) : Nat) : Int), .string (hs (fe d9))] 34)
   generalize hweq : (x21.alloc (.cells #[.int .u64 ((zl d9.num : Nat) : Int), .string (zh d9.num), .bool (zs d9.num), .int .u64 ((lo (fe d9) : Nat) : Int), .string (hs (fe d9))] 34)) = x22 at hL0 hS
   have hN0 := cells_of _ 0 [] rfl (hL0.get _ _ List.mem_cons_self)
   simp only [cellsF, and_true, Nat.zero_add, Nat.reduceAdd] at hN0
   have hN1 := cells_of _ 0 [] rfl (hL0.get _ _ (List.mem_cons_of_mem _ List.mem_cons_self))
   simp only [cellsF, and_true, Nat.zero_add, Nat.reduceAdd] at hN1
   go_wp2_with fail
   clear hN0 hN1
   with_reducible refine Calls.mono (HO3.out _) ?_
   rintro e x23 ⟨rfl, hb⟩
   replace hL0 := hL0.call hb
   replace hS := hS.call hb
   clear hb hweq
   go_wp2_with fail
   go_roundg (gk - 1)
   case measure => omega
   case rel => exact ⟨i + 1, by omega, by omega, by first | rfl | go_num, hL0.weak (List.Sublist.cons _ (List.Sublist.cons _ (List.Sublist.refl _)))⟩
  ·have k1 : ¬ (i : Int) ≤ 3 := by omega
   go_wp2_with fail
   with_reducible refine Calls.mono (HW.out _ (hKT.out.at hL0.bl kKT)) ?_
   rintro e x19 ⟨rfl, hb⟩
   replace hL0 := hL0.call hb
   replace hS := hS.call hb
   clear hb
   go_wp2_with fail
   exact bodyPost_ret (v := .bool true) (by simp [results, Tryz.results8, go_sem]) rfl ⟨rfl, hL0.bl⟩
end Go.Proofs.YtahfcciihkkegaaGreatDoor
namespace Go.Proofs.YtahfcciihkkegaaGreatDoor
open Go.RowKit
attribute [local irreducible] toI rnd tenQ
set_option maxHeartbeats 8000000 in
theorem dturned_mid (a b : Rat) (h : a ≤ b) (p r : Nat) (hp : p ≤ 100) (hr : r ≤ 100) (hpr : p ≤ r) (sa : Sz a 9) (sb : Sz b 9) :
  (∀ w, Calls Tryz.prog 26 #[fracV a, .int .i64 (p : Int)] w fun e w' => e = .returned (.tuple #[fracV (rnd 1 p a), fracV (rnd 2 p a), .int .i64 0]) ∧ Below w.heap.size w w') ∧
  (∀ w, Calls Tryz.prog 26 #[fracV (-a), .int .i64 (p : Int)] w fun e w' => e = .returned (.tuple #[fracV (-rnd 2 p a), fracV (-rnd 1 p a), .int .i64 0]) ∧ Below w.heap.size w w') ∧
  (∀ w, Calls Tryz.prog 26 #[fracV a, .int .i64 (r : Int)] w fun e w' => e = .returned (.tuple #[fracV (rnd 1 r a), fracV (rnd 2 r a), .int .i64 0]) ∧ Below w.heap.size w w') ∧
  (∀ w, Calls Tryz.prog 12 #[fracV a, .int .i64 (p : Int), .int .i64 3] w fun e w' => e = .returned (.tuple #[fracV (rnd 3 p a), .int .i64 0]) ∧ Below w.heap.size w w') ∧
  (∀ w, Calls Tryz.prog 12 #[fracV (-a), .int .i64 (p : Int), .int .i64 3] w fun e w' => e = .returned (.tuple #[fracV (-rnd 3 p a), .int .i64 0]) ∧ Below w.heap.size w w') ∧
  (∀ w, Calls Tryz.prog 29 #[fracV (rnd 1 p a), fracV (rnd 1 r a)] w fun e w' => e = .returned (.int .i64 (cmpQ (rnd 1 p a) (rnd 1 r a))) ∧ Below w.heap.size w w') ∧
  (∀ w, Calls Tryz.prog 29 #[fracV (rnd 2 r a), fracV (rnd 2 p a)] w fun e w' => e = .returned (.int .i64 (cmpQ (rnd 2 r a) (rnd 2 p a))) ∧ Below w.heap.size w w') ∧
  decide (0 < cmpQ (rnd 1 p a) (rnd 1 r a)) = false ∧ decide (0 < cmpQ (rnd 2 r a) (rnd 2 p a)) = false ∧
  (∀ i : Nat, 1 ≤ i → i ≤ 3 → ∃ (c d : Rat) (k : Int), (∀ w, Calls Tryz.prog 12 #[fracV a, .int .i64 (p : Int), .int .i64 (i : Int)] w fun e w' => e = .returned (.tuple #[fracV c, .int .i64 0]) ∧ Below w.heap.size w w') ∧
   (∀ w, Calls Tryz.prog 12 #[fracV b, .int .i64 (p : Int), .int .i64 (i : Int)] w fun e w' => e = .returned (.tuple #[fracV d, .int .i64 0]) ∧ Below w.heap.size w w') ∧
   (∀ w, Calls Tryz.prog 29 #[fracV c, fracV d] w fun e w' => e = .returned (.int .i64 k) ∧ Below w.heap.size w w') ∧ decide (0 < k) = false) := by
 refine ⟨fun w => betweenD a p 9 sa (by omega) hp w, ?_, fun w => betweenD a r 9 sa (by omega) hr w, fun w => roundD a p 3 9 sa (by omega) hp (by omega) w, ?_, ?_, ?_, dm_le (rnd_finer_low a hpr), dm_le (rnd_finer_high a hpr), ?_⟩
 ·intro w
  have h := betweenD (-a) p 9 sa.neg (by omega) hp w
  rw [rnd_neg_low, rnd_neg_high] at h; exact h
 ·intro w
  have h := roundD (-a) p 3 9 sa.neg (by omega) hp (by omega) w
  rw [rnd_neg_near] at h; exact h
 ·exact fun w => cmpF _ _ 21 (rnd_sz 1 sa hp) (rnd_sz 1 sa hr) (by omega) w
 ·exact fun w => cmpF _ _ 21 (rnd_sz 2 sa hr) (rnd_sz 2 sa hp) (by omega) w
 ·intro i h1 h3
  exact ⟨rnd i p a, rnd i p b, _, fun w => roundD a p i 9 sa (by omega) hp (by omega) w, fun w => roundD b p i 9 sb (by omega) hp (by omega) w, fun w => cmpF _ _ 21 (rnd_sz i sa hp) (rnd_sz i sb hp) (by omega) w, dm_le (rnd_mono i p h)⟩
theorem places (m8 : Int) (h : 0 ≤ m8 ∧ m8 < 256) : ∃ p : Nat, m8.tmod 101 = (p : Int) ∧ p ≤ 100 := by
 refine ⟨(m8 % 101).toNat, ?_, by omega⟩
 rw [Int.tmod_eq_emod_of_nonneg h.1]; omega
set_option maxHeartbeats 8000000 in
theorem dturned_any (sx sy : Bool) (ax qx ay qy : Option Addr) (nx cx mx dx ny cy my dy : Nat) (lx kx ly ky : List Nat) (m8 e8 : Int) (hm8 : 0 ≤ m8 ∧ m8 < 256) (he8 : 0 ≤ e8 ∧ e8 < 256) (w : World) (hw : KD w)
  (hwx : Ws w (.slice ax nx cx) lx) (hvx : Ws w (.slice qx mx dx) kx) (hwy : Ws w (.slice ay ny cy) ly) (hvy : Ws w (.slice qy my dy) ky) :
  Calls Tryz.prog 8 #[.agg #[.bool sx, .slice ax nx cx, .slice qx mx dx], .agg #[.bool sy, .slice ay ny cy, .slice qy my dy], .int .u8 m8, .int .u8 e8] w fun xe w' => xe = .returned (.bool true) ∧ Below w.heap.size w w' := by
 have e1 := hwx.len
 have e2 := hvx.len
 have e3 := hwy.len
 have e4 := hvy.len
 have T {n : Nat} (h : 4 < n) : decide ((4 : Int) < ((n : Nat) : Int)) = true ∧ decide (4 < n) = true := ⟨decide_eq_true (by omega), decide_eq_true h⟩
 have F {n : Nat} (h : ¬ 4 < n) : decide ((4 : Int) < ((n : Nat) : Int)) = false ∧ decide (4 < n) = false := ⟨decide_eq_false (by omega), decide_eq_false h⟩
 by_cases h1 : 4 < nx
 ·exact dturned_big0 sx sy ax qx ay qy nx cx mx dx ny cy my dy m8 e8 KD KD.keeps dworks_any (T h1).1 (T h1).2 w hw
 by_cases h2 : 4 < mx
 ·exact dturned_big1 sx sy ax qx ay qy nx cx mx dx ny cy my dy m8 e8 KD KD.keeps dworks_any (F h1).1 (F h1).2 (T h2).1 (T h2).2 w hw
 by_cases h3 : 4 < ny
 ·exact dturned_big2 sx sy ax qx ay qy nx cx mx dx ny cy my dy m8 e8 KD KD.keeps dworks_any (F h1).1 (F h1).2 (F h2).1 (F h2).2 (T h3).1 (T h3).2 w hw
 by_cases h4 : 4 < my
 ·exact dturned_big3 sx sy ax qx ay qy nx cx mx dx ny cy my dy m8 e8 KD KD.keeps dworks_any (F h1).1 (F h1).2 (F h2).1 (F h2).2 (F h3).1 (F h3).2 (T h4).1 (T h4).2 w hw
 have su : Sz (gmade sx lx kx) 9 := (gmade_sz (most := 4) (by omega) hwx hvx (by omega) (by omega)).mono (by omega)
 have sv : Sz (gmade sy ly ky) 9 := (gmade_sz (most := 4) (by omega) hwy hvy (by omega) (by omega)).mono (by omega)
 have GX : ∀ w, (Ws w (.slice ax nx cx) lx ∧ Ws w (.slice qx mx dx) kx) → _ := fun w h => gof_any sx ax qx nx cx mx dx lx kx (by omega) (by omega) w h.1 h.2
 have GY : ∀ w, (Ws w (.slice ay ny cy) ly ∧ Ws w (.slice qy my dy) ky) → _ := fun w h => gof_any sy ay qy ny cy my dy ly ky (by omega) (by omega) w h.1 h.2
 generalize gmade sx lx kx = u at *
 generalize gmade sy ly ky = v at *
 obtain ⟨m, hm, hm1⟩ := places m8 hm8
 obtain ⟨n, hn, hn1⟩ := places e8 he8
 have hw1 := i64w m8 (by omega) (by omega)
 have hw2 := i64w e8 (by omega) (by omega)
 obtain ⟨p, hp⟩ : ∃ p, p = min m n := ⟨_, rfl⟩
 obtain ⟨r, hr⟩ : ∃ r, r = max m n := ⟨_, rfl⟩
 have hmin : min (m : Int) (n : Int) = (p : Int) := by omega
 have hmax : max (m : Int) (n : Int) = (r : Int) := by omega
 have C0 := fun w => cmpF u v 9 su sv (by omega) w
 have hK := dpair (.slice ax nx cx) (.slice qx mx dx) lx kx
 have hK2 := dpair (.slice ay ny cy) (.slice qy my dy) ly ky
 have q1 := F h1
 have q2 := F h2
 have q3 := F h3
 have q4 := F h4
 by_cases hc : v < u
 ·have c0 : decide (0 < cmpQ u v) = true := by rw [cmpQ_gt]; exact decide_eq_true hc
  obtain ⟨B1, B2, B3, R1, R2, C1, C2, g1, g2, HO⟩ := dturned_mid v u (Rat.le_of_lt hc) p r (by omega) (by omega) (by omega) sv su
  exact dturned_gt sx sy ax qx ay qy nx cx mx dx ny cy my dy m8 e8 m n p r _ _ _ u v (-v) _ _ _ _ _ _ _ _ _ hK GX _ hK2 GY C0 B1 (negF v) B2 B3 R1 R2 (negF _) (negF _) (negF _) C1 C2 KD KD.keeps dworks_any q1.1 q1.2 q2.1 q2.2 q3.1 q3.2 q4.1 q4.2 hw1 hw2 hm hn c0 g1 g2 hmin hmax HO w ⟨hwx, hvx⟩ ⟨hwy, hvy⟩ hw
 ·have c0 : decide (0 < cmpQ u v) = false := by rw [cmpQ_gt]; exact decide_eq_false hc
  obtain ⟨B1, B2, B3, R1, R2, C1, C2, g1, g2, HO⟩ := dturned_mid u v (by grind) p r (by omega) (by omega) (by omega) su sv
  exact dturned_le sx sy ax qx ay qy nx cx mx dx ny cy my dy m8 e8 m n p r _ _ _ u v (-u) _ _ _ _ _ _ _ _ _ hK GX _ hK2 GY C0 B1 (negF u) B2 B3 R1 R2 (negF _) (negF _) (negF _) C1 C2 KD KD.keeps dworks_any q1.1 q1.2 q2.1 q2.2 q3.1 q3.2 q4.1 q4.2 hw1 hw2 hm hn c0 g1 g2 hmin hmax HO w ⟨hwx, hvx⟩ ⟨hwy, hvy⟩ hw
end Go.Proofs.YtahfcciihkkegaaGreatDoor
