/-
  The law answers true at every input, and leaves its arguments as they were: a part of the proof. CONDITIONS: the package-level tables start as the program's text lays them (the card ties them).
-/
import Derived.Test.YtahfcciihkkegaaGreatDoorZad
import Derived.Test.YtahfcciihkkegaaGreatDoorTie
import Derived.Test.YtahfcciihkkegaaGreatDoorCards
set_option linter.unusedVariables false
set_option linter.unusedSimpArgs false
namespace Go.Proofs.YtahfcciihkkegaaGreatDoor
open Go.Lib (decDigits nDigits)
theorem head_snoc {α : Type} {m : List α} (l : List α) (h : m ≠ []) : (m ++ l).head? = m.head? := by
 cases m with
 | nil => exact absurd rfl h
 | cons c m => rfl
theorem dch_toNat {d : Nat} (h : d < 10) : (dch d).toNat = 48 + d := by
 unfold dch; rw [UInt8.toNat_ofNat']; omega
theorem pad_length : ∀ k r, (pad k r).length = k
 | 0, _ => rfl
 | k + 1, r => by rw [pad, List.length_append, pad_length k]; rfl
theorem dec_ne_nil (n : Nat) : decDigits n ≠ [] := fun h => by have := dec_length_pos n; rw [h] at this; exact absurd this (by simp)
theorem dval_dec (n : Nat) : dval (decDigits n) = n := by
 induction n using Nat.strongRecOn with
 | _ n ih =>
  rcases Nat.lt_or_ge n 10 with h | h
  ·rw [dec_small h]
   show 0 * 10 + ((dch n).toNat - 48) = n
   rw [dch_toNat h]; omega
  ·rw [dec_big (by omega), dval_snoc, ih (n / 10) (by omega), dch_toNat (by omega)]; omega
theorem dec_isDig (n : Nat) : ∀ c ∈ decDigits n, isDig c := by
 induction n using Nat.strongRecOn with
 | _ n ih =>
  rcases Nat.lt_or_ge n 10 with h | h
  ·rw [dec_small h]
   intro c hc
   rw [List.mem_singleton.1 hc]
   unfold isDig; rw [dch_toNat h]; omega
  ·rw [dec_big (by omega)]
   intro c hc
   rcases List.mem_append.1 hc with hc | hc
   ·exact ih (n / 10) (by omega) c hc
   ·rw [List.mem_singleton.1 hc]
    unfold isDig; rw [dch_toNat (by omega)]; omega
theorem dec_isDec (n : Nat) : isDec (decDigits n) := by
 refine ⟨dec_isDig n, ?_⟩
 rcases Nat.eq_zero_or_pos n with h0 | h0
 ·left; rw [h0, dec_small (by omega)]; rfl
 ·right
  refine ⟨dec_ne_nil n, ?_⟩
  induction n using Nat.strongRecOn with
  | _ n ih =>
   rcases Nat.lt_or_ge n 10 with h | h
   ·rw [dec_small h]
    show some (dch n) ≠ some 48
    intro he
    have h1 := congrArg UInt8.toNat (Option.some.inj he)
    rw [dch_toNat h] at h1
    have h2 : (48 : UInt8).toNat = 48 := rfl
    omega
   ·rw [dec_big (by omega), head_snoc _ (dec_ne_nil _)]
    exact ih (n / 10) (by omega) (by omega)
end Go.Proofs.YtahfcciihkkegaaGreatDoor
namespace Go.Proofs.YtahfcciihkkegaaGreatDoor
open Go.RowKit
attribute [local irreducible] lo hs sm s64 c64 d64 b64 mh ml pd pc qd qc val hiB str cmpI srD lz nb isq decB
theorem made_lt {l : List Nat} (h : ∀ x ∈ l, x < 4294967296) : made l < Bs ^ l.length := by
 induction l with
 | nil => exact Nat.one_pos
 | cons x l ih =>
  have h1 := ih fun y hy => h y (List.mem_cons_of_mem _ hy)
  have h2 := h x (List.mem_cons_self)
  rw [made, List.length_cons, Nat.pow_succ]
  have hB : 4294967296 * 2 ≤ Bs := by unfold Bs; omega
  have h3 : Bs ^ l.length * (4294967296 * 2) ≤ Bs ^ l.length * Bs := Nat.mul_le_mul_left _ hB
  generalize Bs ^ l.length = X at *
  generalize X * Bs = Y at *
  omega
theorem made_digs {l : List Nat} (h : ∀ x ∈ l, x < 4294967296) : (digs (made l)).length ≤ l.length := digs_length_iff.2 (made_lt h)
set_option maxHeartbeats 2000000 in
set_option maxRecDepth 100000 in
theorem made_row (a : Addr) (c : Nat) (l : List Nat) (hl : l.length ≤ 1000) (w : World) (hw : Wd w a l) :
  Calls Tryz.prog 100 #[.slice (some a) l.length c] w fun e w' => e = .returned (natV (made l)) ∧ Below w.heap.size w w' := by
 obtain ⟨w0, hw0, hR, hO, hb0, hsz0⟩ := boxes2 w (.int .u64 0) (.string ⟨#[]⟩) (.int .u64 0) (.string ⟨#[]⟩) 30
 obtain ⟨n, hn⟩ : ∃ n, n = l.length := ⟨_, rfl⟩
 have hln := hl
 rw [← hn] at hl
 have hM0 : MS w w0 a l 0 := ⟨by rw [lo_small Bs_pos, hs_small Bs_pos]; exact hO, hR, hw.below hb0, hsz0, hb0⟩
 have hab := hw.blk
 have hlt := hw.lt
 clear hw hR hO hb0 hsz0
 go_enter Tryz.func100, Tryz.ntmps100
 simp only [← hn]
 have HNn := Lib.hid hn
 have hst : made (l.drop n) = 0 := by rw [List.drop_eq_nil_of_le (by omega)]; rfl
 replace hst := Lib.hid hst
 clear hn
 go_wp2_with fail
 go_loopw [4] (fun z wr => ∃ (j m : Nat), j ≤ n ∧ z = .int .i64 ((j : Int) - 1) ∧ m = made (l.drop j) ∧ MS w wr a l m) (fun z _ => (intOf z + 1).toNat)
 case atStart => exact ⟨n, 0, Nat.le_refl _, by first | rfl | go_num, hst.out.symm, hM0⟩
 case round =>
  obtain ⟨j, m, hj, rfl, hm, hS⟩ := hrel
  clear hw0 hM0
  have hn := HNn.out
  cases j with
  | zero =>
   rw [List.drop_zero] at hm
   have HM := Lib.hid hm
   obtain ⟨⟨o0, o1, of⟩, ⟨r0, r1, rf⟩, -, hsz, hB⟩ := id hS
   clear hm hS hn
   go_wp2_with fail
   exact bodyPost_ret (v := natV m) (by simp [results, Tryz.results100, go_sem, r0, r1]) rfl ⟨by rw [HM.out], (hB.setCell (by simp <;> omega) _).setCell (by simp <;> omega) _⟩
  | succ i =>
   have hi : i < l.length := by omega
   obtain ⟨x, hx⟩ : ∃ x, x = l[i] := ⟨_, rfl⟩
   have hx32 : x < 4294967296 := by rw [hx]; exact hlt _ (List.getElem_mem hi)
   have hlm : (digs m).length ≤ 1000 := by
    rw [hm]; exact Nat.le_trans (made_digs fun y hy => hlt y (List.mem_of_mem_drop hy)) (by rw [List.length_drop]; omega)
   have hmd : made (l.drop i) = m * 4294967296 + x := by
    rw [List.drop_eq_getElem_cons hi, made, ← hm, ← hx]; omega
   have hdm : ∀ k, (digs (made (l.drop k))).length ≤ 1000 := fun k => Nat.le_trans (made_digs fun y hy => hlt y (List.mem_of_mem_drop hy)) (by rw [List.length_drop]; omega)
   have hxB : x < Bs := by unfold Bs; omega
   have hlx : (digs x).length ≤ 1 := digs_length_iff.2 (by rw [Nat.pow_one]; exact hxB)
   obtain ⟨C, hC⟩ : ∃ C, C = 4294967296 := ⟨_, rfl⟩
   have hCB : C < Bs := by rw [hC]; unfold Bs; omega
   have hlC : (digs C).length ≤ 1 := digs_length_iff.2 (by rw [Nat.pow_one]; exact hCB)
   have HO1 := Lib.hid (fun w => of_val 4294967296 C (by rw [hC]; rfl) hCB w)
   have HO2 := Lib.hid (fun w => of_any x hxB w)
   have HM := Lib.hid (fun w => mul_any m C (by omega) (by omega) w)
   have hlmc : (digs (m * C)).length ≤ 1000 + 1 := digs_mul_le hlm hlC
   have HA := fun w => add_any (m * C) x (by omega) (by omega) w
   rw [show m * C + x = made (l.drop i) by rw [hmd, hC]] at HA
   obtain ⟨m2, hm2⟩ : ∃ m2, m2 = made (l.drop i) := ⟨_, rfl⟩
   rw [← hm2] at HA
   generalize m * C = mc at *
   replace HA := Lib.hid HA
   have HM2 := Lib.hid hm2
   have hS' := hS.drew
   have h0 := hS.cells i x hi hx
   have h0' := hS'.cells i x hi hx
   have HX := Lib.hid hx
   have e1 : (((i + 1 : Nat) : Int) - 1) = (i : Int) := by omega
   have hwx : IntKind.u64.wrap (x : Int) = (x : Int) := wrapN _ (by omega)
   have hin : (i : Int) < (n : Int) := by omega
   clear hn hx hm hm2 hmd hdm hlm hlmc hlx hlC hC hCB hxB hx32 hlt
   rw [e1]
   go_wp2_with fail
   obtain ⟨o0, o1, of⟩ := id hS'.O
   obtain ⟨g0, g1, g2⟩ := id h0'
   go_region_with
    (first
     | (go_at_call 52; ((with_reducible refine Calls.mono (HO1.out _) ?_); rintro e w1 ⟨rfl, hb1⟩; have hS1 : MS w w1 a l m := (by first | exact hS'.below hb1 | exact hS1.below hb1 | exact hS2.below hb1 | exact hS3.below hb1 | exact hS4.below hb1); obtain ⟨o01, o11, of1⟩ := id hS1.O; have h1 := (hS1.cells i x hi HX.out).2.2))
     | (go_at_call 52; ((with_reducible refine Calls.mono (HO2.out _) ?_); rintro e w2 ⟨rfl, hb2⟩; have hS2 : MS w w2 a l m := (by first | exact hS'.below hb2 | exact hS1.below hb2 | exact hS2.below hb2 | exact hS3.below hb2 | exact hS4.below hb2); obtain ⟨o02, o12, of2⟩ := id hS2.O; have h2 := (hS2.cells i x hi HX.out).2.2))
     | (go_at_call 68; ((with_reducible refine Calls.mono (HM.out _) ?_); rintro e w3 ⟨rfl, hb3⟩; have hS3 : MS w w3 a l m := (by first | exact hS'.below hb3 | exact hS1.below hb3 | exact hS2.below hb3 | exact hS3.below hb3 | exact hS4.below hb3); obtain ⟨o03, o13, of3⟩ := id hS3.O; have h3 := (hS3.cells i x hi HX.out).2.2))
     | (go_at_call 49; ((with_reducible refine Calls.mono (HA.out _) ?_); rintro e w4 ⟨rfl, hb4⟩; have hS4 : MS w w4 a l m := (by first | exact hS'.below hb4 | exact hS1.below hb4 | exact hS2.below hb4 | exact hS3.below hb4 | exact hS4.below hb4); obtain ⟨o04, o14, of4⟩ := id hS4.O; have h4 := (hS4.cells i x hi HX.out).2.2; have hS5 := hS4.put hab m2; have h5 := (hS5.cells i x hi HX.out).2.2)))
   all_goals (
    have HS5 := Lib.hid hS5
    clear hS5 h5 hS h0 h0' hS' o0 o1 of
    go_wp2_with fail
    go_roundw
    case rel => exact ⟨i, m2, by omega, by first | rfl | go_num, HM2.out, HS5.out⟩
    case measure => simp [intOf])
set_option maxHeartbeats 2000000 in
set_option maxRecDepth 100000 in
theorem made_nil (ao : Option Addr) (c : Nat) (w : World) :
  Calls Tryz.prog 100 #[.slice ao 0 c] w fun e w' => e = .returned (natV 0) ∧ Below w.heap.size w w' := by
 obtain ⟨w0, hw0, hR, hO, hb0, hsz0⟩ := boxes2 w (.int .u64 0) (.string ⟨#[]⟩) (.int .u64 0) (.string ⟨#[]⟩) 30
 obtain ⟨o0, o1, of⟩ := id hO
 obtain ⟨r0, r1, rf⟩ := id hR
 rw [natV_zero]
 go_enter Tryz.func100, Tryz.ntmps100
 go_wp2_with fail
 go_loopw [4] (fun z wr => z = .int .i64 (-1) ∧ wr = w0) (fun z _ => (intOf z + 1).toNat)
 case atStart => exact ⟨rfl, rfl⟩
 case round =>
  obtain ⟨rfl, rfl⟩ := hrel
  go_wp2_with fail
  exact bodyPost_ret (v := .agg #[.int .u64 0, .string ⟨#[]⟩]) (by simp [results, Tryz.results100, go_sem, r0, r1]) rfl ⟨rfl, (hb0.setCell (by simp <;> omega) _).setCell (by simp <;> omega) _⟩
theorem made_any (v : Value) (l : List Nat) (hl : l.length ≤ 1000) (w : World) (h : Ws w v l) :
  Calls Tryz.prog 100 #[v] w fun e w' => e = .returned (natV (made l)) ∧ Below w.heap.size w w' := by
 rcases h with ⟨ao, c, rfl, rfl⟩ | ⟨a, c, rfl, h2⟩
 ·exact made_nil ao c w
 ·exact made_row a c l hl w h2
end Go.Proofs.YtahfcciihkkegaaGreatDoor
namespace Go.Proofs.YtahfcciihkkegaaGreatDoor
open Go.RowKit
def sgnQ (a : Rat) : Int := if a < 0 then -1 else if a = 0 then 0 else 1
theorem sgnQ_num (a : Rat) : sgnQ a = if a.num < 0 then -1 else if a.num = 0 then 0 else 1 := by
 unfold sgnQ
 have h1 : a < 0 ↔ a.num < 0 := by rw [← Rat.not_le, ← Rat.num_nonneg]; omega
 have h2 : a = 0 ↔ a.num = 0 := Rat.num_eq_zero.symm
 simp only [h1, h2]
theorem Keeps.ws (v : Value) (l : List Nat) : Keeps (fun w => Ws w v l) := fun _ _ hb h => h.below hb
theorem seg_callK {α : Type} {F : α → World} {x : World} {K : World → Prop} (hK : Keeps K) (h1 : ∀ y, Below x.drew.heap.size x.drew (F y)) (h2 : ∀ x W, Below (F x).heap.size (F x) W → ∃ y, W = F y) (hk : K x) {P : Program} {f : FuncId} {args : Array Value} {v : Value}
  (h : ∀ w, K w → Calls P f args w fun e w' => e = .returned v ∧ Below w.heap.size w w') (y : α) : Calls P f args (F y) fun e w'' => e = .returned v ∧ ∃ y, w'' = F y :=
 (h (F y) (hK _ _ (below_drew (h1 y)) hk)).mono fun _ _ ⟨he, hb⟩ => ⟨he, h2 y _ hb⟩
end Go.Proofs.YtahfcciihkkegaaGreatDoor
namespace Go.Proofs.YtahfcciihkkegaaGreatDoor
open Go.RowKit
attribute [local irreducible] lo hs sm s64 c64 d64 b64 mh ml pd pc qd qc val hiB str cmpI srD lz nb isq decB zl zh zs
theorem cls_callW {α : Type} {F : α → World} {w0 : World} (h1 : ∀ x, Below w0.heap.size w0 (F x)) (h2 : ∀ W, Below w0.heap.size w0 W → ∃ x, W = F x) {v0 : Value} {l : List Nat} (hw : Ws w0 v0 l) {P : Program} {f : FuncId} {args : Array Value} {v : Value}
  (h : ∀ w, Ws w v0 l → Calls P f args w fun e w' => e = .returned v ∧ Below w.heap.size w w') (x : α) : Calls P f args (F x) fun e w'' => e = .returned v ∧ ∃ y, w'' = F y :=
 (h (F x) (hw.below (h1 x))).mono fun _ _ ⟨he, hb⟩ => ⟨he, h2 _ ((h1 x).trans (hb.mono (h1 x).size))⟩
/-- An integer as plain data. -/
def zmade (s : Bool) (l : List Nat) : Int := if s then -(made l : Int) else (made l : Int)
theorem zmade_dI {s : Bool} {l : List Nat} (h : ∀ x ∈ l, x < 4294967296) : dI (zmade s l) ≤ l.length := by
 unfold zmade
 cases s
 ·simp only [Bool.false_eq_true, if_false, dI_nat]; exact made_digs h
 ·simp only [if_true, dI_neg, dI_nat]; exact made_digs h
set_option maxHeartbeats 4000000 in
set_option maxRecDepth 100000 in
theorem zof_any (s : Bool) (a : Option Addr) (n c : Nat) (l : List Nat) (hl : l.length ≤ 1000) (w : World) (hw : Ws w (.slice a n c) l) :
  Calls Tryz.prog 48 #[.agg #[.bool s, .slice a n c]] w fun e w' => e = .returned (intV (zmade s l)) ∧ Below w.heap.size w w' := by
 have hL0 : GL w w [] := GL.start w
 have HM := Lib.hid (fun w h => made_any (.slice a n c) l hl w h)
 have HF := Lib.hid (fun w => fromI s (made l) (zmade s l) rfl w)
 generalize hz : zmade s l = z at *
 replace hz := Lib.hid hz
 generalize made l = m at *
 clear hl
 replace hL0 := ((hL0.new rfl [.bool s, .slice a n c] 24).new (K := w.heap.size + 1) (szA _ _) [.int .u64 0, .string ⟨#[]⟩, .bool false] 32)
 generalize hweq : ((w.alloc (.cells #[.bool s, .slice a n c] 24)).alloc (.cells #[.int .u64 0, .string ⟨#[]⟩, .bool false] 32)) = x1 at hL0
 have hW := Lib.hid (hw.below hL0.bl)
 clear hw
 go_enter Tryz.func48, Tryz.ntmps48
 have hA := hL0.fc
 simp only [fcG, cellsF, neK, and_true, ne_eq, Nat.zero_add, Nat.reduceAdd] at hA
 go_upto_region 1 with fail
 clear hA
 clear hweq
 obtain ⟨α, iα, F, hF1, hF2⟩ := cls x1
 have hq := GL.fcC hF1 hL0
 simp only [fcC, cellsC, and_true, Nat.zero_add, Nat.reduceAdd] at hq
 refine region_qs 6 (C := fun w' => ∃ x, w' = F x) (by kernel_rfl) (by kernel_rfl) (cls_drew hF2) ?_
 simp only [List.take_succ_cons, List.take_zero, List.drop_succ_cons, List.drop_zero, List.take_nil, List.drop_nil]
 repeat (go_big_quiet_step (first | fail | (go_at_call 100; with_reducible exact cls_callW hF1 hF2 hW.out HM.out _) | (go_at_call 69; with_reducible exact cls_call hF1 hF2 HF.out _)))
 refine wpQuiet_nil ?_
 rintro wq ⟨xq, rfl⟩
 replace hL0 := hL0.call (hF1 xq)
 clear hq hF2
 generalize F xq = x2 at hL0 ⊢
 clear hF1 xq iα F α
 have hA := hL0.fc
 simp only [fcG, cellsF, neK, and_true, ne_eq, Nat.zero_add, Nat.reduceAdd] at hA
 have hP := hL0.put 0 (w.heap.size + 1) _ rfl [.int .u64 ((zl z : Nat) : Int), .string (zh z), .bool (zs z)] rfl
 simp only [setAll, List.set_cons_zero, List.set_cons_succ] at hP
 generalize hput1 : (((x2.setCell ⟨w.heap.size + 1, 0, none⟩ (.int .u64 ((zl z : Nat) : Int))).setCell ⟨w.heap.size + 1, 1, none⟩ (.string (zh z))).setCell ⟨w.heap.size + 1, 2, none⟩ (.bool (zs z))) = x3 at hP
 have hB1 := hP.fc
 simp only [fcG, cellsF, neK, and_true, ne_eq, Nat.zero_add, Nat.reduceAdd] at hB1
 replace hL0 := hP
 go_wp2_with fail
 exact bodyPost_ret (v := intV z) (by simp [results, Tryz.results48, go_sem, hB1]) rfl ⟨rfl, hL0.bl⟩
end Go.Proofs.YtahfcciihkkegaaGreatDoor
namespace Go.Proofs.YtahfcciihkkegaaGreatDoor
open Go.RowKit
attribute [local irreducible] lo hs sm s64 c64 d64 b64 mh ml pd pc qd qc val hiB str cmpI srD lz nb isq decB zl zh zs dval
end Go.Proofs.YtahfcciihkkegaaGreatDoor
namespace Go.Proofs.YtahfcciihkkegaaGreatDoor
open Go.RowKit
attribute [local irreducible] lo hs zl zh zs
end Go.Proofs.YtahfcciihkkegaaGreatDoor
namespace Go.Proofs.YtahfcciihkkegaaGreatDoor
open Go.RowKit
attribute [local irreducible] lo hs sm s64 c64 d64 b64 mh ml pd pc qd qc val hiB str cmpI srD lz nb isq decB zl zh zs
set_option maxHeartbeats 4000000 in
set_option maxRecDepth 100000 in
theorem fsign_w (n s : Int) (e : Nat) (HS : RT 92 #[intV n] (.int .i64 s)) (w : World) :
  Calls Tryz.prog 34 #[frV n e] w fun xe w' => xe = .returned (.int .i64 s) ∧ Below w.heap.size w w' := by
 have hL0 : GL w w [] := GL.start w
 replace HS := Lib.hid HS
 replace hL0 := (hL0.new rfl [.int .u64 ((zl n : Nat) : Int), .string (zh n), .bool (zs n), .int .u64 ((lo e : Nat) : Int), .string (hs e)] 34)
 generalize hweq : (w.alloc (.cells #[.int .u64 ((zl n : Nat) : Int), .string (zh n), .bool (zs n), .int .u64 ((lo e : Nat) : Int), .string (hs e)] 34)) = x1 at hL0
 go_enter Tryz.func34, Tryz.ntmps34
 have hN0 := cells_of _ 0 [] rfl (hL0.get _ _ List.mem_cons_self)
 simp only [cellsF, and_true, Nat.zero_add, Nat.reduceAdd] at hN0
 go_wp2_with fail
 clear hN0
 with_reducible refine Calls.mono (HS.out _) ?_
 rintro e x2 ⟨rfl, hb⟩
 replace hL0 := hL0.call hb
 clear hb hweq
 go_wp2_with fail
 exact bodyPost_ret (v := .int .i64 s) (by simp [results, Tryz.results34, go_sem]) rfl ⟨rfl, hL0.bl⟩
end Go.Proofs.YtahfcciihkkegaaGreatDoor
namespace Go.Proofs.YtahfcciihkkegaaGreatDoor
open Go.RowKit
attribute [local irreducible] lo hs sm s64 c64 d64 b64 mh ml pd pc qd qc val hiB str cmpI srD lz nb isq decB zl zh zs
theorem wholeF (q : Rat) (w : World) : Calls Tryz.prog 28 #[fracV q] w fun x w' => x = .returned (.bool (decide (q.den = 1))) ∧ Below w.heap.size w w' := by
 have h := whole_raw q.num (fe q) w
 have e : (fe q = 0) = (q.den = 1) := by
  unfold fe
  have := q.den_nz
  split <;> simp_all
 rw [decide_eq_decide.2 (Iff.of_eq e)] at h
 exact h
end Go.Proofs.YtahfcciihkkegaaGreatDoor
namespace Go.Proofs.YtahfcciihkkegaaGreatDoor
open Go.RowKit
attribute [local irreducible] lo hs sm s64 c64 d64 b64 mh ml pd pc qd qc val hiB str cmpI srD lz nb isq decB zl zh zs
theorem num_neg_iff (q : Rat) : q.num < 0 ↔ q < 0 := by rw [← Rat.not_le, ← Rat.num_nonneg]; omega
theorem signF (q : Rat) (w : World) : Calls Tryz.prog 34 #[fracV q] w fun x w' => x = .returned (.int .i64 (sgnQ q)) ∧ Below w.heap.size w w' := by
 rw [sgnQ_num]; exact fsign_w q.num (sgn q.num) (fe q) (fun w => signI q.num w) w
end Go.Proofs.YtahfcciihkkegaaGreatDoor
namespace Go.Proofs.YtahfcciihkkegaaGreatDoor
open Go.RowKit
attribute [local irreducible] lo hs sm s64 c64 d64 b64 mh ml pd pc qd qc val hiB str cmpI srD lz nb isq decB zl zh zs
set_option maxHeartbeats 4000000 in
set_option maxRecDepth 100000 in
theorem gden_w (s : Bool) (a b : Option Addr) (n c m d : Nat) (w : World) :
  Calls Tryz.prog 51 #[.agg #[.bool s, .slice a n c, .slice b m d]] w fun xe w' => xe = .returned (.agg #[.bool false, .slice b m d]) ∧ Below w.heap.size w w' := by
 have hL0 : GL w w [] := GL.start w
 replace hL0 := ((hL0.new rfl [.bool s, .slice a n c, .slice b m d] 26).new (K := w.heap.size + 1) (szA _ _) [.bool false, .slice b m d] 24)
 generalize hweq : ((w.alloc (.cells #[.bool s, .slice a n c, .slice b m d] 26)).alloc (.cells #[.bool false, .slice b m d] 24)) = x1 at hL0
 go_enter Tryz.func51, Tryz.ntmps51
 have hN0 := cells_of _ 0 [] rfl (hL0.get _ _ List.mem_cons_self)
 simp only [cellsF, and_true, Nat.zero_add, Nat.reduceAdd] at hN0
 have hN1 := cells_of _ 0 [] rfl (hL0.get _ _ (List.mem_cons_of_mem _ List.mem_cons_self))
 simp only [cellsF, and_true, Nat.zero_add, Nat.reduceAdd] at hN1
 go_wp2_with fail
 exact bodyPost_ret (v := .agg #[.bool false, .slice b m d]) (by simp [results, Tryz.results51, go_sem, hN0 ,hN1]) rfl ⟨rfl, hL0.bl⟩
set_option maxHeartbeats 4000000 in
set_option maxRecDepth 100000 in
theorem gof_w (s : Bool) (a b : Option Addr) (n c m d : Nat) (y z x : Int) (p q e : Nat) (K : World → Prop) (hK : Keeps K) (HZ : RK K 48 #[.agg #[.bool s, .slice a n c]] (intV z)) (HD : RT 51 #[.agg #[.bool s, .slice a n c, .slice b m d]] (.agg #[.bool false, .slice b m d])) (L : World → Prop) (hL : Keeps L) (HY : RK L 48 #[.agg #[.bool false, .slice b m d]] (intV y)) (HA : RT 50 #[intV y] (natV p)) (HO : RT 52 #[.int .u64 1] (natV 1)) (HP : RT 49 #[natV p, natV 1] (natV q)) (HF : RT 46 #[intV z, natV q] (.tuple #[frV x e, .int .i64 0])) (w : World) (kK : K w) (kL : L w) :
  Calls Tryz.prog 13 #[.agg #[.bool s, .slice a n c, .slice b m d]] w fun xe w' => xe = .returned (frV x e) ∧ Below w.heap.size w w' := by
 have hL0 : GL w w [] := GL.start w
 replace hK := Lib.hid hK
 replace HZ := Lib.hid HZ
 replace HD := Lib.hid HD
 replace hL := Lib.hid hL
 replace HY := Lib.hid HY
 replace HA := Lib.hid HA
 replace HO := Lib.hid HO
 replace HP := Lib.hid HP
 replace HF := Lib.hid HF
 replace hL0 := ((hL0.new rfl [.bool s, .slice a n c, .slice b m d] 26).new (K := w.heap.size + 1) (szA _ _) [.int .u64 0, .string ⟨#[]⟩, .bool false, .int .u64 0, .string ⟨#[]⟩] 34)
 generalize hweq : ((w.alloc (.cells #[.bool s, .slice a n c, .slice b m d] 26)).alloc (.cells #[.int .u64 0, .string ⟨#[]⟩, .bool false, .int .u64 0, .string ⟨#[]⟩] 34)) = x1 at hL0
 go_enter Tryz.func13, Tryz.ntmps13
 go_upto_region 1 with fail
 have kK1 := hK.out.at hL0.bl kK
 have kL1 := hL.out.at hL0.bl kL
 clear hweq
 refine region_gh (by kernel_rfl) (by kernel_rfl) ?_
 refine lex_seg (gl := []) 13 (by kernel_rfl) ?_
 intro α iα F hF1 hF2
 have hq := GL.seg hF1 hL0
 simp only [fcC, cellsC, and_true, Nat.zero_add, Nat.reduceAdd] at hq
 simp only [List.take_succ_cons, List.take_zero, List.drop_succ_cons, List.drop_zero, List.take_nil, List.drop_nil]
 repeat (go_big_quiet_step (first | fail | (go_at_call 48; with_reducible exact seg_callK hK.out hF1 hF2 kK1 HZ.out _) | (go_at_call 51; with_reducible exact seg_call hF2 HD.out _) | (go_at_call 48; with_reducible exact seg_callK hL.out hF1 hF2 kL1 HY.out _) | (go_at_call 50; with_reducible exact seg_call hF2 HA.out _) | (go_at_call 52; with_reducible exact seg_call hF2 HO.out _) | (go_at_call 49; with_reducible exact seg_call hF2 HP.out _) | (go_at_call 46; with_reducible exact seg_call hF2 HF.out _)))
 refine wpQuiet_nil ?_
 clear hq hF1 hF2 iα F α
 refine lex_new [.int .u64 0, .string ⟨#[]⟩, .bool false, .int .u64 0, .string ⟨#[]⟩] 3 34 34 rfl rfl (of_decide_eq_true (by kernel_rfl)) (by kernel_rfl) rfl new_frac ?_
 simp only [Act.put, List.setIfInBounds_toArray, List.set_cons_succ, List.set_cons_zero]
 refine lex_put [.int .u64 ((zl x : Nat) : Int), .string (zh x), .bool (zs x), .int .u64 ((lo e : Nat) : Int), .string (hs e)] [.int .u64 0, .string ⟨#[]⟩, .bool false, .int .u64 0, .string ⟨#[]⟩] 3 34 (.tmp 16) rfl (by kernel_rfl) (by simp [toG, upd]) rfl (fun w k h => put_frac _ _ _ _ _ _ _ _ _ _ w k h) ?_
 simp only [Act.put]
 refine lex_seg (gl := [(3, [.int .u64 ((zl x : Nat) : Int), .string (zh x), .bool (zs x), .int .u64 ((lo e : Nat) : Int), .string (hs e)], true), (3, [.int .u64 0, .string ⟨#[]⟩, .bool false, .int .u64 0, .string ⟨#[]⟩], false)]) 1 (by kernel_rfl) ?_
 intro α iα F hF1 hF2
 have hq := GL.seg hF1 hL0
 simp only [fcC, cellsC, and_true, Nat.zero_add, Nat.reduceAdd] at hq
 simp only [List.take_succ_cons, List.take_zero, List.drop_succ_cons, List.drop_zero, List.take_nil, List.drop_nil]
 repeat (go_big_quiet_step (first | fail | (go_at_call 48; with_reducible exact seg_callK hK.out hF1 hF2 kK1 HZ.out _) | (go_at_call 51; with_reducible exact seg_call hF2 HD.out _) | (go_at_call 48; with_reducible exact seg_callK hL.out hF1 hF2 kL1 HY.out _) | (go_at_call 50; with_reducible exact seg_call hF2 HA.out _) | (go_at_call 52; with_reducible exact seg_call hF2 HO.out _) | (go_at_call 49; with_reducible exact seg_call hF2 HP.out _) | (go_at_call 46; with_reducible exact seg_call hF2 HF.out _)))
 refine wpQuiet_nil ?_
 clear hq hF1 hF2 iα F α
 refine lexG_nil ?_
 intro κ x2 hS
 replace hL0 := hL0.ghs hS [(3, [.int .u64 ((zl x : Nat) : Int), .string (zh x), .bool (zs x), .int .u64 ((lo e : Nat) : Int), .string (hs e)])] (by simp) (by intro p hp; simp only [List.mem_cons, List.not_mem_nil, or_false] at hp; rcases hp with rfl <;> exact ⟨_, by simp only [toG, upd]; rfl⟩)
 simp only [List.map_cons, List.map_nil, List.cons_append, List.nil_append] at hL0
 simp only [over_toG, over_nil, Act.put, List.setIfInBounds_toArray, List.set_cons_succ, List.set_cons_zero]
 clear hS
 generalize κ 3 = k2_3 at *
 clear kK1 kL1
 have hA := hL0.fc
 simp only [fcG, cellsF, neK, and_true, ne_eq, Nat.zero_add, Nat.reduceAdd] at hA
 have hP := hL0.put 1 (w.heap.size + 1) _ rfl [.int .u64 ((zl x : Nat) : Int), .string (zh x), .bool (zs x), .int .u64 ((lo e : Nat) : Int), .string (hs e)] rfl
 simp only [setAll, List.set_cons_zero, List.set_cons_succ] at hP
 generalize hput1 : (((((x2.setCell ⟨w.heap.size + 1, 0, none⟩ (.int .u64 ((zl x : Nat) : Int))).setCell ⟨w.heap.size + 1, 1, none⟩ (.string (zh x))).setCell ⟨w.heap.size + 1, 2, none⟩ (.bool (zs x))).setCell ⟨w.heap.size + 1, 3, none⟩ (.int .u64 ((lo e : Nat) : Int))).setCell ⟨w.heap.size + 1, 4, none⟩ (.string (hs e))) = x3 at hP
 have hB1 := hP.fc
 simp only [fcG, cellsF, neK, and_true, ne_eq, Nat.zero_add, Nat.reduceAdd] at hB1
 replace hL0 := hP
 go_wp2_with fail
 exact bodyPost_ret (v := frV x e) (by simp [results, Tryz.results13, go_sem, hB1]) rfl ⟨rfl, hL0.bl⟩
end Go.Proofs.YtahfcciihkkegaaGreatDoor
namespace Go.Proofs.YtahfcciihkkegaaGreatDoor
open Go.RowKit
attribute [local irreducible] lo hs sm s64 c64 d64 b64 mh ml pd pc qd qc val hiB str cmpI srD lz nb isq decB zl zh zs
theorem dec_sgnQ (q : Rat) : decide (sgnQ q < 0) = decide (q.num < 0) := by
 have : sgnQ q < 0 ↔ q.num < 0 := by rw [sgnQ_num]; split <;> (try split) <;> omega
 simp only [this]
end Go.Proofs.YtahfcciihkkegaaGreatDoor
namespace Go.Proofs.YtahfcciihkkegaaGreatDoor
open Go.RowKit
theorem tenQ_pos (p : Nat) : 0 < tenQ p := by
 unfold tenQ
 exact Rat.natCast_pos.2 (tenN_pos p)
/-- 10^-p. -/
def stepQ (p : Nat) : Rat := 1 / tenQ p
theorem stepQ_pos (p : Nat) : 0 < stepQ p := by
 unfold stepQ
 rw [Rat.div_def, Rat.one_mul]
 exact Rat.inv_pos.2 (tenQ_pos p)
theorem rnd_eq (way : Int) (p : Nat) (q : Rat) : rnd way p q = (toI way (q * tenQ p) : Rat) * stepQ p := by
 unfold rnd stepQ
 rw [Rat.div_def, Rat.div_def, Rat.one_mul]
end Go.Proofs.YtahfcciihkkegaaGreatDoor
namespace Go.Proofs.YtahfcciihkkegaaGreatDoor
open Go.RowKit
theorem sgn_neg' {a : Rat} : decide (sgnQ a < 0) = decide (a < 0) := by
 rw [dec_sgnQ]
 have := num_neg_iff a
 by_cases h : a < 0
 ·rw [decide_eq_true h, decide_eq_true (this.2 h)]
 ·rw [decide_eq_false h, decide_eq_false (fun g => h (this.1 g))]
end Go.Proofs.YtahfcciihkkegaaGreatDoor
namespace Go.Proofs.YtahfcciihkkegaaGreatDoor
open Go.RowKit
attribute [local irreducible] lo hs sm s64 c64 d64 b64 mh ml pd pc qd qc val hiB str cmpI srD lz nb isq decB zl zh zs
theorem qt_int {q : Rat} {z : Int} (h1 : q.den = 1) (h2 : q.num = z) : qtxt q = ztxt z := by unfold qtxt; rw [if_pos h1, h2]
end Go.Proofs.YtahfcciihkkegaaGreatDoor
namespace Go.Proofs.YtahfcciihkkegaaGreatDoor
open Go.RowKit
open Go.Lib (decDigits)
theorem tail_length (m p : Nat) : (tailT m p).length = if 0 < p then p + 1 else 0 := by
 unfold tailT
 split
 ·rw [List.length_cons, pad_length]
 ·rfl
theorem pad_isDig : ∀ (k r : Nat), ∀ c ∈ pad k r, isDig c
 | 0, r, c, h => absurd h (by simp [pad])
 | k + 1, r, c, h => by
  rw [pad] at h
  rcases List.mem_append.1 h with h1 | h1
  ·exact pad_isDig k (r / 10) c h1
  ·rw [List.mem_singleton.1 h1]
   unfold isDig
   rw [dch_toNat (Nat.mod_lt _ (by decide))]
   have := Nat.mod_lt r (show 10 > 0 by decide)
   omega
theorem pad_dval : ∀ (k r : Nat), r < 10 ^ k → dval (pad k r) = r
 | 0, r, h => by rw [Nat.pow_zero] at h; rw [pad, dval_nil]; omega
 | k + 1, r, h => by
  rw [Nat.pow_succ] at h
  rw [pad, dval_snoc, pad_dval k (r / 10) (by omega), dch_toNat (Nat.mod_lt _ (by decide))]
  omega
theorem isDig_ne {c x : UInt8} (h : isDig c) (hx : x.toNat < 48 ∨ 57 < x.toNat) : c ≠ x := fun e => by subst e; unfold isDig at h; omega
theorem dec_no45 (n : Nat) : (decDigits n).head? ≠ some 45 := by
 intro h
 have hm : (45 : UInt8) ∈ decDigits n := List.mem_of_mem_head? h
 exact isDig_ne (dec_isDig n _ hm) (x := 45) (by decide) rfl
end Go.Proofs.YtahfcciihkkegaaGreatDoor
namespace Go.Proofs.YtahfcciihkkegaaGreatDoor
open Go.RowKit
open Go.Lib (decDigits)
theorem occ_any {c : UInt8} {s : List UInt8} {i : Nat} : Lib.occAt s [c] i = true → s[i]? = some c := fun h => Lib.occAt_head rfl h
theorem cut_no_any {c : UInt8} {l : List UInt8} (h : c ∉ l) : Lib.cut l [c] = (l, [], false) := by
 unfold Lib.cut
 rcases Lib.index_spec l [c] with ⟨h1, _⟩ | ⟨i, h1, _, h3, _⟩
 ·rw [h1]; rfl
 ·exact absurd (List.mem_of_getElem? (occ_any h3)) h
theorem cut_at_any {c : UInt8} {l r : List UInt8} (h : c ∉ l) : Lib.cut (l ++ c :: r) [c] = (l, r, true) := by
 unfold Lib.cut
 have hat : Lib.occAt (l ++ c :: r) [c] l.length = true := by
  unfold Lib.occAt; rw [List.drop_left]; simp
 rcases Lib.index_spec (l ++ c :: r) [c] with ⟨_, h2⟩ | ⟨i, h1, h2, h3, h4⟩
 ·have := h2 l.length (by simp)
  rw [hat] at this; cases this
 ·have e : i = l.length := by
   rcases Nat.lt_trichotomy i l.length with hl | hl | hl
   ·have := occ_any h3
    rw [List.getElem?_append_left hl] at this
    exact absurd (List.mem_of_getElem? this) h
   ·exact hl
   ·have := h4 l.length hl
    rw [hat] at this; cases this
  rw [h1, e, if_pos (by omega)]
  simp
theorem digs_no {c : UInt8} {l : List UInt8} (h : ∀ c ∈ l, isDig c) (hc : c.toNat < 48 ∨ 57 < c.toNat) : c ∉ l := fun hm => isDig_ne (h c hm) hc rfl
/-- The digits l, without a sign, spell m/10^k. -/
inductive DV : List UInt8 → Nat → Nat → Prop
 | whole {l : List UInt8} (h : isDec l) : DV l (dval l) 0
 | point {b a : List UInt8} (hb : isDec b) (h0 : a ≠ []) (ha : ∀ c ∈ a, isDig c) : DV (b ++ 46 :: a) (dval b * 10 ^ a.length + dval a) a.length
/-- The notation of a number spells it. -/
theorem dv_text (m p : Nat) : DV (decDigits (m / 10 ^ p) ++ tailT m p) m p := by
 unfold tailT
 rcases Nat.eq_zero_or_pos p with rfl | h
 ·rw [if_neg (by decide), List.append_nil, Nat.pow_zero, Nat.div_one]
  have := DV.whole (dec_isDec m)
  rwa [dval_dec] at this
 ·rw [if_pos h]
  have := DV.point (dec_isDec (m / 10 ^ p)) (a := pad p (m % 10 ^ p)) (fun e => by have := pad_length p (m % 10 ^ p); rw [e] at this; simp at this; omega) (pad_isDig p _)
  rw [dval_dec, pad_length, pad_dval p _ (Nat.mod_lt _ (Nat.pow_pos (by decide))), Nat.mul_comm, Nat.div_add_mod] at this
  exact this
theorem dv_head {l : List UInt8} {m k : Nat} (h : DV l m k) : l ≠ [] ∧ l.head? ≠ some 45 := by
 have key : ∀ b : List UInt8, isDec b → b ≠ [] ∧ b.head? ≠ some 45 := by
  intro b hb
  refine ⟨?_, fun e => isDig_ne (hb.1 _ (List.mem_of_mem_head? e)) (x := 45) (by decide) rfl⟩
  rcases hb.2 with h1 | h1
  ·rw [h1]; simp
  ·exact h1.1
 cases h with
 | whole h => exact key _ h
 | @point b a hb h0 ha =>
  obtain ⟨h1, h2⟩ := key b hb
  refine ⟨by simp, ?_⟩
  rw [head_snoc _ h1]; exact h2
theorem rnd_mk (way : Int) (p : Nat) (q : Rat) : rnd way p q = mkRat (toI way (q * tenQ p)) (10 ^ p) := by
 unfold rnd
 rw [Rat.mkRat_eq_div]; rfl
theorem rnd_neg_iff (way : Int) (p : Nat) (q : Rat) : rnd way p q < 0 ↔ toI way (q * tenQ p) < 0 := by
 rw [rnd_eq]
 have hs := stepQ_pos p
 generalize toI way (q * tenQ p) = z
 constructor
 ·intro h
  rcases Int.lt_or_le z 0 with h1 | h1
  ·exact h1
  ·have := Rat.mul_nonneg (Rat.intCast_nonneg.2 h1) (Rat.le_of_lt hs)
   grind
 ·intro h
  have h1 : ((z : Int) : Rat) < 0 := Rat.intCast_neg_iff.2 h
  have := Rat.mul_pos (show 0 < -((z : Int) : Rat) by grind) hs
  grind
theorem decT_length (n : Int) (p : Nat) (hp : 0 < p) : p + 1 < (decT n p).length := by
 unfold decT
 have := dec_length_pos (n.natAbs / 10 ^ p)
 rw [List.length_append, List.length_append, tail_length, if_pos hp]
 omega
theorem decT_point (n : Int) (p : Nat) (hp : 0 < p) : (decT n p)[(decT n p).length - p - 1]? = some 46 := by
 unfold decT tailT
 rw [if_pos hp, ← List.append_assoc]
 generalize (if n < 0 then [45] else []) ++ decDigits (n.natAbs / 10 ^ p) = b
 rw [List.length_append, List.length_cons, pad_length, show b.length + (p + 1) - p - 1 = b.length by omega, List.getElem?_append_right (Nat.le_refl _), Nat.sub_self]
 rfl
theorem decT_head (n : Int) (p : Nat) : (decT n p).head? = some 45 ↔ n < 0 := by
 unfold decT
 split
 ·rename_i h; simp [h]
 ·rename_i h
  rw [List.nil_append, head_snoc _ (dec_ne_nil _)]
  exact ⟨fun e => absurd e (dec_no45 _), fun e => absurd e h⟩
end Go.Proofs.YtahfcciihkkegaaGreatDoor
namespace Go.Proofs.YtahfcciihkkegaaGreatDoor
open Go.RowKit
open Go.Lib (decDigits)
theorem parseD (g : Bool) (l d : List UInt8) (m k : Nat) (hg : Sgn g l d) (hv : DV d m k) (hl : l.length ≤ 4096) (hk : k ≤ 100) (h0 : g = true → m ≠ 0) (w : World) (hM : MaxL w) :
  Calls Tryz.prog 19 #[.string ⟨l.toArray⟩] w fun e w' => e = .returned (.tuple #[fracV (mkRat (if g then -(m : Int) else (m : Int)) (10 ^ k)), .int .i64 0]) ∧ Below w.heap.size w w' := by
 have h46 : (46 : UInt8).toNat < 48 ∨ 57 < (46 : UInt8).toNat := by decide
 have hdl := hg.le
 cases hv with
 | whole h =>
  have := parse_in false g l d d [] hg (cut_no_any (digs_no h.1 h46)) h (fun c hc => absurd hc (by simp)) (fun e => by cases e) hl (by omega) (by simp) (by simpa [dval_nil] using h0) w hM
  simpa [dval_nil] using this
 | @point b a hb h1 ha =>
  exact parse_in true g l _ b a hg (cut_at_any (digs_no hb.1 h46)) hb ha (fun _ => h1) hl (by have := hdl; simp at this; omega) hk h0 w hM
end Go.Proofs.YtahfcciihkkegaaGreatDoor
namespace Go.Proofs.YtahfcciihkkegaaGreatDoor
open Go.RowKit
attribute [local irreducible] lo hs sm s64 c64 d64 b64 mh ml pd pc qd qc val hiB str cmpI srD lz nb isq decB zl zh zs
/-- A Great as plain data. -/
def gmade (s : Bool) (l k : List Nat) : Rat := mkRat (zmade s l) (made k + 1)
theorem gof_any (s : Bool) (a b : Option Addr) (n c m d : Nat) (l k : List Nat) (hl : l.length ≤ 1000) (hk : k.length ≤ 1000) (w : World) (h1 : Ws w (.slice a n c) l) (h2 : Ws w (.slice b m d) k) :
  Calls Tryz.prog 13 #[.agg #[.bool s, .slice a n c, .slice b m d]] w fun xe w' => xe = .returned (fracV (gmade s l k)) ∧ Below w.heap.size w w' := by
 have d1 := zmade_dI (s := s) h1.lt
 have d2 := made_digs h2.lt
 have dz1 : (digs 1).length ≤ 1 := digs_length_iff.2 (by rw [Nat.pow_one]; exact Bs_gt)
 have d3 : (digs (made k + 1)).length ≤ 1001 := Nat.le_trans (digs_add_le (k := 1000) (by omega) (Nat.le_trans dz1 (by omega))) (by omega)
 refine gof_w s a b n c m d (zmade false k) (zmade s l) _ (made k) (made k + 1) _ _ (Keeps.ws _ l) (fun w h => zof_any s a n c l hl w h) (fun w => gden_w s a b n c m d w) _ (Keeps.ws _ k) (fun w h => zof_any false b m d k hk w h) (fun w => ?_) one_o (fun w => add_any (made k) 1 (by omega) (by omega) w) (fromF (zmade s l) (made k + 1) (by omega) (by omega) (by omega)) w h1 h2
 have h := absI (zmade false k) w
 rw [show (zmade false k).natAbs = made k from rfl] at h
 exact h
theorem gmade_sz {s : Bool} {w : World} {a b : Option Addr} {n c m d : Nat} {l k : List Nat} {most : Nat} (hp : 0 < most) (h1 : Ws w (.slice a n c) l) (h2 : Ws w (.slice b m d) k) (hn : n ≤ most) (hm : m ≤ most) : Sz (gmade s l k) (most + 1) := by
 have e1 := h1.len
 have e2 := h2.len
 have d1 := zmade_dI (s := s) h1.lt
 have d2 := made_digs h2.lt
 refine Sz.mk (by omega) ?_ (by omega)
 have dz1 : (digs 1).length ≤ 1 := digs_length_iff.2 (by rw [Nat.pow_one]; exact Bs_gt)
 exact digs_add_le (k := most) (by omega) (by omega)
end Go.Proofs.YtahfcciihkkegaaGreatDoor
namespace Go.Proofs.YtahfcciihkkegaaGreatDoor
open Go.RowKit
attribute [local irreducible] lo hs sm s64 c64 d64 b64 mh ml pd pc qd qc val hiB str cmpI srD lz nb isq decB zl zh zs fe
set_option maxHeartbeats 4000000 in
set_option maxRecDepth 100000 in
theorem dback_big0 (sx : Bool) (ax qx : Option Addr) (nx cx mx dx : Nat) (p8 v8 : Int) (KT : World → Prop) (hKT : Keeps KT) (HW : ∀ w, KT w → Calls Tryz.prog 11 #[] w fun xe w' => xe = .returned (.bool true) ∧ Below w.heap.size w w') (l0 : decide ((5 : Int) < ((nx : Nat) : Int)) = true) (k0 : decide (5 < nx) = true) (w : World) (kKT : KT w) :
  Calls Tryz.prog 7 #[.agg #[.bool sx, .slice ax nx cx, .slice qx mx dx], .int .u8 p8, .int .u8 v8] w fun xe w' => xe = .returned (.bool true) ∧ Below w.heap.size w w' := by
 have hL0 : GL w w [] := GL.start w
 replace hKT := Lib.hid hKT
 replace HW := Lib.hid HW
 replace hL0 := (hL0.new rfl [.bool sx, .slice ax nx cx, .slice qx mx dx] 26)
 generalize hweq : (w.alloc (.cells #[.bool sx, .slice ax nx cx, .slice qx mx dx] 26)) = x1 at hL0
 go_enter Tryz.func7, Tryz.ntmps7
 have hN0 := cells_of _ 0 [] rfl (hL0.get _ _ List.mem_cons_self)
 simp only [cellsF, and_true, Nat.zero_add, Nat.reduceAdd] at hN0
 go_wp2_with fail
 clear hN0
 with_reducible refine Calls.mono (HW.out _ (hKT.out.at hL0.bl kKT)) ?_
 rintro e x2 ⟨rfl, hb⟩
 replace hL0 := hL0.call hb
 clear hb hweq
 go_wp2_with fail
 exact bodyPost_ret (v := .bool true) (by simp [results, Tryz.results7, go_sem]) rfl ⟨rfl, hL0.bl⟩
set_option maxHeartbeats 4000000 in
set_option maxRecDepth 100000 in
theorem dback_big1 (sx : Bool) (ax qx : Option Addr) (nx cx mx dx : Nat) (p8 v8 : Int) (KT : World → Prop) (hKT : Keeps KT) (HW : ∀ w, KT w → Calls Tryz.prog 11 #[] w fun xe w' => xe = .returned (.bool true) ∧ Below w.heap.size w w') (l0 : decide ((5 : Int) < ((nx : Nat) : Int)) = false) (k0 : decide (5 < nx) = false) (l1 : decide ((5 : Int) < ((mx : Nat) : Int)) = true) (k1 : decide (5 < mx) = true) (w : World) (kKT : KT w) :
  Calls Tryz.prog 7 #[.agg #[.bool sx, .slice ax nx cx, .slice qx mx dx], .int .u8 p8, .int .u8 v8] w fun xe w' => xe = .returned (.bool true) ∧ Below w.heap.size w w' := by
 have hL0 : GL w w [] := GL.start w
 replace hKT := Lib.hid hKT
 replace HW := Lib.hid HW
 replace hL0 := (hL0.new rfl [.bool sx, .slice ax nx cx, .slice qx mx dx] 26)
 generalize hweq : (w.alloc (.cells #[.bool sx, .slice ax nx cx, .slice qx mx dx] 26)) = x1 at hL0
 go_enter Tryz.func7, Tryz.ntmps7
 have hN0 := cells_of _ 0 [] rfl (hL0.get _ _ List.mem_cons_self)
 simp only [cellsF, and_true, Nat.zero_add, Nat.reduceAdd] at hN0
 go_wp2_with fail
 clear hN0
 with_reducible refine Calls.mono (HW.out _ (hKT.out.at hL0.bl kKT)) ?_
 rintro e x2 ⟨rfl, hb⟩
 replace hL0 := hL0.call hb
 clear hb hweq
 go_wp2_with fail
 exact bodyPost_ret (v := .bool true) (by simp [results, Tryz.results7, go_sem]) rfl ⟨rfl, hL0.bl⟩
set_option maxHeartbeats 4000000 in
set_option maxRecDepth 100000 in
theorem dback_tz (sx : Bool) (ax qx : Option Addr) (nx cx mx dx : Nat) (p8 v8 n m3 v i n1 d1 : Int) (q r : Rat) (s : ByteArray) (l j : Nat) (ch c2 : UInt8) (Kx : World → Prop) (hKx : Keeps Kx) (GX : ∀ w, Kx w → Calls Tryz.prog 13 #[.agg #[.bool sx, .slice ax nx cx, .slice qx mx dx]] w fun xe w' => xe = .returned (fracV q) ∧ Below w.heap.size w w') (HR : ∀ w, Calls Tryz.prog 12 #[fracV q, .int .i64 n, .int .i64 v] w fun xe w' => xe = .returned (.tuple #[fracV r, .int .i64 0]) ∧ Below w.heap.size w w') (KT : World → Prop) (hKT : Keeps KT) (HT : ∀ w, KT w → Calls Tryz.prog 14 #[fracV q, .int .i64 n, .int .i64 v] w fun xe w' => xe = .returned (.tuple #[.string s, .int .i64 0]) ∧ Below w.heap.size w w') (HP : ∀ w, KT w → Calls Tryz.prog 19 #[.string s] w fun xe w' => xe = .returned (.tuple #[fracV r, .int .i64 0]) ∧ Below w.heap.size w w') (HS : ∀ w, Calls Tryz.prog 34 #[fracV r] w fun xe w' => xe = .returned (.int .i64 i) ∧ Below w.heap.size w w') (HH : ∀ w, Calls Tryz.prog 28 #[fracV r] w fun xe w' => xe = .returned (.bool true) ∧ Below w.heap.size w w') (HX : ∀ w, KT w → Calls Tryz.prog 35 #[fracV r] w fun xe w' => xe = .returned (.string s) ∧ Below w.heap.size w w') (HW : ∀ w, KT w → Calls Tryz.prog 11 #[] w fun xe w' => xe = .returned (.bool true) ∧ Below w.heap.size w w') (l0 : decide ((5 : Int) < ((nx : Nat) : Int)) = false) (k0 : decide (5 < nx) = false) (l1 : decide ((5 : Int) < ((mx : Nat) : Int)) = false) (k1 : decide (5 < mx) = false) (hw : IntKind.i64.wrap p8 = p8) (hn : p8.tmod 101 = n) (hw2 : IntKind.i64.wrap v8 = v8) (hn2 : v8.tmod 3 = m3) (hv : IntKind.i64.wrap (1 + m3) = v) (hv2 : wrap64 (1 + m3) = v) (hl : s.size = l) (y1 : ((l : Int) == 0) = false) (y2 : (l == 0) = false) (y3 : ¬ l = 0) (y4 : (0 : Int) < (l : Int)) (hlt : 0 < s.size) (hget : s[0]'hlt = ch) (g1 : ((ch.toNat : Int) == 45) = true) (g2 : decide (i < 0) = true) (g3 : (n == 0) = true) (w : World) (kKx : Kx w) (kKT : KT w) :
  Calls Tryz.prog 7 #[.agg #[.bool sx, .slice ax nx cx, .slice qx mx dx], .int .u8 p8, .int .u8 v8] w fun xe w' => xe = .returned (.bool true) ∧ Below w.heap.size w w' := by
 have hL0 : GL w w [] := GL.start w
 replace hKx := Lib.hid hKx
 replace GX := Lib.hid GX
 replace HR := Lib.hid HR
 replace hKT := Lib.hid hKT
 replace HT := Lib.hid HT
 replace HP := Lib.hid HP
 replace HS := Lib.hid HS
 replace HH := Lib.hid HH
 replace HX := Lib.hid HX
 replace HW := Lib.hid HW
 replace hL0 := (hL0.new rfl [.bool sx, .slice ax nx cx, .slice qx mx dx] 26)
 generalize hweq : (w.alloc (.cells #[.bool sx, .slice ax nx cx, .slice qx mx dx] 26)) = x1 at hL0
 go_enter Tryz.func7, Tryz.ntmps7
 have hN0 := cells_of _ 0 [] rfl (hL0.get _ _ List.mem_cons_self)
 simp only [cellsF, and_true, Nat.zero_add, Nat.reduceAdd] at hN0
 go_wp2_with fail
 clear hN0
 with_reducible refine Calls.mono (GX.out _ (hKx.out.at hL0.bl kKx)) ?_
 rintro e x2 ⟨rfl, hb⟩
 replace hL0 := hL0.call hb
 clear hb hweq
 go_wp2_with fail
 with_reducible refine Calls.mono (HR.out _) ?_
 rintro e x3 ⟨rfl, hb⟩
 replace hL0 := hL0.call hb
 clear hb
 replace hL0 := (hL0.new rfl [.int .u64 ((zl r.num : Nat) : Int), .string (zh r.num), .bool (zs r.num), .int .u64 ((lo (fe r) : Nat) : Int), .string (hs (fe r))] 34)
 generalize hweq : (x3.alloc (.cells #[.int .u64 ((zl r.num : Nat) : Int), .string (zh r.num), .bool (zs r.num), .int .u64 ((lo (fe r) : Nat) : Int), .string (hs (fe r))] 34)) = x4 at hL0
 have hN0 := cells_of _ 0 [] rfl (hL0.get _ _ (List.mem_cons_of_mem _ List.mem_cons_self))
 simp only [cellsF, and_true, Nat.zero_add, Nat.reduceAdd] at hN0
 go_wp2_with fail
 clear hN0
 with_reducible refine Calls.mono (GX.out _ (hKx.out.at hL0.bl kKx)) ?_
 rintro e x5 ⟨rfl, hb⟩
 replace hL0 := hL0.call hb
 clear hb hweq
 go_wp2_with fail
 with_reducible refine Calls.mono (HT.out _ (hKT.out.at hL0.bl kKT)) ?_
 rintro e x6 ⟨rfl, hb⟩
 replace hL0 := hL0.call hb
 clear hb
 go_wp2_with fail
 with_reducible refine Calls.mono (HP.out _ (hKT.out.at hL0.bl kKT)) ?_
 rintro e x7 ⟨rfl, hb⟩
 replace hL0 := hL0.call hb
 clear hb
 replace hL0 := (hL0.new rfl [.int .u64 ((zl r.num : Nat) : Int), .string (zh r.num), .bool (zs r.num), .int .u64 ((lo (fe r) : Nat) : Int), .string (hs (fe r))] 34)
 generalize hweq : (x7.alloc (.cells #[.int .u64 ((zl r.num : Nat) : Int), .string (zh r.num), .bool (zs r.num), .int .u64 ((lo (fe r) : Nat) : Int), .string (hs (fe r))] 34)) = x8 at hL0
 go_upto_region 7 with fail
 clear hweq
 obtain ⟨α, iα, F, hF1, hF2⟩ := cls x8
 have hq0 := cls_box hF1 hL0 _ _ List.mem_cons_self
 simp only [cellsC, and_true, Nat.zero_add, Nat.reduceAdd] at hq0
 have hq1 := cls_box hF1 hL0 _ _ (List.mem_cons_of_mem _ List.mem_cons_self)
 simp only [cellsC, and_true, Nat.zero_add, Nat.reduceAdd] at hq1
 refine region_qs 29 (C := fun w' => ∃ x, w' = F x) (by kernel_rfl) (by kernel_rfl) (cls_drew hF2) ?_
 simp only [List.take_succ_cons, List.take_zero, List.drop_succ_cons, List.drop_zero, List.take_nil, List.drop_nil]
 repeat (go_big_quiet_step (first | fail | (go_at_call 34; with_reducible exact cls_call hF1 hF2 HS.out _)))
 refine wpQuiet_nil ?_
 rintro wq ⟨xq, rfl⟩
 replace hL0 := hL0.call (hF1 xq)
 clear  hq0 hq1 hF2
 generalize F xq = x9 at hL0 ⊢
 clear hF1 xq iα F α
 have hN0 := cells_of _ 0 [] rfl (hL0.get _ _ (List.mem_cons_of_mem _ List.mem_cons_self))
 simp only [cellsF, and_true, Nat.zero_add, Nat.reduceAdd] at hN0
 go_wp2_with fail
 clear hN0
 with_reducible refine Calls.mono (HH.out _) ?_
 rintro e x10 ⟨rfl, hb⟩
 replace hL0 := hL0.call hb
 clear hb
 have hN0 := cells_of _ 0 [] rfl (hL0.get _ _ (List.mem_cons_of_mem _ List.mem_cons_self))
 simp only [cellsF, and_true, Nat.zero_add, Nat.reduceAdd] at hN0
 go_wp2_with fail
 clear hN0
 with_reducible refine Calls.mono (HX.out _ (hKT.out.at hL0.bl kKT)) ?_
 rintro e x11 ⟨rfl, hb⟩
 replace hL0 := hL0.call hb
 clear hb
 go_wp2_with fail
 with_reducible refine Calls.mono (HW.out _ (hKT.out.at hL0.bl kKT)) ?_
 rintro e x12 ⟨rfl, hb⟩
 replace hL0 := hL0.call hb
 clear hb
 go_wp2_with fail
 exact bodyPost_ret (v := .bool true) (by simp [results, Tryz.results7, go_sem]) rfl ⟨rfl, hL0.bl⟩
set_option maxHeartbeats 4000000 in
set_option maxRecDepth 100000 in
theorem dback_tp (sx : Bool) (ax qx : Option Addr) (nx cx mx dx : Nat) (p8 v8 n m3 v i n1 d1 : Int) (q r : Rat) (s : ByteArray) (l j : Nat) (ch c2 : UInt8) (Kx : World → Prop) (hKx : Keeps Kx) (GX : ∀ w, Kx w → Calls Tryz.prog 13 #[.agg #[.bool sx, .slice ax nx cx, .slice qx mx dx]] w fun xe w' => xe = .returned (fracV q) ∧ Below w.heap.size w w') (HR : ∀ w, Calls Tryz.prog 12 #[fracV q, .int .i64 n, .int .i64 v] w fun xe w' => xe = .returned (.tuple #[fracV r, .int .i64 0]) ∧ Below w.heap.size w w') (KT : World → Prop) (hKT : Keeps KT) (HT : ∀ w, KT w → Calls Tryz.prog 14 #[fracV q, .int .i64 n, .int .i64 v] w fun xe w' => xe = .returned (.tuple #[.string s, .int .i64 0]) ∧ Below w.heap.size w w') (HP : ∀ w, KT w → Calls Tryz.prog 19 #[.string s] w fun xe w' => xe = .returned (.tuple #[fracV r, .int .i64 0]) ∧ Below w.heap.size w w') (HS : ∀ w, Calls Tryz.prog 34 #[fracV r] w fun xe w' => xe = .returned (.int .i64 i) ∧ Below w.heap.size w w') (HW : ∀ w, KT w → Calls Tryz.prog 11 #[] w fun xe w' => xe = .returned (.bool true) ∧ Below w.heap.size w w') (l0 : decide ((5 : Int) < ((nx : Nat) : Int)) = false) (k0 : decide (5 < nx) = false) (l1 : decide ((5 : Int) < ((mx : Nat) : Int)) = false) (k1 : decide (5 < mx) = false) (hw : IntKind.i64.wrap p8 = p8) (hn : p8.tmod 101 = n) (hw2 : IntKind.i64.wrap v8 = v8) (hn2 : v8.tmod 3 = m3) (hv : IntKind.i64.wrap (1 + m3) = v) (hv2 : wrap64 (1 + m3) = v) (hl : s.size = l) (y1 : ((l : Int) == 0) = false) (y2 : (l == 0) = false) (y3 : ¬ l = 0) (y4 : (0 : Int) < (l : Int)) (hlt : 0 < s.size) (hget : s[0]'hlt = ch) (g1 : ((ch.toNat : Int) == 45) = true) (g2 : decide (i < 0) = true) (g3 : (n == 0) = false) (m1 : IntKind.i64.wrap (n + 1) = n1) (m2 : wrap64 (n + 1) = n1) (m3' : decide (n1 < (l : Int)) = true) (m4 : IntKind.i64.wrap ((l : Int) - n) = d1) (m5 : wrap64 ((l : Int) - n) = d1) (m6 : IntKind.i64.wrap (d1 - 1) = (j : Int)) (m7 : wrap64 (d1 - 1) = (j : Int)) (hjn : j < l) (hj0 : (0 : Int) ≤ (j : Int)) (hj : (j : Int) < (l : Int)) (hjs : j < s.size) (hget2 : s[j]'hjs = c2) (g5 : ((c2.toNat : Int) == 46) = true) (w : World) (kKx : Kx w) (kKT : KT w) :
  Calls Tryz.prog 7 #[.agg #[.bool sx, .slice ax nx cx, .slice qx mx dx], .int .u8 p8, .int .u8 v8] w fun xe w' => xe = .returned (.bool true) ∧ Below w.heap.size w w' := by
 have hL0 : GL w w [] := GL.start w
 replace hKx := Lib.hid hKx
 replace GX := Lib.hid GX
 replace HR := Lib.hid HR
 replace hKT := Lib.hid hKT
 replace HT := Lib.hid HT
 replace HP := Lib.hid HP
 replace HS := Lib.hid HS
 replace HW := Lib.hid HW
 replace hL0 := (hL0.new rfl [.bool sx, .slice ax nx cx, .slice qx mx dx] 26)
 generalize hweq : (w.alloc (.cells #[.bool sx, .slice ax nx cx, .slice qx mx dx] 26)) = x1 at hL0
 go_enter Tryz.func7, Tryz.ntmps7
 have hN0 := cells_of _ 0 [] rfl (hL0.get _ _ List.mem_cons_self)
 simp only [cellsF, and_true, Nat.zero_add, Nat.reduceAdd] at hN0
 go_wp2_with fail
 clear hN0
 with_reducible refine Calls.mono (GX.out _ (hKx.out.at hL0.bl kKx)) ?_
 rintro e x2 ⟨rfl, hb⟩
 replace hL0 := hL0.call hb
 clear hb hweq
 go_wp2_with fail
 with_reducible refine Calls.mono (HR.out _) ?_
 rintro e x3 ⟨rfl, hb⟩
 replace hL0 := hL0.call hb
 clear hb
 replace hL0 := (hL0.new rfl [.int .u64 ((zl r.num : Nat) : Int), .string (zh r.num), .bool (zs r.num), .int .u64 ((lo (fe r) : Nat) : Int), .string (hs (fe r))] 34)
 generalize hweq : (x3.alloc (.cells #[.int .u64 ((zl r.num : Nat) : Int), .string (zh r.num), .bool (zs r.num), .int .u64 ((lo (fe r) : Nat) : Int), .string (hs (fe r))] 34)) = x4 at hL0
 have hN0 := cells_of _ 0 [] rfl (hL0.get _ _ (List.mem_cons_of_mem _ List.mem_cons_self))
 simp only [cellsF, and_true, Nat.zero_add, Nat.reduceAdd] at hN0
 go_wp2_with fail
 clear hN0
 with_reducible refine Calls.mono (GX.out _ (hKx.out.at hL0.bl kKx)) ?_
 rintro e x5 ⟨rfl, hb⟩
 replace hL0 := hL0.call hb
 clear hb hweq
 go_wp2_with fail
 with_reducible refine Calls.mono (HT.out _ (hKT.out.at hL0.bl kKT)) ?_
 rintro e x6 ⟨rfl, hb⟩
 replace hL0 := hL0.call hb
 clear hb
 go_wp2_with fail
 with_reducible refine Calls.mono (HP.out _ (hKT.out.at hL0.bl kKT)) ?_
 rintro e x7 ⟨rfl, hb⟩
 replace hL0 := hL0.call hb
 clear hb
 replace hL0 := (hL0.new rfl [.int .u64 ((zl r.num : Nat) : Int), .string (zh r.num), .bool (zs r.num), .int .u64 ((lo (fe r) : Nat) : Int), .string (hs (fe r))] 34)
 generalize hweq : (x7.alloc (.cells #[.int .u64 ((zl r.num : Nat) : Int), .string (zh r.num), .bool (zs r.num), .int .u64 ((lo (fe r) : Nat) : Int), .string (hs (fe r))] 34)) = x8 at hL0
 go_upto_region 7 with fail
 clear hweq
 obtain ⟨α, iα, F, hF1, hF2⟩ := cls x8
 have hq0 := cls_box hF1 hL0 _ _ List.mem_cons_self
 simp only [cellsC, and_true, Nat.zero_add, Nat.reduceAdd] at hq0
 have hq1 := cls_box hF1 hL0 _ _ (List.mem_cons_of_mem _ List.mem_cons_self)
 simp only [cellsC, and_true, Nat.zero_add, Nat.reduceAdd] at hq1
 refine region_qs 29 (C := fun w' => ∃ x, w' = F x) (by kernel_rfl) (by kernel_rfl) (cls_drew hF2) ?_
 simp only [List.take_succ_cons, List.take_zero, List.drop_succ_cons, List.drop_zero, List.take_nil, List.drop_nil]
 repeat (go_big_quiet_step (first | fail | (go_at_call 34; with_reducible exact cls_call hF1 hF2 HS.out _)))
 refine wpQuiet_nil ?_
 rintro wq ⟨xq, rfl⟩
 replace hL0 := hL0.call (hF1 xq)
 clear  hq0 hq1 hF2
 generalize F xq = x9 at hL0 ⊢
 clear hF1 xq iα F α
 go_wp2_with fail
 with_reducible refine Calls.mono (HW.out _ (hKT.out.at hL0.bl kKT)) ?_
 rintro e x10 ⟨rfl, hb⟩
 replace hL0 := hL0.call hb
 clear hb
 go_wp2_with fail
 exact bodyPost_ret (v := .bool true) (by simp [results, Tryz.results7, go_sem]) rfl ⟨rfl, hL0.bl⟩
set_option maxHeartbeats 4000000 in
set_option maxRecDepth 100000 in
theorem dback_fz (sx : Bool) (ax qx : Option Addr) (nx cx mx dx : Nat) (p8 v8 n m3 v i n1 d1 : Int) (q r : Rat) (s : ByteArray) (l j : Nat) (ch c2 : UInt8) (Kx : World → Prop) (hKx : Keeps Kx) (GX : ∀ w, Kx w → Calls Tryz.prog 13 #[.agg #[.bool sx, .slice ax nx cx, .slice qx mx dx]] w fun xe w' => xe = .returned (fracV q) ∧ Below w.heap.size w w') (HR : ∀ w, Calls Tryz.prog 12 #[fracV q, .int .i64 n, .int .i64 v] w fun xe w' => xe = .returned (.tuple #[fracV r, .int .i64 0]) ∧ Below w.heap.size w w') (KT : World → Prop) (hKT : Keeps KT) (HT : ∀ w, KT w → Calls Tryz.prog 14 #[fracV q, .int .i64 n, .int .i64 v] w fun xe w' => xe = .returned (.tuple #[.string s, .int .i64 0]) ∧ Below w.heap.size w w') (HP : ∀ w, KT w → Calls Tryz.prog 19 #[.string s] w fun xe w' => xe = .returned (.tuple #[fracV r, .int .i64 0]) ∧ Below w.heap.size w w') (HS : ∀ w, Calls Tryz.prog 34 #[fracV r] w fun xe w' => xe = .returned (.int .i64 i) ∧ Below w.heap.size w w') (HH : ∀ w, Calls Tryz.prog 28 #[fracV r] w fun xe w' => xe = .returned (.bool true) ∧ Below w.heap.size w w') (HX : ∀ w, KT w → Calls Tryz.prog 35 #[fracV r] w fun xe w' => xe = .returned (.string s) ∧ Below w.heap.size w w') (HW : ∀ w, KT w → Calls Tryz.prog 11 #[] w fun xe w' => xe = .returned (.bool true) ∧ Below w.heap.size w w') (l0 : decide ((5 : Int) < ((nx : Nat) : Int)) = false) (k0 : decide (5 < nx) = false) (l1 : decide ((5 : Int) < ((mx : Nat) : Int)) = false) (k1 : decide (5 < mx) = false) (hw : IntKind.i64.wrap p8 = p8) (hn : p8.tmod 101 = n) (hw2 : IntKind.i64.wrap v8 = v8) (hn2 : v8.tmod 3 = m3) (hv : IntKind.i64.wrap (1 + m3) = v) (hv2 : wrap64 (1 + m3) = v) (hl : s.size = l) (y1 : ((l : Int) == 0) = false) (y2 : (l == 0) = false) (y3 : ¬ l = 0) (y4 : (0 : Int) < (l : Int)) (hlt : 0 < s.size) (hget : s[0]'hlt = ch) (g1 : ((ch.toNat : Int) == 45) = false) (g2 : decide (i < 0) = false) (g3 : (n == 0) = true) (w : World) (kKx : Kx w) (kKT : KT w) :
  Calls Tryz.prog 7 #[.agg #[.bool sx, .slice ax nx cx, .slice qx mx dx], .int .u8 p8, .int .u8 v8] w fun xe w' => xe = .returned (.bool true) ∧ Below w.heap.size w w' := by
 have hL0 : GL w w [] := GL.start w
 replace hKx := Lib.hid hKx
 replace GX := Lib.hid GX
 replace HR := Lib.hid HR
 replace hKT := Lib.hid hKT
 replace HT := Lib.hid HT
 replace HP := Lib.hid HP
 replace HS := Lib.hid HS
 replace HH := Lib.hid HH
 replace HX := Lib.hid HX
 replace HW := Lib.hid HW
 replace hL0 := (hL0.new rfl [.bool sx, .slice ax nx cx, .slice qx mx dx] 26)
 generalize hweq : (w.alloc (.cells #[.bool sx, .slice ax nx cx, .slice qx mx dx] 26)) = x1 at hL0
 go_enter Tryz.func7, Tryz.ntmps7
 have hN0 := cells_of _ 0 [] rfl (hL0.get _ _ List.mem_cons_self)
 simp only [cellsF, and_true, Nat.zero_add, Nat.reduceAdd] at hN0
 go_wp2_with fail
 clear hN0
 with_reducible refine Calls.mono (GX.out _ (hKx.out.at hL0.bl kKx)) ?_
 rintro e x2 ⟨rfl, hb⟩
 replace hL0 := hL0.call hb
 clear hb hweq
 go_wp2_with fail
 with_reducible refine Calls.mono (HR.out _) ?_
 rintro e x3 ⟨rfl, hb⟩
 replace hL0 := hL0.call hb
 clear hb
 replace hL0 := (hL0.new rfl [.int .u64 ((zl r.num : Nat) : Int), .string (zh r.num), .bool (zs r.num), .int .u64 ((lo (fe r) : Nat) : Int), .string (hs (fe r))] 34)
 generalize hweq : (x3.alloc (.cells #[.int .u64 ((zl r.num : Nat) : Int), .string (zh r.num), .bool (zs r.num), .int .u64 ((lo (fe r) : Nat) : Int), .string (hs (fe r))] 34)) = x4 at hL0
 have hN0 := cells_of _ 0 [] rfl (hL0.get _ _ (List.mem_cons_of_mem _ List.mem_cons_self))
 simp only [cellsF, and_true, Nat.zero_add, Nat.reduceAdd] at hN0
 go_wp2_with fail
 clear hN0
 with_reducible refine Calls.mono (GX.out _ (hKx.out.at hL0.bl kKx)) ?_
 rintro e x5 ⟨rfl, hb⟩
 replace hL0 := hL0.call hb
 clear hb hweq
 go_wp2_with fail
 with_reducible refine Calls.mono (HT.out _ (hKT.out.at hL0.bl kKT)) ?_
 rintro e x6 ⟨rfl, hb⟩
 replace hL0 := hL0.call hb
 clear hb
 go_wp2_with fail
 with_reducible refine Calls.mono (HP.out _ (hKT.out.at hL0.bl kKT)) ?_
 rintro e x7 ⟨rfl, hb⟩
 replace hL0 := hL0.call hb
 clear hb
 replace hL0 := (hL0.new rfl [.int .u64 ((zl r.num : Nat) : Int), .string (zh r.num), .bool (zs r.num), .int .u64 ((lo (fe r) : Nat) : Int), .string (hs (fe r))] 34)
 generalize hweq : (x7.alloc (.cells #[.int .u64 ((zl r.num : Nat) : Int), .string (zh r.num), .bool (zs r.num), .int .u64 ((lo (fe r) : Nat) : Int), .string (hs (fe r))] 34)) = x8 at hL0
 go_upto_region 7 with fail
 clear hweq
 obtain ⟨α, iα, F, hF1, hF2⟩ := cls x8
 have hq0 := cls_box hF1 hL0 _ _ List.mem_cons_self
 simp only [cellsC, and_true, Nat.zero_add, Nat.reduceAdd] at hq0
 have hq1 := cls_box hF1 hL0 _ _ (List.mem_cons_of_mem _ List.mem_cons_self)
 simp only [cellsC, and_true, Nat.zero_add, Nat.reduceAdd] at hq1
 refine region_qs 29 (C := fun w' => ∃ x, w' = F x) (by kernel_rfl) (by kernel_rfl) (cls_drew hF2) ?_
 simp only [List.take_succ_cons, List.take_zero, List.drop_succ_cons, List.drop_zero, List.take_nil, List.drop_nil]
 repeat (go_big_quiet_step (first | fail | (go_at_call 34; with_reducible exact cls_call hF1 hF2 HS.out _)))
 refine wpQuiet_nil ?_
 rintro wq ⟨xq, rfl⟩
 replace hL0 := hL0.call (hF1 xq)
 clear  hq0 hq1 hF2
 generalize F xq = x9 at hL0 ⊢
 clear hF1 xq iα F α
 have hN0 := cells_of _ 0 [] rfl (hL0.get _ _ (List.mem_cons_of_mem _ List.mem_cons_self))
 simp only [cellsF, and_true, Nat.zero_add, Nat.reduceAdd] at hN0
 go_wp2_with fail
 clear hN0
 with_reducible refine Calls.mono (HH.out _) ?_
 rintro e x10 ⟨rfl, hb⟩
 replace hL0 := hL0.call hb
 clear hb
 have hN0 := cells_of _ 0 [] rfl (hL0.get _ _ (List.mem_cons_of_mem _ List.mem_cons_self))
 simp only [cellsF, and_true, Nat.zero_add, Nat.reduceAdd] at hN0
 go_wp2_with fail
 clear hN0
 with_reducible refine Calls.mono (HX.out _ (hKT.out.at hL0.bl kKT)) ?_
 rintro e x11 ⟨rfl, hb⟩
 replace hL0 := hL0.call hb
 clear hb
 go_wp2_with fail
 with_reducible refine Calls.mono (HW.out _ (hKT.out.at hL0.bl kKT)) ?_
 rintro e x12 ⟨rfl, hb⟩
 replace hL0 := hL0.call hb
 clear hb
 go_wp2_with fail
 exact bodyPost_ret (v := .bool true) (by simp [results, Tryz.results7, go_sem]) rfl ⟨rfl, hL0.bl⟩
set_option maxHeartbeats 4000000 in
set_option maxRecDepth 100000 in
theorem dback_fp (sx : Bool) (ax qx : Option Addr) (nx cx mx dx : Nat) (p8 v8 n m3 v i n1 d1 : Int) (q r : Rat) (s : ByteArray) (l j : Nat) (ch c2 : UInt8) (Kx : World → Prop) (hKx : Keeps Kx) (GX : ∀ w, Kx w → Calls Tryz.prog 13 #[.agg #[.bool sx, .slice ax nx cx, .slice qx mx dx]] w fun xe w' => xe = .returned (fracV q) ∧ Below w.heap.size w w') (HR : ∀ w, Calls Tryz.prog 12 #[fracV q, .int .i64 n, .int .i64 v] w fun xe w' => xe = .returned (.tuple #[fracV r, .int .i64 0]) ∧ Below w.heap.size w w') (KT : World → Prop) (hKT : Keeps KT) (HT : ∀ w, KT w → Calls Tryz.prog 14 #[fracV q, .int .i64 n, .int .i64 v] w fun xe w' => xe = .returned (.tuple #[.string s, .int .i64 0]) ∧ Below w.heap.size w w') (HP : ∀ w, KT w → Calls Tryz.prog 19 #[.string s] w fun xe w' => xe = .returned (.tuple #[fracV r, .int .i64 0]) ∧ Below w.heap.size w w') (HS : ∀ w, Calls Tryz.prog 34 #[fracV r] w fun xe w' => xe = .returned (.int .i64 i) ∧ Below w.heap.size w w') (HW : ∀ w, KT w → Calls Tryz.prog 11 #[] w fun xe w' => xe = .returned (.bool true) ∧ Below w.heap.size w w') (l0 : decide ((5 : Int) < ((nx : Nat) : Int)) = false) (k0 : decide (5 < nx) = false) (l1 : decide ((5 : Int) < ((mx : Nat) : Int)) = false) (k1 : decide (5 < mx) = false) (hw : IntKind.i64.wrap p8 = p8) (hn : p8.tmod 101 = n) (hw2 : IntKind.i64.wrap v8 = v8) (hn2 : v8.tmod 3 = m3) (hv : IntKind.i64.wrap (1 + m3) = v) (hv2 : wrap64 (1 + m3) = v) (hl : s.size = l) (y1 : ((l : Int) == 0) = false) (y2 : (l == 0) = false) (y3 : ¬ l = 0) (y4 : (0 : Int) < (l : Int)) (hlt : 0 < s.size) (hget : s[0]'hlt = ch) (g1 : ((ch.toNat : Int) == 45) = false) (g2 : decide (i < 0) = false) (g3 : (n == 0) = false) (m1 : IntKind.i64.wrap (n + 1) = n1) (m2 : wrap64 (n + 1) = n1) (m3' : decide (n1 < (l : Int)) = true) (m4 : IntKind.i64.wrap ((l : Int) - n) = d1) (m5 : wrap64 ((l : Int) - n) = d1) (m6 : IntKind.i64.wrap (d1 - 1) = (j : Int)) (m7 : wrap64 (d1 - 1) = (j : Int)) (hjn : j < l) (hj0 : (0 : Int) ≤ (j : Int)) (hj : (j : Int) < (l : Int)) (hjs : j < s.size) (hget2 : s[j]'hjs = c2) (g5 : ((c2.toNat : Int) == 46) = true) (w : World) (kKx : Kx w) (kKT : KT w) :
  Calls Tryz.prog 7 #[.agg #[.bool sx, .slice ax nx cx, .slice qx mx dx], .int .u8 p8, .int .u8 v8] w fun xe w' => xe = .returned (.bool true) ∧ Below w.heap.size w w' := by
 have hL0 : GL w w [] := GL.start w
 replace hKx := Lib.hid hKx
 replace GX := Lib.hid GX
 replace HR := Lib.hid HR
 replace hKT := Lib.hid hKT
 replace HT := Lib.hid HT
 replace HP := Lib.hid HP
 replace HS := Lib.hid HS
 replace HW := Lib.hid HW
 replace hL0 := (hL0.new rfl [.bool sx, .slice ax nx cx, .slice qx mx dx] 26)
 generalize hweq : (w.alloc (.cells #[.bool sx, .slice ax nx cx, .slice qx mx dx] 26)) = x1 at hL0
 go_enter Tryz.func7, Tryz.ntmps7
 have hN0 := cells_of _ 0 [] rfl (hL0.get _ _ List.mem_cons_self)
 simp only [cellsF, and_true, Nat.zero_add, Nat.reduceAdd] at hN0
 go_wp2_with fail
 clear hN0
 with_reducible refine Calls.mono (GX.out _ (hKx.out.at hL0.bl kKx)) ?_
 rintro e x2 ⟨rfl, hb⟩
 replace hL0 := hL0.call hb
 clear hb hweq
 go_wp2_with fail
 with_reducible refine Calls.mono (HR.out _) ?_
 rintro e x3 ⟨rfl, hb⟩
 replace hL0 := hL0.call hb
 clear hb
 replace hL0 := (hL0.new rfl [.int .u64 ((zl r.num : Nat) : Int), .string (zh r.num), .bool (zs r.num), .int .u64 ((lo (fe r) : Nat) : Int), .string (hs (fe r))] 34)
 generalize hweq : (x3.alloc (.cells #[.int .u64 ((zl r.num : Nat) : Int), .string (zh r.num), .bool (zs r.num), .int .u64 ((lo (fe r) : Nat) : Int), .string (hs (fe r))] 34)) = x4 at hL0
 have hN0 := cells_of _ 0 [] rfl (hL0.get _ _ (List.mem_cons_of_mem _ List.mem_cons_self))
 simp only [cellsF, and_true, Nat.zero_add, Nat.reduceAdd] at hN0
 go_wp2_with fail
 clear hN0
 with_reducible refine Calls.mono (GX.out _ (hKx.out.at hL0.bl kKx)) ?_
 rintro e x5 ⟨rfl, hb⟩
 replace hL0 := hL0.call hb
 clear hb hweq
 go_wp2_with fail
 with_reducible refine Calls.mono (HT.out _ (hKT.out.at hL0.bl kKT)) ?_
 rintro e x6 ⟨rfl, hb⟩
 replace hL0 := hL0.call hb
 clear hb
 go_wp2_with fail
 with_reducible refine Calls.mono (HP.out _ (hKT.out.at hL0.bl kKT)) ?_
 rintro e x7 ⟨rfl, hb⟩
 replace hL0 := hL0.call hb
 clear hb
 replace hL0 := (hL0.new rfl [.int .u64 ((zl r.num : Nat) : Int), .string (zh r.num), .bool (zs r.num), .int .u64 ((lo (fe r) : Nat) : Int), .string (hs (fe r))] 34)
 generalize hweq : (x7.alloc (.cells #[.int .u64 ((zl r.num : Nat) : Int), .string (zh r.num), .bool (zs r.num), .int .u64 ((lo (fe r) : Nat) : Int), .string (hs (fe r))] 34)) = x8 at hL0
 go_upto_region 7 with fail
 clear hweq
 obtain ⟨α, iα, F, hF1, hF2⟩ := cls x8
 have hq0 := cls_box hF1 hL0 _ _ List.mem_cons_self
 simp only [cellsC, and_true, Nat.zero_add, Nat.reduceAdd] at hq0
 have hq1 := cls_box hF1 hL0 _ _ (List.mem_cons_of_mem _ List.mem_cons_self)
 simp only [cellsC, and_true, Nat.zero_add, Nat.reduceAdd] at hq1
 refine region_qs 29 (C := fun w' => ∃ x, w' = F x) (by kernel_rfl) (by kernel_rfl) (cls_drew hF2) ?_
 simp only [List.take_succ_cons, List.take_zero, List.drop_succ_cons, List.drop_zero, List.take_nil, List.drop_nil]
 repeat (go_big_quiet_step (first | fail | (go_at_call 34; with_reducible exact cls_call hF1 hF2 HS.out _)))
 refine wpQuiet_nil ?_
 rintro wq ⟨xq, rfl⟩
 replace hL0 := hL0.call (hF1 xq)
 clear  hq0 hq1 hF2
 generalize F xq = x9 at hL0 ⊢
 clear hF1 xq iα F α
 go_wp2_with fail
 with_reducible refine Calls.mono (HW.out _ (hKT.out.at hL0.bl kKT)) ?_
 rintro e x10 ⟨rfl, hb⟩
 replace hL0 := hL0.call hb
 clear hb
 go_wp2_with fail
 exact bodyPost_ret (v := .bool true) (by simp [results, Tryz.results7, go_sem]) rfl ⟨rfl, hL0.bl⟩
end Go.Proofs.YtahfcciihkkegaaGreatDoor
namespace Go.Proofs.YtahfcciihkkegaaGreatDoor
open Go.RowKit
open Go.Lib (decDigits)
theorem dpair (v u : Value) (l k : List Nat) : Keeps (fun w => Ws w v l ∧ Ws w u k) := Keeps.and (Keeps.ws v l) (Keeps.ws u k)
theorem w64w (x : Int) (h1 : -9223372036854775808 ≤ x) (h2 : x < 9223372036854775808) : wrap64 x = x := by unfold wrap64; omega
theorem widx (p l j : Nat) (h : p + 1 < l) (hl : l ≤ 10000) (hj : j = l - p - 1) : IntKind.i64.wrap ((p : Int) + 1) = (p : Int) + 1 ∧ wrap64 ((p : Int) + 1) = (p : Int) + 1 ∧ decide ((p : Int) + 1 < (l : Int)) = true ∧
  IntKind.i64.wrap ((l : Int) - (p : Int)) = (l : Int) - (p : Int) ∧ wrap64 ((l : Int) - (p : Int)) = (l : Int) - (p : Int) ∧ IntKind.i64.wrap ((l : Int) - (p : Int) - 1) = (j : Int) ∧ wrap64 ((l : Int) - (p : Int) - 1) = (j : Int) ∧ j < l ∧ (0 : Int) ≤ (j : Int) ∧ (j : Int) < (l : Int) := by
 have e : (l : Int) - (p : Int) - 1 = (j : Int) := by omega
 refine ⟨i64w _ (by omega) (by omega), w64w _ (by omega) (by omega), decide_eq_true (by omega), i64w _ (by omega) (by omega), w64w _ (by omega) (by omega), ?_, ?_, by omega, by omega, by omega⟩
 ·rw [e]; exact i64w _ (by omega) (by omega)
 ·rw [e]; exact w64w _ (by omega) (by omega)
/-- Parse reads what Text writes. -/
theorem parse_decT (z : Int) (p : Nat) (hz : dI z ≤ 100) (hp : p ≤ 100) (w : World) (hM : MaxL w) :
  Calls Tryz.prog 19 #[.string ⟨(decT z p).toArray⟩] w fun e w' => e = .returned (.tuple #[fracV (mkRat z (10 ^ p)), .int .i64 0]) ∧ Below w.heap.size w w' := by
 have hv := dv_text z.natAbs p
 obtain ⟨hd0, hd1⟩ := dv_head hv
 have hm : (digs (z.natAbs / 10 ^ p)).length ≤ 100 := Nat.le_trans (digs_mono (Nat.div_le_self _ _)) hz
 have hb := dec_len_bound hm (by decide)
 have ht := tail_length z.natAbs p
 have hlen : (decDigits (z.natAbs / 10 ^ p) ++ tailT z.natAbs p).length ≤ 2200 := by
  rw [List.length_append, ht]; split <;> omega
 by_cases hn : z < 0
 ·have e : decT z p = 45 :: (decDigits (z.natAbs / 10 ^ p) ++ tailT z.natAbs p) := by unfold decT; rw [if_pos hn]; rfl
  have h := parseD true (decT z p) _ _ _ (.inl ⟨rfl, e⟩) hv (by rw [e, List.length_cons]; omega) hp (fun _ => by omega) w hM
  rw [if_pos rfl, show -(z.natAbs : Int) = z by omega] at h
  exact h
 ·have e : decT z p = decDigits (z.natAbs / 10 ^ p) ++ tailT z.natAbs p := by unfold decT; rw [if_neg hn]; rfl
  have h := parseD false (decT z p) _ _ _ (.inr ⟨rfl, e, by rw [e]; exact hd1⟩) hv (by rw [e]; omega) hp (fun q => by cases q) w hM
  rw [if_neg (by decide), show (z.natAbs : Int) = z by omega] at h
  exact h
theorem decT_ne (z : Int) (p : Nat) : 0 < (decT z p).length := by
 unfold decT
 have := dec_length_pos (z.natAbs / 10 ^ p)
 rw [List.length_append, List.length_append]; omega
theorem ztxt_decT (z : Int) : ztxt z = ⟨(decT z 0).toArray⟩ := by
 unfold ztxt decT txt tailT
 rw [if_neg (show ¬ 0 < 0 by decide), Nat.pow_zero, Nat.div_one, List.append_nil]
 by_cases h : z < 0
 ·rw [if_pos h, if_pos h]
  show (⟨[45].toArray⟩ : ByteArray) ++ ⟨(decDigits z.natAbs).toArray⟩ = _
  rw [ByteArray.mk_append_mk]
 ·rw [if_neg h, if_neg h]; rfl
theorem head_eq (l : List UInt8) (h : 0 < l.length) : decide (l.head? = some 45) = (((l[0].toNat : Nat) : Int) == 45) := by
 cases l with
 | nil => simp at h
 | cons c r =>
  simp only [List.head?_cons, Option.some.injEq, List.getElem_cons_zero]
  by_cases e : c = 45
  ·subst e; rfl
  ·have : c.toNat ≠ 45 := fun q => e (UInt8.toNat_inj.1 q)
   rw [decide_eq_false e]
   symm; rw [beq_eq_false_iff_ne]; omega
theorem get_mk (l : List UInt8) (i : Nat) (h : i < (ByteArray.mk l.toArray).size) (h' : i < l.length) : (ByteArray.mk l.toArray)[i]'h = l[i]'h' := rfl
attribute [local irreducible] decT toI rnd tenQ tailT
set_option maxHeartbeats 8000000 in
theorem dback_any (sx : Bool) (ax qx : Option Addr) (nx cx mx dx : Nat) (lx kx : List Nat) (p8 v8 : Int) (hp8 : 0 ≤ p8 ∧ p8 < 256) (hv8 : 0 ≤ v8 ∧ v8 < 256) (w : World) (hw : KD w) (hwx : Ws w (.slice ax nx cx) lx) (hvx : Ws w (.slice qx mx dx) kx) :
  Calls Tryz.prog 7 #[.agg #[.bool sx, .slice ax nx cx, .slice qx mx dx], .int .u8 p8, .int .u8 v8] w fun xe w' => xe = .returned (.bool true) ∧ Below w.heap.size w w' := by
 have e1 := hwx.len
 have e2 := hvx.len
 have T {n : Nat} (h : 5 < n) : decide ((5 : Int) < ((n : Nat) : Int)) = true ∧ decide (5 < n) = true := ⟨decide_eq_true (by omega), decide_eq_true h⟩
 have F {n : Nat} (h : ¬ 5 < n) : decide ((5 : Int) < ((n : Nat) : Int)) = false ∧ decide (5 < n) = false := ⟨decide_eq_false (by omega), decide_eq_false h⟩
 by_cases h1 : 5 < nx
 ·exact dback_big0 sx ax qx nx cx mx dx p8 v8 KD KD.keeps dworks_any (T h1).1 (T h1).2 w hw
 by_cases h2 : 5 < mx
 ·exact dback_big1 sx ax qx nx cx mx dx p8 v8 KD KD.keeps dworks_any (F h1).1 (F h1).2 (T h2).1 (T h2).2 w hw
 have sa : Sz (gmade sx lx kx) 6 := gmade_sz (by omega) hwx hvx (by omega) (by omega)
 have GX : ∀ w, (Ws w (.slice ax nx cx) lx ∧ Ws w (.slice qx mx dx) kx) → _ := fun w h => gof_any sx ax qx nx cx mx dx lx kx (by omega) (by omega) w h.1 h.2
 generalize gmade sx lx kx = q at *
 obtain ⟨p, hp, hp100⟩ : ∃ p : Nat, p8.tmod 101 = (p : Int) ∧ p ≤ 100 := by
  refine ⟨(p8 % 101).toNat, ?_, by omega⟩
  rw [Int.tmod_eq_emod_of_nonneg hp8.1]; omega
 obtain ⟨v, hv, hv1⟩ : ∃ v : Int, 1 + v8.tmod 3 = v ∧ (1 ≤ v ∧ v ≤ 3) := by
  refine ⟨_, rfl, ?_⟩
  rw [Int.tmod_eq_emod_of_nonneg hv8.1]; omega
 have st := sa.mul (ten_sz hp100)
 obtain ⟨z, hz⟩ : ∃ z, z = toI v (q * tenQ p) := ⟨_, rfl⟩
 have hzd : dI z ≤ 12 := by rw [hz]; exact toI_d v st
 have HR := fun w => roundD q p v 6 sa (by omega) hp100 hv1 w
 have HT : ∀ w, KD w → Calls Tryz.prog 14 #[fracV q, .int .i64 (p : Int), .int .i64 v] w fun e w' => e = .returned (.tuple #[.string ⟨(decT z p).toArray⟩, .int .i64 0]) ∧ Below w.heap.size w w' := fun w h => by rw [hz]; exact textD q p v 6 sa (by omega) hp100 hv1 w h.1
 have HP := fun w (h : KD w) => parse_decT z p (by omega) hp100 w h.2
 have hr := rnd_mk v p q
 rw [← hz] at hr
 have hneg := rnd_neg_iff v p q
 rw [← hz] at hneg
 rw [hr] at HR hneg
 have HS := signF (mkRat z (10 ^ p))
 have g2 : decide (sgnQ (mkRat z (10 ^ p)) < 0) = decide (z < 0) := by rw [sgn_neg']; exact decide_eq_decide.2 hneg
 have hl0 := decT_ne z p
 have hs : (ByteArray.mk (decT z p).toArray).size = (decT z p).length := by simp [ByteArray.size]
 have g1 := head_eq (decT z p) hl0
 have hh := decT_head z p
 have hlb : (decT z p).length ≤ 10000 := by
  have hb := dec_len_bound (Nat.le_trans (digs_mono (Nat.div_le_self z.natAbs (10 ^ p))) hzd) (by decide)
  have ht := tail_length z.natAbs p
  unfold decT
  rw [List.length_append, List.length_append, ht]
  split <;> split <;> simp <;> omega
 have hget : (ByteArray.mk (decT z p).toArray)[0]'(by rw [hs]; exact hl0) = (decT z p)[0] := get_mk _ 0 _ _
 have y1 : (((decT z p).length : Int) == 0) = false := by rw [beq_eq_false_iff_ne]; omega
 have y2 : ((decT z p).length == 0) = false := by rw [beq_eq_false_iff_ne]; omega
 have y3 : ¬ (decT z p).length = 0 := by omega
 have y4 : (0 : Int) < ((decT z p).length : Int) := by omega
 have wp := i64w p8 (by omega) (by omega)
 have wv := i64w v8 (by omega) (by omega)
 have wv2 : IntKind.i64.wrap (1 + v8.tmod 3) = v := by rw [hv]; exact i64w v (by omega) (by omega)
 have wv3 : wrap64 (1 + v8.tmod 3) = v := by rw [hv]; exact w64w v (by omega) (by omega)
 have hK := dpair (.slice ax nx cx) (.slice qx mx dx) lx kx
 have hpl := decT_length z p
 have hpp := decT_point z p
 have hX0 : p = 0 → ztxt z = ⟨(decT z p).toArray⟩ := fun h => by rw [h]; exact ztxt_decT z
 generalize decT z p = L at *
 replace hz := Lib.hid hz
 replace hr := Lib.hid hr
 rcases Nat.eq_zero_or_pos p with h0 | h0
 ·subst h0
  have hd : (mkRat z (10 ^ 0)) = (z : Rat) := by rw [Nat.pow_zero, Rat.mkRat_one]
  have HH := wholeF (mkRat z (10 ^ 0))
  rw [show decide ((mkRat z (10 ^ 0)).den = 1) = true by rw [hd]; exact decide_eq_true (Rat.den_intCast _)] at HH
  have HX : ∀ w, KD w → Calls Tryz.prog 35 #[fracV (mkRat z (10 ^ 0))] w fun e w' => e = .returned (.string ⟨(L).toArray⟩) ∧ Below w.heap.size w w' := fun w h => by
   have sz : Sz (mkRat z (10 ^ 0)) 12 := by rw [hd]; exact Sz.int hzd (by omega)
   have := textF (mkRat z (10 ^ 0)) 12 sz (by omega) w h.1
   rw [show qtxt (mkRat z (10 ^ 0)) = ⟨(L).toArray⟩ by rw [← hX0 rfl]; exact qt_int (by rw [hd]; exact Rat.den_intCast _) (by rw [hd]; exact Rat.num_intCast _)] at this
   exact this
  by_cases hz0 : z < 0
  ·rw [decide_eq_true (hh.2 hz0)] at g1
   rw [decide_eq_true hz0] at g2
   exact dback_tz sx ax qx nx cx mx dx p8 v8 _ _ v _ 0 0 q _ _ _ 0 _ 0 _ hK GX HR KD KD.keeps HT HP HS HH HX dworks_any (F h1).1 (F h1).2 (F h2).1 (F h2).2 wp hp wv rfl wv2 wv3 hs y1 y2 y3 y4 (by rw [hs]; exact hl0) hget g1.symm g2 rfl w ⟨hwx, hvx⟩ hw
  ·rw [decide_eq_false (fun h => hz0 (hh.1 h))] at g1
   rw [decide_eq_false hz0] at g2
   exact dback_fz sx ax qx nx cx mx dx p8 v8 _ _ v _ 0 0 q _ _ _ 0 _ 0 _ hK GX HR KD KD.keeps HT HP HS HH HX dworks_any (F h1).1 (F h1).2 (F h2).1 (F h2).2 wp hp wv rfl wv2 wv3 hs y1 y2 y3 y4 (by rw [hs]; exact hl0) hget g1.symm g2 rfl w ⟨hwx, hvx⟩ hw
 ·replace hpl := hpl h0
  replace hpp := hpp h0
  obtain ⟨j, hj⟩ : ∃ j, j = (L).length - p - 1 := ⟨_, rfl⟩
  rw [← hj] at hpp
  have hjl : j < (L).length := by omega
  have hjs : j < (ByteArray.mk (L).toArray).size := by rw [hs]; exact hjl
  have hg2 : (ByteArray.mk L.toArray)[j]'hjs = 46 := by
   rw [get_mk L j hjs hjl]
   rw [List.getElem?_eq_getElem hjl] at hpp
   exact Option.some.inj hpp
  have n0 : ((p : Int) == 0) = false := beq_eq_false_iff_ne.2 (fun e => Nat.ne_of_gt h0 (Int.ofNat.inj e))
  obtain ⟨a1, a2, a3, a4, a5, a6, a7, -, j0, j1⟩ := widx p L.length j hpl hlb hj
  by_cases hz0 : z < 0
  ·rw [decide_eq_true (hh.2 hz0)] at g1
   rw [decide_eq_true hz0] at g2
   exact dback_tp sx ax qx nx cx mx dx p8 v8 _ _ v _ _ _ q _ _ _ j _ 46 _ hK GX HR KD KD.keeps HT HP HS dworks_any (F h1).1 (F h1).2 (F h2).1 (F h2).2 wp hp wv rfl wv2 wv3 hs y1 y2 y3 y4 (by rw [hs]; exact hl0) hget g1.symm g2 n0 a1 a2 a3 a4 a5 a6 a7 hjl j0 j1 hjs hg2 rfl w ⟨hwx, hvx⟩ hw
  ·rw [decide_eq_false (fun h => hz0 (hh.1 h))] at g1
   rw [decide_eq_false hz0] at g2
   exact dback_fp sx ax qx nx cx mx dx p8 v8 _ _ v _ _ _ q _ _ _ j _ 46 _ hK GX HR KD KD.keeps HT HP HS dworks_any (F h1).1 (F h1).2 (F h2).1 (F h2).2 wp hp wv rfl wv2 wv3 hs y1 y2 y3 y4 (by rw [hs]; exact hl0) hget g1.symm g2 n0 a1 a2 a3 a4 a5 a6 a7 hjl j0 j1 hjs hg2 rfl w ⟨hwx, hvx⟩ hw
end Go.Proofs.YtahfcciihkkegaaGreatDoor
namespace Go.Proofs.YtahfcciihkkegaaGreatDoor
open Go.ChangeShapes Go.WideShapes Go.ChangeAt Go.RowKit
theorem cells62 : Tryz.prog.cellsOf 56 = 1 := by kernel_rfl
theorem wide_u32 {n : Int} (h : (Lit.int .u32 n).wf = true) : 0 ≤ n ∧ n ≤ 4294967295 := bounds_u32 h
end Go.Proofs.YtahfcciihkkegaaGreatDoor
namespace Go.Proofs.YtahfcciihkkegaaGreatDoor
open Go.ChangeShapes Go.WideShapes Go.ChangeAt Go.RowKit Go.Joins
theorem cellsZ : Tryz.prog.cellsOf 24 = 2 := by kernel_rfl
theorem ws_of_trod {H : Type} {enc : TypeId × Value → H} {W : World} {v : Value} {y : DataW H × List MemPlace} {fuel : Nat} (hf : DataW.trod enc Tryz.prog W 0 (fun _ => true) true fuel 22 [v] = some y) : ∃ a n c l, v = .slice a n c ∧ Ws W v l := by
 rcases open_ints Tryz.underlying22 Tryz.underlying56 cells62 hf with ⟨hcs, hx⟩ | ⟨a, len', cap', zs, hcs, _, hl, hm, hz, hx, hcell, hwz⟩
 ·simp only [List.cons.injEq, and_true] at hcs
  subst hcs
  exact ⟨none, 0, 0, [], rfl, .inl ⟨_, _, rfl, rfl⟩⟩
 ·simp only [List.cons.injEq, and_true] at hcs
  subst hcs
  simp only [if_true] at hz
  refine ⟨some a, len', cap', ?_⟩
  by_cases h0 : len' = 0
  ·subst h0
   exact ⟨[], rfl, .inl ⟨_, _, rfl, rfl⟩⟩
  ·have hll : ((zs.take len').map Int.toNat).length = len' := by simp; omega
   refine ⟨(zs.take len').map Int.toNat, rfl, .inr ⟨a, cap', by rw [hll], ?_, ?_, ?_⟩⟩
   ·intro x hx
    obtain ⟨z, hz1, rfl⟩ := List.mem_map.1 hx
    have := wide_u32 (hwz z (List.mem_of_mem_take hz1))
    omega
   ·intro i hi
    rw [hll] at hi
    have hi2 : i < zs.length := by omega
    have e := hcell i hi2
    rw [show zs.getD i 0 = zs[i] by simp [List.getD, hi2]] at e
    have hw := wide_u32 (hwz zs[i] (List.getElem_mem hi2))
    rw [e]
    simp only [List.getElem_map, List.getElem_take]
    rw [Int.toNat_of_nonneg hw.1]
   ·have e := hcell 0 (by omega)
    have := World.block_lt_of_cell? W _ e
    rw [show (a.add 0).block = a.block from by unfold Addr.add; split <;> rfl] at this
    exact this
end Go.Proofs.YtahfcciihkkegaaGreatDoor
namespace Go.Proofs.YtahfcciihkkegaaGreatDoor
open Go.ChangeShapes Go.WideShapes Go.ChangeAt Go.RowKit Go.Joins
theorem cellsG : Tryz.prog.cellsOf 26 = 3 := by kernel_rfl
theorem cellsW : Tryz.prog.cellsOf 22 = 1 := by kernel_rfl
theorem cellsB : Tryz.prog.cellsOf 4 = 1 := by kernel_rfl
set_option maxRecDepth 100000 in
theorem great_of {H : Type} {enc : TypeId × Value → H} {W : World} {base : Nat} {v : Value} {d : DataW H} {p : List MemPlace} (hv : Value.okWide Tryz.prog W .any base 26 v)
  (h : DataW.Trod enc Tryz.prog W 0 (fun _ => true) true 26 v d p) : ∃ s a q n c m d l k, v = .agg #[.bool s, .slice a n c, .slice q m d] ∧ Ws W (.slice a n c) l ∧ Ws W (.slice q m d) k := by
 obtain ⟨cs, rfl, hsz⟩ := okWide_struct Tryz.underlying26 hv
 obtain ⟨c0, c1, c2, rfl⟩ := array3 (hsz.trans cellsG)
 obtain ⟨fuel, hf⟩ := h
 obtain ⟨y0, y1, n, hx, _, h0, h1⟩ := trod_struct2 Tryz.underlying26 hf
 simp only [cellsZ, cellsW] at h0 h1
 obtain ⟨z0, z1, m, hz, _, g0, g1⟩ := trod_struct2 Tryz.underlying24 h0
 simp only [cellsB, cellsW] at g0 g1
 obtain ⟨s, e0, -⟩ := DataW.trod_bool Tryz.underlying4 g0
 obtain ⟨a1, n1, k1, l1, r1, w1⟩ := ws_of_trod g1
 obtain ⟨a2, n2, k2, l2, r2, w2⟩ := ws_of_trod h1
 simp [Value.cells] at e0 r1 r2
 subst e0 r1 r2
 exact ⟨s, a1, a2, n1, k1, n2, k2, l1, l2, rfl, w1, w2⟩
end Go.Proofs.YtahfcciihkkegaaGreatDoor
