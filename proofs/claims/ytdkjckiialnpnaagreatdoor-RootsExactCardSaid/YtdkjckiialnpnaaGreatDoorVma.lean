/-
  The law answers true at every input, and leaves its arguments as they were: a part of the proof. CONDITIONS: the package-level tables start as the program's text lays them (the card ties them).
-/
import Derived.Test.YtdkjckiialnpnaaGreatDoorZrd
import Derived.Test.YtdkjckiialnpnaaGreatDoorTie
import Derived.Test.YtdkjckiialnpnaaGreatDoorCards
set_option linter.unusedVariables false
set_option linter.unusedSimpArgs false
namespace Go.Proofs.YtdkjckiialnpnaaGreatDoor
open Go.RowKit
attribute [local irreducible] lo hs sm s64 c64 d64 b64 mh ml pd pc qd qc val hiB str cmpI srD lz nb isq
theorem made_lt {l : List Nat} (h : ∀ x ∈ l, x < 4294967296) : made l < Bs ^ l.length := by
 induction l with
 | nil => exact Nat.one_pos
 | cons x l ih =>
  have h1 := ih fun y hy => h y (List.mem_cons_of_mem _ hy)
  have h2 := h x (List.mem_cons_self)
  rw [made, List.length_cons, Nat.pow_succ]
  have hB : 4294967296 * 2 ≤ Bs := by unfold Bs; omega
  have h3 : Bs ^ l.length * (4294967296 * 2) ≤ Bs ^ l.length * Bs := Nat.mul_le_mul_left _ hB
  generalize Bs ^ l.length = X at *
  generalize X * Bs = Y at *
  omega
theorem made_digs {l : List Nat} (h : ∀ x ∈ l, x < 4294967296) : (digs (made l)).length ≤ l.length := digs_length_iff.2 (made_lt h)
set_option maxHeartbeats 2000000 in
set_option maxRecDepth 100000 in
theorem made_row (a : Addr) (c : Nat) (l : List Nat) (hl : l.length ≤ 1000) (w : World) (hw : Wd w a l) :
  Calls Tryz.prog 132 #[.slice (some a) l.length c] w fun e w' => e = .returned (natV (made l)) ∧ Below w.heap.size w w' := by
 obtain ⟨w0, hw0, hR, hO, hb0, hsz0⟩ := boxes2 w (.int .u64 0) (.string ⟨#[]⟩) (.int .u64 0) (.string ⟨#[]⟩) 30
 obtain ⟨n, hn⟩ : ∃ n, n = l.length := ⟨_, rfl⟩
 have hln := hl
 rw [← hn] at hl
 have hM0 : MS w w0 a l 0 := ⟨by rw [lo_small Bs_pos, hs_small Bs_pos]; exact hO, hR, hw.below hb0, hsz0, hb0⟩
 have hab := hw.blk
 have hlt := hw.lt
 clear hw hR hO hb0 hsz0
 go_enter Tryz.func132, Tryz.ntmps132
 simp only [← hn]
 have HNn := Lib.hid hn
 have hst : made (l.drop n) = 0 := by rw [List.drop_eq_nil_of_le (by omega)]; rfl
 replace hst := Lib.hid hst
 clear hn
 go_wp2_with fail
 go_loopw [4] (fun z wr => ∃ (j m : Nat), j ≤ n ∧ z = .int .i64 ((j : Int) - 1) ∧ m = made (l.drop j) ∧ MS w wr a l m) (fun z _ => (intOf z + 1).toNat)
 case atStart => exact ⟨n, 0, Nat.le_refl _, by first | rfl | go_num, hst.out.symm, hM0⟩
 case round =>
  obtain ⟨j, m, hj, rfl, hm, hS⟩ := hrel
  clear hw0 hM0
  have hn := HNn.out
  cases j with
  | zero =>
   rw [List.drop_zero] at hm
   have HM := Lib.hid hm
   obtain ⟨⟨o0, o1, of⟩, ⟨r0, r1, rf⟩, -, hsz, hB⟩ := id hS
   clear hm hS hn
   go_wp2_with fail
   exact bodyPost_ret (v := natV m) (by simp [results, Tryz.results132, go_sem, r0, r1]) rfl ⟨by rw [HM.out], (hB.setCell (by simp <;> omega) _).setCell (by simp <;> omega) _⟩
  | succ i =>
   have hi : i < l.length := by omega
   obtain ⟨x, hx⟩ : ∃ x, x = l[i] := ⟨_, rfl⟩
   have hx32 : x < 4294967296 := by rw [hx]; exact hlt _ (List.getElem_mem hi)
   have hlm : (digs m).length ≤ 1000 := by
    rw [hm]; exact Nat.le_trans (made_digs fun y hy => hlt y (List.mem_of_mem_drop hy)) (by rw [List.length_drop]; omega)
   have hmd : made (l.drop i) = m * 4294967296 + x := by
    rw [List.drop_eq_getElem_cons hi, made, ← hm, ← hx]; omega
   have hdm : ∀ k, (digs (made (l.drop k))).length ≤ 1000 := fun k => Nat.le_trans (made_digs fun y hy => hlt y (List.mem_of_mem_drop hy)) (by rw [List.length_drop]; omega)
   have hxB : x < Bs := by unfold Bs; omega
   have hlx : (digs x).length ≤ 1 := digs_length_iff.2 (by rw [Nat.pow_one]; exact hxB)
   obtain ⟨C, hC⟩ : ∃ C, C = 4294967296 := ⟨_, rfl⟩
   have hCB : C < Bs := by rw [hC]; unfold Bs; omega
   have hlC : (digs C).length ≤ 1 := digs_length_iff.2 (by rw [Nat.pow_one]; exact hCB)
   have HO1 := Lib.hid (fun w => of_val 4294967296 C (by rw [hC]; rfl) hCB w)
   have HO2 := Lib.hid (fun w => of_any x hxB w)
   have HM := Lib.hid (fun w => mul_any m C (by omega) (by omega) w)
   have hlmc : (digs (m * C)).length ≤ 1000 + 1 := digs_mul_le hlm hlC
   have HA := fun w => add_any (m * C) x (by omega) (by omega) w
   rw [show m * C + x = made (l.drop i) by rw [hmd, hC]] at HA
   obtain ⟨m2, hm2⟩ : ∃ m2, m2 = made (l.drop i) := ⟨_, rfl⟩
   rw [← hm2] at HA
   generalize m * C = mc at *
   replace HA := Lib.hid HA
   have HM2 := Lib.hid hm2
   have hS' := hS.drew
   have h0 := hS.cells i x hi hx
   have h0' := hS'.cells i x hi hx
   have HX := Lib.hid hx
   have e1 : (((i + 1 : Nat) : Int) - 1) = (i : Int) := by omega
   have hwx : IntKind.u64.wrap (x : Int) = (x : Int) := wrapN _ (by omega)
   have hin : (i : Int) < (n : Int) := by omega
   clear hn hx hm hm2 hmd hdm hlm hlmc hlx hlC hC hCB hxB hx32 hlt
   rw [e1]
   go_wp2_with fail
   obtain ⟨o0, o1, of⟩ := id hS'.O
   obtain ⟨g0, g1, g2⟩ := id h0'
   go_region_with
    (first
     | (go_at_call 63; ((with_reducible refine Calls.mono (HO1.out _) ?_); rintro e w1 ⟨rfl, hb1⟩; have hS1 : MS w w1 a l m := (by first | exact hS'.below hb1 | exact hS1.below hb1 | exact hS2.below hb1 | exact hS3.below hb1 | exact hS4.below hb1); obtain ⟨o01, o11, of1⟩ := id hS1.O; have h1 := (hS1.cells i x hi HX.out).2.2))
     | (go_at_call 63; ((with_reducible refine Calls.mono (HO2.out _) ?_); rintro e w2 ⟨rfl, hb2⟩; have hS2 : MS w w2 a l m := (by first | exact hS'.below hb2 | exact hS1.below hb2 | exact hS2.below hb2 | exact hS3.below hb2 | exact hS4.below hb2); obtain ⟨o02, o12, of2⟩ := id hS2.O; have h2 := (hS2.cells i x hi HX.out).2.2))
     | (go_at_call 91; ((with_reducible refine Calls.mono (HM.out _) ?_); rintro e w3 ⟨rfl, hb3⟩; have hS3 : MS w w3 a l m := (by first | exact hS'.below hb3 | exact hS1.below hb3 | exact hS2.below hb3 | exact hS3.below hb3 | exact hS4.below hb3); obtain ⟨o03, o13, of3⟩ := id hS3.O; have h3 := (hS3.cells i x hi HX.out).2.2))
     | (go_at_call 77; ((with_reducible refine Calls.mono (HA.out _) ?_); rintro e w4 ⟨rfl, hb4⟩; have hS4 : MS w w4 a l m := (by first | exact hS'.below hb4 | exact hS1.below hb4 | exact hS2.below hb4 | exact hS3.below hb4 | exact hS4.below hb4); obtain ⟨o04, o14, of4⟩ := id hS4.O; have h4 := (hS4.cells i x hi HX.out).2.2; have hS5 := hS4.put hab m2; have h5 := (hS5.cells i x hi HX.out).2.2)))
   all_goals (
    have HS5 := Lib.hid hS5
    clear hS5 h5 hS h0 h0' hS' o0 o1 of
    go_wp2_with fail
    go_roundw
    case rel => exact ⟨i, m2, by omega, by first | rfl | go_num, HM2.out, HS5.out⟩
    case measure => simp [intOf])
set_option maxHeartbeats 2000000 in
set_option maxRecDepth 100000 in
theorem made_nil (ao : Option Addr) (c : Nat) (w : World) :
  Calls Tryz.prog 132 #[.slice ao 0 c] w fun e w' => e = .returned (natV 0) ∧ Below w.heap.size w w' := by
 obtain ⟨w0, hw0, hR, hO, hb0, hsz0⟩ := boxes2 w (.int .u64 0) (.string ⟨#[]⟩) (.int .u64 0) (.string ⟨#[]⟩) 30
 obtain ⟨o0, o1, of⟩ := id hO
 obtain ⟨r0, r1, rf⟩ := id hR
 rw [natV_zero]
 go_enter Tryz.func132, Tryz.ntmps132
 go_wp2_with fail
 go_loopw [4] (fun z wr => z = .int .i64 (-1) ∧ wr = w0) (fun z _ => (intOf z + 1).toNat)
 case atStart => exact ⟨rfl, rfl⟩
 case round =>
  obtain ⟨rfl, rfl⟩ := hrel
  go_wp2_with fail
  exact bodyPost_ret (v := .agg #[.int .u64 0, .string ⟨#[]⟩]) (by simp [results, Tryz.results132, go_sem, r0, r1]) rfl ⟨rfl, (hb0.setCell (by simp <;> omega) _).setCell (by simp <;> omega) _⟩
theorem made_any (v : Value) (l : List Nat) (hl : l.length ≤ 1000) (w : World) (h : Ws w v l) :
  Calls Tryz.prog 132 #[v] w fun e w' => e = .returned (natV (made l)) ∧ Below w.heap.size w w' := by
 rcases h with ⟨ao, c, rfl, rfl⟩ | ⟨a, c, rfl, h2⟩
 ·exact made_nil ao c w
 ·exact made_row a c l hl w h2
end Go.Proofs.YtdkjckiialnpnaaGreatDoor
namespace Go.Proofs.YtdkjckiialnpnaaGreatDoor
open Go.RowKit
theorem Keeps.ws (v : Value) (l : List Nat) : Keeps (fun w => Ws w v l) := fun _ _ hb h => h.below hb
theorem seg_callK {α : Type} {F : α → World} {x : World} {K : World → Prop} (hK : Keeps K) (h1 : ∀ y, Below x.drew.heap.size x.drew (F y)) (h2 : ∀ x W, Below (F x).heap.size (F x) W → ∃ y, W = F y) (hk : K x) {P : Program} {f : FuncId} {args : Array Value} {v : Value}
  (h : ∀ w, K w → Calls P f args w fun e w' => e = .returned v ∧ Below w.heap.size w w') (y : α) : Calls P f args (F y) fun e w'' => e = .returned v ∧ ∃ y, w'' = F y :=
 (h (F y) (hK _ _ (below_drew (h1 y)) hk)).mono fun _ _ ⟨he, hb⟩ => ⟨he, h2 y _ hb⟩
end Go.Proofs.YtdkjckiialnpnaaGreatDoor
namespace Go.Proofs.YtdkjckiialnpnaaGreatDoor
open Go.RowKit
attribute [local irreducible] lo hs sm s64 c64 d64 b64 mh ml pd pc qd qc val hiB str cmpI srD lz nb isq zl zh zs
theorem cls_callW {α : Type} {F : α → World} {w0 : World} (h1 : ∀ x, Below w0.heap.size w0 (F x)) (h2 : ∀ W, Below w0.heap.size w0 W → ∃ x, W = F x) {v0 : Value} {l : List Nat} (hw : Ws w0 v0 l) {P : Program} {f : FuncId} {args : Array Value} {v : Value}
  (h : ∀ w, Ws w v0 l → Calls P f args w fun e w' => e = .returned v ∧ Below w.heap.size w w') (x : α) : Calls P f args (F x) fun e w'' => e = .returned v ∧ ∃ y, w'' = F y :=
 (h (F x) (hw.below (h1 x))).mono fun _ _ ⟨he, hb⟩ => ⟨he, h2 _ ((h1 x).trans (hb.mono (h1 x).size))⟩
/-- An integer as plain data. -/
def zmade (s : Bool) (l : List Nat) : Int := if s then -(made l : Int) else (made l : Int)
theorem zmade_dI {s : Bool} {l : List Nat} (h : ∀ x ∈ l, x < 4294967296) : dI (zmade s l) ≤ l.length := by
 unfold zmade
 cases s
 ·simp only [Bool.false_eq_true, if_false, dI_nat]; exact made_digs h
 ·simp only [if_true, dI_neg, dI_nat]; exact made_digs h
set_option maxHeartbeats 4000000 in
set_option maxRecDepth 100000 in
theorem zof_any (s : Bool) (a : Option Addr) (n c : Nat) (l : List Nat) (hl : l.length ≤ 1000) (w : World) (hw : Ws w (.slice a n c) l) :
  Calls Tryz.prog 51 #[.agg #[.bool s, .slice a n c]] w fun e w' => e = .returned (intV (zmade s l)) ∧ Below w.heap.size w w' := by
 have hL0 : GL w w [] := GL.start w
 have HM := Lib.hid (fun w h => made_any (.slice a n c) l hl w h)
 have HF := Lib.hid (fun w => fromI s (made l) (zmade s l) rfl w)
 generalize hz : zmade s l = z at *
 replace hz := Lib.hid hz
 generalize made l = m at *
 clear hl
 replace hL0 := ((hL0.new rfl [.bool s, .slice a n c] 48).new (K := w.heap.size + 1) (szA _ _) [.int .u64 0, .string ⟨#[]⟩, .bool false] 32)
 generalize hweq : ((w.alloc (.cells #[.bool s, .slice a n c] 48)).alloc (.cells #[.int .u64 0, .string ⟨#[]⟩, .bool false] 32)) = x1 at hL0
 have hW := Lib.hid (hw.below hL0.bl)
 clear hw
 go_enter Tryz.func51, Tryz.ntmps51
 have hA := hL0.fc
 simp only [fcG, cellsF, neK, and_true, ne_eq, Nat.zero_add, Nat.reduceAdd] at hA
 go_upto_region 1 with fail
 clear hA
 clear hweq
 obtain ⟨α, iα, F, hF1, hF2⟩ := cls x1
 have hq := GL.fcC hF1 hL0
 simp only [fcC, cellsC, and_true, Nat.zero_add, Nat.reduceAdd] at hq
 refine region_qs 6 (C := fun w' => ∃ x, w' = F x) (by kernel_rfl) (by kernel_rfl) (cls_drew hF2) ?_
 simp only [List.take_succ_cons, List.take_zero, List.drop_succ_cons, List.drop_zero, List.take_nil, List.drop_nil]
 repeat (go_big_quiet_step (first | fail | (go_at_call 132; with_reducible exact cls_callW hF1 hF2 hW.out HM.out _) | (go_at_call 93; with_reducible exact cls_call hF1 hF2 HF.out _)))
 refine wpQuiet_nil ?_
 rintro wq ⟨xq, rfl⟩
 replace hL0 := hL0.call (hF1 xq)
 clear hq hF2
 generalize F xq = x2 at hL0 ⊢
 clear hF1 xq iα F α
 have hA := hL0.fc
 simp only [fcG, cellsF, neK, and_true, ne_eq, Nat.zero_add, Nat.reduceAdd] at hA
 have hP := hL0.put 0 (w.heap.size + 1) _ rfl [.int .u64 ((zl z : Nat) : Int), .string (zh z), .bool (zs z)] rfl
 simp only [setAll, List.set_cons_zero, List.set_cons_succ] at hP
 generalize hput1 : (((x2.setCell ⟨w.heap.size + 1, 0, none⟩ (.int .u64 ((zl z : Nat) : Int))).setCell ⟨w.heap.size + 1, 1, none⟩ (.string (zh z))).setCell ⟨w.heap.size + 1, 2, none⟩ (.bool (zs z))) = x3 at hP
 have hB1 := hP.fc
 simp only [fcG, cellsF, neK, and_true, ne_eq, Nat.zero_add, Nat.reduceAdd] at hB1
 replace hL0 := hP
 go_wp2_with fail
 exact bodyPost_ret (v := intV z) (by simp [results, Tryz.results51, go_sem, hB1]) rfl ⟨rfl, hL0.bl⟩
end Go.Proofs.YtdkjckiialnpnaaGreatDoor
namespace Go.Proofs.YtdkjckiialnpnaaGreatDoor
open Go.RowKit
attribute [local irreducible] lo hs sm s64 c64 d64 b64 mh ml pd pc qd qc val hiB str cmpI srD lz nb isq zl zh zs
end Go.Proofs.YtdkjckiialnpnaaGreatDoor
namespace Go.Proofs.YtdkjckiialnpnaaGreatDoor
open Go.RowKit
attribute [local irreducible] lo hs zl zh zs
end Go.Proofs.YtdkjckiialnpnaaGreatDoor
namespace Go.Proofs.YtdkjckiialnpnaaGreatDoor
open Go.RowKit
attribute [local irreducible] lo hs sm s64 c64 d64 b64 mh ml pd pc qd qc val hiB str cmpI srD lz nb isq zl zh zs
set_option maxHeartbeats 4000000 in
set_option maxRecDepth 100000 in
theorem gden_w (s : Bool) (a b : Option Addr) (n c m d : Nat) (w : World) :
  Calls Tryz.prog 79 #[.agg #[.bool s, .slice a n c, .slice b m d]] w fun xe w' => xe = .returned (.agg #[.bool false, .slice b m d]) ∧ Below w.heap.size w w' := by
 have hL0 : GL w w [] := GL.start w
 replace hL0 := ((hL0.new rfl [.bool s, .slice a n c, .slice b m d] 50).new (K := w.heap.size + 1) (szA _ _) [.bool false, .slice b m d] 48)
 generalize hweq : ((w.alloc (.cells #[.bool s, .slice a n c, .slice b m d] 50)).alloc (.cells #[.bool false, .slice b m d] 48)) = x1 at hL0
 go_enter Tryz.func79, Tryz.ntmps79
 have hN0 := cells_of _ 0 [] rfl (hL0.get _ _ List.mem_cons_self)
 simp only [cellsF, and_true, Nat.zero_add, Nat.reduceAdd] at hN0
 have hN1 := cells_of _ 0 [] rfl (hL0.get _ _ (List.mem_cons_of_mem _ List.mem_cons_self))
 simp only [cellsF, and_true, Nat.zero_add, Nat.reduceAdd] at hN1
 go_wp2_with fail
 exact bodyPost_ret (v := .agg #[.bool false, .slice b m d]) (by simp [results, Tryz.results79, go_sem, hN0 ,hN1]) rfl ⟨rfl, hL0.bl⟩
set_option maxHeartbeats 4000000 in
set_option maxRecDepth 100000 in
theorem gof_w (s : Bool) (a b : Option Addr) (n c m d : Nat) (y z x : Int) (p q e : Nat) (K : World → Prop) (hK : Keeps K) (HZ : RK K 51 #[.agg #[.bool s, .slice a n c]] (intV z)) (HD : RT 79 #[.agg #[.bool s, .slice a n c, .slice b m d]] (.agg #[.bool false, .slice b m d])) (L : World → Prop) (hL : Keeps L) (HY : RK L 51 #[.agg #[.bool false, .slice b m d]] (intV y)) (HA : RT 78 #[intV y] (natV p)) (HO : RT 63 #[.int .u64 1] (natV 1)) (HP : RT 77 #[natV p, natV 1] (natV q)) (HF : RT 76 #[intV z, natV q] (.tuple #[frV x e, .int .i64 0])) (w : World) (kK : K w) (kL : L w) :
  Calls Tryz.prog 20 #[.agg #[.bool s, .slice a n c, .slice b m d]] w fun xe w' => xe = .returned (frV x e) ∧ Below w.heap.size w w' := by
 have hL0 : GL w w [] := GL.start w
 replace hK := Lib.hid hK
 replace HZ := Lib.hid HZ
 replace HD := Lib.hid HD
 replace hL := Lib.hid hL
 replace HY := Lib.hid HY
 replace HA := Lib.hid HA
 replace HO := Lib.hid HO
 replace HP := Lib.hid HP
 replace HF := Lib.hid HF
 replace hL0 := ((hL0.new rfl [.bool s, .slice a n c, .slice b m d] 50).new (K := w.heap.size + 1) (szA _ _) [.int .u64 0, .string ⟨#[]⟩, .bool false, .int .u64 0, .string ⟨#[]⟩] 34)
 generalize hweq : ((w.alloc (.cells #[.bool s, .slice a n c, .slice b m d] 50)).alloc (.cells #[.int .u64 0, .string ⟨#[]⟩, .bool false, .int .u64 0, .string ⟨#[]⟩] 34)) = x1 at hL0
 go_enter Tryz.func20, Tryz.ntmps20
 go_upto_region 1 with fail
 have kK1 := hK.out.at hL0.bl kK
 have kL1 := hL.out.at hL0.bl kL
 clear hweq
 refine region_gh (by kernel_rfl) (by kernel_rfl) ?_
 refine lex_seg (gl := []) 13 (by kernel_rfl) ?_
 intro α iα F hF1 hF2
 have hq := GL.seg hF1 hL0
 simp only [fcC, cellsC, and_true, Nat.zero_add, Nat.reduceAdd] at hq
 simp only [List.take_succ_cons, List.take_zero, List.drop_succ_cons, List.drop_zero, List.take_nil, List.drop_nil]
 repeat (go_big_quiet_step (first | fail | (go_at_call 51; with_reducible exact seg_callK hK.out hF1 hF2 kK1 HZ.out _) | (go_at_call 79; with_reducible exact seg_call hF2 HD.out _) | (go_at_call 51; with_reducible exact seg_callK hL.out hF1 hF2 kL1 HY.out _) | (go_at_call 78; with_reducible exact seg_call hF2 HA.out _) | (go_at_call 63; with_reducible exact seg_call hF2 HO.out _) | (go_at_call 77; with_reducible exact seg_call hF2 HP.out _) | (go_at_call 76; with_reducible exact seg_call hF2 HF.out _)))
 refine wpQuiet_nil ?_
 clear hq hF1 hF2 iα F α
 refine lex_new [.int .u64 0, .string ⟨#[]⟩, .bool false, .int .u64 0, .string ⟨#[]⟩] 3 34 34 rfl rfl (of_decide_eq_true (by kernel_rfl)) (by kernel_rfl) rfl new_frac ?_
 simp only [Act.put, List.setIfInBounds_toArray, List.set_cons_succ, List.set_cons_zero]
 refine lex_put [.int .u64 ((zl x : Nat) : Int), .string (zh x), .bool (zs x), .int .u64 ((lo e : Nat) : Int), .string (hs e)] [.int .u64 0, .string ⟨#[]⟩, .bool false, .int .u64 0, .string ⟨#[]⟩] 3 34 (.tmp 16) rfl (by kernel_rfl) (by simp [toG, upd]) rfl (fun w k h => put_frac _ _ _ _ _ _ _ _ _ _ w k h) ?_
 simp only [Act.put]
 refine lex_seg (gl := [(3, [.int .u64 ((zl x : Nat) : Int), .string (zh x), .bool (zs x), .int .u64 ((lo e : Nat) : Int), .string (hs e)], true), (3, [.int .u64 0, .string ⟨#[]⟩, .bool false, .int .u64 0, .string ⟨#[]⟩], false)]) 1 (by kernel_rfl) ?_
 intro α iα F hF1 hF2
 have hq := GL.seg hF1 hL0
 simp only [fcC, cellsC, and_true, Nat.zero_add, Nat.reduceAdd] at hq
 simp only [List.take_succ_cons, List.take_zero, List.drop_succ_cons, List.drop_zero, List.take_nil, List.drop_nil]
 repeat (go_big_quiet_step (first | fail | (go_at_call 51; with_reducible exact seg_callK hK.out hF1 hF2 kK1 HZ.out _) | (go_at_call 79; with_reducible exact seg_call hF2 HD.out _) | (go_at_call 51; with_reducible exact seg_callK hL.out hF1 hF2 kL1 HY.out _) | (go_at_call 78; with_reducible exact seg_call hF2 HA.out _) | (go_at_call 63; with_reducible exact seg_call hF2 HO.out _) | (go_at_call 77; with_reducible exact seg_call hF2 HP.out _) | (go_at_call 76; with_reducible exact seg_call hF2 HF.out _)))
 refine wpQuiet_nil ?_
 clear hq hF1 hF2 iα F α
 refine lexG_nil ?_
 intro κ x2 hS
 replace hL0 := hL0.ghs hS [(3, [.int .u64 ((zl x : Nat) : Int), .string (zh x), .bool (zs x), .int .u64 ((lo e : Nat) : Int), .string (hs e)])] (by simp) (by intro p hp; simp only [List.mem_cons, List.not_mem_nil, or_false] at hp; rcases hp with rfl <;> exact ⟨_, by simp only [toG, upd]; rfl⟩)
 simp only [List.map_cons, List.map_nil, List.cons_append, List.nil_append] at hL0
 simp only [over_toG, over_nil, Act.put, List.setIfInBounds_toArray, List.set_cons_succ, List.set_cons_zero]
 clear hS
 generalize κ 3 = k2_3 at *
 clear kK1 kL1
 have hA := hL0.fc
 simp only [fcG, cellsF, neK, and_true, ne_eq, Nat.zero_add, Nat.reduceAdd] at hA
 have hP := hL0.put 1 (w.heap.size + 1) _ rfl [.int .u64 ((zl x : Nat) : Int), .string (zh x), .bool (zs x), .int .u64 ((lo e : Nat) : Int), .string (hs e)] rfl
 simp only [setAll, List.set_cons_zero, List.set_cons_succ] at hP
 generalize hput1 : (((((x2.setCell ⟨w.heap.size + 1, 0, none⟩ (.int .u64 ((zl x : Nat) : Int))).setCell ⟨w.heap.size + 1, 1, none⟩ (.string (zh x))).setCell ⟨w.heap.size + 1, 2, none⟩ (.bool (zs x))).setCell ⟨w.heap.size + 1, 3, none⟩ (.int .u64 ((lo e : Nat) : Int))).setCell ⟨w.heap.size + 1, 4, none⟩ (.string (hs e))) = x3 at hP
 have hB1 := hP.fc
 simp only [fcG, cellsF, neK, and_true, ne_eq, Nat.zero_add, Nat.reduceAdd] at hB1
 replace hL0 := hP
 go_wp2_with fail
 exact bodyPost_ret (v := frV x e) (by simp [results, Tryz.results20, go_sem, hB1]) rfl ⟨rfl, hL0.bl⟩
end Go.Proofs.YtdkjckiialnpnaaGreatDoor
namespace Go.Proofs.YtdkjckiialnpnaaGreatDoor
open Go.RowKit
theorem scale_back (p : Nat) (a : Rat) : a = scaleR p a * (stepR p * stepR p) := by
 have h := stepR_mul p
 unfold scaleR
 have e : a * (twoQ p * twoQ p) * (stepR p * stepR p) = a * ((stepR p * twoQ p) * (stepR p * twoQ p)) := by grind
 rw [e, h]; grind
theorem vv_pos (p : Nat) : 0 < stepR p * stepR p := Rat.mul_pos (stepR_pos p) (stepR_pos p)
theorem sq_mul (z v : Rat) : z * v * (z * v) = z * z * (v * v) := by grind
theorem below_nn (p : Nat) (a : Rat) : 0 ≤ below p a := Rat.mul_nonneg (Rat.natCast_nonneg) (Rat.le_of_lt (stepR_pos p))
theorem below_le (p : Nat) {a : Rat} (h : 0 ≤ a) : below p a * below p a ≤ a := by
 unfold below
 rw [sq_mul]
 conv => rhs; rw [scale_back p a]
 exact Rat.mul_le_mul_of_nonneg_right (rtL_le (scale_nn p h)) (Rat.le_of_lt (vv_pos p))
end Go.Proofs.YtdkjckiialnpnaaGreatDoor
namespace Go.Proofs.YtdkjckiialnpnaaGreatDoor
open Go.RowKit
/-- The bounds are the root itself where it is such a multiple. -/
theorem below_sq (p : Nat) {a r : Rat} (h0 : 0 ≤ r) (h : r * r = a) : below p a ≤ r := by
 have ha : 0 ≤ a := h ▸ Rat.mul_nonneg h0 h0
 have h1 := below_le p ha
 have h2 := below_nn p a
 rw [← h] at h1
 rcases Std.le_total (a := below p (r * r)) (b := r) with h3 | h3
 ·rwa [h] at h3
 ·rw [h] at h3
  rw [h] at h1
  rcases Rat.le_iff_lt_or_eq.1 h3 with h4 | h4
  ·have h5 : 0 < (below p a - r) * (below p a + r) := Rat.mul_pos (by grind) (by grind)
   grind
  ·rw [← h4]; exact Rat.le_refl
theorem rootQ_nn (q : Rat) : 0 ≤ rootQ q := by
 unfold rootQ
 rw [Rat.mkRat_eq_div, Rat.div_def]
 exact Rat.mul_nonneg (Rat.intCast_nonneg.2 (Int.natCast_nonneg _)) (Rat.le_of_lt (Rat.inv_pos.2 (Rat.natCast_pos.2 (isq_pos q.den_pos))))
/-- A number times a square that is not 0 has a root exactly where the number has one. -/
theorem root_times {b a s : Rat} (h : s * s = b) : rootQ (b * (a * a)) = absQ s * absQ a := by
 have e : b * (a * a) = (s * a) * (s * a) := by rw [← h]; grind
 rw [e, rootQ_sq]
 have h2 : (absQ s * absQ a) * (absQ s * absQ a) = (s * a) * (s * a) := by
  have := abs_sq s; have := abs_sq a; grind
 have h3 : rootQ ((s * a) * (s * a)) = absQ (absQ s * absQ a) := by rw [← h2, rootQ_sq]
 rw [rootQ_sq] at h3
 rw [h3]
 have := Rat.mul_nonneg (absQ_nn s) (absQ_nn a)
 generalize absQ s * absQ a = m at this
 unfold absQ
 rw [if_neg (by grind)]
theorem root_back {b a t : Rat} (ha : a ≠ 0) (h : t * t = b * (a * a)) : (t / a) * (t / a) = b := by
 rw [Rat.div_def]
 have h1 : a * a⁻¹ = 1 := Rat.mul_inv_cancel a ha
 have : t * a⁻¹ * (t * a⁻¹) = (t * t) * (a⁻¹ * a⁻¹) := by grind
 rw [this, h]
 have : b * (a * a) * (a⁻¹ * a⁻¹) = b * ((a * a⁻¹) * (a * a⁻¹)) := by grind
 rw [this, h1]; grind
end Go.Proofs.YtdkjckiialnpnaaGreatDoor
namespace Go.Proofs.YtdkjckiialnpnaaGreatDoor
open Go.RowKit
attribute [local irreducible] lo hs sm s64 c64 d64 b64 mh ml pd pc qd qc val hiB str cmpI srD lz nb isq zl zh zs
/-- A Great as plain data. -/
def gmade (s : Bool) (l k : List Nat) : Rat := mkRat (zmade s l) (made k + 1)
theorem gof_any (s : Bool) (a b : Option Addr) (n c m d : Nat) (l k : List Nat) (hl : l.length ≤ 1000) (hk : k.length ≤ 1000) (w : World) (h1 : Ws w (.slice a n c) l) (h2 : Ws w (.slice b m d) k) :
  Calls Tryz.prog 20 #[.agg #[.bool s, .slice a n c, .slice b m d]] w fun xe w' => xe = .returned (fracV (gmade s l k)) ∧ Below w.heap.size w w' := by
 have d1 := zmade_dI (s := s) h1.lt
 have d2 := made_digs h2.lt
 have dz1 : (digs 1).length ≤ 1 := digs_length_iff.2 (by rw [Nat.pow_one]; exact Bs_gt)
 have d3 : (digs (made k + 1)).length ≤ 1001 := Nat.le_trans (digs_add_le (k := 1000) (by omega) (Nat.le_trans dz1 (by omega))) (by omega)
 refine gof_w s a b n c m d (zmade false k) (zmade s l) _ (made k) (made k + 1) _ _ (Keeps.ws _ l) (fun w h => zof_any s a n c l hl w h) (fun w => gden_w s a b n c m d w) _ (Keeps.ws _ k) (fun w h => zof_any false b m d k hk w h) (fun w => ?_) one_o (fun w => add_any (made k) 1 (by omega) (by omega) w) (fromF (zmade s l) (made k + 1) (by omega) (by omega) (by omega)) w h1 h2
 have h := absI (zmade false k) w
 rw [show (zmade false k).natAbs = made k from rfl] at h
 exact h
theorem gmade_sz {s : Bool} {w : World} {a b : Option Addr} {n c m d : Nat} {l k : List Nat} {most : Nat} (hp : 0 < most) (h1 : Ws w (.slice a n c) l) (h2 : Ws w (.slice b m d) k) (hn : n ≤ most) (hm : m ≤ most) : Sz (gmade s l k) (most + 1) := by
 have e1 := h1.len
 have e2 := h2.len
 have d1 := zmade_dI (s := s) h1.lt
 have d2 := made_digs h2.lt
 refine Sz.mk (by omega) ?_ (by omega)
 have dz1 : (digs 1).length ≤ 1 := digs_length_iff.2 (by rw [Nat.pow_one]; exact Bs_gt)
 exact digs_add_le (k := most) (by omega) (by omega)
theorem sgnQ_eq0 {q : Rat} : (sgnQ q == 0) = decide (q = 0) := by
 unfold sgnQ
 by_cases h : q < 0
 ·rw [if_pos h, decide_eq_false (p := q = 0) (by grind)]; rfl
 ·rw [if_neg h]
  by_cases h' : q = 0
  ·rw [if_pos h', decide_eq_true h']; rfl
  ·rw [if_neg h', decide_eq_false h']; rfl
end Go.Proofs.YtdkjckiialnpnaaGreatDoor
namespace Go.Proofs.YtdkjckiialnpnaaGreatDoor
open Go.RowKit
attribute [local irreducible] lo hs sm s64 c64 d64 b64 mh ml pd pc qd qc val hiB str cmpI srD lz nb isq zl zh zs fe
set_option maxHeartbeats 4000000 in
set_option maxRecDepth 100000 in
theorem rexact_big0 (sx sy : Bool) (ax qx ay qy : Option Addr) (nx cx mx dx ny cy my dy : Nat) (KT : World → Prop) (hKT : Keeps KT) (HW : ∀ w, KT w → Calls Tryz.prog 35 #[] w fun xe w' => xe = .returned (.bool true) ∧ Below w.heap.size w w') (l0 : decide ((4 : Int) < ((nx : Nat) : Int)) = true) (k0 : decide (4 < nx) = true) (w : World) (kKT : KT w) :
  Calls Tryz.prog 10 #[.agg #[.bool sx, .slice ax nx cx, .slice qx mx dx], .agg #[.bool sy, .slice ay ny cy, .slice qy my dy]] w fun xe w' => xe = .returned (.bool true) ∧ Below w.heap.size w w' := by
 have hL0 : GL w w [] := GL.start w
 replace hKT := Lib.hid hKT
 replace HW := Lib.hid HW
 replace hL0 := ((hL0.new rfl [.bool sx, .slice ax nx cx, .slice qx mx dx] 50).new (K := w.heap.size + 1) (szA _ _) [.bool sy, .slice ay ny cy, .slice qy my dy] 50)
 generalize hweq : ((w.alloc (.cells #[.bool sx, .slice ax nx cx, .slice qx mx dx] 50)).alloc (.cells #[.bool sy, .slice ay ny cy, .slice qy my dy] 50)) = x1 at hL0
 go_enter Tryz.func10, Tryz.ntmps10
 have hN0 := cells_of _ 0 [] rfl (hL0.get _ _ (List.mem_cons_of_mem _ List.mem_cons_self))
 simp only [cellsF, and_true, Nat.zero_add, Nat.reduceAdd] at hN0
 go_wp2_with fail
 clear hN0
 with_reducible refine Calls.mono (HW.out _ (hKT.out.at hL0.bl kKT)) ?_
 rintro e x2 ⟨rfl, hb⟩
 replace hL0 := hL0.call hb
 clear hb hweq
 go_wp2_with fail
 exact bodyPost_ret (v := .bool true) (by simp [results, Tryz.results10, go_sem]) rfl ⟨rfl, hL0.bl⟩
set_option maxHeartbeats 4000000 in
set_option maxRecDepth 100000 in
theorem rexact_big1 (sx sy : Bool) (ax qx ay qy : Option Addr) (nx cx mx dx ny cy my dy : Nat) (KT : World → Prop) (hKT : Keeps KT) (HW : ∀ w, KT w → Calls Tryz.prog 35 #[] w fun xe w' => xe = .returned (.bool true) ∧ Below w.heap.size w w') (l0 : decide ((4 : Int) < ((nx : Nat) : Int)) = false) (k0 : decide (4 < nx) = false) (l1 : decide ((4 : Int) < ((mx : Nat) : Int)) = true) (k1 : decide (4 < mx) = true) (w : World) (kKT : KT w) :
  Calls Tryz.prog 10 #[.agg #[.bool sx, .slice ax nx cx, .slice qx mx dx], .agg #[.bool sy, .slice ay ny cy, .slice qy my dy]] w fun xe w' => xe = .returned (.bool true) ∧ Below w.heap.size w w' := by
 have hL0 : GL w w [] := GL.start w
 replace hKT := Lib.hid hKT
 replace HW := Lib.hid HW
 replace hL0 := ((hL0.new rfl [.bool sx, .slice ax nx cx, .slice qx mx dx] 50).new (K := w.heap.size + 1) (szA _ _) [.bool sy, .slice ay ny cy, .slice qy my dy] 50)
 generalize hweq : ((w.alloc (.cells #[.bool sx, .slice ax nx cx, .slice qx mx dx] 50)).alloc (.cells #[.bool sy, .slice ay ny cy, .slice qy my dy] 50)) = x1 at hL0
 go_enter Tryz.func10, Tryz.ntmps10
 have hN0 := cells_of _ 0 [] rfl (hL0.get _ _ (List.mem_cons_of_mem _ List.mem_cons_self))
 simp only [cellsF, and_true, Nat.zero_add, Nat.reduceAdd] at hN0
 go_wp2_with fail
 clear hN0
 with_reducible refine Calls.mono (HW.out _ (hKT.out.at hL0.bl kKT)) ?_
 rintro e x2 ⟨rfl, hb⟩
 replace hL0 := hL0.call hb
 clear hb hweq
 go_wp2_with fail
 exact bodyPost_ret (v := .bool true) (by simp [results, Tryz.results10, go_sem]) rfl ⟨rfl, hL0.bl⟩
set_option maxHeartbeats 4000000 in
set_option maxRecDepth 100000 in
theorem rexact_big2 (sx sy : Bool) (ax qx ay qy : Option Addr) (nx cx mx dx ny cy my dy : Nat) (KT : World → Prop) (hKT : Keeps KT) (HW : ∀ w, KT w → Calls Tryz.prog 35 #[] w fun xe w' => xe = .returned (.bool true) ∧ Below w.heap.size w w') (l0 : decide ((4 : Int) < ((nx : Nat) : Int)) = false) (k0 : decide (4 < nx) = false) (l1 : decide ((4 : Int) < ((mx : Nat) : Int)) = false) (k1 : decide (4 < mx) = false) (l2 : decide ((4 : Int) < ((ny : Nat) : Int)) = true) (k2 : decide (4 < ny) = true) (w : World) (kKT : KT w) :
  Calls Tryz.prog 10 #[.agg #[.bool sx, .slice ax nx cx, .slice qx mx dx], .agg #[.bool sy, .slice ay ny cy, .slice qy my dy]] w fun xe w' => xe = .returned (.bool true) ∧ Below w.heap.size w w' := by
 have hL0 : GL w w [] := GL.start w
 replace hKT := Lib.hid hKT
 replace HW := Lib.hid HW
 replace hL0 := ((hL0.new rfl [.bool sx, .slice ax nx cx, .slice qx mx dx] 50).new (K := w.heap.size + 1) (szA _ _) [.bool sy, .slice ay ny cy, .slice qy my dy] 50)
 generalize hweq : ((w.alloc (.cells #[.bool sx, .slice ax nx cx, .slice qx mx dx] 50)).alloc (.cells #[.bool sy, .slice ay ny cy, .slice qy my dy] 50)) = x1 at hL0
 go_enter Tryz.func10, Tryz.ntmps10
 have hN0 := cells_of _ 0 [] rfl (hL0.get _ _ List.mem_cons_self)
 simp only [cellsF, and_true, Nat.zero_add, Nat.reduceAdd] at hN0
 have hN1 := cells_of _ 0 [] rfl (hL0.get _ _ (List.mem_cons_of_mem _ List.mem_cons_self))
 simp only [cellsF, and_true, Nat.zero_add, Nat.reduceAdd] at hN1
 go_wp2_with fail
 clear hN0 hN1
 with_reducible refine Calls.mono (HW.out _ (hKT.out.at hL0.bl kKT)) ?_
 rintro e x2 ⟨rfl, hb⟩
 replace hL0 := hL0.call hb
 clear hb hweq
 go_wp2_with fail
 exact bodyPost_ret (v := .bool true) (by simp [results, Tryz.results10, go_sem]) rfl ⟨rfl, hL0.bl⟩
set_option maxHeartbeats 4000000 in
set_option maxRecDepth 100000 in
theorem rexact_big3 (sx sy : Bool) (ax qx ay qy : Option Addr) (nx cx mx dx ny cy my dy : Nat) (KT : World → Prop) (hKT : Keeps KT) (HW : ∀ w, KT w → Calls Tryz.prog 35 #[] w fun xe w' => xe = .returned (.bool true) ∧ Below w.heap.size w w') (l0 : decide ((4 : Int) < ((nx : Nat) : Int)) = false) (k0 : decide (4 < nx) = false) (l1 : decide ((4 : Int) < ((mx : Nat) : Int)) = false) (k1 : decide (4 < mx) = false) (l2 : decide ((4 : Int) < ((ny : Nat) : Int)) = false) (k2 : decide (4 < ny) = false) (l3 : decide ((4 : Int) < ((my : Nat) : Int)) = true) (k3 : decide (4 < my) = true) (w : World) (kKT : KT w) :
  Calls Tryz.prog 10 #[.agg #[.bool sx, .slice ax nx cx, .slice qx mx dx], .agg #[.bool sy, .slice ay ny cy, .slice qy my dy]] w fun xe w' => xe = .returned (.bool true) ∧ Below w.heap.size w w' := by
 have hL0 : GL w w [] := GL.start w
 replace hKT := Lib.hid hKT
 replace HW := Lib.hid HW
 replace hL0 := ((hL0.new rfl [.bool sx, .slice ax nx cx, .slice qx mx dx] 50).new (K := w.heap.size + 1) (szA _ _) [.bool sy, .slice ay ny cy, .slice qy my dy] 50)
 generalize hweq : ((w.alloc (.cells #[.bool sx, .slice ax nx cx, .slice qx mx dx] 50)).alloc (.cells #[.bool sy, .slice ay ny cy, .slice qy my dy] 50)) = x1 at hL0
 go_enter Tryz.func10, Tryz.ntmps10
 have hN0 := cells_of _ 0 [] rfl (hL0.get _ _ List.mem_cons_self)
 simp only [cellsF, and_true, Nat.zero_add, Nat.reduceAdd] at hN0
 have hN1 := cells_of _ 0 [] rfl (hL0.get _ _ (List.mem_cons_of_mem _ List.mem_cons_self))
 simp only [cellsF, and_true, Nat.zero_add, Nat.reduceAdd] at hN1
 go_wp2_with fail
 clear hN0 hN1
 with_reducible refine Calls.mono (HW.out _ (hKT.out.at hL0.bl kKT)) ?_
 rintro e x2 ⟨rfl, hb⟩
 replace hL0 := hL0.call hb
 clear hb hweq
 go_wp2_with fail
 exact bodyPost_ret (v := .bool true) (by simp [results, Tryz.results10, go_sem]) rfl ⟨rfl, hL0.bl⟩
set_option maxHeartbeats 4000000 in
set_option maxRecDepth 100000 in
theorem rexact_is (sx sy : Bool) (ax qx ay qy : Option Addr) (nx cx mx dx ny cy my dy : Nat) (i k j : Int) (a b sq r bl pr s t : Rat) (Kx : World → Prop) (hKx : Keeps Kx) (GX : ∀ w, Kx w → Calls Tryz.prog 20 #[.agg #[.bool sx, .slice ax nx cx, .slice qx mx dx]] w fun xe w' => xe = .returned (fracV a) ∧ Below w.heap.size w w') (Ky : World → Prop) (hKy : Keeps Ky) (GY : ∀ w, Ky w → Calls Tryz.prog 20 #[.agg #[.bool sy, .slice ay ny cy, .slice qy my dy]] w fun xe w' => xe = .returned (fracV b) ∧ Below w.heap.size w w') (Q1 : ∀ w, Calls Tryz.prog 42 #[fracV a] w fun xe w' => xe = .returned (fracV sq) ∧ Below w.heap.size w w') (X1 : ∀ w, Calls Tryz.prog 43 #[fracV sq] w fun xe w' => xe = .returned (.tuple #[fracV r, .bool true]) ∧ Below w.heap.size w w') (X2 : ∀ w, Calls Tryz.prog 43 #[fracV b] w fun xe w' => xe = .returned (.tuple #[fracV s, .bool true]) ∧ Below w.heap.size w w') (HB : ∀ w, Calls Tryz.prog 36 #[fracV sq, .int .i64 64] w fun xe w' => xe = .returned (.tuple #[fracV bl, .int .i64 0]) ∧ Below w.heap.size w w') (HA : ∀ w, Calls Tryz.prog 30 #[fracV a] w fun xe w' => xe = .returned (fracV r) ∧ Below w.heap.size w w') (Q2 : ∀ w, Calls Tryz.prog 42 #[fracV s] w fun xe w' => xe = .returned (fracV b) ∧ Below w.heap.size w w') (S1 : ∀ w, Calls Tryz.prog 41 #[fracV s] w fun xe w' => xe = .returned (.int .i64 i) ∧ Below w.heap.size w w') (C1 : ∀ w, Calls Tryz.prog 26 #[fracV bl, fracV r] w fun xe w' => xe = .returned (.int .i64 j) ∧ Below w.heap.size w w') (S2 : ∀ w, Calls Tryz.prog 41 #[fracV a] w fun xe w' => xe = .returned (.int .i64 k) ∧ Below w.heap.size w w') (M1 : ∀ w, Calls Tryz.prog 28 #[fracV b, fracV sq] w fun xe w' => xe = .returned (fracV pr) ∧ Below w.heap.size w w') (X3 : ∀ w, Calls Tryz.prog 43 #[fracV pr] w fun xe w' => xe = .returned (.tuple #[fracV t, .bool true]) ∧ Below w.heap.size w w') (M2 : ∀ w, Calls Tryz.prog 28 #[fracV s, fracV r] w fun xe w' => xe = .returned (fracV t) ∧ Below w.heap.size w w') (KT : World → Prop) (hKT : Keeps KT) (HW : ∀ w, KT w → Calls Tryz.prog 35 #[] w fun xe w' => xe = .returned (.bool true) ∧ Below w.heap.size w w') (l0 : decide ((4 : Int) < ((nx : Nat) : Int)) = false) (k0 : decide (4 < nx) = false) (l1 : decide ((4 : Int) < ((mx : Nat) : Int)) = false) (k1 : decide (4 < mx) = false) (l2 : decide ((4 : Int) < ((ny : Nat) : Int)) = false) (k2 : decide (4 < ny) = false) (l3 : decide ((4 : Int) < ((my : Nat) : Int)) = false) (k3 : decide (4 < my) = false) (g1 : decide (i < 0) = false) (g2 : decide (0 < j) = false) (g3 : (k != 0) = true) (g4 : (k == 0) = false) (w : World) (kKx : Kx w) (kKy : Ky w) (kKT : KT w) :
  Calls Tryz.prog 10 #[.agg #[.bool sx, .slice ax nx cx, .slice qx mx dx], .agg #[.bool sy, .slice ay ny cy, .slice qy my dy]] w fun xe w' => xe = .returned (.bool true) ∧ Below w.heap.size w w' := by
 have hL0 : GL w w [] := GL.start w
 replace hKx := Lib.hid hKx
 replace GX := Lib.hid GX
 replace hKy := Lib.hid hKy
 replace GY := Lib.hid GY
 replace Q1 := Lib.hid Q1
 replace X1 := Lib.hid X1
 replace X2 := Lib.hid X2
 replace HB := Lib.hid HB
 replace HA := Lib.hid HA
 replace Q2 := Lib.hid Q2
 replace S1 := Lib.hid S1
 replace C1 := Lib.hid C1
 replace S2 := Lib.hid S2
 replace M1 := Lib.hid M1
 replace X3 := Lib.hid X3
 replace M2 := Lib.hid M2
 replace hKT := Lib.hid hKT
 replace HW := Lib.hid HW
 replace hL0 := ((hL0.new rfl [.bool sx, .slice ax nx cx, .slice qx mx dx] 50).new (K := w.heap.size + 1) (szA _ _) [.bool sy, .slice ay ny cy, .slice qy my dy] 50)
 generalize hweq : ((w.alloc (.cells #[.bool sx, .slice ax nx cx, .slice qx mx dx] 50)).alloc (.cells #[.bool sy, .slice ay ny cy, .slice qy my dy] 50)) = x1 at hL0
 go_enter Tryz.func10, Tryz.ntmps10
 have hN0 := cells_of _ 0 [] rfl (hL0.get _ _ List.mem_cons_self)
 simp only [cellsF, and_true, Nat.zero_add, Nat.reduceAdd] at hN0
 have hN1 := cells_of _ 0 [] rfl (hL0.get _ _ (List.mem_cons_of_mem _ List.mem_cons_self))
 simp only [cellsF, and_true, Nat.zero_add, Nat.reduceAdd] at hN1
 go_upto_region 3 with fail
 have kKx1 := hKx.out.at hL0.bl kKx
 have kKy1 := hKy.out.at hL0.bl kKy
 clear hN0 hN1
 clear hweq
 refine region_gh (by kernel_rfl) (by kernel_rfl) ?_
 refine lex_seg (gl := []) 4 (by kernel_rfl) ?_
 intro α iα F hF1 hF2
 have hq := GL.seg hF1 hL0
 simp only [fcC, cellsC, and_true, Nat.zero_add, Nat.reduceAdd] at hq
 simp only [List.take_succ_cons, List.take_zero, List.drop_succ_cons, List.drop_zero, List.take_nil, List.drop_nil]
 repeat (go_big_quiet_step (first | fail | (go_at_call 20; with_reducible exact seg_callK hKx.out hF1 hF2 kKx1 GX.out _) | (go_at_call 20; with_reducible exact seg_callK hKy.out hF1 hF2 kKy1 GY.out _)))
 refine wpQuiet_nil ?_
 clear hq hF1 hF2 iα F α
 refine lex_new [.int .u64 0, .string ⟨#[]⟩, .bool false, .int .u64 0, .string ⟨#[]⟩] 5 34 34 rfl rfl (of_decide_eq_true (by kernel_rfl)) (by kernel_rfl) rfl new_frac ?_
 simp only [Act.put, List.setIfInBounds_toArray, List.set_cons_succ, List.set_cons_zero]
 refine lex_new [.int .u64 0, .string ⟨#[]⟩, .bool false, .int .u64 0, .string ⟨#[]⟩] 6 34 34 rfl rfl (of_decide_eq_true (by kernel_rfl)) (by kernel_rfl) rfl new_frac ?_
 simp only [Act.put, List.setIfInBounds_toArray, List.set_cons_succ, List.set_cons_zero]
 refine lex_put [.int .u64 ((zl a.num : Nat) : Int), .string (zh a.num), .bool (zs a.num), .int .u64 ((lo (fe a) : Nat) : Int), .string (hs (fe a))] [.int .u64 0, .string ⟨#[]⟩, .bool false, .int .u64 0, .string ⟨#[]⟩] 5 34 (.tmp 43) rfl (by kernel_rfl) (by simp [toG, upd]) rfl (fun w k h => put_frac _ _ _ _ _ _ _ _ _ _ w k h) ?_
 simp only [Act.put]
 refine lex_put [.int .u64 ((zl b.num : Nat) : Int), .string (zh b.num), .bool (zs b.num), .int .u64 ((lo (fe b) : Nat) : Int), .string (hs (fe b))] [.int .u64 0, .string ⟨#[]⟩, .bool false, .int .u64 0, .string ⟨#[]⟩] 6 34 (.tmp 45) rfl (by kernel_rfl) (by simp [toG, upd]) rfl (fun w k h => put_frac _ _ _ _ _ _ _ _ _ _ w k h) ?_
 simp only [Act.put]
 refine lexG_nil ?_
 intro κ x2 hS
 replace hL0 := hL0.ghs hS [(6, [.int .u64 ((zl b.num : Nat) : Int), .string (zh b.num), .bool (zs b.num), .int .u64 ((lo (fe b) : Nat) : Int), .string (hs (fe b))]), (5, [.int .u64 ((zl a.num : Nat) : Int), .string (zh a.num), .bool (zs a.num), .int .u64 ((lo (fe a) : Nat) : Int), .string (hs (fe a))])] (by simp) (by intro p hp; simp only [List.mem_cons, List.not_mem_nil, or_false] at hp; rcases hp with rfl | rfl <;> exact ⟨_, by simp only [toG, upd]; rfl⟩)
 simp only [List.map_cons, List.map_nil, List.cons_append, List.nil_append] at hL0
 simp only [over_toG, over_nil, Act.put, List.setIfInBounds_toArray, List.set_cons_succ, List.set_cons_zero]
 clear hS
 generalize κ 6 = k2_6 at *
 generalize κ 5 = k2_5 at *
 clear kKx1 kKy1
 have hN0 := cells_of _ 0 [] rfl (hL0.get _ _ (List.mem_cons_of_mem _ List.mem_cons_self))
 simp only [cellsF, and_true, Nat.zero_add, Nat.reduceAdd] at hN0
 go_wp2_with fail
 clear hN0
 with_reducible refine Calls.mono (Q1.out _) ?_
 rintro e x3 ⟨rfl, hb⟩
 replace hL0 := hL0.call hb
 clear hb
 go_wp2_with fail
 with_reducible refine Calls.mono (X1.out _) ?_
 rintro e x4 ⟨rfl, hb⟩
 replace hL0 := hL0.call hb
 clear hb
 replace hL0 := (hL0.new rfl [.int .u64 ((zl r.num : Nat) : Int), .string (zh r.num), .bool (zs r.num), .int .u64 ((lo (fe r) : Nat) : Int), .string (hs (fe r))] 34)
 generalize hweq : (x4.alloc (.cells #[.int .u64 ((zl r.num : Nat) : Int), .string (zh r.num), .bool (zs r.num), .int .u64 ((lo (fe r) : Nat) : Int), .string (hs (fe r))] 34)) = x5 at hL0
 have hN0 := cells_of _ 0 [] rfl (hL0.get _ _ (List.mem_cons_of_mem _ List.mem_cons_self))
 simp only [cellsF, and_true, Nat.zero_add, Nat.reduceAdd] at hN0
 go_wp2_with fail
 clear hN0
 with_reducible refine Calls.mono (X2.out _) ?_
 rintro e x6 ⟨rfl, hb⟩
 replace hL0 := hL0.call hb
 clear hb hweq
 replace hL0 := (hL0.new rfl [.int .u64 ((zl s.num : Nat) : Int), .string (zh s.num), .bool (zs s.num), .int .u64 ((lo (fe s) : Nat) : Int), .string (hs (fe s))] 34)
 generalize hweq : (x6.alloc (.cells #[.int .u64 ((zl s.num : Nat) : Int), .string (zh s.num), .bool (zs s.num), .int .u64 ((lo (fe s) : Nat) : Int), .string (hs (fe s))] 34)) = x7 at hL0
 have hN0 := cells_of _ 0 [] rfl (hL0.get _ _ (List.mem_cons_of_mem _ (List.mem_cons_of_mem _ (List.mem_cons_of_mem _ List.mem_cons_self))))
 simp only [cellsF, and_true, Nat.zero_add, Nat.reduceAdd] at hN0
 go_wp2_with fail
 clear hN0
 with_reducible refine Calls.mono (Q1.out _) ?_
 rintro e x8 ⟨rfl, hb⟩
 replace hL0 := hL0.call hb
 clear hb hweq
 go_wp2_with fail
 with_reducible refine Calls.mono (HB.out _) ?_
 rintro e x9 ⟨rfl, hb⟩
 replace hL0 := hL0.call hb
 clear hb
 replace hL0 := (hL0.new rfl [.int .u64 ((zl bl.num : Nat) : Int), .string (zh bl.num), .bool (zs bl.num), .int .u64 ((lo (fe bl) : Nat) : Int), .string (hs (fe bl))] 34)
 generalize hweq : (x9.alloc (.cells #[.int .u64 ((zl bl.num : Nat) : Int), .string (zh bl.num), .bool (zs bl.num), .int .u64 ((lo (fe bl) : Nat) : Int), .string (hs (fe bl))] 34)) = x10 at hL0
 go_upto_region 7 with fail
 clear hweq
 obtain ⟨α, iα, F, hF1, hF2⟩ := cls x10
 have hq0 := cls_box hF1 hL0 _ _ List.mem_cons_self
 simp only [cellsC, and_true, Nat.zero_add, Nat.reduceAdd] at hq0
 have hq1 := cls_box hF1 hL0 _ _ (List.mem_cons_of_mem _ List.mem_cons_self)
 simp only [cellsC, and_true, Nat.zero_add, Nat.reduceAdd] at hq1
 have hq2 := cls_box hF1 hL0 _ _ (List.mem_cons_of_mem _ (List.mem_cons_of_mem _ List.mem_cons_self))
 simp only [cellsC, and_true, Nat.zero_add, Nat.reduceAdd] at hq2
 have hq3 := cls_box hF1 hL0 _ _ (List.mem_cons_of_mem _ (List.mem_cons_of_mem _ (List.mem_cons_of_mem _ List.mem_cons_self)))
 simp only [cellsC, and_true, Nat.zero_add, Nat.reduceAdd] at hq3
 have hq4 := cls_box hF1 hL0 _ _ (List.mem_cons_of_mem _ (List.mem_cons_of_mem _ (List.mem_cons_of_mem _ (List.mem_cons_of_mem _ List.mem_cons_self))))
 simp only [cellsC, and_true, Nat.zero_add, Nat.reduceAdd] at hq4
 refine region_qs 37 (C := fun w' => ∃ x, w' = F x) (by kernel_rfl) (by kernel_rfl) (cls_drew hF2) ?_
 simp only [List.take_succ_cons, List.take_zero, List.drop_succ_cons, List.drop_zero, List.take_nil, List.drop_nil]
 repeat (go_big_quiet_step (first | fail | (go_at_call 30; with_reducible exact cls_call hF1 hF2 HA.out _) | (go_at_call 42; with_reducible exact cls_call hF1 hF2 Q2.out _) | (go_at_call 41; with_reducible exact cls_call hF1 hF2 S1.out _) | (go_at_call 26; with_reducible exact cls_call hF1 hF2 C1.out _)))
 refine wpQuiet_nil ?_
 rintro wq ⟨xq, rfl⟩
 replace hL0 := hL0.call (hF1 xq)
 clear  hq0 hq1 hq2 hq3 hq4 hF2
 generalize F xq = x11 at hL0 ⊢
 clear hF1 xq iα F α
 have hN0 := cells_of _ 0 [] rfl (hL0.get _ _ (List.mem_cons_of_mem _ (List.mem_cons_of_mem _ (List.mem_cons_of_mem _ (List.mem_cons_of_mem _ List.mem_cons_self)))))
 simp only [cellsF, and_true, Nat.zero_add, Nat.reduceAdd] at hN0
 go_wp2_with fail
 clear hN0
 with_reducible refine Calls.mono (S2.out _) ?_
 rintro e x12 ⟨rfl, hb⟩
 replace hL0 := hL0.call hb
 clear hb
 go_upto_region 10 with fail
 refine region_gh (by kernel_rfl) (by kernel_rfl) ?_
 refine lex_seg (gl := []) 8 (by kernel_rfl) ?_
 intro α iα F hF1 hF2
 have hq := GL.seg hF1 hL0
 simp only [fcC, cellsC, and_true, Nat.zero_add, Nat.reduceAdd] at hq
 simp only [List.take_succ_cons, List.take_zero, List.drop_succ_cons, List.drop_zero, List.take_nil, List.drop_nil]
 repeat (go_big_quiet_step (first | fail | (go_at_call 42; with_reducible exact seg_call hF2 Q1.out _) | (go_at_call 28; with_reducible exact seg_call hF2 M1.out _) | (go_at_call 43; with_reducible exact seg_call hF2 X3.out _)))
 refine wpQuiet_nil ?_
 clear hq hF1 hF2 iα F α
 refine lex_new [.int .u64 0, .string ⟨#[]⟩, .bool false, .int .u64 0, .string ⟨#[]⟩] 13 34 34 rfl rfl (of_decide_eq_true (by kernel_rfl)) (by kernel_rfl) rfl new_frac ?_
 simp only [Act.put, List.setIfInBounds_toArray, List.set_cons_succ, List.set_cons_zero]
 refine lex_put [.int .u64 ((zl t.num : Nat) : Int), .string (zh t.num), .bool (zs t.num), .int .u64 ((lo (fe t) : Nat) : Int), .string (hs (fe t))] [.int .u64 0, .string ⟨#[]⟩, .bool false, .int .u64 0, .string ⟨#[]⟩] 13 34 (.tmp 112) rfl (by kernel_rfl) (by simp [toG, upd]) rfl (fun w k h => put_frac _ _ _ _ _ _ _ _ _ _ w k h) ?_
 simp only [Act.put]
 refine lex_seg (gl := [(13, [.int .u64 ((zl t.num : Nat) : Int), .string (zh t.num), .bool (zs t.num), .int .u64 ((lo (fe t) : Nat) : Int), .string (hs (fe t))], true), (13, [.int .u64 0, .string ⟨#[]⟩, .bool false, .int .u64 0, .string ⟨#[]⟩], false)]) 1 (by kernel_rfl) ?_
 intro α iα F hF1 hF2
 have hq := GL.seg hF1 hL0
 simp only [fcC, cellsC, and_true, Nat.zero_add, Nat.reduceAdd] at hq
 simp only [List.take_succ_cons, List.take_zero, List.drop_succ_cons, List.drop_zero, List.take_nil, List.drop_nil]
 repeat (go_big_quiet_step (first | fail | (go_at_call 42; with_reducible exact seg_call hF2 Q1.out _) | (go_at_call 28; with_reducible exact seg_call hF2 M1.out _) | (go_at_call 43; with_reducible exact seg_call hF2 X3.out _)))
 refine wpQuiet_nil ?_
 clear hq hF1 hF2 iα F α
 refine lexG_nil ?_
 intro κ x13 hS
 replace hL0 := hL0.ghs hS [(13, [.int .u64 ((zl t.num : Nat) : Int), .string (zh t.num), .bool (zs t.num), .int .u64 ((lo (fe t) : Nat) : Int), .string (hs (fe t))])] (by simp) (by intro p hp; simp only [List.mem_cons, List.not_mem_nil, or_false] at hp; rcases hp with rfl <;> exact ⟨_, by simp only [toG, upd]; rfl⟩)
 simp only [List.map_cons, List.map_nil, List.cons_append, List.nil_append] at hL0
 simp only [over_toG, over_nil, Act.put, List.setIfInBounds_toArray, List.set_cons_succ, List.set_cons_zero]
 clear hS
 generalize κ 13 = k13_13 at *
 go_upto_region 11 with fail
 have kKT1 := hKT.out.at hL0.bl kKT
 obtain ⟨α, iα, F, hF1, hF2⟩ := cls x13
 have hq0 := cls_box hF1 hL0 _ _ List.mem_cons_self
 simp only [cellsC, and_true, Nat.zero_add, Nat.reduceAdd] at hq0
 have hq1 := cls_box hF1 hL0 _ _ (List.mem_cons_of_mem _ (List.mem_cons_of_mem _ List.mem_cons_self))
 simp only [cellsC, and_true, Nat.zero_add, Nat.reduceAdd] at hq1
 have hq2 := cls_box hF1 hL0 _ _ (List.mem_cons_of_mem _ (List.mem_cons_of_mem _ (List.mem_cons_of_mem _ (List.mem_cons_of_mem _ (List.mem_cons_of_mem _ List.mem_cons_self)))))
 simp only [cellsC, and_true, Nat.zero_add, Nat.reduceAdd] at hq2
 refine region_qs 13 (C := fun w' => ∃ x, w' = F x) (by kernel_rfl) (by kernel_rfl) (cls_drew hF2) ?_
 simp only [List.take_succ_cons, List.take_zero, List.drop_succ_cons, List.drop_zero, List.take_nil, List.drop_nil]
 repeat (go_big_quiet_step (first | fail | (go_at_call 30; with_reducible exact cls_call hF1 hF2 HA.out _) | (go_at_call 28; with_reducible exact cls_call hF1 hF2 M2.out _) | (go_at_call 35; with_reducible exact cls_callK hKT.out hF1 hF2 kKT1 HW.out _)))
 refine wpQuiet_nil ?_
 rintro wq ⟨xq, rfl⟩
 replace hL0 := hL0.call (hF1 xq)
 clear  hq0 hq1 hq2 hF2
 generalize F xq = x14 at hL0 ⊢
 clear hF1 xq iα F α
 clear kKT1
 go_wp2_with fail
 exact bodyPost_ret (v := .bool true) (by simp [results, Tryz.results10, go_sem]) rfl ⟨rfl, hL0.bl⟩
set_option maxHeartbeats 4000000 in
set_option maxRecDepth 100000 in
theorem rexact_is0 (sx sy : Bool) (ax qx ay qy : Option Addr) (nx cx mx dx ny cy my dy : Nat) (i j : Int) (a b sq r bl pr s t : Rat) (Kx : World → Prop) (hKx : Keeps Kx) (GX : ∀ w, Kx w → Calls Tryz.prog 20 #[.agg #[.bool sx, .slice ax nx cx, .slice qx mx dx]] w fun xe w' => xe = .returned (fracV a) ∧ Below w.heap.size w w') (Ky : World → Prop) (hKy : Keeps Ky) (GY : ∀ w, Ky w → Calls Tryz.prog 20 #[.agg #[.bool sy, .slice ay ny cy, .slice qy my dy]] w fun xe w' => xe = .returned (fracV b) ∧ Below w.heap.size w w') (Q1 : ∀ w, Calls Tryz.prog 42 #[fracV a] w fun xe w' => xe = .returned (fracV sq) ∧ Below w.heap.size w w') (X1 : ∀ w, Calls Tryz.prog 43 #[fracV sq] w fun xe w' => xe = .returned (.tuple #[fracV r, .bool true]) ∧ Below w.heap.size w w') (X2 : ∀ w, Calls Tryz.prog 43 #[fracV b] w fun xe w' => xe = .returned (.tuple #[fracV s, .bool true]) ∧ Below w.heap.size w w') (HB : ∀ w, Calls Tryz.prog 36 #[fracV sq, .int .i64 64] w fun xe w' => xe = .returned (.tuple #[fracV bl, .int .i64 0]) ∧ Below w.heap.size w w') (HA : ∀ w, Calls Tryz.prog 30 #[fracV a] w fun xe w' => xe = .returned (fracV r) ∧ Below w.heap.size w w') (Q2 : ∀ w, Calls Tryz.prog 42 #[fracV s] w fun xe w' => xe = .returned (fracV b) ∧ Below w.heap.size w w') (S1 : ∀ w, Calls Tryz.prog 41 #[fracV s] w fun xe w' => xe = .returned (.int .i64 i) ∧ Below w.heap.size w w') (C1 : ∀ w, Calls Tryz.prog 26 #[fracV bl, fracV r] w fun xe w' => xe = .returned (.int .i64 j) ∧ Below w.heap.size w w') (S2 : ∀ w, Calls Tryz.prog 41 #[fracV a] w fun xe w' => xe = .returned (.int .i64 0) ∧ Below w.heap.size w w') (M1 : ∀ w, Calls Tryz.prog 28 #[fracV b, fracV sq] w fun xe w' => xe = .returned (fracV pr) ∧ Below w.heap.size w w') (X3 : ∀ w, Calls Tryz.prog 43 #[fracV pr] w fun xe w' => xe = .returned (.tuple #[fracV t, .bool true]) ∧ Below w.heap.size w w') (Q3 : ∀ w, Calls Tryz.prog 42 #[fracV t] w fun xe w' => xe = .returned (fracV pr) ∧ Below w.heap.size w w') (KT : World → Prop) (hKT : Keeps KT) (HW : ∀ w, KT w → Calls Tryz.prog 35 #[] w fun xe w' => xe = .returned (.bool true) ∧ Below w.heap.size w w') (l0 : decide ((4 : Int) < ((nx : Nat) : Int)) = false) (k0 : decide (4 < nx) = false) (l1 : decide ((4 : Int) < ((mx : Nat) : Int)) = false) (k1 : decide (4 < mx) = false) (l2 : decide ((4 : Int) < ((ny : Nat) : Int)) = false) (k2 : decide (4 < ny) = false) (l3 : decide ((4 : Int) < ((my : Nat) : Int)) = false) (k3 : decide (4 < my) = false) (g1 : decide (i < 0) = false) (g2 : decide (0 < j) = false) (w : World) (kKx : Kx w) (kKy : Ky w) (kKT : KT w) :
  Calls Tryz.prog 10 #[.agg #[.bool sx, .slice ax nx cx, .slice qx mx dx], .agg #[.bool sy, .slice ay ny cy, .slice qy my dy]] w fun xe w' => xe = .returned (.bool true) ∧ Below w.heap.size w w' := by
 have hL0 : GL w w [] := GL.start w
 replace hKx := Lib.hid hKx
 replace GX := Lib.hid GX
 replace hKy := Lib.hid hKy
 replace GY := Lib.hid GY
 replace Q1 := Lib.hid Q1
 replace X1 := Lib.hid X1
 replace X2 := Lib.hid X2
 replace HB := Lib.hid HB
 replace HA := Lib.hid HA
 replace Q2 := Lib.hid Q2
 replace S1 := Lib.hid S1
 replace C1 := Lib.hid C1
 replace S2 := Lib.hid S2
 replace M1 := Lib.hid M1
 replace X3 := Lib.hid X3
 replace Q3 := Lib.hid Q3
 replace hKT := Lib.hid hKT
 replace HW := Lib.hid HW
 replace hL0 := ((hL0.new rfl [.bool sx, .slice ax nx cx, .slice qx mx dx] 50).new (K := w.heap.size + 1) (szA _ _) [.bool sy, .slice ay ny cy, .slice qy my dy] 50)
 generalize hweq : ((w.alloc (.cells #[.bool sx, .slice ax nx cx, .slice qx mx dx] 50)).alloc (.cells #[.bool sy, .slice ay ny cy, .slice qy my dy] 50)) = x1 at hL0
 go_enter Tryz.func10, Tryz.ntmps10
 have hN0 := cells_of _ 0 [] rfl (hL0.get _ _ List.mem_cons_self)
 simp only [cellsF, and_true, Nat.zero_add, Nat.reduceAdd] at hN0
 have hN1 := cells_of _ 0 [] rfl (hL0.get _ _ (List.mem_cons_of_mem _ List.mem_cons_self))
 simp only [cellsF, and_true, Nat.zero_add, Nat.reduceAdd] at hN1
 go_upto_region 3 with fail
 have kKx1 := hKx.out.at hL0.bl kKx
 have kKy1 := hKy.out.at hL0.bl kKy
 clear hN0 hN1
 clear hweq
 refine region_gh (by kernel_rfl) (by kernel_rfl) ?_
 refine lex_seg (gl := []) 4 (by kernel_rfl) ?_
 intro α iα F hF1 hF2
 have hq := GL.seg hF1 hL0
 simp only [fcC, cellsC, and_true, Nat.zero_add, Nat.reduceAdd] at hq
 simp only [List.take_succ_cons, List.take_zero, List.drop_succ_cons, List.drop_zero, List.take_nil, List.drop_nil]
 repeat (go_big_quiet_step (first | fail | (go_at_call 20; with_reducible exact seg_callK hKx.out hF1 hF2 kKx1 GX.out _) | (go_at_call 20; with_reducible exact seg_callK hKy.out hF1 hF2 kKy1 GY.out _)))
 refine wpQuiet_nil ?_
 clear hq hF1 hF2 iα F α
 refine lex_new [.int .u64 0, .string ⟨#[]⟩, .bool false, .int .u64 0, .string ⟨#[]⟩] 5 34 34 rfl rfl (of_decide_eq_true (by kernel_rfl)) (by kernel_rfl) rfl new_frac ?_
 simp only [Act.put, List.setIfInBounds_toArray, List.set_cons_succ, List.set_cons_zero]
 refine lex_new [.int .u64 0, .string ⟨#[]⟩, .bool false, .int .u64 0, .string ⟨#[]⟩] 6 34 34 rfl rfl (of_decide_eq_true (by kernel_rfl)) (by kernel_rfl) rfl new_frac ?_
 simp only [Act.put, List.setIfInBounds_toArray, List.set_cons_succ, List.set_cons_zero]
 refine lex_put [.int .u64 ((zl a.num : Nat) : Int), .string (zh a.num), .bool (zs a.num), .int .u64 ((lo (fe a) : Nat) : Int), .string (hs (fe a))] [.int .u64 0, .string ⟨#[]⟩, .bool false, .int .u64 0, .string ⟨#[]⟩] 5 34 (.tmp 43) rfl (by kernel_rfl) (by simp [toG, upd]) rfl (fun w k h => put_frac _ _ _ _ _ _ _ _ _ _ w k h) ?_
 simp only [Act.put]
 refine lex_put [.int .u64 ((zl b.num : Nat) : Int), .string (zh b.num), .bool (zs b.num), .int .u64 ((lo (fe b) : Nat) : Int), .string (hs (fe b))] [.int .u64 0, .string ⟨#[]⟩, .bool false, .int .u64 0, .string ⟨#[]⟩] 6 34 (.tmp 45) rfl (by kernel_rfl) (by simp [toG, upd]) rfl (fun w k h => put_frac _ _ _ _ _ _ _ _ _ _ w k h) ?_
 simp only [Act.put]
 refine lexG_nil ?_
 intro κ x2 hS
 replace hL0 := hL0.ghs hS [(6, [.int .u64 ((zl b.num : Nat) : Int), .string (zh b.num), .bool (zs b.num), .int .u64 ((lo (fe b) : Nat) : Int), .string (hs (fe b))]), (5, [.int .u64 ((zl a.num : Nat) : Int), .string (zh a.num), .bool (zs a.num), .int .u64 ((lo (fe a) : Nat) : Int), .string (hs (fe a))])] (by simp) (by intro p hp; simp only [List.mem_cons, List.not_mem_nil, or_false] at hp; rcases hp with rfl | rfl <;> exact ⟨_, by simp only [toG, upd]; rfl⟩)
 simp only [List.map_cons, List.map_nil, List.cons_append, List.nil_append] at hL0
 simp only [over_toG, over_nil, Act.put, List.setIfInBounds_toArray, List.set_cons_succ, List.set_cons_zero]
 clear hS
 generalize κ 6 = k2_6 at *
 generalize κ 5 = k2_5 at *
 clear kKx1 kKy1
 have hN0 := cells_of _ 0 [] rfl (hL0.get _ _ (List.mem_cons_of_mem _ List.mem_cons_self))
 simp only [cellsF, and_true, Nat.zero_add, Nat.reduceAdd] at hN0
 go_wp2_with fail
 clear hN0
 with_reducible refine Calls.mono (Q1.out _) ?_
 rintro e x3 ⟨rfl, hb⟩
 replace hL0 := hL0.call hb
 clear hb
 go_wp2_with fail
 with_reducible refine Calls.mono (X1.out _) ?_
 rintro e x4 ⟨rfl, hb⟩
 replace hL0 := hL0.call hb
 clear hb
 replace hL0 := (hL0.new rfl [.int .u64 ((zl r.num : Nat) : Int), .string (zh r.num), .bool (zs r.num), .int .u64 ((lo (fe r) : Nat) : Int), .string (hs (fe r))] 34)
 generalize hweq : (x4.alloc (.cells #[.int .u64 ((zl r.num : Nat) : Int), .string (zh r.num), .bool (zs r.num), .int .u64 ((lo (fe r) : Nat) : Int), .string (hs (fe r))] 34)) = x5 at hL0
 have hN0 := cells_of _ 0 [] rfl (hL0.get _ _ (List.mem_cons_of_mem _ List.mem_cons_self))
 simp only [cellsF, and_true, Nat.zero_add, Nat.reduceAdd] at hN0
 go_wp2_with fail
 clear hN0
 with_reducible refine Calls.mono (X2.out _) ?_
 rintro e x6 ⟨rfl, hb⟩
 replace hL0 := hL0.call hb
 clear hb hweq
 replace hL0 := (hL0.new rfl [.int .u64 ((zl s.num : Nat) : Int), .string (zh s.num), .bool (zs s.num), .int .u64 ((lo (fe s) : Nat) : Int), .string (hs (fe s))] 34)
 generalize hweq : (x6.alloc (.cells #[.int .u64 ((zl s.num : Nat) : Int), .string (zh s.num), .bool (zs s.num), .int .u64 ((lo (fe s) : Nat) : Int), .string (hs (fe s))] 34)) = x7 at hL0
 have hN0 := cells_of _ 0 [] rfl (hL0.get _ _ (List.mem_cons_of_mem _ (List.mem_cons_of_mem _ (List.mem_cons_of_mem _ List.mem_cons_self))))
 simp only [cellsF, and_true, Nat.zero_add, Nat.reduceAdd] at hN0
 go_wp2_with fail
 clear hN0
 with_reducible refine Calls.mono (Q1.out _) ?_
 rintro e x8 ⟨rfl, hb⟩
 replace hL0 := hL0.call hb
 clear hb hweq
 go_wp2_with fail
 with_reducible refine Calls.mono (HB.out _) ?_
 rintro e x9 ⟨rfl, hb⟩
 replace hL0 := hL0.call hb
 clear hb
 replace hL0 := (hL0.new rfl [.int .u64 ((zl bl.num : Nat) : Int), .string (zh bl.num), .bool (zs bl.num), .int .u64 ((lo (fe bl) : Nat) : Int), .string (hs (fe bl))] 34)
 generalize hweq : (x9.alloc (.cells #[.int .u64 ((zl bl.num : Nat) : Int), .string (zh bl.num), .bool (zs bl.num), .int .u64 ((lo (fe bl) : Nat) : Int), .string (hs (fe bl))] 34)) = x10 at hL0
 go_upto_region 7 with fail
 clear hweq
 obtain ⟨α, iα, F, hF1, hF2⟩ := cls x10
 have hq0 := cls_box hF1 hL0 _ _ List.mem_cons_self
 simp only [cellsC, and_true, Nat.zero_add, Nat.reduceAdd] at hq0
 have hq1 := cls_box hF1 hL0 _ _ (List.mem_cons_of_mem _ List.mem_cons_self)
 simp only [cellsC, and_true, Nat.zero_add, Nat.reduceAdd] at hq1
 have hq2 := cls_box hF1 hL0 _ _ (List.mem_cons_of_mem _ (List.mem_cons_of_mem _ List.mem_cons_self))
 simp only [cellsC, and_true, Nat.zero_add, Nat.reduceAdd] at hq2
 have hq3 := cls_box hF1 hL0 _ _ (List.mem_cons_of_mem _ (List.mem_cons_of_mem _ (List.mem_cons_of_mem _ List.mem_cons_self)))
 simp only [cellsC, and_true, Nat.zero_add, Nat.reduceAdd] at hq3
 have hq4 := cls_box hF1 hL0 _ _ (List.mem_cons_of_mem _ (List.mem_cons_of_mem _ (List.mem_cons_of_mem _ (List.mem_cons_of_mem _ List.mem_cons_self))))
 simp only [cellsC, and_true, Nat.zero_add, Nat.reduceAdd] at hq4
 refine region_qs 37 (C := fun w' => ∃ x, w' = F x) (by kernel_rfl) (by kernel_rfl) (cls_drew hF2) ?_
 simp only [List.take_succ_cons, List.take_zero, List.drop_succ_cons, List.drop_zero, List.take_nil, List.drop_nil]
 repeat (go_big_quiet_step (first | fail | (go_at_call 30; with_reducible exact cls_call hF1 hF2 HA.out _) | (go_at_call 42; with_reducible exact cls_call hF1 hF2 Q2.out _) | (go_at_call 41; with_reducible exact cls_call hF1 hF2 S1.out _) | (go_at_call 26; with_reducible exact cls_call hF1 hF2 C1.out _)))
 refine wpQuiet_nil ?_
 rintro wq ⟨xq, rfl⟩
 replace hL0 := hL0.call (hF1 xq)
 clear  hq0 hq1 hq2 hq3 hq4 hF2
 generalize F xq = x11 at hL0 ⊢
 clear hF1 xq iα F α
 have hN0 := cells_of _ 0 [] rfl (hL0.get _ _ (List.mem_cons_of_mem _ (List.mem_cons_of_mem _ (List.mem_cons_of_mem _ (List.mem_cons_of_mem _ List.mem_cons_self)))))
 simp only [cellsF, and_true, Nat.zero_add, Nat.reduceAdd] at hN0
 go_wp2_with fail
 clear hN0
 with_reducible refine Calls.mono (S2.out _) ?_
 rintro e x12 ⟨rfl, hb⟩
 replace hL0 := hL0.call hb
 clear hb
 go_upto_region 12 with fail
 refine region_gh (by kernel_rfl) (by kernel_rfl) ?_
 refine lex_seg (gl := []) 8 (by kernel_rfl) ?_
 intro α iα F hF1 hF2
 have hq := GL.seg hF1 hL0
 simp only [fcC, cellsC, and_true, Nat.zero_add, Nat.reduceAdd] at hq
 simp only [List.take_succ_cons, List.take_zero, List.drop_succ_cons, List.drop_zero, List.take_nil, List.drop_nil]
 repeat (go_big_quiet_step (first | fail | (go_at_call 42; with_reducible exact seg_call hF2 Q1.out _) | (go_at_call 28; with_reducible exact seg_call hF2 M1.out _) | (go_at_call 43; with_reducible exact seg_call hF2 X3.out _)))
 refine wpQuiet_nil ?_
 clear hq hF1 hF2 iα F α
 refine lex_new [.int .u64 0, .string ⟨#[]⟩, .bool false, .int .u64 0, .string ⟨#[]⟩] 15 34 34 rfl rfl (of_decide_eq_true (by kernel_rfl)) (by kernel_rfl) rfl new_frac ?_
 simp only [Act.put, List.setIfInBounds_toArray, List.set_cons_succ, List.set_cons_zero]
 refine lex_put [.int .u64 ((zl t.num : Nat) : Int), .string (zh t.num), .bool (zs t.num), .int .u64 ((lo (fe t) : Nat) : Int), .string (hs (fe t))] [.int .u64 0, .string ⟨#[]⟩, .bool false, .int .u64 0, .string ⟨#[]⟩] 15 34 (.tmp 132) rfl (by kernel_rfl) (by simp [toG, upd]) rfl (fun w k h => put_frac _ _ _ _ _ _ _ _ _ _ w k h) ?_
 simp only [Act.put]
 refine lex_seg (gl := [(15, [.int .u64 ((zl t.num : Nat) : Int), .string (zh t.num), .bool (zs t.num), .int .u64 ((lo (fe t) : Nat) : Int), .string (hs (fe t))], true), (15, [.int .u64 0, .string ⟨#[]⟩, .bool false, .int .u64 0, .string ⟨#[]⟩], false)]) 1 (by kernel_rfl) ?_
 intro α iα F hF1 hF2
 have hq := GL.seg hF1 hL0
 simp only [fcC, cellsC, and_true, Nat.zero_add, Nat.reduceAdd] at hq
 simp only [List.take_succ_cons, List.take_zero, List.drop_succ_cons, List.drop_zero, List.take_nil, List.drop_nil]
 repeat (go_big_quiet_step (first | fail | (go_at_call 42; with_reducible exact seg_call hF2 Q1.out _) | (go_at_call 28; with_reducible exact seg_call hF2 M1.out _) | (go_at_call 43; with_reducible exact seg_call hF2 X3.out _)))
 refine wpQuiet_nil ?_
 clear hq hF1 hF2 iα F α
 refine lexG_nil ?_
 intro κ x13 hS
 replace hL0 := hL0.ghs hS [(15, [.int .u64 ((zl t.num : Nat) : Int), .string (zh t.num), .bool (zs t.num), .int .u64 ((lo (fe t) : Nat) : Int), .string (hs (fe t))])] (by simp) (by intro p hp; simp only [List.mem_cons, List.not_mem_nil, or_false] at hp; rcases hp with rfl <;> exact ⟨_, by simp only [toG, upd]; rfl⟩)
 simp only [List.map_cons, List.map_nil, List.cons_append, List.nil_append] at hL0
 simp only [over_toG, over_nil, Act.put, List.setIfInBounds_toArray, List.set_cons_succ, List.set_cons_zero]
 clear hS
 generalize κ 15 = k13_15 at *
 go_upto_region 13 with fail
 have kKT1 := hKT.out.at hL0.bl kKT
 obtain ⟨α, iα, F, hF1, hF2⟩ := cls x13
 have hq0 := cls_box hF1 hL0 _ _ List.mem_cons_self
 simp only [cellsC, and_true, Nat.zero_add, Nat.reduceAdd] at hq0
 have hq1 := cls_box hF1 hL0 _ _ (List.mem_cons_of_mem _ (List.mem_cons_of_mem _ (List.mem_cons_of_mem _ (List.mem_cons_of_mem _ List.mem_cons_self))))
 simp only [cellsC, and_true, Nat.zero_add, Nat.reduceAdd] at hq1
 have hq2 := cls_box hF1 hL0 _ _ (List.mem_cons_of_mem _ (List.mem_cons_of_mem _ (List.mem_cons_of_mem _ (List.mem_cons_of_mem _ (List.mem_cons_of_mem _ List.mem_cons_self)))))
 simp only [cellsC, and_true, Nat.zero_add, Nat.reduceAdd] at hq2
 refine region_qs 27 (C := fun w' => ∃ x, w' = F x) (by kernel_rfl) (by kernel_rfl) (cls_drew hF2) ?_
 simp only [List.take_succ_cons, List.take_zero, List.drop_succ_cons, List.drop_zero, List.take_nil, List.drop_nil]
 repeat (go_big_quiet_step (first | fail | (go_at_call 42; with_reducible exact cls_call hF1 hF2 Q3.out _) | (go_at_call 42; with_reducible exact cls_call hF1 hF2 Q1.out _) | (go_at_call 28; with_reducible exact cls_call hF1 hF2 M1.out _) | (go_at_call 35; with_reducible exact cls_callK hKT.out hF1 hF2 kKT1 HW.out _)))
 refine wpQuiet_nil ?_
 rintro wq ⟨xq, rfl⟩
 replace hL0 := hL0.call (hF1 xq)
 clear  hq0 hq1 hq2 hF2
 generalize F xq = x14 at hL0 ⊢
 clear hF1 xq iα F α
 clear kKT1
 go_wp2_with fail
 exact bodyPost_ret (v := .bool true) (by simp [results, Tryz.results10, go_sem]) rfl ⟨rfl, hL0.bl⟩
set_option maxHeartbeats 4000000 in
set_option maxRecDepth 100000 in
theorem rexact_no0 (sx sy : Bool) (ax qx ay qy : Option Addr) (nx cx mx dx ny cy my dy : Nat) (j : Int) (a b sq r bl pr t : Rat) (Kx : World → Prop) (hKx : Keeps Kx) (GX : ∀ w, Kx w → Calls Tryz.prog 20 #[.agg #[.bool sx, .slice ax nx cx, .slice qx mx dx]] w fun xe w' => xe = .returned (fracV a) ∧ Below w.heap.size w w') (Ky : World → Prop) (hKy : Keeps Ky) (GY : ∀ w, Ky w → Calls Tryz.prog 20 #[.agg #[.bool sy, .slice ay ny cy, .slice qy my dy]] w fun xe w' => xe = .returned (fracV b) ∧ Below w.heap.size w w') (Q1 : ∀ w, Calls Tryz.prog 42 #[fracV a] w fun xe w' => xe = .returned (fracV sq) ∧ Below w.heap.size w w') (X1 : ∀ w, Calls Tryz.prog 43 #[fracV sq] w fun xe w' => xe = .returned (.tuple #[fracV r, .bool true]) ∧ Below w.heap.size w w') (X2 : ∀ w, Calls Tryz.prog 43 #[fracV b] w fun xe w' => xe = .returned (.tuple #[.agg #[.int .u64 0, .string ⟨#[]⟩, .bool false, .int .u64 0, .string ⟨#[]⟩], .bool false]) ∧ Below w.heap.size w w') (HB : ∀ w, Calls Tryz.prog 36 #[fracV sq, .int .i64 64] w fun xe w' => xe = .returned (.tuple #[fracV bl, .int .i64 0]) ∧ Below w.heap.size w w') (HA : ∀ w, Calls Tryz.prog 30 #[fracV a] w fun xe w' => xe = .returned (fracV r) ∧ Below w.heap.size w w') (C1 : ∀ w, Calls Tryz.prog 26 #[fracV bl, fracV r] w fun xe w' => xe = .returned (.int .i64 j) ∧ Below w.heap.size w w') (S2 : ∀ w, Calls Tryz.prog 41 #[fracV a] w fun xe w' => xe = .returned (.int .i64 0) ∧ Below w.heap.size w w') (M1 : ∀ w, Calls Tryz.prog 28 #[fracV b, fracV sq] w fun xe w' => xe = .returned (fracV pr) ∧ Below w.heap.size w w') (X3 : ∀ w, Calls Tryz.prog 43 #[fracV pr] w fun xe w' => xe = .returned (.tuple #[fracV t, .bool true]) ∧ Below w.heap.size w w') (Q3 : ∀ w, Calls Tryz.prog 42 #[fracV t] w fun xe w' => xe = .returned (fracV pr) ∧ Below w.heap.size w w') (KT : World → Prop) (hKT : Keeps KT) (HW : ∀ w, KT w → Calls Tryz.prog 35 #[] w fun xe w' => xe = .returned (.bool true) ∧ Below w.heap.size w w') (l0 : decide ((4 : Int) < ((nx : Nat) : Int)) = false) (k0 : decide (4 < nx) = false) (l1 : decide ((4 : Int) < ((mx : Nat) : Int)) = false) (k1 : decide (4 < mx) = false) (l2 : decide ((4 : Int) < ((ny : Nat) : Int)) = false) (k2 : decide (4 < ny) = false) (l3 : decide ((4 : Int) < ((my : Nat) : Int)) = false) (k3 : decide (4 < my) = false) (g2 : decide (0 < j) = false) (w : World) (kKx : Kx w) (kKy : Ky w) (kKT : KT w) :
  Calls Tryz.prog 10 #[.agg #[.bool sx, .slice ax nx cx, .slice qx mx dx], .agg #[.bool sy, .slice ay ny cy, .slice qy my dy]] w fun xe w' => xe = .returned (.bool true) ∧ Below w.heap.size w w' := by
 have hL0 : GL w w [] := GL.start w
 replace hKx := Lib.hid hKx
 replace GX := Lib.hid GX
 replace hKy := Lib.hid hKy
 replace GY := Lib.hid GY
 replace Q1 := Lib.hid Q1
 replace X1 := Lib.hid X1
 replace X2 := Lib.hid X2
 replace HB := Lib.hid HB
 replace HA := Lib.hid HA
 replace C1 := Lib.hid C1
 replace S2 := Lib.hid S2
 replace M1 := Lib.hid M1
 replace X3 := Lib.hid X3
 replace Q3 := Lib.hid Q3
 replace hKT := Lib.hid hKT
 replace HW := Lib.hid HW
 replace hL0 := ((hL0.new rfl [.bool sx, .slice ax nx cx, .slice qx mx dx] 50).new (K := w.heap.size + 1) (szA _ _) [.bool sy, .slice ay ny cy, .slice qy my dy] 50)
 generalize hweq : ((w.alloc (.cells #[.bool sx, .slice ax nx cx, .slice qx mx dx] 50)).alloc (.cells #[.bool sy, .slice ay ny cy, .slice qy my dy] 50)) = x1 at hL0
 go_enter Tryz.func10, Tryz.ntmps10
 have hN0 := cells_of _ 0 [] rfl (hL0.get _ _ List.mem_cons_self)
 simp only [cellsF, and_true, Nat.zero_add, Nat.reduceAdd] at hN0
 have hN1 := cells_of _ 0 [] rfl (hL0.get _ _ (List.mem_cons_of_mem _ List.mem_cons_self))
 simp only [cellsF, and_true, Nat.zero_add, Nat.reduceAdd] at hN1
 go_upto_region 3 with fail
 have kKx1 := hKx.out.at hL0.bl kKx
 have kKy1 := hKy.out.at hL0.bl kKy
 clear hN0 hN1
 clear hweq
 refine region_gh (by kernel_rfl) (by kernel_rfl) ?_
 refine lex_seg (gl := []) 4 (by kernel_rfl) ?_
 intro α iα F hF1 hF2
 have hq := GL.seg hF1 hL0
 simp only [fcC, cellsC, and_true, Nat.zero_add, Nat.reduceAdd] at hq
 simp only [List.take_succ_cons, List.take_zero, List.drop_succ_cons, List.drop_zero, List.take_nil, List.drop_nil]
 repeat (go_big_quiet_step (first | fail | (go_at_call 20; with_reducible exact seg_callK hKx.out hF1 hF2 kKx1 GX.out _) | (go_at_call 20; with_reducible exact seg_callK hKy.out hF1 hF2 kKy1 GY.out _)))
 refine wpQuiet_nil ?_
 clear hq hF1 hF2 iα F α
 refine lex_new [.int .u64 0, .string ⟨#[]⟩, .bool false, .int .u64 0, .string ⟨#[]⟩] 5 34 34 rfl rfl (of_decide_eq_true (by kernel_rfl)) (by kernel_rfl) rfl new_frac ?_
 simp only [Act.put, List.setIfInBounds_toArray, List.set_cons_succ, List.set_cons_zero]
 refine lex_new [.int .u64 0, .string ⟨#[]⟩, .bool false, .int .u64 0, .string ⟨#[]⟩] 6 34 34 rfl rfl (of_decide_eq_true (by kernel_rfl)) (by kernel_rfl) rfl new_frac ?_
 simp only [Act.put, List.setIfInBounds_toArray, List.set_cons_succ, List.set_cons_zero]
 refine lex_put [.int .u64 ((zl a.num : Nat) : Int), .string (zh a.num), .bool (zs a.num), .int .u64 ((lo (fe a) : Nat) : Int), .string (hs (fe a))] [.int .u64 0, .string ⟨#[]⟩, .bool false, .int .u64 0, .string ⟨#[]⟩] 5 34 (.tmp 43) rfl (by kernel_rfl) (by simp [toG, upd]) rfl (fun w k h => put_frac _ _ _ _ _ _ _ _ _ _ w k h) ?_
 simp only [Act.put]
 refine lex_put [.int .u64 ((zl b.num : Nat) : Int), .string (zh b.num), .bool (zs b.num), .int .u64 ((lo (fe b) : Nat) : Int), .string (hs (fe b))] [.int .u64 0, .string ⟨#[]⟩, .bool false, .int .u64 0, .string ⟨#[]⟩] 6 34 (.tmp 45) rfl (by kernel_rfl) (by simp [toG, upd]) rfl (fun w k h => put_frac _ _ _ _ _ _ _ _ _ _ w k h) ?_
 simp only [Act.put]
 refine lexG_nil ?_
 intro κ x2 hS
 replace hL0 := hL0.ghs hS [(6, [.int .u64 ((zl b.num : Nat) : Int), .string (zh b.num), .bool (zs b.num), .int .u64 ((lo (fe b) : Nat) : Int), .string (hs (fe b))]), (5, [.int .u64 ((zl a.num : Nat) : Int), .string (zh a.num), .bool (zs a.num), .int .u64 ((lo (fe a) : Nat) : Int), .string (hs (fe a))])] (by simp) (by intro p hp; simp only [List.mem_cons, List.not_mem_nil, or_false] at hp; rcases hp with rfl | rfl <;> exact ⟨_, by simp only [toG, upd]; rfl⟩)
 simp only [List.map_cons, List.map_nil, List.cons_append, List.nil_append] at hL0
 simp only [over_toG, over_nil, Act.put, List.setIfInBounds_toArray, List.set_cons_succ, List.set_cons_zero]
 clear hS
 generalize κ 6 = k2_6 at *
 generalize κ 5 = k2_5 at *
 clear kKx1 kKy1
 have hN0 := cells_of _ 0 [] rfl (hL0.get _ _ (List.mem_cons_of_mem _ List.mem_cons_self))
 simp only [cellsF, and_true, Nat.zero_add, Nat.reduceAdd] at hN0
 go_wp2_with fail
 clear hN0
 with_reducible refine Calls.mono (Q1.out _) ?_
 rintro e x3 ⟨rfl, hb⟩
 replace hL0 := hL0.call hb
 clear hb
 go_wp2_with fail
 with_reducible refine Calls.mono (X1.out _) ?_
 rintro e x4 ⟨rfl, hb⟩
 replace hL0 := hL0.call hb
 clear hb
 replace hL0 := (hL0.new rfl [.int .u64 ((zl r.num : Nat) : Int), .string (zh r.num), .bool (zs r.num), .int .u64 ((lo (fe r) : Nat) : Int), .string (hs (fe r))] 34)
 generalize hweq : (x4.alloc (.cells #[.int .u64 ((zl r.num : Nat) : Int), .string (zh r.num), .bool (zs r.num), .int .u64 ((lo (fe r) : Nat) : Int), .string (hs (fe r))] 34)) = x5 at hL0
 have hN0 := cells_of _ 0 [] rfl (hL0.get _ _ (List.mem_cons_of_mem _ List.mem_cons_self))
 simp only [cellsF, and_true, Nat.zero_add, Nat.reduceAdd] at hN0
 go_wp2_with fail
 clear hN0
 with_reducible refine Calls.mono (X2.out _) ?_
 rintro e x6 ⟨rfl, hb⟩
 replace hL0 := hL0.call hb
 clear hb hweq
 replace hL0 := (hL0.new rfl [.int .u64 0, .string ⟨#[]⟩, .bool false, .int .u64 0, .string ⟨#[]⟩] 34)
 generalize hweq : (x6.alloc (.cells #[.int .u64 0, .string ⟨#[]⟩, .bool false, .int .u64 0, .string ⟨#[]⟩] 34)) = x7 at hL0
 have hA := hL0.fc
 simp only [fcG, cellsF, neK, and_true, ne_eq, Nat.zero_add, Nat.reduceAdd] at hA
 have hP := hL0.put 0 (x6.heap.size) _ rfl [.int .u64 0, .string ⟨#[]⟩, .bool false, .int .u64 0, .string ⟨#[]⟩] rfl
 simp only [setAll, List.set_cons_zero, List.set_cons_succ] at hP
 generalize hput1 : (((((x7.setCell ⟨x6.heap.size, 0, none⟩ (.int .u64 0)).setCell ⟨x6.heap.size, 1, none⟩ (.string ⟨#[]⟩)).setCell ⟨x6.heap.size, 2, none⟩ (.bool false)).setCell ⟨x6.heap.size, 3, none⟩ (.int .u64 0)).setCell ⟨x6.heap.size, 4, none⟩ (.string ⟨#[]⟩)) = x8 at hP
 have hB1 := hP.fc
 simp only [fcG, cellsF, neK, and_true, ne_eq, Nat.zero_add, Nat.reduceAdd] at hB1
 replace hL0 := hP
 go_wp2_with fail
 clear hA
 with_reducible refine Calls.mono (Q1.out _) ?_
 rintro e x9 ⟨rfl, hb⟩
 replace hL0 := hL0.call hb
 clear hb hweq hput1 hB1
 go_wp2_with fail
 with_reducible refine Calls.mono (HB.out _) ?_
 rintro e x10 ⟨rfl, hb⟩
 replace hL0 := hL0.call hb
 clear hb
 replace hL0 := (hL0.new rfl [.int .u64 ((zl bl.num : Nat) : Int), .string (zh bl.num), .bool (zs bl.num), .int .u64 ((lo (fe bl) : Nat) : Int), .string (hs (fe bl))] 34)
 generalize hweq : (x10.alloc (.cells #[.int .u64 ((zl bl.num : Nat) : Int), .string (zh bl.num), .bool (zs bl.num), .int .u64 ((lo (fe bl) : Nat) : Int), .string (hs (fe bl))] 34)) = x11 at hL0
 go_upto_region 7 with fail
 clear hweq
 obtain ⟨α, iα, F, hF1, hF2⟩ := cls x11
 have hq0 := cls_box hF1 hL0 _ _ List.mem_cons_self
 simp only [cellsC, and_true, Nat.zero_add, Nat.reduceAdd] at hq0
 have hq1 := cls_box hF1 hL0 _ _ (List.mem_cons_of_mem _ List.mem_cons_self)
 simp only [cellsC, and_true, Nat.zero_add, Nat.reduceAdd] at hq1
 have hq2 := cls_box hF1 hL0 _ _ (List.mem_cons_of_mem _ (List.mem_cons_of_mem _ List.mem_cons_self))
 simp only [cellsC, and_true, Nat.zero_add, Nat.reduceAdd] at hq2
 have hq3 := cls_box hF1 hL0 _ _ (List.mem_cons_of_mem _ (List.mem_cons_of_mem _ (List.mem_cons_of_mem _ (List.mem_cons_of_mem _ List.mem_cons_self))))
 simp only [cellsC, and_true, Nat.zero_add, Nat.reduceAdd] at hq3
 refine region_qs 37 (C := fun w' => ∃ x, w' = F x) (by kernel_rfl) (by kernel_rfl) (cls_drew hF2) ?_
 simp only [List.take_succ_cons, List.take_zero, List.drop_succ_cons, List.drop_zero, List.take_nil, List.drop_nil]
 repeat (go_big_quiet_step (first | fail | (go_at_call 30; with_reducible exact cls_call hF1 hF2 HA.out _) | (go_at_call 26; with_reducible exact cls_call hF1 hF2 C1.out _)))
 refine wpQuiet_nil ?_
 rintro wq ⟨xq, rfl⟩
 replace hL0 := hL0.call (hF1 xq)
 clear  hq0 hq1 hq2 hq3 hF2
 generalize F xq = x12 at hL0 ⊢
 clear hF1 xq iα F α
 go_upto_region 12 with fail
 refine region_gh (by kernel_rfl) (by kernel_rfl) ?_
 refine lex_seg (gl := []) 8 (by kernel_rfl) ?_
 intro α iα F hF1 hF2
 have hq := GL.seg hF1 hL0
 simp only [fcC, cellsC, and_true, Nat.zero_add, Nat.reduceAdd] at hq
 simp only [List.take_succ_cons, List.take_zero, List.drop_succ_cons, List.drop_zero, List.take_nil, List.drop_nil]
 repeat (go_big_quiet_step (first | fail | (go_at_call 42; with_reducible exact seg_call hF2 Q1.out _) | (go_at_call 28; with_reducible exact seg_call hF2 M1.out _) | (go_at_call 43; with_reducible exact seg_call hF2 X3.out _)))
 refine wpQuiet_nil ?_
 clear hq hF1 hF2 iα F α
 refine lex_new [.int .u64 0, .string ⟨#[]⟩, .bool false, .int .u64 0, .string ⟨#[]⟩] 15 34 34 rfl rfl (of_decide_eq_true (by kernel_rfl)) (by kernel_rfl) rfl new_frac ?_
 simp only [Act.put, List.setIfInBounds_toArray, List.set_cons_succ, List.set_cons_zero]
 refine lex_put [.int .u64 ((zl t.num : Nat) : Int), .string (zh t.num), .bool (zs t.num), .int .u64 ((lo (fe t) : Nat) : Int), .string (hs (fe t))] [.int .u64 0, .string ⟨#[]⟩, .bool false, .int .u64 0, .string ⟨#[]⟩] 15 34 (.tmp 132) rfl (by kernel_rfl) (by simp [toG, upd]) rfl (fun w k h => put_frac _ _ _ _ _ _ _ _ _ _ w k h) ?_
 simp only [Act.put]
 refine lex_seg (gl := [(15, [.int .u64 ((zl t.num : Nat) : Int), .string (zh t.num), .bool (zs t.num), .int .u64 ((lo (fe t) : Nat) : Int), .string (hs (fe t))], true), (15, [.int .u64 0, .string ⟨#[]⟩, .bool false, .int .u64 0, .string ⟨#[]⟩], false)]) 1 (by kernel_rfl) ?_
 intro α iα F hF1 hF2
 have hq := GL.seg hF1 hL0
 simp only [fcC, cellsC, and_true, Nat.zero_add, Nat.reduceAdd] at hq
 simp only [List.take_succ_cons, List.take_zero, List.drop_succ_cons, List.drop_zero, List.take_nil, List.drop_nil]
 repeat (go_big_quiet_step (first | fail | (go_at_call 42; with_reducible exact seg_call hF2 Q1.out _) | (go_at_call 28; with_reducible exact seg_call hF2 M1.out _) | (go_at_call 43; with_reducible exact seg_call hF2 X3.out _)))
 refine wpQuiet_nil ?_
 clear hq hF1 hF2 iα F α
 refine lexG_nil ?_
 intro κ x13 hS
 replace hL0 := hL0.ghs hS [(15, [.int .u64 ((zl t.num : Nat) : Int), .string (zh t.num), .bool (zs t.num), .int .u64 ((lo (fe t) : Nat) : Int), .string (hs (fe t))])] (by simp) (by intro p hp; simp only [List.mem_cons, List.not_mem_nil, or_false] at hp; rcases hp with rfl <;> exact ⟨_, by simp only [toG, upd]; rfl⟩)
 simp only [List.map_cons, List.map_nil, List.cons_append, List.nil_append] at hL0
 simp only [over_toG, over_nil, Act.put, List.setIfInBounds_toArray, List.set_cons_succ, List.set_cons_zero]
 clear hS
 generalize κ 15 = k13_15 at *
 go_upto_region 13 with fail
 have kKT1 := hKT.out.at hL0.bl kKT
 obtain ⟨α, iα, F, hF1, hF2⟩ := cls x13
 have hq0 := cls_box hF1 hL0 _ _ List.mem_cons_self
 simp only [cellsC, and_true, Nat.zero_add, Nat.reduceAdd] at hq0
 have hq1 := cls_box hF1 hL0 _ _ (List.mem_cons_of_mem _ (List.mem_cons_of_mem _ (List.mem_cons_of_mem _ (List.mem_cons_of_mem _ List.mem_cons_self))))
 simp only [cellsC, and_true, Nat.zero_add, Nat.reduceAdd] at hq1
 have hq2 := cls_box hF1 hL0 _ _ (List.mem_cons_of_mem _ (List.mem_cons_of_mem _ (List.mem_cons_of_mem _ (List.mem_cons_of_mem _ (List.mem_cons_of_mem _ List.mem_cons_self)))))
 simp only [cellsC, and_true, Nat.zero_add, Nat.reduceAdd] at hq2
 refine region_qs 27 (C := fun w' => ∃ x, w' = F x) (by kernel_rfl) (by kernel_rfl) (cls_drew hF2) ?_
 simp only [List.take_succ_cons, List.take_zero, List.drop_succ_cons, List.drop_zero, List.take_nil, List.drop_nil]
 repeat (go_big_quiet_step (first | fail | (go_at_call 41; with_reducible exact cls_call hF1 hF2 S2.out _) | (go_at_call 42; with_reducible exact cls_call hF1 hF2 Q3.out _) | (go_at_call 42; with_reducible exact cls_call hF1 hF2 Q1.out _) | (go_at_call 28; with_reducible exact cls_call hF1 hF2 M1.out _) | (go_at_call 35; with_reducible exact cls_callK hKT.out hF1 hF2 kKT1 HW.out _)))
 refine wpQuiet_nil ?_
 rintro wq ⟨xq, rfl⟩
 replace hL0 := hL0.call (hF1 xq)
 clear  hq0 hq1 hq2 hF2
 generalize F xq = x14 at hL0 ⊢
 clear hF1 xq iα F α
 clear kKT1
 go_wp2_with fail
 exact bodyPost_ret (v := .bool true) (by simp [results, Tryz.results10, go_sem]) rfl ⟨rfl, hL0.bl⟩
set_option maxHeartbeats 4000000 in
set_option maxRecDepth 100000 in
theorem rexact_no (sx sy : Bool) (ax qx ay qy : Option Addr) (nx cx mx dx ny cy my dy : Nat) (k j : Int) (a b sq r bl pr : Rat) (Kx : World → Prop) (hKx : Keeps Kx) (GX : ∀ w, Kx w → Calls Tryz.prog 20 #[.agg #[.bool sx, .slice ax nx cx, .slice qx mx dx]] w fun xe w' => xe = .returned (fracV a) ∧ Below w.heap.size w w') (Ky : World → Prop) (hKy : Keeps Ky) (GY : ∀ w, Ky w → Calls Tryz.prog 20 #[.agg #[.bool sy, .slice ay ny cy, .slice qy my dy]] w fun xe w' => xe = .returned (fracV b) ∧ Below w.heap.size w w') (Q1 : ∀ w, Calls Tryz.prog 42 #[fracV a] w fun xe w' => xe = .returned (fracV sq) ∧ Below w.heap.size w w') (X1 : ∀ w, Calls Tryz.prog 43 #[fracV sq] w fun xe w' => xe = .returned (.tuple #[fracV r, .bool true]) ∧ Below w.heap.size w w') (X2 : ∀ w, Calls Tryz.prog 43 #[fracV b] w fun xe w' => xe = .returned (.tuple #[.agg #[.int .u64 0, .string ⟨#[]⟩, .bool false, .int .u64 0, .string ⟨#[]⟩], .bool false]) ∧ Below w.heap.size w w') (HB : ∀ w, Calls Tryz.prog 36 #[fracV sq, .int .i64 64] w fun xe w' => xe = .returned (.tuple #[fracV bl, .int .i64 0]) ∧ Below w.heap.size w w') (HA : ∀ w, Calls Tryz.prog 30 #[fracV a] w fun xe w' => xe = .returned (fracV r) ∧ Below w.heap.size w w') (C1 : ∀ w, Calls Tryz.prog 26 #[fracV bl, fracV r] w fun xe w' => xe = .returned (.int .i64 j) ∧ Below w.heap.size w w') (S2 : ∀ w, Calls Tryz.prog 41 #[fracV a] w fun xe w' => xe = .returned (.int .i64 k) ∧ Below w.heap.size w w') (M1 : ∀ w, Calls Tryz.prog 28 #[fracV b, fracV sq] w fun xe w' => xe = .returned (fracV pr) ∧ Below w.heap.size w w') (X3 : ∀ w, Calls Tryz.prog 43 #[fracV pr] w fun xe w' => xe = .returned (.tuple #[.agg #[.int .u64 0, .string ⟨#[]⟩, .bool false, .int .u64 0, .string ⟨#[]⟩], .bool false]) ∧ Below w.heap.size w w') (KT : World → Prop) (hKT : Keeps KT) (HW : ∀ w, KT w → Calls Tryz.prog 35 #[] w fun xe w' => xe = .returned (.bool true) ∧ Below w.heap.size w w') (l0 : decide ((4 : Int) < ((nx : Nat) : Int)) = false) (k0 : decide (4 < nx) = false) (l1 : decide ((4 : Int) < ((mx : Nat) : Int)) = false) (k1 : decide (4 < mx) = false) (l2 : decide ((4 : Int) < ((ny : Nat) : Int)) = false) (k2 : decide (4 < ny) = false) (l3 : decide ((4 : Int) < ((my : Nat) : Int)) = false) (k3 : decide (4 < my) = false) (g2 : decide (0 < j) = false) (g3 : (k != 0) = true) (g4 : (k == 0) = false) (w : World) (kKx : Kx w) (kKy : Ky w) (kKT : KT w) :
  Calls Tryz.prog 10 #[.agg #[.bool sx, .slice ax nx cx, .slice qx mx dx], .agg #[.bool sy, .slice ay ny cy, .slice qy my dy]] w fun xe w' => xe = .returned (.bool true) ∧ Below w.heap.size w w' := by
 have hL0 : GL w w [] := GL.start w
 replace hKx := Lib.hid hKx
 replace GX := Lib.hid GX
 replace hKy := Lib.hid hKy
 replace GY := Lib.hid GY
 replace Q1 := Lib.hid Q1
 replace X1 := Lib.hid X1
 replace X2 := Lib.hid X2
 replace HB := Lib.hid HB
 replace HA := Lib.hid HA
 replace C1 := Lib.hid C1
 replace S2 := Lib.hid S2
 replace M1 := Lib.hid M1
 replace X3 := Lib.hid X3
 replace hKT := Lib.hid hKT
 replace HW := Lib.hid HW
 replace hL0 := ((hL0.new rfl [.bool sx, .slice ax nx cx, .slice qx mx dx] 50).new (K := w.heap.size + 1) (szA _ _) [.bool sy, .slice ay ny cy, .slice qy my dy] 50)
 generalize hweq : ((w.alloc (.cells #[.bool sx, .slice ax nx cx, .slice qx mx dx] 50)).alloc (.cells #[.bool sy, .slice ay ny cy, .slice qy my dy] 50)) = x1 at hL0
 go_enter Tryz.func10, Tryz.ntmps10
 have hN0 := cells_of _ 0 [] rfl (hL0.get _ _ List.mem_cons_self)
 simp only [cellsF, and_true, Nat.zero_add, Nat.reduceAdd] at hN0
 have hN1 := cells_of _ 0 [] rfl (hL0.get _ _ (List.mem_cons_of_mem _ List.mem_cons_self))
 simp only [cellsF, and_true, Nat.zero_add, Nat.reduceAdd] at hN1
 go_upto_region 3 with fail
 have kKx1 := hKx.out.at hL0.bl kKx
 have kKy1 := hKy.out.at hL0.bl kKy
 clear hN0 hN1
 clear hweq
 refine region_gh (by kernel_rfl) (by kernel_rfl) ?_
 refine lex_seg (gl := []) 4 (by kernel_rfl) ?_
 intro α iα F hF1 hF2
 have hq := GL.seg hF1 hL0
 simp only [fcC, cellsC, and_true, Nat.zero_add, Nat.reduceAdd] at hq
 simp only [List.take_succ_cons, List.take_zero, List.drop_succ_cons, List.drop_zero, List.take_nil, List.drop_nil]
 repeat (go_big_quiet_step (first | fail | (go_at_call 20; with_reducible exact seg_callK hKx.out hF1 hF2 kKx1 GX.out _) | (go_at_call 20; with_reducible exact seg_callK hKy.out hF1 hF2 kKy1 GY.out _)))
 refine wpQuiet_nil ?_
 clear hq hF1 hF2 iα F α
 refine lex_new [.int .u64 0, .string ⟨#[]⟩, .bool false, .int .u64 0, .string ⟨#[]⟩] 5 34 34 rfl rfl (of_decide_eq_true (by kernel_rfl)) (by kernel_rfl) rfl new_frac ?_
 simp only [Act.put, List.setIfInBounds_toArray, List.set_cons_succ, List.set_cons_zero]
 refine lex_new [.int .u64 0, .string ⟨#[]⟩, .bool false, .int .u64 0, .string ⟨#[]⟩] 6 34 34 rfl rfl (of_decide_eq_true (by kernel_rfl)) (by kernel_rfl) rfl new_frac ?_
 simp only [Act.put, List.setIfInBounds_toArray, List.set_cons_succ, List.set_cons_zero]
 refine lex_put [.int .u64 ((zl a.num : Nat) : Int), .string (zh a.num), .bool (zs a.num), .int .u64 ((lo (fe a) : Nat) : Int), .string (hs (fe a))] [.int .u64 0, .string ⟨#[]⟩, .bool false, .int .u64 0, .string ⟨#[]⟩] 5 34 (.tmp 43) rfl (by kernel_rfl) (by simp [toG, upd]) rfl (fun w k h => put_frac _ _ _ _ _ _ _ _ _ _ w k h) ?_
 simp only [Act.put]
 refine lex_put [.int .u64 ((zl b.num : Nat) : Int), .string (zh b.num), .bool (zs b.num), .int .u64 ((lo (fe b) : Nat) : Int), .string (hs (fe b))] [.int .u64 0, .string ⟨#[]⟩, .bool false, .int .u64 0, .string ⟨#[]⟩] 6 34 (.tmp 45) rfl (by kernel_rfl) (by simp [toG, upd]) rfl (fun w k h => put_frac _ _ _ _ _ _ _ _ _ _ w k h) ?_
 simp only [Act.put]
 refine lexG_nil ?_
 intro κ x2 hS
 replace hL0 := hL0.ghs hS [(6, [.int .u64 ((zl b.num : Nat) : Int), .string (zh b.num), .bool (zs b.num), .int .u64 ((lo (fe b) : Nat) : Int), .string (hs (fe b))]), (5, [.int .u64 ((zl a.num : Nat) : Int), .string (zh a.num), .bool (zs a.num), .int .u64 ((lo (fe a) : Nat) : Int), .string (hs (fe a))])] (by simp) (by intro p hp; simp only [List.mem_cons, List.not_mem_nil, or_false] at hp; rcases hp with rfl | rfl <;> exact ⟨_, by simp only [toG, upd]; rfl⟩)
 simp only [List.map_cons, List.map_nil, List.cons_append, List.nil_append] at hL0
 simp only [over_toG, over_nil, Act.put, List.setIfInBounds_toArray, List.set_cons_succ, List.set_cons_zero]
 clear hS
 generalize κ 6 = k2_6 at *
 generalize κ 5 = k2_5 at *
 clear kKx1 kKy1
 have hN0 := cells_of _ 0 [] rfl (hL0.get _ _ (List.mem_cons_of_mem _ List.mem_cons_self))
 simp only [cellsF, and_true, Nat.zero_add, Nat.reduceAdd] at hN0
 go_wp2_with fail
 clear hN0
 with_reducible refine Calls.mono (Q1.out _) ?_
 rintro e x3 ⟨rfl, hb⟩
 replace hL0 := hL0.call hb
 clear hb
 go_wp2_with fail
 with_reducible refine Calls.mono (X1.out _) ?_
 rintro e x4 ⟨rfl, hb⟩
 replace hL0 := hL0.call hb
 clear hb
 replace hL0 := (hL0.new rfl [.int .u64 ((zl r.num : Nat) : Int), .string (zh r.num), .bool (zs r.num), .int .u64 ((lo (fe r) : Nat) : Int), .string (hs (fe r))] 34)
 generalize hweq : (x4.alloc (.cells #[.int .u64 ((zl r.num : Nat) : Int), .string (zh r.num), .bool (zs r.num), .int .u64 ((lo (fe r) : Nat) : Int), .string (hs (fe r))] 34)) = x5 at hL0
 have hN0 := cells_of _ 0 [] rfl (hL0.get _ _ (List.mem_cons_of_mem _ List.mem_cons_self))
 simp only [cellsF, and_true, Nat.zero_add, Nat.reduceAdd] at hN0
 go_wp2_with fail
 clear hN0
 with_reducible refine Calls.mono (X2.out _) ?_
 rintro e x6 ⟨rfl, hb⟩
 replace hL0 := hL0.call hb
 clear hb hweq
 replace hL0 := (hL0.new rfl [.int .u64 0, .string ⟨#[]⟩, .bool false, .int .u64 0, .string ⟨#[]⟩] 34)
 generalize hweq : (x6.alloc (.cells #[.int .u64 0, .string ⟨#[]⟩, .bool false, .int .u64 0, .string ⟨#[]⟩] 34)) = x7 at hL0
 have hA := hL0.fc
 simp only [fcG, cellsF, neK, and_true, ne_eq, Nat.zero_add, Nat.reduceAdd] at hA
 have hP := hL0.put 0 (x6.heap.size) _ rfl [.int .u64 0, .string ⟨#[]⟩, .bool false, .int .u64 0, .string ⟨#[]⟩] rfl
 simp only [setAll, List.set_cons_zero, List.set_cons_succ] at hP
 generalize hput1 : (((((x7.setCell ⟨x6.heap.size, 0, none⟩ (.int .u64 0)).setCell ⟨x6.heap.size, 1, none⟩ (.string ⟨#[]⟩)).setCell ⟨x6.heap.size, 2, none⟩ (.bool false)).setCell ⟨x6.heap.size, 3, none⟩ (.int .u64 0)).setCell ⟨x6.heap.size, 4, none⟩ (.string ⟨#[]⟩)) = x8 at hP
 have hB1 := hP.fc
 simp only [fcG, cellsF, neK, and_true, ne_eq, Nat.zero_add, Nat.reduceAdd] at hB1
 replace hL0 := hP
 go_wp2_with fail
 clear hA
 with_reducible refine Calls.mono (Q1.out _) ?_
 rintro e x9 ⟨rfl, hb⟩
 replace hL0 := hL0.call hb
 clear hb hweq hput1 hB1
 go_wp2_with fail
 with_reducible refine Calls.mono (HB.out _) ?_
 rintro e x10 ⟨rfl, hb⟩
 replace hL0 := hL0.call hb
 clear hb
 replace hL0 := (hL0.new rfl [.int .u64 ((zl bl.num : Nat) : Int), .string (zh bl.num), .bool (zs bl.num), .int .u64 ((lo (fe bl) : Nat) : Int), .string (hs (fe bl))] 34)
 generalize hweq : (x10.alloc (.cells #[.int .u64 ((zl bl.num : Nat) : Int), .string (zh bl.num), .bool (zs bl.num), .int .u64 ((lo (fe bl) : Nat) : Int), .string (hs (fe bl))] 34)) = x11 at hL0
 go_upto_region 7 with fail
 clear hweq
 obtain ⟨α, iα, F, hF1, hF2⟩ := cls x11
 have hq0 := cls_box hF1 hL0 _ _ List.mem_cons_self
 simp only [cellsC, and_true, Nat.zero_add, Nat.reduceAdd] at hq0
 have hq1 := cls_box hF1 hL0 _ _ (List.mem_cons_of_mem _ List.mem_cons_self)
 simp only [cellsC, and_true, Nat.zero_add, Nat.reduceAdd] at hq1
 have hq2 := cls_box hF1 hL0 _ _ (List.mem_cons_of_mem _ (List.mem_cons_of_mem _ List.mem_cons_self))
 simp only [cellsC, and_true, Nat.zero_add, Nat.reduceAdd] at hq2
 have hq3 := cls_box hF1 hL0 _ _ (List.mem_cons_of_mem _ (List.mem_cons_of_mem _ (List.mem_cons_of_mem _ (List.mem_cons_of_mem _ List.mem_cons_self))))
 simp only [cellsC, and_true, Nat.zero_add, Nat.reduceAdd] at hq3
 refine region_qs 37 (C := fun w' => ∃ x, w' = F x) (by kernel_rfl) (by kernel_rfl) (cls_drew hF2) ?_
 simp only [List.take_succ_cons, List.take_zero, List.drop_succ_cons, List.drop_zero, List.take_nil, List.drop_nil]
 repeat (go_big_quiet_step (first | fail | (go_at_call 30; with_reducible exact cls_call hF1 hF2 HA.out _) | (go_at_call 26; with_reducible exact cls_call hF1 hF2 C1.out _)))
 refine wpQuiet_nil ?_
 rintro wq ⟨xq, rfl⟩
 replace hL0 := hL0.call (hF1 xq)
 clear  hq0 hq1 hq2 hq3 hF2
 generalize F xq = x12 at hL0 ⊢
 clear hF1 xq iα F α
 go_upto_region 12 with fail
 refine region_gh (by kernel_rfl) (by kernel_rfl) ?_
 refine lex_seg (gl := []) 8 (by kernel_rfl) ?_
 intro α iα F hF1 hF2
 have hq := GL.seg hF1 hL0
 simp only [fcC, cellsC, and_true, Nat.zero_add, Nat.reduceAdd] at hq
 simp only [List.take_succ_cons, List.take_zero, List.drop_succ_cons, List.drop_zero, List.take_nil, List.drop_nil]
 repeat (go_big_quiet_step (first | fail | (go_at_call 42; with_reducible exact seg_call hF2 Q1.out _) | (go_at_call 28; with_reducible exact seg_call hF2 M1.out _) | (go_at_call 43; with_reducible exact seg_call hF2 X3.out _)))
 refine wpQuiet_nil ?_
 clear hq hF1 hF2 iα F α
 refine lex_new [.int .u64 0, .string ⟨#[]⟩, .bool false, .int .u64 0, .string ⟨#[]⟩] 15 34 34 rfl rfl (of_decide_eq_true (by kernel_rfl)) (by kernel_rfl) rfl new_frac ?_
 simp only [Act.put, List.setIfInBounds_toArray, List.set_cons_succ, List.set_cons_zero]
 refine lex_put [.int .u64 0, .string ⟨#[]⟩, .bool false, .int .u64 0, .string ⟨#[]⟩] [.int .u64 0, .string ⟨#[]⟩, .bool false, .int .u64 0, .string ⟨#[]⟩] 15 34 (.tmp 132) rfl (by kernel_rfl) (by simp [toG, upd]) rfl (fun w k h => put_frac _ _ _ _ _ _ _ _ _ _ w k h) ?_
 simp only [Act.put]
 refine lex_seg (gl := [(15, [.int .u64 0, .string ⟨#[]⟩, .bool false, .int .u64 0, .string ⟨#[]⟩], true), (15, [.int .u64 0, .string ⟨#[]⟩, .bool false, .int .u64 0, .string ⟨#[]⟩], false)]) 1 (by kernel_rfl) ?_
 intro α iα F hF1 hF2
 have hq := GL.seg hF1 hL0
 simp only [fcC, cellsC, and_true, Nat.zero_add, Nat.reduceAdd] at hq
 simp only [List.take_succ_cons, List.take_zero, List.drop_succ_cons, List.drop_zero, List.take_nil, List.drop_nil]
 repeat (go_big_quiet_step (first | fail | (go_at_call 42; with_reducible exact seg_call hF2 Q1.out _) | (go_at_call 28; with_reducible exact seg_call hF2 M1.out _) | (go_at_call 43; with_reducible exact seg_call hF2 X3.out _)))
 refine wpQuiet_nil ?_
 clear hq hF1 hF2 iα F α
 refine lexG_nil ?_
 intro κ x13 hS
 replace hL0 := hL0.ghs hS [(15, [.int .u64 0, .string ⟨#[]⟩, .bool false, .int .u64 0, .string ⟨#[]⟩])] (by simp) (by intro p hp; simp only [List.mem_cons, List.not_mem_nil, or_false] at hp; rcases hp with rfl <;> exact ⟨_, by simp only [toG, upd]; rfl⟩)
 simp only [List.map_cons, List.map_nil, List.cons_append, List.nil_append] at hL0
 simp only [over_toG, over_nil, Act.put, List.setIfInBounds_toArray, List.set_cons_succ, List.set_cons_zero]
 clear hS
 generalize κ 15 = k13_15 at *
 go_upto_region 13 with fail
 have kKT1 := hKT.out.at hL0.bl kKT
 obtain ⟨α, iα, F, hF1, hF2⟩ := cls x13
 have hq0 := cls_box hF1 hL0 _ _ (List.mem_cons_of_mem _ (List.mem_cons_of_mem _ (List.mem_cons_of_mem _ (List.mem_cons_of_mem _ (List.mem_cons_of_mem _ List.mem_cons_self)))))
 simp only [cellsC, and_true, Nat.zero_add, Nat.reduceAdd] at hq0
 refine region_qs 27 (C := fun w' => ∃ x, w' = F x) (by kernel_rfl) (by kernel_rfl) (cls_drew hF2) ?_
 simp only [List.take_succ_cons, List.take_zero, List.drop_succ_cons, List.drop_zero, List.take_nil, List.drop_nil]
 repeat (go_big_quiet_step (first | fail | (go_at_call 41; with_reducible exact cls_call hF1 hF2 S2.out _) | (go_at_call 35; with_reducible exact cls_callK hKT.out hF1 hF2 kKT1 HW.out _)))
 refine wpQuiet_nil ?_
 rintro wq ⟨xq, rfl⟩
 replace hL0 := hL0.call (hF1 xq)
 clear  hq0 hF2
 generalize F xq = x14 at hL0 ⊢
 clear hF1 xq iα F α
 clear kKT1
 go_wp2_with fail
 exact bodyPost_ret (v := .bool true) (by simp [results, Tryz.results10, go_sem]) rfl ⟨rfl, hL0.bl⟩
end Go.Proofs.YtdkjckiialnpnaaGreatDoor
namespace Go.Proofs.YtdkjckiialnpnaaGreatDoor
open Go.RowKit
theorem sg_nn {x : Rat} (h : 0 ≤ x) : decide (sgnQ x < 0) = false := by rw [sgn_neg']; exact decide_eq_false (by grind)
theorem sgnQ_ne' {b : Rat} (hb : b ≠ 0) : (sgnQ b == 0) = false ∧ (sgnQ b != 0) = true := by
 have h : (sgnQ b == 0) = false := by rw [sgnQ_eq0]; exact decide_eq_false hb
 exact ⟨h, by simp only [bne, h, Bool.not_false]⟩
theorem gpair5 (v u : Value) (l k : List Nat) : Keeps (fun w => Ws w v l ∧ Ws w u k) := Keeps.and (Keeps.ws v l) (Keeps.ws u k)
theorem rexact_any (sx sy : Bool) (ax qx ay qy : Option Addr) (nx cx mx dx ny cy my dy : Nat) (lx kx ly ky : List Nat) (w : World) (htab : Tab w) (hwx : Ws w (.slice ax nx cx) lx) (hvx : Ws w (.slice qx mx dx) kx) (hwy : Ws w (.slice ay ny cy) ly) (hvy : Ws w (.slice qy my dy) ky) :
  Calls Tryz.prog 10 #[.agg #[.bool sx, .slice ax nx cx, .slice qx mx dx], .agg #[.bool sy, .slice ay ny cy, .slice qy my dy]] w fun xe w' => xe = .returned (.bool true) ∧ Below w.heap.size w w' := by
 have e1 := hwx.len
 have e2 := hvx.len
 have e3 := hwy.len
 have e4 := hvy.len
 have T {n : Nat} (h : 4 < n) : decide ((4 : Int) < ((n : Nat) : Int)) = true ∧ decide (4 < n) = true := ⟨decide_eq_true (by omega), decide_eq_true h⟩
 have F {n : Nat} (h : ¬ 4 < n) : decide ((4 : Int) < ((n : Nat) : Int)) = false ∧ decide (4 < n) = false := ⟨decide_eq_false (by omega), decide_eq_false h⟩
 by_cases h1 : 4 < nx
 ·exact rexact_big0 sx sy ax qx ay qy nx cx mx dx ny cy my dy Tab Keeps.tab rworksR (T h1).1 (T h1).2 w htab
 by_cases h2 : 4 < mx
 ·exact rexact_big1 sx sy ax qx ay qy nx cx mx dx ny cy my dy Tab Keeps.tab rworksR (F h1).1 (F h1).2 (T h2).1 (T h2).2 w htab
 by_cases h3 : 4 < ny
 ·exact rexact_big2 sx sy ax qx ay qy nx cx mx dx ny cy my dy Tab Keeps.tab rworksR (F h1).1 (F h1).2 (F h2).1 (F h2).2 (T h3).1 (T h3).2 w htab
 by_cases h4 : 4 < my
 ·exact rexact_big3 sx sy ax qx ay qy nx cx mx dx ny cy my dy Tab Keeps.tab rworksR (F h1).1 (F h1).2 (F h2).1 (F h2).2 (F h3).1 (F h3).2 (T h4).1 (T h4).2 w htab
 have sa : Sz (gmade sx lx kx) 9 := gmade_sz (by omega) hwx hvx (by omega) (by omega)
 have sb : Sz (gmade sy ly ky) 9 := gmade_sz (by omega) hwy hvy (by omega) (by omega)
 have GX : ∀ w, (Ws w (.slice ax nx cx) lx ∧ Ws w (.slice qx mx dx) kx) → _ := fun w h => gof_any sx ax qx nx cx mx dx lx kx (by omega) (by omega) w h.1 h.2
 have GY : ∀ w, (Ws w (.slice ay ny cy) ly ∧ Ws w (.slice qy my dy) ky) → _ := fun w h => gof_any sy ay qy ny cy my dy ly ky (by omega) (by omega) w h.1 h.2
 generalize gmade sx lx kx = a at *
 generalize gmade sy ly ky = b at *
 have q1 := F h1
 have q2 := F h2
 have q3 := F h3
 have q4 := F h4
 have s2 := sa.mul sa
 have an := absQ_nn a
 have aa := abs_sq a
 have hx := rootQ_is (q := a * a) (s := a) rfl
 have X1 := fun w => exactR (a * a) 18 s2 (by omega) w
 rw [show exV (a * a) = absQ a by unfold exV; rw [if_pos hx.1, hx.2], show exB (a * a) = true from decide_eq_true hx.1] at X1
 have hnn : 0 ≤ a * a := by rw [← aa]; exact Rat.mul_nonneg an an
 have HB := fun w => belowR (a * a) 64 18 s2 (by omega) w
 have hb64 := rtV_ok below (p := 64) (a := a * a) (by omega) hnn
 rw [show ((64 : Nat) : Int) = 64 from rfl] at hb64
 rw [hb64.1, hb64.2] at HB
 have C1 := fun w => cmpF (below 64 (a * a)) (absQ a) 24 (below_sz s2 (by omega)) ((absR_sz sa).mono (by omega)) (by omega) w
 have g2 := cm_le (below_sq 64 (a := a * a) an aa)
 have sp := sb.mul s2
 have HA := absF a
 have HQ := fun w => squareF a 9 sa (by omega) w
 have HM := fun w => mulF b (a * a) 18 (sb.mono (by omega)) s2 (by omega) w
 by_cases hb : rootQ b * rootQ b = b
 ·have X2 := fun w => exactR b 9 sb (by omega) w
  rw [show exV b = rootQ b by unfold exV; rw [if_pos hb], show exB b = true from decide_eq_true hb] at X2
  have sr := rootQ_sz sb
  have Q2 := fun w => squareF (rootQ b) 9 sr (by omega) w
  rw [hb] at Q2
  have hr : rootQ (b * (a * a)) = absQ (rootQ b) * absQ a := root_times hb
  have hr2 : absQ (rootQ b) = rootQ b := q_abs (rootQ_nn b)
  rw [hr2] at hr
  have ht : rootQ (b * (a * a)) * rootQ (b * (a * a)) = b * (a * a) := by rw [hr, ← aa, ← hb]; grind
  have X3 := fun w => exactR (b * (a * a)) 27 (sp.mono (by omega)) (by omega) w
  rw [show exV (b * (a * a)) = rootQ (b * (a * a)) by unfold exV; rw [if_pos ht], show exB (b * (a * a)) = true from decide_eq_true ht] at X3
  by_cases ha : a = 0
  ·have S2 := fun w => signF a w
   rw [show sgnQ a = 0 by rw [ha]; decide +kernel] at S2
   have Q3 := fun w => squareF (rootQ (b * (a * a))) 27 (rootQ_sz (sp.mono (by omega))) (by omega) w
   rw [ht] at Q3
   exact rexact_is0 sx sy ax qx ay qy nx cx mx dx ny cy my dy _ _ a b (a * a) (absQ a) (below 64 (a * a)) (b * (a * a)) (rootQ b) (rootQ (b * (a * a))) _ (gpair5 _ _ lx kx) GX _ (gpair5 _ _ ly ky) GY HQ X1 X2 HB HA Q2 (signF _) C1 S2 HM X3 Q3 Tab Keeps.tab rworksR
    q1.1 q1.2 q2.1 q2.2 q3.1 q3.2 q4.1 q4.2 (sg_nn (rootQ_nn b)) g2 w ⟨hwx, hvx⟩ ⟨hwy, hvy⟩ htab
  ·have M2 := fun w => mulF (rootQ b) (absQ a) 9 sr (absR_sz sa) (by omega) w
   rw [← hr] at M2
   have z1 := sgnQ_ne' ha
   exact rexact_is sx sy ax qx ay qy nx cx mx dx ny cy my dy _ (sgnQ a) _ a b (a * a) (absQ a) (below 64 (a * a)) (b * (a * a)) (rootQ b) (rootQ (b * (a * a))) _ (gpair5 _ _ lx kx) GX _ (gpair5 _ _ ly ky) GY HQ X1 X2 HB HA Q2 (signF _) C1 (signF a) HM X3 M2 Tab Keeps.tab rworksR
    q1.1 q1.2 q2.1 q2.2 q3.1 q3.2 q4.1 q4.2 (sg_nn (rootQ_nn b)) g2 z1.2 z1.1 w ⟨hwx, hvx⟩ ⟨hwy, hvy⟩ htab
 ·have X2 := fun w => exactR b 9 sb (by omega) w
  rw [show exV b = 0 by unfold exV; rw [if_neg hb], show exB b = false from decide_eq_false hb, frV_q0'] at X2
  by_cases ha : a = 0
  ·have hp0 : b * (a * a) = 0 := by rw [ha]; grind
   have ht : rootQ (b * (a * a)) * rootQ (b * (a * a)) = b * (a * a) := (rootQ_is (s := 0) (by rw [hp0]; grind)).1
   have X3 := fun w => exactR (b * (a * a)) 27 (sp.mono (by omega)) (by omega) w
   rw [show exV (b * (a * a)) = rootQ (b * (a * a)) by unfold exV; rw [if_pos ht], show exB (b * (a * a)) = true from decide_eq_true ht] at X3
   have S2 := fun w => signF a w
   rw [show sgnQ a = 0 by rw [ha]; decide +kernel] at S2
   have Q3 := fun w => squareF (rootQ (b * (a * a))) 27 (rootQ_sz (sp.mono (by omega))) (by omega) w
   rw [ht] at Q3
   exact rexact_no0 sx sy ax qx ay qy nx cx mx dx ny cy my dy _ a b (a * a) (absQ a) (below 64 (a * a)) (b * (a * a)) (rootQ (b * (a * a))) _ (gpair5 _ _ lx kx) GX _ (gpair5 _ _ ly ky) GY HQ X1 X2 HB HA C1 S2 HM X3 Q3 Tab Keeps.tab rworksR
    q1.1 q1.2 q2.1 q2.2 q3.1 q3.2 q4.1 q4.2 g2 w ⟨hwx, hvx⟩ ⟨hwy, hvy⟩ htab
  ·have ht : ¬ rootQ (b * (a * a)) * rootQ (b * (a * a)) = b * (a * a) := fun h => hb (rootQ_is (root_back ha h)).1
   have X3 := fun w => exactR (b * (a * a)) 27 (sp.mono (by omega)) (by omega) w
   rw [show exV (b * (a * a)) = 0 by unfold exV; rw [if_neg ht], show exB (b * (a * a)) = false from decide_eq_false ht, frV_q0'] at X3
   have z1 := sgnQ_ne' ha
   exact rexact_no sx sy ax qx ay qy nx cx mx dx ny cy my dy (sgnQ a) _ a b (a * a) (absQ a) (below 64 (a * a)) (b * (a * a)) _ (gpair5 _ _ lx kx) GX _ (gpair5 _ _ ly ky) GY HQ X1 X2 HB HA C1 (signF a) HM X3 Tab Keeps.tab rworksR
    q1.1 q1.2 q2.1 q2.2 q3.1 q3.2 q4.1 q4.2 g2 z1.2 z1.1 w ⟨hwx, hvx⟩ ⟨hwy, hvy⟩ htab
end Go.Proofs.YtdkjckiialnpnaaGreatDoor
namespace Go.Proofs.YtdkjckiialnpnaaGreatDoor
open Go.ChangeShapes Go.WideShapes Go.ChangeAt Go.RowKit
theorem cells62 : Tryz.prog.cellsOf 22 = 1 := by kernel_rfl
theorem wide_u32 {n : Int} (h : (Lit.int .u32 n).wf = true) : 0 ≤ n ∧ n ≤ 4294967295 := bounds_u32 h
end Go.Proofs.YtdkjckiialnpnaaGreatDoor
namespace Go.Proofs.YtdkjckiialnpnaaGreatDoor
open Go.ChangeShapes Go.WideShapes Go.ChangeAt Go.RowKit Go.Joins
theorem cellsZ : Tryz.prog.cellsOf 48 = 2 := by kernel_rfl
theorem ws_of_trod {H : Type} {enc : TypeId × Value → H} {W : World} {v : Value} {y : DataW H × List MemPlace} {fuel : Nat} (hf : DataW.trod enc Tryz.prog W 0 (fun _ => true) true fuel 46 [v] = some y) : ∃ a n c l, v = .slice a n c ∧ Ws W v l := by
 rcases open_ints Tryz.underlying46 Tryz.underlying22 cells62 hf with ⟨hcs, hx⟩ | ⟨a, len', cap', zs, hcs, _, hl, hm, hz, hx, hcell, hwz⟩
 ·simp only [List.cons.injEq, and_true] at hcs
  subst hcs
  exact ⟨none, 0, 0, [], rfl, .inl ⟨_, _, rfl, rfl⟩⟩
 ·simp only [List.cons.injEq, and_true] at hcs
  subst hcs
  simp only [if_true] at hz
  refine ⟨some a, len', cap', ?_⟩
  by_cases h0 : len' = 0
  ·subst h0
   exact ⟨[], rfl, .inl ⟨_, _, rfl, rfl⟩⟩
  ·have hll : ((zs.take len').map Int.toNat).length = len' := by simp; omega
   refine ⟨(zs.take len').map Int.toNat, rfl, .inr ⟨a, cap', by rw [hll], ?_, ?_, ?_⟩⟩
   ·intro x hx
    obtain ⟨z, hz1, rfl⟩ := List.mem_map.1 hx
    have := wide_u32 (hwz z (List.mem_of_mem_take hz1))
    omega
   ·intro i hi
    rw [hll] at hi
    have hi2 : i < zs.length := by omega
    have e := hcell i hi2
    rw [show zs.getD i 0 = zs[i] by simp [List.getD, hi2]] at e
    have hw := wide_u32 (hwz zs[i] (List.getElem_mem hi2))
    rw [e]
    simp only [List.getElem_map, List.getElem_take]
    rw [Int.toNat_of_nonneg hw.1]
   ·have e := hcell 0 (by omega)
    have := World.block_lt_of_cell? W _ e
    rw [show (a.add 0).block = a.block from by unfold Addr.add; split <;> rfl] at this
    exact this
end Go.Proofs.YtdkjckiialnpnaaGreatDoor
namespace Go.Proofs.YtdkjckiialnpnaaGreatDoor
open Go.ChangeShapes Go.WideShapes Go.ChangeAt Go.RowKit Go.Joins
theorem cellsG : Tryz.prog.cellsOf 50 = 3 := by kernel_rfl
theorem cellsW : Tryz.prog.cellsOf 46 = 1 := by kernel_rfl
theorem cellsB : Tryz.prog.cellsOf 4 = 1 := by kernel_rfl
set_option maxRecDepth 100000 in
theorem great_of {H : Type} {enc : TypeId × Value → H} {W : World} {base : Nat} {v : Value} {d : DataW H} {p : List MemPlace} (hv : Value.okWide Tryz.prog W .any base 50 v)
  (h : DataW.Trod enc Tryz.prog W 0 (fun _ => true) true 50 v d p) : ∃ s a q n c m d l k, v = .agg #[.bool s, .slice a n c, .slice q m d] ∧ Ws W (.slice a n c) l ∧ Ws W (.slice q m d) k := by
 obtain ⟨cs, rfl, hsz⟩ := okWide_struct Tryz.underlying50 hv
 obtain ⟨c0, c1, c2, rfl⟩ := array3 (hsz.trans cellsG)
 obtain ⟨fuel, hf⟩ := h
 obtain ⟨y0, y1, n, hx, _, h0, h1⟩ := trod_struct2 Tryz.underlying50 hf
 simp only [cellsZ, cellsW] at h0 h1
 obtain ⟨z0, z1, m, hz, _, g0, g1⟩ := trod_struct2 Tryz.underlying48 h0
 simp only [cellsB, cellsW] at g0 g1
 obtain ⟨s, e0, -⟩ := DataW.trod_bool Tryz.underlying4 g0
 obtain ⟨a1, n1, k1, l1, r1, w1⟩ := ws_of_trod g1
 obtain ⟨a2, n2, k2, l2, r2, w2⟩ := ws_of_trod h1
 simp [Value.cells] at e0 r1 r2
 subst e0 r1 r2
 exact ⟨s, a1, a2, n1, k1, n2, k2, l1, l2, rfl, w1, w2⟩
end Go.Proofs.YtdkjckiialnpnaaGreatDoor
