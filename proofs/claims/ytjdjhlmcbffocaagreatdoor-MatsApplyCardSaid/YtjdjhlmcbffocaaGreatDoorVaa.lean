/-
  The law answers true at every input, and leaves its arguments as they were: a part of the proof. CONDITIONS: the package-level tables start as the program's text lays them (the card ties them).
-/
import Derived.Test.YtjdjhlmcbffocaaGreatDoorZad
import Derived.Test.YtjdjhlmcbffocaaGreatDoorTie
import Derived.Test.YtjdjhlmcbffocaaGreatDoorCards
set_option linter.unusedVariables false
set_option linter.unusedSimpArgs false
namespace Go.Proofs.YtjdjhlmcbffocaaGreatDoor
open Go.RowKit
attribute [local irreducible] lo hs sm s64 c64 d64 b64 mh ml pd pc qd qc val hiB str cmpI srD lz nb
/-- A new box of two cells. -/
def nw : Prop := ∀ (W : World) (v0 v1 : Value) (t : TypeId), (W.alloc (.cells #[v0, v1] t)).cell? ⟨W.heap.size, 0, none⟩ = some v0 ∧ (W.alloc (.cells #[v0, v1] t)).cell? ⟨W.heap.size, 1, none⟩ = some v1 ∧ ∀ j, (W.alloc (.cells #[v0, v1] t)).frozen? ⟨W.heap.size, j, none⟩ = false
end Go.Proofs.YtjdjhlmcbffocaaGreatDoor
namespace Go.Proofs.YtjdjhlmcbffocaaGreatDoor
open Go.RowKit
attribute [local irreducible] lo hs sm s64 c64 d64 b64 mh ml pd pc qd qc val hiB str cmpI srD lz zl zh zs dval
theorem qmade_parts (n : Int) (d : Nat) : (qmade n d).num.natAbs ≤ n.natAbs ∧ (qmade n d).den ≤ (if d < 1 then 1 else d) := by
 unfold qmade
 obtain ⟨h1, h2⟩ := canc (z := n) (d := if d < 1 then 1 else d) (by split <;> omega)
 rw [h1, h2, Int.natAbs_tdiv]
 exact ⟨Nat.div_le_self _ _, Nat.div_le_self _ _⟩
theorem qmade_sz (n : Int) (d : Nat) (h1 : -9223372036854775808 ≤ n) (h2 : n < 9223372036854775808) (h3 : d < 4294967296) : Sz (qmade n d) 1 := by
 obtain ⟨e1, e2⟩ := qmade_parts n d
 exact szc _ (by omega) (by split at e2 <;> omega)
end Go.Proofs.YtjdjhlmcbffocaaGreatDoor
namespace Go.Proofs.YtjdjhlmcbffocaaGreatDoor
open Go.RowKit
theorem tab_gv (l : List Rat) : tabV l.length (gv l) = l := by
 apply List.ext_getElem (tabV_len _ _)
 intro i h1 h2
 rw [tabV_get, gv_get h2]
theorem tab_gv' {l : List Rat} {n : Nat} (h : l.length = n) : tabV n (gv l) = l := by subst h; exact tab_gv l
end Go.Proofs.YtjdjhlmcbffocaaGreatDoor
namespace Go.Proofs.YtjdjhlmcbffocaaGreatDoor
open Go.RowKit
attribute [local irreducible] lo hs sm s64 c64 d64 b64 mh ml pd pc qd qc val hiB str cmpI srD lz nb zl zh zs fe rowV tabV gv bsV
theorem ptn_form {w : World} {v : Value} {l : List Rat} {n : Nat} (h : PT w v l) (hl : l.length = n) : ∃ ao c, v = .slice ao n c := by
 obtain ⟨ao, c, e⟩ := slq_form' h
 exact ⟨ao, c, by rw [e, hl]⟩
end Go.Proofs.YtjdjhlmcbffocaaGreatDoor
namespace Go.Proofs.YtjdjhlmcbffocaaGreatDoor
open Go.RowKit
attribute [local irreducible] lo hs sm s64 c64 d64 b64 mh ml pd pc qd qc val hiB str cmpI srD lz nb zl zh zs fe qmade
section
variable {x y : List Rat} {n k m : Nat}
end
/-- Plain fractions as Go holds them. -/
def QR (p : Int × Int) : Prop := (-9223372036854775808 ≤ p.1 ∧ p.1 < 9223372036854775808) ∧ 0 ≤ p.2 ∧ p.2 < 4294967296
theorem qm_sz {p : Int × Int} (h : QR p) : Sz (qm p) 1 := by
 obtain ⟨⟨h1, h2⟩, h3, h4⟩ := h
 exact qmade_sz p.1 p.2.toNat h1 h2 (by omega)
theorem qv_rg {w : World} {v : Value} {ql : List (Int × Int)} (h : QV w v ql) : ∀ p ∈ ql, QR p := by
 intro p hp
 obtain ⟨ao, c, h1, h2, h3, h4⟩ := h
 obtain ⟨a, e, h5⟩ := h4 (List.length_pos_of_mem hp)
 exact h5.rg p hp
end Go.Proofs.YtjdjhlmcbffocaaGreatDoor
namespace Go.Proofs.YtjdjhlmcbffocaaGreatDoor
open Go.RowKit
attribute [local irreducible] lo hs sm s64 c64 d64 b64 mh ml pd pc qd qc val hiB str cmpI srD lz nb zl zh zs fe rowV tabV gv bsV tabM
theorem tab_row (c : Nat) (f : Nat → Rat) : (tabM 1 c fun _ k => f k).l = tabV c f := by
 unfold tabM
 show tabV (1 * c) (fun p => f (p % c)) = tabV c f
 rw [Nat.one_mul]
 exact tab_ext fun i hi => by rw [Nat.mod_eq_of_lt hi]
end Go.Proofs.YtjdjhlmcbffocaaGreatDoor
namespace Go.Proofs.YtjdjhlmcbffocaaGreatDoor
open Go.RowKit
attribute [local irreducible] lo hs sm s64 c64 d64 b64 mh ml pd pc qd qc val hiB str cmpI srD lz nb zl zh zs fe rowV tabV gv bsV
theorem fws_one {w : World} {g c n d : Nat} {x y : Value} {a : Option Addr} (h : Hd w g [x, y, .slice a n d]) : FWs w (.slice (some ⟨g, 0, none⟩) 1 c) [n] := by
 refine ⟨_, c, g, rfl, fun _ => rfl, fun i hi => ?_⟩
 obtain rfl : i = 0 := by simpa using hi
 exact ⟨a, d, h.cell 2 (by simp)⟩
end Go.Proofs.YtjdjhlmcbffocaaGreatDoor
namespace Go.Proofs.YtjdjhlmcbffocaaGreatDoor
open Go.RowKit
attribute [local irreducible] lo hs sm s64 c64 d64 b64 mh ml pd pc qd qc val hiB str cmpI srD lz nb zl zh zs fe rowV tabV gv bsV tabM
theorem mcatch_idle (p q : Addr) (w : World) :
  CallsD Tryz.prog 115 #[.pointer (some p), .pointer (some q)] .returning w fun e u' w' => e = .returned (.tuple #[]) ∧ u' = .returning ∧ w' = w := by
 refine callsD_of_wpS Tryz.func115 rfl fun c₀ cs hu => ?_
 apply wpS_seq
 apply wpS_region
 simp [wpOpsS, go_sem, recoverD, hu, Tryz.ntmps115, Exit.thenS]
 refine wpS_cond (t := false) (by simp [Act.eval, Array.replicate]) ?_
 simp only [Bool.false_eq_true, if_false]
 refine wpS_of_wp (wp_skip ?_)
 cases c₀
 simp_all [bodyPostS, results, Tryz.results115]
set_option maxHeartbeats 4000000 in
set_option maxRecDepth 100000 in
theorem mMakeV (K : FuncId) (caps : Array Value) (r c : Nat) (tl : List Rat) (hr : r ≤ 2048) (hc : c ≤ 2048) (P : World → Prop) (hP : Keeps P)
  (HB : ∀ w, P w → Calls Tryz.prog 108 #[.int .i64 (r : Int), .int .i64 (c : Int), .func (.func K) #[] caps] w fun xe w' => ∃ v, xe = .returned (.agg #[.int .i64 (r : Int), .int .i64 (c : Int), v]) ∧ NV w.heap.size tl v w' ∧ Below w.heap.size w w') (w : World) (kP : P w) :
  Calls Tryz.prog 37 #[.int .i64 (r : Int), .int .i64 (c : Int), .func (.func K) #[] caps] w fun xe w' => ∃ v, xe = .returned (.tuple #[.agg #[.int .i64 (r : Int), .int .i64 (c : Int), v], .int .i64 0]) ∧ NV w.heap.size tl v w' ∧ Below w.heap.size w w' := by
 have HS := Lib.hid (msize_ok r c hr hc)
 replace HB := Lib.hid HB
 replace hP := Lib.hid hP
 have hmf : ∀ (fn : Fn) (first cap : Array Value) (w : World), (Instr.makeFunc fn first cap).run Tryz.prog w = .ok (.func fn first cap) w := fun _ _ _ _ => rfl
 have hnf : ∀ W, (binOp .eql 70 (.func (.func K) #[] caps) Value.nilFunc).run Tryz.prog W = .ok (.bool false) W := fun W => by first | rfl | simp [binOp, go_sem] | (simp [binOp, go_sem, Value.nilFunc]; done)
 clear hr hc
 have hL0 : GL w w [] := GL.start w
 replace hL0 := ((hL0.new rfl [.int .i64 0, .int .i64 0, .slice none 0 0] 56).new (K := w.heap.size + 1) (szA _ _) [.int .i64 0] 43)
 generalize hweq : ((w.alloc (.cells #[.int .i64 0, .int .i64 0, .slice none 0 0] 56)).alloc (.cells #[.int .i64 0] 43)) = x1 at hL0
 replace kP := Lib.hid (hP.out.at hL0.bl kP)
 go_enter_defers Tryz.func37, Tryz.ntmps37
 go_wp2_with fail
 with_reducible refine Calls.mono (HS.out _) ?_
 rintro e y1 ⟨rfl, hb⟩
 replace kP := Lib.hid (hP.out.at hb kP.out)
 replace hL0 := hL0.call hb
 clear hb hweq HS
 have hx0 := Lib.hid hL0
 go_wp2_with fail
 with_reducible refine Calls.mono (HB.out _ kP.out) ?_
 rintro e y2 ⟨u, rfl, hnv, hb⟩
 replace hL0 := hL0.call hb
 clear hb kP
 replace hx0 := hx0.out
 obtain ⟨gu, rfl, hge, hHd⟩ := hnv
 replace hL0 := GL.tnew (M := []) hL0 hx0 hHd hge (fun p hp => by cases hp)
 simp only [List.nil_append] at hL0
 have hge2 := Lib.hid (Nat.le_trans hx0.bl.size hge)
 clear hx0 hge hHd
 have hA := cells_of _ 0 [] rfl (hL0.get _ _ (List.mem_cons_of_mem _ (List.mem_cons_of_mem _ List.mem_cons_self)))
 simp only [cellsF, and_true, Nat.zero_add, Nat.reduceAdd] at hA
 have zf := (hL0.get _ _ (List.mem_cons_of_mem _ (List.mem_cons_of_mem _ List.mem_cons_self))).frz
 have hC := cells_of _ 0 [] rfl (hL0.get _ _ (List.mem_cons_of_mem _ List.mem_cons_self))
 simp only [cellsF, and_true, Nat.zero_add, Nat.reduceAdd] at hC
 have zC := (hL0.get _ _ (List.mem_cons_of_mem _ List.mem_cons_self)).frz
 have hPt := hL0.put 2 (w.heap.size) _ rfl [.int .i64 (r : Int), .int .i64 (c : Int), .slice (some ⟨gu, 0, none⟩) tl.length tl.length] rfl
 simp only [setAll, List.set_cons_zero, List.set_cons_succ] at hPt
 generalize hput1 : (((y2.setCell ⟨w.heap.size, 0, none⟩ (.int .i64 (r : Int))).setCell ⟨w.heap.size, 1, none⟩ (.int .i64 (c : Int))).setCell ⟨w.heap.size, 2, none⟩ (.slice (some ⟨gu, 0, none⟩) tl.length tl.length)) = y3 at hPt
 have hB1 := cells_of _ 0 [] rfl (hPt.get _ _ (List.mem_cons_of_mem _ (List.mem_cons_of_mem _ List.mem_cons_self)))
 simp only [cellsF, and_true, Nat.zero_add, Nat.reduceAdd] at hB1
 have zB := (hPt.get _ _ (List.mem_cons_of_mem _ (List.mem_cons_of_mem _ List.mem_cons_self))).frz
 have hD := cells_of _ 0 [] rfl (hPt.get _ _ (List.mem_cons_of_mem _ List.mem_cons_self))
 simp only [cellsF, and_true, Nat.zero_add, Nat.reduceAdd] at hD
 have zD := (hPt.get _ _ (List.mem_cons_of_mem _ List.mem_cons_self)).frz
 have hPu := hPt.put 1 (w.heap.size + 1) _ rfl [.int .i64 0] rfl
 simp only [setAll, List.set_cons_zero, List.set_cons_succ] at hPu
 generalize hput2 : y3.setCell ⟨w.heap.size + 1, 0, none⟩ (.int .i64 0) = y4 at hPu
 have hB2 := cells_of _ 0 [] rfl (hPu.get _ _ (List.mem_cons_of_mem _ (List.mem_cons_of_mem _ List.mem_cons_self)))
 simp only [cellsF, and_true, Nat.zero_add, Nat.reduceAdd] at hB2
 have hB3 := cells_of _ 0 [] rfl (hPu.get _ _ (List.mem_cons_of_mem _ List.mem_cons_self))
 simp only [cellsF, and_true, Nat.zero_add, Nat.reduceAdd] at hB3
 have hNV : NV w.heap.size tl (.slice (some ⟨gu, 0, none⟩) tl.length tl.length) y4 := ⟨gu, rfl, hge2.out, hPu.get _ _ List.mem_cons_self⟩
 replace hNV := Lib.hid hNV
 have hbl := Lib.hid hPu.bl
 clear hL0 hPt hPu hge2
 go_wp2_with fail
 refine leaves_cons (f := 115) (args := #[.pointer (some ⟨w.heap.size, 0, none⟩), .pointer (some ⟨w.heap.size + 1, 0, none⟩)]) (by simp) (by simp [go_sem]) ?_
 refine (mcatch_idle _ _ _).mono ?_
 rintro e u' w'' ⟨rfl, rfl, rfl⟩
 simp [Leaves, settle, results, Tryz.results37, go_sem, hB2, hB3]
 exact ⟨hNV.out, hbl.out⟩
end Go.Proofs.YtjdjhlmcbffocaaGreatDoor
namespace Go.Proofs.YtjdjhlmcbffocaaGreatDoor
open Go.RowKit
attribute [local irreducible] lo hs sm s64 c64 d64 b64 mh ml pd pc qd qc val hiB str cmpI srD lz nb zl zh zs fe rowV tabV gv bsV tabM
theorem qE_sz {ql : List (Int × Int)} (h : ∀ p ∈ ql, QR p) (i : Nat) : Sz (qE ql i) 1 := by
 unfold qE
 split
 ·rename_i hi
  rw [List.getD_eq_getElem?_getD, List.getElem?_eq_getElem hi]
  exact qm_sz (h _ (List.getElem_mem hi))
 ·exact szc 0 (by decide) (by decide)
theorem vecM_gv {ql : List (Int × Int)} (h : ∀ p ∈ ql, QR p) (n : Nat) : GV (vecM ql n) n 1 := GV.tab fun i _ => qE_sz h i
end Go.Proofs.YtjdjhlmcbffocaaGreatDoor
namespace Go.Proofs.YtjdjhlmcbffocaaGreatDoor
open Go.RowKit
attribute [local irreducible] lo hs sm s64 c64 d64 b64 mh ml pd pc qd qc val hiB str cmpI srD lz nb zl zh zs fe rowV tabV gv bsV tabM
theorem someM_gm {ql : List (Int × Int)} (h : ∀ p ∈ ql, QR p) (r c : Nat) : GM (someM ql r c) r c 1 := ⟨rfl, rfl, by unfold someM; exact tabV_len _ _, by unfold someM; exact tab_all fun i _ => qE_sz h i⟩
end Go.Proofs.YtjdjhlmcbffocaaGreatDoor
namespace Go.Proofs.YtjdjhlmcbffocaaGreatDoor
open Go.RowKit
attribute [local irreducible] lo hs sm s64 c64 d64 b64 mh ml pd pc qd qc val hiB str cmpI srD lz nb zl zh zs fe rowV tabV gv bsV turM mulM sumM oneM appV formM tabM dotL sumL mulL
set_option maxHeartbeats 16000000 in
set_option maxRecDepth 100000 in
theorem msides_w (zr zc : Int) (al : Option Addr) (nl cl sa sb : Nat) (ea : Int.tmod zr 7 = (sa : Int)) (eb : Int.tmod zc 7 = (sb : Int)) (sa4 : (sa : Int) ≤ 6) (sb4 : (sb : Int) ≤ 6) (w : World) :
  Calls Tryz.prog 27 #[.agg #[.int .u8 zr, .int .u8 zc, .slice al nl cl]] w fun e w' => e = .returned (.tuple #[.int .i64 (sa : Int), .int .i64 (sb : Int)]) ∧ Below w.heap.size w w' := by
 have hL0 : GL w w [] := GL.start w
 have hT : PTs w [] := PTs.nil w
 have sa0 : (0 : Int) ≤ (sa : Int) := Int.natCast_nonneg _
 have sb0 : (0 : Int) ≤ (sb : Int) := Int.natCast_nonneg _
 replace hT := (hT.new (.cells #[.int .u8 zr, .int .u8 zc, .slice al nl cl] 51))
 replace hL0 := (hL0.new rfl [.int .u8 zr, .int .u8 zc, .slice al nl cl] 51)
 generalize hweq : (w.alloc (.cells #[.int .u8 zr, .int .u8 zc, .slice al nl cl] 51)) = x1 at hL0 hT
 go_enter Tryz.func27, Tryz.ntmps27
 go_upto_region 1 with fail
 clear hweq
 obtain ⟨α, iα, F, hF1, hF2⟩ := cls x1
 have hq0 := cls_box hF1 hL0 _ _ List.mem_cons_self
 simp only [cellsC, and_true, Nat.zero_add, Nat.reduceAdd] at hq0
 refine region_qs 10 (C := fun w' => ∃ x, w' = F x) (by kernel_rfl) (by kernel_rfl) (cls_drew hF2) ?_
 simp only [List.take_succ_cons, List.take_zero, List.drop_succ_cons, List.drop_zero, List.take_nil, List.drop_nil]
 repeat (go_big_quiet_step (first | fail))
 refine wpQuiet_nil ?_
 rintro wq ⟨xq, rfl⟩
 replace hL0 := hL0.call (hF1 xq)
 replace hT := hT.call (hF1 xq)
 clear  hq0 hF2
 generalize F xq = x2 at hL0 hT ⊢
 clear hF1 xq iα F α
 go_wp2_with fail
 exact bodyPost_ret (v := .tuple #[.int .i64 (sa : Int), .int .i64 (sb : Int)]) (by simp [results, Tryz.results27, go_sem]) rfl ⟨rfl, hL0.bl⟩
set_option maxHeartbeats 16000000 in
set_option maxRecDepth 100000 in
theorem mMOf_w (zr zc : Int) (al : Option Addr) (nl cl sa sb : Nat) (x : Mx) (KA : World → Prop) (hKA : Keeps KA) (HS : ∀ (w : World), KA w → Calls Tryz.prog 58 #[.agg #[.int .u8 zr, .int .u8 zc, .slice al nl cl], .int .i64 (sa : Int), .int .i64 (sb : Int)] w fun e w' => ∃ pv, e = .returned pv ∧ MT w' pv x ∧ Below w.heap.size w w') (ea : Int.tmod zr 7 = (sa : Int)) (eb : Int.tmod zc 7 = (sb : Int)) (sa4 : (sa : Int) ≤ 6) (sb4 : (sb : Int) ≤ 6) (hx1 : (x.r : Int) = (sa : Int)) (hx2 : (x.c : Int) = (sb : Int)) (w : World) (kKA : KA w) :
  Calls Tryz.prog 28 #[.agg #[.int .u8 zr, .int .u8 zc, .slice al nl cl]] w fun e w' => ∃ pv, e = .returned pv ∧ MT w' pv x ∧ Below w.heap.size w w' := by
 replace hKA := Lib.hid hKA
 replace HS := Lib.hid HS
 have hL0 : GL w w [] := GL.start w
 have hT : PTs w [] := PTs.nil w
 have sa0 : (0 : Int) ≤ (sa : Int) := Int.natCast_nonneg _
 have sb0 : (0 : Int) ≤ (sb : Int) := Int.natCast_nonneg _
 replace hx1 := Lib.hid hx1
 replace hx2 := Lib.hid hx2
 replace hT := ((hT.new (.cells #[.int .u8 zr, .int .u8 zc, .slice al nl cl] 51)).new (.cells #[.int .i64 0, .int .i64 0, .slice none 0 0] 56))
 replace hL0 := ((hL0.new rfl [.int .u8 zr, .int .u8 zc, .slice al nl cl] 51).new (K := w.heap.size + 1) (szA _ _) [.int .i64 0, .int .i64 0, .slice none 0 0] 56)
 generalize hweq : ((w.alloc (.cells #[.int .u8 zr, .int .u8 zc, .slice al nl cl] 51)).alloc (.cells #[.int .i64 0, .int .i64 0, .slice none 0 0] 56)) = x1 at hL0 hT
 go_enter Tryz.func28, Tryz.ntmps28
 have hN0 := cells_of _ 0 [] rfl (hL0.get _ _ (List.mem_cons_of_mem _ List.mem_cons_self))
 simp only [cellsF, and_true, Nat.zero_add, Nat.reduceAdd] at hN0
 go_wp2_with fail
 clear hN0
 with_reducible refine Calls.mono (HS.out _ (hKA.out.at (hL0.bl) kKA)) ?_
 rintro e x2 ⟨v0, rfl, q0, hb⟩
 replace hL0 := hL0.call hb
 replace hT := hT.call hb
 clear hb hweq
 obtain ⟨g1, d1, g1c, rfl, hm1, hcp1⟩ := mt_form q0 hx1.out hx2.out
 replace hcp1 := Lib.hid hcp1
 replace hT := hT.cons hm1
 clear hm1
 clear q0
 have hT1 := hT.putM ((((Upd.refl (w.heap.size + 1) x2).setCell 0 (.int .i64 (sa : Int))).setCell 1 (.int .i64 (sb : Int))).setCell 2 (.slice g1 d1 g1c)) (hL0.get _ _ List.mem_cons_self) (by intro n; simp)
 have hA := hL0.fc
 simp only [fcG, cellsF, neK, and_true, ne_eq, Nat.zero_add, Nat.reduceAdd] at hA
 have hP := hL0.put 0 (w.heap.size + 1) _ rfl [.int .i64 (sa : Int), .int .i64 (sb : Int), .slice g1 d1 g1c] rfl
 simp only [setAll, List.set_cons_zero, List.set_cons_succ] at hP
 generalize hput1 : (((x2.setCell ⟨w.heap.size + 1, 0, none⟩ (.int .i64 (sa : Int))).setCell ⟨w.heap.size + 1, 1, none⟩ (.int .i64 (sb : Int))).setCell ⟨w.heap.size + 1, 2, none⟩ (.slice g1 d1 g1c)) = x3 at hP hT1
 have hB1 := hP.fc
 simp only [fcG, cellsF, neK, and_true, ne_eq, Nat.zero_add, Nat.reduceAdd] at hB1
 replace hL0 := hP
 replace hT := hT1
 clear hT1
 go_wp2_with fail
 exact bodyPost_ret (v := .agg #[.int .i64 (sa : Int), .int .i64 (sb : Int), .slice g1 d1 g1c]) (by simp [results, Tryz.results28, go_sem, hB1]) rfl ⟨_, rfl, (mt_of (hT.get List.mem_cons_self) hcp1.out hx1.out hx2.out), hL0.bl⟩
end Go.Proofs.YtjdjhlmcbffocaaGreatDoor
namespace Go.Proofs.YtjdjhlmcbffocaaGreatDoor
open Go.RowKit
attribute [local irreducible] lo hs sm s64 c64 d64 b64 mh ml pd pc qd qc val hiB str cmpI srD lz nb zl zh zs fe rowV tabV gv bsV tabM
set_option maxHeartbeats 4000000 in
set_option maxRecDepth 100000 in
theorem mrow1_w (i k j r c n d b1 b2 : Nat) (ao : Option Addr) (q : Rat) (KC : World → Prop) (hKC : Keeps KC) (HA : ∀ w, KC w → Calls Tryz.prog 110 #[.agg #[.int .i64 (r : Int), .int .i64 (c : Int), .slice ao n d], .int .i64 (j : Int), .int .i64 (k : Int)] w fun xe w' => xe = .returned (fracV q) ∧ Below w.heap.size w w') (w : World) (kC : KC w) (c0 : w.cell? ⟨b1, 0, none⟩ = some (.int .i64 (r : Int))) (c1 : w.cell? ⟨b1, 1, none⟩ = some (.int .i64 (c : Int))) (c2 : w.cell? ⟨b1, 2, none⟩ = some (.slice ao n d)) (c3 : w.cell? ⟨b2, 0, none⟩ = some (.int .i64 (j : Int))) :
  Calls Tryz.prog 109 #[.int .i64 (i : Int), .int .i64 (k : Int), .pointer (some ⟨b1, 0, none⟩), .pointer (some ⟨b2, 0, none⟩)] w fun xe w' => xe = .returned (fracV q) ∧ Below w.heap.size w w' := by
 replace HA := Lib.hid HA
 replace hKC := Lib.hid hKC
 have hL0 : GL w w [] := GL.start w
 have hb0 : Below w.heap.size w (w.alloc (.cells #[.int .u64 0, .string ⟨#[]⟩, .bool false, .int .u64 0, .string ⟨#[]⟩] 36)) := (Below.refl _ _).alloc (Nat.le_refl _) _
 replace c0 := keepsC hb0 c0
 replace c1 := keepsC hb0 c1
 replace c2 := keepsC hb0 c2
 replace c3 := keepsC hb0 c3
 replace kC := hKC.out _ _ hb0 kC
 replace hL0 := hL0.new rfl [.int .u64 0, .string ⟨#[]⟩, .bool false, .int .u64 0, .string ⟨#[]⟩] 36
 generalize hweq : w.alloc (.cells #[.int .u64 0, .string ⟨#[]⟩, .bool false, .int .u64 0, .string ⟨#[]⟩] 36) = x1 at hL0 c0 c1 c2 c3 kC
 clear hb0
 go_enter Tryz.func109, Tryz.ntmps109
 go_wp2_with fail
 with_reducible refine Calls.mono (HA.out _ kC) ?_
 rintro e x2 ⟨rfl, hb⟩
 replace hL0 := hL0.call hb
 clear hb hweq c0 c1 c2 c3
 have hA := hL0.fc
 simp only [fcG, cellsF, neK, and_true, ne_eq, Nat.zero_add, Nat.reduceAdd] at hA
 have hPt := hL0.put 0 (w.heap.size) _ rfl [.int .u64 ((zl q.num : Nat) : Int), .string (zh q.num), .bool (zs q.num), .int .u64 ((lo (fe q) : Nat) : Int), .string (hs (fe q))] rfl
 simp only [setAll, List.set_cons_zero, List.set_cons_succ] at hPt
 generalize hput1 : (((((x2.setCell ⟨w.heap.size, 0, none⟩ (.int .u64 ((zl q.num : Nat) : Int))).setCell ⟨w.heap.size, 1, none⟩ (.string (zh q.num))).setCell ⟨w.heap.size, 2, none⟩ (.bool (zs q.num))).setCell ⟨w.heap.size, 3, none⟩ (.int .u64 ((lo (fe q) : Nat) : Int))).setCell ⟨w.heap.size, 4, none⟩ (.string (hs (fe q)))) = x9 at hPt
 have hB1 := hPt.fc
 simp only [fcG, cellsF, neK, and_true, ne_eq, Nat.zero_add, Nat.reduceAdd] at hB1
 go_wp2_with fail
 exact bodyPost_ret (v := fracV q) (by simp [results, Tryz.results109, go_sem, hB1]) rfl ⟨rfl, hPt.bl⟩
set_option maxHeartbeats 4000000 in
set_option maxRecDepth 100000 in
theorem mcol1_w (i k j r c n d b1 b2 : Nat) (ao : Option Addr) (q : Rat) (KC : World → Prop) (hKC : Keeps KC) (HA : ∀ w, KC w → Calls Tryz.prog 110 #[.agg #[.int .i64 (r : Int), .int .i64 (c : Int), .slice ao n d], .int .i64 (i : Int), .int .i64 (j : Int)] w fun xe w' => xe = .returned (fracV q) ∧ Below w.heap.size w w') (w : World) (kC : KC w) (c0 : w.cell? ⟨b1, 0, none⟩ = some (.int .i64 (r : Int))) (c1 : w.cell? ⟨b1, 1, none⟩ = some (.int .i64 (c : Int))) (c2 : w.cell? ⟨b1, 2, none⟩ = some (.slice ao n d)) (c3 : w.cell? ⟨b2, 0, none⟩ = some (.int .i64 (j : Int))) :
  Calls Tryz.prog 111 #[.int .i64 (i : Int), .int .i64 (k : Int), .pointer (some ⟨b1, 0, none⟩), .pointer (some ⟨b2, 0, none⟩)] w fun xe w' => xe = .returned (fracV q) ∧ Below w.heap.size w w' := by
 replace HA := Lib.hid HA
 replace hKC := Lib.hid hKC
 have hL0 : GL w w [] := GL.start w
 have hb0 : Below w.heap.size w (w.alloc (.cells #[.int .u64 0, .string ⟨#[]⟩, .bool false, .int .u64 0, .string ⟨#[]⟩] 36)) := (Below.refl _ _).alloc (Nat.le_refl _) _
 replace c0 := keepsC hb0 c0
 replace c1 := keepsC hb0 c1
 replace c2 := keepsC hb0 c2
 replace c3 := keepsC hb0 c3
 replace kC := hKC.out _ _ hb0 kC
 replace hL0 := hL0.new rfl [.int .u64 0, .string ⟨#[]⟩, .bool false, .int .u64 0, .string ⟨#[]⟩] 36
 generalize hweq : w.alloc (.cells #[.int .u64 0, .string ⟨#[]⟩, .bool false, .int .u64 0, .string ⟨#[]⟩] 36) = x1 at hL0 c0 c1 c2 c3 kC
 clear hb0
 go_enter Tryz.func111, Tryz.ntmps111
 go_wp2_with fail
 with_reducible refine Calls.mono (HA.out _ kC) ?_
 rintro e x2 ⟨rfl, hb⟩
 replace hL0 := hL0.call hb
 clear hb hweq c0 c1 c2 c3
 have hA := hL0.fc
 simp only [fcG, cellsF, neK, and_true, ne_eq, Nat.zero_add, Nat.reduceAdd] at hA
 have hPt := hL0.put 0 (w.heap.size) _ rfl [.int .u64 ((zl q.num : Nat) : Int), .string (zh q.num), .bool (zs q.num), .int .u64 ((lo (fe q) : Nat) : Int), .string (hs (fe q))] rfl
 simp only [setAll, List.set_cons_zero, List.set_cons_succ] at hPt
 generalize hput1 : (((((x2.setCell ⟨w.heap.size, 0, none⟩ (.int .u64 ((zl q.num : Nat) : Int))).setCell ⟨w.heap.size, 1, none⟩ (.string (zh q.num))).setCell ⟨w.heap.size, 2, none⟩ (.bool (zs q.num))).setCell ⟨w.heap.size, 3, none⟩ (.int .u64 ((lo (fe q) : Nat) : Int))).setCell ⟨w.heap.size, 4, none⟩ (.string (hs (fe q)))) = x9 at hPt
 have hB1 := hPt.fc
 simp only [fcG, cellsF, neK, and_true, ne_eq, Nat.zero_add, Nat.reduceAdd] at hB1
 go_wp2_with fail
 exact bodyPost_ret (v := fracV q) (by simp [results, Tryz.results111, go_sem, hB1]) rfl ⟨rfl, hPt.bl⟩
theorem enmrow : ∀ (args : Array Value) (w : World), (callFunc 109 args).run Tryz.prog w = .ok (.enter 109 args) w := enters_of Tryz.func109 (by kernel_rfl) rfl
theorem enmcol : ∀ (args : Array Value) (w : World), (callFunc 111 args).run Tryz.prog w = .ok (.enter 111 args) w := enters_of Tryz.func111 (by kernel_rfl) rfl
theorem mrow_at (x : Mx) (hx : OKM x) (j : Nat) (hj : j < x.r) (b1 b2 : Nat) (u : Value) (i k : Nat) (hk : k < x.c) (w : World) (hw : (BM w b1 u x ∧ w.cell? ⟨b2, 0, none⟩ = some (.int .i64 (j : Int)))) :
  Calls Tryz.prog 109 (#[.int .i64 (i : Int), .int .i64 (k : Int)] ++ #[.pointer (some ⟨b1, 0, none⟩), .pointer (some ⟨b2, 0, none⟩)]) w fun xe w' => xe = .returned (fracV (ent x j k)) ∧ Below w.heap.size w w' := by
 obtain ⟨ao, d, rfl, -⟩ := hw.1.2.2.2.form
 exact mrow1_w i k j x.r x.c x.l.length d b1 b2 ao (ent x j k) (fun w => CQ w _ x.l) (CQ.keeps _ _) (fun w h => matV x hx j k hj hk _ w h) w hw.1.2.2.2 hw.1.1 hw.1.2.1 hw.1.2.2.1 hw.2
set_option maxHeartbeats 4000000 in
set_option maxRecDepth 100000 in
theorem mRowV (x : Mx) (hx : OKM x) (j : Nat) (hj : j < x.r) (u : Value) (w : World) (hu : CQ w u x.l) :
  Calls Tryz.prog 32 #[.agg #[.int .i64 (x.r : Int), .int .i64 (x.c : Int), u], .int .i64 (j : Int)] w fun xe w' => ∃ t, xe = .returned (.tuple #[t, .int .i64 0]) ∧ NV w.heap.size (tabV x.c fun k => ent x j k) t w' ∧ Below w.heap.size w w' := by
 rw [← tab_row]
 have HB : ∀ b1 b2 u (w : World), (BM w b1 u x ∧ w.cell? ⟨b2, 0, none⟩ = some (.int .i64 (j : Int))) → Calls Tryz.prog 108 #[.int .i64 (1 : Int), .int .i64 (x.c : Int), .func (.func 109) #[] #[.pointer (some ⟨b1, 0, none⟩), .pointer (some ⟨b2, 0, none⟩)]] w fun xe w' => ∃ v, xe = .returned (.agg #[.int .i64 (1 : Int), .int .i64 (x.c : Int), v]) ∧ NV w.heap.size (tabM 1 x.c (fun _ k => ent x j k)).l v w' ∧ Below w.heap.size w w' := fun b1 b2 u w h =>
  mbuild_w 109 #[.pointer (some ⟨b1, 0, none⟩), .pointer (some ⟨b2, 0, none⟩)] enmrow 1 x.c (fun _ k => ent x j k) (fun w => (BM w b1 u x ∧ w.cell? ⟨b2, 0, none⟩ = some (.int .i64 (j : Int)))) (Keeps.and (BM.keeps _ _ _) (keepsB _ _)) (fun i k hi hk w h => mrow_at x hx j hj b1 b2 u i k hk w h) (by omega) hx.c (by have := hx.c; omega) w h
 have HI := Lib.hid (mindex_in (j : Int) (x.r : Int) (Int.natCast_nonneg _) (by omega))
 have HK := fun (n d : Nat) (ao : Option Addr) (hn : n = x.r * x.c) => mcheck_ok x.r x.c n d ao hx.r hx.c hn
 have hlen := hx.len
 clear hx hj
 generalize (tabM 1 x.c (fun _ k => ent x j k)).l = tl at HB ⊢
 obtain ⟨ao, d, rfl, -⟩ := id hu.form
 replace HK := Lib.hid (HK x.l.length d ao hlen)
 clear hlen
 replace HB := Lib.hid HB
 have hL0 : GL w w [] := GL.start w
 replace hL0 := ((hL0.new rfl [.int .i64 (x.r : Int), .int .i64 (x.c : Int), (.slice ao x.l.length d)] 56).new (K := w.heap.size + 1) (szA _ _) [.int .i64 (j : Int)] 3)
 generalize hweq : ((w.alloc (.cells #[.int .i64 (x.r : Int), .int .i64 (x.c : Int), (.slice ao x.l.length d)] 56)).alloc (.cells #[.int .i64 (j : Int)] 3)) = x1 at hL0
 have hu1 := Lib.hid (hu.below hL0.bl)
 clear hu
 have hA := hL0.fc
 simp only [fcG, cellsF, neK, and_true, ne_eq, Nat.zero_add, Nat.reduceAdd] at hA
 go_enter Tryz.func32, Tryz.ntmps32
 go_wp2_with fail
 with_reducible refine Calls.mono (HK.out _) ?_
 rintro e y1 ⟨rfl, hb⟩
 replace hu1 := Lib.hid (hu1.out.below hb)
 replace hL0 := hL0.call hb
 clear hb hA hweq HK
 have hA := hL0.fc
 simp only [fcG, cellsF, neK, and_true, ne_eq, Nat.zero_add, Nat.reduceAdd] at hA
 go_wp2_with fail
 with_reducible refine Calls.mono (HI.out _) ?_
 rintro e y2 ⟨rfl, hb⟩
 replace hu1 := Lib.hid (hu1.out.below hb)
 replace hL0 := hL0.call hb
 clear hb hA HI
 have hB1 := BM.of (hL0.get _ _ (List.mem_cons_of_mem _ List.mem_cons_self)) hu1.out
 have hc1 := (hL0.get _ _ List.mem_cons_self).cell 0 (by simp)
 simp only [List.getElem_cons_zero, List.getElem_cons_succ] at hc1
 replace HB := Lib.hid (HB.out _ _ _ _ ⟨hB1, hc1⟩)
 clear hc1 hB1 hu1
 have hx0 := Lib.hid hL0
 have hA := hL0.fc
 simp only [fcG, cellsF, neK, and_true, ne_eq, Nat.zero_add, Nat.reduceAdd] at hA
 go_wp2_with fail
 with_reducible refine Calls.mono (HB.out) ?_
 rintro e y4 ⟨u, rfl, hnv, hb⟩
 replace hL0 := hL0.call hb
 clear hb hA HB
 have hNV := Lib.hid (hnv.mono hx0.out.bl.size)
 obtain ⟨gu, rfl, -, -⟩ := hnv
 clear hx0
 replace hL0 := Lib.hid hL0
 have hfd := fun W => m_field2 (1 : Int) (x.c : Int) (some ⟨gu, 0, none⟩) tl.length tl.length W
 go_wp2_with fail
 exact bodyPost_ret (v := .tuple #[.slice (some ⟨gu, 0, none⟩) tl.length tl.length, .int .i64 0]) (by simp [results, Tryz.results32, go_sem]) rfl ⟨_, rfl, hNV.out, hL0.out.bl⟩
theorem mcol_at (x : Mx) (hx : OKM x) (j : Nat) (hj : j < x.c) (b1 b2 : Nat) (u : Value) (i k : Nat) (hi : i < x.r) (w : World) (hw : (BM w b1 u x ∧ w.cell? ⟨b2, 0, none⟩ = some (.int .i64 (j : Int)))) :
  Calls Tryz.prog 111 (#[.int .i64 (i : Int), .int .i64 (k : Int)] ++ #[.pointer (some ⟨b1, 0, none⟩), .pointer (some ⟨b2, 0, none⟩)]) w fun xe w' => xe = .returned (fracV (ent x i j)) ∧ Below w.heap.size w w' := by
 obtain ⟨ao, d, rfl, -⟩ := hw.1.2.2.2.form
 exact mcol1_w i k j x.r x.c x.l.length d b1 b2 ao (ent x i j) (fun w => CQ w _ x.l) (CQ.keeps _ _) (fun w h => matV x hx i j hi hj _ w h) w hw.1.2.2.2 hw.1.1 hw.1.2.1 hw.1.2.2.1 hw.2
set_option maxHeartbeats 4000000 in
set_option maxRecDepth 100000 in
theorem mColV (x : Mx) (hx : OKM x) (j : Nat) (hj : j < x.c) (u : Value) (w : World) (hu : CQ w u x.l) :
  Calls Tryz.prog 34 #[.agg #[.int .i64 (x.r : Int), .int .i64 (x.c : Int), u], .int .i64 (j : Int)] w fun xe w' => ∃ t, xe = .returned (.tuple #[t, .int .i64 0]) ∧ NV w.heap.size (tabV x.r fun i => ent x i j) t w' ∧ Below w.heap.size w w' := by
 rw [← tab_col]
 have HB : ∀ b1 b2 u (w : World), (BM w b1 u x ∧ w.cell? ⟨b2, 0, none⟩ = some (.int .i64 (j : Int))) → Calls Tryz.prog 108 #[.int .i64 (x.r : Int), .int .i64 (1 : Int), .func (.func 111) #[] #[.pointer (some ⟨b1, 0, none⟩), .pointer (some ⟨b2, 0, none⟩)]] w fun xe w' => ∃ v, xe = .returned (.agg #[.int .i64 (x.r : Int), .int .i64 (1 : Int), v]) ∧ NV w.heap.size (tabM x.r 1 (fun i _ => ent x i j)).l v w' ∧ Below w.heap.size w w' := fun b1 b2 u w h =>
  mbuild_w 111 #[.pointer (some ⟨b1, 0, none⟩), .pointer (some ⟨b2, 0, none⟩)] enmcol x.r 1 (fun i _ => ent x i j) (fun w => (BM w b1 u x ∧ w.cell? ⟨b2, 0, none⟩ = some (.int .i64 (j : Int)))) (Keeps.and (BM.keeps _ _ _) (keepsB _ _)) (fun i k hi hk w h => mcol_at x hx j hj b1 b2 u i k hi w h) hx.r (by omega) (by have := hx.r; omega) w h
 have HI := Lib.hid (mindex_in (j : Int) (x.c : Int) (Int.natCast_nonneg _) (by omega))
 have HK := fun (n d : Nat) (ao : Option Addr) (hn : n = x.r * x.c) => mcheck_ok x.r x.c n d ao hx.r hx.c hn
 have hlen := hx.len
 clear hx hj
 generalize (tabM x.r 1 (fun i _ => ent x i j)).l = tl at HB ⊢
 obtain ⟨ao, d, rfl, -⟩ := id hu.form
 replace HK := Lib.hid (HK x.l.length d ao hlen)
 clear hlen
 replace HB := Lib.hid HB
 have hL0 : GL w w [] := GL.start w
 replace hL0 := ((hL0.new rfl [.int .i64 (x.r : Int), .int .i64 (x.c : Int), (.slice ao x.l.length d)] 56).new (K := w.heap.size + 1) (szA _ _) [.int .i64 (j : Int)] 3)
 generalize hweq : ((w.alloc (.cells #[.int .i64 (x.r : Int), .int .i64 (x.c : Int), (.slice ao x.l.length d)] 56)).alloc (.cells #[.int .i64 (j : Int)] 3)) = x1 at hL0
 have hu1 := Lib.hid (hu.below hL0.bl)
 clear hu
 have hA := hL0.fc
 simp only [fcG, cellsF, neK, and_true, ne_eq, Nat.zero_add, Nat.reduceAdd] at hA
 go_enter Tryz.func34, Tryz.ntmps34
 go_wp2_with fail
 with_reducible refine Calls.mono (HK.out _) ?_
 rintro e y1 ⟨rfl, hb⟩
 replace hu1 := Lib.hid (hu1.out.below hb)
 replace hL0 := hL0.call hb
 clear hb hA hweq HK
 have hA := hL0.fc
 simp only [fcG, cellsF, neK, and_true, ne_eq, Nat.zero_add, Nat.reduceAdd] at hA
 go_wp2_with fail
 with_reducible refine Calls.mono (HI.out _) ?_
 rintro e y2 ⟨rfl, hb⟩
 replace hu1 := Lib.hid (hu1.out.below hb)
 replace hL0 := hL0.call hb
 clear hb hA HI
 have hB1 := BM.of (hL0.get _ _ (List.mem_cons_of_mem _ List.mem_cons_self)) hu1.out
 have hc1 := (hL0.get _ _ List.mem_cons_self).cell 0 (by simp)
 simp only [List.getElem_cons_zero, List.getElem_cons_succ] at hc1
 replace HB := Lib.hid (HB.out _ _ _ _ ⟨hB1, hc1⟩)
 clear hc1 hB1 hu1
 have hx0 := Lib.hid hL0
 have hA := hL0.fc
 simp only [fcG, cellsF, neK, and_true, ne_eq, Nat.zero_add, Nat.reduceAdd] at hA
 go_wp2_with fail
 with_reducible refine Calls.mono (HB.out) ?_
 rintro e y4 ⟨u, rfl, hnv, hb⟩
 replace hL0 := hL0.call hb
 clear hb hA HB
 have hNV := Lib.hid (hnv.mono hx0.out.bl.size)
 obtain ⟨gu, rfl, -, -⟩ := hnv
 clear hx0
 replace hL0 := Lib.hid hL0
 have hfd := fun W => m_field2 (x.r : Int) (1 : Int) (some ⟨gu, 0, none⟩) tl.length tl.length W
 go_wp2_with fail
 exact bodyPost_ret (v := .tuple #[.slice (some ⟨gu, 0, none⟩) tl.length tl.length, .int .i64 0]) (by simp [results, Tryz.results34, go_sem]) rfl ⟨_, rfl, hNV.out, hL0.out.bl⟩
set_option maxHeartbeats 4000000 in
set_option maxRecDepth 100000 in
theorem mAtV (x : Mx) (hx : OKM x) (i k : Nat) (hi : i < x.r) (hk : k < x.c) (u : Value) (w : World) (hu : CQ w u x.l) :
  Calls Tryz.prog 33 #[.agg #[.int .i64 (x.r : Int), .int .i64 (x.c : Int), u], .int .i64 (i : Int), .int .i64 (k : Int)] w fun xe w' => xe = .returned (.tuple #[fracV (ent x i k), .bool true]) ∧ Below w.heap.size w w' := by
 have HA := fun w h => matV x hx i k hi hk u w h
 have HI := Lib.hid (mindex_in (i : Int) (x.r : Int) (Int.natCast_nonneg _) (by omega))
 have HJ := Lib.hid (mindex_in (k : Int) (x.c : Int) (Int.natCast_nonneg _) (by omega))
 have HK := fun (n d : Nat) (ao : Option Addr) (hn : n = x.r * x.c) => mcheck_ok x.r x.c n d ao hx.r hx.c hn
 have hlen := hx.len
 clear hx hi hk
 generalize ent x i k = q at HA ⊢
 obtain ⟨ao, d, rfl, -⟩ := id hu.form
 replace HK := Lib.hid (HK x.l.length d ao hlen)
 clear hlen
 replace HA := Lib.hid HA
 have hL0 : GL w w [] := GL.start w
 replace hL0 := ((hL0.new rfl [.int .i64 (x.r : Int), .int .i64 (x.c : Int), (.slice ao x.l.length d)] 56).new (K := w.heap.size + 1) (szA _ _) [.int .u64 0, .string ⟨#[]⟩, .bool false, .int .u64 0, .string ⟨#[]⟩] 36)
 generalize hweq : ((w.alloc (.cells #[.int .i64 (x.r : Int), .int .i64 (x.c : Int), (.slice ao x.l.length d)] 56)).alloc (.cells #[.int .u64 0, .string ⟨#[]⟩, .bool false, .int .u64 0, .string ⟨#[]⟩] 36)) = x1 at hL0
 have hu1 := Lib.hid (hu.below hL0.bl)
 clear hu
 have hA := hL0.fc
 simp only [fcG, cellsF, neK, and_true, ne_eq, Nat.zero_add, Nat.reduceAdd] at hA
 go_enter Tryz.func33, Tryz.ntmps33
 go_wp2_with fail
 with_reducible refine Calls.mono (HK.out _) ?_
 rintro e y1 ⟨rfl, hb⟩
 replace hu1 := Lib.hid (hu1.out.below hb)
 replace hL0 := hL0.call hb
 clear hb hA hweq HK
 have hA := hL0.fc
 simp only [fcG, cellsF, neK, and_true, ne_eq, Nat.zero_add, Nat.reduceAdd] at hA
 go_wp2_with fail
 with_reducible refine Calls.mono (HI.out _) ?_
 rintro e y2 ⟨rfl, hb⟩
 replace hu1 := Lib.hid (hu1.out.below hb)
 replace hL0 := hL0.call hb
 clear hb hA HI
 have hA := hL0.fc
 simp only [fcG, cellsF, neK, and_true, ne_eq, Nat.zero_add, Nat.reduceAdd] at hA
 go_wp2_with fail
 with_reducible refine Calls.mono (HJ.out _) ?_
 rintro e y3 ⟨rfl, hb⟩
 replace hu1 := Lib.hid (hu1.out.below hb)
 replace hL0 := hL0.call hb
 clear hb hA HJ
 have hA := hL0.fc
 simp only [fcG, cellsF, neK, and_true, ne_eq, Nat.zero_add, Nat.reduceAdd] at hA
 go_wp2_with fail
 with_reducible refine Calls.mono (HA.out _ hu1.out) ?_
 rintro e y4 ⟨rfl, hb⟩
 replace hL0 := hL0.call hb
 clear hb hA hu1 HA
 have hA := hL0.fc
 simp only [fcG, cellsF, neK, and_true, ne_eq, Nat.zero_add, Nat.reduceAdd] at hA
 have hPt := hL0.put 0 (w.heap.size + 1) _ rfl [.int .u64 ((zl q.num : Nat) : Int), .string (zh q.num), .bool (zs q.num), .int .u64 ((lo (fe q) : Nat) : Int), .string (hs (fe q))] rfl
 simp only [setAll, List.set_cons_zero, List.set_cons_succ] at hPt
 generalize hput1 : (((((y4.setCell ⟨w.heap.size + 1, 0, none⟩ (.int .u64 ((zl q.num : Nat) : Int))).setCell ⟨w.heap.size + 1, 1, none⟩ (.string (zh q.num))).setCell ⟨w.heap.size + 1, 2, none⟩ (.bool (zs q.num))).setCell ⟨w.heap.size + 1, 3, none⟩ (.int .u64 ((lo (fe q) : Nat) : Int))).setCell ⟨w.heap.size + 1, 4, none⟩ (.string (hs (fe q)))) = y5 at hPt
 have hB1 := hPt.fc
 simp only [fcG, cellsF, neK, and_true, ne_eq, Nat.zero_add, Nat.reduceAdd] at hB1
 go_wp2_with fail
 exact bodyPost_ret (v := .tuple #[fracV q, .bool true]) (by simp [results, Tryz.results33, go_sem, hB1]) rfl ⟨rfl, hPt.bl⟩
theorem i64w9 (x : Int) (h1 : -9223372036854775808 ≤ x) (h2 : x < 9223372036854775808) : IntKind.i64.wrap x = x := by
 simp only [IntKind.wrap, IntKind.signed, IntKind.bits]
 simp
 omega
end Go.Proofs.YtjdjhlmcbffocaaGreatDoor
namespace Go.Proofs.YtjdjhlmcbffocaaGreatDoor
open Go.RowKit
attribute [local irreducible] lo hs sm s64 c64 d64 b64 mh ml pd pc qd qc val hiB str cmpI srD lz nb zl zh zs fe rowV tabV gv bsV tabM
set_option maxHeartbeats 4000000 in
set_option maxRecDepth 100000 in
theorem mouter1_w (i k na nb ca cb ga gb b1 b2 : Nat) (x y r : Rat) (HC : ∀ w, Calls Tryz.prog 20 #[fracV x, fracV y] w fun xe w' => xe = .returned (fracV r) ∧ Below w.heap.size w w') (hi : i < na) (hj : k < nb) (w : World) (c0 : w.cell? ⟨b1, 0, none⟩ = some (.slice (some ⟨ga, 0, none⟩) na ca)) (c1 : w.cell? ⟨b2, 0, none⟩ = some (.slice (some ⟨gb, 0, none⟩) nb cb)) (c2 : w.cell? ⟨ga, i * 5, none⟩ = some (.int .u64 ((zl x.num : Nat) : Int))) (c3 : w.cell? ⟨ga, i * 5 + 1, none⟩ = some (.string (zh x.num))) (c4 : w.cell? ⟨ga, i * 5 + 2, none⟩ = some (.bool (zs x.num))) (c5 : w.cell? ⟨ga, i * 5 + 3, none⟩ = some (.int .u64 ((lo (fe x) : Nat) : Int))) (c6 : w.cell? ⟨ga, i * 5 + 4, none⟩ = some (.string (hs (fe x)))) (c7 : w.cell? ⟨gb, k * 5, none⟩ = some (.int .u64 ((zl y.num : Nat) : Int))) (c8 : w.cell? ⟨gb, k * 5 + 1, none⟩ = some (.string (zh y.num))) (c9 : w.cell? ⟨gb, k * 5 + 2, none⟩ = some (.bool (zs y.num))) (c10 : w.cell? ⟨gb, k * 5 + 3, none⟩ = some (.int .u64 ((lo (fe y) : Nat) : Int))) (c11 : w.cell? ⟨gb, k * 5 + 4, none⟩ = some (.string (hs (fe y)))) :
  Calls Tryz.prog 112 #[.int .i64 (i : Int), .int .i64 (k : Int), .pointer (some ⟨b1, 0, none⟩), .pointer (some ⟨b2, 0, none⟩)] w fun xe w' => xe = .returned (fracV r) ∧ Below w.heap.size w w' := by
 replace HC := Lib.hid HC
 have k0 : (0 : Int) ≤ (i : Int) := Int.natCast_nonneg _
 have k9 : (0 : Int) ≤ (k : Int) := Int.natCast_nonneg _
 have k1 : (i : Int) < (na : Int) := by omega
 have k2 : (k : Int) < (nb : Int) := by omega
 clear hi hj
 have hL0 : GL w w [] := GL.start w
 have hb0 : Below w.heap.size w (w.alloc (.cells #[.int .u64 0, .string ⟨#[]⟩, .bool false, .int .u64 0, .string ⟨#[]⟩] 36)) := (Below.refl _ _).alloc (Nat.le_refl _) _
 replace c0 := keepsC hb0 c0
 replace c1 := keepsC hb0 c1
 replace c2 := keepsC hb0 c2
 replace c3 := keepsC hb0 c3
 replace c4 := keepsC hb0 c4
 replace c5 := keepsC hb0 c5
 replace c6 := keepsC hb0 c6
 replace c7 := keepsC hb0 c7
 replace c8 := keepsC hb0 c8
 replace c9 := keepsC hb0 c9
 replace c10 := keepsC hb0 c10
 replace c11 := keepsC hb0 c11
 replace hL0 := hL0.new rfl [.int .u64 0, .string ⟨#[]⟩, .bool false, .int .u64 0, .string ⟨#[]⟩] 36
 generalize hweq : w.alloc (.cells #[.int .u64 0, .string ⟨#[]⟩, .bool false, .int .u64 0, .string ⟨#[]⟩] 36) = x1 at hL0 c0 c1 c2 c3 c4 c5 c6 c7 c8 c9 c10 c11
 clear hb0
 replace c0 := Lib.hid c0
 replace c1 := Lib.hid c1
 replace c2 := Lib.hid c2
 replace c3 := Lib.hid c3
 replace c4 := Lib.hid c4
 replace c5 := Lib.hid c5
 replace c6 := Lib.hid c6
 replace c7 := Lib.hid c7
 replace c8 := Lib.hid c8
 replace c9 := Lib.hid c9
 replace c10 := Lib.hid c10
 replace c11 := Lib.hid c11
 go_enter Tryz.func112, Tryz.ntmps112
 go_upto_region 1 with fail
 clear hweq
 obtain ⟨α, iα, F, hF1, hF2⟩ := cls x1
 have hq0 : ∀ yz, (F yz).cell? ⟨b1, 0, none⟩ = some (.slice (some ⟨ga, 0, none⟩) na ca) := fun yz => keepsC (hF1 yz) c0.out
 have hq1 : ∀ yz, (F yz).cell? ⟨b2, 0, none⟩ = some (.slice (some ⟨gb, 0, none⟩) nb cb) := fun yz => keepsC (hF1 yz) c1.out
 have hq2 : ∀ yz, (F yz).cell? ⟨ga, i * 5, none⟩ = some (.int .u64 ((zl x.num : Nat) : Int)) := fun yz => keepsC (hF1 yz) c2.out
 have hq3 : ∀ yz, (F yz).cell? ⟨ga, i * 5 + 1, none⟩ = some (.string (zh x.num)) := fun yz => keepsC (hF1 yz) c3.out
 have hq4 : ∀ yz, (F yz).cell? ⟨ga, i * 5 + 2, none⟩ = some (.bool (zs x.num)) := fun yz => keepsC (hF1 yz) c4.out
 have hq5 : ∀ yz, (F yz).cell? ⟨ga, i * 5 + 3, none⟩ = some (.int .u64 ((lo (fe x) : Nat) : Int)) := fun yz => keepsC (hF1 yz) c5.out
 have hq6 : ∀ yz, (F yz).cell? ⟨ga, i * 5 + 4, none⟩ = some (.string (hs (fe x))) := fun yz => keepsC (hF1 yz) c6.out
 have hq7 : ∀ yz, (F yz).cell? ⟨gb, k * 5, none⟩ = some (.int .u64 ((zl y.num : Nat) : Int)) := fun yz => keepsC (hF1 yz) c7.out
 have hq8 : ∀ yz, (F yz).cell? ⟨gb, k * 5 + 1, none⟩ = some (.string (zh y.num)) := fun yz => keepsC (hF1 yz) c8.out
 have hq9 : ∀ yz, (F yz).cell? ⟨gb, k * 5 + 2, none⟩ = some (.bool (zs y.num)) := fun yz => keepsC (hF1 yz) c9.out
 have hq10 : ∀ yz, (F yz).cell? ⟨gb, k * 5 + 3, none⟩ = some (.int .u64 ((lo (fe y) : Nat) : Int)) := fun yz => keepsC (hF1 yz) c10.out
 have hq11 : ∀ yz, (F yz).cell? ⟨gb, k * 5 + 4, none⟩ = some (.string (hs (fe y))) := fun yz => keepsC (hF1 yz) c11.out
 refine region_qs 9 (C := fun w' => ∃ x, w' = F x) (by kernel_rfl) (by kernel_rfl) (cls_drew hF2) ?_
 simp only [List.take_succ_cons, List.take_zero, List.drop_succ_cons, List.drop_zero, List.take_nil, List.drop_nil]
 repeat (go_big_quiet_step (first | fail | (go_at_call 20; with_reducible exact cls_call hF1 hF2 HC.out _)))
 refine wpQuiet_nil ?_
 rintro wq ⟨xq, rfl⟩
 replace hL0 := hL0.call (hF1 xq)
 clear hq0 hq1 hq2 hq3 hq4 hq5 hq6 hq7 hq8 hq9 hq10 hq11 hF2
 generalize F xq = x2 at hL0 ⊢
 clear hF1 xq iα F α
 have hA := hL0.fc
 simp only [fcG, cellsF, neK, and_true, ne_eq, Nat.zero_add, Nat.reduceAdd] at hA
 have hPt := hL0.put 0 (w.heap.size) _ rfl [.int .u64 ((zl r.num : Nat) : Int), .string (zh r.num), .bool (zs r.num), .int .u64 ((lo (fe r) : Nat) : Int), .string (hs (fe r))] rfl
 simp only [setAll, List.set_cons_zero, List.set_cons_succ] at hPt
 generalize hput1 : (((((x2.setCell ⟨w.heap.size, 0, none⟩ (.int .u64 ((zl r.num : Nat) : Int))).setCell ⟨w.heap.size, 1, none⟩ (.string (zh r.num))).setCell ⟨w.heap.size, 2, none⟩ (.bool (zs r.num))).setCell ⟨w.heap.size, 3, none⟩ (.int .u64 ((lo (fe r) : Nat) : Int))).setCell ⟨w.heap.size, 4, none⟩ (.string (hs (fe r)))) = x9 at hPt
 have hB1 := hPt.fc
 simp only [fcG, cellsF, neK, and_true, ne_eq, Nat.zero_add, Nat.reduceAdd] at hB1
 go_wp2_with fail
 exact bodyPost_ret (v := fracV r) (by simp [results, Tryz.results112, go_sem, hB1]) rfl ⟨rfl, hPt.bl⟩
theorem enmouter : ∀ (args : Array Value) (w : World), (callFunc 112 args).run Tryz.prog w = .ok (.enter 112 args) w := enters_of Tryz.func112 (by kernel_rfl) rfl
theorem mouter_at (x y : List Rat) (K b1 b2 : Nat) (va vb : Value) (hK : K ≤ 1000000) (sx : ∀ q ∈ x, Sz q K) (sy : ∀ q ∈ y, Sz q K) (i k : Nat) (hi : i < x.length) (hk : k < y.length) (w : World) (hw : (SlQ w va x ∧ SlQ w vb y ∧ w.cell? ⟨b1, 0, none⟩ = some va ∧ w.cell? ⟨b2, 0, none⟩ = some vb)) :
  Calls Tryz.prog 112 (#[.int .i64 (i : Int), .int .i64 (k : Int)] ++ #[.pointer (some ⟨b1, 0, none⟩), .pointer (some ⟨b2, 0, none⟩)]) w fun xe w' => xe = .returned (fracV (gv x i * gv y k)) ∧ Below w.heap.size w w' := by
 obtain ⟨h1, h2, h3, h4⟩ := hw
 obtain ⟨aa, ca, rfl⟩ := slq_form' h1
 obtain ⟨ab, cb, rfl⟩ := slq_form' h2
 obtain ⟨ga, rfl, -, f1⟩ := slq_at h1 i (by omega)
 obtain ⟨gb, rfl, -, f2⟩ := slq_at h2 k (by omega)
 obtain ⟨p0, p1, p2, p3, p4⟩ := fsc f1 i (by omega)
 obtain ⟨q0, q1, q2, q3, q4⟩ := fsc f2 k (by omega)
 exact mouter1_w i k x.length y.length ca cb ga gb b1 b2 (gv x i) (gv y k) (gv x i * gv y k) (fun w => mulF _ _ K (qsk x sx i (by omega)) (qsk y sy k (by omega)) (by omega) w) (by omega) (by omega) w h3 h4 p0 p1 p2 p3 p4 q0 q1 q2 q3 q4
set_option maxHeartbeats 4000000 in
set_option maxRecDepth 100000 in
theorem mOuterV (x y : List Rat) (K : Nat) (hK : K ≤ 1000000) (sx : ∀ q ∈ x, Sz q K) (sy : ∀ q ∈ y, Sz q K) (hn : x.length ≤ 100) (hm : y.length ≤ 100) (va vb : Value) (w : World) (hv : SlQ w va x) (hu : SlQ w vb y) :
  Calls Tryz.prog 35 #[va, vb] w fun xe w' => ∃ v, xe = .returned (.tuple #[.agg #[.int .i64 (x.length : Int), .int .i64 (y.length : Int), v], .int .i64 0]) ∧ NV w.heap.size (tabM x.length y.length fun i k => gv x i * gv y k).l v w' ∧ Below w.heap.size w w' := by
 have HB : ∀ b1 b2 (w : World), (SlQ w va x ∧ SlQ w vb y ∧ w.cell? ⟨b1, 0, none⟩ = some va ∧ w.cell? ⟨b2, 0, none⟩ = some vb) → Calls Tryz.prog 108 #[.int .i64 (x.length : Int), .int .i64 (y.length : Int), .func (.func 112) #[] #[.pointer (some ⟨b1, 0, none⟩), .pointer (some ⟨b2, 0, none⟩)]] w fun xe w' => ∃ v, xe = .returned (.agg #[.int .i64 (x.length : Int), .int .i64 (y.length : Int), v]) ∧ NV w.heap.size (tabM x.length y.length fun i k => gv x i * gv y k).l v w' ∧ Below w.heap.size w w' := fun b1 b2 w h =>
  mbuild_w 112 #[.pointer (some ⟨b1, 0, none⟩), .pointer (some ⟨b2, 0, none⟩)] enmouter x.length y.length (fun i k => gv x i * gv y k) (fun w => (SlQ w va x ∧ SlQ w vb y ∧ w.cell? ⟨b1, 0, none⟩ = some va ∧ w.cell? ⟨b2, 0, none⟩ = some vb)) (Keeps.and (SlQ.keeps _ _) (Keeps.and (SlQ.keeps _ _) (Keeps.and (keepsB _ _) (keepsB _ _)))) (fun i k hi hk w h => mouter_at x y K b1 b2 va vb hK sx sy i k hi hk w h) (by omega) (by omega) (by have := Nat.mul_le_mul hn hm; omega) w h
 generalize (tabM x.length y.length fun i k => gv x i * gv y k).l = tl at HB ⊢
 obtain ⟨aa, ca, rfl⟩ := slq_form' hv
 obtain ⟨ab, cb, rfl⟩ := slq_form' hu
 obtain ⟨n, hne⟩ : ∃ n, n = x.length := ⟨_, rfl⟩
 obtain ⟨m, hme⟩ : ∃ m, m = y.length := ⟨_, rfl⟩
 rw [← hne, ← hme] at HB ⊢
 rw [← hne] at hv hn
 rw [← hme] at hu hm
 have hL0 : GL w w [] := GL.start w
 replace hL0 := (((hL0.new rfl [.slice aa n ca] 28).new (K := w.heap.size + 1) (szA _ _) [.slice ab m cb] 28).new (K := w.heap.size + 1 + 1) (by simp only [World.size_alloc]) [.int .i64 0, .int .i64 0, .slice none 0 0] 56)
 generalize hweq : (((w.alloc (.cells #[.slice aa n ca] 28)).alloc (.cells #[.slice ab m cb] 28)).alloc (.cells #[.int .i64 0, .int .i64 0, .slice none 0 0] 56)) = x1 at hL0
 have hv1 := hv.below hL0.bl
 have hu1 := hu.below hL0.bl
 have hc1 := (hL0.get _ _ (List.mem_cons_of_mem _ (List.mem_cons_of_mem _ List.mem_cons_self))).cell 0 (by simp)
 simp only [List.getElem_cons_zero, List.getElem_cons_succ] at hc1
 have hc2 := (hL0.get _ _ (List.mem_cons_of_mem _ List.mem_cons_self)).cell 0 (by simp)
 simp only [List.getElem_cons_zero, List.getElem_cons_succ] at hc2
 have HC := Lib.hid (mMakeV 112 #[.pointer (some ⟨w.heap.size, 0, none⟩), .pointer (some ⟨w.heap.size + 1, 0, none⟩)] n m tl (by omega) (by omega) (fun w => SlQ w (.slice aa n ca) x ∧ SlQ w (.slice ab m cb) y ∧ w.cell? ⟨_, 0, none⟩ = some (.slice aa n ca) ∧ w.cell? ⟨_, 0, none⟩ = some (.slice ab m cb)) (Keeps.and (SlQ.keeps _ _) (Keeps.and (SlQ.keeps _ _) (Keeps.and (keepsB _ _) (keepsB _ _)))) (HB _ _) x1 ⟨hv1, hu1, hc1, hc2⟩)
 clear HB hc1 hc2 hv1 hu1 hv hu sx sy hne hme hn hm
 have hA := hL0.fc
 simp only [fcG, cellsF, neK, and_true, ne_eq, Nat.zero_add, Nat.reduceAdd] at hA
 go_enter Tryz.func35, Tryz.ntmps35
 have hx0 := Lib.hid hL0
 go_wp2_with fail
 with_reducible refine Calls.mono (HC.out) ?_
 rintro e y4 ⟨u, rfl, hnv, hb⟩
 replace hL0 := hL0.call hb
 clear hb hA hweq HC
 replace hx0 := hx0.out
 obtain ⟨gu, rfl, hge, hHd⟩ := hnv
 replace hL0 := GL.tnew (M := []) hL0 hx0 hHd hge (fun p hp => by cases hp)
 simp only [List.nil_append] at hL0
 have hge2 := Lib.hid (Nat.le_trans hx0.bl.size hge)
 clear hx0 hge hHd
 have hA := cells_of _ 0 [] rfl (hL0.get _ _ (List.mem_cons_of_mem _ List.mem_cons_self))
 simp only [cellsF, and_true, Nat.zero_add, Nat.reduceAdd] at hA
 have zf := (hL0.get _ _ (List.mem_cons_of_mem _ List.mem_cons_self)).frz
 have hPt := hL0.put 1 (w.heap.size + 1 + 1) _ rfl [.int .i64 (n : Int), .int .i64 (m : Int), .slice (some ⟨gu, 0, none⟩) tl.length tl.length] rfl
 simp only [setAll, List.set_cons_zero, List.set_cons_succ] at hPt
 generalize hput1 : (((y4.setCell ⟨w.heap.size + 1 + 1, 0, none⟩ (.int .i64 (n : Int))).setCell ⟨w.heap.size + 1 + 1, 1, none⟩ (.int .i64 (m : Int))).setCell ⟨w.heap.size + 1 + 1, 2, none⟩ (.slice (some ⟨gu, 0, none⟩) tl.length tl.length)) = y5 at hPt
 have hB1 := cells_of _ 0 [] rfl (hPt.get _ _ (List.mem_cons_of_mem _ List.mem_cons_self))
 simp only [cellsF, and_true, Nat.zero_add, Nat.reduceAdd] at hB1
 have hNV : NV w.heap.size tl (.slice (some ⟨gu, 0, none⟩) tl.length tl.length) y5 := ⟨gu, rfl, hge2.out, hPt.get _ _ List.mem_cons_self⟩
 replace hNV := Lib.hid hNV
 clear hL0 hge2
 go_wp2_with fail
 exact bodyPost_ret (v := .tuple #[.agg #[.int .i64 (n : Int), .int .i64 (m : Int), .slice (some ⟨gu, 0, none⟩) tl.length tl.length], .int .i64 0]) (by simp [results, Tryz.results35, go_sem, hB1]) rfl ⟨_, rfl, hNV.out, hPt.bl⟩
end Go.Proofs.YtjdjhlmcbffocaaGreatDoor
namespace Go.Proofs.YtjdjhlmcbffocaaGreatDoor
open Go.RowKit
attribute [local irreducible] lo hs sm s64 c64 d64 b64 mh ml pd pc qd qc val hiB str cmpI srD lz nb zl zh zs fe qmade
def smA (x : Mx) (v : List Rat) (i p : Nat) : Rat := bsV p fun t => ent x i t * gv v t
def ttA (k : Nat) (x : Mx) (v y : List Rat) (i : Nat) : Rat := bsV i fun j => gv y j * smA x v j k
def alA (k : Nat) (x : Mx) (i p : Nat) : Rat := (bsV i fun j => bsV k fun t => ent x j t) + bsV p fun t => ent x i t
theorem bs_app (m n : Nat) (f : Nat → Rat) : bsV (m + n) f = bsV m f + bsV n fun i => f (m + i) := by
 induction n with
 | zero => show bsV m f = bsV m f + 0; grind
 | succ n ih => show bsV (m + n) f + f (m + n) = bsV m f + (bsV n (fun i => f (m + i)) + f (m + n)); rw [ih]; grind
theorem bs_flat (r c : Nat) (f : Nat → Rat) : bsV (r * c) f = bsV r fun i => bsV c fun t => f (i * c + t) := by
 induction r with
 | zero => rw [Nat.zero_mul]; rfl
 | succ r ih => rw [Nat.add_mul, Nat.one_mul, bs_app, ih]; rfl
theorem sum_al {x : Mx} {n k K : Nat} (h : GM x n k K) : qsum x.l = alA k x n 0 := by
 have e : x.l = tabV (n * k) (gv x.l) := (tab_gv' h.len).symm
 rw [e, qsum_tab, bs_flat]
 have e2 : (bsV n fun i => bsV k fun t => gv x.l (i * k + t)) = bsV n fun j => bsV k fun t => ent x j t := by
  refine bs_congr fun i _ => bs_congr fun t _ => ?_
  unfold ent; rw [h.c]
 rw [e2]
 show _ = _ + (0 : Rat)
 grind
theorem form_tt {x : Mx} {v y : List Rat} {n k : Nat} : formM n k x y v = ttA k x v y n := by
 unfold formM ttA
 refine bs_congr fun i hi => ?_
 rw [appV, gv_tab hi]; rfl
theorem app_sm {x : Mx} {v : List Rat} {n k i : Nat} (hi : i < n) : gv (appV n k x v) i = smA x v i k := by rw [appV, gv_tab hi]; rfl
theorem al_next (k : Nat) (x : Mx) (i : Nat) : alA k x (i + 1) 0 = alA k x i k := by
 show (bsV i (fun j => bsV k fun t => ent x j t) + bsV k fun t => ent x i t) + (0 : Rat) = _
 unfold alA; grind
theorem al_step (k : Nat) (x : Mx) (i p : Nat) : alA k x i (p + 1) = alA k x i p + ent x i p := by
 show bsV i _ + (bsV p (fun t => ent x i t) + ent x i p) = _
 unfold alA; grind
section
variable {x : Mx} {v y : List Rat} {n k i p : Nat} (hx : GM x n k 1) (hv : GV v k 1) (hy : GV y n 1) (hn : n ≤ 6) (hk : k ≤ 6)
include hx hv hk in
theorem sm_sz (hi : i < n) (hp : p ≤ k) : Sz (smA x v i p) 100 := (bs_sz (k := 2) fun t ht => (hx.at i t hi (by omega)).mul (hv.at t (by omega))).mono (by omega)
include hx hv hy hn hk in
theorem tt_sz (hi : i ≤ n) : Sz (ttA k x v y i) 1000 := (bs_sz (k := 101) fun t ht => ((hy.at t (by omega)).mul (sm_sz hx hv hk (show t < n by omega) (Nat.le_refl k))).mono (by omega)).mono (by omega)
include hx hn hk in
theorem al_sz (hi : i < n) (hp : p ≤ k) : Sz (alA k x i p) 1000 :=
 ((bs_sz (k := 20) fun j hj => (bs_sz (k := 1) fun t ht => hx.at j t (by omega) ht).mono (by omega)).add (bs_sz (k := 1) fun t ht => hx.at i t hi (by omega))).mono (by omega)
end
end Go.Proofs.YtjdjhlmcbffocaaGreatDoor
namespace Go.Proofs.YtjdjhlmcbffocaaGreatDoor
open Go.RowKit
attribute [local irreducible] lo hs sm s64 c64 d64 b64 mh ml pd pc qd qc val hiB str cmpI srD lz nb zl zh zs fe rowV tabV gv bsV turM mulM sumM oneM appV formM tabM dotL sumL mulL
set_option maxHeartbeats 16000000 in
set_option maxRecDepth 100000 in
theorem mapply_l1 (zr zc : Int) (la av aw : Option Addr) (lx ly nv cv nw cw : Nat)  (HFw : ∀ (p0 : Value) (w : World), FWs w p0 ([lx]) → Calls Tryz.prog 25 #[p0] w fun e w' => e = .returned (.bool false) ∧ Below w.heap.size w w') (KT : World → Prop) (hKT : Keeps KT) (HW : ∀ w, KT w → Calls Tryz.prog 26 #[] w fun xe w' => xe = .returned (.bool true) ∧ Below w.heap.size w w') (w : World) (kKT : KT w) :
  Calls Tryz.prog 4 #[.agg #[.int .u8 zr, .int .u8 zc, .slice la lx ly], .slice av nv cv, .slice aw nw cw] w fun e w' => e = .returned (.bool true) ∧ Below w.heap.size w w' := by
 replace HFw := Lib.hid HFw
 replace hKT := Lib.hid hKT
 replace HW := Lib.hid HW
 have hL0 : GL w w [] := GL.start w
 have hT : PTs w [] := PTs.nil w
 replace hT := (hT.new (.cells #[.int .u8 zr, .int .u8 zc, .slice la lx ly] 51))
 replace hL0 := (hL0.new rfl [.int .u8 zr, .int .u8 zc, .slice la lx ly] 51)
 generalize hweq : (w.alloc (.cells #[.int .u8 zr, .int .u8 zc, .slice la lx ly] 51)) = x1 at hL0 hT
 go_enter Tryz.func4, Tryz.ntmps4
 go_upto_region 1 with fail
 have hZ0 := cells_of _ 0 [] rfl (hL0.get _ _ List.mem_cons_self)
 simp only [cellsF, and_true, Nat.zero_add, Nat.reduceAdd] at hZ0
 replace hT := (hT.new (.cells #[.int .u8 zr, .int .u8 zc, .slice la lx ly] 51))
 clear hweq
 replace hL0 := (hL0.new rfl [.int .u8 zr, .int .u8 zc, .slice la lx ly] 51)
 generalize hweq : (x1.alloc (.cells #[.int .u8 zr, .int .u8 zc, .slice la lx ly] 51)) = x2 at hL0 hT
 have hN0 := cells_of _ 0 [] rfl (hL0.get _ _ (List.mem_cons_of_mem _ List.mem_cons_self))
 simp only [cellsF, and_true, Nat.zero_add, Nat.reduceAdd] at hN0
 have hbv1 : FWs x2 (.slice (some ⟨x1.heap.size, 0, none⟩) 1 1) [lx] := fws_one (hL0.get _ _ List.mem_cons_self)
 replace hbv1 := Lib.hid hbv1
 go_wp2_with fail
 clear hN0
 with_reducible refine Calls.mono (HFw.out (.slice (some ⟨x1.heap.size, 0, none⟩) 1 1) _ hbv1.out) ?_
 rintro e x3 ⟨rfl, hb⟩
 replace hL0 := hL0.call hb
 replace hT := hT.call hb
 clear hb hweq
 clear hZ0
 go_wp2_with fail
 with_reducible refine Calls.mono (HW.out _ (hKT.out.at hL0.bl kKT)) ?_
 rintro e x4 ⟨rfl, hb⟩
 replace hL0 := hL0.call hb
 replace hT := hT.call hb
 clear hb
 go_wp2_with fail
 exact bodyPost_ret (v := .bool true) (by simp [results, Tryz.results4, go_sem]) rfl ⟨rfl, hL0.bl⟩
set_option maxHeartbeats 16000000 in
set_option maxRecDepth 100000 in
theorem mapply_l2 (zr zc : Int) (la av aw : Option Addr) (lx ly nv cv nw cw : Nat)  (HFw : ∀ (p0 : Value) (w : World), FWs w p0 ([lx]) → Calls Tryz.prog 25 #[p0] w fun e w' => e = .returned (.bool true) ∧ Below w.heap.size w w') (KT : World → Prop) (hKT : Keeps KT) (HW : ∀ w, KT w → Calls Tryz.prog 26 #[] w fun xe w' => xe = .returned (.bool true) ∧ Below w.heap.size w w') (l_nv : decide ((20 : Int) < ((nv : Nat) : Int)) = true) (k_nv : decide (20 < nv) = true) (w : World) (kKT : KT w) :
  Calls Tryz.prog 4 #[.agg #[.int .u8 zr, .int .u8 zc, .slice la lx ly], .slice av nv cv, .slice aw nw cw] w fun e w' => e = .returned (.bool true) ∧ Below w.heap.size w w' := by
 replace HFw := Lib.hid HFw
 replace hKT := Lib.hid hKT
 replace HW := Lib.hid HW
 have hL0 : GL w w [] := GL.start w
 have hT : PTs w [] := PTs.nil w
 replace hT := (hT.new (.cells #[.int .u8 zr, .int .u8 zc, .slice la lx ly] 51))
 replace hL0 := (hL0.new rfl [.int .u8 zr, .int .u8 zc, .slice la lx ly] 51)
 generalize hweq : (w.alloc (.cells #[.int .u8 zr, .int .u8 zc, .slice la lx ly] 51)) = x1 at hL0 hT
 go_enter Tryz.func4, Tryz.ntmps4
 go_upto_region 1 with fail
 have hZ0 := cells_of _ 0 [] rfl (hL0.get _ _ List.mem_cons_self)
 simp only [cellsF, and_true, Nat.zero_add, Nat.reduceAdd] at hZ0
 replace hT := (hT.new (.cells #[.int .u8 zr, .int .u8 zc, .slice la lx ly] 51))
 clear hweq
 replace hL0 := (hL0.new rfl [.int .u8 zr, .int .u8 zc, .slice la lx ly] 51)
 generalize hweq : (x1.alloc (.cells #[.int .u8 zr, .int .u8 zc, .slice la lx ly] 51)) = x2 at hL0 hT
 have hN0 := cells_of _ 0 [] rfl (hL0.get _ _ (List.mem_cons_of_mem _ List.mem_cons_self))
 simp only [cellsF, and_true, Nat.zero_add, Nat.reduceAdd] at hN0
 have hbv1 : FWs x2 (.slice (some ⟨x1.heap.size, 0, none⟩) 1 1) [lx] := fws_one (hL0.get _ _ List.mem_cons_self)
 replace hbv1 := Lib.hid hbv1
 go_wp2_with fail
 clear hN0
 with_reducible refine Calls.mono (HFw.out (.slice (some ⟨x1.heap.size, 0, none⟩) 1 1) _ hbv1.out) ?_
 rintro e x3 ⟨rfl, hb⟩
 replace hL0 := hL0.call hb
 replace hT := hT.call hb
 clear hb hweq
 clear hZ0
 go_wp2_with fail
 with_reducible refine Calls.mono (HW.out _ (hKT.out.at hL0.bl kKT)) ?_
 rintro e x4 ⟨rfl, hb⟩
 replace hL0 := hL0.call hb
 replace hT := hT.call hb
 clear hb
 go_wp2_with fail
 exact bodyPost_ret (v := .bool true) (by simp [results, Tryz.results4, go_sem]) rfl ⟨rfl, hL0.bl⟩
set_option maxHeartbeats 16000000 in
set_option maxRecDepth 100000 in
theorem mapply_l3 (zr zc : Int) (la av aw : Option Addr) (lx ly nv cv nw cw : Nat)  (HFw : ∀ (p0 : Value) (w : World), FWs w p0 ([lx]) → Calls Tryz.prog 25 #[p0] w fun e w' => e = .returned (.bool true) ∧ Below w.heap.size w w') (KT : World → Prop) (hKT : Keeps KT) (HW : ∀ w, KT w → Calls Tryz.prog 26 #[] w fun xe w' => xe = .returned (.bool true) ∧ Below w.heap.size w w') (l_nv : decide ((20 : Int) < ((nv : Nat) : Int)) = false) (k_nv : decide (20 < nv) = false) (l_nw : decide ((20 : Int) < ((nw : Nat) : Int)) = true) (k_nw : decide (20 < nw) = true) (w : World) (kKT : KT w) :
  Calls Tryz.prog 4 #[.agg #[.int .u8 zr, .int .u8 zc, .slice la lx ly], .slice av nv cv, .slice aw nw cw] w fun e w' => e = .returned (.bool true) ∧ Below w.heap.size w w' := by
 replace HFw := Lib.hid HFw
 replace hKT := Lib.hid hKT
 replace HW := Lib.hid HW
 have hL0 : GL w w [] := GL.start w
 have hT : PTs w [] := PTs.nil w
 replace hT := (hT.new (.cells #[.int .u8 zr, .int .u8 zc, .slice la lx ly] 51))
 replace hL0 := (hL0.new rfl [.int .u8 zr, .int .u8 zc, .slice la lx ly] 51)
 generalize hweq : (w.alloc (.cells #[.int .u8 zr, .int .u8 zc, .slice la lx ly] 51)) = x1 at hL0 hT
 go_enter Tryz.func4, Tryz.ntmps4
 go_upto_region 1 with fail
 have hZ0 := cells_of _ 0 [] rfl (hL0.get _ _ List.mem_cons_self)
 simp only [cellsF, and_true, Nat.zero_add, Nat.reduceAdd] at hZ0
 replace hT := (hT.new (.cells #[.int .u8 zr, .int .u8 zc, .slice la lx ly] 51))
 clear hweq
 replace hL0 := (hL0.new rfl [.int .u8 zr, .int .u8 zc, .slice la lx ly] 51)
 generalize hweq : (x1.alloc (.cells #[.int .u8 zr, .int .u8 zc, .slice la lx ly] 51)) = x2 at hL0 hT
 have hN0 := cells_of _ 0 [] rfl (hL0.get _ _ (List.mem_cons_of_mem _ List.mem_cons_self))
 simp only [cellsF, and_true, Nat.zero_add, Nat.reduceAdd] at hN0
 have hbv1 : FWs x2 (.slice (some ⟨x1.heap.size, 0, none⟩) 1 1) [lx] := fws_one (hL0.get _ _ List.mem_cons_self)
 replace hbv1 := Lib.hid hbv1
 go_wp2_with fail
 clear hN0
 with_reducible refine Calls.mono (HFw.out (.slice (some ⟨x1.heap.size, 0, none⟩) 1 1) _ hbv1.out) ?_
 rintro e x3 ⟨rfl, hb⟩
 replace hL0 := hL0.call hb
 replace hT := hT.call hb
 clear hb hweq
 clear hZ0
 go_wp2_with fail
 with_reducible refine Calls.mono (HW.out _ (hKT.out.at hL0.bl kKT)) ?_
 rintro e x4 ⟨rfl, hb⟩
 replace hL0 := hL0.call hb
 replace hT := hT.call hb
 clear hb
 go_wp2_with fail
 exact bodyPost_ret (v := .bool true) (by simp [results, Tryz.results4, go_sem]) rfl ⟨rfl, hL0.bl⟩
set_option maxHeartbeats 16000000 in
set_option maxRecDepth 100000 in
theorem mapply_w (zr zc : Int) (la av aw : Option Addr) (lx ly nv cv nw cw : Nat) (na nb ouN : Nat) (x ou : Mx) (vx vy vg : List Rat) (Rw Cw : Nat → List Rat) (A Sm Pm : Nat → Nat → Rat) (T Qm : Nat → Rat) (HFw : ∀ (p0 : Value) (w : World), FWs w p0 ([lx]) → Calls Tryz.prog 25 #[p0] w fun e w' => e = .returned (.bool true) ∧ Below w.heap.size w w') (HSd : ∀ w, Calls Tryz.prog 27 #[.agg #[.int .u8 zr, .int .u8 zc, .slice la lx ly]] w fun xe w' => xe = .returned (.tuple #[.int .i64 (na : Int), .int .i64 (nb : Int)]) ∧ Below w.heap.size w w') (KA : World → Prop) (hKA : Keeps KA) (HMo : ∀ (w : World), KA w → Calls Tryz.prog 28 #[.agg #[.int .u8 zr, .int .u8 zc, .slice la lx ly]] w fun e w' => ∃ pv, e = .returned pv ∧ MT w' pv x ∧ Below w.heap.size w w') (KV : World → Prop) (hKV : Keeps KV) (HV1 : ∀ (w : World), KV w → Calls Tryz.prog 29 #[.slice av nv cv, .int .i64 (nb : Int)] w fun e w' => ∃ pv, e = .returned pv ∧ PT w' pv vx ∧ Below w.heap.size w w') (KW : World → Prop) (hKW : Keeps KW) (HV2 : ∀ (w : World), KW w → Calls Tryz.prog 29 #[.slice aw nw cw, .int .i64 (na : Int)] w fun e w' => ∃ pv, e = .returned pv ∧ PT w' pv vy ∧ Below w.heap.size w w') (HAp : ∀ (p0 p1 : Value) (w : World), MT w p0 x → PT w p1 vx → Calls Tryz.prog 30 #[p0, p1] w fun e w' => ∃ pv, e = .returned (.tuple #[pv, .int .i64 0]) ∧ PT w' pv vg ∧ Below w.heap.size w w') (HFo : ∀ (p0 p1 p2 : Value) (w : World), MT w p0 x → PT w p1 vy → PT w p2 vx → Calls Tryz.prog 31 #[p0, p1, p2] w fun e w' => e = .returned (.tuple #[.agg #[.int .u64 ((zl (T na).num : Nat) : Int), .string (zh (T na).num), .bool (zs (T na).num), .int .u64 ((lo (fe (T na)) : Nat) : Int), .string (hs (fe (T na)))], .int .i64 0]) ∧ Below w.heap.size w w') (HOu : ∀ (p0 p1 : Value) (w : World), PT w p0 vy → PT w p1 vx → Calls Tryz.prog 35 #[p0, p1] w fun e w' => ∃ pv, e = .returned (.tuple #[pv, .int .i64 0]) ∧ MT w' pv ou ∧ Below w.heap.size w w') (HSu : ∀ (p0 : Value) (w : World), MT w p0 x → Calls Tryz.prog 36 #[p0] w fun e w' => e = .returned (.agg #[.int .u64 ((zl (A na 0).num : Nat) : Int), .string (zh (A na 0).num), .bool (zs (A na 0).num), .int .u64 ((lo (fe (A na 0)) : Nat) : Int), .string (hs (fe (A na 0)))]) ∧ Below w.heap.size w w') (KT : World → Prop) (hKT : Keeps KT) (HW : ∀ w, KT w → Calls Tryz.prog 26 #[] w fun xe w' => xe = .returned (.bool true) ∧ Below w.heap.size w w') (l_nv : decide ((20 : Int) < ((nv : Nat) : Int)) = false) (k_nv : decide (20 < nv) = false) (l_nw : decide ((20 : Int) < ((nw : Nat) : Int)) = false) (k_nw : decide (20 < nw) = false) (HRo : ∀ i, i < na → ∀ (p : Value) (w : World), MT w p x → Calls Tryz.prog 32 #[p, .int .i64 (i : Int)] w fun e w' => ∃ g, e = .returned (.tuple #[.slice (some ⟨g, 0, none⟩) nb nb, .int .i64 0]) ∧ w.heap.size ≤ g ∧ Hd w' g (frCs (Rw i)) ∧ Below w.heap.size w w') (HCo : ∀ k, k < nb → ∀ (p : Value) (w : World), MT w p x → Calls Tryz.prog 34 #[p, .int .i64 (k : Int)] w fun e w' => ∃ g, e = .returned (.tuple #[.slice (some ⟨g, 0, none⟩) na na, .int .i64 0]) ∧ w.heap.size ≤ g ∧ Hd w' g (frCs (Cw k)) ∧ Below w.heap.size w w') (HAt : ∀ i k, i < na → k < nb → ∀ (p : Value) (w : World), MT w p x → Calls Tryz.prog 33 #[p, .int .i64 (i : Int), .int .i64 (k : Int)] w fun e w' => e = .returned (.tuple #[fracV (ent x i k), .bool true]) ∧ Below w.heap.size w w') (HM1 : ∀ i k, i < na → k < nb → ∀ w, Calls Tryz.prog 20 #[fracV (ent x i k), fracV (gv vx k)] w fun e w' => e = .returned (fracV (Pm i k)) ∧ Below w.heap.size w w') (HD1 : ∀ i k, i < na → k < nb → ∀ w, Calls Tryz.prog 19 #[fracV (Sm i k), fracV (Pm i k)] w fun e w' => e = .returned (fracV (Sm i (k + 1))) ∧ Below w.heap.size w w') (HD2 : ∀ i k, i < na → k < nb → ∀ w, Calls Tryz.prog 19 #[fracV (A i k), fracV (ent x i k)] w fun e w' => e = .returned (fracV (A i (k + 1))) ∧ Below w.heap.size w w') (HM2 : ∀ i, i < na → ∀ w, Calls Tryz.prog 20 #[fracV (gv vy i), fracV (Sm i nb)] w fun e w' => e = .returned (fracV (Qm i)) ∧ Below w.heap.size w w') (HD3 : ∀ i, i < na → ∀ w, Calls Tryz.prog 19 #[fracV (T i), fracV (Qm i)] w fun e w' => e = .returned (fracV (T (i + 1))) ∧ Below w.heap.size w w') (hT0 : T 0 = 0) (hA0 : A 0 0 = 0) (hS0 : ∀ i, Sm i 0 = 0) (hAe : ∀ i, A (i + 1) 0 = A i nb) (hRl : ∀ i, (Rw i).length = nb) (hCl : ∀ k, (Cw k).length = na) (hRv : ∀ i k, i < na → k < nb → gv (Rw i) k = ent x i k) (hCv : ∀ i k, i < na → k < nb → gv (Cw k) i = ent x i k) (hgv : ∀ i, i < na → gv vg i = Sm i nb) (hpx : ∀ p, p < ouN → p / nb < na ∧ p % nb < nb ∧ Int.tdiv (p : Int) (nb : Int) = ((p / nb : Nat) : Int) ∧ Int.tmod (p : Int) (nb : Int) = ((p % nb : Nat) : Int)) (HM3 : ∀ p, p < ouN → ∀ w, Calls Tryz.prog 20 #[fracV (gv vy (p / nb)), fracV (gv vx (p % nb))] w fun e w' => e = .returned (fracV (gv ou.l p)) ∧ Below w.heap.size w w') (hix : ∀ i k, i < na → k < nb → i * nb + k < x.l.length) (hixb : ∀ i, i < na → i * nb ≤ 5000) (hev9 : ∀ i k, gv x.l (i * nb + k) = ent x i k) (ho1 : (ou.r : Int) = (na : Int)) (ho2 : (ou.c : Int) = (nb : Int)) (hoN : ou.l.length = ouN) (hmu : (na : Int) * (nb : Int) = (ouN : Int)) (oN9 : (ouN : Int) ≤ 100) (hx1 : (x.r : Int) = (na : Int)) (hx2 : (x.c : Int) = (nb : Int)) (lvx : vx.length = nb) (lvy : vy.length = na) (lvg : vg.length = na) (na6 : na ≤ 6) (nb6 : nb ≤ 6) (w : World) (kKA : KA w) (kKV : KV w) (kKW : KW w) (kKT : KT w) :
  Calls Tryz.prog 4 #[.agg #[.int .u8 zr, .int .u8 zc, .slice la lx ly], .slice av nv cv, .slice aw nw cw] w fun e w' => e = .returned (.bool true) ∧ Below w.heap.size w w' := by
 replace HFw := Lib.hid HFw
 replace HSd := Lib.hid HSd
 replace hKA := Lib.hid hKA
 replace HMo := Lib.hid HMo
 replace hKV := Lib.hid hKV
 replace HV1 := Lib.hid HV1
 replace hKW := Lib.hid hKW
 replace HV2 := Lib.hid HV2
 replace HAp := Lib.hid HAp
 replace HFo := Lib.hid HFo
 replace HOu := Lib.hid HOu
 replace HSu := Lib.hid HSu
 replace hKT := Lib.hid hKT
 replace HW := Lib.hid HW
 have hL0 : GL w w [] := GL.start w
 have hT : PTs w [] := PTs.nil w
 replace hpx := Lib.hid hpx
 replace HM3 := Lib.hid HM3
 replace HRo := Lib.hid HRo
 replace HCo := Lib.hid HCo
 replace HAt := Lib.hid HAt
 replace HM1 := Lib.hid HM1
 replace HD1 := Lib.hid HD1
 replace HD2 := Lib.hid HD2
 replace HM2 := Lib.hid HM2
 replace HD3 := Lib.hid HD3
 replace hT0 := Lib.hid hT0
 replace hA0 := Lib.hid hA0
 replace hS0 := Lib.hid hS0
 replace hAe := Lib.hid hAe
 replace hRl := Lib.hid hRl
 replace hCl := Lib.hid hCl
 replace hRv := Lib.hid hRv
 replace hCv := Lib.hid hCv
 replace hgv := Lib.hid hgv
 replace hix := Lib.hid hix
 replace hixb := Lib.hid hixb
 replace hev9 := Lib.hid hev9
 replace ho1 := Lib.hid ho1
 replace ho2 := Lib.hid ho2
 replace hoN := Lib.hid hoN
 replace hx1 := Lib.hid hx1
 replace hx2 := Lib.hid hx2
 replace lvx := Lib.hid lvx
 replace lvy := Lib.hid lvy
 replace lvg := Lib.hid lvg
 have hneT : ∀ W, (binOp .neq 36 (fracV (T na)) (fracV (T na))).run Tryz.prog W = .ok (.bool false) W := fun W => by have := run_neqF (T na) (T na) true (by simp) W; exact this
 have hneA : ∀ W, (binOp .neq 36 (fracV (A na 0)) (fracV (A na 0))).run Tryz.prog W = .ok (.bool false) W := fun W => by have := run_neqF (A na 0) (A na 0) true (by simp) W; exact this
 replace hT := (hT.new (.cells #[.int .u8 zr, .int .u8 zc, .slice la lx ly] 51))
 replace hL0 := (hL0.new rfl [.int .u8 zr, .int .u8 zc, .slice la lx ly] 51)
 generalize hweq : (w.alloc (.cells #[.int .u8 zr, .int .u8 zc, .slice la lx ly] 51)) = x1 at hL0 hT
 go_enter Tryz.func4, Tryz.ntmps4
 go_upto_region 1 with fail
 have hZ0 := cells_of _ 0 [] rfl (hL0.get _ _ List.mem_cons_self)
 simp only [cellsF, and_true, Nat.zero_add, Nat.reduceAdd] at hZ0
 replace hT := (hT.new (.cells #[.int .u8 zr, .int .u8 zc, .slice la lx ly] 51))
 clear hweq
 replace hL0 := (hL0.new rfl [.int .u8 zr, .int .u8 zc, .slice la lx ly] 51)
 generalize hweq : (x1.alloc (.cells #[.int .u8 zr, .int .u8 zc, .slice la lx ly] 51)) = x2 at hL0 hT
 have hN0 := cells_of _ 0 [] rfl (hL0.get _ _ (List.mem_cons_of_mem _ List.mem_cons_self))
 simp only [cellsF, and_true, Nat.zero_add, Nat.reduceAdd] at hN0
 have hbv1 : FWs x2 (.slice (some ⟨x1.heap.size, 0, none⟩) 1 1) [lx] := fws_one (hL0.get _ _ List.mem_cons_self)
 replace hbv1 := Lib.hid hbv1
 go_wp2_with fail
 clear hN0
 with_reducible refine Calls.mono (HFw.out (.slice (some ⟨x1.heap.size, 0, none⟩) 1 1) _ hbv1.out) ?_
 rintro e x3 ⟨rfl, hb⟩
 replace hL0 := hL0.call hb
 replace hT := hT.call hb
 clear hb hweq
 clear hZ0
 have hN0 := cells_of _ 0 [] rfl (hL0.get _ _ (List.mem_cons_of_mem _ List.mem_cons_self))
 simp only [cellsF, and_true, Nat.zero_add, Nat.reduceAdd] at hN0
 go_wp2_with fail
 clear hN0
 with_reducible refine Calls.mono (HSd.out _) ?_
 rintro e x4 ⟨rfl, hb⟩
 replace hL0 := hL0.call hb
 replace hT := hT.call hb
 clear hb
 have hN0 := cells_of _ 0 [] rfl (hL0.get _ _ (List.mem_cons_of_mem _ List.mem_cons_self))
 simp only [cellsF, and_true, Nat.zero_add, Nat.reduceAdd] at hN0
 go_wp2_with fail
 clear hN0
 with_reducible refine Calls.mono (HMo.out _ (hKA.out.at (hL0.bl) kKA)) ?_
 rintro e x5 ⟨v0, rfl, q0, hb⟩
 replace hL0 := hL0.call hb
 replace hT := hT.call hb
 clear hb
 obtain ⟨g1, d1, g1c, rfl, hm1, hcp1⟩ := mt_form q0 hx1.out hx2.out
 replace hcp1 := Lib.hid hcp1
 replace hT := hT.cons hm1
 clear hm1
 clear q0
 replace hT := (hT.new (.cells #[.int .i64 (na : Int), .int .i64 (nb : Int), .slice g1 d1 g1c] 56))
 replace hL0 := (hL0.new rfl [.int .i64 (na : Int), .int .i64 (nb : Int), .slice g1 d1 g1c] 56)
 generalize hweq : (x5.alloc (.cells #[.int .i64 (na : Int), .int .i64 (nb : Int), .slice g1 d1 g1c] 56)) = x6 at hL0 hT
 go_wp2_with fail
 with_reducible refine Calls.mono (HV1.out _ (hKV.out.at (hL0.bl) kKV)) ?_
 rintro e x7 ⟨v0, rfl, q0, hb⟩
 replace hL0 := hL0.call hb
 replace hT := hT.call hb
 clear hb hweq
 obtain ⟨g2, g2c, rfl⟩ := ptn_form q0 lvx.out
 replace hT := hT.cons q0
 clear q0
 go_wp2_with fail
 with_reducible refine Calls.mono (HV2.out _ (hKW.out.at (hL0.bl) kKW)) ?_
 rintro e x8 ⟨v0, rfl, q0, hb⟩
 replace hL0 := hL0.call hb
 replace hT := hT.call hb
 clear hb
 obtain ⟨g3, g3c, rfl⟩ := ptn_form q0 lvy.out
 replace hT := hT.cons q0
 clear q0
 have hN0 := cells_of _ 0 [] rfl (hL0.get _ _ List.mem_cons_self)
 simp only [cellsF, and_true, Nat.zero_add, Nat.reduceAdd] at hN0
 go_wp2_with fail
 clear hN0
 with_reducible refine Calls.mono (HAp.out (.agg #[.int .i64 (na : Int), .int .i64 (nb : Int), .slice g1 d1 g1c]) (.slice g2 nb g2c) _ (mt_of (hT.get (List.mem_cons_of_mem _ (List.mem_cons_of_mem _ List.mem_cons_self))) hcp1.out hx1.out hx2.out) (hT.get (List.mem_cons_of_mem _ List.mem_cons_self))) ?_
 rintro e x9 ⟨v0, rfl, q0, hb⟩
 replace hL0 := hL0.call hb
 replace hT := hT.call hb
 clear hb
 obtain ⟨g4, g4c, rfl⟩ := ptn_form q0 lvg.out
 replace hT := hT.cons q0
 clear q0
 have hN0 := cells_of _ 0 [] rfl (hL0.get _ _ List.mem_cons_self)
 simp only [cellsF, and_true, Nat.zero_add, Nat.reduceAdd] at hN0
 go_wp2_with fail
 clear hN0
 with_reducible refine Calls.mono (HFo.out (.agg #[.int .i64 (na : Int), .int .i64 (nb : Int), .slice g1 d1 g1c]) (.slice g3 na g3c) (.slice g2 nb g2c) _ (mt_of (hT.get (List.mem_cons_of_mem _ (List.mem_cons_of_mem _ (List.mem_cons_of_mem _ List.mem_cons_self)))) hcp1.out hx1.out hx2.out) (hT.get (List.mem_cons_of_mem _ List.mem_cons_self)) (hT.get (List.mem_cons_of_mem _ (List.mem_cons_of_mem _ List.mem_cons_self)))) ?_
 rintro e x10 ⟨rfl, hb⟩
 replace hL0 := hL0.call hb
 replace hT := hT.call hb
 clear hb
 have hSo := Lib.hid hT
 replace hT := (hT.new (.cells #[.int .u64 ((zl (T na).num : Nat) : Int), .string (zh (T na).num), .bool (zs (T na).num), .int .u64 ((lo (fe (T na)) : Nat) : Int), .string (hs (fe (T na)))] 36))
 replace hL0 := (hL0.new rfl [.int .u64 ((zl (T na).num : Nat) : Int), .string (zh (T na).num), .bool (zs (T na).num), .int .u64 ((lo (fe (T na)) : Nat) : Int), .string (hs (fe (T na)))] 36)
 generalize hweq : (x10.alloc (.cells #[.int .u64 ((zl (T na).num : Nat) : Int), .string (zh (T na).num), .bool (zs (T na).num), .int .u64 ((lo (fe (T na)) : Nat) : Int), .string (hs (fe (T na)))] 36)) = x11 at hL0 hT
 have hkb := Lib.hid (show x10.heap.size ≤ x10.heap.size by omega)
 go_upto_region 10 with fail
 clear hweq
 have hSo9 := Lib.hid hT
 have hSo := Lib.hid hT
 replace hT := ((hT.new (.cells #[.int .u64 0, .string ⟨#[]⟩, .bool false, .int .u64 0, .string ⟨#[]⟩] 36)).new (.cells #[.int .u64 0, .string ⟨#[]⟩, .bool false, .int .u64 0, .string ⟨#[]⟩] 36))
 replace hL0 := ((hL0.new rfl [.int .u64 0, .string ⟨#[]⟩, .bool false, .int .u64 0, .string ⟨#[]⟩] 36).new (K := x11.heap.size + 1) (szA _ _) [.int .u64 0, .string ⟨#[]⟩, .bool false, .int .u64 0, .string ⟨#[]⟩] 36)
 generalize hweq : ((x11.alloc (.cells #[.int .u64 0, .string ⟨#[]⟩, .bool false, .int .u64 0, .string ⟨#[]⟩] 36)).alloc (.cells #[.int .u64 0, .string ⟨#[]⟩, .bool false, .int .u64 0, .string ⟨#[]⟩] 36)) = x12 at hL0 hT
 have hkb := Lib.hid (show x11.heap.size ≤ x11.heap.size by omega)
 have hT1 := hT.putN hSo.out hkb.out ((((((Upd.refl x11.heap.size x12).setCell 0 (.int .u64 0)).setCell 1 (.string ⟨#[]⟩)).setCell 2 (.bool false)).setCell 3 (.int .u64 0)).setCell 4 (.string ⟨#[]⟩))
 have hA := hL0.fc
 simp only [fcG, cellsF, neK, and_true, ne_eq, Nat.zero_add, Nat.reduceAdd] at hA
 have hP := hL0.put 1 (x11.heap.size) _ rfl [.int .u64 0, .string ⟨#[]⟩, .bool false, .int .u64 0, .string ⟨#[]⟩] rfl
 simp only [setAll, List.set_cons_zero, List.set_cons_succ] at hP
 generalize hput1 : (((((x12.setCell ⟨x11.heap.size, 0, none⟩ (.int .u64 0)).setCell ⟨x11.heap.size, 1, none⟩ (.string ⟨#[]⟩)).setCell ⟨x11.heap.size, 2, none⟩ (.bool false)).setCell ⟨x11.heap.size, 3, none⟩ (.int .u64 0)).setCell ⟨x11.heap.size, 4, none⟩ (.string ⟨#[]⟩)) = x13 at hP hT1
 have hB1 := hP.fc
 simp only [fcG, cellsF, neK, and_true, ne_eq, Nat.zero_add, Nat.reduceAdd] at hB1
 replace hL0 := hP
 replace hT := hT1
 clear hT1 hSo hkb
 have hSo := hSo9
 have hkb := Lib.hid (show x11.heap.size ≤ x11.heap.size + 1 by omega)
 have hT1 := hT.putN hSo.out hkb.out ((((((Upd.refl (x11.heap.size + 1) x13).setCell 0 (.int .u64 0)).setCell 1 (.string ⟨#[]⟩)).setCell 2 (.bool false)).setCell 3 (.int .u64 0)).setCell 4 (.string ⟨#[]⟩))
 have hP := hL0.put 0 (x11.heap.size + 1) _ rfl [.int .u64 0, .string ⟨#[]⟩, .bool false, .int .u64 0, .string ⟨#[]⟩] rfl
 simp only [setAll, List.set_cons_zero, List.set_cons_succ] at hP
 generalize hput2 : (((((x13.setCell ⟨x11.heap.size + 1, 0, none⟩ (.int .u64 0)).setCell ⟨x11.heap.size + 1, 1, none⟩ (.string ⟨#[]⟩)).setCell ⟨x11.heap.size + 1, 2, none⟩ (.bool false)).setCell ⟨x11.heap.size + 1, 3, none⟩ (.int .u64 0)).setCell ⟨x11.heap.size + 1, 4, none⟩ (.string ⟨#[]⟩)) = x14 at hP hT1
 have hB2 := hP.fc
 simp only [fcG, cellsF, neK, and_true, ne_eq, Nat.zero_add, Nat.reduceAdd] at hB2
 replace hL0 := hP
 replace hT := hT1
 clear hT1 hSo hkb
 have hkT := Lib.hid (show x11.heap.size ≤ x11.heap.size by omega)
 have hkA := Lib.hid (show x11.heap.size ≤ x11.heap.size + 1 by omega)
 go_wp2_with fail
 clear hA
 clear hweq
 clear hput1 hB1 hput2 hB2
 have hst : GL w x14 [(x11.heap.size + 1, frC (A 0 0)), (x11.heap.size, frC (T 0)), (x10.heap.size, [.int .u64 ((zl (T na).num : Nat) : Int), .string (zh (T na).num), .bool (zs (T na).num), .int .u64 ((lo (fe (T na)) : Nat) : Int), .string (hs (fe (T na)))]), (x5.heap.size, [.int .i64 (na : Int), .int .i64 (nb : Int), .slice g1 d1 g1c]), (x1.heap.size, [.int .u8 zr, .int .u8 zc, .slice la lx ly]), (w.heap.size, [.int .u8 zr, .int .u8 zc, .slice la lx ly])] := by rw [hT0.out, hA0.out, frC_zero]; exact hL0
 clear hL0
 go_loopg [18] na (fun gk iv wr => ∃ (i : Nat) (zi : Int), i + gk = na ∧ iv = .int .i64 zi ∧ zi = (i : Int) ∧ GL w wr [(x11.heap.size + 1, [.int .u64 ((zl (A i 0).num : Nat) : Int), .string (zh (A i 0).num), .bool (zs (A i 0).num), .int .u64 ((lo (fe (A i 0)) : Nat) : Int), .string (hs (fe (A i 0)))]), (x11.heap.size, [.int .u64 ((zl (T i).num : Nat) : Int), .string (zh (T i).num), .bool (zs (T i).num), .int .u64 ((lo (fe (T i)) : Nat) : Int), .string (hs (fe (T i)))]), (x10.heap.size, [.int .u64 ((zl (T na).num : Nat) : Int), .string (zh (T na).num), .bool (zs (T na).num), .int .u64 ((lo (fe (T na)) : Nat) : Int), .string (hs (fe (T na)))]), (x5.heap.size, [.int .i64 (na : Int), .int .i64 (nb : Int), .slice g1 d1 g1c]), (x1.heap.size, [.int .u8 zr, .int .u8 zc, .slice la lx ly]), (w.heap.size, [.int .u8 zr, .int .u8 zc, .slice la lx ly])] ∧ PTs wr [(.slice g4 na g4c, vg), (.slice g3 na g3c, vy), (.slice g2 nb g2c, vx), (.slice g1 d1 g1c, x.l)])
 case atStart => exact ⟨0, 0, Nat.zero_add na, by first | rfl | go_num, rfl, hst, hT⟩
 case round =>
  clear hst hT
  obtain ⟨i, zi, hik, rfl, hzi, hL0, hT⟩ := hrel
  rcases Nat.lt_or_ge i na with hin | hin
  ·subst hzi
   have k1 : (i : Int) < (na : Int) := by omega
   have k0 : (0 : Int) ≤ (i : Int) := Int.natCast_nonneg _
   have kb : (i : Int) ≤ 100 := by omega
   have hA0 := cells_of _ 0 [] rfl (hL0.get _ _ (List.mem_cons_of_mem _ (List.mem_cons_of_mem _ (List.mem_cons_of_mem _ List.mem_cons_self))))
   simp only [cellsF, and_true, Nat.zero_add, Nat.reduceAdd] at hA0
   have hx0 := hL0
   go_wp2_with fail
   with_reducible refine Calls.mono (HRo.out i hin (.agg #[.int .i64 (na : Int), .int .i64 (nb : Int), .slice g1 d1 g1c]) _ (mt_of (hT.get (List.mem_cons_of_mem _ (List.mem_cons_of_mem _ (List.mem_cons_of_mem _ List.mem_cons_self)))) hcp1.out hx1.out hx2.out)) ?_
   rintro e y1 ⟨gr, rfl, hge, hHd, hb⟩
   replace hL0 := hL0.call hb
   replace hT := hT.call hb
   clear hb hA0
   replace hL0 := GL.tnew (M := []) hL0 hx0 hHd hge (fun p hp => by cases hp)
   simp only [List.nil_append] at hL0
   clear hx0 hHd hge
   have hSs := Lib.hid hT
   have hSa := Lib.hid hT
   replace hT := hT.new (.cells #[.int .u64 0, .string ⟨#[]⟩, .bool false, .int .u64 0, .string ⟨#[]⟩] 36)
   replace hL0 := hL0.new rfl [.int .u64 0, .string ⟨#[]⟩, .bool false, .int .u64 0, .string ⟨#[]⟩] 36
   generalize hweq1 : y1.alloc (.cells #[.int .u64 0, .string ⟨#[]⟩, .bool false, .int .u64 0, .string ⟨#[]⟩] 36) = y2 at hL0 hT
   have hT1 := hT.putN hSa.out (Nat.le_refl _) ((((((Upd.refl y1.heap.size y2).setCell 0 (.int .u64 0)).setCell 1 (.string ⟨#[]⟩)).setCell 2 (.bool false)).setCell 3 (.int .u64 0)).setCell 4 (.string ⟨#[]⟩))
   have hA1 := cells_of _ 0 [] rfl (hL0.get _ _ List.mem_cons_self)
   simp only [cellsF, and_true, Nat.zero_add, Nat.reduceAdd] at hA1
   have zf1 := (hL0.get _ _ List.mem_cons_self).frz
   have hP := hL0.put 0 (y1.heap.size) _ rfl [.int .u64 0, .string ⟨#[]⟩, .bool false, .int .u64 0, .string ⟨#[]⟩] rfl
   simp only [setAll, List.set_cons_zero, List.set_cons_succ] at hP
   generalize hput1 : (((((y2.setCell ⟨y1.heap.size, 0, none⟩ (.int .u64 0)).setCell ⟨y1.heap.size, 1, none⟩ (.string ⟨#[]⟩)).setCell ⟨y1.heap.size, 2, none⟩ (.bool false)).setCell ⟨y1.heap.size, 3, none⟩ (.int .u64 0)).setCell ⟨y1.heap.size, 4, none⟩ (.string ⟨#[]⟩)) = y3 at hP hT1
   replace hL0 := hP
   replace hT := hT1
   clear hT1 hSa
   have hB1 := cells_of _ 0 [] rfl (hL0.get _ _ List.mem_cons_self)
   simp only [cellsF, and_true, Nat.zero_add, Nat.reduceAdd] at hB1
   go_wp2_with fail
   clear hweq1 hput1 hA1 hB1 zf1
   skip
   have hst : GL w y3 [(y1.heap.size, frC (Sm i 0)), (gr, frCs (Rw i)), (x11.heap.size + 1, [.int .u64 ((zl (A i 0).num : Nat) : Int), .string (zh (A i 0).num), .bool (zs (A i 0).num), .int .u64 ((lo (fe (A i 0)) : Nat) : Int), .string (hs (fe (A i 0)))]), (x11.heap.size, [.int .u64 ((zl (T i).num : Nat) : Int), .string (zh (T i).num), .bool (zs (T i).num), .int .u64 ((lo (fe (T i)) : Nat) : Int), .string (hs (fe (T i)))]), (x10.heap.size, [.int .u64 ((zl (T na).num : Nat) : Int), .string (zh (T na).num), .bool (zs (T na).num), .int .u64 ((lo (fe (T na)) : Nat) : Int), .string (hs (fe (T na)))]), (x5.heap.size, [.int .i64 (na : Int), .int .i64 (nb : Int), .slice g1 d1 g1c]), (x1.heap.size, [.int .u8 zr, .int .u8 zc, .slice la lx ly]), (w.heap.size, [.int .u8 zr, .int .u8 zc, .slice la lx ly])] := by rw [hS0.out i, frC_zero]; exact hL0
   clear hL0
   go_loopg [22] nb (fun gk pv wr2 => ∃ (p : Nat) (zp : Int), p + gk = nb ∧ pv = .int .i64 zp ∧ zp = (p : Int) ∧ GL w wr2 [(y1.heap.size, [.int .u64 ((zl (Sm i p).num : Nat) : Int), .string (zh (Sm i p).num), .bool (zs (Sm i p).num), .int .u64 ((lo (fe (Sm i p)) : Nat) : Int), .string (hs (fe (Sm i p)))]), (gr, frCs (Rw i)), (x11.heap.size + 1, [.int .u64 ((zl (A i p).num : Nat) : Int), .string (zh (A i p).num), .bool (zs (A i p).num), .int .u64 ((lo (fe (A i p)) : Nat) : Int), .string (hs (fe (A i p)))]), (x11.heap.size, [.int .u64 ((zl (T i).num : Nat) : Int), .string (zh (T i).num), .bool (zs (T i).num), .int .u64 ((lo (fe (T i)) : Nat) : Int), .string (hs (fe (T i)))]), (x10.heap.size, [.int .u64 ((zl (T na).num : Nat) : Int), .string (zh (T na).num), .bool (zs (T na).num), .int .u64 ((lo (fe (T na)) : Nat) : Int), .string (hs (fe (T na)))]), (x5.heap.size, [.int .i64 (na : Int), .int .i64 (nb : Int), .slice g1 d1 g1c]), (x1.heap.size, [.int .u8 zr, .int .u8 zc, .slice la lx ly]), (w.heap.size, [.int .u8 zr, .int .u8 zc, .slice la lx ly])] ∧ PTs wr2 [(.slice g4 na g4c, vg), (.slice g3 na g3c, vy), (.slice g2 nb g2c, vx), (.slice g1 d1 g1c, x.l)])
   case atStart => exact ⟨0, 0, Nat.zero_add nb, by first | rfl | go_num, rfl, hst, hT⟩
   case round =>
    clear hst hT
    obtain ⟨p, zp, hpk, rfl, hzp, hL0, hT⟩ := hrel
    rcases Nat.lt_or_ge p nb with hpn | hpn
    ·subst hzp
     have m1 : (p : Int) < (nb : Int) := by omega
     have m0 : (0 : Int) ≤ (p : Int) := Int.natCast_nonneg _
     have mb : (p : Int) ≤ 100 := by omega
     have c1 := HAt.out i p hin hpn
     have c2 := HM1.out i p hin hpn
     have c3 := HD1.out i p hin hpn
     have c4 := HD2.out i p hin hpn
     have r5 := hRv.out i p hin hpn
     have r6 := hCv.out i p hin hpn
     obtain ⟨ev, hev⟩ : ∃ q, q = ent x i p := ⟨_, rfl⟩
     rw [← hev] at c1 c2 c4 r5 r6
     replace c1 := Lib.hid c1
     replace c2 := Lib.hid c2
     replace c3 := Lib.hid c3
     replace c4 := Lib.hid c4
     replace hev := Lib.hid hev
     replace r5 := Lib.hid r5
     replace r6 := Lib.hid r6
     have hA0 := cells_of _ 0 [] rfl (hL0.get _ _ (List.mem_cons_of_mem _ (List.mem_cons_of_mem _ (List.mem_cons_of_mem _ (List.mem_cons_of_mem _ (List.mem_cons_of_mem _ List.mem_cons_self))))))
     simp only [cellsF, and_true, Nat.zero_add, Nat.reduceAdd] at hA0
     go_wp2_with fail
     with_reducible refine Calls.mono (c1.out (.agg #[.int .i64 (na : Int), .int .i64 (nb : Int), .slice g1 d1 g1c]) _ (mt_of (hT.get (List.mem_cons_of_mem _ (List.mem_cons_of_mem _ (List.mem_cons_of_mem _ List.mem_cons_self)))) hcp1.out hx1.out hx2.out)) ?_
     rintro e y4 ⟨rfl, hb⟩
     replace hL0 := hL0.call hb
     replace hT := hT.call hb
     clear hb hA0 c1
     have hSa := Lib.hid hT
     replace hT := hT.new (.cells #[.int .u64 0, .string ⟨#[]⟩, .bool false, .int .u64 0, .string ⟨#[]⟩] 36)
     replace hL0 := hL0.new rfl [.int .u64 0, .string ⟨#[]⟩, .bool false, .int .u64 0, .string ⟨#[]⟩] 36
     generalize hweq2 : y4.alloc (.cells #[.int .u64 0, .string ⟨#[]⟩, .bool false, .int .u64 0, .string ⟨#[]⟩] 36) = y5 at hL0 hT
     have hT1 := hT.putN hSa.out (Nat.le_refl _) ((((((Upd.refl y4.heap.size y5).setCell 0 (.int .u64 ((zl ev.num : Nat) : Int))).setCell 1 (.string (zh ev.num))).setCell 2 (.bool (zs ev.num))).setCell 3 (.int .u64 ((lo (fe ev) : Nat) : Int))).setCell 4 (.string (hs (fe ev))))
     have hA2 := cells_of _ 0 [] rfl (hL0.get _ _ List.mem_cons_self)
     simp only [cellsF, and_true, Nat.zero_add, Nat.reduceAdd] at hA2
     have zf2 := (hL0.get _ _ List.mem_cons_self).frz
     have hP := hL0.put 0 (y4.heap.size) _ rfl [.int .u64 ((zl ev.num : Nat) : Int), .string (zh ev.num), .bool (zs ev.num), .int .u64 ((lo (fe ev) : Nat) : Int), .string (hs (fe ev))] rfl
     simp only [setAll, List.set_cons_zero, List.set_cons_succ] at hP
     generalize hput2 : (((((y5.setCell ⟨y4.heap.size, 0, none⟩ (.int .u64 ((zl ev.num : Nat) : Int))).setCell ⟨y4.heap.size, 1, none⟩ (.string (zh ev.num))).setCell ⟨y4.heap.size, 2, none⟩ (.bool (zs ev.num))).setCell ⟨y4.heap.size, 3, none⟩ (.int .u64 ((lo (fe ev) : Nat) : Int))).setCell ⟨y4.heap.size, 4, none⟩ (.string (hs (fe ev)))) = y6 at hP hT1
     replace hL0 := hP
     replace hT := hT1
     clear hT1 hSa
     have hB2 := cells_of _ 0 [] rfl (hL0.get _ _ List.mem_cons_self)
     simp only [cellsF, and_true, Nat.zero_add, Nat.reduceAdd] at hB2
     have hA0 := cells_of _ 0 [] rfl (hL0.get _ _ (List.mem_cons_of_mem _ (List.mem_cons_of_mem _ (List.mem_cons_of_mem _ (List.mem_cons_of_mem _ (List.mem_cons_of_mem _ (List.mem_cons_of_mem _ List.mem_cons_self)))))))
     simp only [cellsF, and_true, Nat.zero_add, Nat.reduceAdd] at hA0
     have hx0 := hL0
     go_wp2_with fail
     with_reducible refine Calls.mono (HCo.out p hpn (.agg #[.int .i64 (na : Int), .int .i64 (nb : Int), .slice g1 d1 g1c]) _ (mt_of (hT.get (List.mem_cons_of_mem _ (List.mem_cons_of_mem _ (List.mem_cons_of_mem _ List.mem_cons_self)))) hcp1.out hx1.out hx2.out)) ?_
     rintro e y7 ⟨gk2, rfl, hge, hHd, hb⟩
     replace hL0 := hL0.call hb
     replace hT := hT.call hb
     clear hb hA0 hweq2 hput2 hA2 hB2 zf2
     replace hL0 := GL.tnew (M := []) hL0 hx0 hHd hge (fun p hp => by cases hp)
     simp only [List.nil_append] at hL0
     clear hx0 hHd hge
     obtain ⟨gm, hgm, hdm, fm⟩ := slq_at (hT.get (List.mem_cons_of_mem _ (List.mem_cons_of_mem _ (List.mem_cons_of_mem _ List.mem_cons_self)))) (i * nb + p) (hix.out i p hin hpn)
     have e9 := hev9.out i p
     obtain ⟨f0, f1, f2, f3, f4⟩ := fsc fm (i * nb + p) (hix.out i p hin hpn)
     rw [e9, ← hev.out] at f0 f1 f2 f3 f4
     obtain ⟨r0, r1, r2, r3, r4⟩ := fsc (hd_fs (hL0.get _ _ (List.mem_cons_of_mem _ (List.mem_cons_of_mem _ (List.mem_cons_of_mem _ List.mem_cons_self))))) p (by rw [hRl.out i]; exact hpn)
     rw [r5.out] at r0 r1 r2 r3 r4
     obtain ⟨z0, z1, z2, z3, z4⟩ := fsc (hd_fs (hL0.get _ _ List.mem_cons_self)) i (by rw [hCl.out p]; exact hin)
     rw [r6.out] at z0 z1 z2 z3 z4
     subst hgm
     have hA0 := cells_of _ 0 [] rfl (hL0.get _ _ (List.mem_cons_of_mem _ List.mem_cons_self))
     simp only [cellsF, and_true, Nat.zero_add, Nat.reduceAdd] at hA0
     have hA9 := cells_of _ 0 [] rfl (hL0.get _ _ (List.mem_cons_of_mem _ (List.mem_cons_of_mem _ (List.mem_cons_of_mem _ (List.mem_cons_of_mem _ (List.mem_cons_of_mem _ (List.mem_cons_of_mem _ (List.mem_cons_of_mem _ List.mem_cons_self))))))))
     simp only [cellsF, and_true, Nat.zero_add, Nat.reduceAdd] at hA9
     obtain ⟨P, hP9⟩ : ∃ P, P = i * nb := ⟨_, rfl⟩
     rw [← hP9] at f0 f1 f2 f3 f4
     have hmul : (i : Int) * (nb : Int) = (P : Int) := by rw [hP9, Int.natCast_mul]
     have hPb := hix.out i p hin hpn
     rw [← hP9, ← hdm] at hPb
     have q0 : (0 : Int) ≤ (P : Int) + (p : Int) := by omega
     have q1 : (P : Int) + (p : Int) < (d1 : Int) := by omega
     have q2 : (P : Int) ≤ 5000 := by have := hixb.out i hin; omega
     have q3 : (P : Int) + (p : Int) ≤ 6000 := by omega
     replace hP9 := Lib.hid hP9
     replace hdm := Lib.hid hdm
     replace hPb := Lib.hid hPb
     replace e9 := Lib.hid e9
     have hne : ∀ W, (binOp .neq 36 (fracV ev) (fracV ev)).run Tryz.prog W = .ok (.bool false) W := fun W => by have := run_neqF ev ev true (by simp) W; exact this
     go_upto_region 23 with fail
     obtain ⟨α, iα, F, hF1, hF2⟩ := cls y7
     have hf0 := fun yz => keepsC (hF1 yz) f0
     have hf1 := fun yz => keepsC (hF1 yz) f1
     have hf2 := fun yz => keepsC (hF1 yz) f2
     have hf3 := fun yz => keepsC (hF1 yz) f3
     have hf4 := fun yz => keepsC (hF1 yz) f4
     have hr0 := fun yz => keepsC (hF1 yz) r0
     have hr1 := fun yz => keepsC (hF1 yz) r1
     have hr2 := fun yz => keepsC (hF1 yz) r2
     have hr3 := fun yz => keepsC (hF1 yz) r3
     have hr4 := fun yz => keepsC (hF1 yz) r4
     have hz0 := fun yz => keepsC (hF1 yz) z0
     have hz1 := fun yz => keepsC (hF1 yz) z1
     have hz2 := fun yz => keepsC (hF1 yz) z2
     have hz3 := fun yz => keepsC (hF1 yz) z3
     have hz4 := fun yz => keepsC (hF1 yz) z4
     have hq := GL.fcC hF1 hL0
     simp only [fcC, cellsC, and_true, Nat.zero_add, Nat.reduceAdd] at hq
     clear f0 f1 f2 f3 f4 r0 r1 r2 r3 r4 z0 z1 z2 z3 z4 hA0 hA9
     refine region_cls (F := F) (by kernel_rfl) (lexB_of_fast (by kernel_rfl)) (cls_drew hF2) ?_
     repeat (go_big_quiet_step (first | fail))
     refine wpQuiet_nil ?_
     rintro wq ⟨xq, rfl⟩
     replace hL0 := hL0.call (hF1 xq)
     replace hT := hT.call (hF1 xq)
     clear hf0 hf1 hf2 hf3 hf4 hr0 hr1 hr2 hr3 hr4 hz0 hz1 hz2 hz3 hz4 hq hF2 hmul q0 q1 q2 q3 hPb hP9 e9 fm hdm
     generalize F xq = y8 at hL0 hT ⊢
     clear hF1 xq iα F α
     obtain ⟨bg, hbg, -, bf⟩ := slq_at (hT.get (List.mem_cons_of_mem _ (List.mem_cons_of_mem _ List.mem_cons_self))) p (by rw [lvx.out]; exact hpn)
     obtain ⟨b0, b1, b2, b3, b4⟩ := fsc bf p (by rw [lvx.out]; exact hpn)
     clear bf
     subst hbg
     go_upto_region 25 with fail
     obtain ⟨α, iα, F, hF1, hF2⟩ := cls y8
     have hb0 := fun yz => keepsC (hF1 yz) b0
     have hb1 := fun yz => keepsC (hF1 yz) b1
     have hb2 := fun yz => keepsC (hF1 yz) b2
     have hb3 := fun yz => keepsC (hF1 yz) b3
     have hb4 := fun yz => keepsC (hF1 yz) b4
     have hq1 := fun yz => cells_of _ 0 [] rfl ((hL0.call (hF1 yz)).get _ _ (List.mem_cons_of_mem _ List.mem_cons_self))
     simp only [cellsF, and_true, Nat.zero_add, Nat.reduceAdd] at hq1
     have hq2 := fun yz => cells_of _ 0 [] rfl ((hL0.call (hF1 yz)).get _ _ (List.mem_cons_of_mem _ (List.mem_cons_of_mem _ List.mem_cons_self)))
     simp only [cellsF, and_true, Nat.zero_add, Nat.reduceAdd] at hq2
     clear b0 b1 b2 b3 b4
     refine region_qs 8 (C := fun w' => ∃ x, w' = F x) (by kernel_rfl) (by kernel_rfl) (cls_drew hF2) ?_
     simp only [List.take_succ_cons, List.take_zero, List.drop_succ_cons, List.drop_zero, List.take_nil, List.drop_nil]
     repeat (go_big_quiet_step (first | fail | (go_at_call 20; with_reducible exact cls_call hF1 hF2 c2.out _) | (go_at_call 19; with_reducible exact cls_call hF1 hF2 c3.out _)))
     refine wpQuiet_nil ?_
     rintro wq ⟨xq, rfl⟩
     replace hL0 := hL0.call (hF1 xq)
     replace hT := hT.call (hF1 xq)
     clear hb0 hb1 hb2 hb3 hb4 hq1 hq2 hF2
     generalize F xq = y9 at hL0 hT ⊢
     clear hF1 xq iα F α
     have hA3 := cells_of _ 0 [] rfl (hL0.get _ _ (List.mem_cons_of_mem _ (List.mem_cons_of_mem _ List.mem_cons_self)))
     simp only [cellsF, and_true, Nat.zero_add, Nat.reduceAdd] at hA3
     have zf3 := (hL0.get _ _ (List.mem_cons_of_mem _ (List.mem_cons_of_mem _ List.mem_cons_self))).frz
     have hT1 := hT.putN hSs.out (Nat.le_refl _) ((((((Upd.refl y1.heap.size y9).setCell 0 (.int .u64 ((zl (Sm i (p + 1)).num : Nat) : Int))).setCell 1 (.string (zh (Sm i (p + 1)).num))).setCell 2 (.bool (zs (Sm i (p + 1)).num))).setCell 3 (.int .u64 ((lo (fe (Sm i (p + 1))) : Nat) : Int))).setCell 4 (.string (hs (fe (Sm i (p + 1))))))
     have hP := hL0.put 2 (y1.heap.size) _ rfl [.int .u64 ((zl (Sm i (p + 1)).num : Nat) : Int), .string (zh (Sm i (p + 1)).num), .bool (zs (Sm i (p + 1)).num), .int .u64 ((lo (fe (Sm i (p + 1))) : Nat) : Int), .string (hs (fe (Sm i (p + 1))))] rfl
     simp only [setAll, List.set_cons_zero, List.set_cons_succ] at hP
     generalize hput3 : (((((y9.setCell ⟨y1.heap.size, 0, none⟩ (.int .u64 ((zl (Sm i (p + 1)).num : Nat) : Int))).setCell ⟨y1.heap.size, 1, none⟩ (.string (zh (Sm i (p + 1)).num))).setCell ⟨y1.heap.size, 2, none⟩ (.bool (zs (Sm i (p + 1)).num))).setCell ⟨y1.heap.size, 3, none⟩ (.int .u64 ((lo (fe (Sm i (p + 1))) : Nat) : Int))).setCell ⟨y1.heap.size, 4, none⟩ (.string (hs (fe (Sm i (p + 1)))))) = y10 at hP hT1
     replace hL0 := hP
     replace hT := hT1
     clear hT1
     have hA5 := cells_of _ 0 [] rfl (hL0.get _ _ (List.mem_cons_of_mem _ List.mem_cons_self))
     simp only [cellsF, and_true, Nat.zero_add, Nat.reduceAdd] at hA5
     have hA6 := cells_of _ 0 [] rfl (hL0.get _ _ (List.mem_cons_of_mem _ (List.mem_cons_of_mem _ (List.mem_cons_of_mem _ (List.mem_cons_of_mem _ List.mem_cons_self)))))
     simp only [cellsF, and_true, Nat.zero_add, Nat.reduceAdd] at hA6
     go_wp2_with fail
     with_reducible refine Calls.mono (c4.out _) ?_
     rintro e y11 ⟨rfl, hb⟩
     replace hL0 := hL0.call hb
     replace hT := hT.call hb
     clear hb hput3 hA3 zf3 hA5 hA6
     have hA4 := cells_of _ 0 [] rfl (hL0.get _ _ (List.mem_cons_of_mem _ (List.mem_cons_of_mem _ (List.mem_cons_of_mem _ (List.mem_cons_of_mem _ List.mem_cons_self)))))
     simp only [cellsF, and_true, Nat.zero_add, Nat.reduceAdd] at hA4
     have zf4 := (hL0.get _ _ (List.mem_cons_of_mem _ (List.mem_cons_of_mem _ (List.mem_cons_of_mem _ (List.mem_cons_of_mem _ List.mem_cons_self))))).frz
     have hT1 := hT.putN hSo9.out hkA.out ((((((Upd.refl (x11.heap.size + 1) y11).setCell 0 (.int .u64 ((zl (A i (p + 1)).num : Nat) : Int))).setCell 1 (.string (zh (A i (p + 1)).num))).setCell 2 (.bool (zs (A i (p + 1)).num))).setCell 3 (.int .u64 ((lo (fe (A i (p + 1))) : Nat) : Int))).setCell 4 (.string (hs (fe (A i (p + 1))))))
     have hP := hL0.put 4 (x11.heap.size + 1) _ rfl [.int .u64 ((zl (A i (p + 1)).num : Nat) : Int), .string (zh (A i (p + 1)).num), .bool (zs (A i (p + 1)).num), .int .u64 ((lo (fe (A i (p + 1))) : Nat) : Int), .string (hs (fe (A i (p + 1))))] rfl
     simp only [setAll, List.set_cons_zero, List.set_cons_succ] at hP
     generalize hput4 : (((((y11.setCell ⟨x11.heap.size + 1, 0, none⟩ (.int .u64 ((zl (A i (p + 1)).num : Nat) : Int))).setCell ⟨x11.heap.size + 1, 1, none⟩ (.string (zh (A i (p + 1)).num))).setCell ⟨x11.heap.size + 1, 2, none⟩ (.bool (zs (A i (p + 1)).num))).setCell ⟨x11.heap.size + 1, 3, none⟩ (.int .u64 ((lo (fe (A i (p + 1))) : Nat) : Int))).setCell ⟨x11.heap.size + 1, 4, none⟩ (.string (hs (fe (A i (p + 1)))))) = y12 at hP hT1
     replace hL0 := hP
     replace hT := hT1
     clear hT1
     have hLz := Lib.hid (hL0.weak (List.Sublist.cons _ (List.Sublist.cons _ (List.Sublist.refl _))))
     have hSz := Lib.hid hT
     clear hL0 hT
     go_wp2_with fail
     go_roundg (nb - (p + 1))
     case measure => omega
     case rel => exact ⟨p + 1, _, by omega, by first | rfl | go_num, by omega, hLz.out, hSz.out⟩
    ·obtain rfl : nb = p := by omega
     subst hzp
     have m1 : ¬ (nb : Int) < (nb : Int) := by omega
     have c5 := HM2.out i hin
     have c6 := HD3.out i hin
     have r7 := hgv.out i hin
     have r8 := hAe.out i
     obtain ⟨sv, hsv⟩ : ∃ q, q = Sm i nb := ⟨_, rfl⟩
     rw [← hsv] at c5 r7 hL0
     replace c5 := Lib.hid c5
     replace c6 := Lib.hid c6
     replace hsv := Lib.hid hsv
     replace r7 := Lib.hid r7
     replace r8 := Lib.hid r8
     obtain ⟨bg, hbg, -, bf⟩ := slq_at (hT.get List.mem_cons_self) i (by rw [lvg.out]; exact hin)
     obtain ⟨b0, b1, b2, b3, b4⟩ := fsc bf i (by rw [lvg.out]; exact hin)
     clear bf
     subst hbg
     rw [r7.out] at b0 b1 b2 b3 b4
     have hne : ∀ W, (binOp .neq 36 (fracV sv) (fracV sv)).run Tryz.prog W = .ok (.bool false) W := fun W => by have := run_neqF sv sv true (by simp) W; exact this
     go_upto_region 27 with fail
     obtain ⟨α, iα, F, hF1, hF2⟩ := cls wr
     have hb0 := fun yz => keepsC (hF1 yz) b0
     have hb1 := fun yz => keepsC (hF1 yz) b1
     have hb2 := fun yz => keepsC (hF1 yz) b2
     have hb3 := fun yz => keepsC (hF1 yz) b3
     have hb4 := fun yz => keepsC (hF1 yz) b4
     have hq1 := fun yz => cells_of _ 0 [] rfl ((hL0.call (hF1 yz)).get _ _ List.mem_cons_self)
     simp only [cellsF, and_true, Nat.zero_add, Nat.reduceAdd] at hq1
     clear b0 b1 b2 b3 b4
     refine region_cls (F := F) (by kernel_rfl) (lexB_of_fast (by kernel_rfl)) (cls_drew hF2) ?_
     repeat (go_big_quiet_step (first | fail))
     refine wpQuiet_nil ?_
     rintro wq ⟨xq, rfl⟩
     replace hL0 := hL0.call (hF1 xq)
     replace hT := hT.call (hF1 xq)
     clear hb0 hb1 hb2 hb3 hb4 hq1 hF2
     generalize F xq = y8 at hL0 hT ⊢
     clear hF1 xq iα F α
     obtain ⟨bg, hbg, -, bf⟩ := slq_at (hT.get (List.mem_cons_of_mem _ List.mem_cons_self)) i (by rw [lvy.out]; exact hin)
     obtain ⟨b0, b1, b2, b3, b4⟩ := fsc bf i (by rw [lvy.out]; exact hin)
     clear bf
     subst hbg
     go_upto_region 29 with fail
     obtain ⟨α, iα, F, hF1, hF2⟩ := cls y8
     have hb0 := fun yz => keepsC (hF1 yz) b0
     have hb1 := fun yz => keepsC (hF1 yz) b1
     have hb2 := fun yz => keepsC (hF1 yz) b2
     have hb3 := fun yz => keepsC (hF1 yz) b3
     have hb4 := fun yz => keepsC (hF1 yz) b4
     have hq1 := fun yz => cells_of _ 0 [] rfl ((hL0.call (hF1 yz)).get _ _ List.mem_cons_self)
     simp only [cellsF, and_true, Nat.zero_add, Nat.reduceAdd] at hq1
     have hq2 := fun yz => cells_of _ 0 [] rfl ((hL0.call (hF1 yz)).get _ _ (List.mem_cons_of_mem _ (List.mem_cons_of_mem _ (List.mem_cons_of_mem _ List.mem_cons_self))))
     simp only [cellsF, and_true, Nat.zero_add, Nat.reduceAdd] at hq2
     clear b0 b1 b2 b3 b4
     refine region_qs 8 (C := fun w' => ∃ x, w' = F x) (by kernel_rfl) (by kernel_rfl) (cls_drew hF2) ?_
     simp only [List.take_succ_cons, List.take_zero, List.drop_succ_cons, List.drop_zero, List.take_nil, List.drop_nil]
     repeat (go_big_quiet_step (first | fail | (go_at_call 20; with_reducible exact cls_call hF1 hF2 c5.out _) | (go_at_call 19; with_reducible exact cls_call hF1 hF2 c6.out _)))
     refine wpQuiet_nil ?_
     rintro wq ⟨xq, rfl⟩
     replace hL0 := hL0.call (hF1 xq)
     replace hT := hT.call (hF1 xq)
     clear hb0 hb1 hb2 hb3 hb4 hq1 hq2 hF2
     generalize F xq = y9 at hL0 hT ⊢
     clear hF1 xq iα F α
     have hA5 := cells_of _ 0 [] rfl (hL0.get _ _ (List.mem_cons_of_mem _ (List.mem_cons_of_mem _ (List.mem_cons_of_mem _ List.mem_cons_self))))
     simp only [cellsF, and_true, Nat.zero_add, Nat.reduceAdd] at hA5
     have zf5 := (hL0.get _ _ (List.mem_cons_of_mem _ (List.mem_cons_of_mem _ (List.mem_cons_of_mem _ List.mem_cons_self)))).frz
     have hT1 := hT.putN hSo9.out hkT.out ((((((Upd.refl x11.heap.size y9).setCell 0 (.int .u64 ((zl (T (i + 1)).num : Nat) : Int))).setCell 1 (.string (zh (T (i + 1)).num))).setCell 2 (.bool (zs (T (i + 1)).num))).setCell 3 (.int .u64 ((lo (fe (T (i + 1))) : Nat) : Int))).setCell 4 (.string (hs (fe (T (i + 1))))))
     have hP := hL0.put 3 (x11.heap.size) _ rfl [.int .u64 ((zl (T (i + 1)).num : Nat) : Int), .string (zh (T (i + 1)).num), .bool (zs (T (i + 1)).num), .int .u64 ((lo (fe (T (i + 1))) : Nat) : Int), .string (hs (fe (T (i + 1))))] rfl
     simp only [setAll, List.set_cons_zero, List.set_cons_succ] at hP
     generalize hput5 : (((((y9.setCell ⟨x11.heap.size, 0, none⟩ (.int .u64 ((zl (T (i + 1)).num : Nat) : Int))).setCell ⟨x11.heap.size, 1, none⟩ (.string (zh (T (i + 1)).num))).setCell ⟨x11.heap.size, 2, none⟩ (.bool (zs (T (i + 1)).num))).setCell ⟨x11.heap.size, 3, none⟩ (.int .u64 ((lo (fe (T (i + 1))) : Nat) : Int))).setCell ⟨x11.heap.size, 4, none⟩ (.string (hs (fe (T (i + 1)))))) = y10 at hP hT1
     replace hL0 := hP
     replace hT := hT1
     clear hT1
     have hLz := hL0.weak (List.Sublist.cons _ (List.Sublist.cons _ (List.Sublist.refl _)))
     rw [← r8.out] at hLz
     replace hLz := Lib.hid hLz
     have hSz := Lib.hid hT
     clear hL0 hT
     go_wp2_with fail
     go_roundg (na - (i + 1))
     case measure => omega
     case rel => exact ⟨i + 1, _, by omega, by first | rfl | go_num, by omega, hLz.out, hSz.out⟩
  ·obtain rfl : na = i := by omega
   subst hzi
   have k1 : ¬ (na : Int) < (na : Int) := by omega
   go_wp2_with fail
   with_reducible refine Calls.mono (HOu.out (.slice g3 na g3c) (.slice g2 nb g2c) _ (hT.get (List.mem_cons_of_mem _ List.mem_cons_self)) (hT.get (List.mem_cons_of_mem _ (List.mem_cons_of_mem _ List.mem_cons_self)))) ?_
   rintro e x15 ⟨v0, rfl, q0, hb⟩
   replace hL0 := hL0.call hb
   replace hT := hT.call hb
   clear hb
   obtain ⟨g5, d5, g5c, rfl, hm2, hcp2⟩ := mt_form q0 ho1.out ho2.out
   replace hcp2 := Lib.hid hcp2
   replace hT := hT.cons hm2
   clear hm2
   clear q0
   replace hT := (hT.new (.cells #[.int .i64 (na : Int), .int .i64 (nb : Int), .slice g5 d5 g5c] 56))
   replace hL0 := (hL0.new rfl [.int .i64 (na : Int), .int .i64 (nb : Int), .slice g5 d5 g5c] 56)
   generalize hweq : (x15.alloc (.cells #[.int .i64 (na : Int), .int .i64 (nb : Int), .slice g5 d5 g5c] 56)) = x16 at hL0 hT
   go_upto_region 31 with fail
   clear hweq
   obtain ⟨aq, cq, hq9⟩ := slq_form' (hT.get List.mem_cons_self)
   obtain rfl : ouN = d5 := by injection hq9 with q1 q2 q3; rw [q2, hoN.out]
   clear hq9
   have hww := i64w9 (ouN : Int) (by omega) (by omega)
   go_upto_region 31 with fail
   refine region_tl 34 [EV (.agg #[.int .u64 ((zl (T na).num : Nat) : Int), .string (zh (T na).num), .bool (zs (T na).num), .int .u64 ((lo (fe (T na)) : Nat) : Int), .string (hs (fe (T na)))]), EV (.agg #[.int .u64 ((zl (T na).num : Nat) : Int), .string (zh (T na).num), .bool (zs (T na).num), .int .u64 ((lo (fe (T na)) : Nat) : Int), .string (hs (fe (T na)))]), EV (.bool false), EV (.bool false), EV (.agg #[.int .i64 (na : Int), .int .i64 (nb : Int), .slice g1 d1 g1c]), EV (.agg #[.int .u64 ((zl (A na 0).num : Nat) : Int), .string (zh (A na 0).num), .bool (zs (A na 0).num), .int .u64 ((lo (fe (A na 0)) : Nat) : Int), .string (hs (fe (A na 0)))]), EV (.agg #[.int .u64 ((zl (A na 0).num : Nat) : Int), .string (zh (A na 0).num), .bool (zs (A na 0).num), .int .u64 ((lo (fe (A na 0)) : Nat) : Int), .string (hs (fe (A na 0)))]), EV (.bool false), EV (.bool false), EV (.bool false), EV (.int .i64 0), EV (.bool false), EV (.bool false), EV (.bool false), EV (.pointer (some ⟨x15.heap.size, 0, none⟩)), EV (.int .i64 (na : Int)), EV (.int .i64 (na : Int)), EV (.bool false), EV (.bool false), EV (.bool false), EV (.pointer (some ⟨x15.heap.size, 1, none⟩)), EV (.int .i64 (nb : Int)), EV (.int .i64 (nb : Int)), EV (.bool false), EV (.bool false), EV (.bool false), EV (.pointer (some ⟨x15.heap.size, 2, none⟩)), EV (.slice g5 ouN g5c), EV (.int .i64 (ouN : Int)), EV (.int .i64 (na : Int)), EV (.int .i64 (nb : Int)), EV (.int .i64 (ouN : Int)), EV (.bool false), EV (.bool false)] (by kernel_rfl) (by kernel_rfl) ?_ ?_ ?_
   ·exact stays_cons (stays_eq _) (stays_cons (stays_eq _) (stays_cons (stays_eq _) (stays_cons (stays_eq _) (stays_cons (stays_eq _) (stays_cons (stays_eq _) (stays_cons (stays_eq _) (stays_cons (stays_eq _) (stays_cons (stays_eq _) (stays_cons (stays_eq _) (stays_cons (stays_eq _) (stays_cons (stays_eq _) (stays_cons (stays_eq _) (stays_cons (stays_eq _) (stays_cons (stays_eq _) (stays_cons (stays_eq _) (stays_cons (stays_eq _) (stays_cons (stays_eq _) (stays_cons (stays_eq _) (stays_cons (stays_eq _) (stays_cons (stays_eq _) (stays_cons (stays_eq _) (stays_cons (stays_eq _) (stays_cons (stays_eq _) (stays_cons (stays_eq _) (stays_cons (stays_eq _) (stays_cons (stays_eq _) (stays_cons (stays_eq _) (stays_cons (stays_eq _) (stays_cons (stays_eq _) (stays_cons (stays_eq _) (stays_cons (stays_eq _) (stays_cons (stays_eq _) (stays_cons (stays_eq _) (stays_nil))))))))))))))))))))))))))))))))))
   ·simp only [List.take_succ_cons, List.take_zero, hopsR, and_true]
    refine ⟨?_, ?_, ?_, ?_, ?_, ?_, ?_, ?_, ?_, ?_, ?_, ?_, ?_, ?_, ?_, ?_, ?_, ?_, ?_, ?_, ?_, ?_, ?_, ?_, ?_, ?_, ?_, ?_, ?_, ?_, ?_, ?_, ?_, ?_⟩ <;> intro fv w1 hb1 hp
    all_goals (simp only [putsV, Act.put, List.setIfInBounds_toArray, List.set_cons_succ, List.set_cons_zero, Nat.zero_add, Nat.reduceAdd])
    ·refine tyAt_none rfl ?_
     have hc := (hL0.call (below_drew hb1)).fc
     simp only [fcG, cellsF, neK, and_true, ne_eq, Nat.zero_add, Nat.reduceAdd] at hc
     simp [tyUpon, execOp, go_sem, Act.eval, hc, hmu, hww, Below.refl]
    ·refine tyAt_none rfl ?_
     have hc := (hL0.call (below_drew hb1)).fc
     simp only [fcG, cellsF, neK, and_true, ne_eq, Nat.zero_add, Nat.reduceAdd] at hc
     simp [tyUpon, execOp, go_sem, Act.eval, hc, hmu, hww, Below.refl]
    ·have h0 : EV _ (fv 0) w1 := hp 0 (LC (by kernel_rfl))
     have h1 : EV _ (fv 1) w1 := hp 1 (LC (by kernel_rfl))
     refine tyAt_none rfl ?_
     simp [tyUpon, execOp, go_sem, Act.eval, h0, h1, hmu, hww, Below.refl]
    ·have h2 : EV _ (fv 2) w1 := hp 2 (LC (by kernel_rfl))
     refine tyAt_none rfl ?_
     simp [tyUpon, execOp, go_sem, Act.eval, h2, hmu, hww, Below.refl]
    ·have h3 : EV _ (fv 3) w1 := hp 3 (LC (by kernel_rfl))
     refine tyAt_yes (by simp [Region.wanted, yielded, h3]) ?_
     have hc := (hL0.call (below_drew hb1)).fc
     simp only [fcG, cellsF, neK, and_true, ne_eq, Nat.zero_add, Nat.reduceAdd] at hc
     simp [tyUpon, execOp, go_sem, Act.eval, hc, h3, hmu, hww, Below.refl]
    ·have h4 : EV _ (fv 4) w1 := hp 4 (LC (by kernel_rfl))
     have h3 : EV _ (fv 3) w1 := hp 3 (LC (by kernel_rfl))
     refine tyAt_yes (by simp [Region.wanted, yielded, h4, h3]) ?_
     refine ty_call (f := 36) (args := #[.agg #[.int .i64 (na : Int), .int .i64 (nb : Int), .slice g1 d1 g1c]]) (by simp [execOp, go_sem, Act.eval, h4, h3]) ?_
     exact (HSu.out (.agg #[.int .i64 (na : Int), .int .i64 (nb : Int), .slice g1 d1 g1c]) w1 (mt_of (PT.below (hT.get (List.mem_cons_of_mem _ (List.mem_cons_of_mem _ (List.mem_cons_of_mem _ (List.mem_cons_of_mem _ List.mem_cons_self))))) (below_drew hb1)) hcp1.out hx1.out hx2.out)).mono fun e w2 ⟨h1, h2⟩ => ⟨_, h1, rfl, h2⟩
    ·have h3 : EV _ (fv 3) w1 := hp 3 (LC (by kernel_rfl))
     refine tyAt_yes (by simp [Region.wanted, yielded, h3]) ?_
     have hc := (hL0.call (below_drew hb1)).fc
     simp only [fcG, cellsF, neK, and_true, ne_eq, Nat.zero_add, Nat.reduceAdd] at hc
     simp [tyUpon, execOp, go_sem, Act.eval, hc, h3, hmu, hww, Below.refl]
    ·have h5 : EV _ (fv 5) w1 := hp 5 (LC (by kernel_rfl))
     have h6 : EV _ (fv 6) w1 := hp 6 (LC (by kernel_rfl))
     have h3 : EV _ (fv 3) w1 := hp 3 (LC (by kernel_rfl))
     refine tyAt_yes (by simp [Region.wanted, yielded, h5, h6, h3]) ?_
     simp [tyUpon, execOp, go_sem, Act.eval, h5, h6, h3, hmu, hww, Below.refl]
    ·have h3 : EV _ (fv 3) w1 := hp 3 (LC (by kernel_rfl))
     have h7 : EV _ (fv 7) w1 := hp 7 (LC (by kernel_rfl))
     refine tyAt_none rfl ?_
     simp [tyUpon, execOp, go_sem, Act.eval, h3, h7, hmu, hww, Below.refl]
    ·have h8 : EV _ (fv 8) w1 := hp 8 (LC (by kernel_rfl))
     refine tyAt_none rfl ?_
     simp [tyUpon, execOp, go_sem, Act.eval, h8, hmu, hww, Below.refl]
    ·have h9 : EV _ (fv 9) w1 := hp 9 (LC (by kernel_rfl))
     refine tyAt_yes (by simp [Region.wanted, yielded, h9]) ?_
     simp [tyUpon, execOp, go_sem, Act.eval, h9, hmu, hww, Below.refl]
    ·have h10 : EV _ (fv 10) w1 := hp 10 (LC (by kernel_rfl))
     have h9 : EV _ (fv 9) w1 := hp 9 (LC (by kernel_rfl))
     refine tyAt_yes (by simp [Region.wanted, yielded, h10, h9]) ?_
     simp [tyUpon, execOp, go_sem, Act.eval, h10, h9, hmu, hww, Below.refl]
    ·have h9 : EV _ (fv 9) w1 := hp 9 (LC (by kernel_rfl))
     have h11 : EV _ (fv 11) w1 := hp 11 (LC (by kernel_rfl))
     refine tyAt_none rfl ?_
     simp [tyUpon, execOp, go_sem, Act.eval, h9, h11, hmu, hww, Below.refl]
    ·have h12 : EV _ (fv 12) w1 := hp 12 (LC (by kernel_rfl))
     refine tyAt_none rfl ?_
     simp [tyUpon, execOp, go_sem, Act.eval, h12, hmu, hww, Below.refl]
    ·have h13 : EV _ (fv 13) w1 := hp 13 (LC (by kernel_rfl))
     refine tyAt_yes (by simp [Region.wanted, yielded, h13]) ?_
     simp [tyUpon, execOp, go_sem, Act.eval, h13, hmu, hww, Below.refl]
    ·have h14 : EV _ (fv 14) w1 := hp 14 (LC (by kernel_rfl))
     have h13 : EV _ (fv 13) w1 := hp 13 (LC (by kernel_rfl))
     refine tyAt_yes (by simp [Region.wanted, yielded, h14, h13]) ?_
     have hc := (hL0.call (below_drew hb1)).fc
     simp only [fcG, cellsF, neK, and_true, ne_eq, Nat.zero_add, Nat.reduceAdd] at hc
     simp [tyUpon, execOp, go_sem, Act.eval, hc, h14, h13, hmu, hww, Below.refl]
    ·have h13 : EV _ (fv 13) w1 := hp 13 (LC (by kernel_rfl))
     refine tyAt_yes (by simp [Region.wanted, yielded, h13]) ?_
     simp [tyUpon, execOp, go_sem, Act.eval, h13, hmu, hww, Below.refl]
    ·have h15 : EV _ (fv 15) w1 := hp 15 (LC (by kernel_rfl))
     have h16 : EV _ (fv 16) w1 := hp 16 (LC (by kernel_rfl))
     have h13 : EV _ (fv 13) w1 := hp 13 (LC (by kernel_rfl))
     refine tyAt_yes (by simp [Region.wanted, yielded, h15, h16, h13]) ?_
     simp [tyUpon, execOp, go_sem, Act.eval, h15, h16, h13, hmu, hww, Below.refl]
    ·have h13 : EV _ (fv 13) w1 := hp 13 (LC (by kernel_rfl))
     have h17 : EV _ (fv 17) w1 := hp 17 (LC (by kernel_rfl))
     refine tyAt_none rfl ?_
     simp [tyUpon, execOp, go_sem, Act.eval, h13, h17, hmu, hww, Below.refl]
    ·have h18 : EV _ (fv 18) w1 := hp 18 (LC (by kernel_rfl))
     refine tyAt_none rfl ?_
     simp [tyUpon, execOp, go_sem, Act.eval, h18, hmu, hww, Below.refl]
    ·have h19 : EV _ (fv 19) w1 := hp 19 (LC (by kernel_rfl))
     refine tyAt_yes (by simp [Region.wanted, yielded, h19]) ?_
     simp [tyUpon, execOp, go_sem, Act.eval, h19, hmu, hww, Below.refl]
    ·have h20 : EV _ (fv 20) w1 := hp 20 (LC (by kernel_rfl))
     have h19 : EV _ (fv 19) w1 := hp 19 (LC (by kernel_rfl))
     refine tyAt_yes (by simp [Region.wanted, yielded, h20, h19]) ?_
     have hc := (hL0.call (below_drew hb1)).fc
     simp only [fcG, cellsF, neK, and_true, ne_eq, Nat.zero_add, Nat.reduceAdd] at hc
     simp [tyUpon, execOp, go_sem, Act.eval, hc, h20, h19, hmu, hww, Below.refl]
    ·have h19 : EV _ (fv 19) w1 := hp 19 (LC (by kernel_rfl))
     refine tyAt_yes (by simp [Region.wanted, yielded, h19]) ?_
     simp [tyUpon, execOp, go_sem, Act.eval, h19, hmu, hww, Below.refl]
    ·have h21 : EV _ (fv 21) w1 := hp 21 (LC (by kernel_rfl))
     have h22 : EV _ (fv 22) w1 := hp 22 (LC (by kernel_rfl))
     have h19 : EV _ (fv 19) w1 := hp 19 (LC (by kernel_rfl))
     refine tyAt_yes (by simp [Region.wanted, yielded, h21, h22, h19]) ?_
     simp [tyUpon, execOp, go_sem, Act.eval, h21, h22, h19, hmu, hww, Below.refl]
    ·have h19 : EV _ (fv 19) w1 := hp 19 (LC (by kernel_rfl))
     have h23 : EV _ (fv 23) w1 := hp 23 (LC (by kernel_rfl))
     refine tyAt_none rfl ?_
     simp [tyUpon, execOp, go_sem, Act.eval, h19, h23, hmu, hww, Below.refl]
    ·have h24 : EV _ (fv 24) w1 := hp 24 (LC (by kernel_rfl))
     refine tyAt_none rfl ?_
     simp [tyUpon, execOp, go_sem, Act.eval, h24, hmu, hww, Below.refl]
    ·have h25 : EV _ (fv 25) w1 := hp 25 (LC (by kernel_rfl))
     refine tyAt_yes (by simp [Region.wanted, yielded, h25]) ?_
     simp [tyUpon, execOp, go_sem, Act.eval, h25, hmu, hww, Below.refl]
    ·have h26 : EV _ (fv 26) w1 := hp 26 (LC (by kernel_rfl))
     have h25 : EV _ (fv 25) w1 := hp 25 (LC (by kernel_rfl))
     refine tyAt_yes (by simp [Region.wanted, yielded, h26, h25]) ?_
     have hc := (hL0.call (below_drew hb1)).fc
     simp only [fcG, cellsF, neK, and_true, ne_eq, Nat.zero_add, Nat.reduceAdd] at hc
     simp [tyUpon, execOp, go_sem, Act.eval, hc, h26, h25, hmu, hww, Below.refl]
    ·have h27 : EV _ (fv 27) w1 := hp 27 (LC (by kernel_rfl))
     have h25 : EV _ (fv 25) w1 := hp 25 (LC (by kernel_rfl))
     refine tyAt_yes (by simp [Region.wanted, yielded, h27, h25]) ?_
     simp [tyUpon, execOp, go_sem, Act.eval, h27, h25, hmu, hww, Below.refl]
    ·have h25 : EV _ (fv 25) w1 := hp 25 (LC (by kernel_rfl))
     refine tyAt_yes (by simp [Region.wanted, yielded, h25]) ?_
     simp [tyUpon, execOp, go_sem, Act.eval, h25, hmu, hww, Below.refl]
    ·have h25 : EV _ (fv 25) w1 := hp 25 (LC (by kernel_rfl))
     refine tyAt_yes (by simp [Region.wanted, yielded, h25]) ?_
     simp [tyUpon, execOp, go_sem, Act.eval, h25, hmu, hww, Below.refl]
    ·have h29 : EV _ (fv 29) w1 := hp 29 (LC (by kernel_rfl))
     have h30 : EV _ (fv 30) w1 := hp 30 (LC (by kernel_rfl))
     have h25 : EV _ (fv 25) w1 := hp 25 (LC (by kernel_rfl))
     refine tyAt_yes (by simp [Region.wanted, yielded, h29, h30, h25]) ?_
     simp [tyUpon, execOp, go_sem, Act.eval, h29, h30, h25, hmu, hww, Below.refl]
    ·have h28 : EV _ (fv 28) w1 := hp 28 (LC (by kernel_rfl))
     have h31 : EV _ (fv 31) w1 := hp 31 (LC (by kernel_rfl))
     have h25 : EV _ (fv 25) w1 := hp 25 (LC (by kernel_rfl))
     refine tyAt_yes (by simp [Region.wanted, yielded, h28, h31, h25]) ?_
     simp [tyUpon, execOp, go_sem, Act.eval, h28, h31, h25, hmu, hww, Below.refl]
    ·have h25 : EV _ (fv 25) w1 := hp 25 (LC (by kernel_rfl))
     have h32 : EV _ (fv 32) w1 := hp 32 (LC (by kernel_rfl))
     refine tyAt_none rfl ?_
     simp [tyUpon, execOp, go_sem, Act.eval, h25, h32, hmu, hww, Below.refl]
   ·intro fv x17 hb1 hv
    have e0 : fv 0 = _ := hv 0 (by omega)
    have e1 : fv 1 = _ := hv 1 (by omega)
    have e2 : fv 2 = _ := hv 2 (by omega)
    have e3 : fv 3 = _ := hv 3 (by omega)
    have e4 : fv 4 = _ := hv 4 (by omega)
    have e5 : fv 5 = _ := hv 5 (by omega)
    have e6 : fv 6 = _ := hv 6 (by omega)
    have e7 : fv 7 = _ := hv 7 (by omega)
    have e8 : fv 8 = _ := hv 8 (by omega)
    have e9 : fv 9 = _ := hv 9 (by omega)
    have e10 : fv 10 = _ := hv 10 (by omega)
    have e11 : fv 11 = _ := hv 11 (by omega)
    have e12 : fv 12 = _ := hv 12 (by omega)
    have e13 : fv 13 = _ := hv 13 (by omega)
    have e14 : fv 14 = _ := hv 14 (by omega)
    have e15 : fv 15 = _ := hv 15 (by omega)
    have e16 : fv 16 = _ := hv 16 (by omega)
    have e17 : fv 17 = _ := hv 17 (by omega)
    have e18 : fv 18 = _ := hv 18 (by omega)
    have e19 : fv 19 = _ := hv 19 (by omega)
    have e20 : fv 20 = _ := hv 20 (by omega)
    have e21 : fv 21 = _ := hv 21 (by omega)
    have e22 : fv 22 = _ := hv 22 (by omega)
    have e23 : fv 23 = _ := hv 23 (by omega)
    have e24 : fv 24 = _ := hv 24 (by omega)
    have e25 : fv 25 = _ := hv 25 (by omega)
    have e26 : fv 26 = _ := hv 26 (by omega)
    have e27 : fv 27 = _ := hv 27 (by omega)
    have e28 : fv 28 = _ := hv 28 (by omega)
    have e29 : fv 29 = _ := hv 29 (by omega)
    have e30 : fv 30 = _ := hv 30 (by omega)
    have e31 : fv 31 = _ := hv 31 (by omega)
    have e32 : fv 32 = _ := hv 32 (by omega)
    have e33 : fv 33 = _ := hv 33 (by omega)
    simp only [List.take_succ_cons, List.take_zero, putsV, Act.put, List.setIfInBounds_toArray, List.set_cons_succ, List.set_cons_zero, List.drop_succ_cons, List.drop_zero, Nat.zero_add, Nat.reduceAdd, e0, e1, e2, e3, e4, e5, e6, e7, e8, e9, e10, e11, e12, e13, e14, e15, e16, e17, e18, e19, e20, e21, e22, e23, e24, e25, e26, e27, e28, e29, e30, e31, e32, e33]
    replace hL0 := hL0.call (below_drew hb1)
    replace hT := hT.call (below_drew hb1)
    clear e0 e1 e2 e3 e4 e5 e6 e7 e8 e9 e10 e11 e12 e13 e14 e15 e16 e17 e18 e19 e20 e21 e22 e23 e24 e25 e26 e27 e28 e29 e30 e31 e32 e33 hb1 hv fv
    clear hww
    go_wp2_with fail
    go_loopg [29] ouN (fun gk pv wr => ∃ (p : Nat) (zp : Int), p + gk = ouN ∧ pv = .int .i64 zp ∧ zp = (p : Int) ∧ GL w wr [(x15.heap.size, [.int .i64 (na : Int), .int .i64 (nb : Int), .slice g5 ouN g5c]), (x11.heap.size + 1, [.int .u64 ((zl (A na 0).num : Nat) : Int), .string (zh (A na 0).num), .bool (zs (A na 0).num), .int .u64 ((lo (fe (A na 0)) : Nat) : Int), .string (hs (fe (A na 0)))]), (x11.heap.size, [.int .u64 ((zl (T na).num : Nat) : Int), .string (zh (T na).num), .bool (zs (T na).num), .int .u64 ((lo (fe (T na)) : Nat) : Int), .string (hs (fe (T na)))]), (x10.heap.size, [.int .u64 ((zl (T na).num : Nat) : Int), .string (zh (T na).num), .bool (zs (T na).num), .int .u64 ((lo (fe (T na)) : Nat) : Int), .string (hs (fe (T na)))]), (x5.heap.size, [.int .i64 (na : Int), .int .i64 (nb : Int), .slice g1 d1 g1c]), (x1.heap.size, [.int .u8 zr, .int .u8 zc, .slice la lx ly]), (w.heap.size, [.int .u8 zr, .int .u8 zc, .slice la lx ly])] ∧ PTs wr [(.slice g5 ouN g5c, ou.l), (.slice g4 na g4c, vg), (.slice g3 na g3c, vy), (.slice g2 nb g2c, vx), (.slice g1 d1 g1c, x.l)])
    case atStart => exact ⟨0, 0, Nat.zero_add ouN, by first | rfl | go_num, rfl, hL0, hT⟩
    case round =>
     clear hL0 hT
     obtain ⟨p, zp, hpk, rfl, hzp, hL0, hT⟩ := hrel
     rcases Nat.lt_or_ge p ouN with hpn | hpn
     ·subst hzp
      have m1 : (p : Int) < (ouN : Int) := by omega
      have m0 : (0 : Int) ≤ (p : Int) := Int.natCast_nonneg _
      have mb : (p : Int) ≤ 100 := by omega
      obtain ⟨h1, h2, h3, h4⟩ := hpx.out p hpn
      have c1 := HM3.out p hpn
      obtain ⟨dp, hdp⟩ : ∃ q, q = p / nb := ⟨_, rfl⟩
      obtain ⟨mp, hmp⟩ : ∃ q, q = p % nb := ⟨_, rfl⟩
      rw [← hdp, ← hmp] at c1
      rw [← hdp] at h1 h3
      rw [← hmp] at h2 h4
      obtain ⟨qv, hqv⟩ : ∃ q, q = gv ou.l p := ⟨_, rfl⟩
      rw [← hqv] at c1
      replace c1 := Lib.hid c1
      replace hdp := Lib.hid hdp
      replace hmp := Lib.hid hmp
      have hne : ∀ W, (binOp .neq 36 (fracV qv) (fracV qv)).run Tryz.prog W = .ok (.bool false) W := fun W => by have := run_neqF qv qv true (by simp) W; exact this
      obtain ⟨bg, hbg, -, bf⟩ := slq_at (hT.get List.mem_cons_self) p (by rw [hoN.out]; exact hpn)
      obtain ⟨b0, b1, b2, b3, b4⟩ := fsc bf p (by rw [hoN.out]; exact hpn)
      clear bf
      subst hbg
      rw [← hqv] at b0 b1 b2 b3 b4
      replace hqv := Lib.hid hqv
      obtain ⟨dg, hdg, -, df⟩ := slq_at (hT.get (List.mem_cons_of_mem _ (List.mem_cons_of_mem _ List.mem_cons_self))) dp (by rw [lvy.out]; exact h1)
      obtain ⟨d0, d1, d2, d3, d4⟩ := fsc df dp (by rw [lvy.out]; exact h1)
      clear df
      subst hdg
      obtain ⟨fg, hfg, -, ff⟩ := slq_at (hT.get (List.mem_cons_of_mem _ (List.mem_cons_of_mem _ (List.mem_cons_of_mem _ List.mem_cons_self)))) mp (by rw [lvx.out]; exact h2)
      obtain ⟨f0, f1, f2, f3, f4⟩ := fsc ff mp (by rw [lvx.out]; exact h2)
      clear ff
      subst hfg
      have d9 : (dp : Int) < (na : Int) := by omega
      have f9 : (mp : Int) < (nb : Int) := by omega
      have d8 : (0 : Int) ≤ (dp : Int) := Int.natCast_nonneg _
      have f8 : (0 : Int) ≤ (mp : Int) := Int.natCast_nonneg _
      have d7 : (dp : Int) ≤ 100 := by omega
      have f7 : (mp : Int) ≤ 100 := by omega
      have n9 : ¬ (nb : Int) = 0 := by omega
      have n8 : ((nb : Int) == 0) = false := by simpa using n9
      clear h1 h2
      have hA0 := cells_of _ 0 [] rfl (hL0.get _ _ List.mem_cons_self)
      simp only [cellsF, and_true, Nat.zero_add, Nat.reduceAdd] at hA0
      go_upto_region 36 with fail
      obtain ⟨α, iα, F, hF1, hF2⟩ := cls wr
      have hb0 := fun yz => keepsC (hF1 yz) b0
      have hb1 := fun yz => keepsC (hF1 yz) b1
      have hb2 := fun yz => keepsC (hF1 yz) b2
      have hb3 := fun yz => keepsC (hF1 yz) b3
      have hb4 := fun yz => keepsC (hF1 yz) b4
      have hd0 := fun yz => keepsC (hF1 yz) d0
      have hd1 := fun yz => keepsC (hF1 yz) d1
      have hd2 := fun yz => keepsC (hF1 yz) d2
      have hd3 := fun yz => keepsC (hF1 yz) d3
      have hd4 := fun yz => keepsC (hF1 yz) d4
      have hf0 := fun yz => keepsC (hF1 yz) f0
      have hf1 := fun yz => keepsC (hF1 yz) f1
      have hf2 := fun yz => keepsC (hF1 yz) f2
      have hf3 := fun yz => keepsC (hF1 yz) f3
      have hf4 := fun yz => keepsC (hF1 yz) f4
      have hq1 := fun yz => cells_of _ 0 [] rfl ((hL0.call (hF1 yz)).get _ _ List.mem_cons_self)
      simp only [cellsF, and_true, Nat.zero_add, Nat.reduceAdd] at hq1
      clear b0 b1 b2 b3 b4 d0 d1 d2 d3 d4 f0 f1 f2 f3 f4
      refine region_cls (F := F) (by kernel_rfl) (lexB_of_fast (by kernel_rfl)) (cls_drew hF2) ?_
      repeat (go_big_quiet_step (first | fail | (go_at_call 20; with_reducible exact cls_call hF1 hF2 c1.out _)))
      refine wpQuiet_nil ?_
      rintro wq ⟨xq, rfl⟩
      replace hL0 := hL0.call (hF1 xq)
      replace hT := hT.call (hF1 xq)
      clear hb0 hb1 hb2 hb3 hb4 hd0 hd1 hd2 hd3 hd4 hf0 hf1 hf2 hf3 hf4 hq1 hF2
      generalize F xq = y8 at hL0 hT ⊢
      clear hF1 xq iα F α
      have hLz := Lib.hid hL0
      have hSz := Lib.hid hT
      clear hL0 hT hA0
      go_wp2_with fail
      go_roundg (ouN - (p + 1))
      case measure => omega
      case rel => exact ⟨p + 1, _, by omega, by first | rfl | go_num, by omega, hLz.out, hSz.out⟩
     ·obtain rfl : ouN = p := by omega
      subst hzp
      have m1 : ¬ (ouN : Int) < (ouN : Int) := by omega
      have hA0 := cells_of _ 0 [] rfl (hL0.get _ _ List.mem_cons_self)
      simp only [cellsF, and_true, Nat.zero_add, Nat.reduceAdd] at hA0
      go_wp2_with fail
      with_reducible refine Calls.mono (HW.out _ (hKT.out.at hL0.bl kKT)) ?_
      rintro e x18 ⟨rfl, hb⟩
      replace hL0 := hL0.call hb
      replace hT := hT.call hb
      clear hb
      go_wp2_with fail
      exact bodyPost_ret (v := .bool true) (by simp [results, Tryz.results4, go_sem]) rfl ⟨rfl, hL0.bl⟩
end Go.Proofs.YtjdjhlmcbffocaaGreatDoor
namespace Go.Proofs.YtjdjhlmcbffocaaGreatDoor
open Go.RowKit
attribute [local irreducible] lo hs sm s64 c64 d64 b64 mh ml pd pc qd qc val hiB str cmpI srD lz nb zl zh zs fe qmade
theorem t7a {z : Int} (h : 0 ≤ z) : ∃ d : Nat, Int.tmod z 7 = (d : Int) ∧ d ≤ 6 := by
 rw [Int.tmod_eq_emod_of_nonneg h]
 exact ⟨(z % 7).toNat, by omega, by omega⟩
theorem mmofa_any (ql : List (Int × Int)) (zr zc : Int) (al : Option Addr) (nl cl sa sb : Nat) (ea : Int.tmod zr 7 = (sa : Int)) (eb : Int.tmod zc 7 = (sb : Int)) (ha : sa ≤ 6) (hb : sb ≤ 6) (hn : nl ≤ 1000) (w : World) (hv : QV w (.slice al nl cl) ql) :
  Calls Tryz.prog 28 #[.agg #[.int .u8 zr, .int .u8 zc, .slice al nl cl]] w fun xe w' => ∃ u, xe = .returned u ∧ MT w' u (someM ql sa sb) ∧ Below w.heap.size w w' :=
 mMOf_w zr zc al nl cl sa sb (someM ql sa sb) (fun w => QV w (.slice al nl cl) ql) (QV.keeps _ _) (fun w h => msome_w ql sa sb nl zr zc al cl (by omega) (by omega) hn w h) ea eb (by omega) (by omega) rfl rfl w hv
section
variable {x : Mx} {n k K : Nat} (hx : GM x n k K) (hn : n ≤ 6) (hk : k ≤ 6)
include hx hn hk
theorem RowA (i : Nat) (hi : i < n) (p : Value) (w : World) (hp : MT w p x) : Calls Tryz.prog 32 #[p, .int .i64 (i : Int)] w fun e w' => ∃ g, e = .returned (.tuple #[.slice (some ⟨g, 0, none⟩) k k, .int .i64 0]) ∧ w.heap.size ≤ g ∧ Hd w' g (frCs (tabV k fun j => ent x i j)) ∧ Below w.heap.size w w' := by
 have ox := hx.ok (by omega) (by omega)
 obtain ⟨rfl, rfl, -, -⟩ := hx
 obtain ⟨u, rfl, hu⟩ := hp
 refine (mRowV x ox i hi u w hu).mono ?_
 rintro e w' ⟨t, rfl, ⟨g, rfl, h2, h3⟩, hb⟩
 rw [tabV_len]
 exact ⟨g, rfl, h2, h3, hb⟩
theorem ColA (j : Nat) (hj : j < k) (p : Value) (w : World) (hp : MT w p x) : Calls Tryz.prog 34 #[p, .int .i64 (j : Int)] w fun e w' => ∃ g, e = .returned (.tuple #[.slice (some ⟨g, 0, none⟩) n n, .int .i64 0]) ∧ w.heap.size ≤ g ∧ Hd w' g (frCs (tabV n fun i => ent x i j)) ∧ Below w.heap.size w w' := by
 have ox := hx.ok (by omega) (by omega)
 obtain ⟨rfl, rfl, -, -⟩ := hx
 obtain ⟨u, rfl, hu⟩ := hp
 refine (mColV x ox j hj u w hu).mono ?_
 rintro e w' ⟨t, rfl, ⟨g, rfl, h2, h3⟩, hb⟩
 rw [tabV_len]
 exact ⟨g, rfl, h2, h3, hb⟩
theorem AtA (i j : Nat) (hi : i < n) (hj : j < k) (p : Value) (w : World) (hp : MT w p x) : Calls Tryz.prog 33 #[p, .int .i64 (i : Int), .int .i64 (j : Int)] w fun e w' => e = .returned (.tuple #[fracV (ent x i j), .bool true]) ∧ Below w.heap.size w w' := by
 have ox := hx.ok (by omega) (by omega)
 obtain ⟨rfl, rfl, -, -⟩ := hx
 obtain ⟨u, rfl, hu⟩ := hp
 exact mAtV x ox i j hi hj u w hu
end
theorem OuterA {x y : List Rat} {n k : Nat} (hx : GV x n 1) (hy : GV y k 1) (hn : n ≤ 6) (hk : k ≤ 6) (p q : Value) (w : World) (hp : PT w p x) (hq : PT w q y) :
  Calls Tryz.prog 35 #[p, q] w fun e w' => ∃ pv, e = .returned (.tuple #[pv, .int .i64 0]) ∧ MT w' pv (tabM n k fun i j => gv x i * gv y j) ∧ Below w.heap.size w w' := by
 have h1 := hx.len
 have h2 := hy.len
 refine (mOuterV x y 1 (by omega) hx.sz hy.sz (by omega) (by omega) p q w hp hq).mono ?_
 rintro e w' ⟨t, rfl, hv, hb⟩
 rw [h1, h2] at hv ⊢
 exact ⟨_, rfl, ⟨t, rfl, hv.cq⟩, hb⟩
set_option maxHeartbeats 4000000 in
set_option maxRecDepth 10000 in
theorem mapply_any (l0 l1 l2 : List (Int × Int)) (x0 y0 : Int) (a0 a1 a2 : Option Addr) (n0 c0 n1 c1 n2 c2 : Nat) (b0 : 0 ≤ x0) (b1 : 0 ≤ y0) (w : World)
  (h0 : QV w (.slice a0 n0 c0) l0) (h1 : QV w (.slice a1 n1 c1) l1) (h2 : QV w (.slice a2 n2 c2) l2) (ht : Tab w) :
  Calls Tryz.prog 4 #[.agg #[.int .u8 x0, .int .u8 y0, .slice a0 n0 c0], .slice a1 n1 c1, .slice a2 n2 c2] w fun e w' => e = .returned (.bool true) ∧ Below w.heap.size w w' := by
 by_cases g1 : n0 ≤ 40
 case neg => exact mapply_l1 x0 y0 a0 a1 a2 n0 c0 n1 c1 n2 c2 (fun v w h => few_any [n0] false ⟨(fun h => by cases h), fun h => absurd (h n0 (by simp)) g1⟩ (by simp) v w h) Tab Keeps.tab mworks_any w ht
 have HF := fun (v : Value) (w : World) (h : FWs w v [n0]) => few_any [n0] true ⟨fun _ l hl => by
  rw [List.mem_singleton.1 hl]; exact g1, fun _ => rfl⟩ (by simp) v w h
 by_cases g2 : 20 < n1
 ·exact mapply_l2 x0 y0 a0 a1 a2 n0 c0 n1 c1 n2 c2 HF Tab Keeps.tab mworks_any (decide_eq_true (by omega)) (decide_eq_true g2) w ht
 by_cases g3 : 20 < n2
 ·exact mapply_l3 x0 y0 a0 a1 a2 n0 c0 n1 c1 n2 c2 HF Tab Keeps.tab mworks_any (decide_eq_false (by omega)) (decide_eq_false g2) (decide_eq_true (by omega)) (decide_eq_true g3) w ht
 obtain ⟨na, ea, na6⟩ := t7a b0
 obtain ⟨nb, eb, nb6⟩ := t7a b1
 have gx := someM_gm (qv_rg h0) na nb
 have HSd := fun w => msides_w x0 y0 a0 n0 c0 na nb ea eb (by omega) (by omega) w
 have HMo := fun w hv => mmofa_any l0 x0 y0 a0 n0 c0 na nb ea eb na6 nb6 (by omega) w hv
 have HV1 := fun w hv => mvec_w l1 nb n1 (by omega) (qv_len h1) (by omega) (.slice a1 n1 c1) w hv
 have HV2 := fun w hv => mvec_w l2 na n2 (by omega) (qv_len h2) (by omega) (.slice a2 n2 c2) w hv
 have gvx := vecM_gv (qv_rg h1) nb
 have gvy := vecM_gv (qv_rg h2) na
 generalize someM l0 na nb = x at gx HMo
 generalize vecM l1 nb = vx at gvx HV1
 generalize vecM l2 na = vy at gvy HV2
 have hnb : na * nb ≤ 36 := Nat.mul_le_mul na6 nb6
 have gva := (gx.app gvx).mono (show nb * (1 + 1 + 1) + 1 ≤ 19 by omega)
 have ox := gx.ok (by omega) (by omega)
 have HFo := fun u v z w h g f => MFormG (N := 19) gx gvy gvx (by omega) (by omega) (show nb * 3 + 1 ≤ 19 by omega) (by omega) (by omega) (by omega) u v z w h g f
 rw [form_tt] at HFo
 have HSu : ∀ (p : Value) (w : World), MT w p x → Calls Tryz.prog 36 #[p] w fun e w' => e = .returned (fracV (alA nb x na 0)) ∧ Below w.heap.size w w' := fun p w hp => by
  obtain ⟨u, rfl, hu⟩ := hp
  rw [← sum_al gx]
  exact mSumV x 1 ox (by rw [gx.len]; omega) (by omega) (by rw [gx.len]; omega) gx.sz u w hu
 have hr := gx.r
 have hc := gx.c
 exact mapply_w x0 y0 a0 a1 a2 n0 c0 n1 c1 n2 c2 na nb (na * nb) x (tabM na nb fun i j => gv vy i * gv vx j) vx vy (appV na nb x vx)
  (fun i => tabV nb fun j => ent x i j) (fun k => tabV na fun i => ent x i k) (alA nb x) (smA x vx) (fun i k => ent x i k * gv vx k) (ttA nb x vx vy) (fun i => gv vy i * smA x vx i nb)
  HF HSd (fun w => QV w (.slice a0 n0 c0) l0) (QV.keeps _ _) HMo
  (fun w => QV w (.slice a1 n1 c1) l1) (QV.keeps _ _) HV1
  (fun w => QV w (.slice a2 n2 c2) l2) (QV.keeps _ _) HV2
  (fun u v w h g => MApplyG gx gvx (by omega) (by omega) (by omega) (by omega) u v w h g)
  HFo
  (fun u v w h g => OuterA gvy gvx na6 nb6 u v w h g)
  HSu
  Tab Keeps.tab mworks_any
  (decide_eq_false (by omega)) (decide_eq_false g2) (decide_eq_false (by omega)) (decide_eq_false g3)
  (fun i hi p w hp => RowA gx na6 nb6 i hi p w hp)
  (fun k hk p w hp => ColA gx na6 nb6 k hk p w hp)
  (fun i k hi hk p w hp => AtA gx na6 nb6 i k hi hk p w hp)
  (fun i k hi hk w => mulF _ _ 1000 ((gx.at i k hi hk).mono (by omega)) ((gvx.at k hk).mono (by omega)) (by omega) w)
  (fun i k hi hk w => addF _ _ 1000 ((sm_sz gx gvx nb6 hi (by omega)).mono (by omega)) (((gx.at i k hi hk).mul (gvx.at k hk)).mono (by omega)) (by omega) w)
  (fun i k hi hk w => by rw [al_step]; exact addF _ _ 1000 (al_sz gx na6 nb6 hi (by omega)) ((gx.at i k hi hk).mono (by omega)) (by omega) w)
  (fun i hi w => mulF _ _ 1000 ((gvy.at i hi).mono (by omega)) ((sm_sz gx gvx nb6 hi (Nat.le_refl _)).mono (by omega)) (by omega) w)
  (fun i hi w => addF _ _ 1000 (tt_sz gx gvx gvy na6 nb6 (by omega)) (((gvy.at i hi).mul (sm_sz gx gvx nb6 hi (Nat.le_refl _))).mono (by omega)) (by omega) w)
  rfl (by show (0 : Rat) + 0 = 0; grind) (fun _ => rfl) (fun i => al_next nb x i) (fun i => tabV_len _ _) (fun k => tabV_len _ _)
  (fun i k hi hk => gv_tab hk) (fun i k hi hk => gv_tab hi) (fun i hi => app_sm hi)
  (fun p hp => ⟨(ix_row hp).1, (ix_row hp).2, by rw [Int.tdiv_eq_ediv_of_nonneg (by omega)]; rfl, by rw [Int.tmod_eq_emod_of_nonneg (by omega)]; rfl⟩)
  (fun p hp w => by
   have e : gv (tabM na nb fun i j => gv vy i * gv vx j).l p = gv vy (p / nb) * gv vx (p % nb) := gv_tab hp
   rw [e]
   exact mulF _ _ 1000 ((gvy.at _ (ix_row hp).1).mono (by omega)) ((gvx.at _ (ix_row hp).2).mono (by omega)) (by omega) w)
  (fun i k hi hk => by rw [gx.len]; exact ix_lt hi hk) (fun i hi => by have := Nat.mul_le_mul (show i ≤ 6 by omega) nb6; omega)
  (fun i k => by unfold ent; rw [hc])
  rfl rfl (tabV_len _ _) (by rw [Int.natCast_mul]) (by omega) (by rw [hr]) (by rw [hc]) gvx.len gvy.len (tabV_len _ _) na6 nb6
  w h0 h1 h2 ht
end Go.Proofs.YtjdjhlmcbffocaaGreatDoor
namespace Go.Proofs.YtjdjhlmcbffocaaGreatDoor
open Go.ChangeShapes Go.WideShapes Go.ChangeAt Go.RowKit
theorem laidOut : laidOutB Tryz.prog = true := by kernel_rfl
end Go.Proofs.YtjdjhlmcbffocaaGreatDoor
