/-
  The law answers true at every input, and leaves its arguments as they were: a part of the proof. CONDITIONS: the package-level tables start as the program's text lays them (the card ties them).
-/
import Derived.Test.YthkodldppaccmaaGreatDoorVca
set_option linter.unusedVariables false
set_option linter.unusedSimpArgs false
namespace Go.Proofs.YthkodldppaccmaaGreatDoor
open Go.RowKit
attribute [local irreducible] lo hs sm s64 c64 d64 b64 mh ml pd pc qd qc val hiB str cmpI srD lz nb zl zh zs fe rowV tabV gv bsV turM mulM sumM oneM appV formM tabM dotL sumL mulL
set_option maxHeartbeats 16000000 in
set_option maxRecDepth 100000 in
theorem merr_big (r c i k zn : Int) (m : Nat) (rs cs pm cz : Nat) (bi0 bi1 bk0 bk1 bz : Bool) (er ef eg eh es et eu ev ew : Int) (HCk : ∀ (p0 : Value) (w : World), XM w p0 r c m → Calls Tryz.prog 51 #[p0] w fun e w' => e = .returned (.int .i64 0) ∧ Below w.heap.size w w') (HSm : ∀ (p0 : Value) (w : World), XM w p0 r c m → Calls Tryz.prog 67 #[p0, .agg #[.int .i64 r, .int .i64 c, .slice none 0 0]] w fun e w' => e = .returned (.bool bz) ∧ Below w.heap.size w w') (HAt : ∀ (p0 : Value) (w : World), XM w p0 r c m → Calls Tryz.prog 62 #[p0, .int .i64 i, .int .i64 k] w fun e w' => e = .returned (.tuple #[.agg #[.int .u64 0, .string ⟨#[]⟩, .bool false, .int .u64 0, .string ⟨#[]⟩], .bool (((bi0 && bi1) && bk0) && bk1)]) ∧ Below w.heap.size w w') (HRo : ∀ (p0 : Value) (w : World), XM w p0 r c m → Calls Tryz.prog 61 #[p0, .int .i64 i] w fun e w' => ∃ pv, e = .returned (.tuple #[pv, .int .i64 er]) ∧ YS pv ∧ Below w.heap.size w w') (HCo : ∀ (p0 : Value) (w : World), XM w p0 r c m → Calls Tryz.prog 63 #[p0, .int .i64 k] w fun e w' => ∃ pv, e = .returned (.tuple #[pv, .int .i64 ef]) ∧ YS pv ∧ Below w.heap.size w w') (HP1 : ∀ (p0 p1 : Value) (w : World), XM w p0 r c m → ILs w p1 ([i]) → Calls Tryz.prog 77 #[p0, p1, .slice none 0 0] w fun e w' => ∃ pv, e = .returned (.tuple #[pv, .int .i64 eg]) ∧ WS pv ∧ Below w.heap.size w w') (HP2 : ∀ (p0 p2 : Value) (w : World), XM w p0 r c m → ILs w p2 ([k]) → Calls Tryz.prog 77 #[p0, .slice none 0 0, p2] w fun e w' => ∃ pv, e = .returned (.tuple #[pv, .int .i64 eh]) ∧ WS pv ∧ Below w.heap.size w w') (HAd : ∀ (p0 p1 : Value) (w : World), XM w p0 r c m → XM w p1 (rs : Int) c pm → Calls Tryz.prog 45 #[p0, p1] w fun e w' => e = .returned (.tuple #[.agg #[.int .i64 0, .int .i64 0, .slice none 0 0], .int .i64 es]) ∧ Below w.heap.size w w') (HSu : ∀ (p0 p1 : Value) (w : World), XM w p0 (rs : Int) c pm → XM w p1 r c m → Calls Tryz.prog 46 #[p0, p1] w fun e w' => e = .returned (.tuple #[.agg #[.int .i64 0, .int .i64 0, .slice none 0 0], .int .i64 et]) ∧ Below w.heap.size w w') (HMu : ∀ (p0 : Value) (w : World), XM w p0 r c m → Calls Tryz.prog 48 #[p0, .agg #[.int .i64 (cs : Int), .int .i64 0, .slice none 0 0]] w fun e w' => e = .returned (.tuple #[.agg #[.int .i64 0, .int .i64 0, .slice none 0 0], .int .i64 eu]) ∧ Below w.heap.size w w') (HAp : ∀ (p0 p1 : Value) (w : World), XM w p0 r c m → PT w p1 (List.replicate cs 0) → Calls Tryz.prog 59 #[p0, p1] w fun e w' => e = .returned (.tuple #[.slice none 0 0, .int .i64 ev]) ∧ Below w.heap.size w w') (HFo : ∀ (p0 p1 p2 : Value) (w : World), XM w p0 r c m → PT w p1 (List.replicate rs 0) → PT w p2 (List.replicate cz 0) → Calls Tryz.prog 60 #[p0, p1, p2] w fun e w' => e = .returned (.tuple #[.agg #[.int .u64 0, .string ⟨#[]⟩, .bool false, .int .u64 0, .string ⟨#[]⟩], .int .i64 ew]) ∧ Below w.heap.size w w') (KT : World → Prop) (hKT : Keeps KT) (HW : ∀ w, KT w → Calls Tryz.prog 41 #[] w fun xe w' => xe = .returned (.bool true) ∧ Below w.heap.size w w') (ezn : Int.tmod zn 60 = (m : Int)) (m59 : (m : Int) ≤ 59) (r0 : 0 ≤ r) (r9 : r ≤ 2048) (c0 : 0 ≤ c) (c9 : c ≤ 2048) (epz : r * c = (m : Int)) (er1 : r + 1 = (rs : Int)) (ec1 : c + 1 = (cs : Int)) (ep1 : (rs : Int) * c = (pm : Int)) (p19 : (pm : Int) ≤ 5000) (ecn : c = (cz : Int)) (hbz : ((m : Int) == 0) = bz) (hbz2 : (m == 0) = bz) (hbz3 : decide (m = 0) = bz) (di0 : decide (0 ≤ i) = bi0) (di1 : decide (i < r) = bi1) (dk0 : decide (0 ≤ k) = bk0) (dk1 : decide (k < c) = bk1) (qer : (er == 0) = (bi0 && bi1)) (qef : (ef == 0) = (bk0 && bk1)) (qeg : (eg == 0) = (bi0 && bi1)) (qeh : (eh == 0) = (bk0 && bk1)) (her : er = 0 ∨ er = 1) (hef : ef = 0 ∨ ef = 1) (heg : eg = 0 ∨ eg = 1) (heh : eh = 0 ∨ eh = 1) (hw : (r == 2048) = true ∨ ((r == 2048) = false ∧ (c == 2048) = true)) (w : World) (kKT : KT w) :
  Calls Tryz.prog 10 #[.int .i64 r, .int .i64 c, .int .u8 zn, .int .i64 i, .int .i64 k] w fun e w' => e = .returned (.bool true) ∧ Below w.heap.size w w' := by
 replace HCk := Lib.hid HCk
 replace HSm := Lib.hid HSm
 replace HAt := Lib.hid HAt
 replace HRo := Lib.hid HRo
 replace HCo := Lib.hid HCo
 replace HP1 := Lib.hid HP1
 replace HP2 := Lib.hid HP2
 replace HAd := Lib.hid HAd
 replace HSu := Lib.hid HSu
 replace HMu := Lib.hid HMu
 replace HAp := Lib.hid HAp
 replace HFo := Lib.hid HFo
 replace hKT := Lib.hid hKT
 replace HW := Lib.hid HW
 have hL0 : GL w w [] := GL.start w
 have hT : PTs w [] := PTs.nil w
 have m0 : (0 : Int) ≤ (m : Int) := Int.natCast_nonneg _
 have hmkm := Lib.hid fun W => makeM W (m : Int) m rfl (by omega)
 replace her := Lib.hid her
 replace hef := Lib.hid hef
 replace heg := Lib.hid heg
 replace heh := Lib.hid heh
 have r8 : ¬ r < 0 := by omega
 have c8 : ¬ c < 0 := by omega
 have r7 : ¬ (2048 : Int) < r := by omega
 have c7 : ¬ (2048 : Int) < c := by omega
 have p10 : (0 : Int) ≤ (pm : Int) := Int.natCast_nonneg _
 have r10 : (0 : Int) ≤ (rs : Int) := Int.natCast_nonneg _
 have c10 : (0 : Int) ≤ (cs : Int) := Int.natCast_nonneg _
 have r19 : (rs : Int) ≤ 2049 := by omega
 have c19 : (cs : Int) ≤ 2049 := by omega
 have hmkpm := Lib.hid fun W => makeM W (pm : Int) pm rfl (by omega)
 have hmkcs := Lib.hid fun W => makeV W (cs : Int) cs rfl (by omega)
 have hmkrs := Lib.hid fun W => makeV W (rs : Int) rs rfl (by omega)
 have hmkcz := Lib.hid fun W => makeV W c cz ecn (by omega)
 clear ecn
 have hwr : IntKind.i64.wrap (r + 1) = (rs : Int) := by rw [i64w9 _ (by omega) (by omega)]; exact er1
 have hwc : IntKind.i64.wrap (c + 1) = (cs : Int) := by rw [i64w9 _ (by omega) (by omega)]; exact ec1
 have hne0 : ∀ W, (binOp .neq 38 (.agg #[.int .u64 0, .string ⟨#[]⟩, .bool false, .int .u64 0, .string ⟨#[]⟩]) (.agg #[.int .u64 0, .string ⟨#[]⟩, .bool false, .int .u64 0, .string ⟨#[]⟩])).run Tryz.prog W = .ok (.bool false) W := fun W => by have := run_neqF 0 0 true (by simp) W; rwa [frV_q0] at this
 rcases hw with hR | ⟨hR, hC⟩
 all_goals (
  have hmkm' := hmkm.out w
  have hb0 : Below w.heap.size w (w.alloc (.cells (frCs (List.replicate m 0)).toArray 38)) := (Below.refl _ _).alloc (Nat.le_refl _) _
  have hq0 : SlQ (w.alloc (.cells (frCs (List.replicate m 0)).toArray 38)) (.slice (some ⟨w.heap.size, 0, none⟩) m m) (List.replicate m 0) := slq_new0 (hd_new w (frCs (List.replicate m 0)) _)
  generalize hwz : (w.alloc (.cells (frCs (List.replicate m 0)).toArray 38)) = x1 at hb0 hq0
  rw [hwz] at hmkm'
  replace hL0 := hL0.call hb0
  replace hT := hT.call hb0
  replace hT := hT.cons hq0
  clear hb0 hq0 hwz
  replace hT := (hT.new (.cells #[.int .i64 0, .int .i64 0, .slice none 0 0] 81))
  replace hL0 := (hL0.new rfl [.int .i64 0, .int .i64 0, .slice none 0 0] 81)
  generalize hweq : (x1.alloc (.cells #[.int .i64 0, .int .i64 0, .slice none 0 0] 81)) = x2 at hL0 hT
  go_enter Tryz.func10, Tryz.ntmps10
  have hT1 := hT.putM ((((Upd.refl x1.heap.size x2).setCell 0 (.int .i64 r)).setCell 1 (.int .i64 c)).setCell 2 (.slice (some ⟨w.heap.size, 0, none⟩) m m)) (hL0.get _ _ List.mem_cons_self) (by intro n; simp)
  have hA := hL0.fc
  simp only [fcG, cellsF, neK, and_true, ne_eq, Nat.zero_add, Nat.reduceAdd] at hA
  have hP := hL0.put 0 (x1.heap.size) _ rfl [.int .i64 r, .int .i64 c, .slice (some ⟨w.heap.size, 0, none⟩) m m] rfl
  simp only [setAll, List.set_cons_zero, List.set_cons_succ] at hP
  generalize hput1 : (((x2.setCell ⟨x1.heap.size, 0, none⟩ (.int .i64 r)).setCell ⟨x1.heap.size, 1, none⟩ (.int .i64 c)).setCell ⟨x1.heap.size, 2, none⟩ (.slice (some ⟨w.heap.size, 0, none⟩) m m)) = x3 at hP hT1
  have hB1 := hP.fc
  simp only [fcG, cellsF, neK, and_true, ne_eq, Nat.zero_add, Nat.reduceAdd] at hB1
  replace hL0 := hP
  replace hT := hT1
  clear hT1
  go_upto_region 9 with fail
  clear hweq
  clear hput1 hB1
  clear hA
  refine region_tl 16 [EV (.agg #[.int .i64 r, .int .i64 c, .slice (some ⟨w.heap.size, 0, none⟩) m m]), EV (.int .i64 0), EV (.int .i64 0), EV (.bool false), EV (.bool false), EV (.agg #[.int .i64 r, .int .i64 c, .slice (some ⟨w.heap.size, 0, none⟩) m m]), EV (.int .i64 r), EV (.int .i64 c), EV (.agg #[.int .i64 r, .int .i64 c, .slice none 0 0]), EV (.bool bz), EV (.pointer (some ⟨x1.heap.size, 2, none⟩)), EV (.slice (some ⟨w.heap.size, 0, none⟩) m m), EV (.int .i64 (m : Int)), EV (.bool bz), EV (.bool false), EV (.bool false)] (by kernel_rfl) (by kernel_rfl) ?_ ?_ ?_
  ·exact stays_cons (stays_eq _) (stays_cons (stays_eq _) (stays_cons (stays_eq _) (stays_cons (stays_eq _) (stays_cons (stays_eq _) (stays_cons (stays_eq _) (stays_cons (stays_eq _) (stays_cons (stays_eq _) (stays_cons (stays_eq _) (stays_cons (stays_eq _) (stays_cons (stays_eq _) (stays_cons (stays_eq _) (stays_cons (stays_eq _) (stays_cons (stays_eq _) (stays_cons (stays_eq _) (stays_cons (stays_eq _) (stays_nil))))))))))))))))
  ·simp only [List.take_succ_cons, List.take_zero, hopsR, and_true]
   refine ⟨?_, ?_, ?_, ?_, ?_, ?_, ?_, ?_, ?_, ?_, ?_, ?_, ?_, ?_, ?_, ?_⟩ <;> intro fv w1 hb1 hp
   all_goals (simp only [putsV, Act.put, List.setIfInBounds_toArray, List.set_cons_succ, List.set_cons_zero, Nat.zero_add, Nat.reduceAdd])
   ·refine tyAt_none rfl ?_
    have hc := (hL0.call (below_drew hb1)).fc
    simp only [fcG, cellsF, neK, and_true, ne_eq, Nat.zero_add, Nat.reduceAdd] at hc
    simp [tyUpon, execOp, go_sem, Act.eval, hc, hbz, hbz2, hbz3, hwr, hwc, Below.refl]
   ·have h0 : EV _ (fv 0) w1 := hp 0 (LC (by kernel_rfl))
    refine tyAt_none rfl ?_
    refine ty_call (f := 51) (args := #[.agg #[.int .i64 r, .int .i64 c, .slice (some ⟨w.heap.size, 0, none⟩) m m]]) (by simp [execOp, go_sem, Act.eval, h0]) ?_
    exact (HCk.out (.agg #[.int .i64 r, .int .i64 c, .slice (some ⟨w.heap.size, 0, none⟩) m m]) w1 (xm_of (PT.below (hT.get List.mem_cons_self) (below_drew hb1)) (Nat.le_refl _))).mono fun e w2 ⟨h1, h2⟩ => ⟨_, h1, rfl, h2⟩
   ·refine tyAt_none rfl ?_
    simp [tyUpon, execOp, go_sem, Act.eval, hbz, hbz2, hbz3, hwr, hwc, Below.refl]
   ·have h1 : EV _ (fv 1) w1 := hp 1 (LC (by kernel_rfl))
    have h2 : EV _ (fv 2) w1 := hp 2 (LC (by kernel_rfl))
    refine tyAt_none rfl ?_
    simp [tyUpon, execOp, go_sem, Act.eval, h1, h2, hbz, hbz2, hbz3, hwr, hwc, Below.refl]
   ·have h3 : EV _ (fv 3) w1 := hp 3 (LC (by kernel_rfl))
    refine tyAt_none rfl ?_
    simp [tyUpon, execOp, go_sem, Act.eval, h3, hbz, hbz2, hbz3, hwr, hwc, Below.refl]
   ·have h4 : EV _ (fv 4) w1 := hp 4 (LC (by kernel_rfl))
    refine tyAt_yes (by simp [Region.wanted, yielded, h4]) ?_
    have hc := (hL0.call (below_drew hb1)).fc
    simp only [fcG, cellsF, neK, and_true, ne_eq, Nat.zero_add, Nat.reduceAdd] at hc
    simp [tyUpon, execOp, go_sem, Act.eval, hc, h4, hbz, hbz2, hbz3, hwr, hwc, Below.refl]
   ·have h4 : EV _ (fv 4) w1 := hp 4 (LC (by kernel_rfl))
    refine tyAt_yes (by simp [Region.wanted, yielded, h4]) ?_
    simp [tyUpon, execOp, go_sem, Act.eval, h4, hbz, hbz2, hbz3, hwr, hwc, Below.refl]
   ·have h4 : EV _ (fv 4) w1 := hp 4 (LC (by kernel_rfl))
    refine tyAt_yes (by simp [Region.wanted, yielded, h4]) ?_
    simp [tyUpon, execOp, go_sem, Act.eval, h4, hbz, hbz2, hbz3, hwr, hwc, Below.refl]
   ·have h6 : EV _ (fv 6) w1 := hp 6 (LC (by kernel_rfl))
    have h7 : EV _ (fv 7) w1 := hp 7 (LC (by kernel_rfl))
    have h4 : EV _ (fv 4) w1 := hp 4 (LC (by kernel_rfl))
    refine tyAt_yes (by simp [Region.wanted, yielded, h6, h7, h4]) ?_
    simp [tyUpon, execOp, go_sem, Act.eval, h6, h7, h4, hbz, hbz2, hbz3, hwr, hwc, Below.refl]
   ·have h5 : EV _ (fv 5) w1 := hp 5 (LC (by kernel_rfl))
    have h8 : EV _ (fv 8) w1 := hp 8 (LC (by kernel_rfl))
    have h4 : EV _ (fv 4) w1 := hp 4 (LC (by kernel_rfl))
    refine tyAt_yes (by simp [Region.wanted, yielded, h5, h8, h4]) ?_
    refine ty_call (f := 67) (args := #[.agg #[.int .i64 r, .int .i64 c, .slice (some ⟨w.heap.size, 0, none⟩) m m], .agg #[.int .i64 r, .int .i64 c, .slice none 0 0]]) (by simp [execOp, go_sem, Act.eval, h5, h8, h4]) ?_
    exact (HSm.out (.agg #[.int .i64 r, .int .i64 c, .slice (some ⟨w.heap.size, 0, none⟩) m m]) w1 (xm_of (PT.below (hT.get List.mem_cons_self) (below_drew hb1)) (Nat.le_refl _))).mono fun e w2 ⟨h1, h2⟩ => ⟨_, h1, rfl, h2⟩
   ·have h4 : EV _ (fv 4) w1 := hp 4 (LC (by kernel_rfl))
    refine tyAt_yes (by simp [Region.wanted, yielded, h4]) ?_
    simp [tyUpon, execOp, go_sem, Act.eval, h4, hbz, hbz2, hbz3, hwr, hwc, Below.refl]
   ·have h10 : EV _ (fv 10) w1 := hp 10 (LC (by kernel_rfl))
    have h4 : EV _ (fv 4) w1 := hp 4 (LC (by kernel_rfl))
    refine tyAt_yes (by simp [Region.wanted, yielded, h10, h4]) ?_
    have hc := (hL0.call (below_drew hb1)).fc
    simp only [fcG, cellsF, neK, and_true, ne_eq, Nat.zero_add, Nat.reduceAdd] at hc
    simp [tyUpon, execOp, go_sem, Act.eval, hc, h10, h4, hbz, hbz2, hbz3, hwr, hwc, Below.refl]
   ·have h11 : EV _ (fv 11) w1 := hp 11 (LC (by kernel_rfl))
    have h4 : EV _ (fv 4) w1 := hp 4 (LC (by kernel_rfl))
    refine tyAt_yes (by simp [Region.wanted, yielded, h11, h4]) ?_
    simp [tyUpon, execOp, go_sem, Act.eval, h11, h4, hbz, hbz2, hbz3, hwr, hwc, Below.refl]
   ·have h12 : EV _ (fv 12) w1 := hp 12 (LC (by kernel_rfl))
    have h4 : EV _ (fv 4) w1 := hp 4 (LC (by kernel_rfl))
    refine tyAt_yes (by simp [Region.wanted, yielded, h12, h4]) ?_
    simp [tyUpon, execOp, go_sem, Act.eval, h12, h4, hbz, hbz2, hbz3, hwr, hwc, Below.refl]
   ·have h9 : EV _ (fv 9) w1 := hp 9 (LC (by kernel_rfl))
    have h13 : EV _ (fv 13) w1 := hp 13 (LC (by kernel_rfl))
    have h4 : EV _ (fv 4) w1 := hp 4 (LC (by kernel_rfl))
    refine tyAt_yes (by simp [Region.wanted, yielded, h9, h13, h4]) ?_
    simp [tyUpon, execOp, go_sem, Act.eval, h9, h13, h4, hbz, hbz2, hbz3, hwr, hwc, Below.refl]
   ·have h4 : EV _ (fv 4) w1 := hp 4 (LC (by kernel_rfl))
    have h14 : EV _ (fv 14) w1 := hp 14 (LC (by kernel_rfl))
    refine tyAt_none rfl ?_
    simp [tyUpon, execOp, go_sem, Act.eval, h4, h14, hbz, hbz2, hbz3, hwr, hwc, Below.refl]
  ·intro fv x4 hb1 hv
   have e0 : fv 0 = _ := hv 0 (by omega)
   have e1 : fv 1 = _ := hv 1 (by omega)
   have e2 : fv 2 = _ := hv 2 (by omega)
   have e3 : fv 3 = _ := hv 3 (by omega)
   have e4 : fv 4 = _ := hv 4 (by omega)
   have e5 : fv 5 = _ := hv 5 (by omega)
   have e6 : fv 6 = _ := hv 6 (by omega)
   have e7 : fv 7 = _ := hv 7 (by omega)
   have e8 : fv 8 = _ := hv 8 (by omega)
   have e9 : fv 9 = _ := hv 9 (by omega)
   have e10 : fv 10 = _ := hv 10 (by omega)
   have e11 : fv 11 = _ := hv 11 (by omega)
   have e12 : fv 12 = _ := hv 12 (by omega)
   have e13 : fv 13 = _ := hv 13 (by omega)
   have e14 : fv 14 = _ := hv 14 (by omega)
   have e15 : fv 15 = _ := hv 15 (by omega)
   simp only [List.take_succ_cons, List.take_zero, putsV, Act.put, List.setIfInBounds_toArray, List.set_cons_succ, List.set_cons_zero, List.drop_succ_cons, List.drop_zero, Nat.zero_add, Nat.reduceAdd, e0, e1, e2, e3, e4, e5, e6, e7, e8, e9, e10, e11, e12, e13, e14, e15]
   replace hL0 := hL0.call (below_drew hb1)
   replace hT := hT.call (below_drew hb1)
   clear e0 e1 e2 e3 e4 e5 e6 e7 e8 e9 e10 e11 e12 e13 e14 e15 hb1 hv fv
   go_upto_region 13 with fail
   refine wp_region_lit ?_
   refine wpl_pure (fun u => u = .int .i64 i) ?_ ?_
   ·rw [if_pos (by simp [Region.wanted])]; exact ⟨.int .i64 i, by simp [execOp, go_sem, Act.eval, di0, di1, dk0, dk1], rfl⟩
   rintro _ rfl
   simp only [Act.put, List.setIfInBounds_toArray, List.set_cons_succ, List.set_cons_zero, Nat.zero_add, Nat.reduceAdd]
   refine wpl_pure (fun u => u = .bool bi0) ?_ ?_
   ·rw [if_pos (by simp [Region.wanted])]; exact ⟨.bool bi0, by simp [execOp, go_sem, Act.eval, di0, di1, dk0, dk1], rfl⟩
   rintro _ rfl
   simp only [Act.put, List.setIfInBounds_toArray, List.set_cons_succ, List.set_cons_zero, Nat.zero_add, Nat.reduceAdd]
   refine wpl_pure (fun u => u = .bool bi0) ?_ ?_
   ·rw [if_pos (by simp [Region.wanted])]; exact ⟨.bool bi0, by simp [execOp, go_sem, Act.eval, di0, di1, dk0, dk1], rfl⟩
   rintro _ rfl
   simp only [Act.put, List.setIfInBounds_toArray, List.set_cons_succ, List.set_cons_zero, Nat.zero_add, Nat.reduceAdd]
   refine wpl_pure (fun u => (bi0) = true → u = .int .i64 i) ?_ ?_
   ·by_cases hcb : (bi0) = true
    ·rw [if_pos (by simp [Region.wanted, yielded, hcb])]; exact ⟨.int .i64 i, by simp [execOp, go_sem, Act.eval, di0, di1, dk0, dk1], fun _ => rfl⟩
    ·have hcf : (bi0) = false := by simpa using hcb
     rw [if_neg (by simp [Region.wanted, yielded, hcf])]; exact fun h => absurd h hcb
   intro u13_3 hu13_3
   simp only [Act.put, List.setIfInBounds_toArray, List.set_cons_succ, List.set_cons_zero, Nat.zero_add, Nat.reduceAdd]
   refine wpl_pure (fun u => (bi0) = true → u = .int .i64 r) ?_ ?_
   ·by_cases hcb : (bi0) = true
    ·rw [if_pos (by simp [Region.wanted, yielded, hcb])]; exact ⟨.int .i64 r, by simp [execOp, go_sem, Act.eval, di0, di1, dk0, dk1], fun _ => rfl⟩
    ·have hcf : (bi0) = false := by simpa using hcb
     rw [if_neg (by simp [Region.wanted, yielded, hcf])]; exact fun h => absurd h hcb
   intro u13_4 hu13_4
   simp only [Act.put, List.setIfInBounds_toArray, List.set_cons_succ, List.set_cons_zero, Nat.zero_add, Nat.reduceAdd]
   refine wpl_pure (fun u => (bi0) = true → u = .bool bi1) ?_ ?_
   ·by_cases hcb : (bi0) = true
    ·rw [if_pos (by simp [Region.wanted, yielded, hcb])]; exact ⟨.bool bi1, by simp [execOp, go_sem, Act.eval, di0, di1, dk0, dk1, hu13_3 hcb, hu13_4 hcb], fun _ => rfl⟩
    ·have hcf : (bi0) = false := by simpa using hcb
     rw [if_neg (by simp [Region.wanted, yielded, hcf])]; exact fun h => absurd h hcb
   intro u13_5 hu13_5
   simp only [Act.put, List.setIfInBounds_toArray, List.set_cons_succ, List.set_cons_zero, Nat.zero_add, Nat.reduceAdd]
   refine wpl_pure (fun u => u = .bool (bi0 && bi1)) ?_ ?_
   ·rw [if_pos (by simp [Region.wanted])]
    by_cases hcb : (bi0) = true
    ·exact ⟨.bool (bi0 && bi1), by simp [execOp, go_sem, Act.eval, di0, di1, dk0, dk1, hcb, hu13_5 hcb], rfl⟩
    ·have hcf : (bi0) = false := by simpa using hcb
     exact ⟨.bool (bi0 && bi1), by simp [execOp, go_sem, Act.eval, di0, di1, dk0, dk1, hcf], rfl⟩
   rintro _ rfl
   simp only [Act.put, List.setIfInBounds_toArray, List.set_cons_succ, List.set_cons_zero, Nat.zero_add, Nat.reduceAdd]
   refine wpl_pure (fun u => u = .bool (bi0 && bi1)) ?_ ?_
   ·rw [if_pos (by simp [Region.wanted])]; exact ⟨.bool (bi0 && bi1), by simp [execOp, go_sem, Act.eval, di0, di1, dk0, dk1], rfl⟩
   rintro _ rfl
   simp only [Act.put, List.setIfInBounds_toArray, List.set_cons_succ, List.set_cons_zero, Nat.zero_add, Nat.reduceAdd]
   refine wpl_pure (fun u => ((bi0 && bi1)) = true → u = .int .i64 k) ?_ ?_
   ·by_cases hcb : ((bi0 && bi1)) = true
    ·rw [if_pos (by simp [Region.wanted, yielded, hcb])]; exact ⟨.int .i64 k, by simp [execOp, go_sem, Act.eval, di0, di1, dk0, dk1], fun _ => rfl⟩
    ·have hcf : ((bi0 && bi1)) = false := by simpa using hcb
     rw [if_neg (by simp [Region.wanted, yielded, hcf])]; exact fun h => absurd h hcb
   intro u13_8 hu13_8
   simp only [Act.put, List.setIfInBounds_toArray, List.set_cons_succ, List.set_cons_zero, Nat.zero_add, Nat.reduceAdd]
   refine wpl_pure (fun u => ((bi0 && bi1)) = true → u = .bool bk0) ?_ ?_
   ·by_cases hcb : ((bi0 && bi1)) = true
    ·rw [if_pos (by simp [Region.wanted, yielded, hcb])]; exact ⟨.bool bk0, by simp [execOp, go_sem, Act.eval, di0, di1, dk0, dk1, hu13_8 hcb], fun _ => rfl⟩
    ·have hcf : ((bi0 && bi1)) = false := by simpa using hcb
     rw [if_neg (by simp [Region.wanted, yielded, hcf])]; exact fun h => absurd h hcb
   intro u13_9 hu13_9
   simp only [Act.put, List.setIfInBounds_toArray, List.set_cons_succ, List.set_cons_zero, Nat.zero_add, Nat.reduceAdd]
   refine wpl_pure (fun u => u = .bool ((bi0 && bi1) && bk0)) ?_ ?_
   ·rw [if_pos (by simp [Region.wanted])]
    by_cases hcb : ((bi0 && bi1)) = true
    ·exact ⟨.bool ((bi0 && bi1) && bk0), by simp [execOp, go_sem, Act.eval, di0, di1, dk0, dk1, hcb, hu13_9 hcb], rfl⟩
    ·have hcf : ((bi0 && bi1)) = false := by simpa using hcb
     exact ⟨.bool ((bi0 && bi1) && bk0), by simp [execOp, go_sem, Act.eval, di0, di1, dk0, dk1, hcf], rfl⟩
   rintro _ rfl
   simp only [Act.put, List.setIfInBounds_toArray, List.set_cons_succ, List.set_cons_zero, Nat.zero_add, Nat.reduceAdd]
   refine wpl_pure (fun u => u = .bool ((bi0 && bi1) && bk0)) ?_ ?_
   ·rw [if_pos (by simp [Region.wanted])]; exact ⟨.bool ((bi0 && bi1) && bk0), by simp [execOp, go_sem, Act.eval, di0, di1, dk0, dk1], rfl⟩
   rintro _ rfl
   simp only [Act.put, List.setIfInBounds_toArray, List.set_cons_succ, List.set_cons_zero, Nat.zero_add, Nat.reduceAdd]
   refine wpl_pure (fun u => (((bi0 && bi1) && bk0)) = true → u = .int .i64 k) ?_ ?_
   ·by_cases hcb : (((bi0 && bi1) && bk0)) = true
    ·rw [if_pos (by simp [Region.wanted, yielded, hcb])]; exact ⟨.int .i64 k, by simp [execOp, go_sem, Act.eval, di0, di1, dk0, dk1], fun _ => rfl⟩
    ·have hcf : (((bi0 && bi1) && bk0)) = false := by simpa using hcb
     rw [if_neg (by simp [Region.wanted, yielded, hcf])]; exact fun h => absurd h hcb
   intro u13_12 hu13_12
   simp only [Act.put, List.setIfInBounds_toArray, List.set_cons_succ, List.set_cons_zero, Nat.zero_add, Nat.reduceAdd]
   refine wpl_pure (fun u => (((bi0 && bi1) && bk0)) = true → u = .int .i64 c) ?_ ?_
   ·by_cases hcb : (((bi0 && bi1) && bk0)) = true
    ·rw [if_pos (by simp [Region.wanted, yielded, hcb])]; exact ⟨.int .i64 c, by simp [execOp, go_sem, Act.eval, di0, di1, dk0, dk1], fun _ => rfl⟩
    ·have hcf : (((bi0 && bi1) && bk0)) = false := by simpa using hcb
     rw [if_neg (by simp [Region.wanted, yielded, hcf])]; exact fun h => absurd h hcb
   intro u13_13 hu13_13
   simp only [Act.put, List.setIfInBounds_toArray, List.set_cons_succ, List.set_cons_zero, Nat.zero_add, Nat.reduceAdd]
   refine wpl_pure (fun u => (((bi0 && bi1) && bk0)) = true → u = .bool bk1) ?_ ?_
   ·by_cases hcb : (((bi0 && bi1) && bk0)) = true
    ·rw [if_pos (by simp [Region.wanted, yielded, hcb])]; exact ⟨.bool bk1, by simp [execOp, go_sem, Act.eval, di0, di1, dk0, dk1, hu13_12 hcb, hu13_13 hcb], fun _ => rfl⟩
    ·have hcf : (((bi0 && bi1) && bk0)) = false := by simpa using hcb
     rw [if_neg (by simp [Region.wanted, yielded, hcf])]; exact fun h => absurd h hcb
   intro u13_14 hu13_14
   simp only [Act.put, List.setIfInBounds_toArray, List.set_cons_succ, List.set_cons_zero, Nat.zero_add, Nat.reduceAdd]
   refine wpl_pure (fun u => u = .bool (((bi0 && bi1) && bk0) && bk1)) ?_ ?_
   ·rw [if_pos (by simp [Region.wanted])]
    by_cases hcb : (((bi0 && bi1) && bk0)) = true
    ·exact ⟨.bool (((bi0 && bi1) && bk0) && bk1), by simp [execOp, go_sem, Act.eval, di0, di1, dk0, dk1, hcb, hu13_14 hcb], rfl⟩
    ·have hcf : (((bi0 && bi1) && bk0)) = false := by simpa using hcb
     exact ⟨.bool (((bi0 && bi1) && bk0) && bk1), by simp [execOp, go_sem, Act.eval, di0, di1, dk0, dk1, hcf], rfl⟩
   rintro _ rfl
   simp only [Act.put, List.setIfInBounds_toArray, List.set_cons_succ, List.set_cons_zero, Nat.zero_add, Nat.reduceAdd]
   refine wpl_pure (fun u => u = .bool (((bi0 && bi1) && bk0) && bk1)) ?_ ?_
   ·rw [if_pos (by simp [Region.wanted])]; exact ⟨.bool (((bi0 && bi1) && bk0) && bk1), by simp [execOp, go_sem, Act.eval, di0, di1, dk0, dk1], rfl⟩
   rintro _ rfl
   simp only [Act.put, List.setIfInBounds_toArray, List.set_cons_succ, List.set_cons_zero, Nat.zero_add, Nat.reduceAdd]
   clear hu13_3 hu13_4 hu13_5 hu13_8 hu13_9 hu13_12 hu13_13 hu13_14
   have hN0 := cells_of _ 0 [] rfl (hL0.get _ _ List.mem_cons_self)
   simp only [cellsF, and_true, Nat.zero_add, Nat.reduceAdd] at hN0
   go_wp2_with fail
   clear hN0
   with_reducible refine Calls.mono (HAt.out (.agg #[.int .i64 r, .int .i64 c, .slice (some ⟨w.heap.size, 0, none⟩) m m]) _ (xm_of (hT.get List.mem_cons_self) (Nat.le_refl _))) ?_
   rintro e x5 ⟨rfl, hb⟩
   replace hL0 := hL0.call hb
   replace hT := hT.call hb
   clear hb
   clear hmkm'
   have hSo := Lib.hid hT
   replace hT := (hT.new (.cells #[.int .u64 0, .string ⟨#[]⟩, .bool false, .int .u64 0, .string ⟨#[]⟩] 38))
   replace hL0 := (hL0.new rfl [.int .u64 0, .string ⟨#[]⟩, .bool false, .int .u64 0, .string ⟨#[]⟩] 38)
   generalize hweq : (x5.alloc (.cells #[.int .u64 0, .string ⟨#[]⟩, .bool false, .int .u64 0, .string ⟨#[]⟩] 38)) = x6 at hL0 hT
   have hkb := Lib.hid (show x5.heap.size ≤ x5.heap.size by omega)
   have hT1 := hT.putN hSo.out hkb.out ((((((Upd.refl x5.heap.size x6).setCell 0 (.int .u64 0)).setCell 1 (.string ⟨#[]⟩)).setCell 2 (.bool false)).setCell 3 (.int .u64 0)).setCell 4 (.string ⟨#[]⟩))
   have hA := hL0.fc
   simp only [fcG, cellsF, neK, and_true, ne_eq, Nat.zero_add, Nat.reduceAdd] at hA
   have hP := hL0.put 0 (x5.heap.size) _ rfl [.int .u64 0, .string ⟨#[]⟩, .bool false, .int .u64 0, .string ⟨#[]⟩] rfl
   simp only [setAll, List.set_cons_zero, List.set_cons_succ] at hP
   generalize hput2 : (((((x6.setCell ⟨x5.heap.size, 0, none⟩ (.int .u64 0)).setCell ⟨x5.heap.size, 1, none⟩ (.string ⟨#[]⟩)).setCell ⟨x5.heap.size, 2, none⟩ (.bool false)).setCell ⟨x5.heap.size, 3, none⟩ (.int .u64 0)).setCell ⟨x5.heap.size, 4, none⟩ (.string ⟨#[]⟩)) = x7 at hP hT1
   have hB2 := hP.fc
   simp only [fcG, cellsF, neK, and_true, ne_eq, Nat.zero_add, Nat.reduceAdd] at hB2
   replace hL0 := hP
   replace hT := hT1
   clear hT1 hSo hkb
   go_wp2_with fail
   clear hA
   with_reducible refine Calls.mono (HRo.out (.agg #[.int .i64 r, .int .i64 c, .slice (some ⟨w.heap.size, 0, none⟩) m m]) _ (xm_of (hT.get List.mem_cons_self) (Nat.le_refl _))) ?_
   rintro e x8 ⟨v0, rfl, q0, hb⟩
   replace hL0 := hL0.call hb
   replace hT := hT.call hb
   clear hb hweq hput2 hB2
   obtain ⟨g1, d1, g1c, rfl⟩ := id q0
   clear q0
   have hN0 := cells_of _ 0 [] rfl (hL0.get _ _ (List.mem_cons_of_mem _ List.mem_cons_self))
   simp only [cellsF, and_true, Nat.zero_add, Nat.reduceAdd] at hN0
   go_wp2_with fail
   clear hN0
   with_reducible refine Calls.mono (HCo.out (.agg #[.int .i64 r, .int .i64 c, .slice (some ⟨w.heap.size, 0, none⟩) m m]) _ (xm_of (hT.get List.mem_cons_self) (Nat.le_refl _))) ?_
   rintro e x9 ⟨v0, rfl, q0, hb⟩
   replace hL0 := hL0.call hb
   replace hT := hT.call hb
   clear hb
   obtain ⟨g2, d2, g2c, rfl⟩ := id q0
   clear q0
   have hZ0 := cells_of _ 0 [] rfl (hL0.get _ _ (List.mem_cons_of_mem _ List.mem_cons_self))
   simp only [cellsF, and_true, Nat.zero_add, Nat.reduceAdd] at hZ0
   replace hT := (hT.new (.cells #[.int .i64 i] 3))
   replace hL0 := (hL0.new rfl [.int .i64 i] 3)
   generalize hweq : (x9.alloc (.cells #[.int .i64 i] 3)) = x10 at hL0 hT
   have hN0 := cells_of _ 0 [] rfl (hL0.get _ _ (List.mem_cons_of_mem _ (List.mem_cons_of_mem _ List.mem_cons_self)))
   simp only [cellsF, and_true, Nat.zero_add, Nat.reduceAdd] at hN0
   have hbv1 : ILs x10 (.slice (some ⟨x9.heap.size, 0, none⟩) 1 1) [i] := ils_at (hL0.get _ _ List.mem_cons_self) rfl rfl
   replace hbv1 := Lib.hid hbv1
   go_wp2_with fail
   clear hN0
   with_reducible refine Calls.mono (HP1.out (.agg #[.int .i64 r, .int .i64 c, .slice (some ⟨w.heap.size, 0, none⟩) m m]) (.slice (some ⟨x9.heap.size, 0, none⟩) 1 1) _ (xm_of (hT.get List.mem_cons_self) (Nat.le_refl _)) hbv1.out) ?_
   rintro e x11 ⟨v0, rfl, q0, hb⟩
   replace hL0 := hL0.call hb
   replace hT := hT.call hb
   clear hb hweq
   clear hZ0
   obtain ⟨g3a, g3b, g3, d3, g3c, rfl⟩ := id q0
   clear q0
   replace hT := (hT.new (.cells #[.int .i64 0, .int .i64 0, .slice none 0 0] 81))
   replace hL0 := (hL0.new rfl [.int .i64 0, .int .i64 0, .slice none 0 0] 81)
   generalize hweq : (x11.alloc (.cells #[.int .i64 0, .int .i64 0, .slice none 0 0] 81)) = x12 at hL0 hT
   have hT1 := hT.putM ((((Upd.refl x11.heap.size x12).setCell 0 (.int .i64 g3a)).setCell 1 (.int .i64 g3b)).setCell 2 (.slice g3 d3 g3c)) (hL0.get _ _ List.mem_cons_self) (by intro n; simp)
   have hA := hL0.fc
   simp only [fcG, cellsF, neK, and_true, ne_eq, Nat.zero_add, Nat.reduceAdd] at hA
   have hP := hL0.put 0 (x11.heap.size) _ rfl [.int .i64 g3a, .int .i64 g3b, .slice g3 d3 g3c] rfl
   simp only [setAll, List.set_cons_zero, List.set_cons_succ] at hP
   generalize hput3 : (((x12.setCell ⟨x11.heap.size, 0, none⟩ (.int .i64 g3a)).setCell ⟨x11.heap.size, 1, none⟩ (.int .i64 g3b)).setCell ⟨x11.heap.size, 2, none⟩ (.slice g3 d3 g3c)) = x13 at hP hT1
   have hB3 := hP.fc
   simp only [fcG, cellsF, neK, and_true, ne_eq, Nat.zero_add, Nat.reduceAdd] at hB3
   replace hL0 := hP
   replace hT := hT1
   clear hT1
   go_upto_region 18 with fail
   clear hA
   clear hweq
   clear hput3 hB3
   have hZ0 := cells_of _ 0 [] rfl (hL0.get _ _ (List.mem_cons_of_mem _ (List.mem_cons_of_mem _ (List.mem_cons_of_mem _ List.mem_cons_self))))
   simp only [cellsF, and_true, Nat.zero_add, Nat.reduceAdd] at hZ0
   replace hT := (hT.new (.cells #[.int .i64 k] 3))
   replace hL0 := (hL0.new rfl [.int .i64 k] 3)
   generalize hweq : (x13.alloc (.cells #[.int .i64 k] 3)) = x14 at hL0 hT
   have hN0 := cells_of _ 0 [] rfl (hL0.get _ _ (List.mem_cons_of_mem _ (List.mem_cons_of_mem _ (List.mem_cons_of_mem _ (List.mem_cons_of_mem _ List.mem_cons_self)))))
   simp only [cellsF, and_true, Nat.zero_add, Nat.reduceAdd] at hN0
   have hbv2 : ILs x14 (.slice (some ⟨x13.heap.size, 0, none⟩) 1 1) [k] := ils_at (hL0.get _ _ List.mem_cons_self) rfl rfl
   replace hbv2 := Lib.hid hbv2
   go_wp2_with fail
   clear hN0
   with_reducible refine Calls.mono (HP2.out (.agg #[.int .i64 r, .int .i64 c, .slice (some ⟨w.heap.size, 0, none⟩) m m]) (.slice (some ⟨x13.heap.size, 0, none⟩) 1 1) _ (xm_of (hT.get List.mem_cons_self) (Nat.le_refl _)) hbv2.out) ?_
   rintro e x15 ⟨v0, rfl, q0, hb⟩
   replace hL0 := hL0.call hb
   replace hT := hT.call hb
   clear hb hweq
   clear hZ0
   obtain ⟨g4a, g4b, g4, d4, g4c, rfl⟩ := id q0
   clear q0
   replace hT := (hT.new (.cells #[.int .i64 0, .int .i64 0, .slice none 0 0] 81))
   replace hL0 := (hL0.new rfl [.int .i64 0, .int .i64 0, .slice none 0 0] 81)
   generalize hweq : (x15.alloc (.cells #[.int .i64 0, .int .i64 0, .slice none 0 0] 81)) = x16 at hL0 hT
   have hT1 := hT.putM ((((Upd.refl x15.heap.size x16).setCell 0 (.int .i64 g4a)).setCell 1 (.int .i64 g4b)).setCell 2 (.slice g4 d4 g4c)) (hL0.get _ _ List.mem_cons_self) (by intro n; simp)
   have hA := hL0.fc
   simp only [fcG, cellsF, neK, and_true, ne_eq, Nat.zero_add, Nat.reduceAdd] at hA
   have hP := hL0.put 0 (x15.heap.size) _ rfl [.int .i64 g4a, .int .i64 g4b, .slice g4 d4 g4c] rfl
   simp only [setAll, List.set_cons_zero, List.set_cons_succ] at hP
   generalize hput4 : (((x16.setCell ⟨x15.heap.size, 0, none⟩ (.int .i64 g4a)).setCell ⟨x15.heap.size, 1, none⟩ (.int .i64 g4b)).setCell ⟨x15.heap.size, 2, none⟩ (.slice g4 d4 g4c)) = x17 at hP hT1
   have hB4 := hP.fc
   simp only [fcG, cellsF, neK, and_true, ne_eq, Nat.zero_add, Nat.reduceAdd] at hB4
   replace hL0 := hP
   replace hT := hT1
   clear hT1
   go_upto_region 19 with fail
   clear hA
   clear hweq
   clear hput4 hB4
   refine wp_region_lit ?_
   refine wpl_pure (fun u => u = .int .i64 i) ?_ ?_
   ·rw [if_pos (by simp [Region.wanted])]; exact ⟨.int .i64 i, by simp [execOp, go_sem, Act.eval, di0, di1, dk0, dk1], rfl⟩
   rintro _ rfl
   simp only [Act.put, List.setIfInBounds_toArray, List.set_cons_succ, List.set_cons_zero, Nat.zero_add, Nat.reduceAdd]
   refine wpl_pure (fun u => u = .bool bi0) ?_ ?_
   ·rw [if_pos (by simp [Region.wanted])]; exact ⟨.bool bi0, by simp [execOp, go_sem, Act.eval, di0, di1, dk0, dk1], rfl⟩
   rintro _ rfl
   simp only [Act.put, List.setIfInBounds_toArray, List.set_cons_succ, List.set_cons_zero, Nat.zero_add, Nat.reduceAdd]
   refine wpl_pure (fun u => u = .bool bi0) ?_ ?_
   ·rw [if_pos (by simp [Region.wanted])]; exact ⟨.bool bi0, by simp [execOp, go_sem, Act.eval, di0, di1, dk0, dk1], rfl⟩
   rintro _ rfl
   simp only [Act.put, List.setIfInBounds_toArray, List.set_cons_succ, List.set_cons_zero, Nat.zero_add, Nat.reduceAdd]
   refine wpl_pure (fun u => (bi0) = true → u = .int .i64 i) ?_ ?_
   ·by_cases hcb : (bi0) = true
    ·rw [if_pos (by simp [Region.wanted, yielded, hcb])]; exact ⟨.int .i64 i, by simp [execOp, go_sem, Act.eval, di0, di1, dk0, dk1], fun _ => rfl⟩
    ·have hcf : (bi0) = false := by simpa using hcb
     rw [if_neg (by simp [Region.wanted, yielded, hcf])]; exact fun h => absurd h hcb
   intro u19_3 hu19_3
   simp only [Act.put, List.setIfInBounds_toArray, List.set_cons_succ, List.set_cons_zero, Nat.zero_add, Nat.reduceAdd]
   refine wpl_pure (fun u => (bi0) = true → u = .int .i64 r) ?_ ?_
   ·by_cases hcb : (bi0) = true
    ·rw [if_pos (by simp [Region.wanted, yielded, hcb])]; exact ⟨.int .i64 r, by simp [execOp, go_sem, Act.eval, di0, di1, dk0, dk1], fun _ => rfl⟩
    ·have hcf : (bi0) = false := by simpa using hcb
     rw [if_neg (by simp [Region.wanted, yielded, hcf])]; exact fun h => absurd h hcb
   intro u19_4 hu19_4
   simp only [Act.put, List.setIfInBounds_toArray, List.set_cons_succ, List.set_cons_zero, Nat.zero_add, Nat.reduceAdd]
   refine wpl_pure (fun u => (bi0) = true → u = .bool bi1) ?_ ?_
   ·by_cases hcb : (bi0) = true
    ·rw [if_pos (by simp [Region.wanted, yielded, hcb])]; exact ⟨.bool bi1, by simp [execOp, go_sem, Act.eval, di0, di1, dk0, dk1, hu19_3 hcb, hu19_4 hcb], fun _ => rfl⟩
    ·have hcf : (bi0) = false := by simpa using hcb
     rw [if_neg (by simp [Region.wanted, yielded, hcf])]; exact fun h => absurd h hcb
   intro u19_5 hu19_5
   simp only [Act.put, List.setIfInBounds_toArray, List.set_cons_succ, List.set_cons_zero, Nat.zero_add, Nat.reduceAdd]
   refine wpl_pure (fun u => u = .bool (bi0 && bi1)) ?_ ?_
   ·rw [if_pos (by simp [Region.wanted])]
    by_cases hcb : (bi0) = true
    ·exact ⟨.bool (bi0 && bi1), by simp [execOp, go_sem, Act.eval, di0, di1, dk0, dk1, hcb, hu19_5 hcb], rfl⟩
    ·have hcf : (bi0) = false := by simpa using hcb
     exact ⟨.bool (bi0 && bi1), by simp [execOp, go_sem, Act.eval, di0, di1, dk0, dk1, hcf], rfl⟩
   rintro _ rfl
   simp only [Act.put, List.setIfInBounds_toArray, List.set_cons_succ, List.set_cons_zero, Nat.zero_add, Nat.reduceAdd]
   refine wpl_pure (fun u => u = .int .i64 k) ?_ ?_
   ·rw [if_pos (by simp [Region.wanted])]; exact ⟨.int .i64 k, by simp [execOp, go_sem, Act.eval, di0, di1, dk0, dk1], rfl⟩
   rintro _ rfl
   simp only [Act.put, List.setIfInBounds_toArray, List.set_cons_succ, List.set_cons_zero, Nat.zero_add, Nat.reduceAdd]
   refine wpl_pure (fun u => u = .bool bk0) ?_ ?_
   ·rw [if_pos (by simp [Region.wanted])]; exact ⟨.bool bk0, by simp [execOp, go_sem, Act.eval, di0, di1, dk0, dk1], rfl⟩
   rintro _ rfl
   simp only [Act.put, List.setIfInBounds_toArray, List.set_cons_succ, List.set_cons_zero, Nat.zero_add, Nat.reduceAdd]
   refine wpl_pure (fun u => u = .bool bk0) ?_ ?_
   ·rw [if_pos (by simp [Region.wanted])]; exact ⟨.bool bk0, by simp [execOp, go_sem, Act.eval, di0, di1, dk0, dk1], rfl⟩
   rintro _ rfl
   simp only [Act.put, List.setIfInBounds_toArray, List.set_cons_succ, List.set_cons_zero, Nat.zero_add, Nat.reduceAdd]
   refine wpl_pure (fun u => (bk0) = true → u = .int .i64 k) ?_ ?_
   ·by_cases hcb : (bk0) = true
    ·rw [if_pos (by simp [Region.wanted, yielded, hcb])]; exact ⟨.int .i64 k, by simp [execOp, go_sem, Act.eval, di0, di1, dk0, dk1], fun _ => rfl⟩
    ·have hcf : (bk0) = false := by simpa using hcb
     rw [if_neg (by simp [Region.wanted, yielded, hcf])]; exact fun h => absurd h hcb
   intro u19_10 hu19_10
   simp only [Act.put, List.setIfInBounds_toArray, List.set_cons_succ, List.set_cons_zero, Nat.zero_add, Nat.reduceAdd]
   refine wpl_pure (fun u => (bk0) = true → u = .int .i64 c) ?_ ?_
   ·by_cases hcb : (bk0) = true
    ·rw [if_pos (by simp [Region.wanted, yielded, hcb])]; exact ⟨.int .i64 c, by simp [execOp, go_sem, Act.eval, di0, di1, dk0, dk1], fun _ => rfl⟩
    ·have hcf : (bk0) = false := by simpa using hcb
     rw [if_neg (by simp [Region.wanted, yielded, hcf])]; exact fun h => absurd h hcb
   intro u19_11 hu19_11
   simp only [Act.put, List.setIfInBounds_toArray, List.set_cons_succ, List.set_cons_zero, Nat.zero_add, Nat.reduceAdd]
   refine wpl_pure (fun u => (bk0) = true → u = .bool bk1) ?_ ?_
   ·by_cases hcb : (bk0) = true
    ·rw [if_pos (by simp [Region.wanted, yielded, hcb])]; exact ⟨.bool bk1, by simp [execOp, go_sem, Act.eval, di0, di1, dk0, dk1, hu19_10 hcb, hu19_11 hcb], fun _ => rfl⟩
    ·have hcf : (bk0) = false := by simpa using hcb
     rw [if_neg (by simp [Region.wanted, yielded, hcf])]; exact fun h => absurd h hcb
   intro u19_12 hu19_12
   simp only [Act.put, List.setIfInBounds_toArray, List.set_cons_succ, List.set_cons_zero, Nat.zero_add, Nat.reduceAdd]
   refine wpl_pure (fun u => u = .bool (bk0 && bk1)) ?_ ?_
   ·rw [if_pos (by simp [Region.wanted])]
    by_cases hcb : (bk0) = true
    ·exact ⟨.bool (bk0 && bk1), by simp [execOp, go_sem, Act.eval, di0, di1, dk0, dk1, hcb, hu19_12 hcb], rfl⟩
    ·have hcf : (bk0) = false := by simpa using hcb
     exact ⟨.bool (bk0 && bk1), by simp [execOp, go_sem, Act.eval, di0, di1, dk0, dk1, hcf], rfl⟩
   rintro _ rfl
   simp only [Act.put, List.setIfInBounds_toArray, List.set_cons_succ, List.set_cons_zero, Nat.zero_add, Nat.reduceAdd]
   refine wpl_pure (fun u => u = .bool (bi0 && bi1)) ?_ ?_
   ·rw [if_pos (by simp [Region.wanted])]; exact ⟨.bool (bi0 && bi1), by simp [execOp, go_sem, Act.eval, di0, di1, dk0, dk1], rfl⟩
   rintro _ rfl
   simp only [Act.put, List.setIfInBounds_toArray, List.set_cons_succ, List.set_cons_zero, Nat.zero_add, Nat.reduceAdd]
   refine wpl_pure (fun u => u = .bool (bk0 && bk1)) ?_ ?_
   ·rw [if_pos (by simp [Region.wanted])]; exact ⟨.bool (bk0 && bk1), by simp [execOp, go_sem, Act.eval, di0, di1, dk0, dk1], rfl⟩
   rintro _ rfl
   simp only [Act.put, List.setIfInBounds_toArray, List.set_cons_succ, List.set_cons_zero, Nat.zero_add, Nat.reduceAdd]
   clear hu19_3 hu19_4 hu19_5 hu19_10 hu19_11 hu19_12
   have hZ0 := cells_of _ 0 [] rfl (hL0.get _ _ (List.mem_cons_of_mem _ (List.mem_cons_of_mem _ (List.mem_cons_of_mem _ (List.mem_cons_of_mem _ List.mem_cons_self)))))
   simp only [cellsF, and_true, Nat.zero_add, Nat.reduceAdd] at hZ0
   replace hT := (hT.new (.cells #[.int .i64 er, .int .i64 ef, .int .i64 eg, .int .i64 eh] 49))
   replace hL0 := (hL0.new rfl [.int .i64 er, .int .i64 ef, .int .i64 eg, .int .i64 eh] 49)
   generalize hweq : (x17.alloc (.cells #[.int .i64 er, .int .i64 ef, .int .i64 eg, .int .i64 eh] 49)) = x18 at hL0 hT
   have hN0 := cells_of _ 0 [] rfl (hL0.get _ _ (List.mem_cons_of_mem _ (List.mem_cons_of_mem _ (List.mem_cons_of_mem _ (List.mem_cons_of_mem _ (List.mem_cons_of_mem _ List.mem_cons_self))))))
   simp only [cellsF, and_true, Nat.zero_add, Nat.reduceAdd] at hN0
   go_wp2_with fail
   clear hN0
   clear hweq
   clear hZ0
   have hbc := Lib.hid (hL0.get _ _ List.mem_cons_self)
   go_loopg [194] 4 (fun gk iv wr => ∃ (k : Nat) (zi : Int), k + gk = 4 ∧ iv = .int .i64 zi ∧ zi = (k : Int) ∧ Below x18.heap.size x18 wr)
   case atStart => exact ⟨0, 0, rfl, by first | rfl | go_num, rfl, Below.refl _ _⟩
   case round =>
    obtain ⟨ki, zi, hik, rfl, hzi, hB⟩ := hrel
    rcases Nat.lt_or_ge ki 4 with hin | hin
    ·subst hzi
     have k1 : (ki : Int) < 4 := by omega
     have k0 : (0 : Int) ≤ (ki : Int) := Int.natCast_nonneg _
     have kb : (ki : Int) ≤ 100 := by omega
     obtain ⟨ez, hez, hcell⟩ : ∃ ez : Int, (ez = 0 ∨ ez = 1) ∧ wr.cell? ⟨x17.heap.size, ki, none⟩ = some (.int .i64 ez) := by
      have hcc := hbc.out.below hB
      rcases (by omega : ki = 0 ∨ ki = 1 ∨ ki = 2 ∨ ki = 3) with rfl | rfl | rfl | rfl
      ·exact ⟨_, her.out, hcc.cell 0 (by simp)⟩
      ·exact ⟨_, hef.out, hcc.cell 1 (by simp)⟩
      ·exact ⟨_, heg.out, hcc.cell 2 (by simp)⟩
      ·exact ⟨_, heh.out, hcc.cell 3 (by simp)⟩
     replace hB := Lib.hid hB
     clear hL0 hT hbc
     rcases hez with rfl | rfl
     all_goals (
      go_wp2_with fail
      go_roundg (4 - (ki + 1))
      case measure => omega
      case rel => exact ⟨ki + 1, _, by omega, by first | rfl | go_num, by omega, hB.out⟩)
    ·have hz4 : zi = 4 := by omega
     subst hz4
     replace hL0 := hL0.call hB
     replace hT := hT.call hB
     clear hB hbc hzi hik hin
     have hN0 := cells_of _ 0 [] rfl (hL0.get _ _ (List.mem_cons_of_mem _ (List.mem_cons_of_mem _ (List.mem_cons_of_mem _ (List.mem_cons_of_mem _ (List.mem_cons_of_mem _ List.mem_cons_self))))))
     simp only [cellsF, and_true, Nat.zero_add, Nat.reduceAdd] at hN0
     go_upto_region 28 with fail
     clear hN0
     have hmkpm' := hmkpm.out wr
     have hb0 : Below wr.heap.size wr (wr.alloc (.cells (frCs (List.replicate pm 0)).toArray 38)) := (Below.refl _ _).alloc (Nat.le_refl _) _
     have hq0 : SlQ (wr.alloc (.cells (frCs (List.replicate pm 0)).toArray 38)) (.slice (some ⟨wr.heap.size, 0, none⟩) pm pm) (List.replicate pm 0) := slq_new0 (hd_new wr (frCs (List.replicate pm 0)) _)
     generalize hwz : (wr.alloc (.cells (frCs (List.replicate pm 0)).toArray 38)) = x19 at hb0 hq0
     rw [hwz] at hmkpm'
     replace hL0 := hL0.call hb0
     replace hT := hT.call hb0
     replace hT := hT.cons hq0
     clear hb0 hq0 hwz
     replace hT := (hT.new (.cells #[.int .i64 0, .int .i64 0, .slice none 0 0] 81))
     replace hL0 := (hL0.new rfl [.int .i64 0, .int .i64 0, .slice none 0 0] 81)
     generalize hweq : (x19.alloc (.cells #[.int .i64 0, .int .i64 0, .slice none 0 0] 81)) = x20 at hL0 hT
     have hT1 := hT.putM ((((Upd.refl x19.heap.size x20).setCell 0 (.int .i64 (rs : Int))).setCell 1 (.int .i64 c)).setCell 2 (.slice (some ⟨wr.heap.size, 0, none⟩) pm pm)) (hL0.get _ _ List.mem_cons_self) (by intro n; simp)
     have hA := hL0.fc
     simp only [fcG, cellsF, neK, and_true, ne_eq, Nat.zero_add, Nat.reduceAdd] at hA
     have hP := hL0.put 0 (x19.heap.size) _ rfl [.int .i64 (rs : Int), .int .i64 c, .slice (some ⟨wr.heap.size, 0, none⟩) pm pm] rfl
     simp only [setAll, List.set_cons_zero, List.set_cons_succ] at hP
     generalize hput5 : (((x20.setCell ⟨x19.heap.size, 0, none⟩ (.int .i64 (rs : Int))).setCell ⟨x19.heap.size, 1, none⟩ (.int .i64 c)).setCell ⟨x19.heap.size, 2, none⟩ (.slice (some ⟨wr.heap.size, 0, none⟩) pm pm)) = x21 at hP hT1
     have hB5 := hP.fc
     simp only [fcG, cellsF, neK, and_true, ne_eq, Nat.zero_add, Nat.reduceAdd] at hB5
     replace hL0 := hP
     replace hT := hT1
     clear hT1
     go_wp2_with fail
     clear hA
     with_reducible refine Calls.mono (HAd.out (.agg #[.int .i64 r, .int .i64 c, .slice (some ⟨w.heap.size, 0, none⟩) m m]) (.agg #[.int .i64 (rs : Int), .int .i64 c, .slice (some ⟨wr.heap.size, 0, none⟩) pm pm]) _ (xm_of (hT.get (List.mem_cons_of_mem _ List.mem_cons_self)) (Nat.le_refl _)) (xm_of (hT.get List.mem_cons_self) (Nat.le_refl _))) ?_
     rintro e x22 ⟨rfl, hb⟩
     replace hL0 := hL0.call hb
     replace hT := hT.call hb
     clear hb hweq hput5 hB5
     clear hmkpm'
     replace hT := (hT.new (.cells #[.int .i64 0, .int .i64 0, .slice none 0 0] 81))
     replace hL0 := (hL0.new rfl [.int .i64 0, .int .i64 0, .slice none 0 0] 81)
     generalize hweq : (x22.alloc (.cells #[.int .i64 0, .int .i64 0, .slice none 0 0] 81)) = x23 at hL0 hT
     have hT1 := hT.putM ((((Upd.refl x22.heap.size x23).setCell 0 (.int .i64 0)).setCell 1 (.int .i64 0)).setCell 2 (.slice none 0 0)) (hL0.get _ _ List.mem_cons_self) (by intro n; simp)
     have hA := hL0.fc
     simp only [fcG, cellsF, neK, and_true, ne_eq, Nat.zero_add, Nat.reduceAdd] at hA
     have hP := hL0.put 0 (x22.heap.size) _ rfl [.int .i64 0, .int .i64 0, .slice none 0 0] rfl
     simp only [setAll, List.set_cons_zero, List.set_cons_succ] at hP
     generalize hput6 : (((x23.setCell ⟨x22.heap.size, 0, none⟩ (.int .i64 0)).setCell ⟨x22.heap.size, 1, none⟩ (.int .i64 0)).setCell ⟨x22.heap.size, 2, none⟩ (.slice none 0 0)) = x24 at hP hT1
     have hB6 := hP.fc
     simp only [fcG, cellsF, neK, and_true, ne_eq, Nat.zero_add, Nat.reduceAdd] at hB6
     replace hL0 := hP
     replace hT := hT1
     clear hT1
     go_wp2_with fail
     clear hA
     with_reducible refine Calls.mono (HSu.out (.agg #[.int .i64 (rs : Int), .int .i64 c, .slice (some ⟨wr.heap.size, 0, none⟩) pm pm]) (.agg #[.int .i64 r, .int .i64 c, .slice (some ⟨w.heap.size, 0, none⟩) m m]) _ (xm_of (hT.get List.mem_cons_self) (Nat.le_refl _)) (xm_of (hT.get (List.mem_cons_of_mem _ List.mem_cons_self)) (Nat.le_refl _))) ?_
     rintro e x25 ⟨rfl, hb⟩
     replace hL0 := hL0.call hb
     replace hT := hT.call hb
     clear hb hweq hput6 hB6
     replace hT := (hT.new (.cells #[.int .i64 0, .int .i64 0, .slice none 0 0] 81))
     replace hL0 := (hL0.new rfl [.int .i64 0, .int .i64 0, .slice none 0 0] 81)
     generalize hweq : (x25.alloc (.cells #[.int .i64 0, .int .i64 0, .slice none 0 0] 81)) = x26 at hL0 hT
     have hT1 := hT.putM ((((Upd.refl x25.heap.size x26).setCell 0 (.int .i64 0)).setCell 1 (.int .i64 0)).setCell 2 (.slice none 0 0)) (hL0.get _ _ List.mem_cons_self) (by intro n; simp)
     have hA := hL0.fc
     simp only [fcG, cellsF, neK, and_true, ne_eq, Nat.zero_add, Nat.reduceAdd] at hA
     have hP := hL0.put 0 (x25.heap.size) _ rfl [.int .i64 0, .int .i64 0, .slice none 0 0] rfl
     simp only [setAll, List.set_cons_zero, List.set_cons_succ] at hP
     generalize hput7 : (((x26.setCell ⟨x25.heap.size, 0, none⟩ (.int .i64 0)).setCell ⟨x25.heap.size, 1, none⟩ (.int .i64 0)).setCell ⟨x25.heap.size, 2, none⟩ (.slice none 0 0)) = x27 at hP hT1
     have hB7 := hP.fc
     simp only [fcG, cellsF, neK, and_true, ne_eq, Nat.zero_add, Nat.reduceAdd] at hB7
     replace hL0 := hP
     replace hT := hT1
     clear hT1
     go_wp2_with fail
     clear hA
     with_reducible refine Calls.mono (HMu.out (.agg #[.int .i64 r, .int .i64 c, .slice (some ⟨w.heap.size, 0, none⟩) m m]) _ (xm_of (hT.get (List.mem_cons_of_mem _ List.mem_cons_self)) (Nat.le_refl _))) ?_
     rintro e x28 ⟨rfl, hb⟩
     replace hL0 := hL0.call hb
     replace hT := hT.call hb
     clear hb hweq hput7 hB7
     replace hT := (hT.new (.cells #[.int .i64 0, .int .i64 0, .slice none 0 0] 81))
     replace hL0 := (hL0.new rfl [.int .i64 0, .int .i64 0, .slice none 0 0] 81)
     generalize hweq : (x28.alloc (.cells #[.int .i64 0, .int .i64 0, .slice none 0 0] 81)) = x29 at hL0 hT
     have hT1 := hT.putM ((((Upd.refl x28.heap.size x29).setCell 0 (.int .i64 0)).setCell 1 (.int .i64 0)).setCell 2 (.slice none 0 0)) (hL0.get _ _ List.mem_cons_self) (by intro n; simp)
     have hA := hL0.fc
     simp only [fcG, cellsF, neK, and_true, ne_eq, Nat.zero_add, Nat.reduceAdd] at hA
     have hP := hL0.put 0 (x28.heap.size) _ rfl [.int .i64 0, .int .i64 0, .slice none 0 0] rfl
     simp only [setAll, List.set_cons_zero, List.set_cons_succ] at hP
     generalize hput8 : (((x29.setCell ⟨x28.heap.size, 0, none⟩ (.int .i64 0)).setCell ⟨x28.heap.size, 1, none⟩ (.int .i64 0)).setCell ⟨x28.heap.size, 2, none⟩ (.slice none 0 0)) = x30 at hP hT1
     have hB8 := hP.fc
     simp only [fcG, cellsF, neK, and_true, ne_eq, Nat.zero_add, Nat.reduceAdd] at hB8
     replace hL0 := hP
     replace hT := hT1
     clear hT1
     go_upto_region 32 with fail
     clear hweq
     clear hput8 hB8
     clear hA
     refine region_tl 10 [EV (.agg #[.int .i64 r, .int .i64 c, .slice (some ⟨w.heap.size, 0, none⟩) m m]), EV (.int .i64 c), EV (.int .i64 (cs : Int)), PP (List.replicate cs 0), EV (.tuple #[.slice none 0 0, .int .i64 ev]), EV (.tuple #[.slice none 0 0, .int .i64 ev]), EV (.slice none 0 0), EV (.int .i64 ev), EV (.slice none 0 0), EV (.int .i64 ev)] (by kernel_rfl) (by kernel_rfl) ?_ ?_ ?_
     ·exact stays_cons (stays_eq _) (stays_cons (stays_eq _) (stays_cons (stays_eq _) (stays_cons (stays_pt _) (stays_cons (stays_eq _) (stays_cons (stays_eq _) (stays_cons (stays_eq _) (stays_cons (stays_eq _) (stays_cons (stays_eq _) (stays_cons (stays_eq _) (stays_nil))))))))))
     ·simp only [List.take_succ_cons, List.take_zero, hopsR, and_true]
      refine ⟨?_, ?_, ?_, ?_, ?_, ?_, ?_, ?_, ?_, ?_⟩ <;> intro fv w1 hb1 hp
      all_goals (simp only [putsV, Act.put, List.setIfInBounds_toArray, List.set_cons_succ, List.set_cons_zero, Nat.zero_add, Nat.reduceAdd])
      ·refine tyAt_none rfl ?_
       have hc := (hL0.call (below_drew hb1)).fc
       simp only [fcG, cellsF, neK, and_true, ne_eq, Nat.zero_add, Nat.reduceAdd] at hc
       simp [tyUpon, execOp, go_sem, Act.eval, hc, hbz, hbz2, hbz3, hwr, hwc, Below.refl]
      ·refine tyAt_none rfl ?_
       simp [tyUpon, execOp, go_sem, Act.eval, hbz, hbz2, hbz3, hwr, hwc, Below.refl]
      ·have h1 : EV _ (fv 1) w1 := hp 1 (LC (by kernel_rfl))
       refine tyAt_none rfl ?_
       simp [tyUpon, execOp, go_sem, Act.eval, h1, hbz, hbz2, hbz3, hwr, hwc, Below.refl]
      ·have h2 : EV _ (fv 2) w1 := hp 2 (LC (by kernel_rfl))
       refine tyAt_none rfl ?_
       refine ty_val8 (u := .slice (some ⟨w1.heap.size, 0, none⟩) cs cs) (w' := w1.alloc (.cells (frCs (List.replicate cs 0)).toArray 38)) (by simp [execOp, go_sem, Act.eval, h2, hmkcs.out]) ((Below.refl _ _).alloc (Nat.le_refl _) _) (slq_new0 (hd_new w1 (frCs (List.replicate cs 0)) _))
      ·have h0 : EV _ (fv 0) w1 := hp 0 (LC (by kernel_rfl))
       have h3 : (PP (List.replicate cs 0)) (fv 3) w1 := hp 3 (LC (by kernel_rfl))
       refine tyAt_none rfl ?_
       refine ty_call (f := 59) (args := #[.agg #[.int .i64 r, .int .i64 c, .slice (some ⟨w.heap.size, 0, none⟩) m m], fv 3]) (by simp [execOp, go_sem, Act.eval, h0]) ?_
       exact (HAp.out (.agg #[.int .i64 r, .int .i64 c, .slice (some ⟨w.heap.size, 0, none⟩) m m]) (fv 3) w1 (xm_of (PT.below (hT.get (List.mem_cons_of_mem _ List.mem_cons_self)) (below_drew hb1)) (Nat.le_refl _)) h3).mono fun e w2 ⟨h1, h2⟩ => ⟨_, h1, rfl, h2⟩
      ·have h4 : EV _ (fv 4) w1 := hp 4 (LC (by kernel_rfl))
       refine tyAt_none rfl ?_
       simp [tyUpon, execOp, go_sem, Act.eval, h4, hbz, hbz2, hbz3, hwr, hwc, Below.refl]
      ·have h5 : EV _ (fv 5) w1 := hp 5 (LC (by kernel_rfl))
       refine tyAt_none rfl ?_
       simp [tyUpon, execOp, go_sem, Act.eval, h5, hbz, hbz2, hbz3, hwr, hwc, Below.refl]
      ·have h5 : EV _ (fv 5) w1 := hp 5 (LC (by kernel_rfl))
       refine tyAt_none rfl ?_
       simp [tyUpon, execOp, go_sem, Act.eval, h5, hbz, hbz2, hbz3, hwr, hwc, Below.refl]
      ·have h6 : EV _ (fv 6) w1 := hp 6 (LC (by kernel_rfl))
       refine tyAt_none rfl ?_
       simp [tyUpon, execOp, go_sem, Act.eval, h6, hbz, hbz2, hbz3, hwr, hwc, Below.refl]
      ·have h7 : EV _ (fv 7) w1 := hp 7 (LC (by kernel_rfl))
       refine tyAt_none rfl ?_
       simp [tyUpon, execOp, go_sem, Act.eval, h7, hbz, hbz2, hbz3, hwr, hwc, Below.refl]
     ·intro fv x31 hb1 hv
      have e0 : fv 0 = _ := hv 0 (by omega)
      have e1 : fv 1 = _ := hv 1 (by omega)
      have e2 : fv 2 = _ := hv 2 (by omega)
      have q3 : PT x31 (fv 3) (List.replicate cs 0) := hv 3 (by omega)
      obtain ⟨g5, d5, g5c, e3, -⟩ := pt_form q3
      rw [e3] at q3
      have e4 : fv 4 = _ := hv 4 (by omega)
      have e5 : fv 5 = _ := hv 5 (by omega)
      have e6 : fv 6 = _ := hv 6 (by omega)
      have e7 : fv 7 = _ := hv 7 (by omega)
      have e8 : fv 8 = _ := hv 8 (by omega)
      have e9 : fv 9 = _ := hv 9 (by omega)
      simp only [List.take_succ_cons, List.take_zero, putsV, Act.put, List.setIfInBounds_toArray, List.set_cons_succ, List.set_cons_zero, List.drop_succ_cons, List.drop_zero, Nat.zero_add, Nat.reduceAdd, e0, e1, e2, e3, e4, e5, e6, e7, e8, e9]
      replace hL0 := hL0.call (below_drew hb1)
      replace hT := hT.call (below_drew hb1)
      replace hT := hT.cons q3
      clear e0 e1 e2 e3 e4 e5 e6 e7 e8 e9 hb1 hv q3 fv
      go_upto_region 33 with fail
      have hSo := Lib.hid hT
      refine region_tbl 11 9 [EV (.agg #[.int .i64 r, .int .i64 c, .slice (some ⟨w.heap.size, 0, none⟩) m m]), EV (.int .i64 r), EV (.int .i64 (rs : Int)), PP (List.replicate rs 0), EV (.int .i64 c), PP (List.replicate cz 0), EV (.tuple #[.agg #[.int .u64 0, .string ⟨#[]⟩, .bool false, .int .u64 0, .string ⟨#[]⟩], .int .i64 ew]), EV (.tuple #[.agg #[.int .u64 0, .string ⟨#[]⟩, .bool false, .int .u64 0, .string ⟨#[]⟩], .int .i64 ew]), EV (.agg #[.int .u64 0, .string ⟨#[]⟩, .bool false, .int .u64 0, .string ⟨#[]⟩]), EV (.int .i64 ew), NewB x31.heap.size [.int .u64 0, .string ⟨#[]⟩, .bool false, .int .u64 0, .string ⟨#[]⟩]] [10] (by kernel_rfl) (by kernel_rfl) ?_ ?_ ?_ ?_ ?_ (by rfl) ?_
      ·exact stays_cons (stays_eq _) (stays_cons (stays_eq _) (stays_cons (stays_eq _) (stays_cons (stays_pt _) (stays_cons (stays_eq _) (stays_cons (stays_pt _) (stays_cons (stays_eq _) (stays_cons (stays_eq _) (stays_cons (stays_eq _) (stays_cons (stays_eq _) (stays_cons (stays_new _ _) (stays_nil)))))))))))
      ·simp only [List.take_succ_cons, List.take_zero, hopsR, and_true]
       refine ⟨?_, ?_, ?_, ?_, ?_, ?_, ?_, ?_, ?_, ?_, ?_⟩ <;> intro fv w1 hb1 hp
       all_goals (simp only [putsV, Act.put, List.setIfInBounds_toArray, List.set_cons_succ, List.set_cons_zero, Nat.zero_add, Nat.reduceAdd])
       ·refine tyAt_none rfl ?_
        have hc := (hL0.call (below_drew hb1)).fc
        simp only [fcG, cellsF, neK, and_true, ne_eq, Nat.zero_add, Nat.reduceAdd] at hc
        simp [tyUpon, execOp, go_sem, Act.eval, hc, hbz, hbz2, hbz3, hwr, hwc, Below.refl]
       ·refine tyAt_none rfl ?_
        simp [tyUpon, execOp, go_sem, Act.eval, hbz, hbz2, hbz3, hwr, hwc, Below.refl]
       ·have h1 : EV _ (fv 1) w1 := hp 1 (LC (by kernel_rfl))
        refine tyAt_none rfl ?_
        simp [tyUpon, execOp, go_sem, Act.eval, h1, hbz, hbz2, hbz3, hwr, hwc, Below.refl]
       ·have h2 : EV _ (fv 2) w1 := hp 2 (LC (by kernel_rfl))
        refine tyAt_none rfl ?_
        refine ty_val8 (u := .slice (some ⟨w1.heap.size, 0, none⟩) rs rs) (w' := w1.alloc (.cells (frCs (List.replicate rs 0)).toArray 38)) (by simp [execOp, go_sem, Act.eval, h2, hmkrs.out]) ((Below.refl _ _).alloc (Nat.le_refl _) _) (slq_new0 (hd_new w1 (frCs (List.replicate rs 0)) _))
       ·refine tyAt_none rfl ?_
        simp [tyUpon, execOp, go_sem, Act.eval, hbz, hbz2, hbz3, hwr, hwc, Below.refl]
       ·have h4 : EV _ (fv 4) w1 := hp 4 (LC (by kernel_rfl))
        refine tyAt_none rfl ?_
        refine ty_val8 (u := .slice (some ⟨w1.heap.size, 0, none⟩) cz cz) (w' := w1.alloc (.cells (frCs (List.replicate cz 0)).toArray 38)) (by simp [execOp, go_sem, Act.eval, h4, hmkcz.out]) ((Below.refl _ _).alloc (Nat.le_refl _) _) (slq_new0 (hd_new w1 (frCs (List.replicate cz 0)) _))
       ·have h0 : EV _ (fv 0) w1 := hp 0 (LC (by kernel_rfl))
        have h3 : (PP (List.replicate rs 0)) (fv 3) w1 := hp 3 (LC (by kernel_rfl))
        have h5 : (PP (List.replicate cz 0)) (fv 5) w1 := hp 5 (LC (by kernel_rfl))
        refine tyAt_none rfl ?_
        refine ty_call (f := 60) (args := #[.agg #[.int .i64 r, .int .i64 c, .slice (some ⟨w.heap.size, 0, none⟩) m m], fv 3, fv 5]) (by simp [execOp, go_sem, Act.eval, h0]) ?_
        exact (HFo.out (.agg #[.int .i64 r, .int .i64 c, .slice (some ⟨w.heap.size, 0, none⟩) m m]) (fv 3) (fv 5) w1 (xm_of (PT.below (hT.get (List.mem_cons_of_mem _ (List.mem_cons_of_mem _ List.mem_cons_self))) (below_drew hb1)) (Nat.le_refl _)) h3 h5).mono fun e w2 ⟨h1, h2⟩ => ⟨_, h1, rfl, h2⟩
       ·have h6 : EV _ (fv 6) w1 := hp 6 (LC (by kernel_rfl))
        refine tyAt_none rfl ?_
        simp [tyUpon, execOp, go_sem, Act.eval, h6, hbz, hbz2, hbz3, hwr, hwc, Below.refl]
       ·have h7 : EV _ (fv 7) w1 := hp 7 (LC (by kernel_rfl))
        refine tyAt_none rfl ?_
        simp [tyUpon, execOp, go_sem, Act.eval, h7, hbz, hbz2, hbz3, hwr, hwc, Below.refl]
       ·have h7 : EV _ (fv 7) w1 := hp 7 (LC (by kernel_rfl))
        refine tyAt_none rfl ?_
        simp [tyUpon, execOp, go_sem, Act.eval, h7, hbz, hbz2, hbz3, hwr, hwc, Below.refl]
       ·exact tyAt_new rfl rfl new_frac (below_drew hb1).size
      ·intro j hj u w2 hT
       simp only [List.contains_iff_mem, List.mem_cons, List.not_mem_nil, or_false] at hj
       rcases hj with rfl <;> exact NewB.ptr hT
      ·exact ⟨⟨_, _, _, _, rfl, rfl, rfl, new_frac⟩, trivial⟩
      ·intro fv wl hb1 hv
       have e0 : fv 0 = .agg #[.int .i64 r, .int .i64 c, .slice (some ⟨w.heap.size, 0, none⟩) m m] := hv 0 (by omega) (by omega)
       have e1 : fv 1 = .int .i64 r := hv 1 (by omega) (by omega)
       have e2 : fv 2 = .int .i64 (rs : Int) := hv 2 (by omega) (by omega)
       have e4 : fv 4 = .int .i64 c := hv 4 (by omega) (by omega)
       have e6 : fv 6 = .tuple #[.agg #[.int .u64 0, .string ⟨#[]⟩, .bool false, .int .u64 0, .string ⟨#[]⟩], .int .i64 ew] := hv 6 (by omega) (by omega)
       have e7 : fv 7 = .tuple #[.agg #[.int .u64 0, .string ⟨#[]⟩, .bool false, .int .u64 0, .string ⟨#[]⟩], .int .i64 ew] := hv 7 (by omega) (by omega)
       have e8 : fv 8 = .agg #[.int .u64 0, .string ⟨#[]⟩, .bool false, .int .u64 0, .string ⟨#[]⟩] := hv 8 (by omega) (by omega)
       obtain ⟨kb10, e10, n10, m10⟩ : NewB x31.heap.size [.int .u64 0, .string ⟨#[]⟩, .bool false, .int .u64 0, .string ⟨#[]⟩] (fv 10) wl := hv 10 (by omega) (by omega)
       have hx0 := hL0
       replace hL0 := hL0.call (below_drew hb1)
       replace hL0 := GL.tnew (M := []) hL0 hx0 n10 m10 (fun p hp => by cases hp)
       simp only [List.cons_append, List.nil_append] at hL0
       have hA := hL0.fc
       simp only [fcG, cellsF, neK, and_true, ne_eq, Nat.zero_add, Nat.reduceAdd] at hA
       have hP := hL0.put 0 (kb10) _ rfl [.int .u64 0, .string ⟨#[]⟩, .bool false, .int .u64 0, .string ⟨#[]⟩] rfl
       simp only [setAll, List.set_cons_zero, List.set_cons_succ] at hP
       have hB1 := hP.fc
       simp only [fcG, cellsF, neK, and_true, ne_eq, Nat.zero_add, Nat.reduceAdd] at hB1
       refine ⟨(((((wl.setCell ⟨kb10, 0, none⟩ (.int .u64 0)).setCell ⟨kb10, 1, none⟩ (.string ⟨#[]⟩)).setCell ⟨kb10, 2, none⟩ (.bool false)).setCell ⟨kb10, 3, none⟩ (.int .u64 0)).setCell ⟨kb10, 4, none⟩ (.string ⟨#[]⟩)), .int .i64 ew, fun o ho => ?_, fun o ho => ?_, ?_⟩
       ·obtain rfl := Option.some.inj ho
        simp [execOp, go_sem, Act.eval, putsV, Act.put, List.take_succ_cons, List.take_zero, List.setIfInBounds_toArray, List.set_cons_succ, List.set_cons_zero, Nat.zero_add, Nat.reduceAdd, hA, e0, e1, e2, e4, e6, e7, e8, e10]
       ·obtain rfl := Option.some.inj ho
        simp [execOp, go_sem, Act.eval, putsV, Act.put, List.take_succ_cons, List.take_zero, List.setIfInBounds_toArray, List.set_cons_succ, List.set_cons_zero, Nat.zero_add, Nat.reduceAdd, hB1, e0, e1, e2, e4, e6, e7, e8, e10]
       ·rfl
      ·intro fv x32 hb1 hv hne
       have e0 : fv 0 = _ := hv 0 (by omega)
       have e1 : fv 1 = _ := hv 1 (by omega)
       have e2 : fv 2 = _ := hv 2 (by omega)
       have q3 : PT x32 (fv 3) (List.replicate rs 0) := hv 3 (by omega)
       obtain ⟨g6, d6, g6c, e3, -⟩ := pt_form q3
       rw [e3] at q3
       have e4 : fv 4 = _ := hv 4 (by omega)
       have q5 : PT x32 (fv 5) (List.replicate cz 0) := hv 5 (by omega)
       obtain ⟨g7, d7, g7c, e5, -⟩ := pt_form q5
       rw [e5] at q5
       have e6 : fv 6 = _ := hv 6 (by omega)
       have e7 : fv 7 = _ := hv 7 (by omega)
       have e8 : fv 8 = _ := hv 8 (by omega)
       have e9 : fv 9 = _ := hv 9 (by omega)
       obtain ⟨kb10, e10, n10, m10⟩ : NewB x31.heap.size [.int .u64 0, .string ⟨#[]⟩, .bool false, .int .u64 0, .string ⟨#[]⟩] (fv 10) x32 := hv 10 (by omega)
       simp only [List.take_succ_cons, List.take_zero, putsV, Act.put, List.setIfInBounds_toArray, List.set_cons_succ, List.set_cons_zero, List.drop_succ_cons, List.drop_zero, Nat.zero_add, Nat.reduceAdd, e0, e1, e2, e3, e4, e5, e6, e7, e8, e9, e10]
       have hx0 := hL0
       replace hL0 := hL0.call (below_drew hb1)
       replace hT := hT.call (below_drew hb1)
       replace hL0 := GL.tnew (M := []) hL0 hx0 n10 m10 (fun p hp => by cases hp)
       simp only [List.cons_append, List.nil_append] at hL0
       have hkb := Lib.hid m10
       clear e0 e1 e2 e3 e4 e5 e6 e7 e8 e9 e10 hb1 hv hne hx0 n10 m10 q3 q5 fv
       have hT1 := hT.putN hSo.out hkb.out ((((((Upd.refl kb10 x32).setCell 0 (.int .u64 0)).setCell 1 (.string ⟨#[]⟩)).setCell 2 (.bool false)).setCell 3 (.int .u64 0)).setCell 4 (.string ⟨#[]⟩))
       have hA := hL0.fc
       simp only [fcG, cellsF, neK, and_true, ne_eq, Nat.zero_add, Nat.reduceAdd] at hA
       have hP := hL0.put 0 (kb10) _ rfl [.int .u64 0, .string ⟨#[]⟩, .bool false, .int .u64 0, .string ⟨#[]⟩] rfl
       simp only [setAll, List.set_cons_zero, List.set_cons_succ] at hP
       generalize hput9 : (((((x32.setCell ⟨kb10, 0, none⟩ (.int .u64 0)).setCell ⟨kb10, 1, none⟩ (.string ⟨#[]⟩)).setCell ⟨kb10, 2, none⟩ (.bool false)).setCell ⟨kb10, 3, none⟩ (.int .u64 0)).setCell ⟨kb10, 4, none⟩ (.string ⟨#[]⟩)) = x33 at hP hT1
       have hB9 := hP.fc
       simp only [fcG, cellsF, neK, and_true, ne_eq, Nat.zero_add, Nat.reduceAdd] at hB9
       replace hL0 := hP
       replace hT := hT1
       clear hT1 hSo hkb
       go_wp2_with fail
       clear hA
       with_reducible refine Calls.mono (HW.out _ (hKT.out.at hL0.bl kKT)) ?_
       rintro e x34 ⟨rfl, hb⟩
       replace hL0 := hL0.call hb
       replace hT := hT.call hb
       clear hb hput9 hB9
       go_wp2_with fail
       exact bodyPost_ret (v := .bool true) (by simp [results, Tryz.results10, go_sem]) rfl ⟨rfl, hL0.bl⟩)
end Go.Proofs.YthkodldppaccmaaGreatDoor
namespace Go.Proofs.YthkodldppaccmaaGreatDoor
open Go.RowKit
attribute [local irreducible] lo hs sm s64 c64 d64 b64 mh ml pd pc qd qc val hiB str cmpI srD lz nb zl zh zs fe rowV tabV gv bsV tabM
set_option maxHeartbeats 4000000 in
set_option maxRecDepth 100000 in
theorem mcombS_err (r c r2 c2 e : Int) (n d n2 d2 : Nat) (ao ao2 : Option Addr) (he : e ≠ 0) (HF : ∀ g w, Hd w g [.int .i64 r, .int .i64 c, .slice ao n d, .int .i64 r2, .int .i64 c2, .slice ao2 n2 d2] → Calls Tryz.prog 133 #[.slice (some ⟨g, 0, none⟩) 2 2] w fun xe w' => xe = .returned (.int .i64 e) ∧ Below w.heap.size w w') (w : World) : Calls Tryz.prog 129 #[.agg #[.int .i64 r, .int .i64 c, .slice ao n d], .agg #[.int .i64 r2, .int .i64 c2, .slice ao2 n2 d2], .func (.func 90) #[] #[]] w fun xe w' => xe = .returned (.tuple #[.agg #[.int .i64 0, .int .i64 0, .slice none 0 0], .int .i64 e]) ∧ Below w.heap.size w w' := by
 replace HF := Lib.hid HF
 have h1 : (e != 0) = true := by simpa using he
 have h2 : (e == 0) = false := by simpa using he
 clear he
 have hL0 : GL w w [] := GL.start w
 replace hL0 := ((((hL0.new rfl [.int .i64 r, .int .i64 c, .slice ao n d] 81).new (K := w.heap.size + 1) (szA _ _) [.int .i64 r2, .int .i64 c2, .slice ao2 n2 d2] 81).new (K := w.heap.size + 1 + 1) (by simp only [World.size_alloc]) [.func (.func 90) #[] #[]] 70).new (K := w.heap.size + 1 + 1 + 1) (by simp only [World.size_alloc]) [.int .i64 0, .int .i64 0, .slice none 0 0] 81)
 generalize hweq : ((((w.alloc (.cells #[.int .i64 r, .int .i64 c, .slice ao n d] 81)).alloc (.cells #[.int .i64 r2, .int .i64 c2, .slice ao2 n2 d2] 81)).alloc (.cells #[.func (.func 90) #[] #[]] 70)).alloc (.cells #[.int .i64 0, .int .i64 0, .slice none 0 0] 81)) = x1 at hL0
 have hZ := hL0.fc
 simp only [fcG, cellsF, neK, and_true, ne_eq, Nat.zero_add, Nat.reduceAdd] at hZ
 replace hL0 := (hL0.new rfl [.int .i64 r, .int .i64 c, .slice ao n d, .int .i64 r2, .int .i64 c2, .slice ao2 n2 d2] 81)
 generalize hweq2 : (x1.alloc (.cells #[.int .i64 r, .int .i64 c, .slice ao n d, .int .i64 r2, .int .i64 c2, .slice ao2 n2 d2] 81)) = x2 at hL0
 replace HF := Lib.hid (HF.out x1.heap.size x2 (hL0.get _ _ List.mem_cons_self))
 have hA := hL0.fc
 simp only [fcG, cellsF, neK, and_true, ne_eq, Nat.zero_add, Nat.reduceAdd] at hA
 go_enter Tryz.func129, Tryz.ntmps129
 go_wp2_with fail
 with_reducible refine Calls.mono (HF.out) ?_
 rintro e y1 ⟨rfl, hb⟩
 replace hL0 := hL0.call hb
 clear hb hA hZ hweq hweq2 HF
 have hA := cells_of _ 0 [] rfl (hL0.get _ _ (List.mem_cons_of_mem _ List.mem_cons_self))
 simp only [cellsF, and_true, Nat.zero_add, Nat.reduceAdd] at hA
 have zf := (hL0.get _ _ (List.mem_cons_of_mem _ List.mem_cons_self)).frz
 have hPt := hL0.put 1 (w.heap.size + 1 + 1 + 1) _ rfl [.int .i64 0, .int .i64 0, .slice none 0 0] rfl
 simp only [setAll, List.set_cons_zero, List.set_cons_succ] at hPt
 generalize hput1 : (((y1.setCell ⟨w.heap.size + 1 + 1 + 1, 0, none⟩ (.int .i64 0)).setCell ⟨w.heap.size + 1 + 1 + 1, 1, none⟩ (.int .i64 0)).setCell ⟨w.heap.size + 1 + 1 + 1, 2, none⟩ (.slice none 0 0)) = y9 at hPt
 have hB1 := cells_of _ 0 [] rfl (hPt.get _ _ (List.mem_cons_of_mem _ List.mem_cons_self))
 simp only [cellsF, and_true, Nat.zero_add, Nat.reduceAdd] at hB1
 clear hL0
 go_wp2_with fail
 exact bodyPost_ret (v := .tuple #[.agg #[.int .i64 0, .int .i64 0, .slice none 0 0], .int .i64 e]) (by simp [results, Tryz.results129, go_sem, hB1]) rfl ⟨rfl, hPt.bl⟩
set_option maxHeartbeats 4000000 in
set_option maxRecDepth 100000 in
theorem msub_err (r c r2 c2 e : Int) (n d n2 d2 : Nat) (ao ao2 : Option Addr) (he : e ≠ 0) (HC : ∀ w, Calls Tryz.prog 129 #[.agg #[.int .i64 r, .int .i64 c, .slice ao n d], .agg #[.int .i64 r2, .int .i64 c2, .slice ao2 n2 d2], .func (.func 90) #[] #[]] w fun xe w' => xe = .returned (.tuple #[.agg #[.int .i64 0, .int .i64 0, .slice none 0 0], .int .i64 e]) ∧ Below w.heap.size w w') (w : World) : Calls Tryz.prog 46 #[.agg #[.int .i64 r, .int .i64 c, .slice ao n d], .agg #[.int .i64 r2, .int .i64 c2, .slice ao2 n2 d2]] w fun xe w' => xe = .returned (.tuple #[.agg #[.int .i64 0, .int .i64 0, .slice none 0 0], .int .i64 e]) ∧ Below w.heap.size w w' := by
 replace HC := Lib.hid HC
 have hL0 : GL w w [] := GL.start w
 replace hL0 := (((hL0.new rfl [.int .i64 r, .int .i64 c, .slice ao n d] 81).new (K := w.heap.size + 1) (szA _ _) [.int .i64 r2, .int .i64 c2, .slice ao2 n2 d2] 81).new (K := w.heap.size + 1 + 1) (by simp only [World.size_alloc]) [.int .i64 0, .int .i64 0, .slice none 0 0] 81)
 generalize hweq : (((w.alloc (.cells #[.int .i64 r, .int .i64 c, .slice ao n d] 81)).alloc (.cells #[.int .i64 r2, .int .i64 c2, .slice ao2 n2 d2] 81)).alloc (.cells #[.int .i64 0, .int .i64 0, .slice none 0 0] 81)) = x1 at hL0
 have hA := hL0.fc
 simp only [fcG, cellsF, neK, and_true, ne_eq, Nat.zero_add, Nat.reduceAdd] at hA
 go_enter Tryz.func46, Tryz.ntmps46
 go_wp2_with fail
 with_reducible refine Calls.mono (HC.out _) ?_
 rintro e y1 ⟨rfl, hb⟩
 replace hL0 := hL0.call hb
 clear hb hA hweq HC
 have hA := cells_of _ 0 [] rfl (hL0.get _ _ List.mem_cons_self)
 simp only [cellsF, and_true, Nat.zero_add, Nat.reduceAdd] at hA
 have zf := (hL0.get _ _ List.mem_cons_self).frz
 have hPt := hL0.put 0 (w.heap.size + 1 + 1) _ rfl [.int .i64 0, .int .i64 0, .slice none 0 0] rfl
 simp only [setAll, List.set_cons_zero, List.set_cons_succ] at hPt
 generalize hput1 : (((y1.setCell ⟨w.heap.size + 1 + 1, 0, none⟩ (.int .i64 0)).setCell ⟨w.heap.size + 1 + 1, 1, none⟩ (.int .i64 0)).setCell ⟨w.heap.size + 1 + 1, 2, none⟩ (.slice none 0 0)) = y9 at hPt
 have hB1 := cells_of _ 0 [] rfl (hPt.get _ _ List.mem_cons_self)
 simp only [cellsF, and_true, Nat.zero_add, Nat.reduceAdd] at hB1
 clear hL0
 go_wp2_with fail
 exact bodyPost_ret (v := .tuple #[.agg #[.int .i64 0, .int .i64 0, .slice none 0 0], .int .i64 e]) (by simp [results, Tryz.results46, go_sem, hB1]) rfl ⟨rfl, hPt.bl⟩
set_option maxHeartbeats 4000000 in
set_option maxRecDepth 100000 in
theorem mfaultWith_big (r c : Int) (n d nv cv m cc g : Nat) (ao av a1 : Option Addr) (HK : ∀ w, Calls Tryz.prog 51 #[.agg #[.int .i64 r, .int .i64 c, .slice ao n d]] w fun xe w' => xe = .returned (.int .i64 0) ∧ Below w.heap.size w w') (hm : 0 < m) (hm9 : m ≤ 100000) (hv : 2048 < nv) (hv9 : nv ≤ 100000) (w : World) (hx : a1 = some ⟨g, 0, none⟩) (hc : w.cell? ⟨g, 0, none⟩ = some (.slice av nv cv)) :
  Calls Tryz.prog 140 #[.agg #[.int .i64 r, .int .i64 c, .slice ao n d], .slice a1 m cc] w fun xe w' => xe = .returned (.int .i64 3) ∧ Below w.heap.size w w' := by
 replace HK := Lib.hid HK
 have l1 : (2048 : Int) < (nv : Int) := by omega
 have l0 : (0 : Int) < (m : Int) := by omega
 have l3 : (m : Int) ≤ 100000 := by omega
 subst hx
 have hL0 : GL w w [] := GL.start w
 replace hL0 := (hL0.new rfl [.int .i64 r, .int .i64 c, .slice ao n d] 81)
 generalize hweq : (w.alloc (.cells #[.int .i64 r, .int .i64 c, .slice ao n d] 81)) = x1 at hL0
 have hA := hL0.fc
 simp only [fcG, cellsF, neK, and_true, ne_eq, Nat.zero_add, Nat.reduceAdd] at hA
 go_enter Tryz.func140, Tryz.ntmps140
 go_wp2_with fail
 with_reducible refine Calls.mono (HK.out _) ?_
 rintro e y1 ⟨rfl, hb⟩
 replace hL0 := hL0.call hb
 clear hb hA hweq HK
 replace hc := keepsC hL0.bl hc
 have hbl := hL0.bl
 clear hL0
 go_wp2_with fail
 go_loopg [15] 1 (fun gk iv wr => gk = 1 ∧ iv = .int .i64 0 ∧ Below y1.heap.size y1 wr)
 case atStart => exact ⟨rfl, by first | rfl | go_num, Below.refl _ _⟩
 case round =>
  obtain ⟨hg, rfl, hB⟩ := hrel
  replace hc := keepsC hB hc
  replace hB := Lib.hid (hbl.trans (hB.mono hbl.size))
  clear hbl
  go_wp2_with fail
  exact bodyPost_ret (v := .int .i64 3) (by simp [results, Tryz.results140, go_sem]) rfl ⟨rfl, hB.out⟩
theorem flt_fst (r c r2 c2 e : Int) (n d n2 d2 g : Nat) (ao ao2 : Option Addr) (he : e ≠ 0) (HK : ∀ w, Calls Tryz.prog 51 #[.agg #[.int .i64 r, .int .i64 c, .slice ao n d]] w fun xe w' => xe = .returned (.int .i64 e) ∧ Below w.heap.size w w') (w : World) (hd : Hd w g [.int .i64 r, .int .i64 c, .slice ao n d, .int .i64 r2, .int .i64 c2, .slice ao2 n2 d2]) : Calls Tryz.prog 133 #[.slice (some ⟨g, 0, none⟩) 2 2] w fun xe w' => xe = .returned (.int .i64 e) ∧ Below w.heap.size w w' :=
 mfault_err 2 2 g 0 _ (by omega) (by omega) e he w (fun _ => rfl) (fun i hi => absurd hi (Nat.not_lt_zero _)) r c n d ao (hd.cell 0 (by simp)) (hd.cell 1 (by simp)) (hd.cell 2 (by simp)) HK
theorem flt_snd (r c : Nat) (r2 c2 e : Int) (n d n2 d2 g : Nat) (ao ao2 : Option Addr) (he : e ≠ 0) (hr : r ≤ 2048) (hc : c ≤ 2048) (hn : n = r * c) (HK : ∀ w, Calls Tryz.prog 51 #[.agg #[.int .i64 r2, .int .i64 c2, .slice ao2 n2 d2]] w fun xe w' => xe = .returned (.int .i64 e) ∧ Below w.heap.size w w') (w : World) (hd : Hd w g [.int .i64 (r : Int), .int .i64 (c : Int), .slice ao n d, .int .i64 r2, .int .i64 c2, .slice ao2 n2 d2]) : Calls Tryz.prog 133 #[.slice (some ⟨g, 0, none⟩) 2 2] w fun xe w' => xe = .returned (.int .i64 e) ∧ Below w.heap.size w w' :=
 mfault_err 2 2 g 1 _ (by omega) (by omega) e he w (fun _ => rfl) (fun i hi => by
  obtain rfl : i = 0 := by omega
  exact ⟨r, c, n, d, ao, hr, hc, hn, hd.cell 0 (by simp), hd.cell 1 (by simp), hd.cell 2 (by simp)⟩) r2 c2 n2 d2 ao2 (hd.cell 3 (by simp)) (hd.cell 4 (by simp)) (hd.cell 5 (by simp)) HK
theorem flt_ok (r c r2 c2 n d n2 d2 g : Nat) (ao ao2 : Option Addr) (hr : r ≤ 2048) (hc : c ≤ 2048) (hn : n = r * c) (hr2 : r2 ≤ 2048) (hc2 : c2 ≤ 2048) (hn2 : n2 = r2 * c2) (w : World) (hd : Hd w g [.int .i64 (r : Int), .int .i64 (c : Int), .slice ao n d, .int .i64 (r2 : Int), .int .i64 (c2 : Int), .slice ao2 n2 d2]) : Calls Tryz.prog 133 #[.slice (some ⟨g, 0, none⟩) 2 2] w fun xe w' => xe = .returned (.int .i64 0) ∧ Below w.heap.size w w' := by
 refine mfault_w 2 2 g _ (by omega) w (fun _ => rfl) fun i hi => ?_
 rcases (by omega : i = 0 ∨ i = 1) with rfl | rfl
 ·exact ⟨r, c, n, d, ao, hr, hc, hn, hd.cell 0 (by simp), hd.cell 1 (by simp), hd.cell 2 (by simp)⟩
 ·exact ⟨r2, c2, n2, d2, ao2, hr2, hc2, hn2, hd.cell 3 (by simp), hd.cell 4 (by simp), hd.cell 5 (by simp)⟩
/-- refused, from what Check says. -/
theorem mrefused_any (r c e : Int) (m : Nat) (he : e ≠ 0) (HK : ∀ d ao w, Calls Tryz.prog 51 #[.agg #[.int .i64 r, .int .i64 c, .slice ao m d]] w fun xe w' => xe = .returned (.int .i64 e) ∧ Below w.heap.size w w') (p : Value) (w : World) (h : XM w p r c m) :
  Calls Tryz.prog 79 #[p, .int .i64 e] w fun xe w' => xe = .returned (.bool true) ∧ Below w.heap.size w w' := by
 obtain ⟨ao, d, rfl, hd, hs⟩ := h
 have K := HK d ao
 have FW : ∀ (k g : Nat) (w : World), Calls Tryz.prog 140 #[.agg #[.int .i64 r, .int .i64 c, .slice ao m d], .slice (some ⟨g, 0, none⟩) k k] w fun xe w' => xe = .returned (.int .i64 e) ∧ Below w.heap.size w w' := fun k g w => mfaultWith_err r c e m d ao k k 0 _ he K w
 exact mrefused_w r c e m d ao (mW 1 1 [1]) ((1 : Int) : Rat) (fun p w h => mof_at 1 1 [1] (by decide) (by decide) (by decide) (by decide) rfl p w h)
  (fun p w hp => by
   obtain ⟨a5, n5, d5, rfl, h5, h6⟩ := mt_form (n := 1) (k := 1) hp rfl rfl
   exact madd_err r c 1 1 e m d n5 d5 ao a5 he (fun w => mcombA_err r c 1 1 e m d n5 d5 ao a5 he (fun g w hd => flt_fst r c 1 1 e m d n5 d5 g ao a5 he K w hd) w) w)
  (fun p w hp => by
   obtain ⟨a5, n5, d5, rfl, h5, h6⟩ := mt_form (n := 1) (k := 1) hp rfl rfl
   obtain ⟨a6, c6, e6⟩ := slq_form' h5
   have hn5 : n5 = 1 := by injection e6 with q1 q2 q3; rw [q2]; show (oW [1]).length = 1; unfold oW; rw [tabV_len]; rfl
   exact madd_err 1 1 r c e n5 d5 m d a5 ao he (fun w => mcombA_err 1 1 r c e n5 d5 m d a5 ao he (fun g w hd => flt_snd 1 1 r c e n5 d5 m d g a5 ao he (by omega) (by omega) hn5 K w hd) w) w)
  (fun w => mmul_err r c r c e m d m d ao ao he (fun g w hd => flt_fst r c r c e m d m d g ao ao he K w hd) w)
  (fun w => intF 1 (by decide) (by decide) w)
  (fun w => mscale_err r c e m d ao _ he K w) (fun w => mturn_err r c e m d ao he K w) (fun w => mpart_err r c e m d ao he K w)
  (fun w => mapply_err r c e m d ao 0 0 none he (fun g w _ => FW 1 g w) w) (fun w => mrow_err r c e m d ao 0 he K w) (fun w => mcol_err r c e m d ao 0 he K w)
  (fun w => mform_err r c e m d ao 0 0 none 0 0 none he (fun g w _ => FW 2 g w) w) (fun w => mtext_err r c e m d ao he K w) (fun w => msymm_err r c e m d ao he K w) (fun w => msum_err r c e m d ao he K w) rfl rfl w
/-- The zeros as a matrix. -/
def zM (R C m : Nat) : Mx := ⟨R, C, List.replicate m 0⟩
theorem zM_ok {R C m : Nat} (hR : R ≤ 2048) (hC : C ≤ 2048) (hm : m = R * C) : OKM (zM R C m) := ⟨hR, hC, by show (List.replicate m (0 : Rat)).length = R * C; rw [List.length_replicate, hm]⟩
theorem gv_rep (m p : Nat) : gv (List.replicate m 0) p = 0 := by
 rcases Nat.lt_or_ge p m with h | h
 ·rw [rep_tab]; exact gv_tab h
 ·unfold gv; simp [h]
theorem zM_ent {R C m i k : Nat} : ent (zM R C m) i k = 0 := gv_rep m (i * C + k)
theorem and_in (i n : Int) (h : 0 ≤ i ∧ i < n) : (decide (0 ≤ i) && decide (i < n)) = true := by simp [h.1, h.2]
theorem and_out (i n : Int) (h : ¬ (0 ≤ i ∧ i < n)) : (decide (0 ≤ i) && decide (i < n)) = false := by
 rw [Bool.eq_false_iff]
 intro g
 simp only [Bool.and_eq_true, decide_eq_true_eq] at g
 exact h g
theorem mAtX (R C m : Nat) (hR : R ≤ 2048) (hC : C ≤ 2048) (hm : m = R * C) (i k : Int) (p : Value) (w : World) (h : XM w p (R : Int) (C : Int) m) :
  Calls Tryz.prog 62 #[p, .int .i64 i, .int .i64 k] w fun xe w' => xe = .returned (.tuple #[.agg #[.int .u64 0, .string ⟨#[]⟩, .bool false, .int .u64 0, .string ⟨#[]⟩], .bool (((decide (0 ≤ i) && decide (i < (R : Int))) && decide (0 ≤ k)) && decide (k < (C : Int)))]) ∧ Below w.heap.size w w' := by
 obtain ⟨ao, d, rfl, hd, hs⟩ := h
 have hu : CQ w (.slice ao m d) (zM R C m).l := ⟨hs, _, _, _, rfl, hd⟩
 have HK := (mcheck_ok R C m d ao hR hC hm)
 rw [Bool.and_assoc (decide (0 ≤ i) && decide (i < (R : Int)))]
 by_cases hi : 0 ≤ i ∧ i < (R : Int)
 ·rw [and_in i R hi]
  by_cases hk : 0 ≤ k ∧ k < (C : Int)
  ·rw [and_in k C hk]
   obtain ⟨i, rfl⟩ : ∃ j : Nat, i = j := ⟨i.toNat, by omega⟩
   obtain ⟨k, rfl⟩ : ∃ j : Nat, k = j := ⟨k.toNat, by omega⟩
   have := mAtV (zM R C m) (zM_ok hR hC hm) i k (by show i < R; omega) (by show k < C; omega) _ w hu
   rw [zM_ent, frV_q0] at this
   exact this
  ·rw [and_out k C hk]
   exact mat_out2 R C m d ao i k HK (fun w => mindex_in i R hi.1 hi.2 w) (fun w => mindex_out k C hk w) w
 ·rw [and_out i R hi]
  exact mat_out1 R C m d ao i k HK (fun w => mindex_out i R hi w) w
theorem mRowX (R C m : Nat) (hR : R ≤ 2048) (hC : C ≤ 2048) (hm : m = R * C) (i : Int) : ∃ er : Int, (er = 0 ∨ er = 1) ∧ (er == 0) = (decide (0 ≤ i) && decide (i < (R : Int))) ∧ ∀ (p : Value) (w : World), XM w p (R : Int) (C : Int) m →
  Calls Tryz.prog 61 #[p, .int .i64 i] w fun e w' => ∃ pv, e = .returned (.tuple #[pv, .int .i64 er]) ∧ YS pv ∧ Below w.heap.size w w' := by
 by_cases hi : 0 ≤ i ∧ i < (R : Int)
 ·refine ⟨0, .inl rfl, by rw [and_in i R hi]; rfl, fun p w h => ?_⟩
  obtain ⟨ao, d, rfl, hd, hs⟩ := h
  have hu : CQ w (.slice ao m d) (zM R C m).l := ⟨hs, _, _, _, rfl, hd⟩
  obtain ⟨i, rfl⟩ : ∃ j : Nat, i = j := ⟨i.toNat, by omega⟩
  refine (mRowV (zM R C m) (zM_ok hR hC hm) i (by show i < R; omega) _ w hu).mono ?_
  rintro e w' ⟨t, rfl, h1, hb⟩
  obtain ⟨g, rfl, -, -⟩ := h1
  exact ⟨_, rfl, ⟨_, _, _, rfl⟩, hb⟩
 ·refine ⟨1, .inr rfl, by rw [and_out i R hi]; rfl, fun p w h => ?_⟩
  obtain ⟨ao, d, rfl, hd, hs⟩ := h
  have hu : CQ w (.slice ao m d) (zM R C m).l := ⟨hs, _, _, _, rfl, hd⟩
  refine (mrow_out R C m d ao i (mcheck_ok R C m d ao hR hC hm) (fun w => mindex_out i R hi w) w).mono ?_
  rintro e w' ⟨rfl, hb⟩
  exact ⟨_, rfl, ⟨_, _, _, rfl⟩, hb⟩
theorem mColX (R C m : Nat) (hR : R ≤ 2048) (hC : C ≤ 2048) (hm : m = R * C) (i : Int) : ∃ er : Int, (er = 0 ∨ er = 1) ∧ (er == 0) = (decide (0 ≤ i) && decide (i < (C : Int))) ∧ ∀ (p : Value) (w : World), XM w p (R : Int) (C : Int) m →
  Calls Tryz.prog 63 #[p, .int .i64 i] w fun e w' => ∃ pv, e = .returned (.tuple #[pv, .int .i64 er]) ∧ YS pv ∧ Below w.heap.size w w' := by
 by_cases hi : 0 ≤ i ∧ i < (C : Int)
 ·refine ⟨0, .inl rfl, by rw [and_in i C hi]; rfl, fun p w h => ?_⟩
  obtain ⟨ao, d, rfl, hd, hs⟩ := h
  have hu : CQ w (.slice ao m d) (zM R C m).l := ⟨hs, _, _, _, rfl, hd⟩
  obtain ⟨i, rfl⟩ : ∃ j : Nat, i = j := ⟨i.toNat, by omega⟩
  refine (mColV (zM R C m) (zM_ok hR hC hm) i (by show i < C; omega) _ w hu).mono ?_
  rintro e w' ⟨t, rfl, h1, hb⟩
  obtain ⟨g, rfl, -, -⟩ := h1
  exact ⟨_, rfl, ⟨_, _, _, rfl⟩, hb⟩
 ·refine ⟨1, .inr rfl, by rw [and_out i C hi]; rfl, fun p w h => ?_⟩
  obtain ⟨ao, d, rfl, hd, hs⟩ := h
  have hu : CQ w (.slice ao m d) (zM R C m).l := ⟨hs, _, _, _, rfl, hd⟩
  refine (mcol_out R C m d ao i (mcheck_ok R C m d ao hR hC hm) (fun w => mindex_out i C hi w) w).mono ?_
  rintro e w' ⟨rfl, hb⟩
  exact ⟨_, rfl, ⟨_, _, _, rfl⟩, hb⟩
theorem mPart1X (R C m : Nat) (hR : R ≤ 2048) (hC : C ≤ 2048) (hm : m = R * C) (i : Int) : ∃ er : Int, (er = 0 ∨ er = 1) ∧ (er == 0) = (decide (0 ≤ i) && decide (i < (R : Int))) ∧ ∀ (p q : Value) (w : World), XM w p (R : Int) (C : Int) m → ILs w q [i] →
  Calls Tryz.prog 77 #[p, q, .slice none 0 0] w fun e w' => ∃ pv, e = .returned (.tuple #[pv, .int .i64 er]) ∧ WS pv ∧ Below w.heap.size w w' := by
 by_cases hi : 0 ≤ i ∧ i < (R : Int)
 ·refine ⟨0, .inl rfl, by rw [and_in i R hi]; rfl, fun p q w h hq => ?_⟩
  obtain ⟨ao, d, rfl, hd, hs⟩ := h
  have hu : CQ w (.slice ao m d) (zM R C m).l := ⟨hs, _, _, _, rfl, hd⟩
  obtain ⟨i, rfl⟩ : ∃ j : Nat, i = j := ⟨i.toNat, by omega⟩
  refine (mPartV (zM R C m) [i] [] (zM_ok hR hC hm) (by simp) (by simp) (by intro j hj; rw [List.mem_singleton.1 hj]; show i < R; omega) (by intro j hj; cases hj) _ _ _ w hu hq (ils_nil w)).mono ?_
  rintro e w' ⟨t, rfl, h1, hb⟩
  obtain ⟨g, rfl, -, -⟩ := h1
  exact ⟨_, rfl, ⟨_, _, _, _, _, rfl⟩, hb⟩
 ·refine ⟨1, .inr rfl, by rw [and_out i R hi]; rfl, fun p q w h hq => ?_⟩
  obtain ⟨ao, d, rfl, hd, hs⟩ := h
  have hu : CQ w (.slice ao m d) (zM R C m).l := ⟨hs, _, _, _, rfl, hd⟩
  obtain ⟨ai, ci, rfl⟩ : ∃ ai ci, q = .slice ai 1 ci := by
   obtain ⟨a, c, g, e, -, -⟩ := id hq
   exact ⟨a, c, by rw [e]; rfl⟩
  refine (mpart_out1 R C i m d ci ao ai (mcheck_ok R C m d ao hR hC hm) (fun w => mindices_ok [] R (by simp) (by intro j hj; cases hj) _ w (ils_nil w)) w hq hi).mono ?_
  rintro e w' ⟨rfl, hb⟩
  exact ⟨_, rfl, ⟨_, _, _, _, _, rfl⟩, hb⟩
theorem mPart2X (R C m : Nat) (hR : R ≤ 2048) (hC : C ≤ 2048) (hm : m = R * C) (i : Int) : ∃ er : Int, (er = 0 ∨ er = 1) ∧ (er == 0) = (decide (0 ≤ i) && decide (i < (C : Int))) ∧ ∀ (p q : Value) (w : World), XM w p (R : Int) (C : Int) m → ILs w q [i] →
  Calls Tryz.prog 77 #[p, .slice none 0 0, q] w fun e w' => ∃ pv, e = .returned (.tuple #[pv, .int .i64 er]) ∧ WS pv ∧ Below w.heap.size w w' := by
 by_cases hi : 0 ≤ i ∧ i < (C : Int)
 ·refine ⟨0, .inl rfl, by rw [and_in i C hi]; rfl, fun p q w h hq => ?_⟩
  obtain ⟨ao, d, rfl, hd, hs⟩ := h
  have hu : CQ w (.slice ao m d) (zM R C m).l := ⟨hs, _, _, _, rfl, hd⟩
  obtain ⟨i, rfl⟩ : ∃ j : Nat, i = j := ⟨i.toNat, by omega⟩
  refine (mPartV (zM R C m) [] [i] (zM_ok hR hC hm) (by simp) (by simp) (by intro j hj; cases hj) (by intro j hj; rw [List.mem_singleton.1 hj]; show i < C; omega) _ _ _ w hu (ils_nil w) hq).mono ?_
  rintro e w' ⟨t, rfl, h1, hb⟩
  obtain ⟨g, rfl, -, -⟩ := h1
  exact ⟨_, rfl, ⟨_, _, _, _, _, rfl⟩, hb⟩
 ·refine ⟨1, .inr rfl, by rw [and_out i C hi]; rfl, fun p q w h hq => ?_⟩
  obtain ⟨ao, d, rfl, hd, hs⟩ := h
  have hu : CQ w (.slice ao m d) (zM R C m).l := ⟨hs, _, _, _, rfl, hd⟩
  obtain ⟨ai, ci, rfl⟩ : ∃ ai ci, q = .slice ai 1 ci := by
   obtain ⟨a, c, g, e, -, -⟩ := id hq
   exact ⟨a, c, by rw [e]; rfl⟩
  refine (mpart_out2 R C i m d ci ao ai (mcheck_ok R C m d ao hR hC hm) (fun w => mindices_ok [] R (by simp) (by intro j hj; cases hj) _ w (ils_nil w)) w hq hi).mono ?_
  rintro e w' ⟨rfl, hb⟩
  exact ⟨_, rfl, ⟨_, _, _, _, _, rfl⟩, hb⟩
theorem mAddX (R C m S n2 : Nat) (hR : R ≤ 2048) (hC : C ≤ 2048) (hm : m = R * C) (hS : S = R + 1) (hn2 : n2 = S * C) : ∃ es : Int, (S ≤ 2048 → es = 1) ∧ ∀ (p q : Value) (w : World), XM w p (R : Int) (C : Int) m → XM w q (S : Int) (C : Int) n2 → Calls Tryz.prog 45 #[p, q] w fun xe w' => xe = .returned (.tuple #[.agg #[.int .i64 0, .int .i64 0, .slice none 0 0], .int .i64 es]) ∧ Below w.heap.size w w' := by
 by_cases hs : S ≤ 2048
 ·refine ⟨1, fun _ => rfl, fun p q w h g => ?_⟩
  obtain ⟨ao, d, rfl, -, -⟩ := h
  obtain ⟨ao2, d2, rfl, -, -⟩ := g
  exact mAdd_ns R C S C m d n2 d2 ao ao2 (fun w => mcombAdd_ns R C S C m d n2 d2 ao ao2 (by omega) (fun g w hd => flt_ok R C S C m d n2 d2 g ao ao2 hR hC hm hs hC hn2 w hd) w) w
 ·refine ⟨3, fun h => absurd h hs, fun p q w h g => ?_⟩
  obtain ⟨ao, d, rfl, -, -⟩ := h
  obtain ⟨ao2, d2, rfl, -, -⟩ := g
  exact madd_err R C S C 3 m d n2 d2 ao ao2 (by decide) (fun w => mcombA_err R C S C 3 m d n2 d2 ao ao2 (by decide) (fun g w hd => flt_snd R C (S : Int) C 3 m d n2 d2 g ao ao2 (by decide) hR hC hm (fun w => mcheck_err (S : Int) C 3 n2 d2 ao2 (by decide) (fun w => msize_big1 (S : Int) C (by omega) (by omega) (by omega) w) w) w hd) w) w
theorem mSubX (R C m S n2 : Nat) (hR : R ≤ 2048) (hC : C ≤ 2048) (hm : m = R * C) (hS : S = R + 1) (hn2 : n2 = S * C) : ∃ es : Int, (S ≤ 2048 → es = 1) ∧ ∀ (p q : Value) (w : World), XM w p (S : Int) (C : Int) n2 → XM w q (R : Int) (C : Int) m → Calls Tryz.prog 46 #[p, q] w fun xe w' => xe = .returned (.tuple #[.agg #[.int .i64 0, .int .i64 0, .slice none 0 0], .int .i64 es]) ∧ Below w.heap.size w w' := by
 by_cases hs : S ≤ 2048
 ·refine ⟨1, fun _ => rfl, fun p q w h g => ?_⟩
  obtain ⟨ao2, d2, rfl, -, -⟩ := h
  obtain ⟨ao, d, rfl, -, -⟩ := g
  exact mSub_ns S C R C n2 d2 m d ao2 ao (fun w => mcombSub_ns S C R C n2 d2 m d ao2 ao (by omega) (fun g w hd => flt_ok S C R C n2 d2 m d g ao2 ao hs hC hn2 hR hC hm w hd) w) w
 ·refine ⟨3, fun h => absurd h hs, fun p q w h g => ?_⟩
  obtain ⟨ao2, d2, rfl, -, -⟩ := h
  obtain ⟨ao, d, rfl, -, -⟩ := g
  exact msub_err S C R C 3 n2 d2 m d ao2 ao (by decide) (fun w => mcombS_err S C R C 3 n2 d2 m d ao2 ao (by decide) (fun g w hd => flt_fst (S : Int) C R C 3 n2 d2 m d g ao2 ao (by decide) (fun w => mcheck_err (S : Int) C 3 n2 d2 ao2 (by decide) (fun w => msize_big1 (S : Int) C (by omega) (by omega) (by omega) w) w) w hd) w) w
theorem mMulX (R C m S : Nat) (hR : R ≤ 2048) (hC : C ≤ 2048) (hm : m = R * C) (hS : S = C + 1) : ∃ es : Int, (S ≤ 2048 → es = 1) ∧ ∀ (p : Value) (w : World), XM w p (R : Int) (C : Int) m → Calls Tryz.prog 48 #[p, .agg #[.int .i64 (S : Int), .int .i64 0, .slice none 0 0]] w fun xe w' => xe = .returned (.tuple #[.agg #[.int .i64 0, .int .i64 0, .slice none 0 0], .int .i64 es]) ∧ Below w.heap.size w w' := by
 by_cases hs : S ≤ 2048
 ·refine ⟨1, fun _ => rfl, fun p w h => ?_⟩
  obtain ⟨ao, d, rfl, -, -⟩ := h
  exact mmul_ns R C S 0 m d 0 0 ao none (by omega) (fun g w hd => flt_ok R C S 0 m d 0 0 g ao none hR hC hm hs (by omega) rfl w hd) w
 ·refine ⟨3, fun h => absurd h hs, fun p w h => ?_⟩
  obtain ⟨ao, d, rfl, -, -⟩ := h
  exact mmul_err R C S 0 3 m d 0 0 ao none (by decide) (fun g w hd => flt_snd R C (S : Int) 0 3 m d 0 0 g ao none (by decide) hR hC hm (fun w => mcheck_err (S : Int) 0 3 0 0 none (by decide) (fun w => msize_big1 (S : Int) 0 (by omega) (by omega) (by omega) w) w) w hd) w
theorem mApplyX (R C m S : Nat) (hR : R ≤ 2048) (hC : C ≤ 2048) (hm : m = R * C) (hS : S = C + 1) : ∃ es : Int, (S ≤ 2048 → es = 1) ∧ ∀ (p q : Value) (w : World), XM w p (R : Int) (C : Int) m → PT w q (List.replicate S 0) → Calls Tryz.prog 59 #[p, q] w fun xe w' => xe = .returned (.tuple #[.slice none 0 0, .int .i64 es]) ∧ Below w.heap.size w w' := by
 by_cases hs : S ≤ 2048
 ·refine ⟨1, fun _ => rfl, fun p q w h g => ?_⟩
  obtain ⟨ao, d, rfl, -, -⟩ := h
  obtain ⟨av, cv, rfl⟩ := slq_form' g
  rw [List.length_replicate]
  exact mapply_ns R C m d ao S cv av (by omega) (fun g w hd => mfaultWith_w R C m d 1 1 g ao _ (fun _ => S) hR hC hm (by omega) (fun i _ => hs) w (fun _ => rfl) fun i hi => by
   obtain rfl : i = 0 := by omega
   exact ⟨av, cv, hd.cell 0 (by simp)⟩) w
 ·refine ⟨3, fun h => absurd h hs, fun p q w h g => ?_⟩
  obtain ⟨ao, d, rfl, -, -⟩ := h
  obtain ⟨av, cv, rfl⟩ := slq_form' g
  rw [List.length_replicate]
  exact mapply_err R C 3 m d ao S cv av (by decide) (fun g w hd => mfaultWith_big R C m d S cv 1 1 g ao av _ (mcheck_ok R C m d ao hR hC hm) (by omega) (by omega) (by omega) (by omega) w rfl (hd.cell 0 (by simp))) w
theorem mFormX (R C m S : Nat) (hR : R ≤ 2048) (hC : C ≤ 2048) (hm : m = R * C) (hS : S = R + 1) : ∃ es : Int, (S ≤ 2048 → es = 1) ∧ ∀ (p q s : Value) (w : World), XM w p (R : Int) (C : Int) m → PT w q (List.replicate S 0) → PT w s (List.replicate C 0) → Calls Tryz.prog 60 #[p, q, s] w fun xe w' => xe = .returned (.tuple #[.agg #[.int .u64 0, .string ⟨#[]⟩, .bool false, .int .u64 0, .string ⟨#[]⟩], .int .i64 es]) ∧ Below w.heap.size w w' := by
 by_cases hs : S ≤ 2048
 ·refine ⟨1, fun _ => rfl, fun p q s w h g f => ?_⟩
  obtain ⟨ao, d, rfl, -, -⟩ := h
  obtain ⟨av, cv, rfl⟩ := slq_form' g
  obtain ⟨aw, cw, rfl⟩ := slq_form' f
  rw [List.length_replicate, List.length_replicate]
  exact mform_ns R C m d ao S cv av C cw aw (by omega) (fun g w hd => mfaultWith_w R C m d 2 2 g ao _ (fun i => if i = 0 then S else C) hR hC hm (by omega) (fun i _ => by show (if i = 0 then S else C) ≤ 2048; split <;> omega) w (fun _ => rfl) fun i hi => by
   rcases (by omega : i = 0 ∨ i = 1) with rfl | rfl
   ·exact ⟨av, cv, hd.cell 0 (by simp)⟩
   ·exact ⟨aw, cw, hd.cell 1 (by simp)⟩) w
 ·refine ⟨3, fun h => absurd h hs, fun p q s w h g f => ?_⟩
  obtain ⟨ao, d, rfl, -, -⟩ := h
  obtain ⟨av, cv, rfl⟩ := slq_form' g
  obtain ⟨aw, cw, rfl⟩ := slq_form' f
  rw [List.length_replicate, List.length_replicate]
  exact mform_err R C 3 m d ao S cv av C cw aw (by decide) (fun g w hd => mfaultWith_big R C m d S cv 2 2 g ao av _ (mcheck_ok R C m d ao hR hC hm) (by omega) (by omega) (by omega) (by omega) w rfl (hd.cell 0 (by simp))) w
end Go.Proofs.YthkodldppaccmaaGreatDoor
namespace Go.Proofs.YthkodldppaccmaaGreatDoor
open Go.RowKit
attribute [local irreducible] lo hs sm s64 c64 d64 b64 mh ml pd pc qd qc val hiB str cmpI srD lz nb zl zh zs fe rowV tabV gv bsV tabM
theorem t60 {z : Int} (h : 0 ≤ z) : ∃ d : Nat, Int.tmod z 60 = (d : Int) ∧ (d : Int) ≤ 59 := by
 rw [Int.tmod_eq_emod_of_nonneg h]
 exact ⟨(z % 60).toNat, by omega, by omega⟩
set_option maxHeartbeats 4000000 in
set_option maxRecDepth 10000 in
theorem merr_any (r c zn i k : Int) (hz : 0 ≤ zn) (W : World) (ht : Tab W) :
  Calls Tryz.prog 10 #[.int .i64 r, .int .i64 c, .int .u8 zn, .int .i64 i, .int .i64 k] W fun e w' => e = .returned (.bool true) ∧ Below W.heap.size W w' := by
 obtain ⟨m, ezn, m59⟩ := t60 hz
 have hb1 : ((m : Int) == 0) = decide (m = 0) := by
  by_cases h : m = 0
  ·subst h; rfl
  ·simp [h]
 have hb2 : (m == 0) = decide (m = 0) := by
  by_cases h : m = 0
  ·subst h; rfl
  ·simp [h]
 have HSm : ∀ (p0 : Value) (w : World), XM w p0 r c m → Calls Tryz.prog 67 #[p0, .agg #[.int .i64 r, .int .i64 c, .slice none 0 0]] w fun e w' => e = .returned (.bool (decide (m = 0))) ∧ Below w.heap.size w w' := fun p w h => by
  obtain ⟨ao, d, rfl, hd, hs⟩ := h
  exact mSameX r c m d ao _ rfl (by omega) w hs
 by_cases h1 : r < 0
 ·have HK : ∀ (d : Nat) (ao : Option Addr) (w : World), Calls Tryz.prog 51 #[.agg #[.int .i64 r, .int .i64 c, .slice ao m d]] w fun e w' => e = .returned (.int .i64 1) ∧ Below w.heap.size w w' := fun d ao w => mcheck_err r c 1 m d ao (by decide) (fun w => msize_neg1 r c h1 w) w
  exact merr_bad1 r c i k zn m (decide (r < 0)) (decide (c < 0)) (decide (2048 < r)) (decide (2048 < c)) (decide (m = 0)) ((m : Int) + 1) (fun p w h => by
    obtain ⟨ao, d, rfl, -, -⟩ := h
    exact HK d ao w) HSm (fun p w h => mrefused_any r c 1 m (by decide) HK p w h) Tab Keeps.tab mworks_any ezn m59 rfl rfl rfl rfl (fun a b c' d => by simp_all) (by omega) (by omega) (by simp; omega) (by simp; omega) hb1 hb2 rfl (.inl (decide_eq_true h1)) W ht
 by_cases h2 : c < 0
 ·have HK : ∀ (d : Nat) (ao : Option Addr) (w : World), Calls Tryz.prog 51 #[.agg #[.int .i64 r, .int .i64 c, .slice ao m d]] w fun e w' => e = .returned (.int .i64 1) ∧ Below w.heap.size w w' := fun d ao w => mcheck_err r c 1 m d ao (by decide) (fun w => msize_neg2 r c h1 h2 w) w
  exact merr_bad1 r c i k zn m (decide (r < 0)) (decide (c < 0)) (decide (2048 < r)) (decide (2048 < c)) (decide (m = 0)) ((m : Int) + 1) (fun p w h => by
    obtain ⟨ao, d, rfl, -, -⟩ := h
    exact HK d ao w) HSm (fun p w h => mrefused_any r c 1 m (by decide) HK p w h) Tab Keeps.tab mworks_any ezn m59 rfl rfl rfl rfl (fun a b c' d => by simp_all) (by omega) (by omega) (by simp; omega) (by simp; omega) hb1 hb2 rfl (.inr (.inl ⟨decide_eq_false h1, decide_eq_true h2⟩)) W ht
 by_cases h3 : 2048 < r
 ·have HK : ∀ (d : Nat) (ao : Option Addr) (w : World), Calls Tryz.prog 51 #[.agg #[.int .i64 r, .int .i64 c, .slice ao m d]] w fun e w' => e = .returned (.int .i64 3) ∧ Below w.heap.size w w' := fun d ao w => mcheck_err r c 3 m d ao (by decide) (fun w => msize_big1 r c h1 h2 h3 w) w
  exact merr_bad3 r c i k zn m (decide (r < 0)) (decide (c < 0)) (decide (2048 < r)) (decide (2048 < c)) (decide (m = 0))  (fun p w h => by
    obtain ⟨ao, d, rfl, -, -⟩ := h
    exact HK d ao w) HSm (fun p w h => mrefused_any r c 3 m (by decide) HK p w h) Tab Keeps.tab mworks_any ezn m59 rfl rfl rfl rfl hb1 hb2 rfl (.inl ⟨decide_eq_false h1, decide_eq_false h2, decide_eq_true h3⟩) W ht
 by_cases h4 : 2048 < c
 ·have HK : ∀ (d : Nat) (ao : Option Addr) (w : World), Calls Tryz.prog 51 #[.agg #[.int .i64 r, .int .i64 c, .slice ao m d]] w fun e w' => e = .returned (.int .i64 3) ∧ Below w.heap.size w w' := fun d ao w => mcheck_err r c 3 m d ao (by decide) (fun w => msize_big2 r c h1 h2 h3 h4 w) w
  exact merr_bad3 r c i k zn m (decide (r < 0)) (decide (c < 0)) (decide (2048 < r)) (decide (2048 < c)) (decide (m = 0))  (fun p w h => by
    obtain ⟨ao, d, rfl, -, -⟩ := h
    exact HK d ao w) HSm (fun p w h => mrefused_any r c 3 m (by decide) HK p w h) Tab Keeps.tab mworks_any ezn m59 rfl rfl rfl rfl hb1 hb2 rfl (.inr ⟨decide_eq_false h1, decide_eq_false h2, decide_eq_false h3, decide_eq_true h4⟩) W ht
 obtain ⟨R, rfl⟩ : ∃ R : Nat, r = (R : Int) := ⟨r.toNat, by omega⟩
 obtain ⟨C, rfl⟩ : ∃ C : Nat, c = (C : Int) := ⟨c.toNat, by omega⟩
 have hR : R ≤ 2048 := by omega
 have hC : C ≤ 2048 := by omega
 have hle := Nat.mul_le_mul hR hC
 have hmu : (R : Int) * (C : Int) = ((R * C : Nat) : Int) := (Int.natCast_mul R C).symm
 generalize hP : R * C = P at hle hmu
 by_cases h5 : m = P
 case neg =>
  have HK : ∀ (d : Nat) (ao : Option Addr) (w : World), Calls Tryz.prog 51 #[.agg #[.int .i64 (R : Int), .int .i64 (C : Int), .slice ao m d]] w fun e w' => e = .returned (.int .i64 1) ∧ Below w.heap.size w w' := fun d ao w => mcheck_len R C m d P ao hR hC hP.symm h5 w
  exact merr_bad1 (R : Int) (C : Int) i k zn m _ _ _ _ (decide (m = 0)) (P : Int) (fun p w h => by
    obtain ⟨ao, d, rfl, -, -⟩ := h
    exact HK d ao w) HSm (fun p w h => mrefused_any (R : Int) (C : Int) 1 m (by decide) HK p w h) Tab Keeps.tab mworks_any ezn m59 rfl rfl rfl rfl (fun _ _ _ _ => hmu) (by omega) (by omega) (by simp; omega) (by simp; omega) hb1 hb2 rfl (.inr (.inr ⟨decide_eq_false h1, decide_eq_false h2, decide_eq_false h3, decide_eq_false h4⟩)) W ht
 subst h5
 have hm : m = R * C := hP.symm
 obtain ⟨S, hS⟩ : ∃ S, S = R + 1 := ⟨_, rfl⟩
 obtain ⟨D, hD⟩ : ∃ D, D = C + 1 := ⟨_, rfl⟩
 obtain ⟨Q, hQ⟩ : ∃ Q, Q = S * C := ⟨_, rfl⟩
 have hQ9 : Q ≤ 5000 := by rw [hQ, hS, Nat.add_mul, Nat.one_mul]; omega
 have hQe : (S : Int) * (C : Int) = (Q : Int) := by rw [hQ, Int.natCast_mul]
 have HCk : ∀ (p0 : Value) (w : World), XM w p0 R C m → Calls Tryz.prog 51 #[p0] w fun e w' => e = .returned (.int .i64 0) ∧ Below w.heap.size w w' := fun p w h => by
  obtain ⟨ao, d, rfl, -, -⟩ := h
  exact mcheck_ok R C m d ao hR hC hm w
 obtain ⟨er, r1, r2, HRo⟩ := mRowX R C m hR hC hm i
 obtain ⟨ef, f1, f2, HCo⟩ := mColX R C m hR hC hm k
 obtain ⟨eg, g1, g2, HP1⟩ := mPart1X R C m hR hC hm i
 obtain ⟨eh, k1, k2, HP2⟩ := mPart2X R C m hR hC hm k
 obtain ⟨es, s1, HAd⟩ := mAddX R C m S Q hR hC hm hS hQ
 obtain ⟨et, t1, HSu⟩ := mSubX R C m S Q hR hC hm hS hQ
 obtain ⟨eu, u1, HMu⟩ := mMulX R C m D hR hC hm hD
 obtain ⟨ev, v1, HAp⟩ := mApplyX R C m D hR hC hm hD
 obtain ⟨ew, w1, HFo⟩ := mFormX R C m S hR hC hm hS
 have c1 : (R : Int) + 1 = (S : Int) := by omega
 have c2 : (C : Int) + 1 = (D : Int) := by omega
 have c3 : (m : Int) = (m : Int) := rfl
 by_cases hb : R = 2048 ∨ C = 2048
 ·exact merr_big R C i k zn m S D Q C _ _ _ _ _ er ef eg eh es et eu ev ew HCk HSm (fun p w h => mAtX R C m hR hC hm i k p w h) HRo HCo HP1 HP2 HAd HSu HMu HAp HFo Tab Keeps.tab mworks_any ezn m59 (Int.natCast_nonneg _) (by omega) (Int.natCast_nonneg _) (by omega) hmu c1 c2 hQe (by omega) rfl hb1 hb2 rfl rfl rfl rfl rfl r2 f2 g2 k2 r1 f1 g1 k1 (by
   by_cases hr : R = 2048
   ·exact .inl (by rw [hr]; rfl)
   ·exact .inr ⟨by simp; omega, by simp; omega⟩) W ht
 ·obtain rfl := s1 (by omega)
  obtain rfl := t1 (by omega)
  obtain rfl := u1 (by omega)
  obtain rfl := v1 (by omega)
  obtain rfl := w1 (by omega)
  exact merr_ok R C i k zn m S D Q C _ _ _ _ _ er ef eg eh HCk HSm (fun p w h => mAtX R C m hR hC hm i k p w h) HRo HCo HP1 HP2 HAd HSu HMu HAp HFo Tab Keeps.tab mworks_any ezn m59 (Int.natCast_nonneg _) (by omega) (Int.natCast_nonneg _) (by omega) hmu c1 c2 hQe (by omega) rfl hb1 hb2 rfl rfl rfl rfl rfl r2 f2 g2 k2 r1 f1 g1 k1 (by simp; omega) (by simp; omega) W ht
end Go.Proofs.YthkodldppaccmaaGreatDoor
