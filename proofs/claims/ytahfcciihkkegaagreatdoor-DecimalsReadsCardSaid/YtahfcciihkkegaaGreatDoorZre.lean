/-
  The law answers true at every input, and leaves its arguments as they were: a part of the proof. CONDITIONS: the package-level tables start as the program's text lays them (the card ties them).
-/
import Derived.Test.YtahfcciihkkegaaGreatDoorZrd
set_option linter.unusedVariables false
set_option linter.unusedSimpArgs false
set_option maxHeartbeats 16000000
set_option maxRecDepth 100000
namespace Go.Proofs.YtahfcciihkkegaaGreatDoor
open Go.RowKit Go.Proofs.YtahfcciihkkegaaGreatDoor.Rx
def fd (q : Rat) : Nat := q.den - 1
attribute [local irreducible] lo hs sm s64 c64 d64 b64 mh ml pd pc qd qc val hiB str cmpI srD lz nb isq decB zl zh zs dval tln fd
/-- A fraction of the reference: its numerator, and its denominator minus 1. -/
def RF (w : World) (v : Value) (q : Rat) : Prop := ∃ a b, v = .agg #[.bool (zs q.num), a, b] ∧ Rn w a q.num.natAbs ∧ Rn w b (fd q)
abbrev PF (q : Rat) : Value → World → Prop := fun u w => RF w u q
theorem RF.below {w w' : World} {v : Value} {q : Rat} (h : RF w v q) (hb : Below w.heap.size w w') : RF w' v q := by
 obtain ⟨a, b, h1, h2, h3⟩ := h
 exact ⟨a, b, h1, Sl.below h2 hb, Sl.below h3 hb⟩
theorem rf_form {w : World} {v : Value} {q : Rat} (h : RF w v q) : ∃ a c b d, v = .agg #[.bool (zs q.num), .slice a (tln q.num.natAbs) c, .slice b (tln (fd q)) d] := by
 obtain ⟨s, t, rfl, h2, h3⟩ := h
 obtain ⟨a, c, rfl⟩ := rn_form h2
 obtain ⟨b, d, rfl⟩ := rn_form h3
 exact ⟨a, c, b, d, rfl⟩
theorem rf_rn1 {w : World} {x s t : Value} {q : Rat} (h : RF w (.agg #[x, s, t]) q) : Rn w s q.num.natAbs := by
 obtain ⟨a, b, e, h2, h3⟩ := h
 simp only [Value.agg.injEq, Array.mk.injEq, List.cons.injEq, and_true] at e
 rw [e.2.1]; exact h2
theorem rf_rn2 {w : World} {x s t : Value} {q : Rat} (h : RF w (.agg #[x, s, t]) q) : Rn w t (fd q) := by
 obtain ⟨a, b, e, h2, h3⟩ := h
 simp only [Value.agg.injEq, Array.mk.injEq, List.cons.injEq, and_true] at e
 rw [e.2.2]; exact h3
theorem rf_of {w : World} {s t : Value} {q : Rat} (h1 : Rn w s q.num.natAbs) (h2 : Rn w t (fd q)) : RF w (.agg #[.bool (zs q.num), s, t]) q := ⟨s, t, rfl, h1, h2⟩
theorem rf_nil (w : World) : RF w (.agg #[.bool false, .slice none 0 0, .slice none 0 0]) 0 := ⟨_, _, by with_unfolding_all rfl, rn_nil w, by with_unfolding_all exact rn_nil w⟩
theorem stays_rf (q : Rat) : Stays (fun u w => RF w u q) := fun _ _ _ hb h => h.below hb
theorem rone_w  (HO : ∀ (w : World), Calls Tryz.prog 80 #[.int .u64 1] w fun e w' => ∃ pv, e = .returned pv ∧ Rn w' pv 1 ∧ Below w.heap.size w w') (w : World) :
  Calls Tryz.prog 120 #[] w fun e w' => ∃ pv, e = .returned pv ∧ Rn w' pv 1 ∧ Below w.heap.size w w' := by
 replace HO := Lib.hid HO
 have hL0 : GL w w [] := GL.start w
 have hS : SS w [] := SS.nil w
 go_enter Tryz.func120, Tryz.ntmps120
 go_wp2_with fail
 with_reducible refine Calls.mono (HO.out _) ?_
 rintro e x1 ⟨v0, rfl, q0, hb⟩
 replace hL0 := hL0.call hb
 replace hS := hS.call hb
 clear hb
 obtain ⟨g1, d1, rfl⟩ := rn_form q0
 replace hS := hS.cons q0
 clear q0
 go_wp2_with fail
 exact bodyPost_ret (v := .slice g1 (tln 1) d1) (by simp [results, Tryz.results120, go_sem]) rfl ⟨_, rfl, (hS.get mZ), hL0.bl⟩
theorem rfden_w (q : Rat) (m : Nat) (H1 : ∀ (w : World), Calls Tryz.prog 120 #[] w fun e w' => ∃ pv, e = .returned pv ∧ Rn w' pv 1 ∧ Below w.heap.size w w') (HA : ∀ (p0 p1 : Value) (w : World), Rn w p0 (fd q) → Rn w p1 1 → Calls Tryz.prog 122 #[p0, p1] w fun e w' => ∃ pv, e = .returned pv ∧ Rn w' pv m ∧ Below w.heap.size w w') (p0 : Value) (w : World) (r0 : RF w p0 q) :
  Calls Tryz.prog 77 #[p0] w fun e w' => ∃ pv, e = .returned pv ∧ Rn w' pv m ∧ Below w.heap.size w w' := by
 obtain ⟨xa0, xc0, xb0, xd0, rfl⟩ := rf_form r0
 have xf0 := Lib.hid (rf_rn1 r0)
 have xk0 := Lib.hid (rf_rn2 r0)
 clear r0
 replace H1 := Lib.hid H1
 replace HA := Lib.hid HA
 have hL0 : GL w w [] := GL.start w
 have hS : SS w [] := SS.nil w
 obtain ⟨x1, hweq, hL0, hS⟩ := GL.named2 (hL0.new rfl [.bool (zs q.num), .slice xa0 (tln q.num.natAbs) xc0, .slice xb0 (tln (fd q)) xd0] 46) (hS.new (.cells #[.bool (zs q.num), .slice xa0 (tln q.num.natAbs) xc0, .slice xb0 (tln (fd q)) xd0] 46))
 go_enter Tryz.func77, Tryz.ntmps77
 go_upto_region 1 with fail
 clear hweq
 refine region_tl 5 [EV (.pointer (some ⟨w.heap.size, 2, none⟩)), EV (.slice xb0 (tln (fd q)) xd0), PN 1, PN m, PN m] (by kernel_rfl) (by kernel_rfl) ?_ ?_ ?_
 ·repeat' first | exact stays_nil | apply stays_cons | exact stays_eq _ | exact stays_rn _
 ·simp only [List.take_succ_cons, List.take_zero, hopsR, and_true]
  refine ⟨?_, ?_, ?_, ?_, ?_⟩ <;> intro fv w1 hb1 hp
  all_goals (have hc := (hL0.call (below_drew hb1)).fc; simp only [zF, Nat.reduceAdd] at hc; simp only [putsV, Act.put, zP, Nat.zero_add, Nat.reduceAdd])
  ·refine tyAt_none rfl ?_
   simp [tyUpon, execOp, go_sem, Act.eval, Below.refl]
  ·have h0 : EV _ (fv 0) w1 := hp 0 (LC (by kernel_rfl))
   refine tyAt_none rfl ?_
   simp [tyUpon, execOp, go_sem, Act.eval, hc, h0, Below.refl]
  ·refine tyAt_none rfl ?_
   refine ty_call (f := 120) (args := #[]) (by simp [execOp, go_sem, Act.eval]) ?_
   exact (H1.out w1).mono fun e w2 ⟨pv, h1, h2, h3⟩ => ⟨pv, h1, h2, h3⟩
  ·have h1 : EV _ (fv 1) w1 := hp 1 (LC (by kernel_rfl))
   have h2 : PN _ (fv 2) w1 := hp 2 (LC (by kernel_rfl))
   refine tyAt_none rfl ?_
   refine ty_call (f := 122) (args := #[.slice xb0 (tln (fd q)) xd0, fv 2]) (by simp [execOp, go_sem, Act.eval, h1]) ?_
   exact (HA.out (.slice xb0 (tln (fd q)) xd0) (fv 2) w1 (Sl.below (Sl.below xk0.out hL0.bl) (below_drew hb1)) h2).mono fun e w2 ⟨pv, h1, h2, h3⟩ => ⟨pv, h1, h2, h3⟩
  ·have h3 : PN _ (fv 3) w1 := hp 3 (LC (by kernel_rfl))
   refine tyAt_none rfl ?_
   simp [tyUpon, execOp, go_sem, Act.eval, Below.refl]
   exact h3
 ·intro fv x2 hb1 hv
  have e0 : fv 0 = _ := hv 0 (by omega)
  have e1 : fv 1 = _ := hv 1 (by omega)
  have q2 : Rn x2 (fv 2) 1 := hv 2 (by omega)
  obtain ⟨g1, d1, e2⟩ := rn_form q2
  rw [e2] at q2
  have q3 : Rn x2 (fv 3) m := hv 3 (by omega)
  obtain ⟨g2, d2, e3⟩ := rn_form q3
  rw [e3] at q3
  have q4 : Rn x2 (fv 4) m := hv 4 (by omega)
  obtain ⟨g3, d3, e4⟩ := rn_form q4
  rw [e4] at q4
  simp only [List.take_succ_cons, List.take_zero, putsV, Act.put, zP, List.drop_succ_cons, List.drop_zero, Nat.zero_add, Nat.reduceAdd, e0, e1, e2, e3, e4]
  replace hL0 := hL0.call (below_drew hb1)
  replace hS := hS.call (below_drew hb1)
  replace hS := hS.cons q2
  replace hS := hS.cons q3
  replace hS := hS.cons q4
  clear e0 e1 e2 e3 e4 hb1 hv q2 q3 q4 fv
  go_wp2_with fail
  exact bodyPost_ret (v := .slice g3 (tln m) d3) (by simp [results, Tryz.results77, go_sem]) rfl ⟨_, rfl, (hS.get mZ), hL0.bl⟩
theorem rfzden_w (q : Rat) (m : Nat) (z : Int) (HD : ∀ (p0 : Value) (w : World), RF w p0 q → Calls Tryz.prog 77 #[p0] w fun e w' => ∃ pv, e = .returned pv ∧ Rn w' pv m ∧ Below w.heap.size w w') (HF : ∀ (p1 : Value) (w : World), Rn w p1 m → Calls Tryz.prog 117 #[.bool false, p1] w fun e w' => ∃ pv, e = .returned pv ∧ RZ w' pv z ∧ Below w.heap.size w w') (p0 : Value) (w : World) (r0 : RF w p0 q) :
  Calls Tryz.prog 134 #[p0] w fun e w' => ∃ pv, e = .returned pv ∧ RZ w' pv z ∧ Below w.heap.size w w' := by
 obtain ⟨xa0, xc0, xb0, xd0, rfl⟩ := rf_form r0
 have xf0 := Lib.hid (rf_rn1 r0)
 have xk0 := Lib.hid (rf_rn2 r0)
 clear r0
 replace HD := Lib.hid HD
 replace HF := Lib.hid HF
 have hL0 : GL w w [] := GL.start w
 have hS : SS w [] := SS.nil w
 obtain ⟨x1, hweq, hL0, hS⟩ := GL.named2 ((hL0.new rfl [.bool (zs q.num), .slice xa0 (tln q.num.natAbs) xc0, .slice xb0 (tln (fd q)) xd0] 46).new (K := w.heap.size + 1) (szA _ _) [.bool false, .slice none 0 0] 44) ((hS.new (.cells #[.bool (zs q.num), .slice xa0 (tln q.num.natAbs) xc0, .slice xb0 (tln (fd q)) xd0] 46)).new (.cells #[.bool false, .slice none 0 0] 44))
 go_enter Tryz.func134, Tryz.ntmps134
 have hN0 := cells_of _ 0 [] rfl (hL0.get _ _ (mK mZ))
 simp only [zF, Nat.reduceAdd] at hN0
 go_wp2_with fail
 clear hN0
 with_reducible refine Calls.mono (HD.out (.agg #[.bool (zs q.num), .slice xa0 (tln q.num.natAbs) xc0, .slice xb0 (tln (fd q)) xd0]) _ (rf_of (Sl.below xf0.out hL0.bl) (Sl.below xk0.out hL0.bl))) ?_
 rintro e x2 ⟨v0, rfl, q0, hb⟩
 replace hL0 := hL0.call hb
 replace hS := hS.call hb
 clear hb hweq
 obtain ⟨g1, d1, rfl⟩ := rn_form q0
 replace hS := hS.cons q0
 clear q0
 go_wp2_with fail
 with_reducible refine Calls.mono (HF.out (.slice g1 (tln m) d1) _ (hS.get mZ)) ?_
 rintro e x3 ⟨v0, rfl, q0, hb⟩
 replace hL0 := hL0.call hb
 replace hS := hS.call hb
 clear hb
 obtain ⟨g2, d2, rfl⟩ := rz_form q0
 replace hS := hS.cons (rz_rn q0)
 clear q0
 have hS1 := hS.put (((Upd.refl (w.heap.size + 1) x3).setCell 0 (.bool (zs z))).setCell 1 (.slice g2 (tln z.natAbs) d2)) (hL0.get _ _ mZ) (by intro v hv n; simp only [List.mem_cons, List.not_mem_nil, or_false] at hv; rcases hv with rfl | rfl <;> simp)
 have hA := hL0.fc
 simp only [zF, Nat.reduceAdd] at hA
 have hP := hL0.put 0 (w.heap.size + 1) _ rfl [.bool (zs z), .slice g2 (tln z.natAbs) d2] rfl
 simp only [setAll, List.set_cons_zero, List.set_cons_succ] at hP
 generalize hput1 : ((x3.setCell ⟨w.heap.size + 1, 0, none⟩ (.bool (zs z))).setCell ⟨w.heap.size + 1, 1, none⟩ (.slice g2 (tln z.natAbs) d2)) = x4 at hP hS1
 have hB1 := hP.fc
 simp only [zF, Nat.reduceAdd] at hB1
 replace hL0 := hP
 replace hS := hS1
 clear hS1
 go_wp2_with fail
 exact bodyPost_ret (v := .agg #[.bool (zs z), .slice g2 (tln z.natAbs) d2]) (by simp [results, Tryz.results134, go_sem, hB1]) rfl ⟨_, rfl, (rz_of (hS.get mZ)), hL0.bl⟩
theorem rffrom_w (z : Int) (d g k r m t : Nat) (q : Rat) (HG : ∀ (p0 p1 : Value) (w : World), Rn w p0 z.natAbs → Rn w p1 d → Calls Tryz.prog 118 #[p0, p1] w fun e w' => ∃ pv, e = .returned pv ∧ Rn w' pv g ∧ Below w.heap.size w w') (HD : ∀ (p0 p1 : Value) (w : World), Rn w p0 z.natAbs → Rn w p1 g → Calls Tryz.prog 78 #[p0, p1] w fun e w' => ∃ v0 v1, e = .returned (.tuple #[v0, v1]) ∧ Rn w' v0 k ∧ Rn w' v1 r ∧ Below w.heap.size w w') (HE : ∀ (p0 p1 : Value) (w : World), Rn w p0 d → Rn w p1 g → Calls Tryz.prog 78 #[p0, p1] w fun e w' => ∃ v0 v1, e = .returned (.tuple #[v0, v1]) ∧ Rn w' v0 m ∧ Rn w' v1 t ∧ Below w.heap.size w w') (HF : ∀ (p1 : Value) (w : World), Rn w p1 k → Calls Tryz.prog 117 #[.bool (zs z), p1] w fun e w' => ∃ pv, e = .returned pv ∧ RZ w' pv q.num ∧ Below w.heap.size w w') (H1 : ∀ (w : World), Calls Tryz.prog 120 #[] w fun e w' => ∃ pv, e = .returned pv ∧ Rn w' pv 1 ∧ Below w.heap.size w w') (HB : ∀ (p0 p1 : Value) (w : World), Rn w p0 m → Rn w p1 1 → Calls Tryz.prog 119 #[p0, p1] w fun e w' => ∃ pv, e = .returned pv ∧ Rn w' pv (fd q) ∧ Below w.heap.size w w') (p0 : Value) (p1 : Value) (w : World) (r0 : RZ w p0 z) (r1 : Rn w p1 d) :
  Calls Tryz.prog 58 #[p0, p1] w fun e w' => ∃ pv, e = .returned pv ∧ RF w' pv q ∧ Below w.heap.size w w' := by
 obtain ⟨a0, c0, rfl⟩ := rz_form r0
 have f0 := Lib.hid (rz_rn r0)
 clear r0
 obtain ⟨a1, c1, rfl⟩ := rn_form r1
 have f1 := Lib.hid r1
 clear r1
 replace HG := Lib.hid HG
 replace HD := Lib.hid HD
 replace HE := Lib.hid HE
 replace HF := Lib.hid HF
 replace H1 := Lib.hid H1
 replace HB := Lib.hid HB
 have hL0 : GL w w [] := GL.start w
 have hS : SS w [] := SS.nil w
 obtain ⟨x1, hweq, hL0, hS⟩ := GL.named2 ((hL0.new rfl [.bool (zs z), .slice a0 (tln z.natAbs) c0] 44).new (K := w.heap.size + 1) (szA _ _) [.bool false, .slice none 0 0, .slice none 0 0] 46) ((hS.new (.cells #[.bool (zs z), .slice a0 (tln z.natAbs) c0] 44)).new (.cells #[.bool false, .slice none 0 0, .slice none 0 0] 46))
 go_enter Tryz.func58, Tryz.ntmps58
 have hN0 := cells_of _ 0 [] rfl (hL0.get _ _ (mK mZ))
 simp only [zF, Nat.reduceAdd] at hN0
 go_wp2_with fail
 clear hN0
 with_reducible refine Calls.mono (HG.out (.slice a0 (tln z.natAbs) c0) (.slice a1 (tln d) c1) _ (Sl.below f0.out hL0.bl) (Sl.below f1.out hL0.bl)) ?_
 rintro e x2 ⟨v0, rfl, q0, hb⟩
 replace hL0 := hL0.call hb
 replace hS := hS.call hb
 clear hb hweq
 obtain ⟨g1, d1, rfl⟩ := rn_form q0
 replace hS := hS.cons q0
 clear q0
 have hN0 := cells_of _ 0 [] rfl (hL0.get _ _ (mK mZ))
 simp only [zF, Nat.reduceAdd] at hN0
 go_wp2_with fail
 clear hN0
 with_reducible refine Calls.mono (HD.out (.slice a0 (tln z.natAbs) c0) (.slice g1 (tln g) d1) _ (Sl.below f0.out hL0.bl) (hS.get mZ)) ?_
 rintro e x3 ⟨v0, v1, rfl, q0, q1, hb⟩
 replace hL0 := hL0.call hb
 replace hS := hS.call hb
 clear hb
 obtain ⟨g2, d2, rfl⟩ := rn_form q0
 replace hS := hS.cons q0
 clear q0
 obtain ⟨g3, d3, rfl⟩ := rn_form q1
 replace hS := hS.cons q1
 clear q1
 go_wp2_with fail
 with_reducible refine Calls.mono (HE.out (.slice a1 (tln d) c1) (.slice g1 (tln g) d1) _ (Sl.below f1.out hL0.bl) (hS.get (mK (mK mZ)))) ?_
 rintro e x4 ⟨v0, v1, rfl, q0, q1, hb⟩
 replace hL0 := hL0.call hb
 replace hS := hS.call hb
 clear hb
 obtain ⟨g4, d4, rfl⟩ := rn_form q0
 replace hS := hS.cons q0
 clear q0
 obtain ⟨g5, d5, rfl⟩ := rn_form q1
 replace hS := hS.cons q1
 clear q1
 have hN0 := cells_of _ 0 [] rfl (hL0.get _ _ (mK mZ))
 simp only [zF, Nat.reduceAdd] at hN0
 go_wp2_with fail
 clear hN0
 with_reducible refine Calls.mono (HF.out (.slice g2 (tln k) d2) _ (hS.get (mK (mK (mK mZ))))) ?_
 rintro e x5 ⟨v0, rfl, q0, hb⟩
 replace hL0 := hL0.call hb
 replace hS := hS.call hb
 clear hb
 obtain ⟨g6, d6, rfl⟩ := rz_form q0
 replace hS := hS.cons (rz_rn q0)
 clear q0
 go_wp2_with fail
 with_reducible refine Calls.mono (H1.out _) ?_
 rintro e x6 ⟨v0, rfl, q0, hb⟩
 replace hL0 := hL0.call hb
 replace hS := hS.call hb
 clear hb
 obtain ⟨g7, d7, rfl⟩ := rn_form q0
 replace hS := hS.cons q0
 clear q0
 go_wp2_with fail
 with_reducible refine Calls.mono (HB.out (.slice g4 (tln m) d4) (.slice g7 (tln 1) d7) _ (hS.get (mK (mK (mK mZ)))) (hS.get mZ)) ?_
 rintro e x7 ⟨v0, rfl, q0, hb⟩
 replace hL0 := hL0.call hb
 replace hS := hS.call hb
 clear hb
 obtain ⟨g8, d8, rfl⟩ := rn_form q0
 replace hS := hS.cons q0
 clear q0
 have hS1 := hS.put ((((Upd.refl (w.heap.size + 1) x7).setCell 0 (.bool (zs q.num))).setCell 1 (.slice g6 (tln q.num.natAbs) d6)).setCell 2 (.slice g8 (tln (fd q)) d8)) (hL0.get _ _ mZ) (by intro v hv n; simp only [List.mem_cons, List.not_mem_nil, or_false] at hv; rcases hv with rfl | rfl | rfl <;> simp)
 have hA := hL0.fc
 simp only [zF, Nat.reduceAdd] at hA
 have hP := hL0.put 0 (w.heap.size + 1) _ rfl [.bool (zs q.num), .slice g6 (tln q.num.natAbs) d6, .slice g8 (tln (fd q)) d8] rfl
 simp only [setAll, List.set_cons_zero, List.set_cons_succ] at hP
 generalize hput1 : (((x7.setCell ⟨w.heap.size + 1, 0, none⟩ (.bool (zs q.num))).setCell ⟨w.heap.size + 1, 1, none⟩ (.slice g6 (tln q.num.natAbs) d6)).setCell ⟨w.heap.size + 1, 2, none⟩ (.slice g8 (tln (fd q)) d8)) = x8 at hP hS1
 have hB1 := hP.fc
 simp only [zF, Nat.reduceAdd] at hB1
 replace hL0 := hP
 replace hS := hS1
 clear hS1
 go_wp2_with fail
 exact bodyPost_ret (v := .agg #[.bool (zs q.num), .slice g6 (tln q.num.natAbs) d6, .slice g8 (tln (fd q)) d8]) (by simp [results, Tryz.results58, go_sem, hB1]) rfl ⟨_, rfl, (rf_of (hS.get (mK (mK mZ))) (hS.get mZ)), hL0.bl⟩
theorem rfneg_w (q r : Rat) (HN : ∀ (p0 : Value) (w : World), RZ w p0 q.num → Calls Tryz.prog 135 #[p0] w fun e w' => ∃ pv, e = .returned pv ∧ RZ w' pv r.num ∧ Below w.heap.size w w') (hr : fd r = fd q) (p0 : Value) (w : World) (r0 : RF w p0 q) :
  Calls Tryz.prog 73 #[p0] w fun e w' => ∃ pv, e = .returned pv ∧ RF w' pv r ∧ Below w.heap.size w w' := by
 obtain ⟨xa0, xc0, xb0, xd0, rfl⟩ := rf_form r0
 have xf0 := Lib.hid (rf_rn1 r0)
 have xk0 := Lib.hid (rf_rn2 r0)
 clear r0
 replace HN := Lib.hid HN
 have hL0 : GL w w [] := GL.start w
 have hS : SS w [] := SS.nil w
 replace hr := Lib.hid hr
 obtain ⟨x1, hweq, hL0, hS⟩ := GL.named2 ((hL0.new rfl [.bool (zs q.num), .slice xa0 (tln q.num.natAbs) xc0, .slice xb0 (tln (fd q)) xd0] 46).new (K := w.heap.size + 1) (szA _ _) [.bool false, .slice none 0 0, .slice none 0 0] 46) ((hS.new (.cells #[.bool (zs q.num), .slice xa0 (tln q.num.natAbs) xc0, .slice xb0 (tln (fd q)) xd0] 46)).new (.cells #[.bool false, .slice none 0 0, .slice none 0 0] 46))
 go_enter Tryz.func73, Tryz.ntmps73
 go_upto_region 1 with fail
 clear hweq
 refine region_tl 6 [EV (.pointer (some ⟨w.heap.size, 0, none⟩)), EV (.agg #[.bool (zs q.num), .slice xa0 (tln q.num.natAbs) xc0]), PZ r.num, EV (.pointer (some ⟨w.heap.size, 2, none⟩)), EV (.slice xb0 (tln (fd q)) xd0), PF r] (by kernel_rfl) (by kernel_rfl) ?_ ?_ ?_
 ·repeat' first | exact stays_nil | apply stays_cons | exact stays_eq _ | exact stays_rz _ | exact stays_rf _
 ·simp only [List.take_succ_cons, List.take_zero, hopsR, and_true]
  refine ⟨?_, ?_, ?_, ?_, ?_, ?_⟩ <;> intro fv w1 hb1 hp
  all_goals (have hc := (hL0.call (below_drew hb1)).fc; simp only [zF, Nat.reduceAdd] at hc; simp only [putsV, Act.put, zP, Nat.zero_add, Nat.reduceAdd])
  ·refine tyAt_none rfl ?_
   simp [tyUpon, execOp, go_sem, Act.eval, Below.refl]
  ·have h0 : EV _ (fv 0) w1 := hp 0 (LC (by kernel_rfl))
   refine tyAt_none rfl ?_
   simp [tyUpon, execOp, go_sem, Act.eval, hc, h0, Below.refl]
  ·have h1 : EV _ (fv 1) w1 := hp 1 (LC (by kernel_rfl))
   refine tyAt_none rfl ?_
   refine ty_call (f := 135) (args := #[.agg #[.bool (zs q.num), .slice xa0 (tln q.num.natAbs) xc0]]) (by simp [execOp, go_sem, Act.eval, h1]) ?_
   exact (HN.out (.agg #[.bool (zs q.num), .slice xa0 (tln q.num.natAbs) xc0]) w1 (rz_of (Sl.below (Sl.below xf0.out hL0.bl) (below_drew hb1)))).mono fun e w2 ⟨pv, h1, h2, h3⟩ => ⟨pv, h1, h2, h3⟩
  ·refine tyAt_none rfl ?_
   simp [tyUpon, execOp, go_sem, Act.eval, Below.refl]
  ·have h3 : EV _ (fv 3) w1 := hp 3 (LC (by kernel_rfl))
   refine tyAt_none rfl ?_
   simp [tyUpon, execOp, go_sem, Act.eval, hc, h3, Below.refl]
  ·have h2 : PZ _ (fv 2) w1 := hp 2 (LC (by kernel_rfl))
   have h4 : EV _ (fv 4) w1 := hp 4 (LC (by kernel_rfl))
   refine tyAt_none rfl ?_
   obtain ⟨pg, pd, pe⟩ := rz_form h2
   rw [pe] at h2
   simp [tyUpon, execOp, go_sem, Act.eval, pe, h4, Below.refl]
   exact rf_of (rz_rn h2) (by rw [hr.out]; exact (Sl.below (Sl.below xk0.out hL0.bl) (below_drew hb1)))
 ·intro fv x2 hb1 hv
  have e0 : fv 0 = _ := hv 0 (by omega)
  have e1 : fv 1 = _ := hv 1 (by omega)
  have q2 : RZ x2 (fv 2) r.num := hv 2 (by omega)
  obtain ⟨g1, d1, e2⟩ := rz_form q2
  rw [e2] at q2
  have e3 : fv 3 = _ := hv 3 (by omega)
  have e4 : fv 4 = _ := hv 4 (by omega)
  have q5 : RF x2 (fv 5) r := hv 5 (by omega)
  obtain ⟨g2, d2, g3, d3, e5⟩ := rf_form q5
  rw [e5] at q5
  simp only [List.take_succ_cons, List.take_zero, putsV, Act.put, zP, List.drop_succ_cons, List.drop_zero, Nat.zero_add, Nat.reduceAdd, e0, e1, e2, e3, e4, e5]
  replace hL0 := hL0.call (below_drew hb1)
  replace hS := hS.call (below_drew hb1)
  replace hS := hS.cons (rz_rn q2)
  replace hS := hS.cons (rf_rn1 q5)
  replace hS := hS.cons (rf_rn2 q5)
  clear e0 e1 e2 e3 e4 e5 hb1 hv q2 q5 fv
  have hS1 := hS.put ((((Upd.refl (w.heap.size + 1) x2).setCell 0 (.bool (zs r.num))).setCell 1 (.slice g2 (tln r.num.natAbs) d2)).setCell 2 (.slice g3 (tln (fd r)) d3)) (hL0.get _ _ mZ) (by intro v hv n; simp only [List.mem_cons, List.not_mem_nil, or_false] at hv; rcases hv with rfl | rfl | rfl <;> simp)
  have hA := hL0.fc
  simp only [zF, Nat.reduceAdd] at hA
  have hP := hL0.put 0 (w.heap.size + 1) _ rfl [.bool (zs r.num), .slice g2 (tln r.num.natAbs) d2, .slice g3 (tln (fd r)) d3] rfl
  simp only [setAll, List.set_cons_zero, List.set_cons_succ] at hP
  generalize hput1 : (((x2.setCell ⟨w.heap.size + 1, 0, none⟩ (.bool (zs r.num))).setCell ⟨w.heap.size + 1, 1, none⟩ (.slice g2 (tln r.num.natAbs) d2)).setCell ⟨w.heap.size + 1, 2, none⟩ (.slice g3 (tln (fd r)) d3)) = x3 at hP hS1
  have hB1 := hP.fc
  simp only [zF, Nat.reduceAdd] at hB1
  replace hL0 := hP
  replace hS := hS1
  clear hS1
  go_wp2_with fail
  exact bodyPost_ret (v := .agg #[.bool (zs r.num), .slice g2 (tln r.num.natAbs) d2, .slice g3 (tln (fd r)) d3]) (by simp [results, Tryz.results73, go_sem, hB1]) rfl ⟨_, rfl, (rf_of (hS.get (mK mZ)) (hS.get mZ)), hL0.bl⟩
theorem rfsign_w (q : Rat) (c : Int) (HS : ∀ (p0 : Value) (w : World), RZ w p0 q.num → Calls Tryz.prog 116 #[p0] w fun e w' => e = .returned (.int .i64 c) ∧ Below w.heap.size w w') (p0 : Value) (w : World) (r0 : RF w p0 q) :
  Calls Tryz.prog 72 #[p0] w fun e w' => e = .returned (.int .i64 c) ∧ Below w.heap.size w w' := by
 obtain ⟨xa0, xc0, xb0, xd0, rfl⟩ := rf_form r0
 have xf0 := Lib.hid (rf_rn1 r0)
 have xk0 := Lib.hid (rf_rn2 r0)
 clear r0
 replace HS := Lib.hid HS
 have hL0 : GL w w [] := GL.start w
 have hS : SS w [] := SS.nil w
 obtain ⟨x1, hweq, hL0, hS⟩ := GL.named2 (hL0.new rfl [.bool (zs q.num), .slice xa0 (tln q.num.natAbs) xc0, .slice xb0 (tln (fd q)) xd0] 46) (hS.new (.cells #[.bool (zs q.num), .slice xa0 (tln q.num.natAbs) xc0, .slice xb0 (tln (fd q)) xd0] 46))
 go_enter Tryz.func72, Tryz.ntmps72
 have hN0 := cells_of _ 0 [] rfl (hL0.get _ _ mZ)
 simp only [zF, Nat.reduceAdd] at hN0
 go_wp2_with fail
 clear hN0
 with_reducible refine Calls.mono (HS.out (.agg #[.bool (zs q.num), .slice xa0 (tln q.num.natAbs) xc0]) _ (rz_of (Sl.below xf0.out hL0.bl))) ?_
 rintro e x2 ⟨rfl, hb⟩
 replace hL0 := hL0.call hb
 replace hS := hS.call hb
 clear hb hweq
 go_wp2_with fail
 exact bodyPost_ret (v := .int .i64 c) (by simp [results, Tryz.results72, go_sem]) rfl ⟨rfl, hL0.bl⟩
theorem rfadd_w (p q r : Rat) (a b c d s : Int) (m n k : Nat) (HP : ∀ (p0 : Value) (w : World), RF w p0 p → Calls Tryz.prog 134 #[p0] w fun e w' => ∃ pv, e = .returned pv ∧ RZ w' pv a ∧ Below w.heap.size w w') (HQ : ∀ (p0 : Value) (w : World), RF w p0 q → Calls Tryz.prog 134 #[p0] w fun e w' => ∃ pv, e = .returned pv ∧ RZ w' pv b ∧ Below w.heap.size w w') (HM : ∀ (p0 p1 : Value) (w : World), RZ w p0 p.num → RZ w p1 b → Calls Tryz.prog 133 #[p0, p1] w fun e w' => ∃ pv, e = .returned pv ∧ RZ w' pv c ∧ Below w.heap.size w w') (HN : ∀ (p0 p1 : Value) (w : World), RZ w p0 q.num → RZ w p1 a → Calls Tryz.prog 133 #[p0, p1] w fun e w' => ∃ pv, e = .returned pv ∧ RZ w' pv d ∧ Below w.heap.size w w') (HA : ∀ (p0 p1 : Value) (w : World), RZ w p0 c → RZ w p1 d → Calls Tryz.prog 60 #[p0, p1] w fun e w' => ∃ pv, e = .returned pv ∧ RZ w' pv s ∧ Below w.heap.size w w') (HD : ∀ (p0 : Value) (w : World), RF w p0 p → Calls Tryz.prog 77 #[p0] w fun e w' => ∃ pv, e = .returned pv ∧ Rn w' pv m ∧ Below w.heap.size w w') (HE : ∀ (p0 : Value) (w : World), RF w p0 q → Calls Tryz.prog 77 #[p0] w fun e w' => ∃ pv, e = .returned pv ∧ Rn w' pv n ∧ Below w.heap.size w w') (HX : ∀ (p0 p1 : Value) (w : World), Rn w p0 m → Rn w p1 n → Calls Tryz.prog 79 #[p0, p1] w fun e w' => ∃ pv, e = .returned pv ∧ Rn w' pv k ∧ Below w.heap.size w w') (HF : ∀ (p0 p1 : Value) (w : World), RZ w p0 s → Rn w p1 k → Calls Tryz.prog 58 #[p0, p1] w fun e w' => ∃ pv, e = .returned pv ∧ RF w' pv r ∧ Below w.heap.size w w') (p0 : Value) (p1 : Value) (w : World) (r0 : RF w p0 p) (r1 : RF w p1 q) :
  Calls Tryz.prog 70 #[p0, p1] w fun e w' => ∃ pv, e = .returned pv ∧ RF w' pv r ∧ Below w.heap.size w w' := by
 obtain ⟨xa0, xc0, xb0, xd0, rfl⟩ := rf_form r0
 have xf0 := Lib.hid (rf_rn1 r0)
 have xk0 := Lib.hid (rf_rn2 r0)
 clear r0
 obtain ⟨xa1, xc1, xb1, xd1, rfl⟩ := rf_form r1
 have xf1 := Lib.hid (rf_rn1 r1)
 have xk1 := Lib.hid (rf_rn2 r1)
 clear r1
 replace HP := Lib.hid HP
 replace HQ := Lib.hid HQ
 replace HM := Lib.hid HM
 replace HN := Lib.hid HN
 replace HA := Lib.hid HA
 replace HD := Lib.hid HD
 replace HE := Lib.hid HE
 replace HX := Lib.hid HX
 replace HF := Lib.hid HF
 have hL0 : GL w w [] := GL.start w
 have hS : SS w [] := SS.nil w
 obtain ⟨x1, hweq, hL0, hS⟩ := GL.named2 (((hL0.new rfl [.bool (zs p.num), .slice xa0 (tln p.num.natAbs) xc0, .slice xb0 (tln (fd p)) xd0] 46).new (K := w.heap.size + 1) (szA _ _) [.bool (zs q.num), .slice xa1 (tln q.num.natAbs) xc1, .slice xb1 (tln (fd q)) xd1] 46).new (K := w.heap.size + 1 + 1) (by simp only [World.size_alloc]) [.bool false, .slice none 0 0, .slice none 0 0] 46) (((hS.new (.cells #[.bool (zs p.num), .slice xa0 (tln p.num.natAbs) xc0, .slice xb0 (tln (fd p)) xd0] 46)).new (.cells #[.bool (zs q.num), .slice xa1 (tln q.num.natAbs) xc1, .slice xb1 (tln (fd q)) xd1] 46)).new (.cells #[.bool false, .slice none 0 0, .slice none 0 0] 46))
 go_enter Tryz.func70, Tryz.ntmps70
 go_upto_region 1 with fail
 clear hweq
 refine region_tl 17 [EV (.pointer (some ⟨w.heap.size, 0, none⟩)), EV (.agg #[.bool (zs p.num), .slice xa0 (tln p.num.natAbs) xc0]), EV (.agg #[.bool (zs q.num), .slice xa1 (tln q.num.natAbs) xc1, .slice xb1 (tln (fd q)) xd1]), PZ b, PZ c, EV (.pointer (some ⟨w.heap.size + 1, 0, none⟩)), EV (.agg #[.bool (zs q.num), .slice xa1 (tln q.num.natAbs) xc1]), EV (.agg #[.bool (zs p.num), .slice xa0 (tln p.num.natAbs) xc0, .slice xb0 (tln (fd p)) xd0]), PZ a, PZ d, PZ s, EV (.agg #[.bool (zs p.num), .slice xa0 (tln p.num.natAbs) xc0, .slice xb0 (tln (fd p)) xd0]), PN m, EV (.agg #[.bool (zs q.num), .slice xa1 (tln q.num.natAbs) xc1, .slice xb1 (tln (fd q)) xd1]), PN n, PN k, PF r] (by kernel_rfl) (by kernel_rfl) ?_ ?_ ?_
 ·repeat' first | exact stays_nil | apply stays_cons | exact stays_eq _ | exact stays_rz _ | exact stays_rn _ | exact stays_rf _
 ·simp only [List.take_succ_cons, List.take_zero, hopsR, and_true]
  refine ⟨?_, ?_, ?_, ?_, ?_, ?_, ?_, ?_, ?_, ?_, ?_, ?_, ?_, ?_, ?_, ?_, ?_⟩ <;> intro fv w1 hb1 hp
  all_goals (have hc := (hL0.call (below_drew hb1)).fc; simp only [zF, Nat.reduceAdd] at hc; simp only [putsV, Act.put, zP, Nat.zero_add, Nat.reduceAdd])
  ·refine tyAt_none rfl ?_
   simp [tyUpon, execOp, go_sem, Act.eval, Below.refl]
  ·have h0 : EV _ (fv 0) w1 := hp 0 (LC (by kernel_rfl))
   refine tyAt_none rfl ?_
   simp [tyUpon, execOp, go_sem, Act.eval, hc, h0, Below.refl]
  ·refine tyAt_none rfl ?_
   simp [tyUpon, execOp, go_sem, Act.eval, hc, Below.refl]
  ·have h2 : EV _ (fv 2) w1 := hp 2 (LC (by kernel_rfl))
   refine tyAt_none rfl ?_
   refine ty_call (f := 134) (args := #[.agg #[.bool (zs q.num), .slice xa1 (tln q.num.natAbs) xc1, .slice xb1 (tln (fd q)) xd1]]) (by simp [execOp, go_sem, Act.eval, h2]) ?_
   exact (HQ.out (.agg #[.bool (zs q.num), .slice xa1 (tln q.num.natAbs) xc1, .slice xb1 (tln (fd q)) xd1]) w1 (rf_of (Sl.below (Sl.below xf1.out hL0.bl) (below_drew hb1)) (Sl.below (Sl.below xk1.out hL0.bl) (below_drew hb1)))).mono fun e w2 ⟨pv, h1, h2, h3⟩ => ⟨pv, h1, h2, h3⟩
  ·have h1 : EV _ (fv 1) w1 := hp 1 (LC (by kernel_rfl))
   have h3 : PZ _ (fv 3) w1 := hp 3 (LC (by kernel_rfl))
   refine tyAt_none rfl ?_
   refine ty_call (f := 133) (args := #[.agg #[.bool (zs p.num), .slice xa0 (tln p.num.natAbs) xc0], fv 3]) (by simp [execOp, go_sem, Act.eval, h1]) ?_
   exact (HM.out (.agg #[.bool (zs p.num), .slice xa0 (tln p.num.natAbs) xc0]) (fv 3) w1 (rz_of (Sl.below (Sl.below xf0.out hL0.bl) (below_drew hb1))) h3).mono fun e w2 ⟨pv, h1, h2, h3⟩ => ⟨pv, h1, h2, h3⟩
  ·refine tyAt_none rfl ?_
   simp [tyUpon, execOp, go_sem, Act.eval, Below.refl]
  ·have h5 : EV _ (fv 5) w1 := hp 5 (LC (by kernel_rfl))
   refine tyAt_none rfl ?_
   simp [tyUpon, execOp, go_sem, Act.eval, hc, h5, Below.refl]
  ·refine tyAt_none rfl ?_
   simp [tyUpon, execOp, go_sem, Act.eval, hc, Below.refl]
  ·have h7 : EV _ (fv 7) w1 := hp 7 (LC (by kernel_rfl))
   refine tyAt_none rfl ?_
   refine ty_call (f := 134) (args := #[.agg #[.bool (zs p.num), .slice xa0 (tln p.num.natAbs) xc0, .slice xb0 (tln (fd p)) xd0]]) (by simp [execOp, go_sem, Act.eval, h7]) ?_
   exact (HP.out (.agg #[.bool (zs p.num), .slice xa0 (tln p.num.natAbs) xc0, .slice xb0 (tln (fd p)) xd0]) w1 (rf_of (Sl.below (Sl.below xf0.out hL0.bl) (below_drew hb1)) (Sl.below (Sl.below xk0.out hL0.bl) (below_drew hb1)))).mono fun e w2 ⟨pv, h1, h2, h3⟩ => ⟨pv, h1, h2, h3⟩
  ·have h6 : EV _ (fv 6) w1 := hp 6 (LC (by kernel_rfl))
   have h8 : PZ _ (fv 8) w1 := hp 8 (LC (by kernel_rfl))
   refine tyAt_none rfl ?_
   refine ty_call (f := 133) (args := #[.agg #[.bool (zs q.num), .slice xa1 (tln q.num.natAbs) xc1], fv 8]) (by simp [execOp, go_sem, Act.eval, h6]) ?_
   exact (HN.out (.agg #[.bool (zs q.num), .slice xa1 (tln q.num.natAbs) xc1]) (fv 8) w1 (rz_of (Sl.below (Sl.below xf1.out hL0.bl) (below_drew hb1))) h8).mono fun e w2 ⟨pv, h1, h2, h3⟩ => ⟨pv, h1, h2, h3⟩
  ·have h4 : PZ _ (fv 4) w1 := hp 4 (LC (by kernel_rfl))
   have h9 : PZ _ (fv 9) w1 := hp 9 (LC (by kernel_rfl))
   refine tyAt_none rfl ?_
   refine ty_call (f := 60) (args := #[fv 4, fv 9]) (by simp [execOp, go_sem, Act.eval]) ?_
   exact (HA.out (fv 4) (fv 9) w1 h4 h9).mono fun e w2 ⟨pv, h1, h2, h3⟩ => ⟨pv, h1, h2, h3⟩
  ·refine tyAt_none rfl ?_
   simp [tyUpon, execOp, go_sem, Act.eval, hc, Below.refl]
  ·have h11 : EV _ (fv 11) w1 := hp 11 (LC (by kernel_rfl))
   refine tyAt_none rfl ?_
   refine ty_call (f := 77) (args := #[.agg #[.bool (zs p.num), .slice xa0 (tln p.num.natAbs) xc0, .slice xb0 (tln (fd p)) xd0]]) (by simp [execOp, go_sem, Act.eval, h11]) ?_
   exact (HD.out (.agg #[.bool (zs p.num), .slice xa0 (tln p.num.natAbs) xc0, .slice xb0 (tln (fd p)) xd0]) w1 (rf_of (Sl.below (Sl.below xf0.out hL0.bl) (below_drew hb1)) (Sl.below (Sl.below xk0.out hL0.bl) (below_drew hb1)))).mono fun e w2 ⟨pv, h1, h2, h3⟩ => ⟨pv, h1, h2, h3⟩
  ·refine tyAt_none rfl ?_
   simp [tyUpon, execOp, go_sem, Act.eval, hc, Below.refl]
  ·have h13 : EV _ (fv 13) w1 := hp 13 (LC (by kernel_rfl))
   refine tyAt_none rfl ?_
   refine ty_call (f := 77) (args := #[.agg #[.bool (zs q.num), .slice xa1 (tln q.num.natAbs) xc1, .slice xb1 (tln (fd q)) xd1]]) (by simp [execOp, go_sem, Act.eval, h13]) ?_
   exact (HE.out (.agg #[.bool (zs q.num), .slice xa1 (tln q.num.natAbs) xc1, .slice xb1 (tln (fd q)) xd1]) w1 (rf_of (Sl.below (Sl.below xf1.out hL0.bl) (below_drew hb1)) (Sl.below (Sl.below xk1.out hL0.bl) (below_drew hb1)))).mono fun e w2 ⟨pv, h1, h2, h3⟩ => ⟨pv, h1, h2, h3⟩
  ·have h12 : PN _ (fv 12) w1 := hp 12 (LC (by kernel_rfl))
   have h14 : PN _ (fv 14) w1 := hp 14 (LC (by kernel_rfl))
   refine tyAt_none rfl ?_
   refine ty_call (f := 79) (args := #[fv 12, fv 14]) (by simp [execOp, go_sem, Act.eval]) ?_
   exact (HX.out (fv 12) (fv 14) w1 h12 h14).mono fun e w2 ⟨pv, h1, h2, h3⟩ => ⟨pv, h1, h2, h3⟩
  ·have h10 : PZ _ (fv 10) w1 := hp 10 (LC (by kernel_rfl))
   have h15 : PN _ (fv 15) w1 := hp 15 (LC (by kernel_rfl))
   refine tyAt_none rfl ?_
   refine ty_call (f := 58) (args := #[fv 10, fv 15]) (by simp [execOp, go_sem, Act.eval]) ?_
   exact (HF.out (fv 10) (fv 15) w1 h10 h15).mono fun e w2 ⟨pv, h1, h2, h3⟩ => ⟨pv, h1, h2, h3⟩
 ·intro fv x2 hb1 hv
  have e0 : fv 0 = _ := hv 0 (by omega)
  have e1 : fv 1 = _ := hv 1 (by omega)
  have e2 : fv 2 = _ := hv 2 (by omega)
  have q3 : RZ x2 (fv 3) b := hv 3 (by omega)
  obtain ⟨g1, d1, e3⟩ := rz_form q3
  rw [e3] at q3
  have q4 : RZ x2 (fv 4) c := hv 4 (by omega)
  obtain ⟨g2, d2, e4⟩ := rz_form q4
  rw [e4] at q4
  have e5 : fv 5 = _ := hv 5 (by omega)
  have e6 : fv 6 = _ := hv 6 (by omega)
  have e7 : fv 7 = _ := hv 7 (by omega)
  have q8 : RZ x2 (fv 8) a := hv 8 (by omega)
  obtain ⟨g3, d3, e8⟩ := rz_form q8
  rw [e8] at q8
  have q9 : RZ x2 (fv 9) d := hv 9 (by omega)
  obtain ⟨g4, d4, e9⟩ := rz_form q9
  rw [e9] at q9
  have q10 : RZ x2 (fv 10) s := hv 10 (by omega)
  obtain ⟨g5, d5, e10⟩ := rz_form q10
  rw [e10] at q10
  have e11 : fv 11 = _ := hv 11 (by omega)
  have q12 : Rn x2 (fv 12) m := hv 12 (by omega)
  obtain ⟨g6, d6, e12⟩ := rn_form q12
  rw [e12] at q12
  have e13 : fv 13 = _ := hv 13 (by omega)
  have q14 : Rn x2 (fv 14) n := hv 14 (by omega)
  obtain ⟨g7, d7, e14⟩ := rn_form q14
  rw [e14] at q14
  have q15 : Rn x2 (fv 15) k := hv 15 (by omega)
  obtain ⟨g8, d8, e15⟩ := rn_form q15
  rw [e15] at q15
  have q16 : RF x2 (fv 16) r := hv 16 (by omega)
  obtain ⟨g9, d9, g10, d10, e16⟩ := rf_form q16
  rw [e16] at q16
  simp only [List.take_succ_cons, List.take_zero, putsV, Act.put, zP, List.drop_succ_cons, List.drop_zero, Nat.zero_add, Nat.reduceAdd, e0, e1, e2, e3, e4, e5, e6, e7, e8, e9, e10, e11, e12, e13, e14, e15, e16]
  replace hL0 := hL0.call (below_drew hb1)
  replace hS := hS.call (below_drew hb1)
  replace hS := hS.cons (rz_rn q3)
  replace hS := hS.cons (rz_rn q4)
  replace hS := hS.cons (rz_rn q8)
  replace hS := hS.cons (rz_rn q9)
  replace hS := hS.cons (rz_rn q10)
  replace hS := hS.cons q12
  replace hS := hS.cons q14
  replace hS := hS.cons q15
  replace hS := hS.cons (rf_rn1 q16)
  replace hS := hS.cons (rf_rn2 q16)
  clear e0 e1 e2 e3 e4 e5 e6 e7 e8 e9 e10 e11 e12 e13 e14 e15 e16 hb1 hv q3 q4 q8 q9 q10 q12 q14 q15 q16 fv
  have hS1 := hS.put ((((Upd.refl (w.heap.size + 1 + 1) x2).setCell 0 (.bool (zs r.num))).setCell 1 (.slice g9 (tln r.num.natAbs) d9)).setCell 2 (.slice g10 (tln (fd r)) d10)) (hL0.get _ _ mZ) (by intro v hv n; simp only [List.mem_cons, List.not_mem_nil, or_false] at hv; rcases hv with rfl | rfl | rfl <;> simp)
  have hA := hL0.fc
  simp only [zF, Nat.reduceAdd] at hA
  have hP := hL0.put 0 (w.heap.size + 1 + 1) _ rfl [.bool (zs r.num), .slice g9 (tln r.num.natAbs) d9, .slice g10 (tln (fd r)) d10] rfl
  simp only [setAll, List.set_cons_zero, List.set_cons_succ] at hP
  generalize hput1 : (((x2.setCell ⟨w.heap.size + 1 + 1, 0, none⟩ (.bool (zs r.num))).setCell ⟨w.heap.size + 1 + 1, 1, none⟩ (.slice g9 (tln r.num.natAbs) d9)).setCell ⟨w.heap.size + 1 + 1, 2, none⟩ (.slice g10 (tln (fd r)) d10)) = x3 at hP hS1
  have hB1 := hP.fc
  simp only [zF, Nat.reduceAdd] at hB1
  replace hL0 := hP
  replace hS := hS1
  clear hS1
  go_wp2_with fail
  exact bodyPost_ret (v := .agg #[.bool (zs r.num), .slice g9 (tln r.num.natAbs) d9, .slice g10 (tln (fd r)) d10]) (by simp [results, Tryz.results70, go_sem, hB1]) rfl ⟨_, rfl, (rf_of (hS.get (mK mZ)) (hS.get mZ)), hL0.bl⟩
theorem rfmul_w (p q r : Rat) (s : Int) (m n k : Nat) (HM : ∀ (p0 p1 : Value) (w : World), RZ w p0 p.num → RZ w p1 q.num → Calls Tryz.prog 133 #[p0, p1] w fun e w' => ∃ pv, e = .returned pv ∧ RZ w' pv s ∧ Below w.heap.size w w') (HD : ∀ (p0 : Value) (w : World), RF w p0 p → Calls Tryz.prog 77 #[p0] w fun e w' => ∃ pv, e = .returned pv ∧ Rn w' pv m ∧ Below w.heap.size w w') (HE : ∀ (p0 : Value) (w : World), RF w p0 q → Calls Tryz.prog 77 #[p0] w fun e w' => ∃ pv, e = .returned pv ∧ Rn w' pv n ∧ Below w.heap.size w w') (HX : ∀ (p0 p1 : Value) (w : World), Rn w p0 m → Rn w p1 n → Calls Tryz.prog 79 #[p0, p1] w fun e w' => ∃ pv, e = .returned pv ∧ Rn w' pv k ∧ Below w.heap.size w w') (HF : ∀ (p0 p1 : Value) (w : World), RZ w p0 s → Rn w p1 k → Calls Tryz.prog 58 #[p0, p1] w fun e w' => ∃ pv, e = .returned pv ∧ RF w' pv r ∧ Below w.heap.size w w') (p0 : Value) (p1 : Value) (w : World) (r0 : RF w p0 p) (r1 : RF w p1 q) :
  Calls Tryz.prog 71 #[p0, p1] w fun e w' => ∃ pv, e = .returned pv ∧ RF w' pv r ∧ Below w.heap.size w w' := by
 obtain ⟨xa0, xc0, xb0, xd0, rfl⟩ := rf_form r0
 have xf0 := Lib.hid (rf_rn1 r0)
 have xk0 := Lib.hid (rf_rn2 r0)
 clear r0
 obtain ⟨xa1, xc1, xb1, xd1, rfl⟩ := rf_form r1
 have xf1 := Lib.hid (rf_rn1 r1)
 have xk1 := Lib.hid (rf_rn2 r1)
 clear r1
 replace HM := Lib.hid HM
 replace HD := Lib.hid HD
 replace HE := Lib.hid HE
 replace HX := Lib.hid HX
 replace HF := Lib.hid HF
 have hL0 : GL w w [] := GL.start w
 have hS : SS w [] := SS.nil w
 obtain ⟨x1, hweq, hL0, hS⟩ := GL.named2 (((hL0.new rfl [.bool (zs p.num), .slice xa0 (tln p.num.natAbs) xc0, .slice xb0 (tln (fd p)) xd0] 46).new (K := w.heap.size + 1) (szA _ _) [.bool (zs q.num), .slice xa1 (tln q.num.natAbs) xc1, .slice xb1 (tln (fd q)) xd1] 46).new (K := w.heap.size + 1 + 1) (by simp only [World.size_alloc]) [.bool false, .slice none 0 0, .slice none 0 0] 46) (((hS.new (.cells #[.bool (zs p.num), .slice xa0 (tln p.num.natAbs) xc0, .slice xb0 (tln (fd p)) xd0] 46)).new (.cells #[.bool (zs q.num), .slice xa1 (tln q.num.natAbs) xc1, .slice xb1 (tln (fd q)) xd1] 46)).new (.cells #[.bool false, .slice none 0 0, .slice none 0 0] 46))
 go_enter Tryz.func71, Tryz.ntmps71
 go_upto_region 1 with fail
 clear hweq
 refine region_tl 11 [EV (.pointer (some ⟨w.heap.size, 0, none⟩)), EV (.agg #[.bool (zs p.num), .slice xa0 (tln p.num.natAbs) xc0]), EV (.pointer (some ⟨w.heap.size + 1, 0, none⟩)), EV (.agg #[.bool (zs q.num), .slice xa1 (tln q.num.natAbs) xc1]), PZ s, EV (.agg #[.bool (zs p.num), .slice xa0 (tln p.num.natAbs) xc0, .slice xb0 (tln (fd p)) xd0]), PN m, EV (.agg #[.bool (zs q.num), .slice xa1 (tln q.num.natAbs) xc1, .slice xb1 (tln (fd q)) xd1]), PN n, PN k, PF r] (by kernel_rfl) (by kernel_rfl) ?_ ?_ ?_
 ·repeat' first | exact stays_nil | apply stays_cons | exact stays_eq _ | exact stays_rz _ | exact stays_rn _ | exact stays_rf _
 ·simp only [List.take_succ_cons, List.take_zero, hopsR, and_true]
  refine ⟨?_, ?_, ?_, ?_, ?_, ?_, ?_, ?_, ?_, ?_, ?_⟩ <;> intro fv w1 hb1 hp
  all_goals (have hc := (hL0.call (below_drew hb1)).fc; simp only [zF, Nat.reduceAdd] at hc; simp only [putsV, Act.put, zP, Nat.zero_add, Nat.reduceAdd])
  ·refine tyAt_none rfl ?_
   simp [tyUpon, execOp, go_sem, Act.eval, Below.refl]
  ·have h0 : EV _ (fv 0) w1 := hp 0 (LC (by kernel_rfl))
   refine tyAt_none rfl ?_
   simp [tyUpon, execOp, go_sem, Act.eval, hc, h0, Below.refl]
  ·refine tyAt_none rfl ?_
   simp [tyUpon, execOp, go_sem, Act.eval, Below.refl]
  ·have h2 : EV _ (fv 2) w1 := hp 2 (LC (by kernel_rfl))
   refine tyAt_none rfl ?_
   simp [tyUpon, execOp, go_sem, Act.eval, hc, h2, Below.refl]
  ·have h1 : EV _ (fv 1) w1 := hp 1 (LC (by kernel_rfl))
   have h3 : EV _ (fv 3) w1 := hp 3 (LC (by kernel_rfl))
   refine tyAt_none rfl ?_
   refine ty_call (f := 133) (args := #[.agg #[.bool (zs p.num), .slice xa0 (tln p.num.natAbs) xc0], .agg #[.bool (zs q.num), .slice xa1 (tln q.num.natAbs) xc1]]) (by simp [execOp, go_sem, Act.eval, h1, h3]) ?_
   exact (HM.out (.agg #[.bool (zs p.num), .slice xa0 (tln p.num.natAbs) xc0]) (.agg #[.bool (zs q.num), .slice xa1 (tln q.num.natAbs) xc1]) w1 (rz_of (Sl.below (Sl.below xf0.out hL0.bl) (below_drew hb1))) (rz_of (Sl.below (Sl.below xf1.out hL0.bl) (below_drew hb1)))).mono fun e w2 ⟨pv, h1, h2, h3⟩ => ⟨pv, h1, h2, h3⟩
  ·refine tyAt_none rfl ?_
   simp [tyUpon, execOp, go_sem, Act.eval, hc, Below.refl]
  ·have h5 : EV _ (fv 5) w1 := hp 5 (LC (by kernel_rfl))
   refine tyAt_none rfl ?_
   refine ty_call (f := 77) (args := #[.agg #[.bool (zs p.num), .slice xa0 (tln p.num.natAbs) xc0, .slice xb0 (tln (fd p)) xd0]]) (by simp [execOp, go_sem, Act.eval, h5]) ?_
   exact (HD.out (.agg #[.bool (zs p.num), .slice xa0 (tln p.num.natAbs) xc0, .slice xb0 (tln (fd p)) xd0]) w1 (rf_of (Sl.below (Sl.below xf0.out hL0.bl) (below_drew hb1)) (Sl.below (Sl.below xk0.out hL0.bl) (below_drew hb1)))).mono fun e w2 ⟨pv, h1, h2, h3⟩ => ⟨pv, h1, h2, h3⟩
  ·refine tyAt_none rfl ?_
   simp [tyUpon, execOp, go_sem, Act.eval, hc, Below.refl]
  ·have h7 : EV _ (fv 7) w1 := hp 7 (LC (by kernel_rfl))
   refine tyAt_none rfl ?_
   refine ty_call (f := 77) (args := #[.agg #[.bool (zs q.num), .slice xa1 (tln q.num.natAbs) xc1, .slice xb1 (tln (fd q)) xd1]]) (by simp [execOp, go_sem, Act.eval, h7]) ?_
   exact (HE.out (.agg #[.bool (zs q.num), .slice xa1 (tln q.num.natAbs) xc1, .slice xb1 (tln (fd q)) xd1]) w1 (rf_of (Sl.below (Sl.below xf1.out hL0.bl) (below_drew hb1)) (Sl.below (Sl.below xk1.out hL0.bl) (below_drew hb1)))).mono fun e w2 ⟨pv, h1, h2, h3⟩ => ⟨pv, h1, h2, h3⟩
  ·have h6 : PN _ (fv 6) w1 := hp 6 (LC (by kernel_rfl))
   have h8 : PN _ (fv 8) w1 := hp 8 (LC (by kernel_rfl))
   refine tyAt_none rfl ?_
   refine ty_call (f := 79) (args := #[fv 6, fv 8]) (by simp [execOp, go_sem, Act.eval]) ?_
   exact (HX.out (fv 6) (fv 8) w1 h6 h8).mono fun e w2 ⟨pv, h1, h2, h3⟩ => ⟨pv, h1, h2, h3⟩
  ·have h4 : PZ _ (fv 4) w1 := hp 4 (LC (by kernel_rfl))
   have h9 : PN _ (fv 9) w1 := hp 9 (LC (by kernel_rfl))
   refine tyAt_none rfl ?_
   refine ty_call (f := 58) (args := #[fv 4, fv 9]) (by simp [execOp, go_sem, Act.eval]) ?_
   exact (HF.out (fv 4) (fv 9) w1 h4 h9).mono fun e w2 ⟨pv, h1, h2, h3⟩ => ⟨pv, h1, h2, h3⟩
 ·intro fv x2 hb1 hv
  have e0 : fv 0 = _ := hv 0 (by omega)
  have e1 : fv 1 = _ := hv 1 (by omega)
  have e2 : fv 2 = _ := hv 2 (by omega)
  have e3 : fv 3 = _ := hv 3 (by omega)
  have q4 : RZ x2 (fv 4) s := hv 4 (by omega)
  obtain ⟨g1, d1, e4⟩ := rz_form q4
  rw [e4] at q4
  have e5 : fv 5 = _ := hv 5 (by omega)
  have q6 : Rn x2 (fv 6) m := hv 6 (by omega)
  obtain ⟨g2, d2, e6⟩ := rn_form q6
  rw [e6] at q6
  have e7 : fv 7 = _ := hv 7 (by omega)
  have q8 : Rn x2 (fv 8) n := hv 8 (by omega)
  obtain ⟨g3, d3, e8⟩ := rn_form q8
  rw [e8] at q8
  have q9 : Rn x2 (fv 9) k := hv 9 (by omega)
  obtain ⟨g4, d4, e9⟩ := rn_form q9
  rw [e9] at q9
  have q10 : RF x2 (fv 10) r := hv 10 (by omega)
  obtain ⟨g5, d5, g6, d6, e10⟩ := rf_form q10
  rw [e10] at q10
  simp only [List.take_succ_cons, List.take_zero, putsV, Act.put, zP, List.drop_succ_cons, List.drop_zero, Nat.zero_add, Nat.reduceAdd, e0, e1, e2, e3, e4, e5, e6, e7, e8, e9, e10]
  replace hL0 := hL0.call (below_drew hb1)
  replace hS := hS.call (below_drew hb1)
  replace hS := hS.cons (rz_rn q4)
  replace hS := hS.cons q6
  replace hS := hS.cons q8
  replace hS := hS.cons q9
  replace hS := hS.cons (rf_rn1 q10)
  replace hS := hS.cons (rf_rn2 q10)
  clear e0 e1 e2 e3 e4 e5 e6 e7 e8 e9 e10 hb1 hv q4 q6 q8 q9 q10 fv
  have hS1 := hS.put ((((Upd.refl (w.heap.size + 1 + 1) x2).setCell 0 (.bool (zs r.num))).setCell 1 (.slice g5 (tln r.num.natAbs) d5)).setCell 2 (.slice g6 (tln (fd r)) d6)) (hL0.get _ _ mZ) (by intro v hv n; simp only [List.mem_cons, List.not_mem_nil, or_false] at hv; rcases hv with rfl | rfl | rfl <;> simp)
  have hA := hL0.fc
  simp only [zF, Nat.reduceAdd] at hA
  have hP := hL0.put 0 (w.heap.size + 1 + 1) _ rfl [.bool (zs r.num), .slice g5 (tln r.num.natAbs) d5, .slice g6 (tln (fd r)) d6] rfl
  simp only [setAll, List.set_cons_zero, List.set_cons_succ] at hP
  generalize hput1 : (((x2.setCell ⟨w.heap.size + 1 + 1, 0, none⟩ (.bool (zs r.num))).setCell ⟨w.heap.size + 1 + 1, 1, none⟩ (.slice g5 (tln r.num.natAbs) d5)).setCell ⟨w.heap.size + 1 + 1, 2, none⟩ (.slice g6 (tln (fd r)) d6)) = x3 at hP hS1
  have hB1 := hP.fc
  simp only [zF, Nat.reduceAdd] at hB1
  replace hL0 := hP
  replace hS := hS1
  clear hS1
  go_wp2_with fail
  exact bodyPost_ret (v := .agg #[.bool (zs r.num), .slice g5 (tln r.num.natAbs) d5, .slice g6 (tln (fd r)) d6]) (by simp [results, Tryz.results71, go_sem, hB1]) rfl ⟨_, rfl, (rf_of (hS.get (mK mZ)) (hS.get mZ)), hL0.bl⟩
theorem rfdiv_w (p q n r : Rat) (c s : Int) (m : Nat) (HS : ∀ (p0 : Value) (w : World), RF w p0 q → Calls Tryz.prog 72 #[p0] w fun e w' => e = .returned (.int .i64 c) ∧ Below w.heap.size w w') (HD : ∀ (p0 : Value) (w : World), RF w p0 q → Calls Tryz.prog 77 #[p0] w fun e w' => ∃ pv, e = .returned pv ∧ Rn w' pv m ∧ Below w.heap.size w w') (HF : ∀ (p1 : Value) (w : World), Rn w p1 m → Calls Tryz.prog 117 #[.bool (zs q.num), p1] w fun e w' => ∃ pv, e = .returned pv ∧ RZ w' pv s ∧ Below w.heap.size w w') (HG : ∀ (p0 p1 : Value) (w : World), RZ w p0 s → Rn w p1 q.num.natAbs → Calls Tryz.prog 58 #[p0, p1] w fun e w' => ∃ pv, e = .returned pv ∧ RF w' pv n ∧ Below w.heap.size w w') (HM : ∀ (p0 p1 : Value) (w : World), RF w p0 p → RF w p1 n → Calls Tryz.prog 71 #[p0, p1] w fun e w' => ∃ pv, e = .returned pv ∧ RF w' pv r ∧ Below w.heap.size w w') (h0 : (c == 0) = false) (p0 : Value) (p1 : Value) (w : World) (r0 : RF w p0 p) (r1 : RF w p1 q) :
  Calls Tryz.prog 55 #[p0, p1] w fun e w' => ∃ pv, e = .returned pv ∧ RF w' pv r ∧ Below w.heap.size w w' := by
 obtain ⟨xa0, xc0, xb0, xd0, rfl⟩ := rf_form r0
 have xf0 := Lib.hid (rf_rn1 r0)
 have xk0 := Lib.hid (rf_rn2 r0)
 clear r0
 obtain ⟨xa1, xc1, xb1, xd1, rfl⟩ := rf_form r1
 have xf1 := Lib.hid (rf_rn1 r1)
 have xk1 := Lib.hid (rf_rn2 r1)
 clear r1
 replace HS := Lib.hid HS
 replace HD := Lib.hid HD
 replace HF := Lib.hid HF
 replace HG := Lib.hid HG
 replace HM := Lib.hid HM
 have hL0 : GL w w [] := GL.start w
 have hS : SS w [] := SS.nil w
 obtain ⟨x1, hweq, hL0, hS⟩ := GL.named2 (((hL0.new rfl [.bool (zs p.num), .slice xa0 (tln p.num.natAbs) xc0, .slice xb0 (tln (fd p)) xd0] 46).new (K := w.heap.size + 1) (szA _ _) [.bool (zs q.num), .slice xa1 (tln q.num.natAbs) xc1, .slice xb1 (tln (fd q)) xd1] 46).new (K := w.heap.size + 1 + 1) (by simp only [World.size_alloc]) [.bool false, .slice none 0 0, .slice none 0 0] 46) (((hS.new (.cells #[.bool (zs p.num), .slice xa0 (tln p.num.natAbs) xc0, .slice xb0 (tln (fd p)) xd0] 46)).new (.cells #[.bool (zs q.num), .slice xa1 (tln q.num.natAbs) xc1, .slice xb1 (tln (fd q)) xd1] 46)).new (.cells #[.bool false, .slice none 0 0, .slice none 0 0] 46))
 go_enter Tryz.func55, Tryz.ntmps55
 have hN0 := cells_of _ 0 [] rfl (hL0.get _ _ (mK mZ))
 simp only [zF, Nat.reduceAdd] at hN0
 go_wp2_with fail
 clear hN0
 with_reducible refine Calls.mono (HS.out (.agg #[.bool (zs q.num), .slice xa1 (tln q.num.natAbs) xc1, .slice xb1 (tln (fd q)) xd1]) _ (rf_of (Sl.below xf1.out hL0.bl) (Sl.below xk1.out hL0.bl))) ?_
 rintro e x2 ⟨rfl, hb⟩
 replace hL0 := hL0.call hb
 replace hS := hS.call hb
 clear hb hweq
 go_upto_region 3 with fail
 refine region_tl 12 [EV (.agg #[.bool (zs p.num), .slice xa0 (tln p.num.natAbs) xc0, .slice xb0 (tln (fd p)) xd0]), EV (.pointer (some ⟨w.heap.size + 1, 0, none⟩)), EV (.pointer (some ⟨w.heap.size + 1, 0, none⟩)), EV (.bool (zs q.num)), EV (.agg #[.bool (zs q.num), .slice xa1 (tln q.num.natAbs) xc1, .slice xb1 (tln (fd q)) xd1]), PN m, PZ s, EV (.pointer (some ⟨w.heap.size + 1, 0, none⟩)), EV (.pointer (some ⟨w.heap.size + 1, 1, none⟩)), EV (.slice xa1 (tln q.num.natAbs) xc1), PF n, PF r] (by kernel_rfl) (by kernel_rfl) ?_ ?_ ?_
 ·repeat' first | exact stays_nil | apply stays_cons | exact stays_eq _ | exact stays_rz _ | exact stays_rn _ | exact stays_rf _
 ·simp only [List.take_succ_cons, List.take_zero, hopsR, and_true]
  refine ⟨?_, ?_, ?_, ?_, ?_, ?_, ?_, ?_, ?_, ?_, ?_, ?_⟩ <;> intro fv w1 hb1 hp
  all_goals (have hc := (hL0.call (below_drew hb1)).fc; simp only [zF, Nat.reduceAdd] at hc; simp only [putsV, Act.put, zP, Nat.zero_add, Nat.reduceAdd])
  ·refine tyAt_none rfl ?_
   simp [tyUpon, execOp, go_sem, Act.eval, hc, Below.refl]
  ·refine tyAt_none rfl ?_
   simp [tyUpon, execOp, go_sem, Act.eval, Below.refl]
  ·have h1 : EV _ (fv 1) w1 := hp 1 (LC (by kernel_rfl))
   refine tyAt_none rfl ?_
   simp [tyUpon, execOp, go_sem, Act.eval, h1, Below.refl]
  ·have h2 : EV _ (fv 2) w1 := hp 2 (LC (by kernel_rfl))
   refine tyAt_none rfl ?_
   simp [tyUpon, execOp, go_sem, Act.eval, hc, h2, Below.refl]
  ·refine tyAt_none rfl ?_
   simp [tyUpon, execOp, go_sem, Act.eval, hc, Below.refl]
  ·have h4 : EV _ (fv 4) w1 := hp 4 (LC (by kernel_rfl))
   refine tyAt_none rfl ?_
   refine ty_call (f := 77) (args := #[.agg #[.bool (zs q.num), .slice xa1 (tln q.num.natAbs) xc1, .slice xb1 (tln (fd q)) xd1]]) (by simp [execOp, go_sem, Act.eval, h4]) ?_
   exact (HD.out (.agg #[.bool (zs q.num), .slice xa1 (tln q.num.natAbs) xc1, .slice xb1 (tln (fd q)) xd1]) w1 (rf_of (Sl.below (Sl.below xf1.out hL0.bl) (below_drew hb1)) (Sl.below (Sl.below xk1.out hL0.bl) (below_drew hb1)))).mono fun e w2 ⟨pv, h1, h2, h3⟩ => ⟨pv, h1, h2, h3⟩
  ·have h3 : EV _ (fv 3) w1 := hp 3 (LC (by kernel_rfl))
   have h5 : PN _ (fv 5) w1 := hp 5 (LC (by kernel_rfl))
   refine tyAt_none rfl ?_
   refine ty_call (f := 117) (args := #[.bool (zs q.num), fv 5]) (by simp [execOp, go_sem, Act.eval, h3]) ?_
   exact (HF.out (fv 5) w1 h5).mono fun e w2 ⟨pv, h1, h2, h3⟩ => ⟨pv, h1, h2, h3⟩
  ·refine tyAt_none rfl ?_
   simp [tyUpon, execOp, go_sem, Act.eval, Below.refl]
  ·have h7 : EV _ (fv 7) w1 := hp 7 (LC (by kernel_rfl))
   refine tyAt_none rfl ?_
   simp [tyUpon, execOp, go_sem, Act.eval, h7, Below.refl]
  ·have h8 : EV _ (fv 8) w1 := hp 8 (LC (by kernel_rfl))
   refine tyAt_none rfl ?_
   simp [tyUpon, execOp, go_sem, Act.eval, hc, h8, Below.refl]
  ·have h6 : PZ _ (fv 6) w1 := hp 6 (LC (by kernel_rfl))
   have h9 : EV _ (fv 9) w1 := hp 9 (LC (by kernel_rfl))
   refine tyAt_none rfl ?_
   refine ty_call (f := 58) (args := #[fv 6, .slice xa1 (tln q.num.natAbs) xc1]) (by simp [execOp, go_sem, Act.eval, h9]) ?_
   exact (HG.out (fv 6) (.slice xa1 (tln q.num.natAbs) xc1) w1 h6 (Sl.below (Sl.below xf1.out hL0.bl) (below_drew hb1))).mono fun e w2 ⟨pv, h1, h2, h3⟩ => ⟨pv, h1, h2, h3⟩
  ·have h0 : EV _ (fv 0) w1 := hp 0 (LC (by kernel_rfl))
   have h10 : PF _ (fv 10) w1 := hp 10 (LC (by kernel_rfl))
   refine tyAt_none rfl ?_
   refine ty_call (f := 71) (args := #[.agg #[.bool (zs p.num), .slice xa0 (tln p.num.natAbs) xc0, .slice xb0 (tln (fd p)) xd0], fv 10]) (by simp [execOp, go_sem, Act.eval, h0]) ?_
   exact (HM.out (.agg #[.bool (zs p.num), .slice xa0 (tln p.num.natAbs) xc0, .slice xb0 (tln (fd p)) xd0]) (fv 10) w1 (rf_of (Sl.below (Sl.below xf0.out hL0.bl) (below_drew hb1)) (Sl.below (Sl.below xk0.out hL0.bl) (below_drew hb1))) h10).mono fun e w2 ⟨pv, h1, h2, h3⟩ => ⟨pv, h1, h2, h3⟩
 ·intro fv x3 hb1 hv
  have e0 : fv 0 = _ := hv 0 (by omega)
  have e1 : fv 1 = _ := hv 1 (by omega)
  have e2 : fv 2 = _ := hv 2 (by omega)
  have e3 : fv 3 = _ := hv 3 (by omega)
  have e4 : fv 4 = _ := hv 4 (by omega)
  have q5 : Rn x3 (fv 5) m := hv 5 (by omega)
  obtain ⟨g1, d1, e5⟩ := rn_form q5
  rw [e5] at q5
  have q6 : RZ x3 (fv 6) s := hv 6 (by omega)
  obtain ⟨g2, d2, e6⟩ := rz_form q6
  rw [e6] at q6
  have e7 : fv 7 = _ := hv 7 (by omega)
  have e8 : fv 8 = _ := hv 8 (by omega)
  have e9 : fv 9 = _ := hv 9 (by omega)
  have q10 : RF x3 (fv 10) n := hv 10 (by omega)
  obtain ⟨g3, d3, g4, d4, e10⟩ := rf_form q10
  rw [e10] at q10
  have q11 : RF x3 (fv 11) r := hv 11 (by omega)
  obtain ⟨g5, d5, g6, d6, e11⟩ := rf_form q11
  rw [e11] at q11
  simp only [List.take_succ_cons, List.take_zero, putsV, Act.put, zP, List.drop_succ_cons, List.drop_zero, Nat.zero_add, Nat.reduceAdd, e0, e1, e2, e3, e4, e5, e6, e7, e8, e9, e10, e11]
  replace hL0 := hL0.call (below_drew hb1)
  replace hS := hS.call (below_drew hb1)
  replace hS := hS.cons q5
  replace hS := hS.cons (rz_rn q6)
  replace hS := hS.cons (rf_rn1 q10)
  replace hS := hS.cons (rf_rn2 q10)
  replace hS := hS.cons (rf_rn1 q11)
  replace hS := hS.cons (rf_rn2 q11)
  clear e0 e1 e2 e3 e4 e5 e6 e7 e8 e9 e10 e11 hb1 hv q5 q6 q10 q11 fv
  have hS1 := hS.put ((((Upd.refl (w.heap.size + 1 + 1) x3).setCell 0 (.bool (zs r.num))).setCell 1 (.slice g5 (tln r.num.natAbs) d5)).setCell 2 (.slice g6 (tln (fd r)) d6)) (hL0.get _ _ mZ) (by intro v hv n; simp only [List.mem_cons, List.not_mem_nil, or_false] at hv; rcases hv with rfl | rfl | rfl <;> simp)
  have hA := hL0.fc
  simp only [zF, Nat.reduceAdd] at hA
  have hP := hL0.put 0 (w.heap.size + 1 + 1) _ rfl [.bool (zs r.num), .slice g5 (tln r.num.natAbs) d5, .slice g6 (tln (fd r)) d6] rfl
  simp only [setAll, List.set_cons_zero, List.set_cons_succ] at hP
  generalize hput1 : (((x3.setCell ⟨w.heap.size + 1 + 1, 0, none⟩ (.bool (zs r.num))).setCell ⟨w.heap.size + 1 + 1, 1, none⟩ (.slice g5 (tln r.num.natAbs) d5)).setCell ⟨w.heap.size + 1 + 1, 2, none⟩ (.slice g6 (tln (fd r)) d6)) = x4 at hP hS1
  have hB1 := hP.fc
  simp only [zF, Nat.reduceAdd] at hB1
  replace hL0 := hP
  replace hS := hS1
  clear hS1
  go_wp2_with fail
  exact bodyPost_ret (v := .agg #[.bool (zs r.num), .slice g5 (tln r.num.natAbs) d5, .slice g6 (tln (fd r)) d6]) (by simp [results, Tryz.results55, go_sem, hB1]) rfl ⟨_, rfl, (rf_of (hS.get (mK mZ)) (hS.get mZ)), hL0.bl⟩
theorem rftext_whole (q : Rat) (t : ByteArray) (HT : ∀ (p0 : Value) (w : World), RZ w p0 q.num → Calls Tryz.prog 124 #[p0] w fun e w' => e = .returned (.string t) ∧ Below w.heap.size w w') (h0 : (((tln (fd q) : Nat) : Int) == 0) = true) (h1 : decide (tln (fd q) = 0) = true) (p0 : Value) (w : World) (r0 : RF w p0 q) :
  Calls Tryz.prog 63 #[p0] w fun e w' => e = .returned (.string t) ∧ Below w.heap.size w w' := by
 obtain ⟨xa0, xc0, xb0, xd0, rfl⟩ := rf_form r0
 have xf0 := Lib.hid (rf_rn1 r0)
 have xk0 := Lib.hid (rf_rn2 r0)
 clear r0
 replace HT := Lib.hid HT
 have hL0 : GL w w [] := GL.start w
 have hS : SS w [] := SS.nil w
 obtain ⟨x1, hweq, hL0, hS⟩ := GL.named2 (hL0.new rfl [.bool (zs q.num), .slice xa0 (tln q.num.natAbs) xc0, .slice xb0 (tln (fd q)) xd0] 46) (hS.new (.cells #[.bool (zs q.num), .slice xa0 (tln q.num.natAbs) xc0, .slice xb0 (tln (fd q)) xd0] 46))
 go_enter Tryz.func63, Tryz.ntmps63
 have hN0 := cells_of _ 0 [] rfl (hL0.get _ _ mZ)
 simp only [zF, Nat.reduceAdd] at hN0
 go_wp2_with fail
 clear hN0
 with_reducible refine Calls.mono (HT.out (.agg #[.bool (zs q.num), .slice xa0 (tln q.num.natAbs) xc0]) _ (rz_of (Sl.below xf0.out hL0.bl))) ?_
 rintro e x2 ⟨rfl, hb⟩
 replace hL0 := hL0.call hb
 replace hS := hS.call hb
 clear hb hweq
 go_wp2_with fail
 exact bodyPost_ret (v := .string t) (by simp [results, Tryz.results63, go_sem]) rfl ⟨rfl, hL0.bl⟩
theorem rftext_frac (q : Rat) (t u : ByteArray) (m : Nat) (HT : ∀ (p0 : Value) (w : World), RZ w p0 q.num → Calls Tryz.prog 124 #[p0] w fun e w' => e = .returned (.string t) ∧ Below w.heap.size w w') (HD : ∀ (p0 : Value) (w : World), RF w p0 q → Calls Tryz.prog 77 #[p0] w fun e w' => ∃ pv, e = .returned pv ∧ Rn w' pv m ∧ Below w.heap.size w w') (HU : ∀ (p0 : Value) (w : World), Rn w p0 m → Calls Tryz.prog 62 #[p0] w fun e w' => e = .returned (.string u) ∧ Below w.heap.size w w') (h0 : (((tln (fd q) : Nat) : Int) == 0) = false) (h1 : decide (tln (fd q) = 0) = false) (l1 : ¬ 9223372036854775807 < t.size + 1) (l2 : ¬ 9223372036854775807 < t.size + 1 + u.size) (p0 : Value) (w : World) (r0 : RF w p0 q) :
  Calls Tryz.prog 63 #[p0] w fun e w' => e = .returned (.string (t ++ ByteArray.mk #[47] ++ u)) ∧ Below w.heap.size w w' := by
 obtain ⟨xa0, xc0, xb0, xd0, rfl⟩ := rf_form r0
 have xf0 := Lib.hid (rf_rn1 r0)
 have xk0 := Lib.hid (rf_rn2 r0)
 clear r0
 replace HT := Lib.hid HT
 replace HD := Lib.hid HD
 replace HU := Lib.hid HU
 have hL0 : GL w w [] := GL.start w
 have hS : SS w [] := SS.nil w
 obtain ⟨x1, hweq, hL0, hS⟩ := GL.named2 (hL0.new rfl [.bool (zs q.num), .slice xa0 (tln q.num.natAbs) xc0, .slice xb0 (tln (fd q)) xd0] 46) (hS.new (.cells #[.bool (zs q.num), .slice xa0 (tln q.num.natAbs) xc0, .slice xb0 (tln (fd q)) xd0] 46))
 go_enter Tryz.func63, Tryz.ntmps63
 have hN0 := cells_of _ 0 [] rfl (hL0.get _ _ mZ)
 simp only [zF, Nat.reduceAdd] at hN0
 go_upto_region 3 with fail
 clear hweq
 clear hN0
 refine region_tl 9 [EV (.pointer (some ⟨w.heap.size, 0, none⟩)), EV (.agg #[.bool (zs q.num), .slice xa0 (tln q.num.natAbs) xc0]), EV (.string t), EV (.string (t ++ (ByteArray.mk #[47]))), EV (.agg #[.bool (zs q.num), .slice xa0 (tln q.num.natAbs) xc0, .slice xb0 (tln (fd q)) xd0]), PN m, EV (.string u), EV (.string ((t ++ (ByteArray.mk #[47])) ++ u)), EV (.string ((t ++ (ByteArray.mk #[47])) ++ u))] (by kernel_rfl) (by kernel_rfl) ?_ ?_ ?_
 ·repeat' first | exact stays_nil | apply stays_cons | exact stays_eq _ | exact stays_rn _
 ·simp only [List.take_succ_cons, List.take_zero, hopsR, and_true]
  refine ⟨?_, ?_, ?_, ?_, ?_, ?_, ?_, ?_, ?_⟩ <;> intro fv w1 hb1 hp
  all_goals (have hc := (hL0.call (below_drew hb1)).fc; simp only [zF, Nat.reduceAdd] at hc; simp only [putsV, Act.put, zP, Nat.zero_add, Nat.reduceAdd])
  ·refine tyAt_none rfl ?_
   simp [tyUpon, execOp, go_sem, Act.eval, l1, l2, Below.refl]
  ·have h0 : EV _ (fv 0) w1 := hp 0 (LC (by kernel_rfl))
   refine tyAt_none rfl ?_
   simp [tyUpon, execOp, go_sem, Act.eval, hc, h0, l1, l2, Below.refl]
  ·have h1 : EV _ (fv 1) w1 := hp 1 (LC (by kernel_rfl))
   refine tyAt_none rfl ?_
   refine ty_call (f := 124) (args := #[.agg #[.bool (zs q.num), .slice xa0 (tln q.num.natAbs) xc0]]) (by simp [execOp, go_sem, Act.eval, h1]) ?_
   exact (HT.out (.agg #[.bool (zs q.num), .slice xa0 (tln q.num.natAbs) xc0]) w1 (rz_of (Sl.below (Sl.below xf0.out hL0.bl) (below_drew hb1)))).mono fun e w2 ⟨h1, h2⟩ => ⟨_, h1, rfl, h2⟩
  ·have h2 : EV _ (fv 2) w1 := hp 2 (LC (by kernel_rfl))
   refine tyAt_none rfl ?_
   simp [tyUpon, execOp, go_sem, Act.eval, h2, l1, l2, Below.refl]
  ·refine tyAt_none rfl ?_
   simp [tyUpon, execOp, go_sem, Act.eval, hc, l1, l2, Below.refl]
  ·have h4 : EV _ (fv 4) w1 := hp 4 (LC (by kernel_rfl))
   refine tyAt_none rfl ?_
   refine ty_call (f := 77) (args := #[.agg #[.bool (zs q.num), .slice xa0 (tln q.num.natAbs) xc0, .slice xb0 (tln (fd q)) xd0]]) (by simp [execOp, go_sem, Act.eval, h4]) ?_
   exact (HD.out (.agg #[.bool (zs q.num), .slice xa0 (tln q.num.natAbs) xc0, .slice xb0 (tln (fd q)) xd0]) w1 (rf_of (Sl.below (Sl.below xf0.out hL0.bl) (below_drew hb1)) (Sl.below (Sl.below xk0.out hL0.bl) (below_drew hb1)))).mono fun e w2 ⟨pv, h1, h2, h3⟩ => ⟨pv, h1, h2, h3⟩
  ·have h5 : PN _ (fv 5) w1 := hp 5 (LC (by kernel_rfl))
   refine tyAt_none rfl ?_
   refine ty_call (f := 62) (args := #[fv 5]) (by simp [execOp, go_sem, Act.eval]) ?_
   exact (HU.out (fv 5) w1 h5).mono fun e w2 ⟨h1, h2⟩ => ⟨_, h1, rfl, h2⟩
  ·have h3 : EV _ (fv 3) w1 := hp 3 (LC (by kernel_rfl))
   have h6 : EV _ (fv 6) w1 := hp 6 (LC (by kernel_rfl))
   refine tyAt_none rfl ?_
   simp [tyUpon, execOp, go_sem, Act.eval, h3, h6, l1, l2, Below.refl]
  ·have h7 : EV _ (fv 7) w1 := hp 7 (LC (by kernel_rfl))
   refine tyAt_none rfl ?_
   simp [tyUpon, execOp, go_sem, Act.eval, h7, l1, l2, Below.refl]
 ·intro fv x2 hb1 hv
  have e0 : fv 0 = _ := hv 0 (by omega)
  have e1 : fv 1 = _ := hv 1 (by omega)
  have e2 : fv 2 = _ := hv 2 (by omega)
  have e3 : fv 3 = _ := hv 3 (by omega)
  have e4 : fv 4 = _ := hv 4 (by omega)
  have q5 : Rn x2 (fv 5) m := hv 5 (by omega)
  obtain ⟨g1, d1, e5⟩ := rn_form q5
  rw [e5] at q5
  have e6 : fv 6 = _ := hv 6 (by omega)
  have e7 : fv 7 = _ := hv 7 (by omega)
  have e8 : fv 8 = _ := hv 8 (by omega)
  simp only [List.take_succ_cons, List.take_zero, putsV, Act.put, zP, List.drop_succ_cons, List.drop_zero, Nat.zero_add, Nat.reduceAdd, e0, e1, e2, e3, e4, e5, e6, e7, e8]
  replace hL0 := hL0.call (below_drew hb1)
  replace hS := hS.call (below_drew hb1)
  replace hS := hS.cons q5
  clear e0 e1 e2 e3 e4 e5 e6 e7 e8 hb1 hv q5 fv
  go_wp2_with fail
  exact bodyPost_ret (v := .string ((t ++ (ByteArray.mk #[47])) ++ u)) (by simp [results, Tryz.results63, go_sem]) rfl ⟨rfl, hL0.bl⟩
end Go.Proofs.YtahfcciihkkegaaGreatDoor
namespace Go.Proofs.YtahfcciihkkegaaGreatDoor.Rx
open Go.RowKit
attribute [local irreducible] tv dg cmpI txt decB nb
theorem td_one : (td 1).length = 1 := by rw [td_pos (by omega), show 1 / 10000 = 0 by rfl, td_zero]; rfl
end Go.Proofs.YtahfcciihkkegaaGreatDoor.Rx
namespace Go.Proofs.YtahfcciihkkegaaGreatDoor.Rx
open Go.RowKit
attribute [local irreducible] tv dg cmpI txt decB nb isq
/-- What the root's digits so far are good for. -/
structure SqS (a j : Nat) (X : List Nat) : Prop where
 lt : ∀ d ∈ X, d < 10000
 zero : ∀ (k : Nat) (h : k < X.length), k < j → X[k] = 0
 low : tv X * tv X ≤ a
 high : a < (tv X + 10000 ^ j) * (tv X + 10000 ^ j)
theorem SqS.start (a m : Nat) (h : (td a).length ≤ 2 * m) : SqS a m (List.replicate m 0) := by
 refine ⟨fun d hd => by rw [(List.mem_replicate.1 hd).2]; omega, fun k h _ => by simp, by rw [tv_zeros]; omega, ?_⟩
 have := td_length.1 h
 rwa [tv_zeros, Nat.zero_add, ← Nat.pow_add, ← Nat.two_mul]
theorem tv_set0 {X : List Nat} {i : Nat} (h : i < X.length) (h0 : X[i] = 0) (d : Nat) : tv (X.set i d) = tv X + 10000 ^ i * d := by
 have := tv_set h d
 rw [h0, Nat.mul_zero, Nat.add_zero] at this
 exact this
theorem SqS.set {a i : Nat} {X : List Nat} (h : SqS a (i + 1) X) (hi : i < X.length) {d : Nat} (hd : d < 10000) (h1 : (tv X + 10000 ^ i * d) * (tv X + 10000 ^ i * d) ≤ a) (h2 : a < (tv X + 10000 ^ i * (d + 1)) * (tv X + 10000 ^ i * (d + 1))) :
  SqS a i (X.set i d) := by
 have e := tv_set0 hi (h.zero i hi (by omega)) d
 refine ⟨fun x hx => ?_, fun k hk hki => ?_, by rw [e]; exact h1, ?_⟩
 ·rcases List.mem_or_eq_of_mem_set hx with hx | hx
  ·exact h.lt x hx
  ·rw [hx]; exact hd
 ·rw [List.getElem_set_ne (by omega)]
  exact h.zero k (by rw [List.length_set] at hk; exact hk) (by omega)
 ·rw [e, Nat.add_assoc, ← Nat.mul_succ]
  exact h2
theorem SqS.done {a : Nat} {X : List Nat} (h : SqS a 0 X) : tv X = isq a := isq_uniq h.low (by have := h.high; rwa [Nat.pow_zero] at this)
end Go.Proofs.YtahfcciihkkegaaGreatDoor.Rx
namespace Go.Proofs.YtahfcciihkkegaaGreatDoor.Rx
open Go.RowKit
attribute [local irreducible] tv dg cmpI txt decB nb isq
theorem td_drop (n k : Nat) : (td n).drop k = td (n / 10000 ^ k) := by
 induction k generalizing n with
 | zero => simp
 | succ k ih =>
  by_cases h : n = 0
  ·rw [h, Nat.zero_div, td_zero]; simp
  ·rw [td_pos h, List.drop_succ_cons, ih, Nat.div_div_eq_div_mul, Nat.pow_succ, Nat.mul_comm 10000]
theorem rleading_any (v : Value) (l : List Nat) (F : Nat) (hd : ∀ d ∈ l, d < 10000) (hF : F ≤ 1000000) (hl : l.length ≤ F + 4) (w : World) (h : Sl w v l) :
  Calls Tryz.prog 137 #[v, .int .i64 (F : Int)] w fun e w' => e = .returned (.int .i64 ((tv (l.drop F) : Nat) : Int)) ∧ w = w' := by
 obtain ⟨ao, c, rfl, hv⟩ := h.view
 obtain ⟨n, hn⟩ : ∃ n, n = l.length := ⟨_, rfl⟩
 rw [← hn] at hl hv ⊢
 have h0 := Lib.hid (show tv (l.drop n) = 0 by rw [List.drop_eq_nil_of_le (by omega), tv_nil])
 replace hn := Lib.hid hn
 replace hv := Lib.hid hv
 replace hd := Lib.hid hd
 clear h
 go_enter Tryz.func137, Tryz.ntmps137
 go_wp2_with fail
 go_loopw [5, 6] (fun s z wr => ∃ j : Nat, j ≤ n ∧ (F ≤ j ∨ j = n) ∧ z = .int .i64 ((j : Int) - 1) ∧ s = .int .i64 ((tv (l.drop j) : Nat) : Int) ∧ w = wr) (fun _ z _ => (intOf z + 1).toNat)
 case atStart => exact ⟨n, Nat.le_refl _, .inr rfl, by first | rfl | go_num, by rw [h0.out]; rfl, rfl⟩
 case round =>
  obtain ⟨j, hj, hFj, rfl, rfl, rfl⟩ := hrel
  rcases Nat.lt_or_ge F j with hlt | hge
  ·obtain ⟨i, rfl⟩ : ∃ i, j = i + 1 := ⟨j - 1, by omega⟩
   obtain ⟨a, rfl, -, hs⟩ := hv.out (by omega)
   have hil : i < l.length := by have := hn.out; omega
   have hcell := hs.cell i hil
   have hx := hd.out _ (List.getElem_mem hil)
   have hnext : tv (l.drop i) = l[i] + 10000 * tv (l.drop (i + 1)) := by rw [List.drop_eq_getElem_cons hil, tv_cons]
   have hT : tv (l.drop (i + 1)) < 1000000000000 := by
    have h1 := tv_lt (l := l.drop (i + 1)) fun d hdd => hd.out d (List.mem_of_mem_drop hdd)
    exact Nat.lt_of_lt_of_le h1 (Nat.le_trans (Nat.pow_le_pow_right (by omega) (show _ ≤ 3 by rw [List.length_drop]; have := hn.out; omega)) (by decide))
   have e1 : (((i + 1 : Nat) : Int) - 1) = (i : Int) := by omega
   have k1 : (F : Int) ≤ (i : Int) := by omega
   have k2 : (i : Int) < (n : Int) := by omega
   have hTi : ((tv (l.drop (i + 1)) : Nat) : Int) ≤ 1000000000000 := by omega
   clear hT hs
   generalize l[i] = x at *
   generalize tv (l.drop (i + 1)) = T at *
   replace hnext := Lib.hid hnext
   replace hFj := Lib.hid hFj
   rw [e1]
   go_wp2_with fail
   go_roundw
   case rel => exact ⟨i, by omega, .inl (by omega), by first | rfl | go_num, (by rw [hnext.out]; go_num), by trivial⟩
   case measure => simp [intOf]
  ·have hfin : tv (l.drop j) = tv (l.drop F) := by
    rcases hFj with h | h
    ·rw [show j = F by omega]
    ·rw [List.drop_eq_nil_of_le (by have := hn.out; omega), List.drop_eq_nil_of_le (by have := hn.out; omega)]
   have k1 : ¬ (F : Int) ≤ (j : Int) - 1 := by omega
   replace hfin := Lib.hid hfin
   replace hFj := Lib.hid hFj
   go_wp2_with fail
   go_ret
   exact ⟨by rw [← hfin.out]; rfl, rfl⟩
/-- What Div's rounds keep: the digits from i on are the quotient's, r is what is left. -/
structure DivS (a b : Nat) (A X : List Nat) (i r : Nat) : Prop where
 lt : ∀ d ∈ X, d < 10000
 zero : ∀ (k : Nat) (h : k < X.length), k < i → X[k] = 0
 eq : tv X * b + 10000 ^ i * r + tv (A.take i) = a
 rem : r < b
theorem DivS.step {a b i r : Nat} {A X : List Nat} (h : DivS a b A X (i + 1) r) (hA : ∀ d ∈ A, d < 10000) (hi : i < X.length) {y : Nat} (hy : y = dg A i + 10000 * r) :
  y / b ≤ 9999 ∧ DivS a b A (X.set i (y / b)) i (y - b * (y / b)) := by
 have hb : 0 < b := Nat.lt_of_le_of_lt (Nat.zero_le _) h.rem
 have hx := dg_lt hA i
 have hr := h.rem
 have hq : y / b ≤ 9999 := by
  have h1 : y < 10000 * b := by
   have : 10000 * (r + 1) ≤ 10000 * b := Nat.mul_le_mul_left _ hr
   omega
  have := (Nat.div_lt_iff_lt_mul hb).2 h1
  omega
 have e := tv_set0 hi (h.zero i hi (by omega)) (y / b)
 have hm := Nat.div_add_mod y b
 have hml := Nat.mod_lt y hb
 refine ⟨hq, fun x hx => ?_, fun k hk hki => ?_, ?_, by omega⟩
 ·rcases List.mem_or_eq_of_mem_set hx with hx | hx
  ·exact h.lt x hx
  ·omega
 ·rw [List.getElem_set_ne (by omega)]
  exact h.zero k (by rw [List.length_set] at hk; exact hk) (by omega)
 ·have e0 := h.eq
  rw [tv_take, Nat.pow_succ] at e0
  rw [e, Nat.add_mul]
  have e1 : 10000 ^ i * (y / b) * b + 10000 ^ i * (y - b * (y / b)) = 10000 ^ i * dg A i + 10000 ^ i * 10000 * r := by
   rw [Nat.mul_assoc, Nat.mul_assoc, ← Nat.mul_add, ← Nat.mul_add, Nat.mul_comm (y / b) b, show b * (y / b) + (y - b * (y / b)) = y by omega, hy]
  generalize tv X * b = p1 at *
  generalize 10000 ^ i * (y / b) * b = p2 at *
  generalize 10000 ^ i * (y - b * (y / b)) = p3 at *
  generalize 10000 ^ i * dg A i = p4 at *
  generalize 10000 ^ i * 10000 * r = p5 at *
  omega
theorem DivS.done {a b r : Nat} {A X : List Nat} (h : DivS a b A X 0 r) : tv X = a / b ∧ r = a % b := by
 have e := h.eq
 rw [Nat.pow_zero, Nat.one_mul, List.take_zero, tv_nil, Nat.add_zero, Nat.mul_comm] at e
 have hb : 0 < b := Nat.lt_of_le_of_lt (Nat.zero_le _) h.rem
 rw [← e]
 exact ⟨by rw [Nat.mul_add_div hb, Nat.div_eq_of_lt h.rem, Nat.add_zero], by rw [Nat.mul_add_mod, Nat.mod_eq_of_lt h.rem]⟩
theorem DivS.start {a b : Nat} (hab : b ≤ a) (hb : 0 < b) : ∃ i, i + (td b).length = (td a).length + 1 ∧ DivS a b (td a) (List.replicate i 0) i (tv ((td a).drop i)) := by
 have hlen := td_mono hab
 have hbl : 0 < (td b).length := by
  rcases Nat.eq_zero_or_pos (td b).length with h | h
  ·have := td_nil.1 (List.eq_nil_of_length_eq_zero h); omega
  ·exact h
 refine ⟨(td a).length + 1 - (td b).length, by omega, fun d hd => by rw [(List.mem_replicate.1 hd).2]; omega, fun k h _ => by simp, ?_, ?_⟩
 ·rw [tv_zeros, Nat.zero_mul, Nat.zero_add]
  have := tv_append ((td a).take ((td a).length + 1 - (td b).length)) ((td a).drop ((td a).length + 1 - (td b).length))
  rw [List.take_append_drop, tv_td, List.length_take, Nat.min_eq_left (by omega)] at this
  omega
 ·rw [td_drop, tv_td]
  refine Nat.lt_of_not_le fun h => ?_
  have h1 : (td (a / 10000 ^ ((td a).length + 1 - (td b).length))).length = (td b).length - 1 := by
   rw [← td_drop, List.length_drop]; omega
  have := td_mono h
  omega
/-- The bounds that the leading digits give. -/
theorem lead_low {b y F t : Nat} (ht : t = b / 10000 ^ F) : y / 10000 ^ F / (t + 1) * b ≤ y := by
 have hp : 0 < 10000 ^ F := Nat.pow_pos (by omega)
 have h1 : b < 10000 ^ F * (t + 1) := by
  have := Nat.lt_mul_div_succ b hp
  rwa [← ht] at this
 have h2 : y / 10000 ^ F / (t + 1) * b ≤ y / 10000 ^ F / (t + 1) * (10000 ^ F * (t + 1)) := Nat.mul_le_mul_left _ (Nat.le_of_lt h1)
 have h3 : y / 10000 ^ F / (t + 1) * (t + 1) ≤ y / 10000 ^ F := Nat.div_mul_le_self _ _
 have h4 : y / 10000 ^ F * 10000 ^ F ≤ y := Nat.div_mul_le_self _ _
 have h5 : y / 10000 ^ F / (t + 1) * (10000 ^ F * (t + 1)) = (y / 10000 ^ F / (t + 1) * (t + 1)) * 10000 ^ F := by
  rw [Nat.mul_comm (10000 ^ F), Nat.mul_assoc]
 have h6 : (y / 10000 ^ F / (t + 1) * (t + 1)) * 10000 ^ F ≤ y / 10000 ^ F * 10000 ^ F := Nat.mul_le_mul_right _ h3
 omega
theorem lead_high {b y F t : Nat} (ht : t = b / 10000 ^ F) (ht0 : 0 < t) : y / b ≤ y / 10000 ^ F / t := by
 rw [Nat.div_div_eq_div_mul]
 have h1 : 10000 ^ F * t ≤ b := by rw [ht]; exact Nat.mul_div_le _ _
 exact Nat.div_le_div_left h1 (Nat.mul_pos (Nat.pow_pos (by omega)) ht0)
end Go.Proofs.YtahfcciihkkegaaGreatDoor.Rx
namespace Go.Proofs.YtahfcciihkkegaaGreatDoor.Rx
open Go.RowKit
attribute [local irreducible] tv dg cmpI txt decB nb isq
theorem add_add (a : Addr) (i j : Nat) : (a.add i).add j = a.add (i + j) := by
 unfold Addr.add
 by_cases h : i = 0
 ·subst h; simp
 ·by_cases h2 : j = 0
  ·subst h2; simp [h]
  ·simp [h, h2, Nat.add_assoc]
theorem small_len {k : Nat} (hk : k ≤ 9999) : (td k).length ≤ 1 := td_length.2 (by rw [Nat.pow_one]; omega)
theorem own_one (w : World) (x : Int) : (w.alloc (.cells #[.int .i64 x] 3)).ownsRow w.heap.size 3 1 (.slice (some ⟨w.heap.size, 0, none⟩) 1 1) 1 [.int .i64 x] :=
 ⟨rfl, .inr ⟨w.heap.size, 1, #[.int .i64 x], rfl, Nat.le_refl _, heap_alloc_new w _, Nat.le_refl _, by unfold maxLen; omega, rfl, rfl⟩⟩
theorem slice_from (w : World) (aA : Addr) (L ca i1 : Nat) (h : i1 ≤ L) (hc : L ≤ ca) :
  (Instr.slice 42 (.slice (some aA) L ca) (some (.int .i64 (i1 : Int))) none none).run Tryz.prog w = .ok (.slice (some (if ca = i1 then aA else aA.add i1)) (L - i1) (ca - i1)) w := by
 obtain ⟨i0, hi, hz0, hz1, hz2⟩ := info_parts Tryz.infoI
 have h1 : (0 : Int) ≤ (i1 : Int) := by omega
 have h2 : (i1 : Int) ≤ (L : Int) := by omega
 by_cases hh : ca = i1
 ·simp [Instr.slice, Instr.sliceBounds, run_underlying Tryz.underlying42, run_sliceBound, h1, h2, hh, go_sem] <;> rfl
 ·simp [Instr.slice, Instr.sliceBounds, run_underlying Tryz.underlying42, run_sliceBound, h1, h2, hh, go_sem] <;> rfl
theorem made2 (w : World) (o : Obj) : ((w.alloc o).alloc (.cells #[] 3)).ownsRow (w.heap.size + 1) 3 1 (.slice (some ⟨w.heap.size + 1, 0, none⟩) 0 0) 0 [] := by
 have h := World.ownsRow_made (base := w.heap.size + 1) (e := 3) (size := 1) (w.alloc o) #[] 0 (by rw [World.size_alloc]; exact Nat.le_refl _) (Nat.zero_le _) rfl
 rwa [World.size_alloc] at h
/-- trim leaves the block that its argument looks into. -/
theorem trim_blk (v : Value) (l : List Nat) (hd : ∀ d ∈ l, d < 10000) (hB : l.length < 9223372036854775807) (w : World) (h : Sl w v l) :
  Calls Tryz.prog 138 #[v] w fun e w' => ∃ v', e = .returned v' ∧ Sl w v' (td (tv l)) ∧ v'.ownBlock = v.ownBlock ∧ w = w' := by
 obtain ⟨z, hz⟩ := td_tv hd
 rcases h with ⟨ao, c, rfl, rfl, hc0⟩ | ⟨a, c, rfl, h2, h3⟩
 ·refine (trim_nil ao c w).mono ?_
  rintro e w' ⟨rfl, rfl⟩
  exact ⟨_, rfl, .inl ⟨ao, c, rfl, by rw [tv_nil, td_zero], hc0⟩, rfl, rfl⟩
 ·have hlen : l.length = (td (tv l)).length + z := by
   have := congrArg List.length hz
   rwa [List.length_append, List.length_replicate] at this
  rw [hz] at h3
  rw [hlen] at h2 hB ⊢
  refine (trim_row a c _ z (td (tv l)) rfl h2 hB (fun h => td_last h) w h3).mono ?_
  rintro e w' ⟨rfl, rfl⟩
  exact ⟨_, rfl, .inr ⟨a, c, rfl, by omega, h3.left⟩, rfl, rfl⟩
theorem Sl.set_off {w : World} {v : Value} {l : List Nat} {g k : Nat} {u : Value} (h : Sl w v l) (ho : v.ownBlock ≠ some g) : Sl (w.setCell ⟨g, k, none⟩ u) v l := by
 rcases h with h | ⟨a, c, rfl, h2, h3⟩
 ·exact .inl h
 ·have hne : a.block ≠ g := fun e => ho (by rw [← e]; rfl)
  refine .inr ⟨a, c, rfl, h2, fun i hi => ?_, ?_⟩
  ·rw [← h3.cell i hi]
   exact World.cell?_of_block (by rw [addB]; exact Below.heap_setCell _ _ _ _ hne)
  ·have := h3.blk
   simpa [World.setCell] using this
theorem wpList_append_sl {w : World} {ops : Array Oper} {rest : List Oper} {o : Oper} {a : Act} {Q : Exit → Act → World → Prop} (hgd : o.guard = none) (s x : Operand)
  (ho : o.op = .call { callee := .builtin .append, args := #[s, x], argTypes := #[42, 42] })
  (base : Nat) (v : Value) (n : Nat) (xs : List Value) (hs : a.eval s = v) (hown : w.ownsRow base 3 1 v n xs)
  (v2 : Value) (l : List Nat) (hx : a.eval x = v2) (hsl : Sl w v2 l) (hn : n + l.length ≤ 1000000) (hbase : base ≤ w.heap.size)
  (h : ∀ v' w', w'.ownsRow base 3 1 v' (n + l.length) (xs ++ l.map iv) → w.grownBy w' v.ownBlock → wpList Tryz.prog ops Q rest (a.put o.dst v') w') : wpList Tryz.prog ops Q (o :: rest) a w := by
 obtain ⟨i0, hi, hz0, hz1, hz2⟩ := info_parts Tryz.infoI
 rcases hsl.src with ⟨e, rfl⟩ | ⟨ad, c, e, hnews⟩
 ·rw [e] at hx
  refine wpList_append_own_none hgd s x _ ho base 3 i0 1 Tryz.underlying42 hi v n xs hs hown hx (h v w ?_ ⟨rfl, rfl, rfl, Nat.le_refl _, fun _ _ _ => rfl⟩)
  simpa using hown
 ·rw [e] at hx
  exact wpList_append_own w hgd s x _ ho base 3 i0 (.int .i64 0) 1 8 Tryz.underlying42 hi hz0 hz1 hz2 rfl (by decide) v n xs hs hown ad l.length c (l.map iv) hx (by rw [List.length_map, Nat.mul_one]) hnews
   (fun u hu => by obtain ⟨y, -, rfl⟩ := List.mem_map.1 hu; rfl) (by unfold maxLen; omega) (by omega) hbase fun v' w' h1 h2 _ => h v' w' h1 h2
theorem rdiv_small (va vb : Value) (a b : Nat) (hab : a < b) (la : (td a).length ≤ 1000) (lb : (td b).length ≤ 1000) (w : World) (ha : Rn w va a) (hb : Rn w vb b) :
  Calls Tryz.prog 78 #[va, vb] w fun e w' => e = .returned (.tuple #[.slice none 0 0, va]) ∧ Below w.heap.size w w' := by
 have C := rcmp_any va vb a b (by omega) (by omega) w ha hb
 rw [cmpI_lt hab] at C
 replace C := Lib.hid C
 clear ha hb hab
 go_enter Tryz.func78, Tryz.ntmps78
 go_wp2_with fail
 with_reducible refine Calls.mono C.out ?_
 rintro e w1 ⟨rfl, hb1⟩
 go_wp2_with fail
 exact bodyPost_ret (v := .tuple #[.slice none 0 0, va]) (by simp [results, Tryz.results78, go_sem]) rfl ⟨rfl, hb1⟩
theorem rdiv_big (va vb : Value) (a b : Nat) (hab : b ≤ a) (hb0 : 0 < b) (la : (td a).length ≤ 1000) (w : World) (ha : Rn w va a) (hb : Rn w vb b) :
  Calls Tryz.prog 78 #[va, vb] w fun e w' => ∃ v1 v2, e = .returned (.tuple #[v1, v2]) ∧ Rn w' v1 (a / b) ∧ Rn w' v2 (a % b) ∧ Below w.heap.size w w' := by
 obtain ⟨i0, hi, hz0, hz1, hz2⟩ := info_parts Tryz.infoI
 obtain ⟨ao, ca, ea, hva⟩ := ha.view
 obtain ⟨bo, cb, eb⟩ := hb.form
 subst ea eb
 have lb := Nat.le_trans (td_mono hab) la
 have hML := td_mono hab
 obtain ⟨i1, hi1, hst⟩ := DivS.start hab hb0
 have hM0 : 0 < (td b).length := by
  rcases Nat.eq_zero_or_pos (td b).length with h | h
  ·have := td_nil.1 (List.eq_nil_of_length_eq_zero h); omega
  ·exact h
 have hAlt := td_lt a
 obtain ⟨F, hF⟩ : ∃ F, F = (td b).length - 3 := ⟨_, rfl⟩
 have hdrop := td_drop b F
 have ht0 : 0 < b / 10000 ^ F := by
  refine Nat.pos_of_ne_zero fun h => ?_
  rw [h, td_zero] at hdrop
  have := congrArg List.length hdrop
  rw [List.length_drop, List.length_nil] at this
  omega
 have Le := Lib.hid (fun (wx : World) (hh : Rn wx (.slice bo (td b).length cb) b) => rleading_any (.slice bo (td b).length cb) (td b) F (td_lt b) (by omega) (by omega) wx hh)
 rw [hdrop, tv_td] at Le
 have htb : b / 10000 ^ F < 1000000000000 := by
  have h1 : (td (b / 10000 ^ F)).length ≤ 3 := by rw [← hdrop, List.length_drop]; omega
  exact Nat.lt_of_lt_of_le (td_length.1 h1) (by decide)
 have C := Lib.hid (fun (wx : World) (h1 : Rn wx (.slice ao (td a).length ca) a) (h2 : Rn wx (.slice bo (td b).length cb) b) => rcmp_any _ _ a b (by omega) (by omega) wx h1 h2)
 have hcw : decide (cmpI a b < 0) = false := decide_eq_false (by unfold cmpI; split <;> (try split) <;> omega)
 generalize cmpI a b = z at *
 obtain ⟨t, ht⟩ : ∃ t, t = b / 10000 ^ F := ⟨_, rfl⟩
 rw [← ht] at Le ht0 htb
 -- the search for a digit
 have low := fun y => lead_low (y := y) ht
 have high := fun y => lead_high (y := y) ht ht0
 have lead := Lib.hid (fun (v : Value) (y : Nat) (hy : y < 10000 * b) (wx : World) (hv : Rn wx v y) => rleading_any v (td y) F (td_lt y) (by omega) (by
  have h1 : (td y).length ≤ (td b).length + 1 := td_length.2 (by
   have := td_length.1 (Nat.le_refl (td b).length)
   rw [Nat.pow_succ]; omega)
  omega) wx hv)
 have fb : ∀ y, y < 10000 * b → y / 10000 ^ F < 20000000000000000 := fun y hy => by
  have hp : 0 < 10000 ^ F := Nat.pow_pos (by omega)
  have h1 : b < 10000 ^ F * (t + 1) := by
   have := Nat.lt_mul_div_succ b hp
   rwa [← ht] at this
  refine (Nat.div_lt_iff_lt_mul hp).2 ?_
  have h2 : 10000 * b < 10000 * (10000 ^ F * (t + 1)) := Nat.mul_lt_mul_of_pos_left h1 (by omega)
  have h3 : 10000 ^ F * (t + 1) ≤ 10000 ^ F * 1000000000000 := Nat.mul_le_mul_left _ (by omega)
  generalize 10000 ^ F * (t + 1) = p at *
  generalize 10000 ^ F = q at *
  omega
 have MB := Lib.hid (fun (k : Nat) (hk : k ≤ 9999) (vx : Value) (wx : World) (h1 : Rn wx (.slice bo (td b).length cb) b) (h2 : Rn wx vx k) => rmul_any (.slice bo (td b).length cb) vx b k (by omega) (Nat.le_trans (small_len hk) (by omega)) wx h1 h2)
 have hbk : ∀ k, k ≤ 9999 → (td (b * k)).length ≤ 1001 := fun k hk => Nat.le_trans (td_mul_le lb (small_len hk)) (by omega)
 have hyl : ∀ y, y < 10000 * b → (td y).length ≤ 1001 := fun y hy => by
  have h1 : (td y).length ≤ (td b).length + 1 := td_length.2 (by
   have := td_length.1 (Nat.le_refl (td b).length)
   rw [Nat.pow_succ]; omega)
  omega
 have CM := Lib.hid (fun (k : Nat) (hk : k ≤ 9999) (y : Nat) (hy : y < 10000 * b) (vx vy : Value) (wx : World) (h1 : Rn wx vx (b * k)) (h2 : Rn wx vy y) => rcmp_any vx vy (b * k) y (Nat.le_trans (hbk k hk) (by omega)) (Nat.le_trans (hyl y hy) (by omega)) wx h1 h2)
 have SB := Lib.hid (fun (k y : Nat) (hy : y < 10000 * b) (hle : b * k ≤ y) (vx vy : Value) (wx : World) (h1 : Rn wx vy y) (h2 : Rn wx vx (b * k)) => rsub_any vy vx y (b * k) (Nat.le_trans (hyl y hy) (by omega)) hle wx h1 h2)
 have hTR : ∀ (x y r : Nat) (hy : y = x + 10000 * r) (hx : x < 10000) (hyb : y < 10000 * b) (v : Value) (wx : World), Sl wx v (x :: td r) → Calls Tryz.prog 138 #[v] wx fun e w' => ∃ v', e = .returned v' ∧ Rn w' v' y ∧ v'.ownBlock = v.ownBlock ∧ wx = w' := fun x y r hy hx hyb v wx hv => by
  have h1 : tv (x :: td r) = y := by rw [tv_cons, tv_td, hy]
  have h2 : (td r).length ≤ 1001 := Nat.le_trans (td_mono (show r ≤ y by omega)) (hyl y hyb)
  have := trim_blk v (x :: td r) (fun d hd => by
   rcases List.mem_cons.1 hd with rfl | hd
   ·exact hx
   ·exact td_lt r d hd) (by rw [List.length_cons]; omega) wx hv
  rw [h1] at this
  refine Calls.mono this ?_
  rintro e w' ⟨v', rfl, h, h', rfl⟩
  exact ⟨v', rfl, h, h', rfl⟩
 replace hTR := Lib.hid hTR
 clear hbk hyl hdrop ht
 obtain ⟨L, hL⟩ : ∃ L, L = (td a).length := ⟨_, rfl⟩
 obtain ⟨M, hM⟩ : ∃ M, M = (td b).length := ⟨_, rfl⟩
 rw [← hL] at la ha hva C hi1 hML ⊢
 rw [← hM] at lb hb C Le MB hi1 hM0 hF hML ⊢
 obtain ⟨aA, rfl, hca, hsd⟩ := hva (by omega)
 have hsd := Lib.hid hsd
 obtain ⟨ad, had⟩ : ∃ ad, ad = (if ca = i1 then aA else aA.add i1) := ⟨_, rfl⟩
 obtain ⟨r0, hr0⟩ : ∃ r0, r0 = a / 10000 ^ i1 := ⟨_, rfl⟩
 have htr : (td a).drop i1 = td r0 := by rw [hr0, td_drop]
 have hmk : ∀ w, (Instr.makeSlice 42 (.int .i64 (i1 : Int)) (.int .i64 (i1 : Int))).run Tryz.prog w = .ok (.slice (some ⟨w.heap.size, 0, none⟩) i1 i1) (w.alloc (zobjI i1)) :=
  fun w => makeN w _ i1 rfl (by omega)
 have hsf : ∀ w, (Instr.slice 42 (.slice (some aA) L ca) (some (.int .i64 (i1 : Int))) none none).run Tryz.prog w = .ok (.slice (some ad) (L - i1) (ca - i1)) w :=
  fun w => by rw [had]; exact slice_from w aA L ca i1 (by omega) hca
 have hsr : ∀ wx, Below w.heap.size w wx → Sl wx (.slice (some ad) (L - i1) (ca - i1)) (td r0) := by
  intro wx hbx
  have hlr : (td r0).length = L - i1 := by rw [← htr, List.length_drop, ← hL]
  by_cases hz : L = i1
  ·exact .inl ⟨some ad, ca - i1, by rw [hz, Nat.sub_self], List.eq_nil_of_length_eq_zero (by rw [hlr, hz, Nat.sub_self]), fun h => by simp at h⟩
  ·have hne : ca ≠ i1 := by omega
   rw [if_neg hne] at had
   refine .inr ⟨ad, ca - i1, by rw [hlr], by omega, fun j hj => ?_, ?_⟩
   ·have hjl : i1 + j < (td a).length := by omega
    have := (hsd.out.below hbx).cell (i1 + j) hjl
    rw [had, add_add, this]
    congr 3
    simp only [← htr, List.getElem_drop]
   ·rw [had, addB]; exact (hsd.out.below hbx).blk
 have hLM : (L : Int) - (M : Int) + 1 = (i1 : Int) := by omega
 obtain ⟨m1, hm1⟩ : ∃ m1, m1 = L - i1 := ⟨_, rfl⟩
 have hLi : L - i1 = m1 := hm1.symm
 have hm1b : m1 ≤ 1000 := by omega
 have hiL : (i1 : Int) ≤ (L : Int) := by omega
 have hi0 : (1 : Int) ≤ (i1 : Int) := by omega
 have hm1' := Lib.hid (show m1 = L - i1 ∧ i1 + M = L + 1 ∧ M ≤ L from ⟨hm1, hi1, by omega⟩)
 clear hm1
 have hmax : max (0 : Int) ((M : Int) - 3) = (F : Int) := by omega
 replace ha := Lib.hid ha
 replace hb := Lib.hid hb
 have hm1r : (td r0).length = m1 := by rw [← htr, List.length_drop, ← hL, hLi]
 rw [htr, tv_td] at hst
 rw [hLi] at hsr
 replace hst := Lib.hid hst
 replace hsr := Lib.hid hsr
 replace htr := Lib.hid htr
 replace hr0 := Lib.hid hr0
 replace hca := Lib.hid hca
 replace had := Lib.hid had
 clear hva
 replace hL := Lib.hid hL
 replace hM := Lib.hid hM
 replace hAlt := Lib.hid hAlt
 replace low := Lib.hid low
 replace high := Lib.hid high
 replace fb := Lib.hid fb
 have hi1' := Lib.hid hi1
 have hF' := Lib.hid hF
 have k1 : (M : Int) ≤ (L : Int) := by omega
 clear hi1 hF
 go_enter Tryz.func78, Tryz.ntmps78
 go_wp2_with fail
 with_reducible refine Calls.mono (C.out _ ha.out hb.out) ?_
 rintro e w1 ⟨rfl, hb1⟩
 go_wp2_with fail
 with_reducible refine Calls.mono (Le.out _ (hb.out.below hb1)) ?_
 rintro e w2 ⟨rfl, rfl⟩
 have hD0 := ((hb1.alloc hb1.size (zobjI i1)).alloc (by rw [World.size_alloc]; have := hb1.size; omega) (.cells #[] 3))
 have hr0S := Lib.hid (hsr.out _ hD0)
 have hm1r' : 0 + (td r0).length ≤ 1000000 := by omega
 replace hD0 := Lib.hid hD0
 replace hm1r' := Lib.hid hm1r'
 go_wp2_with (at_builtin; refine wpList_append_sl rfl _ _ rfl (w1.heap.size + 1) _ 0 [] rfl (made2 _ _) _ (td r0) rfl hr0S.out hm1r'.out (by simp) ?_)
 intro v2 w2 hown hgrow
 have hB2 : Below (w1.heap.size + 1) (w1.alloc (zobjI i1)) w2 := ((Below.refl _ _).alloc (by rw [World.size_alloc]; exact Nat.le_refl _) _).grown hgrow (by simp [World.size_alloc]) (fun j hj => by simp [Value.ownBlock] at hj; omega)
 have hX0 := (IB.zeros w1 i1).below hB2 (Nat.lt_succ_self _)
 have hgB : w.heap.size ≤ w1.heap.size := hb1.size
 have hD2 := (hb1.alloc hb1.size (zobjI i1)).trans (hB2.mono (Nat.le_trans hgB (Nat.le_succ _)))
 have hR2 : Rn w2 v2 r0 := Sl.owned hown hm1r.symm
 clear hown hgrow hB2 hD0 hr0S hsf hsr hmk hm1r'
 replace hX0 := Lib.hid hX0
 replace hR2 := Lib.hid hR2
 obtain ⟨g, hg⟩ : ∃ g, g = w1.heap.size := ⟨_, rfl⟩
 rw [← hg] at hX0 hgB ⊢
 clear hg
 go_wp2_with fail
 go_loopw [8, 10] (fun zv rv wr => ∃ (j : Nat) (X : List Nat) (r : Nat), zv = .int .i64 ((j : Int) - 1) ∧ j ≤ i1 ∧ X.length = i1 ∧ DivS a b (td a) X j r ∧ IB wr g X ∧ Rn wr rv r ∧ Below w.heap.size w wr) (fun zv _ _ => (intOf zv + 1).toNat)
 case atStart => exact ⟨i1, _, r0, (by rw [show (L : Int) - (M : Int) = (i1 : Int) - 1 by omega]), Nat.le_refl _, List.length_replicate, hst.out, hX0.out, hR2.out, hD2⟩
 case round =>
  obtain ⟨j, X, r, rfl, hj, hXl, hS, hX, hr, hbl⟩ := hrel
  clear hX0 hR2 hst hD2 C Le
  cases j with
  | zero =>
   have HT := trim_any _ X hS.lt (by rw [hXl]; omega) wr (hX.sl i1 (by omega))
   obtain ⟨hq, hrm⟩ := hS.done
   rw [hq, hXl] at HT
   replace HT := Lib.hid HT
   rw [hrm] at hr
   obtain ⟨ro, rc, erv⟩ := hr.form
   subst erv
   replace hr := Lib.hid hr
   clear hS hX hXl hq hrm
   go_wp2_with fail
   with_reducible refine Calls.mono HT.out ?_
   rintro e w3 ⟨v', rfl, hv, rfl⟩
   replace hv := Lib.hid hv
   go_wp2_with fail
   exact bodyPost_ret (v := .tuple #[v', .slice ro (td (a % b)).length rc]) (by simp [results, Tryz.results78, go_sem]) rfl ⟨_, _, rfl, hv.out, hr.out, hbl⟩
  | succ k =>
   have hki : k < i1 := by omega
   have hkL : k < L := by omega
   have e1 : (((k + 1 : Nat) : Int) - 1) = (k : Int) := by omega
   have hxb : dg (td a) k < 10000 := dg_lt hAlt.out k
   have hcell : wr.cell? (aA.add k) = some (.int .i64 ((dg (td a) k : Nat) : Int)) := by
    rw [dg_in (by rw [← hL.out]; exact hkL)]
    exact (hsd.out.below hbl).cell k (by rw [← hL.out]; exact hkL)
   have hkX : k < X.length := by rw [hXl]; exact hki
   obtain ⟨y, hy⟩ : ∃ y, y = dg (td a) k + 10000 * r := ⟨_, rfl⟩
   obtain ⟨hq9, hN⟩ := hS.step hAlt.out hkX hy
   generalize dg (td a) k = x at *
   have hrb := hS.rem
   have hyb : y < 10000 * b := by omega
   have hlr : (td r).length ≤ 1000 := Nat.le_trans (td_mono (Nat.le_of_lt hrb)) (by rw [← hM.out]; exact lb)
   obtain ⟨f, hf⟩ : ∃ f, f = y / 10000 ^ F := ⟨_, rfl⟩
   have hfb : f < 20000000000000000 := by rw [hf]; exact fb.out y hyb
   have LD := Lib.hid (fun (v : Value) (wx : World) (h : Rn wx v y) => lead.out v y hyb wx h)
   rw [td_drop, tv_td, ← hf] at LD
   obtain ⟨l0, hl0⟩ : ∃ l0, l0 = f / (t + 1) := ⟨_, rfl⟩
   obtain ⟨h0, hh0⟩ : ∃ h0, h0 = f / t := ⟨_, rfl⟩
   obtain ⟨h9, hh9⟩ : ∃ h9, h9 = min h0 9999 := ⟨_, rfl⟩
   have m1q : l0 * b ≤ y := by rw [hl0, hf]; exact low.out y
   have m2q : y / b ≤ h0 := by rw [hh0, hf]; exact high.out y
   have m3q : y / b ≤ h9 := by omega
   have m4q : l0 ≤ y / b := (Nat.le_div_iff_mul_le hb0).2 m1q
   have m5q : l0 ≤ h9 := Nat.le_trans m4q m3q
   have m6q : y < b * (h9 + 1) := by
    have := (Nat.div_lt_iff_lt_mul hb0).1 (Nat.lt_succ_of_le m3q)
    rwa [Nat.mul_comm] at this
   have m7q : h9 ≤ 9999 := by omega
   have i1q : (f : Int) / ((t : Int) + 1) = (l0 : Int) := by rw [hl0]; exact (Int.natCast_ediv f (t + 1)).symm
   have i2q : (f : Int) / (t : Int) = (h0 : Int) := by rw [hh0]; exact (Int.natCast_ediv f t).symm
   have i3q : min (h0 : Int) 9999 = (h9 : Int) := by omega
   have h0b : h0 ≤ f := by rw [hh0]; exact Nat.div_le_self _ _
   have hTR1 := Lib.hid (fun v wx h => hTR.out x y r hy hxb hyb v wx h)
   rw [Nat.mul_comm] at m1q
   replace m1q := Lib.hid m1q
   replace m6q := Lib.hid m6q
   replace hN := Lib.hid hN
   replace hy := Lib.hid hy
   replace hq9 := Lib.hid hq9
   replace hr := Lib.hid hr
   replace hkX := Lib.hid hkX
   replace hXl := Lib.hid hXl
   have hcX := hX.cell k hkX.out
   have hfX := hX.frozen k
   replace hX := Lib.hid hX
   replace hyb := Lib.hid hyb
   clear hS m2q m3q m4q hf hl0 hh0 hh9 lead hTR low high fb hrb
   rw [e1]
   have hrA := Lib.hid (hr.out.below ((Below.refl wr.heap.size wr).alloc (Nat.le_refl _) (.cells #[.int .i64 (x : Int)] 3)))
   have hlr1 := Lib.hid (show 1 + (td r).length ≤ 1000000 by omega)
   clear hlr
   go_wp2_with (at_builtin; refine wpList_append_sl rfl _ _ rfl wr.heap.size _ 1 [.int .i64 (x : Int)] rfl (own_one wr x) _ (td r) rfl hrA.out hlr1.out (by simp) ?_)
   intro v3 w3 hown hgrow
   have hs3 := Lib.hid (show Sl w3 v3 (x :: td r) from Sl.owned hown (by rw [List.length_cons, Nat.add_comm]))
   have hB3 : Below wr.heap.size wr w3 := ((Below.refl _ _).alloc (Nat.le_refl _) _).grown hgrow (by simp) (fun j hj => by simp [Value.ownBlock] at hj; omega)
   have hD3 := hbl.trans (hB3.mono hbl.size)
   have hX3 := Lib.hid (hX.out.below hB3 hX.out.lt)
   have ho3 : v3.ownBlock ≠ some g := fun e => by
    have := (hown.lt g e).1
    have := hX.out.lt
    omega
   clear hown hgrow hB3 hX hbl hcX hfX hcell hrA hr hlr1
   go_wp2_with fail
   with_reducible refine Calls.mono (hTR1.out _ _ hs3.out) ?_
   rintro e w4 ⟨v4, rfl, hv4, ho4, rfl⟩
   rw [← ho4] at ho3
   replace ho3 := Lib.hid ho3
   clear ho4
   replace hv4 := Lib.hid hv4
   clear hs3
   go_wp2_with fail
   with_reducible refine Calls.mono (LD.out _ _ hv4.out) ?_
   rintro e w4 ⟨rfl, rfl⟩
   have t1 : ¬ (t : Int) + 1 = 0 := by omega
   have t2 : ¬ (t : Int) = 0 := by omega
   go_wp2_with fail
   go_quiet (fail)
   go_wp2_with fail
   have hX3' := Lib.hid (hX3.out.drewN nq)
   have hD3' := ibdrew hD3 nq
   have hv4' := Lib.hid (show Rn (w3.drewN nq) v4 y from hv4.out.below (ibdrew (Below.refl _ _) nq))
   generalize hW4 : w3.drewN nq = w4 at *
   clear hW4 hX3 hD3 hv4
   go_loopw [12, 13] (fun lv hv wx => ∃ (l h : Nat), lv = .int .i64 (l : Int) ∧ hv = .int .i64 (h : Int) ∧ l ≤ h ∧ h ≤ 9999 ∧ b * l ≤ y ∧ y < b * (h + 1) ∧ IB wx g X ∧ Rn wx v4 y ∧ Below w.heap.size w wx) (fun lv hv _ => (intOf hv - intOf lv).toNat)
   case atStart => exact ⟨l0, h9, rfl, rfl, m5q, m7q, m1q.out, m6q.out, hX3'.out, hv4'.out, hD3'⟩
   case round =>
    obtain ⟨l, h, rfl, rfl, hlh, hh9, hq1, hq2, hXb, hvb, hbl⟩ := hrel
    replace hq1 := Lib.hid hq1
    replace hq2 := Lib.hid hq2
    have hXlt := hXb.lt
    clear hX3' hD3' hv4' m1q m6q m5q m7q i1q i2q i3q h0b hfb t1 t2 LD hTR1
    rcases Nat.lt_or_ge l h with hlt | hge
    ·have k2 : (l : Int) < (h : Int) := by omega
     obtain ⟨mid, hmid⟩ : ∃ mid, mid = (l + h + 1) / 2 := ⟨_, rfl⟩
     have hmv : ((l : Int) + (h : Int) + 1) / 2 = (mid : Int) := by omega
     have hm1 : l < mid := by omega
     have hm2 : mid ≤ h := by omega
     have hm9 : mid ≤ 9999 := by omega
     have hmidy : mid = (mid - 1) + 1 := by omega
     have OF := Lib.hid (fun wx => rof_any mid (by omega) wx)
     have hmB := Lib.hid (fun vx wx h1 h2 => MB.out mid hm9 vx wx h1 h2)
     have hcM := Lib.hid (fun vx wx h1 h2 => CM.out mid hm9 y hyb.out vx v4 wx h1 h2)
     replace hmid := Lib.hid hmid
     replace hmidy := Lib.hid hmidy
     replace hXb := Lib.hid hXb
     replace hvb := Lib.hid hvb
     go_wp2_with fail
     with_reducible refine Calls.mono (OF.out _) ?_
     rintro e w5 ⟨v5, rfl, hv5, hb5⟩
     replace hv5 := Lib.hid hv5
     have B5 := hbl.trans (hb5.mono hbl.size)
     have hvb5 := Lib.hid (hvb.out.below hb5)
     have hX5 := Lib.hid (hXb.out.below hb5 hXb.out.lt)
     clear hb5
     go_wp2_with fail
     with_reducible refine Calls.mono (hmB.out _ _ (hb.out.below B5) hv5.out) ?_
     rintro e w6 ⟨v6, rfl, hv6, hb6⟩
     replace hv6 := Lib.hid hv6
     have B6 := B5.trans (hb6.mono B5.size)
     have hvb6 := Lib.hid (hvb5.out.below hb6)
     have hX6 := Lib.hid (hX5.out.below hb6 hX5.out.lt)
     clear hb6 B5
     by_cases hle : b * mid ≤ y
     ·have k3 : decide (cmpI (b * mid) y ≤ 0) = true := decide_eq_true (by unfold cmpI; split <;> (try split) <;> omega)
      replace hle := Lib.hid hle
      generalize cmpI (b * mid) y = zz at *
      go_wp2_with fail
      with_reducible refine Calls.mono (hcM.out _ _ hv6.out hvb6.out) ?_
      rintro e w7 ⟨rfl, hb7⟩
      have B7 := B6.trans (hb7.mono B6.size)
      have hvb7 := Lib.hid (hvb6.out.below hb7)
      have hX7 := Lib.hid (hX6.out.below hb7 hX6.out.lt)
      clear hb7 B6
      go_wp2_with fail
      go_roundw
      case rel => exact ⟨mid, h, rfl, rfl, hm2, hh9, hle.out, hq2.out, hX7.out, hvb7.out, B7⟩
      case measure => simp [intOf]; omega
     ·have k3 : decide (cmpI (b * mid) y ≤ 0) = false := decide_eq_false (by rw [cmpI_gt (by omega)]; omega)
      replace hle := Lib.hid hle
      generalize cmpI (b * mid) y = zz at *
      go_wp2_with fail
      with_reducible refine Calls.mono (hcM.out _ _ hv6.out hvb6.out) ?_
      rintro e w7 ⟨rfl, hb7⟩
      have B7 := B6.trans (hb7.mono B6.size)
      have hvb7 := Lib.hid (hvb6.out.below hb7)
      have hX7 := Lib.hid (hX6.out.below hb7 hX6.out.lt)
      clear hb7 B6
      go_wp2_with fail
      go_roundw
      case rel => exact ⟨l, mid - 1, rfl, by first | rfl | go_num, by omega, by omega, hq1.out, (by rw [← hmidy.out]; exact Nat.lt_of_not_le hle.out), hX7.out, hvb7.out, B7⟩
      case measure => simp [intOf]; omega
    ·obtain rfl : l = h := by omega
     have k2 : ¬ (l : Int) < (l : Int) := by omega
     have hyd : y / b = l := Nat.div_eq_of_lt_le (by rw [Nat.mul_comm]; exact hq1.out) (by rw [Nat.mul_comm]; exact hq2.out)
     rw [hyd] at hN hq9
     have OF := Lib.hid (fun wx => rof_any l (by omega) wx)
     have hmB := Lib.hid (fun vx wx h1 h2 => MB.out l hh9 vx wx h1 h2)
     have hsB := Lib.hid (fun vx wx h1 h2 => SB.out l y hyb.out hq1.out vx v4 wx h1 h2)
     have hcX := hXb.cell k hkX.out
     have hfX := hXb.frozen k
     have hb1 := hbl.setCell (p := ⟨g, k, none⟩) hgB (.int .i64 (l : Int))
     have hXs := Lib.hid (hXb.set k l)
     have hvs := Lib.hid (Sl.set_off (k := k) (u := .int .i64 (l : Int)) hvb ho3.out)
     replace hXb := Lib.hid hXb
     go_wp2_with fail
     with_reducible refine Calls.mono (OF.out _) ?_
     rintro e w5 ⟨v5, rfl, hv5, hb5⟩
     replace hv5 := Lib.hid hv5
     have B5 := hb1.trans (hb5.mono hb1.size)
     have hvb5 := Lib.hid (hvs.out.below hb5)
     have hX5 := Lib.hid (hXs.out.below hb5 hXs.out.lt)
     clear hb5 hXs hvs hcX hfX hb1
     go_wp2_with fail
     with_reducible refine Calls.mono (hmB.out _ _ (hb.out.below B5) hv5.out) ?_
     rintro e w6 ⟨v6, rfl, hv6, hb6⟩
     replace hv6 := Lib.hid hv6
     have B6 := B5.trans (hb6.mono B5.size)
     have hvb6 := Lib.hid (hvb5.out.below hb6)
     have hX6 := Lib.hid (hX5.out.below hb6 hX5.out.lt)
     clear hb6 B5
     go_wp2_with fail
     with_reducible refine Calls.mono (hsB.out _ _ hvb6.out hv6.out) ?_
     rintro e w7 ⟨v7, rfl, hv7, hb7⟩
     replace hv7 := Lib.hid hv7
     have B7 := B6.trans (hb7.mono B6.size)
     have hX7 := Lib.hid (hX6.out.below hb7 hX6.out.lt)
     clear hb7 B6
     go_wp2_with fail
     go_roundw
     case rel => exact ⟨k, X.set k l, y - b * l, by first | rfl | go_num, by omega, by rw [List.length_set]; exact hXl.out, hN.out, hX7.out, hv7.out, B7⟩
     case measure => simp [intOf]
/-- Div, for b above 0. -/
theorem rdiv_any (va vb : Value) (a b : Nat) (hb0 : 0 < b) (la : (td a).length ≤ 1000) (lb : (td b).length ≤ 1000) (w : World) (ha : Rn w va a) (hb : Rn w vb b) :
  Calls Tryz.prog 78 #[va, vb] w fun e w' => ∃ v1 v2, e = .returned (.tuple #[v1, v2]) ∧ Rn w' v1 (a / b) ∧ Rn w' v2 (a % b) ∧ Below w.heap.size w w' := by
 rcases Nat.lt_or_ge a b with h | h
 ·refine (rdiv_small va vb a b h la lb w ha hb).mono ?_
  rintro e w' ⟨rfl, hbl⟩
  refine ⟨_, _, rfl, ?_, ?_, hbl⟩
  ·rw [Nat.div_eq_of_lt h]
   show Sl w' _ (td 0)
   rw [td_zero]; exact Sl.nil w'
  ·rw [Nat.mod_eq_of_lt h]; exact ha.below hbl
 ·exact rdiv_big va vb a b h hb0 la w ha hb
end Go.Proofs.YtahfcciihkkegaaGreatDoor.Rx
namespace Go.Proofs.YtahfcciihkkegaaGreatDoor.Rx
open Go.RowKit
attribute [local irreducible] tv dg cmpI txt decB nb isq
theorem Sl.inj {w : World} {v : Value} {l m : List Nat} (h : Sl w v l) (k : Sl w v m) : l = m := by
 rcases h with ⟨ao, c, e1, rfl, -⟩ | ⟨a, c, e1, -, h3⟩
 ·rcases k with ⟨_, _, _, rfl, -⟩ | ⟨a', c', e2, -, -⟩
  ·rfl
  ·rw [e1] at e2
   injection e2 with _ e3 _
   exact (List.eq_nil_of_length_eq_zero e3.symm).symm
 ·rcases k with ⟨_, _, e2, rfl, -⟩ | ⟨a', c', e2, -, k3⟩
  ·rw [e1] at e2
   injection e2 with _ e3 _
   exact List.eq_nil_of_length_eq_zero e3
  ·rw [e1] at e2
   injection e2 with e4 e3 _
   injection e4 with e4
   subst e4
   refine List.ext_getElem e3 fun i h1 h2 => ?_
   have := (h3.cell i h1).symm.trans (k3.cell i h2)
   injection this with this
   injection this with _ this
   exact Int.ofNat.inj this
theorem Rn.inj {w : World} {v : Value} {x y : Nat} (h : Rn w v x) (k : Rn w v y) : x = y := by
 have := congrArg tv (Sl.inj h k)
 rwa [tv_td, tv_td] at this
open Classical in
noncomputable def dec (w : World) (v : Value) : Nat := if h : ∃ y, Rn w v y then h.choose else 0
theorem dec_eq {w : World} {v : Value} {y : Nat} (h : Rn w v y) : dec w v = y := by
 unfold dec
 rw [dif_pos ⟨y, h⟩]
 exact Rn.inj (Exists.choose_spec (⟨y, h⟩ : ∃ y, Rn w v y)) h
theorem rgcd_any (va vb : Value) (a b : Nat) (la : (td a).length ≤ 1000) (lb : (td b).length ≤ 1000) (w : World) (ha : Rn w va a) (hb : Rn w vb b) :
  Calls Tryz.prog 118 #[va, vb] w fun e w' => ∃ v, e = .returned v ∧ Rn w' v (Nat.gcd a b) ∧ Below w.heap.size w w' := by
 replace ha := Lib.hid ha
 replace hb := Lib.hid hb
 go_enter Tryz.func118, Tryz.ntmps118
 go_wp2_with fail
 go_loopw [0, 1] (fun av bv wr => ∃ (x y : Nat), Rn wr av x ∧ Rn wr bv y ∧ Nat.gcd x y = Nat.gcd a b ∧ (td x).length ≤ 1000 ∧ (td y).length ≤ 1000 ∧ Below w.heap.size w wr) (fun _ bv wr => dec wr bv)
 case atStart => exact ⟨a, b, ha.out, hb.out, rfl, la, lb, Below.refl _ _⟩
 case round =>
  obtain ⟨x, y, hx, hy, hg, lx, ly, hbl⟩ := hrel
  clear ha hb
  have hm := Lib.hid (dec_eq hy)
  obtain ⟨yo, yc, ey⟩ := hy.form
  obtain ⟨xo, xc, ex⟩ := hx.form
  subst ey ex
  obtain ⟨M, hM⟩ : ∃ M, M = (td y).length := ⟨_, rfl⟩
  rcases Nat.eq_zero_or_pos y with h0 | h0
  ·have hM0 : M = 0 := by rw [hM, h0, td_zero]; rfl
   have hgx : x = Nat.gcd a b := by rw [← hg, h0, Nat.gcd_zero_right]
   rw [← hM, hM0]
   rw [hgx] at hx
   rw [hgx]
   replace hx := Lib.hid hx
   clear hy hm hM hM0 hg hgx
   go_wp2_with fail
   go_ret
   exact ⟨_, rfl, hx.out, hbl⟩
  ·have D := Lib.hid (rdiv_any _ _ x y h0 lx ly wr hx hy)
   rw [← hM] at hy ly D hm ⊢
   have hMp : (0 : Int) < (M : Int) := by
    have : M ≠ 0 := fun h => by
     have := td_nil.1 (List.eq_nil_of_length_eq_zero (hM.symm.trans h))
     omega
    omega
   replace hy := Lib.hid hy
   replace hM := Lib.hid hM
   clear hx
   generalize (td x).length = N at *
   go_wp2_with fail
   with_reducible refine Calls.mono D.out ?_
   rintro e w1 ⟨v1, v2, rfl, h1, h2, hb1⟩
   replace h2 := Lib.hid h2
   clear h1
   have hyb := Lib.hid (hy.out.below hb1)
   have hD := hbl.trans (hb1.mono hbl.size)
   go_wp2_with fail
   go_roundw
   case rel => exact ⟨y, x % y, hyb.out, h2.out, (by rw [← hg, Nat.gcd_comm x y, Nat.gcd_rec y x, Nat.gcd_comm]), (by rw [← hM.out]; exact ly), Nat.le_trans (td_mono (Nat.le_of_lt (Nat.mod_lt x h0))) (by rw [← hM.out]; exact ly), hD⟩
   case measure => rw [dec_eq h2.out, hm.out]; exact Nat.mod_lt x h0
end Go.Proofs.YtahfcciihkkegaaGreatDoor.Rx
namespace Go.Proofs.YtahfcciihkkegaaGreatDoor
open Go.RowKit Go.Proofs.YtahfcciihkkegaaGreatDoor.Rx
attribute [local irreducible] lo hs sm s64 c64 d64 b64 mh ml pd pc qd qc val hiB str cmpI srD lz nb isq decB zl zh zs dval
theorem td_of_digs {n k : Nat} (h : (digs n).length ≤ k) : (td n).length ≤ 5 * k := by
 rw [td_length, Nat.pow_mul]
 refine Nat.lt_of_lt_of_le (digs_length_iff.1 h) (Nat.pow_le_pow_left ?_ k)
 unfold Bs; omega
theorem Sz.tn {q : Rat} {k : Nat} (h : Sz q k) : (td q.num.natAbs).length ≤ 5 * k := td_of_digs h.1
theorem Sz.tdn {q : Rat} {k : Nat} (h : Sz q k) : (td q.den).length ≤ 5 * k := td_of_digs h.2
theorem Sz.tf {q : Rat} {k : Nat} (h : Sz q k) : (td (fd q)).length ≤ 5 * k := Nat.le_trans (td_mono (Nat.sub_le _ _)) h.tdn
theorem fd_succ (q : Rat) : fd q + 1 = q.den := by have := q.den_nz; unfold fd; omega
theorem td_one : (td 1).length ≤ 1 := by rw [td_length]; omega
theorem one_r (w : World) : Calls Tryz.prog 80 #[.int .u64 1] w fun e w' => ∃ v, e = .returned v ∧ Rn w' v 1 ∧ Below w.heap.size w w' := rof_val 1 1 rfl (by omega) w
theorem rone (w : World) : Calls Tryz.prog 120 #[] w fun e w' => ∃ v, e = .returned v ∧ Rn w' v 1 ∧ Below w.heap.size w w' := rone_w one_r w
/-- From, of a sign and a size. -/
theorem rz_from (b : Bool) (n : Nat) (z : Int) (hb : (b && decide (n ≠ 0)) = decide (z < 0)) (hn : n = z.natAbs) (v : Value) (w : World) (h : Rn w v n) :
  Calls Tryz.prog 117 #[.bool b, v] w fun e w' => ∃ v, e = .returned v ∧ RZ w' v z ∧ Below w.heap.size w w' :=
 (rfrom_any b v n w h).mono fun e w' ⟨h1, h2⟩ => ⟨_, h1, RZ.of (Sl.below h h2) hb hn, h2⟩
theorem rden (q : Rat) {k : Nat} (hq : Sz q k) (hk : k ≤ 1000) (v : Value) (w : World) (h : RF w v q) :
  Calls Tryz.prog 77 #[v] w fun e w' => ∃ v, e = .returned v ∧ Rn w' v q.den ∧ Below w.heap.size w w' :=
 rfden_w q q.den rone (fun v1 v2 w h1 h2 => by rw [← fd_succ q]; exact radd_any v1 v2 _ 1 (Nat.le_trans hq.tf (by omega)) (Nat.le_trans td_one (by omega)) w h1 h2) v w h
theorem rzden (q : Rat) {k : Nat} (hq : Sz q k) (hk : k ≤ 1000) (v : Value) (w : World) (h : RF w v q) :
  Calls Tryz.prog 134 #[v] w fun e w' => ∃ v, e = .returned v ∧ RZ w' v (q.den : Int) ∧ Below w.heap.size w w' :=
 rfzden_w q q.den q.den (rden q hq hk) (rz_from false _ _ (by simp) (by simp)) v w h
theorem rfrom (z : Int) (d : Nat) (h0 : d ≠ 0) (lz : (Rx.td z.natAbs).length ≤ 1000) (ld : (Rx.td d).length ≤ 1000) (v1 v2 : Value) (w : World) (h1 : RZ w v1 z) (h2 : Rn w v2 d) :
  Calls Tryz.prog 58 #[v1, v2] w fun e w' => ∃ v, e = .returned v ∧ RF w' v (mkRat z d) ∧ Below w.heap.size w w' := by
 obtain ⟨c1, c2⟩ := canc (z := z) h0
 have hg : 0 < Nat.gcd z.natAbs d := Nat.gcd_pos_of_pos_right _ (by omega)
 have hgl : (Rx.td (Nat.gcd z.natAbs d)).length ≤ 1000 := Nat.le_trans (td_mono (Nat.gcd_le_right _ (by omega))) ld
 have e1 : d / Nat.gcd z.natAbs d = (mkRat z d).den := c2.symm
 have e2 : (mkRat z d).num.natAbs = z.natAbs / Nat.gcd z.natAbs d := by rw [c1, Int.natAbs_tdiv]; rfl
 have e3 : (zs z && decide (z.natAbs / Nat.gcd z.natAbs d ≠ 0)) = decide ((mkRat z d).num < 0) := by
  rw [c1, tdiv_sgn]
  generalize z.natAbs / Nat.gcd z.natAbs d = x
  unfold zs
  by_cases h : z < 0 <;> by_cases h' : x = 0 <;> simp [h, h'] <;> omega
 exact rffrom_w z d (Nat.gcd z.natAbs d) (z.natAbs / Nat.gcd z.natAbs d) (z.natAbs % Nat.gcd z.natAbs d) (d / Nat.gcd z.natAbs d) (d % Nat.gcd z.natAbs d) (mkRat z d)
  (fun a b w ha hb => rgcd_any a b _ _ lz ld w ha hb) (fun a b w ha hb => rdiv_any a b _ _ hg lz hgl w ha hb) (fun a b w ha hb => rdiv_any a b _ _ hg ld hgl w ha hb)
  (fun a w ha => rz_from _ _ _ e3 e2.symm a w ha) rone
  (fun a b w ha hb => by
   have h3 := (mkRat z d).den_nz
   have := rsub_any a b _ 1 (by rw [e1]; exact Nat.le_trans (td_mono (by rw [c2]; exact Nat.div_le_self _ _)) (Nat.le_trans ld (by omega))) (by omega) w ha hb
   rw [e1] at this
   exact this) v1 v2 w h1 h2
theorem fd_neg (q : Rat) : fd (-q) = fd q := rfl
theorem rneg (q : Rat) (v : Value) (w : World) (h : RF w v q) : Calls Tryz.prog 73 #[v] w fun e w' => ∃ v, e = .returned v ∧ RF w' v (-q) ∧ Below w.heap.size w w' :=
 rfneg_w q (-q) (fun a w ha => rznegI a _ w ha) (fd_neg q) v w h
theorem rzsignI (z : Int) (v : Value) (w : World) (h : RZ w v z) : Calls Tryz.prog 116 #[v] w fun e w' => e = .returned (.int .i64 (sgn z)) ∧ Below w.heap.size w w' := by
 obtain ⟨ao, c, rfl⟩ := rz_form h
 unfold sgn
 by_cases h0 : z < 0
 ·rw [if_pos h0, show zs z = true from by unfold zs; exact decide_eq_true h0]
  exact rzsign_neg ao _ c (Nat.pos_of_ne_zero fun e => by have := (td_len_zero _).1 e; omega) w
 ·rw [if_neg h0, show zs z = false from by unfold zs; exact decide_eq_false h0]
  by_cases h1 : z = 0
  ·rw [if_pos h1]
   exact rzsign_zero false ao _ c ((td_len_zero _).2 (by omega)) w
  ·rw [if_neg h1]
   exact rzsign_pos ao _ c (Nat.pos_of_ne_zero fun e => by have := (td_len_zero _).1 e; omega) w
theorem rsign (q : Rat) (v : Value) (w : World) (h : RF w v q) : Calls Tryz.prog 72 #[v] w fun e w' => e = .returned (.int .i64 (sgnQ q)) ∧ Below w.heap.size w w' := by
 rw [sgnQ_num]; exact rfsign_w q _ (rzsignI q.num) v w h
theorem mk_add (p q : Rat) : mkRat (p.num * q.den + q.num * p.den) (p.den * q.den) = p + q := (Rat.add_def' p q).symm
theorem mk_mul (p q : Rat) : mkRat (p.num * q.num) (p.den * q.den) = p * q := (Rat.mul_def' p q).symm
theorem radd (p q : Rat) {k : Nat} (hp : Sz p k) (hq : Sz q k) (hk : k ≤ 90) (v1 v2 : Value) (w : World) (h1 : RF w v1 p) (h2 : RF w v2 q) :
  Calls Tryz.prog 70 #[v1, v2] w fun e w' => ∃ v, e = .returned v ∧ RF w' v (p + q) ∧ Below w.heap.size w w' := by
 have a1 := hp.tn; have a2 := hq.tn; have a3 := hp.tdn; have a4 := hq.tdn
 have t1 := td_mul_le a1 a4; have t2 := td_mul_le a2 a3; have t3 := td_mul_le a3 a4
 rw [← mk_add]
 have g1 : (Rx.td (p.num * (q.den : Int)).natAbs).length ≤ 5 * k + 5 * k := by rw [Int.natAbs_mul, Int.natAbs_natCast]; exact t1
 have g2 : (Rx.td (q.num * (p.den : Int)).natAbs).length ≤ 5 * k + 5 * k := by rw [Int.natAbs_mul, Int.natAbs_natCast]; exact t2
 have g3 := Nat.le_trans (td_mono (Int.natAbs_add_le _ _)) (td_add_le g1 g2)
 exact rfadd_w p q _ p.den q.den (p.num * q.den) (q.num * p.den) (p.num * q.den + q.num * p.den) p.den q.den (p.den * q.den) (rzden p hp (by omega)) (rzden q hq (by omega))
  (fun a b w ha hb => rzmulI a b _ _ (by omega) (by rw [Int.natAbs_natCast]; omega) w ha hb) (fun a b w ha hb => rzmulI a b _ _ (by omega) (by rw [Int.natAbs_natCast]; omega) w ha hb)
  (fun a b w ha hb => rzaddI a b _ _ (by omega) (by omega) w ha hb) (rden p hp (by omega)) (rden q hq (by omega)) (fun a b w ha hb => rmul_any a b _ _ (by omega) (by omega) w ha hb)
  (rfrom _ _ (Nat.mul_ne_zero p.den_nz q.den_nz) (by omega) (by omega)) v1 v2 w h1 h2
theorem rmul (p q : Rat) {k : Nat} (hp : Sz p k) (hq : Sz q k) (hk : k ≤ 90) (v1 v2 : Value) (w : World) (h1 : RF w v1 p) (h2 : RF w v2 q) :
  Calls Tryz.prog 71 #[v1, v2] w fun e w' => ∃ v, e = .returned v ∧ RF w' v (p * q) ∧ Below w.heap.size w w' := by
 have a1 := hp.tn; have a2 := hq.tn; have a3 := hp.tdn; have a4 := hq.tdn
 have t1 := td_mul_le a1 a2; have t3 := td_mul_le a3 a4
 have g1 : (Rx.td (p.num * q.num).natAbs).length ≤ 5 * k + 5 * k := by rw [Int.natAbs_mul]; exact t1
 rw [← mk_mul]
 exact rfmul_w p q _ (p.num * q.num) p.den q.den (p.den * q.den) (fun a b w ha hb => rzmulI a b _ _ (by omega) (by omega) w ha hb) (rden p hp (by omega)) (rden q hq (by omega)) (fun a b w ha hb => rmul_any a b _ _ (by omega) (by omega) w ha hb)
  (rfrom _ _ (Nat.mul_ne_zero p.den_nz q.den_nz) (by omega) (by omega)) v1 v2 w h1 h2
theorem mk_inv {q : Rat} (h : q ≠ 0) : mkRat (if q.num < 0 then -(q.den : Int) else (q.den : Int)) q.num.natAbs = q⁻¹ := by
 obtain ⟨h1, h2⟩ := rinv_parts h
 rw [← h1, ← h2, Rat.mkRat_self]
theorem rdivF (p q : Rat) {k : Nat} (hp : Sz p k) (hq : Sz q k) (h0 : q ≠ 0) (hk : k ≤ 90) (v1 v2 : Value) (w : World) (h1 : RF w v1 p) (h2 : RF w v2 q) :
  Calls Tryz.prog 55 #[v1, v2] w fun e w' => ∃ v, e = .returned v ∧ RF w' v (p / q) ∧ Below w.heap.size w w' := by
 have a2 := hq.tn; have a4 := hq.tdn
 have hn : q.num ≠ 0 := fun e => h0 (Rat.num_eq_zero.1 e)
 have hd := q.den_nz
 have hs : (sgnQ q == 0) = false := beq_eq_false_iff_ne.2 (by rw [sgnQ_num]; split <;> (try split) <;> omega)
 rw [Rat.div_def]
 have e : (zs q.num && decide (q.den ≠ 0)) = decide ((if q.num < 0 then -(q.den : Int) else (q.den : Int)) < 0) := by
  unfold zs
  by_cases h : q.num < 0 <;> simp [h, hd] <;> omega
 have e2 : q.den = (if q.num < 0 then -(q.den : Int) else (q.den : Int)).natAbs := by split <;> simp
 have hf := rfrom (if q.num < 0 then -(q.den : Int) else (q.den : Int)) q.num.natAbs (by omega) (by rw [← e2]; omega) (by omega)
 rw [mk_inv h0] at hf
 exact rfdiv_w p q q⁻¹ _ _ _ q.den (rsign q) (rden q hq (by omega)) (rz_from _ _ _ e e2) hf (rmul p q⁻¹ hp (hq.inv h0) hk) hs v1 v2 w h1 h2
end Go.Proofs.YtahfcciihkkegaaGreatDoor
namespace Go.Proofs.YtahfcciihkkegaaGreatDoor
open Go.RowKit
attribute [local irreducible] lo hs sm s64 c64 d64 b64 mh ml pd pc qd qc val hiB str cmpI srD lz nb isq decB zl zh zs
theorem sgnQ_eq0 {q : Rat} : (sgnQ q == 0) = decide (q = 0) := by
 unfold sgnQ
 by_cases h : q < 0
 ·rw [if_pos h, decide_eq_false (p := q = 0) (by grind)]; rfl
 ·rw [if_neg h]
  by_cases h' : q = 0
  ·rw [if_pos h', decide_eq_true h']; rfl
  ·rw [if_neg h', decide_eq_false h']; rfl
end Go.Proofs.YtahfcciihkkegaaGreatDoor
namespace Go.Proofs.YtahfcciihkkegaaGreatDoor
open Go.RowKit Go.Proofs.YtahfcciihkkegaaGreatDoor.Rx
attribute [local irreducible] lo hs sm s64 c64 d64 b64 mh ml pd pc qd qc val hiB str cmpI srD lz nb isq decB zl zh zs dval tln fd qtxt
theorem fsame_w (p q : Rat) (t : ByteArray) (K : World → Prop) (hK : Keeps K) (HT : RK K 35 #[fracV p] (.string t)) (HU : ∀ (p0 : Value) (w : World), RF w p0 q → Calls Tryz.prog 63 #[p0] w fun e w' => e = .returned (.string t) ∧ Below w.heap.size w w') (p1 : Value) (w : World) (kK : K w) (r1 : RF w p1 q) :
  Calls Tryz.prog 18 #[fracV p, p1] w fun e w' => e = .returned (.bool true) ∧ Below w.heap.size w w' := by
 obtain ⟨xa1, xc1, xb1, xd1, rfl⟩ := rf_form r1
 have xf1 := Lib.hid (rf_rn1 r1)
 have xk1 := Lib.hid (rf_rn2 r1)
 clear r1
 replace hK := Lib.hid hK
 replace HT := Lib.hid HT
 replace HU := Lib.hid HU
 have hL0 : GL w w [] := GL.start w
 have hS : SS w [] := SS.nil w
 obtain ⟨x1, hweq, hL0, hS⟩ := GL.named2 ((hL0.new rfl [.int .u64 ((zl p.num : Nat) : Int), .string (zh p.num), .bool (zs p.num), .int .u64 ((lo (fe p) : Nat) : Int), .string (hs (fe p))] 34).new (K := w.heap.size + 1) (szA _ _) [.bool (zs q.num), .slice xa1 (tln q.num.natAbs) xc1, .slice xb1 (tln (fd q)) xd1] 46) ((hS.new (.cells #[.int .u64 ((zl p.num : Nat) : Int), .string (zh p.num), .bool (zs p.num), .int .u64 ((lo (fe p) : Nat) : Int), .string (hs (fe p))] 34)).new (.cells #[.bool (zs q.num), .slice xa1 (tln q.num.natAbs) xc1, .slice xb1 (tln (fd q)) xd1] 46))
 go_enter Tryz.func18, Tryz.ntmps18
 go_upto_region 1 with fail
 clear hweq
 refine region_tl 6 [EV (fracV p), EV (.string t), EV (.agg #[.bool (zs q.num), .slice xa1 (tln q.num.natAbs) xc1, .slice xb1 (tln (fd q)) xd1]), EV (.string t), EV (.bool true), EV (.bool true)] (by kernel_rfl) (by kernel_rfl) ?_ ?_ ?_
 ·repeat' first | exact stays_nil | apply stays_cons | exact stays_eq _
 ·simp only [List.take_succ_cons, List.take_zero, hopsR, and_true]
  refine ⟨?_, ?_, ?_, ?_, ?_, ?_⟩ <;> intro fv w1 hb1 hp
  all_goals (have hc := (hL0.call (below_drew hb1)).fc; simp only [zF, Nat.reduceAdd] at hc; simp only [putsV, Act.put, zP, Nat.zero_add, Nat.reduceAdd])
  ·refine tyAt_none rfl ?_
   simp [tyUpon, execOp, go_sem, Act.eval, hc, Below.refl]
  ·have h0 : EV _ (fv 0) w1 := hp 0 (LC (by kernel_rfl))
   refine tyAt_none rfl ?_
   refine ty_call (f := 35) (args := #[fracV p]) (by simp [execOp, go_sem, Act.eval, h0]) ?_
   exact (HT.out w1 (hK.out.at ((hL0.call (below_drew hb1)).bl) kK)).mono fun e w2 ⟨h1, h2⟩ => ⟨_, h1, rfl, h2⟩
  ·refine tyAt_none rfl ?_
   simp [tyUpon, execOp, go_sem, Act.eval, hc, Below.refl]
  ·have h2 : EV _ (fv 2) w1 := hp 2 (LC (by kernel_rfl))
   refine tyAt_none rfl ?_
   refine ty_call (f := 63) (args := #[.agg #[.bool (zs q.num), .slice xa1 (tln q.num.natAbs) xc1, .slice xb1 (tln (fd q)) xd1]]) (by simp [execOp, go_sem, Act.eval, h2]) ?_
   exact (HU.out (.agg #[.bool (zs q.num), .slice xa1 (tln q.num.natAbs) xc1, .slice xb1 (tln (fd q)) xd1]) w1 (rf_of (Sl.below (Sl.below xf1.out hL0.bl) (below_drew hb1)) (Sl.below (Sl.below xk1.out hL0.bl) (below_drew hb1)))).mono fun e w2 ⟨h1, h2⟩ => ⟨_, h1, rfl, h2⟩
  ·have h1 : EV _ (fv 1) w1 := hp 1 (LC (by kernel_rfl))
   have h3 : EV _ (fv 3) w1 := hp 3 (LC (by kernel_rfl))
   refine tyAt_none rfl ?_
   simp [tyUpon, execOp, go_sem, Act.eval, h1, h3, Below.refl]
  ·have h4 : EV _ (fv 4) w1 := hp 4 (LC (by kernel_rfl))
   refine tyAt_none rfl ?_
   simp [tyUpon, execOp, go_sem, Act.eval, h4, Below.refl]
 ·intro fv x2 hb1 hv
  have e0 : fv 0 = _ := hv 0 (by omega)
  have e1 : fv 1 = _ := hv 1 (by omega)
  have e2 : fv 2 = _ := hv 2 (by omega)
  have e3 : fv 3 = _ := hv 3 (by omega)
  have e4 : fv 4 = _ := hv 4 (by omega)
  have e5 : fv 5 = _ := hv 5 (by omega)
  simp only [List.take_succ_cons, List.take_zero, putsV, Act.put, zP, List.drop_succ_cons, List.drop_zero, Nat.zero_add, Nat.reduceAdd, e0, e1, e2, e3, e4, e5]
  replace hL0 := hL0.call (below_drew hb1)
  replace hS := hS.call (below_drew hb1)
  clear e0 e1 e2 e3 e4 e5 hb1 hv fv
  go_wp2_with fail
  exact bodyPost_ret (v := .bool true) (by simp [results, Tryz.results18, go_sem]) rfl ⟨rfl, hL0.bl⟩
end Go.Proofs.YtahfcciihkkegaaGreatDoor
namespace Go.Proofs.YtahfcciihkkegaaGreatDoor
open Go.RowKit Go.Proofs.YtahfcciihkkegaaGreatDoor.Rx
attribute [local irreducible] lo hs sm s64 c64 d64 b64 mh ml pd pc qd qc val hiB str cmpI srD lz nb isq decB zl zh dval txt
theorem rztextI (z : Int) (lz : (Rx.td z.natAbs).length ≤ 1000000) (v : Value) (w : World) (h : RZ w v z) : Calls Tryz.prog 124 #[v] w fun e w' => e = .returned (.string (ztxt z)) ∧ Below w.heap.size w w' := by
 obtain ⟨a, rfl, ha⟩ := h
 unfold ztxt
 by_cases h0 : z < 0
 ·rw [if_pos h0, decide_eq_true h0]; exact rztext_true a _ lz w ha
 ·rw [if_neg h0, decide_eq_false h0]; exact rztext_false a _ lz w ha
theorem txt_sizeR {n k : Nat} (h : (digs n).length ≤ k) (hk : k ≤ 100) : (txt n).size ≤ 2000 := Nat.le_trans (txt_small (k := 100) (by omega) (by omega)) (by omega)
theorem ztxt_size {z : Int} {k : Nat} (h : dI z ≤ k) (hk : k ≤ 100) : (ztxt z).size ≤ 2001 := by
 have := txt_sizeR (n := z.natAbs) h hk
 unfold ztxt
 split
 ·rw [ByteArray.size_append]; have : (ByteArray.mk #[45]).size = 1 := rfl; omega
 ·omega
theorem rtextF (q : Rat) {k : Nat} (hq : Sz q k) (hk : k ≤ 100) (v : Value) (w : World) (h : RF w v q) : Calls Tryz.prog 63 #[v] w fun e w' => e = .returned (.string (qtxt q)) ∧ Below w.heap.size w w' := by
 have a2 := hq.tn; have a4 := hq.tdn
 have hd := q.den_nz
 have hz : tln (fd q) = 0 ↔ q.den = 1 := by unfold tln fd; rw [td_len_zero]; omega
 unfold qtxt
 by_cases h1 : q.den = 1
 ·rw [if_pos h1]
  exact rftext_whole q _ (rztextI q.num (by omega)) (by rw [hz.2 h1]; rfl) (decide_eq_true (hz.2 h1)) v w h
 ·rw [if_neg h1]
  have h2 : ¬ tln (fd q) = 0 := mt hz.1 h1
  have s1 := ztxt_size hq.1 hk
  have s2 := txt_sizeR hq.2 hk
  exact rftext_frac q _ _ q.den (rztextI q.num (by omega)) (rden q hq (by omega)) (fun a w ha => rtext_any a _ (by omega) w ha) (beq_eq_false_iff_ne.2 (by omega)) (decide_eq_false h2) (by omega) (by omega) v w h
theorem sameF (q : Rat) {k : Nat} (hq : Sz q k) (hk : k ≤ 100) (v : Value) (w : World) (htab : Tab w) (h : RF w v q) :
  Calls Tryz.prog 18 #[fracV q, v] w fun e w' => e = .returned (.bool true) ∧ Below w.heap.size w w' :=
 fsame_w q q (qtxt q) Tab Keeps.tab (fun w ht => textF q k hq (by omega) w ht) (rtextF q hq hk) v w htab h
end Go.Proofs.YtahfcciihkkegaaGreatDoor
namespace Go.Proofs.YtahfcciihkkegaaGreatDoor
open Go.RowKit Go.Proofs.YtahfcciihkkegaaGreatDoor.Rx
attribute [local irreducible] lo hs sm s64 c64 d64 b64 mh ml pd pc qd qc val hiB str cmpI srD lz nb isq decB zl zh zs dval tln ztxt txt fd fe
theorem dreads_big (s : ByteArray) (n : Nat) (HP : RT 19 #[.string s] (.tuple #[.agg #[.int .u64 0, .string ⟨#[]⟩, .bool false, .int .u64 0, .string ⟨#[]⟩], .int .i64 3])) (KT : World → Prop) (hKT : Keeps KT) (HW : RK KT 11 #[] (.bool true)) (hsz : s.size = n) (a1 : decide ((4096 : Int) < (n : Int)) = true) (a2 : decide (4096 < n) = true) (w : World) (kKT : KT w) :
  Calls Tryz.prog 4 #[.string s] w fun e w' => e = .returned (.bool true) ∧ Below w.heap.size w w' := by
 replace HP := Lib.hid HP
 replace hKT := Lib.hid hKT
 replace HW := Lib.hid HW
 have hL0 : GL w w [] := GL.start w
 have hS : SS w [] := SS.nil w
 go_enter Tryz.func4, Tryz.ntmps4
 go_wp2_with fail
 with_reducible refine Calls.mono (HP.out _) ?_
 rintro e x1 ⟨rfl, hb⟩
 replace hL0 := hL0.call hb
 replace hS := hS.call hb
 clear hb
 obtain ⟨x2, hweq, hL0, hS⟩ := GL.named2 (hL0.new rfl [.int .u64 0, .string ⟨#[]⟩, .bool false, .int .u64 0, .string ⟨#[]⟩] 34) (hS.new (.cells #[.int .u64 0, .string ⟨#[]⟩, .bool false, .int .u64 0, .string ⟨#[]⟩] 34))
 have hS1 := hS.put ((((((Upd.refl x1.heap.size x2).setCell 0 (.int .u64 0)).setCell 1 (.string ⟨#[]⟩)).setCell 2 (.bool false)).setCell 3 (.int .u64 0)).setCell 4 (.string ⟨#[]⟩)) (hL0.get _ _ mZ) (by intro v hv n; simp only [List.mem_cons, List.not_mem_nil, or_false] at hv; rcases hv with rfl | rfl | rfl | rfl | rfl <;> simp)
 have hA := hL0.fc
 simp only [zF, Nat.reduceAdd] at hA
 have hP := hL0.put 0 (x1.heap.size) _ rfl [.int .u64 0, .string ⟨#[]⟩, .bool false, .int .u64 0, .string ⟨#[]⟩] rfl
 simp only [setAll, List.set_cons_zero, List.set_cons_succ] at hP
 generalize hput1 : (((((x2.setCell ⟨x1.heap.size, 0, none⟩ (.int .u64 0)).setCell ⟨x1.heap.size, 1, none⟩ (.string ⟨#[]⟩)).setCell ⟨x1.heap.size, 2, none⟩ (.bool false)).setCell ⟨x1.heap.size, 3, none⟩ (.int .u64 0)).setCell ⟨x1.heap.size, 4, none⟩ (.string ⟨#[]⟩)) = x3 at hP hS1
 have hB1 := hP.fc
 simp only [zF, Nat.reduceAdd] at hB1
 replace hL0 := hP
 replace hS := hS1
 clear hS1
 go_wp2_with fail
 clear hA
 with_reducible refine Calls.mono (HW.out _ (hKT.out.at (hL0.bl) kKT)) ?_
 rintro e x4 ⟨rfl, hb⟩
 replace hL0 := hL0.call hb
 replace hS := hS.call hb
 clear hb hweq hput1 hB1
 go_wp2_with fail
 exact bodyPost_ret (v := .bool true) (by simp [results, Tryz.results4, go_sem]) rfl ⟨rfl, hL0.bl⟩
theorem dreads_mid (s : ByteArray) (n : Nat) (KT : World → Prop) (hKT : Keeps KT) (HW : RK KT 11 #[] (.bool true)) (hsz : s.size = n) (a1 : decide ((4096 : Int) < (n : Int)) = false) (a2 : decide (4096 < n) = false) (b1 : decide ((100 : Int) < (n : Int)) = true) (b2 : decide (100 < n) = true) (w : World) (kKT : KT w) :
  Calls Tryz.prog 4 #[.string s] w fun e w' => e = .returned (.bool true) ∧ Below w.heap.size w w' := by
 replace hKT := Lib.hid hKT
 replace HW := Lib.hid HW
 have hL0 : GL w w [] := GL.start w
 have hS : SS w [] := SS.nil w
 go_enter Tryz.func4, Tryz.ntmps4
 go_wp2_with fail
 with_reducible refine Calls.mono (HW.out _ (hKT.out.at (hL0.bl) kKT)) ?_
 rintro e x1 ⟨rfl, hb⟩
 replace hL0 := hL0.call hb
 replace hS := hS.call hb
 clear hb
 go_wp2_with fail
 exact bodyPost_ret (v := .bool true) (by simp [results, Tryz.results4, go_sem]) rfl ⟨rfl, hL0.bl⟩
theorem dreads_small (s : ByteArray) (n : Nat) (q : Rat) (c : Int) (KT : World → Prop) (hKT : Keeps KT) (HP : RK KT 19 #[.string s] (.tuple #[fracV q, .int .i64 c])) (HR : ∀ (w : World), Calls Tryz.prog 20 #[.string s] w fun e w' => ∃ pv, e = .returned (.tuple #[pv, .int .i64 c]) ∧ RF w' pv q ∧ Below w.heap.size w w') (HS : ∀ (p1 : Value) (w : World), KT w → RF w p1 q → Calls Tryz.prog 18 #[fracV q, p1] w fun e w' => e = .returned (.bool true) ∧ Below w.heap.size w w') (HW : RK KT 11 #[] (.bool true)) (hsz : s.size = n) (a1 : decide ((4096 : Int) < (n : Int)) = false) (a2 : decide (4096 < n) = false) (b1 : decide ((100 : Int) < (n : Int)) = false) (b2 : decide (100 < n) = false) (w : World) (kKT : KT w) :
  Calls Tryz.prog 4 #[.string s] w fun e w' => e = .returned (.bool true) ∧ Below w.heap.size w w' := by
 replace hKT := Lib.hid hKT
 replace HP := Lib.hid HP
 replace HR := Lib.hid HR
 replace HS := Lib.hid HS
 replace HW := Lib.hid HW
 have hL0 : GL w w [] := GL.start w
 have hS : SS w [] := SS.nil w
 go_enter Tryz.func4, Tryz.ntmps4
 go_wp2_with fail
 with_reducible refine Calls.mono (HP.out _ (hKT.out.at (hL0.bl) kKT)) ?_
 rintro e x1 ⟨rfl, hb⟩
 replace hL0 := hL0.call hb
 replace hS := hS.call hb
 clear hb
 obtain ⟨x2, hweq, hL0, hS⟩ := GL.named2 (hL0.new rfl [.int .u64 ((zl q.num : Nat) : Int), .string (zh q.num), .bool (zs q.num), .int .u64 ((lo (fe q) : Nat) : Int), .string (hs (fe q))] 34) (hS.new (.cells #[.int .u64 ((zl q.num : Nat) : Int), .string (zh q.num), .bool (zs q.num), .int .u64 ((lo (fe q) : Nat) : Int), .string (hs (fe q))] 34))
 go_wp2_with fail
 with_reducible refine Calls.mono (HR.out _) ?_
 rintro e x3 ⟨v0, rfl, q0, hb⟩
 replace hL0 := hL0.call hb
 replace hS := hS.call hb
 clear hb hweq
 obtain ⟨g1, d1, g2, d2, rfl⟩ := rf_form q0
 replace hS := hS.cons (rf_rn1 q0)
 replace hS := hS.cons (rf_rn2 q0)
 clear q0
 obtain ⟨x4, hweq, hL0, hS⟩ := GL.named2 (hL0.new rfl [.bool (zs q.num), .slice g1 (tln q.num.natAbs) d1, .slice g2 (tln (fd q)) d2] 46) (hS.new (.cells #[.bool (zs q.num), .slice g1 (tln q.num.natAbs) d1, .slice g2 (tln (fd q)) d2] 46))
 have hN0 := cells_of _ 0 [] rfl (hL0.get _ _ mZ)
 simp only [zF, Nat.reduceAdd] at hN0
 have hN1 := cells_of _ 0 [] rfl (hL0.get _ _ (mK mZ))
 simp only [zF, Nat.reduceAdd] at hN1
 go_wp2_with fail
 clear hN0 hN1
 with_reducible refine Calls.mono (HS.out (.agg #[.bool (zs q.num), .slice g1 (tln q.num.natAbs) d1, .slice g2 (tln (fd q)) d2]) _ (hKT.out.at (hL0.bl) kKT) (rf_of (hS.get (mK mZ)) (hS.get mZ))) ?_
 rintro e x5 ⟨rfl, hb⟩
 replace hL0 := hL0.call hb
 replace hS := hS.call hb
 clear hb hweq
 go_wp2_with fail
 with_reducible refine Calls.mono (HW.out _ (hKT.out.at (hL0.bl) kKT)) ?_
 rintro e x6 ⟨rfl, hb⟩
 replace hL0 := hL0.call hb
 replace hS := hS.call hb
 clear hb
 go_wp2_with fail
 exact bodyPost_ret (v := .bool true) (by simp [results, Tryz.results4, go_sem]) rfl ⟨rfl, hL0.bl⟩
end Go.Proofs.YtahfcciihkkegaaGreatDoor
namespace Go.Proofs.YtahfcciihkkegaaGreatDoor
open Go.RowKit Go.Proofs.YtahfcciihkkegaaGreatDoor.Rx
attribute [local irreducible] lo hs sm s64 c64 d64 b64 mh ml pd pc qd qc val hiB str cmpI srD lz nb isq decB zl zh zs dval tln fd
theorem rps_pA (s : ByteArray) (L ea : Nat) (c00 c0 c9 : UInt8) (va : Nat → Rat) (zq tn q1 : Rat) (HZ : ∀ (w : World), Calls Tryz.prog 57 #[.int .i64 0] w fun e w' => ∃ pv, e = .returned pv ∧ RF w' pv zq ∧ Below w.heap.size w w') (HT : ∀ (w : World), Calls Tryz.prog 57 #[.int .i64 10] w fun e w' => ∃ pv, e = .returned pv ∧ RF w' pv tn ∧ Below w.heap.size w w') (hsz : s.size = L) (hL1 : L ≤ 100) (d40 : decide ((4096 : Int) < (L : Int)) = false) (d41 : decide (4096 < L) = false) (hp : (0 : Int) < (L : Int)) (h00 : 0 < s.size) (hg00 : s[0]'h00 = c00) (g00 : ((c00.toNat : Int) == 45) = false) (h0 : zq = va 0) (hv1 : va ea = q1) (hbe : 0 ≤ ea) (heL : ea ≤ L) (H1 : ∀ i : Nat, 0 ≤ i → i < ea → ∃ (h : i < s.size) (c : UInt8) (k : Int) (m d : Rat), s[i]'h = c ∧ (48 : Int) ≤ (c.toNat : Int) ∧ (c.toNat : Int) ≤ 57 ∧ IntKind.u8.wrap ((c.toNat : Int) - 48) = k ∧ IntKind.i64.wrap k = k ∧ (∀ (p0 p1 : Value) (w : World), RF w p0 ((va i)) → RF w p1 tn → Calls Tryz.prog 71 #[p0, p1] w fun e w' => ∃ pv, e = .returned pv ∧ RF w' pv m ∧ Below w.heap.size w w') ∧ (∀ (w : World), Calls Tryz.prog 57 #[.int .i64 k] w fun e w' => ∃ pv, e = .returned pv ∧ RF w' pv d ∧ Below w.heap.size w w') ∧ (∀ (p0 p1 : Value) (w : World), RF w p0 m → RF w p1 d → Calls Tryz.prog 70 #[p0, p1] w fun e w' => ∃ pv, e = .returned pv ∧ RF w' pv ((va (i + 1))) ∧ Below w.heap.size w w')) (hway : ¬ (ea : Int) < (L : Int) ∨ ((ea : Int) < (L : Int) ∧ ∃ h : ea < s.size, s[ea]'h = c9 ∧ ¬ (48 : Int) ≤ (c9.toNat : Int)) ∨ ((ea : Int) < (L : Int) ∧ ∃ h : ea < s.size, s[ea]'h = c9 ∧ (48 : Int) ≤ (c9.toNat : Int) ∧ ¬ (c9.toNat : Int) ≤ 57)) (y1 : ((ea : Int) == 0) = true) (y2 : (ea == 0) = true) (w : World) :
  Calls Tryz.prog 20 #[.string s] w fun e w' => ∃ pv, e = .returned (.tuple #[pv, .int .i64 4]) ∧ RF w' pv 0 ∧ Below w.heap.size w w' := by
 replace HZ := Lib.hid HZ
 replace HT := Lib.hid HT
 have hL0 : GL w w [] := GL.start w
 have hS : SS w [] := SS.nil w
 replace h0 := Lib.hid h0
 replace hv1 := Lib.hid hv1
 replace hbe := Lib.hid hbe
 replace heL := Lib.hid heL
 replace H1 := Lib.hid H1
 replace hway := Lib.hid hway
 replace y1 := Lib.hid y1
 replace y2 := Lib.hid y2
 obtain ⟨x1, hweq, hL0, hS⟩ := GL.named2 ((hL0.new rfl [.bool false, .slice none 0 0, .slice none 0 0] 46).new (K := w.heap.size + 1) (szA _ _) [.bool false, .slice none 0 0, .slice none 0 0] 46) ((hS.new (.cells #[.bool false, .slice none 0 0, .slice none 0 0] 46)).new (.cells #[.bool false, .slice none 0 0, .slice none 0 0] 46))
 go_enter Tryz.func20, Tryz.ntmps20
 go_wp2_with fail
 with_reducible refine Calls.mono (HZ.out _) ?_
 rintro e x2 ⟨v0, rfl, q0, hb⟩
 replace hL0 := hL0.call hb
 replace hS := hS.call hb
 clear hb hweq
 obtain ⟨g1, d1, g2, d2, rfl⟩ := rf_form q0
 replace hS := hS.cons (rf_rn1 q0)
 replace hS := hS.cons (rf_rn2 q0)
 clear q0
 obtain ⟨x3, hweq, hL0, hS⟩ := GL.named2 (hL0.new rfl [.bool (zs zq.num), .slice g1 (tln zq.num.natAbs) d1, .slice g2 (tln (fd zq)) d2] 46) (hS.new (.cells #[.bool (zs zq.num), .slice g1 (tln zq.num.natAbs) d1, .slice g2 (tln (fd zq)) d2] 46))
 go_wp2_with fail
 clear hweq
 go_loopg [5] (ea - 0) (fun gk iv wr => ∃ (i : Nat) (q : Rat) (ua1 : Option Addr) (ma1 : Nat) (va1 : Option Addr) (na1 : Nat), 0 ≤ i ∧ i + gk = ea ∧ iv = .int .i64 (i : Int) ∧ q = va i ∧ GL w wr [(x2.heap.size, [.bool (zs q.num), .slice ua1 (tln q.num.natAbs) ma1, .slice va1 (tln (fd q)) na1]), (w.heap.size + 1, [.bool false, .slice none 0 0, .slice none 0 0]), (w.heap.size, [.bool false, .slice none 0 0, .slice none 0 0])] ∧ SS wr [(.slice ua1 (tln q.num.natAbs) ma1, q.num.natAbs), (.slice va1 (tln (fd q)) na1, (fd q)), (.slice g2 (tln (fd zq)) d2, (fd zq)), (.slice g1 (tln zq.num.natAbs) d1, zq.num.natAbs)])
 case atStart => exact ⟨0, _, _, _, _, _, Nat.le_refl _, by have := hbe.out; omega, by first | rfl | go_num, h0.out, hL0, ((hS).cons (hS.get mZ)).cons (hS.get (mK mZ))⟩
 case round =>
  clear hL0 hS
  obtain ⟨i, q, ua1, ma1, va1, na1, hbi, hik, rfl, hq, hL0, hS⟩ := hrel
  by_cases hin : i < ea
  ·obtain ⟨h1, c, k, m, d, hg1, dlo, dhi, w8, w6, HM1, HI1, HA1⟩ := H1.out i hbi hin
   obtain ⟨r, hr⟩ : ∃ r, r = va (i + 1) := ⟨_, rfl⟩
   rw [← hq] at HM1
   rw [← hr] at HA1
   replace HM1 := Lib.hid HM1
   replace HI1 := Lib.hid HI1
   replace HA1 := Lib.hid HA1
   replace hq := Lib.hid hq
   replace hr := Lib.hid hr
   have kl0 : (0 : Int) ≤ (i : Int) := Int.natCast_nonneg _
   have kL : i < s.size := h1
   have kl1 : (i : Int) < (L : Int) := by have := hsz; omega
   have kb : (i : Int) ≤ 1000 := by have := hL1; omega
   have kn1 : ¬ (c.toNat : Int) < 48 := by omega
   have kn2 : ¬ (57 : Int) < (c.toNat : Int) := by omega
   go_upto_region 11 with fail
   refine region_tl 10 [EV (.agg #[.bool (zs q.num), .slice ua1 (tln q.num.natAbs) ma1, .slice va1 (tln (fd q)) na1]), PF tn, PF m, EV (.string s), EV (.int .i64 (i : Int)), EV (.int .u8 (c.toNat : Int)), EV (.int .u8 k), EV (.int .i64 k), PF d, PF r] (by kernel_rfl) (by kernel_rfl) ?_ ?_ ?_
   ·repeat' first | exact stays_nil | apply stays_cons | exact stays_eq _ | exact stays_rf _
   ·simp only [List.take_succ_cons, List.take_zero, hopsR, and_true]
    refine ⟨?_, ?_, ?_, ?_, ?_, ?_, ?_, ?_, ?_, ?_⟩ <;> intro fv w1 hb1 hp
    all_goals (have hc := (hL0.call (below_drew hb1)).fc; simp only [zF, Nat.reduceAdd] at hc; simp only [putsV, Act.put, zP, Nat.zero_add, Nat.reduceAdd])
    ·refine tyAt_none rfl ?_
     simp [tyUpon, execOp, go_sem, Act.eval, hc, hsz, hg1, kL, kl1, kl0, w8, w6, Below.refl]
    ·refine tyAt_none rfl ?_
     refine ty_call (f := 57) (args := #[.int .i64 10]) (by simp [execOp, go_sem, Act.eval]) ?_
     exact (HT.out w1).mono fun e w2 ⟨pv, h1, h2, h3⟩ => ⟨pv, h1, h2, h3⟩
    ·have h0 : EV _ (fv 0) w1 := hp 0 (LC (by kernel_rfl))
     have h1 : PF _ (fv 1) w1 := hp 1 (LC (by kernel_rfl))
     refine tyAt_none rfl ?_
     refine ty_call (f := 71) (args := #[.agg #[.bool (zs q.num), .slice ua1 (tln q.num.natAbs) ma1, .slice va1 (tln (fd q)) na1], fv 1]) (by simp [execOp, go_sem, Act.eval, h0]) ?_
     exact (HM1.out (.agg #[.bool (zs q.num), .slice ua1 (tln q.num.natAbs) ma1, .slice va1 (tln (fd q)) na1]) (fv 1) w1 (rf_of (Sl.below (hS.get mZ) (below_drew hb1)) (Sl.below (hS.get (mK mZ)) (below_drew hb1))) h1).mono fun e w2 ⟨pv, h1, h2, h3⟩ => ⟨pv, h1, h2, h3⟩
    ·refine tyAt_none rfl ?_
     simp [tyUpon, execOp, go_sem, Act.eval, hsz, hg1, kL, kl1, kl0, w8, w6, Below.refl]
    ·refine tyAt_none rfl ?_
     simp [tyUpon, execOp, go_sem, Act.eval, hsz, hg1, kL, kl1, kl0, w8, w6, Below.refl]
    ·have h3 : EV _ (fv 3) w1 := hp 3 (LC (by kernel_rfl))
     have h4 : EV _ (fv 4) w1 := hp 4 (LC (by kernel_rfl))
     refine tyAt_none rfl ?_
     simp [tyUpon, execOp, go_sem, Act.eval, hc, h3, h4, hsz, hg1, kL, kl1, kl0, w8, w6, Below.refl]
    ·have h5 : EV _ (fv 5) w1 := hp 5 (LC (by kernel_rfl))
     refine tyAt_none rfl ?_
     simp [tyUpon, execOp, go_sem, Act.eval, h5, hsz, hg1, kL, kl1, kl0, w8, w6, Below.refl]
    ·have h6 : EV _ (fv 6) w1 := hp 6 (LC (by kernel_rfl))
     refine tyAt_none rfl ?_
     simp [tyUpon, execOp, go_sem, Act.eval, h6, hsz, hg1, kL, kl1, kl0, w8, w6, Below.refl]
    ·have h7 : EV _ (fv 7) w1 := hp 7 (LC (by kernel_rfl))
     refine tyAt_none rfl ?_
     refine ty_call (f := 57) (args := #[.int .i64 k]) (by simp [execOp, go_sem, Act.eval, h7]) ?_
     exact (HI1.out w1).mono fun e w2 ⟨pv, h1, h2, h3⟩ => ⟨pv, h1, h2, h3⟩
    ·have h2 : PF _ (fv 2) w1 := hp 2 (LC (by kernel_rfl))
     have h8 : PF _ (fv 8) w1 := hp 8 (LC (by kernel_rfl))
     refine tyAt_none rfl ?_
     refine ty_call (f := 70) (args := #[fv 2, fv 8]) (by simp [execOp, go_sem, Act.eval]) ?_
     exact (HA1.out (fv 2) (fv 8) w1 h2 h8).mono fun e w2 ⟨pv, h1, h2, h3⟩ => ⟨pv, h1, h2, h3⟩
   ·intro fv x4 hb1 hv
    have e0 : fv 0 = _ := hv 0 (by omega)
    have q1 : RF x4 (fv 1) tn := hv 1 (by omega)
    obtain ⟨g3, d3, g4, d4, e1⟩ := rf_form q1
    rw [e1] at q1
    have q2 : RF x4 (fv 2) m := hv 2 (by omega)
    obtain ⟨g5, d5, g6, d6, e2⟩ := rf_form q2
    rw [e2] at q2
    have e3 : fv 3 = _ := hv 3 (by omega)
    have e4 : fv 4 = _ := hv 4 (by omega)
    have e5 : fv 5 = _ := hv 5 (by omega)
    have e6 : fv 6 = _ := hv 6 (by omega)
    have e7 : fv 7 = _ := hv 7 (by omega)
    have q8 : RF x4 (fv 8) d := hv 8 (by omega)
    obtain ⟨g7, d7, g8, d8, e8⟩ := rf_form q8
    rw [e8] at q8
    have q9 : RF x4 (fv 9) r := hv 9 (by omega)
    obtain ⟨g9, d9, g10, d10, e9⟩ := rf_form q9
    rw [e9] at q9
    simp only [List.take_succ_cons, List.take_zero, putsV, Act.put, zP, List.drop_succ_cons, List.drop_zero, Nat.zero_add, Nat.reduceAdd, e0, e1, e2, e3, e4, e5, e6, e7, e8, e9]
    replace hL0 := hL0.call (below_drew hb1)
    replace hS := hS.call (below_drew hb1)
    replace hS := hS.cons (rf_rn1 q1)
    replace hS := hS.cons (rf_rn2 q1)
    replace hS := hS.cons (rf_rn1 q2)
    replace hS := hS.cons (rf_rn2 q2)
    replace hS := hS.cons (rf_rn1 q8)
    replace hS := hS.cons (rf_rn2 q8)
    replace hS := hS.cons (rf_rn1 q9)
    replace hS := hS.cons (rf_rn2 q9)
    clear e0 e1 e2 e3 e4 e5 e6 e7 e8 e9 hb1 hv q1 q2 q8 q9 fv
    have hS1 := hS.put ((((Upd.refl x2.heap.size x4).setCell 0 (.bool (zs r.num))).setCell 1 (.slice g9 (tln r.num.natAbs) d9)).setCell 2 (.slice g10 (tln (fd r)) d10)) (hL0.get _ _ mZ) (by intro v hv n; simp only [List.mem_cons, List.not_mem_nil, or_false] at hv; rcases hv with rfl | rfl | rfl <;> simp)
    have hA := hL0.fc
    simp only [zF, Nat.reduceAdd] at hA
    have hP := hL0.put 0 (x2.heap.size) _ rfl [.bool (zs r.num), .slice g9 (tln r.num.natAbs) d9, .slice g10 (tln (fd r)) d10] rfl
    simp only [setAll, List.set_cons_zero, List.set_cons_succ] at hP
    generalize hput1 : (((x4.setCell ⟨x2.heap.size, 0, none⟩ (.bool (zs r.num))).setCell ⟨x2.heap.size, 1, none⟩ (.slice g9 (tln r.num.natAbs) d9)).setCell ⟨x2.heap.size, 2, none⟩ (.slice g10 (tln (fd r)) d10)) = x5 at hP hS1
    have hB1 := hP.fc
    simp only [zF, Nat.reduceAdd] at hB1
    replace hL0 := hP
    replace hS := hS1
    clear hS1
    go_wp2_with fail
    go_roundg (gk - 1)
    case measure => omega
    case rel => exact ⟨i + 1, _, _, _, _, _, by omega, by omega, by first | rfl | go_num, hr.out, hL0, (((show SS x5 [(.slice g2 (tln (fd zq)) d2, (fd zq)), (.slice g1 (tln zq.num.natAbs) d1, zq.num.natAbs)] from fun p hp => hS p (mK (mK (mK (mK (mK (mK (mK (mK (mK (mK hp)))))))))))).cons (hS.get mZ)).cons (hS.get (mK mZ))⟩
  ·obtain rfl : ea = i := by omega
   have hq2 := (hq.trans hv1.out).symm
   subst hq2
   clear hq hin hik
   have kb : (ea : Int) ≤ 1000 := by have := hL1; have := heL.out; omega
   have kl0 : (0 : Int) ≤ (ea : Int) := Int.natCast_nonneg _
   replace y1 := y1.out
   replace y2 := y2.out
   rcases hway.out with k1 | ⟨k1, h9, hg9, n1⟩ | ⟨k1, h9, hg9, n0, n1⟩
   all_goals (
    have hS1 := hS.put ((((Upd.refl w.heap.size wr).setCell 0 (.bool false)).setCell 1 (.slice none 0 0)).setCell 2 (.slice none 0 0)) (hL0.get _ _ (mK (mK mZ))) (by intro v hv n; simp only [List.mem_cons, List.not_mem_nil, or_false] at hv; rcases hv with rfl | rfl | rfl <;> simp)
    have hA := hL0.fc
    simp only [zF, Nat.reduceAdd] at hA
    have hP := hL0.put 2 (w.heap.size) _ rfl [.bool false, .slice none 0 0, .slice none 0 0] rfl
    simp only [setAll, List.set_cons_zero, List.set_cons_succ] at hP
    generalize hput1 : (((wr.setCell ⟨w.heap.size, 0, none⟩ (.bool false)).setCell ⟨w.heap.size, 1, none⟩ (.slice none 0 0)).setCell ⟨w.heap.size, 2, none⟩ (.slice none 0 0)) = x4 at hP hS1
    have hB1 := hP.fc
    simp only [zF, Nat.reduceAdd] at hB1
    replace hL0 := hP
    replace hS := hS1
    clear hS1
    go_wp2_with fail
    exact bodyPost_ret (v := .tuple #[.agg #[.bool false, .slice none 0 0, .slice none 0 0], .int .i64 4]) (by simp [results, Tryz.results20, go_sem, hB1]) rfl ⟨_, rfl, (rf_nil _), hL0.bl⟩)
end Go.Proofs.YtahfcciihkkegaaGreatDoor
namespace Go.Proofs.YtahfcciihkkegaaGreatDoor
open Go.RowKit Go.Proofs.YtahfcciihkkegaaGreatDoor.Rx
attribute [local irreducible] lo hs sm s64 c64 d64 b64 mh ml pd pc qd qc val hiB str cmpI srD lz nb isq decB zl zh zs dval tln fd
theorem rps_pB (s : ByteArray) (L ea : Nat) (c00 c0 c9 : UInt8) (va : Nat → Rat) (zq tn q1 : Rat) (HZ : ∀ (w : World), Calls Tryz.prog 57 #[.int .i64 0] w fun e w' => ∃ pv, e = .returned pv ∧ RF w' pv zq ∧ Below w.heap.size w w') (HT : ∀ (w : World), Calls Tryz.prog 57 #[.int .i64 10] w fun e w' => ∃ pv, e = .returned pv ∧ RF w' pv tn ∧ Below w.heap.size w w') (hsz : s.size = L) (hL1 : L ≤ 100) (d40 : decide ((4096 : Int) < (L : Int)) = false) (d41 : decide (4096 < L) = false) (hp : (0 : Int) < (L : Int)) (h00 : 0 < s.size) (hg00 : s[0]'h00 = c00) (g00 : ((c00.toNat : Int) == 45) = false) (h0 : zq = va 0) (hv1 : va ea = q1) (hbe : 0 ≤ ea) (heL : ea ≤ L) (H1 : ∀ i : Nat, 0 ≤ i → i < ea → ∃ (h : i < s.size) (c : UInt8) (k : Int) (m d : Rat), s[i]'h = c ∧ (48 : Int) ≤ (c.toNat : Int) ∧ (c.toNat : Int) ≤ 57 ∧ IntKind.u8.wrap ((c.toNat : Int) - 48) = k ∧ IntKind.i64.wrap k = k ∧ (∀ (p0 p1 : Value) (w : World), RF w p0 ((va i)) → RF w p1 tn → Calls Tryz.prog 71 #[p0, p1] w fun e w' => ∃ pv, e = .returned pv ∧ RF w' pv m ∧ Below w.heap.size w w') ∧ (∀ (w : World), Calls Tryz.prog 57 #[.int .i64 k] w fun e w' => ∃ pv, e = .returned pv ∧ RF w' pv d ∧ Below w.heap.size w w') ∧ (∀ (p0 p1 : Value) (w : World), RF w p0 m → RF w p1 d → Calls Tryz.prog 70 #[p0, p1] w fun e w' => ∃ pv, e = .returned pv ∧ RF w' pv ((va (i + 1))) ∧ Below w.heap.size w w')) (hway : ¬ (ea : Int) < (L : Int) ∨ ((ea : Int) < (L : Int) ∧ ∃ h : ea < s.size, s[ea]'h = c9 ∧ ¬ (48 : Int) ≤ (c9.toNat : Int)) ∨ ((ea : Int) < (L : Int) ∧ ∃ h : ea < s.size, s[ea]'h = c9 ∧ (48 : Int) ≤ (c9.toNat : Int) ∧ ¬ (c9.toNat : Int) ≤ 57)) (y1 : ((ea : Int) == 0) = false) (y2 : (ea == 0) = false) (y3 : ¬ ea = 0) (hb8 : (0 : Int) < (L : Int)) (gz : ((c00.toNat : Int) == 48) = true) (gt : decide ((1 : Int) < (ea : Int)) = true) (w : World) :
  Calls Tryz.prog 20 #[.string s] w fun e w' => ∃ pv, e = .returned (.tuple #[pv, .int .i64 4]) ∧ RF w' pv 0 ∧ Below w.heap.size w w' := by
 replace HZ := Lib.hid HZ
 replace HT := Lib.hid HT
 have hL0 : GL w w [] := GL.start w
 have hS : SS w [] := SS.nil w
 replace h0 := Lib.hid h0
 replace hv1 := Lib.hid hv1
 replace hbe := Lib.hid hbe
 replace heL := Lib.hid heL
 replace H1 := Lib.hid H1
 replace hway := Lib.hid hway
 obtain ⟨x1, hweq, hL0, hS⟩ := GL.named2 ((hL0.new rfl [.bool false, .slice none 0 0, .slice none 0 0] 46).new (K := w.heap.size + 1) (szA _ _) [.bool false, .slice none 0 0, .slice none 0 0] 46) ((hS.new (.cells #[.bool false, .slice none 0 0, .slice none 0 0] 46)).new (.cells #[.bool false, .slice none 0 0, .slice none 0 0] 46))
 go_enter Tryz.func20, Tryz.ntmps20
 go_wp2_with fail
 with_reducible refine Calls.mono (HZ.out _) ?_
 rintro e x2 ⟨v0, rfl, q0, hb⟩
 replace hL0 := hL0.call hb
 replace hS := hS.call hb
 clear hb hweq
 obtain ⟨g1, d1, g2, d2, rfl⟩ := rf_form q0
 replace hS := hS.cons (rf_rn1 q0)
 replace hS := hS.cons (rf_rn2 q0)
 clear q0
 obtain ⟨x3, hweq, hL0, hS⟩ := GL.named2 (hL0.new rfl [.bool (zs zq.num), .slice g1 (tln zq.num.natAbs) d1, .slice g2 (tln (fd zq)) d2] 46) (hS.new (.cells #[.bool (zs zq.num), .slice g1 (tln zq.num.natAbs) d1, .slice g2 (tln (fd zq)) d2] 46))
 go_wp2_with fail
 clear hweq
 go_loopg [5] (ea - 0) (fun gk iv wr => ∃ (i : Nat) (q : Rat) (ua1 : Option Addr) (ma1 : Nat) (va1 : Option Addr) (na1 : Nat), 0 ≤ i ∧ i + gk = ea ∧ iv = .int .i64 (i : Int) ∧ q = va i ∧ GL w wr [(x2.heap.size, [.bool (zs q.num), .slice ua1 (tln q.num.natAbs) ma1, .slice va1 (tln (fd q)) na1]), (w.heap.size + 1, [.bool false, .slice none 0 0, .slice none 0 0]), (w.heap.size, [.bool false, .slice none 0 0, .slice none 0 0])] ∧ SS wr [(.slice ua1 (tln q.num.natAbs) ma1, q.num.natAbs), (.slice va1 (tln (fd q)) na1, (fd q)), (.slice g2 (tln (fd zq)) d2, (fd zq)), (.slice g1 (tln zq.num.natAbs) d1, zq.num.natAbs)])
 case atStart => exact ⟨0, _, _, _, _, _, Nat.le_refl _, by have := hbe.out; omega, by first | rfl | go_num, h0.out, hL0, ((hS).cons (hS.get mZ)).cons (hS.get (mK mZ))⟩
 case round =>
  clear hL0 hS
  obtain ⟨i, q, ua1, ma1, va1, na1, hbi, hik, rfl, hq, hL0, hS⟩ := hrel
  by_cases hin : i < ea
  ·obtain ⟨h1, c, k, m, d, hg1, dlo, dhi, w8, w6, HM1, HI1, HA1⟩ := H1.out i hbi hin
   obtain ⟨r, hr⟩ : ∃ r, r = va (i + 1) := ⟨_, rfl⟩
   rw [← hq] at HM1
   rw [← hr] at HA1
   replace HM1 := Lib.hid HM1
   replace HI1 := Lib.hid HI1
   replace HA1 := Lib.hid HA1
   replace hq := Lib.hid hq
   replace hr := Lib.hid hr
   have kl0 : (0 : Int) ≤ (i : Int) := Int.natCast_nonneg _
   have kL : i < s.size := h1
   have kl1 : (i : Int) < (L : Int) := by have := hsz; omega
   have kb : (i : Int) ≤ 1000 := by have := hL1; omega
   have kn1 : ¬ (c.toNat : Int) < 48 := by omega
   have kn2 : ¬ (57 : Int) < (c.toNat : Int) := by omega
   go_upto_region 11 with fail
   refine region_tl 10 [EV (.agg #[.bool (zs q.num), .slice ua1 (tln q.num.natAbs) ma1, .slice va1 (tln (fd q)) na1]), PF tn, PF m, EV (.string s), EV (.int .i64 (i : Int)), EV (.int .u8 (c.toNat : Int)), EV (.int .u8 k), EV (.int .i64 k), PF d, PF r] (by kernel_rfl) (by kernel_rfl) ?_ ?_ ?_
   ·repeat' first | exact stays_nil | apply stays_cons | exact stays_eq _ | exact stays_rf _
   ·simp only [List.take_succ_cons, List.take_zero, hopsR, and_true]
    refine ⟨?_, ?_, ?_, ?_, ?_, ?_, ?_, ?_, ?_, ?_⟩ <;> intro fv w1 hb1 hp
    all_goals (have hc := (hL0.call (below_drew hb1)).fc; simp only [zF, Nat.reduceAdd] at hc; simp only [putsV, Act.put, zP, Nat.zero_add, Nat.reduceAdd])
    ·refine tyAt_none rfl ?_
     simp [tyUpon, execOp, go_sem, Act.eval, hc, hsz, hg1, kL, kl1, kl0, w8, w6, Below.refl]
    ·refine tyAt_none rfl ?_
     refine ty_call (f := 57) (args := #[.int .i64 10]) (by simp [execOp, go_sem, Act.eval]) ?_
     exact (HT.out w1).mono fun e w2 ⟨pv, h1, h2, h3⟩ => ⟨pv, h1, h2, h3⟩
    ·have h0 : EV _ (fv 0) w1 := hp 0 (LC (by kernel_rfl))
     have h1 : PF _ (fv 1) w1 := hp 1 (LC (by kernel_rfl))
     refine tyAt_none rfl ?_
     refine ty_call (f := 71) (args := #[.agg #[.bool (zs q.num), .slice ua1 (tln q.num.natAbs) ma1, .slice va1 (tln (fd q)) na1], fv 1]) (by simp [execOp, go_sem, Act.eval, h0]) ?_
     exact (HM1.out (.agg #[.bool (zs q.num), .slice ua1 (tln q.num.natAbs) ma1, .slice va1 (tln (fd q)) na1]) (fv 1) w1 (rf_of (Sl.below (hS.get mZ) (below_drew hb1)) (Sl.below (hS.get (mK mZ)) (below_drew hb1))) h1).mono fun e w2 ⟨pv, h1, h2, h3⟩ => ⟨pv, h1, h2, h3⟩
    ·refine tyAt_none rfl ?_
     simp [tyUpon, execOp, go_sem, Act.eval, hsz, hg1, kL, kl1, kl0, w8, w6, Below.refl]
    ·refine tyAt_none rfl ?_
     simp [tyUpon, execOp, go_sem, Act.eval, hsz, hg1, kL, kl1, kl0, w8, w6, Below.refl]
    ·have h3 : EV _ (fv 3) w1 := hp 3 (LC (by kernel_rfl))
     have h4 : EV _ (fv 4) w1 := hp 4 (LC (by kernel_rfl))
     refine tyAt_none rfl ?_
     simp [tyUpon, execOp, go_sem, Act.eval, hc, h3, h4, hsz, hg1, kL, kl1, kl0, w8, w6, Below.refl]
    ·have h5 : EV _ (fv 5) w1 := hp 5 (LC (by kernel_rfl))
     refine tyAt_none rfl ?_
     simp [tyUpon, execOp, go_sem, Act.eval, h5, hsz, hg1, kL, kl1, kl0, w8, w6, Below.refl]
    ·have h6 : EV _ (fv 6) w1 := hp 6 (LC (by kernel_rfl))
     refine tyAt_none rfl ?_
     simp [tyUpon, execOp, go_sem, Act.eval, h6, hsz, hg1, kL, kl1, kl0, w8, w6, Below.refl]
    ·have h7 : EV _ (fv 7) w1 := hp 7 (LC (by kernel_rfl))
     refine tyAt_none rfl ?_
     refine ty_call (f := 57) (args := #[.int .i64 k]) (by simp [execOp, go_sem, Act.eval, h7]) ?_
     exact (HI1.out w1).mono fun e w2 ⟨pv, h1, h2, h3⟩ => ⟨pv, h1, h2, h3⟩
    ·have h2 : PF _ (fv 2) w1 := hp 2 (LC (by kernel_rfl))
     have h8 : PF _ (fv 8) w1 := hp 8 (LC (by kernel_rfl))
     refine tyAt_none rfl ?_
     refine ty_call (f := 70) (args := #[fv 2, fv 8]) (by simp [execOp, go_sem, Act.eval]) ?_
     exact (HA1.out (fv 2) (fv 8) w1 h2 h8).mono fun e w2 ⟨pv, h1, h2, h3⟩ => ⟨pv, h1, h2, h3⟩
   ·intro fv x4 hb1 hv
    have e0 : fv 0 = _ := hv 0 (by omega)
    have q1 : RF x4 (fv 1) tn := hv 1 (by omega)
    obtain ⟨g3, d3, g4, d4, e1⟩ := rf_form q1
    rw [e1] at q1
    have q2 : RF x4 (fv 2) m := hv 2 (by omega)
    obtain ⟨g5, d5, g6, d6, e2⟩ := rf_form q2
    rw [e2] at q2
    have e3 : fv 3 = _ := hv 3 (by omega)
    have e4 : fv 4 = _ := hv 4 (by omega)
    have e5 : fv 5 = _ := hv 5 (by omega)
    have e6 : fv 6 = _ := hv 6 (by omega)
    have e7 : fv 7 = _ := hv 7 (by omega)
    have q8 : RF x4 (fv 8) d := hv 8 (by omega)
    obtain ⟨g7, d7, g8, d8, e8⟩ := rf_form q8
    rw [e8] at q8
    have q9 : RF x4 (fv 9) r := hv 9 (by omega)
    obtain ⟨g9, d9, g10, d10, e9⟩ := rf_form q9
    rw [e9] at q9
    simp only [List.take_succ_cons, List.take_zero, putsV, Act.put, zP, List.drop_succ_cons, List.drop_zero, Nat.zero_add, Nat.reduceAdd, e0, e1, e2, e3, e4, e5, e6, e7, e8, e9]
    replace hL0 := hL0.call (below_drew hb1)
    replace hS := hS.call (below_drew hb1)
    replace hS := hS.cons (rf_rn1 q1)
    replace hS := hS.cons (rf_rn2 q1)
    replace hS := hS.cons (rf_rn1 q2)
    replace hS := hS.cons (rf_rn2 q2)
    replace hS := hS.cons (rf_rn1 q8)
    replace hS := hS.cons (rf_rn2 q8)
    replace hS := hS.cons (rf_rn1 q9)
    replace hS := hS.cons (rf_rn2 q9)
    clear e0 e1 e2 e3 e4 e5 e6 e7 e8 e9 hb1 hv q1 q2 q8 q9 fv
    have hS1 := hS.put ((((Upd.refl x2.heap.size x4).setCell 0 (.bool (zs r.num))).setCell 1 (.slice g9 (tln r.num.natAbs) d9)).setCell 2 (.slice g10 (tln (fd r)) d10)) (hL0.get _ _ mZ) (by intro v hv n; simp only [List.mem_cons, List.not_mem_nil, or_false] at hv; rcases hv with rfl | rfl | rfl <;> simp)
    have hA := hL0.fc
    simp only [zF, Nat.reduceAdd] at hA
    have hP := hL0.put 0 (x2.heap.size) _ rfl [.bool (zs r.num), .slice g9 (tln r.num.natAbs) d9, .slice g10 (tln (fd r)) d10] rfl
    simp only [setAll, List.set_cons_zero, List.set_cons_succ] at hP
    generalize hput1 : (((x4.setCell ⟨x2.heap.size, 0, none⟩ (.bool (zs r.num))).setCell ⟨x2.heap.size, 1, none⟩ (.slice g9 (tln r.num.natAbs) d9)).setCell ⟨x2.heap.size, 2, none⟩ (.slice g10 (tln (fd r)) d10)) = x5 at hP hS1
    have hB1 := hP.fc
    simp only [zF, Nat.reduceAdd] at hB1
    replace hL0 := hP
    replace hS := hS1
    clear hS1
    go_wp2_with fail
    go_roundg (gk - 1)
    case measure => omega
    case rel => exact ⟨i + 1, _, _, _, _, _, by omega, by omega, by first | rfl | go_num, hr.out, hL0, (((show SS x5 [(.slice g2 (tln (fd zq)) d2, (fd zq)), (.slice g1 (tln zq.num.natAbs) d1, zq.num.natAbs)] from fun p hp => hS p (mK (mK (mK (mK (mK (mK (mK (mK (mK (mK hp)))))))))))).cons (hS.get mZ)).cons (hS.get (mK mZ))⟩
  ·obtain rfl : ea = i := by omega
   have hq2 := (hq.trans hv1.out).symm
   subst hq2
   clear hq hin hik
   have kb : (ea : Int) ≤ 1000 := by have := hL1; have := heL.out; omega
   have kl0 : (0 : Int) ≤ (ea : Int) := Int.natCast_nonneg _
   rcases hway.out with k1 | ⟨k1, h9, hg9, n1⟩ | ⟨k1, h9, hg9, n0, n1⟩
   all_goals (
    have hS1 := hS.put ((((Upd.refl w.heap.size wr).setCell 0 (.bool false)).setCell 1 (.slice none 0 0)).setCell 2 (.slice none 0 0)) (hL0.get _ _ (mK (mK mZ))) (by intro v hv n; simp only [List.mem_cons, List.not_mem_nil, or_false] at hv; rcases hv with rfl | rfl | rfl <;> simp)
    have hA := hL0.fc
    simp only [zF, Nat.reduceAdd] at hA
    have hP := hL0.put 2 (w.heap.size) _ rfl [.bool false, .slice none 0 0, .slice none 0 0] rfl
    simp only [setAll, List.set_cons_zero, List.set_cons_succ] at hP
    generalize hput1 : (((wr.setCell ⟨w.heap.size, 0, none⟩ (.bool false)).setCell ⟨w.heap.size, 1, none⟩ (.slice none 0 0)).setCell ⟨w.heap.size, 2, none⟩ (.slice none 0 0)) = x4 at hP hS1
    have hB1 := hP.fc
    simp only [zF, Nat.reduceAdd] at hB1
    replace hL0 := hP
    replace hS := hS1
    clear hS1
    go_wp2_with fail
    exact bodyPost_ret (v := .tuple #[.agg #[.bool false, .slice none 0 0, .slice none 0 0], .int .i64 4]) (by simp [results, Tryz.results20, go_sem, hB1]) rfl ⟨_, rfl, (rf_nil _), hL0.bl⟩)
end Go.Proofs.YtahfcciihkkegaaGreatDoor
namespace Go.Proofs.YtahfcciihkkegaaGreatDoor
open Go.RowKit Go.Proofs.YtahfcciihkkegaaGreatDoor.Rx
attribute [local irreducible] lo hs sm s64 c64 d64 b64 mh ml pd pc qd qc val hiB str cmpI srD lz nb isq decB zl zh zs dval tln fd
theorem rps_pD (s : ByteArray) (L ea : Nat) (c00 c0 c9 : UInt8) (va : Nat → Rat) (zq tn q1 : Rat) (HZ : ∀ (w : World), Calls Tryz.prog 57 #[.int .i64 0] w fun e w' => ∃ pv, e = .returned pv ∧ RF w' pv zq ∧ Below w.heap.size w w') (HT : ∀ (w : World), Calls Tryz.prog 57 #[.int .i64 10] w fun e w' => ∃ pv, e = .returned pv ∧ RF w' pv tn ∧ Below w.heap.size w w') (hsz : s.size = L) (hL1 : L ≤ 100) (d40 : decide ((4096 : Int) < (L : Int)) = false) (d41 : decide (4096 < L) = false) (hp : (0 : Int) < (L : Int)) (h00 : 0 < s.size) (hg00 : s[0]'h00 = c00) (g00 : ((c00.toNat : Int) == 45) = false) (h0 : zq = va 0) (hv1 : va ea = q1) (hbe : 0 ≤ ea) (heL : ea ≤ L) (H1 : ∀ i : Nat, 0 ≤ i → i < ea → ∃ (h : i < s.size) (c : UInt8) (k : Int) (m d : Rat), s[i]'h = c ∧ (48 : Int) ≤ (c.toNat : Int) ∧ (c.toNat : Int) ≤ 57 ∧ IntKind.u8.wrap ((c.toNat : Int) - 48) = k ∧ IntKind.i64.wrap k = k ∧ (∀ (p0 p1 : Value) (w : World), RF w p0 ((va i)) → RF w p1 tn → Calls Tryz.prog 71 #[p0, p1] w fun e w' => ∃ pv, e = .returned pv ∧ RF w' pv m ∧ Below w.heap.size w w') ∧ (∀ (w : World), Calls Tryz.prog 57 #[.int .i64 k] w fun e w' => ∃ pv, e = .returned pv ∧ RF w' pv d ∧ Below w.heap.size w w') ∧ (∀ (p0 p1 : Value) (w : World), RF w p0 m → RF w p1 d → Calls Tryz.prog 70 #[p0, p1] w fun e w' => ∃ pv, e = .returned pv ∧ RF w' pv ((va (i + 1))) ∧ Below w.heap.size w w')) (hway : ((ea : Int) < (L : Int) ∧ ∃ h : ea < s.size, s[ea]'h = c9 ∧ ¬ (48 : Int) ≤ (c9.toNat : Int)) ∨ ((ea : Int) < (L : Int) ∧ ∃ h : ea < s.size, s[ea]'h = c9 ∧ (48 : Int) ≤ (c9.toNat : Int) ∧ ¬ (c9.toNat : Int) ≤ 57)) (y1 : ((ea : Int) == 0) = false) (y2 : (ea == 0) = false) (y3 : ¬ ea = 0) (hb8 : (0 : Int) < (L : Int)) (hz : ((c00.toNat : Int) == 48) = false ∨ (((c00.toNat : Int) == 48) = true ∧ decide ((1 : Int) < (ea : Int)) = false)) (g46 : ((c9.toNat : Int) != 46) = true) (g47 : ((c9.toNat : Int) == 46) = false) (w : World) :
  Calls Tryz.prog 20 #[.string s] w fun e w' => ∃ pv, e = .returned (.tuple #[pv, .int .i64 4]) ∧ RF w' pv 0 ∧ Below w.heap.size w w' := by
 replace HZ := Lib.hid HZ
 replace HT := Lib.hid HT
 have hL0 : GL w w [] := GL.start w
 have hS : SS w [] := SS.nil w
 replace h0 := Lib.hid h0
 replace hv1 := Lib.hid hv1
 replace hbe := Lib.hid hbe
 replace heL := Lib.hid heL
 replace H1 := Lib.hid H1
 replace hway := Lib.hid hway
 replace hz := Lib.hid hz
 obtain ⟨x1, hweq, hL0, hS⟩ := GL.named2 ((hL0.new rfl [.bool false, .slice none 0 0, .slice none 0 0] 46).new (K := w.heap.size + 1) (szA _ _) [.bool false, .slice none 0 0, .slice none 0 0] 46) ((hS.new (.cells #[.bool false, .slice none 0 0, .slice none 0 0] 46)).new (.cells #[.bool false, .slice none 0 0, .slice none 0 0] 46))
 go_enter Tryz.func20, Tryz.ntmps20
 go_wp2_with fail
 with_reducible refine Calls.mono (HZ.out _) ?_
 rintro e x2 ⟨v0, rfl, q0, hb⟩
 replace hL0 := hL0.call hb
 replace hS := hS.call hb
 clear hb hweq
 obtain ⟨g1, d1, g2, d2, rfl⟩ := rf_form q0
 replace hS := hS.cons (rf_rn1 q0)
 replace hS := hS.cons (rf_rn2 q0)
 clear q0
 obtain ⟨x3, hweq, hL0, hS⟩ := GL.named2 (hL0.new rfl [.bool (zs zq.num), .slice g1 (tln zq.num.natAbs) d1, .slice g2 (tln (fd zq)) d2] 46) (hS.new (.cells #[.bool (zs zq.num), .slice g1 (tln zq.num.natAbs) d1, .slice g2 (tln (fd zq)) d2] 46))
 go_wp2_with fail
 clear hweq
 go_loopg [5] (ea - 0) (fun gk iv wr => ∃ (i : Nat) (q : Rat) (ua1 : Option Addr) (ma1 : Nat) (va1 : Option Addr) (na1 : Nat), 0 ≤ i ∧ i + gk = ea ∧ iv = .int .i64 (i : Int) ∧ q = va i ∧ GL w wr [(x2.heap.size, [.bool (zs q.num), .slice ua1 (tln q.num.natAbs) ma1, .slice va1 (tln (fd q)) na1]), (w.heap.size + 1, [.bool false, .slice none 0 0, .slice none 0 0]), (w.heap.size, [.bool false, .slice none 0 0, .slice none 0 0])] ∧ SS wr [(.slice ua1 (tln q.num.natAbs) ma1, q.num.natAbs), (.slice va1 (tln (fd q)) na1, (fd q)), (.slice g2 (tln (fd zq)) d2, (fd zq)), (.slice g1 (tln zq.num.natAbs) d1, zq.num.natAbs)])
 case atStart => exact ⟨0, _, _, _, _, _, Nat.le_refl _, by have := hbe.out; omega, by first | rfl | go_num, h0.out, hL0, ((hS).cons (hS.get mZ)).cons (hS.get (mK mZ))⟩
 case round =>
  clear hL0 hS
  obtain ⟨i, q, ua1, ma1, va1, na1, hbi, hik, rfl, hq, hL0, hS⟩ := hrel
  by_cases hin : i < ea
  ·obtain ⟨h1, c, k, m, d, hg1, dlo, dhi, w8, w6, HM1, HI1, HA1⟩ := H1.out i hbi hin
   obtain ⟨r, hr⟩ : ∃ r, r = va (i + 1) := ⟨_, rfl⟩
   rw [← hq] at HM1
   rw [← hr] at HA1
   replace HM1 := Lib.hid HM1
   replace HI1 := Lib.hid HI1
   replace HA1 := Lib.hid HA1
   replace hq := Lib.hid hq
   replace hr := Lib.hid hr
   have kl0 : (0 : Int) ≤ (i : Int) := Int.natCast_nonneg _
   have kL : i < s.size := h1
   have kl1 : (i : Int) < (L : Int) := by have := hsz; omega
   have kb : (i : Int) ≤ 1000 := by have := hL1; omega
   have kn1 : ¬ (c.toNat : Int) < 48 := by omega
   have kn2 : ¬ (57 : Int) < (c.toNat : Int) := by omega
   go_upto_region 11 with fail
   refine region_tl 10 [EV (.agg #[.bool (zs q.num), .slice ua1 (tln q.num.natAbs) ma1, .slice va1 (tln (fd q)) na1]), PF tn, PF m, EV (.string s), EV (.int .i64 (i : Int)), EV (.int .u8 (c.toNat : Int)), EV (.int .u8 k), EV (.int .i64 k), PF d, PF r] (by kernel_rfl) (by kernel_rfl) ?_ ?_ ?_
   ·repeat' first | exact stays_nil | apply stays_cons | exact stays_eq _ | exact stays_rf _
   ·simp only [List.take_succ_cons, List.take_zero, hopsR, and_true]
    refine ⟨?_, ?_, ?_, ?_, ?_, ?_, ?_, ?_, ?_, ?_⟩ <;> intro fv w1 hb1 hp
    all_goals (have hc := (hL0.call (below_drew hb1)).fc; simp only [zF, Nat.reduceAdd] at hc; simp only [putsV, Act.put, zP, Nat.zero_add, Nat.reduceAdd])
    ·refine tyAt_none rfl ?_
     simp [tyUpon, execOp, go_sem, Act.eval, hc, hsz, hg1, kL, kl1, kl0, w8, w6, Below.refl]
    ·refine tyAt_none rfl ?_
     refine ty_call (f := 57) (args := #[.int .i64 10]) (by simp [execOp, go_sem, Act.eval]) ?_
     exact (HT.out w1).mono fun e w2 ⟨pv, h1, h2, h3⟩ => ⟨pv, h1, h2, h3⟩
    ·have h0 : EV _ (fv 0) w1 := hp 0 (LC (by kernel_rfl))
     have h1 : PF _ (fv 1) w1 := hp 1 (LC (by kernel_rfl))
     refine tyAt_none rfl ?_
     refine ty_call (f := 71) (args := #[.agg #[.bool (zs q.num), .slice ua1 (tln q.num.natAbs) ma1, .slice va1 (tln (fd q)) na1], fv 1]) (by simp [execOp, go_sem, Act.eval, h0]) ?_
     exact (HM1.out (.agg #[.bool (zs q.num), .slice ua1 (tln q.num.natAbs) ma1, .slice va1 (tln (fd q)) na1]) (fv 1) w1 (rf_of (Sl.below (hS.get mZ) (below_drew hb1)) (Sl.below (hS.get (mK mZ)) (below_drew hb1))) h1).mono fun e w2 ⟨pv, h1, h2, h3⟩ => ⟨pv, h1, h2, h3⟩
    ·refine tyAt_none rfl ?_
     simp [tyUpon, execOp, go_sem, Act.eval, hsz, hg1, kL, kl1, kl0, w8, w6, Below.refl]
    ·refine tyAt_none rfl ?_
     simp [tyUpon, execOp, go_sem, Act.eval, hsz, hg1, kL, kl1, kl0, w8, w6, Below.refl]
    ·have h3 : EV _ (fv 3) w1 := hp 3 (LC (by kernel_rfl))
     have h4 : EV _ (fv 4) w1 := hp 4 (LC (by kernel_rfl))
     refine tyAt_none rfl ?_
     simp [tyUpon, execOp, go_sem, Act.eval, hc, h3, h4, hsz, hg1, kL, kl1, kl0, w8, w6, Below.refl]
    ·have h5 : EV _ (fv 5) w1 := hp 5 (LC (by kernel_rfl))
     refine tyAt_none rfl ?_
     simp [tyUpon, execOp, go_sem, Act.eval, h5, hsz, hg1, kL, kl1, kl0, w8, w6, Below.refl]
    ·have h6 : EV _ (fv 6) w1 := hp 6 (LC (by kernel_rfl))
     refine tyAt_none rfl ?_
     simp [tyUpon, execOp, go_sem, Act.eval, h6, hsz, hg1, kL, kl1, kl0, w8, w6, Below.refl]
    ·have h7 : EV _ (fv 7) w1 := hp 7 (LC (by kernel_rfl))
     refine tyAt_none rfl ?_
     refine ty_call (f := 57) (args := #[.int .i64 k]) (by simp [execOp, go_sem, Act.eval, h7]) ?_
     exact (HI1.out w1).mono fun e w2 ⟨pv, h1, h2, h3⟩ => ⟨pv, h1, h2, h3⟩
    ·have h2 : PF _ (fv 2) w1 := hp 2 (LC (by kernel_rfl))
     have h8 : PF _ (fv 8) w1 := hp 8 (LC (by kernel_rfl))
     refine tyAt_none rfl ?_
     refine ty_call (f := 70) (args := #[fv 2, fv 8]) (by simp [execOp, go_sem, Act.eval]) ?_
     exact (HA1.out (fv 2) (fv 8) w1 h2 h8).mono fun e w2 ⟨pv, h1, h2, h3⟩ => ⟨pv, h1, h2, h3⟩
   ·intro fv x4 hb1 hv
    have e0 : fv 0 = _ := hv 0 (by omega)
    have q1 : RF x4 (fv 1) tn := hv 1 (by omega)
    obtain ⟨g3, d3, g4, d4, e1⟩ := rf_form q1
    rw [e1] at q1
    have q2 : RF x4 (fv 2) m := hv 2 (by omega)
    obtain ⟨g5, d5, g6, d6, e2⟩ := rf_form q2
    rw [e2] at q2
    have e3 : fv 3 = _ := hv 3 (by omega)
    have e4 : fv 4 = _ := hv 4 (by omega)
    have e5 : fv 5 = _ := hv 5 (by omega)
    have e6 : fv 6 = _ := hv 6 (by omega)
    have e7 : fv 7 = _ := hv 7 (by omega)
    have q8 : RF x4 (fv 8) d := hv 8 (by omega)
    obtain ⟨g7, d7, g8, d8, e8⟩ := rf_form q8
    rw [e8] at q8
    have q9 : RF x4 (fv 9) r := hv 9 (by omega)
    obtain ⟨g9, d9, g10, d10, e9⟩ := rf_form q9
    rw [e9] at q9
    simp only [List.take_succ_cons, List.take_zero, putsV, Act.put, zP, List.drop_succ_cons, List.drop_zero, Nat.zero_add, Nat.reduceAdd, e0, e1, e2, e3, e4, e5, e6, e7, e8, e9]
    replace hL0 := hL0.call (below_drew hb1)
    replace hS := hS.call (below_drew hb1)
    replace hS := hS.cons (rf_rn1 q1)
    replace hS := hS.cons (rf_rn2 q1)
    replace hS := hS.cons (rf_rn1 q2)
    replace hS := hS.cons (rf_rn2 q2)
    replace hS := hS.cons (rf_rn1 q8)
    replace hS := hS.cons (rf_rn2 q8)
    replace hS := hS.cons (rf_rn1 q9)
    replace hS := hS.cons (rf_rn2 q9)
    clear e0 e1 e2 e3 e4 e5 e6 e7 e8 e9 hb1 hv q1 q2 q8 q9 fv
    have hS1 := hS.put ((((Upd.refl x2.heap.size x4).setCell 0 (.bool (zs r.num))).setCell 1 (.slice g9 (tln r.num.natAbs) d9)).setCell 2 (.slice g10 (tln (fd r)) d10)) (hL0.get _ _ mZ) (by intro v hv n; simp only [List.mem_cons, List.not_mem_nil, or_false] at hv; rcases hv with rfl | rfl | rfl <;> simp)
    have hA := hL0.fc
    simp only [zF, Nat.reduceAdd] at hA
    have hP := hL0.put 0 (x2.heap.size) _ rfl [.bool (zs r.num), .slice g9 (tln r.num.natAbs) d9, .slice g10 (tln (fd r)) d10] rfl
    simp only [setAll, List.set_cons_zero, List.set_cons_succ] at hP
    generalize hput1 : (((x4.setCell ⟨x2.heap.size, 0, none⟩ (.bool (zs r.num))).setCell ⟨x2.heap.size, 1, none⟩ (.slice g9 (tln r.num.natAbs) d9)).setCell ⟨x2.heap.size, 2, none⟩ (.slice g10 (tln (fd r)) d10)) = x5 at hP hS1
    have hB1 := hP.fc
    simp only [zF, Nat.reduceAdd] at hB1
    replace hL0 := hP
    replace hS := hS1
    clear hS1
    go_wp2_with fail
    go_roundg (gk - 1)
    case measure => omega
    case rel => exact ⟨i + 1, _, _, _, _, _, by omega, by omega, by first | rfl | go_num, hr.out, hL0, (((show SS x5 [(.slice g2 (tln (fd zq)) d2, (fd zq)), (.slice g1 (tln zq.num.natAbs) d1, zq.num.natAbs)] from fun p hp => hS p (mK (mK (mK (mK (mK (mK (mK (mK (mK (mK hp)))))))))))).cons (hS.get mZ)).cons (hS.get (mK mZ))⟩
  ·obtain rfl : ea = i := by omega
   have hq2 := (hq.trans hv1.out).symm
   subst hq2
   clear hq hin hik
   have kb : (ea : Int) ≤ 1000 := by have := hL1; have := heL.out; omega
   have kl0 : (0 : Int) ≤ (ea : Int) := Int.natCast_nonneg _
   rcases hway.out with ⟨k1, h9, hg9, n1⟩ | ⟨k1, h9, hg9, n0, n1⟩
   all_goals (
    rcases hz.out with gz | ⟨gz, gt⟩
    all_goals (
     have hS1 := hS.put ((((Upd.refl w.heap.size wr).setCell 0 (.bool false)).setCell 1 (.slice none 0 0)).setCell 2 (.slice none 0 0)) (hL0.get _ _ (mK (mK mZ))) (by intro v hv n; simp only [List.mem_cons, List.not_mem_nil, or_false] at hv; rcases hv with rfl | rfl | rfl <;> simp)
     have hA := hL0.fc
     simp only [zF, Nat.reduceAdd] at hA
     have hP := hL0.put 2 (w.heap.size) _ rfl [.bool false, .slice none 0 0, .slice none 0 0] rfl
     simp only [setAll, List.set_cons_zero, List.set_cons_succ] at hP
     generalize hput1 : (((wr.setCell ⟨w.heap.size, 0, none⟩ (.bool false)).setCell ⟨w.heap.size, 1, none⟩ (.slice none 0 0)).setCell ⟨w.heap.size, 2, none⟩ (.slice none 0 0)) = x4 at hP hS1
     have hB1 := hP.fc
     simp only [zF, Nat.reduceAdd] at hB1
     replace hL0 := hP
     replace hS := hS1
     clear hS1
     go_wp2_with fail
     exact bodyPost_ret (v := .tuple #[.agg #[.bool false, .slice none 0 0, .slice none 0 0], .int .i64 4]) (by simp [results, Tryz.results20, go_sem, hB1]) rfl ⟨_, rfl, (rf_nil _), hL0.bl⟩))
end Go.Proofs.YtahfcciihkkegaaGreatDoor
namespace Go.Proofs.YtahfcciihkkegaaGreatDoor
open Go.RowKit Go.Proofs.YtahfcciihkkegaaGreatDoor.Rx
attribute [local irreducible] lo hs sm s64 c64 d64 b64 mh ml pd pc qd qc val hiB str cmpI srD lz nb isq decB zl zh zs dval tln fd
theorem rps_pE (s : ByteArray) (L ea : Nat) (c00 c0 c9 : UInt8) (va : Nat → Rat) (zq tn q1 : Rat) (HZ : ∀ (w : World), Calls Tryz.prog 57 #[.int .i64 0] w fun e w' => ∃ pv, e = .returned pv ∧ RF w' pv zq ∧ Below w.heap.size w w') (HT : ∀ (w : World), Calls Tryz.prog 57 #[.int .i64 10] w fun e w' => ∃ pv, e = .returned pv ∧ RF w' pv tn ∧ Below w.heap.size w w') (hsz : s.size = L) (hL1 : L ≤ 100) (d40 : decide ((4096 : Int) < (L : Int)) = false) (d41 : decide (4096 < L) = false) (hp : (0 : Int) < (L : Int)) (h00 : 0 < s.size) (hg00 : s[0]'h00 = c00) (g00 : ((c00.toNat : Int) == 45) = false) (h0 : zq = va 0) (hv1 : va ea = q1) (hbe : 0 ≤ ea) (heL : ea ≤ L) (H1 : ∀ i : Nat, 0 ≤ i → i < ea → ∃ (h : i < s.size) (c : UInt8) (k : Int) (m d : Rat), s[i]'h = c ∧ (48 : Int) ≤ (c.toNat : Int) ∧ (c.toNat : Int) ≤ 57 ∧ IntKind.u8.wrap ((c.toNat : Int) - 48) = k ∧ IntKind.i64.wrap k = k ∧ (∀ (p0 p1 : Value) (w : World), RF w p0 ((va i)) → RF w p1 tn → Calls Tryz.prog 71 #[p0, p1] w fun e w' => ∃ pv, e = .returned pv ∧ RF w' pv m ∧ Below w.heap.size w w') ∧ (∀ (w : World), Calls Tryz.prog 57 #[.int .i64 k] w fun e w' => ∃ pv, e = .returned pv ∧ RF w' pv d ∧ Below w.heap.size w w') ∧ (∀ (p0 p1 : Value) (w : World), RF w p0 m → RF w p1 d → Calls Tryz.prog 70 #[p0, p1] w fun e w' => ∃ pv, e = .returned pv ∧ RF w' pv ((va (i + 1))) ∧ Below w.heap.size w w')) (hway : ((ea : Int) < (L : Int) ∧ ∃ h : ea < s.size, s[ea]'h = c9 ∧ ¬ (48 : Int) ≤ (c9.toNat : Int))) (y1 : ((ea : Int) == 0) = false) (y2 : (ea == 0) = false) (y3 : ¬ ea = 0) (hb8 : (0 : Int) < (L : Int)) (hz : ((c00.toNat : Int) == 48) = false ∨ (((c00.toNat : Int) == 48) = true ∧ decide ((1 : Int) < (ea : Int)) = false)) (g46 : ((c9.toNat : Int) != 46) = false) (g47 : ((c9.toNat : Int) == 46) = true) (y5 : (((ea : Int) + 1) == (L : Int)) = true) (y6 : (ea + 1 == L) = true) (y7 : (ea + 1 = L)) (y8 : ((ea : Int) + 1 = (L : Int))) (w : World) :
  Calls Tryz.prog 20 #[.string s] w fun e w' => ∃ pv, e = .returned (.tuple #[pv, .int .i64 4]) ∧ RF w' pv 0 ∧ Below w.heap.size w w' := by
 replace HZ := Lib.hid HZ
 replace HT := Lib.hid HT
 have hL0 : GL w w [] := GL.start w
 have hS : SS w [] := SS.nil w
 replace h0 := Lib.hid h0
 replace hv1 := Lib.hid hv1
 replace hbe := Lib.hid hbe
 replace heL := Lib.hid heL
 replace H1 := Lib.hid H1
 replace hway := Lib.hid hway
 replace hz := Lib.hid hz
 obtain ⟨x1, hweq, hL0, hS⟩ := GL.named2 ((hL0.new rfl [.bool false, .slice none 0 0, .slice none 0 0] 46).new (K := w.heap.size + 1) (szA _ _) [.bool false, .slice none 0 0, .slice none 0 0] 46) ((hS.new (.cells #[.bool false, .slice none 0 0, .slice none 0 0] 46)).new (.cells #[.bool false, .slice none 0 0, .slice none 0 0] 46))
 go_enter Tryz.func20, Tryz.ntmps20
 go_wp2_with fail
 with_reducible refine Calls.mono (HZ.out _) ?_
 rintro e x2 ⟨v0, rfl, q0, hb⟩
 replace hL0 := hL0.call hb
 replace hS := hS.call hb
 clear hb hweq
 obtain ⟨g1, d1, g2, d2, rfl⟩ := rf_form q0
 replace hS := hS.cons (rf_rn1 q0)
 replace hS := hS.cons (rf_rn2 q0)
 clear q0
 obtain ⟨x3, hweq, hL0, hS⟩ := GL.named2 (hL0.new rfl [.bool (zs zq.num), .slice g1 (tln zq.num.natAbs) d1, .slice g2 (tln (fd zq)) d2] 46) (hS.new (.cells #[.bool (zs zq.num), .slice g1 (tln zq.num.natAbs) d1, .slice g2 (tln (fd zq)) d2] 46))
 go_wp2_with fail
 clear hweq
 go_loopg [5] (ea - 0) (fun gk iv wr => ∃ (i : Nat) (q : Rat) (ua1 : Option Addr) (ma1 : Nat) (va1 : Option Addr) (na1 : Nat), 0 ≤ i ∧ i + gk = ea ∧ iv = .int .i64 (i : Int) ∧ q = va i ∧ GL w wr [(x2.heap.size, [.bool (zs q.num), .slice ua1 (tln q.num.natAbs) ma1, .slice va1 (tln (fd q)) na1]), (w.heap.size + 1, [.bool false, .slice none 0 0, .slice none 0 0]), (w.heap.size, [.bool false, .slice none 0 0, .slice none 0 0])] ∧ SS wr [(.slice ua1 (tln q.num.natAbs) ma1, q.num.natAbs), (.slice va1 (tln (fd q)) na1, (fd q)), (.slice g2 (tln (fd zq)) d2, (fd zq)), (.slice g1 (tln zq.num.natAbs) d1, zq.num.natAbs)])
 case atStart => exact ⟨0, _, _, _, _, _, Nat.le_refl _, by have := hbe.out; omega, by first | rfl | go_num, h0.out, hL0, ((hS).cons (hS.get mZ)).cons (hS.get (mK mZ))⟩
 case round =>
  clear hL0 hS
  obtain ⟨i, q, ua1, ma1, va1, na1, hbi, hik, rfl, hq, hL0, hS⟩ := hrel
  by_cases hin : i < ea
  ·obtain ⟨h1, c, k, m, d, hg1, dlo, dhi, w8, w6, HM1, HI1, HA1⟩ := H1.out i hbi hin
   obtain ⟨r, hr⟩ : ∃ r, r = va (i + 1) := ⟨_, rfl⟩
   rw [← hq] at HM1
   rw [← hr] at HA1
   replace HM1 := Lib.hid HM1
   replace HI1 := Lib.hid HI1
   replace HA1 := Lib.hid HA1
   replace hq := Lib.hid hq
   replace hr := Lib.hid hr
   have kl0 : (0 : Int) ≤ (i : Int) := Int.natCast_nonneg _
   have kL : i < s.size := h1
   have kl1 : (i : Int) < (L : Int) := by have := hsz; omega
   have kb : (i : Int) ≤ 1000 := by have := hL1; omega
   have kn1 : ¬ (c.toNat : Int) < 48 := by omega
   have kn2 : ¬ (57 : Int) < (c.toNat : Int) := by omega
   go_upto_region 11 with fail
   refine region_tl 10 [EV (.agg #[.bool (zs q.num), .slice ua1 (tln q.num.natAbs) ma1, .slice va1 (tln (fd q)) na1]), PF tn, PF m, EV (.string s), EV (.int .i64 (i : Int)), EV (.int .u8 (c.toNat : Int)), EV (.int .u8 k), EV (.int .i64 k), PF d, PF r] (by kernel_rfl) (by kernel_rfl) ?_ ?_ ?_
   ·repeat' first | exact stays_nil | apply stays_cons | exact stays_eq _ | exact stays_rf _
   ·simp only [List.take_succ_cons, List.take_zero, hopsR, and_true]
    refine ⟨?_, ?_, ?_, ?_, ?_, ?_, ?_, ?_, ?_, ?_⟩ <;> intro fv w1 hb1 hp
    all_goals (have hc := (hL0.call (below_drew hb1)).fc; simp only [zF, Nat.reduceAdd] at hc; simp only [putsV, Act.put, zP, Nat.zero_add, Nat.reduceAdd])
    ·refine tyAt_none rfl ?_
     simp [tyUpon, execOp, go_sem, Act.eval, hc, hsz, hg1, kL, kl1, kl0, w8, w6, Below.refl]
    ·refine tyAt_none rfl ?_
     refine ty_call (f := 57) (args := #[.int .i64 10]) (by simp [execOp, go_sem, Act.eval]) ?_
     exact (HT.out w1).mono fun e w2 ⟨pv, h1, h2, h3⟩ => ⟨pv, h1, h2, h3⟩
    ·have h0 : EV _ (fv 0) w1 := hp 0 (LC (by kernel_rfl))
     have h1 : PF _ (fv 1) w1 := hp 1 (LC (by kernel_rfl))
     refine tyAt_none rfl ?_
     refine ty_call (f := 71) (args := #[.agg #[.bool (zs q.num), .slice ua1 (tln q.num.natAbs) ma1, .slice va1 (tln (fd q)) na1], fv 1]) (by simp [execOp, go_sem, Act.eval, h0]) ?_
     exact (HM1.out (.agg #[.bool (zs q.num), .slice ua1 (tln q.num.natAbs) ma1, .slice va1 (tln (fd q)) na1]) (fv 1) w1 (rf_of (Sl.below (hS.get mZ) (below_drew hb1)) (Sl.below (hS.get (mK mZ)) (below_drew hb1))) h1).mono fun e w2 ⟨pv, h1, h2, h3⟩ => ⟨pv, h1, h2, h3⟩
    ·refine tyAt_none rfl ?_
     simp [tyUpon, execOp, go_sem, Act.eval, hsz, hg1, kL, kl1, kl0, w8, w6, Below.refl]
    ·refine tyAt_none rfl ?_
     simp [tyUpon, execOp, go_sem, Act.eval, hsz, hg1, kL, kl1, kl0, w8, w6, Below.refl]
    ·have h3 : EV _ (fv 3) w1 := hp 3 (LC (by kernel_rfl))
     have h4 : EV _ (fv 4) w1 := hp 4 (LC (by kernel_rfl))
     refine tyAt_none rfl ?_
     simp [tyUpon, execOp, go_sem, Act.eval, hc, h3, h4, hsz, hg1, kL, kl1, kl0, w8, w6, Below.refl]
    ·have h5 : EV _ (fv 5) w1 := hp 5 (LC (by kernel_rfl))
     refine tyAt_none rfl ?_
     simp [tyUpon, execOp, go_sem, Act.eval, h5, hsz, hg1, kL, kl1, kl0, w8, w6, Below.refl]
    ·have h6 : EV _ (fv 6) w1 := hp 6 (LC (by kernel_rfl))
     refine tyAt_none rfl ?_
     simp [tyUpon, execOp, go_sem, Act.eval, h6, hsz, hg1, kL, kl1, kl0, w8, w6, Below.refl]
    ·have h7 : EV _ (fv 7) w1 := hp 7 (LC (by kernel_rfl))
     refine tyAt_none rfl ?_
     refine ty_call (f := 57) (args := #[.int .i64 k]) (by simp [execOp, go_sem, Act.eval, h7]) ?_
     exact (HI1.out w1).mono fun e w2 ⟨pv, h1, h2, h3⟩ => ⟨pv, h1, h2, h3⟩
    ·have h2 : PF _ (fv 2) w1 := hp 2 (LC (by kernel_rfl))
     have h8 : PF _ (fv 8) w1 := hp 8 (LC (by kernel_rfl))
     refine tyAt_none rfl ?_
     refine ty_call (f := 70) (args := #[fv 2, fv 8]) (by simp [execOp, go_sem, Act.eval]) ?_
     exact (HA1.out (fv 2) (fv 8) w1 h2 h8).mono fun e w2 ⟨pv, h1, h2, h3⟩ => ⟨pv, h1, h2, h3⟩
   ·intro fv x4 hb1 hv
    have e0 : fv 0 = _ := hv 0 (by omega)
    have q1 : RF x4 (fv 1) tn := hv 1 (by omega)
    obtain ⟨g3, d3, g4, d4, e1⟩ := rf_form q1
    rw [e1] at q1
    have q2 : RF x4 (fv 2) m := hv 2 (by omega)
    obtain ⟨g5, d5, g6, d6, e2⟩ := rf_form q2
    rw [e2] at q2
    have e3 : fv 3 = _ := hv 3 (by omega)
    have e4 : fv 4 = _ := hv 4 (by omega)
    have e5 : fv 5 = _ := hv 5 (by omega)
    have e6 : fv 6 = _ := hv 6 (by omega)
    have e7 : fv 7 = _ := hv 7 (by omega)
    have q8 : RF x4 (fv 8) d := hv 8 (by omega)
    obtain ⟨g7, d7, g8, d8, e8⟩ := rf_form q8
    rw [e8] at q8
    have q9 : RF x4 (fv 9) r := hv 9 (by omega)
    obtain ⟨g9, d9, g10, d10, e9⟩ := rf_form q9
    rw [e9] at q9
    simp only [List.take_succ_cons, List.take_zero, putsV, Act.put, zP, List.drop_succ_cons, List.drop_zero, Nat.zero_add, Nat.reduceAdd, e0, e1, e2, e3, e4, e5, e6, e7, e8, e9]
    replace hL0 := hL0.call (below_drew hb1)
    replace hS := hS.call (below_drew hb1)
    replace hS := hS.cons (rf_rn1 q1)
    replace hS := hS.cons (rf_rn2 q1)
    replace hS := hS.cons (rf_rn1 q2)
    replace hS := hS.cons (rf_rn2 q2)
    replace hS := hS.cons (rf_rn1 q8)
    replace hS := hS.cons (rf_rn2 q8)
    replace hS := hS.cons (rf_rn1 q9)
    replace hS := hS.cons (rf_rn2 q9)
    clear e0 e1 e2 e3 e4 e5 e6 e7 e8 e9 hb1 hv q1 q2 q8 q9 fv
    have hS1 := hS.put ((((Upd.refl x2.heap.size x4).setCell 0 (.bool (zs r.num))).setCell 1 (.slice g9 (tln r.num.natAbs) d9)).setCell 2 (.slice g10 (tln (fd r)) d10)) (hL0.get _ _ mZ) (by intro v hv n; simp only [List.mem_cons, List.not_mem_nil, or_false] at hv; rcases hv with rfl | rfl | rfl <;> simp)
    have hA := hL0.fc
    simp only [zF, Nat.reduceAdd] at hA
    have hP := hL0.put 0 (x2.heap.size) _ rfl [.bool (zs r.num), .slice g9 (tln r.num.natAbs) d9, .slice g10 (tln (fd r)) d10] rfl
    simp only [setAll, List.set_cons_zero, List.set_cons_succ] at hP
    generalize hput1 : (((x4.setCell ⟨x2.heap.size, 0, none⟩ (.bool (zs r.num))).setCell ⟨x2.heap.size, 1, none⟩ (.slice g9 (tln r.num.natAbs) d9)).setCell ⟨x2.heap.size, 2, none⟩ (.slice g10 (tln (fd r)) d10)) = x5 at hP hS1
    have hB1 := hP.fc
    simp only [zF, Nat.reduceAdd] at hB1
    replace hL0 := hP
    replace hS := hS1
    clear hS1
    go_wp2_with fail
    go_roundg (gk - 1)
    case measure => omega
    case rel => exact ⟨i + 1, _, _, _, _, _, by omega, by omega, by first | rfl | go_num, hr.out, hL0, (((show SS x5 [(.slice g2 (tln (fd zq)) d2, (fd zq)), (.slice g1 (tln zq.num.natAbs) d1, zq.num.natAbs)] from fun p hp => hS p (mK (mK (mK (mK (mK (mK (mK (mK (mK (mK hp)))))))))))).cons (hS.get mZ)).cons (hS.get (mK mZ))⟩
  ·obtain rfl : ea = i := by omega
   have hq2 := (hq.trans hv1.out).symm
   subst hq2
   clear hq hin hik
   have kb : (ea : Int) ≤ 1000 := by have := hL1; have := heL.out; omega
   have kl0 : (0 : Int) ≤ (ea : Int) := Int.natCast_nonneg _
   obtain ⟨k1, h9, hg9, n1⟩ := hway.out
   rcases hz.out with gz | ⟨gz, gt⟩
   all_goals (
    have hS1 := hS.put ((((Upd.refl w.heap.size wr).setCell 0 (.bool false)).setCell 1 (.slice none 0 0)).setCell 2 (.slice none 0 0)) (hL0.get _ _ (mK (mK mZ))) (by intro v hv n; simp only [List.mem_cons, List.not_mem_nil, or_false] at hv; rcases hv with rfl | rfl | rfl <;> simp)
    have hA := hL0.fc
    simp only [zF, Nat.reduceAdd] at hA
    have hP := hL0.put 2 (w.heap.size) _ rfl [.bool false, .slice none 0 0, .slice none 0 0] rfl
    simp only [setAll, List.set_cons_zero, List.set_cons_succ] at hP
    generalize hput1 : (((wr.setCell ⟨w.heap.size, 0, none⟩ (.bool false)).setCell ⟨w.heap.size, 1, none⟩ (.slice none 0 0)).setCell ⟨w.heap.size, 2, none⟩ (.slice none 0 0)) = x4 at hP hS1
    have hB1 := hP.fc
    simp only [zF, Nat.reduceAdd] at hB1
    replace hL0 := hP
    replace hS := hS1
    clear hS1
    go_wp2_with fail
    exact bodyPost_ret (v := .tuple #[.agg #[.bool false, .slice none 0 0, .slice none 0 0], .int .i64 4]) (by simp [results, Tryz.results20, go_sem, hB1]) rfl ⟨_, rfl, (rf_nil _), hL0.bl⟩)
end Go.Proofs.YtahfcciihkkegaaGreatDoor
namespace Go.Proofs.YtahfcciihkkegaaGreatDoor
open Go.RowKit Go.Proofs.YtahfcciihkkegaaGreatDoor.Rx
attribute [local irreducible] lo hs sm s64 c64 d64 b64 mh ml pd pc qd qc val hiB str cmpI srD lz nb isq decB zl zh zs dval tln fd
theorem rps_pC (s : ByteArray) (L ea : Nat) (c00 c0 c9 : UInt8) (va : Nat → Rat) (zq tn q1 : Rat) (HZ : ∀ (w : World), Calls Tryz.prog 57 #[.int .i64 0] w fun e w' => ∃ pv, e = .returned pv ∧ RF w' pv zq ∧ Below w.heap.size w w') (HT : ∀ (w : World), Calls Tryz.prog 57 #[.int .i64 10] w fun e w' => ∃ pv, e = .returned pv ∧ RF w' pv tn ∧ Below w.heap.size w w') (hsz : s.size = L) (hL1 : L ≤ 100) (d40 : decide ((4096 : Int) < (L : Int)) = false) (d41 : decide (4096 < L) = false) (hp : (0 : Int) < (L : Int)) (h00 : 0 < s.size) (hg00 : s[0]'h00 = c00) (g00 : ((c00.toNat : Int) == 45) = false) (h0 : zq = va 0) (hv1 : va ea = q1) (hbe : 0 ≤ ea) (heL : ea ≤ L) (H1 : ∀ i : Nat, 0 ≤ i → i < ea → ∃ (h : i < s.size) (c : UInt8) (k : Int) (m d : Rat), s[i]'h = c ∧ (48 : Int) ≤ (c.toNat : Int) ∧ (c.toNat : Int) ≤ 57 ∧ IntKind.u8.wrap ((c.toNat : Int) - 48) = k ∧ IntKind.i64.wrap k = k ∧ (∀ (p0 p1 : Value) (w : World), RF w p0 ((va i)) → RF w p1 tn → Calls Tryz.prog 71 #[p0, p1] w fun e w' => ∃ pv, e = .returned pv ∧ RF w' pv m ∧ Below w.heap.size w w') ∧ (∀ (w : World), Calls Tryz.prog 57 #[.int .i64 k] w fun e w' => ∃ pv, e = .returned pv ∧ RF w' pv d ∧ Below w.heap.size w w') ∧ (∀ (p0 p1 : Value) (w : World), RF w p0 m → RF w p1 d → Calls Tryz.prog 70 #[p0, p1] w fun e w' => ∃ pv, e = .returned pv ∧ RF w' pv ((va (i + 1))) ∧ Below w.heap.size w w')) (hway : ¬ (ea : Int) < (L : Int)) (y1 : ((ea : Int) == 0) = false) (y2 : (ea == 0) = false) (y3 : ¬ ea = 0) (hb8 : (0 : Int) < (L : Int)) (hz : ((c00.toNat : Int) == 48) = false ∨ (((c00.toNat : Int) == 48) = true ∧ decide ((1 : Int) < (ea : Int)) = false)) (w : World) :
  Calls Tryz.prog 20 #[.string s] w fun e w' => ∃ pv, e = .returned (.tuple #[pv, .int .i64 0]) ∧ RF w' pv q1 ∧ Below w.heap.size w w' := by
 replace HZ := Lib.hid HZ
 replace HT := Lib.hid HT
 have hL0 : GL w w [] := GL.start w
 have hS : SS w [] := SS.nil w
 replace h0 := Lib.hid h0
 replace hv1 := Lib.hid hv1
 replace hbe := Lib.hid hbe
 replace heL := Lib.hid heL
 replace H1 := Lib.hid H1
 replace hway := Lib.hid hway
 replace hz := Lib.hid hz
 obtain ⟨x1, hweq, hL0, hS⟩ := GL.named2 ((hL0.new rfl [.bool false, .slice none 0 0, .slice none 0 0] 46).new (K := w.heap.size + 1) (szA _ _) [.bool false, .slice none 0 0, .slice none 0 0] 46) ((hS.new (.cells #[.bool false, .slice none 0 0, .slice none 0 0] 46)).new (.cells #[.bool false, .slice none 0 0, .slice none 0 0] 46))
 go_enter Tryz.func20, Tryz.ntmps20
 go_wp2_with fail
 with_reducible refine Calls.mono (HZ.out _) ?_
 rintro e x2 ⟨v0, rfl, q0, hb⟩
 replace hL0 := hL0.call hb
 replace hS := hS.call hb
 clear hb hweq
 obtain ⟨g1, d1, g2, d2, rfl⟩ := rf_form q0
 replace hS := hS.cons (rf_rn1 q0)
 replace hS := hS.cons (rf_rn2 q0)
 clear q0
 obtain ⟨x3, hweq, hL0, hS⟩ := GL.named2 (hL0.new rfl [.bool (zs zq.num), .slice g1 (tln zq.num.natAbs) d1, .slice g2 (tln (fd zq)) d2] 46) (hS.new (.cells #[.bool (zs zq.num), .slice g1 (tln zq.num.natAbs) d1, .slice g2 (tln (fd zq)) d2] 46))
 go_wp2_with fail
 clear hweq
 go_loopg [5] (ea - 0) (fun gk iv wr => ∃ (i : Nat) (q : Rat) (ua1 : Option Addr) (ma1 : Nat) (va1 : Option Addr) (na1 : Nat), 0 ≤ i ∧ i + gk = ea ∧ iv = .int .i64 (i : Int) ∧ q = va i ∧ GL w wr [(x2.heap.size, [.bool (zs q.num), .slice ua1 (tln q.num.natAbs) ma1, .slice va1 (tln (fd q)) na1]), (w.heap.size + 1, [.bool false, .slice none 0 0, .slice none 0 0]), (w.heap.size, [.bool false, .slice none 0 0, .slice none 0 0])] ∧ SS wr [(.slice ua1 (tln q.num.natAbs) ma1, q.num.natAbs), (.slice va1 (tln (fd q)) na1, (fd q)), (.slice g2 (tln (fd zq)) d2, (fd zq)), (.slice g1 (tln zq.num.natAbs) d1, zq.num.natAbs)])
 case atStart => exact ⟨0, _, _, _, _, _, Nat.le_refl _, by have := hbe.out; omega, by first | rfl | go_num, h0.out, hL0, ((hS).cons (hS.get mZ)).cons (hS.get (mK mZ))⟩
 case round =>
  clear hL0 hS
  obtain ⟨i, q, ua1, ma1, va1, na1, hbi, hik, rfl, hq, hL0, hS⟩ := hrel
  by_cases hin : i < ea
  ·obtain ⟨h1, c, k, m, d, hg1, dlo, dhi, w8, w6, HM1, HI1, HA1⟩ := H1.out i hbi hin
   obtain ⟨r, hr⟩ : ∃ r, r = va (i + 1) := ⟨_, rfl⟩
   rw [← hq] at HM1
   rw [← hr] at HA1
   replace HM1 := Lib.hid HM1
   replace HI1 := Lib.hid HI1
   replace HA1 := Lib.hid HA1
   replace hq := Lib.hid hq
   replace hr := Lib.hid hr
   have kl0 : (0 : Int) ≤ (i : Int) := Int.natCast_nonneg _
   have kL : i < s.size := h1
   have kl1 : (i : Int) < (L : Int) := by have := hsz; omega
   have kb : (i : Int) ≤ 1000 := by have := hL1; omega
   have kn1 : ¬ (c.toNat : Int) < 48 := by omega
   have kn2 : ¬ (57 : Int) < (c.toNat : Int) := by omega
   go_upto_region 11 with fail
   refine region_tl 10 [EV (.agg #[.bool (zs q.num), .slice ua1 (tln q.num.natAbs) ma1, .slice va1 (tln (fd q)) na1]), PF tn, PF m, EV (.string s), EV (.int .i64 (i : Int)), EV (.int .u8 (c.toNat : Int)), EV (.int .u8 k), EV (.int .i64 k), PF d, PF r] (by kernel_rfl) (by kernel_rfl) ?_ ?_ ?_
   ·repeat' first | exact stays_nil | apply stays_cons | exact stays_eq _ | exact stays_rf _
   ·simp only [List.take_succ_cons, List.take_zero, hopsR, and_true]
    refine ⟨?_, ?_, ?_, ?_, ?_, ?_, ?_, ?_, ?_, ?_⟩ <;> intro fv w1 hb1 hp
    all_goals (have hc := (hL0.call (below_drew hb1)).fc; simp only [zF, Nat.reduceAdd] at hc; simp only [putsV, Act.put, zP, Nat.zero_add, Nat.reduceAdd])
    ·refine tyAt_none rfl ?_
     simp [tyUpon, execOp, go_sem, Act.eval, hc, hsz, hg1, kL, kl1, kl0, w8, w6, Below.refl]
    ·refine tyAt_none rfl ?_
     refine ty_call (f := 57) (args := #[.int .i64 10]) (by simp [execOp, go_sem, Act.eval]) ?_
     exact (HT.out w1).mono fun e w2 ⟨pv, h1, h2, h3⟩ => ⟨pv, h1, h2, h3⟩
    ·have h0 : EV _ (fv 0) w1 := hp 0 (LC (by kernel_rfl))
     have h1 : PF _ (fv 1) w1 := hp 1 (LC (by kernel_rfl))
     refine tyAt_none rfl ?_
     refine ty_call (f := 71) (args := #[.agg #[.bool (zs q.num), .slice ua1 (tln q.num.natAbs) ma1, .slice va1 (tln (fd q)) na1], fv 1]) (by simp [execOp, go_sem, Act.eval, h0]) ?_
     exact (HM1.out (.agg #[.bool (zs q.num), .slice ua1 (tln q.num.natAbs) ma1, .slice va1 (tln (fd q)) na1]) (fv 1) w1 (rf_of (Sl.below (hS.get mZ) (below_drew hb1)) (Sl.below (hS.get (mK mZ)) (below_drew hb1))) h1).mono fun e w2 ⟨pv, h1, h2, h3⟩ => ⟨pv, h1, h2, h3⟩
    ·refine tyAt_none rfl ?_
     simp [tyUpon, execOp, go_sem, Act.eval, hsz, hg1, kL, kl1, kl0, w8, w6, Below.refl]
    ·refine tyAt_none rfl ?_
     simp [tyUpon, execOp, go_sem, Act.eval, hsz, hg1, kL, kl1, kl0, w8, w6, Below.refl]
    ·have h3 : EV _ (fv 3) w1 := hp 3 (LC (by kernel_rfl))
     have h4 : EV _ (fv 4) w1 := hp 4 (LC (by kernel_rfl))
     refine tyAt_none rfl ?_
     simp [tyUpon, execOp, go_sem, Act.eval, hc, h3, h4, hsz, hg1, kL, kl1, kl0, w8, w6, Below.refl]
    ·have h5 : EV _ (fv 5) w1 := hp 5 (LC (by kernel_rfl))
     refine tyAt_none rfl ?_
     simp [tyUpon, execOp, go_sem, Act.eval, h5, hsz, hg1, kL, kl1, kl0, w8, w6, Below.refl]
    ·have h6 : EV _ (fv 6) w1 := hp 6 (LC (by kernel_rfl))
     refine tyAt_none rfl ?_
     simp [tyUpon, execOp, go_sem, Act.eval, h6, hsz, hg1, kL, kl1, kl0, w8, w6, Below.refl]
    ·have h7 : EV _ (fv 7) w1 := hp 7 (LC (by kernel_rfl))
     refine tyAt_none rfl ?_
     refine ty_call (f := 57) (args := #[.int .i64 k]) (by simp [execOp, go_sem, Act.eval, h7]) ?_
     exact (HI1.out w1).mono fun e w2 ⟨pv, h1, h2, h3⟩ => ⟨pv, h1, h2, h3⟩
    ·have h2 : PF _ (fv 2) w1 := hp 2 (LC (by kernel_rfl))
     have h8 : PF _ (fv 8) w1 := hp 8 (LC (by kernel_rfl))
     refine tyAt_none rfl ?_
     refine ty_call (f := 70) (args := #[fv 2, fv 8]) (by simp [execOp, go_sem, Act.eval]) ?_
     exact (HA1.out (fv 2) (fv 8) w1 h2 h8).mono fun e w2 ⟨pv, h1, h2, h3⟩ => ⟨pv, h1, h2, h3⟩
   ·intro fv x4 hb1 hv
    have e0 : fv 0 = _ := hv 0 (by omega)
    have q1 : RF x4 (fv 1) tn := hv 1 (by omega)
    obtain ⟨g3, d3, g4, d4, e1⟩ := rf_form q1
    rw [e1] at q1
    have q2 : RF x4 (fv 2) m := hv 2 (by omega)
    obtain ⟨g5, d5, g6, d6, e2⟩ := rf_form q2
    rw [e2] at q2
    have e3 : fv 3 = _ := hv 3 (by omega)
    have e4 : fv 4 = _ := hv 4 (by omega)
    have e5 : fv 5 = _ := hv 5 (by omega)
    have e6 : fv 6 = _ := hv 6 (by omega)
    have e7 : fv 7 = _ := hv 7 (by omega)
    have q8 : RF x4 (fv 8) d := hv 8 (by omega)
    obtain ⟨g7, d7, g8, d8, e8⟩ := rf_form q8
    rw [e8] at q8
    have q9 : RF x4 (fv 9) r := hv 9 (by omega)
    obtain ⟨g9, d9, g10, d10, e9⟩ := rf_form q9
    rw [e9] at q9
    simp only [List.take_succ_cons, List.take_zero, putsV, Act.put, zP, List.drop_succ_cons, List.drop_zero, Nat.zero_add, Nat.reduceAdd, e0, e1, e2, e3, e4, e5, e6, e7, e8, e9]
    replace hL0 := hL0.call (below_drew hb1)
    replace hS := hS.call (below_drew hb1)
    replace hS := hS.cons (rf_rn1 q1)
    replace hS := hS.cons (rf_rn2 q1)
    replace hS := hS.cons (rf_rn1 q2)
    replace hS := hS.cons (rf_rn2 q2)
    replace hS := hS.cons (rf_rn1 q8)
    replace hS := hS.cons (rf_rn2 q8)
    replace hS := hS.cons (rf_rn1 q9)
    replace hS := hS.cons (rf_rn2 q9)
    clear e0 e1 e2 e3 e4 e5 e6 e7 e8 e9 hb1 hv q1 q2 q8 q9 fv
    have hS1 := hS.put ((((Upd.refl x2.heap.size x4).setCell 0 (.bool (zs r.num))).setCell 1 (.slice g9 (tln r.num.natAbs) d9)).setCell 2 (.slice g10 (tln (fd r)) d10)) (hL0.get _ _ mZ) (by intro v hv n; simp only [List.mem_cons, List.not_mem_nil, or_false] at hv; rcases hv with rfl | rfl | rfl <;> simp)
    have hA := hL0.fc
    simp only [zF, Nat.reduceAdd] at hA
    have hP := hL0.put 0 (x2.heap.size) _ rfl [.bool (zs r.num), .slice g9 (tln r.num.natAbs) d9, .slice g10 (tln (fd r)) d10] rfl
    simp only [setAll, List.set_cons_zero, List.set_cons_succ] at hP
    generalize hput1 : (((x4.setCell ⟨x2.heap.size, 0, none⟩ (.bool (zs r.num))).setCell ⟨x2.heap.size, 1, none⟩ (.slice g9 (tln r.num.natAbs) d9)).setCell ⟨x2.heap.size, 2, none⟩ (.slice g10 (tln (fd r)) d10)) = x5 at hP hS1
    have hB1 := hP.fc
    simp only [zF, Nat.reduceAdd] at hB1
    replace hL0 := hP
    replace hS := hS1
    clear hS1
    go_wp2_with fail
    go_roundg (gk - 1)
    case measure => omega
    case rel => exact ⟨i + 1, _, _, _, _, _, by omega, by omega, by first | rfl | go_num, hr.out, hL0, (((show SS x5 [(.slice g2 (tln (fd zq)) d2, (fd zq)), (.slice g1 (tln zq.num.natAbs) d1, zq.num.natAbs)] from fun p hp => hS p (mK (mK (mK (mK (mK (mK (mK (mK (mK (mK hp)))))))))))).cons (hS.get mZ)).cons (hS.get (mK mZ))⟩
  ·obtain rfl : ea = i := by omega
   have hq2 := (hq.trans hv1.out).symm
   subst hq2
   clear hq hin hik
   have kb : (ea : Int) ≤ 1000 := by have := hL1; have := heL.out; omega
   have kl0 : (0 : Int) ≤ (ea : Int) := Int.natCast_nonneg _
   have k1 := hway.out
   rcases hz.out with gz | ⟨gz, gt⟩
   all_goals (
    have hS1 := hS.put ((((Upd.refl w.heap.size wr).setCell 0 (.bool (zs q1.num))).setCell 1 (.slice ua1 (tln q1.num.natAbs) ma1)).setCell 2 (.slice va1 (tln (fd q1)) na1)) (hL0.get _ _ (mK (mK mZ))) (by intro v hv n; simp only [List.mem_cons, List.not_mem_nil, or_false] at hv; rcases hv with rfl | rfl | rfl <;> simp)
    have hA := hL0.fc
    simp only [zF, Nat.reduceAdd] at hA
    have hP := hL0.put 2 (w.heap.size) _ rfl [.bool (zs q1.num), .slice ua1 (tln q1.num.natAbs) ma1, .slice va1 (tln (fd q1)) na1] rfl
    simp only [setAll, List.set_cons_zero, List.set_cons_succ] at hP
    generalize hput1 : (((wr.setCell ⟨w.heap.size, 0, none⟩ (.bool (zs q1.num))).setCell ⟨w.heap.size, 1, none⟩ (.slice ua1 (tln q1.num.natAbs) ma1)).setCell ⟨w.heap.size, 2, none⟩ (.slice va1 (tln (fd q1)) na1)) = x4 at hP hS1
    have hB1 := hP.fc
    simp only [zF, Nat.reduceAdd] at hB1
    replace hL0 := hP
    replace hS := hS1
    clear hS1
    go_wp2_with fail
    exact bodyPost_ret (v := .tuple #[.agg #[.bool (zs q1.num), .slice ua1 (tln q1.num.natAbs) ma1, .slice va1 (tln (fd q1)) na1], .int .i64 0]) (by simp [results, Tryz.results20, go_sem, hB1]) rfl ⟨_, rfl, (rf_of (hS.get mZ) (hS.get (mK mZ))), hL0.bl⟩)
end Go.Proofs.YtahfcciihkkegaaGreatDoor
namespace Go.Proofs.YtahfcciihkkegaaGreatDoor
open Go.RowKit Go.Proofs.YtahfcciihkkegaaGreatDoor.Rx
attribute [local irreducible] lo hs sm s64 c64 d64 b64 mh ml pd pc qd qc val hiB str cmpI srD lz nb isq decB zl zh zs dval tln fd
theorem rps_pG (s : ByteArray) (L ea fa : Nat) (c00 c0 c9 c8 : UInt8) (va vb sb : Nat → Rat) (zq tn q1 sc0 q2 rr : Rat) (cc : Int) (HZ : ∀ (w : World), Calls Tryz.prog 57 #[.int .i64 0] w fun e w' => ∃ pv, e = .returned pv ∧ RF w' pv zq ∧ Below w.heap.size w w') (HT : ∀ (w : World), Calls Tryz.prog 57 #[.int .i64 10] w fun e w' => ∃ pv, e = .returned pv ∧ RF w' pv tn ∧ Below w.heap.size w w') (HO1 : ∀ (w : World), Calls Tryz.prog 57 #[.int .i64 1] w fun e w' => ∃ pv, e = .returned pv ∧ RF w' pv sc0 ∧ Below w.heap.size w w') (hsz : s.size = L) (hL1 : L ≤ 100) (d40 : decide ((4096 : Int) < (L : Int)) = false) (d41 : decide (4096 < L) = false) (hp : (0 : Int) < (L : Int)) (h00 : 0 < s.size) (hg00 : s[0]'h00 = c00) (g00 : ((c00.toNat : Int) == 45) = false) (h0 : zq = va 0) (hv1 : va ea = q1) (hbe : 0 ≤ ea) (heL : ea ≤ L) (H1 : ∀ i : Nat, 0 ≤ i → i < ea → ∃ (h : i < s.size) (c : UInt8) (k : Int) (m d : Rat), s[i]'h = c ∧ (48 : Int) ≤ (c.toNat : Int) ∧ (c.toNat : Int) ≤ 57 ∧ IntKind.u8.wrap ((c.toNat : Int) - 48) = k ∧ IntKind.i64.wrap k = k ∧ (∀ (p0 p1 : Value) (w : World), RF w p0 ((va i)) → RF w p1 tn → Calls Tryz.prog 71 #[p0, p1] w fun e w' => ∃ pv, e = .returned pv ∧ RF w' pv m ∧ Below w.heap.size w w') ∧ (∀ (w : World), Calls Tryz.prog 57 #[.int .i64 k] w fun e w' => ∃ pv, e = .returned pv ∧ RF w' pv d ∧ Below w.heap.size w w') ∧ (∀ (p0 p1 : Value) (w : World), RF w p0 m → RF w p1 d → Calls Tryz.prog 70 #[p0, p1] w fun e w' => ∃ pv, e = .returned pv ∧ RF w' pv ((va (i + 1))) ∧ Below w.heap.size w w')) (hway : ((ea : Int) < (L : Int) ∧ ∃ h : ea < s.size, s[ea]'h = c9 ∧ ¬ (48 : Int) ≤ (c9.toNat : Int))) (y1 : ((ea : Int) == 0) = false) (y2 : (ea == 0) = false) (y3 : ¬ ea = 0) (hb8 : (0 : Int) < (L : Int)) (hz : ((c00.toNat : Int) == 48) = false ∨ (((c00.toNat : Int) == 48) = true ∧ decide ((1 : Int) < (ea : Int)) = false)) (g46 : ((c9.toNat : Int) != 46) = false) (g47 : ((c9.toNat : Int) == 46) = true) (y5 : (((ea : Int) + 1) == (L : Int)) = false) (y6 : (ea + 1 == L) = false) (y7 : ¬ (ea + 1 = L)) (y8 : ¬ ((ea : Int) + 1 = (L : Int))) (hv2 : q1 = vb (ea + 1)) (hs0 : sc0 = sb (ea + 1)) (hef : ea + 1 ≤ fa) (hfL : fa ≤ L) (H2 : ∀ i : Nat, ea + 1 ≤ i → i < fa → ∃ (h : i < s.size) (c : UInt8) (k : Int) (m d : Rat), s[i]'h = c ∧ (48 : Int) ≤ (c.toNat : Int) ∧ (c.toNat : Int) ≤ 57 ∧ IntKind.u8.wrap ((c.toNat : Int) - 48) = k ∧ IntKind.i64.wrap k = k ∧ (∀ (p0 p1 : Value) (w : World), RF w p0 ((sb i)) → RF w p1 tn → Calls Tryz.prog 55 #[p0, p1] w fun e w' => ∃ pv, e = .returned pv ∧ RF w' pv ((sb (i + 1))) ∧ Below w.heap.size w w') ∧ (∀ (w : World), Calls Tryz.prog 57 #[.int .i64 k] w fun e w' => ∃ pv, e = .returned pv ∧ RF w' pv d ∧ Below w.heap.size w w') ∧ (∀ (p0 p1 : Value) (w : World), RF w p0 ((sb (i + 1))) → RF w p1 d → Calls Tryz.prog 71 #[p0, p1] w fun e w' => ∃ pv, e = .returned pv ∧ RF w' pv m ∧ Below w.heap.size w w') ∧ (∀ (p0 p1 : Value) (w : World), RF w p0 ((vb i)) → RF w p1 m → Calls Tryz.prog 70 #[p0, p1] w fun e w' => ∃ pv, e = .returned pv ∧ RF w' pv ((vb (i + 1))) ∧ Below w.heap.size w w')) (hw2 : (((fa : Int) < (L : Int) ∧ ∃ h : fa < s.size, s[fa]'h = c8 ∧ (c8.toNat : Int) < 48) ∧ 4 = cc ∧ (0 : Rat) = rr) ∨ (((fa : Int) < (L : Int) ∧ ∃ h : fa < s.size, s[fa]'h = c8 ∧ ¬ (c8.toNat : Int) < 48 ∧ (57 : Int) < (c8.toNat : Int)) ∧ 4 = cc ∧ (0 : Rat) = rr) ∨ (¬ (fa : Int) < (L : Int) ∧ 0 = cc ∧ q2 = rr)) (hv3 : vb fa = q2) (w : World) :
  Calls Tryz.prog 20 #[.string s] w fun e w' => ∃ pv, e = .returned (.tuple #[pv, .int .i64 cc]) ∧ RF w' pv rr ∧ Below w.heap.size w w' := by
 replace HZ := Lib.hid HZ
 replace HT := Lib.hid HT
 replace HO1 := Lib.hid HO1
 have hL0 : GL w w [] := GL.start w
 have hS : SS w [] := SS.nil w
 replace h0 := Lib.hid h0
 replace hv1 := Lib.hid hv1
 replace hbe := Lib.hid hbe
 replace heL := Lib.hid heL
 replace H1 := Lib.hid H1
 replace hway := Lib.hid hway
 replace hz := Lib.hid hz
 replace hv2 := Lib.hid hv2
 replace hs0 := Lib.hid hs0
 replace hef := Lib.hid hef
 replace hfL := Lib.hid hfL
 replace H2 := Lib.hid H2
 replace hw2 := Lib.hid hw2
 replace hv3 := Lib.hid hv3
 obtain ⟨x1, hweq, hL0, hS⟩ := GL.named2 ((hL0.new rfl [.bool false, .slice none 0 0, .slice none 0 0] 46).new (K := w.heap.size + 1) (szA _ _) [.bool false, .slice none 0 0, .slice none 0 0] 46) ((hS.new (.cells #[.bool false, .slice none 0 0, .slice none 0 0] 46)).new (.cells #[.bool false, .slice none 0 0, .slice none 0 0] 46))
 go_enter Tryz.func20, Tryz.ntmps20
 go_wp2_with fail
 with_reducible refine Calls.mono (HZ.out _) ?_
 rintro e x2 ⟨v0, rfl, q0, hb⟩
 replace hL0 := hL0.call hb
 replace hS := hS.call hb
 clear hb hweq
 obtain ⟨g1, d1, g2, d2, rfl⟩ := rf_form q0
 replace hS := hS.cons (rf_rn1 q0)
 replace hS := hS.cons (rf_rn2 q0)
 clear q0
 obtain ⟨x3, hweq, hL0, hS⟩ := GL.named2 (hL0.new rfl [.bool (zs zq.num), .slice g1 (tln zq.num.natAbs) d1, .slice g2 (tln (fd zq)) d2] 46) (hS.new (.cells #[.bool (zs zq.num), .slice g1 (tln zq.num.natAbs) d1, .slice g2 (tln (fd zq)) d2] 46))
 go_wp2_with fail
 clear hweq
 go_loopg [5] (ea - 0) (fun gk iv wr => ∃ (i : Nat) (q : Rat) (ua1 : Option Addr) (ma1 : Nat) (va1 : Option Addr) (na1 : Nat), 0 ≤ i ∧ i + gk = ea ∧ iv = .int .i64 (i : Int) ∧ q = va i ∧ GL w wr [(x2.heap.size, [.bool (zs q.num), .slice ua1 (tln q.num.natAbs) ma1, .slice va1 (tln (fd q)) na1]), (w.heap.size + 1, [.bool false, .slice none 0 0, .slice none 0 0]), (w.heap.size, [.bool false, .slice none 0 0, .slice none 0 0])] ∧ SS wr [(.slice ua1 (tln q.num.natAbs) ma1, q.num.natAbs), (.slice va1 (tln (fd q)) na1, (fd q)), (.slice g2 (tln (fd zq)) d2, (fd zq)), (.slice g1 (tln zq.num.natAbs) d1, zq.num.natAbs)])
 case atStart => exact ⟨0, _, _, _, _, _, Nat.le_refl _, by have := hbe.out; omega, by first | rfl | go_num, h0.out, hL0, ((hS).cons (hS.get mZ)).cons (hS.get (mK mZ))⟩
 case round =>
  clear hL0 hS
  obtain ⟨i, q, ua1, ma1, va1, na1, hbi, hik, rfl, hq, hL0, hS⟩ := hrel
  by_cases hin : i < ea
  ·obtain ⟨h1, c, k, m, d, hg1, dlo, dhi, w8, w6, HM1, HI1, HA1⟩ := H1.out i hbi hin
   obtain ⟨r, hr⟩ : ∃ r, r = va (i + 1) := ⟨_, rfl⟩
   rw [← hq] at HM1
   rw [← hr] at HA1
   replace HM1 := Lib.hid HM1
   replace HI1 := Lib.hid HI1
   replace HA1 := Lib.hid HA1
   replace hq := Lib.hid hq
   replace hr := Lib.hid hr
   have kl0 : (0 : Int) ≤ (i : Int) := Int.natCast_nonneg _
   have kL : i < s.size := h1
   have kl1 : (i : Int) < (L : Int) := by have := hsz; omega
   have kb : (i : Int) ≤ 1000 := by have := hL1; omega
   have kn1 : ¬ (c.toNat : Int) < 48 := by omega
   have kn2 : ¬ (57 : Int) < (c.toNat : Int) := by omega
   go_upto_region 11 with fail
   refine region_tl 10 [EV (.agg #[.bool (zs q.num), .slice ua1 (tln q.num.natAbs) ma1, .slice va1 (tln (fd q)) na1]), PF tn, PF m, EV (.string s), EV (.int .i64 (i : Int)), EV (.int .u8 (c.toNat : Int)), EV (.int .u8 k), EV (.int .i64 k), PF d, PF r] (by kernel_rfl) (by kernel_rfl) ?_ ?_ ?_
   ·repeat' first | exact stays_nil | apply stays_cons | exact stays_eq _ | exact stays_rf _
   ·simp only [List.take_succ_cons, List.take_zero, hopsR, and_true]
    refine ⟨?_, ?_, ?_, ?_, ?_, ?_, ?_, ?_, ?_, ?_⟩ <;> intro fv w1 hb1 hp
    all_goals (have hc := (hL0.call (below_drew hb1)).fc; simp only [zF, Nat.reduceAdd] at hc; simp only [putsV, Act.put, zP, Nat.zero_add, Nat.reduceAdd])
    ·refine tyAt_none rfl ?_
     simp [tyUpon, execOp, go_sem, Act.eval, hc, hsz, hg1, kL, kl1, kl0, w8, w6, Below.refl]
    ·refine tyAt_none rfl ?_
     refine ty_call (f := 57) (args := #[.int .i64 10]) (by simp [execOp, go_sem, Act.eval]) ?_
     exact (HT.out w1).mono fun e w2 ⟨pv, h1, h2, h3⟩ => ⟨pv, h1, h2, h3⟩
    ·have h0 : EV _ (fv 0) w1 := hp 0 (LC (by kernel_rfl))
     have h1 : PF _ (fv 1) w1 := hp 1 (LC (by kernel_rfl))
     refine tyAt_none rfl ?_
     refine ty_call (f := 71) (args := #[.agg #[.bool (zs q.num), .slice ua1 (tln q.num.natAbs) ma1, .slice va1 (tln (fd q)) na1], fv 1]) (by simp [execOp, go_sem, Act.eval, h0]) ?_
     exact (HM1.out (.agg #[.bool (zs q.num), .slice ua1 (tln q.num.natAbs) ma1, .slice va1 (tln (fd q)) na1]) (fv 1) w1 (rf_of (Sl.below (hS.get mZ) (below_drew hb1)) (Sl.below (hS.get (mK mZ)) (below_drew hb1))) h1).mono fun e w2 ⟨pv, h1, h2, h3⟩ => ⟨pv, h1, h2, h3⟩
    ·refine tyAt_none rfl ?_
     simp [tyUpon, execOp, go_sem, Act.eval, hsz, hg1, kL, kl1, kl0, w8, w6, Below.refl]
    ·refine tyAt_none rfl ?_
     simp [tyUpon, execOp, go_sem, Act.eval, hsz, hg1, kL, kl1, kl0, w8, w6, Below.refl]
    ·have h3 : EV _ (fv 3) w1 := hp 3 (LC (by kernel_rfl))
     have h4 : EV _ (fv 4) w1 := hp 4 (LC (by kernel_rfl))
     refine tyAt_none rfl ?_
     simp [tyUpon, execOp, go_sem, Act.eval, hc, h3, h4, hsz, hg1, kL, kl1, kl0, w8, w6, Below.refl]
    ·have h5 : EV _ (fv 5) w1 := hp 5 (LC (by kernel_rfl))
     refine tyAt_none rfl ?_
     simp [tyUpon, execOp, go_sem, Act.eval, h5, hsz, hg1, kL, kl1, kl0, w8, w6, Below.refl]
    ·have h6 : EV _ (fv 6) w1 := hp 6 (LC (by kernel_rfl))
     refine tyAt_none rfl ?_
     simp [tyUpon, execOp, go_sem, Act.eval, h6, hsz, hg1, kL, kl1, kl0, w8, w6, Below.refl]
    ·have h7 : EV _ (fv 7) w1 := hp 7 (LC (by kernel_rfl))
     refine tyAt_none rfl ?_
     refine ty_call (f := 57) (args := #[.int .i64 k]) (by simp [execOp, go_sem, Act.eval, h7]) ?_
     exact (HI1.out w1).mono fun e w2 ⟨pv, h1, h2, h3⟩ => ⟨pv, h1, h2, h3⟩
    ·have h2 : PF _ (fv 2) w1 := hp 2 (LC (by kernel_rfl))
     have h8 : PF _ (fv 8) w1 := hp 8 (LC (by kernel_rfl))
     refine tyAt_none rfl ?_
     refine ty_call (f := 70) (args := #[fv 2, fv 8]) (by simp [execOp, go_sem, Act.eval]) ?_
     exact (HA1.out (fv 2) (fv 8) w1 h2 h8).mono fun e w2 ⟨pv, h1, h2, h3⟩ => ⟨pv, h1, h2, h3⟩
   ·intro fv x4 hb1 hv
    have e0 : fv 0 = _ := hv 0 (by omega)
    have q1 : RF x4 (fv 1) tn := hv 1 (by omega)
    obtain ⟨g3, d3, g4, d4, e1⟩ := rf_form q1
    rw [e1] at q1
    have q2 : RF x4 (fv 2) m := hv 2 (by omega)
    obtain ⟨g5, d5, g6, d6, e2⟩ := rf_form q2
    rw [e2] at q2
    have e3 : fv 3 = _ := hv 3 (by omega)
    have e4 : fv 4 = _ := hv 4 (by omega)
    have e5 : fv 5 = _ := hv 5 (by omega)
    have e6 : fv 6 = _ := hv 6 (by omega)
    have e7 : fv 7 = _ := hv 7 (by omega)
    have q8 : RF x4 (fv 8) d := hv 8 (by omega)
    obtain ⟨g7, d7, g8, d8, e8⟩ := rf_form q8
    rw [e8] at q8
    have q9 : RF x4 (fv 9) r := hv 9 (by omega)
    obtain ⟨g9, d9, g10, d10, e9⟩ := rf_form q9
    rw [e9] at q9
    simp only [List.take_succ_cons, List.take_zero, putsV, Act.put, zP, List.drop_succ_cons, List.drop_zero, Nat.zero_add, Nat.reduceAdd, e0, e1, e2, e3, e4, e5, e6, e7, e8, e9]
    replace hL0 := hL0.call (below_drew hb1)
    replace hS := hS.call (below_drew hb1)
    replace hS := hS.cons (rf_rn1 q1)
    replace hS := hS.cons (rf_rn2 q1)
    replace hS := hS.cons (rf_rn1 q2)
    replace hS := hS.cons (rf_rn2 q2)
    replace hS := hS.cons (rf_rn1 q8)
    replace hS := hS.cons (rf_rn2 q8)
    replace hS := hS.cons (rf_rn1 q9)
    replace hS := hS.cons (rf_rn2 q9)
    clear e0 e1 e2 e3 e4 e5 e6 e7 e8 e9 hb1 hv q1 q2 q8 q9 fv
    have hS1 := hS.put ((((Upd.refl x2.heap.size x4).setCell 0 (.bool (zs r.num))).setCell 1 (.slice g9 (tln r.num.natAbs) d9)).setCell 2 (.slice g10 (tln (fd r)) d10)) (hL0.get _ _ mZ) (by intro v hv n; simp only [List.mem_cons, List.not_mem_nil, or_false] at hv; rcases hv with rfl | rfl | rfl <;> simp)
    have hA := hL0.fc
    simp only [zF, Nat.reduceAdd] at hA
    have hP := hL0.put 0 (x2.heap.size) _ rfl [.bool (zs r.num), .slice g9 (tln r.num.natAbs) d9, .slice g10 (tln (fd r)) d10] rfl
    simp only [setAll, List.set_cons_zero, List.set_cons_succ] at hP
    generalize hput1 : (((x4.setCell ⟨x2.heap.size, 0, none⟩ (.bool (zs r.num))).setCell ⟨x2.heap.size, 1, none⟩ (.slice g9 (tln r.num.natAbs) d9)).setCell ⟨x2.heap.size, 2, none⟩ (.slice g10 (tln (fd r)) d10)) = x5 at hP hS1
    have hB1 := hP.fc
    simp only [zF, Nat.reduceAdd] at hB1
    replace hL0 := hP
    replace hS := hS1
    clear hS1
    go_wp2_with fail
    go_roundg (gk - 1)
    case measure => omega
    case rel => exact ⟨i + 1, _, _, _, _, _, by omega, by omega, by first | rfl | go_num, hr.out, hL0, (((show SS x5 [(.slice g2 (tln (fd zq)) d2, (fd zq)), (.slice g1 (tln zq.num.natAbs) d1, zq.num.natAbs)] from fun p hp => hS p (mK (mK (mK (mK (mK (mK (mK (mK (mK (mK hp)))))))))))).cons (hS.get mZ)).cons (hS.get (mK mZ))⟩
  ·obtain rfl : ea = i := by omega
   have hq2 := (hq.trans hv1.out).symm
   subst hq2
   clear hq hin hik
   have kb : (ea : Int) ≤ 1000 := by have := hL1; have := heL.out; omega
   have kl0 : (0 : Int) ≤ (ea : Int) := Int.natCast_nonneg _
   obtain ⟨k1, h9, hg9, n1⟩ := hway.out
   rcases hz.out with gz | ⟨gz, gt⟩
   all_goals (
    go_wp2_with fail
    with_reducible refine Calls.mono (HO1.out _) ?_
    rintro e x4 ⟨v0, rfl, q0, hb⟩
    replace hL0 := hL0.call hb
    replace hS := hS.call hb
    clear hb
    obtain ⟨g3, d3, g4, d4, rfl⟩ := rf_form q0
    replace hS := hS.cons (rf_rn1 q0)
    replace hS := hS.cons (rf_rn2 q0)
    clear q0
    obtain ⟨x5, hweq, hL0, hS⟩ := GL.named2 (hL0.new rfl [.bool (zs sc0.num), .slice g3 (tln sc0.num.natAbs) d3, .slice g4 (tln (fd sc0)) d4] 46) (hS.new (.cells #[.bool (zs sc0.num), .slice g3 (tln sc0.num.natAbs) d3, .slice g4 (tln (fd sc0)) d4] 46))
    go_wp2_with fail
    clear hweq
    go_loopg [5] (fa - (ea + 1)) (fun gk iv wr => ∃ (i : Nat) (q sc : Rat) (ua2 : Option Addr) (ma2 : Nat) (va2 : Option Addr) (na2 : Nat) (ua3 : Option Addr) (ma3 : Nat) (va3 : Option Addr) (na3 : Nat), ea + 1 ≤ i ∧ i + gk = fa ∧ iv = .int .i64 (i : Int) ∧ q = vb i ∧ sc = sb i ∧ GL w wr [(x4.heap.size, [.bool (zs sc.num), .slice ua3 (tln sc.num.natAbs) ma3, .slice va3 (tln (fd sc)) na3]), (x2.heap.size, [.bool (zs q.num), .slice ua2 (tln q.num.natAbs) ma2, .slice va2 (tln (fd q)) na2]), (w.heap.size + 1, [.bool false, .slice none 0 0, .slice none 0 0]), (w.heap.size, [.bool false, .slice none 0 0, .slice none 0 0])] ∧ SS wr [(.slice ua2 (tln q.num.natAbs) ma2, q.num.natAbs), (.slice va2 (tln (fd q)) na2, (fd q)), (.slice ua3 (tln sc.num.natAbs) ma3, sc.num.natAbs), (.slice va3 (tln (fd sc)) na3, (fd sc)), (.slice g4 (tln (fd sc0)) d4, (fd sc0)), (.slice g3 (tln sc0.num.natAbs) d3, sc0.num.natAbs), (.slice ua1 (tln q1.num.natAbs) ma1, q1.num.natAbs), (.slice va1 (tln (fd q1)) na1, (fd q1)), (.slice g2 (tln (fd zq)) d2, (fd zq)), (.slice g1 (tln zq.num.natAbs) d1, zq.num.natAbs)])
    case atStart => exact ⟨ea + 1, _, _, _, _, _, _, _, _, _, _, Nat.le_refl _, by have := hef.out; omega, by first | rfl | go_num, hv2.out, hs0.out, hL0, ((((hS).cons (hS.get mZ)).cons (hS.get (mK mZ))).cons (hS.get (mK (mK (mK mZ))))).cons (hS.get (mK (mK mZ)))⟩
    case round =>
     clear hL0 hS
     obtain ⟨i, q, sc, ua2, ma2, va2, na2, ua3, ma3, va3, na3, hbi, hik, rfl, hq, hsc, hL0, hS⟩ := hrel
     clear kl0 kb k1 h9 hg9 n1
     by_cases hin : i < fa
     ·obtain ⟨h1, c, k, m, d, hg1, dlo, dhi, w8, w6, HD1, HI1, HM1, HA1⟩ := H2.out i hbi hin
      obtain ⟨r, hr⟩ : ∃ r, r = vb (i + 1) := ⟨_, rfl⟩
      obtain ⟨sd, hsd⟩ : ∃ r, r = sb (i + 1) := ⟨_, rfl⟩
      rw [← hsc, ← hsd] at HD1
      rw [← hsd] at HM1
      rw [← hq, ← hr] at HA1
      replace HD1 := Lib.hid HD1
      replace HM1 := Lib.hid HM1
      replace HI1 := Lib.hid HI1
      replace HA1 := Lib.hid HA1
      replace hq := Lib.hid hq
      replace hr := Lib.hid hr
      replace hsc := Lib.hid hsc
      replace hsd := Lib.hid hsd
      have kl0 : (0 : Int) ≤ (i : Int) := Int.natCast_nonneg _
      have kL : i < s.size := h1
      have kl1 : (i : Int) < (L : Int) := by have := hsz; omega
      have kb : (i : Int) ≤ 1000 := by have := hL1; omega
      have kn1 : ¬ (c.toNat : Int) < 48 := by omega
      have kn2 : ¬ (57 : Int) < (c.toNat : Int) := by omega
      go_upto_region 24 with fail
      refine region_tl 3 [EV (.agg #[.bool (zs sc.num), .slice ua3 (tln sc.num.natAbs) ma3, .slice va3 (tln (fd sc)) na3]), PF tn, PF sd] (by kernel_rfl) (by kernel_rfl) ?_ ?_ ?_
      ·repeat' first | exact stays_nil | apply stays_cons | exact stays_eq _ | exact stays_rf _
      ·simp only [List.take_succ_cons, List.take_zero, hopsR, and_true]
       refine ⟨?_, ?_, ?_⟩ <;> intro fv w1 hb1 hp
       all_goals (have hc := (hL0.call (below_drew hb1)).fc; simp only [zF, Nat.reduceAdd] at hc; simp only [putsV, Act.put, zP, Nat.zero_add, Nat.reduceAdd])
       ·refine tyAt_none rfl ?_
        simp [tyUpon, execOp, go_sem, Act.eval, hc, Below.refl]
       ·refine tyAt_none rfl ?_
        refine ty_call (f := 57) (args := #[.int .i64 10]) (by simp [execOp, go_sem, Act.eval]) ?_
        exact (HT.out w1).mono fun e w2 ⟨pv, h1, h2, h3⟩ => ⟨pv, h1, h2, h3⟩
       ·have h0 : EV _ (fv 0) w1 := hp 0 (LC (by kernel_rfl))
        have h1 : PF _ (fv 1) w1 := hp 1 (LC (by kernel_rfl))
        refine tyAt_none rfl ?_
        refine ty_call (f := 55) (args := #[.agg #[.bool (zs sc.num), .slice ua3 (tln sc.num.natAbs) ma3, .slice va3 (tln (fd sc)) na3], fv 1]) (by simp [execOp, go_sem, Act.eval, h0]) ?_
        exact (HD1.out (.agg #[.bool (zs sc.num), .slice ua3 (tln sc.num.natAbs) ma3, .slice va3 (tln (fd sc)) na3]) (fv 1) w1 (rf_of (Sl.below (hS.get (mK (mK mZ))) (below_drew hb1)) (Sl.below (hS.get (mK (mK (mK mZ)))) (below_drew hb1))) h1).mono fun e w2 ⟨pv, h1, h2, h3⟩ => ⟨pv, h1, h2, h3⟩
      ·intro fv x6 hb1 hv
       have e0 : fv 0 = _ := hv 0 (by omega)
       have q1 : RF x6 (fv 1) tn := hv 1 (by omega)
       obtain ⟨g5, d5, g6, d6, e1⟩ := rf_form q1
       rw [e1] at q1
       have q2 : RF x6 (fv 2) sd := hv 2 (by omega)
       obtain ⟨g7, d7, g8, d8, e2⟩ := rf_form q2
       rw [e2] at q2
       simp only [List.take_succ_cons, List.take_zero, putsV, Act.put, zP, List.drop_succ_cons, List.drop_zero, Nat.zero_add, Nat.reduceAdd, e0, e1, e2]
       replace hL0 := hL0.call (below_drew hb1)
       replace hS := hS.call (below_drew hb1)
       replace hS := hS.cons (rf_rn1 q1)
       replace hS := hS.cons (rf_rn2 q1)
       replace hS := hS.cons (rf_rn1 q2)
       replace hS := hS.cons (rf_rn2 q2)
       clear e0 e1 e2 hb1 hv q1 q2 fv
       have hS1 := hS.put ((((Upd.refl x4.heap.size x6).setCell 0 (.bool (zs sd.num))).setCell 1 (.slice g7 (tln sd.num.natAbs) d7)).setCell 2 (.slice g8 (tln (fd sd)) d8)) (hL0.get _ _ mZ) (by intro v hv n; simp only [List.mem_cons, List.not_mem_nil, or_false] at hv; rcases hv with rfl | rfl | rfl <;> simp)
       have hA := hL0.fc
       simp only [zF, Nat.reduceAdd] at hA
       have hP := hL0.put 0 (x4.heap.size) _ rfl [.bool (zs sd.num), .slice g7 (tln sd.num.natAbs) d7, .slice g8 (tln (fd sd)) d8] rfl
       simp only [setAll, List.set_cons_zero, List.set_cons_succ] at hP
       generalize hput1 : (((x6.setCell ⟨x4.heap.size, 0, none⟩ (.bool (zs sd.num))).setCell ⟨x4.heap.size, 1, none⟩ (.slice g7 (tln sd.num.natAbs) d7)).setCell ⟨x4.heap.size, 2, none⟩ (.slice g8 (tln (fd sd)) d8)) = x7 at hP hS1
       have hB1 := hP.fc
       simp only [zF, Nat.reduceAdd] at hB1
       replace hL0 := hP
       replace hS := hS1
       clear hS1
       go_upto_region 25 with fail
       clear hput1 hB1
       clear hA
       refine region_tl 10 [EV (.agg #[.bool (zs q.num), .slice ua2 (tln q.num.natAbs) ma2, .slice va2 (tln (fd q)) na2]), EV (.agg #[.bool (zs sd.num), .slice g7 (tln sd.num.natAbs) d7, .slice g8 (tln (fd sd)) d8]), EV (.string s), EV (.int .i64 (i : Int)), EV (.int .u8 (c.toNat : Int)), EV (.int .u8 k), EV (.int .i64 k), PF d, PF m, PF r] (by kernel_rfl) (by kernel_rfl) ?_ ?_ ?_
       ·repeat' first | exact stays_nil | apply stays_cons | exact stays_eq _ | exact stays_rf _
       ·simp only [List.take_succ_cons, List.take_zero, hopsR, and_true]
        refine ⟨?_, ?_, ?_, ?_, ?_, ?_, ?_, ?_, ?_, ?_⟩ <;> intro fv w1 hb1 hp
        all_goals (have hc := (hL0.call (below_drew hb1)).fc; simp only [zF, Nat.reduceAdd] at hc; simp only [putsV, Act.put, zP, Nat.zero_add, Nat.reduceAdd])
        ·refine tyAt_none rfl ?_
         simp [tyUpon, execOp, go_sem, Act.eval, hc, hsz, hg1, kL, kl1, kl0, w8, w6, Below.refl]
        ·refine tyAt_none rfl ?_
         simp [tyUpon, execOp, go_sem, Act.eval, hc, hsz, hg1, kL, kl1, kl0, w8, w6, Below.refl]
        ·refine tyAt_none rfl ?_
         simp [tyUpon, execOp, go_sem, Act.eval, hsz, hg1, kL, kl1, kl0, w8, w6, Below.refl]
        ·refine tyAt_none rfl ?_
         simp [tyUpon, execOp, go_sem, Act.eval, hsz, hg1, kL, kl1, kl0, w8, w6, Below.refl]
        ·have h2 : EV _ (fv 2) w1 := hp 2 (LC (by kernel_rfl))
         have h3 : EV _ (fv 3) w1 := hp 3 (LC (by kernel_rfl))
         refine tyAt_none rfl ?_
         simp [tyUpon, execOp, go_sem, Act.eval, hc, h2, h3, hsz, hg1, kL, kl1, kl0, w8, w6, Below.refl]
        ·have h4 : EV _ (fv 4) w1 := hp 4 (LC (by kernel_rfl))
         refine tyAt_none rfl ?_
         simp [tyUpon, execOp, go_sem, Act.eval, h4, hsz, hg1, kL, kl1, kl0, w8, w6, Below.refl]
        ·have h5 : EV _ (fv 5) w1 := hp 5 (LC (by kernel_rfl))
         refine tyAt_none rfl ?_
         simp [tyUpon, execOp, go_sem, Act.eval, h5, hsz, hg1, kL, kl1, kl0, w8, w6, Below.refl]
        ·have h6 : EV _ (fv 6) w1 := hp 6 (LC (by kernel_rfl))
         refine tyAt_none rfl ?_
         refine ty_call (f := 57) (args := #[.int .i64 k]) (by simp [execOp, go_sem, Act.eval, h6]) ?_
         exact (HI1.out w1).mono fun e w2 ⟨pv, h1, h2, h3⟩ => ⟨pv, h1, h2, h3⟩
        ·have h1 : EV _ (fv 1) w1 := hp 1 (LC (by kernel_rfl))
         have h7 : PF _ (fv 7) w1 := hp 7 (LC (by kernel_rfl))
         refine tyAt_none rfl ?_
         refine ty_call (f := 71) (args := #[.agg #[.bool (zs sd.num), .slice g7 (tln sd.num.natAbs) d7, .slice g8 (tln (fd sd)) d8], fv 7]) (by simp [execOp, go_sem, Act.eval, h1]) ?_
         exact (HM1.out (.agg #[.bool (zs sd.num), .slice g7 (tln sd.num.natAbs) d7, .slice g8 (tln (fd sd)) d8]) (fv 7) w1 (rf_of (Sl.below (hS.get (mK mZ)) (below_drew hb1)) (Sl.below (hS.get mZ) (below_drew hb1))) h7).mono fun e w2 ⟨pv, h1, h2, h3⟩ => ⟨pv, h1, h2, h3⟩
        ·have h0 : EV _ (fv 0) w1 := hp 0 (LC (by kernel_rfl))
         have h8 : PF _ (fv 8) w1 := hp 8 (LC (by kernel_rfl))
         refine tyAt_none rfl ?_
         refine ty_call (f := 70) (args := #[.agg #[.bool (zs q.num), .slice ua2 (tln q.num.natAbs) ma2, .slice va2 (tln (fd q)) na2], fv 8]) (by simp [execOp, go_sem, Act.eval, h0]) ?_
         exact (HA1.out (.agg #[.bool (zs q.num), .slice ua2 (tln q.num.natAbs) ma2, .slice va2 (tln (fd q)) na2]) (fv 8) w1 (rf_of (Sl.below (hS.get (mK (mK (mK (mK mZ))))) (below_drew hb1)) (Sl.below (hS.get (mK (mK (mK (mK (mK mZ)))))) (below_drew hb1))) h8).mono fun e w2 ⟨pv, h1, h2, h3⟩ => ⟨pv, h1, h2, h3⟩
       ·intro fv x8 hb1 hv
        have e0 : fv 0 = _ := hv 0 (by omega)
        have e1 : fv 1 = _ := hv 1 (by omega)
        have e2 : fv 2 = _ := hv 2 (by omega)
        have e3 : fv 3 = _ := hv 3 (by omega)
        have e4 : fv 4 = _ := hv 4 (by omega)
        have e5 : fv 5 = _ := hv 5 (by omega)
        have e6 : fv 6 = _ := hv 6 (by omega)
        have q7 : RF x8 (fv 7) d := hv 7 (by omega)
        obtain ⟨g9, d9, g10, d10, e7⟩ := rf_form q7
        rw [e7] at q7
        have q8 : RF x8 (fv 8) m := hv 8 (by omega)
        obtain ⟨g11, d11, g12, d12, e8⟩ := rf_form q8
        rw [e8] at q8
        have q9 : RF x8 (fv 9) r := hv 9 (by omega)
        obtain ⟨g13, d13, g14, d14, e9⟩ := rf_form q9
        rw [e9] at q9
        simp only [List.take_succ_cons, List.take_zero, putsV, Act.put, zP, List.drop_succ_cons, List.drop_zero, Nat.zero_add, Nat.reduceAdd, e0, e1, e2, e3, e4, e5, e6, e7, e8, e9]
        replace hL0 := hL0.call (below_drew hb1)
        replace hS := hS.call (below_drew hb1)
        replace hS := hS.cons (rf_rn1 q7)
        replace hS := hS.cons (rf_rn2 q7)
        replace hS := hS.cons (rf_rn1 q8)
        replace hS := hS.cons (rf_rn2 q8)
        replace hS := hS.cons (rf_rn1 q9)
        replace hS := hS.cons (rf_rn2 q9)
        clear e0 e1 e2 e3 e4 e5 e6 e7 e8 e9 hb1 hv q7 q8 q9 fv
        have hS1 := hS.put ((((Upd.refl x2.heap.size x8).setCell 0 (.bool (zs r.num))).setCell 1 (.slice g13 (tln r.num.natAbs) d13)).setCell 2 (.slice g14 (tln (fd r)) d14)) (hL0.get _ _ (mK mZ)) (by intro v hv n; simp only [List.mem_cons, List.not_mem_nil, or_false] at hv; rcases hv with rfl | rfl | rfl <;> simp)
        have hA := hL0.fc
        simp only [zF, Nat.reduceAdd] at hA
        have hP := hL0.put 1 (x2.heap.size) _ rfl [.bool (zs r.num), .slice g13 (tln r.num.natAbs) d13, .slice g14 (tln (fd r)) d14] rfl
        simp only [setAll, List.set_cons_zero, List.set_cons_succ] at hP
        generalize hput2 : (((x8.setCell ⟨x2.heap.size, 0, none⟩ (.bool (zs r.num))).setCell ⟨x2.heap.size, 1, none⟩ (.slice g13 (tln r.num.natAbs) d13)).setCell ⟨x2.heap.size, 2, none⟩ (.slice g14 (tln (fd r)) d14)) = x9 at hP hS1
        have hB2 := hP.fc
        simp only [zF, Nat.reduceAdd] at hB2
        replace hL0 := hP
        replace hS := hS1
        clear hS1
        go_wp2_with fail
        go_roundg (gk - 1)
        case measure => omega
        case rel => exact ⟨i + 1, _, _, _, _, _, _, _, _, _, _, by omega, by omega, by first | rfl | go_num, hr.out, hsd.out, hL0, (((((show SS x9 [(.slice g4 (tln (fd sc0)) d4, (fd sc0)), (.slice g3 (tln sc0.num.natAbs) d3, sc0.num.natAbs), (.slice ua1 (tln q1.num.natAbs) ma1, q1.num.natAbs), (.slice va1 (tln (fd q1)) na1, (fd q1)), (.slice g2 (tln (fd zq)) d2, (fd zq)), (.slice g1 (tln zq.num.natAbs) d1, zq.num.natAbs)] from fun p hp => hS p (mK (mK (mK (mK (mK (mK (mK (mK (mK (mK (mK (mK (mK (mK hp)))))))))))))))).cons (hS.get (mK (mK (mK (mK (mK (mK mZ)))))))).cons (hS.get (mK (mK (mK (mK (mK (mK (mK mZ))))))))).cons (hS.get mZ)).cons (hS.get (mK mZ))⟩
     ·obtain rfl : fa = i := by omega
      rcases hw2.out with ⟨⟨k1, h9, hg9, n1⟩, hcc, hrr⟩ | ⟨⟨k1, h9, hg9, n0, n1⟩, hcc, hrr⟩ | ⟨k1, hcc, hrr⟩
      ·clear hq hsc hin hik hw2
       have kb : (fa : Int) ≤ 1000 := by have := hL1; have := hfL.out; omega
       have kl0 : (0 : Int) ≤ (fa : Int) := Int.natCast_nonneg _
       subst hcc
       subst hrr
       have hS1 := hS.put ((((Upd.refl w.heap.size wr).setCell 0 (.bool false)).setCell 1 (.slice none 0 0)).setCell 2 (.slice none 0 0)) (hL0.get _ _ (mK (mK (mK mZ)))) (by intro v hv n; simp only [List.mem_cons, List.not_mem_nil, or_false] at hv; rcases hv with rfl | rfl | rfl <;> simp)
       have hA := hL0.fc
       simp only [zF, Nat.reduceAdd] at hA
       have hP := hL0.put 3 (w.heap.size) _ rfl [.bool false, .slice none 0 0, .slice none 0 0] rfl
       simp only [setAll, List.set_cons_zero, List.set_cons_succ] at hP
       generalize hput1 : (((wr.setCell ⟨w.heap.size, 0, none⟩ (.bool false)).setCell ⟨w.heap.size, 1, none⟩ (.slice none 0 0)).setCell ⟨w.heap.size, 2, none⟩ (.slice none 0 0)) = x6 at hP hS1
       have hB1 := hP.fc
       simp only [zF, Nat.reduceAdd] at hB1
       replace hL0 := hP
       replace hS := hS1
       clear hS1
       go_wp2_with fail
       exact bodyPost_ret (v := .tuple #[.agg #[.bool false, .slice none 0 0, .slice none 0 0], .int .i64 4]) (by simp [results, Tryz.results20, go_sem, hB1]) rfl ⟨_, rfl, (rf_nil _), hL0.bl⟩
      ·clear hq hsc hin hik hw2
       have kb : (fa : Int) ≤ 1000 := by have := hL1; have := hfL.out; omega
       have kl0 : (0 : Int) ≤ (fa : Int) := Int.natCast_nonneg _
       subst hcc
       subst hrr
       have hS1 := hS.put ((((Upd.refl w.heap.size wr).setCell 0 (.bool false)).setCell 1 (.slice none 0 0)).setCell 2 (.slice none 0 0)) (hL0.get _ _ (mK (mK (mK mZ)))) (by intro v hv n; simp only [List.mem_cons, List.not_mem_nil, or_false] at hv; rcases hv with rfl | rfl | rfl <;> simp)
       have hA := hL0.fc
       simp only [zF, Nat.reduceAdd] at hA
       have hP := hL0.put 3 (w.heap.size) _ rfl [.bool false, .slice none 0 0, .slice none 0 0] rfl
       simp only [setAll, List.set_cons_zero, List.set_cons_succ] at hP
       generalize hput1 : (((wr.setCell ⟨w.heap.size, 0, none⟩ (.bool false)).setCell ⟨w.heap.size, 1, none⟩ (.slice none 0 0)).setCell ⟨w.heap.size, 2, none⟩ (.slice none 0 0)) = x6 at hP hS1
       have hB1 := hP.fc
       simp only [zF, Nat.reduceAdd] at hB1
       replace hL0 := hP
       replace hS := hS1
       clear hS1
       go_wp2_with fail
       exact bodyPost_ret (v := .tuple #[.agg #[.bool false, .slice none 0 0, .slice none 0 0], .int .i64 4]) (by simp [results, Tryz.results20, go_sem, hB1]) rfl ⟨_, rfl, (rf_nil _), hL0.bl⟩
      ·have hq2 := (hq.trans hv3.out).symm
       subst hq2
       clear hq hsc hin hik hw2
       subst hcc
       subst hrr
       have hS1 := hS.put ((((Upd.refl w.heap.size wr).setCell 0 (.bool (zs q2.num))).setCell 1 (.slice ua2 (tln q2.num.natAbs) ma2)).setCell 2 (.slice va2 (tln (fd q2)) na2)) (hL0.get _ _ (mK (mK (mK mZ)))) (by intro v hv n; simp only [List.mem_cons, List.not_mem_nil, or_false] at hv; rcases hv with rfl | rfl | rfl <;> simp)
       have hA := hL0.fc
       simp only [zF, Nat.reduceAdd] at hA
       have hP := hL0.put 3 (w.heap.size) _ rfl [.bool (zs q2.num), .slice ua2 (tln q2.num.natAbs) ma2, .slice va2 (tln (fd q2)) na2] rfl
       simp only [setAll, List.set_cons_zero, List.set_cons_succ] at hP
       generalize hput1 : (((wr.setCell ⟨w.heap.size, 0, none⟩ (.bool (zs q2.num))).setCell ⟨w.heap.size, 1, none⟩ (.slice ua2 (tln q2.num.natAbs) ma2)).setCell ⟨w.heap.size, 2, none⟩ (.slice va2 (tln (fd q2)) na2)) = x6 at hP hS1
       have hB1 := hP.fc
       simp only [zF, Nat.reduceAdd] at hB1
       replace hL0 := hP
       replace hS := hS1
       clear hS1
       go_wp2_with fail
       exact bodyPost_ret (v := .tuple #[.agg #[.bool (zs q2.num), .slice ua2 (tln q2.num.natAbs) ma2, .slice va2 (tln (fd q2)) na2], .int .i64 0]) (by simp [results, Tryz.results20, go_sem, hB1]) rfl ⟨_, rfl, (rf_of (hS.get mZ) (hS.get (mK mZ))), hL0.bl⟩)
end Go.Proofs.YtahfcciihkkegaaGreatDoor
namespace Go.Proofs.YtahfcciihkkegaaGreatDoor
open Go.RowKit Go.Proofs.YtahfcciihkkegaaGreatDoor.Rx
attribute [local irreducible] lo hs sm s64 c64 d64 b64 mh ml pd pc qd qc val hiB str cmpI srD lz nb isq decB zl zh zs dval tln fd
theorem rps_nA (s : ByteArray) (L ea : Nat) (c00 c0 c9 : UInt8) (va : Nat → Rat) (zq tn q1 : Rat) (HZ : ∀ (w : World), Calls Tryz.prog 57 #[.int .i64 0] w fun e w' => ∃ pv, e = .returned pv ∧ RF w' pv zq ∧ Below w.heap.size w w') (HT : ∀ (w : World), Calls Tryz.prog 57 #[.int .i64 10] w fun e w' => ∃ pv, e = .returned pv ∧ RF w' pv tn ∧ Below w.heap.size w w') (hsz : s.size = L) (hL1 : L ≤ 100) (d40 : decide ((4096 : Int) < (L : Int)) = false) (d41 : decide (4096 < L) = false) (hp : (0 : Int) < (L : Int)) (h00 : 0 < s.size) (hg00 : s[0]'h00 = c00) (g00 : ((c00.toNat : Int) == 45) = true) (h0 : zq = va 1) (hv1 : va ea = q1) (hbe : 1 ≤ ea) (heL : ea ≤ L) (H1 : ∀ i : Nat, 1 ≤ i → i < ea → ∃ (h : i < s.size) (c : UInt8) (k : Int) (m d : Rat), s[i]'h = c ∧ (48 : Int) ≤ (c.toNat : Int) ∧ (c.toNat : Int) ≤ 57 ∧ IntKind.u8.wrap ((c.toNat : Int) - 48) = k ∧ IntKind.i64.wrap k = k ∧ (∀ (p0 p1 : Value) (w : World), RF w p0 ((va i)) → RF w p1 tn → Calls Tryz.prog 71 #[p0, p1] w fun e w' => ∃ pv, e = .returned pv ∧ RF w' pv m ∧ Below w.heap.size w w') ∧ (∀ (w : World), Calls Tryz.prog 57 #[.int .i64 k] w fun e w' => ∃ pv, e = .returned pv ∧ RF w' pv d ∧ Below w.heap.size w w') ∧ (∀ (p0 p1 : Value) (w : World), RF w p0 m → RF w p1 d → Calls Tryz.prog 70 #[p0, p1] w fun e w' => ∃ pv, e = .returned pv ∧ RF w' pv ((va (i + 1))) ∧ Below w.heap.size w w')) (hway : ¬ (ea : Int) < (L : Int) ∨ ((ea : Int) < (L : Int) ∧ ∃ h : ea < s.size, s[ea]'h = c9 ∧ ¬ (48 : Int) ≤ (c9.toNat : Int)) ∨ ((ea : Int) < (L : Int) ∧ ∃ h : ea < s.size, s[ea]'h = c9 ∧ (48 : Int) ≤ (c9.toNat : Int) ∧ ¬ (c9.toNat : Int) ≤ 57)) (y1 : ((ea : Int) == 1) = true) (y2 : (ea == 1) = true) (w : World) :
  Calls Tryz.prog 20 #[.string s] w fun e w' => ∃ pv, e = .returned (.tuple #[pv, .int .i64 4]) ∧ RF w' pv 0 ∧ Below w.heap.size w w' := by
 replace HZ := Lib.hid HZ
 replace HT := Lib.hid HT
 have hL0 : GL w w [] := GL.start w
 have hS : SS w [] := SS.nil w
 replace h0 := Lib.hid h0
 replace hv1 := Lib.hid hv1
 replace hbe := Lib.hid hbe
 replace heL := Lib.hid heL
 replace H1 := Lib.hid H1
 replace hway := Lib.hid hway
 replace y1 := Lib.hid y1
 replace y2 := Lib.hid y2
 obtain ⟨x1, hweq, hL0, hS⟩ := GL.named2 ((hL0.new rfl [.bool false, .slice none 0 0, .slice none 0 0] 46).new (K := w.heap.size + 1) (szA _ _) [.bool false, .slice none 0 0, .slice none 0 0] 46) ((hS.new (.cells #[.bool false, .slice none 0 0, .slice none 0 0] 46)).new (.cells #[.bool false, .slice none 0 0, .slice none 0 0] 46))
 go_enter Tryz.func20, Tryz.ntmps20
 go_wp2_with fail
 with_reducible refine Calls.mono (HZ.out _) ?_
 rintro e x2 ⟨v0, rfl, q0, hb⟩
 replace hL0 := hL0.call hb
 replace hS := hS.call hb
 clear hb hweq
 obtain ⟨g1, d1, g2, d2, rfl⟩ := rf_form q0
 replace hS := hS.cons (rf_rn1 q0)
 replace hS := hS.cons (rf_rn2 q0)
 clear q0
 obtain ⟨x3, hweq, hL0, hS⟩ := GL.named2 (hL0.new rfl [.bool (zs zq.num), .slice g1 (tln zq.num.natAbs) d1, .slice g2 (tln (fd zq)) d2] 46) (hS.new (.cells #[.bool (zs zq.num), .slice g1 (tln zq.num.natAbs) d1, .slice g2 (tln (fd zq)) d2] 46))
 go_wp2_with fail
 clear hweq
 go_loopg [5] (ea - 1) (fun gk iv wr => ∃ (i : Nat) (q : Rat) (ua1 : Option Addr) (ma1 : Nat) (va1 : Option Addr) (na1 : Nat), 1 ≤ i ∧ i + gk = ea ∧ iv = .int .i64 (i : Int) ∧ q = va i ∧ GL w wr [(x2.heap.size, [.bool (zs q.num), .slice ua1 (tln q.num.natAbs) ma1, .slice va1 (tln (fd q)) na1]), (w.heap.size + 1, [.bool false, .slice none 0 0, .slice none 0 0]), (w.heap.size, [.bool false, .slice none 0 0, .slice none 0 0])] ∧ SS wr [(.slice ua1 (tln q.num.natAbs) ma1, q.num.natAbs), (.slice va1 (tln (fd q)) na1, (fd q)), (.slice g2 (tln (fd zq)) d2, (fd zq)), (.slice g1 (tln zq.num.natAbs) d1, zq.num.natAbs)])
 case atStart => exact ⟨1, _, _, _, _, _, Nat.le_refl _, by have := hbe.out; omega, by first | rfl | go_num, h0.out, hL0, ((hS).cons (hS.get mZ)).cons (hS.get (mK mZ))⟩
 case round =>
  clear hL0 hS
  obtain ⟨i, q, ua1, ma1, va1, na1, hbi, hik, rfl, hq, hL0, hS⟩ := hrel
  by_cases hin : i < ea
  ·obtain ⟨h1, c, k, m, d, hg1, dlo, dhi, w8, w6, HM1, HI1, HA1⟩ := H1.out i hbi hin
   obtain ⟨r, hr⟩ : ∃ r, r = va (i + 1) := ⟨_, rfl⟩
   rw [← hq] at HM1
   rw [← hr] at HA1
   replace HM1 := Lib.hid HM1
   replace HI1 := Lib.hid HI1
   replace HA1 := Lib.hid HA1
   replace hq := Lib.hid hq
   replace hr := Lib.hid hr
   have kl0 : (0 : Int) ≤ (i : Int) := Int.natCast_nonneg _
   have kL : i < s.size := h1
   have kl1 : (i : Int) < (L : Int) := by have := hsz; omega
   have kb : (i : Int) ≤ 1000 := by have := hL1; omega
   have kn1 : ¬ (c.toNat : Int) < 48 := by omega
   have kn2 : ¬ (57 : Int) < (c.toNat : Int) := by omega
   go_upto_region 11 with fail
   refine region_tl 10 [EV (.agg #[.bool (zs q.num), .slice ua1 (tln q.num.natAbs) ma1, .slice va1 (tln (fd q)) na1]), PF tn, PF m, EV (.string s), EV (.int .i64 (i : Int)), EV (.int .u8 (c.toNat : Int)), EV (.int .u8 k), EV (.int .i64 k), PF d, PF r] (by kernel_rfl) (by kernel_rfl) ?_ ?_ ?_
   ·repeat' first | exact stays_nil | apply stays_cons | exact stays_eq _ | exact stays_rf _
   ·simp only [List.take_succ_cons, List.take_zero, hopsR, and_true]
    refine ⟨?_, ?_, ?_, ?_, ?_, ?_, ?_, ?_, ?_, ?_⟩ <;> intro fv w1 hb1 hp
    all_goals (have hc := (hL0.call (below_drew hb1)).fc; simp only [zF, Nat.reduceAdd] at hc; simp only [putsV, Act.put, zP, Nat.zero_add, Nat.reduceAdd])
    ·refine tyAt_none rfl ?_
     simp [tyUpon, execOp, go_sem, Act.eval, hc, hsz, hg1, kL, kl1, kl0, w8, w6, Below.refl]
    ·refine tyAt_none rfl ?_
     refine ty_call (f := 57) (args := #[.int .i64 10]) (by simp [execOp, go_sem, Act.eval]) ?_
     exact (HT.out w1).mono fun e w2 ⟨pv, h1, h2, h3⟩ => ⟨pv, h1, h2, h3⟩
    ·have h0 : EV _ (fv 0) w1 := hp 0 (LC (by kernel_rfl))
     have h1 : PF _ (fv 1) w1 := hp 1 (LC (by kernel_rfl))
     refine tyAt_none rfl ?_
     refine ty_call (f := 71) (args := #[.agg #[.bool (zs q.num), .slice ua1 (tln q.num.natAbs) ma1, .slice va1 (tln (fd q)) na1], fv 1]) (by simp [execOp, go_sem, Act.eval, h0]) ?_
     exact (HM1.out (.agg #[.bool (zs q.num), .slice ua1 (tln q.num.natAbs) ma1, .slice va1 (tln (fd q)) na1]) (fv 1) w1 (rf_of (Sl.below (hS.get mZ) (below_drew hb1)) (Sl.below (hS.get (mK mZ)) (below_drew hb1))) h1).mono fun e w2 ⟨pv, h1, h2, h3⟩ => ⟨pv, h1, h2, h3⟩
    ·refine tyAt_none rfl ?_
     simp [tyUpon, execOp, go_sem, Act.eval, hsz, hg1, kL, kl1, kl0, w8, w6, Below.refl]
    ·refine tyAt_none rfl ?_
     simp [tyUpon, execOp, go_sem, Act.eval, hsz, hg1, kL, kl1, kl0, w8, w6, Below.refl]
    ·have h3 : EV _ (fv 3) w1 := hp 3 (LC (by kernel_rfl))
     have h4 : EV _ (fv 4) w1 := hp 4 (LC (by kernel_rfl))
     refine tyAt_none rfl ?_
     simp [tyUpon, execOp, go_sem, Act.eval, hc, h3, h4, hsz, hg1, kL, kl1, kl0, w8, w6, Below.refl]
    ·have h5 : EV _ (fv 5) w1 := hp 5 (LC (by kernel_rfl))
     refine tyAt_none rfl ?_
     simp [tyUpon, execOp, go_sem, Act.eval, h5, hsz, hg1, kL, kl1, kl0, w8, w6, Below.refl]
    ·have h6 : EV _ (fv 6) w1 := hp 6 (LC (by kernel_rfl))
     refine tyAt_none rfl ?_
     simp [tyUpon, execOp, go_sem, Act.eval, h6, hsz, hg1, kL, kl1, kl0, w8, w6, Below.refl]
    ·have h7 : EV _ (fv 7) w1 := hp 7 (LC (by kernel_rfl))
     refine tyAt_none rfl ?_
     refine ty_call (f := 57) (args := #[.int .i64 k]) (by simp [execOp, go_sem, Act.eval, h7]) ?_
     exact (HI1.out w1).mono fun e w2 ⟨pv, h1, h2, h3⟩ => ⟨pv, h1, h2, h3⟩
    ·have h2 : PF _ (fv 2) w1 := hp 2 (LC (by kernel_rfl))
     have h8 : PF _ (fv 8) w1 := hp 8 (LC (by kernel_rfl))
     refine tyAt_none rfl ?_
     refine ty_call (f := 70) (args := #[fv 2, fv 8]) (by simp [execOp, go_sem, Act.eval]) ?_
     exact (HA1.out (fv 2) (fv 8) w1 h2 h8).mono fun e w2 ⟨pv, h1, h2, h3⟩ => ⟨pv, h1, h2, h3⟩
   ·intro fv x4 hb1 hv
    have e0 : fv 0 = _ := hv 0 (by omega)
    have q1 : RF x4 (fv 1) tn := hv 1 (by omega)
    obtain ⟨g3, d3, g4, d4, e1⟩ := rf_form q1
    rw [e1] at q1
    have q2 : RF x4 (fv 2) m := hv 2 (by omega)
    obtain ⟨g5, d5, g6, d6, e2⟩ := rf_form q2
    rw [e2] at q2
    have e3 : fv 3 = _ := hv 3 (by omega)
    have e4 : fv 4 = _ := hv 4 (by omega)
    have e5 : fv 5 = _ := hv 5 (by omega)
    have e6 : fv 6 = _ := hv 6 (by omega)
    have e7 : fv 7 = _ := hv 7 (by omega)
    have q8 : RF x4 (fv 8) d := hv 8 (by omega)
    obtain ⟨g7, d7, g8, d8, e8⟩ := rf_form q8
    rw [e8] at q8
    have q9 : RF x4 (fv 9) r := hv 9 (by omega)
    obtain ⟨g9, d9, g10, d10, e9⟩ := rf_form q9
    rw [e9] at q9
    simp only [List.take_succ_cons, List.take_zero, putsV, Act.put, zP, List.drop_succ_cons, List.drop_zero, Nat.zero_add, Nat.reduceAdd, e0, e1, e2, e3, e4, e5, e6, e7, e8, e9]
    replace hL0 := hL0.call (below_drew hb1)
    replace hS := hS.call (below_drew hb1)
    replace hS := hS.cons (rf_rn1 q1)
    replace hS := hS.cons (rf_rn2 q1)
    replace hS := hS.cons (rf_rn1 q2)
    replace hS := hS.cons (rf_rn2 q2)
    replace hS := hS.cons (rf_rn1 q8)
    replace hS := hS.cons (rf_rn2 q8)
    replace hS := hS.cons (rf_rn1 q9)
    replace hS := hS.cons (rf_rn2 q9)
    clear e0 e1 e2 e3 e4 e5 e6 e7 e8 e9 hb1 hv q1 q2 q8 q9 fv
    have hS1 := hS.put ((((Upd.refl x2.heap.size x4).setCell 0 (.bool (zs r.num))).setCell 1 (.slice g9 (tln r.num.natAbs) d9)).setCell 2 (.slice g10 (tln (fd r)) d10)) (hL0.get _ _ mZ) (by intro v hv n; simp only [List.mem_cons, List.not_mem_nil, or_false] at hv; rcases hv with rfl | rfl | rfl <;> simp)
    have hA := hL0.fc
    simp only [zF, Nat.reduceAdd] at hA
    have hP := hL0.put 0 (x2.heap.size) _ rfl [.bool (zs r.num), .slice g9 (tln r.num.natAbs) d9, .slice g10 (tln (fd r)) d10] rfl
    simp only [setAll, List.set_cons_zero, List.set_cons_succ] at hP
    generalize hput1 : (((x4.setCell ⟨x2.heap.size, 0, none⟩ (.bool (zs r.num))).setCell ⟨x2.heap.size, 1, none⟩ (.slice g9 (tln r.num.natAbs) d9)).setCell ⟨x2.heap.size, 2, none⟩ (.slice g10 (tln (fd r)) d10)) = x5 at hP hS1
    have hB1 := hP.fc
    simp only [zF, Nat.reduceAdd] at hB1
    replace hL0 := hP
    replace hS := hS1
    clear hS1
    go_wp2_with fail
    go_roundg (gk - 1)
    case measure => omega
    case rel => exact ⟨i + 1, _, _, _, _, _, by omega, by omega, by first | rfl | go_num, hr.out, hL0, (((show SS x5 [(.slice g2 (tln (fd zq)) d2, (fd zq)), (.slice g1 (tln zq.num.natAbs) d1, zq.num.natAbs)] from fun p hp => hS p (mK (mK (mK (mK (mK (mK (mK (mK (mK (mK hp)))))))))))).cons (hS.get mZ)).cons (hS.get (mK mZ))⟩
  ·obtain rfl : ea = i := by omega
   have hq2 := (hq.trans hv1.out).symm
   subst hq2
   clear hq hin hik
   have kb : (ea : Int) ≤ 1000 := by have := hL1; have := heL.out; omega
   have kl0 : (0 : Int) ≤ (ea : Int) := Int.natCast_nonneg _
   replace y1 := y1.out
   replace y2 := y2.out
   rcases hway.out with k1 | ⟨k1, h9, hg9, n1⟩ | ⟨k1, h9, hg9, n0, n1⟩
   all_goals (
    have hS1 := hS.put ((((Upd.refl w.heap.size wr).setCell 0 (.bool false)).setCell 1 (.slice none 0 0)).setCell 2 (.slice none 0 0)) (hL0.get _ _ (mK (mK mZ))) (by intro v hv n; simp only [List.mem_cons, List.not_mem_nil, or_false] at hv; rcases hv with rfl | rfl | rfl <;> simp)
    have hA := hL0.fc
    simp only [zF, Nat.reduceAdd] at hA
    have hP := hL0.put 2 (w.heap.size) _ rfl [.bool false, .slice none 0 0, .slice none 0 0] rfl
    simp only [setAll, List.set_cons_zero, List.set_cons_succ] at hP
    generalize hput1 : (((wr.setCell ⟨w.heap.size, 0, none⟩ (.bool false)).setCell ⟨w.heap.size, 1, none⟩ (.slice none 0 0)).setCell ⟨w.heap.size, 2, none⟩ (.slice none 0 0)) = x4 at hP hS1
    have hB1 := hP.fc
    simp only [zF, Nat.reduceAdd] at hB1
    replace hL0 := hP
    replace hS := hS1
    clear hS1
    go_wp2_with fail
    exact bodyPost_ret (v := .tuple #[.agg #[.bool false, .slice none 0 0, .slice none 0 0], .int .i64 4]) (by simp [results, Tryz.results20, go_sem, hB1]) rfl ⟨_, rfl, (rf_nil _), hL0.bl⟩)
end Go.Proofs.YtahfcciihkkegaaGreatDoor
namespace Go.Proofs.YtahfcciihkkegaaGreatDoor
open Go.RowKit Go.Proofs.YtahfcciihkkegaaGreatDoor.Rx
attribute [local irreducible] lo hs sm s64 c64 d64 b64 mh ml pd pc qd qc val hiB str cmpI srD lz nb isq decB zl zh zs dval tln fd
theorem rps_nB (s : ByteArray) (L ea : Nat) (c00 c0 c9 : UInt8) (va : Nat → Rat) (zq tn q1 : Rat) (HZ : ∀ (w : World), Calls Tryz.prog 57 #[.int .i64 0] w fun e w' => ∃ pv, e = .returned pv ∧ RF w' pv zq ∧ Below w.heap.size w w') (HT : ∀ (w : World), Calls Tryz.prog 57 #[.int .i64 10] w fun e w' => ∃ pv, e = .returned pv ∧ RF w' pv tn ∧ Below w.heap.size w w') (hsz : s.size = L) (hL1 : L ≤ 100) (d40 : decide ((4096 : Int) < (L : Int)) = false) (d41 : decide (4096 < L) = false) (hp : (0 : Int) < (L : Int)) (h00 : 0 < s.size) (hg00 : s[0]'h00 = c00) (g00 : ((c00.toNat : Int) == 45) = true) (h0 : zq = va 1) (hv1 : va ea = q1) (hbe : 1 ≤ ea) (heL : ea ≤ L) (H1 : ∀ i : Nat, 1 ≤ i → i < ea → ∃ (h : i < s.size) (c : UInt8) (k : Int) (m d : Rat), s[i]'h = c ∧ (48 : Int) ≤ (c.toNat : Int) ∧ (c.toNat : Int) ≤ 57 ∧ IntKind.u8.wrap ((c.toNat : Int) - 48) = k ∧ IntKind.i64.wrap k = k ∧ (∀ (p0 p1 : Value) (w : World), RF w p0 ((va i)) → RF w p1 tn → Calls Tryz.prog 71 #[p0, p1] w fun e w' => ∃ pv, e = .returned pv ∧ RF w' pv m ∧ Below w.heap.size w w') ∧ (∀ (w : World), Calls Tryz.prog 57 #[.int .i64 k] w fun e w' => ∃ pv, e = .returned pv ∧ RF w' pv d ∧ Below w.heap.size w w') ∧ (∀ (p0 p1 : Value) (w : World), RF w p0 m → RF w p1 d → Calls Tryz.prog 70 #[p0, p1] w fun e w' => ∃ pv, e = .returned pv ∧ RF w' pv ((va (i + 1))) ∧ Below w.heap.size w w')) (hway : ¬ (ea : Int) < (L : Int) ∨ ((ea : Int) < (L : Int) ∧ ∃ h : ea < s.size, s[ea]'h = c9 ∧ ¬ (48 : Int) ≤ (c9.toNat : Int)) ∨ ((ea : Int) < (L : Int) ∧ ∃ h : ea < s.size, s[ea]'h = c9 ∧ (48 : Int) ≤ (c9.toNat : Int) ∧ ¬ (c9.toNat : Int) ≤ 57)) (y1 : ((ea : Int) == 1) = false) (y2 : (ea == 1) = false) (y3 : ¬ ea = 1) (hb8 : (1 : Int) < (L : Int)) (hb9 : 1 < s.size) (hgb : s[1]'hb9 = c0) (gz : ((c0.toNat : Int) == 48) = true) (gt : decide ((2 : Int) < (ea : Int)) = true) (w : World) :
  Calls Tryz.prog 20 #[.string s] w fun e w' => ∃ pv, e = .returned (.tuple #[pv, .int .i64 4]) ∧ RF w' pv 0 ∧ Below w.heap.size w w' := by
 replace HZ := Lib.hid HZ
 replace HT := Lib.hid HT
 have hL0 : GL w w [] := GL.start w
 have hS : SS w [] := SS.nil w
 replace h0 := Lib.hid h0
 replace hv1 := Lib.hid hv1
 replace hbe := Lib.hid hbe
 replace heL := Lib.hid heL
 replace H1 := Lib.hid H1
 replace hway := Lib.hid hway
 obtain ⟨x1, hweq, hL0, hS⟩ := GL.named2 ((hL0.new rfl [.bool false, .slice none 0 0, .slice none 0 0] 46).new (K := w.heap.size + 1) (szA _ _) [.bool false, .slice none 0 0, .slice none 0 0] 46) ((hS.new (.cells #[.bool false, .slice none 0 0, .slice none 0 0] 46)).new (.cells #[.bool false, .slice none 0 0, .slice none 0 0] 46))
 go_enter Tryz.func20, Tryz.ntmps20
 go_wp2_with fail
 with_reducible refine Calls.mono (HZ.out _) ?_
 rintro e x2 ⟨v0, rfl, q0, hb⟩
 replace hL0 := hL0.call hb
 replace hS := hS.call hb
 clear hb hweq
 obtain ⟨g1, d1, g2, d2, rfl⟩ := rf_form q0
 replace hS := hS.cons (rf_rn1 q0)
 replace hS := hS.cons (rf_rn2 q0)
 clear q0
 obtain ⟨x3, hweq, hL0, hS⟩ := GL.named2 (hL0.new rfl [.bool (zs zq.num), .slice g1 (tln zq.num.natAbs) d1, .slice g2 (tln (fd zq)) d2] 46) (hS.new (.cells #[.bool (zs zq.num), .slice g1 (tln zq.num.natAbs) d1, .slice g2 (tln (fd zq)) d2] 46))
 go_wp2_with fail
 clear hweq
 go_loopg [5] (ea - 1) (fun gk iv wr => ∃ (i : Nat) (q : Rat) (ua1 : Option Addr) (ma1 : Nat) (va1 : Option Addr) (na1 : Nat), 1 ≤ i ∧ i + gk = ea ∧ iv = .int .i64 (i : Int) ∧ q = va i ∧ GL w wr [(x2.heap.size, [.bool (zs q.num), .slice ua1 (tln q.num.natAbs) ma1, .slice va1 (tln (fd q)) na1]), (w.heap.size + 1, [.bool false, .slice none 0 0, .slice none 0 0]), (w.heap.size, [.bool false, .slice none 0 0, .slice none 0 0])] ∧ SS wr [(.slice ua1 (tln q.num.natAbs) ma1, q.num.natAbs), (.slice va1 (tln (fd q)) na1, (fd q)), (.slice g2 (tln (fd zq)) d2, (fd zq)), (.slice g1 (tln zq.num.natAbs) d1, zq.num.natAbs)])
 case atStart => exact ⟨1, _, _, _, _, _, Nat.le_refl _, by have := hbe.out; omega, by first | rfl | go_num, h0.out, hL0, ((hS).cons (hS.get mZ)).cons (hS.get (mK mZ))⟩
 case round =>
  clear hL0 hS
  obtain ⟨i, q, ua1, ma1, va1, na1, hbi, hik, rfl, hq, hL0, hS⟩ := hrel
  by_cases hin : i < ea
  ·obtain ⟨h1, c, k, m, d, hg1, dlo, dhi, w8, w6, HM1, HI1, HA1⟩ := H1.out i hbi hin
   obtain ⟨r, hr⟩ : ∃ r, r = va (i + 1) := ⟨_, rfl⟩
   rw [← hq] at HM1
   rw [← hr] at HA1
   replace HM1 := Lib.hid HM1
   replace HI1 := Lib.hid HI1
   replace HA1 := Lib.hid HA1
   replace hq := Lib.hid hq
   replace hr := Lib.hid hr
   have kl0 : (0 : Int) ≤ (i : Int) := Int.natCast_nonneg _
   have kL : i < s.size := h1
   have kl1 : (i : Int) < (L : Int) := by have := hsz; omega
   have kb : (i : Int) ≤ 1000 := by have := hL1; omega
   have kn1 : ¬ (c.toNat : Int) < 48 := by omega
   have kn2 : ¬ (57 : Int) < (c.toNat : Int) := by omega
   go_upto_region 11 with fail
   refine region_tl 10 [EV (.agg #[.bool (zs q.num), .slice ua1 (tln q.num.natAbs) ma1, .slice va1 (tln (fd q)) na1]), PF tn, PF m, EV (.string s), EV (.int .i64 (i : Int)), EV (.int .u8 (c.toNat : Int)), EV (.int .u8 k), EV (.int .i64 k), PF d, PF r] (by kernel_rfl) (by kernel_rfl) ?_ ?_ ?_
   ·repeat' first | exact stays_nil | apply stays_cons | exact stays_eq _ | exact stays_rf _
   ·simp only [List.take_succ_cons, List.take_zero, hopsR, and_true]
    refine ⟨?_, ?_, ?_, ?_, ?_, ?_, ?_, ?_, ?_, ?_⟩ <;> intro fv w1 hb1 hp
    all_goals (have hc := (hL0.call (below_drew hb1)).fc; simp only [zF, Nat.reduceAdd] at hc; simp only [putsV, Act.put, zP, Nat.zero_add, Nat.reduceAdd])
    ·refine tyAt_none rfl ?_
     simp [tyUpon, execOp, go_sem, Act.eval, hc, hsz, hg1, kL, kl1, kl0, w8, w6, Below.refl]
    ·refine tyAt_none rfl ?_
     refine ty_call (f := 57) (args := #[.int .i64 10]) (by simp [execOp, go_sem, Act.eval]) ?_
     exact (HT.out w1).mono fun e w2 ⟨pv, h1, h2, h3⟩ => ⟨pv, h1, h2, h3⟩
    ·have h0 : EV _ (fv 0) w1 := hp 0 (LC (by kernel_rfl))
     have h1 : PF _ (fv 1) w1 := hp 1 (LC (by kernel_rfl))
     refine tyAt_none rfl ?_
     refine ty_call (f := 71) (args := #[.agg #[.bool (zs q.num), .slice ua1 (tln q.num.natAbs) ma1, .slice va1 (tln (fd q)) na1], fv 1]) (by simp [execOp, go_sem, Act.eval, h0]) ?_
     exact (HM1.out (.agg #[.bool (zs q.num), .slice ua1 (tln q.num.natAbs) ma1, .slice va1 (tln (fd q)) na1]) (fv 1) w1 (rf_of (Sl.below (hS.get mZ) (below_drew hb1)) (Sl.below (hS.get (mK mZ)) (below_drew hb1))) h1).mono fun e w2 ⟨pv, h1, h2, h3⟩ => ⟨pv, h1, h2, h3⟩
    ·refine tyAt_none rfl ?_
     simp [tyUpon, execOp, go_sem, Act.eval, hsz, hg1, kL, kl1, kl0, w8, w6, Below.refl]
    ·refine tyAt_none rfl ?_
     simp [tyUpon, execOp, go_sem, Act.eval, hsz, hg1, kL, kl1, kl0, w8, w6, Below.refl]
    ·have h3 : EV _ (fv 3) w1 := hp 3 (LC (by kernel_rfl))
     have h4 : EV _ (fv 4) w1 := hp 4 (LC (by kernel_rfl))
     refine tyAt_none rfl ?_
     simp [tyUpon, execOp, go_sem, Act.eval, hc, h3, h4, hsz, hg1, kL, kl1, kl0, w8, w6, Below.refl]
    ·have h5 : EV _ (fv 5) w1 := hp 5 (LC (by kernel_rfl))
     refine tyAt_none rfl ?_
     simp [tyUpon, execOp, go_sem, Act.eval, h5, hsz, hg1, kL, kl1, kl0, w8, w6, Below.refl]
    ·have h6 : EV _ (fv 6) w1 := hp 6 (LC (by kernel_rfl))
     refine tyAt_none rfl ?_
     simp [tyUpon, execOp, go_sem, Act.eval, h6, hsz, hg1, kL, kl1, kl0, w8, w6, Below.refl]
    ·have h7 : EV _ (fv 7) w1 := hp 7 (LC (by kernel_rfl))
     refine tyAt_none rfl ?_
     refine ty_call (f := 57) (args := #[.int .i64 k]) (by simp [execOp, go_sem, Act.eval, h7]) ?_
     exact (HI1.out w1).mono fun e w2 ⟨pv, h1, h2, h3⟩ => ⟨pv, h1, h2, h3⟩
    ·have h2 : PF _ (fv 2) w1 := hp 2 (LC (by kernel_rfl))
     have h8 : PF _ (fv 8) w1 := hp 8 (LC (by kernel_rfl))
     refine tyAt_none rfl ?_
     refine ty_call (f := 70) (args := #[fv 2, fv 8]) (by simp [execOp, go_sem, Act.eval]) ?_
     exact (HA1.out (fv 2) (fv 8) w1 h2 h8).mono fun e w2 ⟨pv, h1, h2, h3⟩ => ⟨pv, h1, h2, h3⟩
   ·intro fv x4 hb1 hv
    have e0 : fv 0 = _ := hv 0 (by omega)
    have q1 : RF x4 (fv 1) tn := hv 1 (by omega)
    obtain ⟨g3, d3, g4, d4, e1⟩ := rf_form q1
    rw [e1] at q1
    have q2 : RF x4 (fv 2) m := hv 2 (by omega)
    obtain ⟨g5, d5, g6, d6, e2⟩ := rf_form q2
    rw [e2] at q2
    have e3 : fv 3 = _ := hv 3 (by omega)
    have e4 : fv 4 = _ := hv 4 (by omega)
    have e5 : fv 5 = _ := hv 5 (by omega)
    have e6 : fv 6 = _ := hv 6 (by omega)
    have e7 : fv 7 = _ := hv 7 (by omega)
    have q8 : RF x4 (fv 8) d := hv 8 (by omega)
    obtain ⟨g7, d7, g8, d8, e8⟩ := rf_form q8
    rw [e8] at q8
    have q9 : RF x4 (fv 9) r := hv 9 (by omega)
    obtain ⟨g9, d9, g10, d10, e9⟩ := rf_form q9
    rw [e9] at q9
    simp only [List.take_succ_cons, List.take_zero, putsV, Act.put, zP, List.drop_succ_cons, List.drop_zero, Nat.zero_add, Nat.reduceAdd, e0, e1, e2, e3, e4, e5, e6, e7, e8, e9]
    replace hL0 := hL0.call (below_drew hb1)
    replace hS := hS.call (below_drew hb1)
    replace hS := hS.cons (rf_rn1 q1)
    replace hS := hS.cons (rf_rn2 q1)
    replace hS := hS.cons (rf_rn1 q2)
    replace hS := hS.cons (rf_rn2 q2)
    replace hS := hS.cons (rf_rn1 q8)
    replace hS := hS.cons (rf_rn2 q8)
    replace hS := hS.cons (rf_rn1 q9)
    replace hS := hS.cons (rf_rn2 q9)
    clear e0 e1 e2 e3 e4 e5 e6 e7 e8 e9 hb1 hv q1 q2 q8 q9 fv
    have hS1 := hS.put ((((Upd.refl x2.heap.size x4).setCell 0 (.bool (zs r.num))).setCell 1 (.slice g9 (tln r.num.natAbs) d9)).setCell 2 (.slice g10 (tln (fd r)) d10)) (hL0.get _ _ mZ) (by intro v hv n; simp only [List.mem_cons, List.not_mem_nil, or_false] at hv; rcases hv with rfl | rfl | rfl <;> simp)
    have hA := hL0.fc
    simp only [zF, Nat.reduceAdd] at hA
    have hP := hL0.put 0 (x2.heap.size) _ rfl [.bool (zs r.num), .slice g9 (tln r.num.natAbs) d9, .slice g10 (tln (fd r)) d10] rfl
    simp only [setAll, List.set_cons_zero, List.set_cons_succ] at hP
    generalize hput1 : (((x4.setCell ⟨x2.heap.size, 0, none⟩ (.bool (zs r.num))).setCell ⟨x2.heap.size, 1, none⟩ (.slice g9 (tln r.num.natAbs) d9)).setCell ⟨x2.heap.size, 2, none⟩ (.slice g10 (tln (fd r)) d10)) = x5 at hP hS1
    have hB1 := hP.fc
    simp only [zF, Nat.reduceAdd] at hB1
    replace hL0 := hP
    replace hS := hS1
    clear hS1
    go_wp2_with fail
    go_roundg (gk - 1)
    case measure => omega
    case rel => exact ⟨i + 1, _, _, _, _, _, by omega, by omega, by first | rfl | go_num, hr.out, hL0, (((show SS x5 [(.slice g2 (tln (fd zq)) d2, (fd zq)), (.slice g1 (tln zq.num.natAbs) d1, zq.num.natAbs)] from fun p hp => hS p (mK (mK (mK (mK (mK (mK (mK (mK (mK (mK hp)))))))))))).cons (hS.get mZ)).cons (hS.get (mK mZ))⟩
  ·obtain rfl : ea = i := by omega
   have hq2 := (hq.trans hv1.out).symm
   subst hq2
   clear hq hin hik
   have kb : (ea : Int) ≤ 1000 := by have := hL1; have := heL.out; omega
   have kl0 : (0 : Int) ≤ (ea : Int) := Int.natCast_nonneg _
   rcases hway.out with k1 | ⟨k1, h9, hg9, n1⟩ | ⟨k1, h9, hg9, n0, n1⟩
   all_goals (
    have hS1 := hS.put ((((Upd.refl w.heap.size wr).setCell 0 (.bool false)).setCell 1 (.slice none 0 0)).setCell 2 (.slice none 0 0)) (hL0.get _ _ (mK (mK mZ))) (by intro v hv n; simp only [List.mem_cons, List.not_mem_nil, or_false] at hv; rcases hv with rfl | rfl | rfl <;> simp)
    have hA := hL0.fc
    simp only [zF, Nat.reduceAdd] at hA
    have hP := hL0.put 2 (w.heap.size) _ rfl [.bool false, .slice none 0 0, .slice none 0 0] rfl
    simp only [setAll, List.set_cons_zero, List.set_cons_succ] at hP
    generalize hput1 : (((wr.setCell ⟨w.heap.size, 0, none⟩ (.bool false)).setCell ⟨w.heap.size, 1, none⟩ (.slice none 0 0)).setCell ⟨w.heap.size, 2, none⟩ (.slice none 0 0)) = x4 at hP hS1
    have hB1 := hP.fc
    simp only [zF, Nat.reduceAdd] at hB1
    replace hL0 := hP
    replace hS := hS1
    clear hS1
    go_wp2_with fail
    exact bodyPost_ret (v := .tuple #[.agg #[.bool false, .slice none 0 0, .slice none 0 0], .int .i64 4]) (by simp [results, Tryz.results20, go_sem, hB1]) rfl ⟨_, rfl, (rf_nil _), hL0.bl⟩)
end Go.Proofs.YtahfcciihkkegaaGreatDoor
namespace Go.Proofs.YtahfcciihkkegaaGreatDoor
open Go.RowKit Go.Proofs.YtahfcciihkkegaaGreatDoor.Rx
attribute [local irreducible] lo hs sm s64 c64 d64 b64 mh ml pd pc qd qc val hiB str cmpI srD lz nb isq decB zl zh zs dval tln fd
theorem rps_nD (s : ByteArray) (L ea : Nat) (c00 c0 c9 : UInt8) (va : Nat → Rat) (zq tn q1 : Rat) (HZ : ∀ (w : World), Calls Tryz.prog 57 #[.int .i64 0] w fun e w' => ∃ pv, e = .returned pv ∧ RF w' pv zq ∧ Below w.heap.size w w') (HT : ∀ (w : World), Calls Tryz.prog 57 #[.int .i64 10] w fun e w' => ∃ pv, e = .returned pv ∧ RF w' pv tn ∧ Below w.heap.size w w') (hsz : s.size = L) (hL1 : L ≤ 100) (d40 : decide ((4096 : Int) < (L : Int)) = false) (d41 : decide (4096 < L) = false) (hp : (0 : Int) < (L : Int)) (h00 : 0 < s.size) (hg00 : s[0]'h00 = c00) (g00 : ((c00.toNat : Int) == 45) = true) (h0 : zq = va 1) (hv1 : va ea = q1) (hbe : 1 ≤ ea) (heL : ea ≤ L) (H1 : ∀ i : Nat, 1 ≤ i → i < ea → ∃ (h : i < s.size) (c : UInt8) (k : Int) (m d : Rat), s[i]'h = c ∧ (48 : Int) ≤ (c.toNat : Int) ∧ (c.toNat : Int) ≤ 57 ∧ IntKind.u8.wrap ((c.toNat : Int) - 48) = k ∧ IntKind.i64.wrap k = k ∧ (∀ (p0 p1 : Value) (w : World), RF w p0 ((va i)) → RF w p1 tn → Calls Tryz.prog 71 #[p0, p1] w fun e w' => ∃ pv, e = .returned pv ∧ RF w' pv m ∧ Below w.heap.size w w') ∧ (∀ (w : World), Calls Tryz.prog 57 #[.int .i64 k] w fun e w' => ∃ pv, e = .returned pv ∧ RF w' pv d ∧ Below w.heap.size w w') ∧ (∀ (p0 p1 : Value) (w : World), RF w p0 m → RF w p1 d → Calls Tryz.prog 70 #[p0, p1] w fun e w' => ∃ pv, e = .returned pv ∧ RF w' pv ((va (i + 1))) ∧ Below w.heap.size w w')) (hway : ((ea : Int) < (L : Int) ∧ ∃ h : ea < s.size, s[ea]'h = c9 ∧ ¬ (48 : Int) ≤ (c9.toNat : Int)) ∨ ((ea : Int) < (L : Int) ∧ ∃ h : ea < s.size, s[ea]'h = c9 ∧ (48 : Int) ≤ (c9.toNat : Int) ∧ ¬ (c9.toNat : Int) ≤ 57)) (y1 : ((ea : Int) == 1) = false) (y2 : (ea == 1) = false) (y3 : ¬ ea = 1) (hb8 : (1 : Int) < (L : Int)) (hb9 : 1 < s.size) (hgb : s[1]'hb9 = c0) (hz : ((c0.toNat : Int) == 48) = false ∨ (((c0.toNat : Int) == 48) = true ∧ decide ((2 : Int) < (ea : Int)) = false)) (g46 : ((c9.toNat : Int) != 46) = true) (g47 : ((c9.toNat : Int) == 46) = false) (w : World) :
  Calls Tryz.prog 20 #[.string s] w fun e w' => ∃ pv, e = .returned (.tuple #[pv, .int .i64 4]) ∧ RF w' pv 0 ∧ Below w.heap.size w w' := by
 replace HZ := Lib.hid HZ
 replace HT := Lib.hid HT
 have hL0 : GL w w [] := GL.start w
 have hS : SS w [] := SS.nil w
 replace h0 := Lib.hid h0
 replace hv1 := Lib.hid hv1
 replace hbe := Lib.hid hbe
 replace heL := Lib.hid heL
 replace H1 := Lib.hid H1
 replace hway := Lib.hid hway
 replace hz := Lib.hid hz
 obtain ⟨x1, hweq, hL0, hS⟩ := GL.named2 ((hL0.new rfl [.bool false, .slice none 0 0, .slice none 0 0] 46).new (K := w.heap.size + 1) (szA _ _) [.bool false, .slice none 0 0, .slice none 0 0] 46) ((hS.new (.cells #[.bool false, .slice none 0 0, .slice none 0 0] 46)).new (.cells #[.bool false, .slice none 0 0, .slice none 0 0] 46))
 go_enter Tryz.func20, Tryz.ntmps20
 go_wp2_with fail
 with_reducible refine Calls.mono (HZ.out _) ?_
 rintro e x2 ⟨v0, rfl, q0, hb⟩
 replace hL0 := hL0.call hb
 replace hS := hS.call hb
 clear hb hweq
 obtain ⟨g1, d1, g2, d2, rfl⟩ := rf_form q0
 replace hS := hS.cons (rf_rn1 q0)
 replace hS := hS.cons (rf_rn2 q0)
 clear q0
 obtain ⟨x3, hweq, hL0, hS⟩ := GL.named2 (hL0.new rfl [.bool (zs zq.num), .slice g1 (tln zq.num.natAbs) d1, .slice g2 (tln (fd zq)) d2] 46) (hS.new (.cells #[.bool (zs zq.num), .slice g1 (tln zq.num.natAbs) d1, .slice g2 (tln (fd zq)) d2] 46))
 go_wp2_with fail
 clear hweq
 go_loopg [5] (ea - 1) (fun gk iv wr => ∃ (i : Nat) (q : Rat) (ua1 : Option Addr) (ma1 : Nat) (va1 : Option Addr) (na1 : Nat), 1 ≤ i ∧ i + gk = ea ∧ iv = .int .i64 (i : Int) ∧ q = va i ∧ GL w wr [(x2.heap.size, [.bool (zs q.num), .slice ua1 (tln q.num.natAbs) ma1, .slice va1 (tln (fd q)) na1]), (w.heap.size + 1, [.bool false, .slice none 0 0, .slice none 0 0]), (w.heap.size, [.bool false, .slice none 0 0, .slice none 0 0])] ∧ SS wr [(.slice ua1 (tln q.num.natAbs) ma1, q.num.natAbs), (.slice va1 (tln (fd q)) na1, (fd q)), (.slice g2 (tln (fd zq)) d2, (fd zq)), (.slice g1 (tln zq.num.natAbs) d1, zq.num.natAbs)])
 case atStart => exact ⟨1, _, _, _, _, _, Nat.le_refl _, by have := hbe.out; omega, by first | rfl | go_num, h0.out, hL0, ((hS).cons (hS.get mZ)).cons (hS.get (mK mZ))⟩
 case round =>
  clear hL0 hS
  obtain ⟨i, q, ua1, ma1, va1, na1, hbi, hik, rfl, hq, hL0, hS⟩ := hrel
  by_cases hin : i < ea
  ·obtain ⟨h1, c, k, m, d, hg1, dlo, dhi, w8, w6, HM1, HI1, HA1⟩ := H1.out i hbi hin
   obtain ⟨r, hr⟩ : ∃ r, r = va (i + 1) := ⟨_, rfl⟩
   rw [← hq] at HM1
   rw [← hr] at HA1
   replace HM1 := Lib.hid HM1
   replace HI1 := Lib.hid HI1
   replace HA1 := Lib.hid HA1
   replace hq := Lib.hid hq
   replace hr := Lib.hid hr
   have kl0 : (0 : Int) ≤ (i : Int) := Int.natCast_nonneg _
   have kL : i < s.size := h1
   have kl1 : (i : Int) < (L : Int) := by have := hsz; omega
   have kb : (i : Int) ≤ 1000 := by have := hL1; omega
   have kn1 : ¬ (c.toNat : Int) < 48 := by omega
   have kn2 : ¬ (57 : Int) < (c.toNat : Int) := by omega
   go_upto_region 11 with fail
   refine region_tl 10 [EV (.agg #[.bool (zs q.num), .slice ua1 (tln q.num.natAbs) ma1, .slice va1 (tln (fd q)) na1]), PF tn, PF m, EV (.string s), EV (.int .i64 (i : Int)), EV (.int .u8 (c.toNat : Int)), EV (.int .u8 k), EV (.int .i64 k), PF d, PF r] (by kernel_rfl) (by kernel_rfl) ?_ ?_ ?_
   ·repeat' first | exact stays_nil | apply stays_cons | exact stays_eq _ | exact stays_rf _
   ·simp only [List.take_succ_cons, List.take_zero, hopsR, and_true]
    refine ⟨?_, ?_, ?_, ?_, ?_, ?_, ?_, ?_, ?_, ?_⟩ <;> intro fv w1 hb1 hp
    all_goals (have hc := (hL0.call (below_drew hb1)).fc; simp only [zF, Nat.reduceAdd] at hc; simp only [putsV, Act.put, zP, Nat.zero_add, Nat.reduceAdd])
    ·refine tyAt_none rfl ?_
     simp [tyUpon, execOp, go_sem, Act.eval, hc, hsz, hg1, kL, kl1, kl0, w8, w6, Below.refl]
    ·refine tyAt_none rfl ?_
     refine ty_call (f := 57) (args := #[.int .i64 10]) (by simp [execOp, go_sem, Act.eval]) ?_
     exact (HT.out w1).mono fun e w2 ⟨pv, h1, h2, h3⟩ => ⟨pv, h1, h2, h3⟩
    ·have h0 : EV _ (fv 0) w1 := hp 0 (LC (by kernel_rfl))
     have h1 : PF _ (fv 1) w1 := hp 1 (LC (by kernel_rfl))
     refine tyAt_none rfl ?_
     refine ty_call (f := 71) (args := #[.agg #[.bool (zs q.num), .slice ua1 (tln q.num.natAbs) ma1, .slice va1 (tln (fd q)) na1], fv 1]) (by simp [execOp, go_sem, Act.eval, h0]) ?_
     exact (HM1.out (.agg #[.bool (zs q.num), .slice ua1 (tln q.num.natAbs) ma1, .slice va1 (tln (fd q)) na1]) (fv 1) w1 (rf_of (Sl.below (hS.get mZ) (below_drew hb1)) (Sl.below (hS.get (mK mZ)) (below_drew hb1))) h1).mono fun e w2 ⟨pv, h1, h2, h3⟩ => ⟨pv, h1, h2, h3⟩
    ·refine tyAt_none rfl ?_
     simp [tyUpon, execOp, go_sem, Act.eval, hsz, hg1, kL, kl1, kl0, w8, w6, Below.refl]
    ·refine tyAt_none rfl ?_
     simp [tyUpon, execOp, go_sem, Act.eval, hsz, hg1, kL, kl1, kl0, w8, w6, Below.refl]
    ·have h3 : EV _ (fv 3) w1 := hp 3 (LC (by kernel_rfl))
     have h4 : EV _ (fv 4) w1 := hp 4 (LC (by kernel_rfl))
     refine tyAt_none rfl ?_
     simp [tyUpon, execOp, go_sem, Act.eval, hc, h3, h4, hsz, hg1, kL, kl1, kl0, w8, w6, Below.refl]
    ·have h5 : EV _ (fv 5) w1 := hp 5 (LC (by kernel_rfl))
     refine tyAt_none rfl ?_
     simp [tyUpon, execOp, go_sem, Act.eval, h5, hsz, hg1, kL, kl1, kl0, w8, w6, Below.refl]
    ·have h6 : EV _ (fv 6) w1 := hp 6 (LC (by kernel_rfl))
     refine tyAt_none rfl ?_
     simp [tyUpon, execOp, go_sem, Act.eval, h6, hsz, hg1, kL, kl1, kl0, w8, w6, Below.refl]
    ·have h7 : EV _ (fv 7) w1 := hp 7 (LC (by kernel_rfl))
     refine tyAt_none rfl ?_
     refine ty_call (f := 57) (args := #[.int .i64 k]) (by simp [execOp, go_sem, Act.eval, h7]) ?_
     exact (HI1.out w1).mono fun e w2 ⟨pv, h1, h2, h3⟩ => ⟨pv, h1, h2, h3⟩
    ·have h2 : PF _ (fv 2) w1 := hp 2 (LC (by kernel_rfl))
     have h8 : PF _ (fv 8) w1 := hp 8 (LC (by kernel_rfl))
     refine tyAt_none rfl ?_
     refine ty_call (f := 70) (args := #[fv 2, fv 8]) (by simp [execOp, go_sem, Act.eval]) ?_
     exact (HA1.out (fv 2) (fv 8) w1 h2 h8).mono fun e w2 ⟨pv, h1, h2, h3⟩ => ⟨pv, h1, h2, h3⟩
   ·intro fv x4 hb1 hv
    have e0 : fv 0 = _ := hv 0 (by omega)
    have q1 : RF x4 (fv 1) tn := hv 1 (by omega)
    obtain ⟨g3, d3, g4, d4, e1⟩ := rf_form q1
    rw [e1] at q1
    have q2 : RF x4 (fv 2) m := hv 2 (by omega)
    obtain ⟨g5, d5, g6, d6, e2⟩ := rf_form q2
    rw [e2] at q2
    have e3 : fv 3 = _ := hv 3 (by omega)
    have e4 : fv 4 = _ := hv 4 (by omega)
    have e5 : fv 5 = _ := hv 5 (by omega)
    have e6 : fv 6 = _ := hv 6 (by omega)
    have e7 : fv 7 = _ := hv 7 (by omega)
    have q8 : RF x4 (fv 8) d := hv 8 (by omega)
    obtain ⟨g7, d7, g8, d8, e8⟩ := rf_form q8
    rw [e8] at q8
    have q9 : RF x4 (fv 9) r := hv 9 (by omega)
    obtain ⟨g9, d9, g10, d10, e9⟩ := rf_form q9
    rw [e9] at q9
    simp only [List.take_succ_cons, List.take_zero, putsV, Act.put, zP, List.drop_succ_cons, List.drop_zero, Nat.zero_add, Nat.reduceAdd, e0, e1, e2, e3, e4, e5, e6, e7, e8, e9]
    replace hL0 := hL0.call (below_drew hb1)
    replace hS := hS.call (below_drew hb1)
    replace hS := hS.cons (rf_rn1 q1)
    replace hS := hS.cons (rf_rn2 q1)
    replace hS := hS.cons (rf_rn1 q2)
    replace hS := hS.cons (rf_rn2 q2)
    replace hS := hS.cons (rf_rn1 q8)
    replace hS := hS.cons (rf_rn2 q8)
    replace hS := hS.cons (rf_rn1 q9)
    replace hS := hS.cons (rf_rn2 q9)
    clear e0 e1 e2 e3 e4 e5 e6 e7 e8 e9 hb1 hv q1 q2 q8 q9 fv
    have hS1 := hS.put ((((Upd.refl x2.heap.size x4).setCell 0 (.bool (zs r.num))).setCell 1 (.slice g9 (tln r.num.natAbs) d9)).setCell 2 (.slice g10 (tln (fd r)) d10)) (hL0.get _ _ mZ) (by intro v hv n; simp only [List.mem_cons, List.not_mem_nil, or_false] at hv; rcases hv with rfl | rfl | rfl <;> simp)
    have hA := hL0.fc
    simp only [zF, Nat.reduceAdd] at hA
    have hP := hL0.put 0 (x2.heap.size) _ rfl [.bool (zs r.num), .slice g9 (tln r.num.natAbs) d9, .slice g10 (tln (fd r)) d10] rfl
    simp only [setAll, List.set_cons_zero, List.set_cons_succ] at hP
    generalize hput1 : (((x4.setCell ⟨x2.heap.size, 0, none⟩ (.bool (zs r.num))).setCell ⟨x2.heap.size, 1, none⟩ (.slice g9 (tln r.num.natAbs) d9)).setCell ⟨x2.heap.size, 2, none⟩ (.slice g10 (tln (fd r)) d10)) = x5 at hP hS1
    have hB1 := hP.fc
    simp only [zF, Nat.reduceAdd] at hB1
    replace hL0 := hP
    replace hS := hS1
    clear hS1
    go_wp2_with fail
    go_roundg (gk - 1)
    case measure => omega
    case rel => exact ⟨i + 1, _, _, _, _, _, by omega, by omega, by first | rfl | go_num, hr.out, hL0, (((show SS x5 [(.slice g2 (tln (fd zq)) d2, (fd zq)), (.slice g1 (tln zq.num.natAbs) d1, zq.num.natAbs)] from fun p hp => hS p (mK (mK (mK (mK (mK (mK (mK (mK (mK (mK hp)))))))))))).cons (hS.get mZ)).cons (hS.get (mK mZ))⟩
  ·obtain rfl : ea = i := by omega
   have hq2 := (hq.trans hv1.out).symm
   subst hq2
   clear hq hin hik
   have kb : (ea : Int) ≤ 1000 := by have := hL1; have := heL.out; omega
   have kl0 : (0 : Int) ≤ (ea : Int) := Int.natCast_nonneg _
   rcases hway.out with ⟨k1, h9, hg9, n1⟩ | ⟨k1, h9, hg9, n0, n1⟩
   all_goals (
    rcases hz.out with gz | ⟨gz, gt⟩
    all_goals (
     have hS1 := hS.put ((((Upd.refl w.heap.size wr).setCell 0 (.bool false)).setCell 1 (.slice none 0 0)).setCell 2 (.slice none 0 0)) (hL0.get _ _ (mK (mK mZ))) (by intro v hv n; simp only [List.mem_cons, List.not_mem_nil, or_false] at hv; rcases hv with rfl | rfl | rfl <;> simp)
     have hA := hL0.fc
     simp only [zF, Nat.reduceAdd] at hA
     have hP := hL0.put 2 (w.heap.size) _ rfl [.bool false, .slice none 0 0, .slice none 0 0] rfl
     simp only [setAll, List.set_cons_zero, List.set_cons_succ] at hP
     generalize hput1 : (((wr.setCell ⟨w.heap.size, 0, none⟩ (.bool false)).setCell ⟨w.heap.size, 1, none⟩ (.slice none 0 0)).setCell ⟨w.heap.size, 2, none⟩ (.slice none 0 0)) = x4 at hP hS1
     have hB1 := hP.fc
     simp only [zF, Nat.reduceAdd] at hB1
     replace hL0 := hP
     replace hS := hS1
     clear hS1
     go_wp2_with fail
     exact bodyPost_ret (v := .tuple #[.agg #[.bool false, .slice none 0 0, .slice none 0 0], .int .i64 4]) (by simp [results, Tryz.results20, go_sem, hB1]) rfl ⟨_, rfl, (rf_nil _), hL0.bl⟩))
end Go.Proofs.YtahfcciihkkegaaGreatDoor
namespace Go.Proofs.YtahfcciihkkegaaGreatDoor
open Go.RowKit Go.Proofs.YtahfcciihkkegaaGreatDoor.Rx
attribute [local irreducible] lo hs sm s64 c64 d64 b64 mh ml pd pc qd qc val hiB str cmpI srD lz nb isq decB zl zh zs dval tln fd
theorem rps_nE (s : ByteArray) (L ea : Nat) (c00 c0 c9 : UInt8) (va : Nat → Rat) (zq tn q1 : Rat) (HZ : ∀ (w : World), Calls Tryz.prog 57 #[.int .i64 0] w fun e w' => ∃ pv, e = .returned pv ∧ RF w' pv zq ∧ Below w.heap.size w w') (HT : ∀ (w : World), Calls Tryz.prog 57 #[.int .i64 10] w fun e w' => ∃ pv, e = .returned pv ∧ RF w' pv tn ∧ Below w.heap.size w w') (hsz : s.size = L) (hL1 : L ≤ 100) (d40 : decide ((4096 : Int) < (L : Int)) = false) (d41 : decide (4096 < L) = false) (hp : (0 : Int) < (L : Int)) (h00 : 0 < s.size) (hg00 : s[0]'h00 = c00) (g00 : ((c00.toNat : Int) == 45) = true) (h0 : zq = va 1) (hv1 : va ea = q1) (hbe : 1 ≤ ea) (heL : ea ≤ L) (H1 : ∀ i : Nat, 1 ≤ i → i < ea → ∃ (h : i < s.size) (c : UInt8) (k : Int) (m d : Rat), s[i]'h = c ∧ (48 : Int) ≤ (c.toNat : Int) ∧ (c.toNat : Int) ≤ 57 ∧ IntKind.u8.wrap ((c.toNat : Int) - 48) = k ∧ IntKind.i64.wrap k = k ∧ (∀ (p0 p1 : Value) (w : World), RF w p0 ((va i)) → RF w p1 tn → Calls Tryz.prog 71 #[p0, p1] w fun e w' => ∃ pv, e = .returned pv ∧ RF w' pv m ∧ Below w.heap.size w w') ∧ (∀ (w : World), Calls Tryz.prog 57 #[.int .i64 k] w fun e w' => ∃ pv, e = .returned pv ∧ RF w' pv d ∧ Below w.heap.size w w') ∧ (∀ (p0 p1 : Value) (w : World), RF w p0 m → RF w p1 d → Calls Tryz.prog 70 #[p0, p1] w fun e w' => ∃ pv, e = .returned pv ∧ RF w' pv ((va (i + 1))) ∧ Below w.heap.size w w')) (hway : ((ea : Int) < (L : Int) ∧ ∃ h : ea < s.size, s[ea]'h = c9 ∧ ¬ (48 : Int) ≤ (c9.toNat : Int))) (y1 : ((ea : Int) == 1) = false) (y2 : (ea == 1) = false) (y3 : ¬ ea = 1) (hb8 : (1 : Int) < (L : Int)) (hb9 : 1 < s.size) (hgb : s[1]'hb9 = c0) (hz : ((c0.toNat : Int) == 48) = false ∨ (((c0.toNat : Int) == 48) = true ∧ decide ((2 : Int) < (ea : Int)) = false)) (g46 : ((c9.toNat : Int) != 46) = false) (g47 : ((c9.toNat : Int) == 46) = true) (y5 : (((ea : Int) + 1) == (L : Int)) = true) (y6 : (ea + 1 == L) = true) (y7 : (ea + 1 = L)) (y8 : ((ea : Int) + 1 = (L : Int))) (w : World) :
  Calls Tryz.prog 20 #[.string s] w fun e w' => ∃ pv, e = .returned (.tuple #[pv, .int .i64 4]) ∧ RF w' pv 0 ∧ Below w.heap.size w w' := by
 replace HZ := Lib.hid HZ
 replace HT := Lib.hid HT
 have hL0 : GL w w [] := GL.start w
 have hS : SS w [] := SS.nil w
 replace h0 := Lib.hid h0
 replace hv1 := Lib.hid hv1
 replace hbe := Lib.hid hbe
 replace heL := Lib.hid heL
 replace H1 := Lib.hid H1
 replace hway := Lib.hid hway
 replace hz := Lib.hid hz
 obtain ⟨x1, hweq, hL0, hS⟩ := GL.named2 ((hL0.new rfl [.bool false, .slice none 0 0, .slice none 0 0] 46).new (K := w.heap.size + 1) (szA _ _) [.bool false, .slice none 0 0, .slice none 0 0] 46) ((hS.new (.cells #[.bool false, .slice none 0 0, .slice none 0 0] 46)).new (.cells #[.bool false, .slice none 0 0, .slice none 0 0] 46))
 go_enter Tryz.func20, Tryz.ntmps20
 go_wp2_with fail
 with_reducible refine Calls.mono (HZ.out _) ?_
 rintro e x2 ⟨v0, rfl, q0, hb⟩
 replace hL0 := hL0.call hb
 replace hS := hS.call hb
 clear hb hweq
 obtain ⟨g1, d1, g2, d2, rfl⟩ := rf_form q0
 replace hS := hS.cons (rf_rn1 q0)
 replace hS := hS.cons (rf_rn2 q0)
 clear q0
 obtain ⟨x3, hweq, hL0, hS⟩ := GL.named2 (hL0.new rfl [.bool (zs zq.num), .slice g1 (tln zq.num.natAbs) d1, .slice g2 (tln (fd zq)) d2] 46) (hS.new (.cells #[.bool (zs zq.num), .slice g1 (tln zq.num.natAbs) d1, .slice g2 (tln (fd zq)) d2] 46))
 go_wp2_with fail
 clear hweq
 go_loopg [5] (ea - 1) (fun gk iv wr => ∃ (i : Nat) (q : Rat) (ua1 : Option Addr) (ma1 : Nat) (va1 : Option Addr) (na1 : Nat), 1 ≤ i ∧ i + gk = ea ∧ iv = .int .i64 (i : Int) ∧ q = va i ∧ GL w wr [(x2.heap.size, [.bool (zs q.num), .slice ua1 (tln q.num.natAbs) ma1, .slice va1 (tln (fd q)) na1]), (w.heap.size + 1, [.bool false, .slice none 0 0, .slice none 0 0]), (w.heap.size, [.bool false, .slice none 0 0, .slice none 0 0])] ∧ SS wr [(.slice ua1 (tln q.num.natAbs) ma1, q.num.natAbs), (.slice va1 (tln (fd q)) na1, (fd q)), (.slice g2 (tln (fd zq)) d2, (fd zq)), (.slice g1 (tln zq.num.natAbs) d1, zq.num.natAbs)])
 case atStart => exact ⟨1, _, _, _, _, _, Nat.le_refl _, by have := hbe.out; omega, by first | rfl | go_num, h0.out, hL0, ((hS).cons (hS.get mZ)).cons (hS.get (mK mZ))⟩
 case round =>
  clear hL0 hS
  obtain ⟨i, q, ua1, ma1, va1, na1, hbi, hik, rfl, hq, hL0, hS⟩ := hrel
  by_cases hin : i < ea
  ·obtain ⟨h1, c, k, m, d, hg1, dlo, dhi, w8, w6, HM1, HI1, HA1⟩ := H1.out i hbi hin
   obtain ⟨r, hr⟩ : ∃ r, r = va (i + 1) := ⟨_, rfl⟩
   rw [← hq] at HM1
   rw [← hr] at HA1
   replace HM1 := Lib.hid HM1
   replace HI1 := Lib.hid HI1
   replace HA1 := Lib.hid HA1
   replace hq := Lib.hid hq
   replace hr := Lib.hid hr
   have kl0 : (0 : Int) ≤ (i : Int) := Int.natCast_nonneg _
   have kL : i < s.size := h1
   have kl1 : (i : Int) < (L : Int) := by have := hsz; omega
   have kb : (i : Int) ≤ 1000 := by have := hL1; omega
   have kn1 : ¬ (c.toNat : Int) < 48 := by omega
   have kn2 : ¬ (57 : Int) < (c.toNat : Int) := by omega
   go_upto_region 11 with fail
   refine region_tl 10 [EV (.agg #[.bool (zs q.num), .slice ua1 (tln q.num.natAbs) ma1, .slice va1 (tln (fd q)) na1]), PF tn, PF m, EV (.string s), EV (.int .i64 (i : Int)), EV (.int .u8 (c.toNat : Int)), EV (.int .u8 k), EV (.int .i64 k), PF d, PF r] (by kernel_rfl) (by kernel_rfl) ?_ ?_ ?_
   ·repeat' first | exact stays_nil | apply stays_cons | exact stays_eq _ | exact stays_rf _
   ·simp only [List.take_succ_cons, List.take_zero, hopsR, and_true]
    refine ⟨?_, ?_, ?_, ?_, ?_, ?_, ?_, ?_, ?_, ?_⟩ <;> intro fv w1 hb1 hp
    all_goals (have hc := (hL0.call (below_drew hb1)).fc; simp only [zF, Nat.reduceAdd] at hc; simp only [putsV, Act.put, zP, Nat.zero_add, Nat.reduceAdd])
    ·refine tyAt_none rfl ?_
     simp [tyUpon, execOp, go_sem, Act.eval, hc, hsz, hg1, kL, kl1, kl0, w8, w6, Below.refl]
    ·refine tyAt_none rfl ?_
     refine ty_call (f := 57) (args := #[.int .i64 10]) (by simp [execOp, go_sem, Act.eval]) ?_
     exact (HT.out w1).mono fun e w2 ⟨pv, h1, h2, h3⟩ => ⟨pv, h1, h2, h3⟩
    ·have h0 : EV _ (fv 0) w1 := hp 0 (LC (by kernel_rfl))
     have h1 : PF _ (fv 1) w1 := hp 1 (LC (by kernel_rfl))
     refine tyAt_none rfl ?_
     refine ty_call (f := 71) (args := #[.agg #[.bool (zs q.num), .slice ua1 (tln q.num.natAbs) ma1, .slice va1 (tln (fd q)) na1], fv 1]) (by simp [execOp, go_sem, Act.eval, h0]) ?_
     exact (HM1.out (.agg #[.bool (zs q.num), .slice ua1 (tln q.num.natAbs) ma1, .slice va1 (tln (fd q)) na1]) (fv 1) w1 (rf_of (Sl.below (hS.get mZ) (below_drew hb1)) (Sl.below (hS.get (mK mZ)) (below_drew hb1))) h1).mono fun e w2 ⟨pv, h1, h2, h3⟩ => ⟨pv, h1, h2, h3⟩
    ·refine tyAt_none rfl ?_
     simp [tyUpon, execOp, go_sem, Act.eval, hsz, hg1, kL, kl1, kl0, w8, w6, Below.refl]
    ·refine tyAt_none rfl ?_
     simp [tyUpon, execOp, go_sem, Act.eval, hsz, hg1, kL, kl1, kl0, w8, w6, Below.refl]
    ·have h3 : EV _ (fv 3) w1 := hp 3 (LC (by kernel_rfl))
     have h4 : EV _ (fv 4) w1 := hp 4 (LC (by kernel_rfl))
     refine tyAt_none rfl ?_
     simp [tyUpon, execOp, go_sem, Act.eval, hc, h3, h4, hsz, hg1, kL, kl1, kl0, w8, w6, Below.refl]
    ·have h5 : EV _ (fv 5) w1 := hp 5 (LC (by kernel_rfl))
     refine tyAt_none rfl ?_
     simp [tyUpon, execOp, go_sem, Act.eval, h5, hsz, hg1, kL, kl1, kl0, w8, w6, Below.refl]
    ·have h6 : EV _ (fv 6) w1 := hp 6 (LC (by kernel_rfl))
     refine tyAt_none rfl ?_
     simp [tyUpon, execOp, go_sem, Act.eval, h6, hsz, hg1, kL, kl1, kl0, w8, w6, Below.refl]
    ·have h7 : EV _ (fv 7) w1 := hp 7 (LC (by kernel_rfl))
     refine tyAt_none rfl ?_
     refine ty_call (f := 57) (args := #[.int .i64 k]) (by simp [execOp, go_sem, Act.eval, h7]) ?_
     exact (HI1.out w1).mono fun e w2 ⟨pv, h1, h2, h3⟩ => ⟨pv, h1, h2, h3⟩
    ·have h2 : PF _ (fv 2) w1 := hp 2 (LC (by kernel_rfl))
     have h8 : PF _ (fv 8) w1 := hp 8 (LC (by kernel_rfl))
     refine tyAt_none rfl ?_
     refine ty_call (f := 70) (args := #[fv 2, fv 8]) (by simp [execOp, go_sem, Act.eval]) ?_
     exact (HA1.out (fv 2) (fv 8) w1 h2 h8).mono fun e w2 ⟨pv, h1, h2, h3⟩ => ⟨pv, h1, h2, h3⟩
   ·intro fv x4 hb1 hv
    have e0 : fv 0 = _ := hv 0 (by omega)
    have q1 : RF x4 (fv 1) tn := hv 1 (by omega)
    obtain ⟨g3, d3, g4, d4, e1⟩ := rf_form q1
    rw [e1] at q1
    have q2 : RF x4 (fv 2) m := hv 2 (by omega)
    obtain ⟨g5, d5, g6, d6, e2⟩ := rf_form q2
    rw [e2] at q2
    have e3 : fv 3 = _ := hv 3 (by omega)
    have e4 : fv 4 = _ := hv 4 (by omega)
    have e5 : fv 5 = _ := hv 5 (by omega)
    have e6 : fv 6 = _ := hv 6 (by omega)
    have e7 : fv 7 = _ := hv 7 (by omega)
    have q8 : RF x4 (fv 8) d := hv 8 (by omega)
    obtain ⟨g7, d7, g8, d8, e8⟩ := rf_form q8
    rw [e8] at q8
    have q9 : RF x4 (fv 9) r := hv 9 (by omega)
    obtain ⟨g9, d9, g10, d10, e9⟩ := rf_form q9
    rw [e9] at q9
    simp only [List.take_succ_cons, List.take_zero, putsV, Act.put, zP, List.drop_succ_cons, List.drop_zero, Nat.zero_add, Nat.reduceAdd, e0, e1, e2, e3, e4, e5, e6, e7, e8, e9]
    replace hL0 := hL0.call (below_drew hb1)
    replace hS := hS.call (below_drew hb1)
    replace hS := hS.cons (rf_rn1 q1)
    replace hS := hS.cons (rf_rn2 q1)
    replace hS := hS.cons (rf_rn1 q2)
    replace hS := hS.cons (rf_rn2 q2)
    replace hS := hS.cons (rf_rn1 q8)
    replace hS := hS.cons (rf_rn2 q8)
    replace hS := hS.cons (rf_rn1 q9)
    replace hS := hS.cons (rf_rn2 q9)
    clear e0 e1 e2 e3 e4 e5 e6 e7 e8 e9 hb1 hv q1 q2 q8 q9 fv
    have hS1 := hS.put ((((Upd.refl x2.heap.size x4).setCell 0 (.bool (zs r.num))).setCell 1 (.slice g9 (tln r.num.natAbs) d9)).setCell 2 (.slice g10 (tln (fd r)) d10)) (hL0.get _ _ mZ) (by intro v hv n; simp only [List.mem_cons, List.not_mem_nil, or_false] at hv; rcases hv with rfl | rfl | rfl <;> simp)
    have hA := hL0.fc
    simp only [zF, Nat.reduceAdd] at hA
    have hP := hL0.put 0 (x2.heap.size) _ rfl [.bool (zs r.num), .slice g9 (tln r.num.natAbs) d9, .slice g10 (tln (fd r)) d10] rfl
    simp only [setAll, List.set_cons_zero, List.set_cons_succ] at hP
    generalize hput1 : (((x4.setCell ⟨x2.heap.size, 0, none⟩ (.bool (zs r.num))).setCell ⟨x2.heap.size, 1, none⟩ (.slice g9 (tln r.num.natAbs) d9)).setCell ⟨x2.heap.size, 2, none⟩ (.slice g10 (tln (fd r)) d10)) = x5 at hP hS1
    have hB1 := hP.fc
    simp only [zF, Nat.reduceAdd] at hB1
    replace hL0 := hP
    replace hS := hS1
    clear hS1
    go_wp2_with fail
    go_roundg (gk - 1)
    case measure => omega
    case rel => exact ⟨i + 1, _, _, _, _, _, by omega, by omega, by first | rfl | go_num, hr.out, hL0, (((show SS x5 [(.slice g2 (tln (fd zq)) d2, (fd zq)), (.slice g1 (tln zq.num.natAbs) d1, zq.num.natAbs)] from fun p hp => hS p (mK (mK (mK (mK (mK (mK (mK (mK (mK (mK hp)))))))))))).cons (hS.get mZ)).cons (hS.get (mK mZ))⟩
  ·obtain rfl : ea = i := by omega
   have hq2 := (hq.trans hv1.out).symm
   subst hq2
   clear hq hin hik
   have kb : (ea : Int) ≤ 1000 := by have := hL1; have := heL.out; omega
   have kl0 : (0 : Int) ≤ (ea : Int) := Int.natCast_nonneg _
   obtain ⟨k1, h9, hg9, n1⟩ := hway.out
   rcases hz.out with gz | ⟨gz, gt⟩
   all_goals (
    have hS1 := hS.put ((((Upd.refl w.heap.size wr).setCell 0 (.bool false)).setCell 1 (.slice none 0 0)).setCell 2 (.slice none 0 0)) (hL0.get _ _ (mK (mK mZ))) (by intro v hv n; simp only [List.mem_cons, List.not_mem_nil, or_false] at hv; rcases hv with rfl | rfl | rfl <;> simp)
    have hA := hL0.fc
    simp only [zF, Nat.reduceAdd] at hA
    have hP := hL0.put 2 (w.heap.size) _ rfl [.bool false, .slice none 0 0, .slice none 0 0] rfl
    simp only [setAll, List.set_cons_zero, List.set_cons_succ] at hP
    generalize hput1 : (((wr.setCell ⟨w.heap.size, 0, none⟩ (.bool false)).setCell ⟨w.heap.size, 1, none⟩ (.slice none 0 0)).setCell ⟨w.heap.size, 2, none⟩ (.slice none 0 0)) = x4 at hP hS1
    have hB1 := hP.fc
    simp only [zF, Nat.reduceAdd] at hB1
    replace hL0 := hP
    replace hS := hS1
    clear hS1
    go_wp2_with fail
    exact bodyPost_ret (v := .tuple #[.agg #[.bool false, .slice none 0 0, .slice none 0 0], .int .i64 4]) (by simp [results, Tryz.results20, go_sem, hB1]) rfl ⟨_, rfl, (rf_nil _), hL0.bl⟩)
end Go.Proofs.YtahfcciihkkegaaGreatDoor
