/-
  The law answers true at every input, and leaves its arguments as they were: a part of the proof. CONDITIONS: the package-level tables start as the program's text lays them (the card ties them).
-/
import Derived.Test.YtahfcciihkkegaaGreatDoorZre
import Derived.Test.YtahfcciihkkegaaGreatDoorTie
import Derived.Test.YtahfcciihkkegaaGreatDoorCards
set_option linter.unusedVariables false
set_option linter.unusedSimpArgs false
set_option maxHeartbeats 16000000
set_option maxRecDepth 100000
namespace Go.Proofs.YtahfcciihkkegaaGreatDoor
open Go.RowKit Go.Proofs.YtahfcciihkkegaaGreatDoor.Rx
attribute [local irreducible] lo hs sm s64 c64 d64 b64 mh ml pd pc qd qc val hiB str cmpI srD lz nb isq decB zl zh zs dval tln fd
theorem rps_nC (s : ByteArray) (L ea : Nat) (c00 c0 c9 : UInt8) (va : Nat → Rat) (zq tn q1 qn rr : Rat) (sg cc : Int) (HZ : ∀ (w : World), Calls Tryz.prog 57 #[.int .i64 0] w fun e w' => ∃ pv, e = .returned pv ∧ RF w' pv zq ∧ Below w.heap.size w w') (HT : ∀ (w : World), Calls Tryz.prog 57 #[.int .i64 10] w fun e w' => ∃ pv, e = .returned pv ∧ RF w' pv tn ∧ Below w.heap.size w w') (HS : ∀ (p0 : Value) (w : World), RF w p0 q1 → Calls Tryz.prog 72 #[p0] w fun e w' => e = .returned (.int .i64 sg) ∧ Below w.heap.size w w') (HN : ∀ (p0 : Value) (w : World), RF w p0 q1 → Calls Tryz.prog 73 #[p0] w fun e w' => ∃ pv, e = .returned pv ∧ RF w' pv qn ∧ Below w.heap.size w w') (hsz : s.size = L) (hL1 : L ≤ 100) (d40 : decide ((4096 : Int) < (L : Int)) = false) (d41 : decide (4096 < L) = false) (hp : (0 : Int) < (L : Int)) (h00 : 0 < s.size) (hg00 : s[0]'h00 = c00) (g00 : ((c00.toNat : Int) == 45) = true) (h0 : zq = va 1) (hv1 : va ea = q1) (hbe : 1 ≤ ea) (heL : ea ≤ L) (H1 : ∀ i : Nat, 1 ≤ i → i < ea → ∃ (h : i < s.size) (c : UInt8) (k : Int) (m d : Rat), s[i]'h = c ∧ (48 : Int) ≤ (c.toNat : Int) ∧ (c.toNat : Int) ≤ 57 ∧ IntKind.u8.wrap ((c.toNat : Int) - 48) = k ∧ IntKind.i64.wrap k = k ∧ (∀ (p0 p1 : Value) (w : World), RF w p0 ((va i)) → RF w p1 tn → Calls Tryz.prog 71 #[p0, p1] w fun e w' => ∃ pv, e = .returned pv ∧ RF w' pv m ∧ Below w.heap.size w w') ∧ (∀ (w : World), Calls Tryz.prog 57 #[.int .i64 k] w fun e w' => ∃ pv, e = .returned pv ∧ RF w' pv d ∧ Below w.heap.size w w') ∧ (∀ (p0 p1 : Value) (w : World), RF w p0 m → RF w p1 d → Calls Tryz.prog 70 #[p0, p1] w fun e w' => ∃ pv, e = .returned pv ∧ RF w' pv ((va (i + 1))) ∧ Below w.heap.size w w')) (hway : ¬ (ea : Int) < (L : Int)) (y1 : ((ea : Int) == 1) = false) (y2 : (ea == 1) = false) (y3 : ¬ ea = 1) (hb8 : (1 : Int) < (L : Int)) (hb9 : 1 < s.size) (hgb : s[1]'hb9 = c0) (hz : ((c0.toNat : Int) == 48) = false ∨ (((c0.toNat : Int) == 48) = true ∧ decide ((2 : Int) < (ea : Int)) = false)) (hfin : ((sg == 0) = true ∧ 4 = cc ∧ (0 : Rat) = rr) ∨ ((sg == 0) = false ∧ 0 = cc ∧ qn = rr)) (w : World) :
  Calls Tryz.prog 20 #[.string s] w fun e w' => ∃ pv, e = .returned (.tuple #[pv, .int .i64 cc]) ∧ RF w' pv rr ∧ Below w.heap.size w w' := by
 replace HZ := Lib.hid HZ
 replace HT := Lib.hid HT
 replace HS := Lib.hid HS
 replace HN := Lib.hid HN
 have hL0 : GL w w [] := GL.start w
 have hS : SS w [] := SS.nil w
 replace h0 := Lib.hid h0
 replace hv1 := Lib.hid hv1
 replace hbe := Lib.hid hbe
 replace heL := Lib.hid heL
 replace H1 := Lib.hid H1
 replace hway := Lib.hid hway
 replace hz := Lib.hid hz
 replace hfin := Lib.hid hfin
 obtain ⟨x1, hweq, hL0, hS⟩ := GL.named2 ((hL0.new rfl [.bool false, .slice none 0 0, .slice none 0 0] 46).new (K := w.heap.size + 1) (szA _ _) [.bool false, .slice none 0 0, .slice none 0 0] 46) ((hS.new (.cells #[.bool false, .slice none 0 0, .slice none 0 0] 46)).new (.cells #[.bool false, .slice none 0 0, .slice none 0 0] 46))
 go_enter Tryz.func20, Tryz.ntmps20
 go_wp2_with fail
 with_reducible refine Calls.mono (HZ.out _) ?_
 rintro e x2 ⟨v0, rfl, q0, hb⟩
 replace hL0 := hL0.call hb
 replace hS := hS.call hb
 clear hb hweq
 obtain ⟨g1, d1, g2, d2, rfl⟩ := rf_form q0
 replace hS := hS.cons (rf_rn1 q0)
 replace hS := hS.cons (rf_rn2 q0)
 clear q0
 obtain ⟨x3, hweq, hL0, hS⟩ := GL.named2 (hL0.new rfl [.bool (zs zq.num), .slice g1 (tln zq.num.natAbs) d1, .slice g2 (tln (fd zq)) d2] 46) (hS.new (.cells #[.bool (zs zq.num), .slice g1 (tln zq.num.natAbs) d1, .slice g2 (tln (fd zq)) d2] 46))
 go_wp2_with fail
 clear hweq
 go_loopg [5] (ea - 1) (fun gk iv wr => ∃ (i : Nat) (q : Rat) (ua1 : Option Addr) (ma1 : Nat) (va1 : Option Addr) (na1 : Nat), 1 ≤ i ∧ i + gk = ea ∧ iv = .int .i64 (i : Int) ∧ q = va i ∧ GL w wr [(x2.heap.size, [.bool (zs q.num), .slice ua1 (tln q.num.natAbs) ma1, .slice va1 (tln (fd q)) na1]), (w.heap.size + 1, [.bool false, .slice none 0 0, .slice none 0 0]), (w.heap.size, [.bool false, .slice none 0 0, .slice none 0 0])] ∧ SS wr [(.slice ua1 (tln q.num.natAbs) ma1, q.num.natAbs), (.slice va1 (tln (fd q)) na1, (fd q)), (.slice g2 (tln (fd zq)) d2, (fd zq)), (.slice g1 (tln zq.num.natAbs) d1, zq.num.natAbs)])
 case atStart => exact ⟨1, _, _, _, _, _, Nat.le_refl _, by have := hbe.out; omega, by first | rfl | go_num, h0.out, hL0, ((hS).cons (hS.get mZ)).cons (hS.get (mK mZ))⟩
 case round =>
  clear hL0 hS
  obtain ⟨i, q, ua1, ma1, va1, na1, hbi, hik, rfl, hq, hL0, hS⟩ := hrel
  by_cases hin : i < ea
  ·obtain ⟨h1, c, k, m, d, hg1, dlo, dhi, w8, w6, HM1, HI1, HA1⟩ := H1.out i hbi hin
   obtain ⟨r, hr⟩ : ∃ r, r = va (i + 1) := ⟨_, rfl⟩
   rw [← hq] at HM1
   rw [← hr] at HA1
   replace HM1 := Lib.hid HM1
   replace HI1 := Lib.hid HI1
   replace HA1 := Lib.hid HA1
   replace hq := Lib.hid hq
   replace hr := Lib.hid hr
   have kl0 : (0 : Int) ≤ (i : Int) := Int.natCast_nonneg _
   have kL : i < s.size := h1
   have kl1 : (i : Int) < (L : Int) := by have := hsz; omega
   have kb : (i : Int) ≤ 1000 := by have := hL1; omega
   have kn1 : ¬ (c.toNat : Int) < 48 := by omega
   have kn2 : ¬ (57 : Int) < (c.toNat : Int) := by omega
   go_upto_region 11 with fail
   refine region_tl 10 [EV (.agg #[.bool (zs q.num), .slice ua1 (tln q.num.natAbs) ma1, .slice va1 (tln (fd q)) na1]), PF tn, PF m, EV (.string s), EV (.int .i64 (i : Int)), EV (.int .u8 (c.toNat : Int)), EV (.int .u8 k), EV (.int .i64 k), PF d, PF r] (by kernel_rfl) (by kernel_rfl) ?_ ?_ ?_
   ·repeat' first | exact stays_nil | apply stays_cons | exact stays_eq _ | exact stays_rf _
   ·simp only [List.take_succ_cons, List.take_zero, hopsR, and_true]
    refine ⟨?_, ?_, ?_, ?_, ?_, ?_, ?_, ?_, ?_, ?_⟩ <;> intro fv w1 hb1 hp
    all_goals (have hc := (hL0.call (below_drew hb1)).fc; simp only [zF, Nat.reduceAdd] at hc; simp only [putsV, Act.put, zP, Nat.zero_add, Nat.reduceAdd])
    ·refine tyAt_none rfl ?_
     simp [tyUpon, execOp, go_sem, Act.eval, hc, hsz, hg1, kL, kl1, kl0, w8, w6, Below.refl]
    ·refine tyAt_none rfl ?_
     refine ty_call (f := 57) (args := #[.int .i64 10]) (by simp [execOp, go_sem, Act.eval]) ?_
     exact (HT.out w1).mono fun e w2 ⟨pv, h1, h2, h3⟩ => ⟨pv, h1, h2, h3⟩
    ·have h0 : EV _ (fv 0) w1 := hp 0 (LC (by kernel_rfl))
     have h1 : PF _ (fv 1) w1 := hp 1 (LC (by kernel_rfl))
     refine tyAt_none rfl ?_
     refine ty_call (f := 71) (args := #[.agg #[.bool (zs q.num), .slice ua1 (tln q.num.natAbs) ma1, .slice va1 (tln (fd q)) na1], fv 1]) (by simp [execOp, go_sem, Act.eval, h0]) ?_
     exact (HM1.out (.agg #[.bool (zs q.num), .slice ua1 (tln q.num.natAbs) ma1, .slice va1 (tln (fd q)) na1]) (fv 1) w1 (rf_of (Sl.below (hS.get mZ) (below_drew hb1)) (Sl.below (hS.get (mK mZ)) (below_drew hb1))) h1).mono fun e w2 ⟨pv, h1, h2, h3⟩ => ⟨pv, h1, h2, h3⟩
    ·refine tyAt_none rfl ?_
     simp [tyUpon, execOp, go_sem, Act.eval, hsz, hg1, kL, kl1, kl0, w8, w6, Below.refl]
    ·refine tyAt_none rfl ?_
     simp [tyUpon, execOp, go_sem, Act.eval, hsz, hg1, kL, kl1, kl0, w8, w6, Below.refl]
    ·have h3 : EV _ (fv 3) w1 := hp 3 (LC (by kernel_rfl))
     have h4 : EV _ (fv 4) w1 := hp 4 (LC (by kernel_rfl))
     refine tyAt_none rfl ?_
     simp [tyUpon, execOp, go_sem, Act.eval, hc, h3, h4, hsz, hg1, kL, kl1, kl0, w8, w6, Below.refl]
    ·have h5 : EV _ (fv 5) w1 := hp 5 (LC (by kernel_rfl))
     refine tyAt_none rfl ?_
     simp [tyUpon, execOp, go_sem, Act.eval, h5, hsz, hg1, kL, kl1, kl0, w8, w6, Below.refl]
    ·have h6 : EV _ (fv 6) w1 := hp 6 (LC (by kernel_rfl))
     refine tyAt_none rfl ?_
     simp [tyUpon, execOp, go_sem, Act.eval, h6, hsz, hg1, kL, kl1, kl0, w8, w6, Below.refl]
    ·have h7 : EV _ (fv 7) w1 := hp 7 (LC (by kernel_rfl))
     refine tyAt_none rfl ?_
     refine ty_call (f := 57) (args := #[.int .i64 k]) (by simp [execOp, go_sem, Act.eval, h7]) ?_
     exact (HI1.out w1).mono fun e w2 ⟨pv, h1, h2, h3⟩ => ⟨pv, h1, h2, h3⟩
    ·have h2 : PF _ (fv 2) w1 := hp 2 (LC (by kernel_rfl))
     have h8 : PF _ (fv 8) w1 := hp 8 (LC (by kernel_rfl))
     refine tyAt_none rfl ?_
     refine ty_call (f := 70) (args := #[fv 2, fv 8]) (by simp [execOp, go_sem, Act.eval]) ?_
     exact (HA1.out (fv 2) (fv 8) w1 h2 h8).mono fun e w2 ⟨pv, h1, h2, h3⟩ => ⟨pv, h1, h2, h3⟩
   ·intro fv x4 hb1 hv
    have e0 : fv 0 = _ := hv 0 (by omega)
    have q1 : RF x4 (fv 1) tn := hv 1 (by omega)
    obtain ⟨g3, d3, g4, d4, e1⟩ := rf_form q1
    rw [e1] at q1
    have q2 : RF x4 (fv 2) m := hv 2 (by omega)
    obtain ⟨g5, d5, g6, d6, e2⟩ := rf_form q2
    rw [e2] at q2
    have e3 : fv 3 = _ := hv 3 (by omega)
    have e4 : fv 4 = _ := hv 4 (by omega)
    have e5 : fv 5 = _ := hv 5 (by omega)
    have e6 : fv 6 = _ := hv 6 (by omega)
    have e7 : fv 7 = _ := hv 7 (by omega)
    have q8 : RF x4 (fv 8) d := hv 8 (by omega)
    obtain ⟨g7, d7, g8, d8, e8⟩ := rf_form q8
    rw [e8] at q8
    have q9 : RF x4 (fv 9) r := hv 9 (by omega)
    obtain ⟨g9, d9, g10, d10, e9⟩ := rf_form q9
    rw [e9] at q9
    simp only [List.take_succ_cons, List.take_zero, putsV, Act.put, zP, List.drop_succ_cons, List.drop_zero, Nat.zero_add, Nat.reduceAdd, e0, e1, e2, e3, e4, e5, e6, e7, e8, e9]
    replace hL0 := hL0.call (below_drew hb1)
    replace hS := hS.call (below_drew hb1)
    replace hS := hS.cons (rf_rn1 q1)
    replace hS := hS.cons (rf_rn2 q1)
    replace hS := hS.cons (rf_rn1 q2)
    replace hS := hS.cons (rf_rn2 q2)
    replace hS := hS.cons (rf_rn1 q8)
    replace hS := hS.cons (rf_rn2 q8)
    replace hS := hS.cons (rf_rn1 q9)
    replace hS := hS.cons (rf_rn2 q9)
    clear e0 e1 e2 e3 e4 e5 e6 e7 e8 e9 hb1 hv q1 q2 q8 q9 fv
    have hS1 := hS.put ((((Upd.refl x2.heap.size x4).setCell 0 (.bool (zs r.num))).setCell 1 (.slice g9 (tln r.num.natAbs) d9)).setCell 2 (.slice g10 (tln (fd r)) d10)) (hL0.get _ _ mZ) (by intro v hv n; simp only [List.mem_cons, List.not_mem_nil, or_false] at hv; rcases hv with rfl | rfl | rfl <;> simp)
    have hA := hL0.fc
    simp only [zF, Nat.reduceAdd] at hA
    have hP := hL0.put 0 (x2.heap.size) _ rfl [.bool (zs r.num), .slice g9 (tln r.num.natAbs) d9, .slice g10 (tln (fd r)) d10] rfl
    simp only [setAll, List.set_cons_zero, List.set_cons_succ] at hP
    generalize hput1 : (((x4.setCell ⟨x2.heap.size, 0, none⟩ (.bool (zs r.num))).setCell ⟨x2.heap.size, 1, none⟩ (.slice g9 (tln r.num.natAbs) d9)).setCell ⟨x2.heap.size, 2, none⟩ (.slice g10 (tln (fd r)) d10)) = x5 at hP hS1
    have hB1 := hP.fc
    simp only [zF, Nat.reduceAdd] at hB1
    replace hL0 := hP
    replace hS := hS1
    clear hS1
    go_wp2_with fail
    go_roundg (gk - 1)
    case measure => omega
    case rel => exact ⟨i + 1, _, _, _, _, _, by omega, by omega, by first | rfl | go_num, hr.out, hL0, (((show SS x5 [(.slice g2 (tln (fd zq)) d2, (fd zq)), (.slice g1 (tln zq.num.natAbs) d1, zq.num.natAbs)] from fun p hp => hS p (mK (mK (mK (mK (mK (mK (mK (mK (mK (mK hp)))))))))))).cons (hS.get mZ)).cons (hS.get (mK mZ))⟩
  ·obtain rfl : ea = i := by omega
   have hq2 := (hq.trans hv1.out).symm
   subst hq2
   clear hq hin hik
   have kb : (ea : Int) ≤ 1000 := by have := hL1; have := heL.out; omega
   have kl0 : (0 : Int) ≤ (ea : Int) := Int.natCast_nonneg _
   have k1 := hway.out
   rcases hz.out with gz | ⟨gz, gt⟩
   all_goals (
    rcases hfin.out with ⟨gs, hcc, hrr⟩ | ⟨gs, hcc, hrr⟩
    ·subst hcc
     subst hrr
     have hN0 := cells_of _ 0 [] rfl (hL0.get _ _ mZ)
     simp only [zF, Nat.reduceAdd] at hN0
     go_wp2_with fail
     clear hN0
     with_reducible refine Calls.mono (HS.out (.agg #[.bool (zs q1.num), .slice ua1 (tln q1.num.natAbs) ma1, .slice va1 (tln (fd q1)) na1]) _ (rf_of (hS.get mZ) (hS.get (mK mZ)))) ?_
     rintro e x4 ⟨rfl, hb⟩
     replace hL0 := hL0.call hb
     replace hS := hS.call hb
     clear hb
     have hS1 := hS.put ((((Upd.refl w.heap.size x4).setCell 0 (.bool false)).setCell 1 (.slice none 0 0)).setCell 2 (.slice none 0 0)) (hL0.get _ _ (mK (mK mZ))) (by intro v hv n; simp only [List.mem_cons, List.not_mem_nil, or_false] at hv; rcases hv with rfl | rfl | rfl <;> simp)
     have hA := hL0.fc
     simp only [zF, Nat.reduceAdd] at hA
     have hP := hL0.put 2 (w.heap.size) _ rfl [.bool false, .slice none 0 0, .slice none 0 0] rfl
     simp only [setAll, List.set_cons_zero, List.set_cons_succ] at hP
     generalize hput1 : (((x4.setCell ⟨w.heap.size, 0, none⟩ (.bool false)).setCell ⟨w.heap.size, 1, none⟩ (.slice none 0 0)).setCell ⟨w.heap.size, 2, none⟩ (.slice none 0 0)) = x5 at hP hS1
     have hB1 := hP.fc
     simp only [zF, Nat.reduceAdd] at hB1
     replace hL0 := hP
     replace hS := hS1
     clear hS1
     go_wp2_with fail
     exact bodyPost_ret (v := .tuple #[.agg #[.bool false, .slice none 0 0, .slice none 0 0], .int .i64 4]) (by simp [results, Tryz.results20, go_sem, hB1]) rfl ⟨_, rfl, (rf_nil _), hL0.bl⟩
    ·subst hcc
     subst hrr
     have hN0 := cells_of _ 0 [] rfl (hL0.get _ _ mZ)
     simp only [zF, Nat.reduceAdd] at hN0
     go_wp2_with fail
     clear hN0
     with_reducible refine Calls.mono (HS.out (.agg #[.bool (zs q1.num), .slice ua1 (tln q1.num.natAbs) ma1, .slice va1 (tln (fd q1)) na1]) _ (rf_of (hS.get mZ) (hS.get (mK mZ)))) ?_
     rintro e x4 ⟨rfl, hb⟩
     replace hL0 := hL0.call hb
     replace hS := hS.call hb
     clear hb
     have hN0 := cells_of _ 0 [] rfl (hL0.get _ _ mZ)
     simp only [zF, Nat.reduceAdd] at hN0
     go_wp2_with fail
     clear hN0
     with_reducible refine Calls.mono (HN.out (.agg #[.bool (zs q1.num), .slice ua1 (tln q1.num.natAbs) ma1, .slice va1 (tln (fd q1)) na1]) _ (rf_of (hS.get mZ) (hS.get (mK mZ)))) ?_
     rintro e x5 ⟨v0, rfl, q0, hb⟩
     replace hL0 := hL0.call hb
     replace hS := hS.call hb
     clear hb
     obtain ⟨g3, d3, g4, d4, rfl⟩ := rf_form q0
     replace hS := hS.cons (rf_rn1 q0)
     replace hS := hS.cons (rf_rn2 q0)
     clear q0
     have hS1 := hS.put ((((Upd.refl x2.heap.size x5).setCell 0 (.bool (zs qn.num))).setCell 1 (.slice g3 (tln qn.num.natAbs) d3)).setCell 2 (.slice g4 (tln (fd qn)) d4)) (hL0.get _ _ mZ) (by intro v hv n; simp only [List.mem_cons, List.not_mem_nil, or_false] at hv; rcases hv with rfl | rfl | rfl <;> simp)
     have hA := hL0.fc
     simp only [zF, Nat.reduceAdd] at hA
     have hP := hL0.put 0 (x2.heap.size) _ rfl [.bool (zs qn.num), .slice g3 (tln qn.num.natAbs) d3, .slice g4 (tln (fd qn)) d4] rfl
     simp only [setAll, List.set_cons_zero, List.set_cons_succ] at hP
     generalize hput1 : (((x5.setCell ⟨x2.heap.size, 0, none⟩ (.bool (zs qn.num))).setCell ⟨x2.heap.size, 1, none⟩ (.slice g3 (tln qn.num.natAbs) d3)).setCell ⟨x2.heap.size, 2, none⟩ (.slice g4 (tln (fd qn)) d4)) = x6 at hP hS1
     have hB1 := hP.fc
     simp only [zF, Nat.reduceAdd] at hB1
     replace hL0 := hP
     replace hS := hS1
     clear hS1
     have hS1 := hS.put ((((Upd.refl w.heap.size x6).setCell 0 (.bool (zs qn.num))).setCell 1 (.slice g3 (tln qn.num.natAbs) d3)).setCell 2 (.slice g4 (tln (fd qn)) d4)) (hL0.get _ _ (mK (mK mZ))) (by intro v hv n; simp only [List.mem_cons, List.not_mem_nil, or_false] at hv; rcases hv with rfl | rfl | rfl <;> simp)
     have hP := hL0.put 2 (w.heap.size) _ rfl [.bool (zs qn.num), .slice g3 (tln qn.num.natAbs) d3, .slice g4 (tln (fd qn)) d4] rfl
     simp only [setAll, List.set_cons_zero, List.set_cons_succ] at hP
     generalize hput2 : (((x6.setCell ⟨w.heap.size, 0, none⟩ (.bool (zs qn.num))).setCell ⟨w.heap.size, 1, none⟩ (.slice g3 (tln qn.num.natAbs) d3)).setCell ⟨w.heap.size, 2, none⟩ (.slice g4 (tln (fd qn)) d4)) = x7 at hP hS1
     have hB2 := hP.fc
     simp only [zF, Nat.reduceAdd] at hB2
     replace hL0 := hP
     replace hS := hS1
     clear hS1
     go_wp2_with fail
     exact bodyPost_ret (v := .tuple #[.agg #[.bool (zs qn.num), .slice g3 (tln qn.num.natAbs) d3, .slice g4 (tln (fd qn)) d4], .int .i64 0]) (by simp [results, Tryz.results20, go_sem, hB2]) rfl ⟨_, rfl, (rf_of (hS.get (mK mZ)) (hS.get mZ)), hL0.bl⟩)
end Go.Proofs.YtahfcciihkkegaaGreatDoor
namespace Go.Proofs.YtahfcciihkkegaaGreatDoor
open Go.RowKit Go.Proofs.YtahfcciihkkegaaGreatDoor.Rx
attribute [local irreducible] lo hs sm s64 c64 d64 b64 mh ml pd pc qd qc val hiB str cmpI srD lz nb isq decB zl zh zs dval tln fd
theorem rps_nG (s : ByteArray) (L ea fa : Nat) (c00 c0 c9 c8 : UInt8) (va vb sb : Nat → Rat) (zq tn q1 sc0 q2 qn rr : Rat) (sg cc : Int) (HZ : ∀ (w : World), Calls Tryz.prog 57 #[.int .i64 0] w fun e w' => ∃ pv, e = .returned pv ∧ RF w' pv zq ∧ Below w.heap.size w w') (HT : ∀ (w : World), Calls Tryz.prog 57 #[.int .i64 10] w fun e w' => ∃ pv, e = .returned pv ∧ RF w' pv tn ∧ Below w.heap.size w w') (HO1 : ∀ (w : World), Calls Tryz.prog 57 #[.int .i64 1] w fun e w' => ∃ pv, e = .returned pv ∧ RF w' pv sc0 ∧ Below w.heap.size w w') (HS : ∀ (p0 : Value) (w : World), RF w p0 q2 → Calls Tryz.prog 72 #[p0] w fun e w' => e = .returned (.int .i64 sg) ∧ Below w.heap.size w w') (HN : ∀ (p0 : Value) (w : World), RF w p0 q2 → Calls Tryz.prog 73 #[p0] w fun e w' => ∃ pv, e = .returned pv ∧ RF w' pv qn ∧ Below w.heap.size w w') (hsz : s.size = L) (hL1 : L ≤ 100) (d40 : decide ((4096 : Int) < (L : Int)) = false) (d41 : decide (4096 < L) = false) (hp : (0 : Int) < (L : Int)) (h00 : 0 < s.size) (hg00 : s[0]'h00 = c00) (g00 : ((c00.toNat : Int) == 45) = true) (h0 : zq = va 1) (hv1 : va ea = q1) (hbe : 1 ≤ ea) (heL : ea ≤ L) (H1 : ∀ i : Nat, 1 ≤ i → i < ea → ∃ (h : i < s.size) (c : UInt8) (k : Int) (m d : Rat), s[i]'h = c ∧ (48 : Int) ≤ (c.toNat : Int) ∧ (c.toNat : Int) ≤ 57 ∧ IntKind.u8.wrap ((c.toNat : Int) - 48) = k ∧ IntKind.i64.wrap k = k ∧ (∀ (p0 p1 : Value) (w : World), RF w p0 ((va i)) → RF w p1 tn → Calls Tryz.prog 71 #[p0, p1] w fun e w' => ∃ pv, e = .returned pv ∧ RF w' pv m ∧ Below w.heap.size w w') ∧ (∀ (w : World), Calls Tryz.prog 57 #[.int .i64 k] w fun e w' => ∃ pv, e = .returned pv ∧ RF w' pv d ∧ Below w.heap.size w w') ∧ (∀ (p0 p1 : Value) (w : World), RF w p0 m → RF w p1 d → Calls Tryz.prog 70 #[p0, p1] w fun e w' => ∃ pv, e = .returned pv ∧ RF w' pv ((va (i + 1))) ∧ Below w.heap.size w w')) (hway : ((ea : Int) < (L : Int) ∧ ∃ h : ea < s.size, s[ea]'h = c9 ∧ ¬ (48 : Int) ≤ (c9.toNat : Int))) (y1 : ((ea : Int) == 1) = false) (y2 : (ea == 1) = false) (y3 : ¬ ea = 1) (hb8 : (1 : Int) < (L : Int)) (hb9 : 1 < s.size) (hgb : s[1]'hb9 = c0) (hz : ((c0.toNat : Int) == 48) = false ∨ (((c0.toNat : Int) == 48) = true ∧ decide ((2 : Int) < (ea : Int)) = false)) (g46 : ((c9.toNat : Int) != 46) = false) (g47 : ((c9.toNat : Int) == 46) = true) (y5 : (((ea : Int) + 1) == (L : Int)) = false) (y6 : (ea + 1 == L) = false) (y7 : ¬ (ea + 1 = L)) (y8 : ¬ ((ea : Int) + 1 = (L : Int))) (hv2 : q1 = vb (ea + 1)) (hs0 : sc0 = sb (ea + 1)) (hef : ea + 1 ≤ fa) (hfL : fa ≤ L) (H2 : ∀ i : Nat, ea + 1 ≤ i → i < fa → ∃ (h : i < s.size) (c : UInt8) (k : Int) (m d : Rat), s[i]'h = c ∧ (48 : Int) ≤ (c.toNat : Int) ∧ (c.toNat : Int) ≤ 57 ∧ IntKind.u8.wrap ((c.toNat : Int) - 48) = k ∧ IntKind.i64.wrap k = k ∧ (∀ (p0 p1 : Value) (w : World), RF w p0 ((sb i)) → RF w p1 tn → Calls Tryz.prog 55 #[p0, p1] w fun e w' => ∃ pv, e = .returned pv ∧ RF w' pv ((sb (i + 1))) ∧ Below w.heap.size w w') ∧ (∀ (w : World), Calls Tryz.prog 57 #[.int .i64 k] w fun e w' => ∃ pv, e = .returned pv ∧ RF w' pv d ∧ Below w.heap.size w w') ∧ (∀ (p0 p1 : Value) (w : World), RF w p0 ((sb (i + 1))) → RF w p1 d → Calls Tryz.prog 71 #[p0, p1] w fun e w' => ∃ pv, e = .returned pv ∧ RF w' pv m ∧ Below w.heap.size w w') ∧ (∀ (p0 p1 : Value) (w : World), RF w p0 ((vb i)) → RF w p1 m → Calls Tryz.prog 70 #[p0, p1] w fun e w' => ∃ pv, e = .returned pv ∧ RF w' pv ((vb (i + 1))) ∧ Below w.heap.size w w')) (hw2 : (((fa : Int) < (L : Int) ∧ ∃ h : fa < s.size, s[fa]'h = c8 ∧ (c8.toNat : Int) < 48) ∧ 4 = cc ∧ (0 : Rat) = rr) ∨ (((fa : Int) < (L : Int) ∧ ∃ h : fa < s.size, s[fa]'h = c8 ∧ ¬ (c8.toNat : Int) < 48 ∧ (57 : Int) < (c8.toNat : Int)) ∧ 4 = cc ∧ (0 : Rat) = rr) ∨ ¬ (fa : Int) < (L : Int)) (hv3 : vb fa = q2) (hfin : ¬ (fa : Int) < (L : Int) → ((sg == 0) = true ∧ 4 = cc ∧ (0 : Rat) = rr) ∨ ((sg == 0) = false ∧ 0 = cc ∧ qn = rr)) (w : World) :
  Calls Tryz.prog 20 #[.string s] w fun e w' => ∃ pv, e = .returned (.tuple #[pv, .int .i64 cc]) ∧ RF w' pv rr ∧ Below w.heap.size w w' := by
 replace HZ := Lib.hid HZ
 replace HT := Lib.hid HT
 replace HO1 := Lib.hid HO1
 replace HS := Lib.hid HS
 replace HN := Lib.hid HN
 have hL0 : GL w w [] := GL.start w
 have hS : SS w [] := SS.nil w
 replace h0 := Lib.hid h0
 replace hv1 := Lib.hid hv1
 replace hbe := Lib.hid hbe
 replace heL := Lib.hid heL
 replace H1 := Lib.hid H1
 replace hway := Lib.hid hway
 replace hz := Lib.hid hz
 replace hv2 := Lib.hid hv2
 replace hs0 := Lib.hid hs0
 replace hef := Lib.hid hef
 replace hfL := Lib.hid hfL
 replace H2 := Lib.hid H2
 replace hw2 := Lib.hid hw2
 replace hv3 := Lib.hid hv3
 replace hfin := Lib.hid hfin
 obtain ⟨x1, hweq, hL0, hS⟩ := GL.named2 ((hL0.new rfl [.bool false, .slice none 0 0, .slice none 0 0] 46).new (K := w.heap.size + 1) (szA _ _) [.bool false, .slice none 0 0, .slice none 0 0] 46) ((hS.new (.cells #[.bool false, .slice none 0 0, .slice none 0 0] 46)).new (.cells #[.bool false, .slice none 0 0, .slice none 0 0] 46))
 go_enter Tryz.func20, Tryz.ntmps20
 go_wp2_with fail
 with_reducible refine Calls.mono (HZ.out _) ?_
 rintro e x2 ⟨v0, rfl, q0, hb⟩
 replace hL0 := hL0.call hb
 replace hS := hS.call hb
 clear hb hweq
 obtain ⟨g1, d1, g2, d2, rfl⟩ := rf_form q0
 replace hS := hS.cons (rf_rn1 q0)
 replace hS := hS.cons (rf_rn2 q0)
 clear q0
 obtain ⟨x3, hweq, hL0, hS⟩ := GL.named2 (hL0.new rfl [.bool (zs zq.num), .slice g1 (tln zq.num.natAbs) d1, .slice g2 (tln (fd zq)) d2] 46) (hS.new (.cells #[.bool (zs zq.num), .slice g1 (tln zq.num.natAbs) d1, .slice g2 (tln (fd zq)) d2] 46))
 go_wp2_with fail
 clear hweq
 go_loopg [5] (ea - 1) (fun gk iv wr => ∃ (i : Nat) (q : Rat) (ua1 : Option Addr) (ma1 : Nat) (va1 : Option Addr) (na1 : Nat), 1 ≤ i ∧ i + gk = ea ∧ iv = .int .i64 (i : Int) ∧ q = va i ∧ GL w wr [(x2.heap.size, [.bool (zs q.num), .slice ua1 (tln q.num.natAbs) ma1, .slice va1 (tln (fd q)) na1]), (w.heap.size + 1, [.bool false, .slice none 0 0, .slice none 0 0]), (w.heap.size, [.bool false, .slice none 0 0, .slice none 0 0])] ∧ SS wr [(.slice ua1 (tln q.num.natAbs) ma1, q.num.natAbs), (.slice va1 (tln (fd q)) na1, (fd q)), (.slice g2 (tln (fd zq)) d2, (fd zq)), (.slice g1 (tln zq.num.natAbs) d1, zq.num.natAbs)])
 case atStart => exact ⟨1, _, _, _, _, _, Nat.le_refl _, by have := hbe.out; omega, by first | rfl | go_num, h0.out, hL0, ((hS).cons (hS.get mZ)).cons (hS.get (mK mZ))⟩
 case round =>
  clear hL0 hS
  obtain ⟨i, q, ua1, ma1, va1, na1, hbi, hik, rfl, hq, hL0, hS⟩ := hrel
  by_cases hin : i < ea
  ·obtain ⟨h1, c, k, m, d, hg1, dlo, dhi, w8, w6, HM1, HI1, HA1⟩ := H1.out i hbi hin
   obtain ⟨r, hr⟩ : ∃ r, r = va (i + 1) := ⟨_, rfl⟩
   rw [← hq] at HM1
   rw [← hr] at HA1
   replace HM1 := Lib.hid HM1
   replace HI1 := Lib.hid HI1
   replace HA1 := Lib.hid HA1
   replace hq := Lib.hid hq
   replace hr := Lib.hid hr
   have kl0 : (0 : Int) ≤ (i : Int) := Int.natCast_nonneg _
   have kL : i < s.size := h1
   have kl1 : (i : Int) < (L : Int) := by have := hsz; omega
   have kb : (i : Int) ≤ 1000 := by have := hL1; omega
   have kn1 : ¬ (c.toNat : Int) < 48 := by omega
   have kn2 : ¬ (57 : Int) < (c.toNat : Int) := by omega
   go_upto_region 11 with fail
   refine region_tl 10 [EV (.agg #[.bool (zs q.num), .slice ua1 (tln q.num.natAbs) ma1, .slice va1 (tln (fd q)) na1]), PF tn, PF m, EV (.string s), EV (.int .i64 (i : Int)), EV (.int .u8 (c.toNat : Int)), EV (.int .u8 k), EV (.int .i64 k), PF d, PF r] (by kernel_rfl) (by kernel_rfl) ?_ ?_ ?_
   ·repeat' first | exact stays_nil | apply stays_cons | exact stays_eq _ | exact stays_rf _
   ·simp only [List.take_succ_cons, List.take_zero, hopsR, and_true]
    refine ⟨?_, ?_, ?_, ?_, ?_, ?_, ?_, ?_, ?_, ?_⟩ <;> intro fv w1 hb1 hp
    all_goals (have hc := (hL0.call (below_drew hb1)).fc; simp only [zF, Nat.reduceAdd] at hc; simp only [putsV, Act.put, zP, Nat.zero_add, Nat.reduceAdd])
    ·refine tyAt_none rfl ?_
     simp [tyUpon, execOp, go_sem, Act.eval, hc, hsz, hg1, kL, kl1, kl0, w8, w6, Below.refl]
    ·refine tyAt_none rfl ?_
     refine ty_call (f := 57) (args := #[.int .i64 10]) (by simp [execOp, go_sem, Act.eval]) ?_
     exact (HT.out w1).mono fun e w2 ⟨pv, h1, h2, h3⟩ => ⟨pv, h1, h2, h3⟩
    ·have h0 : EV _ (fv 0) w1 := hp 0 (LC (by kernel_rfl))
     have h1 : PF _ (fv 1) w1 := hp 1 (LC (by kernel_rfl))
     refine tyAt_none rfl ?_
     refine ty_call (f := 71) (args := #[.agg #[.bool (zs q.num), .slice ua1 (tln q.num.natAbs) ma1, .slice va1 (tln (fd q)) na1], fv 1]) (by simp [execOp, go_sem, Act.eval, h0]) ?_
     exact (HM1.out (.agg #[.bool (zs q.num), .slice ua1 (tln q.num.natAbs) ma1, .slice va1 (tln (fd q)) na1]) (fv 1) w1 (rf_of (Sl.below (hS.get mZ) (below_drew hb1)) (Sl.below (hS.get (mK mZ)) (below_drew hb1))) h1).mono fun e w2 ⟨pv, h1, h2, h3⟩ => ⟨pv, h1, h2, h3⟩
    ·refine tyAt_none rfl ?_
     simp [tyUpon, execOp, go_sem, Act.eval, hsz, hg1, kL, kl1, kl0, w8, w6, Below.refl]
    ·refine tyAt_none rfl ?_
     simp [tyUpon, execOp, go_sem, Act.eval, hsz, hg1, kL, kl1, kl0, w8, w6, Below.refl]
    ·have h3 : EV _ (fv 3) w1 := hp 3 (LC (by kernel_rfl))
     have h4 : EV _ (fv 4) w1 := hp 4 (LC (by kernel_rfl))
     refine tyAt_none rfl ?_
     simp [tyUpon, execOp, go_sem, Act.eval, hc, h3, h4, hsz, hg1, kL, kl1, kl0, w8, w6, Below.refl]
    ·have h5 : EV _ (fv 5) w1 := hp 5 (LC (by kernel_rfl))
     refine tyAt_none rfl ?_
     simp [tyUpon, execOp, go_sem, Act.eval, h5, hsz, hg1, kL, kl1, kl0, w8, w6, Below.refl]
    ·have h6 : EV _ (fv 6) w1 := hp 6 (LC (by kernel_rfl))
     refine tyAt_none rfl ?_
     simp [tyUpon, execOp, go_sem, Act.eval, h6, hsz, hg1, kL, kl1, kl0, w8, w6, Below.refl]
    ·have h7 : EV _ (fv 7) w1 := hp 7 (LC (by kernel_rfl))
     refine tyAt_none rfl ?_
     refine ty_call (f := 57) (args := #[.int .i64 k]) (by simp [execOp, go_sem, Act.eval, h7]) ?_
     exact (HI1.out w1).mono fun e w2 ⟨pv, h1, h2, h3⟩ => ⟨pv, h1, h2, h3⟩
    ·have h2 : PF _ (fv 2) w1 := hp 2 (LC (by kernel_rfl))
     have h8 : PF _ (fv 8) w1 := hp 8 (LC (by kernel_rfl))
     refine tyAt_none rfl ?_
     refine ty_call (f := 70) (args := #[fv 2, fv 8]) (by simp [execOp, go_sem, Act.eval]) ?_
     exact (HA1.out (fv 2) (fv 8) w1 h2 h8).mono fun e w2 ⟨pv, h1, h2, h3⟩ => ⟨pv, h1, h2, h3⟩
   ·intro fv x4 hb1 hv
    have e0 : fv 0 = _ := hv 0 (by omega)
    have q1 : RF x4 (fv 1) tn := hv 1 (by omega)
    obtain ⟨g3, d3, g4, d4, e1⟩ := rf_form q1
    rw [e1] at q1
    have q2 : RF x4 (fv 2) m := hv 2 (by omega)
    obtain ⟨g5, d5, g6, d6, e2⟩ := rf_form q2
    rw [e2] at q2
    have e3 : fv 3 = _ := hv 3 (by omega)
    have e4 : fv 4 = _ := hv 4 (by omega)
    have e5 : fv 5 = _ := hv 5 (by omega)
    have e6 : fv 6 = _ := hv 6 (by omega)
    have e7 : fv 7 = _ := hv 7 (by omega)
    have q8 : RF x4 (fv 8) d := hv 8 (by omega)
    obtain ⟨g7, d7, g8, d8, e8⟩ := rf_form q8
    rw [e8] at q8
    have q9 : RF x4 (fv 9) r := hv 9 (by omega)
    obtain ⟨g9, d9, g10, d10, e9⟩ := rf_form q9
    rw [e9] at q9
    simp only [List.take_succ_cons, List.take_zero, putsV, Act.put, zP, List.drop_succ_cons, List.drop_zero, Nat.zero_add, Nat.reduceAdd, e0, e1, e2, e3, e4, e5, e6, e7, e8, e9]
    replace hL0 := hL0.call (below_drew hb1)
    replace hS := hS.call (below_drew hb1)
    replace hS := hS.cons (rf_rn1 q1)
    replace hS := hS.cons (rf_rn2 q1)
    replace hS := hS.cons (rf_rn1 q2)
    replace hS := hS.cons (rf_rn2 q2)
    replace hS := hS.cons (rf_rn1 q8)
    replace hS := hS.cons (rf_rn2 q8)
    replace hS := hS.cons (rf_rn1 q9)
    replace hS := hS.cons (rf_rn2 q9)
    clear e0 e1 e2 e3 e4 e5 e6 e7 e8 e9 hb1 hv q1 q2 q8 q9 fv
    have hS1 := hS.put ((((Upd.refl x2.heap.size x4).setCell 0 (.bool (zs r.num))).setCell 1 (.slice g9 (tln r.num.natAbs) d9)).setCell 2 (.slice g10 (tln (fd r)) d10)) (hL0.get _ _ mZ) (by intro v hv n; simp only [List.mem_cons, List.not_mem_nil, or_false] at hv; rcases hv with rfl | rfl | rfl <;> simp)
    have hA := hL0.fc
    simp only [zF, Nat.reduceAdd] at hA
    have hP := hL0.put 0 (x2.heap.size) _ rfl [.bool (zs r.num), .slice g9 (tln r.num.natAbs) d9, .slice g10 (tln (fd r)) d10] rfl
    simp only [setAll, List.set_cons_zero, List.set_cons_succ] at hP
    generalize hput1 : (((x4.setCell ⟨x2.heap.size, 0, none⟩ (.bool (zs r.num))).setCell ⟨x2.heap.size, 1, none⟩ (.slice g9 (tln r.num.natAbs) d9)).setCell ⟨x2.heap.size, 2, none⟩ (.slice g10 (tln (fd r)) d10)) = x5 at hP hS1
    have hB1 := hP.fc
    simp only [zF, Nat.reduceAdd] at hB1
    replace hL0 := hP
    replace hS := hS1
    clear hS1
    go_wp2_with fail
    go_roundg (gk - 1)
    case measure => omega
    case rel => exact ⟨i + 1, _, _, _, _, _, by omega, by omega, by first | rfl | go_num, hr.out, hL0, (((show SS x5 [(.slice g2 (tln (fd zq)) d2, (fd zq)), (.slice g1 (tln zq.num.natAbs) d1, zq.num.natAbs)] from fun p hp => hS p (mK (mK (mK (mK (mK (mK (mK (mK (mK (mK hp)))))))))))).cons (hS.get mZ)).cons (hS.get (mK mZ))⟩
  ·obtain rfl : ea = i := by omega
   have hq2 := (hq.trans hv1.out).symm
   subst hq2
   clear hq hin hik
   have kb : (ea : Int) ≤ 1000 := by have := hL1; have := heL.out; omega
   have kl0 : (0 : Int) ≤ (ea : Int) := Int.natCast_nonneg _
   obtain ⟨k1, h9, hg9, n1⟩ := hway.out
   rcases hz.out with gz | ⟨gz, gt⟩
   all_goals (
    go_wp2_with fail
    with_reducible refine Calls.mono (HO1.out _) ?_
    rintro e x4 ⟨v0, rfl, q0, hb⟩
    replace hL0 := hL0.call hb
    replace hS := hS.call hb
    clear hb
    obtain ⟨g3, d3, g4, d4, rfl⟩ := rf_form q0
    replace hS := hS.cons (rf_rn1 q0)
    replace hS := hS.cons (rf_rn2 q0)
    clear q0
    obtain ⟨x5, hweq, hL0, hS⟩ := GL.named2 (hL0.new rfl [.bool (zs sc0.num), .slice g3 (tln sc0.num.natAbs) d3, .slice g4 (tln (fd sc0)) d4] 46) (hS.new (.cells #[.bool (zs sc0.num), .slice g3 (tln sc0.num.natAbs) d3, .slice g4 (tln (fd sc0)) d4] 46))
    go_wp2_with fail
    clear hweq
    go_loopg [5] (fa - (ea + 1)) (fun gk iv wr => ∃ (i : Nat) (q sc : Rat) (ua2 : Option Addr) (ma2 : Nat) (va2 : Option Addr) (na2 : Nat) (ua3 : Option Addr) (ma3 : Nat) (va3 : Option Addr) (na3 : Nat), ea + 1 ≤ i ∧ i + gk = fa ∧ iv = .int .i64 (i : Int) ∧ q = vb i ∧ sc = sb i ∧ GL w wr [(x4.heap.size, [.bool (zs sc.num), .slice ua3 (tln sc.num.natAbs) ma3, .slice va3 (tln (fd sc)) na3]), (x2.heap.size, [.bool (zs q.num), .slice ua2 (tln q.num.natAbs) ma2, .slice va2 (tln (fd q)) na2]), (w.heap.size + 1, [.bool false, .slice none 0 0, .slice none 0 0]), (w.heap.size, [.bool false, .slice none 0 0, .slice none 0 0])] ∧ SS wr [(.slice ua2 (tln q.num.natAbs) ma2, q.num.natAbs), (.slice va2 (tln (fd q)) na2, (fd q)), (.slice ua3 (tln sc.num.natAbs) ma3, sc.num.natAbs), (.slice va3 (tln (fd sc)) na3, (fd sc)), (.slice g4 (tln (fd sc0)) d4, (fd sc0)), (.slice g3 (tln sc0.num.natAbs) d3, sc0.num.natAbs), (.slice ua1 (tln q1.num.natAbs) ma1, q1.num.natAbs), (.slice va1 (tln (fd q1)) na1, (fd q1)), (.slice g2 (tln (fd zq)) d2, (fd zq)), (.slice g1 (tln zq.num.natAbs) d1, zq.num.natAbs)])
    case atStart => exact ⟨ea + 1, _, _, _, _, _, _, _, _, _, _, Nat.le_refl _, by have := hef.out; omega, by first | rfl | go_num, hv2.out, hs0.out, hL0, ((((hS).cons (hS.get mZ)).cons (hS.get (mK mZ))).cons (hS.get (mK (mK (mK mZ))))).cons (hS.get (mK (mK mZ)))⟩
    case round =>
     clear hL0 hS
     obtain ⟨i, q, sc, ua2, ma2, va2, na2, ua3, ma3, va3, na3, hbi, hik, rfl, hq, hsc, hL0, hS⟩ := hrel
     clear kl0 kb k1 h9 hg9 n1
     by_cases hin : i < fa
     ·obtain ⟨h1, c, k, m, d, hg1, dlo, dhi, w8, w6, HD1, HI1, HM1, HA1⟩ := H2.out i hbi hin
      obtain ⟨r, hr⟩ : ∃ r, r = vb (i + 1) := ⟨_, rfl⟩
      obtain ⟨sd, hsd⟩ : ∃ r, r = sb (i + 1) := ⟨_, rfl⟩
      rw [← hsc, ← hsd] at HD1
      rw [← hsd] at HM1
      rw [← hq, ← hr] at HA1
      replace HD1 := Lib.hid HD1
      replace HM1 := Lib.hid HM1
      replace HI1 := Lib.hid HI1
      replace HA1 := Lib.hid HA1
      replace hq := Lib.hid hq
      replace hr := Lib.hid hr
      replace hsc := Lib.hid hsc
      replace hsd := Lib.hid hsd
      have kl0 : (0 : Int) ≤ (i : Int) := Int.natCast_nonneg _
      have kL : i < s.size := h1
      have kl1 : (i : Int) < (L : Int) := by have := hsz; omega
      have kb : (i : Int) ≤ 1000 := by have := hL1; omega
      have kn1 : ¬ (c.toNat : Int) < 48 := by omega
      have kn2 : ¬ (57 : Int) < (c.toNat : Int) := by omega
      go_upto_region 24 with fail
      refine region_tl 3 [EV (.agg #[.bool (zs sc.num), .slice ua3 (tln sc.num.natAbs) ma3, .slice va3 (tln (fd sc)) na3]), PF tn, PF sd] (by kernel_rfl) (by kernel_rfl) ?_ ?_ ?_
      ·repeat' first | exact stays_nil | apply stays_cons | exact stays_eq _ | exact stays_rf _
      ·simp only [List.take_succ_cons, List.take_zero, hopsR, and_true]
       refine ⟨?_, ?_, ?_⟩ <;> intro fv w1 hb1 hp
       all_goals (have hc := (hL0.call (below_drew hb1)).fc; simp only [zF, Nat.reduceAdd] at hc; simp only [putsV, Act.put, zP, Nat.zero_add, Nat.reduceAdd])
       ·refine tyAt_none rfl ?_
        simp [tyUpon, execOp, go_sem, Act.eval, hc, Below.refl]
       ·refine tyAt_none rfl ?_
        refine ty_call (f := 57) (args := #[.int .i64 10]) (by simp [execOp, go_sem, Act.eval]) ?_
        exact (HT.out w1).mono fun e w2 ⟨pv, h1, h2, h3⟩ => ⟨pv, h1, h2, h3⟩
       ·have h0 : EV _ (fv 0) w1 := hp 0 (LC (by kernel_rfl))
        have h1 : PF _ (fv 1) w1 := hp 1 (LC (by kernel_rfl))
        refine tyAt_none rfl ?_
        refine ty_call (f := 55) (args := #[.agg #[.bool (zs sc.num), .slice ua3 (tln sc.num.natAbs) ma3, .slice va3 (tln (fd sc)) na3], fv 1]) (by simp [execOp, go_sem, Act.eval, h0]) ?_
        exact (HD1.out (.agg #[.bool (zs sc.num), .slice ua3 (tln sc.num.natAbs) ma3, .slice va3 (tln (fd sc)) na3]) (fv 1) w1 (rf_of (Sl.below (hS.get (mK (mK mZ))) (below_drew hb1)) (Sl.below (hS.get (mK (mK (mK mZ)))) (below_drew hb1))) h1).mono fun e w2 ⟨pv, h1, h2, h3⟩ => ⟨pv, h1, h2, h3⟩
      ·intro fv x6 hb1 hv
       have e0 : fv 0 = _ := hv 0 (by omega)
       have q1 : RF x6 (fv 1) tn := hv 1 (by omega)
       obtain ⟨g5, d5, g6, d6, e1⟩ := rf_form q1
       rw [e1] at q1
       have q2 : RF x6 (fv 2) sd := hv 2 (by omega)
       obtain ⟨g7, d7, g8, d8, e2⟩ := rf_form q2
       rw [e2] at q2
       simp only [List.take_succ_cons, List.take_zero, putsV, Act.put, zP, List.drop_succ_cons, List.drop_zero, Nat.zero_add, Nat.reduceAdd, e0, e1, e2]
       replace hL0 := hL0.call (below_drew hb1)
       replace hS := hS.call (below_drew hb1)
       replace hS := hS.cons (rf_rn1 q1)
       replace hS := hS.cons (rf_rn2 q1)
       replace hS := hS.cons (rf_rn1 q2)
       replace hS := hS.cons (rf_rn2 q2)
       clear e0 e1 e2 hb1 hv q1 q2 fv
       have hS1 := hS.put ((((Upd.refl x4.heap.size x6).setCell 0 (.bool (zs sd.num))).setCell 1 (.slice g7 (tln sd.num.natAbs) d7)).setCell 2 (.slice g8 (tln (fd sd)) d8)) (hL0.get _ _ mZ) (by intro v hv n; simp only [List.mem_cons, List.not_mem_nil, or_false] at hv; rcases hv with rfl | rfl | rfl <;> simp)
       have hA := hL0.fc
       simp only [zF, Nat.reduceAdd] at hA
       have hP := hL0.put 0 (x4.heap.size) _ rfl [.bool (zs sd.num), .slice g7 (tln sd.num.natAbs) d7, .slice g8 (tln (fd sd)) d8] rfl
       simp only [setAll, List.set_cons_zero, List.set_cons_succ] at hP
       generalize hput1 : (((x6.setCell ⟨x4.heap.size, 0, none⟩ (.bool (zs sd.num))).setCell ⟨x4.heap.size, 1, none⟩ (.slice g7 (tln sd.num.natAbs) d7)).setCell ⟨x4.heap.size, 2, none⟩ (.slice g8 (tln (fd sd)) d8)) = x7 at hP hS1
       have hB1 := hP.fc
       simp only [zF, Nat.reduceAdd] at hB1
       replace hL0 := hP
       replace hS := hS1
       clear hS1
       go_upto_region 25 with fail
       clear hput1 hB1
       clear hA
       refine region_tl 10 [EV (.agg #[.bool (zs q.num), .slice ua2 (tln q.num.natAbs) ma2, .slice va2 (tln (fd q)) na2]), EV (.agg #[.bool (zs sd.num), .slice g7 (tln sd.num.natAbs) d7, .slice g8 (tln (fd sd)) d8]), EV (.string s), EV (.int .i64 (i : Int)), EV (.int .u8 (c.toNat : Int)), EV (.int .u8 k), EV (.int .i64 k), PF d, PF m, PF r] (by kernel_rfl) (by kernel_rfl) ?_ ?_ ?_
       ·repeat' first | exact stays_nil | apply stays_cons | exact stays_eq _ | exact stays_rf _
       ·simp only [List.take_succ_cons, List.take_zero, hopsR, and_true]
        refine ⟨?_, ?_, ?_, ?_, ?_, ?_, ?_, ?_, ?_, ?_⟩ <;> intro fv w1 hb1 hp
        all_goals (have hc := (hL0.call (below_drew hb1)).fc; simp only [zF, Nat.reduceAdd] at hc; simp only [putsV, Act.put, zP, Nat.zero_add, Nat.reduceAdd])
        ·refine tyAt_none rfl ?_
         simp [tyUpon, execOp, go_sem, Act.eval, hc, hsz, hg1, kL, kl1, kl0, w8, w6, Below.refl]
        ·refine tyAt_none rfl ?_
         simp [tyUpon, execOp, go_sem, Act.eval, hc, hsz, hg1, kL, kl1, kl0, w8, w6, Below.refl]
        ·refine tyAt_none rfl ?_
         simp [tyUpon, execOp, go_sem, Act.eval, hsz, hg1, kL, kl1, kl0, w8, w6, Below.refl]
        ·refine tyAt_none rfl ?_
         simp [tyUpon, execOp, go_sem, Act.eval, hsz, hg1, kL, kl1, kl0, w8, w6, Below.refl]
        ·have h2 : EV _ (fv 2) w1 := hp 2 (LC (by kernel_rfl))
         have h3 : EV _ (fv 3) w1 := hp 3 (LC (by kernel_rfl))
         refine tyAt_none rfl ?_
         simp [tyUpon, execOp, go_sem, Act.eval, hc, h2, h3, hsz, hg1, kL, kl1, kl0, w8, w6, Below.refl]
        ·have h4 : EV _ (fv 4) w1 := hp 4 (LC (by kernel_rfl))
         refine tyAt_none rfl ?_
         simp [tyUpon, execOp, go_sem, Act.eval, h4, hsz, hg1, kL, kl1, kl0, w8, w6, Below.refl]
        ·have h5 : EV _ (fv 5) w1 := hp 5 (LC (by kernel_rfl))
         refine tyAt_none rfl ?_
         simp [tyUpon, execOp, go_sem, Act.eval, h5, hsz, hg1, kL, kl1, kl0, w8, w6, Below.refl]
        ·have h6 : EV _ (fv 6) w1 := hp 6 (LC (by kernel_rfl))
         refine tyAt_none rfl ?_
         refine ty_call (f := 57) (args := #[.int .i64 k]) (by simp [execOp, go_sem, Act.eval, h6]) ?_
         exact (HI1.out w1).mono fun e w2 ⟨pv, h1, h2, h3⟩ => ⟨pv, h1, h2, h3⟩
        ·have h1 : EV _ (fv 1) w1 := hp 1 (LC (by kernel_rfl))
         have h7 : PF _ (fv 7) w1 := hp 7 (LC (by kernel_rfl))
         refine tyAt_none rfl ?_
         refine ty_call (f := 71) (args := #[.agg #[.bool (zs sd.num), .slice g7 (tln sd.num.natAbs) d7, .slice g8 (tln (fd sd)) d8], fv 7]) (by simp [execOp, go_sem, Act.eval, h1]) ?_
         exact (HM1.out (.agg #[.bool (zs sd.num), .slice g7 (tln sd.num.natAbs) d7, .slice g8 (tln (fd sd)) d8]) (fv 7) w1 (rf_of (Sl.below (hS.get (mK mZ)) (below_drew hb1)) (Sl.below (hS.get mZ) (below_drew hb1))) h7).mono fun e w2 ⟨pv, h1, h2, h3⟩ => ⟨pv, h1, h2, h3⟩
        ·have h0 : EV _ (fv 0) w1 := hp 0 (LC (by kernel_rfl))
         have h8 : PF _ (fv 8) w1 := hp 8 (LC (by kernel_rfl))
         refine tyAt_none rfl ?_
         refine ty_call (f := 70) (args := #[.agg #[.bool (zs q.num), .slice ua2 (tln q.num.natAbs) ma2, .slice va2 (tln (fd q)) na2], fv 8]) (by simp [execOp, go_sem, Act.eval, h0]) ?_
         exact (HA1.out (.agg #[.bool (zs q.num), .slice ua2 (tln q.num.natAbs) ma2, .slice va2 (tln (fd q)) na2]) (fv 8) w1 (rf_of (Sl.below (hS.get (mK (mK (mK (mK mZ))))) (below_drew hb1)) (Sl.below (hS.get (mK (mK (mK (mK (mK mZ)))))) (below_drew hb1))) h8).mono fun e w2 ⟨pv, h1, h2, h3⟩ => ⟨pv, h1, h2, h3⟩
       ·intro fv x8 hb1 hv
        have e0 : fv 0 = _ := hv 0 (by omega)
        have e1 : fv 1 = _ := hv 1 (by omega)
        have e2 : fv 2 = _ := hv 2 (by omega)
        have e3 : fv 3 = _ := hv 3 (by omega)
        have e4 : fv 4 = _ := hv 4 (by omega)
        have e5 : fv 5 = _ := hv 5 (by omega)
        have e6 : fv 6 = _ := hv 6 (by omega)
        have q7 : RF x8 (fv 7) d := hv 7 (by omega)
        obtain ⟨g9, d9, g10, d10, e7⟩ := rf_form q7
        rw [e7] at q7
        have q8 : RF x8 (fv 8) m := hv 8 (by omega)
        obtain ⟨g11, d11, g12, d12, e8⟩ := rf_form q8
        rw [e8] at q8
        have q9 : RF x8 (fv 9) r := hv 9 (by omega)
        obtain ⟨g13, d13, g14, d14, e9⟩ := rf_form q9
        rw [e9] at q9
        simp only [List.take_succ_cons, List.take_zero, putsV, Act.put, zP, List.drop_succ_cons, List.drop_zero, Nat.zero_add, Nat.reduceAdd, e0, e1, e2, e3, e4, e5, e6, e7, e8, e9]
        replace hL0 := hL0.call (below_drew hb1)
        replace hS := hS.call (below_drew hb1)
        replace hS := hS.cons (rf_rn1 q7)
        replace hS := hS.cons (rf_rn2 q7)
        replace hS := hS.cons (rf_rn1 q8)
        replace hS := hS.cons (rf_rn2 q8)
        replace hS := hS.cons (rf_rn1 q9)
        replace hS := hS.cons (rf_rn2 q9)
        clear e0 e1 e2 e3 e4 e5 e6 e7 e8 e9 hb1 hv q7 q8 q9 fv
        have hS1 := hS.put ((((Upd.refl x2.heap.size x8).setCell 0 (.bool (zs r.num))).setCell 1 (.slice g13 (tln r.num.natAbs) d13)).setCell 2 (.slice g14 (tln (fd r)) d14)) (hL0.get _ _ (mK mZ)) (by intro v hv n; simp only [List.mem_cons, List.not_mem_nil, or_false] at hv; rcases hv with rfl | rfl | rfl <;> simp)
        have hA := hL0.fc
        simp only [zF, Nat.reduceAdd] at hA
        have hP := hL0.put 1 (x2.heap.size) _ rfl [.bool (zs r.num), .slice g13 (tln r.num.natAbs) d13, .slice g14 (tln (fd r)) d14] rfl
        simp only [setAll, List.set_cons_zero, List.set_cons_succ] at hP
        generalize hput2 : (((x8.setCell ⟨x2.heap.size, 0, none⟩ (.bool (zs r.num))).setCell ⟨x2.heap.size, 1, none⟩ (.slice g13 (tln r.num.natAbs) d13)).setCell ⟨x2.heap.size, 2, none⟩ (.slice g14 (tln (fd r)) d14)) = x9 at hP hS1
        have hB2 := hP.fc
        simp only [zF, Nat.reduceAdd] at hB2
        replace hL0 := hP
        replace hS := hS1
        clear hS1
        go_wp2_with fail
        go_roundg (gk - 1)
        case measure => omega
        case rel => exact ⟨i + 1, _, _, _, _, _, _, _, _, _, _, by omega, by omega, by first | rfl | go_num, hr.out, hsd.out, hL0, (((((show SS x9 [(.slice g4 (tln (fd sc0)) d4, (fd sc0)), (.slice g3 (tln sc0.num.natAbs) d3, sc0.num.natAbs), (.slice ua1 (tln q1.num.natAbs) ma1, q1.num.natAbs), (.slice va1 (tln (fd q1)) na1, (fd q1)), (.slice g2 (tln (fd zq)) d2, (fd zq)), (.slice g1 (tln zq.num.natAbs) d1, zq.num.natAbs)] from fun p hp => hS p (mK (mK (mK (mK (mK (mK (mK (mK (mK (mK (mK (mK (mK (mK hp)))))))))))))))).cons (hS.get (mK (mK (mK (mK (mK (mK mZ)))))))).cons (hS.get (mK (mK (mK (mK (mK (mK (mK mZ))))))))).cons (hS.get mZ)).cons (hS.get (mK mZ))⟩
     ·obtain rfl : fa = i := by omega
      rcases hw2.out with ⟨⟨k1, h9, hg9, n1⟩, hcc, hrr⟩ | ⟨⟨k1, h9, hg9, n0, n1⟩, hcc, hrr⟩ | k1
      ·clear hq hsc hin hik hw2
       have kb : (fa : Int) ≤ 1000 := by have := hL1; have := hfL.out; omega
       have kl0 : (0 : Int) ≤ (fa : Int) := Int.natCast_nonneg _
       subst hcc
       subst hrr
       have hS1 := hS.put ((((Upd.refl w.heap.size wr).setCell 0 (.bool false)).setCell 1 (.slice none 0 0)).setCell 2 (.slice none 0 0)) (hL0.get _ _ (mK (mK (mK mZ)))) (by intro v hv n; simp only [List.mem_cons, List.not_mem_nil, or_false] at hv; rcases hv with rfl | rfl | rfl <;> simp)
       have hA := hL0.fc
       simp only [zF, Nat.reduceAdd] at hA
       have hP := hL0.put 3 (w.heap.size) _ rfl [.bool false, .slice none 0 0, .slice none 0 0] rfl
       simp only [setAll, List.set_cons_zero, List.set_cons_succ] at hP
       generalize hput1 : (((wr.setCell ⟨w.heap.size, 0, none⟩ (.bool false)).setCell ⟨w.heap.size, 1, none⟩ (.slice none 0 0)).setCell ⟨w.heap.size, 2, none⟩ (.slice none 0 0)) = x6 at hP hS1
       have hB1 := hP.fc
       simp only [zF, Nat.reduceAdd] at hB1
       replace hL0 := hP
       replace hS := hS1
       clear hS1
       go_wp2_with fail
       exact bodyPost_ret (v := .tuple #[.agg #[.bool false, .slice none 0 0, .slice none 0 0], .int .i64 4]) (by simp [results, Tryz.results20, go_sem, hB1]) rfl ⟨_, rfl, (rf_nil _), hL0.bl⟩
      ·clear hq hsc hin hik hw2
       have kb : (fa : Int) ≤ 1000 := by have := hL1; have := hfL.out; omega
       have kl0 : (0 : Int) ≤ (fa : Int) := Int.natCast_nonneg _
       subst hcc
       subst hrr
       have hS1 := hS.put ((((Upd.refl w.heap.size wr).setCell 0 (.bool false)).setCell 1 (.slice none 0 0)).setCell 2 (.slice none 0 0)) (hL0.get _ _ (mK (mK (mK mZ)))) (by intro v hv n; simp only [List.mem_cons, List.not_mem_nil, or_false] at hv; rcases hv with rfl | rfl | rfl <;> simp)
       have hA := hL0.fc
       simp only [zF, Nat.reduceAdd] at hA
       have hP := hL0.put 3 (w.heap.size) _ rfl [.bool false, .slice none 0 0, .slice none 0 0] rfl
       simp only [setAll, List.set_cons_zero, List.set_cons_succ] at hP
       generalize hput1 : (((wr.setCell ⟨w.heap.size, 0, none⟩ (.bool false)).setCell ⟨w.heap.size, 1, none⟩ (.slice none 0 0)).setCell ⟨w.heap.size, 2, none⟩ (.slice none 0 0)) = x6 at hP hS1
       have hB1 := hP.fc
       simp only [zF, Nat.reduceAdd] at hB1
       replace hL0 := hP
       replace hS := hS1
       clear hS1
       go_wp2_with fail
       exact bodyPost_ret (v := .tuple #[.agg #[.bool false, .slice none 0 0, .slice none 0 0], .int .i64 4]) (by simp [results, Tryz.results20, go_sem, hB1]) rfl ⟨_, rfl, (rf_nil _), hL0.bl⟩
      ·have hq2 := (hq.trans hv3.out).symm
       subst hq2
       clear hq hsc hin hik hw2
       have hfin := hfin.out k1
       rcases hfin with ⟨gs, hcc, hrr⟩ | ⟨gs, hcc, hrr⟩
       ·subst hcc
        subst hrr
        have hN0 := cells_of _ 0 [] rfl (hL0.get _ _ (mK mZ))
        simp only [zF, Nat.reduceAdd] at hN0
        go_wp2_with fail
        clear hN0
        with_reducible refine Calls.mono (HS.out (.agg #[.bool (zs q2.num), .slice ua2 (tln q2.num.natAbs) ma2, .slice va2 (tln (fd q2)) na2]) _ (rf_of (hS.get mZ) (hS.get (mK mZ)))) ?_
        rintro e x6 ⟨rfl, hb⟩
        replace hL0 := hL0.call hb
        replace hS := hS.call hb
        clear hb
        have hS1 := hS.put ((((Upd.refl w.heap.size x6).setCell 0 (.bool false)).setCell 1 (.slice none 0 0)).setCell 2 (.slice none 0 0)) (hL0.get _ _ (mK (mK (mK mZ)))) (by intro v hv n; simp only [List.mem_cons, List.not_mem_nil, or_false] at hv; rcases hv with rfl | rfl | rfl <;> simp)
        have hA := hL0.fc
        simp only [zF, Nat.reduceAdd] at hA
        have hP := hL0.put 3 (w.heap.size) _ rfl [.bool false, .slice none 0 0, .slice none 0 0] rfl
        simp only [setAll, List.set_cons_zero, List.set_cons_succ] at hP
        generalize hput1 : (((x6.setCell ⟨w.heap.size, 0, none⟩ (.bool false)).setCell ⟨w.heap.size, 1, none⟩ (.slice none 0 0)).setCell ⟨w.heap.size, 2, none⟩ (.slice none 0 0)) = x7 at hP hS1
        have hB1 := hP.fc
        simp only [zF, Nat.reduceAdd] at hB1
        replace hL0 := hP
        replace hS := hS1
        clear hS1
        go_wp2_with fail
        exact bodyPost_ret (v := .tuple #[.agg #[.bool false, .slice none 0 0, .slice none 0 0], .int .i64 4]) (by simp [results, Tryz.results20, go_sem, hB1]) rfl ⟨_, rfl, (rf_nil _), hL0.bl⟩
       ·subst hcc
        subst hrr
        have hN0 := cells_of _ 0 [] rfl (hL0.get _ _ (mK mZ))
        simp only [zF, Nat.reduceAdd] at hN0
        go_wp2_with fail
        clear hN0
        with_reducible refine Calls.mono (HS.out (.agg #[.bool (zs q2.num), .slice ua2 (tln q2.num.natAbs) ma2, .slice va2 (tln (fd q2)) na2]) _ (rf_of (hS.get mZ) (hS.get (mK mZ)))) ?_
        rintro e x6 ⟨rfl, hb⟩
        replace hL0 := hL0.call hb
        replace hS := hS.call hb
        clear hb
        have hN0 := cells_of _ 0 [] rfl (hL0.get _ _ (mK mZ))
        simp only [zF, Nat.reduceAdd] at hN0
        go_wp2_with fail
        clear hN0
        with_reducible refine Calls.mono (HN.out (.agg #[.bool (zs q2.num), .slice ua2 (tln q2.num.natAbs) ma2, .slice va2 (tln (fd q2)) na2]) _ (rf_of (hS.get mZ) (hS.get (mK mZ)))) ?_
        rintro e x7 ⟨v0, rfl, q0, hb⟩
        replace hL0 := hL0.call hb
        replace hS := hS.call hb
        clear hb
        obtain ⟨g5, d5, g6, d6, rfl⟩ := rf_form q0
        replace hS := hS.cons (rf_rn1 q0)
        replace hS := hS.cons (rf_rn2 q0)
        clear q0
        have hS1 := hS.put ((((Upd.refl x2.heap.size x7).setCell 0 (.bool (zs qn.num))).setCell 1 (.slice g5 (tln qn.num.natAbs) d5)).setCell 2 (.slice g6 (tln (fd qn)) d6)) (hL0.get _ _ (mK mZ)) (by intro v hv n; simp only [List.mem_cons, List.not_mem_nil, or_false] at hv; rcases hv with rfl | rfl | rfl <;> simp)
        have hA := hL0.fc
        simp only [zF, Nat.reduceAdd] at hA
        have hP := hL0.put 1 (x2.heap.size) _ rfl [.bool (zs qn.num), .slice g5 (tln qn.num.natAbs) d5, .slice g6 (tln (fd qn)) d6] rfl
        simp only [setAll, List.set_cons_zero, List.set_cons_succ] at hP
        generalize hput1 : (((x7.setCell ⟨x2.heap.size, 0, none⟩ (.bool (zs qn.num))).setCell ⟨x2.heap.size, 1, none⟩ (.slice g5 (tln qn.num.natAbs) d5)).setCell ⟨x2.heap.size, 2, none⟩ (.slice g6 (tln (fd qn)) d6)) = x8 at hP hS1
        have hB1 := hP.fc
        simp only [zF, Nat.reduceAdd] at hB1
        replace hL0 := hP
        replace hS := hS1
        clear hS1
        have hS1 := hS.put ((((Upd.refl w.heap.size x8).setCell 0 (.bool (zs qn.num))).setCell 1 (.slice g5 (tln qn.num.natAbs) d5)).setCell 2 (.slice g6 (tln (fd qn)) d6)) (hL0.get _ _ (mK (mK (mK mZ)))) (by intro v hv n; simp only [List.mem_cons, List.not_mem_nil, or_false] at hv; rcases hv with rfl | rfl | rfl <;> simp)
        have hP := hL0.put 3 (w.heap.size) _ rfl [.bool (zs qn.num), .slice g5 (tln qn.num.natAbs) d5, .slice g6 (tln (fd qn)) d6] rfl
        simp only [setAll, List.set_cons_zero, List.set_cons_succ] at hP
        generalize hput2 : (((x8.setCell ⟨w.heap.size, 0, none⟩ (.bool (zs qn.num))).setCell ⟨w.heap.size, 1, none⟩ (.slice g5 (tln qn.num.natAbs) d5)).setCell ⟨w.heap.size, 2, none⟩ (.slice g6 (tln (fd qn)) d6)) = x9 at hP hS1
        have hB2 := hP.fc
        simp only [zF, Nat.reduceAdd] at hB2
        replace hL0 := hP
        replace hS := hS1
        clear hS1
        go_wp2_with fail
        exact bodyPost_ret (v := .tuple #[.agg #[.bool (zs qn.num), .slice g5 (tln qn.num.natAbs) d5, .slice g6 (tln (fd qn)) d6], .int .i64 0]) (by simp [results, Tryz.results20, go_sem, hB2]) rfl ⟨_, rfl, (rf_of (hS.get (mK mZ)) (hS.get mZ)), hL0.bl⟩)
end Go.Proofs.YtahfcciihkkegaaGreatDoor
namespace Go.Proofs.YtahfcciihkkegaaGreatDoor
open Go.RowKit Go.Proofs.YtahfcciihkkegaaGreatDoor.Rx
attribute [local irreducible] lo hs sm s64 c64 d64 b64 mh ml pd pc qd qc val hiB str cmpI srD lz nb isq decB zl zh zs dval tln fd
theorem rps_nil (s : ByteArray) (zq tn : Rat) (HZ : ∀ (w : World), Calls Tryz.prog 57 #[.int .i64 0] w fun e w' => ∃ pv, e = .returned pv ∧ RF w' pv zq ∧ Below w.heap.size w w') (hsz : s.size = 0) (w : World) :
  Calls Tryz.prog 20 #[.string s] w fun e w' => ∃ pv, e = .returned (.tuple #[pv, .int .i64 4]) ∧ RF w' pv 0 ∧ Below w.heap.size w w' := by
 replace HZ := Lib.hid HZ
 have hL0 : GL w w [] := GL.start w
 have hS : SS w [] := SS.nil w
 obtain ⟨x1, hweq, hL0, hS⟩ := GL.named2 ((hL0.new rfl [.bool false, .slice none 0 0, .slice none 0 0] 46).new (K := w.heap.size + 1) (szA _ _) [.bool false, .slice none 0 0, .slice none 0 0] 46) ((hS.new (.cells #[.bool false, .slice none 0 0, .slice none 0 0] 46)).new (.cells #[.bool false, .slice none 0 0, .slice none 0 0] 46))
 go_enter Tryz.func20, Tryz.ntmps20
 go_wp2_with fail
 with_reducible refine Calls.mono (HZ.out _) ?_
 rintro e x2 ⟨v0, rfl, q0, hb⟩
 replace hL0 := hL0.call hb
 replace hS := hS.call hb
 clear hb hweq
 obtain ⟨g1, d1, g2, d2, rfl⟩ := rf_form q0
 replace hS := hS.cons (rf_rn1 q0)
 replace hS := hS.cons (rf_rn2 q0)
 clear q0
 obtain ⟨x3, hweq, hL0, hS⟩ := GL.named2 (hL0.new rfl [.bool (zs zq.num), .slice g1 (tln zq.num.natAbs) d1, .slice g2 (tln (fd zq)) d2] 46) (hS.new (.cells #[.bool (zs zq.num), .slice g1 (tln zq.num.natAbs) d1, .slice g2 (tln (fd zq)) d2] 46))
 go_wp2_with fail
 clear hweq
 go_loopg [5] 0 (fun gk iv wr => iv = .int .i64 0 ∧ GL w wr [(x2.heap.size, [.bool (zs zq.num), .slice g1 (tln zq.num.natAbs) d1, .slice g2 (tln (fd zq)) d2]), (w.heap.size + 1, [.bool false, .slice none 0 0, .slice none 0 0]), (w.heap.size, [.bool false, .slice none 0 0, .slice none 0 0])])
 case atStart => exact ⟨by first | rfl | go_num, hL0⟩
 case round =>
  clear hL0 hS
  obtain ⟨rfl, hL0⟩ := hrel
  have hS := SS.nil wr
  have hS1 := hS.put ((((Upd.refl w.heap.size wr).setCell 0 (.bool false)).setCell 1 (.slice none 0 0)).setCell 2 (.slice none 0 0)) (hL0.get _ _ (mK (mK mZ))) (by intro v hv n; simp only [List.mem_cons, List.not_mem_nil, or_false] at hv; rcases hv with rfl | rfl | rfl <;> simp)
  have hA := hL0.fc
  simp only [zF, Nat.reduceAdd] at hA
  have hP := hL0.put 2 (w.heap.size) _ rfl [.bool false, .slice none 0 0, .slice none 0 0] rfl
  simp only [setAll, List.set_cons_zero, List.set_cons_succ] at hP
  generalize hput1 : (((wr.setCell ⟨w.heap.size, 0, none⟩ (.bool false)).setCell ⟨w.heap.size, 1, none⟩ (.slice none 0 0)).setCell ⟨w.heap.size, 2, none⟩ (.slice none 0 0)) = x4 at hP hS1
  have hB1 := hP.fc
  simp only [zF, Nat.reduceAdd] at hB1
  replace hL0 := hP
  replace hS := hS1
  clear hS1
  go_wp2_with fail
  exact bodyPost_ret (v := .tuple #[.agg #[.bool false, .slice none 0 0, .slice none 0 0], .int .i64 4]) (by simp [results, Tryz.results20, go_sem, hB1]) rfl ⟨_, rfl, (rf_nil _), hL0.bl⟩
end Go.Proofs.YtahfcciihkkegaaGreatDoor
namespace Go.Proofs.YtahfcciihkkegaaGreatDoor
open Go.RowKit Go.Proofs.YtahfcciihkkegaaGreatDoor.Rx
attribute [local irreducible] lo hs sm s64 c64 d64 b64 mh ml pd pc qd qc val hiB str cmpI srD lz nb isq decB zl zh zs dval tln fd
theorem dint_w (v : Int) (q : Rat) (HO : ∀ (w : World), Calls Tryz.prog 61 #[.int .i64 v] w fun e w' => ∃ pv, e = .returned pv ∧ RZ w' pv q.num ∧ Below w.heap.size w w') (hq : fd q = 0) (w : World) :
  Calls Tryz.prog 57 #[.int .i64 v] w fun e w' => ∃ pv, e = .returned pv ∧ RF w' pv q ∧ Below w.heap.size w w' := by
 replace HO := Lib.hid HO
 have hL0 : GL w w [] := GL.start w
 have hS : SS w [] := SS.nil w
 replace hq := Lib.hid hq
 obtain ⟨x1, hweq, hL0, hS⟩ := GL.named2 (hL0.new rfl [.bool false, .slice none 0 0, .slice none 0 0] 46) (hS.new (.cells #[.bool false, .slice none 0 0, .slice none 0 0] 46))
 go_enter Tryz.func57, Tryz.ntmps57
 go_wp2_with fail
 with_reducible refine Calls.mono (HO.out _) ?_
 rintro e x2 ⟨v0, rfl, q0, hb⟩
 replace hL0 := hL0.call hb
 replace hS := hS.call hb
 clear hb hweq
 obtain ⟨g1, d1, rfl⟩ := rz_form q0
 replace hS := hS.cons (rz_rn q0)
 clear q0
 have hS1 := hS.put ((((Upd.refl w.heap.size x2).setCell 0 (.bool (zs q.num))).setCell 1 (.slice g1 (tln q.num.natAbs) d1)).setCell 2 (.slice none 0 0)) (hL0.get _ _ mZ) (by intro v hv n; simp only [List.mem_cons, List.not_mem_nil, or_false] at hv; rcases hv with rfl | rfl | rfl <;> simp)
 have hA := hL0.fc
 simp only [zF, Nat.reduceAdd] at hA
 have hP := hL0.put 0 (w.heap.size) _ rfl [.bool (zs q.num), .slice g1 (tln q.num.natAbs) d1, .slice none 0 0] rfl
 simp only [setAll, List.set_cons_zero, List.set_cons_succ] at hP
 generalize hput1 : (((x2.setCell ⟨w.heap.size, 0, none⟩ (.bool (zs q.num))).setCell ⟨w.heap.size, 1, none⟩ (.slice g1 (tln q.num.natAbs) d1)).setCell ⟨w.heap.size, 2, none⟩ (.slice none 0 0)) = x3 at hP hS1
 have hB1 := hP.fc
 simp only [zF, Nat.reduceAdd] at hB1
 replace hL0 := hP
 replace hS := hS1
 clear hS1
 go_wp2_with fail
 exact bodyPost_ret (v := .agg #[.bool (zs q.num), .slice g1 (tln q.num.natAbs) d1, .slice none 0 0]) (by simp [results, Tryz.results57, go_sem, hB1]) rfl ⟨_, rfl, (rf_of (hS.get mZ) (by rw [hq.out]; exact (rn_nil _))), hL0.bl⟩
end Go.Proofs.YtahfcciihkkegaaGreatDoor
namespace Go.Proofs.YtahfcciihkkegaaGreatDoor
open Go.RowKit
open Go.Lib (decDigits)
theorem i64w (x : Int) (h1 : -9223372036854775808 ≤ x) (h2 : x < 9223372036854775808) : IntKind.i64.wrap x = x := by
 simp only [IntKind.wrap, IntKind.signed, IntKind.bits]
 simp
 omega
theorem get_mk (l : List UInt8) (i : Nat) (h : i < (ByteArray.mk l.toArray).size) (h' : i < l.length) : (ByteArray.mk l.toArray)[i]'h = l[i]'h' := rfl
attribute [local irreducible] decT toI rnd tenQ tailT
end Go.Proofs.YtahfcciihkkegaaGreatDoor
namespace Go.Proofs.YtahfcciihkkegaaGreatDoor
open Go.RowKit Go.Proofs.YtahfcciihkkegaaGreatDoor.Rx
open Go.Lib (decDigits)
theorem rzof_lit (k : Nat) (hk : k < 1000) (w : World) : Calls Tryz.prog 61 #[.int .i64 (k : Int)] w fun e w' => ∃ v, e = .returned v ∧ RZ w' v (k : Int) ∧ Below w.heap.size w w' :=
 rzof_pos k k k k (fun w => rof_val k k rfl (by omega) w) (rz_from false k k (by first | (simp; done) | (simp; omega)) rfl) (decide_eq_false (by omega)) (by simp [IntKind.wrap, IntKind.signed, IntKind.bits]; omega) w
theorem dint_lit (k : Nat) (hk : k < 1000) (w : World) : Calls Tryz.prog 57 #[.int .i64 (k : Int)] w fun e w' => ∃ v, e = .returned v ∧ RF w' v (((k : Nat) : Int) : Rat) ∧ Below w.heap.size w w' :=
 dint_w k (((k : Nat) : Int) : Rat) (fun w => by rw [Rat.num_intCast]; exact rzof_lit k hk w) (by unfold fd; rw [Rat.den_intCast]) w
theorem lit_sz (k : Nat) (hk : k < 1000) : Sz (((k : Nat) : Int) : Rat) 1 := Sz.int (by refine digs_length_iff.2 ?_; unfold Bs; omega) (by decide)
theorem tenQ_zero : tenQ 0 = 1 := by unfold tenQ; rfl
theorem tenQ_succ (i : Nat) : tenQ (i + 1) = tenQ i * (((10 : Nat) : Int) : Rat) := by unfold tenQ; rw [Nat.pow_succ, Rat.natCast_mul]; rfl
attribute [local irreducible] tenQ
theorem bsize (l : List UInt8) : (ByteArray.mk l.toArray).size = l.length := rfl
attribute [local irreducible] decT toI rnd tailT
end Go.Proofs.YtahfcciihkkegaaGreatDoor
namespace Go.Proofs.YtahfcciihkkegaaGreatDoor
open Go.RowKit Go.Proofs.YtahfcciihkkegaaGreatDoor.Rx
abbrev NQ (n : Nat) : Rat := ((n : Int) : Rat)
theorem NQ_step (a b : Nat) : NQ (a * 10 + b) = NQ a * NQ 10 + NQ b := by
 unfold NQ
 rw [Int.natCast_add, Int.natCast_mul, Rat.intCast_add, Rat.intCast_mul]
theorem NQ_sz {n k : Nat} (h : (digs n).length ≤ k) (hk : 0 < k) : Sz (NQ n) k := Sz.int (by rw [dI_nat]; exact h) hk
theorem dval6 {l : List UInt8} (h : ∀ c ∈ l, isDig c) (hl : l.length ≤ 100) : (digs (dval l)).length ≤ 6 :=
 Nat.le_trans (digs_mono (Nat.le_of_lt (Nat.lt_of_lt_of_le (dval_lt h) (Nat.pow_le_pow_right (by decide) hl)))) (ten_d (p := 100) (by decide))
theorem dig_facts {c : UInt8} (hc : isDig c) : (48 : Int) ≤ (c.toNat : Int) ∧ (c.toNat : Int) ≤ 57 ∧ IntKind.u8.wrap ((c.toNat : Int) - 48) = ((c.toNat - 48 : Nat) : Int) ∧ IntKind.i64.wrap ((c.toNat - 48 : Nat) : Int) = ((c.toNat - 48 : Nat) : Int) := by
 obtain ⟨h1, h2⟩ := hc
 refine ⟨by omega, by omega, ?_, i64w _ (by omega) (by omega)⟩
 have e : (c.toNat : Int) - 48 = ((c.toNat - 48 : Nat) : Int) := by omega
 rw [e]
 generalize c.toNat - 48 = n at *
 have hn : n ≤ 9 := by omega
 simp only [IntKind.wrap, IntKind.signed, IntKind.bits]
 simp
 omega
theorem sget (l : List UInt8) (i : Nat) (c : UInt8) (h : l[i]? = some c) : ∃ h' : i < (ByteArray.mk l.toArray).size, (ByteArray.mk l.toArray)[i]'h' = c := by
 obtain ⟨hi, he⟩ := List.getElem?_eq_some_iff.1 h
 exact ⟨by rw [bsize]; exact hi, by rw [get_mk l i _ hi]; exact he⟩
theorem split_digs : ∀ l : List UInt8, ∃ p r, l = p ++ r ∧ (∀ c ∈ p, isDig c) ∧ (r = [] ∨ ∃ c r', r = c :: r' ∧ ¬ isDig c)
 | [] => ⟨[], [], rfl, by simp, .inl rfl⟩
 | x :: l => by
  by_cases hx : isDig x
  ·obtain ⟨p, r, e, hp, hr⟩ := split_digs l
   exact ⟨x :: p, r, by rw [e]; rfl, by intro c hc; rcases List.mem_cons.1 hc with rfl | h; exact hx; exact hp c h, hr⟩
  ·exact ⟨[], x :: l, rfl, by simp, .inr ⟨x, l, rfl, hx⟩⟩
theorem pre_uniq : ∀ (p b r t : List UInt8), (∀ c ∈ p, isDig c) → (∀ c ∈ b, isDig c) → (r = [] ∨ ∃ c r', r = c :: r' ∧ ¬ isDig c) → (t = [] ∨ ∃ c t', t = c :: t' ∧ ¬ isDig c) → p ++ r = b ++ t → p = b ∧ r = t
 | [], [], r, t, _, _, _, _, e => ⟨rfl, e⟩
 | x :: p, [], r, t, hp, _, _, ht, e => by
  rcases ht with rfl | ⟨c, t', rfl, hc⟩
  ·simp at e
  ·simp at e; exact absurd (e.1 ▸ hp x mZ) hc
 | [], y :: b, r, t, _, hb, hr, _, e => by
  rcases hr with rfl | ⟨c, r', rfl, hc⟩
  ·simp at e
  ·simp at e; exact absurd (e.1.symm ▸ hb y mZ) hc
 | x :: p, y :: b, r, t, hp, hb, hr, ht, e => by
  simp only [List.cons_append, List.cons.injEq] at e
  obtain ⟨h1, h2⟩ := pre_uniq p b r t (fun c hc => hp c (mK hc)) (fun c hc => hb c (mK hc)) hr ht e.2
  exact ⟨by rw [e.1, h1], h2⟩
theorem dv_only {p r : List UInt8} {m k : Nat} (hp : ∀ c ∈ p, isDig c) (hr : r = [] ∨ ∃ c r', r = c :: r' ∧ ¬ isDig c) (h : DV (p ++ r) m k) : isDec p ∧ ((r = [] ∧ m = dval p) ∨ ∃ a, r = 46 :: a ∧ a ≠ [] ∧ (∀ c ∈ a, isDig c) ∧ m = dval p * 10 ^ a.length + dval a) := by
 have key : ∀ l, l = p ++ r → DV l m k → isDec p ∧ ((r = [] ∧ m = dval p) ∨ ∃ a, r = 46 :: a ∧ a ≠ [] ∧ (∀ c ∈ a, isDig c) ∧ m = dval p * 10 ^ a.length + dval a) := by
  intro l e h
  cases h with
  | whole h' =>
   obtain ⟨h1, h2⟩ := pre_uniq p l r [] hp h'.1 hr (.inl rfl) (by rw [← e, List.append_nil])
   subst h1
   exact ⟨h', .inl ⟨h2, rfl⟩⟩
  | @point b a hb h0 ha =>
   obtain ⟨h1, h2⟩ := pre_uniq p b r (46 :: a) hp hb.1 hr (.inr ⟨46, a, rfl, fun hd => by unfold isDig at hd; exact absurd hd.1 (by decide)⟩) e.symm
   subst h1
   exact ⟨hb, .inr ⟨a, h2, h0, ha, rfl⟩⟩
 exact key _ rfl h
def HK1 (s : ByteArray) (B ea : Nat) (va : Nat → Rat) : Prop := ∀ i : Nat, B ≤ i → i < ea → ∃ (h : i < s.size) (c : UInt8) (k : Int) (m d : Rat), s[i]'h = c ∧ (48 : Int) ≤ (c.toNat : Int) ∧ (c.toNat : Int) ≤ 57 ∧ IntKind.u8.wrap ((c.toNat : Int) - 48) = k ∧ IntKind.i64.wrap k = k ∧
 (∀ (p0 p1 : Value) (w : World), RF w p0 (va i) → RF w p1 (NQ 10) → Calls Tryz.prog 71 #[p0, p1] w fun e w' => ∃ pv, e = .returned pv ∧ RF w' pv m ∧ Below w.heap.size w w') ∧
 (∀ (w : World), Calls Tryz.prog 57 #[.int .i64 k] w fun e w' => ∃ pv, e = .returned pv ∧ RF w' pv d ∧ Below w.heap.size w w') ∧
 (∀ (p0 p1 : Value) (w : World), RF w p0 m → RF w p1 d → Calls Tryz.prog 70 #[p0, p1] w fun e w' => ∃ pv, e = .returned pv ∧ RF w' pv (va (i + 1)) ∧ Below w.heap.size w w')
theorem take_digs {p : List UInt8} (hp : ∀ c ∈ p, isDig c) (hpl : p.length ≤ 100) (j : Nat) : (digs (dval (p.take j))).length ≤ 6 :=
 dval6 (fun c hc => hp c (List.mem_of_mem_take hc)) (by rw [List.length_take]; omega)
theorem lit1 {n : Nat} (h : n < 1000) : Sz (NQ n) 1 := lit_sz n h
theorem h1_any (p : List UInt8) (hp : ∀ c ∈ p, isDig c) (hpl : p.length ≤ 100) (l : List UInt8) (B : Nat) (hlk : ∀ j, j < p.length → l[B + j]? = p[j]?) (va : Nat → Rat) (hva : ∀ i, va i = NQ (dval (p.take (i - B)))) : HK1 ⟨l.toArray⟩ B (B + p.length) va := by
 intro i hi1 hi2
 obtain ⟨j, rfl⟩ : ∃ j, i = B + j := ⟨i - B, by omega⟩
 have hj : j < p.length := by omega
 have hc : isDig p[j] := hp _ (List.getElem_mem hj)
 have hx := hlk j hj
 rw [List.getElem?_eq_getElem hj] at hx
 obtain ⟨h', hg⟩ := sget l (B + j) p[j] hx
 obtain ⟨f1, f2, f3, f4⟩ := dig_facts hc
 have e1 : va (B + j) = NQ (dval (p.take j)) := by rw [hva, Nat.add_sub_cancel_left]
 have e2 : va (B + j + 1) = va (B + j) * NQ 10 + NQ (p[j].toNat - 48) := by
  rw [e1, hva, show B + j + 1 - B = j + 1 by omega, List.take_succ_eq_append_getElem hj, dval_snoc, NQ_step]
 have s1 : Sz (va (B + j)) 6 := by rw [e1]; exact NQ_sz (take_digs hp hpl j) (by decide)
 have hlt : p[j].toNat - 48 < 1000 := by have := hc.2; omega
 refine ⟨h', p[j], _, va (B + j) * NQ 10, NQ (p[j].toNat - 48), hg, f1, f2, f3, f4, fun v1 v2 w g1 g2 => rmul _ _ (k := 6) s1 ((lit1 (by decide)).mono (by decide)) (by decide) v1 v2 w g1 g2, dint_lit _ hlt, fun v1 v2 w g1 g2 => ?_⟩
 rw [e2]
 exact radd _ _ (k := 7) (s1.mul (lit1 (by decide))) ((lit1 hlt).mono (by decide)) (by decide) v1 v2 w g1 g2
theorem stepQ_succ (j : Nat) : stepQ (j + 1) * NQ 10 = stepQ j := by
 have inj {a b t : Rat} (h : 0 < t) (e : a * t = b * t) : a = b := by
  have h0 : t ≠ 0 := fun q => by rw [q] at h; exact absurd h (by decide)
  have e2 : a * t * t⁻¹ = b * t * t⁻¹ := by rw [e]
  rwa [Rat.mul_assoc, Rat.mul_assoc, Rat.mul_inv_cancel _ h0, Rat.mul_one, Rat.mul_one] at e2
 refine inj (tenQ_pos j) ?_
 have h1 := step_mul j
 have h2 := step_mul (j + 1)
 rw [tenQ_succ] at h2
 have h3 : NQ 10 = (((10 : Nat) : Int) : Rat) := rfl
 rw [h1, h3, Rat.mul_assoc, Rat.mul_comm (((10 : Nat) : Int) : Rat) (tenQ j)]
 exact h2
theorem stepQ_div (j : Nat) : stepQ j / NQ 10 = stepQ (j + 1) := by
 have h0 : NQ 10 ≠ 0 := by decide +kernel
 rw [← stepQ_succ j, Rat.div_def, Rat.mul_assoc, Rat.mul_inv_cancel _ h0, Rat.mul_one]
theorem stepQ_zero : stepQ 0 = NQ 1 := by unfold stepQ; rw [tenQ_zero]; decide +kernel
def HK2 (s : ByteArray) (E1 fa : Nat) (vb sb : Nat → Rat) : Prop := ∀ i : Nat, E1 ≤ i → i < fa → ∃ (h : i < s.size) (c : UInt8) (k : Int) (m d : Rat), s[i]'h = c ∧ (48 : Int) ≤ (c.toNat : Int) ∧ (c.toNat : Int) ≤ 57 ∧ IntKind.u8.wrap ((c.toNat : Int) - 48) = k ∧ IntKind.i64.wrap k = k ∧
 (∀ (p0 p1 : Value) (w : World), RF w p0 (sb i) → RF w p1 (NQ 10) → Calls Tryz.prog 55 #[p0, p1] w fun e w' => ∃ pv, e = .returned pv ∧ RF w' pv (sb (i + 1)) ∧ Below w.heap.size w w') ∧
 (∀ (w : World), Calls Tryz.prog 57 #[.int .i64 k] w fun e w' => ∃ pv, e = .returned pv ∧ RF w' pv d ∧ Below w.heap.size w w') ∧
 (∀ (p0 p1 : Value) (w : World), RF w p0 (sb (i + 1)) → RF w p1 d → Calls Tryz.prog 71 #[p0, p1] w fun e w' => ∃ pv, e = .returned pv ∧ RF w' pv m ∧ Below w.heap.size w w') ∧
 (∀ (p0 p1 : Value) (w : World), RF w p0 (vb i) → RF w p1 m → Calls Tryz.prog 70 #[p0, p1] w fun e w' => ∃ pv, e = .returned pv ∧ RF w' pv (vb (i + 1)) ∧ Below w.heap.size w w')
theorem h2_any (P : Nat) (hP : (digs P).length ≤ 6) (p : List UInt8) (hp : ∀ c ∈ p, isDig c) (hpl : p.length ≤ 99) (l : List UInt8) (B : Nat) (hlk : ∀ j, j < p.length → l[B + j]? = p[j]?) (vb sb : Nat → Rat)
  (hsb : ∀ i, sb i = stepQ (i - B)) (hvb : ∀ i, vb i = NQ P + NQ (dval (p.take (i - B))) * stepQ (i - B)) : HK2 ⟨l.toArray⟩ B (B + p.length) vb sb := by
 intro i hi1 hi2
 obtain ⟨j, rfl⟩ : ∃ j, i = B + j := ⟨i - B, by omega⟩
 have hj : j < p.length := by omega
 have hc : isDig p[j] := hp _ (List.getElem_mem hj)
 have hx := hlk j hj
 rw [List.getElem?_eq_getElem hj] at hx
 obtain ⟨h', hg⟩ := sget l (B + j) p[j] hx
 obtain ⟨f1, f2, f3, f4⟩ := dig_facts hc
 have e0 : sb (B + j) = stepQ j := by rw [hsb, Nat.add_sub_cancel_left]
 have e0' : sb (B + j + 1) = stepQ (j + 1) := by rw [hsb, show B + j + 1 - B = j + 1 by omega]
 have e1 : vb (B + j) = NQ P + NQ (dval (p.take j)) * stepQ j := by rw [hvb, Nat.add_sub_cancel_left]
 have e2 : vb (B + j + 1) = vb (B + j) + stepQ (j + 1) * NQ (p[j].toNat - 48) := by
  have h := stepQ_succ j
  rw [e1, hvb, show B + j + 1 - B = j + 1 by omega, List.take_succ_eq_append_getElem hj, dval_snoc, NQ_step, ← h]
  grind
 have sj : Sz (stepQ j) 7 := step_sz (by omega)
 have sj' : Sz (stepQ (j + 1)) 7 := step_sz (by omega)
 have s1 : Sz (vb (B + j)) 20 := by
  rw [e1]
  exact ((NQ_sz hP (by decide)).add ((NQ_sz (take_digs hp (by omega) j) (by decide)).mul sj)).mono (by decide)
 have hlt : p[j].toNat - 48 < 1000 := by have := hc.2; omega
 have sm := sj'.mul (lit1 hlt)
 refine ⟨h', p[j], _, stepQ (j + 1) * NQ (p[j].toNat - 48), NQ (p[j].toNat - 48), hg, f1, f2, f3, f4, fun v1 v2 w g1 g2 => ?_, dint_lit _ hlt, fun v1 v2 w g1 g2 => ?_, fun v1 v2 w g1 g2 => ?_⟩
 ·rw [e0] at g1
  rw [e0']
  have g := rdivF (stepQ j) (NQ 10) (k := 7) sj ((lit1 (by decide)).mono (by decide)) (by decide +kernel) (by decide) v1 v2 w g1 g2
  rw [stepQ_div] at g; exact g
 ·rw [e0'] at g1
  exact rmul _ _ (k := 7) sj' ((lit1 hlt).mono (by decide)) (by decide) v1 v2 w g1 g2
 ·rw [e2]
  exact radd _ _ (k := 20) s1 (sm.mono (by decide)) (by decide) v1 v2 w g1 g2
theorem mk_whole (m : Nat) : mkRat (m : Int) (10 ^ 0) = NQ m := by rw [Nat.pow_zero, Rat.mkRat_one]
theorem mk_point (P A k : Nat) : mkRat ((P * 10 ^ k + A : Nat) : Int) (10 ^ k) = NQ P + NQ A * stepQ k := by
 rw [Rat.mkRat_eq_div]
 have e : ((((P * 10 ^ k + A : Nat)) : Int) : Rat) = NQ P * tenQ k + NQ A := by
  unfold NQ tenQ
  rw [Int.natCast_add, Int.natCast_mul, Rat.intCast_add, Rat.intCast_mul]; rfl
 have e2 : (((10 ^ k : Nat) : Nat) : Rat) = tenQ k := rfl
 rw [e, e2]
 have h1 := step_mul k
 have h2 : ∀ x : Rat, x / tenQ k = x * stepQ k := fun x => by unfold stepQ; rw [Rat.div_def, Rat.div_def, Rat.one_mul]
 rw [h2]
 grind
theorem beqF {a b : Int} (h : a ≠ b) : (a == b) = false := beq_eq_false_iff_ne.2 h
theorem beqFn {a b : Nat} (h : a ≠ b) : (a == b) = false := beq_eq_false_iff_ne.2 h
theorem u8ne {c x : UInt8} (h : c ≠ x) : (c.toNat : Int) ≠ (x.toNat : Int) := fun e => h (UInt8.toNat_inj.1 (by omega))
theorem not_dig {c : UInt8} (h : ¬ isDig c) : ¬ (48 : Int) ≤ (c.toNat : Int) ∨ ((48 : Int) ≤ (c.toNat : Int) ∧ ¬ (c.toNat : Int) ≤ 57) := by
 unfold isDig at h; omega
theorem rparse_p (l d : List UInt8) (hle : l = (d)) (hl : l.length ≤ 100) (hne : d ≠ []) (h45 : d.head? ≠ some 45) :
  (∃ m k, DV d m k ∧ k ≤ 100 ∧ (digs m).length ≤ 6 ∧ ∀ w, Calls Tryz.prog 20 #[.string ⟨l.toArray⟩] w fun e w' => ∃ pv, e = .returned (.tuple #[pv, .int .i64 0]) ∧ RF w' pv (mkRat ((m : Int)) (10 ^ k)) ∧ Below w.heap.size w w') ∨
  (((¬ ∃ m k, DV d m k)) ∧ ∀ w, Calls Tryz.prog 20 #[.string ⟨l.toArray⟩] w fun e w' => ∃ pv, e = .returned (.tuple #[pv, .int .i64 4]) ∧ RF w' pv 0 ∧ Below w.heap.size w w') := by
 obtain ⟨p, r, rfl, hp, hr⟩ := split_digs d
 have only := fun (m k : Nat) (h : DV (p ++ r) m k) => dv_only hp hr h
 have hlen : l.length = 0 + (p.length + r.length) := by rw [hle]; simp
 have hlk : ∀ j, l[0 + j]? = (p ++ r)[j]? := fun j => by rw [hle]; rw [Nat.zero_add]
 have hlp : ∀ j, j < p.length → l[0 + j]? = p[j]? := fun j hj => by rw [hlk, List.getElem?_append_left hj]
 have hlr : ∀ j, l[0 + (p.length + j)]? = r[j]? := fun j => by rw [hlk, List.getElem?_append_right (by omega), Nat.add_sub_cancel_left]
 have hpl : p.length ≤ 100 := by omega
 obtain ⟨va, hva⟩ : ∃ va : Nat → Rat, ∀ i, va i = NQ (dval (p.take (i - 0))) := ⟨fun i => NQ (dval (p.take (i - 0))), fun _ => rfl⟩
 have H1 := h1_any p hp hpl l 0 hlp va hva
 have hP := dval6 hp hpl
 have hv0 : NQ 0 = va 0 := by rw [hva, Nat.sub_self, List.take_zero, dval_nil]
 have hv1 : va (0 + p.length) = NQ (dval p) := by rw [hva, Nat.add_sub_cancel_left, List.take_length]
 have hsz := bsize l
 obtain ⟨c00, hc00⟩ : ∃ c, l[0]? = some c := by
  rw [hle]
  cases hx : p ++ r with
  | nil => exact absurd hx hne
  | cons c t => exact ⟨c, rfl⟩
 have g00 : ((c00.toNat : Int) == 45) = false := by
  refine beqF (fun e => h45 ?_); rw [hle, ← List.head?_eq_getElem?] at hc00; rw [hc00]; exact congrArg some (UInt8.toNat_inj.1 (by show _ = 45; omega))
 obtain ⟨h00, hg00⟩ := sget l 0 c00 hc00
 have hlp0 : 0 < l.length := by rw [hsz] at h00; exact h00
 have hp0 : (0 : Int) < (l.length : Int) := by omega
 have d40 : decide ((4096 : Int) < (l.length : Int)) = false := decide_eq_false (by omega)
 have d41 : decide (4096 < l.length) = false := decide_eq_false (by omega)
 have Z := dint_lit 0 (by decide)
 have TN := dint_lit 10 (by decide)
 have ON := dint_lit 1 (by decide)
 have sP : Sz (NQ (dval p)) 6 := NQ_sz hP (by decide)
 have wayr : ∀ c r', r = c :: r' → ¬ isDig c → ((0 + p.length : Nat) : Int) < (l.length : Int) ∧ (∃ h : 0 + p.length < (ByteArray.mk l.toArray).size, (ByteArray.mk l.toArray)[0 + p.length]'h = c) := fun c r' e _ => by
  subst e
  refine ⟨by rw [hlen, List.length_cons]; omega, sget l _ c ?_⟩
  have := hlr 0
  rw [Nat.add_zero] at this; rw [this]; rfl
 by_cases hA : p = []
 ·refine .inr ⟨(fun ⟨m, k, h⟩ => by have := (only m k h).1.2; rw [hA] at this; simp at this), fun w => ?_⟩
  have y1 : (((0 + p.length : Nat) : Int) == 0) = true := by rw [hA]; rfl
  have y2 : (0 + p.length == 0) = true := by rw [hA]; rfl
  refine rps_pA ⟨l.toArray⟩ l.length (0 + p.length) c00 0 ((r.headD 0)) va (NQ 0) (NQ 10) (NQ (dval p)) Z TN hsz hl d40 d41 hp0 h00 hg00 g00 hv0 hv1 (by omega) (by omega) H1 ?_ y1 y2 w
  rcases hr with e | ⟨c, r', e, hc⟩
  ·exact .inl (by rw [hlen, e]; simp)
  ·obtain ⟨w1, w2, w3⟩ := wayr c r' e hc
   have e9 : r.headD 0 = c := by rw [e]; rfl
   rw [e9]
   rcases not_dig hc with n | n
   ·exact .inr (.inl ⟨w1, w2, w3, n⟩)
   ·exact .inr (.inr ⟨w1, w2, w3, n.1, n.2⟩)
 obtain ⟨c0, p', hpc⟩ : ∃ c0 p', p = c0 :: p' := by
  cases p with
  | nil => exact absurd rfl hA
  | cons c t => exact ⟨c, t, rfl⟩
 have hn : 0 < p.length := by rw [hpc]; simp
 have y1 : (((0 + p.length : Nat) : Int) == 0) = false := beqF (by omega)
 have y2 : (0 + p.length == 0) = false := beqFn (by omega)
 have y3 : ¬ 0 + p.length = 0 := by omega
 have hb8 : (0 : Int) < (l.length : Int) := by omega
 have hcb : l[0]? = some c0 := by have := hlp 0 hn; rw [Nat.add_zero] at this; rw [this, hpc]; rfl
 obtain rfl : c00 = c0 := Option.some.inj (hc00.symm.trans hcb)
 by_cases hB : c00 = 48 ∧ p' ≠ []
 ·have gt : decide ((1 : Int) < ((0 + p.length : Nat) : Int)) = true := by
   have : 0 < p'.length := List.length_pos_iff.2 hB.2
   refine decide_eq_true ?_
   rw [hpc, List.length_cons]; omega
  have gz : ((c00.toNat : Int) == 48) = true := by rw [hB.1]; rfl
  refine .inr ⟨(fun ⟨m, k, h⟩ => by
   rcases (only m k h).1.2 with h1 | h1
   ·rw [hpc] at h1; simp at h1; exact hB.2 h1.2
   ·rw [hpc, hB.1] at h1; simp at h1), fun w => ?_⟩
  refine rps_pB ⟨l.toArray⟩ l.length (0 + p.length) c00 0 (r.headD 0) va (NQ 0) (NQ 10) (NQ (dval p)) Z TN hsz hl d40 d41 hp0 h00 hg00 g00 hv0 hv1 (by omega) (by omega) H1 ?_ y1 y2 y3 hb8 gz gt w
  rcases hr with e | ⟨c, r', e, hc⟩
  ·exact .inl (by rw [hlen, e]; simp)
  ·obtain ⟨w1, w2, w3⟩ := wayr c r' e hc
   have e9 : r.headD 0 = c := by rw [e]; rfl
   rw [e9]
   rcases not_dig hc with n | n
   ·exact .inr (.inl ⟨w1, w2, w3, n⟩)
   ·exact .inr (.inr ⟨w1, w2, w3, n.1, n.2⟩)
 have hdec : isDec p := by
  refine ⟨hp, ?_⟩
  by_cases h48 : c00 = 48
  ·by_cases hp' : p' = []
   ·exact .inl (by rw [hpc, h48, hp'])
   ·exact absurd ⟨h48, hp'⟩ hB
  ·exact .inr ⟨hA, by rw [hpc]; simp; exact h48⟩
 have hz : ((c00.toNat : Int) == 48) = false ∨ (((c00.toNat : Int) == 48) = true ∧ decide ((1 : Int) < ((0 + p.length : Nat) : Int)) = false) := by
  by_cases h48 : c00 = 48
  ·by_cases hp' : p' = []
   ·exact .inr ⟨by rw [h48]; rfl, decide_eq_false (by rw [hpc, hp']; simp)⟩
   ·exact absurd ⟨h48, hp'⟩ hB
  ·exact .inl (beqF (u8ne h48))
 rcases hr with hr0 | ⟨c, r', hrc, hc⟩
 ·have hdv : DV (p ++ r) (dval p) 0 := by rw [hr0, List.append_nil]; exact .whole hdec
  have hend : ¬ ((0 + p.length : Nat) : Int) < (l.length : Int) := by rw [hlen, hr0]; simp
  refine .inl ⟨(dval p), 0, hdv, by omega, hP, fun w => ?_⟩
  rw [mk_whole (dval p)]
  exact rps_pC ⟨l.toArray⟩ l.length (0 + p.length) c00 0 0 va (NQ 0) (NQ 10) (NQ (dval p)) Z TN hsz hl d40 d41 hp0 h00 hg00 g00 hv0 hv1 (by omega) (by omega) H1 hend y1 y2 y3 hb8 hz w
 ·obtain ⟨w1, w2, w3⟩ := wayr c r' hrc hc
  by_cases h46 : c = 46
  ·subst h46
   have n46 : ¬ (48 : Int) ≤ (((46 : UInt8).toNat : Nat) : Int) := by decide
   by_cases hE : r' = []
   ·have hlE : 0 + p.length + 1 = l.length := by rw [hlen, hrc, hE]; first | (simp; done) | (simp; omega)
    refine .inr ⟨(fun ⟨m, k, h⟩ => by
     rcases (only m k h).2 with h1 | ⟨a, h1, h2, _⟩
     ·rw [hrc] at h1; cases h1.1
     ·rw [hrc] at h1; simp at h1; exact h2 (h1.symm.trans hE)), fun w => ?_⟩
    exact rps_pE ⟨l.toArray⟩ l.length (0 + p.length) c00 0 46 va (NQ 0) (NQ 10) (NQ (dval p)) Z TN hsz hl d40 d41 hp0 h00 hg00 g00 hv0 hv1 (by omega) (by omega) H1 ⟨w1, w2, w3, n46⟩ y1 y2 y3 hb8 hz (by decide) (by decide) (by rw [← hlE]; simp) (by rw [← hlE]; simp) hlE (by omega) w
   ·obtain ⟨a, r2, hra, ha, hr2⟩ := split_digs r'
    obtain ⟨vb, hvb⟩ : ∃ vb : Nat → Rat, ∀ i, vb i = NQ (dval p) + NQ (dval (a.take (i - (0 + p.length + 1)))) * stepQ (i - (0 + p.length + 1)) := ⟨_, fun _ => rfl⟩
    obtain ⟨sb, hsb⟩ : ∃ sb : Nat → Rat, ∀ i, sb i = stepQ (i - (0 + p.length + 1)) := ⟨_, fun _ => rfl⟩
    have hll : l.length = 0 + p.length + 1 + (a.length + r2.length) := by rw [hlen, hrc, hra, List.length_cons, List.length_append]; omega
    have hla : ∀ j, l[0 + p.length + 1 + j]? = (a ++ r2)[j]? := fun j => by
     have := hlr (1 + j)
     rw [hrc, Nat.add_comm 1 j, List.getElem?_cons_succ, hra] at this
     rw [← this]; congr 1; omega
    have H2 := h2_any (dval p) hP a ha (by omega) l (0 + p.length + 1) (fun j hj => by rw [hla, List.getElem?_append_left hj]) vb sb hsb hvb
    have hne1 : 0 + p.length + 1 ≠ l.length := by
     have : 0 < r'.length := List.length_pos_iff.2 hE
     rw [hra, List.length_append] at this
     omega
    have v2 : NQ (dval p) = vb (0 + p.length + 1) := by
     rw [hvb, Nat.sub_self, List.take_zero, dval_nil]
     have : NQ 0 = 0 := by decide +kernel
     rw [this]; grind
    have s0 : NQ 1 = sb (0 + p.length + 1) := by rw [hsb, Nat.sub_self, stepQ_zero]
    have v3 : vb (0 + p.length + 1 + a.length) = NQ (dval p) + NQ (dval a) * stepQ a.length := by rw [hvb, Nat.add_sub_cancel_left, List.take_length]
    have y5 : ((((0 + p.length : Nat) : Int) + 1) == (l.length : Int)) = false := beqF (by omega)
    have y6 : (0 + p.length + 1 == l.length) = false := beqFn hne1
    have y8 : ¬ (((0 + p.length : Nat) : Int) + 1 = (l.length : Int)) := by omega
    rcases hr2 with hr0 | ⟨c8, r3, hrc8, hc8⟩
    ·have ha0 : a ≠ [] := fun e => hE (by rw [hra, e, hr0]; rfl)
     have hdv : DV (p ++ r) (dval p * 10 ^ a.length + dval a) a.length := by rw [hrc, hra, hr0, List.append_nil]; exact .point hdec ha0 ha
     have hend : ¬ ((0 + p.length + 1 + a.length : Nat) : Int) < (l.length : Int) := by rw [hll, hr0]; simp
     have hm6 : (digs (dval p * 10 ^ a.length + dval a)).length ≤ 6 := by
      rw [← dval_append]
      exact dval6 (fun c hc => by rcases List.mem_append.1 hc with h | h; exact hp c h; exact ha c h) (by rw [List.length_append]; omega)
     refine .inl ⟨(dval p * 10 ^ a.length + dval a), a.length, hdv, by omega, hm6, fun w => ?_⟩
     rw [mk_point (dval p) (dval a) a.length]
     exact rps_pG ⟨l.toArray⟩ l.length (0 + p.length) (0 + p.length + 1 + a.length) c00 0 46 0 va vb sb (NQ 0) (NQ 10) (NQ (dval p)) (NQ 1) (NQ (dval p) + NQ (dval a) * stepQ a.length) (NQ (dval p) + NQ (dval a) * stepQ a.length) 0 Z TN ON hsz hl d40 d41 hp0 h00 hg00 g00 hv0 hv1 (by omega) (by omega) H1 ⟨w1, w2, w3, n46⟩ y1 y2 y3 hb8 hz (by decide) (by decide) y5 y6 hne1 y8 v2 s0 (by omega) (by omega) H2 (.inr (.inr ⟨hend, rfl, rfl⟩)) v3 w
    ·refine .inr ⟨(fun ⟨m, k, h⟩ => by
      rcases (only m k h).2 with h1 | ⟨a', h1, _, h3, _⟩
      ·rw [hrc] at h1; cases h1.1
      ·rw [hrc] at h1; simp at h1
       exact hc8 (h3 c8 (by rw [← h1, hra, hrc8]; simp))), fun w => ?_⟩
     have hx := hla a.length
     rw [List.getElem?_append_right (Nat.le_refl _), Nat.sub_self, hrc8] at hx
     obtain ⟨z1, z2⟩ := sget l _ c8 hx
     have z0 : ((0 + p.length + 1 + a.length : Nat) : Int) < (l.length : Int) := by rw [hll, hrc8, List.length_cons]; omega
     have hnot : ¬ ¬ ((0 + p.length + 1 + a.length : Nat) : Int) < (l.length : Int) := fun h => h z0
     refine rps_pG ⟨l.toArray⟩ l.length (0 + p.length) (0 + p.length + 1 + a.length) c00 0 46 c8 va vb sb (NQ 0) (NQ 10) (NQ (dval p)) (NQ 1) (NQ (dval p) + NQ (dval a) * stepQ a.length) 0 4 Z TN ON hsz hl d40 d41 hp0 h00 hg00 g00 hv0 hv1 (by omega) (by omega) H1 ⟨w1, w2, w3, n46⟩ y1 y2 y3 hb8 hz (by decide) (by decide) y5 y6 hne1 y8 v2 s0 (by omega) (by omega) H2 ?_ v3 w
     rcases not_dig hc8 with n | n
     ·exact .inl ⟨⟨z0, z1, z2, by omega⟩, rfl, rfl⟩
     ·exact .inr (.inl ⟨⟨z0, z1, z2, by omega, by omega⟩, rfl, rfl⟩)
  ·have g46 : ((c.toNat : Int) == 46) = false := beqF (u8ne h46)
   refine .inr ⟨(fun ⟨m, k, h⟩ => by
    rcases (only m k h).2 with h1 | ⟨a, h1, _⟩
    ·rw [hrc] at h1; cases h1.1
    ·rw [hrc] at h1; simp at h1; exact h46 h1.1), fun w => ?_⟩
   refine rps_pD ⟨l.toArray⟩ l.length (0 + p.length) c00 0 c va (NQ 0) (NQ 10) (NQ (dval p)) Z TN hsz hl d40 d41 hp0 h00 hg00 g00 hv0 hv1 (by omega) (by omega) H1 ?_ y1 y2 y3 hb8 hz (by rw [bne, g46]; rfl) g46 w
   rcases not_dig hc with n | n
   ·exact .inl ⟨w1, w2, w3, n⟩
   ·exact .inr ⟨w1, w2, w3, n.1, n.2⟩
theorem rparse_n (l d : List UInt8) (hle : l = (45 :: d)) (hl : l.length ≤ 100) :
  (∃ m k, DV d m k ∧ m ≠ 0 ∧ k ≤ 100 ∧ (digs m).length ≤ 6 ∧ ∀ w, Calls Tryz.prog 20 #[.string ⟨l.toArray⟩] w fun e w' => ∃ pv, e = .returned (.tuple #[pv, .int .i64 0]) ∧ RF w' pv (mkRat (-(m : Int)) (10 ^ k)) ∧ Below w.heap.size w w') ∨
  (((¬ ∃ m k, DV d m k) ∨ ∃ k, DV d 0 k) ∧ ∀ w, Calls Tryz.prog 20 #[.string ⟨l.toArray⟩] w fun e w' => ∃ pv, e = .returned (.tuple #[pv, .int .i64 4]) ∧ RF w' pv 0 ∧ Below w.heap.size w w') := by
 obtain ⟨p, r, rfl, hp, hr⟩ := split_digs d
 have only := fun (m k : Nat) (h : DV (p ++ r) m k) => dv_only hp hr h
 have hlen : l.length = 1 + (p.length + r.length) := by rw [hle]; simp; omega
 have hlk : ∀ j, l[1 + j]? = (p ++ r)[j]? := fun j => by rw [hle]; rw [Nat.add_comm, List.getElem?_cons_succ]
 have hlp : ∀ j, j < p.length → l[1 + j]? = p[j]? := fun j hj => by rw [hlk, List.getElem?_append_left hj]
 have hlr : ∀ j, l[1 + (p.length + j)]? = r[j]? := fun j => by rw [hlk, List.getElem?_append_right (by omega), Nat.add_sub_cancel_left]
 have hpl : p.length ≤ 100 := by omega
 obtain ⟨va, hva⟩ : ∃ va : Nat → Rat, ∀ i, va i = NQ (dval (p.take (i - 1))) := ⟨fun i => NQ (dval (p.take (i - 1))), fun _ => rfl⟩
 have H1 := h1_any p hp hpl l 1 hlp va hva
 have hP := dval6 hp hpl
 have hv0 : NQ 0 = va 1 := by rw [hva, Nat.sub_self, List.take_zero, dval_nil]
 have hv1 : va (1 + p.length) = NQ (dval p) := by rw [hva, Nat.add_sub_cancel_left, List.take_length]
 have hsz := bsize l
 obtain ⟨c00, hc00⟩ : ∃ c, l[0]? = some c := by
  exact ⟨45, by rw [hle]; rfl⟩
 have g00 : ((c00.toNat : Int) == 45) = true := by
  rw [hle] at hc00; obtain rfl := Option.some.inj hc00; rfl
 obtain ⟨h00, hg00⟩ := sget l 0 c00 hc00
 have hlp0 : 0 < l.length := by rw [hsz] at h00; exact h00
 have hp0 : (0 : Int) < (l.length : Int) := by omega
 have d40 : decide ((4096 : Int) < (l.length : Int)) = false := decide_eq_false (by omega)
 have d41 : decide (4096 < l.length) = false := decide_eq_false (by omega)
 have Z := dint_lit 0 (by decide)
 have TN := dint_lit 10 (by decide)
 have ON := dint_lit 1 (by decide)
 have sP : Sz (NQ (dval p)) 6 := NQ_sz hP (by decide)
 have wayr : ∀ c r', r = c :: r' → ¬ isDig c → ((1 + p.length : Nat) : Int) < (l.length : Int) ∧ (∃ h : 1 + p.length < (ByteArray.mk l.toArray).size, (ByteArray.mk l.toArray)[1 + p.length]'h = c) := fun c r' e _ => by
  subst e
  refine ⟨by rw [hlen, List.length_cons]; omega, sget l _ c ?_⟩
  have := hlr 0
  rw [Nat.add_zero] at this; rw [this]; rfl
 by_cases hA : p = []
 ·refine .inr ⟨.inl (fun ⟨m, k, h⟩ => by have := (only m k h).1.2; rw [hA] at this; simp at this), fun w => ?_⟩
  have y1 : (((1 + p.length : Nat) : Int) == 1) = true := by rw [hA]; rfl
  have y2 : (1 + p.length == 1) = true := by rw [hA]; rfl
  refine rps_nA ⟨l.toArray⟩ l.length (1 + p.length) c00 0 ((r.headD 0)) va (NQ 0) (NQ 10) (NQ (dval p)) Z TN hsz hl d40 d41 hp0 h00 hg00 g00 hv0 hv1 (by omega) (by omega) H1 ?_ y1 y2 w
  rcases hr with e | ⟨c, r', e, hc⟩
  ·exact .inl (by rw [hlen, e]; simp)
  ·obtain ⟨w1, w2, w3⟩ := wayr c r' e hc
   have e9 : r.headD 0 = c := by rw [e]; rfl
   rw [e9]
   rcases not_dig hc with n | n
   ·exact .inr (.inl ⟨w1, w2, w3, n⟩)
   ·exact .inr (.inr ⟨w1, w2, w3, n.1, n.2⟩)
 obtain ⟨c0, p', hpc⟩ : ∃ c0 p', p = c0 :: p' := by
  cases p with
  | nil => exact absurd rfl hA
  | cons c t => exact ⟨c, t, rfl⟩
 have hn : 0 < p.length := by rw [hpc]; simp
 have y1 : (((1 + p.length : Nat) : Int) == 1) = false := beqF (by omega)
 have y2 : (1 + p.length == 1) = false := beqFn (by omega)
 have y3 : ¬ 1 + p.length = 1 := by omega
 have hb8 : (1 : Int) < (l.length : Int) := by omega
 have hcb : l[1]? = some c0 := by have := hlp 0 hn; rw [Nat.add_zero] at this; rw [this, hpc]; rfl
 obtain ⟨hb9, hgb⟩ := sget l 1 c0 hcb
 by_cases hB : c0 = 48 ∧ p' ≠ []
 ·have gt : decide ((2 : Int) < ((1 + p.length : Nat) : Int)) = true := by
   have : 0 < p'.length := List.length_pos_iff.2 hB.2
   refine decide_eq_true ?_
   rw [hpc, List.length_cons]; omega
  have gz : ((c0.toNat : Int) == 48) = true := by rw [hB.1]; rfl
  refine .inr ⟨.inl (fun ⟨m, k, h⟩ => by
   rcases (only m k h).1.2 with h1 | h1
   ·rw [hpc] at h1; simp at h1; exact hB.2 h1.2
   ·rw [hpc, hB.1] at h1; simp at h1), fun w => ?_⟩
  refine rps_nB ⟨l.toArray⟩ l.length (1 + p.length) c00 c0 (r.headD 0) va (NQ 0) (NQ 10) (NQ (dval p)) Z TN hsz hl d40 d41 hp0 h00 hg00 g00 hv0 hv1 (by omega) (by omega) H1 ?_ y1 y2 y3 hb8 hb9 hgb gz gt w
  rcases hr with e | ⟨c, r', e, hc⟩
  ·exact .inl (by rw [hlen, e]; simp)
  ·obtain ⟨w1, w2, w3⟩ := wayr c r' e hc
   have e9 : r.headD 0 = c := by rw [e]; rfl
   rw [e9]
   rcases not_dig hc with n | n
   ·exact .inr (.inl ⟨w1, w2, w3, n⟩)
   ·exact .inr (.inr ⟨w1, w2, w3, n.1, n.2⟩)
 have hdec : isDec p := by
  refine ⟨hp, ?_⟩
  by_cases h48 : c0 = 48
  ·by_cases hp' : p' = []
   ·exact .inl (by rw [hpc, h48, hp'])
   ·exact absurd ⟨h48, hp'⟩ hB
  ·exact .inr ⟨hA, by rw [hpc]; simp; exact h48⟩
 have hz : ((c0.toNat : Int) == 48) = false ∨ (((c0.toNat : Int) == 48) = true ∧ decide ((2 : Int) < ((1 + p.length : Nat) : Int)) = false) := by
  by_cases h48 : c0 = 48
  ·by_cases hp' : p' = []
   ·exact .inr ⟨by rw [h48]; rfl, decide_eq_false (by rw [hpc, hp']; simp)⟩
   ·exact absurd ⟨h48, hp'⟩ hB
  ·exact .inl (beqF (u8ne h48))
 rcases hr with hr0 | ⟨c, r', hrc, hc⟩
 ·have hdv : DV (p ++ r) (dval p) 0 := by rw [hr0, List.append_nil]; exact .whole hdec
  have hend : ¬ ((1 + p.length : Nat) : Int) < (l.length : Int) := by rw [hlen, hr0]; simp
  have hsg := sgnQ_eq0 (q := (NQ (dval p)))
  by_cases h0 : (dval p) = 0
  ·refine .inr ⟨.inr ⟨0, by have h := hdv; rw [h0] at h; exact h⟩, fun w => ?_⟩
   have gs : (sgnQ (NQ (dval p)) == 0) = true := by rw [hsg, decide_eq_true]; rw [← mk_whole (dval p), h0]; exact Rat.zero_mkRat _
   exact rps_nC ⟨l.toArray⟩ l.length (1 + p.length) c00 c0 0 va (NQ 0) (NQ 10) (NQ (dval p)) (-(NQ (dval p))) 0 (sgnQ (NQ (dval p))) 4 Z TN (fun v w g => rsign (NQ (dval p)) v w g) (fun v w g => rneg (NQ (dval p)) v w g) hsz hl d40 d41 hp0 h00 hg00 g00 hv0 hv1 (by omega) (by omega) H1 hend y1 y2 y3 hb8 hb9 hgb hz (.inl ⟨gs, rfl, rfl⟩) w
  ·refine .inl ⟨(dval p), 0, hdv, h0, by omega, hP, fun w => ?_⟩
   have gs : (sgnQ (NQ (dval p)) == 0) = false := by
    rw [hsg]; refine decide_eq_false (fun e => h0 ?_)
    rw [← mk_whole (dval p), Rat.mkRat_eq_zero (Nat.pos_iff_ne_zero.1 (Nat.pow_pos (by decide)))] at e
    omega
   rw [← Rat.neg_mkRat, mk_whole (dval p)]
   exact rps_nC ⟨l.toArray⟩ l.length (1 + p.length) c00 c0 0 va (NQ 0) (NQ 10) (NQ (dval p)) (-(NQ (dval p))) (-(NQ (dval p))) (sgnQ (NQ (dval p))) 0 Z TN (fun v w g => rsign (NQ (dval p)) v w g) (fun v w g => rneg (NQ (dval p)) v w g) hsz hl d40 d41 hp0 h00 hg00 g00 hv0 hv1 (by omega) (by omega) H1 hend y1 y2 y3 hb8 hb9 hgb hz (.inr ⟨gs, rfl, rfl⟩) w
 ·obtain ⟨w1, w2, w3⟩ := wayr c r' hrc hc
  by_cases h46 : c = 46
  ·subst h46
   have n46 : ¬ (48 : Int) ≤ (((46 : UInt8).toNat : Nat) : Int) := by decide
   by_cases hE : r' = []
   ·have hlE : 1 + p.length + 1 = l.length := by rw [hlen, hrc, hE]; first | (simp; done) | (simp; omega)
    refine .inr ⟨.inl (fun ⟨m, k, h⟩ => by
     rcases (only m k h).2 with h1 | ⟨a, h1, h2, _⟩
     ·rw [hrc] at h1; cases h1.1
     ·rw [hrc] at h1; simp at h1; exact h2 (h1.symm.trans hE)), fun w => ?_⟩
    exact rps_nE ⟨l.toArray⟩ l.length (1 + p.length) c00 c0 46 va (NQ 0) (NQ 10) (NQ (dval p)) Z TN hsz hl d40 d41 hp0 h00 hg00 g00 hv0 hv1 (by omega) (by omega) H1 ⟨w1, w2, w3, n46⟩ y1 y2 y3 hb8 hb9 hgb hz (by decide) (by decide) (by rw [← hlE]; simp) (by rw [← hlE]; simp) hlE (by omega) w
   ·obtain ⟨a, r2, hra, ha, hr2⟩ := split_digs r'
    obtain ⟨vb, hvb⟩ : ∃ vb : Nat → Rat, ∀ i, vb i = NQ (dval p) + NQ (dval (a.take (i - (1 + p.length + 1)))) * stepQ (i - (1 + p.length + 1)) := ⟨_, fun _ => rfl⟩
    obtain ⟨sb, hsb⟩ : ∃ sb : Nat → Rat, ∀ i, sb i = stepQ (i - (1 + p.length + 1)) := ⟨_, fun _ => rfl⟩
    have hll : l.length = 1 + p.length + 1 + (a.length + r2.length) := by rw [hlen, hrc, hra, List.length_cons, List.length_append]; omega
    have hla : ∀ j, l[1 + p.length + 1 + j]? = (a ++ r2)[j]? := fun j => by
     have := hlr (1 + j)
     rw [hrc, Nat.add_comm 1 j, List.getElem?_cons_succ, hra] at this
     rw [← this]; congr 1; omega
    have H2 := h2_any (dval p) hP a ha (by omega) l (1 + p.length + 1) (fun j hj => by rw [hla, List.getElem?_append_left hj]) vb sb hsb hvb
    have hne1 : 1 + p.length + 1 ≠ l.length := by
     have : 0 < r'.length := List.length_pos_iff.2 hE
     rw [hra, List.length_append] at this
     omega
    have v2 : NQ (dval p) = vb (1 + p.length + 1) := by
     rw [hvb, Nat.sub_self, List.take_zero, dval_nil]
     have : NQ 0 = 0 := by decide +kernel
     rw [this]; grind
    have s0 : NQ 1 = sb (1 + p.length + 1) := by rw [hsb, Nat.sub_self, stepQ_zero]
    have v3 : vb (1 + p.length + 1 + a.length) = NQ (dval p) + NQ (dval a) * stepQ a.length := by rw [hvb, Nat.add_sub_cancel_left, List.take_length]
    have y5 : ((((1 + p.length : Nat) : Int) + 1) == (l.length : Int)) = false := beqF (by omega)
    have y6 : (1 + p.length + 1 == l.length) = false := beqFn hne1
    have y8 : ¬ (((1 + p.length : Nat) : Int) + 1 = (l.length : Int)) := by omega
    rcases hr2 with hr0 | ⟨c8, r3, hrc8, hc8⟩
    ·have ha0 : a ≠ [] := fun e => hE (by rw [hra, e, hr0]; rfl)
     have hdv : DV (p ++ r) (dval p * 10 ^ a.length + dval a) a.length := by rw [hrc, hra, hr0, List.append_nil]; exact .point hdec ha0 ha
     have hend : ¬ ((1 + p.length + 1 + a.length : Nat) : Int) < (l.length : Int) := by rw [hll, hr0]; simp
     have hm6 : (digs (dval p * 10 ^ a.length + dval a)).length ≤ 6 := by
      rw [← dval_append]
      exact dval6 (fun c hc => by rcases List.mem_append.1 hc with h | h; exact hp c h; exact ha c h) (by rw [List.length_append]; omega)
     have hsg := sgnQ_eq0 (q := (NQ (dval p) + NQ (dval a) * stepQ a.length))
     by_cases h0 : (dval p * 10 ^ a.length + dval a) = 0
     ·refine .inr ⟨.inr ⟨a.length, by have h := hdv; rw [h0] at h; exact h⟩, fun w => ?_⟩
      have gs : (sgnQ (NQ (dval p) + NQ (dval a) * stepQ a.length) == 0) = true := by rw [hsg, decide_eq_true]; rw [← mk_point (dval p) (dval a) a.length, h0]; exact Rat.zero_mkRat _
      exact rps_nG ⟨l.toArray⟩ l.length (1 + p.length) (1 + p.length + 1 + a.length) c00 c0 46 0 va vb sb (NQ 0) (NQ 10) (NQ (dval p)) (NQ 1) (NQ (dval p) + NQ (dval a) * stepQ a.length) (-(NQ (dval p) + NQ (dval a) * stepQ a.length)) 0 (sgnQ (NQ (dval p) + NQ (dval a) * stepQ a.length)) 4 Z TN ON (fun v w g => rsign (NQ (dval p) + NQ (dval a) * stepQ a.length) v w g) (fun v w g => rneg (NQ (dval p) + NQ (dval a) * stepQ a.length) v w g) hsz hl d40 d41 hp0 h00 hg00 g00 hv0 hv1 (by omega) (by omega) H1 ⟨w1, w2, w3, n46⟩ y1 y2 y3 hb8 hb9 hgb hz (by decide) (by decide) y5 y6 hne1 y8 v2 s0 (by omega) (by omega) H2 (.inr (.inr hend)) v3 (fun _ => .inl ⟨gs, rfl, rfl⟩) w
     ·refine .inl ⟨(dval p * 10 ^ a.length + dval a), a.length, hdv, h0, by omega, hm6, fun w => ?_⟩
      have gs : (sgnQ (NQ (dval p) + NQ (dval a) * stepQ a.length) == 0) = false := by
       rw [hsg]; refine decide_eq_false (fun e => h0 ?_)
       rw [← mk_point (dval p) (dval a) a.length, Rat.mkRat_eq_zero (Nat.pos_iff_ne_zero.1 (Nat.pow_pos (by decide)))] at e
       omega
      rw [← Rat.neg_mkRat, mk_point (dval p) (dval a) a.length]
      exact rps_nG ⟨l.toArray⟩ l.length (1 + p.length) (1 + p.length + 1 + a.length) c00 c0 46 0 va vb sb (NQ 0) (NQ 10) (NQ (dval p)) (NQ 1) (NQ (dval p) + NQ (dval a) * stepQ a.length) (-(NQ (dval p) + NQ (dval a) * stepQ a.length)) (-(NQ (dval p) + NQ (dval a) * stepQ a.length)) (sgnQ (NQ (dval p) + NQ (dval a) * stepQ a.length)) 0 Z TN ON (fun v w g => rsign (NQ (dval p) + NQ (dval a) * stepQ a.length) v w g) (fun v w g => rneg (NQ (dval p) + NQ (dval a) * stepQ a.length) v w g) hsz hl d40 d41 hp0 h00 hg00 g00 hv0 hv1 (by omega) (by omega) H1 ⟨w1, w2, w3, n46⟩ y1 y2 y3 hb8 hb9 hgb hz (by decide) (by decide) y5 y6 hne1 y8 v2 s0 (by omega) (by omega) H2 (.inr (.inr hend)) v3 (fun _ => .inr ⟨gs, rfl, rfl⟩) w
    ·refine .inr ⟨.inl (fun ⟨m, k, h⟩ => by
      rcases (only m k h).2 with h1 | ⟨a', h1, _, h3, _⟩
      ·rw [hrc] at h1; cases h1.1
      ·rw [hrc] at h1; simp at h1
       exact hc8 (h3 c8 (by rw [← h1, hra, hrc8]; simp))), fun w => ?_⟩
     have hx := hla a.length
     rw [List.getElem?_append_right (Nat.le_refl _), Nat.sub_self, hrc8] at hx
     obtain ⟨z1, z2⟩ := sget l _ c8 hx
     have z0 : ((1 + p.length + 1 + a.length : Nat) : Int) < (l.length : Int) := by rw [hll, hrc8, List.length_cons]; omega
     have hnot : ¬ ¬ ((1 + p.length + 1 + a.length : Nat) : Int) < (l.length : Int) := fun h => h z0
     refine rps_nG ⟨l.toArray⟩ l.length (1 + p.length) (1 + p.length + 1 + a.length) c00 c0 46 c8 va vb sb (NQ 0) (NQ 10) (NQ (dval p)) (NQ 1) (NQ (dval p) + NQ (dval a) * stepQ a.length) (-(NQ (dval p) + NQ (dval a) * stepQ a.length)) 0 (sgnQ (NQ (dval p) + NQ (dval a) * stepQ a.length)) 4 Z TN ON (fun v w g => rsign _ v w g) (fun v w g => rneg _ v w g) hsz hl d40 d41 hp0 h00 hg00 g00 hv0 hv1 (by omega) (by omega) H1 ⟨w1, w2, w3, n46⟩ y1 y2 y3 hb8 hb9 hgb hz (by decide) (by decide) y5 y6 hne1 y8 v2 s0 (by omega) (by omega) H2 ?_ v3 (fun h => absurd h hnot) w
     rcases not_dig hc8 with n | n
     ·exact .inl ⟨⟨z0, z1, z2, by omega⟩, rfl, rfl⟩
     ·exact .inr (.inl ⟨⟨z0, z1, z2, by omega, by omega⟩, rfl, rfl⟩)
  ·have g46 : ((c.toNat : Int) == 46) = false := beqF (u8ne h46)
   refine .inr ⟨.inl (fun ⟨m, k, h⟩ => by
    rcases (only m k h).2 with h1 | ⟨a, h1, _⟩
    ·rw [hrc] at h1; cases h1.1
    ·rw [hrc] at h1; simp at h1; exact h46 h1.1), fun w => ?_⟩
   refine rps_nD ⟨l.toArray⟩ l.length (1 + p.length) c00 c0 c va (NQ 0) (NQ 10) (NQ (dval p)) Z TN hsz hl d40 d41 hp0 h00 hg00 g00 hv0 hv1 (by omega) (by omega) H1 ?_ y1 y2 y3 hb8 hb9 hgb hz (by rw [bne, g46]; rfl) g46 w
   rcases not_dig hc with n | n
   ·exact .inl ⟨w1, w2, w3, n⟩
   ·exact .inr ⟨w1, w2, w3, n.1, n.2⟩
end Go.Proofs.YtahfcciihkkegaaGreatDoor
namespace Go.Proofs.YtahfcciihkkegaaGreatDoor
open Go.RowKit Go.Proofs.YtahfcciihkkegaaGreatDoor.Rx
theorem mkR_sz (z : Int) (k : Nat) (hz : dI z ≤ 6) (hk : k ≤ 100) : Sz (mkRat z (10 ^ k)) 20 := by
 have e : mkRat z (10 ^ k) = (z : Rat) / tenQ k := by rw [Rat.mkRat_eq_div]; rfl
 rw [e]
 exact ((Sz.int hz (by decide)).div (ten_sz hk) (tenQ_ne k)).mono (by decide)
/-- Both answer alike. -/
theorem both_parse (l : List UInt8) (hl : l.length ≤ 100) : ∃ (q : Rat) (c : Int), (∀ w, KD w → Calls Tryz.prog 19 #[.string ⟨l.toArray⟩] w fun e w' => e = .returned (.tuple #[fracV q, .int .i64 c]) ∧ Below w.heap.size w w') ∧
  (∀ w, Calls Tryz.prog 20 #[.string ⟨l.toArray⟩] w fun e w' => ∃ pv, e = .returned (.tuple #[pv, .int .i64 c]) ∧ RF w' pv q ∧ Below w.heap.size w w') ∧ Sz q 20 := by
 have s0 : Sz 0 20 := (szc 0 (by decide) (by decide)).mono (by decide)
 by_cases hn : l.head? = some 45
 ·obtain ⟨d, hd⟩ : ∃ d, l = 45 :: d := by
   cases l with
   | nil => cases hn
   | cons x t => exact ⟨t, by rw [List.head?_cons] at hn; rw [Option.some.inj hn]⟩
  have hg : Sgn true l d := .inl ⟨rfl, hd⟩
  rcases rparse_n l d hd hl with ⟨m, k, hv, h0, hk, hm, H⟩ | ⟨hno, H⟩
  ·refine ⟨mkRat (-(m : Int)) (10 ^ k), 0, fun w h => ?_, H, mkR_sz _ k (by rw [dI_neg, dI_nat]; exact hm) hk⟩
   have g := parseD true l d m k hg hv (by omega) hk (fun _ => h0) w h.2
   rw [if_pos rfl] at g; exact g
  ·exact ⟨0, 4, fun w h => parseE true l d hg hl (hno.imp id (fun e => ⟨rfl, e⟩)) w h.2, H, s0⟩
 ·have hg : Sgn false l l := .inr ⟨rfl, rfl, hn⟩
  by_cases hl0 : l = []
  ·subst hl0
   refine ⟨0, 4, fun w h => parseE false [] [] hg hl (.inl ?_) w h.2, fun w => rps_nil ⟨[].toArray⟩ (NQ 0) 0 (dint_lit 0 (by decide)) (bsize []) w, s0⟩
   rintro ⟨m, k, hv⟩
   exact (dv_head hv).1 rfl
  ·rcases rparse_p l l rfl hl hl0 hn with ⟨m, k, hv, hk, hm, H⟩ | ⟨hno, H⟩
   ·refine ⟨mkRat (m : Int) (10 ^ k), 0, fun w h => ?_, H, mkR_sz _ k (by rw [dI_nat]; exact hm) hk⟩
    have g := parseD false l l m k hg hv (by omega) hk (fun e => by cases e) w h.2
    rw [if_neg (by decide)] at g; exact g
   ·exact ⟨0, 4, fun w h => parseE false l l hg hl (.inl hno) w h.2, H, s0⟩
theorem dreads_any (s : ByteArray) (w : World) (hw : KD w) :
  Calls Tryz.prog 4 #[.string s] w fun xe w' => xe = .returned (.bool true) ∧ Below w.heap.size w w' := by
 obtain ⟨l, rfl⟩ : ∃ l : List UInt8, s = ⟨l.toArray⟩ := ⟨s.data.toList, by simp⟩
 have hs := bsize l
 by_cases h1 : 4096 < l.length
 ·exact dreads_big _ l.length (fun w => dparse_long _ l.length hs (decide_eq_true (by omega)) w) KD KD.keeps dworks_any hs (decide_eq_true (by omega)) (decide_eq_true h1) w hw
 by_cases h2 : 100 < l.length
 ·exact dreads_mid _ l.length KD KD.keeps dworks_any hs (decide_eq_false (by omega)) (decide_eq_false h1) (decide_eq_true (by omega)) (decide_eq_true h2) w hw
 obtain ⟨q, c, HP, HR, sq⟩ := both_parse l (by omega)
 exact dreads_small _ l.length q c KD KD.keeps HP HR (fun p w hk h => sameF q sq (by decide) p w hk.1 h) dworks_any hs (decide_eq_false (by omega)) (decide_eq_false h1) (decide_eq_false (by omega)) (decide_eq_false h2) w hw
end Go.Proofs.YtahfcciihkkegaaGreatDoor
namespace Go.Proofs.YtahfcciihkkegaaGreatDoor
open Go.ChangeShapes Go.WideShapes Go.ChangeAt Go.RowKit
theorem own : ownKnob Tryz.prog.godebug = none := by kernel_rfl
theorem cells24 : Tryz.prog.cellsOf 28 = 1 := by kernel_rfl
/-- The variables that every row of this layer lists. -/
def laidAll : List (String × DataW Unit) := [("math/bits.deBruijn32tab", Rows.laid_math_bits_deBruijn32tab), ("math/bits.deBruijn64tab", Rows.laid_math_bits_deBruijn64tab), ("internal/strconv.uint64pow10", Rows.laid_internal_strconv_uint64pow10)]
theorem gPow : Tryz.prog.globalNamed "internal/strconv.uint64pow10" = some 3 := by kernel_rfl
theorem gPowType : (Tryz.prog.globals[3]?).map (·.type) = some 240 := by kernel_rfl
theorem cells20 : Tryz.prog.cellsOf 240 = 20 := by kernel_rfl
theorem tab_of {W : World} (h : laidMetH Tryz.prog laidAll W) : Tab W := by
 have h1 := laidMetH.filter (fun x => x.1 == "internal/strconv.uint64pow10") h
 have e : laidAll.filter (fun x => x.1 == "internal/strconv.uint64pow10") = [("internal/strconv.uint64pow10", Rows.laid_internal_strconv_uint64pow10)] := by kernel_rfl
 rw [e, MakeChecks.laidMetH_plain _ _ _ (by kernel_rfl)] at h1
 exact Lib.tabIs_of_head (rest := []) gPow gPowType Tryz.underlying240 Tryz.underlying28 cells24 cells20 (show laidMet Tryz.prog (("internal/strconv.uint64pow10", Lib.tabData .u64 Lib.pow10Tab) :: []) W from h1)
end Go.Proofs.YtahfcciihkkegaaGreatDoor
