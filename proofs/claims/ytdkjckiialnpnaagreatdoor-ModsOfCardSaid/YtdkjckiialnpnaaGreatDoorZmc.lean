/-
  The law answers true at every input, and leaves its arguments as they were: a part of the proof. CONDITIONS: the package-level tables start as the program's text lays them (the card ties them).
-/
import Derived.Test.YtdkjckiialnpnaaGreatDoorZmb
set_option linter.unusedVariables false
set_option linter.unusedSimpArgs false
namespace Go.Proofs.YtdkjckiialnpnaaGreatDoor
open Go.RowKit Go.Proofs.YtdkjckiialnpnaaGreatDoor.Rx
attribute [local irreducible] lo hs sm s64 c64 d64 b64 mh ml pd pc qd qc val hiB str cmpI srD lz nb isq dval
set_option maxHeartbeats 1000000 in
set_option maxRecDepth 100000 in
theorem rzadd_same (s : Bool) (va vb : Value) (a b : Nat) (la : (td a).length ≤ 1000000) (lb : (td b).length ≤ 1000000) (w : World) (ha : Rn w va a) (hb : Rn w vb b) :
  Calls Tryz.prog 128 #[.agg #[.bool s, va], .agg #[.bool s, vb]] w fun e w' => (∃ v, e = .returned (.agg #[.bool (s && decide (a + b ≠ 0)), v]) ∧ Rn w' v (a + b)) ∧ Below w.heap.size w w' := by
 have hL0 : GL w w [] := GL.start w
 have HA := Lib.hid (fun w h1 h2 => radd_any va vb a b la lb w h1 h2)
 obtain ⟨aa, ca, rfl⟩ := ha.form
 obtain ⟨ab, cb, rfl⟩ := hb.form
 generalize (td a).length = na at *
 generalize (td b).length = nb at *
 replace hL0 := (((hL0.new rfl [.bool s, .slice aa na ca] 40).new (K := w.heap.size + 1) (szA _ _) [.bool s, .slice ab nb cb] 40).new (K := w.heap.size + 1 + 1) (by simp only [World.size_alloc]) [.bool false, .slice none 0 0] 40)
 generalize hweq : (((w.alloc (.cells #[.bool s, .slice aa na ca] 40)).alloc (.cells #[.bool s, .slice ab nb cb] 40)).alloc (.cells #[.bool false, .slice none 0 0] 40)) = x1 at hL0
 replace ha := Lib.hid (ha.below hL0.bl)
 replace hb := Lib.hid (hb.below hL0.bl)
 clear la lb
 go_enter Tryz.func128, Tryz.ntmps128
 have hA := hL0.fc
 simp only [fcG, cellsF, neK, and_true, ne_eq, Nat.zero_add, Nat.reduceAdd] at hA
 go_upto_region 2 with fail
 clear hA
 clear hweq
 refine region_tl 8 [fun u _ => u = .pointer (some ⟨w.heap.size, 0, none⟩), fun u _ => u = .bool s, fun u _ => u = .pointer (some ⟨w.heap.size, 1, none⟩), fun u _ => u = .slice aa na ca, fun u _ => u = .pointer (some ⟨w.heap.size + 1, 1, none⟩), fun u _ => u = .slice ab nb cb, fun u w => Rn w u (a + b), fun u w => ∃ v, u = .agg #[.bool (s && decide (a + b ≠ 0)), v] ∧ Rn w v (a + b)] (by kernel_rfl) (by kernel_rfl) ?_ ?_ ?_
 ·exact stays_cons (stays_eq _) (stays_cons (stays_eq _) (stays_cons (stays_eq _) (stays_cons (stays_eq _) (stays_cons (stays_eq _) (stays_cons (stays_eq _) (stays_cons (fun _ _ _ hb h => h.below hb) (stays_cons (fun _ _ _ hb ⟨v, e, h⟩ => ⟨v, e, h.below hb⟩) (stays_nil))))))))
 ·simp only [List.take_succ_cons, List.take_zero, hopsR, and_true]
  refine ⟨?_, ?_, ?_, ?_, ?_, ?_, ?_, ?_⟩ <;> intro v w1 hb1 hp
  all_goals (simp only [putsV, Act.put, List.setIfInBounds_toArray, List.set_cons_succ, List.set_cons_zero, Nat.zero_add, Nat.reduceAdd])
  ·skip
   clear hp
   have hc := (hL0.call (below_drew hb1)).fc
   simp only [fcG, cellsF, neK, and_true, ne_eq, Nat.zero_add, Nat.reduceAdd] at hc
   refine tyAt_none rfl ?_
   simp [tyUpon, execOp, go_sem, Act.eval, hc, Below.refl]
  ·skip
   have h0 : (fun u _ => u = .pointer (some ⟨w.heap.size, 0, none⟩)) (v 0) w1 := hp 0 (List.contains_iff_mem.1 (by kernel_rfl))
   clear hp
   have hc := (hL0.call (below_drew hb1)).fc
   simp only [fcG, cellsF, neK, and_true, ne_eq, Nat.zero_add, Nat.reduceAdd] at hc
   refine tyAt_none rfl ?_
   simp [tyUpon, execOp, go_sem, Act.eval, hc, h0, Below.refl]
  ·skip
   clear hp
   have hc := (hL0.call (below_drew hb1)).fc
   simp only [fcG, cellsF, neK, and_true, ne_eq, Nat.zero_add, Nat.reduceAdd] at hc
   refine tyAt_none rfl ?_
   simp [tyUpon, execOp, go_sem, Act.eval, hc, Below.refl]
  ·skip
   have h2 : (fun u _ => u = .pointer (some ⟨w.heap.size, 1, none⟩)) (v 2) w1 := hp 2 (List.contains_iff_mem.1 (by kernel_rfl))
   clear hp
   have hc := (hL0.call (below_drew hb1)).fc
   simp only [fcG, cellsF, neK, and_true, ne_eq, Nat.zero_add, Nat.reduceAdd] at hc
   refine tyAt_none rfl ?_
   simp [tyUpon, execOp, go_sem, Act.eval, hc, h2, Below.refl]
  ·skip
   clear hp
   have hc := (hL0.call (below_drew hb1)).fc
   simp only [fcG, cellsF, neK, and_true, ne_eq, Nat.zero_add, Nat.reduceAdd] at hc
   refine tyAt_none rfl ?_
   simp [tyUpon, execOp, go_sem, Act.eval, hc, Below.refl]
  ·skip
   have h4 : (fun u _ => u = .pointer (some ⟨w.heap.size + 1, 1, none⟩)) (v 4) w1 := hp 4 (List.contains_iff_mem.1 (by kernel_rfl))
   clear hp
   have hc := (hL0.call (below_drew hb1)).fc
   simp only [fcG, cellsF, neK, and_true, ne_eq, Nat.zero_add, Nat.reduceAdd] at hc
   refine tyAt_none rfl ?_
   simp [tyUpon, execOp, go_sem, Act.eval, hc, h4, Below.refl]
  ·skip
   have h3 : (fun u _ => u = .slice aa na ca) (v 3) w1 := hp 3 (List.contains_iff_mem.1 (by kernel_rfl))
   have h5 : (fun u _ => u = .slice ab nb cb) (v 5) w1 := hp 5 (List.contains_iff_mem.1 (by kernel_rfl))
   clear hp
   refine tyAt_none rfl ?_
   refine ty_call (f := 143) (args := #[.slice aa na ca, .slice ab nb cb]) (by simp [execOp, go_sem, Act.eval, h3, h5]) ?_
   exact (HA.out w1 (ha.out.below (below_drew hb1)) (hb.out.below (below_drew hb1))).mono fun e w2 ⟨v, h1, h2, h3⟩ => ⟨v, h1, h2, h3⟩
  ·skip
   have h1 : (fun u _ => u = .bool s) (v 1) w1 := hp 1 (List.contains_iff_mem.1 (by kernel_rfl))
   have h6 : (fun u w => Rn w u (a + b)) (v 6) w1 := hp 6 (List.contains_iff_mem.1 (by kernel_rfl))
   clear hp
   refine tyAt_none rfl ?_
   refine ty_call (f := 125) (args := #[.bool s, v 6]) (by simp [execOp, go_sem, Act.eval, h1]) ?_
   have hF := rfrom_any s (v 6) (a + b) w1 h6
   exact hF.mono fun e w2 ⟨h1, h2⟩ => ⟨_, h1, ⟨v 6, rfl, Sl.below h6 h2⟩, h2⟩
 ·intro v w1 hb1 hv
  obtain ⟨u, hu, hru⟩ : ∃ u, v 7 = .agg #[.bool (s && decide (a + b ≠ 0)), u] ∧ Rn w1 u (a + b) := hv 7 (by omega)
  obtain ⟨ao, c, rfl⟩ := hru.form
  generalize hd : (s && decide (a + b ≠ 0)) = d at *
  replace hd := Lib.hid hd
  generalize hk : (td (a + b)).length = k at *
  replace hk := Lib.hid hk
  clear hv
  simp only [List.take_succ_cons, List.take_zero, putsV, Act.put, List.setIfInBounds_toArray, List.set_cons_succ, List.set_cons_zero, List.drop_succ_cons, List.drop_zero, Nat.zero_add, Nat.reduceAdd, hu]
  replace hL0 := hL0.call (below_drew hb1)
  have hHd := hL0.get _ _ List.mem_cons_self
  have hA := hL0.fc
  simp only [fcG, cellsF, neK, and_true, ne_eq, Nat.zero_add, Nat.reduceAdd] at hA
  have hP := hL0.put 0 (w.heap.size + 1 + 1) _ rfl [.bool d, .slice ao k c] rfl
  simp only [setAll, List.set_cons_zero, List.set_cons_succ] at hP
  generalize hput1 : ((w1.setCell ⟨w.heap.size + 1 + 1, 0, none⟩ (.bool d)).setCell ⟨w.heap.size + 1 + 1, 1, none⟩ (.slice ao k c)) = x2 at hP
  have hB1 := hP.fc
  simp only [fcG, cellsF, neK, and_true, ne_eq, Nat.zero_add, Nat.reduceAdd] at hB1
  replace hL0 := hP
  have hvF := sl_upd hru (show Upd (w.heap.size + 1 + 1) w1 x2 by rw [← hput1]; exact ((Upd.refl _ _).setCell 0 _).setCell 1 _) hHd (by intro v hv n; simp only [List.mem_cons, List.not_mem_nil, or_false] at hv; rcases hv with rfl | rfl <;> simp)
  replace hvF := Lib.hid hvF
  clear hru hHd hb1 ha hb HA
  generalize v 0 = y0 at *
  generalize v 1 = y1 at *
  generalize v 2 = y2 at *
  generalize v 3 = y3 at *
  generalize v 4 = y4 at *
  generalize v 5 = y5 at *
  generalize v 6 = y6 at *
  clear hu v
  go_wp2_with fail
  exact bodyPost_ret (v := .agg #[.bool d, .slice ao k c]) (by simp [results, Tryz.results128, go_sem, hB1]) rfl ⟨⟨_, by rw [hd.out], hvF.out⟩, hL0.bl⟩
set_option maxHeartbeats 1000000 in
set_option maxRecDepth 100000 in
theorem rzadd_ge (s t : Bool) (va vb : Value) (a b : Nat) (la : (td a).length ≤ 1000000) (lb : (td b).length ≤ 1000000) (hne : s ≠ t) (hab : b ≤ a) (w : World) (ha : Rn w va a) (hb : Rn w vb b) :
  Calls Tryz.prog 128 #[.agg #[.bool s, va], .agg #[.bool t, vb]] w fun e w' => (∃ v, e = .returned (.agg #[.bool (s && decide (a - b ≠ 0)), v]) ∧ Rn w' v (a - b)) ∧ Below w.heap.size w w' := by
 have hL0 : GL w w [] := GL.start w
 have HA := Lib.hid (fun w h1 h2 => rsub_any va vb a b la hab w h1 h2)
 have HC := Lib.hid (fun w h1 h2 => rcmp_any va vb a b la lb w h1 h2)
 have hcg : decide (cmpI a b ≥ 0) = true := decide_eq_true (by unfold cmpI; split <;> (try split) <;> omega)
 have hcg2 : decide (0 ≤ cmpI a b) = true := decide_eq_true (by unfold cmpI; split <;> (try split) <;> omega)
 have hst : (s == t) = false := beq_eq_false_iff_ne.2 hne
 generalize cmpI a b = cz at *
 obtain ⟨aa, ca, rfl⟩ := ha.form
 obtain ⟨ab, cb, rfl⟩ := hb.form
 generalize (td a).length = na at *
 generalize (td b).length = nb at *
 replace hL0 := (((hL0.new rfl [.bool s, .slice aa na ca] 40).new (K := w.heap.size + 1) (szA _ _) [.bool t, .slice ab nb cb] 40).new (K := w.heap.size + 1 + 1) (by simp only [World.size_alloc]) [.bool false, .slice none 0 0] 40)
 generalize hweq : (((w.alloc (.cells #[.bool s, .slice aa na ca] 40)).alloc (.cells #[.bool t, .slice ab nb cb] 40)).alloc (.cells #[.bool false, .slice none 0 0] 40)) = x1 at hL0
 replace ha := Lib.hid (ha.below hL0.bl)
 replace hb := Lib.hid (hb.below hL0.bl)
 clear la lb hab hne
 go_enter Tryz.func128, Tryz.ntmps128
 have hA := hL0.fc
 simp only [fcG, cellsF, neK, and_true, ne_eq, Nat.zero_add, Nat.reduceAdd] at hA
 go_wp2_with fail
 clear hA
 with_reducible refine Calls.mono (HC.out _ ha.out hb.out) ?_
 rintro e x2 ⟨rfl, hbc⟩
 replace hL0 := hL0.call hbc
 replace ha := Lib.hid (ha.out.below hbc)
 replace hb := Lib.hid (hb.out.below hbc)
 clear hbc hweq HC
 have hA := hL0.fc
 simp only [fcG, cellsF, neK, and_true, ne_eq, Nat.zero_add, Nat.reduceAdd] at hA
 go_upto_region 4 with fail
 clear hA
 refine region_tl 8 [fun u _ => u = .pointer (some ⟨w.heap.size, 0, none⟩), fun u _ => u = .bool s, fun u _ => u = .pointer (some ⟨w.heap.size, 1, none⟩), fun u _ => u = .slice aa na ca, fun u _ => u = .pointer (some ⟨w.heap.size + 1, 1, none⟩), fun u _ => u = .slice ab nb cb, fun u w => Rn w u (a - b), fun u w => ∃ v, u = .agg #[.bool (s && decide (a - b ≠ 0)), v] ∧ Rn w v (a - b)] (by kernel_rfl) (by kernel_rfl) ?_ ?_ ?_
 ·exact stays_cons (stays_eq _) (stays_cons (stays_eq _) (stays_cons (stays_eq _) (stays_cons (stays_eq _) (stays_cons (stays_eq _) (stays_cons (stays_eq _) (stays_cons (fun _ _ _ hb h => h.below hb) (stays_cons (fun _ _ _ hb ⟨v, e, h⟩ => ⟨v, e, h.below hb⟩) (stays_nil))))))))
 ·simp only [List.take_succ_cons, List.take_zero, hopsR, and_true]
  refine ⟨?_, ?_, ?_, ?_, ?_, ?_, ?_, ?_⟩ <;> intro v w1 hb1 hp
  all_goals (simp only [putsV, Act.put, List.setIfInBounds_toArray, List.set_cons_succ, List.set_cons_zero, Nat.zero_add, Nat.reduceAdd])
  ·skip
   clear hp
   have hc := (hL0.call (below_drew hb1)).fc
   simp only [fcG, cellsF, neK, and_true, ne_eq, Nat.zero_add, Nat.reduceAdd] at hc
   refine tyAt_none rfl ?_
   simp [tyUpon, execOp, go_sem, Act.eval, hc, Below.refl]
  ·skip
   have h0 : (fun u _ => u = .pointer (some ⟨w.heap.size, 0, none⟩)) (v 0) w1 := hp 0 (List.contains_iff_mem.1 (by kernel_rfl))
   clear hp
   have hc := (hL0.call (below_drew hb1)).fc
   simp only [fcG, cellsF, neK, and_true, ne_eq, Nat.zero_add, Nat.reduceAdd] at hc
   refine tyAt_none rfl ?_
   simp [tyUpon, execOp, go_sem, Act.eval, hc, h0, Below.refl]
  ·skip
   clear hp
   have hc := (hL0.call (below_drew hb1)).fc
   simp only [fcG, cellsF, neK, and_true, ne_eq, Nat.zero_add, Nat.reduceAdd] at hc
   refine tyAt_none rfl ?_
   simp [tyUpon, execOp, go_sem, Act.eval, hc, Below.refl]
  ·skip
   have h2 : (fun u _ => u = .pointer (some ⟨w.heap.size, 1, none⟩)) (v 2) w1 := hp 2 (List.contains_iff_mem.1 (by kernel_rfl))
   clear hp
   have hc := (hL0.call (below_drew hb1)).fc
   simp only [fcG, cellsF, neK, and_true, ne_eq, Nat.zero_add, Nat.reduceAdd] at hc
   refine tyAt_none rfl ?_
   simp [tyUpon, execOp, go_sem, Act.eval, hc, h2, Below.refl]
  ·skip
   clear hp
   have hc := (hL0.call (below_drew hb1)).fc
   simp only [fcG, cellsF, neK, and_true, ne_eq, Nat.zero_add, Nat.reduceAdd] at hc
   refine tyAt_none rfl ?_
   simp [tyUpon, execOp, go_sem, Act.eval, hc, Below.refl]
  ·skip
   have h4 : (fun u _ => u = .pointer (some ⟨w.heap.size + 1, 1, none⟩)) (v 4) w1 := hp 4 (List.contains_iff_mem.1 (by kernel_rfl))
   clear hp
   have hc := (hL0.call (below_drew hb1)).fc
   simp only [fcG, cellsF, neK, and_true, ne_eq, Nat.zero_add, Nat.reduceAdd] at hc
   refine tyAt_none rfl ?_
   simp [tyUpon, execOp, go_sem, Act.eval, hc, h4, Below.refl]
  ·skip
   have h3 : (fun u _ => u = .slice aa na ca) (v 3) w1 := hp 3 (List.contains_iff_mem.1 (by kernel_rfl))
   have h5 : (fun u _ => u = .slice ab nb cb) (v 5) w1 := hp 5 (List.contains_iff_mem.1 (by kernel_rfl))
   clear hp
   refine tyAt_none rfl ?_
   refine ty_call (f := 148) (args := #[.slice aa na ca, .slice ab nb cb]) (by simp [execOp, go_sem, Act.eval, h3, h5]) ?_
   exact (HA.out w1 (ha.out.below (below_drew hb1)) (hb.out.below (below_drew hb1))).mono fun e w2 ⟨v, h1, h2, h3⟩ => ⟨v, h1, h2, h3⟩
  ·skip
   have h1 : (fun u _ => u = .bool s) (v 1) w1 := hp 1 (List.contains_iff_mem.1 (by kernel_rfl))
   have h6 : (fun u w => Rn w u (a - b)) (v 6) w1 := hp 6 (List.contains_iff_mem.1 (by kernel_rfl))
   clear hp
   refine tyAt_none rfl ?_
   refine ty_call (f := 125) (args := #[.bool s, v 6]) (by simp [execOp, go_sem, Act.eval, h1]) ?_
   have hF := rfrom_any s (v 6) (a - b) w1 h6
   exact hF.mono fun e w2 ⟨h1, h2⟩ => ⟨_, h1, ⟨v 6, rfl, Sl.below h6 h2⟩, h2⟩
 ·intro v w1 hb1 hv
  obtain ⟨u, hu, hru⟩ : ∃ u, v 7 = .agg #[.bool (s && decide (a - b ≠ 0)), u] ∧ Rn w1 u (a - b) := hv 7 (by omega)
  obtain ⟨ao, c, rfl⟩ := hru.form
  generalize hd : (s && decide (a - b ≠ 0)) = d at *
  replace hd := Lib.hid hd
  generalize hk : (td (a - b)).length = k at *
  replace hk := Lib.hid hk
  clear hv
  simp only [List.take_succ_cons, List.take_zero, putsV, Act.put, List.setIfInBounds_toArray, List.set_cons_succ, List.set_cons_zero, List.drop_succ_cons, List.drop_zero, Nat.zero_add, Nat.reduceAdd, hu]
  replace hL0 := hL0.call (below_drew hb1)
  have hHd := hL0.get _ _ List.mem_cons_self
  have hA := hL0.fc
  simp only [fcG, cellsF, neK, and_true, ne_eq, Nat.zero_add, Nat.reduceAdd] at hA
  have hP := hL0.put 0 (w.heap.size + 1 + 1) _ rfl [.bool d, .slice ao k c] rfl
  simp only [setAll, List.set_cons_zero, List.set_cons_succ] at hP
  generalize hput1 : ((w1.setCell ⟨w.heap.size + 1 + 1, 0, none⟩ (.bool d)).setCell ⟨w.heap.size + 1 + 1, 1, none⟩ (.slice ao k c)) = x3 at hP
  have hB1 := hP.fc
  simp only [fcG, cellsF, neK, and_true, ne_eq, Nat.zero_add, Nat.reduceAdd] at hB1
  replace hL0 := hP
  have hvF := sl_upd hru (show Upd (w.heap.size + 1 + 1) w1 x3 by rw [← hput1]; exact ((Upd.refl _ _).setCell 0 _).setCell 1 _) hHd (by intro v hv n; simp only [List.mem_cons, List.not_mem_nil, or_false] at hv; rcases hv with rfl | rfl <;> simp)
  replace hvF := Lib.hid hvF
  clear hru hHd hb1 ha hb HA
  generalize v 0 = y0 at *
  generalize v 1 = y1 at *
  generalize v 2 = y2 at *
  generalize v 3 = y3 at *
  generalize v 4 = y4 at *
  generalize v 5 = y5 at *
  generalize v 6 = y6 at *
  clear hu v
  go_wp2_with fail
  exact bodyPost_ret (v := .agg #[.bool d, .slice ao k c]) (by simp [results, Tryz.results128, go_sem, hB1]) rfl ⟨⟨_, by rw [hd.out], hvF.out⟩, hL0.bl⟩
set_option maxHeartbeats 1000000 in
set_option maxRecDepth 100000 in
theorem rzadd_lt (s t : Bool) (va vb : Value) (a b : Nat) (la : (td a).length ≤ 1000000) (lb : (td b).length ≤ 1000000) (hne : s ≠ t) (hab : a < b) (w : World) (ha : Rn w va a) (hb : Rn w vb b) :
  Calls Tryz.prog 128 #[.agg #[.bool s, va], .agg #[.bool t, vb]] w fun e w' => (∃ v, e = .returned (.agg #[.bool (t && decide (b - a ≠ 0)), v]) ∧ Rn w' v (b - a)) ∧ Below w.heap.size w w' := by
 have hL0 : GL w w [] := GL.start w
 have HA := Lib.hid (fun w h1 h2 => rsub_any vb va b a lb (by omega) w h1 h2)
 have HC := Lib.hid (fun w h1 h2 => rcmp_any va vb a b la lb w h1 h2)
 have hcg : decide (cmpI a b ≥ 0) = false := decide_eq_false (by unfold cmpI; split <;> (try split) <;> omega)
 have hcg2 : decide (0 ≤ cmpI a b) = false := decide_eq_false (by unfold cmpI; split <;> (try split) <;> omega)
 have hst : (s == t) = false := beq_eq_false_iff_ne.2 hne
 generalize cmpI a b = cz at *
 obtain ⟨aa, ca, rfl⟩ := ha.form
 obtain ⟨ab, cb, rfl⟩ := hb.form
 generalize (td a).length = na at *
 generalize (td b).length = nb at *
 replace hL0 := (((hL0.new rfl [.bool s, .slice aa na ca] 40).new (K := w.heap.size + 1) (szA _ _) [.bool t, .slice ab nb cb] 40).new (K := w.heap.size + 1 + 1) (by simp only [World.size_alloc]) [.bool false, .slice none 0 0] 40)
 generalize hweq : (((w.alloc (.cells #[.bool s, .slice aa na ca] 40)).alloc (.cells #[.bool t, .slice ab nb cb] 40)).alloc (.cells #[.bool false, .slice none 0 0] 40)) = x1 at hL0
 replace ha := Lib.hid (ha.below hL0.bl)
 replace hb := Lib.hid (hb.below hL0.bl)
 clear la lb hab hne
 go_enter Tryz.func128, Tryz.ntmps128
 have hA := hL0.fc
 simp only [fcG, cellsF, neK, and_true, ne_eq, Nat.zero_add, Nat.reduceAdd] at hA
 go_wp2_with fail
 clear hA
 with_reducible refine Calls.mono (HC.out _ ha.out hb.out) ?_
 rintro e x2 ⟨rfl, hbc⟩
 replace hL0 := hL0.call hbc
 replace ha := Lib.hid (ha.out.below hbc)
 replace hb := Lib.hid (hb.out.below hbc)
 clear hbc hweq HC
 have hA := hL0.fc
 simp only [fcG, cellsF, neK, and_true, ne_eq, Nat.zero_add, Nat.reduceAdd] at hA
 go_upto_region 5 with fail
 clear hA
 refine region_tl 8 [fun u _ => u = .pointer (some ⟨w.heap.size + 1, 0, none⟩), fun u _ => u = .bool t, fun u _ => u = .pointer (some ⟨w.heap.size + 1, 1, none⟩), fun u _ => u = .slice ab nb cb, fun u _ => u = .pointer (some ⟨w.heap.size, 1, none⟩), fun u _ => u = .slice aa na ca, fun u w => Rn w u (b - a), fun u w => ∃ v, u = .agg #[.bool (t && decide (b - a ≠ 0)), v] ∧ Rn w v (b - a)] (by kernel_rfl) (by kernel_rfl) ?_ ?_ ?_
 ·exact stays_cons (stays_eq _) (stays_cons (stays_eq _) (stays_cons (stays_eq _) (stays_cons (stays_eq _) (stays_cons (stays_eq _) (stays_cons (stays_eq _) (stays_cons (fun _ _ _ hb h => h.below hb) (stays_cons (fun _ _ _ hb ⟨v, e, h⟩ => ⟨v, e, h.below hb⟩) (stays_nil))))))))
 ·simp only [List.take_succ_cons, List.take_zero, hopsR, and_true]
  refine ⟨?_, ?_, ?_, ?_, ?_, ?_, ?_, ?_⟩ <;> intro v w1 hb1 hp
  all_goals (simp only [putsV, Act.put, List.setIfInBounds_toArray, List.set_cons_succ, List.set_cons_zero, Nat.zero_add, Nat.reduceAdd])
  ·skip
   clear hp
   have hc := (hL0.call (below_drew hb1)).fc
   simp only [fcG, cellsF, neK, and_true, ne_eq, Nat.zero_add, Nat.reduceAdd] at hc
   refine tyAt_none rfl ?_
   simp [tyUpon, execOp, go_sem, Act.eval, hc, Below.refl]
  ·skip
   have h0 : (fun u _ => u = .pointer (some ⟨w.heap.size + 1, 0, none⟩)) (v 0) w1 := hp 0 (List.contains_iff_mem.1 (by kernel_rfl))
   clear hp
   have hc := (hL0.call (below_drew hb1)).fc
   simp only [fcG, cellsF, neK, and_true, ne_eq, Nat.zero_add, Nat.reduceAdd] at hc
   refine tyAt_none rfl ?_
   simp [tyUpon, execOp, go_sem, Act.eval, hc, h0, Below.refl]
  ·skip
   clear hp
   have hc := (hL0.call (below_drew hb1)).fc
   simp only [fcG, cellsF, neK, and_true, ne_eq, Nat.zero_add, Nat.reduceAdd] at hc
   refine tyAt_none rfl ?_
   simp [tyUpon, execOp, go_sem, Act.eval, hc, Below.refl]
  ·skip
   have h2 : (fun u _ => u = .pointer (some ⟨w.heap.size + 1, 1, none⟩)) (v 2) w1 := hp 2 (List.contains_iff_mem.1 (by kernel_rfl))
   clear hp
   have hc := (hL0.call (below_drew hb1)).fc
   simp only [fcG, cellsF, neK, and_true, ne_eq, Nat.zero_add, Nat.reduceAdd] at hc
   refine tyAt_none rfl ?_
   simp [tyUpon, execOp, go_sem, Act.eval, hc, h2, Below.refl]
  ·skip
   clear hp
   have hc := (hL0.call (below_drew hb1)).fc
   simp only [fcG, cellsF, neK, and_true, ne_eq, Nat.zero_add, Nat.reduceAdd] at hc
   refine tyAt_none rfl ?_
   simp [tyUpon, execOp, go_sem, Act.eval, hc, Below.refl]
  ·skip
   have h4 : (fun u _ => u = .pointer (some ⟨w.heap.size, 1, none⟩)) (v 4) w1 := hp 4 (List.contains_iff_mem.1 (by kernel_rfl))
   clear hp
   have hc := (hL0.call (below_drew hb1)).fc
   simp only [fcG, cellsF, neK, and_true, ne_eq, Nat.zero_add, Nat.reduceAdd] at hc
   refine tyAt_none rfl ?_
   simp [tyUpon, execOp, go_sem, Act.eval, hc, h4, Below.refl]
  ·skip
   have h3 : (fun u _ => u = .slice ab nb cb) (v 3) w1 := hp 3 (List.contains_iff_mem.1 (by kernel_rfl))
   have h5 : (fun u _ => u = .slice aa na ca) (v 5) w1 := hp 5 (List.contains_iff_mem.1 (by kernel_rfl))
   clear hp
   refine tyAt_none rfl ?_
   refine ty_call (f := 148) (args := #[.slice ab nb cb, .slice aa na ca]) (by simp [execOp, go_sem, Act.eval, h3, h5]) ?_
   exact (HA.out w1 (hb.out.below (below_drew hb1)) (ha.out.below (below_drew hb1))).mono fun e w2 ⟨v, h1, h2, h3⟩ => ⟨v, h1, h2, h3⟩
  ·skip
   have h1 : (fun u _ => u = .bool t) (v 1) w1 := hp 1 (List.contains_iff_mem.1 (by kernel_rfl))
   have h6 : (fun u w => Rn w u (b - a)) (v 6) w1 := hp 6 (List.contains_iff_mem.1 (by kernel_rfl))
   clear hp
   refine tyAt_none rfl ?_
   refine ty_call (f := 125) (args := #[.bool t, v 6]) (by simp [execOp, go_sem, Act.eval, h1]) ?_
   have hF := rfrom_any t (v 6) (b - a) w1 h6
   exact hF.mono fun e w2 ⟨h1, h2⟩ => ⟨_, h1, ⟨v 6, rfl, Sl.below h6 h2⟩, h2⟩
 ·intro v w1 hb1 hv
  obtain ⟨u, hu, hru⟩ : ∃ u, v 7 = .agg #[.bool (t && decide (b - a ≠ 0)), u] ∧ Rn w1 u (b - a) := hv 7 (by omega)
  obtain ⟨ao, c, rfl⟩ := hru.form
  generalize hd : (t && decide (b - a ≠ 0)) = d at *
  replace hd := Lib.hid hd
  generalize hk : (td (b - a)).length = k at *
  replace hk := Lib.hid hk
  clear hv
  simp only [List.take_succ_cons, List.take_zero, putsV, Act.put, List.setIfInBounds_toArray, List.set_cons_succ, List.set_cons_zero, List.drop_succ_cons, List.drop_zero, Nat.zero_add, Nat.reduceAdd, hu]
  replace hL0 := hL0.call (below_drew hb1)
  have hHd := hL0.get _ _ List.mem_cons_self
  have hA := hL0.fc
  simp only [fcG, cellsF, neK, and_true, ne_eq, Nat.zero_add, Nat.reduceAdd] at hA
  have hP := hL0.put 0 (w.heap.size + 1 + 1) _ rfl [.bool d, .slice ao k c] rfl
  simp only [setAll, List.set_cons_zero, List.set_cons_succ] at hP
  generalize hput1 : ((w1.setCell ⟨w.heap.size + 1 + 1, 0, none⟩ (.bool d)).setCell ⟨w.heap.size + 1 + 1, 1, none⟩ (.slice ao k c)) = x3 at hP
  have hB1 := hP.fc
  simp only [fcG, cellsF, neK, and_true, ne_eq, Nat.zero_add, Nat.reduceAdd] at hB1
  replace hL0 := hP
  have hvF := sl_upd hru (show Upd (w.heap.size + 1 + 1) w1 x3 by rw [← hput1]; exact ((Upd.refl _ _).setCell 0 _).setCell 1 _) hHd (by intro v hv n; simp only [List.mem_cons, List.not_mem_nil, or_false] at hv; rcases hv with rfl | rfl <;> simp)
  replace hvF := Lib.hid hvF
  clear hru hHd hb1 ha hb HA
  generalize v 0 = y0 at *
  generalize v 1 = y1 at *
  generalize v 2 = y2 at *
  generalize v 3 = y3 at *
  generalize v 4 = y4 at *
  generalize v 5 = y5 at *
  generalize v 6 = y6 at *
  clear hu v
  go_wp2_with fail
  exact bodyPost_ret (v := .agg #[.bool d, .slice ao k c]) (by simp [results, Tryz.results128, go_sem, hB1]) rfl ⟨⟨_, by rw [hd.out], hvF.out⟩, hL0.bl⟩
set_option maxHeartbeats 1000000 in
set_option maxRecDepth 100000 in
theorem rzmul_any (s t : Bool) (va vb : Value) (a b : Nat) (la : (td a).length ≤ 1000000) (lb : (td b).length ≤ 1000000) (w : World) (ha : Rn w va a) (hb : Rn w vb b) :
  Calls Tryz.prog 178 #[.agg #[.bool s, va], .agg #[.bool t, vb]] w fun e w' => (∃ v, e = .returned (.agg #[.bool (!(s == t) && decide (a * b ≠ 0)), v]) ∧ Rn w' v (a * b)) ∧ Below w.heap.size w w' := by
 have hL0 : GL w w [] := GL.start w
 have HA := Lib.hid (fun w h1 h2 => rmul_any va vb a b la lb w h1 h2)
 obtain ⟨aa, ca, rfl⟩ := ha.form
 obtain ⟨ab, cb, rfl⟩ := hb.form
 generalize (td a).length = na at *
 generalize (td b).length = nb at *
 replace hL0 := (((hL0.new rfl [.bool s, .slice aa na ca] 40).new (K := w.heap.size + 1) (szA _ _) [.bool t, .slice ab nb cb] 40).new (K := w.heap.size + 1 + 1) (by simp only [World.size_alloc]) [.bool false, .slice none 0 0] 40)
 generalize hweq : (((w.alloc (.cells #[.bool s, .slice aa na ca] 40)).alloc (.cells #[.bool t, .slice ab nb cb] 40)).alloc (.cells #[.bool false, .slice none 0 0] 40)) = x1 at hL0
 replace ha := Lib.hid (ha.below hL0.bl)
 replace hb := Lib.hid (hb.below hL0.bl)
 clear la lb
 go_enter Tryz.func178, Tryz.ntmps178
 have hA := hL0.fc
 simp only [fcG, cellsF, neK, and_true, ne_eq, Nat.zero_add, Nat.reduceAdd] at hA
 go_upto_region 1 with fail
 clear hA
 clear hweq
 refine region_tl 11 [fun u _ => u = .pointer (some ⟨w.heap.size, 0, none⟩), fun u _ => u = .bool s, fun u _ => u = .pointer (some ⟨w.heap.size + 1, 0, none⟩), fun u _ => u = .bool t, fun u _ => u = .bool (!(s == t)), fun u _ => u = .pointer (some ⟨w.heap.size, 1, none⟩), fun u _ => u = .slice aa na ca, fun u _ => u = .pointer (some ⟨w.heap.size + 1, 1, none⟩), fun u _ => u = .slice ab nb cb, fun u w => Rn w u (a * b), fun u w => ∃ v, u = .agg #[.bool (!(s == t) && decide (a * b ≠ 0)), v] ∧ Rn w v (a * b)] (by kernel_rfl) (by kernel_rfl) ?_ ?_ ?_
 ·exact stays_cons (stays_eq _) (stays_cons (stays_eq _) (stays_cons (stays_eq _) (stays_cons (stays_eq _) (stays_cons (stays_eq _) (stays_cons (stays_eq _) (stays_cons (stays_eq _) (stays_cons (stays_eq _) (stays_cons (stays_eq _) (stays_cons (fun _ _ _ hb h => h.below hb) (stays_cons (fun _ _ _ hb ⟨v, e, h⟩ => ⟨v, e, h.below hb⟩) (stays_nil)))))))))))
 ·simp only [List.take_succ_cons, List.take_zero, hopsR, and_true]
  refine ⟨?_, ?_, ?_, ?_, ?_, ?_, ?_, ?_, ?_, ?_, ?_⟩ <;> intro v w1 hb1 hp
  all_goals (simp only [putsV, Act.put, List.setIfInBounds_toArray, List.set_cons_succ, List.set_cons_zero, Nat.zero_add, Nat.reduceAdd])
  ·skip
   clear hp
   have hc := (hL0.call (below_drew hb1)).fc
   simp only [fcG, cellsF, neK, and_true, ne_eq, Nat.zero_add, Nat.reduceAdd] at hc
   refine tyAt_none rfl ?_
   simp [tyUpon, execOp, go_sem, Act.eval, hc, Below.refl]
  ·skip
   have h0 : (fun u _ => u = .pointer (some ⟨w.heap.size, 0, none⟩)) (v 0) w1 := hp 0 (List.contains_iff_mem.1 (by kernel_rfl))
   clear hp
   have hc := (hL0.call (below_drew hb1)).fc
   simp only [fcG, cellsF, neK, and_true, ne_eq, Nat.zero_add, Nat.reduceAdd] at hc
   refine tyAt_none rfl ?_
   simp [tyUpon, execOp, go_sem, Act.eval, hc, h0, Below.refl]
  ·skip
   clear hp
   have hc := (hL0.call (below_drew hb1)).fc
   simp only [fcG, cellsF, neK, and_true, ne_eq, Nat.zero_add, Nat.reduceAdd] at hc
   refine tyAt_none rfl ?_
   simp [tyUpon, execOp, go_sem, Act.eval, hc, Below.refl]
  ·skip
   have h2 : (fun u _ => u = .pointer (some ⟨w.heap.size + 1, 0, none⟩)) (v 2) w1 := hp 2 (List.contains_iff_mem.1 (by kernel_rfl))
   clear hp
   have hc := (hL0.call (below_drew hb1)).fc
   simp only [fcG, cellsF, neK, and_true, ne_eq, Nat.zero_add, Nat.reduceAdd] at hc
   refine tyAt_none rfl ?_
   simp [tyUpon, execOp, go_sem, Act.eval, hc, h2, Below.refl]
  ·skip
   have h1 : (fun u _ => u = .bool s) (v 1) w1 := hp 1 (List.contains_iff_mem.1 (by kernel_rfl))
   have h3 : (fun u _ => u = .bool t) (v 3) w1 := hp 3 (List.contains_iff_mem.1 (by kernel_rfl))
   clear hp
   have hc := (hL0.call (below_drew hb1)).fc
   simp only [fcG, cellsF, neK, and_true, ne_eq, Nat.zero_add, Nat.reduceAdd] at hc
   refine tyAt_none rfl ?_
   simp [tyUpon, execOp, go_sem, Act.eval, hc, h1, h3, Below.refl]
  ·skip
   clear hp
   have hc := (hL0.call (below_drew hb1)).fc
   simp only [fcG, cellsF, neK, and_true, ne_eq, Nat.zero_add, Nat.reduceAdd] at hc
   refine tyAt_none rfl ?_
   simp [tyUpon, execOp, go_sem, Act.eval, hc, Below.refl]
  ·skip
   have h5 : (fun u _ => u = .pointer (some ⟨w.heap.size, 1, none⟩)) (v 5) w1 := hp 5 (List.contains_iff_mem.1 (by kernel_rfl))
   clear hp
   have hc := (hL0.call (below_drew hb1)).fc
   simp only [fcG, cellsF, neK, and_true, ne_eq, Nat.zero_add, Nat.reduceAdd] at hc
   refine tyAt_none rfl ?_
   simp [tyUpon, execOp, go_sem, Act.eval, hc, h5, Below.refl]
  ·skip
   clear hp
   have hc := (hL0.call (below_drew hb1)).fc
   simp only [fcG, cellsF, neK, and_true, ne_eq, Nat.zero_add, Nat.reduceAdd] at hc
   refine tyAt_none rfl ?_
   simp [tyUpon, execOp, go_sem, Act.eval, hc, Below.refl]
  ·skip
   have h7 : (fun u _ => u = .pointer (some ⟨w.heap.size + 1, 1, none⟩)) (v 7) w1 := hp 7 (List.contains_iff_mem.1 (by kernel_rfl))
   clear hp
   have hc := (hL0.call (below_drew hb1)).fc
   simp only [fcG, cellsF, neK, and_true, ne_eq, Nat.zero_add, Nat.reduceAdd] at hc
   refine tyAt_none rfl ?_
   simp [tyUpon, execOp, go_sem, Act.eval, hc, h7, Below.refl]
  ·skip
   have h6 : (fun u _ => u = .slice aa na ca) (v 6) w1 := hp 6 (List.contains_iff_mem.1 (by kernel_rfl))
   have h8 : (fun u _ => u = .slice ab nb cb) (v 8) w1 := hp 8 (List.contains_iff_mem.1 (by kernel_rfl))
   clear hp
   refine tyAt_none rfl ?_
   refine ty_call (f := 68) (args := #[.slice aa na ca, .slice ab nb cb]) (by simp [execOp, go_sem, Act.eval, h6, h8]) ?_
   exact (HA.out w1 (ha.out.below (below_drew hb1)) (hb.out.below (below_drew hb1))).mono fun e w2 ⟨v, h1, h2, h3⟩ => ⟨v, h1, h2, h3⟩
  ·skip
   have h4 : (fun u _ => u = .bool (!(s == t))) (v 4) w1 := hp 4 (List.contains_iff_mem.1 (by kernel_rfl))
   have h9 : (fun u w => Rn w u (a * b)) (v 9) w1 := hp 9 (List.contains_iff_mem.1 (by kernel_rfl))
   clear hp
   refine tyAt_none rfl ?_
   refine ty_call (f := 125) (args := #[.bool (!(s == t)), v 9]) (by simp [execOp, go_sem, Act.eval, h4]) ?_
   have hF := rfrom_any (!(s == t)) (v 9) (a * b) w1 h9
   exact hF.mono fun e w2 ⟨h1, h2⟩ => ⟨_, h1, ⟨v 9, rfl, Sl.below h9 h2⟩, h2⟩
 ·intro v w1 hb1 hv
  obtain ⟨u, hu, hru⟩ : ∃ u, v 10 = .agg #[.bool (!(s == t) && decide (a * b ≠ 0)), u] ∧ Rn w1 u (a * b) := hv 10 (by omega)
  obtain ⟨ao, c, rfl⟩ := hru.form
  generalize hd : (!(s == t) && decide (a * b ≠ 0)) = d at *
  replace hd := Lib.hid hd
  generalize hk : (td (a * b)).length = k at *
  replace hk := Lib.hid hk
  clear hv
  simp only [List.take_succ_cons, List.take_zero, putsV, Act.put, List.setIfInBounds_toArray, List.set_cons_succ, List.set_cons_zero, List.drop_succ_cons, List.drop_zero, Nat.zero_add, Nat.reduceAdd, hu]
  replace hL0 := hL0.call (below_drew hb1)
  have hHd := hL0.get _ _ List.mem_cons_self
  have hA := hL0.fc
  simp only [fcG, cellsF, neK, and_true, ne_eq, Nat.zero_add, Nat.reduceAdd] at hA
  have hP := hL0.put 0 (w.heap.size + 1 + 1) _ rfl [.bool d, .slice ao k c] rfl
  simp only [setAll, List.set_cons_zero, List.set_cons_succ] at hP
  generalize hput1 : ((w1.setCell ⟨w.heap.size + 1 + 1, 0, none⟩ (.bool d)).setCell ⟨w.heap.size + 1 + 1, 1, none⟩ (.slice ao k c)) = x2 at hP
  have hB1 := hP.fc
  simp only [fcG, cellsF, neK, and_true, ne_eq, Nat.zero_add, Nat.reduceAdd] at hB1
  replace hL0 := hP
  have hvF := sl_upd hru (show Upd (w.heap.size + 1 + 1) w1 x2 by rw [← hput1]; exact ((Upd.refl _ _).setCell 0 _).setCell 1 _) hHd (by intro v hv n; simp only [List.mem_cons, List.not_mem_nil, or_false] at hv; rcases hv with rfl | rfl <;> simp)
  replace hvF := Lib.hid hvF
  clear hru hHd hb1 ha hb HA
  generalize v 0 = y0 at *
  generalize v 1 = y1 at *
  generalize v 2 = y2 at *
  generalize v 3 = y3 at *
  generalize v 4 = y4 at *
  generalize v 5 = y5 at *
  generalize v 6 = y6 at *
  generalize v 7 = y7 at *
  generalize v 8 = y8 at *
  generalize v 9 = y9 at *
  clear hu v
  go_wp2_with fail
  exact bodyPost_ret (v := .agg #[.bool d, .slice ao k c]) (by simp [results, Tryz.results178, go_sem, hB1]) rfl ⟨⟨_, by rw [hd.out], hvF.out⟩, hL0.bl⟩
set_option maxHeartbeats 1000000 in
set_option maxRecDepth 100000 in
theorem rzneg_any (s : Bool) (va : Value) (a : Nat) (w : World) (ha : Rn w va a) :
  Calls Tryz.prog 221 #[.agg #[.bool s, va]] w fun e w' => e = .returned (.agg #[.bool (!s && decide (a ≠ 0)), va]) ∧ Below w.heap.size w w' := by
 have hL0 : GL w w [] := GL.start w
 have HF := Lib.hid (fun w h => rfrom_any (!s) va a w h)
 generalize hd : (!s && decide (a ≠ 0)) = d at *
 obtain ⟨aa, ca, rfl⟩ := ha.form
 generalize (td a).length = na at *
 replace hL0 := ((hL0.new rfl [.bool s, .slice aa na ca] 40).new (K := w.heap.size + 1) (szA _ _) [.bool false, .slice none 0 0] 40)
 generalize hweq : ((w.alloc (.cells #[.bool s, .slice aa na ca] 40)).alloc (.cells #[.bool false, .slice none 0 0] 40)) = x1 at hL0
 replace ha := Lib.hid (ha.below hL0.bl)
 clear hd
 go_enter Tryz.func221, Tryz.ntmps221
 have hA := hL0.fc
 simp only [fcG, cellsF, neK, and_true, ne_eq, Nat.zero_add, Nat.reduceAdd] at hA
 go_wp2_with fail
 clear hA
 with_reducible refine Calls.mono (HF.out _ ha.out) ?_
 rintro e x2 ⟨rfl, hb⟩
 replace hL0 := hL0.call hb
 clear hb hweq
 have hA := hL0.fc
 simp only [fcG, cellsF, neK, and_true, ne_eq, Nat.zero_add, Nat.reduceAdd] at hA
 have hP := hL0.put 0 (w.heap.size + 1) _ rfl [.bool d, .slice aa na ca] rfl
 simp only [setAll, List.set_cons_zero, List.set_cons_succ] at hP
 generalize hput1 : ((x2.setCell ⟨w.heap.size + 1, 0, none⟩ (.bool d)).setCell ⟨w.heap.size + 1, 1, none⟩ (.slice aa na ca)) = x3 at hP
 have hB1 := hP.fc
 simp only [fcG, cellsF, neK, and_true, ne_eq, Nat.zero_add, Nat.reduceAdd] at hB1
 replace hL0 := hP
 go_wp2_with fail
 exact bodyPost_ret (v := .agg #[.bool d, .slice aa na ca]) (by simp [results, Tryz.results221, go_sem, hB1]) rfl ⟨rfl, hL0.bl⟩
set_option maxHeartbeats 1000000 in
set_option maxRecDepth 100000 in
theorem rzsign_zero (s : Bool) (a : Option Addr) (n c : Nat) (h : n = 0) (w : World) :
  Calls Tryz.prog 192 #[.agg #[.bool s, .slice a n c]] w fun e w' => e = .returned (.int .i64 0) ∧ Below w.heap.size w w' := by
 have hL0 : GL w w [] := GL.start w
 subst h
 replace hL0 := (hL0.new rfl [.bool s, .slice a 0 c] 40)
 generalize hweq : (w.alloc (.cells #[.bool s, .slice a 0 c] 40)) = x1 at hL0
 go_enter Tryz.func192, Tryz.ntmps192
 have hA := hL0.fc
 simp only [fcG, cellsF, neK, and_true, ne_eq, Nat.zero_add, Nat.reduceAdd] at hA
 go_wp2_with fail
 exact bodyPost_ret (v := .int .i64 0) (by simp [results, Tryz.results192, go_sem, hA]) rfl ⟨rfl, hL0.bl⟩
set_option maxHeartbeats 1000000 in
set_option maxRecDepth 100000 in
theorem rzsign_neg (a : Option Addr) (n c : Nat) (h : 0 < n) (w : World) :
  Calls Tryz.prog 192 #[.agg #[.bool true, .slice a n c]] w fun e w' => e = .returned (.int .i64 (-1)) ∧ Below w.heap.size w w' := by
 have hL0 : GL w w [] := GL.start w
 have f1 : (((n : Nat) : Int) == 0) = false := beq_eq_false_iff_ne.2 (by omega)
 have f2 : decide (n = 0) = false := decide_eq_false (by omega)
 clear h
 replace hL0 := (hL0.new rfl [.bool true, .slice a n c] 40)
 generalize hweq : (w.alloc (.cells #[.bool true, .slice a n c] 40)) = x1 at hL0
 go_enter Tryz.func192, Tryz.ntmps192
 have hA := hL0.fc
 simp only [fcG, cellsF, neK, and_true, ne_eq, Nat.zero_add, Nat.reduceAdd] at hA
 go_wp2_with fail
 exact bodyPost_ret (v := .int .i64 (-1)) (by simp [results, Tryz.results192, go_sem, hA]) rfl ⟨rfl, hL0.bl⟩
set_option maxHeartbeats 1000000 in
set_option maxRecDepth 100000 in
theorem rzsign_pos (a : Option Addr) (n c : Nat) (h : 0 < n) (w : World) :
  Calls Tryz.prog 192 #[.agg #[.bool false, .slice a n c]] w fun e w' => e = .returned (.int .i64 1) ∧ Below w.heap.size w w' := by
 have hL0 : GL w w [] := GL.start w
 have f1 : (((n : Nat) : Int) == 0) = false := beq_eq_false_iff_ne.2 (by omega)
 have f2 : decide (n = 0) = false := decide_eq_false (by omega)
 clear h
 replace hL0 := (hL0.new rfl [.bool false, .slice a n c] 40)
 generalize hweq : (w.alloc (.cells #[.bool false, .slice a n c] 40)) = x1 at hL0
 go_enter Tryz.func192, Tryz.ntmps192
 have hA := hL0.fc
 simp only [fcG, cellsF, neK, and_true, ne_eq, Nat.zero_add, Nat.reduceAdd] at hA
 go_wp2_with fail
 exact bodyPost_ret (v := .int .i64 1) (by simp [results, Tryz.results192, go_sem, hA]) rfl ⟨rfl, hL0.bl⟩
end Go.Proofs.YtdkjckiialnpnaaGreatDoor
namespace Go.Proofs.YtdkjckiialnpnaaGreatDoor
open Go.RowKit Go.Proofs.YtdkjckiialnpnaaGreatDoor.Rx
/-- A struct of the reference that stands for an integer. -/
def RZ (w : World) (v : Value) (z : Int) : Prop := ∃ u, v = .agg #[.bool (decide (z < 0)), u] ∧ Rn w u z.natAbs
theorem RZ.below {w w' : World} {v : Value} {z : Int} (h : RZ w v z) (hb : Below w.heap.size w w') : RZ w' v z := by
 obtain ⟨u, h1, h2⟩ := h
 exact ⟨u, h1, Sl.below h2 hb⟩
theorem RZ.of {w : World} {b : Bool} {u : Value} {n : Nat} {z : Int} (h : Rn w u n) (hb : b = decide (z < 0)) (hn : n = z.natAbs) : RZ w (.agg #[.bool b, u]) z := ⟨u, by rw [hb], by rw [← hn]; exact h⟩
theorem rzaddI (vx vy : Value) (x y : Int) (lx : (td x.natAbs).length ≤ 1000000) (ly : (td y.natAbs).length ≤ 1000000) (w : World) (hx : RZ w vx x) (hy : RZ w vy y) :
  Calls Tryz.prog 128 #[vx, vy] w fun e w' => ∃ v, e = .returned v ∧ RZ w' v (x + y) ∧ Below w.heap.size w w' := by
 obtain ⟨va, rfl, ha⟩ := hx
 obtain ⟨vb, rfl, hb⟩ := hy
 by_cases hs : decide (x < 0) = decide (y < 0)
 ·have hxy : x < 0 ↔ y < 0 := by simpa using hs
  rw [← hs]
  refine (rzadd_same _ va vb _ _ lx ly w ha hb).mono fun e w' ⟨⟨v, h1, h2⟩, h3⟩ => ⟨_, h1, RZ.of h2 ?_ ?_, h3⟩
  ·by_cases h0 : x < 0
   ·rw [decide_eq_true h0, decide_eq_true (p := x + y < 0) (by omega), Bool.true_and]; exact decide_eq_true (by omega)
   ·rw [decide_eq_false h0, Bool.false_and]; exact (decide_eq_false (by omega)).symm
  ·omega
 ·have hxy : ¬ (x < 0 ↔ y < 0) := fun h => hs (by simpa using h)
  rcases Nat.lt_or_ge x.natAbs y.natAbs with hl | hl
  ·refine (rzadd_lt _ _ va vb _ _ lx ly hs hl w ha hb).mono fun e w' ⟨⟨v, h1, h2⟩, h3⟩ => ⟨_, h1, RZ.of h2 ?_ ?_, h3⟩
   ·by_cases h0 : y < 0
    ·rw [decide_eq_true h0, decide_eq_true (p := x + y < 0) (by omega), Bool.true_and]; exact decide_eq_true (by omega)
    ·rw [decide_eq_false h0, Bool.false_and]; exact (decide_eq_false (by omega)).symm
   ·omega
  ·refine (rzadd_ge _ _ va vb _ _ lx ly hs hl w ha hb).mono fun e w' ⟨⟨v, h1, h2⟩, h3⟩ => ⟨_, h1, RZ.of h2 ?_ ?_, h3⟩
   ·by_cases h0 : x < 0
    ·rw [decide_eq_true h0, Bool.true_and]
     by_cases h4 : x + y < 0
     ·rw [decide_eq_true h4]; exact decide_eq_true (by omega)
     ·rw [decide_eq_false h4]; exact decide_eq_false (by omega)
    ·rw [decide_eq_false h0, Bool.false_and]; exact (decide_eq_false (by omega)).symm
   ·omega
theorem rzmulI (vx vy : Value) (x y : Int) (lx : (td x.natAbs).length ≤ 1000000) (ly : (td y.natAbs).length ≤ 1000000) (w : World) (hx : RZ w vx x) (hy : RZ w vy y) :
  Calls Tryz.prog 178 #[vx, vy] w fun e w' => ∃ v, e = .returned v ∧ RZ w' v (x * y) ∧ Below w.heap.size w w' := by
 obtain ⟨va, rfl, ha⟩ := hx
 obtain ⟨vb, rfl, hb⟩ := hy
 refine (rzmul_any _ _ va vb _ _ lx ly w ha hb).mono fun e w' ⟨⟨v, h1, h2⟩, h3⟩ => ⟨_, h1, RZ.of h2 ?_ (Int.natAbs_mul x y).symm, h3⟩
 rcases Int.lt_trichotomy x 0 with h | h | h <;> rcases Int.lt_trichotomy y 0 with g | g | g
 ·have := Int.mul_pos_of_neg_of_neg h g
  rw [decide_eq_true h, decide_eq_true g, decide_eq_false (p := x * y < 0) (by omega)]; rfl
 ·subst g; simp
 ·have := Int.mul_neg_of_neg_of_pos h g
  have hn : x.natAbs * y.natAbs ≠ 0 := Nat.mul_ne_zero (by omega) (by omega)
  rw [decide_eq_true h, decide_eq_false (p := y < 0) (by omega), decide_eq_true this, decide_eq_true hn]; rfl
 ·subst h; simp
 ·subst h; simp
 ·subst h; simp
 ·have := Int.mul_neg_of_pos_of_neg h g
  have hn : x.natAbs * y.natAbs ≠ 0 := Nat.mul_ne_zero (by omega) (by omega)
  rw [decide_eq_false (p := x < 0) (by omega), decide_eq_true g, decide_eq_true this, decide_eq_true hn]; rfl
 ·subst g; simp
 ·have := Int.mul_pos h g
  rw [decide_eq_false (p := x < 0) (by omega), decide_eq_false (p := y < 0) (by omega), decide_eq_false (p := x * y < 0) (by omega)]; rfl
theorem rznegI (vx : Value) (x : Int) (w : World) (hx : RZ w vx x) :
  Calls Tryz.prog 221 #[vx] w fun e w' => ∃ v, e = .returned v ∧ RZ w' v (-x) ∧ Below w.heap.size w w' := by
 obtain ⟨va, rfl, ha⟩ := hx
 refine (rzneg_any _ va _ w ha).mono fun e w' ⟨h1, h3⟩ => ⟨_, h1, RZ.of (Sl.below ha h3) ?_ (Int.natAbs_neg x).symm, h3⟩
 by_cases h : x < 0
 ·rw [decide_eq_true h, decide_eq_false (p := -x < 0) (by omega)]; rfl
 ·rw [decide_eq_false h, Bool.not_false, Bool.true_and]
  by_cases h0 : x = 0
  ·subst h0; rfl
  ·rw [decide_eq_true (p := -x < 0) (by omega)]; exact decide_eq_true (by omega)
end Go.Proofs.YtdkjckiialnpnaaGreatDoor
namespace Go.Proofs.YtdkjckiialnpnaaGreatDoor
open Go.RowKit Go.Proofs.YtdkjckiialnpnaaGreatDoor.Rx
attribute [local irreducible] lo hs sm s64 c64 d64 b64 mh ml pd pc qd qc val hiB str cmpI srD lz nb isq dval
set_option maxHeartbeats 600000 in
set_option maxRecDepth 100000 in
theorem rzsubI (vx vy : Value) (x y : Int) (lx : (td x.natAbs).length ≤ 1000000) (ly : (td y.natAbs).length ≤ 1000000) (w : World) (hx : RZ w vx x) (hy : RZ w vy y) :
  Calls Tryz.prog 193 #[vx, vy] w fun e w' => ∃ v, e = .returned v ∧ RZ w' v (x - y) ∧ Below w.heap.size w w' := by
 have hL0 : GL w w [] := GL.start w
 have HN := Lib.hid (fun w h => rznegI vy y w h)
 have HA := Lib.hid (fun vz w h1 h2 => rzaddI vx vz x (-y) lx (by rw [Int.natAbs_neg]; exact ly) w h1 h2)
 clear lx ly
 obtain ⟨ua, e1, ha⟩ := hx
 obtain ⟨ub, e2, hb⟩ := hy
 obtain ⟨aa, ca, rfl⟩ := ha.form
 obtain ⟨ab, cb, rfl⟩ := hb.form
 generalize (td x.natAbs).length = na at *
 generalize (td y.natAbs).length = nb at *
 subst e1 e2
 have hx : RZ w (.agg #[.bool (decide (x < 0)), .slice aa na ca]) x := ⟨_, rfl, ha⟩
 have hy : RZ w (.agg #[.bool (decide (y < 0)), .slice ab nb cb]) y := ⟨_, rfl, hb⟩
 generalize decide (x < 0) = s at *
 generalize decide (y < 0) = t at *
 clear ha hb
 replace hL0 := (((hL0.new rfl [.bool s, .slice aa na ca] 40).new (K := w.heap.size + 1) (szA _ _) [.bool t, .slice ab nb cb] 40).new (K := w.heap.size + 1 + 1) (by simp only [World.size_alloc]) [.bool false, .slice none 0 0] 40)
 generalize hweq : (((w.alloc (.cells #[.bool s, .slice aa na ca] 40)).alloc (.cells #[.bool t, .slice ab nb cb] 40)).alloc (.cells #[.bool false, .slice none 0 0] 40)) = x1 at hL0
 replace hx := Lib.hid (hx.below hL0.bl)
 replace hy := Lib.hid (hy.below hL0.bl)
 go_enter Tryz.func193, Tryz.ntmps193
 have hA := hL0.fc
 simp only [fcG, cellsF, neK, and_true, ne_eq, Nat.zero_add, Nat.reduceAdd] at hA
 go_upto_region 1 with fail
 clear hA
 clear hweq
 refine region_tl 4 [fun u _ => u = .agg #[.bool s, .slice aa na ca], fun u _ => u = .agg #[.bool t, .slice ab nb cb], fun u w => RZ w u (-y), fun u w => RZ w u (x - y)] (by kernel_rfl) (by kernel_rfl) ?_ ?_ ?_
 ·exact stays_cons (stays_eq _) (stays_cons (stays_eq _) (stays_cons (fun _ _ _ hb h => h.below hb) (stays_cons (fun _ _ _ hb h => h.below hb) (stays_nil))))
 ·simp only [List.take_succ_cons, List.take_zero, hopsR, and_true]
  refine ⟨?_, ?_, ?_, ?_⟩ <;> intro v w1 hb1 hp
  all_goals (simp only [putsV, Act.put, List.setIfInBounds_toArray, List.set_cons_succ, List.set_cons_zero, Nat.zero_add, Nat.reduceAdd])
  ·skip
   clear hp
   have hc := (hL0.call (below_drew hb1)).fc
   simp only [fcG, cellsF, neK, and_true, ne_eq, Nat.zero_add, Nat.reduceAdd] at hc
   refine tyAt_none rfl ?_
   simp [tyUpon, execOp, go_sem, Act.eval, hc, Below.refl]
  ·skip
   clear hp
   have hc := (hL0.call (below_drew hb1)).fc
   simp only [fcG, cellsF, neK, and_true, ne_eq, Nat.zero_add, Nat.reduceAdd] at hc
   refine tyAt_none rfl ?_
   simp [tyUpon, execOp, go_sem, Act.eval, hc, Below.refl]
  ·skip
   have h1 : (fun u _ => u = .agg #[.bool t, .slice ab nb cb]) (v 1) w1 := hp 1 (List.contains_iff_mem.1 (by kernel_rfl))
   clear hp
   refine tyAt_none rfl ?_
   refine ty_call (f := 221) (args := #[.agg #[.bool t, .slice ab nb cb]]) (by simp [execOp, go_sem, Act.eval, h1]) ?_
   exact (HN.out w1 (hy.out.below (below_drew hb1))).mono fun e w2 h => h
  ·skip
   have h0 : (fun u _ => u = .agg #[.bool s, .slice aa na ca]) (v 0) w1 := hp 0 (List.contains_iff_mem.1 (by kernel_rfl))
   have h2 : (fun u w => RZ w u (-y)) (v 2) w1 := hp 2 (List.contains_iff_mem.1 (by kernel_rfl))
   clear hp
   refine tyAt_none rfl ?_
   refine ty_call (f := 128) (args := #[.agg #[.bool s, .slice aa na ca], v 2]) (by simp [execOp, go_sem, Act.eval, h0]) ?_
   have hF := HA.out (v 2) w1 (hx.out.below (below_drew hb1)) h2
   rw [← Int.sub_eq_add_neg] at hF
   exact hF
 ·intro v w1 hb1 hv
  obtain ⟨u, hu, hru⟩ : RZ w1 (v 3) (x - y) := hv 3 (by omega)
  obtain ⟨ao, c, rfl⟩ := hru.form
  generalize hk : (td (x - y).natAbs).length = k at *
  replace hk := Lib.hid hk
  generalize hd : decide (x - y < 0) = d at *
  replace hd := Lib.hid hd
  clear hv
  simp only [List.take_succ_cons, List.take_zero, putsV, Act.put, List.setIfInBounds_toArray, List.set_cons_succ, List.set_cons_zero, List.drop_succ_cons, List.drop_zero, Nat.zero_add, Nat.reduceAdd, hu]
  replace hL0 := hL0.call (below_drew hb1)
  have hHd := hL0.get _ _ List.mem_cons_self
  have hA := hL0.fc
  simp only [fcG, cellsF, neK, and_true, ne_eq, Nat.zero_add, Nat.reduceAdd] at hA
  have hP := hL0.put 0 (w.heap.size + 1 + 1) _ rfl [.bool d, .slice ao k c] rfl
  simp only [setAll, List.set_cons_zero, List.set_cons_succ] at hP
  generalize hput1 : ((w1.setCell ⟨w.heap.size + 1 + 1, 0, none⟩ (.bool d)).setCell ⟨w.heap.size + 1 + 1, 1, none⟩ (.slice ao k c)) = x2 at hP
  have hB1 := hP.fc
  simp only [fcG, cellsF, neK, and_true, ne_eq, Nat.zero_add, Nat.reduceAdd] at hB1
  replace hL0 := hP
  have hvF := sl_upd hru (show Upd (w.heap.size + 1 + 1) w1 x2 by rw [← hput1]; exact ((Upd.refl _ _).setCell 0 _).setCell 1 _) hHd (by intro v hv n; simp only [List.mem_cons, List.not_mem_nil, or_false] at hv; rcases hv with rfl | rfl <;> simp)
  replace hvF := Lib.hid hvF
  clear hru hHd hb1 hx hy HA HN
  generalize v 0 = y0 at *
  generalize v 1 = y1 at *
  generalize v 2 = y2 at *
  clear hu v
  go_wp2_with fail
  exact bodyPost_ret (v := .agg #[.bool d, .slice ao k c]) (by simp [results, Tryz.results193, go_sem, hB1]) rfl ⟨_, rfl, ⟨_, by rw [hd.out], hvF.out⟩, hL0.bl⟩
end Go.Proofs.YtdkjckiialnpnaaGreatDoor
namespace Go.Proofs.YtdkjckiialnpnaaGreatDoor
open Go.RowKit
section
variable {P : Program} {ops : Array Oper} {C : World → Prop}
theorem alloc_run {P : Program} {o : Oper} {ev : Operand → Value} {e t : TypeId} {c : Array Value} (he : o.op = .alloc e) (h : ∀ w, (Instr.alloc e true (.tuple #[])).run P w = .ok (.pointer (some ⟨w.heap.size, 0, none⟩)) (w.alloc (.cells c t))) (w : World) :
  (execOp ev o).run P w = .ok (.value (.pointer (some ⟨w.heap.size, 0, none⟩))) (w.alloc (.cells c t)) := by
 simp only [execOp, he]
 rw [Sem.run_bind, h w]
 rfl
/-- What the operations that make boxes do. -/
def newR (P : Program) (l : List Oper) : List Nat → Prop
 | [] => True
 | j :: A => (∃ o e c t, l[j]? = some o ∧ o.guard = none ∧ o.op = .alloc e ∧ ∀ w, (Instr.alloc e true (.tuple #[])).run P w = .ok (.pointer (some ⟨w.heap.size, 0, none⟩)) (w.alloc (.cells c t))) ∧ newR P l A
theorem newR_spec {P : Program} {l : List Oper} : ∀ {A : List Nat}, newR P l A → ∀ j o, l[j]? = some o → A.contains j = true → o.guard = none ∧ ∃ e c t, o.op = .alloc e ∧ ∀ w, (Instr.alloc e true (.tuple #[])).run P w = .ok (.pointer (some ⟨w.heap.size, 0, none⟩)) (w.alloc (.cells c t))
 | [], _, _, _, _, hA => by simp at hA
 | k :: A, h, j, o, ho, hA => by
  obtain ⟨⟨o', e, c, t, h1, h2, h3, h4⟩, hr⟩ := h
  rcases List.mem_cons.1 (List.contains_iff_mem.1 hA) with e1 | e1
  ·subst e1
   rw [ho] at h1
   obtain rfl := Option.some.inj h1
   exact ⟨h2, e, c, t, h3, h4⟩
  ·exact newR_spec hr j o ho (List.contains_iff_mem.2 e1)
theorem wpAny_ta {n s : Nat} {l : List Oper} {T : Nat → Value → World → Prop} {w0 : World} {a0 : Act} {Q : Exit → Act → World → Prop} {A : Nat → Bool} (hT : ∀ i, Stays (T i)) (hsel : Region.noSelect l.toArray = true) (hn : n ≤ l.length)
  (hB : barB .any l.toArray n = true) (hN : nodupD (l.take n) = true) (hD : depB l.toArray n = true)
  (hops : ∀ j o, j < n → l[j]? = some o → ∀ v w, Below w0.heap.size w0 w → (∀ p ∈ predsOf .any l.toArray j, T p (v p) w) → TyAt P l.toArray o (putsV (l.take n) 0 v a0) w (T j))
  (hptr : ∀ j, A j = true → ∀ u w, T j u w → ∃ k, u = .pointer (some ⟨k, 0, none⟩) ∧ k < w.heap.size)
  (hnew : ∀ j o, l[j]? = some o → A j = true → o.guard = none ∧ ∃ e c t, o.op = .alloc e ∧ ∀ w, (Instr.alloc e true (.tuple #[])).run P w = .ok (.pointer (some ⟨w.heap.size, 0, none⟩)) (w.alloc (.cells c t)))
  (hend : ∀ v w, Below w0.heap.size w0 w → (∀ i, i < n → T i (v i) w) → (∀ i j, i < n → j < n → i ≠ j → A i = true → A j = true → v i ≠ v j) → wpAny P .any l.toArray Q s (canonL l.length n) (putsV (l.take n) 0 v a0) w) :
  ∀ (m : Nat) (listed : Array Bool) (v : Nat → Value) (w : World), left n listed = m → closedL .any l.toArray listed → sufL n l.toArray listed → Below w0.heap.size w0 w →
   (∀ i, i < n → listed.getD i false = true → T i (v i) w) → (∀ i j, i < n → j < n → i ≠ j → A i = true → A j = true → listed.getD i false = true → listed.getD j false = true → v i ≠ v j) → wpAny P .any l.toArray Q (s + m) listed (putsIf (l.take n) 0 (fun i => listed.getD i false) v a0) w := by
 intro m
 have hlen : (l.take n).length = n := by rw [List.length_take]; omega
 induction m with
 | zero =>
  intro listed v w hl hc hu hb ht hne
  have hd := left_zero hl
  rw [putsIf_all (l.take n) 0 a0 fun i _ h2 => doneN_iff.1 hd i (by omega)]
  have e := canon_of hu hd
  rw [show l.toArray.size = l.length by simp] at e
  rw [e]
  exact hend v w hb (fun i hi => ht i hi (doneN_iff.1 hd i hi)) fun i j hi hj hij ha hb' => hne i j hi hj hij ha hb' (doneN_iff.1 hd i hi) (doneN_iff.1 hd j hj)
 | succ m ih =>
  intro listed v w hl hc hu hb ht hne
  have hnd := left_some hl
  refine ⟨fun h0 => absurd h0 (ready_some hu.1 (by simpa using hn) hD hl), fun j hj => ?_⟩
  have hjn := bar hB hc hj hnd
  obtain ⟨hju, o, ho, -⟩ := mem_ready.1 hj
  have hpre := preds_of_ready hj
  have hol : l[j]? = some o := by simpa using ho
  have hjs : j < l.toArray.size := (Array.getElem?_eq_some_iff.1 ho).1
  have hty := hops j o hjn hol v w hb fun p hp => ht p (by have := depB_pred hD hjn hp; omega) (hpre p hp)
  have hag : ∀ t ∈ o.looksAt l.toArray, (putsIf (l.take n) 0 (fun i => listed.getD i false) v a0).tmps[t]? = (putsV (l.take n) 0 v a0).tmps[t]? := fun t ht' =>
   get_puts (l.take n) 0 a0 a0 rfl fun i o' ho' hd' => by
    have hin : i < n := by rw [← hlen]; exact (List.getElem?_eq_some_iff.1 ho').1
    have ho2 : l.toArray[i]? = some o' := by rw [List.getElem?_take, if_pos hin] at ho'; simpa using ho'
    rw [Nat.zero_add]
    exact hpre i (depB_looks hD hjn hin ho ho2 ht' hd')
  have step : ∀ u w', Below w.heap.size w w' → T j u w' → (A j = true → u = .pointer (some ⟨w.heap.size, 0, none⟩)) → wpAny P .any l.toArray Q (s + m) (listed.setIfInBounds j true) ((putsIf (l.take n) 0 (fun i => listed.getD i false) v a0).put o.dst u) w' := by
   intro u w' hw' hu' hun
   have e := put_at (v := v) (v' := fun i => if i = j then u else v i) (b := fun i => listed.getD i false) (b' := fun i => (listed.setIfInBounds j true).getD i false) (j := j) (u := u) (unl hju) (by simp [hu.1]; simpa using hjs) (by simp)
    (fun i hi => ⟨getD_set_ne false fun e => hi e.symm, by simp [hi]⟩) (l.take n) 0 a0 o hN (Nat.zero_le _) (by rw [Nat.sub_zero, List.getElem?_take, if_pos hjn]; exact hol)
   rw [e]
   refine ih _ _ w' (left_set (ops := l.toArray) hu.1 hjn hjs (unl hju) hl) (hc.set hj) ⟨by simpa using hu.1, fun k hk hks => by rw [getD_set_ne true (by omega)]; exact hu.2 k hk hks⟩ (hb.trans (hw'.mono hb.size)) (fun i hi hli => ?_) ?_
   ·by_cases e : i = j
    ·subst e; simpa using hu'
    ·rw [getD_set_ne false fun e' => e e'.symm] at hli
     simp only [if_neg e]
     exact hT i _ _ _ hw' (ht i hi hli)
   intro i k hi hk hik hAi hAk hli hlk
   by_cases e : i = j
   ·subst e
    have e2 : k ≠ i := fun e => hik e.symm
    rw [getD_set_ne false fun e' => e2 e'.symm] at hlk
    simp only [if_neg e2, if_pos]
    obtain ⟨b, hb1, hb2⟩ := hptr k hAk _ _ (ht k hk hlk)
    rw [hb1, hun hAi]
    intro he
    simp only [Value.pointer.injEq, Option.some.injEq, Addr.mk.injEq, and_true] at he
    omega
   ·rw [getD_set_ne false fun e' => e e'.symm] at hli
    by_cases e2 : k = j
    ·subst e2
     simp only [if_neg e, if_pos]
     obtain ⟨b, hb1, hb2⟩ := hptr i hAi _ _ (ht i hi hli)
     rw [hb1, hun hAk]
     intro he
     simp only [Value.pointer.injEq, Option.some.injEq, Addr.mk.injEq, and_true] at he
     omega
    ·rw [getD_set_ne false fun e' => e2 e'.symm] at hlk
     simp only [if_neg e, if_neg e2]
     exact hne i k hi hk hik hAi hAk hli hlk
  unfold wpOp
  simp only [ho]
  unfold TyAt at hty
  rw [← wanted_same hag] at hty
  by_cases hw : Region.wanted o (yielded l.toArray (putsIf (l.take n) 0 (fun i => listed.getD i false) v a0).tmps) = true
  ·simp only [hw, if_true] at hty ⊢
   refine .inl ?_
   unfold Oper.wp
   rw [exec_same (fun cs b => Region.noSelect_spec hsel j o cs b ho) hag]
   have hal : A j = true → ∀ u w', (execOp (putsV (l.take n) 0 v a0).eval o).run P w = .ok (.value u) w' → u = .pointer (some ⟨w.heap.size, 0, none⟩) := fun hA u w' hr => by
    obtain ⟨_, e, c, t, he, hal⟩ := hnew j o hol hA
    rw [alloc_run he hal] at hr
    simp only [Result.ok.injEq, Next.value.injEq] at hr
    exact hr.1.symm
   have hal2 : A j = true → ∀ w', (execOp (putsV (l.take n) 0 v a0).eval o).run P w ≠ .ok .skip w' := fun hA w' hr => by
    obtain ⟨_, e, c, t, he, hal⟩ := hnew j o hol hA
    rw [alloc_run he hal] at hr
    cases hr
   have hal3 : A j = true → ∀ f args w', (execOp (putsV (l.take n) 0 v a0).eval o).run P w ≠ .ok (.enter f args) w' := fun hA f args w' hr => by
    obtain ⟨_, e, c, t, he, hal⟩ := hnew j o hol hA
    rw [alloc_run he hal] at hr
    cases hr
   generalize (execOp (putsV (l.take n) 0 v a0).eval o).run P w = r at *
   cases r with
   | ok nx w' =>
    cases nx <;> simp only [tyUpon] at hty <;> simp only [Oper.upon]
    case value u => exact step u w' hty.1 hty.2 fun hA => hal hA u w' rfl
    case skip => exact step undef w' hty.1 hty.2 fun hA => absurd rfl (hal2 hA w')
    case enter f args =>
     obtain ⟨rfl, hcall⟩ := hty
     exact hcall.mono fun e w'' ⟨u, he, h1, h2⟩ => by subst he; exact step u w'' h2 h1 fun hA => absurd rfl (hal3 hA f args _)
   | halt x w' => simp only [tyUpon] at hty
  ·simp only [hw] at hty ⊢
   exact step undef w (Below.refl _ _) hty fun hA => by
    obtain ⟨hg, _⟩ := hnew j o hol hA
    exact absurd (by unfold Region.wanted; rw [hg]) hw
/-- **A region whose first n operations each give a value of a property; then the others, in their order.** -/
theorem region_ta (n : Nat) (T : Nat → Value → World → Prop) (A : Nat → Bool) {id : Nat} {Q : Exit → Act → World → Prop} {a : Act} {w : World} {l : List Oper} (hm : P.follows .mixedOrders = true) (hB : tyB n l = true) (hT : ∀ i, Stays (T i))
  (hops : ∀ j o, j < n → l[j]? = some o → ∀ v w1, Below w.drew.heap.size w.drew w1 → (∀ p ∈ predsOf .any l.toArray j, T p (v p) w1) → TyAt P l.toArray o (putsV (l.take n) 0 v a) w1 (T j))
  (hptr : ∀ j, A j = true → ∀ u w, T j u w → ∃ k, u = .pointer (some ⟨k, 0, none⟩) ∧ k < w.heap.size)
  (hnew : ∀ j o, l[j]? = some o → A j = true → o.guard = none ∧ ∃ e c t, o.op = .alloc e ∧ ∀ w, (Instr.alloc e true (.tuple #[])).run P w = .ok (.pointer (some ⟨w.heap.size, 0, none⟩)) (w.alloc (.cells c t)))
  (hend : ∀ v w1, Below w.drew.heap.size w.drew w1 → (∀ i, i < n → T i (v i) w1) → (∀ i j, i < n → j < n → i ≠ j → A i = true → A j = true → v i ≠ v j) → wpList P l.toArray Q (l.drop n) (putsV (l.take n) 0 v a) w1) : (Code.region id l.toArray true).wp P Q a w := by
 simp only [tyB, Bool.and_eq_true, decide_eq_true_eq] at hB
 obtain ⟨⟨⟨⟨⟨hs, hn⟩, hb⟩, hN⟩, hD⟩, hq⟩ := hB
 refine wp_region_any hm ?_
 have hrep : ∀ i, (Array.replicate l.length false).getD i false = false := fun i => by
  rcases Nat.lt_or_ge i l.length with h' | h' <;> simp [h']
 have h0 : closedL .any l.toArray (Array.replicate l.length false) := fun j o _ hl => by rw [hrep] at hl; cases hl
 have hleft : left n (Array.replicate l.length false) = n := by
  unfold left
  rw [List.countP_eq_length.2 fun i _ => by rw [hrep]; rfl, List.length_range]
 have h2 := wpAny_ta (A := A) (P := P) (s := l.length - n) (Q := Q) (a0 := a) hT hs hn hb hN hD hops hptr hnew (fun v w1 h1 h2 hdis => by
   have h3 := wpAny_of_seq (md := .any) (P := P) (Q' := Q) (l.drop n) n (canonL l.length n) (putsV (l.take n) 0 v a) w1 (fun j hj => by simp [List.getElem?_drop]) (by rw [List.length_drop]; exact hq) (hend v w1 h1 h2 hdis)
   rw [List.length_drop] at h3
   exact h3) n (Array.replicate l.length false) (fun _ => undef) w.drew hleft h0 ⟨by simp, fun j _ hj => by simp at hj; simp [hj]⟩ (Below.refl _ _) (fun i _ hl => by rw [hrep] at hl; cases hl) (fun i j _ _ _ _ _ hl => by rw [hrep] at hl; cases hl)
 rw [putsIf_none (l.take n) 0 a fun i _ _ => hrep i, Nat.sub_add_cancel hn] at h2
 simpa using h2
/-- region_ta, with its properties as a list; A: the operations that make boxes. -/
theorem region_tal (n : Nat) (L : List (Value → World → Prop)) (A : List Nat) {id : Nat} {Q : Exit → Act → World → Prop} {a : Act} {w : World} {l : List Oper} (hm : P.follows .mixedOrders = true) (hB : tyB n l = true) (hT : ∀ i, Stays (L.getD i (fun _ _ => True)))
  (hops : hopsR P l.toArray (fun i => L.getD i (fun _ _ => True)) w.drew (fun v => putsV (l.take n) 0 v a) (l.take n) 0)
  (hptr : ∀ j, A.contains j = true → ∀ u w, L.getD j (fun _ _ => True) u w → ∃ k, u = .pointer (some ⟨k, 0, none⟩) ∧ k < w.heap.size)
  (hnew : newR P l A)
  (hend : ∀ v w1, Below w.drew.heap.size w.drew w1 → (∀ i, i < n → L.getD i (fun _ _ => True) (v i) w1) → (∀ i j, i < n → j < n → i ≠ j → A.contains i = true → A.contains j = true → v i ≠ v j) → wpList P l.toArray Q (l.drop n) (putsV (l.take n) 0 v a) w1) : (Code.region id l.toArray true).wp P Q a w :=
 region_ta n (fun i => L.getD i (fun _ _ => True)) (fun i => A.contains i) hm hB hT (fun j o hj ho v w1 hb hp => by
  have := hops_of (l.take n) 0 hops j o (by rw [List.getElem?_take, if_pos hj]; exact ho) v w1 hb (by rw [Nat.zero_add]; exact hp)
  rwa [Nat.zero_add] at this) hptr (fun j o ho hA => newR_spec hnew j o ho hA) hend
end
end Go.Proofs.YtdkjckiialnpnaaGreatDoor
namespace Go.Proofs.YtdkjckiialnpnaaGreatDoor
open Go.RowKit
attribute [local irreducible] lo hs sm s64 c64 d64 b64 mh ml pd pc qd qc val hiB str cmpI srD lz nb isq
/-- An integer, by its sign and its absolute value. -/
abbrev zV (s : Bool) (m : Nat) : Value := .agg #[.int .u64 ((lo m : Nat) : Int), .string (hs m), .bool s]
theorem ne0 {d : Nat} (h : d ≠ 0) : (((lo d : Nat) : Int) == 0) = false ∨ ((((lo d : Nat) : Int) == 0) = true ∧ ((hs d).toList == []) = false) := by
 have e := eq_zero (Nat.pos_of_ne_zero h)
 rwa [show ((lo 0 : Nat) : Int) = 0 by rw [lo_small Bs_pos]; rfl, show (hs 0).toList = [] by rw [hs_small Bs_pos, ByteArray.toList_eq]] at e
theorem zV_zero : zV false 0 = .agg #[.int .u64 0, .string ⟨#[]⟩, .bool false] := by unfold zV; rw [lo_small Bs_pos, hs_small Bs_pos]; rfl
set_option maxHeartbeats 4000000 in
set_option maxRecDepth 100000 in
theorem from_pos (n : Nat)  (w : World) :
  Calls Tryz.prog 93 #[.bool false, natV n] w fun e w' => e = .returned (zV false n) ∧ Below w.heap.size w w' := by
 have hL0 : GL w w [] := GL.start w
 replace hL0 := ((hL0.new rfl [.int .u64 ((lo n : Nat) : Int), .string (hs n)] 30).new (K := w.heap.size + 1) (szA _ _) [.int .u64 0, .string ⟨#[]⟩, .bool false] 32)
 generalize hweq : ((w.alloc (.cells #[.int .u64 ((lo n : Nat) : Int), .string (hs n)] 30)).alloc (.cells #[.int .u64 0, .string ⟨#[]⟩, .bool false] 32)) = x1 at hL0
 go_enter Tryz.func93, Tryz.ntmps93
 have hA := hL0.fc
 simp only [fcG, cellsF, neK, and_true, ne_eq, Nat.zero_add, Nat.reduceAdd] at hA
 go_upto_region 1 with fail
 clear hA
 clear hweq
 obtain ⟨α, iα, F, hF1, hF2⟩ := cls x1
 have hq := GL.fcC hF1 hL0
 simp only [fcC, cellsC, and_true, Nat.zero_add, Nat.reduceAdd] at hq
 refine region_qs 8 (C := fun w' => ∃ x, w' = F x) (by kernel_rfl) (by kernel_rfl) (cls_drew hF2) ?_
 simp only [List.take_succ_cons, List.take_zero, List.drop_succ_cons, List.drop_zero, List.take_nil, List.drop_nil]
 repeat (go_big_quiet_step (first | fail))
 refine wpQuiet_nil ?_
 rintro wq ⟨xq, rfl⟩
 replace hL0 := hL0.call (hF1 xq)
 clear hq hF2
 generalize F xq = x2 at hL0 ⊢
 clear hF1 xq iα F α
 have hA := hL0.fc
 simp only [fcG, cellsF, neK, and_true, ne_eq, Nat.zero_add, Nat.reduceAdd] at hA
 have hP := hL0.put 0 (w.heap.size + 1) _ rfl [.int .u64 ((lo n : Nat) : Int), .string (hs n), .bool false] rfl
 simp only [setAll, List.set_cons_zero, List.set_cons_succ] at hP
 generalize hput1 : (((x2.setCell ⟨w.heap.size + 1, 0, none⟩ (.int .u64 ((lo n : Nat) : Int))).setCell ⟨w.heap.size + 1, 1, none⟩ (.string (hs n))).setCell ⟨w.heap.size + 1, 2, none⟩ (.bool false)) = x3 at hP
 have hB1 := hP.fc
 simp only [fcG, cellsF, neK, and_true, ne_eq, Nat.zero_add, Nat.reduceAdd] at hB1
 replace hL0 := hP
 go_wp2_with fail
 exact bodyPost_ret (v := zV false n) (by simp [results, Tryz.results93, go_sem, hB1]) rfl ⟨rfl, hL0.bl⟩
set_option maxHeartbeats 4000000 in
set_option maxRecDepth 100000 in
theorem from_zero  (w : World) :
  Calls Tryz.prog 93 #[.bool true, natV 0] w fun e w' => e = .returned (zV false 0) ∧ Below w.heap.size w w' := by
 have hL0 : GL w w [] := GL.start w
 rw [natV_zero]
 replace hL0 := ((hL0.new rfl [.int .u64 0, .string ⟨#[]⟩] 30).new (K := w.heap.size + 1) (szA _ _) [.int .u64 0, .string ⟨#[]⟩, .bool false] 32)
 generalize hweq : ((w.alloc (.cells #[.int .u64 0, .string ⟨#[]⟩] 30)).alloc (.cells #[.int .u64 0, .string ⟨#[]⟩, .bool false] 32)) = x1 at hL0
 go_enter Tryz.func93, Tryz.ntmps93
 have hA := hL0.fc
 simp only [fcG, cellsF, neK, and_true, ne_eq, Nat.zero_add, Nat.reduceAdd] at hA
 go_upto_region 1 with fail
 clear hA
 clear hweq
 obtain ⟨α, iα, F, hF1, hF2⟩ := cls x1
 have hq := GL.fcC hF1 hL0
 simp only [fcC, cellsC, and_true, Nat.zero_add, Nat.reduceAdd] at hq
 refine region_qs 8 (C := fun w' => ∃ x, w' = F x) (by kernel_rfl) (by kernel_rfl) (cls_drew hF2) ?_
 simp only [List.take_succ_cons, List.take_zero, List.drop_succ_cons, List.drop_zero, List.take_nil, List.drop_nil]
 repeat (go_big_quiet_step (first | fail))
 refine wpQuiet_nil ?_
 rintro wq ⟨xq, rfl⟩
 replace hL0 := hL0.call (hF1 xq)
 clear hq hF2
 generalize F xq = x2 at hL0 ⊢
 clear hF1 xq iα F α
 have hA := hL0.fc
 simp only [fcG, cellsF, neK, and_true, ne_eq, Nat.zero_add, Nat.reduceAdd] at hA
 have hP := hL0.put 0 (w.heap.size + 1) _ rfl [.int .u64 0, .string ⟨#[]⟩, .bool false] rfl
 simp only [setAll, List.set_cons_zero, List.set_cons_succ] at hP
 generalize hput1 : (((x2.setCell ⟨w.heap.size + 1, 0, none⟩ (.int .u64 0)).setCell ⟨w.heap.size + 1, 1, none⟩ (.string ⟨#[]⟩)).setCell ⟨w.heap.size + 1, 2, none⟩ (.bool false)) = x3 at hP
 have hB1 := hP.fc
 simp only [fcG, cellsF, neK, and_true, ne_eq, Nat.zero_add, Nat.reduceAdd] at hB1
 replace hL0 := hP
 go_wp2_with fail
 exact bodyPost_ret (v := zV false 0) (by rw [zV_zero]; simp [results, Tryz.results93, go_sem, hB1]) rfl ⟨rfl, hL0.bl⟩
set_option maxHeartbeats 4000000 in
set_option maxRecDepth 100000 in
theorem from_neg (n : Nat) (hn : n ≠ 0) (w : World) :
  Calls Tryz.prog 93 #[.bool true, natV n] w fun e w' => e = .returned (zV true n) ∧ Below w.heap.size w w' := by
 have hL0 : GL w w [] := GL.start w
 replace hL0 := ((hL0.new rfl [.int .u64 ((lo n : Nat) : Int), .string (hs n)] 30).new (K := w.heap.size + 1) (szA _ _) [.int .u64 0, .string ⟨#[]⟩, .bool false] 32)
 generalize hweq : ((w.alloc (.cells #[.int .u64 ((lo n : Nat) : Int), .string (hs n)] 30)).alloc (.cells #[.int .u64 0, .string ⟨#[]⟩, .bool false] 32)) = x1 at hL0
 rcases ne0 hn with e0 | ⟨e0, e1⟩
 all_goals (
  go_enter Tryz.func93, Tryz.ntmps93
  have hA := hL0.fc
  simp only [fcG, cellsF, neK, and_true, ne_eq, Nat.zero_add, Nat.reduceAdd] at hA
  go_upto_region 1 with fail
  clear hA
  clear hweq
  obtain ⟨α, iα, F, hF1, hF2⟩ := cls x1
  have hq := GL.fcC hF1 hL0
  simp only [fcC, cellsC, and_true, Nat.zero_add, Nat.reduceAdd] at hq
  refine region_qs 8 (C := fun w' => ∃ x, w' = F x) (by kernel_rfl) (by kernel_rfl) (cls_drew hF2) ?_
  simp only [List.take_succ_cons, List.take_zero, List.drop_succ_cons, List.drop_zero, List.take_nil, List.drop_nil]
  repeat (go_big_quiet_step (first | fail))
  refine wpQuiet_nil ?_
  rintro wq ⟨xq, rfl⟩
  replace hL0 := hL0.call (hF1 xq)
  clear hq hF2
  generalize F xq = x2 at hL0 ⊢
  clear hF1 xq iα F α
  have hA := hL0.fc
  simp only [fcG, cellsF, neK, and_true, ne_eq, Nat.zero_add, Nat.reduceAdd] at hA
  have hP := hL0.put 0 (w.heap.size + 1) _ rfl [.int .u64 ((lo n : Nat) : Int), .string (hs n), .bool true] rfl
  simp only [setAll, List.set_cons_zero, List.set_cons_succ] at hP
  generalize hput1 : (((x2.setCell ⟨w.heap.size + 1, 0, none⟩ (.int .u64 ((lo n : Nat) : Int))).setCell ⟨w.heap.size + 1, 1, none⟩ (.string (hs n))).setCell ⟨w.heap.size + 1, 2, none⟩ (.bool true)) = x3 at hP
  have hB1 := hP.fc
  simp only [fcG, cellsF, neK, and_true, ne_eq, Nat.zero_add, Nat.reduceAdd] at hB1
  replace hL0 := hP
  go_wp2_with fail
  exact bodyPost_ret (v := zV true n) (by simp [results, Tryz.results93, go_sem, hB1]) rfl ⟨rfl, hL0.bl⟩)
theorem from_any (s : Bool) (n : Nat) (w : World) : Calls Tryz.prog 93 #[.bool s, natV n] w fun e w' => e = .returned (zV (s && decide (n ≠ 0)) n) ∧ Below w.heap.size w w' := by
 cases s with
 | false => exact from_pos n w
 | true =>
  by_cases h : n = 0
  ·subst h; exact from_zero w
  ·rw [Bool.true_and, decide_eq_true h]; exact from_neg n h w
set_option maxHeartbeats 4000000 in
set_option maxRecDepth 100000 in
theorem abs_any (s : Bool) (m : Nat) (w : World) :
  Calls Tryz.prog 78 #[zV s m] w fun e w' => e = .returned (natV m) ∧ Below w.heap.size w w' := by
 have hL0 : GL w w [] := GL.start w
 replace hL0 := ((hL0.new rfl [.int .u64 ((lo m : Nat) : Int), .string (hs m), .bool s] 32).new (K := w.heap.size + 1) (szA _ _) [.int .u64 0, .string ⟨#[]⟩] 30)
 generalize hweq : ((w.alloc (.cells #[.int .u64 ((lo m : Nat) : Int), .string (hs m), .bool s] 32)).alloc (.cells #[.int .u64 0, .string ⟨#[]⟩] 30)) = x1 at hL0
 go_enter Tryz.func78, Tryz.ntmps78
 have hA := hL0.fc
 simp only [fcG, cellsF, neK, and_true, ne_eq, Nat.zero_add, Nat.reduceAdd] at hA
 have hP := hL0.put 0 (w.heap.size + 1) _ rfl [.int .u64 ((lo m : Nat) : Int), .string (hs m)] rfl
 simp only [setAll, List.set_cons_zero, List.set_cons_succ] at hP
 generalize hput1 : ((x1.setCell ⟨w.heap.size + 1, 0, none⟩ (.int .u64 ((lo m : Nat) : Int))).setCell ⟨w.heap.size + 1, 1, none⟩ (.string (hs m))) = x2 at hP
 have hB1 := hP.fc
 simp only [fcG, cellsF, neK, and_true, ne_eq, Nat.zero_add, Nat.reduceAdd] at hB1
 replace hL0 := hP
 go_wp2_with fail
 exact bodyPost_ret (v := natV m) (by simp [results, Tryz.results78, go_sem, hB1]) rfl ⟨rfl, hL0.bl⟩
set_option maxHeartbeats 4000000 in
set_option maxRecDepth 100000 in
theorem sign_neg (m : Nat) (w : World) :
  Calls Tryz.prog 95 #[zV true m] w fun e w' => e = .returned (.int .i64 (-1)) ∧ Below w.heap.size w w' := by
 have hL0 : GL w w [] := GL.start w
 replace hL0 := (hL0.new rfl [.int .u64 ((lo m : Nat) : Int), .string (hs m), .bool true] 32)
 generalize hweq : (w.alloc (.cells #[.int .u64 ((lo m : Nat) : Int), .string (hs m), .bool true] 32)) = x1 at hL0
 go_enter Tryz.func95, Tryz.ntmps95
 have hA := hL0.fc
 simp only [fcG, cellsF, neK, and_true, ne_eq, Nat.zero_add, Nat.reduceAdd] at hA
 go_wp2_with fail
 exact bodyPost_ret (v := .int .i64 (-1)) (by simp [results, Tryz.results95, go_sem, hA]) rfl ⟨rfl, hL0.bl⟩
set_option maxHeartbeats 4000000 in
set_option maxRecDepth 100000 in
theorem sign_zero  (w : World) :
  Calls Tryz.prog 95 #[zV false 0] w fun e w' => e = .returned (.int .i64 0) ∧ Below w.heap.size w w' := by
 have hL0 : GL w w [] := GL.start w
 rw [zV_zero]
 replace hL0 := (hL0.new rfl [.int .u64 0, .string ⟨#[]⟩, .bool false] 32)
 generalize hweq : (w.alloc (.cells #[.int .u64 0, .string ⟨#[]⟩, .bool false] 32)) = x1 at hL0
 go_enter Tryz.func95, Tryz.ntmps95
 have hA := hL0.fc
 simp only [fcG, cellsF, neK, and_true, ne_eq, Nat.zero_add, Nat.reduceAdd] at hA
 go_wp2_with fail
 exact bodyPost_ret (v := .int .i64 0) (by simp [results, Tryz.results95, go_sem, hA]) rfl ⟨rfl, hL0.bl⟩
set_option maxHeartbeats 4000000 in
set_option maxRecDepth 100000 in
theorem sign_pos (m : Nat) (hm : m ≠ 0) (w : World) :
  Calls Tryz.prog 95 #[zV false m] w fun e w' => e = .returned (.int .i64 1) ∧ Below w.heap.size w w' := by
 have hL0 : GL w w [] := GL.start w
 replace hL0 := (hL0.new rfl [.int .u64 ((lo m : Nat) : Int), .string (hs m), .bool false] 32)
 generalize hweq : (w.alloc (.cells #[.int .u64 ((lo m : Nat) : Int), .string (hs m), .bool false] 32)) = x1 at hL0
 rcases ne0 hm with e0 | ⟨e0, e1⟩
 all_goals (
  go_enter Tryz.func95, Tryz.ntmps95
  have hA := hL0.fc
  simp only [fcG, cellsF, neK, and_true, ne_eq, Nat.zero_add, Nat.reduceAdd] at hA
  go_wp2_with fail
  exact bodyPost_ret (v := .int .i64 1) (by simp [results, Tryz.results95, go_sem, hA]) rfl ⟨rfl, hL0.bl⟩)
set_option maxHeartbeats 4000000 in
set_option maxRecDepth 100000 in
theorem neg_true (m : Nat) (w : World) :
  Calls Tryz.prog 94 #[zV true m] w fun e w' => e = .returned (zV false m) ∧ Below w.heap.size w w' := by
 have hL0 : GL w w [] := GL.start w
 have HF := Lib.hid (fun w => from_any false m w)
 simp only [Bool.false_and] at HF
 replace hL0 := ((hL0.new rfl [.int .u64 ((lo m : Nat) : Int), .string (hs m), .bool true] 32).new (K := w.heap.size + 1) (szA _ _) [.int .u64 0, .string ⟨#[]⟩, .bool false] 32)
 generalize hweq : ((w.alloc (.cells #[.int .u64 ((lo m : Nat) : Int), .string (hs m), .bool true] 32)).alloc (.cells #[.int .u64 0, .string ⟨#[]⟩, .bool false] 32)) = x1 at hL0
 go_enter Tryz.func94, Tryz.ntmps94
 have hA := hL0.fc
 simp only [fcG, cellsF, neK, and_true, ne_eq, Nat.zero_add, Nat.reduceAdd] at hA
 go_wp2_with fail
 clear hA
 with_reducible refine Calls.mono (HF.out _) ?_
 rintro e x2 ⟨rfl, hb⟩
 replace hL0 := hL0.call hb
 clear hb hweq
 have hA := hL0.fc
 simp only [fcG, cellsF, neK, and_true, ne_eq, Nat.zero_add, Nat.reduceAdd] at hA
 have hP := hL0.put 0 (w.heap.size + 1) _ rfl [.int .u64 ((lo m : Nat) : Int), .string (hs m), .bool false] rfl
 simp only [setAll, List.set_cons_zero, List.set_cons_succ] at hP
 generalize hput1 : (((x2.setCell ⟨w.heap.size + 1, 0, none⟩ (.int .u64 ((lo m : Nat) : Int))).setCell ⟨w.heap.size + 1, 1, none⟩ (.string (hs m))).setCell ⟨w.heap.size + 1, 2, none⟩ (.bool false)) = x3 at hP
 have hB1 := hP.fc
 simp only [fcG, cellsF, neK, and_true, ne_eq, Nat.zero_add, Nat.reduceAdd] at hB1
 replace hL0 := hP
 go_wp2_with fail
 exact bodyPost_ret (v := zV false m) (by simp [results, Tryz.results94, go_sem, hB1]) rfl ⟨rfl, hL0.bl⟩
set_option maxHeartbeats 4000000 in
set_option maxRecDepth 100000 in
theorem neg_false (m : Nat) (w : World) :
  Calls Tryz.prog 94 #[zV false m] w fun e w' => e = .returned (zV (decide (m ≠ 0)) m) ∧ Below w.heap.size w w' := by
 have hL0 : GL w w [] := GL.start w
 have HF := Lib.hid (fun w => from_any true m w)
 simp only [Bool.true_and] at HF
 obtain ⟨d, hd⟩ : ∃ d, d = decide (m ≠ 0) := ⟨_, rfl⟩
 rw [← hd] at HF ⊢
 clear hd
 replace hL0 := ((hL0.new rfl [.int .u64 ((lo m : Nat) : Int), .string (hs m), .bool false] 32).new (K := w.heap.size + 1) (szA _ _) [.int .u64 0, .string ⟨#[]⟩, .bool false] 32)
 generalize hweq : ((w.alloc (.cells #[.int .u64 ((lo m : Nat) : Int), .string (hs m), .bool false] 32)).alloc (.cells #[.int .u64 0, .string ⟨#[]⟩, .bool false] 32)) = x1 at hL0
 go_enter Tryz.func94, Tryz.ntmps94
 have hA := hL0.fc
 simp only [fcG, cellsF, neK, and_true, ne_eq, Nat.zero_add, Nat.reduceAdd] at hA
 go_wp2_with fail
 clear hA
 with_reducible refine Calls.mono (HF.out _) ?_
 rintro e x2 ⟨rfl, hb⟩
 replace hL0 := hL0.call hb
 clear hb hweq
 have hA := hL0.fc
 simp only [fcG, cellsF, neK, and_true, ne_eq, Nat.zero_add, Nat.reduceAdd] at hA
 have hP := hL0.put 0 (w.heap.size + 1) _ rfl [.int .u64 ((lo m : Nat) : Int), .string (hs m), .bool d] rfl
 simp only [setAll, List.set_cons_zero, List.set_cons_succ] at hP
 generalize hput1 : (((x2.setCell ⟨w.heap.size + 1, 0, none⟩ (.int .u64 ((lo m : Nat) : Int))).setCell ⟨w.heap.size + 1, 1, none⟩ (.string (hs m))).setCell ⟨w.heap.size + 1, 2, none⟩ (.bool d)) = x3 at hP
 have hB1 := hP.fc
 simp only [fcG, cellsF, neK, and_true, ne_eq, Nat.zero_add, Nat.reduceAdd] at hB1
 replace hL0 := hP
 go_wp2_with fail
 exact bodyPost_ret (v := zV d m) (by simp [results, Tryz.results94, go_sem, hB1]) rfl ⟨rfl, hL0.bl⟩
end Go.Proofs.YtdkjckiialnpnaaGreatDoor
namespace Go.Proofs.YtdkjckiialnpnaaGreatDoor
open Go.RowKit
attribute [local irreducible] lo hs sm s64 c64 d64 b64 mh ml pd pc qd qc val hiB str cmpI srD lz nb isq
set_option maxHeartbeats 4000000 in
set_option maxRecDepth 100000 in
theorem ofp_any (m : Nat) (hm : m < 9223372036854775808) (w : World) :
  Calls Tryz.prog 92 #[.int .i64 (m : Int)] w fun e w' => e = .returned (zV false m) ∧ Below w.heap.size w w' := by
 have hL0 : GL w w [] := GL.start w
 have k0 : decide ((m : Int) < 0) = false := decide_eq_false (by omega)
 have hw : IntKind.u64.wrap (m : Int) = (m : Int) := wrapN _ (by omega)
 have HO := Lib.hid (fun w => of_any m (by unfold Bs; omega) w)
 have HF := Lib.hid (fun w => from_pos m w)
 replace hL0 := (hL0.new rfl [.int .u64 0, .string ⟨#[]⟩, .bool false] 32)
 generalize hweq : (w.alloc (.cells #[.int .u64 0, .string ⟨#[]⟩, .bool false] 32)) = x1 at hL0
 clear hm
 go_enter Tryz.func92, Tryz.ntmps92
 have hA := hL0.fc
 simp only [fcG, cellsF, neK, and_true, ne_eq, Nat.zero_add, Nat.reduceAdd] at hA
 go_wp2_with fail
 clear hA
 with_reducible refine Calls.mono (HO.out _) ?_
 rintro e x2 ⟨rfl, hb⟩
 replace hL0 := hL0.call hb
 clear hb hweq
 have hA := hL0.fc
 simp only [fcG, cellsF, neK, and_true, ne_eq, Nat.zero_add, Nat.reduceAdd] at hA
 go_wp2_with fail
 clear hA
 with_reducible refine Calls.mono (HF.out _) ?_
 rintro e x3 ⟨rfl, hb⟩
 replace hL0 := hL0.call hb
 clear hb
 have hA := hL0.fc
 simp only [fcG, cellsF, neK, and_true, ne_eq, Nat.zero_add, Nat.reduceAdd] at hA
 have hP := hL0.put 0 (w.heap.size) _ rfl [.int .u64 ((lo m : Nat) : Int), .string (hs m), .bool false] rfl
 simp only [setAll, List.set_cons_zero, List.set_cons_succ] at hP
 generalize hput1 : (((x3.setCell ⟨w.heap.size, 0, none⟩ (.int .u64 ((lo m : Nat) : Int))).setCell ⟨w.heap.size, 1, none⟩ (.string (hs m))).setCell ⟨w.heap.size, 2, none⟩ (.bool false)) = x4 at hP
 have hB1 := hP.fc
 simp only [fcG, cellsF, neK, and_true, ne_eq, Nat.zero_add, Nat.reduceAdd] at hB1
 replace hL0 := hP
 go_wp2_with fail
 exact bodyPost_ret (v := zV false m) (by simp [results, Tryz.results92, go_sem, hB1]) rfl ⟨rfl, hL0.bl⟩
set_option maxHeartbeats 4000000 in
set_option maxRecDepth 100000 in
theorem ofn_any (z : Int) (m : Nat) (hz : z = -(m : Int)) (h0 : 0 < m) (hm : m ≤ 9223372036854775808) (w : World) :
  Calls Tryz.prog 92 #[.int .i64 z] w fun e w' => e = .returned (zV true m) ∧ Below w.heap.size w w' := by
 have hL0 : GL w w [] := GL.start w
 have k0 : decide (z < 0) = true := decide_eq_true (by omega)
 obtain ⟨q, hq⟩ : ∃ q : Nat, (q : Int) = 18446744073709551616 - m := ⟨(18446744073709551616 - (m : Int)).toNat, by omega⟩
 have hw : IntKind.u64.wrap z = (q : Int) := by rw [IntKind.wrap_u64]; omega
 have hw2 : IntKind.u64.wrap (-(q : Int)) = (m : Int) := by rw [IntKind.wrap_u64]; omega
 have HO := Lib.hid (fun w => of_any m (by unfold Bs; omega) w)
 have HF := Lib.hid (fun w => from_neg m (by omega) w)
 replace hL0 := (hL0.new rfl [.int .u64 0, .string ⟨#[]⟩, .bool false] 32)
 generalize hweq : (w.alloc (.cells #[.int .u64 0, .string ⟨#[]⟩, .bool false] 32)) = x1 at hL0
 clear hm h0 hz hq
 go_enter Tryz.func92, Tryz.ntmps92
 have hA := hL0.fc
 simp only [fcG, cellsF, neK, and_true, ne_eq, Nat.zero_add, Nat.reduceAdd] at hA
 go_wp2_with fail
 clear hA
 with_reducible refine Calls.mono (HO.out _) ?_
 rintro e x2 ⟨rfl, hb⟩
 replace hL0 := hL0.call hb
 clear hb hweq
 have hA := hL0.fc
 simp only [fcG, cellsF, neK, and_true, ne_eq, Nat.zero_add, Nat.reduceAdd] at hA
 go_wp2_with fail
 clear hA
 with_reducible refine Calls.mono (HF.out _) ?_
 rintro e x3 ⟨rfl, hb⟩
 replace hL0 := hL0.call hb
 clear hb
 have hA := hL0.fc
 simp only [fcG, cellsF, neK, and_true, ne_eq, Nat.zero_add, Nat.reduceAdd] at hA
 have hP := hL0.put 0 (w.heap.size) _ rfl [.int .u64 ((lo m : Nat) : Int), .string (hs m), .bool true] rfl
 simp only [setAll, List.set_cons_zero, List.set_cons_succ] at hP
 generalize hput1 : (((x3.setCell ⟨w.heap.size, 0, none⟩ (.int .u64 ((lo m : Nat) : Int))).setCell ⟨w.heap.size, 1, none⟩ (.string (hs m))).setCell ⟨w.heap.size, 2, none⟩ (.bool true)) = x4 at hP
 have hB1 := hP.fc
 simp only [fcG, cellsF, neK, and_true, ne_eq, Nat.zero_add, Nat.reduceAdd] at hB1
 replace hL0 := hP
 go_wp2_with fail
 exact bodyPost_ret (v := zV true m) (by simp [results, Tryz.results92, go_sem, hB1]) rfl ⟨rfl, hL0.bl⟩
end Go.Proofs.YtdkjckiialnpnaaGreatDoor
namespace Go.Proofs.YtdkjckiialnpnaaGreatDoor
open Go.RowKit
attribute [local irreducible] lo hs sm s64 c64 d64 b64 mh ml pd pc qd qc val hiB str cmpI srD lz nb isq
set_option maxHeartbeats 4000000 in
set_option maxRecDepth 100000 in
theorem idiv0_true (m : Nat) (w : World) :
  Calls Tryz.prog 130 #[zV true m, zV false 0] w fun e w' => e = .returned (.tuple #[zV false 0, zV false 0, .bool false]) ∧ Below w.heap.size w w' := by
 have hL0 : GL w w [] := GL.start w
 have HD := Lib.hid (fun w => div_zero m w)
 rw [show zV false 0 = .agg #[.int .u64 ((lo 0 : Nat) : Int), .string (hs 0), .bool false] from rfl]
 replace hL0 := ((((hL0.new rfl [.int .u64 ((lo m : Nat) : Int), .string (hs m), .bool true] 32).new (K := w.heap.size + 1) (szA _ _) [.int .u64 ((lo 0 : Nat) : Int), .string (hs 0), .bool false] 32).new (K := w.heap.size + 1 + 1) (by simp only [World.size_alloc]) [.int .u64 0, .string ⟨#[]⟩, .bool false] 32).new (K := w.heap.size + 1 + 1 + 1) (by simp only [World.size_alloc]) [.int .u64 0, .string ⟨#[]⟩, .bool false] 32)
 generalize hweq : ((((w.alloc (.cells #[.int .u64 ((lo m : Nat) : Int), .string (hs m), .bool true] 32)).alloc (.cells #[.int .u64 ((lo 0 : Nat) : Int), .string (hs 0), .bool false] 32)).alloc (.cells #[.int .u64 0, .string ⟨#[]⟩, .bool false] 32)).alloc (.cells #[.int .u64 0, .string ⟨#[]⟩, .bool false] 32)) = x1 at hL0
 go_enter Tryz.func130, Tryz.ntmps130
 have hA := hL0.fc
 simp only [fcG, cellsF, neK, and_true, ne_eq, Nat.zero_add, Nat.reduceAdd] at hA
 go_wp2_with fail
 clear hA
 with_reducible refine Calls.mono (HD.out _) ?_
 rintro e x2 ⟨rfl, hb⟩
 replace hL0 := hL0.call hb
 clear hb hweq
 replace hL0 := ((hL0.new rfl [.int .u64 ((lo 0 : Nat) : Int), .string (hs 0)] 30).new (K := x2.heap.size + 1) (szA _ _) [.int .u64 ((lo 0 : Nat) : Int), .string (hs 0)] 30)
 generalize hweq : ((x2.alloc (.cells #[.int .u64 ((lo 0 : Nat) : Int), .string (hs 0)] 30)).alloc (.cells #[.int .u64 ((lo 0 : Nat) : Int), .string (hs 0)] 30)) = x3 at hL0
 have hA := hL0.fc
 simp only [fcG, cellsF, neK, and_true, ne_eq, Nat.zero_add, Nat.reduceAdd] at hA
 have hP := hL0.put 3 (w.heap.size + 1 + 1) _ rfl [.int .u64 0, .string ⟨#[]⟩, .bool false] rfl
 simp only [setAll, List.set_cons_zero, List.set_cons_succ] at hP
 generalize hput1 : (((x3.setCell ⟨w.heap.size + 1 + 1, 0, none⟩ (.int .u64 0)).setCell ⟨w.heap.size + 1 + 1, 1, none⟩ (.string ⟨#[]⟩)).setCell ⟨w.heap.size + 1 + 1, 2, none⟩ (.bool false)) = x4 at hP
 have hB1 := hP.fc
 simp only [fcG, cellsF, neK, and_true, ne_eq, Nat.zero_add, Nat.reduceAdd] at hB1
 replace hL0 := hP
 have hP := hL0.put 2 (w.heap.size + 1 + 1 + 1) _ rfl [.int .u64 0, .string ⟨#[]⟩, .bool false] rfl
 simp only [setAll, List.set_cons_zero, List.set_cons_succ] at hP
 generalize hput2 : (((x4.setCell ⟨w.heap.size + 1 + 1 + 1, 0, none⟩ (.int .u64 0)).setCell ⟨w.heap.size + 1 + 1 + 1, 1, none⟩ (.string ⟨#[]⟩)).setCell ⟨w.heap.size + 1 + 1 + 1, 2, none⟩ (.bool false)) = x5 at hP
 have hB2 := hP.fc
 simp only [fcG, cellsF, neK, and_true, ne_eq, Nat.zero_add, Nat.reduceAdd] at hB2
 replace hL0 := hP
 go_wp2_with fail
 exact bodyPost_ret (v := .tuple #[zV false 0, zV false 0, .bool false]) (by rw [zV_zero]; simp [results, Tryz.results130, go_sem, hB2]) rfl ⟨rfl, hL0.bl⟩
set_option maxHeartbeats 4000000 in
set_option maxRecDepth 100000 in
theorem idiv0_false (m : Nat) (w : World) :
  Calls Tryz.prog 130 #[zV false m, zV false 0] w fun e w' => e = .returned (.tuple #[zV false 0, zV false 0, .bool false]) ∧ Below w.heap.size w w' := by
 have hL0 : GL w w [] := GL.start w
 have HD := Lib.hid (fun w => div_zero m w)
 rw [show zV false 0 = .agg #[.int .u64 ((lo 0 : Nat) : Int), .string (hs 0), .bool false] from rfl]
 replace hL0 := ((((hL0.new rfl [.int .u64 ((lo m : Nat) : Int), .string (hs m), .bool false] 32).new (K := w.heap.size + 1) (szA _ _) [.int .u64 ((lo 0 : Nat) : Int), .string (hs 0), .bool false] 32).new (K := w.heap.size + 1 + 1) (by simp only [World.size_alloc]) [.int .u64 0, .string ⟨#[]⟩, .bool false] 32).new (K := w.heap.size + 1 + 1 + 1) (by simp only [World.size_alloc]) [.int .u64 0, .string ⟨#[]⟩, .bool false] 32)
 generalize hweq : ((((w.alloc (.cells #[.int .u64 ((lo m : Nat) : Int), .string (hs m), .bool false] 32)).alloc (.cells #[.int .u64 ((lo 0 : Nat) : Int), .string (hs 0), .bool false] 32)).alloc (.cells #[.int .u64 0, .string ⟨#[]⟩, .bool false] 32)).alloc (.cells #[.int .u64 0, .string ⟨#[]⟩, .bool false] 32)) = x1 at hL0
 go_enter Tryz.func130, Tryz.ntmps130
 have hA := hL0.fc
 simp only [fcG, cellsF, neK, and_true, ne_eq, Nat.zero_add, Nat.reduceAdd] at hA
 go_wp2_with fail
 clear hA
 with_reducible refine Calls.mono (HD.out _) ?_
 rintro e x2 ⟨rfl, hb⟩
 replace hL0 := hL0.call hb
 clear hb hweq
 replace hL0 := ((hL0.new rfl [.int .u64 ((lo 0 : Nat) : Int), .string (hs 0)] 30).new (K := x2.heap.size + 1) (szA _ _) [.int .u64 ((lo 0 : Nat) : Int), .string (hs 0)] 30)
 generalize hweq : ((x2.alloc (.cells #[.int .u64 ((lo 0 : Nat) : Int), .string (hs 0)] 30)).alloc (.cells #[.int .u64 ((lo 0 : Nat) : Int), .string (hs 0)] 30)) = x3 at hL0
 have hA := hL0.fc
 simp only [fcG, cellsF, neK, and_true, ne_eq, Nat.zero_add, Nat.reduceAdd] at hA
 have hP := hL0.put 3 (w.heap.size + 1 + 1) _ rfl [.int .u64 0, .string ⟨#[]⟩, .bool false] rfl
 simp only [setAll, List.set_cons_zero, List.set_cons_succ] at hP
 generalize hput1 : (((x3.setCell ⟨w.heap.size + 1 + 1, 0, none⟩ (.int .u64 0)).setCell ⟨w.heap.size + 1 + 1, 1, none⟩ (.string ⟨#[]⟩)).setCell ⟨w.heap.size + 1 + 1, 2, none⟩ (.bool false)) = x4 at hP
 have hB1 := hP.fc
 simp only [fcG, cellsF, neK, and_true, ne_eq, Nat.zero_add, Nat.reduceAdd] at hB1
 replace hL0 := hP
 have hP := hL0.put 2 (w.heap.size + 1 + 1 + 1) _ rfl [.int .u64 0, .string ⟨#[]⟩, .bool false] rfl
 simp only [setAll, List.set_cons_zero, List.set_cons_succ] at hP
 generalize hput2 : (((x4.setCell ⟨w.heap.size + 1 + 1 + 1, 0, none⟩ (.int .u64 0)).setCell ⟨w.heap.size + 1 + 1 + 1, 1, none⟩ (.string ⟨#[]⟩)).setCell ⟨w.heap.size + 1 + 1 + 1, 2, none⟩ (.bool false)) = x5 at hP
 have hB2 := hP.fc
 simp only [fcG, cellsF, neK, and_true, ne_eq, Nat.zero_add, Nat.reduceAdd] at hB2
 replace hL0 := hP
 go_wp2_with fail
 exact bodyPost_ret (v := .tuple #[zV false 0, zV false 0, .bool false]) (by rw [zV_zero]; simp [results, Tryz.results130, go_sem, hB2]) rfl ⟨rfl, hL0.bl⟩
set_option maxHeartbeats 4000000 in
set_option maxRecDepth 100000 in
theorem idiv_true_true_1 (m n : Nat) (h0 : n ≠ 0) (hr : m % n = 0) (hm : (digs m).length ≤ 1000000000) (hn : (digs n).length ≤ 1000000000) (w : World) :
  Calls Tryz.prog 130 #[zV true m, zV true n] w fun e w' => e = .returned (.tuple #[zV false (m / n), zV false (0), .bool true]) ∧ Below w.heap.size w w' := by
 have hL0 : GL w w [] := GL.start w
 have HD := Lib.hid (fun w => div_pos m n (by omega) (by omega) w)
 have hlq : (digs (m / n)).length ≤ 1000000000 := Nat.le_trans (digs_mono (Nat.div_le_self m n)) hm
 have hrn : m % n < n := Nat.mod_lt _ (by omega)
 generalize m / n = q at *
 rw [hr] at HD
 clear hr hrn
 have e0 : (((lo 0 : Nat) : Int) == 0) = true := by rw [lo_small Bs_pos]; rfl
 have e1 : ((hs 0).toList == []) = true := by rw [hs_small Bs_pos, ByteArray.toList_eq]; rfl
 have HF := Lib.hid (fun w => from_any false q w)
 simp only [Bool.false_and] at HF
 have HG := Lib.hid (fun w => from_pos 0 w)
 clear hm hn h0 hlq
 replace hL0 := ((((hL0.new rfl [.int .u64 ((lo m : Nat) : Int), .string (hs m), .bool true] 32).new (K := w.heap.size + 1) (szA _ _) [.int .u64 ((lo n : Nat) : Int), .string (hs n), .bool true] 32).new (K := w.heap.size + 1 + 1) (by simp only [World.size_alloc]) [.int .u64 0, .string ⟨#[]⟩, .bool false] 32).new (K := w.heap.size + 1 + 1 + 1) (by simp only [World.size_alloc]) [.int .u64 0, .string ⟨#[]⟩, .bool false] 32)
 generalize hweq : ((((w.alloc (.cells #[.int .u64 ((lo m : Nat) : Int), .string (hs m), .bool true] 32)).alloc (.cells #[.int .u64 ((lo n : Nat) : Int), .string (hs n), .bool true] 32)).alloc (.cells #[.int .u64 0, .string ⟨#[]⟩, .bool false] 32)).alloc (.cells #[.int .u64 0, .string ⟨#[]⟩, .bool false] 32)) = x1 at hL0
 go_enter Tryz.func130, Tryz.ntmps130
 have hA := hL0.fc
 simp only [fcG, cellsF, neK, and_true, ne_eq, Nat.zero_add, Nat.reduceAdd] at hA
 go_wp2_with fail
 clear hA
 with_reducible refine Calls.mono (HD.out _) ?_
 rintro e x2 ⟨rfl, hb⟩
 replace hL0 := hL0.call hb
 clear hb hweq
 replace hL0 := ((hL0.new rfl [.int .u64 ((lo q : Nat) : Int), .string (hs q)] 30).new (K := x2.heap.size + 1) (szA _ _) [.int .u64 ((lo 0 : Nat) : Int), .string (hs 0)] 30)
 generalize hweq : ((x2.alloc (.cells #[.int .u64 ((lo q : Nat) : Int), .string (hs q)] 30)).alloc (.cells #[.int .u64 ((lo 0 : Nat) : Int), .string (hs 0)] 30)) = x3 at hL0
 have hA := hL0.fc
 simp only [fcG, cellsF, neK, and_true, ne_eq, Nat.zero_add, Nat.reduceAdd] at hA
 go_upto_region 7 with fail
 clear hA
 clear hweq
 obtain ⟨α, iα, F, hF1, hF2⟩ := cls x3
 have hq := GL.fcC hF1 hL0
 simp only [fcC, cellsC, and_true, Nat.zero_add, Nat.reduceAdd] at hq
 refine region_qs 9 (C := fun w' => ∃ x, w' = F x) (by kernel_rfl) (by kernel_rfl) (cls_drew hF2) ?_
 simp only [List.take_succ_cons, List.take_zero, List.drop_succ_cons, List.drop_zero, List.take_nil, List.drop_nil]
 repeat (go_big_quiet_step (first | fail | (go_at_call 93; with_reducible exact cls_call hF1 hF2 HF.out _) | (go_at_call 93; with_reducible exact cls_call hF1 hF2 HG.out _)))
 refine wpQuiet_nil ?_
 rintro wq ⟨xq, rfl⟩
 replace hL0 := hL0.call (hF1 xq)
 clear hq hF2
 generalize F xq = x4 at hL0 ⊢
 clear hF1 xq iα F α
 have hA := hL0.fc
 simp only [fcG, cellsF, neK, and_true, ne_eq, Nat.zero_add, Nat.reduceAdd] at hA
 have hP := hL0.put 3 (w.heap.size + 1 + 1) _ rfl [.int .u64 ((lo q : Nat) : Int), .string (hs q), .bool false] rfl
 simp only [setAll, List.set_cons_zero, List.set_cons_succ] at hP
 generalize hput1 : (((x4.setCell ⟨w.heap.size + 1 + 1, 0, none⟩ (.int .u64 ((lo q : Nat) : Int))).setCell ⟨w.heap.size + 1 + 1, 1, none⟩ (.string (hs q))).setCell ⟨w.heap.size + 1 + 1, 2, none⟩ (.bool false)) = x5 at hP
 have hB1 := hP.fc
 simp only [fcG, cellsF, neK, and_true, ne_eq, Nat.zero_add, Nat.reduceAdd] at hB1
 replace hL0 := hP
 have hP := hL0.put 2 (w.heap.size + 1 + 1 + 1) _ rfl [.int .u64 ((lo 0 : Nat) : Int), .string (hs 0), .bool false] rfl
 simp only [setAll, List.set_cons_zero, List.set_cons_succ] at hP
 generalize hput2 : (((x5.setCell ⟨w.heap.size + 1 + 1 + 1, 0, none⟩ (.int .u64 ((lo 0 : Nat) : Int))).setCell ⟨w.heap.size + 1 + 1 + 1, 1, none⟩ (.string (hs 0))).setCell ⟨w.heap.size + 1 + 1 + 1, 2, none⟩ (.bool false)) = x6 at hP
 have hB2 := hP.fc
 simp only [fcG, cellsF, neK, and_true, ne_eq, Nat.zero_add, Nat.reduceAdd] at hB2
 replace hL0 := hP
 go_wp2_with fail
 exact bodyPost_ret (v := .tuple #[zV false q, zV false 0, .bool true]) (by simp [results, Tryz.results130, go_sem, hB2]) rfl ⟨rfl, hL0.bl⟩
set_option maxHeartbeats 4000000 in
set_option maxRecDepth 100000 in
theorem idiv_true_true_2 (m n : Nat) (h0 : n ≠ 0) (hr : m % n ≠ 0) (hm : (digs m).length ≤ 1000000000) (hn : (digs n).length ≤ 1000000000) (w : World) :
  Calls Tryz.prog 130 #[zV true m, zV true n] w fun e w' => e = .returned (.tuple #[zV false (m / n + 1), zV false (n - m % n), .bool true]) ∧ Below w.heap.size w w' := by
 have hL0 : GL w w [] := GL.start w
 have HD := Lib.hid (fun w => div_pos m n (by omega) (by omega) w)
 have hlq : (digs (m / n)).length ≤ 1000000000 := Nat.le_trans (digs_mono (Nat.div_le_self m n)) hm
 have hrn : m % n < n := Nat.mod_lt _ (by omega)
 generalize m / n = q at *
 generalize m % n = r at *
 have HO := Lib.hid (fun w => of_val 1 1 rfl (by unfold Bs; omega) w)
 have HA := Lib.hid (fun w => add_any q 1 (by omega) (Nat.le_trans (digs_length_iff (k := 1).2 (by unfold Bs; decide)) (by omega)) w)
 have HS := Lib.hid (fun w => sub_ge n r (by omega) (by omega) w)
 generalize q + 1 = q1 at *
 generalize n - r = r1 at *
 have HF := Lib.hid (fun w => from_any false q1 w)
 simp only [Bool.false_and] at HF
 have HG := Lib.hid (fun w => from_pos r1 w)
 rcases ne0 hr with e0 | ⟨e0, e1⟩
 all_goals clear hm hn h0 hlq hrn hr
 all_goals (
  replace hL0 := ((((hL0.new rfl [.int .u64 ((lo m : Nat) : Int), .string (hs m), .bool true] 32).new (K := w.heap.size + 1) (szA _ _) [.int .u64 ((lo n : Nat) : Int), .string (hs n), .bool true] 32).new (K := w.heap.size + 1 + 1) (by simp only [World.size_alloc]) [.int .u64 0, .string ⟨#[]⟩, .bool false] 32).new (K := w.heap.size + 1 + 1 + 1) (by simp only [World.size_alloc]) [.int .u64 0, .string ⟨#[]⟩, .bool false] 32)
  generalize hweq : ((((w.alloc (.cells #[.int .u64 ((lo m : Nat) : Int), .string (hs m), .bool true] 32)).alloc (.cells #[.int .u64 ((lo n : Nat) : Int), .string (hs n), .bool true] 32)).alloc (.cells #[.int .u64 0, .string ⟨#[]⟩, .bool false] 32)).alloc (.cells #[.int .u64 0, .string ⟨#[]⟩, .bool false] 32)) = x1 at hL0
  go_enter Tryz.func130, Tryz.ntmps130
  have hA := hL0.fc
  simp only [fcG, cellsF, neK, and_true, ne_eq, Nat.zero_add, Nat.reduceAdd] at hA
  go_wp2_with fail
  clear hA
  with_reducible refine Calls.mono (HD.out _) ?_
  rintro e x2 ⟨rfl, hb⟩
  replace hL0 := hL0.call hb
  clear hb hweq
  replace hL0 := ((hL0.new rfl [.int .u64 ((lo q : Nat) : Int), .string (hs q)] 30).new (K := x2.heap.size + 1) (szA _ _) [.int .u64 ((lo r : Nat) : Int), .string (hs r)] 30)
  generalize hweq : ((x2.alloc (.cells #[.int .u64 ((lo q : Nat) : Int), .string (hs q)] 30)).alloc (.cells #[.int .u64 ((lo r : Nat) : Int), .string (hs r)] 30)) = x3 at hL0
  have hA := hL0.fc
  simp only [fcG, cellsF, neK, and_true, ne_eq, Nat.zero_add, Nat.reduceAdd] at hA
  go_upto_region 5 with fail
  clear hA
  clear hweq
  obtain ⟨α, iα, F, hF1, hF2⟩ := cls x3
  have hq := GL.fcC hF1 hL0
  simp only [fcC, cellsC, and_true, Nat.zero_add, Nat.reduceAdd] at hq
  refine region_qs 3 (C := fun w' => ∃ x, w' = F x) (by kernel_rfl) (by kernel_rfl) (cls_drew hF2) ?_
  simp only [List.take_succ_cons, List.take_zero, List.drop_succ_cons, List.drop_zero, List.take_nil, List.drop_nil]
  repeat (go_big_quiet_step (first | fail | (go_at_call 63; with_reducible exact cls_call hF1 hF2 HO.out _) | (go_at_call 77; with_reducible exact cls_call hF1 hF2 HA.out _)))
  refine wpQuiet_nil ?_
  rintro wq ⟨xq, rfl⟩
  replace hL0 := hL0.call (hF1 xq)
  clear hq hF2
  generalize F xq = x4 at hL0 ⊢
  clear hF1 xq iα F α
  have hA := hL0.fc
  simp only [fcG, cellsF, neK, and_true, ne_eq, Nat.zero_add, Nat.reduceAdd] at hA
  have hP := hL0.put 1 (x2.heap.size) _ rfl [.int .u64 ((lo q1 : Nat) : Int), .string (hs q1)] rfl
  simp only [setAll, List.set_cons_zero, List.set_cons_succ] at hP
  generalize hput1 : ((x4.setCell ⟨x2.heap.size, 0, none⟩ (.int .u64 ((lo q1 : Nat) : Int))).setCell ⟨x2.heap.size, 1, none⟩ (.string (hs q1))) = x5 at hP
  have hB1 := hP.fc
  simp only [fcG, cellsF, neK, and_true, ne_eq, Nat.zero_add, Nat.reduceAdd] at hB1
  replace hL0 := hP
  go_wp2_with fail
  clear hA
  with_reducible refine Calls.mono (HS.out _) ?_
  rintro e x6 ⟨rfl, hb⟩
  replace hL0 := hL0.call hb
  clear hb hput1 hB1
  have hA := hL0.fc
  simp only [fcG, cellsF, neK, and_true, ne_eq, Nat.zero_add, Nat.reduceAdd] at hA
  have hP := hL0.put 0 (x2.heap.size + 1) _ rfl [.int .u64 ((lo r1 : Nat) : Int), .string (hs r1)] rfl
  simp only [setAll, List.set_cons_zero, List.set_cons_succ] at hP
  generalize hput2 : ((x6.setCell ⟨x2.heap.size + 1, 0, none⟩ (.int .u64 ((lo r1 : Nat) : Int))).setCell ⟨x2.heap.size + 1, 1, none⟩ (.string (hs r1))) = x7 at hP
  have hB2 := hP.fc
  simp only [fcG, cellsF, neK, and_true, ne_eq, Nat.zero_add, Nat.reduceAdd] at hB2
  replace hL0 := hP
  go_upto_region 7 with fail
  clear hA
  clear hput2 hB2
  obtain ⟨α, iα, F, hF1, hF2⟩ := cls x7
  have hq := GL.fcC hF1 hL0
  simp only [fcC, cellsC, and_true, Nat.zero_add, Nat.reduceAdd] at hq
  refine region_qs 9 (C := fun w' => ∃ x, w' = F x) (by kernel_rfl) (by kernel_rfl) (cls_drew hF2) ?_
  simp only [List.take_succ_cons, List.take_zero, List.drop_succ_cons, List.drop_zero, List.take_nil, List.drop_nil]
  repeat (go_big_quiet_step (first | fail | (go_at_call 93; with_reducible exact cls_call hF1 hF2 HF.out _) | (go_at_call 93; with_reducible exact cls_call hF1 hF2 HG.out _)))
  refine wpQuiet_nil ?_
  rintro wq ⟨xq, rfl⟩
  replace hL0 := hL0.call (hF1 xq)
  clear hq hF2
  generalize F xq = x8 at hL0 ⊢
  clear hF1 xq iα F α
  have hA := hL0.fc
  simp only [fcG, cellsF, neK, and_true, ne_eq, Nat.zero_add, Nat.reduceAdd] at hA
  have hP := hL0.put 3 (w.heap.size + 1 + 1) _ rfl [.int .u64 ((lo q1 : Nat) : Int), .string (hs q1), .bool false] rfl
  simp only [setAll, List.set_cons_zero, List.set_cons_succ] at hP
  generalize hput3 : (((x8.setCell ⟨w.heap.size + 1 + 1, 0, none⟩ (.int .u64 ((lo q1 : Nat) : Int))).setCell ⟨w.heap.size + 1 + 1, 1, none⟩ (.string (hs q1))).setCell ⟨w.heap.size + 1 + 1, 2, none⟩ (.bool false)) = x9 at hP
  have hB3 := hP.fc
  simp only [fcG, cellsF, neK, and_true, ne_eq, Nat.zero_add, Nat.reduceAdd] at hB3
  replace hL0 := hP
  have hP := hL0.put 2 (w.heap.size + 1 + 1 + 1) _ rfl [.int .u64 ((lo r1 : Nat) : Int), .string (hs r1), .bool false] rfl
  simp only [setAll, List.set_cons_zero, List.set_cons_succ] at hP
  generalize hput4 : (((x9.setCell ⟨w.heap.size + 1 + 1 + 1, 0, none⟩ (.int .u64 ((lo r1 : Nat) : Int))).setCell ⟨w.heap.size + 1 + 1 + 1, 1, none⟩ (.string (hs r1))).setCell ⟨w.heap.size + 1 + 1 + 1, 2, none⟩ (.bool false)) = x10 at hP
  have hB4 := hP.fc
  simp only [fcG, cellsF, neK, and_true, ne_eq, Nat.zero_add, Nat.reduceAdd] at hB4
  replace hL0 := hP
  go_wp2_with fail
  exact bodyPost_ret (v := .tuple #[zV false q1, zV false r1, .bool true]) (by simp [results, Tryz.results130, go_sem, hB4]) rfl ⟨rfl, hL0.bl⟩)
set_option maxHeartbeats 4000000 in
set_option maxRecDepth 100000 in
theorem idiv_true_false_1 (m n : Nat) (h0 : n ≠ 0) (hr : m % n = 0) (hm : (digs m).length ≤ 1000000000) (hn : (digs n).length ≤ 1000000000) (w : World) :
  Calls Tryz.prog 130 #[zV true m, zV false n] w fun e w' => e = .returned (.tuple #[zV (decide (m / n ≠ 0)) (m / n), zV false (0), .bool true]) ∧ Below w.heap.size w w' := by
 have hL0 : GL w w [] := GL.start w
 have HD := Lib.hid (fun w => div_pos m n (by omega) (by omega) w)
 have hlq : (digs (m / n)).length ≤ 1000000000 := Nat.le_trans (digs_mono (Nat.div_le_self m n)) hm
 have hrn : m % n < n := Nat.mod_lt _ (by omega)
 generalize m / n = q at *
 rw [hr] at HD
 clear hr hrn
 have e0 : (((lo 0 : Nat) : Int) == 0) = true := by rw [lo_small Bs_pos]; rfl
 have e1 : ((hs 0).toList == []) = true := by rw [hs_small Bs_pos, ByteArray.toList_eq]; rfl
 have HF := Lib.hid (fun w => from_any true q w)
 simp only [Bool.true_and] at HF
 obtain ⟨d, hd⟩ : ∃ d, d = decide (q ≠ 0) := ⟨_, rfl⟩
 rw [← hd] at HF ⊢
 clear hd
 have HG := Lib.hid (fun w => from_pos 0 w)
 clear hm hn h0 hlq
 replace hL0 := ((((hL0.new rfl [.int .u64 ((lo m : Nat) : Int), .string (hs m), .bool true] 32).new (K := w.heap.size + 1) (szA _ _) [.int .u64 ((lo n : Nat) : Int), .string (hs n), .bool false] 32).new (K := w.heap.size + 1 + 1) (by simp only [World.size_alloc]) [.int .u64 0, .string ⟨#[]⟩, .bool false] 32).new (K := w.heap.size + 1 + 1 + 1) (by simp only [World.size_alloc]) [.int .u64 0, .string ⟨#[]⟩, .bool false] 32)
 generalize hweq : ((((w.alloc (.cells #[.int .u64 ((lo m : Nat) : Int), .string (hs m), .bool true] 32)).alloc (.cells #[.int .u64 ((lo n : Nat) : Int), .string (hs n), .bool false] 32)).alloc (.cells #[.int .u64 0, .string ⟨#[]⟩, .bool false] 32)).alloc (.cells #[.int .u64 0, .string ⟨#[]⟩, .bool false] 32)) = x1 at hL0
 go_enter Tryz.func130, Tryz.ntmps130
 have hA := hL0.fc
 simp only [fcG, cellsF, neK, and_true, ne_eq, Nat.zero_add, Nat.reduceAdd] at hA
 go_wp2_with fail
 clear hA
 with_reducible refine Calls.mono (HD.out _) ?_
 rintro e x2 ⟨rfl, hb⟩
 replace hL0 := hL0.call hb
 clear hb hweq
 replace hL0 := ((hL0.new rfl [.int .u64 ((lo q : Nat) : Int), .string (hs q)] 30).new (K := x2.heap.size + 1) (szA _ _) [.int .u64 ((lo 0 : Nat) : Int), .string (hs 0)] 30)
 generalize hweq : ((x2.alloc (.cells #[.int .u64 ((lo q : Nat) : Int), .string (hs q)] 30)).alloc (.cells #[.int .u64 ((lo 0 : Nat) : Int), .string (hs 0)] 30)) = x3 at hL0
 have hA := hL0.fc
 simp only [fcG, cellsF, neK, and_true, ne_eq, Nat.zero_add, Nat.reduceAdd] at hA
 go_upto_region 7 with fail
 clear hA
 clear hweq
 obtain ⟨α, iα, F, hF1, hF2⟩ := cls x3
 have hq := GL.fcC hF1 hL0
 simp only [fcC, cellsC, and_true, Nat.zero_add, Nat.reduceAdd] at hq
 refine region_qs 9 (C := fun w' => ∃ x, w' = F x) (by kernel_rfl) (by kernel_rfl) (cls_drew hF2) ?_
 simp only [List.take_succ_cons, List.take_zero, List.drop_succ_cons, List.drop_zero, List.take_nil, List.drop_nil]
 repeat (go_big_quiet_step (first | fail | (go_at_call 93; with_reducible exact cls_call hF1 hF2 HF.out _) | (go_at_call 93; with_reducible exact cls_call hF1 hF2 HG.out _)))
 refine wpQuiet_nil ?_
 rintro wq ⟨xq, rfl⟩
 replace hL0 := hL0.call (hF1 xq)
 clear hq hF2
 generalize F xq = x4 at hL0 ⊢
 clear hF1 xq iα F α
 have hA := hL0.fc
 simp only [fcG, cellsF, neK, and_true, ne_eq, Nat.zero_add, Nat.reduceAdd] at hA
 have hP := hL0.put 3 (w.heap.size + 1 + 1) _ rfl [.int .u64 ((lo q : Nat) : Int), .string (hs q), .bool d] rfl
 simp only [setAll, List.set_cons_zero, List.set_cons_succ] at hP
 generalize hput1 : (((x4.setCell ⟨w.heap.size + 1 + 1, 0, none⟩ (.int .u64 ((lo q : Nat) : Int))).setCell ⟨w.heap.size + 1 + 1, 1, none⟩ (.string (hs q))).setCell ⟨w.heap.size + 1 + 1, 2, none⟩ (.bool d)) = x5 at hP
 have hB1 := hP.fc
 simp only [fcG, cellsF, neK, and_true, ne_eq, Nat.zero_add, Nat.reduceAdd] at hB1
 replace hL0 := hP
 have hP := hL0.put 2 (w.heap.size + 1 + 1 + 1) _ rfl [.int .u64 ((lo 0 : Nat) : Int), .string (hs 0), .bool false] rfl
 simp only [setAll, List.set_cons_zero, List.set_cons_succ] at hP
 generalize hput2 : (((x5.setCell ⟨w.heap.size + 1 + 1 + 1, 0, none⟩ (.int .u64 ((lo 0 : Nat) : Int))).setCell ⟨w.heap.size + 1 + 1 + 1, 1, none⟩ (.string (hs 0))).setCell ⟨w.heap.size + 1 + 1 + 1, 2, none⟩ (.bool false)) = x6 at hP
 have hB2 := hP.fc
 simp only [fcG, cellsF, neK, and_true, ne_eq, Nat.zero_add, Nat.reduceAdd] at hB2
 replace hL0 := hP
 go_wp2_with fail
 exact bodyPost_ret (v := .tuple #[zV d q, zV false 0, .bool true]) (by simp [results, Tryz.results130, go_sem, hB2]) rfl ⟨rfl, hL0.bl⟩
set_option maxHeartbeats 4000000 in
set_option maxRecDepth 100000 in
theorem idiv_true_false_2 (m n : Nat) (h0 : n ≠ 0) (hr : m % n ≠ 0) (hm : (digs m).length ≤ 1000000000) (hn : (digs n).length ≤ 1000000000) (w : World) :
  Calls Tryz.prog 130 #[zV true m, zV false n] w fun e w' => e = .returned (.tuple #[zV (decide (m / n + 1 ≠ 0)) (m / n + 1), zV false (n - m % n), .bool true]) ∧ Below w.heap.size w w' := by
 have hL0 : GL w w [] := GL.start w
 have HD := Lib.hid (fun w => div_pos m n (by omega) (by omega) w)
 have hlq : (digs (m / n)).length ≤ 1000000000 := Nat.le_trans (digs_mono (Nat.div_le_self m n)) hm
 have hrn : m % n < n := Nat.mod_lt _ (by omega)
 generalize m / n = q at *
 generalize m % n = r at *
 have HO := Lib.hid (fun w => of_val 1 1 rfl (by unfold Bs; omega) w)
 have HA := Lib.hid (fun w => add_any q 1 (by omega) (Nat.le_trans (digs_length_iff (k := 1).2 (by unfold Bs; decide)) (by omega)) w)
 have HS := Lib.hid (fun w => sub_ge n r (by omega) (by omega) w)
 generalize q + 1 = q1 at *
 generalize n - r = r1 at *
 have HF := Lib.hid (fun w => from_any true q1 w)
 simp only [Bool.true_and] at HF
 obtain ⟨d, hd⟩ : ∃ d, d = decide (q1 ≠ 0) := ⟨_, rfl⟩
 rw [← hd] at HF ⊢
 clear hd
 have HG := Lib.hid (fun w => from_pos r1 w)
 rcases ne0 hr with e0 | ⟨e0, e1⟩
 all_goals clear hm hn h0 hlq hrn hr
 all_goals (
  replace hL0 := ((((hL0.new rfl [.int .u64 ((lo m : Nat) : Int), .string (hs m), .bool true] 32).new (K := w.heap.size + 1) (szA _ _) [.int .u64 ((lo n : Nat) : Int), .string (hs n), .bool false] 32).new (K := w.heap.size + 1 + 1) (by simp only [World.size_alloc]) [.int .u64 0, .string ⟨#[]⟩, .bool false] 32).new (K := w.heap.size + 1 + 1 + 1) (by simp only [World.size_alloc]) [.int .u64 0, .string ⟨#[]⟩, .bool false] 32)
  generalize hweq : ((((w.alloc (.cells #[.int .u64 ((lo m : Nat) : Int), .string (hs m), .bool true] 32)).alloc (.cells #[.int .u64 ((lo n : Nat) : Int), .string (hs n), .bool false] 32)).alloc (.cells #[.int .u64 0, .string ⟨#[]⟩, .bool false] 32)).alloc (.cells #[.int .u64 0, .string ⟨#[]⟩, .bool false] 32)) = x1 at hL0
  go_enter Tryz.func130, Tryz.ntmps130
  have hA := hL0.fc
  simp only [fcG, cellsF, neK, and_true, ne_eq, Nat.zero_add, Nat.reduceAdd] at hA
  go_wp2_with fail
  clear hA
  with_reducible refine Calls.mono (HD.out _) ?_
  rintro e x2 ⟨rfl, hb⟩
  replace hL0 := hL0.call hb
  clear hb hweq
  replace hL0 := ((hL0.new rfl [.int .u64 ((lo q : Nat) : Int), .string (hs q)] 30).new (K := x2.heap.size + 1) (szA _ _) [.int .u64 ((lo r : Nat) : Int), .string (hs r)] 30)
  generalize hweq : ((x2.alloc (.cells #[.int .u64 ((lo q : Nat) : Int), .string (hs q)] 30)).alloc (.cells #[.int .u64 ((lo r : Nat) : Int), .string (hs r)] 30)) = x3 at hL0
  have hA := hL0.fc
  simp only [fcG, cellsF, neK, and_true, ne_eq, Nat.zero_add, Nat.reduceAdd] at hA
  go_upto_region 5 with fail
  clear hA
  clear hweq
  obtain ⟨α, iα, F, hF1, hF2⟩ := cls x3
  have hq := GL.fcC hF1 hL0
  simp only [fcC, cellsC, and_true, Nat.zero_add, Nat.reduceAdd] at hq
  refine region_qs 3 (C := fun w' => ∃ x, w' = F x) (by kernel_rfl) (by kernel_rfl) (cls_drew hF2) ?_
  simp only [List.take_succ_cons, List.take_zero, List.drop_succ_cons, List.drop_zero, List.take_nil, List.drop_nil]
  repeat (go_big_quiet_step (first | fail | (go_at_call 63; with_reducible exact cls_call hF1 hF2 HO.out _) | (go_at_call 77; with_reducible exact cls_call hF1 hF2 HA.out _)))
  refine wpQuiet_nil ?_
  rintro wq ⟨xq, rfl⟩
  replace hL0 := hL0.call (hF1 xq)
  clear hq hF2
  generalize F xq = x4 at hL0 ⊢
  clear hF1 xq iα F α
  have hA := hL0.fc
  simp only [fcG, cellsF, neK, and_true, ne_eq, Nat.zero_add, Nat.reduceAdd] at hA
  have hP := hL0.put 1 (x2.heap.size) _ rfl [.int .u64 ((lo q1 : Nat) : Int), .string (hs q1)] rfl
  simp only [setAll, List.set_cons_zero, List.set_cons_succ] at hP
  generalize hput1 : ((x4.setCell ⟨x2.heap.size, 0, none⟩ (.int .u64 ((lo q1 : Nat) : Int))).setCell ⟨x2.heap.size, 1, none⟩ (.string (hs q1))) = x5 at hP
  have hB1 := hP.fc
  simp only [fcG, cellsF, neK, and_true, ne_eq, Nat.zero_add, Nat.reduceAdd] at hB1
  replace hL0 := hP
  go_wp2_with fail
  clear hA
  with_reducible refine Calls.mono (HS.out _) ?_
  rintro e x6 ⟨rfl, hb⟩
  replace hL0 := hL0.call hb
  clear hb hput1 hB1
  have hA := hL0.fc
  simp only [fcG, cellsF, neK, and_true, ne_eq, Nat.zero_add, Nat.reduceAdd] at hA
  have hP := hL0.put 0 (x2.heap.size + 1) _ rfl [.int .u64 ((lo r1 : Nat) : Int), .string (hs r1)] rfl
  simp only [setAll, List.set_cons_zero, List.set_cons_succ] at hP
  generalize hput2 : ((x6.setCell ⟨x2.heap.size + 1, 0, none⟩ (.int .u64 ((lo r1 : Nat) : Int))).setCell ⟨x2.heap.size + 1, 1, none⟩ (.string (hs r1))) = x7 at hP
  have hB2 := hP.fc
  simp only [fcG, cellsF, neK, and_true, ne_eq, Nat.zero_add, Nat.reduceAdd] at hB2
  replace hL0 := hP
  go_upto_region 7 with fail
  clear hA
  clear hput2 hB2
  obtain ⟨α, iα, F, hF1, hF2⟩ := cls x7
  have hq := GL.fcC hF1 hL0
  simp only [fcC, cellsC, and_true, Nat.zero_add, Nat.reduceAdd] at hq
  refine region_qs 9 (C := fun w' => ∃ x, w' = F x) (by kernel_rfl) (by kernel_rfl) (cls_drew hF2) ?_
  simp only [List.take_succ_cons, List.take_zero, List.drop_succ_cons, List.drop_zero, List.take_nil, List.drop_nil]
  repeat (go_big_quiet_step (first | fail | (go_at_call 93; with_reducible exact cls_call hF1 hF2 HF.out _) | (go_at_call 93; with_reducible exact cls_call hF1 hF2 HG.out _)))
  refine wpQuiet_nil ?_
  rintro wq ⟨xq, rfl⟩
  replace hL0 := hL0.call (hF1 xq)
  clear hq hF2
  generalize F xq = x8 at hL0 ⊢
  clear hF1 xq iα F α
  have hA := hL0.fc
  simp only [fcG, cellsF, neK, and_true, ne_eq, Nat.zero_add, Nat.reduceAdd] at hA
  have hP := hL0.put 3 (w.heap.size + 1 + 1) _ rfl [.int .u64 ((lo q1 : Nat) : Int), .string (hs q1), .bool d] rfl
  simp only [setAll, List.set_cons_zero, List.set_cons_succ] at hP
  generalize hput3 : (((x8.setCell ⟨w.heap.size + 1 + 1, 0, none⟩ (.int .u64 ((lo q1 : Nat) : Int))).setCell ⟨w.heap.size + 1 + 1, 1, none⟩ (.string (hs q1))).setCell ⟨w.heap.size + 1 + 1, 2, none⟩ (.bool d)) = x9 at hP
  have hB3 := hP.fc
  simp only [fcG, cellsF, neK, and_true, ne_eq, Nat.zero_add, Nat.reduceAdd] at hB3
  replace hL0 := hP
  have hP := hL0.put 2 (w.heap.size + 1 + 1 + 1) _ rfl [.int .u64 ((lo r1 : Nat) : Int), .string (hs r1), .bool false] rfl
  simp only [setAll, List.set_cons_zero, List.set_cons_succ] at hP
  generalize hput4 : (((x9.setCell ⟨w.heap.size + 1 + 1 + 1, 0, none⟩ (.int .u64 ((lo r1 : Nat) : Int))).setCell ⟨w.heap.size + 1 + 1 + 1, 1, none⟩ (.string (hs r1))).setCell ⟨w.heap.size + 1 + 1 + 1, 2, none⟩ (.bool false)) = x10 at hP
  have hB4 := hP.fc
  simp only [fcG, cellsF, neK, and_true, ne_eq, Nat.zero_add, Nat.reduceAdd] at hB4
  replace hL0 := hP
  go_wp2_with fail
  exact bodyPost_ret (v := .tuple #[zV d q1, zV false r1, .bool true]) (by simp [results, Tryz.results130, go_sem, hB4]) rfl ⟨rfl, hL0.bl⟩)
set_option maxHeartbeats 4000000 in
set_option maxRecDepth 100000 in
theorem idiv_false_true (m n : Nat) (h0 : n ≠ 0) (hm : (digs m).length ≤ 1000000000) (hn : (digs n).length ≤ 1000000000) (w : World) :
  Calls Tryz.prog 130 #[zV false m, zV true n] w fun e w' => e = .returned (.tuple #[zV (decide (m / n ≠ 0)) (m / n), zV false (m % n), .bool true]) ∧ Below w.heap.size w w' := by
 have hL0 : GL w w [] := GL.start w
 have HD := Lib.hid (fun w => div_pos m n (by omega) (by omega) w)
 have hlq : (digs (m / n)).length ≤ 1000000000 := Nat.le_trans (digs_mono (Nat.div_le_self m n)) hm
 have hrn : m % n < n := Nat.mod_lt _ (by omega)
 generalize m / n = q at *
 generalize m % n = r at *
 have HF := Lib.hid (fun w => from_any true q w)
 simp only [Bool.true_and] at HF
 obtain ⟨d, hd⟩ : ∃ d, d = decide (q ≠ 0) := ⟨_, rfl⟩
 rw [← hd] at HF ⊢
 clear hd
 have HG := Lib.hid (fun w => from_pos r w)
 clear hm hn h0 hlq hrn
 replace hL0 := ((((hL0.new rfl [.int .u64 ((lo m : Nat) : Int), .string (hs m), .bool false] 32).new (K := w.heap.size + 1) (szA _ _) [.int .u64 ((lo n : Nat) : Int), .string (hs n), .bool true] 32).new (K := w.heap.size + 1 + 1) (by simp only [World.size_alloc]) [.int .u64 0, .string ⟨#[]⟩, .bool false] 32).new (K := w.heap.size + 1 + 1 + 1) (by simp only [World.size_alloc]) [.int .u64 0, .string ⟨#[]⟩, .bool false] 32)
 generalize hweq : ((((w.alloc (.cells #[.int .u64 ((lo m : Nat) : Int), .string (hs m), .bool false] 32)).alloc (.cells #[.int .u64 ((lo n : Nat) : Int), .string (hs n), .bool true] 32)).alloc (.cells #[.int .u64 0, .string ⟨#[]⟩, .bool false] 32)).alloc (.cells #[.int .u64 0, .string ⟨#[]⟩, .bool false] 32)) = x1 at hL0
 go_enter Tryz.func130, Tryz.ntmps130
 have hA := hL0.fc
 simp only [fcG, cellsF, neK, and_true, ne_eq, Nat.zero_add, Nat.reduceAdd] at hA
 go_wp2_with fail
 clear hA
 with_reducible refine Calls.mono (HD.out _) ?_
 rintro e x2 ⟨rfl, hb⟩
 replace hL0 := hL0.call hb
 clear hb hweq
 replace hL0 := ((hL0.new rfl [.int .u64 ((lo q : Nat) : Int), .string (hs q)] 30).new (K := x2.heap.size + 1) (szA _ _) [.int .u64 ((lo r : Nat) : Int), .string (hs r)] 30)
 generalize hweq : ((x2.alloc (.cells #[.int .u64 ((lo q : Nat) : Int), .string (hs q)] 30)).alloc (.cells #[.int .u64 ((lo r : Nat) : Int), .string (hs r)] 30)) = x3 at hL0
 have hA := hL0.fc
 simp only [fcG, cellsF, neK, and_true, ne_eq, Nat.zero_add, Nat.reduceAdd] at hA
 go_upto_region 7 with fail
 clear hA
 clear hweq
 obtain ⟨α, iα, F, hF1, hF2⟩ := cls x3
 have hq := GL.fcC hF1 hL0
 simp only [fcC, cellsC, and_true, Nat.zero_add, Nat.reduceAdd] at hq
 refine region_qs 9 (C := fun w' => ∃ x, w' = F x) (by kernel_rfl) (by kernel_rfl) (cls_drew hF2) ?_
 simp only [List.take_succ_cons, List.take_zero, List.drop_succ_cons, List.drop_zero, List.take_nil, List.drop_nil]
 repeat (go_big_quiet_step (first | fail | (go_at_call 93; with_reducible exact cls_call hF1 hF2 HF.out _) | (go_at_call 93; with_reducible exact cls_call hF1 hF2 HG.out _)))
 refine wpQuiet_nil ?_
 rintro wq ⟨xq, rfl⟩
 replace hL0 := hL0.call (hF1 xq)
 clear hq hF2
 generalize F xq = x4 at hL0 ⊢
 clear hF1 xq iα F α
 have hA := hL0.fc
 simp only [fcG, cellsF, neK, and_true, ne_eq, Nat.zero_add, Nat.reduceAdd] at hA
 have hP := hL0.put 3 (w.heap.size + 1 + 1) _ rfl [.int .u64 ((lo q : Nat) : Int), .string (hs q), .bool d] rfl
 simp only [setAll, List.set_cons_zero, List.set_cons_succ] at hP
 generalize hput1 : (((x4.setCell ⟨w.heap.size + 1 + 1, 0, none⟩ (.int .u64 ((lo q : Nat) : Int))).setCell ⟨w.heap.size + 1 + 1, 1, none⟩ (.string (hs q))).setCell ⟨w.heap.size + 1 + 1, 2, none⟩ (.bool d)) = x5 at hP
 have hB1 := hP.fc
 simp only [fcG, cellsF, neK, and_true, ne_eq, Nat.zero_add, Nat.reduceAdd] at hB1
 replace hL0 := hP
 have hP := hL0.put 2 (w.heap.size + 1 + 1 + 1) _ rfl [.int .u64 ((lo r : Nat) : Int), .string (hs r), .bool false] rfl
 simp only [setAll, List.set_cons_zero, List.set_cons_succ] at hP
 generalize hput2 : (((x5.setCell ⟨w.heap.size + 1 + 1 + 1, 0, none⟩ (.int .u64 ((lo r : Nat) : Int))).setCell ⟨w.heap.size + 1 + 1 + 1, 1, none⟩ (.string (hs r))).setCell ⟨w.heap.size + 1 + 1 + 1, 2, none⟩ (.bool false)) = x6 at hP
 have hB2 := hP.fc
 simp only [fcG, cellsF, neK, and_true, ne_eq, Nat.zero_add, Nat.reduceAdd] at hB2
 replace hL0 := hP
 go_wp2_with fail
 exact bodyPost_ret (v := .tuple #[zV d q, zV false r, .bool true]) (by simp [results, Tryz.results130, go_sem, hB2]) rfl ⟨rfl, hL0.bl⟩
set_option maxHeartbeats 4000000 in
set_option maxRecDepth 100000 in
theorem idiv_false_false (m n : Nat) (h0 : n ≠ 0) (hm : (digs m).length ≤ 1000000000) (hn : (digs n).length ≤ 1000000000) (w : World) :
  Calls Tryz.prog 130 #[zV false m, zV false n] w fun e w' => e = .returned (.tuple #[zV false (m / n), zV false (m % n), .bool true]) ∧ Below w.heap.size w w' := by
 have hL0 : GL w w [] := GL.start w
 have HD := Lib.hid (fun w => div_pos m n (by omega) (by omega) w)
 have hlq : (digs (m / n)).length ≤ 1000000000 := Nat.le_trans (digs_mono (Nat.div_le_self m n)) hm
 have hrn : m % n < n := Nat.mod_lt _ (by omega)
 generalize m / n = q at *
 generalize m % n = r at *
 have HF := Lib.hid (fun w => from_any false q w)
 simp only [Bool.false_and] at HF
 have HG := Lib.hid (fun w => from_pos r w)
 clear hm hn h0 hlq hrn
 replace hL0 := ((((hL0.new rfl [.int .u64 ((lo m : Nat) : Int), .string (hs m), .bool false] 32).new (K := w.heap.size + 1) (szA _ _) [.int .u64 ((lo n : Nat) : Int), .string (hs n), .bool false] 32).new (K := w.heap.size + 1 + 1) (by simp only [World.size_alloc]) [.int .u64 0, .string ⟨#[]⟩, .bool false] 32).new (K := w.heap.size + 1 + 1 + 1) (by simp only [World.size_alloc]) [.int .u64 0, .string ⟨#[]⟩, .bool false] 32)
 generalize hweq : ((((w.alloc (.cells #[.int .u64 ((lo m : Nat) : Int), .string (hs m), .bool false] 32)).alloc (.cells #[.int .u64 ((lo n : Nat) : Int), .string (hs n), .bool false] 32)).alloc (.cells #[.int .u64 0, .string ⟨#[]⟩, .bool false] 32)).alloc (.cells #[.int .u64 0, .string ⟨#[]⟩, .bool false] 32)) = x1 at hL0
 go_enter Tryz.func130, Tryz.ntmps130
 have hA := hL0.fc
 simp only [fcG, cellsF, neK, and_true, ne_eq, Nat.zero_add, Nat.reduceAdd] at hA
 go_wp2_with fail
 clear hA
 with_reducible refine Calls.mono (HD.out _) ?_
 rintro e x2 ⟨rfl, hb⟩
 replace hL0 := hL0.call hb
 clear hb hweq
 replace hL0 := ((hL0.new rfl [.int .u64 ((lo q : Nat) : Int), .string (hs q)] 30).new (K := x2.heap.size + 1) (szA _ _) [.int .u64 ((lo r : Nat) : Int), .string (hs r)] 30)
 generalize hweq : ((x2.alloc (.cells #[.int .u64 ((lo q : Nat) : Int), .string (hs q)] 30)).alloc (.cells #[.int .u64 ((lo r : Nat) : Int), .string (hs r)] 30)) = x3 at hL0
 have hA := hL0.fc
 simp only [fcG, cellsF, neK, and_true, ne_eq, Nat.zero_add, Nat.reduceAdd] at hA
 go_upto_region 7 with fail
 clear hA
 clear hweq
 obtain ⟨α, iα, F, hF1, hF2⟩ := cls x3
 have hq := GL.fcC hF1 hL0
 simp only [fcC, cellsC, and_true, Nat.zero_add, Nat.reduceAdd] at hq
 refine region_qs 9 (C := fun w' => ∃ x, w' = F x) (by kernel_rfl) (by kernel_rfl) (cls_drew hF2) ?_
 simp only [List.take_succ_cons, List.take_zero, List.drop_succ_cons, List.drop_zero, List.take_nil, List.drop_nil]
 repeat (go_big_quiet_step (first | fail | (go_at_call 93; with_reducible exact cls_call hF1 hF2 HF.out _) | (go_at_call 93; with_reducible exact cls_call hF1 hF2 HG.out _)))
 refine wpQuiet_nil ?_
 rintro wq ⟨xq, rfl⟩
 replace hL0 := hL0.call (hF1 xq)
 clear hq hF2
 generalize F xq = x4 at hL0 ⊢
 clear hF1 xq iα F α
 have hA := hL0.fc
 simp only [fcG, cellsF, neK, and_true, ne_eq, Nat.zero_add, Nat.reduceAdd] at hA
 have hP := hL0.put 3 (w.heap.size + 1 + 1) _ rfl [.int .u64 ((lo q : Nat) : Int), .string (hs q), .bool false] rfl
 simp only [setAll, List.set_cons_zero, List.set_cons_succ] at hP
 generalize hput1 : (((x4.setCell ⟨w.heap.size + 1 + 1, 0, none⟩ (.int .u64 ((lo q : Nat) : Int))).setCell ⟨w.heap.size + 1 + 1, 1, none⟩ (.string (hs q))).setCell ⟨w.heap.size + 1 + 1, 2, none⟩ (.bool false)) = x5 at hP
 have hB1 := hP.fc
 simp only [fcG, cellsF, neK, and_true, ne_eq, Nat.zero_add, Nat.reduceAdd] at hB1
 replace hL0 := hP
 have hP := hL0.put 2 (w.heap.size + 1 + 1 + 1) _ rfl [.int .u64 ((lo r : Nat) : Int), .string (hs r), .bool false] rfl
 simp only [setAll, List.set_cons_zero, List.set_cons_succ] at hP
 generalize hput2 : (((x5.setCell ⟨w.heap.size + 1 + 1 + 1, 0, none⟩ (.int .u64 ((lo r : Nat) : Int))).setCell ⟨w.heap.size + 1 + 1 + 1, 1, none⟩ (.string (hs r))).setCell ⟨w.heap.size + 1 + 1 + 1, 2, none⟩ (.bool false)) = x6 at hP
 have hB2 := hP.fc
 simp only [fcG, cellsF, neK, and_true, ne_eq, Nat.zero_add, Nat.reduceAdd] at hB2
 replace hL0 := hP
 go_wp2_with fail
 exact bodyPost_ret (v := .tuple #[zV false q, zV false r, .bool true]) (by simp [results, Tryz.results130, go_sem, hB2]) rfl ⟨rfl, hL0.bl⟩
end Go.Proofs.YtdkjckiialnpnaaGreatDoor
namespace Go.Proofs.YtdkjckiialnpnaaGreatDoor
open Go.RowKit
attribute [local irreducible] lo hs sm s64 c64 d64 b64 mh ml pd pc qd qc val hiB str cmpI srD lz nb isq
set_option maxHeartbeats 4000000 in
set_option maxRecDepth 100000 in
theorem i64_true_big (m : Nat) (h : Bs ≤ m) (w : World) :
  Calls Tryz.prog 131 #[zV true m] w fun e w' => e = .returned (.tuple #[.int .i64 0, .bool false]) ∧ Below w.heap.size w w' := by
 have hL0 : GL w w [] := GL.start w
 have HU := Lib.hid (fun w => u64_big m h w)
 clear h
 replace hL0 := (hL0.new rfl [.int .u64 ((lo m : Nat) : Int), .string (hs m), .bool true] 32)
 generalize hweq : (w.alloc (.cells #[.int .u64 ((lo m : Nat) : Int), .string (hs m), .bool true] 32)) = x1 at hL0
 go_enter Tryz.func131, Tryz.ntmps131
 have hA := hL0.fc
 simp only [fcG, cellsF, neK, and_true, ne_eq, Nat.zero_add, Nat.reduceAdd] at hA
 go_wp2_with fail
 clear hA
 with_reducible refine Calls.mono (HU.out _) ?_
 rintro e x2 ⟨rfl, hb⟩
 replace hL0 := hL0.call hb
 clear hb hweq
 have hA := hL0.fc
 simp only [fcG, cellsF, neK, and_true, ne_eq, Nat.zero_add, Nat.reduceAdd] at hA
 go_wp2_with fail
 exact bodyPost_ret (v := .tuple #[.int .i64 0, .bool false]) (by simp [results, Tryz.results131, go_sem, hA]) rfl ⟨rfl, hL0.bl⟩
set_option maxHeartbeats 4000000 in
set_option maxRecDepth 100000 in
theorem i64_true_out (m : Nat) (h : m < Bs) (h1 : (9223372036854775808 : Int) < (m : Int)) (w : World) :
  Calls Tryz.prog 131 #[zV true m] w fun e w' => e = .returned (.tuple #[.int .i64 0, .bool false]) ∧ Below w.heap.size w w' := by
 have hL0 : GL w w [] := GL.start w
 have HU := Lib.hid (fun w => u64_small m h w)
 have k1 : decide ((m : Int) ≤ 9223372036854775808) = false := decide_eq_false (by omega)
 clear h h1
 replace hL0 := (hL0.new rfl [.int .u64 ((lo m : Nat) : Int), .string (hs m), .bool true] 32)
 generalize hweq : (w.alloc (.cells #[.int .u64 ((lo m : Nat) : Int), .string (hs m), .bool true] 32)) = x1 at hL0
 go_enter Tryz.func131, Tryz.ntmps131
 have hA := hL0.fc
 simp only [fcG, cellsF, neK, and_true, ne_eq, Nat.zero_add, Nat.reduceAdd] at hA
 go_wp2_with fail
 clear hA
 with_reducible refine Calls.mono (HU.out _) ?_
 rintro e x2 ⟨rfl, hb⟩
 replace hL0 := hL0.call hb
 clear hb hweq
 have hA := hL0.fc
 simp only [fcG, cellsF, neK, and_true, ne_eq, Nat.zero_add, Nat.reduceAdd] at hA
 go_wp2_with fail
 exact bodyPost_ret (v := .tuple #[.int .i64 0, .bool false]) (by simp [results, Tryz.results131, go_sem, hA]) rfl ⟨rfl, hL0.bl⟩
set_option maxHeartbeats 4000000 in
set_option maxRecDepth 100000 in
theorem i64_false_big (m : Nat) (h : Bs ≤ m) (w : World) :
  Calls Tryz.prog 131 #[zV false m] w fun e w' => e = .returned (.tuple #[.int .i64 0, .bool false]) ∧ Below w.heap.size w w' := by
 have hL0 : GL w w [] := GL.start w
 have HU := Lib.hid (fun w => u64_big m h w)
 clear h
 replace hL0 := (hL0.new rfl [.int .u64 ((lo m : Nat) : Int), .string (hs m), .bool false] 32)
 generalize hweq : (w.alloc (.cells #[.int .u64 ((lo m : Nat) : Int), .string (hs m), .bool false] 32)) = x1 at hL0
 go_enter Tryz.func131, Tryz.ntmps131
 have hA := hL0.fc
 simp only [fcG, cellsF, neK, and_true, ne_eq, Nat.zero_add, Nat.reduceAdd] at hA
 go_wp2_with fail
 clear hA
 with_reducible refine Calls.mono (HU.out _) ?_
 rintro e x2 ⟨rfl, hb⟩
 replace hL0 := hL0.call hb
 clear hb hweq
 have hA := hL0.fc
 simp only [fcG, cellsF, neK, and_true, ne_eq, Nat.zero_add, Nat.reduceAdd] at hA
 go_wp2_with fail
 exact bodyPost_ret (v := .tuple #[.int .i64 0, .bool false]) (by simp [results, Tryz.results131, go_sem, hA]) rfl ⟨rfl, hL0.bl⟩
set_option maxHeartbeats 4000000 in
set_option maxRecDepth 100000 in
theorem i64_false_out (m : Nat) (h : m < Bs) (h1 : (9223372036854775807 : Int) < (m : Int)) (w : World) :
  Calls Tryz.prog 131 #[zV false m] w fun e w' => e = .returned (.tuple #[.int .i64 0, .bool false]) ∧ Below w.heap.size w w' := by
 have hL0 : GL w w [] := GL.start w
 have HU := Lib.hid (fun w => u64_small m h w)
 have k1 : decide ((m : Int) ≤ 9223372036854775807) = false := decide_eq_false (by omega)
 clear h h1
 replace hL0 := (hL0.new rfl [.int .u64 ((lo m : Nat) : Int), .string (hs m), .bool false] 32)
 generalize hweq : (w.alloc (.cells #[.int .u64 ((lo m : Nat) : Int), .string (hs m), .bool false] 32)) = x1 at hL0
 go_enter Tryz.func131, Tryz.ntmps131
 have hA := hL0.fc
 simp only [fcG, cellsF, neK, and_true, ne_eq, Nat.zero_add, Nat.reduceAdd] at hA
 go_wp2_with fail
 clear hA
 with_reducible refine Calls.mono (HU.out _) ?_
 rintro e x2 ⟨rfl, hb⟩
 replace hL0 := hL0.call hb
 clear hb hweq
 have hA := hL0.fc
 simp only [fcG, cellsF, neK, and_true, ne_eq, Nat.zero_add, Nat.reduceAdd] at hA
 go_wp2_with fail
 exact bodyPost_ret (v := .tuple #[.int .i64 0, .bool false]) (by simp [results, Tryz.results131, go_sem, hA]) rfl ⟨rfl, hL0.bl⟩
set_option maxHeartbeats 4000000 in
set_option maxRecDepth 100000 in
theorem i64_false_in (m : Nat) (h : m < Bs) (h1 : (m : Int) ≤ 9223372036854775807) (w : World) :
  Calls Tryz.prog 131 #[zV false m] w fun e w' => e = .returned (.tuple #[.int .i64 (m : Int), .bool true]) ∧ Below w.heap.size w w' := by
 have hL0 : GL w w [] := GL.start w
 have HU := Lib.hid (fun w => u64_small m h w)
 have k1 : decide ((m : Int) ≤ 9223372036854775807) = true := decide_eq_true h1
 have kw : IntKind.i64.wrap (m : Int) = (m : Int) := IntWalk.i64_in _ (by omega)
 clear h h1
 replace hL0 := (hL0.new rfl [.int .u64 ((lo m : Nat) : Int), .string (hs m), .bool false] 32)
 generalize hweq : (w.alloc (.cells #[.int .u64 ((lo m : Nat) : Int), .string (hs m), .bool false] 32)) = x1 at hL0
 go_enter Tryz.func131, Tryz.ntmps131
 have hA := hL0.fc
 simp only [fcG, cellsF, neK, and_true, ne_eq, Nat.zero_add, Nat.reduceAdd] at hA
 go_wp2_with fail
 clear hA
 with_reducible refine Calls.mono (HU.out _) ?_
 rintro e x2 ⟨rfl, hb⟩
 replace hL0 := hL0.call hb
 clear hb hweq
 have hA := hL0.fc
 simp only [fcG, cellsF, neK, and_true, ne_eq, Nat.zero_add, Nat.reduceAdd] at hA
 go_wp2_with fail
 exact bodyPost_ret (v := .tuple #[.int .i64 (m : Int), .bool true]) (by simp [results, Tryz.results131, go_sem, hA]) rfl ⟨rfl, hL0.bl⟩
set_option maxHeartbeats 4000000 in
set_option maxRecDepth 100000 in
theorem i64_true_in (m : Nat) (h : m < Bs) (h1 : (m : Int) ≤ 9223372036854775808) (h2 : m ≠ 0) (w : World) :
  Calls Tryz.prog 131 #[zV true m] w fun e w' => e = .returned (.tuple #[.int .i64 (-(m : Int)), .bool true]) ∧ Below w.heap.size w w' := by
 have hL0 : GL w w [] := GL.start w
 have HU := Lib.hid (fun w => u64_small m h w)
 have k1 : decide ((m : Int) ≤ 9223372036854775808) = true := decide_eq_true h1
 obtain ⟨q, hq⟩ : ∃ q : Nat, (q : Int) = 18446744073709551616 - m := ⟨(18446744073709551616 - (m : Int)).toNat, by omega⟩
 have kw : IntKind.u64.wrap (-(m : Int)) = (q : Int) := by rw [IntKind.wrap_u64]; omega
 have kw2 : IntKind.i64.wrap (q : Int) = -(m : Int) := by rw [IntKind.wrap_i64]; omega
 clear hq
 clear h h1 h2
 replace hL0 := (hL0.new rfl [.int .u64 ((lo m : Nat) : Int), .string (hs m), .bool true] 32)
 generalize hweq : (w.alloc (.cells #[.int .u64 ((lo m : Nat) : Int), .string (hs m), .bool true] 32)) = x1 at hL0
 go_enter Tryz.func131, Tryz.ntmps131
 have hA := hL0.fc
 simp only [fcG, cellsF, neK, and_true, ne_eq, Nat.zero_add, Nat.reduceAdd] at hA
 go_wp2_with fail
 clear hA
 with_reducible refine Calls.mono (HU.out _) ?_
 rintro e x2 ⟨rfl, hb⟩
 replace hL0 := hL0.call hb
 clear hb hweq
 have hA := hL0.fc
 simp only [fcG, cellsF, neK, and_true, ne_eq, Nat.zero_add, Nat.reduceAdd] at hA
 go_wp2_with fail
 exact bodyPost_ret (v := .tuple #[.int .i64 (-(m : Int)), .bool true]) (by simp [results, Tryz.results131, go_sem, hA]) rfl ⟨rfl, hL0.bl⟩
end Go.Proofs.YtdkjckiialnpnaaGreatDoor
namespace Go.Proofs.YtdkjckiialnpnaaGreatDoor
open Go.RowKit
attribute [local irreducible] lo hs
def zl (z : Int) : Nat := lo z.natAbs
def zh (z : Int) : ByteArray := hs z.natAbs
def zs (z : Int) : Bool := decide (z < 0)
/-- An integer. -/
abbrev intV (z : Int) : Value := .agg #[.int .u64 ((zl z : Nat) : Int), .string (zh z), .bool (zs z)]
theorem intV_zV (z : Int) : intV z = zV (decide (z < 0)) z.natAbs := rfl
theorem res_f {z : Int} {k : Nat} (h : z = (k : Int)) : intV z = zV false k := by subst h; rw [intV_zV, decide_eq_false (by omega), Int.natAbs_natCast]
theorem res_m {z : Int} {k : Nat} (h : z = -(k : Int)) : intV z = zV (decide (k ≠ 0)) k := by
 subst h
 rw [intV_zV, Int.natAbs_neg, Int.natAbs_natCast]
 congr 1
 by_cases h0 : k = 0
 ·subst h0; rfl
 ·rw [decide_eq_true (by omega), decide_eq_true h0]
theorem res_t {z : Int} {k : Nat} (h : z = -(k : Int)) (h0 : k ≠ 0) : intV z = zV true k := by rw [res_m h, decide_eq_true h0]
theorem int_cases (z : Int) : (∃ m : Nat, z = (m : Int) ∧ intV z = zV false m) ∨ (∃ m : Nat, m ≠ 0 ∧ z = -(m : Int) ∧ intV z = zV true m) := by
 rcases Decidable.em (z < 0) with h | h
 ·exact .inr ⟨z.natAbs, by omega, by omega, res_t (by omega) (by omega)⟩
 ·exact .inl ⟨z.natAbs, by omega, res_f (by omega)⟩
/-- The words that an integer's absolute value takes. -/
abbrev dI (z : Int) : Nat := (digs z.natAbs).length
theorem dI_nat (n : Nat) : dI (n : Int) = (digs n).length := by unfold dI; rw [Int.natAbs_natCast]
theorem dI_neg (z : Int) : dI (-z) = dI z := by unfold dI; rw [Int.natAbs_neg]
theorem dI_add {x y : Int} {k : Nat} (hx : dI x ≤ k) (hy : dI y ≤ k) : dI (x + y) ≤ k + 1 :=
 Nat.le_trans (digs_mono (Int.natAbs_add_le x y)) (digs_add_le hx hy)
theorem dI_sub {x y : Int} {k : Nat} (hx : dI x ≤ k) (hy : dI y ≤ k) : dI (x - y) ≤ k + 1 := by
 rw [Int.sub_eq_add_neg]; exact dI_add hx (by rw [dI_neg]; exact hy)
theorem dI_mul {x y : Int} {k m : Nat} (hx : dI x ≤ k) (hy : dI y ≤ m) : dI (x * y) ≤ k + m := by
 unfold dI; rw [Int.natAbs_mul]; exact digs_mul_le hx hy
theorem dI_mono {x y : Int} (h : x.natAbs ≤ y.natAbs) : dI x ≤ dI y := digs_mono h
theorem fromI (s : Bool) (n : Nat) (z : Int) (hz : z = if s then -(n : Int) else (n : Int)) (w : World) : Calls Tryz.prog 93 #[.bool s, natV n] w fun e w' => e = .returned (intV z) ∧ Below w.heap.size w w' := by
 cases s with
 | false => rw [res_f (z := z) (by simpa using hz)]; exact from_pos n w
 | true =>
  rw [res_m (z := z) (by simpa using hz)]
  have := from_any true n w
  rwa [Bool.true_and] at this
theorem ofI (z : Int) (h1 : -9223372036854775808 ≤ z) (h2 : z < 9223372036854775808) (w : World) : Calls Tryz.prog 92 #[.int .i64 z] w fun e w' => e = .returned (intV z) ∧ Below w.heap.size w w' := by
 rcases Decidable.em (z < 0) with h | h
 ·obtain ⟨m, hm⟩ : ∃ m : Nat, z = -(m : Int) := ⟨z.natAbs, by omega⟩
  rw [res_t hm (by omega)]; exact ofn_any z m hm (by omega) (by omega) w
 ·obtain ⟨m, rfl⟩ : ∃ m : Nat, z = (m : Int) := ⟨z.natAbs, by omega⟩
  rw [res_f rfl]; exact ofp_any m (by omega) w
theorem absI (z : Int) (w : World) : Calls Tryz.prog 78 #[intV z] w fun e w' => e = .returned (natV z.natAbs) ∧ Below w.heap.size w w' := abs_any _ _ w
def sgn (z : Int) : Int := if z < 0 then -1 else if z = 0 then 0 else 1
theorem signI (z : Int) (w : World) : Calls Tryz.prog 95 #[intV z] w fun e w' => e = .returned (.int .i64 (sgn z)) ∧ Below w.heap.size w w' := by
 rcases int_cases z with ⟨m, rfl, h⟩ | ⟨m, h0, rfl, h⟩ <;> rw [h]
 ·by_cases h0 : m = 0
  ·subst h0; exact sign_zero w
  ·rw [show sgn (m : Int) = 1 by unfold sgn; rw [if_neg (by omega), if_neg (by omega)]]; exact sign_pos m h0 w
 ·rw [show sgn (-(m : Int)) = -1 by unfold sgn; rw [if_pos (by omega)]]; exact sign_neg m w
theorem negI (z : Int) (w : World) : Calls Tryz.prog 94 #[intV z] w fun e w' => e = .returned (intV (-z)) ∧ Below w.heap.size w w' := by
 rcases int_cases z with ⟨m, rfl, h⟩ | ⟨m, h0, rfl, h⟩ <;> rw [h]
 ·rw [res_m (z := -(m : Int)) rfl]; exact neg_false m w
 ·rw [res_f (z := -(-(m : Int))) (k := m) (by omega)]; exact neg_true m w
theorem intV_zero : intV 0 = zV false 0 := res_f rfl
theorem div0I (x : Int) (w : World) : Calls Tryz.prog 130 #[intV x, intV 0] w fun e w' => e = .returned (.tuple #[intV 0, intV 0, .bool false]) ∧ Below w.heap.size w w' := by
 rcases int_cases x with ⟨m, rfl, ex⟩ | ⟨m, hm, rfl, ex⟩ <;> rw [ex, intV_zero]
 ·exact idiv0_false m w
 ·exact idiv0_true m w
theorem ediv_neg_pos {m n : Nat} (h0 : n ≠ 0) (hr : m % n ≠ 0) : -(m : Int) / (n : Int) = -((m / n + 1 : Nat) : Int) ∧ -(m : Int) % (n : Int) = ((n - m % n : Nat) : Int) := by
 have h1 := Nat.div_add_mod m n
 have h2 := Nat.mod_lt m (Nat.pos_of_ne_zero h0)
 refine (Int.ediv_emod_unique (by omega)).2 ⟨?_, by omega, by omega⟩
 have h3 : (m : Int) = (n : Int) * ((m / n : Nat) : Int) + ((m % n : Nat) : Int) := by
  have := congrArg (fun x : Nat => (x : Int)) h1
  simpa using this.symm
 have h4 : (n : Int) * -((m / n + 1 : Nat) : Int) = -((n : Int) * ((m / n : Nat) : Int)) - (n : Int) := by
  rw [Int.mul_neg, Int.natCast_add, Int.mul_add]; omega
 rw [h4]
 generalize (n : Int) * ((m / n : Nat) : Int) = X at *
 omega
theorem ediv_neg_zero {m n : Nat} (h0 : n ≠ 0) (hr : m % n = 0) : -(m : Int) / (n : Int) = -((m / n : Nat) : Int) ∧ -(m : Int) % (n : Int) = 0 := by
 have h1 := Nat.div_add_mod m n
 refine (Int.ediv_emod_unique (by omega)).2 ⟨?_, by omega, by omega⟩
 rw [hr, Nat.add_zero] at h1
 have h3 : (m : Int) = (n : Int) * ((m / n : Nat) : Int) := by
  have := congrArg (fun x : Nat => (x : Int)) h1
  simpa using this.symm
 rw [Int.mul_neg]
 omega
theorem divI (x y : Int) (h0 : y ≠ 0) (hx : dI x ≤ 1000000000) (hy : dI y ≤ 1000000000) (w : World) : Calls Tryz.prog 130 #[intV x, intV y] w fun e w' => e = .returned (.tuple #[intV (x / y), intV (x % y), .bool true]) ∧ Below w.heap.size w w' := by
 rcases int_cases x with ⟨m, rfl, ex⟩ | ⟨m, hm, rfl, ex⟩ <;> rcases int_cases y with ⟨n, rfl, ey⟩ | ⟨n, hn, rfl, ey⟩ <;> rw [ex, ey] <;> simp only [dI_neg, dI_nat] at hx hy
 ·rw [← Int.natCast_ediv, ← Int.natCast_emod, res_f (k := m / n) rfl, res_f (k := m % n) rfl]; exact idiv_false_false m n (by omega) hx hy w
 ·rw [Int.ediv_neg, Int.emod_neg, ← Int.natCast_ediv, ← Int.natCast_emod, res_m (k := m / n) rfl, res_f (k := m % n) rfl]; exact idiv_false_true m n hn hx hy w
 ·by_cases hr : m % n = 0
  ·obtain ⟨e1, e2⟩ := ediv_neg_zero (m := m) (n := n) (by omega) hr
   rw [e1, e2, res_m (k := m / n) rfl, intV_zero]; exact idiv_true_false_1 m n (by omega) hr hx hy w
  ·obtain ⟨e1, e2⟩ := ediv_neg_pos (m := m) (n := n) (by omega) hr
   rw [e1, e2, res_m (k := m / n + 1) rfl, res_f (k := n - m % n) rfl]; exact idiv_true_false_2 m n (by omega) hr hx hy w
 ·rw [Int.ediv_neg, Int.emod_neg]
  by_cases hr : m % n = 0
  ·obtain ⟨e1, e2⟩ := ediv_neg_zero (m := m) (n := n) hn hr
   rw [e1, e2, res_f (k := m / n) (Int.neg_neg _), intV_zero]; exact idiv_true_true_1 m n hn hr hx hy w
  ·obtain ⟨e1, e2⟩ := ediv_neg_pos (m := m) (n := n) hn hr
   rw [e1, e2, res_f (k := m / n + 1) (Int.neg_neg _), res_f (k := n - m % n) rfl]; exact idiv_true_true_2 m n hn hr hx hy w
def in64 (z : Int) : Bool := decide (-9223372036854775808 ≤ z ∧ z ≤ 9223372036854775807)
theorem i64I (z : Int) (w : World) : Calls Tryz.prog 131 #[intV z] w fun e w' => e = .returned (.tuple #[.int .i64 (if in64 z then z else 0), .bool (in64 z)]) ∧ Below w.heap.size w w' := by
 have hB : (Bs : Int) = 18446744073709551616 := rfl
 rcases int_cases z with ⟨m, rfl, h⟩ | ⟨m, h0, rfl, h⟩ <;> rw [h]
 ·by_cases h1 : (m : Int) ≤ 9223372036854775807
  ·rw [show in64 (m : Int) = true from decide_eq_true ⟨by omega, h1⟩, if_pos rfl]
   exact i64_false_in m (by omega) h1 w
  ·rw [show in64 (m : Int) = false from decide_eq_false (fun h => h1 h.2), if_neg Bool.false_ne_true]
   by_cases h2 : m < Bs
   ·exact i64_false_out m h2 (by omega) w
   ·exact i64_false_big m (by omega) w
 ·by_cases h1 : (m : Int) ≤ 9223372036854775808
  ·rw [show in64 (-(m : Int)) = true from decide_eq_true ⟨by omega, by omega⟩, if_pos rfl]
   exact i64_true_in m (by omega) h1 h0 w
  ·rw [show in64 (-(m : Int)) = false from decide_eq_false (fun h => h1 (by omega)), if_neg Bool.false_ne_true]
   by_cases h2 : m < Bs
   ·exact i64_true_out m h2 (by omega) w
   ·exact i64_true_big m (by omega) w
end Go.Proofs.YtdkjckiialnpnaaGreatDoor
namespace Go.Proofs.YtdkjckiialnpnaaGreatDoor
open Go.RowKit
attribute [local irreducible] lo hs
/-- The document's recursion. -/
def xgcd (a b : Int) : Int × Int × Int :=
 if h : b = 0 then ((a.natAbs : Int), sgn a, 0)
 else let r := xgcd b (a % b); (r.1, r.2.2, r.2.1 - a / b * r.2.2)
termination_by b.natAbs
decreasing_by
 have h1 := Int.emod_lt a h
 have h2 := Int.emod_nonneg a h
 omega
theorem xgcd_zero (a : Int) : xgcd a 0 = ((a.natAbs : Int), sgn a, 0) := by rw [xgcd]; simp
theorem xgcd_step {a b : Int} (h : b ≠ 0) : xgcd a b = ((xgcd b (a % b)).1, (xgcd b (a % b)).2.2, (xgcd b (a % b)).2.1 - a / b * (xgcd b (a % b)).2.2) := by rw [xgcd, dif_neg h]
theorem sgn_mul (a : Int) : sgn a * a = (a.natAbs : Int) := by unfold sgn; split <;> (try split) <;> simp <;> omega
theorem xgcd_bez : ∀ (n : Nat) (a b : Int), b.natAbs ≤ n → a * (xgcd a b).2.1 + b * (xgcd a b).2.2 = (xgcd a b).1 ∧ (xgcd a b).1 = (Nat.gcd a.natAbs b.natAbs : Nat) := by
 intro n
 induction n with
 | zero =>
  intro a b h
  obtain rfl : b = 0 := by omega
  rw [xgcd_zero]
  refine ⟨?_, by simp⟩
  have := sgn_mul a
  show a * sgn a + 0 * 0 = (a.natAbs : Int)
  rw [Int.mul_comm]; omega
 | succ n ih =>
  intro a b h
  by_cases hb : b = 0
  ·subst hb
   rw [xgcd_zero]
   refine ⟨?_, by simp⟩
   have := sgn_mul a
   show a * sgn a + 0 * 0 = (a.natAbs : Int)
   rw [Int.mul_comm]; omega
  ·have h1 := Int.emod_lt a hb
   have h2 := Int.emod_nonneg a hb
   obtain ⟨i1, i2⟩ := ih b (a % b) (by omega)
   rw [xgcd_step hb]
   refine ⟨?_, ?_⟩
   ·show a * (xgcd b (a % b)).2.2 + b * ((xgcd b (a % b)).2.1 - a / b * (xgcd b (a % b)).2.2) = (xgcd b (a % b)).1
    rw [← i1]
    have h3 := Int.mul_ediv_add_emod a b
    generalize (xgcd b (a % b)).2.1 = p
    generalize (xgcd b (a % b)).2.2 = q
    generalize a % b = r at *
    generalize a / b = c at *
    grind
   ·show (xgcd b (a % b)).1 = _
    rw [i2]
    show ((Int.gcd b (a % b) : Nat) : Int) = ((Int.gcd a b : Nat) : Int)
    congr 1
    rw [Int.emod_def, Int.gcd_sub_mul_left_right, Int.gcd_comm]
/-- What the rounds keep. -/
structure GI (a b G X N Y : Int) : Prop where
 g : (xgcd a b).1 = (xgcd G N).1
 x : (xgcd a b).2.1 = (xgcd G N).2.1 * X + (xgcd G N).2.2 * Y
 s : (G = a ∧ X = 1 ∧ N = b ∧ Y = 0) ∨ (G = b ∧ X = 0 ∧ Y = 1 ∧ 0 ≤ N ∧ N < b.natAbs) ∨
  (0 < G ∧ 0 ≤ N ∧ N < G ∧ X.natAbs ≤ 3 * b.natAbs ∧ X.natAbs * N.natAbs + Y.natAbs * G.natAbs ≤ 3 * b.natAbs ∧ G ≤ b.natAbs)
theorem GI.start (a b : Int) : GI a b a 1 b 0 := ⟨rfl, by omega, .inl ⟨rfl, rfl, rfl, rfl⟩⟩
theorem GI.next {a b G X N Y : Int} (h : GI a b G X N Y) (hN : N ≠ 0) : GI a b N Y (G % N) (X - G / N * Y) := by
 have e := xgcd_step (a := G) hN
 have n1 := Int.emod_lt G hN
 have n2 := Int.emod_nonneg G hN
 have n3 := Int.mul_ediv_add_emod G N
 refine ⟨by rw [h.g, e], ?_, ?_⟩
 ·rw [h.x, e]
  show (xgcd N (G % N)).2.2 * X + ((xgcd N (G % N)).2.1 - G / N * (xgcd N (G % N)).2.2) * Y = _
  generalize (xgcd N (G % N)).2.1 = p
  generalize (xgcd N (G % N)).2.2 = q
  generalize G / N = c
  grind
 ·rcases h.s with ⟨rfl, rfl, rfl, rfl⟩ | ⟨rfl, rfl, rfl, h1, h2⟩ | ⟨h1, h2, h3, h4, h5, h6⟩
  ·exact .inr (.inl ⟨rfl, rfl, by omega, n2, n1⟩)
  ·refine .inr (.inr ⟨by omega, n2, by omega, by omega, ?_, by omega⟩)
   generalize hr : G % N = r at *
   generalize hq : G / N = q at *
   have e1 : (0 - q * 1).natAbs * N.natAbs = (N * q).natAbs := by rw [Int.natAbs_mul, Nat.mul_comm]; congr 1; omega
   have e2 : N * q = G - r := by omega
   rw [e1, e2]
   rw [show (1 : Int).natAbs = 1 from rfl, Nat.one_mul]
   omega
  ·have y1 : Y.natAbs ≤ 3 * b.natAbs := by
    have : Y.natAbs * 1 ≤ Y.natAbs * G.natAbs := Nat.mul_le_mul_left _ (by omega)
    omega
   refine .inr (.inr ⟨by omega, n2, by omega, y1, ?_, by omega⟩)
   have q0 : 0 ≤ G / N := Int.ediv_nonneg (by omega) (by omega)
   generalize hr : G % N = r at *
   generalize hq : G / N = q at *
   refine Nat.le_trans ?_ h5
   have t1 : (X - q * Y).natAbs ≤ X.natAbs + q.natAbs * Y.natAbs := by
    have := Int.natAbs_sub_le X (q * Y)
    rwa [Int.natAbs_mul] at this
   have t2 := Nat.mul_le_mul_right N.natAbs t1
   have t3 : G.natAbs = N.natAbs * q.natAbs + r.natAbs := by
    have : (N * q).natAbs = N.natAbs * q.natAbs := Int.natAbs_mul _ _
    have h0 : 0 ≤ N * q := Int.mul_nonneg (by omega) q0
    omega
   rw [t3, Nat.mul_add]
   rw [Nat.add_mul] at t2
   have t4 : Y.natAbs * (N.natAbs * q.natAbs) = q.natAbs * Y.natAbs * N.natAbs := by
    rw [Nat.mul_comm q.natAbs, Nat.mul_assoc, Nat.mul_comm q.natAbs]
   omega
theorem GI.bounds {a b G X N Y : Int} (h : GI a b G X N Y) {k : Nat} (ha : dI a ≤ k) (hb : dI b ≤ k) : dI G ≤ k ∧ dI N ≤ k ∧ dI X ≤ k + 1 ∧ (N ≠ 0 → dI Y ≤ k + 1) := by
 have h3 : ∀ z : Int, z.natAbs ≤ 3 * b.natAbs + 1 → dI z ≤ k + 1 := fun z hz => by
  have := digs_length_iff.1 hb
  refine digs_length_iff.2 ?_
  rw [Nat.pow_succ]
  have hB : 16 ≤ Bs := by unfold Bs; omega
  have hp : 0 < Bs ^ k := Nat.pow_pos (by omega)
  have h5 : Bs ^ k * 16 ≤ Bs ^ k * Bs := Nat.mul_le_mul_left _ hB
  generalize Bs ^ k = P at *
  generalize P * Bs = R at *
  omega
 rcases h.s with ⟨rfl, rfl, rfl, rfl⟩ | ⟨rfl, rfl, rfl, h1, h2⟩ | ⟨h1, h2, h3', h4, h5, h6⟩
 ·exact ⟨ha, hb, h3 1 (by omega), fun _ => h3 0 (by omega)⟩
 ·exact ⟨hb, Nat.le_trans (dI_mono (by omega)) hb, h3 0 (by omega), fun _ => h3 1 (by omega)⟩
 ·refine ⟨Nat.le_trans (dI_mono (by omega)) hb, Nat.le_trans (dI_mono (by omega)) hb, h3 X (by omega), fun _ => h3 Y ?_⟩
  have : Y.natAbs * 1 ≤ Y.natAbs * G.natAbs := Nat.mul_le_mul_left _ (by omega)
  omega
theorem xgcd_y {a b : Int} (hb : b ≠ 0) : ((xgcd a b).1 - a * (xgcd a b).2.1) / b = (xgcd a b).2.2 := by
 have h := (xgcd_bez _ a b (Nat.le_refl _)).1
 rw [show (xgcd a b).1 - a * (xgcd a b).2.1 = b * (xgcd a b).2.2 by omega]
 exact Int.mul_ediv_cancel_left _ hb
theorem GI.last {a b G X Y : Int} (h : GI a b G X 0 Y) : (xgcd a b).1 = sgn G * G ∧ (xgcd a b).2.1 = sgn G * X := by
 refine ⟨by rw [h.g, xgcd_zero, sgn_mul], ?_⟩
 rw [h.x, xgcd_zero]
 show sgn G * X + 0 * Y = _
 omega
end Go.Proofs.YtdkjckiialnpnaaGreatDoor
namespace Go.Proofs.YtdkjckiialnpnaaGreatDoor
open Go.RowKit Go.Proofs.YtdkjckiialnpnaaGreatDoor.Rx
def tln (n : Nat) : Nat := (td n).length
theorem rn_form {w : World} {v : Value} {n : Nat} (h : Rn w v n) : ∃ ao c, v = .slice ao (tln n) c := h.form
theorem rz_form {w : World} {v : Value} {z : Int} (h : RZ w v z) : ∃ ao c, v = .agg #[.bool (zs z), .slice ao (tln z.natAbs) c] := by
 obtain ⟨u, rfl, hu⟩ := h
 obtain ⟨ao, c, rfl⟩ := rn_form hu
 exact ⟨ao, c, rfl⟩
theorem rz_of {w : World} {ao : Option Addr} {c : Nat} {z : Int} (h : Rn w (.slice ao (tln z.natAbs) c) z.natAbs) : RZ w (.agg #[.bool (zs z), .slice ao (tln z.natAbs) c]) z := ⟨_, rfl, h⟩
theorem rz_rn {w : World} {b : Value} {s : Value} {z : Int} (h : RZ w (.agg #[b, s]) z) : Rn w s z.natAbs := by
 obtain ⟨u, h1, hu⟩ := h
 simp only [Value.agg.injEq, Array.mk.injEq, List.cons.injEq, and_true] at h1
 rw [h1.2]; exact hu
/-- The slices of digits that a call has got hold of. -/
def SS (W : World) (S : List (Value × Nat)) : Prop := ∀ p ∈ S, Rn W p.1 p.2
theorem SS.nil (W : World) : SS W [] := fun p hp => by cases hp
theorem SS.call {W W' : World} {S : List (Value × Nat)} (h : SS W S) (hb : Below W.heap.size W W') : SS W' S := fun p hp => Sl.below (h p hp) hb
theorem SS.new {W : World} {S : List (Value × Nat)} (h : SS W S) (o : Obj) : SS (W.alloc o) S := h.call ((Below.refl _ _).alloc (Nat.le_refl _) o)
theorem SS.cons {W : World} {S : List (Value × Nat)} (h : SS W S) {v : Value} {n : Nat} (hv : Rn W v n) : SS W ((v, n) :: S) := fun p hp => by
 rcases List.mem_cons.1 hp with rfl | hp
 ·exact hv
 ·exact h p hp
theorem SS.put {W W' : World} {S : List (Value × Nat)} (h : SS W S) {k : Nat} {c : List Value} (hu : Upd k W W') (hd : Hd W k c) (hc : ∀ v ∈ c, ∀ n, v ≠ .int .i64 n) : SS W' S := fun p hp => sl_upd (h p hp) hu hd hc
theorem SS.drew {W : World} {S : List (Value × Nat)} (h : SS W S) : SS W.drew S := fun p hp => Sl.drew (h p hp)
theorem SS.get {W : World} {S : List (Value × Nat)} (h : SS W S) {v : Value} {n : Nat} (hm : (v, n) ∈ S) : Rn W v n := h _ hm
theorem stays_rn (n : Nat) : Stays (fun u w => Rn w u n) := fun _ _ _ hb h => Sl.below h hb
theorem stays_rz (z : Int) : Stays (fun u w => RZ w u z) := fun _ _ _ hb h => h.below hb
theorem stays_rz2 (x y : Int) : Stays (fun u w => ∃ a b, u = .tuple #[a, b] ∧ RZ w a x ∧ RZ w b y) := fun _ _ _ hb ⟨a, b, h1, h2, h3⟩ => ⟨a, b, h1, h2.below hb, h3.below hb⟩
/-- A new box. -/
def NewB (B : Nat) (c : List Value) (u : Value) (w : World) : Prop := ∃ k, u = .pointer (some ⟨k, 0, none⟩) ∧ Hd w k c ∧ B ≤ k
theorem stays_new (B : Nat) (c : List Value) : Stays (NewB B c) := fun _ _ _ hb ⟨k, h1, h2, h3⟩ => ⟨k, h1, h2.below hb, h3⟩
theorem NewB.ptr {B : Nat} {c : List Value} {u : Value} {w : World} (h : NewB B c u w) : ∃ k, u = .pointer (some ⟨k, 0, none⟩) ∧ k < w.heap.size := by
 obtain ⟨k, h1, h2, _⟩ := h
 exact ⟨k, h1, h2.lt⟩
theorem tyAt_new {P : Program} {ops : Array Oper} {o : Oper} {a : Act} {w : World} {B : Nat} {c : List Value} {e t : TypeId} (hg : o.guard = none) (he : o.op = .alloc e) (hr : ∀ w, (Instr.alloc e true (.tuple #[])).run P w = .ok (.pointer (some ⟨w.heap.size, 0, none⟩)) (w.alloc (.cells c.toArray t)))
  (hB : B ≤ w.heap.size) : TyAt P ops o a w (NewB B c) := by
 refine tyAt_none hg ?_
 rw [alloc_run he hr]
 exact ⟨(Below.refl _ _).alloc (Nat.le_refl _) _, _, rfl, hd_new w c t, hB⟩
theorem tyAt_yes {P : Program} {ops : Array Oper} {o : Oper} {a : Act} {w : World} {T : Value → World → Prop} (hg : Region.wanted o (yielded ops a.tmps) = true) (h : tyUpon P w T ((execOp a.eval o).run P w)) : TyAt P ops o a w T := by
 unfold TyAt
 rw [if_pos hg]; exact h
/-- The boxes with one that a typed region has made. -/
theorem GL.tnew {w0 x W : World} {L M : List (Nat × List Value)} {c : List Value} {k : Nat} (h : GL w0 W (M ++ L)) (hx : GL w0 x L) (hd : Hd W k c) (hB : x.heap.size ≤ k) (hM : ∀ p ∈ M, p.1 ≠ k) : GL w0 W ((k, c) :: (M ++ L)) := by
 refine ⟨h.bl, fun p hp => ?_, ?_⟩
 ·rcases List.mem_cons.1 hp with rfl | hp
  ·exact ⟨Nat.le_trans hx.bl.size hB, hd⟩
  ·exact h.all p hp
 ·rw [List.map_cons, List.nodup_cons]
  refine ⟨fun hm => ?_, h.nd⟩
  obtain ⟨q, hq, he⟩ := List.mem_map.1 hm
  rcases List.mem_append.1 hq with hq | hq
  ·exact hM q hq he
  ·have := (hx.all q hq).2.lt
   simp only at he
   omega
theorem ptr_ne {v1 v2 : Value} {a b : Nat} (h1 : v1 = .pointer (some ⟨a, 0, none⟩)) (h2 : v2 = .pointer (some ⟨b, 0, none⟩)) (h : v1 ≠ v2) : a ≠ b := fun e => h (by rw [h1, h2, e])
/-- A typed region's properties, in short. -/
abbrev EV (v : Value) : Value → World → Prop := fun u _ => u = v
abbrev PZ (x : Int) : Value → World → Prop := fun u w => RZ w u x
abbrev PN (n : Nat) : Value → World → Prop := fun u w => Rn w u n
theorem LC {l : List Nat} {a : Nat} (h : l.contains a = true) : a ∈ l := List.contains_iff_mem.1 h
end Go.Proofs.YtdkjckiialnpnaaGreatDoor
namespace Go.Proofs.YtdkjckiialnpnaaGreatDoor
open Go.RowKit
section
variable {P : Program} {ops : Array Oper} {C : World → Prop}
/-- As tyB, but the store n does not wait for the operation i0. -/
def lateB (n i0 : Nat) (l : List Oper) : Bool :=
 ((List.range l.length).all fun j => decide (j < n) || ((List.range n).all fun i => (decide (j = n) && decide (i = i0)) || (ancOf .any l.toArray j).contains i) && (decide (j = n) || (ancOf .any l.toArray j).contains n)) &&
 decide (i0 < n) && decide (n < l.length) &&
 match l[n]?, l[i0]? with
 | some o, some q => o.guard.isNone && o.dst.isNone && q.guard.isNone && (o.looksAt l.toArray).all fun t => !(q.dst == some t)
 | _, _ => false
theorem lateB_parts {n i0 : Nat} {l : List Oper} (h : lateB n i0 l = true) : i0 < n ∧ n < l.length ∧ ∃ o q, l[n]? = some o ∧ l[i0]? = some q ∧ o.guard = none ∧ o.dst = none ∧ q.guard = none ∧ ∀ t ∈ o.looksAt l.toArray, q.dst ≠ some t := by
 simp only [lateB, Bool.and_eq_true, decide_eq_true_eq] at h
 obtain ⟨⟨⟨-, h1⟩, h2⟩, h3⟩ := h
 refine ⟨h1, h2, ?_⟩
 split at h3
 ·rename_i o q ho hq
  simp only [Bool.and_eq_true, Option.isNone_iff_eq_none, List.all_eq_true, Bool.not_eq_true', beq_eq_false_iff_ne] at h3
  exact ⟨o, q, ho, hq, h3.1.1.1, h3.1.1.2, h3.1.2, h3.2⟩
 ·cases h3
theorem anc_listed {ops : Array Oper} {listed : Array Bool} {j : Nat} (h : closedL .any ops listed) (hj : j ∈ Region.ready .any ops listed) {i : Nat} (hi : (ancOf .any ops j).contains i = true) : listed.getD i false = true := by
 obtain ⟨-, o, ho, hall⟩ := mem_ready.1 hj
 have hp : ∀ x ∈ predsOf .any ops j, listed.getD x false = true := by
  intro x hx
  unfold predsOf at hx
  simp only [ho, List.mem_map, List.mem_filter] at hx
  obtain ⟨e, ⟨he, hb⟩, rfl⟩ := hx
  exact hall e (by simpa using he) hb
 exact fold_listed h _ _ hp i (List.contains_iff_mem.1 hi)
theorem lateB_at {n i0 : Nat} {l : List Oper} {listed : Array Bool} {j : Nat} (hB : lateB n i0 l = true) (h : closedL .any l.toArray listed) (hj : j ∈ Region.ready .any l.toArray listed) (hn : ¬ j < n) :
  (∀ i, i < n → ¬ (j = n ∧ i = i0) → listed.getD i false = true) ∧ (j ≠ n → listed.getD n false = true) := by
 obtain ⟨-, o, ho, -⟩ := mem_ready.1 hj
 have hjs : j < l.length := by simpa using (Array.getElem?_eq_some_iff.1 ho).1
 simp only [lateB, Bool.and_eq_true] at hB
 have h1 := List.all_eq_true.1 hB.1.1.1 j (List.mem_range.2 hjs)
 simp only [Bool.or_eq_true, Bool.and_eq_true, decide_eq_true_eq, List.all_eq_true, List.mem_range] at h1
 rcases h1 with h1 | ⟨h1, h2⟩
 ·exact absurd h1 hn
 ·refine ⟨fun i hi hne => ?_, fun hne => ?_⟩
  ·rcases h1 i hi with h3 | h3
   ·exact absurd h3 hne
   ·exact anc_listed h hj h3
  ·rcases h2 with h3 | h3
   ·exact absurd h3 hne
   ·exact anc_listed h hj h3
theorem lateB_bar {n i0 : Nat} {l : List Oper} {listed : Array Bool} {j : Nat} (hB : lateB n i0 l = true) (h : closedL .any l.toArray listed) (hj : j ∈ Region.ready .any l.toArray listed) (hd : doneN n listed = false) (hn : ¬ j < n) :
  n = j ∧ ∀ i, i < n → i ≠ i0 → listed.getD i false = true := by
 obtain ⟨h1, h2⟩ := lateB_at hB h hj hn
 by_cases e : j = n
 ·exact ⟨e.symm, fun i hi hne => h1 i hi fun hh => hne hh.2⟩
 ·have : doneN n listed = true := doneN_iff.2 fun i hi => h1 i hi fun hh => e hh.1
  rw [hd] at this; cases this
theorem late_step {n s i0 : Nat} {l : List Oper} {T : Nat → Value → World → Prop} {w0 : World} {a0 : Act} {Q : Exit → Act → World → Prop} {A : Nat → Bool} (hsel : Region.noSelect l.toArray = true) (hn : n ≤ l.length)
  (hB : lateB n i0 l = true) (hN : nodupD (l.take n) = true) (hD : depB l.toArray n = true)
  (hlate : ∀ v w, Below w0.heap.size w0 w → (∀ i, i < n → i ≠ i0 → T i (v i) w) → ∃ w1 u, (∀ o, l[n]? = some o → (execOp (putsV (l.take n) 0 v a0).eval o).run P w = .ok .skip w1) ∧ (∀ o, l[i0]? = some o → (execOp (putsV (l.take n) 0 v a0).eval o).run P w1 = .ok (.value u) w1) ∧ T i0 u w) (hA0 : A i0 = false)
  (hend : ∀ v w, Below w0.heap.size w0 w → (∀ i, i < n → T i (v i) w) → (∀ i j, i < n → j < n → i ≠ j → A i = true → A j = true → v i ≠ v j) → wpAny P .any l.toArray Q s (canonL l.length n) (putsV (l.take n) 0 v a0) w)
  {m : Nat} {listed : Array Bool} {v : Nat → Value} {w : World} (hl : left n listed = m + 1) (hc : closedL .any l.toArray listed) (hu : sufL n l.toArray listed) (hb : Below w0.heap.size w0 w)
  (ht : ∀ i, i < n → listed.getD i false = true → T i (v i) w) (hne : ∀ i j, i < n → j < n → i ≠ j → A i = true → A j = true → listed.getD i false = true → listed.getD j false = true → v i ≠ v j)
  (hj : n ∈ Region.ready .any l.toArray listed) (hall : ∀ i, i < n → i ≠ i0 → listed.getD i false = true) :
  wpOp P l.toArray Q n (wpAny P .any l.toArray Q (s + m) (listed.setIfInBounds n true)) (putsIf (l.take n) 0 (fun i => listed.getD i false) v a0) w := by
 have hlen : (l.take n).length = n := by rw [List.length_take]; omega
 obtain ⟨hi0, hnl, o, q, ho, hq, go, od, gq, hlook⟩ := lateB_parts hB
 have hi0u : listed.getD i0 false = false := by
  rcases Bool.eq_false_or_eq_true (listed.getD i0 false) with h | h
  ·exfalso
   have : doneN n listed = true := doneN_iff.2 fun i hi => by
    by_cases e : i = i0
    ·subst e; exact h
    ·exact hall i hi e
   rw [left_some hl] at this; cases this
  ·exact h
 have hi0s : i0 < listed.size := by rw [hu.1]; simp; omega
 have hns : n < listed.size := by rw [hu.1]; simp; omega
 have hin0 : i0 ≠ n := by omega
 -- the rest of the first n
 have hm0 : left n (listed.setIfInBounds i0 true) = m := left_set (ops := l.toArray) hu.1 hi0 (by simp; omega) hi0u hl
 have hd0 : doneN n (listed.setIfInBounds i0 true) = true := doneN_iff.2 fun i hi => by
  by_cases e : i = i0
  ·subst e; simp [hi0s]
  ·rw [getD_set_ne false fun h => e h.symm]; exact hall i hi e
 have hm : m = 0 := by
  rw [← hm0]; unfold left
  exact List.countP_eq_zero.2 fun i hi => by simp [doneN_iff.1 hd0 i (List.mem_range.1 hi)]
 subst hm
 obtain ⟨w1, u, hs, hx, hTu⟩ := hlate v w hb fun i hi hne => ht i hi (hall i hi hne)
 replace hs := hs o ho
 replace hx := hx q hq
 have hsel' : ∀ cs b, o.op ≠ .select cs b := fun cs b => Region.noSelect_spec hsel n o cs b (by simpa using ho)
 have hselq : ∀ cs b, q.op ≠ .select cs b := fun cs b => Region.noSelect_spec hsel i0 q cs b (by simpa using hq)
 have hpre0 : ∀ p ∈ predsOf .any l.toArray i0, listed.getD p false = true := fun p hp => by
  have := depB_pred hD hi0 hp
  exact hall p (by omega) (by omega)
 -- what both look at
 have hagn : ∀ (x : Nat → Value) (b : Nat → Bool), (∀ i, i ≠ i0 → i < n → b i = true) → (∀ i, i ≠ i0 → x i = v i) → ∀ t ∈ o.looksAt l.toArray, (putsIf (l.take n) 0 b x a0).tmps[t]? = (putsV (l.take n) 0 v a0).tmps[t]? := by
  intro x b hbi hxv t ht'
  have h1 := get_puts (v := x) (b := b) (t := t) (l.take n) 0 a0 a0 rfl fun i o' ho' hd' => by
   have hin : i < n := by rw [← hlen]; exact (List.getElem?_eq_some_iff.1 ho').1
   rw [Nat.zero_add]
   refine hbi i (fun e => ?_) hin
   subst e
   rw [List.getElem?_take, if_pos hin, hq] at ho'
   obtain rfl := Option.some.inj ho'
   exact hlook t ht' hd'
  have h2 := get_puts (v := v) (b := fun i => decide (i ≠ i0)) (t := t) (l.take n) 0 a0 a0 rfl fun i o' ho' hd' => by
   have hin : i < n := by rw [← hlen]; exact (List.getElem?_eq_some_iff.1 ho').1
   rw [Nat.zero_add]
   refine decide_eq_true fun e => ?_
   subst e
   rw [List.getElem?_take, if_pos hin, hq] at ho'
   obtain rfl := Option.some.inj ho'
   exact hlook t ht' hd'
  have h3 := get_puts (v := x) (b := fun i => decide (i ≠ i0)) (t := t) (l.take n) 0 a0 a0 rfl fun i o' ho' hd' => by
   have hin : i < n := by rw [← hlen]; exact (List.getElem?_eq_some_iff.1 ho').1
   rw [Nat.zero_add]
   refine decide_eq_true fun e => ?_
   subst e
   rw [List.getElem?_take, if_pos hin, hq] at ho'
   obtain rfl := Option.some.inj ho'
   exact hlook t ht' hd'
  rw [h1, ← h3, putsIf_congr (v := x) (v' := v) (b := fun i => decide (i ≠ i0)) (b' := fun i => decide (i ≠ i0)) (l.take n) 0 a0 (fun i _ _ => ⟨rfl, fun hh => hxv i (of_decide_eq_true hh)⟩), h2]
 -- what the other order says
 let v' : Nat → Value := fun i => if i = i0 then u else v i
 have hend' := hend v' w hb (fun i hi => by
  by_cases e : i = i0
  ·subst e; simpa [v'] using hTu
  ·simpa [v', e] using ht i hi (hall i hi e)) (fun i j hi hj' hij hai haj => by
  have e1 : i ≠ i0 := fun e => by subst e; rw [hA0] at hai; cases hai
  have e2 : j ≠ i0 := fun e => by subst e; rw [hA0] at haj; cases haj
  simpa [v', e1, e2] using hne i j hi hj' hij hai haj (hall i hi e1) (hall j hj' e2))
 have hcan : canonL l.length n = listed.setIfInBounds i0 true := by
  have := canon_of (ops := l.toArray) (n := n) (listed := listed.setIfInBounds i0 true) ⟨by simpa using hu.1, fun k hk hks => by rw [getD_set_ne true (by omega)]; exact hu.2 k hk hks⟩ hd0
  rw [this]; simp
 rw [hcan] at hend'
 have hrn : n ∈ Region.ready .any l.toArray (listed.setIfInBounds i0 true) := ready_mono hj (by omega)
 have hcn : closedL .any l.toArray (listed.setIfInBounds n true) := hc.set hj
 have hri : i0 ∈ Region.ready .any l.toArray (listed.setIfInBounds n true) := by
  refine ready_mono (mem_ready.2 ⟨?_, q, by simpa using hq, fun e he hb' => hpre0 _ ?_⟩) (by omega)
  ·have : listed.getD i0 true = listed.getD i0 false := by simp [hi0s]
   rw [this]; exact hi0u
  ·unfold predsOf
   simp only [show l.toArray[i0]? = some q by simpa using hq, List.mem_map, List.mem_filter]
   exact ⟨e, ⟨by simpa using he, hb'⟩, rfl⟩
 -- the store's turn
 unfold wpOp
 simp only [show l.toArray[n]? = some o by simpa using ho]
 have hwo : ∀ Y, Region.wanted o Y = true := fun Y => by unfold Region.wanted; rw [go]
 have hwq : ∀ Y, Region.wanted q Y = true := fun Y => by unfold Region.wanted; rw [gq]
 have ag1 := hagn v (fun i => listed.getD i false) (fun i h1 h2 => hall i h2 h1) (fun i _ => rfl)
 rw [hwo, if_pos rfl]
 have hput : ∀ (a : Act), a.put none undef = a := fun a => rfl
 cases s with
 | zero =>
  exfalso
  have := hend'.1
  rw [this] at hrn; cases hrn
 | succ s =>
  have h2 := hend'.2 n hrn
  unfold wpOp at h2
  simp only [show l.toArray[n]? = some o by simpa using ho] at h2
  rw [hwo, if_pos rfl] at h2
  have ag2 := hagn v' (fun _ => true) (fun i _ _ => rfl) (fun i h1 => by simp [v', h1])
  rw [putsIf_all (l.take n) 0 a0 fun i _ _ => rfl] at ag2
  rcases h2 with h2 | h2
  case inr =>
   refine .inr ⟨?_, h2.2⟩
   have h3 := h2.1
   unfold Oper.asks at h3 ⊢
   rw [exec_same hsel' ag2] at h3
   rw [exec_same hsel' ag1]
   exact h3
  refine .inl ?_
  unfold Oper.wp at h2 ⊢
  rw [exec_same hsel' ag2, hs] at h2
  rw [exec_same hsel' ag1, hs]
  simp only [Oper.upon, od, hput] at h2 ⊢
  -- the late one's turn
  refine ⟨fun h0 => absurd h0 (List.ne_nil_of_mem hri), fun i hi => ?_⟩
  obtain rfl : i = i0 := by
   by_cases hin : i < n
   ·rcases Decidable.em (i = i0) with e | e
    ·exact e
    ·exfalso
     have := (mem_ready.1 hi).1
     rw [getD_set_ne true (by omega)] at this
     have h4 := unl this
     rw [hall i hin e] at h4; cases h4
   ·exfalso
    obtain ⟨h4, h5⟩ := lateB_at hB hcn hi hin
    by_cases e : i = n
    ·subst e
     have := (mem_ready.1 hi).1
     simp [hns] at this
    ·have := h4 i0 hi0 fun hh => e hh.1
     rw [getD_set_ne false (by omega), hi0u] at this; cases this
  unfold wpOp
  simp only [show l.toArray[i]? = some q by simpa using hq]
  rw [hwq, if_pos rfl]
  refine .inl ?_
  have hag0 : ∀ t ∈ q.looksAt l.toArray, (putsIf (l.take n) 0 (fun i => listed.getD i false) v a0).tmps[t]? = (putsV (l.take n) 0 v a0).tmps[t]? := fun t ht' =>
   get_puts (l.take n) 0 a0 a0 rfl fun k o' ho' hd' => by
    have hin : k < n := by rw [← hlen]; exact (List.getElem?_eq_some_iff.1 ho').1
    have ho2 : l.toArray[k]? = some o' := by rw [List.getElem?_take, if_pos hin] at ho'; simpa using ho'
    rw [Nat.zero_add]
    exact hpre0 k (depB_looks hD hi0 hin (by simpa using hq) ho2 ht' hd')
  unfold Oper.wp
  rw [exec_same hselq hag0, hx]
  simp only [Oper.upon]
  have e := put_at (v := v) (v' := v') (b := fun i => listed.getD i false) (b' := fun k => (listed.setIfInBounds i true).getD k false) (j := i) (u := u) hi0u (by simp [hi0s]) (by simp [v'])
   (fun k hk => ⟨getD_set_ne false fun e => hk e.symm, by simp [v', hk]⟩) (l.take n) 0 a0 q hN (Nat.zero_le _) (by rw [Nat.sub_zero, List.getElem?_take, if_pos hi0]; exact hq)
  rw [e, putsIf_all (l.take n) 0 a0 fun k _ h5 => doneN_iff.1 hd0 k (by omega), Array.setIfInBounds_comm _ _ (by omega)]
  exact h2
theorem wpAny_tb {n s i0 : Nat} {l : List Oper} {T : Nat → Value → World → Prop} {w0 : World} {a0 : Act} {Q : Exit → Act → World → Prop} {A : Nat → Bool} (hT : ∀ i, Stays (T i)) (hsel : Region.noSelect l.toArray = true) (hn : n ≤ l.length)
  (hB : lateB n i0 l = true) (hN : nodupD (l.take n) = true) (hD : depB l.toArray n = true)
  (hops : ∀ j o, j < n → l[j]? = some o → ∀ v w, Below w0.heap.size w0 w → (∀ p ∈ predsOf .any l.toArray j, T p (v p) w) → TyAt P l.toArray o (putsV (l.take n) 0 v a0) w (T j))
  (hptr : ∀ j, A j = true → ∀ u w, T j u w → ∃ k, u = .pointer (some ⟨k, 0, none⟩) ∧ k < w.heap.size)
  (hnew : ∀ j o, l[j]? = some o → A j = true → o.guard = none ∧ ∃ e c t, o.op = .alloc e ∧ ∀ w, (Instr.alloc e true (.tuple #[])).run P w = .ok (.pointer (some ⟨w.heap.size, 0, none⟩)) (w.alloc (.cells c t)))
  (hlate : ∀ v w, Below w0.heap.size w0 w → (∀ i, i < n → i ≠ i0 → T i (v i) w) → ∃ w1 u, (∀ o, l[n]? = some o → (execOp (putsV (l.take n) 0 v a0).eval o).run P w = .ok .skip w1) ∧ (∀ o, l[i0]? = some o → (execOp (putsV (l.take n) 0 v a0).eval o).run P w1 = .ok (.value u) w1) ∧ T i0 u w) (hA0 : A i0 = false)
  (hend : ∀ v w, Below w0.heap.size w0 w → (∀ i, i < n → T i (v i) w) → (∀ i j, i < n → j < n → i ≠ j → A i = true → A j = true → v i ≠ v j) → wpAny P .any l.toArray Q s (canonL l.length n) (putsV (l.take n) 0 v a0) w) :
  ∀ (m : Nat) (listed : Array Bool) (v : Nat → Value) (w : World), left n listed = m → closedL .any l.toArray listed → sufL n l.toArray listed → Below w0.heap.size w0 w →
   (∀ i, i < n → listed.getD i false = true → T i (v i) w) → (∀ i j, i < n → j < n → i ≠ j → A i = true → A j = true → listed.getD i false = true → listed.getD j false = true → v i ≠ v j) → wpAny P .any l.toArray Q (s + m) listed (putsIf (l.take n) 0 (fun i => listed.getD i false) v a0) w := by
 intro m
 have hlen : (l.take n).length = n := by rw [List.length_take]; omega
 induction m with
 | zero =>
  intro listed v w hl hc hu hb ht hne
  have hd := left_zero hl
  rw [putsIf_all (l.take n) 0 a0 fun i _ h2 => doneN_iff.1 hd i (by omega)]
  have e := canon_of hu hd
  rw [show l.toArray.size = l.length by simp] at e
  rw [e]
  exact hend v w hb (fun i hi => ht i hi (doneN_iff.1 hd i hi)) fun i j hi hj hij ha hb' => hne i j hi hj hij ha hb' (doneN_iff.1 hd i hi) (doneN_iff.1 hd j hj)
 | succ m ih =>
  intro listed v w hl hc hu hb ht hne
  have hnd := left_some hl
  refine ⟨fun h0 => absurd h0 (ready_some hu.1 (by simpa using hn) hD hl), fun j hj => ?_⟩
  by_cases hlt : j < n
  case neg =>
   obtain ⟨rfl, hall⟩ := lateB_bar hB hc hj hnd hlt
   exact late_step hsel hn hB hN hD hlate hA0 hend hl hc hu hb ht hne hj hall
  have hjn := hlt
  obtain ⟨hju, o, ho, -⟩ := mem_ready.1 hj
  have hpre := preds_of_ready hj
  have hol : l[j]? = some o := by simpa using ho
  have hjs : j < l.toArray.size := (Array.getElem?_eq_some_iff.1 ho).1
  have hty := hops j o hjn hol v w hb fun p hp => ht p (by have := depB_pred hD hjn hp; omega) (hpre p hp)
  have hag : ∀ t ∈ o.looksAt l.toArray, (putsIf (l.take n) 0 (fun i => listed.getD i false) v a0).tmps[t]? = (putsV (l.take n) 0 v a0).tmps[t]? := fun t ht' =>
   get_puts (l.take n) 0 a0 a0 rfl fun i o' ho' hd' => by
    have hin : i < n := by rw [← hlen]; exact (List.getElem?_eq_some_iff.1 ho').1
    have ho2 : l.toArray[i]? = some o' := by rw [List.getElem?_take, if_pos hin] at ho'; simpa using ho'
    rw [Nat.zero_add]
    exact hpre i (depB_looks hD hjn hin ho ho2 ht' hd')
  have step : ∀ u w', Below w.heap.size w w' → T j u w' → (A j = true → u = .pointer (some ⟨w.heap.size, 0, none⟩)) → wpAny P .any l.toArray Q (s + m) (listed.setIfInBounds j true) ((putsIf (l.take n) 0 (fun i => listed.getD i false) v a0).put o.dst u) w' := by
   intro u w' hw' hu' hun
   have e := put_at (v := v) (v' := fun i => if i = j then u else v i) (b := fun i => listed.getD i false) (b' := fun i => (listed.setIfInBounds j true).getD i false) (j := j) (u := u) (unl hju) (by simp [hu.1]; simpa using hjs) (by simp)
    (fun i hi => ⟨getD_set_ne false fun e => hi e.symm, by simp [hi]⟩) (l.take n) 0 a0 o hN (Nat.zero_le _) (by rw [Nat.sub_zero, List.getElem?_take, if_pos hjn]; exact hol)
   rw [e]
   refine ih _ _ w' (left_set (ops := l.toArray) hu.1 hjn hjs (unl hju) hl) (hc.set hj) ⟨by simpa using hu.1, fun k hk hks => by rw [getD_set_ne true (by omega)]; exact hu.2 k hk hks⟩ (hb.trans (hw'.mono hb.size)) (fun i hi hli => ?_) ?_
   ·by_cases e : i = j
    ·subst e; simpa using hu'
    ·rw [getD_set_ne false fun e' => e e'.symm] at hli
     simp only [if_neg e]
     exact hT i _ _ _ hw' (ht i hi hli)
   intro i k hi hk hik hAi hAk hli hlk
   by_cases e : i = j
   ·subst e
    have e2 : k ≠ i := fun e => hik e.symm
    rw [getD_set_ne false fun e' => e2 e'.symm] at hlk
    simp only [if_neg e2, if_pos]
    obtain ⟨b, hb1, hb2⟩ := hptr k hAk _ _ (ht k hk hlk)
    rw [hb1, hun hAi]
    intro he
    simp only [Value.pointer.injEq, Option.some.injEq, Addr.mk.injEq, and_true] at he
    omega
   ·rw [getD_set_ne false fun e' => e e'.symm] at hli
    by_cases e2 : k = j
    ·subst e2
     simp only [if_neg e, if_pos]
     obtain ⟨b, hb1, hb2⟩ := hptr i hAi _ _ (ht i hi hli)
     rw [hb1, hun hAk]
     intro he
     simp only [Value.pointer.injEq, Option.some.injEq, Addr.mk.injEq, and_true] at he
     omega
    ·rw [getD_set_ne false fun e' => e2 e'.symm] at hlk
     simp only [if_neg e, if_neg e2]
     exact hne i k hi hk hik hAi hAk hli hlk
  unfold wpOp
  simp only [ho]
  unfold TyAt at hty
  rw [← wanted_same hag] at hty
  by_cases hw : Region.wanted o (yielded l.toArray (putsIf (l.take n) 0 (fun i => listed.getD i false) v a0).tmps) = true
  ·simp only [hw, if_true] at hty ⊢
   refine .inl ?_
   unfold Oper.wp
   rw [exec_same (fun cs b => Region.noSelect_spec hsel j o cs b ho) hag]
   have hal : A j = true → ∀ u w', (execOp (putsV (l.take n) 0 v a0).eval o).run P w = .ok (.value u) w' → u = .pointer (some ⟨w.heap.size, 0, none⟩) := fun hA u w' hr => by
    obtain ⟨_, e, c, t, he, hal⟩ := hnew j o hol hA
    rw [alloc_run he hal] at hr
    simp only [Result.ok.injEq, Next.value.injEq] at hr
    exact hr.1.symm
   have hal2 : A j = true → ∀ w', (execOp (putsV (l.take n) 0 v a0).eval o).run P w ≠ .ok .skip w' := fun hA w' hr => by
    obtain ⟨_, e, c, t, he, hal⟩ := hnew j o hol hA
    rw [alloc_run he hal] at hr
    cases hr
   have hal3 : A j = true → ∀ f args w', (execOp (putsV (l.take n) 0 v a0).eval o).run P w ≠ .ok (.enter f args) w' := fun hA f args w' hr => by
    obtain ⟨_, e, c, t, he, hal⟩ := hnew j o hol hA
    rw [alloc_run he hal] at hr
    cases hr
   generalize (execOp (putsV (l.take n) 0 v a0).eval o).run P w = r at *
   cases r with
   | ok nx w' =>
    cases nx <;> simp only [tyUpon] at hty <;> simp only [Oper.upon]
    case value u => exact step u w' hty.1 hty.2 fun hA => hal hA u w' rfl
    case skip => exact step undef w' hty.1 hty.2 fun hA => absurd rfl (hal2 hA w')
    case enter f args =>
     obtain ⟨rfl, hcall⟩ := hty
     exact hcall.mono fun e w'' ⟨u, he, h1, h2⟩ => by subst he; exact step u w'' h2 h1 fun hA => absurd rfl (hal3 hA f args _)
   | halt x w' => simp only [tyUpon] at hty
  ·simp only [hw] at hty ⊢
   exact step undef w (Below.refl _ _) hty fun hA => by
    obtain ⟨hg, _⟩ := hnew j o hol hA
    exact absurd (by unfold Region.wanted; rw [hg]) hw
def tyBl (n i0 : Nat) (l : List Oper) : Bool :=
 Region.noSelect l.toArray && decide (n ≤ l.length) && lateB n i0 l && nodupD (l.take n) && depB l.toArray n && seqB .any l.toArray (l.length - n) n (canonL l.length n)
/-- **A region whose first n operations each give a value of a property; then the others, in their order.** -/
theorem region_tb (n i0 : Nat) (T : Nat → Value → World → Prop) (A : Nat → Bool) {id : Nat} {Q : Exit → Act → World → Prop} {a : Act} {w : World} {l : List Oper} (hm : P.follows .mixedOrders = true) (hB : tyBl n i0 l = true) (hT : ∀ i, Stays (T i))
  (hops : ∀ j o, j < n → l[j]? = some o → ∀ v w1, Below w.drew.heap.size w.drew w1 → (∀ p ∈ predsOf .any l.toArray j, T p (v p) w1) → TyAt P l.toArray o (putsV (l.take n) 0 v a) w1 (T j))
  (hptr : ∀ j, A j = true → ∀ u w, T j u w → ∃ k, u = .pointer (some ⟨k, 0, none⟩) ∧ k < w.heap.size)
  (hnew : ∀ j o, l[j]? = some o → A j = true → o.guard = none ∧ ∃ e c t, o.op = .alloc e ∧ ∀ w, (Instr.alloc e true (.tuple #[])).run P w = .ok (.pointer (some ⟨w.heap.size, 0, none⟩)) (w.alloc (.cells c t)))
  (hlate : ∀ v w2, Below w.drew.heap.size w.drew w2 → (∀ i, i < n → i ≠ i0 → T i (v i) w2) → ∃ w1 u, (∀ o, l[n]? = some o → (execOp (putsV (l.take n) 0 v a).eval o).run P w2 = .ok .skip w1) ∧ (∀ o, l[i0]? = some o → (execOp (putsV (l.take n) 0 v a).eval o).run P w1 = .ok (.value u) w1) ∧ T i0 u w2) (hA0 : A i0 = false)
  (hend : ∀ v w1, Below w.drew.heap.size w.drew w1 → (∀ i, i < n → T i (v i) w1) → (∀ i j, i < n → j < n → i ≠ j → A i = true → A j = true → v i ≠ v j) → wpList P l.toArray Q (l.drop n) (putsV (l.take n) 0 v a) w1) : (Code.region id l.toArray true).wp P Q a w := by
 simp only [tyBl, Bool.and_eq_true, decide_eq_true_eq] at hB
 obtain ⟨⟨⟨⟨⟨hs, hn⟩, hb⟩, hN⟩, hD⟩, hq⟩ := hB
 refine wp_region_any hm ?_
 have hrep : ∀ i, (Array.replicate l.length false).getD i false = false := fun i => by
  rcases Nat.lt_or_ge i l.length with h' | h' <;> simp [h']
 have h0 : closedL .any l.toArray (Array.replicate l.length false) := fun j o _ hl => by rw [hrep] at hl; cases hl
 have hleft : left n (Array.replicate l.length false) = n := by
  unfold left
  rw [List.countP_eq_length.2 fun i _ => by rw [hrep]; rfl, List.length_range]
 have h2 := wpAny_tb (i0 := i0) (A := A) (P := P) (s := l.length - n) (Q := Q) (a0 := a) hT hs hn hb hN hD hops hptr hnew hlate hA0 (fun v w1 h1 h2 hdis => by
   have h3 := wpAny_of_seq (md := .any) (P := P) (Q' := Q) (l.drop n) n (canonL l.length n) (putsV (l.take n) 0 v a) w1 (fun j hj => by simp [List.getElem?_drop]) (by rw [List.length_drop]; exact hq) (hend v w1 h1 h2 hdis)
   rw [List.length_drop] at h3
   exact h3) n (Array.replicate l.length false) (fun _ => undef) w.drew hleft h0 ⟨by simp, fun j _ hj => by simp at hj; simp [hj]⟩ (Below.refl _ _) (fun i _ hl => by rw [hrep] at hl; cases hl) (fun i j _ _ _ _ _ hl => by rw [hrep] at hl; cases hl)
 rw [putsIf_none (l.take n) 0 a fun i _ _ => hrep i, Nat.sub_add_cancel hn] at h2
 simpa using h2
/-- region_tb, with its properties as a list; A: the operations that make boxes. -/
theorem region_tbl (n i0 : Nat) (L : List (Value → World → Prop)) (A : List Nat) {id : Nat} {Q : Exit → Act → World → Prop} {a : Act} {w : World} {l : List Oper} (hm : P.follows .mixedOrders = true) (hB : tyBl n i0 l = true) (hT : ∀ i, Stays (L.getD i (fun _ _ => True)))
  (hops : hopsR P l.toArray (fun i => L.getD i (fun _ _ => True)) w.drew (fun v => putsV (l.take n) 0 v a) (l.take n) 0)
  (hptr : ∀ j, A.contains j = true → ∀ u w, L.getD j (fun _ _ => True) u w → ∃ k, u = .pointer (some ⟨k, 0, none⟩) ∧ k < w.heap.size)
  (hnew : newR P l A)
  (hlate : ∀ v w2, Below w.drew.heap.size w.drew w2 → (∀ i, i < n → i ≠ i0 → L.getD i (fun _ _ => True) (v i) w2) → ∃ w1 u, (∀ o, l[n]? = some o → (execOp (putsV (l.take n) 0 v a).eval o).run P w2 = .ok .skip w1) ∧ (∀ o, l[i0]? = some o → (execOp (putsV (l.take n) 0 v a).eval o).run P w1 = .ok (.value u) w1) ∧ L.getD i0 (fun _ _ => True) u w2) (hA0 : A.contains i0 = false)
  (hend : ∀ v w1, Below w.drew.heap.size w.drew w1 → (∀ i, i < n → L.getD i (fun _ _ => True) (v i) w1) → (∀ i j, i < n → j < n → i ≠ j → A.contains i = true → A.contains j = true → v i ≠ v j) → wpList P l.toArray Q (l.drop n) (putsV (l.take n) 0 v a) w1) : (Code.region id l.toArray true).wp P Q a w :=
 region_tb n i0 (fun i => L.getD i (fun _ _ => True)) (fun i => A.contains i) hm hB hT (fun j o hj ho v w1 hb hp => by
  have := hops_of (l.take n) 0 hops j o (by rw [List.getElem?_take, if_pos hj]; exact ho) v w1 hb (by rw [Nat.zero_add]; exact hp)
  rwa [Nat.zero_add] at this) hptr (fun j o ho hA => newR_spec hnew j o ho hA) hlate hA0 hend
end
end Go.Proofs.YtdkjckiialnpnaaGreatDoor
namespace Go.Proofs.YtdkjckiialnpnaaGreatDoor
open Go.RowKit Go.Proofs.YtdkjckiialnpnaaGreatDoor.Rx
attribute [local irreducible] lo hs sm s64 c64 d64 b64 mh ml pd pc qd qc val hiB str cmpI srD lz nb isq zl zh zs dval tln
theorem new_rz (w : World) : (Instr.alloc 40 true (.tuple #[])).run Tryz.prog w = .ok (.pointer (some ⟨w.heap.size, 0, none⟩)) (w.alloc (.cells #[.bool false, .slice none 0 0] 40)) := by
 simp [go_sem, Instr.alloc]
set_option maxHeartbeats 4000000 in
set_option maxRecDepth 100000 in
theorem rzof_neg (v b c d g z : Int) (n : Nat) (HO : ∀ (w : World), Calls Tryz.prog 69 #[.int .u64 g] w fun e w' => ∃ pv, e = .returned pv ∧ Rn w' pv n ∧ Below w.heap.size w w') (HF : ∀ (p1 : Value) (w : World), Rn w p1 n → Calls Tryz.prog 125 #[.bool true, p1] w fun e w' => ∃ pv, e = .returned pv ∧ RZ w' pv z ∧ Below w.heap.size w w') (h0 : decide (v < 0) = true) (h1 : IntKind.i64.wrap (v + 1) = b) (h2 : IntKind.i64.wrap (-b) = c) (h3 : IntKind.u64.wrap c = d) (h4 : IntKind.u64.wrap (d + 1) = g) (w : World) :
  Calls Tryz.prog 129 #[.int .i64 v] w fun e w' => ∃ pv, e = .returned pv ∧ RZ w' pv z ∧ Below w.heap.size w w' := by
 replace HO := Lib.hid HO
 replace HF := Lib.hid HF
 have hL0 : GL w w [] := GL.start w
 have hS : SS w [] := SS.nil w
 replace hS := (hS.new (.cells #[.bool false, .slice none 0 0] 40))
 replace hL0 := (hL0.new rfl [.bool false, .slice none 0 0] 40)
 generalize hweq : (w.alloc (.cells #[.bool false, .slice none 0 0] 40)) = x1 at hL0 hS
 go_enter Tryz.func129, Tryz.ntmps129
 go_wp2_with fail
 with_reducible refine Calls.mono (HO.out _) ?_
 rintro e x2 ⟨v0, rfl, q0, hb⟩
 replace hL0 := hL0.call hb
 replace hS := hS.call hb
 clear hb hweq
 obtain ⟨g1, d1, rfl⟩ := rn_form q0
 replace hS := hS.cons q0
 clear q0
 go_wp2_with fail
 with_reducible refine Calls.mono (HF.out (.slice g1 (tln n) d1) _ (hS.get List.mem_cons_self)) ?_
 rintro e x3 ⟨v0, rfl, q0, hb⟩
 replace hL0 := hL0.call hb
 replace hS := hS.call hb
 clear hb
 obtain ⟨g2, d2, rfl⟩ := rz_form q0
 replace hS := hS.cons (rz_rn q0)
 clear q0
 have hS1 := hS.put (((Upd.refl w.heap.size x3).setCell 0 (.bool (zs z))).setCell 1 (.slice g2 (tln z.natAbs) d2)) (hL0.get _ _ List.mem_cons_self) (by intro v hv n; simp only [List.mem_cons, List.not_mem_nil, or_false] at hv; rcases hv with rfl | rfl <;> simp)
 have hA := hL0.fc
 simp only [fcG, cellsF, neK, and_true, ne_eq, Nat.zero_add, Nat.reduceAdd] at hA
 have hP := hL0.put 0 (w.heap.size) _ rfl [.bool (zs z), .slice g2 (tln z.natAbs) d2] rfl
 simp only [setAll, List.set_cons_zero, List.set_cons_succ] at hP
 generalize hput1 : ((x3.setCell ⟨w.heap.size, 0, none⟩ (.bool (zs z))).setCell ⟨w.heap.size, 1, none⟩ (.slice g2 (tln z.natAbs) d2)) = x4 at hP hS1
 have hB1 := hP.fc
 simp only [fcG, cellsF, neK, and_true, ne_eq, Nat.zero_add, Nat.reduceAdd] at hB1
 replace hL0 := hP
 replace hS := hS1
 clear hS1
 go_wp2_with fail
 exact bodyPost_ret (v := .agg #[.bool (zs z), .slice g2 (tln z.natAbs) d2]) (by simp [results, Tryz.results129, go_sem, hB1]) rfl ⟨_, rfl, (rz_of (hS.get List.mem_cons_self)), hL0.bl⟩
set_option maxHeartbeats 4000000 in
set_option maxRecDepth 100000 in
theorem rzof_pos (v d z : Int) (n : Nat) (HO : ∀ (w : World), Calls Tryz.prog 69 #[.int .u64 d] w fun e w' => ∃ pv, e = .returned pv ∧ Rn w' pv n ∧ Below w.heap.size w w') (HF : ∀ (p1 : Value) (w : World), Rn w p1 n → Calls Tryz.prog 125 #[.bool false, p1] w fun e w' => ∃ pv, e = .returned pv ∧ RZ w' pv z ∧ Below w.heap.size w w') (h0 : decide (v < 0) = false) (h3 : IntKind.u64.wrap v = d) (w : World) :
  Calls Tryz.prog 129 #[.int .i64 v] w fun e w' => ∃ pv, e = .returned pv ∧ RZ w' pv z ∧ Below w.heap.size w w' := by
 replace HO := Lib.hid HO
 replace HF := Lib.hid HF
 have hL0 : GL w w [] := GL.start w
 have hS : SS w [] := SS.nil w
 replace hS := (hS.new (.cells #[.bool false, .slice none 0 0] 40))
 replace hL0 := (hL0.new rfl [.bool false, .slice none 0 0] 40)
 generalize hweq : (w.alloc (.cells #[.bool false, .slice none 0 0] 40)) = x1 at hL0 hS
 go_enter Tryz.func129, Tryz.ntmps129
 go_wp2_with fail
 with_reducible refine Calls.mono (HO.out _) ?_
 rintro e x2 ⟨v0, rfl, q0, hb⟩
 replace hL0 := hL0.call hb
 replace hS := hS.call hb
 clear hb hweq
 obtain ⟨g1, d1, rfl⟩ := rn_form q0
 replace hS := hS.cons q0
 clear q0
 go_wp2_with fail
 with_reducible refine Calls.mono (HF.out (.slice g1 (tln n) d1) _ (hS.get List.mem_cons_self)) ?_
 rintro e x3 ⟨v0, rfl, q0, hb⟩
 replace hL0 := hL0.call hb
 replace hS := hS.call hb
 clear hb
 obtain ⟨g2, d2, rfl⟩ := rz_form q0
 replace hS := hS.cons (rz_rn q0)
 clear q0
 have hS1 := hS.put (((Upd.refl w.heap.size x3).setCell 0 (.bool (zs z))).setCell 1 (.slice g2 (tln z.natAbs) d2)) (hL0.get _ _ List.mem_cons_self) (by intro v hv n; simp only [List.mem_cons, List.not_mem_nil, or_false] at hv; rcases hv with rfl | rfl <;> simp)
 have hA := hL0.fc
 simp only [fcG, cellsF, neK, and_true, ne_eq, Nat.zero_add, Nat.reduceAdd] at hA
 have hP := hL0.put 0 (w.heap.size) _ rfl [.bool (zs z), .slice g2 (tln z.natAbs) d2] rfl
 simp only [setAll, List.set_cons_zero, List.set_cons_succ] at hP
 generalize hput1 : ((x3.setCell ⟨w.heap.size, 0, none⟩ (.bool (zs z))).setCell ⟨w.heap.size, 1, none⟩ (.slice g2 (tln z.natAbs) d2)) = x4 at hP hS1
 have hB1 := hP.fc
 simp only [fcG, cellsF, neK, and_true, ne_eq, Nat.zero_add, Nat.reduceAdd] at hB1
 replace hL0 := hP
 replace hS := hS1
 clear hS1
 go_wp2_with fail
 exact bodyPost_ret (v := .agg #[.bool (zs z), .slice g2 (tln z.natAbs) d2]) (by simp [results, Tryz.results129, go_sem, hB1]) rfl ⟨_, rfl, (rz_of (hS.get List.mem_cons_self)), hL0.bl⟩
set_option maxHeartbeats 4000000 in
set_option maxRecDepth 100000 in
theorem rzdiv_plain (x y u v s r : Int) (q m : Nat) (HD : ∀ (p0 p1 : Value) (w : World), Rn w p0 x.natAbs → Rn w p1 y.natAbs → Calls Tryz.prog 66 #[p0, p1] w fun e w' => ∃ v0 v1, e = .returned (.tuple #[v0, v1]) ∧ Rn w' v0 q ∧ Rn w' v1 m ∧ Below w.heap.size w w') (HF : ∀ (p1 : Value) (w : World), Rn w p1 q → Calls Tryz.prog 125 #[.bool (!(zs x == zs y)), p1] w fun e w' => ∃ pv, e = .returned pv ∧ RZ w' pv u ∧ Below w.heap.size w w') (HG : ∀ (p1 : Value) (w : World), Rn w p1 m → Calls Tryz.prog 125 #[.bool (zs x), p1] w fun e w' => ∃ pv, e = .returned pv ∧ RZ w' pv v ∧ Below w.heap.size w w') (HS : ∀ (p0 : Value) (w : World), RZ w p0 v → Calls Tryz.prog 192 #[p0] w fun e w' => e = .returned (.int .i64 s) ∧ Below w.heap.size w w') (hs0 : decide (s < 0) = false) (p0 : Value) (p1 : Value) (w : World) (r0 : RZ w p0 x) (r1 : RZ w p1 y) :
  Calls Tryz.prog 133 #[p0, p1] w fun e w' => ∃ v0 v1, e = .returned (.tuple #[v0, v1]) ∧ RZ w' v0 u ∧ RZ w' v1 v ∧ Below w.heap.size w w' := by
 obtain ⟨a0, c0, rfl⟩ := rz_form r0
 have f0 := Lib.hid (rz_rn r0)
 clear r0
 obtain ⟨a1, c1, rfl⟩ := rz_form r1
 have f1 := Lib.hid (rz_rn r1)
 clear r1
 replace HD := Lib.hid HD
 replace HF := Lib.hid HF
 replace HG := Lib.hid HG
 replace HS := Lib.hid HS
 have hL0 : GL w w [] := GL.start w
 have hS : SS w [] := SS.nil w
 replace hS := ((((hS.new (.cells #[.bool (zs x), .slice a0 (tln x.natAbs) c0] 40)).new (.cells #[.bool (zs y), .slice a1 (tln y.natAbs) c1] 40)).new (.cells #[.bool false, .slice none 0 0] 40)).new (.cells #[.bool false, .slice none 0 0] 40))
 replace hL0 := ((((hL0.new rfl [.bool (zs x), .slice a0 (tln x.natAbs) c0] 40).new (K := w.heap.size + 1) (szA _ _) [.bool (zs y), .slice a1 (tln y.natAbs) c1] 40).new (K := w.heap.size + 1 + 1) (by simp only [World.size_alloc]) [.bool false, .slice none 0 0] 40).new (K := w.heap.size + 1 + 1 + 1) (by simp only [World.size_alloc]) [.bool false, .slice none 0 0] 40)
 generalize hweq : ((((w.alloc (.cells #[.bool (zs x), .slice a0 (tln x.natAbs) c0] 40)).alloc (.cells #[.bool (zs y), .slice a1 (tln y.natAbs) c1] 40)).alloc (.cells #[.bool false, .slice none 0 0] 40)).alloc (.cells #[.bool false, .slice none 0 0] 40)) = x1 at hL0 hS
 go_enter Tryz.func133, Tryz.ntmps133
 have hN0 := cells_of _ 0 [] rfl (hL0.get _ _ (List.mem_cons_of_mem _ (List.mem_cons_of_mem _ List.mem_cons_self)))
 simp only [cellsF, and_true, Nat.zero_add, Nat.reduceAdd] at hN0
 have hN1 := cells_of _ 0 [] rfl (hL0.get _ _ (List.mem_cons_of_mem _ (List.mem_cons_of_mem _ (List.mem_cons_of_mem _ List.mem_cons_self))))
 simp only [cellsF, and_true, Nat.zero_add, Nat.reduceAdd] at hN1
 go_wp2_with fail
 clear hN0 hN1
 with_reducible refine Calls.mono (HD.out (.slice a0 (tln x.natAbs) c0) (.slice a1 (tln y.natAbs) c1) _ (Sl.below f0.out hL0.bl) (Sl.below f1.out hL0.bl)) ?_
 rintro e x2 ⟨v0, v1, rfl, q0, q1, hb⟩
 replace hL0 := hL0.call hb
 replace hS := hS.call hb
 clear hb hweq
 obtain ⟨g1, d1, rfl⟩ := rn_form q0
 replace hS := hS.cons q0
 clear q0
 obtain ⟨g2, d2, rfl⟩ := rn_form q1
 replace hS := hS.cons q1
 clear q1
 go_upto_region 2 with fail
 refine region_tal 13 [EV (.pointer (some ⟨w.heap.size, 0, none⟩)), EV (.bool (zs x)), EV (.pointer (some ⟨w.heap.size + 1, 0, none⟩)), EV (.bool (zs y)), EV (.bool (!(zs x == zs y))), EV (.slice g1 (tln q) d1), PZ u, EV (.pointer (some ⟨w.heap.size, 0, none⟩)), EV (.bool (zs x)), EV (.slice g2 (tln m) d2), PZ v, NewB x2.heap.size [.bool false, .slice none 0 0], NewB x2.heap.size [.bool false, .slice none 0 0]] [11, 12] (by kernel_rfl) (by kernel_rfl) ?_ ?_ ?_ ?_ ?_
 ·exact stays_cons (stays_eq _) (stays_cons (stays_eq _) (stays_cons (stays_eq _) (stays_cons (stays_eq _) (stays_cons (stays_eq _) (stays_cons (stays_eq _) (stays_cons (stays_rz _) (stays_cons (stays_eq _) (stays_cons (stays_eq _) (stays_cons (stays_eq _) (stays_cons (stays_rz _) (stays_cons (stays_new _ _) (stays_cons (stays_new _ _) (stays_nil)))))))))))))
 ·simp only [List.take_succ_cons, List.take_zero, hopsR, and_true]
  refine ⟨?_, ?_, ?_, ?_, ?_, ?_, ?_, ?_, ?_, ?_, ?_, ?_, ?_⟩ <;> intro fv w1 hb1 hp
  all_goals (simp only [putsV, Act.put, List.setIfInBounds_toArray, List.set_cons_succ, List.set_cons_zero, Nat.zero_add, Nat.reduceAdd])
  ·refine tyAt_none rfl ?_
   simp [tyUpon, execOp, go_sem, Act.eval, Below.refl]
  ·have h0 : EV _ (fv 0) w1 := hp 0 (LC (by kernel_rfl))
   refine tyAt_none rfl ?_
   have hc := (hL0.call (below_drew hb1)).fc
   simp only [fcG, cellsF, neK, and_true, ne_eq, Nat.zero_add, Nat.reduceAdd] at hc
   simp [tyUpon, execOp, go_sem, Act.eval, hc, h0, Below.refl]
  ·refine tyAt_none rfl ?_
   simp [tyUpon, execOp, go_sem, Act.eval, Below.refl]
  ·have h2 : EV _ (fv 2) w1 := hp 2 (LC (by kernel_rfl))
   refine tyAt_none rfl ?_
   have hc := (hL0.call (below_drew hb1)).fc
   simp only [fcG, cellsF, neK, and_true, ne_eq, Nat.zero_add, Nat.reduceAdd] at hc
   simp [tyUpon, execOp, go_sem, Act.eval, hc, h2, Below.refl]
  ·have h1 : EV _ (fv 1) w1 := hp 1 (LC (by kernel_rfl))
   have h3 : EV _ (fv 3) w1 := hp 3 (LC (by kernel_rfl))
   refine tyAt_none rfl ?_
   simp [tyUpon, execOp, go_sem, Act.eval, h1, h3, Below.refl]
  ·refine tyAt_none rfl ?_
   simp [tyUpon, execOp, go_sem, Act.eval, Below.refl]
  ·have h4 : EV _ (fv 4) w1 := hp 4 (LC (by kernel_rfl))
   have h5 : EV _ (fv 5) w1 := hp 5 (LC (by kernel_rfl))
   refine tyAt_none rfl ?_
   refine ty_call (f := 125) (args := #[.bool (!(zs x == zs y)), .slice g1 (tln q) d1]) (by simp [execOp, go_sem, Act.eval, h4, h5]) ?_
   exact (HF.out (.slice g1 (tln q) d1) w1 (Sl.below (hS.get (List.mem_cons_of_mem _ List.mem_cons_self)) (below_drew hb1))).mono fun e w2 ⟨pv, h1, h2, h3⟩ => ⟨pv, h1, h2, h3⟩
  ·refine tyAt_none rfl ?_
   simp [tyUpon, execOp, go_sem, Act.eval, Below.refl]
  ·have h7 : EV _ (fv 7) w1 := hp 7 (LC (by kernel_rfl))
   refine tyAt_none rfl ?_
   have hc := (hL0.call (below_drew hb1)).fc
   simp only [fcG, cellsF, neK, and_true, ne_eq, Nat.zero_add, Nat.reduceAdd] at hc
   simp [tyUpon, execOp, go_sem, Act.eval, hc, h7, Below.refl]
  ·refine tyAt_none rfl ?_
   simp [tyUpon, execOp, go_sem, Act.eval, Below.refl]
  ·have h8 : EV _ (fv 8) w1 := hp 8 (LC (by kernel_rfl))
   have h9 : EV _ (fv 9) w1 := hp 9 (LC (by kernel_rfl))
   refine tyAt_none rfl ?_
   refine ty_call (f := 125) (args := #[.bool (zs x), .slice g2 (tln m) d2]) (by simp [execOp, go_sem, Act.eval, h8, h9]) ?_
   exact (HG.out (.slice g2 (tln m) d2) w1 (Sl.below (hS.get List.mem_cons_self) (below_drew hb1))).mono fun e w2 ⟨pv, h1, h2, h3⟩ => ⟨pv, h1, h2, h3⟩
  ·exact tyAt_new rfl rfl new_rz (below_drew hb1).size
  ·exact tyAt_new rfl rfl new_rz (below_drew hb1).size
 ·intro j hj u w2 hT
  simp only [List.contains_iff_mem, List.mem_cons, List.not_mem_nil, or_false] at hj
  rcases hj with rfl | rfl <;> exact NewB.ptr hT
 ·exact ⟨⟨_, _, _, _, rfl, rfl, rfl, new_rz⟩, ⟨_, _, _, _, rfl, rfl, rfl, new_rz⟩, trivial⟩
 ·intro fv x3 hb1 hv hne
  have e0 : fv 0 = _ := hv 0 (by omega)
  have e1 : fv 1 = _ := hv 1 (by omega)
  have e2 : fv 2 = _ := hv 2 (by omega)
  have e3 : fv 3 = _ := hv 3 (by omega)
  have e4 : fv 4 = _ := hv 4 (by omega)
  have e5 : fv 5 = _ := hv 5 (by omega)
  have q6 : RZ x3 (fv 6) u := hv 6 (by omega)
  obtain ⟨g3, d3, e6⟩ := rz_form q6
  rw [e6] at q6
  have e7 : fv 7 = _ := hv 7 (by omega)
  have e8 : fv 8 = _ := hv 8 (by omega)
  have e9 : fv 9 = _ := hv 9 (by omega)
  have q10 : RZ x3 (fv 10) v := hv 10 (by omega)
  obtain ⟨g4, d4, e10⟩ := rz_form q10
  rw [e10] at q10
  obtain ⟨kb11, e11, n11, m11⟩ : NewB x2.heap.size [.bool false, .slice none 0 0] (fv 11) x3 := hv 11 (by omega)
  obtain ⟨kb12, e12, n12, m12⟩ : NewB x2.heap.size [.bool false, .slice none 0 0] (fv 12) x3 := hv 12 (by omega)
  simp only [List.take_succ_cons, List.take_zero, putsV, Act.put, List.setIfInBounds_toArray, List.set_cons_succ, List.set_cons_zero, List.drop_succ_cons, List.drop_zero, Nat.zero_add, Nat.reduceAdd, e0, e1, e2, e3, e4, e5, e6, e7, e8, e9, e10, e11, e12]
  have hx0 := hL0
  replace hL0 := hL0.call (below_drew hb1)
  replace hS := hS.call (below_drew hb1)
  replace hL0 := GL.tnew (M := []) hL0 hx0 n11 m11 (fun p hp => by cases hp)
  replace hL0 := GL.tnew (M := [(kb11, [.bool false, .slice none 0 0])]) hL0 hx0 n12 m12 (by intro p hp; simp only [List.mem_cons, List.not_mem_nil, or_false] at hp; rcases hp with rfl; exact ptr_ne e11 e12 (hne 11 12 (by omega) (by omega) (by omega) rfl rfl))
  simp only [List.cons_append, List.nil_append] at hL0
  replace hS := hS.cons (rz_rn q6)
  replace hS := hS.cons (rz_rn q10)
  clear e0 e1 e2 e3 e4 e5 e6 e7 e8 e9 e10 e11 e12 hb1 hv hne hx0 n11 m11 n12 m12 q6 q10 fv
  have hS1 := hS.put (((Upd.refl kb11 x3).setCell 0 (.bool (zs u))).setCell 1 (.slice g3 (tln u.natAbs) d3)) (hL0.get _ _ (List.mem_cons_of_mem _ List.mem_cons_self)) (by intro v hv n; simp only [List.mem_cons, List.not_mem_nil, or_false] at hv; rcases hv with rfl | rfl <;> simp)
  have hA := hL0.fc
  simp only [fcG, cellsF, neK, and_true, ne_eq, Nat.zero_add, Nat.reduceAdd] at hA
  have hP := hL0.put 1 (kb11) _ rfl [.bool (zs u), .slice g3 (tln u.natAbs) d3] rfl
  simp only [setAll, List.set_cons_zero, List.set_cons_succ] at hP
  generalize hput1 : ((x3.setCell ⟨kb11, 0, none⟩ (.bool (zs u))).setCell ⟨kb11, 1, none⟩ (.slice g3 (tln u.natAbs) d3)) = x4 at hP hS1
  have hB1 := hP.fc
  simp only [fcG, cellsF, neK, and_true, ne_eq, Nat.zero_add, Nat.reduceAdd] at hB1
  replace hL0 := hP
  replace hS := hS1
  clear hS1
  have hS1 := hS.put (((Upd.refl kb12 x4).setCell 0 (.bool (zs v))).setCell 1 (.slice g4 (tln v.natAbs) d4)) (hL0.get _ _ List.mem_cons_self) (by intro v hv n; simp only [List.mem_cons, List.not_mem_nil, or_false] at hv; rcases hv with rfl | rfl <;> simp)
  have hP := hL0.put 0 (kb12) _ rfl [.bool (zs v), .slice g4 (tln v.natAbs) d4] rfl
  simp only [setAll, List.set_cons_zero, List.set_cons_succ] at hP
  generalize hput2 : ((x4.setCell ⟨kb12, 0, none⟩ (.bool (zs v))).setCell ⟨kb12, 1, none⟩ (.slice g4 (tln v.natAbs) d4)) = x5 at hP hS1
  have hB2 := hP.fc
  simp only [fcG, cellsF, neK, and_true, ne_eq, Nat.zero_add, Nat.reduceAdd] at hB2
  replace hL0 := hP
  replace hS := hS1
  clear hS1
  go_wp2_with fail
  clear hA
  with_reducible refine Calls.mono (HS.out (.agg #[.bool (zs v), .slice g4 (tln v.natAbs) d4]) _ (rz_of (hS.get List.mem_cons_self))) ?_
  rintro e x6 ⟨rfl, hb⟩
  replace hL0 := hL0.call hb
  replace hS := hS.call hb
  clear hb hput1 hB1 hput2 hB2
  have hN0 := cells_of _ 0 [] rfl (hL0.get _ _ List.mem_cons_self)
  simp only [cellsF, and_true, Nat.zero_add, Nat.reduceAdd] at hN0
  go_wp2_with fail
  clear hN0
  with_reducible refine Calls.mono (HS.out (.agg #[.bool (zs v), .slice g4 (tln v.natAbs) d4]) _ (rz_of (hS.get List.mem_cons_self))) ?_
  rintro e x7 ⟨rfl, hb⟩
  replace hL0 := hL0.call hb
  replace hS := hS.call hb
  clear hb
  have hA := hL0.fc
  simp only [fcG, cellsF, neK, and_true, ne_eq, Nat.zero_add, Nat.reduceAdd] at hA
  go_upto_region 7 with fail
  obtain ⟨⟨c0, c1⟩, cf0, cn0, ⟨c2, c3⟩, cf1, cn1, ⟨c4, c5⟩, cf2, cn2, ⟨c6, c7⟩, cf3, cn3, ⟨c8, c9⟩, cf4, cn4, ⟨c10, c11⟩, cf5⟩ := id hA
  clear hA
  go_region
  have hS1 : SS ((((x7.setCell ⟨w.heap.size + 1 + 1, 0, none⟩ (.bool (zs u))).setCell ⟨w.heap.size + 1 + 1, 1, none⟩ (.slice g3 (tln u.natAbs) d3)).setCell ⟨w.heap.size + 1 + 1 + 1, 0, none⟩ (.bool (zs v))).setCell ⟨w.heap.size + 1 + 1 + 1, 1, none⟩ (.slice g4 (tln v.natAbs) d4)).drew [(.slice g4 (tln v.natAbs) d4, v.natAbs), (.slice g3 (tln u.natAbs) d3, u.natAbs), (.slice g2 (tln m) d2, m), (.slice g1 (tln q) d1, q)] := SS.drew ((hS.put (((Upd.refl (w.heap.size + 1 + 1) _).setCell 0 (.bool (zs u))).setCell 1 (.slice g3 (tln u.natAbs) d3)) (hL0.get _ _ (List.mem_cons_of_mem _ (List.mem_cons_of_mem _ (List.mem_cons_of_mem _ List.mem_cons_self)))) (by intro v hv n; simp only [List.mem_cons, List.not_mem_nil, or_false] at hv; rcases hv with rfl | rfl <;> simp)).put (((Upd.refl (w.heap.size + 1 + 1 + 1) _).setCell 0 (.bool (zs v))).setCell 1 (.slice g4 (tln v.natAbs) d4)) ((hL0.put 3 (w.heap.size + 1 + 1) _ rfl [.bool (zs u), .slice g3 (tln u.natAbs) d3] rfl).get _ _ (List.mem_cons_of_mem _ (List.mem_cons_of_mem _ List.mem_cons_self))) (by intro v hv n; simp only [List.mem_cons, List.not_mem_nil, or_false] at hv; rcases hv with rfl | rfl <;> simp))
  have hP := ((hL0.put 3 (w.heap.size + 1 + 1) _ rfl [.bool (zs u), .slice g3 (tln u.natAbs) d3] rfl).put 2 (w.heap.size + 1 + 1 + 1) _ rfl [.bool (zs v), .slice g4 (tln v.natAbs) d4] rfl).drew
  simp only [setAll, List.set_cons_zero, List.set_cons_succ] at hP
  generalize ((((x7.setCell ⟨w.heap.size + 1 + 1, 0, none⟩ (.bool (zs u))).setCell ⟨w.heap.size + 1 + 1, 1, none⟩ (.slice g3 (tln u.natAbs) d3)).setCell ⟨w.heap.size + 1 + 1 + 1, 0, none⟩ (.bool (zs v))).setCell ⟨w.heap.size + 1 + 1 + 1, 1, none⟩ (.slice g4 (tln v.natAbs) d4)).drew = x8 at hP hS1 ⊢
  clear hL0
  have hL0 := hP
  clear hP
  clear c0 c1 cf0 cn0 c2 c3 cf1 cn1 c4 c5 cf2 cn2 c6 c7 cf3 cn3 c8 c9 cf4 cn4 c10 c11 cf5
  replace hS := hS1
  clear hS1
  have hN0 := cells_of _ 0 [] rfl (hL0.get _ _ (List.mem_cons_of_mem _ (List.mem_cons_of_mem _ List.mem_cons_self)))
  simp only [cellsF, and_true, Nat.zero_add, Nat.reduceAdd] at hN0
  have hN1 := cells_of _ 0 [] rfl (hL0.get _ _ (List.mem_cons_of_mem _ (List.mem_cons_of_mem _ (List.mem_cons_of_mem _ List.mem_cons_self))))
  simp only [cellsF, and_true, Nat.zero_add, Nat.reduceAdd] at hN1
  go_wp2_with fail
  exact bodyPost_ret (v := .tuple #[.agg #[.bool (zs u), .slice g3 (tln u.natAbs) d3], .agg #[.bool (zs v), .slice g4 (tln v.natAbs) d4]]) (by simp [results, Tryz.results133, go_sem, hN0 ,hN1]) rfl ⟨_, _, rfl, (rz_of (hS.get (List.mem_cons_of_mem _ List.mem_cons_self))), (rz_of (hS.get List.mem_cons_self)), hL0.bl⟩
set_option maxHeartbeats 4000000 in
set_option maxRecDepth 100000 in
theorem rzdiv_pos (x y u v s r : Int) (q m : Nat) (t g h : Int) (HD : ∀ (p0 p1 : Value) (w : World), Rn w p0 x.natAbs → Rn w p1 y.natAbs → Calls Tryz.prog 66 #[p0, p1] w fun e w' => ∃ v0 v1, e = .returned (.tuple #[v0, v1]) ∧ Rn w' v0 q ∧ Rn w' v1 m ∧ Below w.heap.size w w') (HF : ∀ (p1 : Value) (w : World), Rn w p1 q → Calls Tryz.prog 125 #[.bool (!(zs x == zs y)), p1] w fun e w' => ∃ pv, e = .returned pv ∧ RZ w' pv u ∧ Below w.heap.size w w') (HG : ∀ (p1 : Value) (w : World), Rn w p1 m → Calls Tryz.prog 125 #[.bool (zs x), p1] w fun e w' => ∃ pv, e = .returned pv ∧ RZ w' pv v ∧ Below w.heap.size w w') (HS : ∀ (p0 : Value) (w : World), RZ w p0 v → Calls Tryz.prog 192 #[p0] w fun e w' => e = .returned (.int .i64 s) ∧ Below w.heap.size w w') (HR : ∀ (p0 : Value) (w : World), RZ w p0 y → Calls Tryz.prog 192 #[p0] w fun e w' => e = .returned (.int .i64 r) ∧ Below w.heap.size w w') (HO : ∀ (w : World), Calls Tryz.prog 129 #[.int .i64 1] w fun e w' => ∃ pv, e = .returned pv ∧ RZ w' pv t ∧ Below w.heap.size w w') (HB : ∀ (p0 p1 : Value) (w : World), RZ w p0 u → RZ w p1 t → Calls Tryz.prog 193 #[p0, p1] w fun e w' => ∃ pv, e = .returned pv ∧ RZ w' pv g ∧ Below w.heap.size w w') (HA : ∀ (p0 p1 : Value) (w : World), RZ w p0 v → RZ w p1 y → Calls Tryz.prog 128 #[p0, p1] w fun e w' => ∃ pv, e = .returned pv ∧ RZ w' pv h ∧ Below w.heap.size w w') (hs0 : decide (s < 0) = true) (hs1 : decide (0 < r) = true) (p0 : Value) (p1 : Value) (w : World) (r0 : RZ w p0 x) (r1 : RZ w p1 y) :
  Calls Tryz.prog 133 #[p0, p1] w fun e w' => ∃ v0 v1, e = .returned (.tuple #[v0, v1]) ∧ RZ w' v0 g ∧ RZ w' v1 h ∧ Below w.heap.size w w' := by
 obtain ⟨a0, c0, rfl⟩ := rz_form r0
 have f0 := Lib.hid (rz_rn r0)
 clear r0
 obtain ⟨a1, c1, rfl⟩ := rz_form r1
 have f1 := Lib.hid (rz_rn r1)
 clear r1
 replace HD := Lib.hid HD
 replace HF := Lib.hid HF
 replace HG := Lib.hid HG
 replace HS := Lib.hid HS
 replace HR := Lib.hid HR
 replace HO := Lib.hid HO
 replace HB := Lib.hid HB
 replace HA := Lib.hid HA
 have hL0 : GL w w [] := GL.start w
 have hS : SS w [] := SS.nil w
 replace hS := ((((hS.new (.cells #[.bool (zs x), .slice a0 (tln x.natAbs) c0] 40)).new (.cells #[.bool (zs y), .slice a1 (tln y.natAbs) c1] 40)).new (.cells #[.bool false, .slice none 0 0] 40)).new (.cells #[.bool false, .slice none 0 0] 40))
 replace hL0 := ((((hL0.new rfl [.bool (zs x), .slice a0 (tln x.natAbs) c0] 40).new (K := w.heap.size + 1) (szA _ _) [.bool (zs y), .slice a1 (tln y.natAbs) c1] 40).new (K := w.heap.size + 1 + 1) (by simp only [World.size_alloc]) [.bool false, .slice none 0 0] 40).new (K := w.heap.size + 1 + 1 + 1) (by simp only [World.size_alloc]) [.bool false, .slice none 0 0] 40)
 generalize hweq : ((((w.alloc (.cells #[.bool (zs x), .slice a0 (tln x.natAbs) c0] 40)).alloc (.cells #[.bool (zs y), .slice a1 (tln y.natAbs) c1] 40)).alloc (.cells #[.bool false, .slice none 0 0] 40)).alloc (.cells #[.bool false, .slice none 0 0] 40)) = x1 at hL0 hS
 go_enter Tryz.func133, Tryz.ntmps133
 have hN0 := cells_of _ 0 [] rfl (hL0.get _ _ (List.mem_cons_of_mem _ (List.mem_cons_of_mem _ List.mem_cons_self)))
 simp only [cellsF, and_true, Nat.zero_add, Nat.reduceAdd] at hN0
 have hN1 := cells_of _ 0 [] rfl (hL0.get _ _ (List.mem_cons_of_mem _ (List.mem_cons_of_mem _ (List.mem_cons_of_mem _ List.mem_cons_self))))
 simp only [cellsF, and_true, Nat.zero_add, Nat.reduceAdd] at hN1
 go_wp2_with fail
 clear hN0 hN1
 with_reducible refine Calls.mono (HD.out (.slice a0 (tln x.natAbs) c0) (.slice a1 (tln y.natAbs) c1) _ (Sl.below f0.out hL0.bl) (Sl.below f1.out hL0.bl)) ?_
 rintro e x2 ⟨v0, v1, rfl, q0, q1, hb⟩
 replace hL0 := hL0.call hb
 replace hS := hS.call hb
 clear hb hweq
 obtain ⟨g1, d1, rfl⟩ := rn_form q0
 replace hS := hS.cons q0
 clear q0
 obtain ⟨g2, d2, rfl⟩ := rn_form q1
 replace hS := hS.cons q1
 clear q1
 go_upto_region 2 with fail
 refine region_tal 13 [EV (.pointer (some ⟨w.heap.size, 0, none⟩)), EV (.bool (zs x)), EV (.pointer (some ⟨w.heap.size + 1, 0, none⟩)), EV (.bool (zs y)), EV (.bool (!(zs x == zs y))), EV (.slice g1 (tln q) d1), PZ u, EV (.pointer (some ⟨w.heap.size, 0, none⟩)), EV (.bool (zs x)), EV (.slice g2 (tln m) d2), PZ v, NewB x2.heap.size [.bool false, .slice none 0 0], NewB x2.heap.size [.bool false, .slice none 0 0]] [11, 12] (by kernel_rfl) (by kernel_rfl) ?_ ?_ ?_ ?_ ?_
 ·exact stays_cons (stays_eq _) (stays_cons (stays_eq _) (stays_cons (stays_eq _) (stays_cons (stays_eq _) (stays_cons (stays_eq _) (stays_cons (stays_eq _) (stays_cons (stays_rz _) (stays_cons (stays_eq _) (stays_cons (stays_eq _) (stays_cons (stays_eq _) (stays_cons (stays_rz _) (stays_cons (stays_new _ _) (stays_cons (stays_new _ _) (stays_nil)))))))))))))
 ·simp only [List.take_succ_cons, List.take_zero, hopsR, and_true]
  refine ⟨?_, ?_, ?_, ?_, ?_, ?_, ?_, ?_, ?_, ?_, ?_, ?_, ?_⟩ <;> intro fv w1 hb1 hp
  all_goals (simp only [putsV, Act.put, List.setIfInBounds_toArray, List.set_cons_succ, List.set_cons_zero, Nat.zero_add, Nat.reduceAdd])
  ·refine tyAt_none rfl ?_
   simp [tyUpon, execOp, go_sem, Act.eval, Below.refl]
  ·have h0 : EV _ (fv 0) w1 := hp 0 (LC (by kernel_rfl))
   refine tyAt_none rfl ?_
   have hc := (hL0.call (below_drew hb1)).fc
   simp only [fcG, cellsF, neK, and_true, ne_eq, Nat.zero_add, Nat.reduceAdd] at hc
   simp [tyUpon, execOp, go_sem, Act.eval, hc, h0, Below.refl]
  ·refine tyAt_none rfl ?_
   simp [tyUpon, execOp, go_sem, Act.eval, Below.refl]
  ·have h2 : EV _ (fv 2) w1 := hp 2 (LC (by kernel_rfl))
   refine tyAt_none rfl ?_
   have hc := (hL0.call (below_drew hb1)).fc
   simp only [fcG, cellsF, neK, and_true, ne_eq, Nat.zero_add, Nat.reduceAdd] at hc
   simp [tyUpon, execOp, go_sem, Act.eval, hc, h2, Below.refl]
  ·have h1 : EV _ (fv 1) w1 := hp 1 (LC (by kernel_rfl))
   have h3 : EV _ (fv 3) w1 := hp 3 (LC (by kernel_rfl))
   refine tyAt_none rfl ?_
   simp [tyUpon, execOp, go_sem, Act.eval, h1, h3, Below.refl]
  ·refine tyAt_none rfl ?_
   simp [tyUpon, execOp, go_sem, Act.eval, Below.refl]
  ·have h4 : EV _ (fv 4) w1 := hp 4 (LC (by kernel_rfl))
   have h5 : EV _ (fv 5) w1 := hp 5 (LC (by kernel_rfl))
   refine tyAt_none rfl ?_
   refine ty_call (f := 125) (args := #[.bool (!(zs x == zs y)), .slice g1 (tln q) d1]) (by simp [execOp, go_sem, Act.eval, h4, h5]) ?_
   exact (HF.out (.slice g1 (tln q) d1) w1 (Sl.below (hS.get (List.mem_cons_of_mem _ List.mem_cons_self)) (below_drew hb1))).mono fun e w2 ⟨pv, h1, h2, h3⟩ => ⟨pv, h1, h2, h3⟩
  ·refine tyAt_none rfl ?_
   simp [tyUpon, execOp, go_sem, Act.eval, Below.refl]
  ·have h7 : EV _ (fv 7) w1 := hp 7 (LC (by kernel_rfl))
   refine tyAt_none rfl ?_
   have hc := (hL0.call (below_drew hb1)).fc
   simp only [fcG, cellsF, neK, and_true, ne_eq, Nat.zero_add, Nat.reduceAdd] at hc
   simp [tyUpon, execOp, go_sem, Act.eval, hc, h7, Below.refl]
  ·refine tyAt_none rfl ?_
   simp [tyUpon, execOp, go_sem, Act.eval, Below.refl]
  ·have h8 : EV _ (fv 8) w1 := hp 8 (LC (by kernel_rfl))
   have h9 : EV _ (fv 9) w1 := hp 9 (LC (by kernel_rfl))
   refine tyAt_none rfl ?_
   refine ty_call (f := 125) (args := #[.bool (zs x), .slice g2 (tln m) d2]) (by simp [execOp, go_sem, Act.eval, h8, h9]) ?_
   exact (HG.out (.slice g2 (tln m) d2) w1 (Sl.below (hS.get List.mem_cons_self) (below_drew hb1))).mono fun e w2 ⟨pv, h1, h2, h3⟩ => ⟨pv, h1, h2, h3⟩
  ·exact tyAt_new rfl rfl new_rz (below_drew hb1).size
  ·exact tyAt_new rfl rfl new_rz (below_drew hb1).size
 ·intro j hj u w2 hT
  simp only [List.contains_iff_mem, List.mem_cons, List.not_mem_nil, or_false] at hj
  rcases hj with rfl | rfl <;> exact NewB.ptr hT
 ·exact ⟨⟨_, _, _, _, rfl, rfl, rfl, new_rz⟩, ⟨_, _, _, _, rfl, rfl, rfl, new_rz⟩, trivial⟩
 ·intro fv x3 hb1 hv hne
  have e0 : fv 0 = _ := hv 0 (by omega)
  have e1 : fv 1 = _ := hv 1 (by omega)
  have e2 : fv 2 = _ := hv 2 (by omega)
  have e3 : fv 3 = _ := hv 3 (by omega)
  have e4 : fv 4 = _ := hv 4 (by omega)
  have e5 : fv 5 = _ := hv 5 (by omega)
  have q6 : RZ x3 (fv 6) u := hv 6 (by omega)
  obtain ⟨g3, d3, e6⟩ := rz_form q6
  rw [e6] at q6
  have e7 : fv 7 = _ := hv 7 (by omega)
  have e8 : fv 8 = _ := hv 8 (by omega)
  have e9 : fv 9 = _ := hv 9 (by omega)
  have q10 : RZ x3 (fv 10) v := hv 10 (by omega)
  obtain ⟨g4, d4, e10⟩ := rz_form q10
  rw [e10] at q10
  obtain ⟨kb11, e11, n11, m11⟩ : NewB x2.heap.size [.bool false, .slice none 0 0] (fv 11) x3 := hv 11 (by omega)
  obtain ⟨kb12, e12, n12, m12⟩ : NewB x2.heap.size [.bool false, .slice none 0 0] (fv 12) x3 := hv 12 (by omega)
  simp only [List.take_succ_cons, List.take_zero, putsV, Act.put, List.setIfInBounds_toArray, List.set_cons_succ, List.set_cons_zero, List.drop_succ_cons, List.drop_zero, Nat.zero_add, Nat.reduceAdd, e0, e1, e2, e3, e4, e5, e6, e7, e8, e9, e10, e11, e12]
  have hx0 := hL0
  replace hL0 := hL0.call (below_drew hb1)
  replace hS := hS.call (below_drew hb1)
  replace hL0 := GL.tnew (M := []) hL0 hx0 n11 m11 (fun p hp => by cases hp)
  replace hL0 := GL.tnew (M := [(kb11, [.bool false, .slice none 0 0])]) hL0 hx0 n12 m12 (by intro p hp; simp only [List.mem_cons, List.not_mem_nil, or_false] at hp; rcases hp with rfl; exact ptr_ne e11 e12 (hne 11 12 (by omega) (by omega) (by omega) rfl rfl))
  simp only [List.cons_append, List.nil_append] at hL0
  replace hS := hS.cons (rz_rn q6)
  replace hS := hS.cons (rz_rn q10)
  clear e0 e1 e2 e3 e4 e5 e6 e7 e8 e9 e10 e11 e12 hb1 hv hne hx0 n11 m11 n12 m12 q6 q10 fv
  have hS1 := hS.put (((Upd.refl kb11 x3).setCell 0 (.bool (zs u))).setCell 1 (.slice g3 (tln u.natAbs) d3)) (hL0.get _ _ (List.mem_cons_of_mem _ List.mem_cons_self)) (by intro v hv n; simp only [List.mem_cons, List.not_mem_nil, or_false] at hv; rcases hv with rfl | rfl <;> simp)
  have hA := hL0.fc
  simp only [fcG, cellsF, neK, and_true, ne_eq, Nat.zero_add, Nat.reduceAdd] at hA
  have hP := hL0.put 1 (kb11) _ rfl [.bool (zs u), .slice g3 (tln u.natAbs) d3] rfl
  simp only [setAll, List.set_cons_zero, List.set_cons_succ] at hP
  generalize hput1 : ((x3.setCell ⟨kb11, 0, none⟩ (.bool (zs u))).setCell ⟨kb11, 1, none⟩ (.slice g3 (tln u.natAbs) d3)) = x4 at hP hS1
  have hB1 := hP.fc
  simp only [fcG, cellsF, neK, and_true, ne_eq, Nat.zero_add, Nat.reduceAdd] at hB1
  replace hL0 := hP
  replace hS := hS1
  clear hS1
  have hS1 := hS.put (((Upd.refl kb12 x4).setCell 0 (.bool (zs v))).setCell 1 (.slice g4 (tln v.natAbs) d4)) (hL0.get _ _ List.mem_cons_self) (by intro v hv n; simp only [List.mem_cons, List.not_mem_nil, or_false] at hv; rcases hv with rfl | rfl <;> simp)
  have hP := hL0.put 0 (kb12) _ rfl [.bool (zs v), .slice g4 (tln v.natAbs) d4] rfl
  simp only [setAll, List.set_cons_zero, List.set_cons_succ] at hP
  generalize hput2 : ((x4.setCell ⟨kb12, 0, none⟩ (.bool (zs v))).setCell ⟨kb12, 1, none⟩ (.slice g4 (tln v.natAbs) d4)) = x5 at hP hS1
  have hB2 := hP.fc
  simp only [fcG, cellsF, neK, and_true, ne_eq, Nat.zero_add, Nat.reduceAdd] at hB2
  replace hL0 := hP
  replace hS := hS1
  clear hS1
  go_wp2_with fail
  clear hA
  with_reducible refine Calls.mono (HS.out (.agg #[.bool (zs v), .slice g4 (tln v.natAbs) d4]) _ (rz_of (hS.get List.mem_cons_self))) ?_
  rintro e x6 ⟨rfl, hb⟩
  replace hL0 := hL0.call hb
  replace hS := hS.call hb
  clear hb hput1 hB1 hput2 hB2
  have hN0 := cells_of _ 0 [] rfl (hL0.get _ _ (List.mem_cons_of_mem _ (List.mem_cons_of_mem _ (List.mem_cons_of_mem _ (List.mem_cons_of_mem _ List.mem_cons_self)))))
  simp only [cellsF, and_true, Nat.zero_add, Nat.reduceAdd] at hN0
  go_wp2_with fail
  clear hN0
  with_reducible refine Calls.mono (HR.out (.agg #[.bool (zs y), .slice a1 (tln y.natAbs) c1]) _ (rz_of (Sl.below f1.out hL0.bl))) ?_
  rintro e x7 ⟨rfl, hb⟩
  replace hL0 := hL0.call hb
  replace hS := hS.call hb
  clear hb
  go_upto_region 4 with fail
  refine region_tl 6 [EV (.agg #[.bool (zs u), .slice g3 (tln u.natAbs) d3]), PZ t, PZ g, EV (.agg #[.bool (zs v), .slice g4 (tln v.natAbs) d4]), EV (.agg #[.bool (zs y), .slice a1 (tln y.natAbs) c1]), PZ h] (by kernel_rfl) (by kernel_rfl) ?_ ?_ ?_
  ·exact stays_cons (stays_eq _) (stays_cons (stays_rz _) (stays_cons (stays_rz _) (stays_cons (stays_eq _) (stays_cons (stays_eq _) (stays_cons (stays_rz _) (stays_nil))))))
  ·simp only [List.take_succ_cons, List.take_zero, hopsR, and_true]
   refine ⟨?_, ?_, ?_, ?_, ?_, ?_⟩ <;> intro fv w1 hb1 hp
   all_goals (simp only [putsV, Act.put, List.setIfInBounds_toArray, List.set_cons_succ, List.set_cons_zero, Nat.zero_add, Nat.reduceAdd])
   ·refine tyAt_none rfl ?_
    have hc := (hL0.call (below_drew hb1)).fc
    simp only [fcG, cellsF, neK, and_true, ne_eq, Nat.zero_add, Nat.reduceAdd] at hc
    simp [tyUpon, execOp, go_sem, Act.eval, hc, Below.refl]
   ·refine tyAt_none rfl ?_
    refine ty_call (f := 129) (args := #[.int .i64 1]) (by simp [execOp, go_sem, Act.eval]) ?_
    exact (HO.out w1).mono fun e w2 ⟨pv, h1, h2, h3⟩ => ⟨pv, h1, h2, h3⟩
   ·have h0 : EV _ (fv 0) w1 := hp 0 (LC (by kernel_rfl))
    have h1 : PZ _ (fv 1) w1 := hp 1 (LC (by kernel_rfl))
    refine tyAt_none rfl ?_
    refine ty_call (f := 193) (args := #[.agg #[.bool (zs u), .slice g3 (tln u.natAbs) d3], fv 1]) (by simp [execOp, go_sem, Act.eval, h0]) ?_
    exact (HB.out (.agg #[.bool (zs u), .slice g3 (tln u.natAbs) d3]) (fv 1) w1 (rz_of (Sl.below (hS.get (List.mem_cons_of_mem _ List.mem_cons_self)) (below_drew hb1))) h1).mono fun e w2 ⟨pv, h1, h2, h3⟩ => ⟨pv, h1, h2, h3⟩
   ·refine tyAt_none rfl ?_
    have hc := (hL0.call (below_drew hb1)).fc
    simp only [fcG, cellsF, neK, and_true, ne_eq, Nat.zero_add, Nat.reduceAdd] at hc
    simp [tyUpon, execOp, go_sem, Act.eval, hc, Below.refl]
   ·refine tyAt_none rfl ?_
    have hc := (hL0.call (below_drew hb1)).fc
    simp only [fcG, cellsF, neK, and_true, ne_eq, Nat.zero_add, Nat.reduceAdd] at hc
    simp [tyUpon, execOp, go_sem, Act.eval, hc, Below.refl]
   ·have h3 : EV _ (fv 3) w1 := hp 3 (LC (by kernel_rfl))
    have h4 : EV _ (fv 4) w1 := hp 4 (LC (by kernel_rfl))
    refine tyAt_none rfl ?_
    refine ty_call (f := 128) (args := #[.agg #[.bool (zs v), .slice g4 (tln v.natAbs) d4], .agg #[.bool (zs y), .slice a1 (tln y.natAbs) c1]]) (by simp [execOp, go_sem, Act.eval, h3, h4]) ?_
    exact (HA.out (.agg #[.bool (zs v), .slice g4 (tln v.natAbs) d4]) (.agg #[.bool (zs y), .slice a1 (tln y.natAbs) c1]) w1 (rz_of (Sl.below (hS.get List.mem_cons_self) (below_drew hb1))) (rz_of (Sl.below (Sl.below f1.out hL0.bl) (below_drew hb1)))).mono fun e w2 ⟨pv, h1, h2, h3⟩ => ⟨pv, h1, h2, h3⟩
  ·intro fv x8 hb1 hv
   have e0 : fv 0 = _ := hv 0 (by omega)
   have q1 : RZ x8 (fv 1) t := hv 1 (by omega)
   obtain ⟨g5, d5, e1⟩ := rz_form q1
   rw [e1] at q1
   have q2 : RZ x8 (fv 2) g := hv 2 (by omega)
   obtain ⟨g6, d6, e2⟩ := rz_form q2
   rw [e2] at q2
   have e3 : fv 3 = _ := hv 3 (by omega)
   have e4 : fv 4 = _ := hv 4 (by omega)
   have q5 : RZ x8 (fv 5) h := hv 5 (by omega)
   obtain ⟨g7, d7, e5⟩ := rz_form q5
   rw [e5] at q5
   simp only [List.take_succ_cons, List.take_zero, putsV, Act.put, List.setIfInBounds_toArray, List.set_cons_succ, List.set_cons_zero, List.drop_succ_cons, List.drop_zero, Nat.zero_add, Nat.reduceAdd, e0, e1, e2, e3, e4, e5]
   replace hL0 := hL0.call (below_drew hb1)
   replace hS := hS.call (below_drew hb1)
   replace hS := hS.cons (rz_rn q1)
   replace hS := hS.cons (rz_rn q2)
   replace hS := hS.cons (rz_rn q5)
   clear e0 e1 e2 e3 e4 e5 hb1 hv q1 q2 q5 fv
   have hS1 := hS.put (((Upd.refl (w.heap.size + 1 + 1) x8).setCell 0 (.bool (zs g))).setCell 1 (.slice g6 (tln g.natAbs) d6)) (hL0.get _ _ (List.mem_cons_of_mem _ (List.mem_cons_of_mem _ (List.mem_cons_of_mem _ List.mem_cons_self)))) (by intro v hv n; simp only [List.mem_cons, List.not_mem_nil, or_false] at hv; rcases hv with rfl | rfl <;> simp)
   have hA := hL0.fc
   simp only [fcG, cellsF, neK, and_true, ne_eq, Nat.zero_add, Nat.reduceAdd] at hA
   have hP := hL0.put 3 (w.heap.size + 1 + 1) _ rfl [.bool (zs g), .slice g6 (tln g.natAbs) d6] rfl
   simp only [setAll, List.set_cons_zero, List.set_cons_succ] at hP
   generalize hput3 : ((x8.setCell ⟨w.heap.size + 1 + 1, 0, none⟩ (.bool (zs g))).setCell ⟨w.heap.size + 1 + 1, 1, none⟩ (.slice g6 (tln g.natAbs) d6)) = x9 at hP hS1
   have hB3 := hP.fc
   simp only [fcG, cellsF, neK, and_true, ne_eq, Nat.zero_add, Nat.reduceAdd] at hB3
   replace hL0 := hP
   replace hS := hS1
   clear hS1
   have hS1 := hS.put (((Upd.refl (w.heap.size + 1 + 1 + 1) x9).setCell 0 (.bool (zs h))).setCell 1 (.slice g7 (tln h.natAbs) d7)) (hL0.get _ _ (List.mem_cons_of_mem _ (List.mem_cons_of_mem _ List.mem_cons_self))) (by intro v hv n; simp only [List.mem_cons, List.not_mem_nil, or_false] at hv; rcases hv with rfl | rfl <;> simp)
   have hP := hL0.put 2 (w.heap.size + 1 + 1 + 1) _ rfl [.bool (zs h), .slice g7 (tln h.natAbs) d7] rfl
   simp only [setAll, List.set_cons_zero, List.set_cons_succ] at hP
   generalize hput4 : ((x9.setCell ⟨w.heap.size + 1 + 1 + 1, 0, none⟩ (.bool (zs h))).setCell ⟨w.heap.size + 1 + 1 + 1, 1, none⟩ (.slice g7 (tln h.natAbs) d7)) = x10 at hP hS1
   have hB4 := hP.fc
   simp only [fcG, cellsF, neK, and_true, ne_eq, Nat.zero_add, Nat.reduceAdd] at hB4
   replace hL0 := hP
   replace hS := hS1
   clear hS1
   go_wp2_with fail
   exact bodyPost_ret (v := .tuple #[.agg #[.bool (zs g), .slice g6 (tln g.natAbs) d6], .agg #[.bool (zs h), .slice g7 (tln h.natAbs) d7]]) (by simp [results, Tryz.results133, go_sem, hB4]) rfl ⟨_, _, rfl, (rz_of (hS.get (List.mem_cons_of_mem _ List.mem_cons_self))), (rz_of (hS.get List.mem_cons_self)), hL0.bl⟩
set_option maxHeartbeats 4000000 in
set_option maxRecDepth 100000 in
theorem rzdiv_neg (x y u v s r : Int) (q m : Nat) (t g h : Int) (HD : ∀ (p0 p1 : Value) (w : World), Rn w p0 x.natAbs → Rn w p1 y.natAbs → Calls Tryz.prog 66 #[p0, p1] w fun e w' => ∃ v0 v1, e = .returned (.tuple #[v0, v1]) ∧ Rn w' v0 q ∧ Rn w' v1 m ∧ Below w.heap.size w w') (HF : ∀ (p1 : Value) (w : World), Rn w p1 q → Calls Tryz.prog 125 #[.bool (!(zs x == zs y)), p1] w fun e w' => ∃ pv, e = .returned pv ∧ RZ w' pv u ∧ Below w.heap.size w w') (HG : ∀ (p1 : Value) (w : World), Rn w p1 m → Calls Tryz.prog 125 #[.bool (zs x), p1] w fun e w' => ∃ pv, e = .returned pv ∧ RZ w' pv v ∧ Below w.heap.size w w') (HS : ∀ (p0 : Value) (w : World), RZ w p0 v → Calls Tryz.prog 192 #[p0] w fun e w' => e = .returned (.int .i64 s) ∧ Below w.heap.size w w') (HR : ∀ (p0 : Value) (w : World), RZ w p0 y → Calls Tryz.prog 192 #[p0] w fun e w' => e = .returned (.int .i64 r) ∧ Below w.heap.size w w') (HO : ∀ (w : World), Calls Tryz.prog 129 #[.int .i64 1] w fun e w' => ∃ pv, e = .returned pv ∧ RZ w' pv t ∧ Below w.heap.size w w') (HA : ∀ (p0 p1 : Value) (w : World), RZ w p0 u → RZ w p1 t → Calls Tryz.prog 128 #[p0, p1] w fun e w' => ∃ pv, e = .returned pv ∧ RZ w' pv g ∧ Below w.heap.size w w') (HB : ∀ (p0 p1 : Value) (w : World), RZ w p0 v → RZ w p1 y → Calls Tryz.prog 193 #[p0, p1] w fun e w' => ∃ pv, e = .returned pv ∧ RZ w' pv h ∧ Below w.heap.size w w') (hs0 : decide (s < 0) = true) (hs1 : decide (0 < r) = false) (p0 : Value) (p1 : Value) (w : World) (r0 : RZ w p0 x) (r1 : RZ w p1 y) :
  Calls Tryz.prog 133 #[p0, p1] w fun e w' => ∃ v0 v1, e = .returned (.tuple #[v0, v1]) ∧ RZ w' v0 g ∧ RZ w' v1 h ∧ Below w.heap.size w w' := by
 obtain ⟨a0, c0, rfl⟩ := rz_form r0
 have f0 := Lib.hid (rz_rn r0)
 clear r0
 obtain ⟨a1, c1, rfl⟩ := rz_form r1
 have f1 := Lib.hid (rz_rn r1)
 clear r1
 replace HD := Lib.hid HD
 replace HF := Lib.hid HF
 replace HG := Lib.hid HG
 replace HS := Lib.hid HS
 replace HR := Lib.hid HR
 replace HO := Lib.hid HO
 replace HA := Lib.hid HA
 replace HB := Lib.hid HB
 have hL0 : GL w w [] := GL.start w
 have hS : SS w [] := SS.nil w
 replace hS := ((((hS.new (.cells #[.bool (zs x), .slice a0 (tln x.natAbs) c0] 40)).new (.cells #[.bool (zs y), .slice a1 (tln y.natAbs) c1] 40)).new (.cells #[.bool false, .slice none 0 0] 40)).new (.cells #[.bool false, .slice none 0 0] 40))
 replace hL0 := ((((hL0.new rfl [.bool (zs x), .slice a0 (tln x.natAbs) c0] 40).new (K := w.heap.size + 1) (szA _ _) [.bool (zs y), .slice a1 (tln y.natAbs) c1] 40).new (K := w.heap.size + 1 + 1) (by simp only [World.size_alloc]) [.bool false, .slice none 0 0] 40).new (K := w.heap.size + 1 + 1 + 1) (by simp only [World.size_alloc]) [.bool false, .slice none 0 0] 40)
 generalize hweq : ((((w.alloc (.cells #[.bool (zs x), .slice a0 (tln x.natAbs) c0] 40)).alloc (.cells #[.bool (zs y), .slice a1 (tln y.natAbs) c1] 40)).alloc (.cells #[.bool false, .slice none 0 0] 40)).alloc (.cells #[.bool false, .slice none 0 0] 40)) = x1 at hL0 hS
 go_enter Tryz.func133, Tryz.ntmps133
 have hN0 := cells_of _ 0 [] rfl (hL0.get _ _ (List.mem_cons_of_mem _ (List.mem_cons_of_mem _ List.mem_cons_self)))
 simp only [cellsF, and_true, Nat.zero_add, Nat.reduceAdd] at hN0
 have hN1 := cells_of _ 0 [] rfl (hL0.get _ _ (List.mem_cons_of_mem _ (List.mem_cons_of_mem _ (List.mem_cons_of_mem _ List.mem_cons_self))))
 simp only [cellsF, and_true, Nat.zero_add, Nat.reduceAdd] at hN1
 go_wp2_with fail
 clear hN0 hN1
 with_reducible refine Calls.mono (HD.out (.slice a0 (tln x.natAbs) c0) (.slice a1 (tln y.natAbs) c1) _ (Sl.below f0.out hL0.bl) (Sl.below f1.out hL0.bl)) ?_
 rintro e x2 ⟨v0, v1, rfl, q0, q1, hb⟩
 replace hL0 := hL0.call hb
 replace hS := hS.call hb
 clear hb hweq
 obtain ⟨g1, d1, rfl⟩ := rn_form q0
 replace hS := hS.cons q0
 clear q0
 obtain ⟨g2, d2, rfl⟩ := rn_form q1
 replace hS := hS.cons q1
 clear q1
 go_upto_region 2 with fail
 refine region_tal 13 [EV (.pointer (some ⟨w.heap.size, 0, none⟩)), EV (.bool (zs x)), EV (.pointer (some ⟨w.heap.size + 1, 0, none⟩)), EV (.bool (zs y)), EV (.bool (!(zs x == zs y))), EV (.slice g1 (tln q) d1), PZ u, EV (.pointer (some ⟨w.heap.size, 0, none⟩)), EV (.bool (zs x)), EV (.slice g2 (tln m) d2), PZ v, NewB x2.heap.size [.bool false, .slice none 0 0], NewB x2.heap.size [.bool false, .slice none 0 0]] [11, 12] (by kernel_rfl) (by kernel_rfl) ?_ ?_ ?_ ?_ ?_
 ·exact stays_cons (stays_eq _) (stays_cons (stays_eq _) (stays_cons (stays_eq _) (stays_cons (stays_eq _) (stays_cons (stays_eq _) (stays_cons (stays_eq _) (stays_cons (stays_rz _) (stays_cons (stays_eq _) (stays_cons (stays_eq _) (stays_cons (stays_eq _) (stays_cons (stays_rz _) (stays_cons (stays_new _ _) (stays_cons (stays_new _ _) (stays_nil)))))))))))))
 ·simp only [List.take_succ_cons, List.take_zero, hopsR, and_true]
  refine ⟨?_, ?_, ?_, ?_, ?_, ?_, ?_, ?_, ?_, ?_, ?_, ?_, ?_⟩ <;> intro fv w1 hb1 hp
  all_goals (simp only [putsV, Act.put, List.setIfInBounds_toArray, List.set_cons_succ, List.set_cons_zero, Nat.zero_add, Nat.reduceAdd])
  ·refine tyAt_none rfl ?_
   simp [tyUpon, execOp, go_sem, Act.eval, Below.refl]
  ·have h0 : EV _ (fv 0) w1 := hp 0 (LC (by kernel_rfl))
   refine tyAt_none rfl ?_
   have hc := (hL0.call (below_drew hb1)).fc
   simp only [fcG, cellsF, neK, and_true, ne_eq, Nat.zero_add, Nat.reduceAdd] at hc
   simp [tyUpon, execOp, go_sem, Act.eval, hc, h0, Below.refl]
  ·refine tyAt_none rfl ?_
   simp [tyUpon, execOp, go_sem, Act.eval, Below.refl]
  ·have h2 : EV _ (fv 2) w1 := hp 2 (LC (by kernel_rfl))
   refine tyAt_none rfl ?_
   have hc := (hL0.call (below_drew hb1)).fc
   simp only [fcG, cellsF, neK, and_true, ne_eq, Nat.zero_add, Nat.reduceAdd] at hc
   simp [tyUpon, execOp, go_sem, Act.eval, hc, h2, Below.refl]
  ·have h1 : EV _ (fv 1) w1 := hp 1 (LC (by kernel_rfl))
   have h3 : EV _ (fv 3) w1 := hp 3 (LC (by kernel_rfl))
   refine tyAt_none rfl ?_
   simp [tyUpon, execOp, go_sem, Act.eval, h1, h3, Below.refl]
  ·refine tyAt_none rfl ?_
   simp [tyUpon, execOp, go_sem, Act.eval, Below.refl]
  ·have h4 : EV _ (fv 4) w1 := hp 4 (LC (by kernel_rfl))
   have h5 : EV _ (fv 5) w1 := hp 5 (LC (by kernel_rfl))
   refine tyAt_none rfl ?_
   refine ty_call (f := 125) (args := #[.bool (!(zs x == zs y)), .slice g1 (tln q) d1]) (by simp [execOp, go_sem, Act.eval, h4, h5]) ?_
   exact (HF.out (.slice g1 (tln q) d1) w1 (Sl.below (hS.get (List.mem_cons_of_mem _ List.mem_cons_self)) (below_drew hb1))).mono fun e w2 ⟨pv, h1, h2, h3⟩ => ⟨pv, h1, h2, h3⟩
  ·refine tyAt_none rfl ?_
   simp [tyUpon, execOp, go_sem, Act.eval, Below.refl]
  ·have h7 : EV _ (fv 7) w1 := hp 7 (LC (by kernel_rfl))
   refine tyAt_none rfl ?_
   have hc := (hL0.call (below_drew hb1)).fc
   simp only [fcG, cellsF, neK, and_true, ne_eq, Nat.zero_add, Nat.reduceAdd] at hc
   simp [tyUpon, execOp, go_sem, Act.eval, hc, h7, Below.refl]
  ·refine tyAt_none rfl ?_
   simp [tyUpon, execOp, go_sem, Act.eval, Below.refl]
  ·have h8 : EV _ (fv 8) w1 := hp 8 (LC (by kernel_rfl))
   have h9 : EV _ (fv 9) w1 := hp 9 (LC (by kernel_rfl))
   refine tyAt_none rfl ?_
   refine ty_call (f := 125) (args := #[.bool (zs x), .slice g2 (tln m) d2]) (by simp [execOp, go_sem, Act.eval, h8, h9]) ?_
   exact (HG.out (.slice g2 (tln m) d2) w1 (Sl.below (hS.get List.mem_cons_self) (below_drew hb1))).mono fun e w2 ⟨pv, h1, h2, h3⟩ => ⟨pv, h1, h2, h3⟩
  ·exact tyAt_new rfl rfl new_rz (below_drew hb1).size
  ·exact tyAt_new rfl rfl new_rz (below_drew hb1).size
 ·intro j hj u w2 hT
  simp only [List.contains_iff_mem, List.mem_cons, List.not_mem_nil, or_false] at hj
  rcases hj with rfl | rfl <;> exact NewB.ptr hT
 ·exact ⟨⟨_, _, _, _, rfl, rfl, rfl, new_rz⟩, ⟨_, _, _, _, rfl, rfl, rfl, new_rz⟩, trivial⟩
 ·intro fv x3 hb1 hv hne
  have e0 : fv 0 = _ := hv 0 (by omega)
  have e1 : fv 1 = _ := hv 1 (by omega)
  have e2 : fv 2 = _ := hv 2 (by omega)
  have e3 : fv 3 = _ := hv 3 (by omega)
  have e4 : fv 4 = _ := hv 4 (by omega)
  have e5 : fv 5 = _ := hv 5 (by omega)
  have q6 : RZ x3 (fv 6) u := hv 6 (by omega)
  obtain ⟨g3, d3, e6⟩ := rz_form q6
  rw [e6] at q6
  have e7 : fv 7 = _ := hv 7 (by omega)
  have e8 : fv 8 = _ := hv 8 (by omega)
  have e9 : fv 9 = _ := hv 9 (by omega)
  have q10 : RZ x3 (fv 10) v := hv 10 (by omega)
  obtain ⟨g4, d4, e10⟩ := rz_form q10
  rw [e10] at q10
  obtain ⟨kb11, e11, n11, m11⟩ : NewB x2.heap.size [.bool false, .slice none 0 0] (fv 11) x3 := hv 11 (by omega)
  obtain ⟨kb12, e12, n12, m12⟩ : NewB x2.heap.size [.bool false, .slice none 0 0] (fv 12) x3 := hv 12 (by omega)
  simp only [List.take_succ_cons, List.take_zero, putsV, Act.put, List.setIfInBounds_toArray, List.set_cons_succ, List.set_cons_zero, List.drop_succ_cons, List.drop_zero, Nat.zero_add, Nat.reduceAdd, e0, e1, e2, e3, e4, e5, e6, e7, e8, e9, e10, e11, e12]
  have hx0 := hL0
  replace hL0 := hL0.call (below_drew hb1)
  replace hS := hS.call (below_drew hb1)
  replace hL0 := GL.tnew (M := []) hL0 hx0 n11 m11 (fun p hp => by cases hp)
  replace hL0 := GL.tnew (M := [(kb11, [.bool false, .slice none 0 0])]) hL0 hx0 n12 m12 (by intro p hp; simp only [List.mem_cons, List.not_mem_nil, or_false] at hp; rcases hp with rfl; exact ptr_ne e11 e12 (hne 11 12 (by omega) (by omega) (by omega) rfl rfl))
  simp only [List.cons_append, List.nil_append] at hL0
  replace hS := hS.cons (rz_rn q6)
  replace hS := hS.cons (rz_rn q10)
  clear e0 e1 e2 e3 e4 e5 e6 e7 e8 e9 e10 e11 e12 hb1 hv hne hx0 n11 m11 n12 m12 q6 q10 fv
  have hS1 := hS.put (((Upd.refl kb11 x3).setCell 0 (.bool (zs u))).setCell 1 (.slice g3 (tln u.natAbs) d3)) (hL0.get _ _ (List.mem_cons_of_mem _ List.mem_cons_self)) (by intro v hv n; simp only [List.mem_cons, List.not_mem_nil, or_false] at hv; rcases hv with rfl | rfl <;> simp)
  have hA := hL0.fc
  simp only [fcG, cellsF, neK, and_true, ne_eq, Nat.zero_add, Nat.reduceAdd] at hA
  have hP := hL0.put 1 (kb11) _ rfl [.bool (zs u), .slice g3 (tln u.natAbs) d3] rfl
  simp only [setAll, List.set_cons_zero, List.set_cons_succ] at hP
  generalize hput1 : ((x3.setCell ⟨kb11, 0, none⟩ (.bool (zs u))).setCell ⟨kb11, 1, none⟩ (.slice g3 (tln u.natAbs) d3)) = x4 at hP hS1
  have hB1 := hP.fc
  simp only [fcG, cellsF, neK, and_true, ne_eq, Nat.zero_add, Nat.reduceAdd] at hB1
  replace hL0 := hP
  replace hS := hS1
  clear hS1
  have hS1 := hS.put (((Upd.refl kb12 x4).setCell 0 (.bool (zs v))).setCell 1 (.slice g4 (tln v.natAbs) d4)) (hL0.get _ _ List.mem_cons_self) (by intro v hv n; simp only [List.mem_cons, List.not_mem_nil, or_false] at hv; rcases hv with rfl | rfl <;> simp)
  have hP := hL0.put 0 (kb12) _ rfl [.bool (zs v), .slice g4 (tln v.natAbs) d4] rfl
  simp only [setAll, List.set_cons_zero, List.set_cons_succ] at hP
  generalize hput2 : ((x4.setCell ⟨kb12, 0, none⟩ (.bool (zs v))).setCell ⟨kb12, 1, none⟩ (.slice g4 (tln v.natAbs) d4)) = x5 at hP hS1
  have hB2 := hP.fc
  simp only [fcG, cellsF, neK, and_true, ne_eq, Nat.zero_add, Nat.reduceAdd] at hB2
  replace hL0 := hP
  replace hS := hS1
  clear hS1
  go_wp2_with fail
  clear hA
  with_reducible refine Calls.mono (HS.out (.agg #[.bool (zs v), .slice g4 (tln v.natAbs) d4]) _ (rz_of (hS.get List.mem_cons_self))) ?_
  rintro e x6 ⟨rfl, hb⟩
  replace hL0 := hL0.call hb
  replace hS := hS.call hb
  clear hb hput1 hB1 hput2 hB2
  have hN0 := cells_of _ 0 [] rfl (hL0.get _ _ (List.mem_cons_of_mem _ (List.mem_cons_of_mem _ (List.mem_cons_of_mem _ (List.mem_cons_of_mem _ List.mem_cons_self)))))
  simp only [cellsF, and_true, Nat.zero_add, Nat.reduceAdd] at hN0
  go_wp2_with fail
  clear hN0
  with_reducible refine Calls.mono (HR.out (.agg #[.bool (zs y), .slice a1 (tln y.natAbs) c1]) _ (rz_of (Sl.below f1.out hL0.bl))) ?_
  rintro e x7 ⟨rfl, hb⟩
  replace hL0 := hL0.call hb
  replace hS := hS.call hb
  clear hb
  have hN0 := cells_of _ 0 [] rfl (hL0.get _ _ List.mem_cons_self)
  simp only [cellsF, and_true, Nat.zero_add, Nat.reduceAdd] at hN0
  go_wp2_with fail
  clear hN0
  with_reducible refine Calls.mono (HS.out (.agg #[.bool (zs v), .slice g4 (tln v.natAbs) d4]) _ (rz_of (hS.get List.mem_cons_self))) ?_
  rintro e x8 ⟨rfl, hb⟩
  replace hL0 := hL0.call hb
  replace hS := hS.call hb
  clear hb
  go_upto_region 6 with fail
  refine region_tl 6 [EV (.agg #[.bool (zs u), .slice g3 (tln u.natAbs) d3]), PZ t, PZ g, EV (.agg #[.bool (zs v), .slice g4 (tln v.natAbs) d4]), EV (.agg #[.bool (zs y), .slice a1 (tln y.natAbs) c1]), PZ h] (by kernel_rfl) (by kernel_rfl) ?_ ?_ ?_
  ·exact stays_cons (stays_eq _) (stays_cons (stays_rz _) (stays_cons (stays_rz _) (stays_cons (stays_eq _) (stays_cons (stays_eq _) (stays_cons (stays_rz _) (stays_nil))))))
  ·simp only [List.take_succ_cons, List.take_zero, hopsR, and_true]
   refine ⟨?_, ?_, ?_, ?_, ?_, ?_⟩ <;> intro fv w1 hb1 hp
   all_goals (simp only [putsV, Act.put, List.setIfInBounds_toArray, List.set_cons_succ, List.set_cons_zero, Nat.zero_add, Nat.reduceAdd])
   ·refine tyAt_none rfl ?_
    have hc := (hL0.call (below_drew hb1)).fc
    simp only [fcG, cellsF, neK, and_true, ne_eq, Nat.zero_add, Nat.reduceAdd] at hc
    simp [tyUpon, execOp, go_sem, Act.eval, hc, Below.refl]
   ·refine tyAt_none rfl ?_
    refine ty_call (f := 129) (args := #[.int .i64 1]) (by simp [execOp, go_sem, Act.eval]) ?_
    exact (HO.out w1).mono fun e w2 ⟨pv, h1, h2, h3⟩ => ⟨pv, h1, h2, h3⟩
   ·have h0 : EV _ (fv 0) w1 := hp 0 (LC (by kernel_rfl))
    have h1 : PZ _ (fv 1) w1 := hp 1 (LC (by kernel_rfl))
    refine tyAt_none rfl ?_
    refine ty_call (f := 128) (args := #[.agg #[.bool (zs u), .slice g3 (tln u.natAbs) d3], fv 1]) (by simp [execOp, go_sem, Act.eval, h0]) ?_
    exact (HA.out (.agg #[.bool (zs u), .slice g3 (tln u.natAbs) d3]) (fv 1) w1 (rz_of (Sl.below (hS.get (List.mem_cons_of_mem _ List.mem_cons_self)) (below_drew hb1))) h1).mono fun e w2 ⟨pv, h1, h2, h3⟩ => ⟨pv, h1, h2, h3⟩
   ·refine tyAt_none rfl ?_
    have hc := (hL0.call (below_drew hb1)).fc
    simp only [fcG, cellsF, neK, and_true, ne_eq, Nat.zero_add, Nat.reduceAdd] at hc
    simp [tyUpon, execOp, go_sem, Act.eval, hc, Below.refl]
   ·refine tyAt_none rfl ?_
    have hc := (hL0.call (below_drew hb1)).fc
    simp only [fcG, cellsF, neK, and_true, ne_eq, Nat.zero_add, Nat.reduceAdd] at hc
    simp [tyUpon, execOp, go_sem, Act.eval, hc, Below.refl]
   ·have h3 : EV _ (fv 3) w1 := hp 3 (LC (by kernel_rfl))
    have h4 : EV _ (fv 4) w1 := hp 4 (LC (by kernel_rfl))
    refine tyAt_none rfl ?_
    refine ty_call (f := 193) (args := #[.agg #[.bool (zs v), .slice g4 (tln v.natAbs) d4], .agg #[.bool (zs y), .slice a1 (tln y.natAbs) c1]]) (by simp [execOp, go_sem, Act.eval, h3, h4]) ?_
    exact (HB.out (.agg #[.bool (zs v), .slice g4 (tln v.natAbs) d4]) (.agg #[.bool (zs y), .slice a1 (tln y.natAbs) c1]) w1 (rz_of (Sl.below (hS.get List.mem_cons_self) (below_drew hb1))) (rz_of (Sl.below (Sl.below f1.out hL0.bl) (below_drew hb1)))).mono fun e w2 ⟨pv, h1, h2, h3⟩ => ⟨pv, h1, h2, h3⟩
  ·intro fv x9 hb1 hv
   have e0 : fv 0 = _ := hv 0 (by omega)
   have q1 : RZ x9 (fv 1) t := hv 1 (by omega)
   obtain ⟨g5, d5, e1⟩ := rz_form q1
   rw [e1] at q1
   have q2 : RZ x9 (fv 2) g := hv 2 (by omega)
   obtain ⟨g6, d6, e2⟩ := rz_form q2
   rw [e2] at q2
   have e3 : fv 3 = _ := hv 3 (by omega)
   have e4 : fv 4 = _ := hv 4 (by omega)
   have q5 : RZ x9 (fv 5) h := hv 5 (by omega)
   obtain ⟨g7, d7, e5⟩ := rz_form q5
   rw [e5] at q5
   simp only [List.take_succ_cons, List.take_zero, putsV, Act.put, List.setIfInBounds_toArray, List.set_cons_succ, List.set_cons_zero, List.drop_succ_cons, List.drop_zero, Nat.zero_add, Nat.reduceAdd, e0, e1, e2, e3, e4, e5]
   replace hL0 := hL0.call (below_drew hb1)
   replace hS := hS.call (below_drew hb1)
   replace hS := hS.cons (rz_rn q1)
   replace hS := hS.cons (rz_rn q2)
   replace hS := hS.cons (rz_rn q5)
   clear e0 e1 e2 e3 e4 e5 hb1 hv q1 q2 q5 fv
   have hS1 := hS.put (((Upd.refl (w.heap.size + 1 + 1) x9).setCell 0 (.bool (zs g))).setCell 1 (.slice g6 (tln g.natAbs) d6)) (hL0.get _ _ (List.mem_cons_of_mem _ (List.mem_cons_of_mem _ (List.mem_cons_of_mem _ List.mem_cons_self)))) (by intro v hv n; simp only [List.mem_cons, List.not_mem_nil, or_false] at hv; rcases hv with rfl | rfl <;> simp)
   have hA := hL0.fc
   simp only [fcG, cellsF, neK, and_true, ne_eq, Nat.zero_add, Nat.reduceAdd] at hA
   have hP := hL0.put 3 (w.heap.size + 1 + 1) _ rfl [.bool (zs g), .slice g6 (tln g.natAbs) d6] rfl
   simp only [setAll, List.set_cons_zero, List.set_cons_succ] at hP
   generalize hput3 : ((x9.setCell ⟨w.heap.size + 1 + 1, 0, none⟩ (.bool (zs g))).setCell ⟨w.heap.size + 1 + 1, 1, none⟩ (.slice g6 (tln g.natAbs) d6)) = x10 at hP hS1
   have hB3 := hP.fc
   simp only [fcG, cellsF, neK, and_true, ne_eq, Nat.zero_add, Nat.reduceAdd] at hB3
   replace hL0 := hP
   replace hS := hS1
   clear hS1
   have hS1 := hS.put (((Upd.refl (w.heap.size + 1 + 1 + 1) x10).setCell 0 (.bool (zs h))).setCell 1 (.slice g7 (tln h.natAbs) d7)) (hL0.get _ _ (List.mem_cons_of_mem _ (List.mem_cons_of_mem _ List.mem_cons_self))) (by intro v hv n; simp only [List.mem_cons, List.not_mem_nil, or_false] at hv; rcases hv with rfl | rfl <;> simp)
   have hP := hL0.put 2 (w.heap.size + 1 + 1 + 1) _ rfl [.bool (zs h), .slice g7 (tln h.natAbs) d7] rfl
   simp only [setAll, List.set_cons_zero, List.set_cons_succ] at hP
   generalize hput4 : ((x10.setCell ⟨w.heap.size + 1 + 1 + 1, 0, none⟩ (.bool (zs h))).setCell ⟨w.heap.size + 1 + 1 + 1, 1, none⟩ (.slice g7 (tln h.natAbs) d7)) = x11 at hP hS1
   have hB4 := hP.fc
   simp only [fcG, cellsF, neK, and_true, ne_eq, Nat.zero_add, Nat.reduceAdd] at hB4
   replace hL0 := hP
   replace hS := hS1
   clear hS1
   go_wp2_with fail
   exact bodyPost_ret (v := .tuple #[.agg #[.bool (zs g), .slice g6 (tln g.natAbs) d6], .agg #[.bool (zs h), .slice g7 (tln h.natAbs) d7]]) (by simp [results, Tryz.results133, go_sem, hB4]) rfl ⟨_, _, rfl, (rz_of (hS.get (List.mem_cons_of_mem _ List.mem_cons_self))), (rz_of (hS.get List.mem_cons_self)), hL0.bl⟩
end Go.Proofs.YtdkjckiialnpnaaGreatDoor
namespace Go.Proofs.YtdkjckiialnpnaaGreatDoor
open Go.RowKit
attribute [local irreducible] lo hs sm s64 c64 d64 b64 mh ml pd pc qd qc val hiB str cmpI srD lz nb isq zl zh zs
theorem new_int (w : World) : (Instr.alloc 32 true (.tuple #[])).run Tryz.prog w = .ok (.pointer (some ⟨w.heap.size, 0, none⟩)) (w.alloc (.cells #[.int .u64 0, .string ⟨#[]⟩, .bool false] 32)) := by
 simp [go_sem, Instr.alloc]
theorem hd_put3 {w : World} {k : Nat} {x0 x1 x2 : Value} (h : Hd w k [x0, x1, x2]) (v0 v1 v2 : Value) : Hd (((w.setCell ⟨k, 0, none⟩ v0).setCell ⟨k, 1, none⟩ v1).setCell ⟨k, 2, none⟩ v2) k [v0, v1, v2] :=
 setAll_hd [v0, v1, v2] 0 w k [] [x0, x1, x2] rfl rfl h
theorem put_int (i0 i : Int) (s0 s : ByteArray) (b0 b : Bool) (w : World) (k : Nat) (h : Hd w k [.int .u64 i0, .string s0, .bool b0]) :
  ∃ w', (Instr.storeAt 32 (.pointer (some ⟨k, 0, none⟩)) (.agg #[.int .u64 i, .string s, .bool b])).run Tryz.prog w = .ok () w' ∧ Hd w' k [.int .u64 i, .string s, .bool b] ∧ Upd k w w' := by
 have h0 : w.cell? ⟨k, 0, none⟩ = some (.int .u64 i0) := h.cell 0 (by simp)
 have h1 : w.cell? ⟨k, 1, none⟩ = some (.string s0) := h.cell 1 (by simp)
 have h2 : w.cell? ⟨k, 2, none⟩ = some (.bool b0) := h.cell 2 (by simp)
 have hf := h.frz
 refine ⟨_, ?_, hd_put3 h (.int .u64 i) (.string s) (.bool b), (((Upd.refl k w).setCell 0 _).setCell 1 _).setCell 2 _⟩
 simp [go_sem, Instr.storeAt, Instr.sureAddr, h0, h1, h2, hf]
theorem z0 : zl 0 = 0 ∧ zh 0 = ⟨#[]⟩ ∧ zs 0 = false := ⟨by unfold zl; rw [show (0 : Int).natAbs = 0 from rfl, lo_small Bs_pos], by unfold zh; rw [show (0 : Int).natAbs = 0 from rfl, hs_small Bs_pos], by unfold zs; rfl⟩
end Go.Proofs.YtdkjckiialnpnaaGreatDoor
namespace Go.Proofs.YtdkjckiialnpnaaGreatDoor
open Go.RowKit
theorem canc {z : Int} {d : Nat} (hd : d ≠ 0) : (mkRat z d).num = z.tdiv (Nat.gcd z.natAbs d : Nat) ∧ (mkRat z d).den = d / Nat.gcd z.natAbs d := by
 have hg : ((Nat.gcd z.natAbs d : Nat) : Int) ∣ z := by rw [← Int.dvd_natAbs, Int.ofNat_dvd]; exact Nat.gcd_dvd_left _ _
 rw [Rat.num_mkRat, Rat.den_mkRat, if_neg hd, if_neg hd, Nat.gcd_comm d]
 exact ⟨(Int.tdiv_eq_ediv_of_dvd hg).symm, rfl⟩
theorem rinv_parts {a : Rat} (h : a ≠ 0) : (a⁻¹).num = (if a.num < 0 then -(a.den : Int) else (a.den : Int)) ∧ (a⁻¹).den = a.num.natAbs := by
 have h0 : a.num ≠ 0 := fun e => h (Rat.num_eq_zero.1 e)
 rw [Rat.num_inv, Rat.den_inv, if_neg h0]
 refine ⟨?_, rfl⟩
 split
 ·rename_i h1; rw [Int.sign_eq_neg_one_of_neg h1]; omega
 ·rw [Int.sign_eq_one_of_pos (by omega)]; omega
theorem num_le_add (a b : Rat) : (a + b).num.natAbs ≤ (a.num * b.den + b.num * a.den).natAbs := by
 rw [Rat.num_add]; exact Int.natAbs_ediv_le_natAbs _ _
theorem den_le_add (a b : Rat) : (a + b).den ≤ a.den * b.den := by
 rw [Rat.den_add]; exact Nat.div_le_self _ _
theorem num_le_mul (a b : Rat) : (a * b).num.natAbs ≤ (a.num * b.num).natAbs := by
 rw [Rat.num_mul]; exact Int.natAbs_ediv_le_natAbs _ _
theorem den_le_mul (a b : Rat) : (a * b).den ≤ a.den * b.den := by
 rw [Rat.den_mul]; exact Nat.div_le_self _ _
/-- The denominator as it is kept: 0 stands for 1. -/
def fe (q : Rat) : Nat := if q.den = 1 then 0 else q.den
/-- A fraction: its numerator, and its denominator as it is kept. -/
abbrev frV (n : Int) (e : Nat) : Value := .agg #[.int .u64 ((zl n : Nat) : Int), .string (zh n), .bool (zs n), .int .u64 ((lo e : Nat) : Int), .string (hs e)]
abbrev fracV (q : Rat) : Value := frV q.num (fe q)
/-- What == sees of two naturals that differ. -/
theorem ne_nat {a b : Nat} (h : a ≠ b) : (((lo a : Nat) : Int) == ((lo b : Nat) : Int)) = false ∨ ((((lo a : Nat) : Int) == ((lo b : Nat) : Int)) = true ∧ ((hs a).toList == (hs b).toList) = false) := by
 by_cases h1 : lo a = lo b
 ·right
  refine ⟨by rw [h1]; exact beq_self_eq_true _, beq_eq_false_iff_ne.2 fun h3 => h ?_⟩
  rw [hs_toList, hs_toList] at h3
  have h4 := hiB_inj h3
  have h5 := divmod a
  have h6 := divmod b
  rw [h4, h1, ← h6] at h5
  exact h5
 ·left
  exact beq_eq_false_iff_ne.2 fun h2 => h1 (by omega)
/-- At most k words in the numerator and in the denominator. -/
def Sz (q : Rat) (k : Nat) : Prop := dI q.num ≤ k ∧ (digs q.den).length ≤ k
theorem Sz.n {q : Rat} {k : Nat} (h : Sz q k) : dI q.num ≤ k := h.1
theorem Sz.d {q : Rat} {k : Nat} (h : Sz q k) : (digs q.den).length ≤ k := h.2
theorem Sz.mono {q : Rat} {k m : Nat} (h : Sz q k) (hm : k ≤ m) : Sz q m := ⟨Nat.le_trans h.1 hm, Nat.le_trans h.2 hm⟩
theorem Sz.neg {q : Rat} {k : Nat} (h : Sz q k) : Sz (-q) k := ⟨by rw [Rat.neg_num, dI_neg]; exact h.1, h.2⟩
theorem Sz.add {p q : Rat} {k m : Nat} (hp : Sz p k) (hq : Sz q m) : Sz (p + q) (k + m + 1) := by
 constructor
 ·refine Nat.le_trans (dI_mono (num_le_add p q)) (dI_add (k := k + m) (dI_mul hp.1 (by rw [dI_nat]; exact hq.2)) ?_)
  rw [Nat.add_comm k m]
  exact dI_mul hq.1 (by rw [dI_nat]; exact hp.2)
 ·exact Nat.le_trans (digs_mono (den_le_add p q)) (Nat.le_trans (digs_mul_le hp.2 hq.2) (by omega))
theorem Sz.sub {p q : Rat} {k m : Nat} (hp : Sz p k) (hq : Sz q m) : Sz (p - q) (k + m + 1) := by
 rw [Rat.sub_eq_add_neg]; exact hp.add hq.neg
theorem Sz.mul {p q : Rat} {k m : Nat} (hp : Sz p k) (hq : Sz q m) : Sz (p * q) (k + m) :=
 ⟨Nat.le_trans (dI_mono (num_le_mul p q)) (dI_mul hp.1 hq.1), Nat.le_trans (digs_mono (den_le_mul p q)) (digs_mul_le hp.2 hq.2)⟩
theorem Sz.inv {q : Rat} {k : Nat} (h : Sz q k) (h0 : q ≠ 0) : Sz q⁻¹ k := by
 obtain ⟨h1, h2⟩ := rinv_parts h0
 refine ⟨?_, by rw [h2]; exact h.1⟩
 rw [h1]
 split
 ·rw [dI_neg, dI_nat]; exact h.2
 ·rw [dI_nat]; exact h.2
theorem Sz.div {p q : Rat} {k m : Nat} (hp : Sz p k) (hq : Sz q m) (h0 : q ≠ 0) : Sz (p / q) (k + m) := by
 rw [Rat.div_def]; exact hp.mul (hq.inv h0)
theorem Sz.int {z : Int} {k : Nat} (h : dI z ≤ k) (hk : 0 < k) : Sz (z : Rat) k :=
 ⟨h, Nat.le_trans (digs_length_iff (k := 1).2 (by show (z : Rat).den < _; rw [Rat.den_intCast, Nat.pow_one]; exact Bs_gt)) hk⟩
theorem Sz.mk {z : Int} {d k : Nat} (hz : dI z ≤ k) (hd : (digs d).length ≤ k) (h0 : d ≠ 0) : Sz (mkRat z d) k := by
 obtain ⟨h1, h2⟩ := canc (z := z) h0
 refine ⟨?_, ?_⟩
 ·rw [h1]
  refine Nat.le_trans (dI_mono ?_) hz
  rw [Int.natAbs_tdiv]
  exact Nat.div_le_self _ _
 ·rw [h2]; exact Nat.le_trans (digs_mono (Nat.div_le_self _ _)) hd
theorem new_natc (w : World) : (Instr.alloc 30 true (.tuple #[])).run Tryz.prog w = .ok (.pointer (some ⟨w.heap.size, 0, none⟩)) (w.alloc (.cells #[.int .u64 0, .string ⟨#[]⟩] 30)) := by
 simp [go_sem, Instr.alloc]
theorem put_natc (i0 i : Int) (s0 s : ByteArray) (w : World) (k : Nat) (h : Hd w k [.int .u64 i0, .string s0]) :
  ∃ w', (Instr.storeAt 30 (.pointer (some ⟨k, 0, none⟩)) (.agg #[.int .u64 i, .string s])).run Tryz.prog w = .ok () w' ∧ Hd w' k [.int .u64 i, .string s] ∧ Upd k w w' := by
 have h0 : w.cell? ⟨k, 0, none⟩ = some (.int .u64 i0) := h.cell 0 (by simp)
 have h1 : w.cell? ⟨k, 1, none⟩ = some (.string s0) := h.cell 1 (by simp)
 have hf := h.frz
 refine ⟨_, ?_, setAll_hd [.int .u64 i, .string s] 0 w k [] [.int .u64 i0, .string s0] rfl rfl h, (((Upd.refl k w).setCell 0 _).setCell 1 _)⟩
 simp [go_sem, Instr.storeAt, Instr.sureAddr, h0, h1, hf, setAll]
theorem new_frac (w : World) : (Instr.alloc 34 true (.tuple #[])).run Tryz.prog w = .ok (.pointer (some ⟨w.heap.size, 0, none⟩)) (w.alloc (.cells #[.int .u64 0, .string ⟨#[]⟩, .bool false, .int .u64 0, .string ⟨#[]⟩] 34)) := by
 simp [go_sem, Instr.alloc]
theorem put_frac (i0 i : Int) (s0 s : ByteArray) (b0 b : Bool) (j0 j : Int) (t0 t : ByteArray) (w : World) (k : Nat) (h : Hd w k [.int .u64 i0, .string s0, .bool b0, .int .u64 j0, .string t0]) :
  ∃ w', (Instr.storeAt 34 (.pointer (some ⟨k, 0, none⟩)) (.agg #[.int .u64 i, .string s, .bool b, .int .u64 j, .string t])).run Tryz.prog w = .ok () w' ∧ Hd w' k [.int .u64 i, .string s, .bool b, .int .u64 j, .string t] ∧ Upd k w w' := by
 have h0 : w.cell? ⟨k, 0, none⟩ = some (.int .u64 i0) := h.cell 0 (by simp)
 have h1 : w.cell? ⟨k, 1, none⟩ = some (.string s0) := h.cell 1 (by simp)
 have h2 : w.cell? ⟨k, 2, none⟩ = some (.bool b0) := h.cell 2 (by simp)
 have h3 : w.cell? ⟨k, 3, none⟩ = some (.int .u64 j0) := h.cell 3 (by simp)
 have h4 : w.cell? ⟨k, 4, none⟩ = some (.string t0) := h.cell 4 (by simp)
 have hf := h.frz
 refine ⟨_, ?_, setAll_hd [.int .u64 i, .string s, .bool b, .int .u64 j, .string t] 0 w k [] [.int .u64 i0, .string s0, .bool b0, .int .u64 j0, .string t0] rfl rfl h, ((((((Upd.refl k w).setCell 0 _).setCell 1 _).setCell 2 _).setCell 3 _).setCell 4 _)⟩
 simp [go_sem, Instr.storeAt, Instr.sureAddr, h0, h1, h2, h3, h4, hf, setAll]
/-- A property of worlds that stays while memory is only made. -/
def Keeps (K : World → Prop) : Prop := ∀ w w', Below w.heap.size w w' → K w → K w'
theorem Keeps.at {K : World → Prop} (h : Keeps K) {w w' : World} (hb : Below w.heap.size w w') (hk : K w) : K w' := h _ _ hb hk
theorem Keeps.and {K L : World → Prop} (h : Keeps K) (g : Keeps L) : Keeps (fun w => K w ∧ L w) := fun _ _ hb ⟨a, b⟩ => ⟨h _ _ hb a, g _ _ hb b⟩
theorem Keeps.ws (v : Value) (l : List Nat) : Keeps (fun w => Ws w v l) := fun _ _ hb h => h.below hb
theorem seg_callK {α : Type} {F : α → World} {x : World} {K : World → Prop} (hK : Keeps K) (h1 : ∀ y, Below x.drew.heap.size x.drew (F y)) (h2 : ∀ x W, Below (F x).heap.size (F x) W → ∃ y, W = F y) (hk : K x) {P : Program} {f : FuncId} {args : Array Value} {v : Value}
  (h : ∀ w, K w → Calls P f args w fun e w' => e = .returned v ∧ Below w.heap.size w w') (y : α) : Calls P f args (F y) fun e w'' => e = .returned v ∧ ∃ y, w'' = F y :=
 (h (F y) (hK _ _ (below_drew (h1 y)) hk)).mono fun _ _ ⟨he, hb⟩ => ⟨he, h2 y _ hb⟩
end Go.Proofs.YtdkjckiialnpnaaGreatDoor
namespace Go.Proofs.YtdkjckiialnpnaaGreatDoor
open Go.RowKit Go.Proofs.YtdkjckiialnpnaaGreatDoor.Rx
def fd (q : Rat) : Nat := q.den - 1
attribute [local irreducible] lo hs sm s64 c64 d64 b64 mh ml pd pc qd qc val hiB str cmpI srD lz nb isq zl zh zs dval tln fd
/-- A fraction of the reference: its numerator, and its denominator minus 1. -/
def RF (w : World) (v : Value) (q : Rat) : Prop := ∃ a b, v = .agg #[.bool (zs q.num), a, b] ∧ Rn w a q.num.natAbs ∧ Rn w b (fd q)
abbrev PF (q : Rat) : Value → World → Prop := fun u w => RF w u q
theorem RF.below {w w' : World} {v : Value} {q : Rat} (h : RF w v q) (hb : Below w.heap.size w w') : RF w' v q := by
 obtain ⟨a, b, h1, h2, h3⟩ := h
 exact ⟨a, b, h1, Sl.below h2 hb, Sl.below h3 hb⟩
theorem rf_form {w : World} {v : Value} {q : Rat} (h : RF w v q) : ∃ a c b d, v = .agg #[.bool (zs q.num), .slice a (tln q.num.natAbs) c, .slice b (tln (fd q)) d] := by
 obtain ⟨s, t, rfl, h2, h3⟩ := h
 obtain ⟨a, c, rfl⟩ := rn_form h2
 obtain ⟨b, d, rfl⟩ := rn_form h3
 exact ⟨a, c, b, d, rfl⟩
theorem rf_rn1 {w : World} {x s t : Value} {q : Rat} (h : RF w (.agg #[x, s, t]) q) : Rn w s q.num.natAbs := by
 obtain ⟨a, b, e, h2, h3⟩ := h
 simp only [Value.agg.injEq, Array.mk.injEq, List.cons.injEq, and_true] at e
 rw [e.2.1]; exact h2
theorem rf_rn2 {w : World} {x s t : Value} {q : Rat} (h : RF w (.agg #[x, s, t]) q) : Rn w t (fd q) := by
 obtain ⟨a, b, e, h2, h3⟩ := h
 simp only [Value.agg.injEq, Array.mk.injEq, List.cons.injEq, and_true] at e
 rw [e.2.2]; exact h3
theorem rf_of {w : World} {s t : Value} {q : Rat} (h1 : Rn w s q.num.natAbs) (h2 : Rn w t (fd q)) : RF w (.agg #[.bool (zs q.num), s, t]) q := ⟨s, t, rfl, h1, h2⟩
theorem stays_rf (q : Rat) : Stays (fun u w => RF w u q) := fun _ _ _ hb h => h.below hb
set_option maxHeartbeats 4000000 in
set_option maxRecDepth 100000 in
theorem rone_w  (HO : ∀ (w : World), Calls Tryz.prog 69 #[.int .u64 1] w fun e w' => ∃ pv, e = .returned pv ∧ Rn w' pv 1 ∧ Below w.heap.size w w') (w : World) :
  Calls Tryz.prog 144 #[] w fun e w' => ∃ pv, e = .returned pv ∧ Rn w' pv 1 ∧ Below w.heap.size w w' := by
 replace HO := Lib.hid HO
 have hL0 : GL w w [] := GL.start w
 have hS : SS w [] := SS.nil w
 go_enter Tryz.func144, Tryz.ntmps144
 go_wp2_with fail
 with_reducible refine Calls.mono (HO.out _) ?_
 rintro e x1 ⟨v0, rfl, q0, hb⟩
 replace hL0 := hL0.call hb
 replace hS := hS.call hb
 clear hb
 obtain ⟨g1, d1, rfl⟩ := rn_form q0
 replace hS := hS.cons q0
 clear q0
 go_wp2_with fail
 exact bodyPost_ret (v := .slice g1 (tln 1) d1) (by simp [results, Tryz.results144, go_sem]) rfl ⟨_, rfl, (hS.get List.mem_cons_self), hL0.bl⟩
set_option maxHeartbeats 4000000 in
set_option maxRecDepth 100000 in
theorem rfden_w (q : Rat) (m : Nat) (H1 : ∀ (w : World), Calls Tryz.prog 144 #[] w fun e w' => ∃ pv, e = .returned pv ∧ Rn w' pv 1 ∧ Below w.heap.size w w') (HA : ∀ (p0 p1 : Value) (w : World), Rn w p0 (fd q) → Rn w p1 1 → Calls Tryz.prog 143 #[p0, p1] w fun e w' => ∃ pv, e = .returned pv ∧ Rn w' pv m ∧ Below w.heap.size w w') (p0 : Value) (w : World) (r0 : RF w p0 q) :
  Calls Tryz.prog 65 #[p0] w fun e w' => ∃ pv, e = .returned pv ∧ Rn w' pv m ∧ Below w.heap.size w w' := by
 obtain ⟨xa0, xc0, xb0, xd0, rfl⟩ := rf_form r0
 have xf0 := Lib.hid (rf_rn1 r0)
 have xk0 := Lib.hid (rf_rn2 r0)
 clear r0
 replace H1 := Lib.hid H1
 replace HA := Lib.hid HA
 have hL0 : GL w w [] := GL.start w
 have hS : SS w [] := SS.nil w
 replace hS := (hS.new (.cells #[.bool (zs q.num), .slice xa0 (tln q.num.natAbs) xc0, .slice xb0 (tln (fd q)) xd0] 42))
 replace hL0 := (hL0.new rfl [.bool (zs q.num), .slice xa0 (tln q.num.natAbs) xc0, .slice xb0 (tln (fd q)) xd0] 42)
 generalize hweq : (w.alloc (.cells #[.bool (zs q.num), .slice xa0 (tln q.num.natAbs) xc0, .slice xb0 (tln (fd q)) xd0] 42)) = x1 at hL0 hS
 go_enter Tryz.func65, Tryz.ntmps65
 go_upto_region 1 with fail
 clear hweq
 refine region_tl 5 [EV (.pointer (some ⟨w.heap.size, 2, none⟩)), EV (.slice xb0 (tln (fd q)) xd0), PN 1, PN m, PN m] (by kernel_rfl) (by kernel_rfl) ?_ ?_ ?_
 ·exact stays_cons (stays_eq _) (stays_cons (stays_eq _) (stays_cons (stays_rn _) (stays_cons (stays_rn _) (stays_cons (stays_rn _) (stays_nil)))))
 ·simp only [List.take_succ_cons, List.take_zero, hopsR, and_true]
  refine ⟨?_, ?_, ?_, ?_, ?_⟩ <;> intro fv w1 hb1 hp
  all_goals (simp only [putsV, Act.put, List.setIfInBounds_toArray, List.set_cons_succ, List.set_cons_zero, Nat.zero_add, Nat.reduceAdd])
  ·refine tyAt_none rfl ?_
   simp [tyUpon, execOp, go_sem, Act.eval, Below.refl]
  ·have h0 : EV _ (fv 0) w1 := hp 0 (LC (by kernel_rfl))
   refine tyAt_none rfl ?_
   have hc := (hL0.call (below_drew hb1)).fc
   simp only [fcG, cellsF, neK, and_true, ne_eq, Nat.zero_add, Nat.reduceAdd] at hc
   simp [tyUpon, execOp, go_sem, Act.eval, hc, h0, Below.refl]
  ·refine tyAt_none rfl ?_
   refine ty_call (f := 144) (args := #[]) (by simp [execOp, go_sem, Act.eval]) ?_
   exact (H1.out w1).mono fun e w2 ⟨pv, h1, h2, h3⟩ => ⟨pv, h1, h2, h3⟩
  ·have h1 : EV _ (fv 1) w1 := hp 1 (LC (by kernel_rfl))
   have h2 : PN _ (fv 2) w1 := hp 2 (LC (by kernel_rfl))
   refine tyAt_none rfl ?_
   refine ty_call (f := 143) (args := #[.slice xb0 (tln (fd q)) xd0, fv 2]) (by simp [execOp, go_sem, Act.eval, h1]) ?_
   exact (HA.out (.slice xb0 (tln (fd q)) xd0) (fv 2) w1 (Sl.below (Sl.below xk0.out hL0.bl) (below_drew hb1)) h2).mono fun e w2 ⟨pv, h1, h2, h3⟩ => ⟨pv, h1, h2, h3⟩
  ·have h3 : PN _ (fv 3) w1 := hp 3 (LC (by kernel_rfl))
   refine tyAt_none rfl ?_
   simp [tyUpon, execOp, go_sem, Act.eval, Below.refl]
   exact h3
 ·intro fv x2 hb1 hv
  have e0 : fv 0 = _ := hv 0 (by omega)
  have e1 : fv 1 = _ := hv 1 (by omega)
  have q2 : Rn x2 (fv 2) 1 := hv 2 (by omega)
  obtain ⟨g1, d1, e2⟩ := rn_form q2
  rw [e2] at q2
  have q3 : Rn x2 (fv 3) m := hv 3 (by omega)
  obtain ⟨g2, d2, e3⟩ := rn_form q3
  rw [e3] at q3
  have q4 : Rn x2 (fv 4) m := hv 4 (by omega)
  obtain ⟨g3, d3, e4⟩ := rn_form q4
  rw [e4] at q4
  simp only [List.take_succ_cons, List.take_zero, putsV, Act.put, List.setIfInBounds_toArray, List.set_cons_succ, List.set_cons_zero, List.drop_succ_cons, List.drop_zero, Nat.zero_add, Nat.reduceAdd, e0, e1, e2, e3, e4]
  replace hL0 := hL0.call (below_drew hb1)
  replace hS := hS.call (below_drew hb1)
  replace hS := hS.cons q2
  replace hS := hS.cons q3
  replace hS := hS.cons q4
  clear e0 e1 e2 e3 e4 hb1 hv q2 q3 q4 fv
  go_wp2_with fail
  exact bodyPost_ret (v := .slice g3 (tln m) d3) (by simp [results, Tryz.results65, go_sem]) rfl ⟨_, rfl, (hS.get List.mem_cons_self), hL0.bl⟩
set_option maxHeartbeats 4000000 in
set_option maxRecDepth 100000 in
theorem rffrom_w (z : Int) (d g k r m t : Nat) (q : Rat) (HG : ∀ (p0 p1 : Value) (w : World), Rn w p0 z.natAbs → Rn w p1 d → Calls Tryz.prog 189 #[p0, p1] w fun e w' => ∃ pv, e = .returned pv ∧ Rn w' pv g ∧ Below w.heap.size w w') (HD : ∀ (p0 p1 : Value) (w : World), Rn w p0 z.natAbs → Rn w p1 g → Calls Tryz.prog 66 #[p0, p1] w fun e w' => ∃ v0 v1, e = .returned (.tuple #[v0, v1]) ∧ Rn w' v0 k ∧ Rn w' v1 r ∧ Below w.heap.size w w') (HE : ∀ (p0 p1 : Value) (w : World), Rn w p0 d → Rn w p1 g → Calls Tryz.prog 66 #[p0, p1] w fun e w' => ∃ v0 v1, e = .returned (.tuple #[v0, v1]) ∧ Rn w' v0 m ∧ Rn w' v1 t ∧ Below w.heap.size w w') (HF : ∀ (p1 : Value) (w : World), Rn w p1 k → Calls Tryz.prog 125 #[.bool (zs z), p1] w fun e w' => ∃ pv, e = .returned pv ∧ RZ w' pv q.num ∧ Below w.heap.size w w') (H1 : ∀ (w : World), Calls Tryz.prog 144 #[] w fun e w' => ∃ pv, e = .returned pv ∧ Rn w' pv 1 ∧ Below w.heap.size w w') (HB : ∀ (p0 p1 : Value) (w : World), Rn w p0 m → Rn w p1 1 → Calls Tryz.prog 148 #[p0, p1] w fun e w' => ∃ pv, e = .returned pv ∧ Rn w' pv (fd q) ∧ Below w.heap.size w w') (p0 : Value) (p1 : Value) (w : World) (r0 : RZ w p0 z) (r1 : Rn w p1 d) :
  Calls Tryz.prog 127 #[p0, p1] w fun e w' => ∃ pv, e = .returned pv ∧ RF w' pv q ∧ Below w.heap.size w w' := by
 obtain ⟨a0, c0, rfl⟩ := rz_form r0
 have f0 := Lib.hid (rz_rn r0)
 clear r0
 obtain ⟨a1, c1, rfl⟩ := rn_form r1
 have f1 := Lib.hid r1
 clear r1
 replace HG := Lib.hid HG
 replace HD := Lib.hid HD
 replace HE := Lib.hid HE
 replace HF := Lib.hid HF
 replace H1 := Lib.hid H1
 replace HB := Lib.hid HB
 have hL0 : GL w w [] := GL.start w
 have hS : SS w [] := SS.nil w
 replace hS := ((hS.new (.cells #[.bool (zs z), .slice a0 (tln z.natAbs) c0] 40)).new (.cells #[.bool false, .slice none 0 0, .slice none 0 0] 42))
 replace hL0 := ((hL0.new rfl [.bool (zs z), .slice a0 (tln z.natAbs) c0] 40).new (K := w.heap.size + 1) (szA _ _) [.bool false, .slice none 0 0, .slice none 0 0] 42)
 generalize hweq : ((w.alloc (.cells #[.bool (zs z), .slice a0 (tln z.natAbs) c0] 40)).alloc (.cells #[.bool false, .slice none 0 0, .slice none 0 0] 42)) = x1 at hL0 hS
 go_enter Tryz.func127, Tryz.ntmps127
 have hN0 := cells_of _ 0 [] rfl (hL0.get _ _ (List.mem_cons_of_mem _ List.mem_cons_self))
 simp only [cellsF, and_true, Nat.zero_add, Nat.reduceAdd] at hN0
 go_wp2_with fail
 clear hN0
 with_reducible refine Calls.mono (HG.out (.slice a0 (tln z.natAbs) c0) (.slice a1 (tln d) c1) _ (Sl.below f0.out hL0.bl) (Sl.below f1.out hL0.bl)) ?_
 rintro e x2 ⟨v0, rfl, q0, hb⟩
 replace hL0 := hL0.call hb
 replace hS := hS.call hb
 clear hb hweq
 obtain ⟨g1, d1, rfl⟩ := rn_form q0
 replace hS := hS.cons q0
 clear q0
 have hN0 := cells_of _ 0 [] rfl (hL0.get _ _ (List.mem_cons_of_mem _ List.mem_cons_self))
 simp only [cellsF, and_true, Nat.zero_add, Nat.reduceAdd] at hN0
 go_wp2_with fail
 clear hN0
 with_reducible refine Calls.mono (HD.out (.slice a0 (tln z.natAbs) c0) (.slice g1 (tln g) d1) _ (Sl.below f0.out hL0.bl) (hS.get List.mem_cons_self)) ?_
 rintro e x3 ⟨v0, v1, rfl, q0, q1, hb⟩
 replace hL0 := hL0.call hb
 replace hS := hS.call hb
 clear hb
 obtain ⟨g2, d2, rfl⟩ := rn_form q0
 replace hS := hS.cons q0
 clear q0
 obtain ⟨g3, d3, rfl⟩ := rn_form q1
 replace hS := hS.cons q1
 clear q1
 go_wp2_with fail
 with_reducible refine Calls.mono (HE.out (.slice a1 (tln d) c1) (.slice g1 (tln g) d1) _ (Sl.below f1.out hL0.bl) (hS.get (List.mem_cons_of_mem _ (List.mem_cons_of_mem _ List.mem_cons_self)))) ?_
 rintro e x4 ⟨v0, v1, rfl, q0, q1, hb⟩
 replace hL0 := hL0.call hb
 replace hS := hS.call hb
 clear hb
 obtain ⟨g4, d4, rfl⟩ := rn_form q0
 replace hS := hS.cons q0
 clear q0
 obtain ⟨g5, d5, rfl⟩ := rn_form q1
 replace hS := hS.cons q1
 clear q1
 have hN0 := cells_of _ 0 [] rfl (hL0.get _ _ (List.mem_cons_of_mem _ List.mem_cons_self))
 simp only [cellsF, and_true, Nat.zero_add, Nat.reduceAdd] at hN0
 go_wp2_with fail
 clear hN0
 with_reducible refine Calls.mono (HF.out (.slice g2 (tln k) d2) _ (hS.get (List.mem_cons_of_mem _ (List.mem_cons_of_mem _ (List.mem_cons_of_mem _ List.mem_cons_self))))) ?_
 rintro e x5 ⟨v0, rfl, q0, hb⟩
 replace hL0 := hL0.call hb
 replace hS := hS.call hb
 clear hb
 obtain ⟨g6, d6, rfl⟩ := rz_form q0
 replace hS := hS.cons (rz_rn q0)
 clear q0
 go_wp2_with fail
 with_reducible refine Calls.mono (H1.out _) ?_
 rintro e x6 ⟨v0, rfl, q0, hb⟩
 replace hL0 := hL0.call hb
 replace hS := hS.call hb
 clear hb
 obtain ⟨g7, d7, rfl⟩ := rn_form q0
 replace hS := hS.cons q0
 clear q0
 go_wp2_with fail
 with_reducible refine Calls.mono (HB.out (.slice g4 (tln m) d4) (.slice g7 (tln 1) d7) _ (hS.get (List.mem_cons_of_mem _ (List.mem_cons_of_mem _ (List.mem_cons_of_mem _ List.mem_cons_self)))) (hS.get List.mem_cons_self)) ?_
 rintro e x7 ⟨v0, rfl, q0, hb⟩
 replace hL0 := hL0.call hb
 replace hS := hS.call hb
 clear hb
 obtain ⟨g8, d8, rfl⟩ := rn_form q0
 replace hS := hS.cons q0
 clear q0
 have hS1 := hS.put ((((Upd.refl (w.heap.size + 1) x7).setCell 0 (.bool (zs q.num))).setCell 1 (.slice g6 (tln q.num.natAbs) d6)).setCell 2 (.slice g8 (tln (fd q)) d8)) (hL0.get _ _ List.mem_cons_self) (by intro v hv n; simp only [List.mem_cons, List.not_mem_nil, or_false] at hv; rcases hv with rfl | rfl | rfl <;> simp)
 have hA := hL0.fc
 simp only [fcG, cellsF, neK, and_true, ne_eq, Nat.zero_add, Nat.reduceAdd] at hA
 have hP := hL0.put 0 (w.heap.size + 1) _ rfl [.bool (zs q.num), .slice g6 (tln q.num.natAbs) d6, .slice g8 (tln (fd q)) d8] rfl
 simp only [setAll, List.set_cons_zero, List.set_cons_succ] at hP
 generalize hput1 : (((x7.setCell ⟨w.heap.size + 1, 0, none⟩ (.bool (zs q.num))).setCell ⟨w.heap.size + 1, 1, none⟩ (.slice g6 (tln q.num.natAbs) d6)).setCell ⟨w.heap.size + 1, 2, none⟩ (.slice g8 (tln (fd q)) d8)) = x8 at hP hS1
 have hB1 := hP.fc
 simp only [fcG, cellsF, neK, and_true, ne_eq, Nat.zero_add, Nat.reduceAdd] at hB1
 replace hL0 := hP
 replace hS := hS1
 clear hS1
 go_wp2_with fail
 exact bodyPost_ret (v := .agg #[.bool (zs q.num), .slice g6 (tln q.num.natAbs) d6, .slice g8 (tln (fd q)) d8]) (by simp [results, Tryz.results127, go_sem, hB1]) rfl ⟨_, rfl, (rf_of (hS.get (List.mem_cons_of_mem _ (List.mem_cons_of_mem _ List.mem_cons_self))) (hS.get List.mem_cons_self)), hL0.bl⟩
end Go.Proofs.YtdkjckiialnpnaaGreatDoor
namespace Go.Proofs.YtdkjckiialnpnaaGreatDoor
open Go.RowKit
attribute [local irreducible] lo hs sm s64 c64 d64 b64 mh ml pd pc qd qc val hiB str cmpI srD lz nb isq zl zh zs
theorem cls_box {α : Type} {F : α → World} {z : World} (h1 : ∀ x, Below z.heap.size z (F x)) {w : World} {L : List (Nat × List Value)} (hL : GL w z L) (k : Nat) (c : List Value) (hm : (k, c) ∈ L) : cellsC F k 0 c :=
 cellsC_of c 0 fun x => cells_of c 0 [] rfl ((hL.get k c hm).below (h1 x))
theorem cls_callW {α : Type} {F : α → World} {w0 : World} (h1 : ∀ x, Below w0.heap.size w0 (F x)) (h2 : ∀ W, Below w0.heap.size w0 W → ∃ x, W = F x) {v0 : Value} {l : List Nat} (hw : Ws w0 v0 l) {P : Program} {f : FuncId} {args : Array Value} {v : Value}
  (h : ∀ w, Ws w v0 l → Calls P f args w fun e w' => e = .returned v ∧ Below w.heap.size w w') (x : α) : Calls P f args (F x) fun e w'' => e = .returned v ∧ ∃ y, w'' = F y :=
 (h (F x) (hw.below (h1 x))).mono fun _ _ ⟨he, hb⟩ => ⟨he, h2 _ ((h1 x).trans (hb.mono (h1 x).size))⟩
/-- An integer as plain data. -/
def zmade (s : Bool) (l : List Nat) : Int := if s then -(made l : Int) else (made l : Int)
theorem zmade_dI {s : Bool} {l : List Nat} (h : ∀ x ∈ l, x < 4294967296) : dI (zmade s l) ≤ l.length := by
 unfold zmade
 cases s
 ·simp only [Bool.false_eq_true, if_false, dI_nat]; exact made_digs h
 ·simp only [if_true, dI_neg, dI_nat]; exact made_digs h
set_option maxHeartbeats 4000000 in
set_option maxRecDepth 100000 in
theorem zof_any (s : Bool) (a : Option Addr) (n c : Nat) (l : List Nat) (hl : l.length ≤ 1000) (w : World) (hw : Ws w (.slice a n c) l) :
  Calls Tryz.prog 51 #[.agg #[.bool s, .slice a n c]] w fun e w' => e = .returned (intV (zmade s l)) ∧ Below w.heap.size w w' := by
 have hL0 : GL w w [] := GL.start w
 have HM := Lib.hid (fun w h => made_any (.slice a n c) l hl w h)
 have HF := Lib.hid (fun w => fromI s (made l) (zmade s l) rfl w)
 generalize hz : zmade s l = z at *
 replace hz := Lib.hid hz
 generalize made l = m at *
 clear hl
 replace hL0 := ((hL0.new rfl [.bool s, .slice a n c] 48).new (K := w.heap.size + 1) (szA _ _) [.int .u64 0, .string ⟨#[]⟩, .bool false] 32)
 generalize hweq : ((w.alloc (.cells #[.bool s, .slice a n c] 48)).alloc (.cells #[.int .u64 0, .string ⟨#[]⟩, .bool false] 32)) = x1 at hL0
 have hW := Lib.hid (hw.below hL0.bl)
 clear hw
 go_enter Tryz.func51, Tryz.ntmps51
 have hA := hL0.fc
 simp only [fcG, cellsF, neK, and_true, ne_eq, Nat.zero_add, Nat.reduceAdd] at hA
 go_upto_region 1 with fail
 clear hA
 clear hweq
 obtain ⟨α, iα, F, hF1, hF2⟩ := cls x1
 have hq := GL.fcC hF1 hL0
 simp only [fcC, cellsC, and_true, Nat.zero_add, Nat.reduceAdd] at hq
 refine region_qs 6 (C := fun w' => ∃ x, w' = F x) (by kernel_rfl) (by kernel_rfl) (cls_drew hF2) ?_
 simp only [List.take_succ_cons, List.take_zero, List.drop_succ_cons, List.drop_zero, List.take_nil, List.drop_nil]
 repeat (go_big_quiet_step (first | fail | (go_at_call 132; with_reducible exact cls_callW hF1 hF2 hW.out HM.out _) | (go_at_call 93; with_reducible exact cls_call hF1 hF2 HF.out _)))
 refine wpQuiet_nil ?_
 rintro wq ⟨xq, rfl⟩
 replace hL0 := hL0.call (hF1 xq)
 clear hq hF2
 generalize F xq = x2 at hL0 ⊢
 clear hF1 xq iα F α
 have hA := hL0.fc
 simp only [fcG, cellsF, neK, and_true, ne_eq, Nat.zero_add, Nat.reduceAdd] at hA
 have hP := hL0.put 0 (w.heap.size + 1) _ rfl [.int .u64 ((zl z : Nat) : Int), .string (zh z), .bool (zs z)] rfl
 simp only [setAll, List.set_cons_zero, List.set_cons_succ] at hP
 generalize hput1 : (((x2.setCell ⟨w.heap.size + 1, 0, none⟩ (.int .u64 ((zl z : Nat) : Int))).setCell ⟨w.heap.size + 1, 1, none⟩ (.string (zh z))).setCell ⟨w.heap.size + 1, 2, none⟩ (.bool (zs z))) = x3 at hP
 have hB1 := hP.fc
 simp only [fcG, cellsF, neK, and_true, ne_eq, Nat.zero_add, Nat.reduceAdd] at hB1
 replace hL0 := hP
 go_wp2_with fail
 exact bodyPost_ret (v := intV z) (by simp [results, Tryz.results51, go_sem, hB1]) rfl ⟨rfl, hL0.bl⟩
end Go.Proofs.YtdkjckiialnpnaaGreatDoor
namespace Go.Proofs.YtdkjckiialnpnaaGreatDoor
open Go.RowKit
attribute [local irreducible] lo hs sm s64 c64 d64 b64 mh ml pd pc qd qc val hiB str cmpI srD lz nb isq zl zh zs dval
theorem dI_small {z : Int} (h : z.natAbs < Bs) : dI z ≤ 1 := digs_length_iff.2 (by rw [Nat.pow_one]; exact h)
theorem dI_lit {z : Int} (h : z.natAbs < 18446744073709551616) : dI z ≤ 1 := dI_small (by unfold Bs; exact h)
end Go.Proofs.YtdkjckiialnpnaaGreatDoor
namespace Go.Proofs.YtdkjckiialnpnaaGreatDoor
open Go.RowKit
attribute [local irreducible] lo hs zl zh zs
theorem Ws.len {w : World} {a : Option Addr} {n c : Nat} {l : List Nat} (h : Ws w (.slice a n c) l) : l.length = n := by
 rcases h with ⟨ao, c1, h1, h2⟩ | ⟨a1, c1, h1, h2⟩
 ·simp only [Value.slice.injEq] at h1; rw [h2, h1.2.1]; rfl
 ·simp only [Value.slice.injEq] at h1; rw [h1.2.1]
end Go.Proofs.YtdkjckiialnpnaaGreatDoor
