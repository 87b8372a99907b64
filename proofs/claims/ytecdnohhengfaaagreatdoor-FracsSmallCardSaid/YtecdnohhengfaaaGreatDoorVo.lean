/-
  Layer 3, law: FracsSmall.
-/
import Derived.Test.YtecdnohhengfaaaGreatDoorZf
import Derived.ChangeMaps5
set_option linter.unusedVariables false
set_option linter.unusedSimpArgs false
namespace Go.Proofs.YtecdnohhengfaaaGreatDoor
open Go.RowKit
attribute [local irreducible] lo hs sm s64 c64 d64 b64 mh ml pd pc qd qc val hiB str cmpI srD lz nb isq decB zl zh zs

set_option maxHeartbeats 16000000 in
set_option maxRecDepth 100000 in
theorem fsmall_zero_w  (n : Int) (H1 : ∀ w, Calls Tryz.prog 93 #[.int .i64 n, .int .i64 0] w fun xe w' => xe = .returned (.tuple #[.agg #[.int .u64 0, .string ⟨#[]⟩, .bool false, .int .u64 0, .string ⟨#[]⟩], .int .i64 5]) ∧ Below w.heap.size w w') (KW : World → Prop) (hKW : Keeps KW) (HW : ∀ w, KW w → Calls Tryz.prog 57 #[] w fun xe w' => xe = .returned (.bool true) ∧ Below w.heap.size w w') (w : World) (kKW : KW w) :
    Calls Tryz.prog 11 #[.int .i64 n, .int .i64 0] w fun xe w' => xe = .returned (.bool true) ∧ Below w.heap.size w w' := by
  have hL0 : GL w w [] := GL.start w
  replace H1 := Lib.hid H1
  replace hKW := Lib.hid hKW
  replace HW := Lib.hid HW
  go_enter Tryz.func11, Tryz.ntmps11
  go_wp2_with fail
  with_reducible refine Calls.mono (H1.out _) ?_
  rintro e x1 ⟨rfl, hb⟩
  replace hL0 := hL0.call hb
  clear hb
  replace hL0 := (hL0.new rfl [.int .u64 0, .string ⟨#[]⟩, .bool false, .int .u64 0, .string ⟨#[]⟩] 79)
  generalize hweq : (x1.alloc (.cells #[.int .u64 0, .string ⟨#[]⟩, .bool false, .int .u64 0, .string ⟨#[]⟩] 79)) = x2 at hL0
  have hA := hL0.fc
  simp only [fcG, cellsF, neK, and_true, ne_eq, Nat.zero_add, Nat.reduceAdd] at hA
  have hP := hL0.put 0 (x1.heap.size) _ rfl [.int .u64 0, .string ⟨#[]⟩, .bool false, .int .u64 0, .string ⟨#[]⟩] rfl
  simp only [setAll, List.set_cons_zero, List.set_cons_succ] at hP
  generalize hput1 : (((((x2.setCell ⟨x1.heap.size, 0, none⟩ (.int .u64 0)).setCell ⟨x1.heap.size, 1, none⟩ (.string ⟨#[]⟩)).setCell ⟨x1.heap.size, 2, none⟩ (.bool false)).setCell ⟨x1.heap.size, 3, none⟩ (.int .u64 0)).setCell ⟨x1.heap.size, 4, none⟩ (.string ⟨#[]⟩)) = x3 at hP
  have hB1 := hP.fc
  simp only [fcG, cellsF, neK, and_true, ne_eq, Nat.zero_add, Nat.reduceAdd] at hB1
  replace hL0 := hP
  go_wp2_with fail
  clear hA
  with_reducible refine Calls.mono (HW.out _ (hKW.out.at hL0.bl kKW)) ?_
  rintro e x4 ⟨rfl, hb⟩
  replace hL0 := hL0.call hb
  clear hb hweq hput1 hB1
  go_wp2_with fail
  exact bodyPost_ret (v := .bool true) (by simp [results, Tryz.results11, go_sem]) rfl ⟨rfl, hL0.bl⟩

theorem fsmall_zero (n : Int) (lon : -9223372036854775808 ≤ n) (hin : n < 9223372036854775808) (w : World) (htab : Tab w) (hm : MaxL w) :
    Calls Tryz.prog 11 #[.int .i64 n, .int .i64 0] w fun xe w' => xe = .returned (.bool true) ∧ Below w.heap.size w w' := by
  have H1 := fun w => of0F (n) lon hin w
  try rw [frV_q0] at H1
  have HW := fun w (h : Tab w ∧ MaxL w) => fworks_any w h.1 h.2
  exact fsmall_zero_w n H1 _ (Keeps.and Keeps.tab MaxL.keeps) HW w ⟨htab, hm⟩

set_option maxHeartbeats 16000000 in
set_option maxRecDepth 100000 in
theorem fsmall_pos_w  (n : Int) (d : Int) (r1 : Rat) (r2 : Rat) (r3 : Rat) (z1 : Int) (H1 : ∀ w, Calls Tryz.prog 93 #[.int .i64 n, .int .i64 d] w fun xe w' => xe = .returned (.tuple #[.agg #[.int .u64 ((zl r1.num : Nat) : Int), .string (zh r1.num), .bool (zs r1.num), .int .u64 ((lo (fe r1) : Nat) : Int), .string (hs (fe r1))], .int .i64 0]) ∧ Below w.heap.size w w') (H2 : ∀ w, Calls Tryz.prog 94 #[.int .i64 n] w fun xe w' => xe = .returned (.agg #[.int .u64 ((zl r2.num : Nat) : Int), .string (zh r2.num), .bool (zs r2.num), .int .u64 ((lo (fe r2) : Nat) : Int), .string (hs (fe r2))]) ∧ Below w.heap.size w w') (H3 : ∀ w, Calls Tryz.prog 94 #[.int .i64 d] w fun xe w' => xe = .returned (.agg #[.int .u64 ((zl r3.num : Nat) : Int), .string (zh r3.num), .bool (zs r3.num), .int .u64 ((lo (fe r3) : Nat) : Int), .string (hs (fe r3))]) ∧ Below w.heap.size w w') (H4 : ∀ w, Calls Tryz.prog 61 #[.agg #[.int .u64 ((zl r2.num : Nat) : Int), .string (zh r2.num), .bool (zs r2.num), .int .u64 ((lo (fe r2) : Nat) : Int), .string (hs (fe r2))], .agg #[.int .u64 ((zl r3.num : Nat) : Int), .string (zh r3.num), .bool (zs r3.num), .int .u64 ((lo (fe r3) : Nat) : Int), .string (hs (fe r3))]] w fun xe w' => xe = .returned (.tuple #[.agg #[.int .u64 ((zl r1.num : Nat) : Int), .string (zh r1.num), .bool (zs r1.num), .int .u64 ((lo (fe r1) : Nat) : Int), .string (hs (fe r1))], .int .i64 0]) ∧ Below w.heap.size w w') (H5 : ∀ w, Calls Tryz.prog 84 #[.agg #[.int .u64 ((zl r2.num : Nat) : Int), .string (zh r2.num), .bool (zs r2.num), .int .u64 ((lo (fe r2) : Nat) : Int), .string (hs (fe r2))]] w fun xe w' => xe = .returned (.agg #[.int .u64 ((zl z1 : Nat) : Int), .string (zh z1), .bool (zs z1)]) ∧ Below w.heap.size w w') (H6 : ∀ w, Calls Tryz.prog 53 #[.agg #[.int .u64 ((zl z1 : Nat) : Int), .string (zh z1), .bool (zs z1)]] w fun xe w' => xe = .returned (.tuple #[.int .i64 n, .bool true]) ∧ Below w.heap.size w w') (H7 : ∀ w, Calls Tryz.prog 68 #[.agg #[.int .u64 ((zl r1.num : Nat) : Int), .string (zh r1.num), .bool (zs r1.num), .int .u64 ((lo (fe r1) : Nat) : Int), .string (hs (fe r1))], .agg #[.int .u64 ((zl r3.num : Nat) : Int), .string (zh r3.num), .bool (zs r3.num), .int .u64 ((lo (fe r3) : Nat) : Int), .string (hs (fe r3))]] w fun xe w' => xe = .returned (.agg #[.int .u64 ((zl r2.num : Nat) : Int), .string (zh r2.num), .bool (zs r2.num), .int .u64 ((lo (fe r2) : Nat) : Int), .string (hs (fe r2))]) ∧ Below w.heap.size w w') (H8 : ∀ w, Calls Tryz.prog 89 #[.agg #[.int .u64 ((zl r2.num : Nat) : Int), .string (zh r2.num), .bool (zs r2.num), .int .u64 ((lo (fe r2) : Nat) : Int), .string (hs (fe r2))]] w fun xe w' => xe = .returned (.bool true) ∧ Below w.heap.size w w') (KW : World → Prop) (hKW : Keeps KW) (HW : ∀ w, KW w → Calls Tryz.prog 57 #[] w fun xe w' => xe = .returned (.bool true) ∧ Below w.heap.size w w') (hd1 : (d == 0) = false) (hd2 : (d != 0) = true) (w : World) (kKW : KW w) :
    Calls Tryz.prog 11 #[.int .i64 n, .int .i64 d] w fun xe w' => xe = .returned (.bool true) ∧ Below w.heap.size w w' := by
  have hL0 : GL w w [] := GL.start w
  replace H1 := Lib.hid H1
  replace H2 := Lib.hid H2
  replace H3 := Lib.hid H3
  replace H4 := Lib.hid H4
  replace H5 := Lib.hid H5
  replace H6 := Lib.hid H6
  replace H7 := Lib.hid H7
  replace H8 := Lib.hid H8
  replace hKW := Lib.hid hKW
  replace HW := Lib.hid HW
  go_enter Tryz.func11, Tryz.ntmps11
  go_wp2_with fail
  with_reducible refine Calls.mono (H1.out _) ?_
  rintro e x1 ⟨rfl, hb⟩
  replace hL0 := hL0.call hb
  clear hb
  replace hL0 := (hL0.new rfl [.int .u64 ((zl r1.num : Nat) : Int), .string (zh r1.num), .bool (zs r1.num), .int .u64 ((lo (fe r1) : Nat) : Int), .string (hs (fe r1))] 79)
  generalize hweq : (x1.alloc (.cells #[.int .u64 ((zl r1.num : Nat) : Int), .string (zh r1.num), .bool (zs r1.num), .int .u64 ((lo (fe r1) : Nat) : Int), .string (hs (fe r1))] 79)) = x2 at hL0
  go_wp2_with fail
  with_reducible refine Calls.mono (H2.out _) ?_
  rintro e x3 ⟨rfl, hb⟩
  replace hL0 := hL0.call hb
  clear hb hweq
  go_wp2_with fail
  with_reducible refine Calls.mono (H3.out _) ?_
  rintro e x4 ⟨rfl, hb⟩
  replace hL0 := hL0.call hb
  clear hb
  go_wp2_with fail
  with_reducible refine Calls.mono (H4.out _) ?_
  rintro e x5 ⟨rfl, hb⟩
  replace hL0 := hL0.call hb
  clear hb
  replace hL0 := (hL0.new rfl [.int .u64 ((zl r1.num : Nat) : Int), .string (zh r1.num), .bool (zs r1.num), .int .u64 ((lo (fe r1) : Nat) : Int), .string (hs (fe r1))] 79)
  generalize hweq : (x5.alloc (.cells #[.int .u64 ((zl r1.num : Nat) : Int), .string (zh r1.num), .bool (zs r1.num), .int .u64 ((lo (fe r1) : Nat) : Int), .string (hs (fe r1))] 79)) = x6 at hL0
  go_wp2_with fail
  with_reducible refine Calls.mono (H2.out _) ?_
  rintro e x7 ⟨rfl, hb⟩
  replace hL0 := hL0.call hb
  clear hb hweq
  go_wp2_with fail
  with_reducible refine Calls.mono (H5.out _) ?_
  rintro e x8 ⟨rfl, hb⟩
  replace hL0 := hL0.call hb
  clear hb
  go_wp2_with fail
  with_reducible refine Calls.mono (H6.out _) ?_
  rintro e x9 ⟨rfl, hb⟩
  replace hL0 := hL0.call hb
  clear hb
  go_upto_region 6 with fail
  have kKW1 := hKW.out.at hL0.bl kKW
  obtain ⟨α, iα, F, hF1, hF2⟩ := cls x9
  have hq0 := cls_box hF1 hL0 _ _ List.mem_cons_self
  simp only [cellsC, and_true, Nat.zero_add, Nat.reduceAdd] at hq0
  have hq1 := cls_box hF1 hL0 _ _ (List.mem_cons_of_mem _ List.mem_cons_self)
  simp only [cellsC, and_true, Nat.zero_add, Nat.reduceAdd] at hq1
  refine region_qs 37 (C := fun w' => ∃ x, w' = F x) (by kernel_rfl) (by kernel_rfl) (cls_drew hF2) ?_
  simp only [List.take_succ_cons, List.take_zero, List.drop_succ_cons, List.drop_zero, List.take_nil, List.drop_nil]
  repeat (go_big_quiet_step (first | fail | (go_at_call 94; with_reducible exact cls_call hF1 hF2 H3.out _) | (go_at_call 68; with_reducible exact cls_call hF1 hF2 H7.out _) | (go_at_call 94; with_reducible exact cls_call hF1 hF2 H2.out _) | (go_at_call 89; with_reducible exact cls_call hF1 hF2 H8.out _) | (go_at_call 57; with_reducible exact cls_callK hKW.out hF1 hF2 kKW1 HW.out _)))
  refine wpQuiet_nil ?_
  rintro wq ⟨xq, rfl⟩
  replace hL0 := hL0.call (hF1 xq)
  clear  hq0 hq1 hF2
  generalize F xq = x10 at hL0 ⊢
  clear hF1 xq iα F α
  clear kKW1
  go_wp2_with fail
  exact bodyPost_ret (v := .bool true) (by simp [results, Tryz.results11, go_sem]) rfl ⟨rfl, hL0.bl⟩

theorem fsmall_pos (n : Int) (lon : -9223372036854775808 ≤ n) (hin : n < 9223372036854775808) (d : Int) (lod : -9223372036854775808 ≤ d) (hid : d < 9223372036854775808) (hd : d ≠ 0) (w : World) (htab : Tab w) (hm : MaxL w) :
    Calls Tryz.prog 11 #[.int .i64 n, .int .i64 d] w fun xe w' => xe = .returned (.bool true) ∧ Below w.heap.size w w' := by
  have hdq : ((d : Int) : Rat) ≠ 0 := fun e => hd (Rat.intCast_eq_zero_iff.1 e)
  have Sr1 := (Sz.int (i64_dI lon hin) (Nat.le_refl 1)).div (Sz.int (i64_dI lod hid) (Nat.le_refl 1)) hdq
  have H1 := fun w => ofF n d lon hin lod hid hd w
  have Sr2 := Sz.int (i64_dI lon hin) (Nat.le_refl 1)
  have H2 := fun w => intF n lon hin w
  have Sr3 := Sz.int (i64_dI lod hid) (Nat.le_refl 1)
  have H3 := fun w => intF d lod hid w
  have H4 := fun w => divF ((n : Int) : Rat) ((d : Int) : Rat) 1 (Sr2.mono (by omega)) (Sr3.mono (by omega)) (by omega) hdq w
  have H5 := fun w => numF ((n : Int) : Rat) w
  rw [Rat.num_intCast] at H5
  have H6 := fun w => i64I n w
  rw [show in64 n = true from decide_eq_true (by omega), if_pos rfl] at H6
  have H7 := fun w => mulF (((n : Int) : Rat) / ((d : Int) : Rat)) ((d : Int) : Rat) 2 (Sr1.mono (by omega)) (Sr3.mono (by omega)) (by omega) w
  rw [show ((((n : Int) : Rat) / ((d : Int) : Rat)) * ((d : Int) : Rat)) = ((n : Int) : Rat) from Rat.div_mul_cancel hdq] at H7
  have H8 := fun w => wholeF ((n : Int) : Rat) w
  rw [show decide ((((n : Int) : Rat)).den = 1) = true from decide_eq_true (Rat.den_intCast _)] at H8
  have HW := fun w (h : Tab w ∧ MaxL w) => fworks_any w h.1 h.2
  exact fsmall_pos_w n d (((n : Int) : Rat) / ((d : Int) : Rat)) ((n : Int) : Rat) ((d : Int) : Rat) n H1 H2 H3 H4 H5 H6 H7 H8 _ (Keeps.and Keeps.tab MaxL.keeps) HW (by simp [hd]) (by simp [hd]) w ⟨htab, hm⟩

theorem fsmall_any (n : Int) (lon : -9223372036854775808 ≤ n) (hin : n < 9223372036854775808) (d : Int) (lod : -9223372036854775808 ≤ d) (hid : d < 9223372036854775808) (w : World) (htab : Tab w) (hm : MaxL w) :
    Calls Tryz.prog 11 #[.int .i64 n, .int .i64 d] w fun xe w' => xe = .returned (.bool true) ∧ Below w.heap.size w w' := by
  by_cases hd : d = 0
  · subst hd; exact fsmall_zero n lon hin w htab hm
  · exact fsmall_pos n lon hin d lod hid hd w htab hm
end Go.Proofs.YtecdnohhengfaaaGreatDoor

/-
  The law FracsSmall answers true at every input, and leaves its arguments as they were. CONDITIONS: the package-level tables start as the program's text lays them (the card ties them).
-/
namespace Go.Proofs.YtecdnohhengfaaaGreatDoor.fracsSmall
open Go.ChangeShapes Go.WideShapes Go.ChangeAt Go.RowKit

set_option maxRecDepth 100000 in
theorem contract (H : Type) (enc : TypeId × Value → H) (W : World) (base : Nat) (args : Array Value) (ds gs : List (DataW H)) (before : List MemPlace)
    (hval : ∀ (j : Nat) t v, Tryz.f11.params[j]? = some t → args[j]? = some v → Value.okWide Tryz.prog W .any base t v)
    (hW : DataW.Whole enc Tryz.prog Tryz.f11.params.toList Rows.fracsSmallSpec.vars false W args.toList ds gs before) (hL : laidMetH Tryz.prog Rows.fracsSmallRow.laid W) (hSh : W.ShapedOpen Tryz.prog) :
    Calls Tryz.prog 11 args W fun e W' => ∃ v, e = .returned v ∧ Rows.fracsSmallSpec.post enc Tryz.prog Tryz.f11 false true false false W args v W' := by
  have hW' := hW
  obtain ⟨p, q, hA0, hV, rfl, _, _⟩ := hW
  have hA : DataW.TrodAll enc Tryz.prog W 0 (fun _ => true) true Tryz.f11.params.toList args.toList ds p := hA0
  rw [Tryz.params11] at hA hval
  obtain ⟨v0, v1, e0, e1, p0, p1, rfl, rfl, rfl, h0, h1⟩ := trodAll_two hA
  obtain ⟨rfl, rfl⟩ := trodVars_none hV
  clear hA0
  simp only [List.append_nil] at hW'
  have hlt : ∀ x ∈ p0 ++ p1, x.block < W.heap.size := fun x hx => by simpa using hW'.lt x hx
  obtain ⟨z0, rfl, rfl, rfl, f0⟩ := open_int Tryz.underlying2 (hval 0 2 v0 rfl rfl) h0
  have b0 := bounds_i64 f0
  obtain ⟨z1, rfl, rfl, rfl, f1⟩ := open_int Tryz.underlying2 (hval 1 2 v1 rfl rfl) h1
  have b1 := bounds_i64 f1
  refine (fsmall_any z0 (by omega) (by omega) z1 (by omega) (by omega) W (tab_of hL) (maxL_of hSh)).mono fun e W' ⟨he, hb⟩ => ?_
  subst he
  refine ⟨_, rfl, _, _, _, [], ?pl, [], hW', ?_, ?_, rfl, hb.frame _, fun h => by cases h⟩
  rotate_left
  · exact trodAll_mk1 (shut_bool Tryz.underlying4 _)
  · exact trodAll_mk2 (shut_int Tryz.underlying2 f0) (shut_int Tryz.underlying2 f1)

/-- A world for the witness: the settled one, the tables as their initialisers lay them. -/
noncomputable def laidWorld (os : Os) : World := World.laidAll Tryz.prog os Rows.fracsSmallRow.laid
theorem laid_met (os : Os) : laidMet Tryz.prog Rows.fracsSmallRow.laid ((laidWorld os).forCall (fun _ _ => 0) ⟨#[], #[.int .i64 0, .int .i64 0], []⟩).memory :=
  laidMet_laidAll _ (by kernel_rfl) (by kernel_rfl)
theorem reads (os : Os) {H : Type} (enc : TypeId × Value → H) : ∃ places, DataW.whole enc Tryz.prog ((laidWorld os).forCall (fun _ _ => 0) ⟨#[], #[.int .i64 0, .int .i64 0], []⟩).memory Tryz.f11.params.toList Rows.fracsSmallSpec.vars false (#[.int .i64 0, .int .i64 0] : Array Value).toList 8 = some ([.lit (.int .i64 0), .lit (.int .i64 0)], [], places) :=
  ⟨[], by kernel_rfl⟩

set_option maxRecDepth 100000 in
theorem lifted (os : Os) (started : os.Started) (H : Type) (enc : TypeId × Value → H) (F : Stop.Interp) :
    ReturnsInHanded {} Tryz.checked os 11 .any ((OpenSpec.ofChange Rows.fracsSmallSpec).preRow enc Tryz.prog Tryz.f11 Rows.fracsSmallRow.domain false Rows.fracsSmallRow.laid) (((OpenSpec.ofChange Rows.fracsSmallSpec).at F).post enc Tryz.prog Tryz.f11 false true false false) := by
  obtain ⟨places, hx⟩ := reads os enc
  refine returnsInHanded_of_row (C := Tryz.checked) (s := OpenSpec.ofChange Rows.fracsSmallSpec) own started (by kernel_rfl) Tryz.func11
    (witness_row_at (enc := enc) (C := Tryz.checked) false (laidWorld os) #[.int .i64 0, .int .i64 0] (World.laidAll_os _ _ _) (by kernel_rfl) (by kernel_rfl) (by kernel_rfl)
      (OpenSpec.preRow_of_cond 8 hx (by kernel_rfl) (fun k hk => by cases hk) (by kernel_rfl) (laid_met os))) ?_
  intro W base args ds gs before hval hW _ _ _ hL hSh _
  exact contract H enc W base args ds gs before hval hW hL hSh

theorem said : Rows.FracsSmallSaid :=
  OpenClaim.holds_of_cond 11 Tryz.f11 rfl rfl rfl rfl rfl rfl rfl ⟨rfl, rfl, rfl, rfl, rfl⟩ rfl rfl rfl rfl rfl (by kernel_rfl) Tryz.func11 (by kernel_rfl)
    (of_decide_eq_true (by kernel_rfl)) (by unfold Func.isWrapper; first | (rw [if_pos (by decide +kernel)]; kernel_rfl) | (rw [if_neg (by decide +kernel)]; exact ⟨rfl, rfl⟩))
    (fun os started H enc _ F => by rw [OpenClaim.pre_eq_preRow]; exact lifted os started H enc F)

theorem plain (f : FuncId) (fn : Func) (hf : Tryz.pinned.checked.prog.funcNamed "gusset/gussetlaw03.FracsSmall" = some f) (hfn : Tryz.pinned.checked.prog.funcs[f]? = some fn) :
    false = Tryz.pinned.checked.prog.looks [] ∧ ∀ (j : Nat) t, fn.params[j]? = some t → Tryz.pinned.checked.prog.wantsStandIn t = false := by
  obtain rfl : f = 11 := Option.some.inj ((show Tryz.prog.funcNamed "gusset/gussetlaw03.FracsSmall" = some 11 by kernel_rfl).symm.trans hf) |>.symm
  obtain rfl : fn = Tryz.f11 := (Option.some.inj (Tryz.func11.symm.trans hfn)).symm
  refine ⟨by kernel_rfl, fun j t ht => ?_⟩
  rw [Tryz.params11] at ht
  have hm := Array.mem_of_getElem? ht
  simp only [List.mem_toArray, List.mem_cons, List.not_mem_nil, or_false] at hm
  rcases hm with rfl | rfl
  · exact (show Tryz.prog.wantsStandIn 2 = false by kernel_rfl)
  · exact (show Tryz.prog.wantsStandIn 2 = false by kernel_rfl)
end Go.Proofs.YtecdnohhengfaaaGreatDoor.fracsSmall

namespace Go.Proofs.YtecdnohhengfaaaGreatDoor
open Go.ChangeShapes Go.WideShapes Go.ChangeAt Go.RowKit
/-- THE CARD -/
theorem fracsSmallProved : Rows.FracsSmallCardSaid :=
  Claim7.holds_tied_plain_at .later [] _ _ _ _ fracsSmall.said (fun _ h => by cases h) (by kernel_rfl) (fun _ h => by cases h) fracsSmall_row_tie rfl ⟨rfl, rfl⟩ (by kernel_rfl) rfl fracsSmall.plain (by kernel_rfl)
end Go.Proofs.YtecdnohhengfaaaGreatDoor
