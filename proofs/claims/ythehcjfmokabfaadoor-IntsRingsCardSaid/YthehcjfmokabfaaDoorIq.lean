/-
  Layer 2, law: IntsRings.
-/
import Derived.Test.YthehcjfmokabfaaDoorIl
set_option linter.unusedVariables false
set_option linter.unusedSimpArgs false
namespace Go.Proofs.YthehcjfmokabfaaDoor
open Go.RowKit
attribute [local irreducible] lo hs sm s64 c64 d64 b64 mh ml pd pc qd qc val hiB str cmpI srD lz nb isq decB zl zh zs dval

theorem sgn_prod (a b : Int) : sgn (a * b) = sgn a * sgn b := by
  rcases Int.lt_trichotomy a 0 with h | h | h <;> rcases Int.lt_trichotomy b 0 with g | g | g
  · rw [sgn_neg h, sgn_neg g, sgn_pos (Int.mul_pos_of_neg_of_neg h g)]; rfl
  · subst g; rw [Int.mul_zero, sgn_zero, Int.mul_zero]
  · rw [sgn_neg h, sgn_pos g, sgn_neg (Int.mul_neg_of_neg_of_pos h g)]; rfl
  · subst h; rw [Int.zero_mul, sgn_zero, Int.zero_mul]
  · subst h; rw [Int.zero_mul, sgn_zero, Int.zero_mul]
  · subst h; rw [Int.zero_mul, sgn_zero, Int.zero_mul]
  · rw [sgn_pos h, sgn_neg g, sgn_neg (Int.mul_neg_of_pos_of_neg h g)]; rfl
  · subst g; rw [Int.mul_zero, sgn_zero, Int.mul_zero]
  · rw [sgn_pos h, sgn_pos g, sgn_pos (Int.mul_pos h g)]; rfl
theorem sgn_one (a : Int) : sgn a = -1 ∨ sgn a = 0 ∨ sgn a = 1 := by unfold sgn; split <;> (try split) <;> simp
theorem cmpZ_sub (a b : Int) : cmpZ a b = sgn (a - b) := by unfold cmpZ sgn; split <;> split <;> (try split) <;> (try split) <;> omega
theorem cmpZ_add (a b c : Int) : cmpZ (a + c) (b + c) = cmpZ a b := by unfold cmpZ; split <;> split <;> (try split) <;> (try split) <;> omega
theorem sgn_lt (a : Int) : decide (sgn a < 0) = decide (a < 0) := by rcases Int.lt_trichotomy a 0 with h | h | h; · rw [sgn_neg h, decide_eq_true h]; rfl
                                                                     · subst h; rfl
                                                                     · rw [sgn_pos h, show decide (a < 0) = false from decide_eq_false (by omega)]; rfl
theorem natAbs_back (a : Int) : a = if decide (a < 0) = true then -(a.natAbs : Int) else (a.natAbs : Int) := by
  by_cases h : a < 0
  · rw [decide_eq_true h, if_pos rfl]; omega
  · rw [decide_eq_false h, if_neg Bool.false_ne_true]; omega

set_option maxHeartbeats 16000000 in
set_option maxRecDepth 100000 in
theorem irings_big (sx sy sz : Bool) (ax ay az : Option Addr) (nx cx ny cy nz cz : Nat) (lx ly lz : List Nat) (h : ¬ (nx ≤ 12 ∧ ny ≤ 12 ∧ nz ≤ 12)) (w : World) (htab : Tab w) (hwx : Ws w (.slice ax nx cx) lx) (hwy : Ws w (.slice ay ny cy) ly) (hwz : Ws w (.slice az nz cz) lz) :
    Calls Tryd.prog 5 #[.agg #[.bool sx, .slice ax nx cx], .agg #[.bool sy, .slice ay ny cy], .agg #[.bool sz, .slice az nz cz]] w fun e w' => e = .returned (.bool true) ∧ Below w.heap.size w w' := by
  have hL0 : GL w w [] := GL.start w
  have HW := Lib.hid (fun w h => zworks_any w h)
  replace hL0 := (((hL0.new rfl [.bool sx, .slice ax nx cx] 43).new (K := w.heap.size + 1) (szA _ _) [.bool sy, .slice ay ny cy] 43).new (K := w.heap.size + 1 + 1) (by simp only [World.size_alloc]) [.bool sz, .slice az nz cz] 43)
  generalize hweq : (((w.alloc (.cells #[.bool sx, .slice ax nx cx] 43)).alloc (.cells #[.bool sy, .slice ay ny cy] 43)).alloc (.cells #[.bool sz, .slice az nz cz] 43)) = x1 at hL0
  go_enter Tryd.func5, Tryd.ntmps5
  have hN0 := cells_of _ 0 [] rfl (hL0.get _ _ (List.mem_cons_of_mem _ (List.mem_cons_of_mem _ List.mem_cons_self)))
  simp only [cellsF, and_true, Nat.zero_add, Nat.reduceAdd] at hN0
  have hN1 := cells_of _ 0 [] rfl (hL0.get _ _ (List.mem_cons_of_mem _ List.mem_cons_self))
  simp only [cellsF, and_true, Nat.zero_add, Nat.reduceAdd] at hN1
  have hN2 := cells_of _ 0 [] rfl (hL0.get _ _ List.mem_cons_self)
  simp only [cellsF, and_true, Nat.zero_add, Nat.reduceAdd] at hN2
  have hG := hL0.new rfl [.bool sx, .slice ax nx cx, .bool sy, .slice ay ny cy, .bool sz, .slice az nz cz] 43
  generalize hbs : x1.alloc (.cells #[.bool sx, .slice ax nx cx, .bool sy, .slice ay ny cy, .bool sz, .slice az nz cz] 43) = x2 at hG
  clear hL0
  have hL0 := hG
  clear hG
  have HFw := few3 12 12 rfl (by omega) (hL0.get _ _ List.mem_cons_self)
  rw [show decide (nx ≤ 12 ∧ ny ≤ 12 ∧ nz ≤ 12) = false from decide_eq_false (by omega)] at HFw
  replace HFw := Lib.hid HFw
  go_wp2_with fail
  clear hN0 hN1 hN2
  with_reducible refine Calls.mono HFw.out ?_
  rintro e x3 ⟨rfl, rfl⟩
  clear HFw hbs hweq
  go_wp2_with fail
  with_reducible refine Calls.mono (HW.out _ (htab.below hL0.bl)) ?_
  rintro e x4 ⟨rfl, hb⟩
  replace hL0 := hL0.call hb
  clear hb
  go_wp2_with fail
  exact bodyPost_ret (v := .bool true) (by simp [results, Tryd.results5, go_sem]) rfl ⟨rfl, hL0.bl⟩

set_option maxHeartbeats 16000000 in
set_option maxRecDepth 100000 in
theorem irings_small (sx sy sz : Bool) (ax ay az : Option Addr) (nx cx ny cy nz cz : Nat) (lx ly lz : List Nat) (kx : nx ≤ 12) (ky : ny ≤ 12) (kz : nz ≤ 12) (w : World) (htab : Tab w) (hwx : Ws w (.slice ax nx cx) lx) (hwy : Ws w (.slice ay ny cy) ly) (hwz : Ws w (.slice az nz cz) lz) :
    Calls Tryd.prog 5 #[.agg #[.bool sx, .slice ax nx cx], .agg #[.bool sy, .slice ay ny cy], .agg #[.bool sz, .slice az nz cz]] w fun e w' => e = .returned (.bool true) ∧ Below w.heap.size w w' := by
  have hL0 : GL w w [] := GL.start w
  have ex := hwx.len
  have ZX := fun w h => zof_any sx ax nx cx lx (by omega) w h
  have dx : dI (zmade sx lx) ≤ 12 := Nat.le_trans (zmade_dI hwx.lt) (by omega)
  generalize zmade sx lx = a at *
  replace ZX := Lib.hid ZX
  have ey := hwy.len
  have ZY := fun w h => zof_any sy ay ny cy ly (by omega) w h
  have dy : dI (zmade sy ly) ≤ 12 := Nat.le_trans (zmade_dI hwy.lt) (by omega)
  generalize zmade sy ly = b at *
  replace ZY := Lib.hid ZY
  have ez := hwz.len
  have ZZ := fun w h => zof_any sz az nz cz lz (by omega) w h
  have dz : dI (zmade sz lz) ≤ 12 := Nat.le_trans (zmade_dI hwz.lt) (by omega)
  generalize zmade sz lz = c at *
  replace ZZ := Lib.hid ZZ
  have ds : dI (a + b) ≤ 13 := dI_add dx dy
  have dt : dI (b + c) ≤ 13 := dI_add dy dz
  have dac : dI (a + c) ≤ 13 := dI_add dx dz
  have dp : dI (a * b) ≤ 24 := dI_mul dx dy
  have dr : dI (b * c) ≤ 24 := dI_mul dy dz
  have dm : dI (a * c) ≤ 24 := dI_mul dx dz
  have dd : dI (b - a) ≤ 13 := dI_sub dy dx
  have d0 : dI 0 ≤ 1 := dI_lit (by decide)
  have d1 : dI 1 ≤ 1 := dI_lit (by decide)
  have dn : dI (-1) ≤ 1 := dI_lit (by decide)
  have Aab := fun w => addI a b (by omega) (by omega) w
  have Aba := fun w => addI b a (by omega) (by omega) w
  rw [Int.add_comm b a] at Aba
  have Mab := fun w => mulI a b (by omega) (by omega) w
  have Mba := fun w => mulI b a (by omega) (by omega) w
  rw [Int.mul_comm b a] at Mba
  have Asc := fun w => addI (a + b) c (by omega) (by omega) w
  have Abc := fun w => addI b c (by omega) (by omega) w
  have Aat := fun w => addI a (b + c) (by omega) (by omega) w
  rw [← Int.add_assoc] at Aat
  have Mpc := fun w => mulI (a * b) c (by omega) (by omega) w
  have Mbc := fun w => mulI b c (by omega) (by omega) w
  have Mar := fun w => mulI a (b * c) (by omega) (by omega) w
  rw [← Int.mul_assoc] at Mar
  have Mat := fun w => mulI a (b + c) (by omega) (by omega) w
  have Mac := fun w => mulI a c (by omega) (by omega) w
  have Apm := fun w => addI (a * b) (a * c) (by omega) (by omega) w
  rw [← Int.mul_add] at Apm
  have Saa := fun w => subI a a (by omega) (by omega) w
  rw [Int.sub_self] at Saa
  have I0 := fun w => is_eq 0 (by decide) (by decide) w
  have Ssb := fun w => subI (a + b) b (by omega) (by omega) w
  rw [Int.add_sub_cancel] at Ssb
  have Na := fun w => negI a w
  have Nn := fun w => negI (-a) w
  rw [Int.neg_neg] at Nn
  have Sab := fun w => subI a b (by omega) (by omega) w
  have Sba := fun w => subI b a (by omega) (by omega) w
  have Nd := fun w => negI (b - a) w
  rw [Int.neg_sub] at Nd
  have O0 := fun w => ofI 0 (by decide) (by decide) w
  have O1 := fun w => ofI 1 (by decide) (by decide) w
  have On := fun w => ofI (-1) (by decide) (by decide) w
  have A0 := fun w => addI a 0 (by omega) (by omega) w
  rw [Int.add_zero] at A0
  have M1 := fun w => mulI a 1 (by omega) (by omega) w
  rw [Int.mul_one] at M1
  have Mn := fun w => mulI a (-1) (by omega) (by omega) w
  rw [Int.mul_neg_one] at Mn
  have Gp := fun w => signI (a * b) w
  have Ga := fun w => signI a w
  have Gb := fun w => signI b w
  have Gd := fun w => signI (a - b) w
  rw [← cmpZ_sub] at Gd
  have Cab := fun w => cmpII a b w
  have Aac := fun w => addI a c (by omega) (by omega) w
  have Ct := fun w => cmpII (a + c) (b + c) w
  rw [cmpZ_add] at Ct
  have Mq := fun w => mulI a a (by omega) (by omega) w
  have Gq := fun w => signI (a * a) w
  have Ba := fun w => absI a w
  have Fa := fun w => fromI (decide (a < 0)) a.natAbs a (natAbs_back a) w
  rw [← sgn_lt] at Fa
  have hsp : IntKind.i64.wrap (sgn a * sgn b) = sgn (a * b) := by rw [sgn_prod]; rcases sgn_one a with h | h | h <;> rcases sgn_one b with g | g | g <;> rw [h, g] <;> rfl
  have hsq : 0 ≤ sgn (a * a) := by rw [sgn_prod]; rcases sgn_one a with h | h | h <;> rw [h] <;> decide
  generalize a + b + c = u at *
  generalize a * b * c = v at *
  generalize a * (b + c) = mt at *
  generalize sgn (a * b) = sp at *
  generalize sgn (a * a) = sq at *
  generalize sgn a = sa at *
  generalize sgn b = sb at *
  generalize cmpZ a b = ccm at *
  generalize a.natAbs = na at *
  generalize a + b = s at *
  generalize a * b = p at *
  generalize b + c = t at *
  generalize b * c = r at *
  generalize a * c = m at *
  generalize a + c = ac at *
  generalize a * a = q at *
  generalize a - b = d at *
  generalize b - a = d2 at *
  generalize -a = ng at *
  replace Aab := Lib.hid Aab
  replace Aba := Lib.hid Aba
  replace Mab := Lib.hid Mab
  replace Mba := Lib.hid Mba
  replace Asc := Lib.hid Asc
  replace Abc := Lib.hid Abc
  replace Aat := Lib.hid Aat
  replace Mpc := Lib.hid Mpc
  replace Mbc := Lib.hid Mbc
  replace Mar := Lib.hid Mar
  replace Mat := Lib.hid Mat
  replace Mac := Lib.hid Mac
  replace Apm := Lib.hid Apm
  replace Saa := Lib.hid Saa
  replace I0 := Lib.hid I0
  replace Ssb := Lib.hid Ssb
  replace Na := Lib.hid Na
  replace Nn := Lib.hid Nn
  replace Sab := Lib.hid Sab
  replace Sba := Lib.hid Sba
  replace Nd := Lib.hid Nd
  replace O0 := Lib.hid O0
  replace O1 := Lib.hid O1
  replace On := Lib.hid On
  replace A0 := Lib.hid A0
  replace M1 := Lib.hid M1
  replace Mn := Lib.hid Mn
  replace Gp := Lib.hid Gp
  replace Ga := Lib.hid Ga
  replace Gb := Lib.hid Gb
  replace Gd := Lib.hid Gd
  replace Cab := Lib.hid Cab
  replace Aac := Lib.hid Aac
  replace Ct := Lib.hid Ct
  replace Mq := Lib.hid Mq
  replace Gq := Lib.hid Gq
  replace Ba := Lib.hid Ba
  replace Fa := Lib.hid Fa
  have hsq1 : decide (0 ≤ sq) = true := decide_eq_true hsq
  have hsq2 : decide (sq ≥ 0) = true := decide_eq_true hsq
  replace hsq := Lib.hid hsq
  have HW := Lib.hid (fun w h => zworks_any w h)
  clear ds dt dac dp dr dm dd d0 d1 dn
  replace kx := Lib.hid kx
  replace ky := Lib.hid ky
  replace kz := Lib.hid kz
  clear ex dx ey dy ez dz
  replace hL0 := (((hL0.new rfl [.bool sx, .slice ax nx cx] 43).new (K := w.heap.size + 1) (szA _ _) [.bool sy, .slice ay ny cy] 43).new (K := w.heap.size + 1 + 1) (by simp only [World.size_alloc]) [.bool sz, .slice az nz cz] 43)
  generalize hweq : (((w.alloc (.cells #[.bool sx, .slice ax nx cx] 43)).alloc (.cells #[.bool sy, .slice ay ny cy] 43)).alloc (.cells #[.bool sz, .slice az nz cz] 43)) = x1 at hL0
  replace hwx := Lib.hid hwx
  replace hwy := Lib.hid hwy
  replace hwz := Lib.hid hwz
  go_enter Tryd.func5, Tryd.ntmps5
  have kx' := kx.out
  have ky' := ky.out
  have kz' := kz.out
  have hN0 := cells_of _ 0 [] rfl (hL0.get _ _ (List.mem_cons_of_mem _ (List.mem_cons_of_mem _ List.mem_cons_self)))
  simp only [cellsF, and_true, Nat.zero_add, Nat.reduceAdd] at hN0
  have hN1 := cells_of _ 0 [] rfl (hL0.get _ _ (List.mem_cons_of_mem _ List.mem_cons_self))
  simp only [cellsF, and_true, Nat.zero_add, Nat.reduceAdd] at hN1
  have hN2 := cells_of _ 0 [] rfl (hL0.get _ _ List.mem_cons_self)
  simp only [cellsF, and_true, Nat.zero_add, Nat.reduceAdd] at hN2
  have hG := hL0.new rfl [.bool sx, .slice ax nx cx, .bool sy, .slice ay ny cy, .bool sz, .slice az nz cz] 43
  generalize hbs : x1.alloc (.cells #[.bool sx, .slice ax nx cx, .bool sy, .slice ay ny cy, .bool sz, .slice az nz cz] 43) = x2 at hG
  clear hL0
  have hL0 := hG
  clear hG
  have HFw := few3 12 12 rfl (by omega) (hL0.get _ _ List.mem_cons_self)
  rw [show decide (nx ≤ 12 ∧ ny ≤ 12 ∧ nz ≤ 12) = true from decide_eq_true (by omega)] at HFw
  replace HFw := Lib.hid HFw
  go_wp2_with fail
  clear hN0 hN1 hN2
  with_reducible refine Calls.mono HFw.out ?_
  rintro e x3 ⟨rfl, rfl⟩
  clear HFw hbs hweq
  clear kx kx' ky ky' kz kz'
  have hwx1 := hwx.out.below hL0.bl
  have hwy1 := hwy.out.below hL0.bl
  have hwz1 := hwz.out.below hL0.bl
  have hN0 := cells_of _ 0 [] rfl (hL0.get _ _ (List.mem_cons_of_mem _ (List.mem_cons_of_mem _ (List.mem_cons_of_mem _ List.mem_cons_self))))
  simp only [cellsF, and_true, Nat.zero_add, Nat.reduceAdd] at hN0
  have hN1 := cells_of _ 0 [] rfl (hL0.get _ _ (List.mem_cons_of_mem _ (List.mem_cons_of_mem _ List.mem_cons_self)))
  simp only [cellsF, and_true, Nat.zero_add, Nat.reduceAdd] at hN1
  have hN2 := cells_of _ 0 [] rfl (hL0.get _ _ (List.mem_cons_of_mem _ List.mem_cons_self))
  simp only [cellsF, and_true, Nat.zero_add, Nat.reduceAdd] at hN2
  go_upto_region 3 with fail
  clear hN0 hN1 hN2
  refine region_gh (by kernel_rfl) (by kernel_rfl) ?_
  refine lex_seg (gl := []) 6 (by kernel_rfl) ?_
  intro α iα F hF1 hF2
  have hq := GL.seg hF1 hL0
  simp only [fcC, cellsC, and_true, Nat.zero_add, Nat.reduceAdd] at hq
  simp only [List.take_succ_cons, List.take_zero, List.drop_succ_cons, List.drop_zero, List.take_nil, List.drop_nil]
  repeat (go_big_quiet_step (first | fail | (go_at_call 15; with_reducible exact seg_callW hF1 hF2 hwx1 ZX.out _) | (go_at_call 15; with_reducible exact seg_callW hF1 hF2 hwy1 ZY.out _) | (go_at_call 15; with_reducible exact seg_callW hF1 hF2 hwz1 ZZ.out _)))
  refine wpQuiet_nil ?_
  clear hq hF1 hF2 iα F α
  refine lex_new [.int .u64 0, .string ⟨#[]⟩, .bool false] 7 27 27 rfl rfl (of_decide_eq_true (by kernel_rfl)) (by kernel_rfl) rfl new_int ?_
  simp only [Act.put, List.setIfInBounds_toArray, List.set_cons_succ, List.set_cons_zero]
  refine lex_new [.int .u64 0, .string ⟨#[]⟩, .bool false] 8 27 27 rfl rfl (of_decide_eq_true (by kernel_rfl)) (by kernel_rfl) rfl new_int ?_
  simp only [Act.put, List.setIfInBounds_toArray, List.set_cons_succ, List.set_cons_zero]
  refine lex_new [.int .u64 0, .string ⟨#[]⟩, .bool false] 9 27 27 rfl rfl (of_decide_eq_true (by kernel_rfl)) (by kernel_rfl) rfl new_int ?_
  simp only [Act.put, List.setIfInBounds_toArray, List.set_cons_succ, List.set_cons_zero]
  refine lex_put [.int .u64 ((zl a : Nat) : Int), .string (zh a), .bool (zs a)] [.int .u64 0, .string ⟨#[]⟩, .bool false] 7 27 (.tmp 18) rfl (by kernel_rfl) (by simp [toG, upd]) rfl (fun w k h => put_int _ _ _ _ _ _ w k h) ?_
  simp only [Act.put]
  refine lex_put [.int .u64 ((zl b : Nat) : Int), .string (zh b), .bool (zs b)] [.int .u64 0, .string ⟨#[]⟩, .bool false] 8 27 (.tmp 20) rfl (by kernel_rfl) (by simp [toG, upd]) rfl (fun w k h => put_int _ _ _ _ _ _ w k h) ?_
  simp only [Act.put]
  refine lex_put [.int .u64 ((zl c : Nat) : Int), .string (zh c), .bool (zs c)] [.int .u64 0, .string ⟨#[]⟩, .bool false] 9 27 (.tmp 22) rfl (by kernel_rfl) (by simp [toG, upd]) rfl (fun w k h => put_int _ _ _ _ _ _ w k h) ?_
  simp only [Act.put]
  refine lexG_nil ?_
  intro κ x4 hS
  replace hL0 := hL0.ghs hS [(9, [.int .u64 ((zl c : Nat) : Int), .string (zh c), .bool (zs c)]), (8, [.int .u64 ((zl b : Nat) : Int), .string (zh b), .bool (zs b)]), (7, [.int .u64 ((zl a : Nat) : Int), .string (zh a), .bool (zs a)])] (by simp) (by intro p hp; simp only [List.mem_cons, List.not_mem_nil, or_false] at hp; rcases hp with rfl | rfl | rfl <;> exact ⟨_, by simp only [toG, upd]; rfl⟩)
  simp only [List.map_cons, List.map_nil, List.cons_append, List.nil_append] at hL0
  simp only [over_toG, over_nil, Act.put, List.setIfInBounds_toArray, List.set_cons_succ, List.set_cons_zero]
  clear hS
  generalize κ 9 = k4_9 at *
  generalize κ 8 = k4_8 at *
  generalize κ 7 = k4_7 at *
  clear hwx1 hwy1 hwz1 ZX ZY ZZ
  go_upto_region 4 with fail
  obtain ⟨α, iα, F, hF1, hF2⟩ := cls x4
  have hq0 := cls_box hF1 hL0 _ _ (List.mem_cons_of_mem _ (List.mem_cons_of_mem _ List.mem_cons_self))
  simp only [cellsC, and_true, Nat.zero_add, Nat.reduceAdd] at hq0
  have hq1 := cls_box hF1 hL0 _ _ (List.mem_cons_of_mem _ List.mem_cons_self)
  simp only [cellsC, and_true, Nat.zero_add, Nat.reduceAdd] at hq1
  have hq2 := cls_box hF1 hL0 _ _ List.mem_cons_self
  simp only [cellsC, and_true, Nat.zero_add, Nat.reduceAdd] at hq2
  refine region_qs 57 (C := fun w' => ∃ x, w' = F x) (by kernel_rfl) (by kernel_rfl) (cls_drew hF2) ?_
  simp only [List.take_succ_cons, List.take_zero, List.drop_succ_cons, List.drop_zero, List.take_nil, List.drop_nil]
  repeat (go_big_quiet_step (first | fail | (go_at_call 17; with_reducible exact cls_call hF1 hF2 Aab.out _) | (go_at_call 17; with_reducible exact cls_call hF1 hF2 Aba.out _) | (go_at_call 18; with_reducible exact cls_call hF1 hF2 Mab.out _) | (go_at_call 18; with_reducible exact cls_call hF1 hF2 Mba.out _) | (go_at_call 17; with_reducible exact cls_call hF1 hF2 Asc.out _) | (go_at_call 17; with_reducible exact cls_call hF1 hF2 Abc.out _) | (go_at_call 17; with_reducible exact cls_call hF1 hF2 Aat.out _) | (go_at_call 18; with_reducible exact cls_call hF1 hF2 Mpc.out _) | (go_at_call 18; with_reducible exact cls_call hF1 hF2 Mbc.out _) | (go_at_call 18; with_reducible exact cls_call hF1 hF2 Mar.out _) | (go_at_call 18; with_reducible exact cls_call hF1 hF2 Mat.out _) | (go_at_call 18; with_reducible exact cls_call hF1 hF2 Mac.out _) | (go_at_call 17; with_reducible exact cls_call hF1 hF2 Apm.out _)))
  refine wpQuiet_nil ?_
  rintro wq ⟨xq, rfl⟩
  replace hL0 := hL0.call (hF1 xq)
  clear  hq0 hq1 hq2 hF2
  generalize F xq = x5 at hL0 ⊢
  clear hF1 xq iα F α
  go_upto_region 6 with fail
  obtain ⟨α, iα, F, hF1, hF2⟩ := cls x5
  have hq0 := cls_box hF1 hL0 _ _ (List.mem_cons_of_mem _ (List.mem_cons_of_mem _ List.mem_cons_self))
  simp only [cellsC, and_true, Nat.zero_add, Nat.reduceAdd] at hq0
  have hq1 := cls_box hF1 hL0 _ _ (List.mem_cons_of_mem _ List.mem_cons_self)
  simp only [cellsC, and_true, Nat.zero_add, Nat.reduceAdd] at hq1
  have hq2 := cls_box hF1 hL0 _ _ List.mem_cons_self
  simp only [cellsC, and_true, Nat.zero_add, Nat.reduceAdd] at hq2
  refine region_qs 53 (C := fun w' => ∃ x, w' = F x) (by kernel_rfl) (by kernel_rfl) (cls_drew hF2) ?_
  simp only [List.take_succ_cons, List.take_zero, List.drop_succ_cons, List.drop_zero, List.take_nil, List.drop_nil]
  repeat (go_big_quiet_step (first | fail | (go_at_call 25; with_reducible exact cls_call hF1 hF2 Saa.out _) | (go_at_call 17; with_reducible exact cls_call hF1 hF2 Aab.out _) | (go_at_call 25; with_reducible exact cls_call hF1 hF2 Ssb.out _) | (go_at_call 26; with_reducible exact cls_call hF1 hF2 Na.out _) | (go_at_call 26; with_reducible exact cls_call hF1 hF2 Nn.out _) | (go_at_call 25; with_reducible exact cls_call hF1 hF2 Sab.out _) | (go_at_call 25; with_reducible exact cls_call hF1 hF2 Sba.out _) | (go_at_call 26; with_reducible exact cls_call hF1 hF2 Nd.out _) | (go_at_call 27; with_reducible exact cls_call hF1 hF2 O0.out _) | (go_at_call 27; with_reducible exact cls_call hF1 hF2 O1.out _) | (go_at_call 27; with_reducible exact cls_call hF1 hF2 On.out _) | (go_at_call 17; with_reducible exact cls_call hF1 hF2 A0.out _) | (go_at_call 18; with_reducible exact cls_call hF1 hF2 M1.out _) | (go_at_call 18; with_reducible exact cls_call hF1 hF2 Mn.out _) | (go_at_call 13; with_reducible exact cls_call hF1 hF2 I0.out _)))
  refine wpQuiet_nil ?_
  rintro wq ⟨xq, rfl⟩
  replace hL0 := hL0.call (hF1 xq)
  clear  hq0 hq1 hq2 hF2
  generalize F xq = x6 at hL0 ⊢
  clear hF1 xq iα F α
  go_upto_region 8 with fail
  have ht := htab.below hL0.bl
  obtain ⟨α, iα, F, hF1, hF2⟩ := cls x6
  have hq0 := cls_box hF1 hL0 _ _ (List.mem_cons_of_mem _ (List.mem_cons_of_mem _ List.mem_cons_self))
  simp only [cellsC, and_true, Nat.zero_add, Nat.reduceAdd] at hq0
  have hq1 := cls_box hF1 hL0 _ _ (List.mem_cons_of_mem _ List.mem_cons_self)
  simp only [cellsC, and_true, Nat.zero_add, Nat.reduceAdd] at hq1
  have hq2 := cls_box hF1 hL0 _ _ List.mem_cons_self
  simp only [cellsC, and_true, Nat.zero_add, Nat.reduceAdd] at hq2
  refine region_qs 53 (C := fun w' => ∃ x, w' = F x) (by kernel_rfl) (by kernel_rfl) (cls_drew hF2) ?_
  simp only [List.take_succ_cons, List.take_zero, List.drop_succ_cons, List.drop_zero, List.take_nil, List.drop_nil]
  repeat (go_big_quiet_step (first | fail | (go_at_call 18; with_reducible exact cls_call hF1 hF2 Mab.out _) | (go_at_call 19; with_reducible exact cls_call hF1 hF2 Gp.out _) | (go_at_call 19; with_reducible exact cls_call hF1 hF2 Ga.out _) | (go_at_call 19; with_reducible exact cls_call hF1 hF2 Gb.out _) | (go_at_call 24; with_reducible exact cls_call hF1 hF2 Cab.out _) | (go_at_call 25; with_reducible exact cls_call hF1 hF2 Sab.out _) | (go_at_call 19; with_reducible exact cls_call hF1 hF2 Gd.out _) | (go_at_call 17; with_reducible exact cls_call hF1 hF2 Aac.out _) | (go_at_call 17; with_reducible exact cls_call hF1 hF2 Abc.out _) | (go_at_call 24; with_reducible exact cls_call hF1 hF2 Ct.out _) | (go_at_call 18; with_reducible exact cls_call hF1 hF2 Mq.out _) | (go_at_call 19; with_reducible exact cls_call hF1 hF2 Gq.out _) | (go_at_call 20; with_reducible exact cls_call hF1 hF2 Ba.out _) | (go_at_call 22; with_reducible exact cls_call hF1 hF2 Fa.out _) | (go_at_call 8; with_reducible exact cls_callT hF1 hF2 ht HW.out _)))
  refine wpQuiet_nil ?_
  rintro wq ⟨xq, rfl⟩
  replace hL0 := hL0.call (hF1 xq)
  clear  hq0 hq1 hq2 hF2
  generalize F xq = x7 at hL0 ⊢
  clear hF1 xq iα F α
  go_wp2_with fail
  exact bodyPost_ret (v := .bool true) (by simp [results, Tryd.results5, go_sem]) rfl ⟨rfl, hL0.bl⟩

theorem irings_any (sx sy sz : Bool) (ax ay az : Option Addr) (nx cx ny cy nz cz : Nat) (lx ly lz : List Nat)  (w : World) (htab : Tab w) (hwx : Ws w (.slice ax nx cx) lx) (hwy : Ws w (.slice ay ny cy) ly) (hwz : Ws w (.slice az nz cz) lz) :
    Calls Tryd.prog 5 #[.agg #[.bool sx, .slice ax nx cx], .agg #[.bool sy, .slice ay ny cy], .agg #[.bool sz, .slice az nz cz]] w fun e w' => e = .returned (.bool true) ∧ Below w.heap.size w w' := by
  by_cases h : nx ≤ 12 ∧ ny ≤ 12 ∧ nz ≤ 12
  · exact irings_small sx sy sz ax ay az nx cx ny cy nz cz lx ly lz h.1 h.2.1 h.2.2 w htab hwx hwy hwz
  · exact irings_big sx sy sz ax ay az nx cx ny cy nz cz lx ly lz h w htab hwx hwy hwz

end Go.Proofs.YthehcjfmokabfaaDoor
