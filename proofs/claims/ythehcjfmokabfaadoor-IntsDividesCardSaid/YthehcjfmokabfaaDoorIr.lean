/-
  Layer 2, law: IntsDivides.
-/
import Derived.Test.YthehcjfmokabfaaDoorIl
set_option linter.unusedVariables false
set_option linter.unusedSimpArgs false
namespace Go.Proofs.YthehcjfmokabfaaDoor
open Go.RowKit
attribute [local irreducible] lo hs sm s64 c64 d64 b64 mh ml pd pc qd qc val hiB str cmpI srD lz nb isq decB zl zh zs dval

theorem GI.run {a b : Int} : ∀ (n : Nat) (G X N Y : Int), N.natAbs ≤ n → GI a b G X N Y → ∃ G X Y, GI a b G X 0 Y := by
  intro n
  induction n with
  | zero => intro G X N Y h hG; obtain rfl : N = 0 := by omega
            exact ⟨_, _, _, hG⟩
  | succ n ih =>
    intro G X N Y h hG
    by_cases hN : N = 0
    · subst hN; exact ⟨_, _, _, hG⟩
    · have h1 := Int.emod_lt G hN
      have h2 := Int.emod_nonneg G hN
      exact ih _ _ _ _ (by omega) (hG.next hN)
theorem xgcd_dI {a b : Int} {k : Nat} (ha : dI a ≤ k) (hb : dI b ≤ k) : dI (xgcd a b).1 ≤ 1 + k ∧ dI (xgcd a b).2.1 ≤ 1 + (k + 1) ∧ dI (xgcd a b).2.2 ≤ 2 * k + 4 := by
  obtain ⟨G, X, Y, h⟩ := GI.run _ a 1 b 0 (Nat.le_refl _) (GI.start a b)
  obtain ⟨b1, b2, b3, -⟩ := h.bounds ha hb
  obtain ⟨l1, l2⟩ := h.last
  have hs1 : dI (sgn G) ≤ 1 := digs_length_iff.2 (by have : (sgn G).natAbs ≤ 1 := (by unfold sgn; split <;> (try split) <;> omega); unfold Bs; omega)
  have q1 : dI (xgcd a b).1 ≤ 1 + k := by rw [l1]; exact dI_mul hs1 b1
  have q2 : dI (xgcd a b).2.1 ≤ 1 + (k + 1) := by rw [l2]; exact dI_mul hs1 b3
  refine ⟨q1, q2, ?_⟩
  by_cases h0 : b = 0
  · subst h0; rw [xgcd_zero]; exact Nat.le_trans (show dI (0 : Int) ≤ 1 from dI_lit (by decide)) (by omega)
  · rw [← xgcd_y h0]
    refine Nat.le_trans (dI_mono (Int.natAbs_ediv_le_natAbs _ _)) ?_
    have q3 : dI (a * (xgcd a b).2.1) ≤ k + (1 + (k + 1)) := dI_mul ha q2
    exact Nat.le_trans (dI_sub (k := 2 * k + 2) (by omega) (by omega)) (by omega)
theorem div_uniq {a b r : Int} (hb : b ≠ 0) (h0 : 0 ≤ r) (h1 : r < b.natAbs) : (a * b + r) / b = a ∧ (a * b + r) % b = r := by
  have e1 : r / b = 0 ∧ r % b = r := by
    rcases Int.lt_trichotomy b 0 with h | h | h
    · have := Int.ediv_emod_unique (a := r) (b := -b) (q := 0) (r := r) (by omega)
      obtain ⟨t1, t2⟩ := this.2 ⟨by omega, h0, by omega⟩
      rw [Int.ediv_neg] at t1
      rw [Int.emod_neg] at t2
      exact ⟨by omega, t2⟩
    · exact absurd h hb
    · exact (Int.ediv_emod_unique h).2 ⟨by omega, h0, by omega⟩
  rw [Int.add_comm]
  exact ⟨by rw [Int.add_mul_ediv_right _ _ hb, e1.1]; omega, by rw [Int.add_mul_emod_self_right]; exact e1.2⟩

set_option maxHeartbeats 16000000 in
set_option maxRecDepth 100000 in
theorem idivides_big (sx sy sz : Bool) (ax ay az : Option Addr) (nx cx ny cy nz cz : Nat) (lx ly lz : List Nat) (h : ¬ (nx ≤ 16 ∧ ny ≤ 16 ∧ nz ≤ 16)) (w : World) (htab : Tab w) (hwx : Ws w (.slice ax nx cx) lx) (hwy : Ws w (.slice ay ny cy) ly) (hwz : Ws w (.slice az nz cz) lz) :
    Calls Tryd.prog 4 #[.agg #[.bool sx, .slice ax nx cx], .agg #[.bool sy, .slice ay ny cy], .agg #[.bool sz, .slice az nz cz]] w fun e w' => e = .returned (.bool true) ∧ Below w.heap.size w w' := by
  have hL0 : GL w w [] := GL.start w
  have HW := Lib.hid (fun w h => zworks_any w h)
  replace hL0 := (((hL0.new rfl [.bool sx, .slice ax nx cx] 43).new (K := w.heap.size + 1) (szA _ _) [.bool sy, .slice ay ny cy] 43).new (K := w.heap.size + 1 + 1) (by simp only [World.size_alloc]) [.bool sz, .slice az nz cz] 43)
  generalize hweq : (((w.alloc (.cells #[.bool sx, .slice ax nx cx] 43)).alloc (.cells #[.bool sy, .slice ay ny cy] 43)).alloc (.cells #[.bool sz, .slice az nz cz] 43)) = x1 at hL0
  go_enter Tryd.func4, Tryd.ntmps4
  have hN0 := cells_of _ 0 [] rfl (hL0.get _ _ (List.mem_cons_of_mem _ (List.mem_cons_of_mem _ List.mem_cons_self)))
  simp only [cellsF, and_true, Nat.zero_add, Nat.reduceAdd] at hN0
  have hN1 := cells_of _ 0 [] rfl (hL0.get _ _ (List.mem_cons_of_mem _ List.mem_cons_self))
  simp only [cellsF, and_true, Nat.zero_add, Nat.reduceAdd] at hN1
  have hN2 := cells_of _ 0 [] rfl (hL0.get _ _ List.mem_cons_self)
  simp only [cellsF, and_true, Nat.zero_add, Nat.reduceAdd] at hN2
  have hG := hL0.new rfl [.bool sx, .slice ax nx cx, .bool sy, .slice ay ny cy, .bool sz, .slice az nz cz] 43
  generalize hbs : x1.alloc (.cells #[.bool sx, .slice ax nx cx, .bool sy, .slice ay ny cy, .bool sz, .slice az nz cz] 43) = x2 at hG
  clear hL0
  have hL0 := hG
  clear hG
  have HFw := few3 16 16 rfl (by omega) (hL0.get _ _ List.mem_cons_self)
  rw [show decide (nx ≤ 16 ∧ ny ≤ 16 ∧ nz ≤ 16) = false from decide_eq_false (by omega)] at HFw
  replace HFw := Lib.hid HFw
  go_wp2_with fail
  clear hN0 hN1 hN2
  with_reducible refine Calls.mono HFw.out ?_
  rintro e x3 ⟨rfl, rfl⟩
  clear HFw hbs hweq
  go_wp2_with fail
  with_reducible refine Calls.mono (HW.out _ (htab.below hL0.bl)) ?_
  rintro e x4 ⟨rfl, hb⟩
  replace hL0 := hL0.call hb
  clear hb
  go_wp2_with fail
  exact bodyPost_ret (v := .bool true) (by simp [results, Tryd.results4, go_sem]) rfl ⟨rfl, hL0.bl⟩

set_option maxHeartbeats 16000000 in
set_option maxRecDepth 100000 in
theorem idivides_zero (sx sy sz : Bool) (ax ay az : Option Addr) (nx cx ny cy nz cz : Nat) (lx ly lz : List Nat) (kx : nx ≤ 16) (ky : ny ≤ 16) (kz : nz ≤ 16) (hb0 : zmade sy ly = 0) (w : World) (htab : Tab w) (hwx : Ws w (.slice ax nx cx) lx) (hwy : Ws w (.slice ay ny cy) ly) (hwz : Ws w (.slice az nz cz) lz) :
    Calls Tryd.prog 4 #[.agg #[.bool sx, .slice ax nx cx], .agg #[.bool sy, .slice ay ny cy], .agg #[.bool sz, .slice az nz cz]] w fun e w' => e = .returned (.bool true) ∧ Below w.heap.size w w' := by
  have hL0 : GL w w [] := GL.start w
  have ex := hwx.len
  have ZX := fun w h => zof_any sx ax nx cx lx (by omega) w h
  have dx : dI (zmade sx lx) ≤ 16 := Nat.le_trans (zmade_dI hwx.lt) (by omega)
  generalize zmade sx lx = a at *
  replace ZX := Lib.hid ZX
  have ey := hwy.len
  have ZY := fun w h => zof_any sy ay ny cy ly (by omega) w h
  have dy : dI (zmade sy ly) ≤ 16 := Nat.le_trans (zmade_dI hwy.lt) (by omega)
  generalize zmade sy ly = b at *
  replace ZY := Lib.hid ZY
  have ez := hwz.len
  have ZZ := fun w h => zof_any sz az nz cz lz (by omega) w h
  have dz : dI (zmade sz lz) ≤ 16 := Nat.le_trans (zmade_dI hwz.lt) (by omega)
  generalize zmade sz lz = c at *
  replace ZZ := Lib.hid ZZ
  obtain ⟨dg, du, dv⟩ := xgcd_dI (k := 16) (by omega : dI a ≤ 16) (by omega : dI b ≤ 16)
  obtain ⟨bz, bg⟩ := xgcd_bez _ a b (Nat.le_refl _)
  have G := fun w => gcdI a b (by omega) (by omega) w
  have dau : dI (a * (xgcd a b).2.1) ≤ 16 + 18 := dI_mul dx du
  have dbv : dI (b * (xgcd a b).2.2) ≤ 16 + 36 := dI_mul dy dv
  have Mau := fun w => mulI a (xgcd a b).2.1 (by omega) (by omega) w
  have Mbv := fun w => mulI b (xgcd a b).2.2 (by omega) (by omega) w
  have Ag := fun w => addI (a * (xgcd a b).2.1) (b * (xgcd a b).2.2) (by omega) (by omega) w
  rw [bz] at Ag
  have Sg := fun w => signI (xgcd a b).1 w
  have Bg := fun w => absI (xgcd a b).1 w
  have Ba := fun w => absI a w
  have Bb := fun w => absI b w
  have egn : (xgcd a b).1.natAbs = Nat.gcd a.natAbs b.natAbs := by rw [bg]; exact Int.natAbs_natCast _
  have Gn := fun w => gcd_any a.natAbs b.natAbs (Nat.le_trans dx (by omega)) (Nat.le_trans dy (by omega)) w
  rw [← egn] at Gn
  have hsg : decide (sgn (xgcd a b).1 < 0) = false := decide_eq_false (by have : 0 ≤ (xgcd a b).1 := (by rw [bg]; omega); unfold sgn; split <;> (try split) <;> omega)
  have Fb := fun w => fromI false b.natAbs (b.natAbs : Int) rfl w
  have D0 := fun w => div0I a w
  rw [← hb0] at D0
  have I0 := fun w => is_eq 0 (by decide) (by decide) w
  rw [show (intV 0) = intV b by rw [hb0]] at I0
  replace bz := Lib.hid bz
  generalize hgg : (xgcd a b).1 = g at *
  generalize (xgcd a b).2.1 = u at *
  generalize (xgcd a b).2.2 = v at *
  clear egn hgg bg bz dg du dv dau dbv
  generalize sgn g = sg at *
  generalize g.natAbs = gn at *
  generalize a.natAbs = an at *
  generalize (b.natAbs : Int) = bi at *
  generalize b.natAbs = bn at *
  generalize a * u = au at *
  generalize b * v = bv at *
  replace G := Lib.hid G
  replace Mau := Lib.hid Mau
  replace Mbv := Lib.hid Mbv
  replace Ag := Lib.hid Ag
  replace Sg := Lib.hid Sg
  replace Bg := Lib.hid Bg
  replace Ba := Lib.hid Ba
  replace Bb := Lib.hid Bb
  replace Gn := Lib.hid Gn
  replace Fb := Lib.hid Fb
  replace D0 := Lib.hid D0
  replace I0 := Lib.hid I0
  have HW := Lib.hid (fun w h => zworks_any w h)
  replace hb0 := Lib.hid hb0
  replace kx := Lib.hid kx
  replace ky := Lib.hid ky
  replace kz := Lib.hid kz
  clear ex dx ey dy ez dz
  replace hL0 := (((hL0.new rfl [.bool sx, .slice ax nx cx] 43).new (K := w.heap.size + 1) (szA _ _) [.bool sy, .slice ay ny cy] 43).new (K := w.heap.size + 1 + 1) (by simp only [World.size_alloc]) [.bool sz, .slice az nz cz] 43)
  generalize hweq : (((w.alloc (.cells #[.bool sx, .slice ax nx cx] 43)).alloc (.cells #[.bool sy, .slice ay ny cy] 43)).alloc (.cells #[.bool sz, .slice az nz cz] 43)) = x1 at hL0
  replace hwx := Lib.hid hwx
  replace hwy := Lib.hid hwy
  replace hwz := Lib.hid hwz
  go_enter Tryd.func4, Tryd.ntmps4
  have kx' := kx.out
  have ky' := ky.out
  have kz' := kz.out
  have hN0 := cells_of _ 0 [] rfl (hL0.get _ _ (List.mem_cons_of_mem _ (List.mem_cons_of_mem _ List.mem_cons_self)))
  simp only [cellsF, and_true, Nat.zero_add, Nat.reduceAdd] at hN0
  have hN1 := cells_of _ 0 [] rfl (hL0.get _ _ (List.mem_cons_of_mem _ List.mem_cons_self))
  simp only [cellsF, and_true, Nat.zero_add, Nat.reduceAdd] at hN1
  have hN2 := cells_of _ 0 [] rfl (hL0.get _ _ List.mem_cons_self)
  simp only [cellsF, and_true, Nat.zero_add, Nat.reduceAdd] at hN2
  have hG := hL0.new rfl [.bool sx, .slice ax nx cx, .bool sy, .slice ay ny cy, .bool sz, .slice az nz cz] 43
  generalize hbs : x1.alloc (.cells #[.bool sx, .slice ax nx cx, .bool sy, .slice ay ny cy, .bool sz, .slice az nz cz] 43) = x2 at hG
  clear hL0
  have hL0 := hG
  clear hG
  have HFw := few3 16 16 rfl (by omega) (hL0.get _ _ List.mem_cons_self)
  rw [show decide (nx ≤ 16 ∧ ny ≤ 16 ∧ nz ≤ 16) = true from decide_eq_true (by omega)] at HFw
  replace HFw := Lib.hid HFw
  go_wp2_with fail
  clear hN0 hN1 hN2
  with_reducible refine Calls.mono HFw.out ?_
  rintro e x3 ⟨rfl, rfl⟩
  clear HFw hbs hweq
  clear kx kx' ky ky' kz kz'
  have hwx1 := hwx.out.below hL0.bl
  have hwy1 := hwy.out.below hL0.bl
  have hwz1 := hwz.out.below hL0.bl
  have hN0 := cells_of _ 0 [] rfl (hL0.get _ _ (List.mem_cons_of_mem _ (List.mem_cons_of_mem _ (List.mem_cons_of_mem _ List.mem_cons_self))))
  simp only [cellsF, and_true, Nat.zero_add, Nat.reduceAdd] at hN0
  have hN1 := cells_of _ 0 [] rfl (hL0.get _ _ (List.mem_cons_of_mem _ (List.mem_cons_of_mem _ List.mem_cons_self)))
  simp only [cellsF, and_true, Nat.zero_add, Nat.reduceAdd] at hN1
  have hN2 := cells_of _ 0 [] rfl (hL0.get _ _ (List.mem_cons_of_mem _ List.mem_cons_self))
  simp only [cellsF, and_true, Nat.zero_add, Nat.reduceAdd] at hN2
  go_upto_region 3 with fail
  clear hN0 hN1 hN2
  refine region_gh (by kernel_rfl) (by kernel_rfl) ?_
  refine lex_seg (gl := []) 6 (by kernel_rfl) ?_
  intro α iα F hF1 hF2
  have hq := GL.seg hF1 hL0
  simp only [fcC, cellsC, and_true, Nat.zero_add, Nat.reduceAdd] at hq
  simp only [List.take_succ_cons, List.take_zero, List.drop_succ_cons, List.drop_zero, List.take_nil, List.drop_nil]
  repeat (go_big_quiet_step (first | fail | (go_at_call 15; with_reducible exact seg_callW hF1 hF2 hwx1 ZX.out _) | (go_at_call 15; with_reducible exact seg_callW hF1 hF2 hwy1 ZY.out _) | (go_at_call 15; with_reducible exact seg_callW hF1 hF2 hwz1 ZZ.out _)))
  refine wpQuiet_nil ?_
  clear hq hF1 hF2 iα F α
  refine lex_new [.int .u64 0, .string ⟨#[]⟩, .bool false] 7 27 27 rfl rfl (of_decide_eq_true (by kernel_rfl)) (by kernel_rfl) rfl new_int ?_
  simp only [Act.put, List.setIfInBounds_toArray, List.set_cons_succ, List.set_cons_zero]
  refine lex_new [.int .u64 0, .string ⟨#[]⟩, .bool false] 8 27 27 rfl rfl (of_decide_eq_true (by kernel_rfl)) (by kernel_rfl) rfl new_int ?_
  simp only [Act.put, List.setIfInBounds_toArray, List.set_cons_succ, List.set_cons_zero]
  refine lex_new [.int .u64 0, .string ⟨#[]⟩, .bool false] 9 27 27 rfl rfl (of_decide_eq_true (by kernel_rfl)) (by kernel_rfl) rfl new_int ?_
  simp only [Act.put, List.setIfInBounds_toArray, List.set_cons_succ, List.set_cons_zero]
  refine lex_put [.int .u64 ((zl a : Nat) : Int), .string (zh a), .bool (zs a)] [.int .u64 0, .string ⟨#[]⟩, .bool false] 7 27 (.tmp 31) rfl (by kernel_rfl) (by simp [toG, upd]) rfl (fun w k h => put_int _ _ _ _ _ _ w k h) ?_
  simp only [Act.put]
  refine lex_put [.int .u64 ((zl b : Nat) : Int), .string (zh b), .bool (zs b)] [.int .u64 0, .string ⟨#[]⟩, .bool false] 8 27 (.tmp 33) rfl (by kernel_rfl) (by simp [toG, upd]) rfl (fun w k h => put_int _ _ _ _ _ _ w k h) ?_
  simp only [Act.put]
  refine lex_put [.int .u64 ((zl c : Nat) : Int), .string (zh c), .bool (zs c)] [.int .u64 0, .string ⟨#[]⟩, .bool false] 9 27 (.tmp 35) rfl (by kernel_rfl) (by simp [toG, upd]) rfl (fun w k h => put_int _ _ _ _ _ _ w k h) ?_
  simp only [Act.put]
  refine lexG_nil ?_
  intro κ x4 hS
  replace hL0 := hL0.ghs hS [(9, [.int .u64 ((zl c : Nat) : Int), .string (zh c), .bool (zs c)]), (8, [.int .u64 ((zl b : Nat) : Int), .string (zh b), .bool (zs b)]), (7, [.int .u64 ((zl a : Nat) : Int), .string (zh a), .bool (zs a)])] (by simp) (by intro p hp; simp only [List.mem_cons, List.not_mem_nil, or_false] at hp; rcases hp with rfl | rfl | rfl <;> exact ⟨_, by simp only [toG, upd]; rfl⟩)
  simp only [List.map_cons, List.map_nil, List.cons_append, List.nil_append] at hL0
  simp only [over_toG, over_nil, Act.put, List.setIfInBounds_toArray, List.set_cons_succ, List.set_cons_zero]
  clear hS
  generalize κ 9 = k4_9 at *
  generalize κ 8 = k4_8 at *
  generalize κ 7 = k4_7 at *
  clear hwx1 hwy1 hwz1 ZX ZY ZZ
  have hN0 := cells_of _ 0 [] rfl (hL0.get _ _ (List.mem_cons_of_mem _ (List.mem_cons_of_mem _ List.mem_cons_self)))
  simp only [cellsF, and_true, Nat.zero_add, Nat.reduceAdd] at hN0
  have hN1 := cells_of _ 0 [] rfl (hL0.get _ _ (List.mem_cons_of_mem _ List.mem_cons_self))
  simp only [cellsF, and_true, Nat.zero_add, Nat.reduceAdd] at hN1
  go_wp2_with fail
  clear hN0 hN1
  with_reducible refine Calls.mono (G.out _) ?_
  rintro e x5 ⟨rfl, hb⟩
  replace hL0 := hL0.call hb
  clear hb
  replace hL0 := (((hL0.new rfl [.int .u64 ((zl g : Nat) : Int), .string (zh g), .bool (zs g)] 27).new (K := x5.heap.size + 1) (szA _ _) [.int .u64 ((zl u : Nat) : Int), .string (zh u), .bool (zs u)] 27).new (K := x5.heap.size + 1 + 1) (by simp only [World.size_alloc]) [.int .u64 ((zl v : Nat) : Int), .string (zh v), .bool (zs v)] 27)
  generalize hweq : (((x5.alloc (.cells #[.int .u64 ((zl g : Nat) : Int), .string (zh g), .bool (zs g)] 27)).alloc (.cells #[.int .u64 ((zl u : Nat) : Int), .string (zh u), .bool (zs u)] 27)).alloc (.cells #[.int .u64 ((zl v : Nat) : Int), .string (zh v), .bool (zs v)] 27)) = x6 at hL0
  go_upto_region 5 with fail
  clear hweq
  obtain ⟨α, iα, F, hF1, hF2⟩ := cls x6
  have hq0 := cls_box hF1 hL0 _ _ (List.mem_cons_of_mem _ (List.mem_cons_of_mem _ (List.mem_cons_of_mem _ (List.mem_cons_of_mem _ (List.mem_cons_of_mem _ List.mem_cons_self)))))
  simp only [cellsC, and_true, Nat.zero_add, Nat.reduceAdd] at hq0
  have hq1 := cls_box hF1 hL0 _ _ (List.mem_cons_of_mem _ (List.mem_cons_of_mem _ (List.mem_cons_of_mem _ (List.mem_cons_of_mem _ List.mem_cons_self))))
  simp only [cellsC, and_true, Nat.zero_add, Nat.reduceAdd] at hq1
  have hq2 := cls_box hF1 hL0 _ _ (List.mem_cons_of_mem _ (List.mem_cons_of_mem _ List.mem_cons_self))
  simp only [cellsC, and_true, Nat.zero_add, Nat.reduceAdd] at hq2
  have hq3 := cls_box hF1 hL0 _ _ (List.mem_cons_of_mem _ List.mem_cons_self)
  simp only [cellsC, and_true, Nat.zero_add, Nat.reduceAdd] at hq3
  have hq4 := cls_box hF1 hL0 _ _ List.mem_cons_self
  simp only [cellsC, and_true, Nat.zero_add, Nat.reduceAdd] at hq4
  refine region_qs 24 (C := fun w' => ∃ x, w' = F x) (by kernel_rfl) (by kernel_rfl) (cls_drew hF2) ?_
  simp only [List.take_succ_cons, List.take_zero, List.drop_succ_cons, List.drop_zero, List.take_nil, List.drop_nil]
  repeat (go_big_quiet_step (first | fail | (go_at_call 18; with_reducible exact cls_call hF1 hF2 Mau.out _) | (go_at_call 18; with_reducible exact cls_call hF1 hF2 Mbv.out _) | (go_at_call 17; with_reducible exact cls_call hF1 hF2 Ag.out _) | (go_at_call 19; with_reducible exact cls_call hF1 hF2 Sg.out _) | (go_at_call 20; with_reducible exact cls_call hF1 hF2 Bg.out _) | (go_at_call 20; with_reducible exact cls_call hF1 hF2 Ba.out _) | (go_at_call 20; with_reducible exact cls_call hF1 hF2 Bb.out _) | (go_at_call 21; with_reducible exact cls_call hF1 hF2 Gn.out _)))
  refine wpQuiet_nil ?_
  rintro wq ⟨xq, rfl⟩
  replace hL0 := hL0.call (hF1 xq)
  clear  hq0 hq1 hq2 hq3 hq4 hF2
  generalize F xq = x7 at hL0 ⊢
  clear hF1 xq iα F α
  have hN0 := cells_of _ 0 [] rfl (hL0.get _ _ (List.mem_cons_of_mem _ (List.mem_cons_of_mem _ (List.mem_cons_of_mem _ (List.mem_cons_of_mem _ List.mem_cons_self)))))
  simp only [cellsF, and_true, Nat.zero_add, Nat.reduceAdd] at hN0
  go_wp2_with fail
  clear hN0
  with_reducible refine Calls.mono (Bb.out _) ?_
  rintro e x8 ⟨rfl, hb⟩
  replace hL0 := hL0.call hb
  clear hb
  go_wp2_with fail
  with_reducible refine Calls.mono (Fb.out _) ?_
  rintro e x9 ⟨rfl, hb⟩
  replace hL0 := hL0.call hb
  clear hb
  replace hL0 := (hL0.new rfl [.int .u64 ((zl bi : Nat) : Int), .string (zh bi), .bool (zs bi)] 27)
  generalize hweq : (x9.alloc (.cells #[.int .u64 ((zl bi : Nat) : Int), .string (zh bi), .bool (zs bi)] 27)) = x10 at hL0
  have hN0 := cells_of _ 0 [] rfl (hL0.get _ _ (List.mem_cons_of_mem _ (List.mem_cons_of_mem _ (List.mem_cons_of_mem _ (List.mem_cons_of_mem _ (List.mem_cons_of_mem _ (List.mem_cons_of_mem _ List.mem_cons_self)))))))
  simp only [cellsF, and_true, Nat.zero_add, Nat.reduceAdd] at hN0
  have hN1 := cells_of _ 0 [] rfl (hL0.get _ _ (List.mem_cons_of_mem _ (List.mem_cons_of_mem _ (List.mem_cons_of_mem _ (List.mem_cons_of_mem _ (List.mem_cons_of_mem _ List.mem_cons_self))))))
  simp only [cellsF, and_true, Nat.zero_add, Nat.reduceAdd] at hN1
  go_wp2_with fail
  clear hN0 hN1
  with_reducible refine Calls.mono (D0.out _) ?_
  rintro e x11 ⟨rfl, hb⟩
  replace hL0 := hL0.call hb
  clear hb hweq
  replace hL0 := ((hL0.new rfl [.int .u64 ((zl b : Nat) : Int), .string (zh b), .bool (zs b)] 27).new (K := x11.heap.size + 1) (szA _ _) [.int .u64 ((zl b : Nat) : Int), .string (zh b), .bool (zs b)] 27)
  generalize hweq : ((x11.alloc (.cells #[.int .u64 ((zl b : Nat) : Int), .string (zh b), .bool (zs b)] 27)).alloc (.cells #[.int .u64 ((zl b : Nat) : Int), .string (zh b), .bool (zs b)] 27)) = x12 at hL0
  have hN0 := cells_of _ 0 [] rfl (hL0.get _ _ (List.mem_cons_of_mem _ (List.mem_cons_of_mem _ (List.mem_cons_of_mem _ (List.mem_cons_of_mem _ (List.mem_cons_of_mem _ (List.mem_cons_of_mem _ (List.mem_cons_of_mem _ List.mem_cons_self))))))))
  simp only [cellsF, and_true, Nat.zero_add, Nat.reduceAdd] at hN0
  go_wp2_with fail
  clear hN0
  with_reducible refine Calls.mono (I0.out _) ?_
  rintro e x13 ⟨rfl, hb⟩
  replace hL0 := hL0.call hb
  clear hb hweq
  go_wp2_with fail
  with_reducible refine Calls.mono (HW.out _ (htab.below hL0.bl)) ?_
  rintro e x14 ⟨rfl, hb⟩
  replace hL0 := hL0.call hb
  clear hb
  go_wp2_with fail
  exact bodyPost_ret (v := .bool true) (by simp [results, Tryd.results4, go_sem]) rfl ⟨rfl, hL0.bl⟩

set_option maxHeartbeats 16000000 in
set_option maxRecDepth 100000 in
theorem idivides_pos (sx sy sz : Bool) (ax ay az : Option Addr) (nx cx ny cy nz cz : Nat) (lx ly lz : List Nat) (kx : nx ≤ 16) (ky : ny ≤ 16) (kz : nz ≤ 16) (hb0 : zmade sy ly ≠ 0) (w : World) (htab : Tab w) (hwx : Ws w (.slice ax nx cx) lx) (hwy : Ws w (.slice ay ny cy) ly) (hwz : Ws w (.slice az nz cz) lz) :
    Calls Tryd.prog 4 #[.agg #[.bool sx, .slice ax nx cx], .agg #[.bool sy, .slice ay ny cy], .agg #[.bool sz, .slice az nz cz]] w fun e w' => e = .returned (.bool true) ∧ Below w.heap.size w w' := by
  have hL0 : GL w w [] := GL.start w
  have ex := hwx.len
  have ZX := fun w h => zof_any sx ax nx cx lx (by omega) w h
  have dx : dI (zmade sx lx) ≤ 16 := Nat.le_trans (zmade_dI hwx.lt) (by omega)
  generalize zmade sx lx = a at *
  replace ZX := Lib.hid ZX
  have ey := hwy.len
  have ZY := fun w h => zof_any sy ay ny cy ly (by omega) w h
  have dy : dI (zmade sy ly) ≤ 16 := Nat.le_trans (zmade_dI hwy.lt) (by omega)
  generalize zmade sy ly = b at *
  replace ZY := Lib.hid ZY
  have ez := hwz.len
  have ZZ := fun w h => zof_any sz az nz cz lz (by omega) w h
  have dz : dI (zmade sz lz) ≤ 16 := Nat.le_trans (zmade_dI hwz.lt) (by omega)
  generalize zmade sz lz = c at *
  replace ZZ := Lib.hid ZZ
  obtain ⟨dg, du, dv⟩ := xgcd_dI (k := 16) (by omega : dI a ≤ 16) (by omega : dI b ≤ 16)
  obtain ⟨bz, bg⟩ := xgcd_bez _ a b (Nat.le_refl _)
  have G := fun w => gcdI a b (by omega) (by omega) w
  have dau : dI (a * (xgcd a b).2.1) ≤ 16 + 18 := dI_mul dx du
  have dbv : dI (b * (xgcd a b).2.2) ≤ 16 + 36 := dI_mul dy dv
  have Mau := fun w => mulI a (xgcd a b).2.1 (by omega) (by omega) w
  have Mbv := fun w => mulI b (xgcd a b).2.2 (by omega) (by omega) w
  have Ag := fun w => addI (a * (xgcd a b).2.1) (b * (xgcd a b).2.2) (by omega) (by omega) w
  rw [bz] at Ag
  have Sg := fun w => signI (xgcd a b).1 w
  have Bg := fun w => absI (xgcd a b).1 w
  have Ba := fun w => absI a w
  have Bb := fun w => absI b w
  have egn : (xgcd a b).1.natAbs = Nat.gcd a.natAbs b.natAbs := by rw [bg]; exact Int.natAbs_natCast _
  have Gn := fun w => gcd_any a.natAbs b.natAbs (Nat.le_trans dx (by omega)) (Nat.le_trans dy (by omega)) w
  rw [← egn] at Gn
  have hsg : decide (sgn (xgcd a b).1 < 0) = false := decide_eq_false (by have : 0 ≤ (xgcd a b).1 := (by rw [bg]; omega); unfold sgn; split <;> (try split) <;> omega)
  have Fb := fun w => fromI false b.natAbs (b.natAbs : Int) rfl w
  have hm0 := Int.emod_nonneg a hb0
  have hm1 := Int.emod_lt a hb0
  have hc0 := Int.emod_nonneg c hb0
  have hc1 := Int.emod_lt c hb0
  have dq0 : dI (a / b) ≤ 16 := Nat.le_trans (dI_mono (Int.natAbs_ediv_le_natAbs _ _)) dx
  have dr0 : dI (a % b) ≤ 16 := Nat.le_trans (dI_mono (by omega)) dy
  have drt : dI (c % b) ≤ 16 := Nat.le_trans (dI_mono (by omega)) dy
  have dqb : dI (a / b * b) ≤ 16 + 16 := dI_mul dq0 dy
  have dab : dI (a * b) ≤ 16 + 16 := dI_mul dx dy
  have ds1 : dI (a * b + c % b) ≤ 32 + 1 := dI_add (by omega) (by omega)
  obtain ⟨un1, un2⟩ := div_uniq (a := a) hb0 hc0 hc1
  have D0 := fun w => divI a b hb0 (by omega) (by omega) w
  have I0 := fun w => is_ne b 0 (by decide) (by decide) hb0 w
  have D1 := fun w => divI c b hb0 (by omega) (by omega) w
  have Mab := fun w => mulI a b (by omega) (by omega) w
  have As := fun w => addI (a * b) (c % b) (by omega) (by omega) w
  have D2 := fun w => divI (a * b + c % b) b hb0 (by omega) (by omega) w
  rw [un1] at D2
  rw [un2] at D2
  have Mqb := fun w => mulI (a / b) b (by omega) (by omega) w
  have Aq := fun w => addI (a / b * b) (a % b) (by omega) (by omega) w
  rw [show a / b * b + a % b = a by rw [Int.mul_comm]; exact Int.mul_ediv_add_emod a b] at Aq
  have Sr := fun w => signI (a % b) w
  have Cr := fun w => cmpII (a % b) (b.natAbs : Int) w
  have hsr : 0 ≤ sgn (a % b) := by unfold sgn; split <;> (try split) <;> omega
  have hsr1 : decide (0 ≤ sgn (a % b)) = true := decide_eq_true hsr
  have hsr2 : decide (sgn (a % b) ≥ 0) = true := decide_eq_true hsr
  have hcr : decide (cmpZ (a % b) (b.natAbs : Int) < 0) = true := decide_eq_true (by unfold cmpZ; rw [if_pos hm1]; omega)
  replace bz := Lib.hid bz
  generalize cmpZ (a % b) (b.natAbs : Int) = ccm at *
  generalize sgn (a % b) = sr at *
  replace hsr := Lib.hid hsr
  clear hm0 hm1 hc0 hc1 un1 un2 dq0 dr0 drt dqb dab ds1
  generalize a * b + c % b = s1 at *
  generalize a * b = ab at *
  generalize a / b * b = qb at *
  generalize a / b = q0 at *
  generalize a % b = r0 at *
  generalize c / b = q1 at *
  generalize c % b = rt at *
  generalize hgg : (xgcd a b).1 = g at *
  generalize (xgcd a b).2.1 = u at *
  generalize (xgcd a b).2.2 = v at *
  clear egn hgg bg bz dg du dv dau dbv
  generalize sgn g = sg at *
  generalize g.natAbs = gn at *
  generalize a.natAbs = an at *
  generalize (b.natAbs : Int) = bi at *
  generalize b.natAbs = bn at *
  generalize a * u = au at *
  generalize b * v = bv at *
  replace G := Lib.hid G
  replace Mau := Lib.hid Mau
  replace Mbv := Lib.hid Mbv
  replace Ag := Lib.hid Ag
  replace Sg := Lib.hid Sg
  replace Bg := Lib.hid Bg
  replace Ba := Lib.hid Ba
  replace Bb := Lib.hid Bb
  replace Gn := Lib.hid Gn
  replace Fb := Lib.hid Fb
  replace D0 := Lib.hid D0
  replace I0 := Lib.hid I0
  replace D1 := Lib.hid D1
  replace Mab := Lib.hid Mab
  replace As := Lib.hid As
  replace D2 := Lib.hid D2
  replace Mqb := Lib.hid Mqb
  replace Aq := Lib.hid Aq
  replace Sr := Lib.hid Sr
  replace Cr := Lib.hid Cr
  have HW := Lib.hid (fun w h => zworks_any w h)
  replace hb0 := Lib.hid hb0
  replace kx := Lib.hid kx
  replace ky := Lib.hid ky
  replace kz := Lib.hid kz
  clear ex dx ey dy ez dz
  replace hL0 := (((hL0.new rfl [.bool sx, .slice ax nx cx] 43).new (K := w.heap.size + 1) (szA _ _) [.bool sy, .slice ay ny cy] 43).new (K := w.heap.size + 1 + 1) (by simp only [World.size_alloc]) [.bool sz, .slice az nz cz] 43)
  generalize hweq : (((w.alloc (.cells #[.bool sx, .slice ax nx cx] 43)).alloc (.cells #[.bool sy, .slice ay ny cy] 43)).alloc (.cells #[.bool sz, .slice az nz cz] 43)) = x1 at hL0
  replace hwx := Lib.hid hwx
  replace hwy := Lib.hid hwy
  replace hwz := Lib.hid hwz
  go_enter Tryd.func4, Tryd.ntmps4
  have kx' := kx.out
  have ky' := ky.out
  have kz' := kz.out
  have hN0 := cells_of _ 0 [] rfl (hL0.get _ _ (List.mem_cons_of_mem _ (List.mem_cons_of_mem _ List.mem_cons_self)))
  simp only [cellsF, and_true, Nat.zero_add, Nat.reduceAdd] at hN0
  have hN1 := cells_of _ 0 [] rfl (hL0.get _ _ (List.mem_cons_of_mem _ List.mem_cons_self))
  simp only [cellsF, and_true, Nat.zero_add, Nat.reduceAdd] at hN1
  have hN2 := cells_of _ 0 [] rfl (hL0.get _ _ List.mem_cons_self)
  simp only [cellsF, and_true, Nat.zero_add, Nat.reduceAdd] at hN2
  have hG := hL0.new rfl [.bool sx, .slice ax nx cx, .bool sy, .slice ay ny cy, .bool sz, .slice az nz cz] 43
  generalize hbs : x1.alloc (.cells #[.bool sx, .slice ax nx cx, .bool sy, .slice ay ny cy, .bool sz, .slice az nz cz] 43) = x2 at hG
  clear hL0
  have hL0 := hG
  clear hG
  have HFw := few3 16 16 rfl (by omega) (hL0.get _ _ List.mem_cons_self)
  rw [show decide (nx ≤ 16 ∧ ny ≤ 16 ∧ nz ≤ 16) = true from decide_eq_true (by omega)] at HFw
  replace HFw := Lib.hid HFw
  go_wp2_with fail
  clear hN0 hN1 hN2
  with_reducible refine Calls.mono HFw.out ?_
  rintro e x3 ⟨rfl, rfl⟩
  clear HFw hbs hweq
  clear kx kx' ky ky' kz kz'
  have hwx1 := hwx.out.below hL0.bl
  have hwy1 := hwy.out.below hL0.bl
  have hwz1 := hwz.out.below hL0.bl
  have hN0 := cells_of _ 0 [] rfl (hL0.get _ _ (List.mem_cons_of_mem _ (List.mem_cons_of_mem _ (List.mem_cons_of_mem _ List.mem_cons_self))))
  simp only [cellsF, and_true, Nat.zero_add, Nat.reduceAdd] at hN0
  have hN1 := cells_of _ 0 [] rfl (hL0.get _ _ (List.mem_cons_of_mem _ (List.mem_cons_of_mem _ List.mem_cons_self)))
  simp only [cellsF, and_true, Nat.zero_add, Nat.reduceAdd] at hN1
  have hN2 := cells_of _ 0 [] rfl (hL0.get _ _ (List.mem_cons_of_mem _ List.mem_cons_self))
  simp only [cellsF, and_true, Nat.zero_add, Nat.reduceAdd] at hN2
  go_upto_region 3 with fail
  clear hN0 hN1 hN2
  refine region_gh (by kernel_rfl) (by kernel_rfl) ?_
  refine lex_seg (gl := []) 6 (by kernel_rfl) ?_
  intro α iα F hF1 hF2
  have hq := GL.seg hF1 hL0
  simp only [fcC, cellsC, and_true, Nat.zero_add, Nat.reduceAdd] at hq
  simp only [List.take_succ_cons, List.take_zero, List.drop_succ_cons, List.drop_zero, List.take_nil, List.drop_nil]
  repeat (go_big_quiet_step (first | fail | (go_at_call 15; with_reducible exact seg_callW hF1 hF2 hwx1 ZX.out _) | (go_at_call 15; with_reducible exact seg_callW hF1 hF2 hwy1 ZY.out _) | (go_at_call 15; with_reducible exact seg_callW hF1 hF2 hwz1 ZZ.out _)))
  refine wpQuiet_nil ?_
  clear hq hF1 hF2 iα F α
  refine lex_new [.int .u64 0, .string ⟨#[]⟩, .bool false] 7 27 27 rfl rfl (of_decide_eq_true (by kernel_rfl)) (by kernel_rfl) rfl new_int ?_
  simp only [Act.put, List.setIfInBounds_toArray, List.set_cons_succ, List.set_cons_zero]
  refine lex_new [.int .u64 0, .string ⟨#[]⟩, .bool false] 8 27 27 rfl rfl (of_decide_eq_true (by kernel_rfl)) (by kernel_rfl) rfl new_int ?_
  simp only [Act.put, List.setIfInBounds_toArray, List.set_cons_succ, List.set_cons_zero]
  refine lex_new [.int .u64 0, .string ⟨#[]⟩, .bool false] 9 27 27 rfl rfl (of_decide_eq_true (by kernel_rfl)) (by kernel_rfl) rfl new_int ?_
  simp only [Act.put, List.setIfInBounds_toArray, List.set_cons_succ, List.set_cons_zero]
  refine lex_put [.int .u64 ((zl a : Nat) : Int), .string (zh a), .bool (zs a)] [.int .u64 0, .string ⟨#[]⟩, .bool false] 7 27 (.tmp 31) rfl (by kernel_rfl) (by simp [toG, upd]) rfl (fun w k h => put_int _ _ _ _ _ _ w k h) ?_
  simp only [Act.put]
  refine lex_put [.int .u64 ((zl b : Nat) : Int), .string (zh b), .bool (zs b)] [.int .u64 0, .string ⟨#[]⟩, .bool false] 8 27 (.tmp 33) rfl (by kernel_rfl) (by simp [toG, upd]) rfl (fun w k h => put_int _ _ _ _ _ _ w k h) ?_
  simp only [Act.put]
  refine lex_put [.int .u64 ((zl c : Nat) : Int), .string (zh c), .bool (zs c)] [.int .u64 0, .string ⟨#[]⟩, .bool false] 9 27 (.tmp 35) rfl (by kernel_rfl) (by simp [toG, upd]) rfl (fun w k h => put_int _ _ _ _ _ _ w k h) ?_
  simp only [Act.put]
  refine lexG_nil ?_
  intro κ x4 hS
  replace hL0 := hL0.ghs hS [(9, [.int .u64 ((zl c : Nat) : Int), .string (zh c), .bool (zs c)]), (8, [.int .u64 ((zl b : Nat) : Int), .string (zh b), .bool (zs b)]), (7, [.int .u64 ((zl a : Nat) : Int), .string (zh a), .bool (zs a)])] (by simp) (by intro p hp; simp only [List.mem_cons, List.not_mem_nil, or_false] at hp; rcases hp with rfl | rfl | rfl <;> exact ⟨_, by simp only [toG, upd]; rfl⟩)
  simp only [List.map_cons, List.map_nil, List.cons_append, List.nil_append] at hL0
  simp only [over_toG, over_nil, Act.put, List.setIfInBounds_toArray, List.set_cons_succ, List.set_cons_zero]
  clear hS
  generalize κ 9 = k4_9 at *
  generalize κ 8 = k4_8 at *
  generalize κ 7 = k4_7 at *
  clear hwx1 hwy1 hwz1 ZX ZY ZZ
  have hN0 := cells_of _ 0 [] rfl (hL0.get _ _ (List.mem_cons_of_mem _ (List.mem_cons_of_mem _ List.mem_cons_self)))
  simp only [cellsF, and_true, Nat.zero_add, Nat.reduceAdd] at hN0
  have hN1 := cells_of _ 0 [] rfl (hL0.get _ _ (List.mem_cons_of_mem _ List.mem_cons_self))
  simp only [cellsF, and_true, Nat.zero_add, Nat.reduceAdd] at hN1
  go_wp2_with fail
  clear hN0 hN1
  with_reducible refine Calls.mono (G.out _) ?_
  rintro e x5 ⟨rfl, hb⟩
  replace hL0 := hL0.call hb
  clear hb
  replace hL0 := (((hL0.new rfl [.int .u64 ((zl g : Nat) : Int), .string (zh g), .bool (zs g)] 27).new (K := x5.heap.size + 1) (szA _ _) [.int .u64 ((zl u : Nat) : Int), .string (zh u), .bool (zs u)] 27).new (K := x5.heap.size + 1 + 1) (by simp only [World.size_alloc]) [.int .u64 ((zl v : Nat) : Int), .string (zh v), .bool (zs v)] 27)
  generalize hweq : (((x5.alloc (.cells #[.int .u64 ((zl g : Nat) : Int), .string (zh g), .bool (zs g)] 27)).alloc (.cells #[.int .u64 ((zl u : Nat) : Int), .string (zh u), .bool (zs u)] 27)).alloc (.cells #[.int .u64 ((zl v : Nat) : Int), .string (zh v), .bool (zs v)] 27)) = x6 at hL0
  go_upto_region 5 with fail
  clear hweq
  obtain ⟨α, iα, F, hF1, hF2⟩ := cls x6
  have hq0 := cls_box hF1 hL0 _ _ (List.mem_cons_of_mem _ (List.mem_cons_of_mem _ (List.mem_cons_of_mem _ (List.mem_cons_of_mem _ (List.mem_cons_of_mem _ List.mem_cons_self)))))
  simp only [cellsC, and_true, Nat.zero_add, Nat.reduceAdd] at hq0
  have hq1 := cls_box hF1 hL0 _ _ (List.mem_cons_of_mem _ (List.mem_cons_of_mem _ (List.mem_cons_of_mem _ (List.mem_cons_of_mem _ List.mem_cons_self))))
  simp only [cellsC, and_true, Nat.zero_add, Nat.reduceAdd] at hq1
  have hq2 := cls_box hF1 hL0 _ _ (List.mem_cons_of_mem _ (List.mem_cons_of_mem _ List.mem_cons_self))
  simp only [cellsC, and_true, Nat.zero_add, Nat.reduceAdd] at hq2
  have hq3 := cls_box hF1 hL0 _ _ (List.mem_cons_of_mem _ List.mem_cons_self)
  simp only [cellsC, and_true, Nat.zero_add, Nat.reduceAdd] at hq3
  have hq4 := cls_box hF1 hL0 _ _ List.mem_cons_self
  simp only [cellsC, and_true, Nat.zero_add, Nat.reduceAdd] at hq4
  refine region_qs 24 (C := fun w' => ∃ x, w' = F x) (by kernel_rfl) (by kernel_rfl) (cls_drew hF2) ?_
  simp only [List.take_succ_cons, List.take_zero, List.drop_succ_cons, List.drop_zero, List.take_nil, List.drop_nil]
  repeat (go_big_quiet_step (first | fail | (go_at_call 18; with_reducible exact cls_call hF1 hF2 Mau.out _) | (go_at_call 18; with_reducible exact cls_call hF1 hF2 Mbv.out _) | (go_at_call 17; with_reducible exact cls_call hF1 hF2 Ag.out _) | (go_at_call 19; with_reducible exact cls_call hF1 hF2 Sg.out _) | (go_at_call 20; with_reducible exact cls_call hF1 hF2 Bg.out _) | (go_at_call 20; with_reducible exact cls_call hF1 hF2 Ba.out _) | (go_at_call 20; with_reducible exact cls_call hF1 hF2 Bb.out _) | (go_at_call 21; with_reducible exact cls_call hF1 hF2 Gn.out _)))
  refine wpQuiet_nil ?_
  rintro wq ⟨xq, rfl⟩
  replace hL0 := hL0.call (hF1 xq)
  clear  hq0 hq1 hq2 hq3 hq4 hF2
  generalize F xq = x7 at hL0 ⊢
  clear hF1 xq iα F α
  have hN0 := cells_of _ 0 [] rfl (hL0.get _ _ (List.mem_cons_of_mem _ (List.mem_cons_of_mem _ (List.mem_cons_of_mem _ (List.mem_cons_of_mem _ List.mem_cons_self)))))
  simp only [cellsF, and_true, Nat.zero_add, Nat.reduceAdd] at hN0
  go_wp2_with fail
  clear hN0
  with_reducible refine Calls.mono (Bb.out _) ?_
  rintro e x8 ⟨rfl, hb⟩
  replace hL0 := hL0.call hb
  clear hb
  go_wp2_with fail
  with_reducible refine Calls.mono (Fb.out _) ?_
  rintro e x9 ⟨rfl, hb⟩
  replace hL0 := hL0.call hb
  clear hb
  replace hL0 := (hL0.new rfl [.int .u64 ((zl bi : Nat) : Int), .string (zh bi), .bool (zs bi)] 27)
  generalize hweq : (x9.alloc (.cells #[.int .u64 ((zl bi : Nat) : Int), .string (zh bi), .bool (zs bi)] 27)) = x10 at hL0
  have hN0 := cells_of _ 0 [] rfl (hL0.get _ _ (List.mem_cons_of_mem _ (List.mem_cons_of_mem _ (List.mem_cons_of_mem _ (List.mem_cons_of_mem _ (List.mem_cons_of_mem _ (List.mem_cons_of_mem _ List.mem_cons_self)))))))
  simp only [cellsF, and_true, Nat.zero_add, Nat.reduceAdd] at hN0
  have hN1 := cells_of _ 0 [] rfl (hL0.get _ _ (List.mem_cons_of_mem _ (List.mem_cons_of_mem _ (List.mem_cons_of_mem _ (List.mem_cons_of_mem _ (List.mem_cons_of_mem _ List.mem_cons_self))))))
  simp only [cellsF, and_true, Nat.zero_add, Nat.reduceAdd] at hN1
  go_wp2_with fail
  clear hN0 hN1
  with_reducible refine Calls.mono (D0.out _) ?_
  rintro e x11 ⟨rfl, hb⟩
  replace hL0 := hL0.call hb
  clear hb hweq
  replace hL0 := ((hL0.new rfl [.int .u64 ((zl q0 : Nat) : Int), .string (zh q0), .bool (zs q0)] 27).new (K := x11.heap.size + 1) (szA _ _) [.int .u64 ((zl r0 : Nat) : Int), .string (zh r0), .bool (zs r0)] 27)
  generalize hweq : ((x11.alloc (.cells #[.int .u64 ((zl q0 : Nat) : Int), .string (zh q0), .bool (zs q0)] 27)).alloc (.cells #[.int .u64 ((zl r0 : Nat) : Int), .string (zh r0), .bool (zs r0)] 27)) = x12 at hL0
  have hN0 := cells_of _ 0 [] rfl (hL0.get _ _ (List.mem_cons_of_mem _ (List.mem_cons_of_mem _ (List.mem_cons_of_mem _ (List.mem_cons_of_mem _ (List.mem_cons_of_mem _ (List.mem_cons_of_mem _ (List.mem_cons_of_mem _ List.mem_cons_self))))))))
  simp only [cellsF, and_true, Nat.zero_add, Nat.reduceAdd] at hN0
  go_wp2_with fail
  clear hN0
  with_reducible refine Calls.mono (I0.out _) ?_
  rintro e x13 ⟨rfl, hb⟩
  replace hL0 := hL0.call hb
  clear hb hweq
  have hN0 := cells_of _ 0 [] rfl (hL0.get _ _ (List.mem_cons_of_mem _ (List.mem_cons_of_mem _ (List.mem_cons_of_mem _ (List.mem_cons_of_mem _ (List.mem_cons_of_mem _ (List.mem_cons_of_mem _ List.mem_cons_self)))))))
  simp only [cellsF, and_true, Nat.zero_add, Nat.reduceAdd] at hN0
  have hN1 := cells_of _ 0 [] rfl (hL0.get _ _ (List.mem_cons_of_mem _ (List.mem_cons_of_mem _ (List.mem_cons_of_mem _ (List.mem_cons_of_mem _ (List.mem_cons_of_mem _ (List.mem_cons_of_mem _ (List.mem_cons_of_mem _ List.mem_cons_self))))))))
  simp only [cellsF, and_true, Nat.zero_add, Nat.reduceAdd] at hN1
  go_wp2_with fail
  clear hN0 hN1
  with_reducible refine Calls.mono (D1.out _) ?_
  rintro e x14 ⟨rfl, hb⟩
  replace hL0 := hL0.call hb
  clear hb
  replace hL0 := ((hL0.new rfl [.int .u64 ((zl q1 : Nat) : Int), .string (zh q1), .bool (zs q1)] 27).new (K := x14.heap.size + 1) (szA _ _) [.int .u64 ((zl rt : Nat) : Int), .string (zh rt), .bool (zs rt)] 27)
  generalize hweq : ((x14.alloc (.cells #[.int .u64 ((zl q1 : Nat) : Int), .string (zh q1), .bool (zs q1)] 27)).alloc (.cells #[.int .u64 ((zl rt : Nat) : Int), .string (zh rt), .bool (zs rt)] 27)) = x15 at hL0
  go_upto_region 12 with fail
  clear hweq
  refine region_gh (by kernel_rfl) (by kernel_rfl) ?_
  refine lex_seg (gl := []) 11 (by kernel_rfl) ?_
  intro α iα F hF1 hF2
  have hq := GL.seg hF1 hL0
  simp only [fcC, cellsC, and_true, Nat.zero_add, Nat.reduceAdd] at hq
  simp only [List.take_succ_cons, List.take_zero, List.drop_succ_cons, List.drop_zero, List.take_nil, List.drop_nil]
  repeat (go_big_quiet_step (first | fail | (go_at_call 18; with_reducible exact seg_call hF2 Mab.out _) | (go_at_call 17; with_reducible exact seg_call hF2 As.out _) | (go_at_call 23; with_reducible exact seg_call hF2 D2.out _)))
  refine wpQuiet_nil ?_
  clear hq hF1 hF2 iα F α
  refine lex_new [.int .u64 0, .string ⟨#[]⟩, .bool false] 20 27 27 rfl rfl (of_decide_eq_true (by kernel_rfl)) (by kernel_rfl) rfl new_int ?_
  simp only [Act.put, List.setIfInBounds_toArray, List.set_cons_succ, List.set_cons_zero]
  refine lex_new [.int .u64 0, .string ⟨#[]⟩, .bool false] 21 27 27 rfl rfl (of_decide_eq_true (by kernel_rfl)) (by kernel_rfl) rfl new_int ?_
  simp only [Act.put, List.setIfInBounds_toArray, List.set_cons_succ, List.set_cons_zero]
  refine lex_put [.int .u64 ((zl a : Nat) : Int), .string (zh a), .bool (zs a)] [.int .u64 0, .string ⟨#[]⟩, .bool false] 20 27 (.tmp 99) rfl (by kernel_rfl) (by simp [toG, upd]) rfl (fun w k h => put_int _ _ _ _ _ _ w k h) ?_
  simp only [Act.put]
  refine lex_put [.int .u64 ((zl rt : Nat) : Int), .string (zh rt), .bool (zs rt)] [.int .u64 0, .string ⟨#[]⟩, .bool false] 21 27 (.tmp 100) rfl (by kernel_rfl) (by simp [toG, upd]) rfl (fun w k h => put_int _ _ _ _ _ _ w k h) ?_
  simp only [Act.put]
  refine lex_seg (gl := [(21, [.int .u64 ((zl rt : Nat) : Int), .string (zh rt), .bool (zs rt)], true), (20, [.int .u64 ((zl a : Nat) : Int), .string (zh a), .bool (zs a)], true), (21, [.int .u64 0, .string ⟨#[]⟩, .bool false], false), (20, [.int .u64 0, .string ⟨#[]⟩, .bool false], false)]) 1 (by kernel_rfl) ?_
  intro α iα F hF1 hF2
  have hq := GL.seg hF1 hL0
  simp only [fcC, cellsC, and_true, Nat.zero_add, Nat.reduceAdd] at hq
  simp only [List.take_succ_cons, List.take_zero, List.drop_succ_cons, List.drop_zero, List.take_nil, List.drop_nil]
  repeat (go_big_quiet_step (first | fail | (go_at_call 18; with_reducible exact seg_call hF2 Mab.out _) | (go_at_call 17; with_reducible exact seg_call hF2 As.out _) | (go_at_call 23; with_reducible exact seg_call hF2 D2.out _)))
  refine wpQuiet_nil ?_
  clear hq hF1 hF2 iα F α
  refine lexG_nil ?_
  intro κ x16 hS
  replace hL0 := hL0.ghs hS [(21, [.int .u64 ((zl rt : Nat) : Int), .string (zh rt), .bool (zs rt)]), (20, [.int .u64 ((zl a : Nat) : Int), .string (zh a), .bool (zs a)])] (by simp) (by intro p hp; simp only [List.mem_cons, List.not_mem_nil, or_false] at hp; rcases hp with rfl | rfl <;> exact ⟨_, by simp only [toG, upd]; rfl⟩)
  simp only [List.map_cons, List.map_nil, List.cons_append, List.nil_append] at hL0
  simp only [over_toG, over_nil, Act.put, List.setIfInBounds_toArray, List.set_cons_succ, List.set_cons_zero]
  clear hS
  generalize κ 21 = k16_21 at *
  generalize κ 20 = k16_20 at *
  go_upto_region 13 with fail
  have ht := htab.below hL0.bl
  obtain ⟨α, iα, F, hF1, hF2⟩ := cls x16
  have hq0 := cls_box hF1 hL0 _ _ (List.mem_cons_of_mem _ (List.mem_cons_of_mem _ (List.mem_cons_of_mem _ (List.mem_cons_of_mem _ (List.mem_cons_of_mem _ (List.mem_cons_of_mem _ (List.mem_cons_of_mem _ (List.mem_cons_of_mem _ (List.mem_cons_of_mem _ (List.mem_cons_of_mem _ (List.mem_cons_of_mem _ (List.mem_cons_of_mem _ List.mem_cons_self))))))))))))
  simp only [cellsC, and_true, Nat.zero_add, Nat.reduceAdd] at hq0
  have hq1 := cls_box hF1 hL0 _ _ (List.mem_cons_of_mem _ (List.mem_cons_of_mem _ (List.mem_cons_of_mem _ (List.mem_cons_of_mem _ (List.mem_cons_of_mem _ (List.mem_cons_of_mem _ (List.mem_cons_of_mem _ (List.mem_cons_of_mem _ (List.mem_cons_of_mem _ (List.mem_cons_of_mem _ (List.mem_cons_of_mem _ List.mem_cons_self)))))))))))
  simp only [cellsC, and_true, Nat.zero_add, Nat.reduceAdd] at hq1
  have hq2 := cls_box hF1 hL0 _ _ (List.mem_cons_of_mem _ (List.mem_cons_of_mem _ (List.mem_cons_of_mem _ (List.mem_cons_of_mem _ (List.mem_cons_of_mem _ (List.mem_cons_of_mem _ List.mem_cons_self))))))
  simp only [cellsC, and_true, Nat.zero_add, Nat.reduceAdd] at hq2
  have hq3 := cls_box hF1 hL0 _ _ (List.mem_cons_of_mem _ (List.mem_cons_of_mem _ (List.mem_cons_of_mem _ (List.mem_cons_of_mem _ (List.mem_cons_of_mem _ List.mem_cons_self)))))
  simp only [cellsC, and_true, Nat.zero_add, Nat.reduceAdd] at hq3
  have hq4 := cls_box hF1 hL0 _ _ (List.mem_cons_of_mem _ (List.mem_cons_of_mem _ (List.mem_cons_of_mem _ (List.mem_cons_of_mem _ List.mem_cons_self))))
  simp only [cellsC, and_true, Nat.zero_add, Nat.reduceAdd] at hq4
  have hq5 := cls_box hF1 hL0 _ _ (List.mem_cons_of_mem _ (List.mem_cons_of_mem _ List.mem_cons_self))
  simp only [cellsC, and_true, Nat.zero_add, Nat.reduceAdd] at hq5
  have hq6 := cls_box hF1 hL0 _ _ (List.mem_cons_of_mem _ List.mem_cons_self)
  simp only [cellsC, and_true, Nat.zero_add, Nat.reduceAdd] at hq6
  have hq7 := cls_box hF1 hL0 _ _ List.mem_cons_self
  simp only [cellsC, and_true, Nat.zero_add, Nat.reduceAdd] at hq7
  refine region_qs 37 (C := fun w' => ∃ x, w' = F x) (by kernel_rfl) (by kernel_rfl) (cls_drew hF2) ?_
  simp only [List.take_succ_cons, List.take_zero, List.drop_succ_cons, List.drop_zero, List.take_nil, List.drop_nil]
  repeat (go_big_quiet_step (first | fail | (go_at_call 18; with_reducible exact cls_call hF1 hF2 Mqb.out _) | (go_at_call 17; with_reducible exact cls_call hF1 hF2 Aq.out _) | (go_at_call 19; with_reducible exact cls_call hF1 hF2 Sr.out _) | (go_at_call 24; with_reducible exact cls_call hF1 hF2 Cr.out _) | (go_at_call 8; with_reducible exact cls_callT hF1 hF2 ht HW.out _)))
  refine wpQuiet_nil ?_
  rintro wq ⟨xq, rfl⟩
  replace hL0 := hL0.call (hF1 xq)
  clear  hq0 hq1 hq2 hq3 hq4 hq5 hq6 hq7 hF2
  generalize F xq = x17 at hL0 ⊢
  clear hF1 xq iα F α
  go_wp2_with fail
  exact bodyPost_ret (v := .bool true) (by simp [results, Tryd.results4, go_sem]) rfl ⟨rfl, hL0.bl⟩

theorem idivides_small (sx sy sz : Bool) (ax ay az : Option Addr) (nx cx ny cy nz cz : Nat) (lx ly lz : List Nat) (kx : nx ≤ 16) (ky : ny ≤ 16) (kz : nz ≤ 16) (w : World) (htab : Tab w) (hwx : Ws w (.slice ax nx cx) lx) (hwy : Ws w (.slice ay ny cy) ly) (hwz : Ws w (.slice az nz cz) lz) :
    Calls Tryd.prog 4 #[.agg #[.bool sx, .slice ax nx cx], .agg #[.bool sy, .slice ay ny cy], .agg #[.bool sz, .slice az nz cz]] w fun e w' => e = .returned (.bool true) ∧ Below w.heap.size w w' := by
  by_cases h : zmade sy ly = 0
  · exact idivides_zero sx sy sz ax ay az nx cx ny cy nz cz lx ly lz kx ky kz h w htab hwx hwy hwz
  · exact idivides_pos sx sy sz ax ay az nx cx ny cy nz cz lx ly lz kx ky kz h w htab hwx hwy hwz

theorem idivides_any (sx sy sz : Bool) (ax ay az : Option Addr) (nx cx ny cy nz cz : Nat) (lx ly lz : List Nat)  (w : World) (htab : Tab w) (hwx : Ws w (.slice ax nx cx) lx) (hwy : Ws w (.slice ay ny cy) ly) (hwz : Ws w (.slice az nz cz) lz) :
    Calls Tryd.prog 4 #[.agg #[.bool sx, .slice ax nx cx], .agg #[.bool sy, .slice ay ny cy], .agg #[.bool sz, .slice az nz cz]] w fun e w' => e = .returned (.bool true) ∧ Below w.heap.size w w' := by
  by_cases h : nx ≤ 16 ∧ ny ≤ 16 ∧ nz ≤ 16
  · exact idivides_small sx sy sz ax ay az nx cx ny cy nz cz lx ly lz h.1 h.2.1 h.2.2 w htab hwx hwy hwz
  · exact idivides_big sx sy sz ax ay az nx cx ny cy nz cz lx ly lz h w htab hwx hwy hwz

end Go.Proofs.YthehcjfmokabfaaDoor
