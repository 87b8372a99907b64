/-
  The law answers true at every input, and leaves its arguments as they were: a part of the proof. CONDITIONS: the package-level tables start as the program's text lays them (the card ties them).
-/
import Derived.Test.YtkdbhacimoaohaaGreatDoorZae
set_option linter.unusedVariables false
set_option linter.unusedSimpArgs false
set_option maxHeartbeats 16000000
set_option maxRecDepth 100000
namespace Go.Proofs.YtkdbhacimoaohaaGreatDoor
open Go.RowKit
theorem pow_x : ∀ i, Eqv (powL [(1, 0, 1)] i) [(i, 0, 1)]
 | 0 => Eqv.refl _
 | i + 1 => fun F => by
  show pair (prodL (powL [(1, 0, 1)] i) [(1, 0, 1)]) F = _
  rw [prod_eqv (pow_x i) (Eqv.refl _) F, pair_prod]
  simp only [pair, Nat.add_zero]; grind
end Go.Proofs.YtkdbhacimoaohaaGreatDoor
namespace Go.Proofs.YtkdbhacimoaohaaGreatDoor
open Go.RowKit
theorem dyF_split (F : Nat → Nat → Rat) (i j k l : Nat) : dyF F (i + k) (j + l) = ((j : Nat) : Rat) * F (i + k) (j - 1 + l) + ((l : Nat) : Rat) * F (i + k) (j + (l - 1)) := by
 have h := dxF_split (fun a b => F b a) j i l k
 unfold dxF at h
 unfold dyF
 exact h
theorem dy_prod (p q : TL) : Eqv (dyL (prodL p q)) (prodL (dyL p) q ++ prodL p (dyL q)) := fun F => by
 rw [pair_dy, pair_prod, pair_append, pair_prod, pair_prod, pair_dy, ← pair_add]
 refine congrArg (pair p) (funext fun i => funext fun j => ?_)
 rw [pair_dy]
 show pair q (fun k l => dyF F (i + k) (j + l)) = ((j : Nat) : Rat) * pair q (fun k l => F (i + k) (j - 1 + l)) + pair q (dyF fun k l => F (i + k) (j + l))
 rw [← pair_mul, ← pair_add]
 exact congrArg (pair q) (funext fun k => funext fun l => dyF_split F i j k l)
theorem dyF_zero (F : Nat → Nat → Rat) : dyF F 0 0 = 0 := by unfold dyF; first | (simp; done) | (simp; grind)
theorem dy_lin (a b c : Rat) : Eqv (dyL (linL a b c)) [(0, 0, b)] := fun F => by
 rw [pair_dy]; unfold linL dyF; simp only [pair]; first | (simp; done) | (simp; grind)
theorem chain_y (p : TL) (a b c d f g : Rat) : Eqv (dyL (subL p (linL a b c) (linL d f g))) (scaleL b (subL (dxL p) (linL a b c) (linL d f g)) ++ scaleL f (subL (dyL p) (linL a b c) (linL d f g))) :=
 chain dyL dyF pair_dy dyF_zero dy_prod (dy_lin a b c) (dy_lin d f g) p
end Go.Proofs.YtkdbhacimoaohaaGreatDoor
namespace Go.Proofs.YtkdbhacimoaohaaGreatDoor
open Go.RowKit
attribute [local irreducible] lo hs sm s64 c64 d64 b64 mh ml pd pc qd qc val hiB str cmpI srD lz nb zl zh zs
end Go.Proofs.YtkdbhacimoaohaaGreatDoor
namespace Go.Proofs.YtkdbhacimoaohaaGreatDoor
open Go.RowKit
attribute [local irreducible] lo hs sm s64 c64 d64 b64 mh ml pd pc qd qc val hiB str cmpI srD lz nb zl zh zs dval
theorem dI_small {z : Int} (h : z.natAbs < Bs) : dI z ≤ 1 := digs_length_iff.2 (by rw [Nat.pow_one]; exact h)
end Go.Proofs.YtkdbhacimoaohaaGreatDoor
namespace Go.Proofs.YtkdbhacimoaohaaGreatDoor
open Go.RowKit
attribute [local irreducible] lo hs zl zh zs
end Go.Proofs.YtkdbhacimoaohaaGreatDoor
namespace Go.Proofs.YtkdbhacimoaohaaGreatDoor
open Go.RowKit
attribute [local irreducible] lo hs sm s64 c64 d64 b64 mh ml pd pc qd qc val hiB str cmpI srD lz nb zl zh zs fe klT ordZ
theorem ptrans_w (l : List TI) (P : TL) (R : List TI) (G : TI → TI) (f : FuncId) (ao : Option Addr) (n c : Nat) (hPl : P.length ≤ 10000) (K : World → Prop) (hK : Keeps K)
  (eg : ∀ args w, (callFunc f args).run Tryz.prog w = .ok (.enter f args) w)
  (HN : ∀ w : World, PT w (.slice ao n c) l → Calls Tryz.prog 43 #[.slice ao n c] w fun xe w' => ∃ v', xe = .returned v' ∧ PT w' v' (ofL P) ∧ Below w.heap.size w w')
  (HT : ∀ t ∈ ofL P, ∀ w : World, K w → Calls Tryz.prog f #[tmV t.1 t.2.1 t.2.2] w fun xe w' => xe = .returned (tmV (G t).1 (G t).2.1 (G t).2.2) ∧ Below w.heap.size w w')
  (HS : ∀ (v : Value) (w : World), PT w v ((ofL P).map G) → Calls Tryz.prog 41 #[v] w fun xe w' => ∃ v', xe = .returned v' ∧ PT w' v' R ∧ Below w.heap.size w w')
  (w : World) (hq : PT w (.slice ao n c) l) (kK : K w) :
  Calls Tryz.prog 44 #[.slice ao n c, .func (.func f) #[] #[]] w fun xe w' => ∃ v', xe = .returned v' ∧ PT w' v' R ∧ Below w.heap.size w w' := by
 replace HN := Lib.hid HN
 replace HT := Lib.hid HT
 replace hq := Lib.hid hq
 replace hPl := Lib.hid hPl
 replace kK := Lib.hid kK
 replace hK := Lib.hid hK
 obtain ⟨MG, hMG⟩ : ∃ MG, MG = (ofL P).map G := ⟨_, rfl⟩
 rw [← hMG] at HS
 replace hMG := Lib.hid hMG
 replace HS := Lib.hid HS
 go_enter Tryz.func44, Tryz.ntmps44
 go_wp2_with fail
 with_reducible refine Calls.mono (HN.out w hq.out) ?_
 rintro e y1 ⟨v, rfl, hpt, hb⟩
 have kK1 := Lib.hid (hK.out.at hb kK.out)
 obtain ⟨a2, n2, c2, rfl, hn2⟩ := pt_form hpt
 have hpp := Lib.hid (pt_parts hpt).2
 have hnl : n2 = (ofL P).length := hn2
 have hnb : n2 ≤ 10000 := by rw [hnl, ofL_length]; exact hPl.out
 replace hnl := Lib.hid hnl
 replace hb := Lib.hid hb
 clear hn2 hpt
 go_wp2_with fail
 go_loopg [5, 11] n2 (fun gk sv iv wr => ∃ (k : Nat) (zi : Int), k + gk = n2 ∧ iv = .int .i64 zi ∧ zi = (k : Int) ∧ OwnT wr y1.heap.size sv k (MG.take k) ∧ Below y1.heap.size y1 wr)
 case atStart => exact ⟨0, 0, Nat.zero_add n2, by first | rfl | go_num, rfl, World.ownsRow_nil _ _ _ _, Below.refl _ _⟩
 case round =>
  obtain ⟨k, zi, hik, rfl, hzi, hown, hB⟩ := hrel
  replace hown := Lib.hid hown
  rcases Nat.lt_or_ge k n2 with hin | hin
  ·subst hzi
   have hko : k < (ofL P).length := by rw [← hnl.out]; exact hin
   obtain ⟨g, rfl, hts⟩ := hpp.out (by omega)
   have hf := (hts.below hB).cell k hko
   have k1 : (k : Int) < (n2 : Int) := by omega
   have k0 : (0 : Int) ≤ (k : Int) := Int.natCast_nonneg _
   have HT1 := HT.out _ (List.getElem_mem hko)
   have htk : MG.take (k + 1) = MG.take k ++ [G (ofL P)[k]] := by rw [hMG.out, ← List.map_take, ← List.map_take, List.take_succ_eq_append_getElem hko, List.map_append]; rfl
   obtain ⟨a, b, q, hP⟩ : ∃ a b q, (ofL P)[k] = (a, b, q) := ⟨_, _, _, rfl⟩
   rw [hP] at HT1 htk hf
   obtain ⟨a3, b3, q3, hG⟩ : ∃ a3 b3 q3, G (a, b, q) = (a3, b3, q3) := ⟨_, _, _, rfl⟩
   rw [hG] at HT1 htk
   simp only at hf
   replace htk := Lib.hid htk
   replace HT1 := Lib.hid HT1
   replace hP := Lib.hid hP
   replace hG := Lib.hid hG
   clear hts
   obtain ⟨f0, f1, f2, f3, f4, f5, f6⟩ := hf
   have hL0 : GL wr wr [] := GL.start wr
   replace hL0 := hL0.new rfl [.int .i64 a, .int .i64 b, .int .u64 ((zl q.num : Nat) : Int), .string (zh q.num), .bool (zs q.num), .int .u64 ((lo (fe q) : Nat) : Int), .string (hs (fe q))] 80
   generalize hweq : wr.alloc (.cells #[.int .i64 a, .int .i64 b, .int .u64 ((zl q.num : Nat) : Int), .string (zh q.num), .bool (zs q.num), .int .u64 ((lo (fe q) : Nat) : Int), .string (hs (fe q))] 80) = y2 at hL0
   have hN0 := cells_of _ 0 [] rfl (hL0.get _ _ mZ)
   simp only [zF, Nat.reduceAdd] at hN0
   go_wp2_with fail
   have kK2 := hK.out.at (hB.trans (hL0.bl.mono hB.size)) kK1.out
   with_reducible refine Calls.mono (HT1.out _ kK2) ?_
   rintro e y3 ⟨rfl, hb3⟩
   replace hL0 := hL0.call hb3
   clear hb3 hN0 hweq kK2 f0 f1 f2 f3 f4 f5 f6
   have hown3 := Lib.hid (ownT_below hown.out hL0.bl)
   have hB3 := Lib.hid (hB.trans (hL0.bl.mono hB.size))
   have hL1 : GL y3 y3 [] := GL.start y3
   replace hL1 := hL1.new rfl [.int .i64 a3, .int .i64 b3, .int .u64 ((zl q3.num : Nat) : Int), .string (zh q3.num), .bool (zs q3.num), .int .u64 ((lo (fe q3) : Nat) : Int), .string (hs (fe q3))] 80
   generalize hweq : y3.alloc (.cells #[.int .i64 a3, .int .i64 b3, .int .u64 ((zl q3.num : Nat) : Int), .string (zh q3.num), .bool (zs q3.num), .int .u64 ((lo (fe q3) : Nat) : Int), .string (hs (fe q3))] 80) = y4 at hL1
   have hown4 := Lib.hid (ownT_below hown3.out hL1.bl)
   have hB4 := Lib.hid (hB3.out.trans (hL1.bl.mono hB3.out.size))
   have hH := Lib.hid (hL1.get _ _ mZ)
   go_wp2_with (at_builtin; refine wp_append1 rfl _ _ rfl _ _ _ _ rfl hown4.out _ (a3, b3, q3) rfl hH.out (by omega) hB4.out.size ?_)
   intro v' w5 hown5 hgrow _
   have hB5 := hB4.out.grown hgrow hB4.out.size (fun j hj => (hown4.out.lt j hj).1)
   rw [← htk.out] at hown5
   replace hown5 := Lib.hid hown5
   clear hgrow hown4 hB4 hown3 hB3 hH hweq
   go_wp2_with fail
   go_roundg (gk - 1)
   case measure => omega
   case rel => exact ⟨k + 1, _, by omega, by first | rfl | go_num, by omega, hown5.out, hB5⟩
  ·obtain rfl : k = n2 := by omega
   subst hzi
   have k1 : ¬ (k : Int) < (k : Int) := by omega
   have hml : MG.length = k := by rw [hMG.out, List.length_map, ← hnl.out]
   rw [List.take_of_length_le (Nat.le_of_eq hml)] at hown
   have hpt := ownT_pt hown.out hml.symm
   replace hpt := Lib.hid hpt
   go_wp2_with (go_at_call 41; with_reducible refine Calls.mono (HS.out _ _ hpt.out) ?_; rintro e y2 ⟨v2, rfl, hp2, hb2⟩; replace hp2 := Lib.hid hp2; replace hb2 := Lib.hid hb2)
   go_ret
   exact ⟨_, rfl, hp2.out, hb.out.trans ((hB.trans (hb2.out.mono hB.size)).mono hb.out.size)⟩
end Go.Proofs.YtkdbhacimoaohaaGreatDoor
namespace Go.Proofs.YtkdbhacimoaohaaGreatDoor
open Go.RowKit
attribute [local irreducible] lo hs sm s64 c64 d64 b64 mh ml pd pc qd qc val hiB str cmpI srD lz nb zl zh zs fe klT ordZ
theorem ptimes_w (n : Int) (p k r : Rat) (HI : ∀ w, Calls Tryz.prog 20 #[.int .i64 n] w fun xe w' => xe = .returned (fracV k) ∧ Below w.heap.size w w') (HM : ∀ w, Calls Tryz.prog 24 #[fracV k, fracV p] w fun xe w' => xe = .returned (fracV r) ∧ Below w.heap.size w w') (w : World) :
  Calls Tryz.prog 46 #[.int .i64 n, fracV p] w fun xe w' => xe = .returned (fracV r) ∧ Below w.heap.size w w' := by
 have hL0 : GL w w [] := GL.start w
 replace HI := Lib.hid HI
 replace HM := Lib.hid HM
 obtain ⟨x1, hweq, hL0⟩ := GL.named ((hL0.new rfl [.int .u64 ((zl p.num : Nat) : Int), .string (zh p.num), .bool (zs p.num), .int .u64 ((lo (fe p) : Nat) : Int), .string (hs (fe p))] 38).new (K := w.heap.size + 1) (szA _ _) [.int .u64 0, .string ⟨#[]⟩, .bool false, .int .u64 0, .string ⟨#[]⟩] 38)
 go_enter Tryz.func46, Tryz.ntmps46
 go_upto_region 1 with fail
 clear hweq
 obtain ⟨α, iα, F, hF1, hF2⟩ := cls x1
 have hq0 := cls_box hF1 hL0 _ _ (mK mZ)
 simp only [zC, Nat.reduceAdd] at hq0
 refine region_qs 4 (C := fun w' => ∃ x, w' = F x) (by kernel_rfl) (by kernel_rfl) (cls_drew hF2) ?_
 simp only [zT]
 repeat (go_big_quiet_step (first | fail | (go_at_call 20; with_reducible exact cls_call hF1 hF2 HI.out _) | (go_at_call 24; with_reducible exact cls_call hF1 hF2 HM.out _)))
 refine wpQuiet_nil ?_
 rintro wq ⟨xq, rfl⟩
 replace hL0 := hL0.call (hF1 xq)
 clear  hq0 hF2
 generalize F xq = x2 at hL0 ⊢
 clear hF1 xq iα F α
 have hA := hL0.fc
 simp only [zF, Nat.reduceAdd] at hA
 obtain ⟨x3, hput1, hP⟩ := GL.named (hL0.put 0 (w.heap.size + 1) _ rfl [.int .u64 ((zl r.num : Nat) : Int), .string (zh r.num), .bool (zs r.num), .int .u64 ((lo (fe r) : Nat) : Int), .string (hs (fe r))] rfl)
 simp only [setAll] at hput1
 simp only [List.set_cons_zero, List.set_cons_succ] at hP
 have hB1 := hP.fc
 simp only [zF, Nat.reduceAdd] at hB1
 replace hL0 := hP
 go_wp2_with fail
 exact bodyPost_ret (v := .agg #[.int .u64 ((zl r.num : Nat) : Int), .string (zh r.num), .bool (zs r.num), .int .u64 ((lo (fe r) : Nat) : Int), .string (hs (fe r))]) (by simp [results, Tryz.results46, go_sem, hB1]) rfl ⟨rfl, hL0.bl⟩
theorem pdx1_w (i j m mx : Int) (q r : Rat) (HT : ∀ w, Calls Tryz.prog 46 #[.int .i64 i, fracV q] w fun xe w' => xe = .returned (fracV r) ∧ Below w.heap.size w w') (e1 : IntKind.i64.wrap (i - 1) = m) (e2 : wrap64 (i - 1) = m) (e3 : max m 0 = mx) (w : World) :
  Calls Tryz.prog 45 #[.agg #[.int .i64 i, .int .i64 j, .int .u64 ((zl q.num : Nat) : Int), .string (zh q.num), .bool (zs q.num), .int .u64 ((lo (fe q) : Nat) : Int), .string (hs (fe q))]] w fun xe w' => xe = .returned (.agg #[.int .i64 mx, .int .i64 j, .int .u64 ((zl r.num : Nat) : Int), .string (zh r.num), .bool (zs r.num), .int .u64 ((lo (fe r) : Nat) : Int), .string (hs (fe r))]) ∧ Below w.heap.size w w' := by
 have hL0 : GL w w [] := GL.start w
 replace HT := Lib.hid HT
 obtain ⟨x1, hweq, hL0⟩ := GL.named ((hL0.new rfl [.int .i64 i, .int .i64 j, .int .u64 ((zl q.num : Nat) : Int), .string (zh q.num), .bool (zs q.num), .int .u64 ((lo (fe q) : Nat) : Int), .string (hs (fe q))] 80).new (K := w.heap.size + 1) (szA _ _) [.int .i64 0, .int .i64 0, .int .u64 0, .string ⟨#[]⟩, .bool false, .int .u64 0, .string ⟨#[]⟩] 80)
 go_enter Tryz.func45, Tryz.ntmps45
 go_upto_region 1 with fail
 clear hweq
 obtain ⟨α, iα, F, hF1, hF2⟩ := cls x1
 have hq0 := cls_box hF1 hL0 _ _ (mK mZ)
 simp only [zC, Nat.reduceAdd] at hq0
 refine region_qs 12 (C := fun w' => ∃ x, w' = F x) (by kernel_rfl) (by kernel_rfl) (cls_drew hF2) ?_
 simp only [zT]
 repeat (go_big_quiet_step (first | fail | (go_at_call 46; with_reducible exact cls_call hF1 hF2 HT.out _)))
 refine wpQuiet_nil ?_
 rintro wq ⟨xq, rfl⟩
 replace hL0 := hL0.call (hF1 xq)
 clear  hq0 hF2
 generalize F xq = x2 at hL0 ⊢
 clear hF1 xq iα F α
 have hA := hL0.fc
 simp only [zF, Nat.reduceAdd] at hA
 obtain ⟨x3, hput1, hP⟩ := GL.named (hL0.put 0 (w.heap.size + 1) _ rfl [.int .i64 mx, .int .i64 j, .int .u64 ((zl r.num : Nat) : Int), .string (zh r.num), .bool (zs r.num), .int .u64 ((lo (fe r) : Nat) : Int), .string (hs (fe r))] rfl)
 simp only [setAll] at hput1
 simp only [List.set_cons_zero, List.set_cons_succ] at hP
 have hB1 := hP.fc
 simp only [zF, Nat.reduceAdd] at hB1
 replace hL0 := hP
 go_wp2_with fail
 exact bodyPost_ret (v := .agg #[.int .i64 mx, .int .i64 j, .int .u64 ((zl r.num : Nat) : Int), .string (zh r.num), .bool (zs r.num), .int .u64 ((lo (fe r) : Nat) : Int), .string (hs (fe r))]) (by simp [results, Tryz.results45, go_sem, hB1]) rfl ⟨rfl, hL0.bl⟩
theorem pdy1_w (i j m mx : Int) (q r : Rat) (HT : ∀ w, Calls Tryz.prog 46 #[.int .i64 j, fracV q] w fun xe w' => xe = .returned (fracV r) ∧ Below w.heap.size w w') (e1 : IntKind.i64.wrap (j - 1) = m) (e2 : wrap64 (j - 1) = m) (e3 : max m 0 = mx) (w : World) :
  Calls Tryz.prog 47 #[.agg #[.int .i64 i, .int .i64 j, .int .u64 ((zl q.num : Nat) : Int), .string (zh q.num), .bool (zs q.num), .int .u64 ((lo (fe q) : Nat) : Int), .string (hs (fe q))]] w fun xe w' => xe = .returned (.agg #[.int .i64 i, .int .i64 mx, .int .u64 ((zl r.num : Nat) : Int), .string (zh r.num), .bool (zs r.num), .int .u64 ((lo (fe r) : Nat) : Int), .string (hs (fe r))]) ∧ Below w.heap.size w w' := by
 have hL0 : GL w w [] := GL.start w
 replace HT := Lib.hid HT
 obtain ⟨x1, hweq, hL0⟩ := GL.named ((hL0.new rfl [.int .i64 i, .int .i64 j, .int .u64 ((zl q.num : Nat) : Int), .string (zh q.num), .bool (zs q.num), .int .u64 ((lo (fe q) : Nat) : Int), .string (hs (fe q))] 80).new (K := w.heap.size + 1) (szA _ _) [.int .i64 0, .int .i64 0, .int .u64 0, .string ⟨#[]⟩, .bool false, .int .u64 0, .string ⟨#[]⟩] 80)
 go_enter Tryz.func47, Tryz.ntmps47
 go_upto_region 1 with fail
 clear hweq
 obtain ⟨α, iα, F, hF1, hF2⟩ := cls x1
 have hq0 := cls_box hF1 hL0 _ _ (mK mZ)
 simp only [zC, Nat.reduceAdd] at hq0
 refine region_qs 12 (C := fun w' => ∃ x, w' = F x) (by kernel_rfl) (by kernel_rfl) (cls_drew hF2) ?_
 simp only [zT]
 repeat (go_big_quiet_step (first | fail | (go_at_call 46; with_reducible exact cls_call hF1 hF2 HT.out _)))
 refine wpQuiet_nil ?_
 rintro wq ⟨xq, rfl⟩
 replace hL0 := hL0.call (hF1 xq)
 clear  hq0 hF2
 generalize F xq = x2 at hL0 ⊢
 clear hF1 xq iα F α
 have hA := hL0.fc
 simp only [zF, Nat.reduceAdd] at hA
 obtain ⟨x3, hput1, hP⟩ := GL.named (hL0.put 0 (w.heap.size + 1) _ rfl [.int .i64 i, .int .i64 mx, .int .u64 ((zl r.num : Nat) : Int), .string (zh r.num), .bool (zs r.num), .int .u64 ((lo (fe r) : Nat) : Int), .string (hs (fe r))] rfl)
 simp only [setAll] at hput1
 simp only [List.set_cons_zero, List.set_cons_succ] at hP
 have hB1 := hP.fc
 simp only [zF, Nat.reduceAdd] at hB1
 replace hL0 := hP
 go_wp2_with fail
 exact bodyPost_ret (v := .agg #[.int .i64 i, .int .i64 mx, .int .u64 ((zl r.num : Nat) : Int), .string (zh r.num), .bool (zs r.num), .int .u64 ((lo (fe r) : Nat) : Int), .string (hs (fe r))]) (by simp [results, Tryz.results47, go_sem, hB1]) rfl ⟨rfl, hL0.bl⟩
theorem pdx_w (l r : List TI) (HT : ∀ (p0 : Value) (w : World), PT w p0 l → Calls Tryz.prog 44 #[p0, .func (.func 45) #[] #[]] w fun e w' => ∃ pv, e = .returned pv ∧ PT w' pv r ∧ Below w.heap.size w w') (p0 : Value) (w : World) (r0 : PT w p0 l) :
  Calls Tryz.prog 12 #[p0] w fun e w' => ∃ pv, e = .returned pv ∧ PT w' pv r ∧ Below w.heap.size w w' := by
 obtain ⟨a0, n0, c0, rfl, -⟩ := pt_form r0
 have f0 := Lib.hid r0
 clear r0
 replace HT := Lib.hid HT
 have hL0 : GL w w [] := GL.start w
 have hT : PTs w [] := PTs.nil w
 go_enter Tryz.func12, Tryz.ntmps12
 go_wp2_with fail
 with_reducible refine Calls.mono (HT.out (.slice a0 n0 c0) _ (PT.below f0.out hL0.bl)) ?_
 rintro e x1 ⟨v0, rfl, q0, hb⟩
 replace hL0 := hL0.call hb
 replace hT := hT.call hb
 clear hb
 obtain ⟨g1, d1, g1c, rfl, -⟩ := pt_form q0
 replace hT := hT.cons q0
 clear q0
 go_wp2_with fail
 exact bodyPost_ret (v := .slice g1 d1 g1c) (by simp [results, Tryz.results12, go_sem]) rfl ⟨_, rfl, (hT.get mZ), hL0.bl⟩
theorem pdy_w (l r : List TI) (HT : ∀ (p0 : Value) (w : World), PT w p0 l → Calls Tryz.prog 44 #[p0, .func (.func 47) #[] #[]] w fun e w' => ∃ pv, e = .returned pv ∧ PT w' pv r ∧ Below w.heap.size w w') (p0 : Value) (w : World) (r0 : PT w p0 l) :
  Calls Tryz.prog 13 #[p0] w fun e w' => ∃ pv, e = .returned pv ∧ PT w' pv r ∧ Below w.heap.size w w' := by
 obtain ⟨a0, n0, c0, rfl, -⟩ := pt_form r0
 have f0 := Lib.hid r0
 clear r0
 replace HT := Lib.hid HT
 have hL0 : GL w w [] := GL.start w
 have hT : PTs w [] := PTs.nil w
 go_enter Tryz.func13, Tryz.ntmps13
 go_wp2_with fail
 with_reducible refine Calls.mono (HT.out (.slice a0 n0 c0) _ (PT.below f0.out hL0.bl)) ?_
 rintro e x1 ⟨v0, rfl, q0, hb⟩
 replace hL0 := hL0.call hb
 replace hT := hT.call hb
 clear hb
 obtain ⟨g1, d1, g1c, rfl, -⟩ := pt_form q0
 replace hT := hT.cons q0
 clear q0
 go_wp2_with fail
 exact bodyPost_ret (v := .slice g1 d1 g1c) (by simp [results, Tryz.results13, go_sem]) rfl ⟨_, rfl, (hT.get mZ), hL0.bl⟩
end Go.Proofs.YtkdbhacimoaohaaGreatDoor
namespace Go.Proofs.YtkdbhacimoaohaaGreatDoor
open Go.RowKit
attribute [local irreducible] lo hs sm s64 c64 d64 b64 mh ml pd pc qd qc val hiB str cmpI srD lz nb zl zh zs fe klT ordZ
theorem SzL.dx {p : TL} {d K : Nat} (h : SzL p K) (hb : TB p d) (hd : d ≤ 12) : SzL (dxL p) (K + 1) := by
 unfold dxL
 refine SzL.map 12 (by unfold Bs; omega) (fun t ht => ⟨t.1, ?_, rfl⟩) h
 have := hb t ht; omega
theorem SzL.dy {p : TL} {d K : Nat} (h : SzL p K) (hb : TB p d) (hd : d ≤ 12) : SzL (dyL p) (K + 1) := by
 unfold dyL
 refine SzL.map 12 (by unfold Bs; omega) (fun t ht => ⟨t.2.1, ?_, rfl⟩) h
 have := hb t ht; omega
theorem tb_dx {p : TL} {d : Nat} (h : TB p d) : TB (dxL p) d := fun t ht => by
 obtain ⟨u, hu, rfl⟩ := List.mem_map.1 ht
 have := h u hu
 show u.1 - 1 + u.2.1 ≤ d
 omega
theorem tb_dy {p : TL} {d : Nat} (h : TB p d) : TB (dyL p) d := fun t ht => by
 obtain ⟨u, hu, rfl⟩ := List.mem_map.1 ht
 have := h u hu
 show u.1 + (u.2.1 - 1) ≤ d
 omega
theorem GP.dx {p : TL} {d K : Nat} (h : GP p d K) (hd : d ≤ 12) : GP (dxN p) d (K + 1) := ⟨nfL_nf _, tb_nfL (tb_dx h.tb), (h.sz.dx h.tb hd).nf⟩
theorem GP.dy {p : TL} {d K : Nat} (h : GP p d K) (hd : d ≤ 12) : GP (dyN p) d (K + 1) := ⟨nfL_nf _, tb_nfL (tb_dy h.tb), (h.sz.dy h.tb hd).nf⟩
section
variable {p q : TL} {d K e M : Nat} {w : World} {v u : Value}
theorem map_dx (hb : TB p 12) : (ofL p).map (fun t : TI => (max (t.1 - 1) 0, t.2.1, (t.1 : Rat) * t.2.2)) = ofL (dxL p) := by
 unfold ofL dxL
 rw [List.map_map, List.map_map]
 refine List.map_congr_left fun t ht => ?_
 simp only [Function.comp_apply, ofT]
 refine Prod.ext ?_ (Prod.ext rfl ?_)
 ·simp only; omega
 ·simp only; rfl
theorem map_dy (hb : TB p 12) : (ofL p).map (fun t : TI => (t.1, max (t.2.1 - 1) 0, (t.2.1 : Rat) * t.2.2)) = ofL (dyL p) := by
 unfold ofL dyL
 rw [List.map_map, List.map_map]
 refine List.map_congr_left fun t ht => ?_
 simp only [Function.comp_apply, ofT]
 refine Prod.ext rfl (Prod.ext ?_ ?_)
 ·simp only; omega
 ·simp only; rfl
theorem szI {i : Int} (h0 : 0 ≤ i) (h1 : i ≤ 12) : Sz (i : Rat) 1 := Sz.int (dI_small (by unfold Bs; omega)) (by omega)
theorem timesG {i : Int} {c : Rat} {k : Nat} (h0 : 0 ≤ i) (h1 : i ≤ 12) (hc : Sz c k) (hk : k ≤ 1000000) (w : World) : Calls Tryz.prog 46 #[.int .i64 i, fracV c] w fun xe w' => xe = .returned (fracV ((i : Rat) * c)) ∧ Below w.heap.size w w' :=
 ptimes_w i c (i : Rat) _ (fun w => intF i (by omega) (by omega) w) (fun w => mulF _ _ (k + 1) ((szI h0 h1).mono (by omega)) (hc.mono (by omega)) (by omega) w) w
theorem memo {t : TI} (ht : t ∈ ofL p) : ∃ s ∈ p, t = ofT s := by
 obtain ⟨s, hs, rfl⟩ := List.mem_map.1 ht
 exact ⟨s, hs, rfl⟩
theorem dxG (h : GP p d K) (hd : d ≤ 12) (hK : K ≤ 100000) (w : World) (v : Value) (hv : PT w v (ofL p)) : Calls Tryz.prog 12 #[v] w fun xe w' => ∃ v', xe = .returned v' ∧ PT w' v' (ofL (dxN p)) ∧ Below w.heap.size w w' := by
 have hl := h.len hd
 refine pdx_w (ofL p) (ofL (dxN p)) (fun a w ha => ?_) v w hv
 obtain ⟨ao, n, c, rfl, hn⟩ := pt_form ha
 refine ptrans_w (ofL p) p (ofL (dxN p)) (fun t : TI => (max (t.1 - 1) 0, t.2.1, (t.1 : Rat) * t.2.2)) 45 ao n c (by omega) (fun _ => True) (fun _ _ _ _ => trivial) (enters_of Tryz.func45 (by kernel_rfl) rfl) (fun w hq => normG h hd (by omega) w _ hq) (fun t ht w _ => ?_) (fun v w hv => ?_) w ha trivial
 ·obtain ⟨s, hs, rfl⟩ := memo ht
  have hb := h.tb s hs
  exact pdx1_w _ _ ((s.1 : Int) - 1) _ _ _ (fun w => timesG (by simp only [ofT]; omega) (by simp only [ofT]; omega) (h.sz.mem hs) (by omega) w) (by simp [IntKind.wrap, IntKind.bits, IntKind.signed, ofT]; omega) (by simp [wrap64, ofT]; omega) rfl w
 ·rw [map_dx (h.tb.mono hd)] at hv
  have := sumP (ofL (dxL p)) (K + 1) (vd_ofL.2 (tb_dx (h.tb.mono hd))) (by rw [toL_ofL]; exact h.sz.dx h.tb hd) (by omega) (by rw [ofL_length]; unfold dxL; rw [List.length_map]; omega) w v hv
  rwa [toL_ofL] at this
theorem dyG (h : GP p d K) (hd : d ≤ 12) (hK : K ≤ 100000) (w : World) (v : Value) (hv : PT w v (ofL p)) : Calls Tryz.prog 13 #[v] w fun xe w' => ∃ v', xe = .returned v' ∧ PT w' v' (ofL (dyN p)) ∧ Below w.heap.size w w' := by
 have hl := h.len hd
 refine pdy_w (ofL p) (ofL (dyN p)) (fun a w ha => ?_) v w hv
 obtain ⟨ao, n, c, rfl, hn⟩ := pt_form ha
 refine ptrans_w (ofL p) p (ofL (dyN p)) (fun t : TI => (t.1, max (t.2.1 - 1) 0, (t.2.1 : Rat) * t.2.2)) 47 ao n c (by omega) (fun _ => True) (fun _ _ _ _ => trivial) (enters_of Tryz.func47 (by kernel_rfl) rfl) (fun w hq => normG h hd (by omega) w _ hq) (fun t ht w _ => ?_) (fun v w hv => ?_) w ha trivial
 ·obtain ⟨s, hs, rfl⟩ := memo ht
  have hb := h.tb s hs
  exact pdy1_w _ _ ((s.2.1 : Int) - 1) _ _ _ (fun w => timesG (by simp only [ofT]; omega) (by simp only [ofT]; omega) (h.sz.mem hs) (by omega) w) (by simp [IntKind.wrap, IntKind.bits, IntKind.signed, ofT]; omega) (by simp [wrap64, ofT]; omega) rfl w
 ·rw [map_dy (h.tb.mono hd)] at hv
  have := sumP (ofL (dyL p)) (K + 1) (vd_ofL.2 (tb_dy (h.tb.mono hd))) (by rw [toL_ofL]; exact h.sz.dy h.tb hd) (by omega) (by rw [ofL_length]; unfold dyL; rw [List.length_map]; omega) w v hv
  rwa [toL_ofL] at this
end
end Go.Proofs.YtkdbhacimoaohaaGreatDoor
namespace Go.Proofs.YtkdbhacimoaohaaGreatDoor
def sideF (i j : Nat) : Rat := ((fact i : Nat) : Rat) * ((fact j : Nat) : Rat) / ((fact (i + j + 1) : Nat) : Rat)
theorem div_of {a b c : Rat} (hb : b ≠ 0) (h : a = c * b) : a / b = c := by
 rw [h, Rat.div_def, Rat.mul_assoc, Rat.mul_inv_cancel _ hb, Rat.mul_one]
theorem dx_momF (i j : Nat) : dxF momF i j = 2 * (sideF i j - if i = 0 then 1 / (((j + 1 : Nat)) : Rat) else 0) := by
 unfold dxF momF sideF
 cases i with
 | zero =>
  rw [if_pos rfl]
  have e : ((fact 0 : Nat) : Rat) * ((fact j : Nat) : Rat) / ((fact (0 + j + 1) : Nat) : Rat) = 1 / (((j + 1 : Nat)) : Rat) := by
   refine div_of (fact_ne _) ?_
   rw [show 0 + j + 1 = j + 1 by omega, fact_succ, show ((fact 0 : Nat) : Rat) = 1 from rfl, Rat.mul_comm ((fact j : Nat) : Rat) (((j + 1 : Nat)) : Rat), ← Rat.mul_assoc, Rat.div_mul_cancel (natR_ne j)]
  rw [e]; simp; grind
 | succ n =>
  rw [if_neg (by omega)]
  show (((n + 1 : Nat)) : Rat) * (2 * ((fact n : Nat) : Rat) * ((fact j : Nat) : Rat) / ((fact (n + j + 2) : Nat) : Rat)) = 2 * (((fact (n + 1) : Nat) : Rat) * ((fact j : Nat) : Rat) / ((fact (n + 1 + j + 1) : Nat) : Rat) - 0)
  rw [show n + 1 + j + 1 = n + j + 2 by omega, Rat.div_def, Rat.div_def]
  generalize (((fact (n + j + 2) : Nat) : Rat))⁻¹ = v
  rw [fact_succ n]
  generalize (((n + 1 : Nat)) : Rat) = u
  generalize ((fact n : Nat) : Rat) = f
  generalize ((fact j : Nat) : Rat) = g
  grind
theorem mom_swap (i j : Nat) : momF i j = momF j i := by unfold momF; rw [show j + i + 2 = i + j + 2 by omega]; grind
theorem side_swap (i j : Nat) : sideF i j = sideF j i := by unfold sideF; rw [show j + i + 1 = i + j + 1 by omega]; grind
theorem dy_momF (i j : Nat) : dyF momF i j = 2 * (sideF i j - if j = 0 then 1 / (((i + 1 : Nat)) : Rat) else 0) := by
 rw [side_swap, ← dx_momF]
 unfold dyF dxF
 rw [mom_swap]
/-- The integral of (1 - t)^i t^j. -/
theorem beta_step (i j : Nat) : (((j + 1 : Nat)) : Rat) * pair (mono (linL (-1) 0 1) (linL 1 0 0) i j) segF = (if i = 0 then 1 else 0) + ((i : Nat) : Rat) * pair (mono (linL (-1) 0 1) (linL 1 0 0) (i - 1) (j + 1)) segF := by
 have h := seg_ftc (mono (linL (-1) 0 1) (linL 1 0 0) i (j + 1))
 have e1 := dy_pow_of dxL dxF pair_dx dxF_zero dx_prod (dx_lin (-1) 0 1) i
 have e2 := dy_pow_of dxL dxF pair_dx dxF_zero dx_prod (dx_lin 1 0 0) (j + 1)
 unfold mono at h ⊢
 rw [dx_prod _ _ segF, pair_append, prod_eqv e1 (Eqv.refl _) segF, prod_eqv (Eqv.refl _) e2 segF, at_prod, at_prod, at_pow, at_pow, at_pow, at_pow, at_lin, at_lin, at_lin, at_lin] at h
 have s1 : pair (prodL (scaleL (((i : Nat) : Rat) * -1) (powL (linL (-1) 0 1) (i - 1))) (powL (linL 1 0 0) (j + 1))) segF = ((i : Nat) : Rat) * -1 * pair (prodL (powL (linL (-1) 0 1) (i - 1)) (powL (linL 1 0 0) (j + 1))) segF := by
  rw [pair_prod, pair_scale, pair_prod]
 have s2 : pair (prodL (powL (linL (-1) 0 1) i) (scaleL ((((j + 1 : Nat)) : Rat) * 1) (powL (linL 1 0 0) (j + 1 - 1)))) segF = (((j + 1 : Nat)) : Rat) * pair (prodL (powL (linL (-1) 0 1) i) (powL (linL 1 0 0) j)) segF := by
  rw [prod_comm _ _ segF, pair_prod, pair_scale, Nat.add_sub_cancel, prod_comm (powL (linL (-1) 0 1) i) _ segF, pair_prod, Rat.mul_one]
 rw [s1, s2] at h
 rw [show (-1 : Rat) * 1 + 0 * 1 + 1 = 0 by grind, show (1 : Rat) * 1 + 0 * 1 + 0 = 1 by grind, show (-1 : Rat) * 0 + 0 * 1 + 1 = 1 by grind, show (1 : Rat) * 0 + 0 * 1 + 0 = 0 by grind, one_powQ, zero_powQ (Nat.succ_ne_zero j)] at h
 by_cases h0 : i = 0
 ·rw [if_pos h0]
  rw [h0, Rat.pow_zero] at h
  rw [h0]
  grind
 ·rw [if_neg h0]
  rw [zero_powQ h0] at h
  grind
theorem beta_eq : ∀ i j : Nat, pair (mono (linL (-1) 0 1) (linL 1 0 0) i j) segF = sideF i j
 | 0, j => by
  have h := beta_step 0 j
  rw [if_pos rfl] at h
  have e : sideF 0 j = 1 / (((j + 1 : Nat)) : Rat) := by
   refine div_of (fact_ne _) ?_
   rw [show 0 + j + 1 = j + 1 by omega, fact_succ, show ((fact 0 : Nat) : Rat) = 1 from rfl, Rat.mul_comm ((fact j : Nat) : Rat) (((j + 1 : Nat)) : Rat), ← Rat.mul_assoc, Rat.div_mul_cancel (natR_ne j)]
  rw [e]
  refine (div_of (natR_ne j) ?_).symm
  rw [Rat.mul_comm, h, show (((0 : Nat)) : Rat) = 0 from rfl]; grind
 | i + 1, j => by
  have h := beta_step (i + 1) j
  rw [if_neg (by omega), show i + 1 - 1 = i by omega, beta_eq i (j + 1)] at h
  have e : sideF (i + 1) j = (((i + 1 : Nat)) : Rat) * sideF i (j + 1) / (((j + 1 : Nat)) : Rat) := by
   refine (div_of (natR_ne j) ?_).symm
   unfold sideF
   rw [show i + 1 + j + 1 = i + (j + 1) + 1 by omega, fact_succ i, fact_succ j, Rat.div_def, Rat.div_def]
   generalize (((fact (i + (j + 1) + 1) : Nat) : Rat))⁻¹ = v
   generalize (((i + 1 : Nat)) : Rat) = u
   generalize (((j + 1 : Nat)) : Rat) = u2
   grind
  rw [e]
  refine (div_of (natR_ne j) ?_).symm
  rw [Rat.mul_comm _ (((j + 1 : Nat)) : Rat), h]; grind
/-- Along the side from (1, 0) to (0, 1). -/
theorem beta_pair (q : TL) : pair (subL q (linL (-1) 0 1) (linL 1 0 0)) segF = pair q sideF := by
 rw [pair_sub]
 exact congrArg (pair q) (funext fun i => funext fun j => beta_eq i j)
/-- Along the side x = 0. -/
theorem left_pair (q : TL) : pair (subL q (linL 0 0 0) (linL 1 0 0)) segF = pair q (fun i j => if i = 0 then 1 / (((j + 1 : Nat)) : Rat) else 0) := by
 rw [sub_eqv2 q (u' := [(0, 0, 0)]) (v' := [(1, 0, 1)]) (fun F => by simp only [linL, pair]; grind) (fun F => by simp only [linL, pair]; grind) segF, pair_sub]
 refine congrArg (pair q) (funext fun i => funext fun j => ?_)
 unfold mono
 rw [prod_eqv (powL_con 0 i) (pow_x j) segF]
 simp only [prodL, timesL, List.map_cons, List.map_nil, List.append_nil, pair, Nat.zero_add]
 by_cases h : i = 0
 ·rw [if_pos h, h, Rat.pow_zero]; unfold segF; grind
 ·rw [if_neg h, zero_powQ h]; grind
/-- Along the side y = 0. -/
theorem low_pair (q : TL) : pair (subL q (linL 1 0 0) (linL 0 0 0)) segF = pair q (fun i j => if j = 0 then 1 / (((i + 1 : Nat)) : Rat) else 0) := by
 rw [sub_eqv2 q (u' := [(1, 0, 1)]) (v' := [(0, 0, 0)]) (fun F => by simp only [linL, pair]; grind) (fun F => by simp only [linL, pair]; grind) segF, pair_sub]
 refine congrArg (pair q) (funext fun i => funext fun j => ?_)
 unfold mono
 rw [prod_eqv (pow_x i) (powL_con 0 j) segF]
 simp only [prodL, timesL, List.map_cons, List.map_nil, List.append_nil, pair, Nat.add_zero]
 by_cases h : j = 0
 ·rw [if_pos h, h, Rat.pow_zero]; unfold segF; grind
 ·rw [if_neg h, zero_powQ h]; grind
theorem pair_fun (p : TL) {F G : Nat → Nat → Rat} (h : ∀ i j, F i j = G i j) : pair p F = pair p G := congrArg (pair p) (funext fun i => funext fun j => h i j)
theorem mom_dx (q : TL) : pair (dxL q) momF = 2 * (pair (subL q (linL (-1) 0 1) (linL 1 0 0)) segF - pair (subL q (linL 0 0 0) (linL 1 0 0)) segF) := by
 rw [pair_dx, pair_fun q dx_momF, pair_mul, beta_pair, left_pair]
 congr 1
 rw [pair_fun q (G := fun i j => sideF i j + -1 * (if i = 0 then 1 / (((j + 1 : Nat)) : Rat) else 0)) (fun i j => by grind), pair_add, pair_mul]
 grind
theorem mom_dy (q : TL) : pair (dyL q) momF = 2 * (pair (subL q (linL (-1) 0 1) (linL 1 0 0)) segF - pair (subL q (linL 1 0 0) (linL 0 0 0)) segF) := by
 rw [pair_dy, pair_fun q dy_momF, pair_mul, beta_pair, low_pair]
 congr 1
 rw [pair_fun q (G := fun i j => sideF i j + -1 * (if j = 0 then 1 / (((i + 1 : Nat)) : Rat) else 0)) (fun i j => by grind), pair_add, pair_mul]
 grind
theorem tri_bc (p : TL) (a b c : Pt) : pair (subL (triL p a b c) (linL (-1) 0 1) (linL 1 0 0)) segF = segV p b c := by
 unfold triL segV segL'
 rw [sub_lin p _ _ _ _ _ _ _ _ _ _ _ _ segF]
 refine sub_same p ?_ ?_ ?_ ?_ ?_ ?_ segF <;> grind
theorem tri_ac (p : TL) (a b c : Pt) : pair (subL (triL p a b c) (linL 0 0 0) (linL 1 0 0)) segF = segV p a c := by
 unfold triL segV segL'
 rw [sub_lin p _ _ _ _ _ _ _ _ _ _ _ _ segF]
 refine sub_same p ?_ ?_ ?_ ?_ ?_ ?_ segF <;> grind
theorem tri_ab (p : TL) (a b c : Pt) : pair (subL (triL p a b c) (linL 1 0 0) (linL 0 0 0)) segF = segV p a b := by
 unfold triL segV segL'
 rw [sub_lin p _ _ _ _ _ _ _ _ _ _ _ _ segF]
 refine sub_same p ?_ ?_ ?_ ?_ ?_ ?_ segF <;> grind
theorem gauss_alg (u0 u1 v0 v1 P1 P2 Q1 Q2 A1 A2 A3 B1 B2 B3 v : Rat) (hv : 2 * v = 1) (h1 : u0 * P1 + u1 * P2 = 2 * (A2 - A3)) (h2 : v0 * P1 + v1 * P2 = 2 * (A2 - A1)) (h3 : u0 * Q1 + u1 * Q2 = 2 * (B2 - B3)) (h4 : v0 * Q1 + v1 * Q2 = 2 * (B2 - B1)) :
  (u0 * v1 - v0 * u1) * v * (P1 + Q2) = (u1 * A1 - u0 * B1) + ((v1 - u1) * A2 - (v0 - u0) * B2) + (v0 * B3 - v1 * A3) := by
 have k1 : (u0 * v1 - v0 * u1) * P1 = 2 * (v1 * (A2 - A3) - u1 * (A2 - A1)) := by grind
 have k2 : (u0 * v1 - v0 * u1) * Q2 = 2 * (u0 * (B2 - B1) - v0 * (B2 - B3)) := by grind
 have k3 : (u0 * v1 - v0 * u1) * v * (P1 + Q2) = v * ((u0 * v1 - v0 * u1) * P1 + (u0 * v1 - v0 * u1) * Q2) := by grind
 rw [k3, k1, k2]
 have k4 : v * (2 * (v1 * (A2 - A3) - u1 * (A2 - A1)) + 2 * (u0 * (B2 - B1) - v0 * (B2 - B3))) = 2 * v * (v1 * (A2 - A3) - u1 * (A2 - A1) + (u0 * (B2 - B1) - v0 * (B2 - B3))) := by grind
 rw [k4, hv]
 grind
/-- THE DIVERGENCE THEOREM on a triangle. -/
theorem gauss (p q : TL) (a b c : Pt) : triV (dxL p ++ dyL q) a b c = flowV p q a b + flowV p q b c + flowV p q c a := by
 have h1 := mom_dx (triL p a b c)
 have h2 := mom_dy (triL p a b c)
 have h3 := mom_dx (triL q a b c)
 have h4 := mom_dy (triL q a b c)
 rw [tri_bc, tri_ac] at h1 h3
 rw [tri_bc, tri_ab] at h2 h4
 unfold triL at h1 h2 h3 h4
 rw [chain_x _ _ _ _ _ _ _ momF, pair_append, pair_scale, pair_scale] at h1 h3
 rw [chain_y _ _ _ _ _ _ _ momF, pair_append, pair_scale, pair_scale] at h2 h4
 have e : pair (triL (dxL p ++ dyL q) a b c) momF = pair (subL (dxL p) (linL (b.x - a.x) (c.x - a.x) a.x) (linL (b.y - a.y) (c.y - a.y) a.y)) momF + pair (subL (dyL q) (linL (b.x - a.x) (c.x - a.x) a.x) (linL (b.y - a.y) (c.y - a.y) a.y)) momF := by
  unfold triL; rw [pair_sub, pair_append, pair_sub, pair_sub]
 unfold triV areaV flowV
 rw [e, segV_back p a c, segV_back q a c]
 generalize pair (subL (dxL p) _ _) momF = P1 at *
 generalize pair (subL (dyL p) _ _) momF = P2 at *
 generalize pair (subL (dxL q) _ _) momF = Q1 at *
 generalize pair (subL (dyL q) _ _) momF = Q2 at *
 generalize segV p a b = A1 at *
 generalize segV p b c = A2 at *
 generalize segV p a c = A3 at *
 generalize segV q a b = B1 at *
 generalize segV q b c = B2 at *
 generalize segV q a c = B3 at *
 have k := gauss_alg _ _ _ _ P1 P2 Q1 Q2 A1 A2 A3 B1 B2 B3 (2 : Rat)⁻¹ (Rat.mul_inv_cancel _ (by decide)) h1 h2 h3 h4
 rw [Rat.div_def, k]
 clear k h1 h2 h3 h4 e
 grind
theorem triV_eqv {p q : TL} (h : Eqv p q) (a b c : Pt) : triV p a b c = triV q a b c := by
 unfold triV triL; rw [sub_eqv h _ _ momF]
end Go.Proofs.YtkdbhacimoaohaaGreatDoor
namespace Go.Proofs.YtkdbhacimoaohaaGreatDoor
open Go.RowKit
attribute [local irreducible] lo hs sm s64 c64 d64 b64 mh ml pd pc qd qc val hiB str cmpI srD lz nb zl zh zs fe klT ordZ Bs
section
variable {p q : TL} {d K e : Nat}
theorem flow_sz {k M D : Nat} (f : Fit D (2 * k + 1) K d M) (g : Fit D (2 * k + 1) e d M) (h : GP p d K) (h2 : GP q d e) {a b : Pt} (ha : PS a k) (hb : PS b k) : Sz (flowV p q a b) (339 * (M + 62)) := by
 have u := ha.way hb
 have hk := f.u20
 exact ((u.y.mul (seg_sz f h ha hb)).sub (u.x.mul (seg_sz g h2 ha hb))).mono (by omega)
end
end Go.Proofs.YtkdbhacimoaohaaGreatDoor
namespace Go.Proofs.YtkdbhacimoaohaaGreatDoor
open Go.RowKit
attribute [local irreducible] lo hs sm s64 c64 d64 b64 mh ml pd pc qd qc val hiB str cmpI srD lz nb zl zh zs fe klT ordZ
theorem slq_of3 {w : World} {g c : Nat} {p q r : Rat} (h : Hd w g [.int .u64 ((zl p.num : Nat) : Int), .string (zh p.num), .bool (zs p.num), .int .u64 ((lo (fe p) : Nat) : Int), .string (hs (fe p)), .int .u64 ((zl q.num : Nat) : Int), .string (zh q.num), .bool (zs q.num), .int .u64 ((lo (fe q) : Nat) : Int), .string (hs (fe q)), .int .u64 ((zl r.num : Nat) : Int), .string (zh r.num), .bool (zs r.num), .int .u64 ((lo (fe r) : Nat) : Int), .string (hs (fe r))]) : SlQ w (.slice (some ⟨g, 0, none⟩) 3 c) [p, q, r] :=
 .inr ⟨g, c, rfl, ⟨fun i hi => by
  rcases (show i = 0 ∨ i = 1 ∨ i = 2 by simp at hi; omega) with rfl | rfl | rfl
  ·exact ⟨h.cell 0 (by simp), h.cell 1 (by simp), h.cell 2 (by simp), h.cell 3 (by simp), h.cell 4 (by simp)⟩
  ·exact ⟨h.cell 5 (by simp), h.cell 6 (by simp), h.cell 7 (by simp), h.cell 8 (by simp), h.cell 9 (by simp)⟩
  ·exact ⟨h.cell 10 (by simp), h.cell 11 (by simp), h.cell 12 (by simp), h.cell 13 (by simp), h.cell 14 (by simp)⟩, h.lt⟩⟩
theorem igauss_l1 (al am : Option Addr) (nl cl nm cm : Nat) (iun iud ium iue ivn ivd ivm ive iwn iwd iwm iwe : Int) (KT : World → Prop) (hKT : Keeps KT) (HW : ∀ w, KT w → Calls Tryz.prog 7 #[] w fun xe w' => xe = .returned (.bool true) ∧ Below w.heap.size w w') (l_nl : decide ((8 : Int) < ((nl : Nat) : Int)) = true) (k_nl : decide (8 < nl) = true) (w : World) (kKT : KT w) :
  Calls Tryz.prog 3 #[.slice al nl cl, .slice am nm cm, .agg #[.int .i64 iun, .int .u32 iud, .int .i64 ium, .int .u32 iue], .agg #[.int .i64 ivn, .int .u32 ivd, .int .i64 ivm, .int .u32 ive], .agg #[.int .i64 iwn, .int .u32 iwd, .int .i64 iwm, .int .u32 iwe]] w fun e w' => e = .returned (.bool true) ∧ Below w.heap.size w w' := by
 replace hKT := Lib.hid hKT
 replace HW := Lib.hid HW
 have hL0 : GL w w [] := GL.start w
 have hT : PTs w [] := PTs.nil w
 replace hT := (((hT.new (.cells #[.int .i64 iun, .int .u32 iud, .int .i64 ium, .int .u32 iue] 27)).new (.cells #[.int .i64 ivn, .int .u32 ivd, .int .i64 ivm, .int .u32 ive] 27)).new (.cells #[.int .i64 iwn, .int .u32 iwd, .int .i64 iwm, .int .u32 iwe] 27))
 replace hL0 := (((hL0.new rfl [.int .i64 iun, .int .u32 iud, .int .i64 ium, .int .u32 iue] 27).new (K := w.heap.size + 1) (szA _ _) [.int .i64 ivn, .int .u32 ivd, .int .i64 ivm, .int .u32 ive] 27).new (K := w.heap.size + 1 + 1) (by simp only [World.size_alloc]) [.int .i64 iwn, .int .u32 iwd, .int .i64 iwm, .int .u32 iwe] 27)
 generalize hweq : (((w.alloc (.cells #[.int .i64 iun, .int .u32 iud, .int .i64 ium, .int .u32 iue] 27)).alloc (.cells #[.int .i64 ivn, .int .u32 ivd, .int .i64 ivm, .int .u32 ive] 27)).alloc (.cells #[.int .i64 iwn, .int .u32 iwd, .int .i64 iwm, .int .u32 iwe] 27)) = x1 at hL0 hT
 go_enter Tryz.func3, Tryz.ntmps3
 go_wp2_with fail
 with_reducible refine Calls.mono (HW.out _ (hKT.out.at hL0.bl kKT)) ?_
 rintro e x2 ⟨rfl, hb⟩
 replace hL0 := hL0.call hb
 replace hT := hT.call hb
 clear hb hweq
 go_wp2_with fail
 exact bodyPost_ret (v := .bool true) (by simp [results, Tryz.results3, go_sem]) rfl ⟨rfl, hL0.bl⟩
theorem igauss_l2 (al am : Option Addr) (nl cl nm cm : Nat) (iun iud ium iue ivn ivd ivm ive iwn iwd iwm iwe : Int) (KT : World → Prop) (hKT : Keeps KT) (HW : ∀ w, KT w → Calls Tryz.prog 7 #[] w fun xe w' => xe = .returned (.bool true) ∧ Below w.heap.size w w') (l_nl : decide ((8 : Int) < ((nl : Nat) : Int)) = false) (k_nl : decide (8 < nl) = false) (l_nm : decide ((8 : Int) < ((nm : Nat) : Int)) = true) (k_nm : decide (8 < nm) = true) (w : World) (kKT : KT w) :
  Calls Tryz.prog 3 #[.slice al nl cl, .slice am nm cm, .agg #[.int .i64 iun, .int .u32 iud, .int .i64 ium, .int .u32 iue], .agg #[.int .i64 ivn, .int .u32 ivd, .int .i64 ivm, .int .u32 ive], .agg #[.int .i64 iwn, .int .u32 iwd, .int .i64 iwm, .int .u32 iwe]] w fun e w' => e = .returned (.bool true) ∧ Below w.heap.size w w' := by
 replace hKT := Lib.hid hKT
 replace HW := Lib.hid HW
 have hL0 : GL w w [] := GL.start w
 have hT : PTs w [] := PTs.nil w
 replace hT := (((hT.new (.cells #[.int .i64 iun, .int .u32 iud, .int .i64 ium, .int .u32 iue] 27)).new (.cells #[.int .i64 ivn, .int .u32 ivd, .int .i64 ivm, .int .u32 ive] 27)).new (.cells #[.int .i64 iwn, .int .u32 iwd, .int .i64 iwm, .int .u32 iwe] 27))
 replace hL0 := (((hL0.new rfl [.int .i64 iun, .int .u32 iud, .int .i64 ium, .int .u32 iue] 27).new (K := w.heap.size + 1) (szA _ _) [.int .i64 ivn, .int .u32 ivd, .int .i64 ivm, .int .u32 ive] 27).new (K := w.heap.size + 1 + 1) (by simp only [World.size_alloc]) [.int .i64 iwn, .int .u32 iwd, .int .i64 iwm, .int .u32 iwe] 27)
 generalize hweq : (((w.alloc (.cells #[.int .i64 iun, .int .u32 iud, .int .i64 ium, .int .u32 iue] 27)).alloc (.cells #[.int .i64 ivn, .int .u32 ivd, .int .i64 ivm, .int .u32 ive] 27)).alloc (.cells #[.int .i64 iwn, .int .u32 iwd, .int .i64 iwm, .int .u32 iwe] 27)) = x1 at hL0 hT
 go_enter Tryz.func3, Tryz.ntmps3
 go_wp2_with fail
 with_reducible refine Calls.mono (HW.out _ (hKT.out.at hL0.bl kKT)) ?_
 rintro e x2 ⟨rfl, hb⟩
 replace hL0 := hL0.call hb
 replace hT := hT.call hb
 clear hb hweq
 go_wp2_with fail
 exact bodyPost_ret (v := .bool true) (by simp [results, Tryz.results3, go_sem]) rfl ⟨rfl, hL0.bl⟩
theorem igauss_w (al am : Option Addr) (nl cl nm cm : Nat) (iun iud ium iue ivn ivd ivm ive iwn iwd iwm iwe : Int) (pa pb pxa pyb ps : List TI) (ux uy vx vy wx wy tv fa fb fc : Rat) (KL : World → Prop) (hKL : Keeps KL) (HMa : ∀ (w : World), KL w → Calls Tryz.prog 8 #[.slice al nl cl, .int .i64 5] w fun e w' => ∃ pv, e = .returned pv ∧ PT w' pv pa ∧ Below w.heap.size w w') (KM : World → Prop) (hKM : Keeps KM) (HMb : ∀ (w : World), KM w → Calls Tryz.prog 8 #[.slice am nm cm, .int .i64 5] w fun e w' => ∃ pv, e = .returned pv ∧ PT w' pv pb ∧ Below w.heap.size w w') (Ou : ∀ w, Calls Tryz.prog 9 #[.agg #[.int .i64 iun, .int .u32 iud, .int .i64 ium, .int .u32 iue]] w fun xe w' => xe = .returned (.agg #[.int .u64 ((zl ux.num : Nat) : Int), .string (zh ux.num), .bool (zs ux.num), .int .u64 ((lo (fe ux) : Nat) : Int), .string (hs (fe ux)), .int .u64 ((zl uy.num : Nat) : Int), .string (zh uy.num), .bool (zs uy.num), .int .u64 ((lo (fe uy) : Nat) : Int), .string (hs (fe uy))]) ∧ Below w.heap.size w w') (Ov : ∀ w, Calls Tryz.prog 9 #[.agg #[.int .i64 ivn, .int .u32 ivd, .int .i64 ivm, .int .u32 ive]] w fun xe w' => xe = .returned (.agg #[.int .u64 ((zl vx.num : Nat) : Int), .string (zh vx.num), .bool (zs vx.num), .int .u64 ((lo (fe vx) : Nat) : Int), .string (hs (fe vx)), .int .u64 ((zl vy.num : Nat) : Int), .string (zh vy.num), .bool (zs vy.num), .int .u64 ((lo (fe vy) : Nat) : Int), .string (hs (fe vy))]) ∧ Below w.heap.size w w') (Ow : ∀ w, Calls Tryz.prog 9 #[.agg #[.int .i64 iwn, .int .u32 iwd, .int .i64 iwm, .int .u32 iwe]] w fun xe w' => xe = .returned (.agg #[.int .u64 ((zl wx.num : Nat) : Int), .string (zh wx.num), .bool (zs wx.num), .int .u64 ((lo (fe wx) : Nat) : Int), .string (hs (fe wx)), .int .u64 ((zl wy.num : Nat) : Int), .string (zh wy.num), .bool (zs wy.num), .int .u64 ((lo (fe wy) : Nat) : Int), .string (hs (fe wy))]) ∧ Below w.heap.size w w') (Dx : ∀ (p0 : Value) (w : World), PT w p0 pa → Calls Tryz.prog 12 #[p0] w fun e w' => ∃ pv, e = .returned pv ∧ PT w' pv pxa ∧ Below w.heap.size w w') (Dy : ∀ (p0 : Value) (w : World), PT w p0 pb → Calls Tryz.prog 13 #[p0] w fun e w' => ∃ pv, e = .returned pv ∧ PT w' pv pyb ∧ Below w.heap.size w w') (Ad : ∀ (p0 p1 : Value) (w : World), PT w p0 pxa → PT w p1 pyb → Calls Tryz.prog 11 #[p0, p1] w fun e w' => ∃ pv, e = .returned pv ∧ PT w' pv ps ∧ Below w.heap.size w w') (T1 : ∀ (p0 : Value) (w : World), PT w p0 ps → Calls Tryz.prog 10 #[p0, .agg #[.int .u64 ((zl ux.num : Nat) : Int), .string (zh ux.num), .bool (zs ux.num), .int .u64 ((lo (fe ux) : Nat) : Int), .string (hs (fe ux)), .int .u64 ((zl uy.num : Nat) : Int), .string (zh uy.num), .bool (zs uy.num), .int .u64 ((lo (fe uy) : Nat) : Int), .string (hs (fe uy))], .agg #[.int .u64 ((zl vx.num : Nat) : Int), .string (zh vx.num), .bool (zs vx.num), .int .u64 ((lo (fe vx) : Nat) : Int), .string (hs (fe vx)), .int .u64 ((zl vy.num : Nat) : Int), .string (zh vy.num), .bool (zs vy.num), .int .u64 ((lo (fe vy) : Nat) : Int), .string (hs (fe vy))], .agg #[.int .u64 ((zl wx.num : Nat) : Int), .string (zh wx.num), .bool (zs wx.num), .int .u64 ((lo (fe wx) : Nat) : Int), .string (hs (fe wx)), .int .u64 ((zl wy.num : Nat) : Int), .string (zh wy.num), .bool (zs wy.num), .int .u64 ((lo (fe wy) : Nat) : Int), .string (hs (fe wy))]] w fun e w' => e = .returned (fracV tv) ∧ Below w.heap.size w w') (F1 : ∀ (p0 p1 : Value) (w : World), PT w p0 pa → PT w p1 pb → Calls Tryz.prog 15 #[p0, p1, .agg #[.int .u64 ((zl ux.num : Nat) : Int), .string (zh ux.num), .bool (zs ux.num), .int .u64 ((lo (fe ux) : Nat) : Int), .string (hs (fe ux)), .int .u64 ((zl uy.num : Nat) : Int), .string (zh uy.num), .bool (zs uy.num), .int .u64 ((lo (fe uy) : Nat) : Int), .string (hs (fe uy))], .agg #[.int .u64 ((zl vx.num : Nat) : Int), .string (zh vx.num), .bool (zs vx.num), .int .u64 ((lo (fe vx) : Nat) : Int), .string (hs (fe vx)), .int .u64 ((zl vy.num : Nat) : Int), .string (zh vy.num), .bool (zs vy.num), .int .u64 ((lo (fe vy) : Nat) : Int), .string (hs (fe vy))]] w fun e w' => e = .returned (fracV fa) ∧ Below w.heap.size w w') (F2 : ∀ (p0 p1 : Value) (w : World), PT w p0 pa → PT w p1 pb → Calls Tryz.prog 15 #[p0, p1, .agg #[.int .u64 ((zl vx.num : Nat) : Int), .string (zh vx.num), .bool (zs vx.num), .int .u64 ((lo (fe vx) : Nat) : Int), .string (hs (fe vx)), .int .u64 ((zl vy.num : Nat) : Int), .string (zh vy.num), .bool (zs vy.num), .int .u64 ((lo (fe vy) : Nat) : Int), .string (hs (fe vy))], .agg #[.int .u64 ((zl wx.num : Nat) : Int), .string (zh wx.num), .bool (zs wx.num), .int .u64 ((lo (fe wx) : Nat) : Int), .string (hs (fe wx)), .int .u64 ((zl wy.num : Nat) : Int), .string (zh wy.num), .bool (zs wy.num), .int .u64 ((lo (fe wy) : Nat) : Int), .string (hs (fe wy))]] w fun e w' => e = .returned (fracV fb) ∧ Below w.heap.size w w') (F3 : ∀ (p0 p1 : Value) (w : World), PT w p0 pa → PT w p1 pb → Calls Tryz.prog 15 #[p0, p1, .agg #[.int .u64 ((zl wx.num : Nat) : Int), .string (zh wx.num), .bool (zs wx.num), .int .u64 ((lo (fe wx) : Nat) : Int), .string (hs (fe wx)), .int .u64 ((zl wy.num : Nat) : Int), .string (zh wy.num), .bool (zs wy.num), .int .u64 ((lo (fe wy) : Nat) : Int), .string (hs (fe wy))], .agg #[.int .u64 ((zl ux.num : Nat) : Int), .string (zh ux.num), .bool (zs ux.num), .int .u64 ((lo (fe ux) : Nat) : Int), .string (hs (fe ux)), .int .u64 ((zl uy.num : Nat) : Int), .string (zh uy.num), .bool (zs uy.num), .int .u64 ((lo (fe uy) : Nat) : Int), .string (hs (fe uy))]] w fun e w' => e = .returned (fracV fc) ∧ Below w.heap.size w w') (S1 : ∀ (p0 : Value) (w : World), SlQ w p0 ([fa, fb, fc]) → Calls Tryz.prog 14 #[p0] w fun e w' => e = .returned (fracV tv) ∧ Below w.heap.size w w') (KT : World → Prop) (hKT : Keeps KT) (HW : ∀ w, KT w → Calls Tryz.prog 7 #[] w fun xe w' => xe = .returned (.bool true) ∧ Below w.heap.size w w') (l_nl : decide ((8 : Int) < ((nl : Nat) : Int)) = false) (k_nl : decide (8 < nl) = false) (l_nm : decide ((8 : Int) < ((nm : Nat) : Int)) = false) (k_nm : decide (8 < nm) = false) (w : World) (kKL : KL w) (kKM : KM w) (kKT : KT w) :
  Calls Tryz.prog 3 #[.slice al nl cl, .slice am nm cm, .agg #[.int .i64 iun, .int .u32 iud, .int .i64 ium, .int .u32 iue], .agg #[.int .i64 ivn, .int .u32 ivd, .int .i64 ivm, .int .u32 ive], .agg #[.int .i64 iwn, .int .u32 iwd, .int .i64 iwm, .int .u32 iwe]] w fun e w' => e = .returned (.bool true) ∧ Below w.heap.size w w' := by
 replace hKL := Lib.hid hKL
 replace HMa := Lib.hid HMa
 replace hKM := Lib.hid hKM
 replace HMb := Lib.hid HMb
 replace Ou := Lib.hid Ou
 replace Ov := Lib.hid Ov
 replace Ow := Lib.hid Ow
 replace Dx := Lib.hid Dx
 replace Dy := Lib.hid Dy
 replace Ad := Lib.hid Ad
 replace T1 := Lib.hid T1
 replace F1 := Lib.hid F1
 replace F2 := Lib.hid F2
 replace F3 := Lib.hid F3
 replace S1 := Lib.hid S1
 replace hKT := Lib.hid hKT
 replace HW := Lib.hid HW
 have hL0 : GL w w [] := GL.start w
 have hT : PTs w [] := PTs.nil w
 replace hT := (((hT.new (.cells #[.int .i64 iun, .int .u32 iud, .int .i64 ium, .int .u32 iue] 27)).new (.cells #[.int .i64 ivn, .int .u32 ivd, .int .i64 ivm, .int .u32 ive] 27)).new (.cells #[.int .i64 iwn, .int .u32 iwd, .int .i64 iwm, .int .u32 iwe] 27))
 replace hL0 := (((hL0.new rfl [.int .i64 iun, .int .u32 iud, .int .i64 ium, .int .u32 iue] 27).new (K := w.heap.size + 1) (szA _ _) [.int .i64 ivn, .int .u32 ivd, .int .i64 ivm, .int .u32 ive] 27).new (K := w.heap.size + 1 + 1) (by simp only [World.size_alloc]) [.int .i64 iwn, .int .u32 iwd, .int .i64 iwm, .int .u32 iwe] 27)
 generalize hweq : (((w.alloc (.cells #[.int .i64 iun, .int .u32 iud, .int .i64 ium, .int .u32 iue] 27)).alloc (.cells #[.int .i64 ivn, .int .u32 ivd, .int .i64 ivm, .int .u32 ive] 27)).alloc (.cells #[.int .i64 iwn, .int .u32 iwd, .int .i64 iwm, .int .u32 iwe] 27)) = x1 at hL0 hT
 go_enter Tryz.func3, Tryz.ntmps3
 go_wp2_with fail
 with_reducible refine Calls.mono (HMa.out _ (hKL.out.at (hL0.bl) kKL)) ?_
 rintro e x2 ⟨v0, rfl, q0, hb⟩
 replace hL0 := hL0.call hb
 replace hT := hT.call hb
 clear hb hweq
 obtain ⟨g1, d1, g1c, rfl, -⟩ := pt_form q0
 replace hT := hT.cons q0
 clear q0
 go_wp2_with fail
 with_reducible refine Calls.mono (HMb.out _ (hKM.out.at (hL0.bl) kKM)) ?_
 rintro e x3 ⟨v0, rfl, q0, hb⟩
 replace hL0 := hL0.call hb
 replace hT := hT.call hb
 clear hb
 obtain ⟨g2, d2, g2c, rfl, -⟩ := pt_form q0
 replace hT := hT.cons q0
 clear q0
 go_upto_region 4 with fail
 refine region_gh (by kernel_rfl) (by kernel_rfl) ?_
 refine lex_seg (gl := []) 6 (by kernel_rfl) ?_
 intro α iα F hF1 hF2
 have hq := GL.seg hF1 hL0
 simp only [zC, Nat.reduceAdd] at hq
 simp only [zT]
 repeat (go_big_quiet_step (first | fail | (go_at_call 9; with_reducible exact seg_call hF2 Ou.out _) | (go_at_call 9; with_reducible exact seg_call hF2 Ov.out _) | (go_at_call 9; with_reducible exact seg_call hF2 Ow.out _)))
 refine wpQuiet_nil ?_
 clear hq hF1 hF2 iα F α
 refine lex_new [.int .u64 0, .string ⟨#[]⟩, .bool false, .int .u64 0, .string ⟨#[]⟩, .int .u64 0, .string ⟨#[]⟩, .bool false, .int .u64 0, .string ⟨#[]⟩] 13 39 39 rfl rfl (of_decide_eq_true (by kernel_rfl)) (by kernel_rfl) rfl new_pt9 ?_
 simp only [Act.put, zP]
 refine lex_new [.int .u64 0, .string ⟨#[]⟩, .bool false, .int .u64 0, .string ⟨#[]⟩, .int .u64 0, .string ⟨#[]⟩, .bool false, .int .u64 0, .string ⟨#[]⟩] 14 39 39 rfl rfl (of_decide_eq_true (by kernel_rfl)) (by kernel_rfl) rfl new_pt9 ?_
 simp only [Act.put, zP]
 refine lex_new [.int .u64 0, .string ⟨#[]⟩, .bool false, .int .u64 0, .string ⟨#[]⟩, .int .u64 0, .string ⟨#[]⟩, .bool false, .int .u64 0, .string ⟨#[]⟩] 15 39 39 rfl rfl (of_decide_eq_true (by kernel_rfl)) (by kernel_rfl) rfl new_pt9 ?_
 simp only [Act.put, zP]
 refine lex_put [.int .u64 ((zl ux.num : Nat) : Int), .string (zh ux.num), .bool (zs ux.num), .int .u64 ((lo (fe ux) : Nat) : Int), .string (hs (fe ux)), .int .u64 ((zl uy.num : Nat) : Int), .string (zh uy.num), .bool (zs uy.num), .int .u64 ((lo (fe uy) : Nat) : Int), .string (hs (fe uy))] [.int .u64 0, .string ⟨#[]⟩, .bool false, .int .u64 0, .string ⟨#[]⟩, .int .u64 0, .string ⟨#[]⟩, .bool false, .int .u64 0, .string ⟨#[]⟩] 13 39 (.tmp 31) rfl (by kernel_rfl) (by simp [toG, upd]) rfl (fun w k h => put_pt9 _ _ _ _ _ _ _ _ _ _ _ _ _ _ _ _ _ _ _ _ w k h) ?_
 simp only [Act.put]
 refine lex_put [.int .u64 ((zl vx.num : Nat) : Int), .string (zh vx.num), .bool (zs vx.num), .int .u64 ((lo (fe vx) : Nat) : Int), .string (hs (fe vx)), .int .u64 ((zl vy.num : Nat) : Int), .string (zh vy.num), .bool (zs vy.num), .int .u64 ((lo (fe vy) : Nat) : Int), .string (hs (fe vy))] [.int .u64 0, .string ⟨#[]⟩, .bool false, .int .u64 0, .string ⟨#[]⟩, .int .u64 0, .string ⟨#[]⟩, .bool false, .int .u64 0, .string ⟨#[]⟩] 14 39 (.tmp 33) rfl (by kernel_rfl) (by simp [toG, upd]) rfl (fun w k h => put_pt9 _ _ _ _ _ _ _ _ _ _ _ _ _ _ _ _ _ _ _ _ w k h) ?_
 simp only [Act.put]
 refine lex_put [.int .u64 ((zl wx.num : Nat) : Int), .string (zh wx.num), .bool (zs wx.num), .int .u64 ((lo (fe wx) : Nat) : Int), .string (hs (fe wx)), .int .u64 ((zl wy.num : Nat) : Int), .string (zh wy.num), .bool (zs wy.num), .int .u64 ((lo (fe wy) : Nat) : Int), .string (hs (fe wy))] [.int .u64 0, .string ⟨#[]⟩, .bool false, .int .u64 0, .string ⟨#[]⟩, .int .u64 0, .string ⟨#[]⟩, .bool false, .int .u64 0, .string ⟨#[]⟩] 15 39 (.tmp 35) rfl (by kernel_rfl) (by simp [toG, upd]) rfl (fun w k h => put_pt9 _ _ _ _ _ _ _ _ _ _ _ _ _ _ _ _ _ _ _ _ w k h) ?_
 simp only [Act.put]
 refine lexG_nil ?_
 intro κ x4 hSim
 replace hL0 := hL0.ghs hSim [(15, [.int .u64 ((zl wx.num : Nat) : Int), .string (zh wx.num), .bool (zs wx.num), .int .u64 ((lo (fe wx) : Nat) : Int), .string (hs (fe wx)), .int .u64 ((zl wy.num : Nat) : Int), .string (zh wy.num), .bool (zs wy.num), .int .u64 ((lo (fe wy) : Nat) : Int), .string (hs (fe wy))]), (14, [.int .u64 ((zl vx.num : Nat) : Int), .string (zh vx.num), .bool (zs vx.num), .int .u64 ((lo (fe vx) : Nat) : Int), .string (hs (fe vx)), .int .u64 ((zl vy.num : Nat) : Int), .string (zh vy.num), .bool (zs vy.num), .int .u64 ((lo (fe vy) : Nat) : Int), .string (hs (fe vy))]), (13, [.int .u64 ((zl ux.num : Nat) : Int), .string (zh ux.num), .bool (zs ux.num), .int .u64 ((lo (fe ux) : Nat) : Int), .string (hs (fe ux)), .int .u64 ((zl uy.num : Nat) : Int), .string (zh uy.num), .bool (zs uy.num), .int .u64 ((lo (fe uy) : Nat) : Int), .string (hs (fe uy))])] (by simp) (by intro p hp; simp only [List.mem_cons, List.not_mem_nil, or_false] at hp; rcases hp with rfl | rfl | rfl <;> exact ⟨_, by simp only [toG, upd]; rfl⟩)
 simp only [List.map_cons, List.map_nil, List.cons_append, List.nil_append] at hL0
 simp only [over_toG, over_nil, Act.put, zP]
 replace hT := hT.call (below_drew hSim.base)
 clear hSim
 generalize κ 15 = k4_15 at *
 generalize κ 14 = k4_14 at *
 generalize κ 13 = k4_13 at *
 go_upto_region 5 with fail
 refine region_tal 10 [EV (.slice g1 d1 g1c), PP pxa, EV (.slice g2 d2 g2c), PP pyb, PP ps, EV (.agg #[.int .u64 ((zl ux.num : Nat) : Int), .string (zh ux.num), .bool (zs ux.num), .int .u64 ((lo (fe ux) : Nat) : Int), .string (hs (fe ux)), .int .u64 ((zl uy.num : Nat) : Int), .string (zh uy.num), .bool (zs uy.num), .int .u64 ((lo (fe uy) : Nat) : Int), .string (hs (fe uy))]), EV (.agg #[.int .u64 ((zl vx.num : Nat) : Int), .string (zh vx.num), .bool (zs vx.num), .int .u64 ((lo (fe vx) : Nat) : Int), .string (hs (fe vx)), .int .u64 ((zl vy.num : Nat) : Int), .string (zh vy.num), .bool (zs vy.num), .int .u64 ((lo (fe vy) : Nat) : Int), .string (hs (fe vy))]), EV (.agg #[.int .u64 ((zl wx.num : Nat) : Int), .string (zh wx.num), .bool (zs wx.num), .int .u64 ((lo (fe wx) : Nat) : Int), .string (hs (fe wx)), .int .u64 ((zl wy.num : Nat) : Int), .string (zh wy.num), .bool (zs wy.num), .int .u64 ((lo (fe wy) : Nat) : Int), .string (hs (fe wy))]), EV (.agg #[.int .u64 ((zl tv.num : Nat) : Int), .string (zh tv.num), .bool (zs tv.num), .int .u64 ((lo (fe tv) : Nat) : Int), .string (hs (fe tv))]), NewB x4.heap.size [.int .u64 0, .string ⟨#[]⟩, .bool false, .int .u64 0, .string ⟨#[]⟩]] [9] (by kernel_rfl) (by kernel_rfl) ?_ ?_ ?_ ?_ ?_
 ·repeat' first | exact stays_nil | apply stays_cons | exact stays_eq _ | exact stays_new _ _ | exact stays_pt _
 ·simp only [List.take_succ_cons, List.take_zero, hopsR, and_true]
  refine ⟨?_, ?_, ?_, ?_, ?_, ?_, ?_, ?_, ?_, ?_⟩ <;> intro fv w1 hb1 hp
  all_goals (have hc := (hL0.call (below_drew hb1)).fc; simp only [zF, Nat.reduceAdd] at hc; simp only [putsV, Act.put, zP, Nat.zero_add, Nat.reduceAdd])
  ·refine tyAt_none rfl ?_
   simp [tyUpon, execOp, go_sem, Act.eval, Below.refl]
  ·have h0 : EV _ (fv 0) w1 := hp 0 (LC (by kernel_rfl))
   refine tyAt_none rfl ?_
   refine ty_call (f := 12) (args := #[.slice g1 d1 g1c]) (by simp [execOp, go_sem, Act.eval, h0]) ?_
   exact (Dx.out (.slice g1 d1 g1c) w1 (PT.below (hT.get (mK mZ)) (below_drew hb1))).mono fun e w2 ⟨pv, h1, h2, h3⟩ => ⟨pv, h1, h2, h3⟩
  ·refine tyAt_none rfl ?_
   simp [tyUpon, execOp, go_sem, Act.eval, Below.refl]
  ·have h2 : EV _ (fv 2) w1 := hp 2 (LC (by kernel_rfl))
   refine tyAt_none rfl ?_
   refine ty_call (f := 13) (args := #[.slice g2 d2 g2c]) (by simp [execOp, go_sem, Act.eval, h2]) ?_
   exact (Dy.out (.slice g2 d2 g2c) w1 (PT.below (hT.get mZ) (below_drew hb1))).mono fun e w2 ⟨pv, h1, h2, h3⟩ => ⟨pv, h1, h2, h3⟩
  ·have h1 : (PP pxa) (fv 1) w1 := hp 1 (LC (by kernel_rfl))
   have h3 : (PP pyb) (fv 3) w1 := hp 3 (LC (by kernel_rfl))
   refine tyAt_none rfl ?_
   refine ty_call (f := 11) (args := #[fv 1, fv 3]) (by simp [execOp, go_sem, Act.eval]) ?_
   exact (Ad.out (fv 1) (fv 3) w1 h1 h3).mono fun e w2 ⟨pv, h1, h2, h3⟩ => ⟨pv, h1, h2, h3⟩
  ·refine tyAt_none rfl ?_
   simp [tyUpon, execOp, go_sem, Act.eval, hc, Below.refl]
  ·refine tyAt_none rfl ?_
   simp [tyUpon, execOp, go_sem, Act.eval, hc, Below.refl]
  ·refine tyAt_none rfl ?_
   simp [tyUpon, execOp, go_sem, Act.eval, hc, Below.refl]
  ·have h4 : (PP ps) (fv 4) w1 := hp 4 (LC (by kernel_rfl))
   have h5 : EV _ (fv 5) w1 := hp 5 (LC (by kernel_rfl))
   have h6 : EV _ (fv 6) w1 := hp 6 (LC (by kernel_rfl))
   have h7 : EV _ (fv 7) w1 := hp 7 (LC (by kernel_rfl))
   refine tyAt_none rfl ?_
   refine ty_call (f := 10) (args := #[fv 4, .agg #[.int .u64 ((zl ux.num : Nat) : Int), .string (zh ux.num), .bool (zs ux.num), .int .u64 ((lo (fe ux) : Nat) : Int), .string (hs (fe ux)), .int .u64 ((zl uy.num : Nat) : Int), .string (zh uy.num), .bool (zs uy.num), .int .u64 ((lo (fe uy) : Nat) : Int), .string (hs (fe uy))], .agg #[.int .u64 ((zl vx.num : Nat) : Int), .string (zh vx.num), .bool (zs vx.num), .int .u64 ((lo (fe vx) : Nat) : Int), .string (hs (fe vx)), .int .u64 ((zl vy.num : Nat) : Int), .string (zh vy.num), .bool (zs vy.num), .int .u64 ((lo (fe vy) : Nat) : Int), .string (hs (fe vy))], .agg #[.int .u64 ((zl wx.num : Nat) : Int), .string (zh wx.num), .bool (zs wx.num), .int .u64 ((lo (fe wx) : Nat) : Int), .string (hs (fe wx)), .int .u64 ((zl wy.num : Nat) : Int), .string (zh wy.num), .bool (zs wy.num), .int .u64 ((lo (fe wy) : Nat) : Int), .string (hs (fe wy))]]) (by simp [execOp, go_sem, Act.eval, h5, h6, h7]) ?_
   exact (T1.out (fv 4) w1 h4).mono fun e w2 ⟨h1, h2⟩ => ⟨_, h1, rfl, h2⟩
  ·exact tyAt_new rfl rfl new_frac (below_drew hb1).size
 ·intro j hj u w2 hT
  simp only [List.contains_iff_mem, List.mem_cons, List.not_mem_nil, or_false] at hj
  rcases hj with rfl <;> exact NewB.ptr hT
 ·exact ⟨⟨_, _, _, _, rfl, rfl, rfl, new_frac⟩, trivial⟩
 ·intro fv x5 hb1 hv hne
  have e0 : fv 0 = _ := hv 0 (by omega)
  have q1 : PT x5 (fv 1) pxa := hv 1 (by omega)
  obtain ⟨g3, d3, g3c, e1, -⟩ := pt_form q1
  rw [e1] at q1
  have e2 : fv 2 = _ := hv 2 (by omega)
  have q3 : PT x5 (fv 3) pyb := hv 3 (by omega)
  obtain ⟨g4, d4, g4c, e3, -⟩ := pt_form q3
  rw [e3] at q3
  have q4 : PT x5 (fv 4) ps := hv 4 (by omega)
  obtain ⟨g5, d5, g5c, e4, -⟩ := pt_form q4
  rw [e4] at q4
  have e5 : fv 5 = _ := hv 5 (by omega)
  have e6 : fv 6 = _ := hv 6 (by omega)
  have e7 : fv 7 = _ := hv 7 (by omega)
  have e8 : fv 8 = _ := hv 8 (by omega)
  obtain ⟨kb9r5, e9, n9, m9⟩ : NewB x4.heap.size [.int .u64 0, .string ⟨#[]⟩, .bool false, .int .u64 0, .string ⟨#[]⟩] (fv 9) x5 := hv 9 (by omega)
  simp only [List.take_succ_cons, List.take_zero, putsV, Act.put, zP, List.drop_succ_cons, List.drop_zero, Nat.zero_add, Nat.reduceAdd, e0, e1, e2, e3, e4, e5, e6, e7, e8, e9]
  have hx0 := hL0
  replace hL0 := hL0.call (below_drew hb1)
  replace hT := hT.call (below_drew hb1)
  replace hL0 := GL.tnew (M := []) hL0 hx0 n9 m9 (fun p hp => by cases hp)
  simp only [List.cons_append, List.nil_append] at hL0
  replace hT := hT.cons q1
  replace hT := hT.cons q3
  replace hT := hT.cons q4
  clear e0 e1 e2 e3 e4 e5 e6 e7 e8 e9 hb1 hv hne hx0 n9 m9 q1 q3 q4 fv
  have hT1 := hT.put ((((((Upd.refl kb9r5 x5).setCell 0 (.int .u64 ((zl tv.num : Nat) : Int))).setCell 1 (.string (zh tv.num))).setCell 2 (.bool (zs tv.num))).setCell 3 (.int .u64 ((lo (fe tv) : Nat) : Int))).setCell 4 (.string (hs (fe tv)))) (hL0.get _ _ mZ) (by intro v hv n; simp only [List.mem_cons, List.not_mem_nil, or_false] at hv; rcases hv with rfl | rfl | rfl | rfl | rfl <;> simp)
  have hA := hL0.fc
  simp only [zF, Nat.reduceAdd] at hA
  have hP := hL0.put 0 (kb9r5) _ rfl [.int .u64 ((zl tv.num : Nat) : Int), .string (zh tv.num), .bool (zs tv.num), .int .u64 ((lo (fe tv) : Nat) : Int), .string (hs (fe tv))] rfl
  simp only [setAll, List.set_cons_zero, List.set_cons_succ] at hP
  generalize hput1 : (((((x5.setCell ⟨kb9r5, 0, none⟩ (.int .u64 ((zl tv.num : Nat) : Int))).setCell ⟨kb9r5, 1, none⟩ (.string (zh tv.num))).setCell ⟨kb9r5, 2, none⟩ (.bool (zs tv.num))).setCell ⟨kb9r5, 3, none⟩ (.int .u64 ((lo (fe tv) : Nat) : Int))).setCell ⟨kb9r5, 4, none⟩ (.string (hs (fe tv)))) = x6 at hP hT1
  have hB1 := hP.fc
  simp only [zF, Nat.reduceAdd] at hB1
  replace hL0 := hP
  replace hT := hT1
  clear hT1
  go_upto_region 6 with fail
  clear hput1 hB1
  clear hA
  refine region_tl 23 [EV (.agg #[.int .u64 ((zl tv.num : Nat) : Int), .string (zh tv.num), .bool (zs tv.num), .int .u64 ((lo (fe tv) : Nat) : Int), .string (hs (fe tv))]), EV (.slice g1 d1 g1c), EV (.slice g2 d2 g2c), EV (.agg #[.int .u64 ((zl ux.num : Nat) : Int), .string (zh ux.num), .bool (zs ux.num), .int .u64 ((lo (fe ux) : Nat) : Int), .string (hs (fe ux)), .int .u64 ((zl uy.num : Nat) : Int), .string (zh uy.num), .bool (zs uy.num), .int .u64 ((lo (fe uy) : Nat) : Int), .string (hs (fe uy))]), EV (.agg #[.int .u64 ((zl vx.num : Nat) : Int), .string (zh vx.num), .bool (zs vx.num), .int .u64 ((lo (fe vx) : Nat) : Int), .string (hs (fe vx)), .int .u64 ((zl vy.num : Nat) : Int), .string (zh vy.num), .bool (zs vy.num), .int .u64 ((lo (fe vy) : Nat) : Int), .string (hs (fe vy))]), EV (.agg #[.int .u64 ((zl fa.num : Nat) : Int), .string (zh fa.num), .bool (zs fa.num), .int .u64 ((lo (fe fa) : Nat) : Int), .string (hs (fe fa))]), EV (.slice g1 d1 g1c), EV (.slice g2 d2 g2c), EV (.agg #[.int .u64 ((zl vx.num : Nat) : Int), .string (zh vx.num), .bool (zs vx.num), .int .u64 ((lo (fe vx) : Nat) : Int), .string (hs (fe vx)), .int .u64 ((zl vy.num : Nat) : Int), .string (zh vy.num), .bool (zs vy.num), .int .u64 ((lo (fe vy) : Nat) : Int), .string (hs (fe vy))]), EV (.agg #[.int .u64 ((zl wx.num : Nat) : Int), .string (zh wx.num), .bool (zs wx.num), .int .u64 ((lo (fe wx) : Nat) : Int), .string (hs (fe wx)), .int .u64 ((zl wy.num : Nat) : Int), .string (zh wy.num), .bool (zs wy.num), .int .u64 ((lo (fe wy) : Nat) : Int), .string (hs (fe wy))]), EV (.agg #[.int .u64 ((zl fb.num : Nat) : Int), .string (zh fb.num), .bool (zs fb.num), .int .u64 ((lo (fe fb) : Nat) : Int), .string (hs (fe fb))]), EV (.slice g1 d1 g1c), EV (.slice g2 d2 g2c), EV (.agg #[.int .u64 ((zl wx.num : Nat) : Int), .string (zh wx.num), .bool (zs wx.num), .int .u64 ((lo (fe wx) : Nat) : Int), .string (hs (fe wx)), .int .u64 ((zl wy.num : Nat) : Int), .string (zh wy.num), .bool (zs wy.num), .int .u64 ((lo (fe wy) : Nat) : Int), .string (hs (fe wy))]), EV (.agg #[.int .u64 ((zl ux.num : Nat) : Int), .string (zh ux.num), .bool (zs ux.num), .int .u64 ((lo (fe ux) : Nat) : Int), .string (hs (fe ux)), .int .u64 ((zl uy.num : Nat) : Int), .string (zh uy.num), .bool (zs uy.num), .int .u64 ((lo (fe uy) : Nat) : Int), .string (hs (fe uy))]), EV (.agg #[.int .u64 ((zl fc.num : Nat) : Int), .string (zh fc.num), .bool (zs fc.num), .int .u64 ((lo (fe fc) : Nat) : Int), .string (hs (fe fc))]), PV8 [fa, fb, fc], EV (.agg #[.int .u64 ((zl tv.num : Nat) : Int), .string (zh tv.num), .bool (zs tv.num), .int .u64 ((lo (fe tv) : Nat) : Int), .string (hs (fe tv))]), EV (.bool true), EV (.bool true), EV (.bool true), EV (.bool true), EV (.bool true)] (by kernel_rfl) (by kernel_rfl) ?_ ?_ ?_
  ·repeat' first | exact stays_nil | apply stays_cons | exact stays_eq _ | exact stays_slq8 _
  ·simp only [List.take_succ_cons, List.take_zero, hopsR, and_true]
   refine ⟨?_, ?_, ?_, ?_, ?_, ?_, ?_, ?_, ?_, ?_, ?_, ?_, ?_, ?_, ?_, ?_, ?_, ?_, ?_, ?_, ?_, ?_, ?_⟩ <;> intro fv w1 hb1 hp
   all_goals (have hc := (hL0.call (below_drew hb1)).fc; simp only [zF, Nat.reduceAdd] at hc; simp only [putsV, Act.put, zP, Nat.zero_add, Nat.reduceAdd])
   ·refine tyAt_none rfl ?_
    simp [tyUpon, execOp, go_sem, Act.eval, hc, Below.refl]
   ·refine tyAt_none rfl ?_
    simp [tyUpon, execOp, go_sem, Act.eval, Below.refl]
   ·refine tyAt_none rfl ?_
    simp [tyUpon, execOp, go_sem, Act.eval, Below.refl]
   ·refine tyAt_none rfl ?_
    simp [tyUpon, execOp, go_sem, Act.eval, hc, Below.refl]
   ·refine tyAt_none rfl ?_
    simp [tyUpon, execOp, go_sem, Act.eval, hc, Below.refl]
   ·have h1 : EV _ (fv 1) w1 := hp 1 (LC (by kernel_rfl))
    have h2 : EV _ (fv 2) w1 := hp 2 (LC (by kernel_rfl))
    have h3 : EV _ (fv 3) w1 := hp 3 (LC (by kernel_rfl))
    have h4 : EV _ (fv 4) w1 := hp 4 (LC (by kernel_rfl))
    refine tyAt_none rfl ?_
    refine ty_call (f := 15) (args := #[.slice g1 d1 g1c, .slice g2 d2 g2c, .agg #[.int .u64 ((zl ux.num : Nat) : Int), .string (zh ux.num), .bool (zs ux.num), .int .u64 ((lo (fe ux) : Nat) : Int), .string (hs (fe ux)), .int .u64 ((zl uy.num : Nat) : Int), .string (zh uy.num), .bool (zs uy.num), .int .u64 ((lo (fe uy) : Nat) : Int), .string (hs (fe uy))], .agg #[.int .u64 ((zl vx.num : Nat) : Int), .string (zh vx.num), .bool (zs vx.num), .int .u64 ((lo (fe vx) : Nat) : Int), .string (hs (fe vx)), .int .u64 ((zl vy.num : Nat) : Int), .string (zh vy.num), .bool (zs vy.num), .int .u64 ((lo (fe vy) : Nat) : Int), .string (hs (fe vy))]]) (by simp [execOp, go_sem, Act.eval, h1, h2, h3, h4]) ?_
    exact (F1.out (.slice g1 d1 g1c) (.slice g2 d2 g2c) w1 (PT.below (hT.get (mK (mK (mK (mK mZ))))) (below_drew hb1)) (PT.below (hT.get (mK (mK (mK mZ)))) (below_drew hb1))).mono fun e w2 ⟨h1, h2⟩ => ⟨_, h1, rfl, h2⟩
   ·refine tyAt_none rfl ?_
    simp [tyUpon, execOp, go_sem, Act.eval, Below.refl]
   ·refine tyAt_none rfl ?_
    simp [tyUpon, execOp, go_sem, Act.eval, Below.refl]
   ·refine tyAt_none rfl ?_
    simp [tyUpon, execOp, go_sem, Act.eval, hc, Below.refl]
   ·refine tyAt_none rfl ?_
    simp [tyUpon, execOp, go_sem, Act.eval, hc, Below.refl]
   ·have h6 : EV _ (fv 6) w1 := hp 6 (LC (by kernel_rfl))
    have h7 : EV _ (fv 7) w1 := hp 7 (LC (by kernel_rfl))
    have h8 : EV _ (fv 8) w1 := hp 8 (LC (by kernel_rfl))
    have h9 : EV _ (fv 9) w1 := hp 9 (LC (by kernel_rfl))
    refine tyAt_none rfl ?_
    refine ty_call (f := 15) (args := #[.slice g1 d1 g1c, .slice g2 d2 g2c, .agg #[.int .u64 ((zl vx.num : Nat) : Int), .string (zh vx.num), .bool (zs vx.num), .int .u64 ((lo (fe vx) : Nat) : Int), .string (hs (fe vx)), .int .u64 ((zl vy.num : Nat) : Int), .string (zh vy.num), .bool (zs vy.num), .int .u64 ((lo (fe vy) : Nat) : Int), .string (hs (fe vy))], .agg #[.int .u64 ((zl wx.num : Nat) : Int), .string (zh wx.num), .bool (zs wx.num), .int .u64 ((lo (fe wx) : Nat) : Int), .string (hs (fe wx)), .int .u64 ((zl wy.num : Nat) : Int), .string (zh wy.num), .bool (zs wy.num), .int .u64 ((lo (fe wy) : Nat) : Int), .string (hs (fe wy))]]) (by simp [execOp, go_sem, Act.eval, h6, h7, h8, h9]) ?_
    exact (F2.out (.slice g1 d1 g1c) (.slice g2 d2 g2c) w1 (PT.below (hT.get (mK (mK (mK (mK mZ))))) (below_drew hb1)) (PT.below (hT.get (mK (mK (mK mZ)))) (below_drew hb1))).mono fun e w2 ⟨h1, h2⟩ => ⟨_, h1, rfl, h2⟩
   ·refine tyAt_none rfl ?_
    simp [tyUpon, execOp, go_sem, Act.eval, Below.refl]
   ·refine tyAt_none rfl ?_
    simp [tyUpon, execOp, go_sem, Act.eval, Below.refl]
   ·refine tyAt_none rfl ?_
    simp [tyUpon, execOp, go_sem, Act.eval, hc, Below.refl]
   ·refine tyAt_none rfl ?_
    simp [tyUpon, execOp, go_sem, Act.eval, hc, Below.refl]
   ·have h11 : EV _ (fv 11) w1 := hp 11 (LC (by kernel_rfl))
    have h12 : EV _ (fv 12) w1 := hp 12 (LC (by kernel_rfl))
    have h13 : EV _ (fv 13) w1 := hp 13 (LC (by kernel_rfl))
    have h14 : EV _ (fv 14) w1 := hp 14 (LC (by kernel_rfl))
    refine tyAt_none rfl ?_
    refine ty_call (f := 15) (args := #[.slice g1 d1 g1c, .slice g2 d2 g2c, .agg #[.int .u64 ((zl wx.num : Nat) : Int), .string (zh wx.num), .bool (zs wx.num), .int .u64 ((lo (fe wx) : Nat) : Int), .string (hs (fe wx)), .int .u64 ((zl wy.num : Nat) : Int), .string (zh wy.num), .bool (zs wy.num), .int .u64 ((lo (fe wy) : Nat) : Int), .string (hs (fe wy))], .agg #[.int .u64 ((zl ux.num : Nat) : Int), .string (zh ux.num), .bool (zs ux.num), .int .u64 ((lo (fe ux) : Nat) : Int), .string (hs (fe ux)), .int .u64 ((zl uy.num : Nat) : Int), .string (zh uy.num), .bool (zs uy.num), .int .u64 ((lo (fe uy) : Nat) : Int), .string (hs (fe uy))]]) (by simp [execOp, go_sem, Act.eval, h11, h12, h13, h14]) ?_
    exact (F3.out (.slice g1 d1 g1c) (.slice g2 d2 g2c) w1 (PT.below (hT.get (mK (mK (mK (mK mZ))))) (below_drew hb1)) (PT.below (hT.get (mK (mK (mK mZ)))) (below_drew hb1))).mono fun e w2 ⟨h1, h2⟩ => ⟨_, h1, rfl, h2⟩
   ·have h5 : EV _ (fv 5) w1 := hp 5 (LC (by kernel_rfl))
    have h10 : EV _ (fv 10) w1 := hp 10 (LC (by kernel_rfl))
    have h15 : EV _ (fv 15) w1 := hp 15 (LC (by kernel_rfl))
    refine tyAt_none rfl ?_
    refine ty_val8 (u := .slice (some ⟨w1.heap.size, 0, none⟩) 3 3) (w' := w1.alloc (.cells #[.int .u64 ((zl fa.num : Nat) : Int), .string (zh fa.num), .bool (zs fa.num), .int .u64 ((lo (fe fa) : Nat) : Int), .string (hs (fe fa)), .int .u64 ((zl fb.num : Nat) : Int), .string (zh fb.num), .bool (zs fb.num), .int .u64 ((lo (fe fb) : Nat) : Int), .string (hs (fe fb)), .int .u64 ((zl fc.num : Nat) : Int), .string (zh fc.num), .bool (zs fc.num), .int .u64 ((lo (fe fc) : Nat) : Int), .string (hs (fe fc))] 38)) (by simp [execOp, go_sem, Act.eval, h5, h10, h15]) ((Below.refl _ _).alloc (Nat.le_refl _) _) (slq_of3 (hd_new w1 [.int .u64 ((zl fa.num : Nat) : Int), .string (zh fa.num), .bool (zs fa.num), .int .u64 ((lo (fe fa) : Nat) : Int), .string (hs (fe fa)), .int .u64 ((zl fb.num : Nat) : Int), .string (zh fb.num), .bool (zs fb.num), .int .u64 ((lo (fe fb) : Nat) : Int), .string (hs (fe fb)), .int .u64 ((zl fc.num : Nat) : Int), .string (zh fc.num), .bool (zs fc.num), .int .u64 ((lo (fe fc) : Nat) : Int), .string (hs (fe fc))] _))
   ·have h16 : (PV8 [fa, fb, fc]) (fv 16) w1 := hp 16 (LC (by kernel_rfl))
    refine tyAt_none rfl ?_
    refine ty_call (f := 14) (args := #[fv 16]) (by simp [execOp, go_sem, Act.eval]) ?_
    exact (S1.out (fv 16) w1 h16).mono fun e w2 ⟨h1, h2⟩ => ⟨_, h1, rfl, h2⟩
   ·have h0 : EV _ (fv 0) w1 := hp 0 (LC (by kernel_rfl))
    have h17 : EV _ (fv 17) w1 := hp 17 (LC (by kernel_rfl))
    refine tyAt_none rfl ?_
    simp [tyUpon, execOp, go_sem, Act.eval, h0, h17, Below.refl]
   ·have h18 : EV _ (fv 18) w1 := hp 18 (LC (by kernel_rfl))
    refine tyAt_none rfl ?_
    simp [tyUpon, execOp, go_sem, Act.eval, h18, Below.refl]
   ·have h19 : EV _ (fv 19) w1 := hp 19 (LC (by kernel_rfl))
    refine tyAt_yes (by simp [Region.wanted, yielded, h19]) ?_
    refine ty_call (f := 7) (args := #[]) (by simp [execOp, go_sem, Act.eval, h19]) ?_
    exact (HW.out w1 (hKT.out.at ((hL0.call (below_drew hb1)).bl) kKT)).mono fun e w2 ⟨h1, h2⟩ => ⟨_, h1, rfl, h2⟩
   ·have h19 : EV _ (fv 19) w1 := hp 19 (LC (by kernel_rfl))
    have h20 : EV _ (fv 20) w1 := hp 20 (LC (by kernel_rfl))
    refine tyAt_none rfl ?_
    simp [tyUpon, execOp, go_sem, Act.eval, h19, h20, Below.refl]
   ·have h21 : EV _ (fv 21) w1 := hp 21 (LC (by kernel_rfl))
    refine tyAt_none rfl ?_
    simp [tyUpon, execOp, go_sem, Act.eval, h21, Below.refl]
  ·intro fv x7 hb1 hv
   have e0 : fv 0 = _ := hv 0 (by omega)
   have e1 : fv 1 = _ := hv 1 (by omega)
   have e2 : fv 2 = _ := hv 2 (by omega)
   have e3 : fv 3 = _ := hv 3 (by omega)
   have e4 : fv 4 = _ := hv 4 (by omega)
   have e5 : fv 5 = _ := hv 5 (by omega)
   have e6 : fv 6 = _ := hv 6 (by omega)
   have e7 : fv 7 = _ := hv 7 (by omega)
   have e8 : fv 8 = _ := hv 8 (by omega)
   have e9 : fv 9 = _ := hv 9 (by omega)
   have e10 : fv 10 = _ := hv 10 (by omega)
   have e11 : fv 11 = _ := hv 11 (by omega)
   have e12 : fv 12 = _ := hv 12 (by omega)
   have e13 : fv 13 = _ := hv 13 (by omega)
   have e14 : fv 14 = _ := hv 14 (by omega)
   have e15 : fv 15 = _ := hv 15 (by omega)
   have q16 : SlQ x7 (fv 16) ([fa, fb, fc]) := hv 16 (by omega)
   obtain ⟨g6, d6, g6c, e16⟩ := slq_form8 q16
   rw [e16] at q16
   have e17 : fv 17 = _ := hv 17 (by omega)
   have e18 : fv 18 = _ := hv 18 (by omega)
   have e19 : fv 19 = _ := hv 19 (by omega)
   have e20 : fv 20 = _ := hv 20 (by omega)
   have e21 : fv 21 = _ := hv 21 (by omega)
   have e22 : fv 22 = _ := hv 22 (by omega)
   simp only [List.take_succ_cons, List.take_zero, putsV, Act.put, zP, List.drop_succ_cons, List.drop_zero, Nat.zero_add, Nat.reduceAdd, e0, e1, e2, e3, e4, e5, e6, e7, e8, e9, e10, e11, e12, e13, e14, e15, e16, e17, e18, e19, e20, e21, e22]
   replace hL0 := hL0.call (below_drew hb1)
   replace hT := hT.call (below_drew hb1)
   clear e0 e1 e2 e3 e4 e5 e6 e7 e8 e9 e10 e11 e12 e13 e14 e15 e16 e17 e18 e19 e20 e21 e22 hb1 hv q16 fv
   go_wp2_with fail
   exact bodyPost_ret (v := .bool true) (by simp [results, Tryz.results3, go_sem]) rfl ⟨rfl, hL0.bl⟩
end Go.Proofs.YtkdbhacimoaohaaGreatDoor
namespace Go.Proofs.YtkdbhacimoaohaaGreatDoor
open Go.RowKit
attribute [local irreducible] lo hs sm s64 c64 d64 b64 mh ml pd pc qd qc val hiB str cmpI srD lz nb zl zh zs fe klT ordZ Bs
theorem qsum_three9 (a b c : Rat) : qsum [a, b, c] = a + b + c := by
 show ((0 + a) + b) + c = _
 rw [Rat.zero_add]
theorem sum39 {a b c : Rat} {k : Nat} (ha : Sz a k) (hb : Sz b k) (hc : Sz c k) (hk : k ≤ 2000000) (v : Value) (w : World) (h : SlQ w v [a, b, c]) :
  Calls Tryz.prog 14 #[v] w fun xe w' => xe = .returned (fracV (a + b + c)) ∧ Below w.heap.size w w' := by
 have := sumGB [a, b, c] k (by simp; omega) (by omega) (fun q hq => by simp only [List.mem_cons, List.not_mem_nil, or_false] at hq; rcases hq with rfl | rfl | rfl <;> assumption) (by simp) v w h
 rwa [qsum_three9] at this
theorem igauss_any (l m : List RI) (hl : RO l) (hm : RO m) (iun iud ium iue ivn ivd ivm ive iwn iwd iwm iwe : Int) (bu : PB9 iun iud ium iue) (bv : PB9 ivn ivd ivm ive) (bw : PB9 iwn iwd iwm iwe) (al am : Option Addr) (nl cl nm cm : Nat) (w : World) (hv : RW8 w (.slice al nl cl) l) (hu : RW8 w (.slice am nm cm) m) (ht : Tab w) :
  Calls Tryz.prog 3 #[.slice al nl cl, .slice am nm cm, .agg #[.int .i64 iun, .int .u32 iud, .int .i64 ium, .int .u32 iue], .agg #[.int .i64 ivn, .int .u32 ivd, .int .i64 ivm, .int .u32 ive], .agg #[.int .i64 iwn, .int .u32 iwd, .int .i64 iwm, .int .u32 iwe]] w fun e w' => e = .returned (.bool true) ∧ Below w.heap.size w w' := by
 have n1 := (rt_parts hv).1
 have n2 := (rt_parts hu).1
 by_cases g1 : 8 < nl
 ·exact igauss_l1 al am nl cl nm cm iun iud ium iue ivn ivd ivm ive iwn iwd iwm iwe Tab Keeps.tab works9_any (decide_eq_true (by omega)) (decide_eq_true g1) w ht
 by_cases g2 : 8 < nm
 ·exact igauss_l2 al am nl cl nm cm iun iud ium iue ivn ivd ivm ive iwn iwd iwm iwe Tab Keeps.tab works9_any (decide_eq_false (by omega)) (decide_eq_false g1) (decide_eq_true (by omega)) (decide_eq_true g2) w ht
 have ga := made_gp hl (by omega) (D := 5) (by omega)
 have gb := made_gp hm (by omega) (D := 5) (by omega)
 have hA := fun w hv => made_any hl (by omega) (D := 5) (by omega) al nl cl w hv
 have hB := fun w hv => made_any hm (by omega) (D := 5) (by omega) am nm cm w hv
 generalize nrm (madeL l 5) = A at ga hA
 generalize nrm (madeL m 5) = B at gb hB
 have ou := fun w => pofG bu w
 have qu := ps_pq bu
 generalize pq9 iun iud ium iue = U at ou qu
 have ov := fun w => pofG bv w
 have qv := ps_pq bv
 generalize pq9 ivn ivd ivm ive = V at ov qv
 have ow := fun w => pofG bw w
 have qw := ps_pq bw
 generalize pq9 iwn iwd iwm iwe = W at ow qw
 have f1 : Fit 6 3 37 5 2000 := ⟨by omega, by omega, by omega, by omega, by omega, by omega, by unfold shK; omega, by omega⟩
 have f2 : Fit 6 3 17 5 1200 := ⟨by omega, by omega, by omega, by omega, by omega, by omega, by unfold shK; omega, by omega⟩
 have gx := ga.dx (by omega)
 have gy := gb.dy (by omega)
 have gs := (gx.add gy).mono (show max 5 5 ≤ 5 by omega) (show 17 + 1 + (17 + 1) + 1 ≤ 37 by omega)
 have z1 := (flow_sz (k := 1) f2 f2 ga gb qu qv).mono (show 339 * (1200 + 62) ≤ 500000 by omega)
 have z2 := (flow_sz (k := 1) f2 f2 ga gb qv qw).mono (show 339 * (1200 + 62) ≤ 500000 by omega)
 have z3 := (flow_sz (k := 1) f2 f2 ga gb qw qu).mono (show 339 * (1200 + 62) ≤ 500000 by omega)
 have e : flowV A B U V + flowV A B V W + flowV A B W U = triV (addN (dxN A) (dyN B)) U V W :=
  (gauss A B U V W).symm.trans (triV_eqv ((addN_eqv _ _).trans (add_eqv (dxN_eqv A) (dyN_eqv B))) U V W).symm
 refine igauss_w al am nl cl nm cm iun iud ium iue ivn ivd ivm ive iwn iwd iwm iwe (ofL A) (ofL B) (ofL (dxN A)) (ofL (dyN B)) (ofL (addN (dxN A) (dyN B))) U.x U.y V.x V.y W.x W.y (triV (addN (dxN A) (dyN B)) U V W) (flowV A B U V) (flowV A B V W) (flowV A B W U)
  (fun w => RW8 w (.slice al nl cl) l) (rtKeeps _ _) hA (fun w => RW8 w (.slice am nm cm) m) (rtKeeps _ _) hB
  ou ov ow
  (fun p w h => dxG ga (by omega) (by omega) w p h)
  (fun p w h => dyG gb (by omega) (by omega) w p h)
  (fun p q w h g => addG gx gy (by omega) (by omega) (by omega) w p q h g)
  (fun p w h => triG (k := 1) f1 gs qu qv qw w p h)
  (fun p q w h g => flowG (k := 1) f2 f2 ga gb qu qv w p q h g) (fun p q w h g => flowG (k := 1) f2 f2 ga gb qv qw w p q h g) (fun p q w h g => flowG (k := 1) f2 f2 ga gb qw qu w p q h g)
  (fun v w h => by have := sum39 z1 z2 z3 (by omega) v w h; rwa [e] at this)
  Tab Keeps.tab works9_any (decide_eq_false (by omega)) (decide_eq_false g1) (decide_eq_false (by omega)) (decide_eq_false g2) w hv hu ht
end Go.Proofs.YtkdbhacimoaohaaGreatDoor
namespace Go.Proofs.YtkdbhacimoaohaaGreatDoor
open Go.ChangeShapes Go.WideShapes Go.ChangeAt Go.RowKit Go.Joins
section
variable {H : Type} {enc : TypeId × Value → H} {P : Program} {w : World} {base : Nat} {spare : Nat → Bool} {held : Bool}
theorem trodAll_five {t t1 t2 t3 t4 : TypeId} {args : Array Value} {ds : List (DataW H)} {ps : List MemPlace} (h : DataW.TrodAll enc P w base spare held [t, t1, t2, t3, t4] args.toList ds ps) :
  ∃ v v1 v2 v3 v4 d d1 d2 d3 d4 p p1 p2 p3 p4, args = #[v, v1, v2, v3, v4] ∧ ds = [d, d1, d2, d3, d4] ∧ ps = p ++ p1 ++ p2 ++ p3 ++ p4 ∧ DataW.Trod enc P w base spare held t v d p ∧ DataW.Trod enc P w base spare held t1 v1 d1 p1 ∧ DataW.Trod enc P w base spare held t2 v2 d2 p2 ∧ DataW.Trod enc P w base spare held t3 v3 d3 p3 ∧ DataW.Trod enc P w base spare held t4 v4 d4 p4 := by
 obtain ⟨v, vs, d, ds1, p, q, hargs, rfl, rfl, hd, hr⟩ := trodAll_cons h
 obtain ⟨v1, vs1, d1, ds2, p1, q1, rfl, rfl, rfl, hd1, hr1⟩ := trodAll_cons hr
 obtain ⟨v2, vs2, d2, ds3, p2, q2, rfl, rfl, rfl, hd2, hr2⟩ := trodAll_cons hr1
 obtain ⟨v3, vs3, d3, ds4, p3, q3, rfl, rfl, rfl, hd3, hr3⟩ := trodAll_cons hr2
 obtain ⟨v4, vs4, d4, ds5, p4, q4, rfl, rfl, rfl, hd4, hr4⟩ := trodAll_cons hr3
 obtain ⟨rfl, rfl, rfl⟩ := trodAll_nil hr4
 exact ⟨v, v1, v2, v3, v4, d, d1, d2, d3, d4, p, p1, p2, p3, p4, by cases args; simp_all, rfl, by simp, hd, hd1, hd2, hd3, hd4⟩
end
end Go.Proofs.YtkdbhacimoaohaaGreatDoor
