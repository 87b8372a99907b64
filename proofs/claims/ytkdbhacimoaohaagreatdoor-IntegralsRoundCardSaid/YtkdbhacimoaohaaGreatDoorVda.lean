/-
  The law answers true at every input, and leaves its arguments as they were: a part of the proof. CONDITIONS: the package-level tables start as the program's text lays them (the card ties them).
-/
import Derived.Test.YtkdbhacimoaohaaGreatDoorZae
set_option linter.unusedVariables false
set_option linter.unusedSimpArgs false
set_option maxHeartbeats 16000000
set_option maxRecDepth 100000
namespace Go.Proofs.YtkdbhacimoaohaaGreatDoor
open Go.RowKit
theorem frV_zero : frV 0 0 = fracV 0 := rfl
theorem put_frac (i0 i : Int) (s0 s : ByteArray) (b0 b : Bool) (j0 j : Int) (t0 t : ByteArray) (w : World) (k : Nat) (h : Hd w k [.int .u64 i0, .string s0, .bool b0, .int .u64 j0, .string t0]) :
  ∃ w', (Instr.storeAt 38 (.pointer (some ⟨k, 0, none⟩)) (.agg #[.int .u64 i, .string s, .bool b, .int .u64 j, .string t])).run Tryz.prog w = .ok () w' ∧ Hd w' k [.int .u64 i, .string s, .bool b, .int .u64 j, .string t] ∧ Upd k w w' := by
 have h0 : w.cell? ⟨k, 0, none⟩ = some (.int .u64 i0) := h.cell 0 (by simp)
 have h1 : w.cell? ⟨k, 1, none⟩ = some (.string s0) := h.cell 1 (by simp)
 have h2 : w.cell? ⟨k, 2, none⟩ = some (.bool b0) := h.cell 2 (by simp)
 have h3 : w.cell? ⟨k, 3, none⟩ = some (.int .u64 j0) := h.cell 3 (by simp)
 have h4 : w.cell? ⟨k, 4, none⟩ = some (.string t0) := h.cell 4 (by simp)
 have hf := h.frz
 refine ⟨_, ?_, setAll_hd [.int .u64 i, .string s, .bool b, .int .u64 j, .string t] 0 w k [] [.int .u64 i0, .string s0, .bool b0, .int .u64 j0, .string t0] rfl rfl h, ((((((Upd.refl k w).setCell 0 _).setCell 1 _).setCell 2 _).setCell 3 _).setCell 4 _)⟩
 simp [go_sem, Instr.storeAt, Instr.sureAddr, h0, h1, h2, h3, h4, hf, setAll]
end Go.Proofs.YtkdbhacimoaohaaGreatDoor
namespace Go.Proofs.YtkdbhacimoaohaaGreatDoor
open Go.RowKit
theorem pow_x : ∀ i, Eqv (powL [(1, 0, 1)] i) [(i, 0, 1)]
 | 0 => Eqv.refl _
 | i + 1 => fun F => by
  show pair (prodL (powL [(1, 0, 1)] i) [(1, 0, 1)]) F = _
  rw [prod_eqv (pow_x i) (Eqv.refl _) F, pair_prod]
  simp only [pair, Nat.add_zero]; grind
end Go.Proofs.YtkdbhacimoaohaaGreatDoor
namespace Go.Proofs.YtkdbhacimoaohaaGreatDoor
open Go.RowKit
theorem dyF_split (F : Nat → Nat → Rat) (i j k l : Nat) : dyF F (i + k) (j + l) = ((j : Nat) : Rat) * F (i + k) (j - 1 + l) + ((l : Nat) : Rat) * F (i + k) (j + (l - 1)) := by
 have h := dxF_split (fun a b => F b a) j i l k
 unfold dxF at h
 unfold dyF
 exact h
theorem dy_prod (p q : TL) : Eqv (dyL (prodL p q)) (prodL (dyL p) q ++ prodL p (dyL q)) := fun F => by
 rw [pair_dy, pair_prod, pair_append, pair_prod, pair_prod, pair_dy, ← pair_add]
 refine congrArg (pair p) (funext fun i => funext fun j => ?_)
 rw [pair_dy]
 show pair q (fun k l => dyF F (i + k) (j + l)) = ((j : Nat) : Rat) * pair q (fun k l => F (i + k) (j - 1 + l)) + pair q (dyF fun k l => F (i + k) (j + l))
 rw [← pair_mul, ← pair_add]
 exact congrArg (pair q) (funext fun k => funext fun l => dyF_split F i j k l)
theorem dyF_zero (F : Nat → Nat → Rat) : dyF F 0 0 = 0 := by unfold dyF; first | (simp; done) | (simp; grind)
theorem dy_lin (a b c : Rat) : Eqv (dyL (linL a b c)) [(0, 0, b)] := fun F => by
 rw [pair_dy]; unfold linL dyF; simp only [pair]; first | (simp; done) | (simp; grind)
theorem chain_y (p : TL) (a b c d f g : Rat) : Eqv (dyL (subL p (linL a b c) (linL d f g))) (scaleL b (subL (dxL p) (linL a b c) (linL d f g)) ++ scaleL f (subL (dyL p) (linL a b c) (linL d f g))) :=
 chain dyL dyF pair_dy dyF_zero dy_prod (dy_lin a b c) (dy_lin d f g) p
end Go.Proofs.YtkdbhacimoaohaaGreatDoor
namespace Go.Proofs.YtkdbhacimoaohaaGreatDoor
open Go.RowKit
attribute [local irreducible] lo hs sm s64 c64 d64 b64 mh ml pd pc qd qc val hiB str cmpI srD lz nb zl zh zs
end Go.Proofs.YtkdbhacimoaohaaGreatDoor
namespace Go.Proofs.YtkdbhacimoaohaaGreatDoor
open Go.RowKit
attribute [local irreducible] lo hs sm s64 c64 d64 b64 mh ml pd pc qd qc val hiB str cmpI srD lz nb zl zh zs dval
theorem dI_small {z : Int} (h : z.natAbs < Bs) : dI z ≤ 1 := digs_length_iff.2 (by rw [Nat.pow_one]; exact h)
end Go.Proofs.YtkdbhacimoaohaaGreatDoor
namespace Go.Proofs.YtkdbhacimoaohaaGreatDoor
open Go.RowKit
attribute [local irreducible] lo hs zl zh zs
end Go.Proofs.YtkdbhacimoaohaaGreatDoor
namespace Go.Proofs.YtkdbhacimoaohaaGreatDoor
open Go.RowKit
attribute [local irreducible] lo hs sm s64 c64 d64 b64 mh ml pd pc qd qc val hiB str cmpI srD lz nb zl zh zs
theorem fneg_w (n m : Int) (e : Nat) (HN : RT 52 #[intV n] (intV m)) (w : World) :
  Calls Tryz.prog 17 #[frV n e] w fun xe w' => xe = .returned (frV m e) ∧ Below w.heap.size w w' := by
 have hL0 : GL w w [] := GL.start w
 replace HN := Lib.hid HN
 obtain ⟨x1, hweq, hL0⟩ := GL.named ((hL0.new rfl [.int .u64 ((zl n : Nat) : Int), .string (zh n), .bool (zs n), .int .u64 ((lo e : Nat) : Int), .string (hs e)] 38).new (K := w.heap.size + 1) (szA _ _) [.int .u64 0, .string ⟨#[]⟩, .bool false, .int .u64 0, .string ⟨#[]⟩] 38)
 go_enter Tryz.func17, Tryz.ntmps17
 go_upto_region 1 with fail
 clear hweq
 obtain ⟨α, iα, F, hF1, hF2⟩ := cls x1
 have hq0 := cls_box hF1 hL0 _ _ (mK mZ)
 simp only [zC, Nat.reduceAdd] at hq0
 refine region_qs 6 (C := fun w' => ∃ x, w' = F x) (by kernel_rfl) (by kernel_rfl) (cls_drew hF2) ?_
 simp only [zT]
 repeat (go_big_quiet_step (first | fail | (go_at_call 52; with_reducible exact cls_call hF1 hF2 HN.out _)))
 refine wpQuiet_nil ?_
 rintro wq ⟨xq, rfl⟩
 replace hL0 := hL0.call (hF1 xq)
 clear  hq0 hF2
 generalize F xq = x2 at hL0 ⊢
 clear hF1 xq iα F α
 have hA := hL0.fc
 simp only [zF, Nat.reduceAdd] at hA
 obtain ⟨x3, hput1, hP⟩ := GL.named (hL0.put 0 (w.heap.size + 1) _ rfl [.int .u64 ((zl m : Nat) : Int), .string (zh m), .bool (zs m), .int .u64 ((lo e : Nat) : Int), .string (hs e)] rfl)
 simp only [setAll] at hput1
 simp only [List.set_cons_zero, List.set_cons_succ] at hP
 have hB1 := hP.fc
 simp only [zF, Nat.reduceAdd] at hB1
 replace hL0 := hP
 go_wp2_with fail
 exact bodyPost_ret (v := frV m e) (by simp [results, Tryz.results17, go_sem, hB1]) rfl ⟨rfl, hL0.bl⟩
end Go.Proofs.YtkdbhacimoaohaaGreatDoor
namespace Go.Proofs.YtkdbhacimoaohaaGreatDoor
open Go.RowKit
attribute [local irreducible] lo hs sm s64 c64 d64 b64 mh ml pd pc qd qc val hiB str cmpI srD lz nb zl zh zs
theorem negF (q : Rat) (w : World) : Calls Tryz.prog 17 #[fracV q] w fun x w' => x = .returned (fracV (-q)) ∧ Below w.heap.size w w' := fneg_w q.num (-q.num) (fe q) (fun w => negI q.num w) w
theorem frV_00 : frV 0 0 = .agg #[.int .u64 0, .string ⟨#[]⟩, .bool false, .int .u64 0, .string ⟨#[]⟩] := by
 rw [frV_z, (z0).1, (z0).2.1, (z0).2.2]; rfl
end Go.Proofs.YtkdbhacimoaohaaGreatDoor
namespace Go.Proofs.YtkdbhacimoaohaaGreatDoor
open Go.RowKit
attribute [local irreducible] lo hs sm s64 c64 d64 b64 mh ml pd pc qd qc val hiB str cmpI srD lz nb zl zh zs fe klT ordZ
theorem ptrans_w (l : List TI) (P : TL) (R : List TI) (G : TI → TI) (f : FuncId) (ao : Option Addr) (n c : Nat) (hPl : P.length ≤ 10000) (K : World → Prop) (hK : Keeps K)
  (eg : ∀ args w, (callFunc f args).run Tryz.prog w = .ok (.enter f args) w)
  (HN : ∀ w : World, PT w (.slice ao n c) l → Calls Tryz.prog 43 #[.slice ao n c] w fun xe w' => ∃ v', xe = .returned v' ∧ PT w' v' (ofL P) ∧ Below w.heap.size w w')
  (HT : ∀ t ∈ ofL P, ∀ w : World, K w → Calls Tryz.prog f #[tmV t.1 t.2.1 t.2.2] w fun xe w' => xe = .returned (tmV (G t).1 (G t).2.1 (G t).2.2) ∧ Below w.heap.size w w')
  (HS : ∀ (v : Value) (w : World), PT w v ((ofL P).map G) → Calls Tryz.prog 41 #[v] w fun xe w' => ∃ v', xe = .returned v' ∧ PT w' v' R ∧ Below w.heap.size w w')
  (w : World) (hq : PT w (.slice ao n c) l) (kK : K w) :
  Calls Tryz.prog 44 #[.slice ao n c, .func (.func f) #[] #[]] w fun xe w' => ∃ v', xe = .returned v' ∧ PT w' v' R ∧ Below w.heap.size w w' := by
 replace HN := Lib.hid HN
 replace HT := Lib.hid HT
 replace hq := Lib.hid hq
 replace hPl := Lib.hid hPl
 replace kK := Lib.hid kK
 replace hK := Lib.hid hK
 obtain ⟨MG, hMG⟩ : ∃ MG, MG = (ofL P).map G := ⟨_, rfl⟩
 rw [← hMG] at HS
 replace hMG := Lib.hid hMG
 replace HS := Lib.hid HS
 go_enter Tryz.func44, Tryz.ntmps44
 go_wp2_with fail
 with_reducible refine Calls.mono (HN.out w hq.out) ?_
 rintro e y1 ⟨v, rfl, hpt, hb⟩
 have kK1 := Lib.hid (hK.out.at hb kK.out)
 obtain ⟨a2, n2, c2, rfl, hn2⟩ := pt_form hpt
 have hpp := Lib.hid (pt_parts hpt).2
 have hnl : n2 = (ofL P).length := hn2
 have hnb : n2 ≤ 10000 := by rw [hnl, ofL_length]; exact hPl.out
 replace hnl := Lib.hid hnl
 replace hb := Lib.hid hb
 clear hn2 hpt
 go_wp2_with fail
 go_loopg [5, 11] n2 (fun gk sv iv wr => ∃ (k : Nat) (zi : Int), k + gk = n2 ∧ iv = .int .i64 zi ∧ zi = (k : Int) ∧ OwnT wr y1.heap.size sv k (MG.take k) ∧ Below y1.heap.size y1 wr)
 case atStart => exact ⟨0, 0, Nat.zero_add n2, by first | rfl | go_num, rfl, World.ownsRow_nil _ _ _ _, Below.refl _ _⟩
 case round =>
  obtain ⟨k, zi, hik, rfl, hzi, hown, hB⟩ := hrel
  replace hown := Lib.hid hown
  rcases Nat.lt_or_ge k n2 with hin | hin
  ·subst hzi
   have hko : k < (ofL P).length := by rw [← hnl.out]; exact hin
   obtain ⟨g, rfl, hts⟩ := hpp.out (by omega)
   have hf := (hts.below hB).cell k hko
   have k1 : (k : Int) < (n2 : Int) := by omega
   have k0 : (0 : Int) ≤ (k : Int) := Int.natCast_nonneg _
   have HT1 := HT.out _ (List.getElem_mem hko)
   have htk : MG.take (k + 1) = MG.take k ++ [G (ofL P)[k]] := by rw [hMG.out, ← List.map_take, ← List.map_take, List.take_succ_eq_append_getElem hko, List.map_append]; rfl
   obtain ⟨a, b, q, hP⟩ : ∃ a b q, (ofL P)[k] = (a, b, q) := ⟨_, _, _, rfl⟩
   rw [hP] at HT1 htk hf
   obtain ⟨a3, b3, q3, hG⟩ : ∃ a3 b3 q3, G (a, b, q) = (a3, b3, q3) := ⟨_, _, _, rfl⟩
   rw [hG] at HT1 htk
   simp only at hf
   replace htk := Lib.hid htk
   replace HT1 := Lib.hid HT1
   replace hP := Lib.hid hP
   replace hG := Lib.hid hG
   clear hts
   obtain ⟨f0, f1, f2, f3, f4, f5, f6⟩ := hf
   have hL0 : GL wr wr [] := GL.start wr
   replace hL0 := hL0.new rfl [.int .i64 a, .int .i64 b, .int .u64 ((zl q.num : Nat) : Int), .string (zh q.num), .bool (zs q.num), .int .u64 ((lo (fe q) : Nat) : Int), .string (hs (fe q))] 80
   generalize hweq : wr.alloc (.cells #[.int .i64 a, .int .i64 b, .int .u64 ((zl q.num : Nat) : Int), .string (zh q.num), .bool (zs q.num), .int .u64 ((lo (fe q) : Nat) : Int), .string (hs (fe q))] 80) = y2 at hL0
   have hN0 := cells_of _ 0 [] rfl (hL0.get _ _ mZ)
   simp only [zF, Nat.reduceAdd] at hN0
   go_wp2_with fail
   have kK2 := hK.out.at (hB.trans (hL0.bl.mono hB.size)) kK1.out
   with_reducible refine Calls.mono (HT1.out _ kK2) ?_
   rintro e y3 ⟨rfl, hb3⟩
   replace hL0 := hL0.call hb3
   clear hb3 hN0 hweq kK2 f0 f1 f2 f3 f4 f5 f6
   have hown3 := Lib.hid (ownT_below hown.out hL0.bl)
   have hB3 := Lib.hid (hB.trans (hL0.bl.mono hB.size))
   have hL1 : GL y3 y3 [] := GL.start y3
   replace hL1 := hL1.new rfl [.int .i64 a3, .int .i64 b3, .int .u64 ((zl q3.num : Nat) : Int), .string (zh q3.num), .bool (zs q3.num), .int .u64 ((lo (fe q3) : Nat) : Int), .string (hs (fe q3))] 80
   generalize hweq : y3.alloc (.cells #[.int .i64 a3, .int .i64 b3, .int .u64 ((zl q3.num : Nat) : Int), .string (zh q3.num), .bool (zs q3.num), .int .u64 ((lo (fe q3) : Nat) : Int), .string (hs (fe q3))] 80) = y4 at hL1
   have hown4 := Lib.hid (ownT_below hown3.out hL1.bl)
   have hB4 := Lib.hid (hB3.out.trans (hL1.bl.mono hB3.out.size))
   have hH := Lib.hid (hL1.get _ _ mZ)
   go_wp2_with (at_builtin; refine wp_append1 rfl _ _ rfl _ _ _ _ rfl hown4.out _ (a3, b3, q3) rfl hH.out (by omega) hB4.out.size ?_)
   intro v' w5 hown5 hgrow _
   have hB5 := hB4.out.grown hgrow hB4.out.size (fun j hj => (hown4.out.lt j hj).1)
   rw [← htk.out] at hown5
   replace hown5 := Lib.hid hown5
   clear hgrow hown4 hB4 hown3 hB3 hH hweq
   go_wp2_with fail
   go_roundg (gk - 1)
   case measure => omega
   case rel => exact ⟨k + 1, _, by omega, by first | rfl | go_num, by omega, hown5.out, hB5⟩
  ·obtain rfl : k = n2 := by omega
   subst hzi
   have k1 : ¬ (k : Int) < (k : Int) := by omega
   have hml : MG.length = k := by rw [hMG.out, List.length_map, ← hnl.out]
   rw [List.take_of_length_le (Nat.le_of_eq hml)] at hown
   have hpt := ownT_pt hown.out hml.symm
   replace hpt := Lib.hid hpt
   go_wp2_with (go_at_call 41; with_reducible refine Calls.mono (HS.out _ _ hpt.out) ?_; rintro e y2 ⟨v2, rfl, hp2, hb2⟩; replace hp2 := Lib.hid hp2; replace hb2 := Lib.hid hb2)
   go_ret
   exact ⟨_, rfl, hp2.out, hb.out.trans ((hB.trans (hb2.out.mono hB.size)).mono hb.out.size)⟩
end Go.Proofs.YtkdbhacimoaohaaGreatDoor
namespace Go.Proofs.YtkdbhacimoaohaaGreatDoor
open Go.RowKit
attribute [local irreducible] lo hs sm s64 c64 d64 b64 mh ml pd pc qd qc val hiB str cmpI srD lz nb zl zh zs fe klT ordZ
theorem ptimes_w (n : Int) (p k r : Rat) (HI : ∀ w, Calls Tryz.prog 20 #[.int .i64 n] w fun xe w' => xe = .returned (fracV k) ∧ Below w.heap.size w w') (HM : ∀ w, Calls Tryz.prog 24 #[fracV k, fracV p] w fun xe w' => xe = .returned (fracV r) ∧ Below w.heap.size w w') (w : World) :
  Calls Tryz.prog 46 #[.int .i64 n, fracV p] w fun xe w' => xe = .returned (fracV r) ∧ Below w.heap.size w w' := by
 have hL0 : GL w w [] := GL.start w
 replace HI := Lib.hid HI
 replace HM := Lib.hid HM
 obtain ⟨x1, hweq, hL0⟩ := GL.named ((hL0.new rfl [.int .u64 ((zl p.num : Nat) : Int), .string (zh p.num), .bool (zs p.num), .int .u64 ((lo (fe p) : Nat) : Int), .string (hs (fe p))] 38).new (K := w.heap.size + 1) (szA _ _) [.int .u64 0, .string ⟨#[]⟩, .bool false, .int .u64 0, .string ⟨#[]⟩] 38)
 go_enter Tryz.func46, Tryz.ntmps46
 go_upto_region 1 with fail
 clear hweq
 obtain ⟨α, iα, F, hF1, hF2⟩ := cls x1
 have hq0 := cls_box hF1 hL0 _ _ (mK mZ)
 simp only [zC, Nat.reduceAdd] at hq0
 refine region_qs 4 (C := fun w' => ∃ x, w' = F x) (by kernel_rfl) (by kernel_rfl) (cls_drew hF2) ?_
 simp only [zT]
 repeat (go_big_quiet_step (first | fail | (go_at_call 20; with_reducible exact cls_call hF1 hF2 HI.out _) | (go_at_call 24; with_reducible exact cls_call hF1 hF2 HM.out _)))
 refine wpQuiet_nil ?_
 rintro wq ⟨xq, rfl⟩
 replace hL0 := hL0.call (hF1 xq)
 clear  hq0 hF2
 generalize F xq = x2 at hL0 ⊢
 clear hF1 xq iα F α
 have hA := hL0.fc
 simp only [zF, Nat.reduceAdd] at hA
 obtain ⟨x3, hput1, hP⟩ := GL.named (hL0.put 0 (w.heap.size + 1) _ rfl [.int .u64 ((zl r.num : Nat) : Int), .string (zh r.num), .bool (zs r.num), .int .u64 ((lo (fe r) : Nat) : Int), .string (hs (fe r))] rfl)
 simp only [setAll] at hput1
 simp only [List.set_cons_zero, List.set_cons_succ] at hP
 have hB1 := hP.fc
 simp only [zF, Nat.reduceAdd] at hB1
 replace hL0 := hP
 go_wp2_with fail
 exact bodyPost_ret (v := .agg #[.int .u64 ((zl r.num : Nat) : Int), .string (zh r.num), .bool (zs r.num), .int .u64 ((lo (fe r) : Nat) : Int), .string (hs (fe r))]) (by simp [results, Tryz.results46, go_sem, hB1]) rfl ⟨rfl, hL0.bl⟩
theorem pdx1_w (i j m mx : Int) (q r : Rat) (HT : ∀ w, Calls Tryz.prog 46 #[.int .i64 i, fracV q] w fun xe w' => xe = .returned (fracV r) ∧ Below w.heap.size w w') (e1 : IntKind.i64.wrap (i - 1) = m) (e2 : wrap64 (i - 1) = m) (e3 : max m 0 = mx) (w : World) :
  Calls Tryz.prog 45 #[.agg #[.int .i64 i, .int .i64 j, .int .u64 ((zl q.num : Nat) : Int), .string (zh q.num), .bool (zs q.num), .int .u64 ((lo (fe q) : Nat) : Int), .string (hs (fe q))]] w fun xe w' => xe = .returned (.agg #[.int .i64 mx, .int .i64 j, .int .u64 ((zl r.num : Nat) : Int), .string (zh r.num), .bool (zs r.num), .int .u64 ((lo (fe r) : Nat) : Int), .string (hs (fe r))]) ∧ Below w.heap.size w w' := by
 have hL0 : GL w w [] := GL.start w
 replace HT := Lib.hid HT
 obtain ⟨x1, hweq, hL0⟩ := GL.named ((hL0.new rfl [.int .i64 i, .int .i64 j, .int .u64 ((zl q.num : Nat) : Int), .string (zh q.num), .bool (zs q.num), .int .u64 ((lo (fe q) : Nat) : Int), .string (hs (fe q))] 80).new (K := w.heap.size + 1) (szA _ _) [.int .i64 0, .int .i64 0, .int .u64 0, .string ⟨#[]⟩, .bool false, .int .u64 0, .string ⟨#[]⟩] 80)
 go_enter Tryz.func45, Tryz.ntmps45
 go_upto_region 1 with fail
 clear hweq
 obtain ⟨α, iα, F, hF1, hF2⟩ := cls x1
 have hq0 := cls_box hF1 hL0 _ _ (mK mZ)
 simp only [zC, Nat.reduceAdd] at hq0
 refine region_qs 12 (C := fun w' => ∃ x, w' = F x) (by kernel_rfl) (by kernel_rfl) (cls_drew hF2) ?_
 simp only [zT]
 repeat (go_big_quiet_step (first | fail | (go_at_call 46; with_reducible exact cls_call hF1 hF2 HT.out _)))
 refine wpQuiet_nil ?_
 rintro wq ⟨xq, rfl⟩
 replace hL0 := hL0.call (hF1 xq)
 clear  hq0 hF2
 generalize F xq = x2 at hL0 ⊢
 clear hF1 xq iα F α
 have hA := hL0.fc
 simp only [zF, Nat.reduceAdd] at hA
 obtain ⟨x3, hput1, hP⟩ := GL.named (hL0.put 0 (w.heap.size + 1) _ rfl [.int .i64 mx, .int .i64 j, .int .u64 ((zl r.num : Nat) : Int), .string (zh r.num), .bool (zs r.num), .int .u64 ((lo (fe r) : Nat) : Int), .string (hs (fe r))] rfl)
 simp only [setAll] at hput1
 simp only [List.set_cons_zero, List.set_cons_succ] at hP
 have hB1 := hP.fc
 simp only [zF, Nat.reduceAdd] at hB1
 replace hL0 := hP
 go_wp2_with fail
 exact bodyPost_ret (v := .agg #[.int .i64 mx, .int .i64 j, .int .u64 ((zl r.num : Nat) : Int), .string (zh r.num), .bool (zs r.num), .int .u64 ((lo (fe r) : Nat) : Int), .string (hs (fe r))]) (by simp [results, Tryz.results45, go_sem, hB1]) rfl ⟨rfl, hL0.bl⟩
theorem pdx_w (l r : List TI) (HT : ∀ (p0 : Value) (w : World), PT w p0 l → Calls Tryz.prog 44 #[p0, .func (.func 45) #[] #[]] w fun e w' => ∃ pv, e = .returned pv ∧ PT w' pv r ∧ Below w.heap.size w w') (p0 : Value) (w : World) (r0 : PT w p0 l) :
  Calls Tryz.prog 12 #[p0] w fun e w' => ∃ pv, e = .returned pv ∧ PT w' pv r ∧ Below w.heap.size w w' := by
 obtain ⟨a0, n0, c0, rfl, -⟩ := pt_form r0
 have f0 := Lib.hid r0
 clear r0
 replace HT := Lib.hid HT
 have hL0 : GL w w [] := GL.start w
 have hT : PTs w [] := PTs.nil w
 go_enter Tryz.func12, Tryz.ntmps12
 go_wp2_with fail
 with_reducible refine Calls.mono (HT.out (.slice a0 n0 c0) _ (PT.below f0.out hL0.bl)) ?_
 rintro e x1 ⟨v0, rfl, q0, hb⟩
 replace hL0 := hL0.call hb
 replace hT := hT.call hb
 clear hb
 obtain ⟨g1, d1, g1c, rfl, -⟩ := pt_form q0
 replace hT := hT.cons q0
 clear q0
 go_wp2_with fail
 exact bodyPost_ret (v := .slice g1 d1 g1c) (by simp [results, Tryz.results12, go_sem]) rfl ⟨_, rfl, (hT.get mZ), hL0.bl⟩
end Go.Proofs.YtkdbhacimoaohaaGreatDoor
namespace Go.Proofs.YtkdbhacimoaohaaGreatDoor
open Go.RowKit
attribute [local irreducible] lo hs sm s64 c64 d64 b64 mh ml pd pc qd qc val hiB str cmpI srD lz nb zl zh zs fe klT ordZ
theorem SzL.dx {p : TL} {d K : Nat} (h : SzL p K) (hb : TB p d) (hd : d ≤ 12) : SzL (dxL p) (K + 1) := by
 unfold dxL
 refine SzL.map 12 (by unfold Bs; omega) (fun t ht => ⟨t.1, ?_, rfl⟩) h
 have := hb t ht; omega
theorem tb_dx {p : TL} {d : Nat} (h : TB p d) : TB (dxL p) d := fun t ht => by
 obtain ⟨u, hu, rfl⟩ := List.mem_map.1 ht
 have := h u hu
 show u.1 - 1 + u.2.1 ≤ d
 omega
theorem GP.dx {p : TL} {d K : Nat} (h : GP p d K) (hd : d ≤ 12) : GP (dxN p) d (K + 1) := ⟨nfL_nf _, tb_nfL (tb_dx h.tb), (h.sz.dx h.tb hd).nf⟩
section
variable {p q : TL} {d K e M : Nat} {w : World} {v u : Value}
theorem map_dx (hb : TB p 12) : (ofL p).map (fun t : TI => (max (t.1 - 1) 0, t.2.1, (t.1 : Rat) * t.2.2)) = ofL (dxL p) := by
 unfold ofL dxL
 rw [List.map_map, List.map_map]
 refine List.map_congr_left fun t ht => ?_
 simp only [Function.comp_apply, ofT]
 refine Prod.ext ?_ (Prod.ext rfl ?_)
 ·simp only; omega
 ·simp only; rfl
theorem szI {i : Int} (h0 : 0 ≤ i) (h1 : i ≤ 12) : Sz (i : Rat) 1 := Sz.int (dI_small (by unfold Bs; omega)) (by omega)
theorem timesG {i : Int} {c : Rat} {k : Nat} (h0 : 0 ≤ i) (h1 : i ≤ 12) (hc : Sz c k) (hk : k ≤ 1000000) (w : World) : Calls Tryz.prog 46 #[.int .i64 i, fracV c] w fun xe w' => xe = .returned (fracV ((i : Rat) * c)) ∧ Below w.heap.size w w' :=
 ptimes_w i c (i : Rat) _ (fun w => intF i (by omega) (by omega) w) (fun w => mulF _ _ (k + 1) ((szI h0 h1).mono (by omega)) (hc.mono (by omega)) (by omega) w) w
theorem memo {t : TI} (ht : t ∈ ofL p) : ∃ s ∈ p, t = ofT s := by
 obtain ⟨s, hs, rfl⟩ := List.mem_map.1 ht
 exact ⟨s, hs, rfl⟩
theorem dxG (h : GP p d K) (hd : d ≤ 12) (hK : K ≤ 100000) (w : World) (v : Value) (hv : PT w v (ofL p)) : Calls Tryz.prog 12 #[v] w fun xe w' => ∃ v', xe = .returned v' ∧ PT w' v' (ofL (dxN p)) ∧ Below w.heap.size w w' := by
 have hl := h.len hd
 refine pdx_w (ofL p) (ofL (dxN p)) (fun a w ha => ?_) v w hv
 obtain ⟨ao, n, c, rfl, hn⟩ := pt_form ha
 refine ptrans_w (ofL p) p (ofL (dxN p)) (fun t : TI => (max (t.1 - 1) 0, t.2.1, (t.1 : Rat) * t.2.2)) 45 ao n c (by omega) (fun _ => True) (fun _ _ _ _ => trivial) (enters_of Tryz.func45 (by kernel_rfl) rfl) (fun w hq => normG h hd (by omega) w _ hq) (fun t ht w _ => ?_) (fun v w hv => ?_) w ha trivial
 ·obtain ⟨s, hs, rfl⟩ := memo ht
  have hb := h.tb s hs
  exact pdx1_w _ _ ((s.1 : Int) - 1) _ _ _ (fun w => timesG (by simp only [ofT]; omega) (by simp only [ofT]; omega) (h.sz.mem hs) (by omega) w) (by simp [IntKind.wrap, IntKind.bits, IntKind.signed, ofT]; omega) (by simp [wrap64, ofT]; omega) rfl w
 ·rw [map_dx (h.tb.mono hd)] at hv
  have := sumP (ofL (dxL p)) (K + 1) (vd_ofL.2 (tb_dx (h.tb.mono hd))) (by rw [toL_ofL]; exact h.sz.dx h.tb hd) (by omega) (by rw [ofL_length]; unfold dxL; rw [List.length_map]; omega) w v hv
  rwa [toL_ofL] at this
end
end Go.Proofs.YtkdbhacimoaohaaGreatDoor
namespace Go.Proofs.YtkdbhacimoaohaaGreatDoor
theorem seg_cut (q : TL) (s : Rat) : s * pair (subL q (linL s 0 0) yL) segF + (1 - s) * pair (subL q (linL (1 - s) 0 s) yL) segF = pair q segF := by
 rw [seg_sub, seg_sub, seg_int, show s + 0 = s by grind, show 1 - s + s = 1 by grind]; grind
def cutP (a b : Pt) (s : Rat) : Pt := ⟨a.x + s * (b.x - a.x), a.y + s * (b.y - a.y)⟩
theorem segV_cut (p : TL) (a b : Pt) (s : Rat) : s * segV p a (cutP a b s) + (1 - s) * segV p (cutP a b s) b = segV p a b := by
 unfold segV
 rw [← seg_cut (segL' p a b) s]
 unfold segL' cutP
 rw [sub_lin p _ _ _ _ _ _ _ _ _ _ _ _ segF, sub_lin p _ _ _ _ _ _ _ _ _ _ _ _ segF]
 congr 2
 ·refine sub_same p ?_ ?_ ?_ ?_ ?_ ?_ segF <;> grind
 ·refine sub_same p ?_ ?_ ?_ ?_ ?_ ?_ segF <;> grind
theorem flow_back (p q : TL) (a b : Pt) : flowV p q b a = -flowV p q a b := by unfold flowV; rw [segV_back p, segV_back q]; grind
theorem flow_cut (p q : TL) (a b : Pt) (s : Rat) : flowV p q a b = flowV p q a (cutP a b s) + flowV p q (cutP a b s) b := by
 have h1 := segV_cut p a b s
 have h2 := segV_cut q a b s
 unfold flowV
 rw [← h1, ← h2]
 simp only [cutP]
 grind
def sideF (i j : Nat) : Rat := ((fact i : Nat) : Rat) * ((fact j : Nat) : Rat) / ((fact (i + j + 1) : Nat) : Rat)
theorem div_of {a b c : Rat} (hb : b ≠ 0) (h : a = c * b) : a / b = c := by
 rw [h, Rat.div_def, Rat.mul_assoc, Rat.mul_inv_cancel _ hb, Rat.mul_one]
theorem dx_momF (i j : Nat) : dxF momF i j = 2 * (sideF i j - if i = 0 then 1 / (((j + 1 : Nat)) : Rat) else 0) := by
 unfold dxF momF sideF
 cases i with
 | zero =>
  rw [if_pos rfl]
  have e : ((fact 0 : Nat) : Rat) * ((fact j : Nat) : Rat) / ((fact (0 + j + 1) : Nat) : Rat) = 1 / (((j + 1 : Nat)) : Rat) := by
   refine div_of (fact_ne _) ?_
   rw [show 0 + j + 1 = j + 1 by omega, fact_succ, show ((fact 0 : Nat) : Rat) = 1 from rfl, Rat.mul_comm ((fact j : Nat) : Rat) (((j + 1 : Nat)) : Rat), ← Rat.mul_assoc, Rat.div_mul_cancel (natR_ne j)]
  rw [e]; simp; grind
 | succ n =>
  rw [if_neg (by omega)]
  show (((n + 1 : Nat)) : Rat) * (2 * ((fact n : Nat) : Rat) * ((fact j : Nat) : Rat) / ((fact (n + j + 2) : Nat) : Rat)) = 2 * (((fact (n + 1) : Nat) : Rat) * ((fact j : Nat) : Rat) / ((fact (n + 1 + j + 1) : Nat) : Rat) - 0)
  rw [show n + 1 + j + 1 = n + j + 2 by omega, Rat.div_def, Rat.div_def]
  generalize (((fact (n + j + 2) : Nat) : Rat))⁻¹ = v
  rw [fact_succ n]
  generalize (((n + 1 : Nat)) : Rat) = u
  generalize ((fact n : Nat) : Rat) = f
  generalize ((fact j : Nat) : Rat) = g
  grind
theorem mom_swap (i j : Nat) : momF i j = momF j i := by unfold momF; rw [show j + i + 2 = i + j + 2 by omega]; grind
theorem side_swap (i j : Nat) : sideF i j = sideF j i := by unfold sideF; rw [show j + i + 1 = i + j + 1 by omega]; grind
theorem dy_momF (i j : Nat) : dyF momF i j = 2 * (sideF i j - if j = 0 then 1 / (((i + 1 : Nat)) : Rat) else 0) := by
 rw [side_swap, ← dx_momF]
 unfold dyF dxF
 rw [mom_swap]
/-- The integral of (1 - t)^i t^j. -/
theorem beta_step (i j : Nat) : (((j + 1 : Nat)) : Rat) * pair (mono (linL (-1) 0 1) (linL 1 0 0) i j) segF = (if i = 0 then 1 else 0) + ((i : Nat) : Rat) * pair (mono (linL (-1) 0 1) (linL 1 0 0) (i - 1) (j + 1)) segF := by
 have h := seg_ftc (mono (linL (-1) 0 1) (linL 1 0 0) i (j + 1))
 have e1 := dy_pow_of dxL dxF pair_dx dxF_zero dx_prod (dx_lin (-1) 0 1) i
 have e2 := dy_pow_of dxL dxF pair_dx dxF_zero dx_prod (dx_lin 1 0 0) (j + 1)
 unfold mono at h ⊢
 rw [dx_prod _ _ segF, pair_append, prod_eqv e1 (Eqv.refl _) segF, prod_eqv (Eqv.refl _) e2 segF, at_prod, at_prod, at_pow, at_pow, at_pow, at_pow, at_lin, at_lin, at_lin, at_lin] at h
 have s1 : pair (prodL (scaleL (((i : Nat) : Rat) * -1) (powL (linL (-1) 0 1) (i - 1))) (powL (linL 1 0 0) (j + 1))) segF = ((i : Nat) : Rat) * -1 * pair (prodL (powL (linL (-1) 0 1) (i - 1)) (powL (linL 1 0 0) (j + 1))) segF := by
  rw [pair_prod, pair_scale, pair_prod]
 have s2 : pair (prodL (powL (linL (-1) 0 1) i) (scaleL ((((j + 1 : Nat)) : Rat) * 1) (powL (linL 1 0 0) (j + 1 - 1)))) segF = (((j + 1 : Nat)) : Rat) * pair (prodL (powL (linL (-1) 0 1) i) (powL (linL 1 0 0) j)) segF := by
  rw [prod_comm _ _ segF, pair_prod, pair_scale, Nat.add_sub_cancel, prod_comm (powL (linL (-1) 0 1) i) _ segF, pair_prod, Rat.mul_one]
 rw [s1, s2] at h
 rw [show (-1 : Rat) * 1 + 0 * 1 + 1 = 0 by grind, show (1 : Rat) * 1 + 0 * 1 + 0 = 1 by grind, show (-1 : Rat) * 0 + 0 * 1 + 1 = 1 by grind, show (1 : Rat) * 0 + 0 * 1 + 0 = 0 by grind, one_powQ, zero_powQ (Nat.succ_ne_zero j)] at h
 by_cases h0 : i = 0
 ·rw [if_pos h0]
  rw [h0, Rat.pow_zero] at h
  rw [h0]
  grind
 ·rw [if_neg h0]
  rw [zero_powQ h0] at h
  grind
theorem beta_eq : ∀ i j : Nat, pair (mono (linL (-1) 0 1) (linL 1 0 0) i j) segF = sideF i j
 | 0, j => by
  have h := beta_step 0 j
  rw [if_pos rfl] at h
  have e : sideF 0 j = 1 / (((j + 1 : Nat)) : Rat) := by
   refine div_of (fact_ne _) ?_
   rw [show 0 + j + 1 = j + 1 by omega, fact_succ, show ((fact 0 : Nat) : Rat) = 1 from rfl, Rat.mul_comm ((fact j : Nat) : Rat) (((j + 1 : Nat)) : Rat), ← Rat.mul_assoc, Rat.div_mul_cancel (natR_ne j)]
  rw [e]
  refine (div_of (natR_ne j) ?_).symm
  rw [Rat.mul_comm, h, show (((0 : Nat)) : Rat) = 0 from rfl]; grind
 | i + 1, j => by
  have h := beta_step (i + 1) j
  rw [if_neg (by omega), show i + 1 - 1 = i by omega, beta_eq i (j + 1)] at h
  have e : sideF (i + 1) j = (((i + 1 : Nat)) : Rat) * sideF i (j + 1) / (((j + 1 : Nat)) : Rat) := by
   refine (div_of (natR_ne j) ?_).symm
   unfold sideF
   rw [show i + 1 + j + 1 = i + (j + 1) + 1 by omega, fact_succ i, fact_succ j, Rat.div_def, Rat.div_def]
   generalize (((fact (i + (j + 1) + 1) : Nat) : Rat))⁻¹ = v
   generalize (((i + 1 : Nat)) : Rat) = u
   generalize (((j + 1 : Nat)) : Rat) = u2
   grind
  rw [e]
  refine (div_of (natR_ne j) ?_).symm
  rw [Rat.mul_comm _ (((j + 1 : Nat)) : Rat), h]; grind
/-- Along the side from (1, 0) to (0, 1). -/
theorem beta_pair (q : TL) : pair (subL q (linL (-1) 0 1) (linL 1 0 0)) segF = pair q sideF := by
 rw [pair_sub]
 exact congrArg (pair q) (funext fun i => funext fun j => beta_eq i j)
/-- Along the side x = 0. -/
theorem left_pair (q : TL) : pair (subL q (linL 0 0 0) (linL 1 0 0)) segF = pair q (fun i j => if i = 0 then 1 / (((j + 1 : Nat)) : Rat) else 0) := by
 rw [sub_eqv2 q (u' := [(0, 0, 0)]) (v' := [(1, 0, 1)]) (fun F => by simp only [linL, pair]; grind) (fun F => by simp only [linL, pair]; grind) segF, pair_sub]
 refine congrArg (pair q) (funext fun i => funext fun j => ?_)
 unfold mono
 rw [prod_eqv (powL_con 0 i) (pow_x j) segF]
 simp only [prodL, timesL, List.map_cons, List.map_nil, List.append_nil, pair, Nat.zero_add]
 by_cases h : i = 0
 ·rw [if_pos h, h, Rat.pow_zero]; unfold segF; grind
 ·rw [if_neg h, zero_powQ h]; grind
/-- Along the side y = 0. -/
theorem low_pair (q : TL) : pair (subL q (linL 1 0 0) (linL 0 0 0)) segF = pair q (fun i j => if j = 0 then 1 / (((i + 1 : Nat)) : Rat) else 0) := by
 rw [sub_eqv2 q (u' := [(1, 0, 1)]) (v' := [(0, 0, 0)]) (fun F => by simp only [linL, pair]; grind) (fun F => by simp only [linL, pair]; grind) segF, pair_sub]
 refine congrArg (pair q) (funext fun i => funext fun j => ?_)
 unfold mono
 rw [prod_eqv (pow_x i) (powL_con 0 j) segF]
 simp only [prodL, timesL, List.map_cons, List.map_nil, List.append_nil, pair, Nat.add_zero]
 by_cases h : j = 0
 ·rw [if_pos h, h, Rat.pow_zero]; unfold segF; grind
 ·rw [if_neg h, zero_powQ h]; grind
theorem pair_fun (p : TL) {F G : Nat → Nat → Rat} (h : ∀ i j, F i j = G i j) : pair p F = pair p G := congrArg (pair p) (funext fun i => funext fun j => h i j)
theorem mom_dx (q : TL) : pair (dxL q) momF = 2 * (pair (subL q (linL (-1) 0 1) (linL 1 0 0)) segF - pair (subL q (linL 0 0 0) (linL 1 0 0)) segF) := by
 rw [pair_dx, pair_fun q dx_momF, pair_mul, beta_pair, left_pair]
 congr 1
 rw [pair_fun q (G := fun i j => sideF i j + -1 * (if i = 0 then 1 / (((j + 1 : Nat)) : Rat) else 0)) (fun i j => by grind), pair_add, pair_mul]
 grind
theorem mom_dy (q : TL) : pair (dyL q) momF = 2 * (pair (subL q (linL (-1) 0 1) (linL 1 0 0)) segF - pair (subL q (linL 1 0 0) (linL 0 0 0)) segF) := by
 rw [pair_dy, pair_fun q dy_momF, pair_mul, beta_pair, low_pair]
 congr 1
 rw [pair_fun q (G := fun i j => sideF i j + -1 * (if j = 0 then 1 / (((i + 1 : Nat)) : Rat) else 0)) (fun i j => by grind), pair_add, pair_mul]
 grind
theorem tri_bc (p : TL) (a b c : Pt) : pair (subL (triL p a b c) (linL (-1) 0 1) (linL 1 0 0)) segF = segV p b c := by
 unfold triL segV segL'
 rw [sub_lin p _ _ _ _ _ _ _ _ _ _ _ _ segF]
 refine sub_same p ?_ ?_ ?_ ?_ ?_ ?_ segF <;> grind
theorem tri_ac (p : TL) (a b c : Pt) : pair (subL (triL p a b c) (linL 0 0 0) (linL 1 0 0)) segF = segV p a c := by
 unfold triL segV segL'
 rw [sub_lin p _ _ _ _ _ _ _ _ _ _ _ _ segF]
 refine sub_same p ?_ ?_ ?_ ?_ ?_ ?_ segF <;> grind
theorem tri_ab (p : TL) (a b c : Pt) : pair (subL (triL p a b c) (linL 1 0 0) (linL 0 0 0)) segF = segV p a b := by
 unfold triL segV segL'
 rw [sub_lin p _ _ _ _ _ _ _ _ _ _ _ _ segF]
 refine sub_same p ?_ ?_ ?_ ?_ ?_ ?_ segF <;> grind
theorem gauss_alg (u0 u1 v0 v1 P1 P2 Q1 Q2 A1 A2 A3 B1 B2 B3 v : Rat) (hv : 2 * v = 1) (h1 : u0 * P1 + u1 * P2 = 2 * (A2 - A3)) (h2 : v0 * P1 + v1 * P2 = 2 * (A2 - A1)) (h3 : u0 * Q1 + u1 * Q2 = 2 * (B2 - B3)) (h4 : v0 * Q1 + v1 * Q2 = 2 * (B2 - B1)) :
  (u0 * v1 - v0 * u1) * v * (P1 + Q2) = (u1 * A1 - u0 * B1) + ((v1 - u1) * A2 - (v0 - u0) * B2) + (v0 * B3 - v1 * A3) := by
 have k1 : (u0 * v1 - v0 * u1) * P1 = 2 * (v1 * (A2 - A3) - u1 * (A2 - A1)) := by grind
 have k2 : (u0 * v1 - v0 * u1) * Q2 = 2 * (u0 * (B2 - B1) - v0 * (B2 - B3)) := by grind
 have k3 : (u0 * v1 - v0 * u1) * v * (P1 + Q2) = v * ((u0 * v1 - v0 * u1) * P1 + (u0 * v1 - v0 * u1) * Q2) := by grind
 rw [k3, k1, k2]
 have k4 : v * (2 * (v1 * (A2 - A3) - u1 * (A2 - A1)) + 2 * (u0 * (B2 - B1) - v0 * (B2 - B3))) = 2 * v * (v1 * (A2 - A3) - u1 * (A2 - A1) + (u0 * (B2 - B1) - v0 * (B2 - B3))) := by grind
 rw [k4, hv]
 grind
/-- THE DIVERGENCE THEOREM on a triangle. -/
theorem gauss (p q : TL) (a b c : Pt) : triV (dxL p ++ dyL q) a b c = flowV p q a b + flowV p q b c + flowV p q c a := by
 have h1 := mom_dx (triL p a b c)
 have h2 := mom_dy (triL p a b c)
 have h3 := mom_dx (triL q a b c)
 have h4 := mom_dy (triL q a b c)
 rw [tri_bc, tri_ac] at h1 h3
 rw [tri_bc, tri_ab] at h2 h4
 unfold triL at h1 h2 h3 h4
 rw [chain_x _ _ _ _ _ _ _ momF, pair_append, pair_scale, pair_scale] at h1 h3
 rw [chain_y _ _ _ _ _ _ _ momF, pair_append, pair_scale, pair_scale] at h2 h4
 have e : pair (triL (dxL p ++ dyL q) a b c) momF = pair (subL (dxL p) (linL (b.x - a.x) (c.x - a.x) a.x) (linL (b.y - a.y) (c.y - a.y) a.y)) momF + pair (subL (dyL q) (linL (b.x - a.x) (c.x - a.x) a.x) (linL (b.y - a.y) (c.y - a.y) a.y)) momF := by
  unfold triL; rw [pair_sub, pair_append, pair_sub, pair_sub]
 unfold triV areaV flowV
 rw [e, segV_back p a c, segV_back q a c]
 generalize pair (subL (dxL p) _ _) momF = P1 at *
 generalize pair (subL (dyL p) _ _) momF = P2 at *
 generalize pair (subL (dxL q) _ _) momF = Q1 at *
 generalize pair (subL (dyL q) _ _) momF = Q2 at *
 generalize segV p a b = A1 at *
 generalize segV p b c = A2 at *
 generalize segV p a c = A3 at *
 generalize segV q a b = B1 at *
 generalize segV q b c = B2 at *
 generalize segV q a c = B3 at *
 have k := gauss_alg _ _ _ _ P1 P2 Q1 Q2 A1 A2 A3 B1 B2 B3 (2 : Rat)⁻¹ (Rat.mul_inv_cancel _ (by decide)) h1 h2 h3 h4
 rw [Rat.div_def, k]
 clear k h1 h2 h3 h4 e
 grind
theorem triV_eqv {p q : TL} (h : Eqv p q) (a b c : Pt) : triV p a b c = triV q a b c := by
 unfold triV triL; rw [sub_eqv h _ _ momF]
def antF (p : TL) (a b : Pt) : Rat := flowV (intL p) [] a b
theorem antF_back (p : TL) (a b : Pt) : antF p b a = -antF p a b := flow_back _ _ a b
theorem tri_ant (p : TL) (a b c : Pt) : triV p a b c = antF p a b + antF p b c + antF p c a := by
 unfold antF
 rw [← gauss]
 refine (triV_eqv ?_ a b c).symm
 show Eqv (dxL (intL p) ++ []) p
 rw [List.append_nil]; exact dx_int p
def oP : Pt := ⟨0, 0⟩
def wayF (F : Pt → Pt → Rat) : Pt → List Pt → Rat
 | _, [] => 0
 | a, b :: r => F a b + wayF F b r
def lastP : Pt → List Pt → Pt
 | a, [] => a
 | _, b :: r => lastP b r
def ringF (F : Pt → Pt → Rat) : List Pt → Rat
 | [] => 0
 | a :: r => wayF F a r + F (lastP a r) a
theorem fan_ring {f : Pt → Pt → Pt → Rat} {F : Pt → Pt → Rat} (hF : ∀ a b, F b a = -F a b) (hf : ∀ a b c, f a b c = F a b + F b c + F c a) (a : Pt) : ∀ (b : Pt) (r : List Pt), fan f a b r = F a b + wayF F b r + F (lastP b r) a
 | b, [] => by simp only [fan, wayF, lastP]; rw [hF a b]; grind
 | b, c :: r => by
  simp only [fan, wayF, lastP]
  rw [fan_ring hF hf a c r, hf, hF a c]; grind
theorem way_app (F : Pt → Pt → Rat) : ∀ (a : Pt) (r s : List Pt), wayF F a (r ++ s) = wayF F a r + wayF F (lastP a r) s ∧ lastP a (r ++ s) = lastP (lastP a r) s
 | a, [], s => by simp only [List.nil_append, wayF, lastP]; exact ⟨by grind, trivial⟩
 | a, b :: r, s => by
  obtain ⟨h1, h2⟩ := way_app F b r s
  simp only [List.cons_append, wayF, lastP]
  exact ⟨by rw [h1]; grind, h2⟩
theorem ring_turn (F : Pt → Pt → Rat) (x y : List Pt) : ringF F (x ++ y) = ringF F (y ++ x) := by
 match x, y with
 | [], y => simp
 | x, [] => simp
 | a :: r, b :: s =>
  simp only [List.cons_append, ringF]
  have h1 := way_app F a r (b :: s)
  have h2 := way_app F b s (a :: r)
  rw [h1.1, h1.2, h2.1, h2.2]
  simp only [wayF, lastP]
  grind
theorem way_rev {F : Pt → Pt → Rat} (hF : ∀ a b, F b a = -F a b) : ∀ (a : Pt) (r : List Pt) (b : Pt) (s : List Pt), b :: s = (a :: r).reverse → wayF F b s = -wayF F a r ∧ b = lastP a r ∧ lastP b s = a
 | a, [], b, s, h => by
  simp at h
  obtain ⟨rfl, rfl⟩ := h
  exact ⟨by simp only [wayF]; grind, rfl, rfl⟩
 | a, c :: r, b, s, h => by
  rw [List.reverse_cons] at h
  obtain ⟨b', s', h'⟩ : ∃ b' s', (c :: r).reverse = b' :: s' := List.exists_cons_of_ne_nil (by simp)
  rw [h'] at h
  obtain ⟨rfl, rfl⟩ : b = b' ∧ s = s' ++ [a] := by simpa using h
  obtain ⟨h1, h2, h3⟩ := way_rev hF c r b s' h'.symm
  have h4 := way_app F b s' [a]
  rw [h4.1, h4.2, h1, h3]
  simp only [wayF, lastP]
  exact ⟨by rw [hF a c]; grind, h2, trivial⟩
theorem ring_rev {F : Pt → Pt → Rat} (hF : ∀ a b, F b a = -F a b) (l : List Pt) : ringF F l.reverse = -ringF F l := by
 match l with
 | [] => rfl
 | a :: r =>
  obtain ⟨b, s, h⟩ : ∃ b s, (a :: r).reverse = b :: s := List.exists_cons_of_ne_nil (by simp)
  rw [h]
  obtain ⟨h1, h2, h3⟩ := way_rev hF a r b s h.symm
  simp only [ringF]
  rw [h1, h3, h2, hF (lastP a r) a]; grind
theorem ring_more {F : Pt → Pt → Rat} (a c : Pt) (r : List Pt) (h : F (lastP a r) a = F (lastP a r) c + F c a) : ringF F (a :: r ++ [c]) = ringF F (a :: r) := by
 simp only [List.cons_append, ringF]
 have h4 := way_app F a r [c]
 rw [h4.1, h4.2]
 simp only [wayF, lastP]
 rw [h]; grind
end Go.Proofs.YtkdbhacimoaohaaGreatDoor
namespace Go.Proofs.YtkdbhacimoaohaaGreatDoor
open Go.RowKit
attribute [local irreducible] lo hs sm s64 c64 d64 b64 mh ml pd pc qd qc val hiB str cmpI srD lz nb zl zh zs fe klT ordZ Bs
section
variable {p q : TL} {d K e : Nat}
theorem flow_sz {k M D : Nat} (f : Fit D (2 * k + 1) K d M) (g : Fit D (2 * k + 1) e d M) (h : GP p d K) (h2 : GP q d e) {a b : Pt} (ha : PS a k) (hb : PS b k) : Sz (flowV p q a b) (339 * (M + 62)) := by
 have u := ha.way hb
 have hk := f.u20
 exact ((u.y.mul (seg_sz f h ha hb)).sub (u.x.mul (seg_sz g h2 ha hb))).mono (by omega)
end
end Go.Proofs.YtkdbhacimoaohaaGreatDoor
namespace Go.Proofs.YtkdbhacimoaohaaGreatDoor
open Go.ChangeShapes Go.WideShapes Go.ChangeAt Go.RowKit Go.Joins
theorem q_of {H : Type} {enc : TypeId × Value → H} {W : World} {base : Nat} {v : Value} {d : DataW H} {p : List MemPlace} (hv : Value.okWide Tryz.prog W .any base 25 v)
  (h : DataW.Trod enc Tryz.prog W 0 (fun _ => true) true 25 v d p) : ∃ n e : Int, v = .agg #[.int .i64 n, .int .u32 e] ∧ (-9223372036854775808 ≤ n ∧ n < 9223372036854775808) ∧ (0 ≤ e ∧ e < 4294967296) := by
 obtain ⟨v0, v1, y0, y1, m, rfl, rfl, rfl, h0, h1⟩ := open_agg2 Tryz.underlying25 (by kernel_rfl) cellsQ hv h
 obtain ⟨n, e0, -, f0⟩ := DataW.trod_int Tryz.underlying2 h0
 obtain ⟨e, e1, -, f1⟩ := DataW.trod_int Tryz.underlying23 h1
 simp only [List.cons.injEq, and_true] at e0 e1
 subst e0 e1
 have b0 := bounds_i64 f0
 have b1 := bounds_u32 f1
 exact ⟨n, e, rfl, by omega, by omega⟩
end Go.Proofs.YtkdbhacimoaohaaGreatDoor
namespace Go.Proofs.YtkdbhacimoaohaaGreatDoor
open Go.RowKit
attribute [local irreducible] lo hs sm s64 c64 d64 b64 mh ml pd pc qd qc val hiB str cmpI srD lz nb zl zh zs fe klT ordZ Bs
def QS9 (w : World) (x : Addr) (l : List RI) : Prop := ∀ k (h : k < l.length), w.cell? (x.add (k * 4)) = some (.int .i64 l[k].1) ∧ w.cell? ((x.add (k * 4)).add 1) = some (.int .u32 l[k].2.1) ∧ w.cell? ((x.add (k * 4)).add 2) = some (.int .i64 l[k].2.2.1) ∧ w.cell? ((x.add (k * 4)).add 3) = some (.int .u32 l[k].2.2.2)
def QT9 (w : World) (v : Value) (l : List RI) : Prop := ∃ ao n c, v = .slice ao n c ∧ n = l.length ∧ (0 < n → ∃ x : Addr, ao = some x ∧ x.block < w.heap.size ∧ QS9 w x l)
theorem QS9.below {w w' : World} {x : Addr} {l : List RI} (h : QS9 w x l) (hg : x.block < w.heap.size) (hb : Below w.heap.size w w') : QS9 w' x l := fun k hk => by
 have e : ∀ a : Addr, a.block = x.block → w'.cell? a = w.cell? a := fun a ha => World.cell?_of_block (a := a) (by rw [ha]; exact hb.block x.block hg)
 rw [e _ (add_blk8 _ _), e _ (by rw [add_blk8, add_blk8]), e _ (by rw [add_blk8, add_blk8]), e _ (by rw [add_blk8, add_blk8])]; exact h k hk
theorem QT9.below {w w' : World} {v : Value} {l : List RI} (h : QT9 w v l) (hb : Below w.heap.size w w') : QT9 w' v l := by
 obtain ⟨ao, n, c, h1, h2, h3⟩ := h
 refine ⟨ao, n, c, h1, h2, fun h0 => ?_⟩
 obtain ⟨g, e, hg, hs⟩ := h3 h0
 exact ⟨g, e, Nat.lt_of_lt_of_le hg hb.size, hs.below hg hb⟩
theorem qt9_parts {w : World} {ao : Option Addr} {n c : Nat} {l : List RI} (h : QT9 w (.slice ao n c) l) : n = l.length ∧ (0 < n → ∃ x : Addr, ao = some x ∧ x.block < w.heap.size ∧ QS9 w x l) := by
 obtain ⟨ao2, n2, c2, e, h2, h3⟩ := h
 simp only [Value.slice.injEq] at e
 obtain ⟨rfl, rfl, rfl⟩ := e
 exact ⟨h2, h3⟩
def ptC (p : Pt) : List Value := frC p.x ++ frC p.y
def ptCs (l : List Pt) : List Value := l.flatMap ptC
theorem ptC_length (p : Pt) : (ptC p).length = 10 := rfl
theorem ptCs_append (l m : List Pt) : ptCs (l ++ m) = ptCs l ++ ptCs m := by unfold ptCs; rw [List.flatMap_append]
theorem ptCs_length : ∀ l : List Pt, (ptCs l).length = l.length * 10
 | [] => rfl
 | p :: l => by
  have := ptCs_length l
  unfold ptCs at this ⊢
  rw [List.flatMap_cons, List.length_append, this, ptC_length, List.length_cons]; omega
theorem ptC_one (p : Pt) : ∀ u ∈ ptC p, u.oneCell' = true := fun u hu => by
 rcases List.mem_append.1 hu with h | h
 ·exact frC_one _ u h
 ·exact frC_one _ u h
theorem ptCs_one (l : List Pt) : ∀ u ∈ ptCs l, u.oneCell' = true := fun u hu => by
 unfold ptCs at hu
 obtain ⟨p, -, h⟩ := List.mem_flatMap.1 hu
 exact ptC_one p u h
theorem ptCs_get : ∀ (l : List Pt) (k : Nat) (h : k < l.length) (i : Nat), i < 10 → (ptCs l)[k * 10 + i]? = (ptC l[k])[i]?
 | t :: l, 0, _, i, hi => by
  unfold ptCs
  rw [List.flatMap_cons, List.getElem?_append_left (by rw [ptC_length]; omega), Nat.zero_mul, Nat.zero_add]
  rfl
 | t :: l, k + 1, h, i, hi => by
  have := ptCs_get l k (by simpa using h) i hi
  unfold ptCs at this ⊢
  rw [List.flatMap_cons, List.getElem?_append_right (by rw [ptC_length]; omega)]
  rw [show (k + 1) * 10 + i - (ptC t).length = k * 10 + i by rw [ptC_length]; omega, this]
  rfl
theorem infoP9 : (Tryz.prog.info? 39).map (fun i => (i.zero, i.size, i.bytes)) = some (some (.agg #[.int .u64 0, .string ⟨#[]⟩, .bool false, .int .u64 0, .string ⟨#[]⟩, .int .u64 0, .string ⟨#[]⟩, .bool false, .int .u64 0, .string ⟨#[]⟩]), 10, 112) := by kernel_rfl
abbrev OwnPt (w : World) (B : Nat) (v : Value) (n : Nat) (l : List Pt) : Prop := w.ownsRow B 39 10 v n (ptCs l)
theorem ownPt_below {w w' : World} {B n : Nat} {v : Value} {l : List Pt} (h : OwnPt w B v n l) (hb : Below w.heap.size w w') : OwnPt w' B v n l := by
 refine ⟨h.1, ?_⟩
 rcases h.2 with h1 | ⟨g, cap, cur, h1, h2, h3, h4⟩
 ·exact .inl h1
 ·refine .inr ⟨g, cap, cur, h1, h2, ?_, h4⟩
  have hg := (World.ownsRow.lt h g (by rw [h1]; rfl)).2
  rw [hb.block g hg]; exact h3
theorem ownPt_pl {w : World} {B n : Nat} {v : Value} {l : List Pt} (h : OwnPt w B v n l) (hn : n = l.length) : PL w v l := by
 rcases h.2 with ⟨h1, h2⟩ | ⟨g, cap, cur, h1, h2, h3, h4, h5, h6, h7⟩
 ·exact .inl ⟨none, 0, h1, List.eq_nil_of_length_eq_zero (by omega)⟩
 ·refine .inr ⟨g, cap, by rw [h1, hn], fun k hk => ?_, (World.ownsRow.lt h g (by rw [h1]; rfl)).2⟩
  have hc : ∀ i, i < 10 → w.cell? ⟨g, k * 10 + i, none⟩ = (ptC l[k])[i]? := fun i hi => by
   rw [cell_of_row _ _ _ _ _ _ h3, ← ptCs_get l k hk i hi, ← h7, List.getElem?_take]
   rw [if_pos (by omega), Array.getElem?_toList]
  exact ⟨hc 0 (by omega), hc 1 (by omega), hc 2 (by omega), hc 3 (by omega), hc 4 (by omega), hc 5 (by omega), hc 6 (by omega), hc 7 (by omega), hc 8 (by omega), hc 9 (by omega)⟩
theorem news_below9 {w w' : World} {g : Nat} {cs : List Value} (h : ∀ j u, cs[j]? = some u → w.cell? ((⟨g, 0, none⟩ : Addr).add j) = some u) (hg : g < w.heap.size) (hb : Below w.heap.size w w') : ∀ j u, cs[j]? = some u → w'.cell? ((⟨g, 0, none⟩ : Addr).add j) = some u := fun j u hj => by
 have := h j u hj
 rw [add0H] at this ⊢
 rw [hb.cell (p := ⟨g, j, none⟩) hg]; exact this
/-- append(v, u...) of points onto a slice of one's own. -/
theorem wp_appendPl {w : World} {ops : Array Oper} {rest : List Oper} {o : Oper} {a : Act} {Q : Exit → Act → World → Prop} (hgd : o.guard = none) (s x : Operand)
  (ho : o.op = .call { callee := .builtin .append, args := #[s, x], argTypes := #[61, 61] }) (B : Nat) (v : Value) (n : Nat) (L : List Pt) (hs : a.eval s = v) (hown : OwnPt w B v n L) (g c : Nat) (l : List Pt) (hx : a.eval x = .slice (some ⟨g, 0, none⟩) l.length c)
  (hnews : ∀ j u, (ptCs l)[j]? = some u → w.cell? ((⟨g, 0, none⟩ : Addr).add j) = some u) (hl0 : 0 < l.length)
  (hn : n ≤ 100000) (hl : l.length ≤ 100000) (hbase : B ≤ w.heap.size)
  (h : ∀ g cap w', OwnPt w' B (.slice (some ⟨g, 0, none⟩) (n + l.length) cap) (n + l.length) (L ++ l) → w.grownBy w' v.ownBlock → (v.ownBlock = some g ∨ g = w.heap.size) → wpList Tryz.prog ops Q rest (a.put o.dst (.slice (some ⟨g, 0, none⟩) (n + l.length) cap)) w') : wpList Tryz.prog ops Q (o :: rest) a w := by
 obtain ⟨i0, hi, hz1, hz2, hz3⟩ := info_parts infoP9
 refine wpList_append_lies w hgd s x 61 ho B 39 i0 (.agg #[.int .u64 0, .string ⟨#[]⟩, .bool false, .int .u64 0, .string ⟨#[]⟩, .int .u64 0, .string ⟨#[]⟩, .bool false, .int .u64 0, .string ⟨#[]⟩]) 10 112 Tryz.underlying61 hi hz1 hz2 hz3 rfl (by decide) v n (ptCs L) hs hown ⟨g, 0, none⟩ l.length c (ptCs l) hx (ptCs_length l) hnews (ptCs_one l) hl0 (by unfold maxLen; omega) (by omega) hbase w.heap.size rfl ?_
 intro g2 cap w' h1 h2 h3 _
 refine h g2 cap w' ?_ h2 h3
 unfold OwnPt
 rw [ptCs_append]; exact h1
theorem wp_appendP1 {w : World} {ops : Array Oper} {rest : List Oper} {o : Oper} {a : Act} {Q : Exit → Act → World → Prop} (hgd : o.guard = none) (s x : Operand)
  (ho : o.op = .call { callee := .builtin .append, args := #[s, x], argTypes := #[61, 61] }) (B : Nat) (v : Value) (n : Nat) (L : List Pt) (hs : a.eval s = v) (hown : OwnPt w B v n L) (g : Nat) (t : Pt) (hx : a.eval x = .slice (some ⟨g, 0, none⟩) 1 1) (hH : Hd w g (ptC t))
  (hn : n ≤ 100000) (hbase : B ≤ w.heap.size)
  (h : ∀ g cap w', OwnPt w' B (.slice (some ⟨g, 0, none⟩) (n + 1) cap) (n + 1) (L ++ [t]) → w.grownBy w' v.ownBlock → (v.ownBlock = some g ∨ g = w.heap.size) → wpList Tryz.prog ops Q rest (a.put o.dst (.slice (some ⟨g, 0, none⟩) (n + 1) cap)) w') : wpList Tryz.prog ops Q (o :: rest) a w :=
 wp_appendPl hgd s x ho B v n L hs hown g 1 [t] hx (by rw [show ptCs [t] = ptC t by simp [ptCs]]; exact hd_newsH hH) (by simp) hn (by simp) hbase h
def DJ9 (v u : Value) : Prop := ∀ g, v.ownBlock = some g → u.ownBlock = some g → False
theorem DJ9.symm {v u : Value} (h : DJ9 v u) : DJ9 u v := fun g a b => h g b a
theorem dj9_ne {v u : Value} (h : DJ9 v u) : u.ownBlock = none ∨ u.ownBlock ≠ v.ownBlock := by
 cases e : u.ownBlock with
 | none => exact .inl rfl
 | some g => exact .inr fun q => h g q.symm e
theorem dj9_new {w : World} {B n g c cap : Nat} {v u : Value} {l : List Pt} (h : DJ9 v u) (hu : OwnPt w B u n l) (hat : v.ownBlock = some g ∨ g = w.heap.size) : DJ9 (.slice (some ⟨g, 0, none⟩) c cap) u := fun k h1 h2 => by
 have e1 : g = k := Option.some.inj h1
 subst e1
 rcases hat with h3 | h3
 ·exact h g h3 h2
 ·have := (World.ownsRow.lt hu g h2).2; omega
/-- Three slices of points that the call owns, apart from each other. -/
structure Own39 (B : Nat) (w : World) (va vr vm : Value) (na nr nm : Nat) (xs ys zs : List Pt) : Prop where
 a : OwnPt w B va na xs
 r : OwnPt w B vr nr ys
 m : OwnPt w B vm nm zs
 d1 : DJ9 va vr
 d2 : DJ9 va vm
 d3 : DJ9 vr vm
section
variable {B : Nat} {w w1 : World} {va vr vm : Value} {na nr nm : Nat} {xs ys zs : List Pt}
theorem Own39.below (h : Own39 B w va vr vm na nr nm xs ys zs) (hb : Below w.heap.size w w1) : Own39 B w1 va vr vm na nr nm xs ys zs :=
 ⟨ownPt_below h.a hb, ownPt_below h.r hb, ownPt_below h.m hb, h.d1, h.d2, h.d3⟩
theorem Own39.nil (B : Nat) (w : World) : Own39 B w (.slice none 0 0) (.slice none 0 0) (.slice none 0 0) 0 0 0 [] [] [] :=
 ⟨World.ownsRow_nil _ _ _ _, World.ownsRow_nil _ _ _ _, World.ownsRow_nil _ _ _ _, (fun g h => by cases h), (fun g h => by cases h), (fun g h => by cases h)⟩
theorem Own39.appA {g c cap : Nat} {xs' : List Pt} (h : Own39 B w va vr vm na nr nm xs ys zs) (ho : OwnPt w1 B (.slice (some ⟨g, 0, none⟩) c cap) c xs') (hg : w.grownBy w1 va.ownBlock) (hat : va.ownBlock = some g ∨ g = w.heap.size) :
  Own39 B w1 (.slice (some ⟨g, 0, none⟩) c cap) vr vm c nr nm xs' ys zs :=
 ⟨ho, World.ownsRow.kept h.r hg (dj9_ne h.d1), World.ownsRow.kept h.m hg (dj9_ne h.d2), dj9_new h.d1 h.r hat, dj9_new h.d2 h.m hat, h.d3⟩
theorem Own39.appR {g c cap : Nat} {ys' : List Pt} (h : Own39 B w va vr vm na nr nm xs ys zs) (ho : OwnPt w1 B (.slice (some ⟨g, 0, none⟩) c cap) c ys') (hg : w.grownBy w1 vr.ownBlock) (hat : vr.ownBlock = some g ∨ g = w.heap.size) :
  Own39 B w1 va (.slice (some ⟨g, 0, none⟩) c cap) vm na c nm xs ys' zs :=
 ⟨World.ownsRow.kept h.a hg (dj9_ne h.d1.symm), ho, World.ownsRow.kept h.m hg (dj9_ne h.d3), (dj9_new h.d1.symm h.a hat).symm, h.d2, dj9_new h.d3 h.m hat⟩
theorem Own39.appM {g c cap : Nat} {zs' : List Pt} (h : Own39 B w va vr vm na nr nm xs ys zs) (ho : OwnPt w1 B (.slice (some ⟨g, 0, none⟩) c cap) c zs') (hg : w.grownBy w1 vm.ownBlock) (hat : vm.ownBlock = some g ∨ g = w.heap.size) :
  Own39 B w1 va vr (.slice (some ⟨g, 0, none⟩) c cap) na nr c xs ys zs' :=
 ⟨World.ownsRow.kept h.a hg (dj9_ne h.d2.symm), World.ownsRow.kept h.r hg (dj9_ne h.d3.symm), ho, h.d1, (dj9_new h.d2.symm h.a hat).symm, (dj9_new h.d3.symm h.r hat).symm⟩
end
end Go.Proofs.YtkdbhacimoaohaaGreatDoor
namespace Go.Proofs.YtkdbhacimoaohaaGreatDoor
open Go.RowKit
attribute [local irreducible] lo hs sm s64 c64 d64 b64 mh ml pd pc qd qc val hiB str cmpI srD lz nb zl zh zs fe klT ordZ
theorem iround_l1 (al am : Option Addr) (nl cl nm cm : Nat) (fi isn isd : Int) (HW : ∀ w, Tab w → Calls Tryz.prog 7 #[] w fun xe w' => xe = .returned (.bool true) ∧ Below w.heap.size w w') (l_nl : decide ((6 : Int) < ((nl : Nat) : Int)) = true) (k_nl : decide (6 < nl) = true) (w : World) (ht : Tab w) :
  Calls Tryz.prog 6 #[.slice al nl cl, .slice am nm cm, .int .i64 fi, .agg #[.int .i64 isn, .int .u32 isd]] w fun e w' => e = .returned (.bool true) ∧ Below w.heap.size w w' := by
 replace HW := Lib.hid HW
 have hL0 : GL w w [] := GL.start w
 obtain ⟨x1, hweq, hL0⟩ := GL.named (hL0.new rfl [.int .i64 isn, .int .u32 isd] 25)
 go_enter Tryz.func6, Tryz.ntmps6
 go_wp2_with fail
 with_reducible refine Calls.mono (HW.out _ (ht.below hL0.bl)) ?_
 rintro e x2 ⟨rfl, hb⟩
 replace hL0 := hL0.call hb
 clear hb hweq
 go_wp2_with fail
 exact bodyPost_ret (v := .bool true) (by simp [results, Tryz.results6, go_sem]) rfl ⟨rfl, hL0.bl⟩
theorem iround_l2 (al am : Option Addr) (nl cl nm cm : Nat) (fi isn isd : Int) (HW : ∀ w, Tab w → Calls Tryz.prog 7 #[] w fun xe w' => xe = .returned (.bool true) ∧ Below w.heap.size w w') (l_nl : decide ((6 : Int) < ((nl : Nat) : Int)) = false) (k_nl : decide (6 < nl) = false) (l_nm : decide ((7 : Int) < ((nm : Nat) : Int)) = true) (k_nm : decide (7 < nm) = true) (w : World) (ht : Tab w) :
  Calls Tryz.prog 6 #[.slice al nl cl, .slice am nm cm, .int .i64 fi, .agg #[.int .i64 isn, .int .u32 isd]] w fun e w' => e = .returned (.bool true) ∧ Below w.heap.size w w' := by
 replace HW := Lib.hid HW
 have hL0 : GL w w [] := GL.start w
 obtain ⟨x1, hweq, hL0⟩ := GL.named (hL0.new rfl [.int .i64 isn, .int .u32 isd] 25)
 go_enter Tryz.func6, Tryz.ntmps6
 go_wp2_with fail
 with_reducible refine Calls.mono (HW.out _ (ht.below hL0.bl)) ?_
 rintro e x2 ⟨rfl, hb⟩
 replace hL0 := hL0.call hb
 clear hb hweq
 go_wp2_with fail
 exact bodyPost_ret (v := .bool true) (by simp [results, Tryz.results6, go_sem]) rfl ⟨rfl, hL0.bl⟩
theorem iround_few (l cs : List RI) (P : List TI) (L : List Pt) (al am : Option Addr) (nl cl nm cm : Nat) (fi isn isd : Int) (hnl : nl ≤ 6) (hnm : nm < 3) (hLn : L.length = nm)
  (HM : ∀ w, RW8 w (.slice al nl cl) l → Calls Tryz.prog 8 #[.slice al nl cl, .int .i64 3] w fun xe w' => ∃ v, xe = .returned v ∧ PT w' v P ∧ Below w.heap.size w w')
  (HO : ∀ (k : Nat) (h1 : k < cs.length) (h2 : k < L.length) (w : World), Calls Tryz.prog 9 #[.agg #[.int .i64 cs[k].1, .int .u32 cs[k].2.1, .int .i64 cs[k].2.2.1, .int .u32 cs[k].2.2.2]] w fun xe w' => xe = .returned (.agg #[.int .u64 ((zl L[k].x.num : Nat) : Int), .string (zh L[k].x.num), .bool (zs L[k].x.num), .int .u64 ((lo (fe L[k].x) : Nat) : Int), .string (hs (fe L[k].x)), .int .u64 ((zl L[k].y.num : Nat) : Int), .string (zh L[k].y.num), .bool (zs L[k].y.num), .int .u64 ((lo (fe L[k].y) : Nat) : Int), .string (hs (fe L[k].y))]) ∧ Below w.heap.size w w')
  (HP : ∀ (p u : Value) (w : World), PT w p P → PL w u L → Calls Tryz.prog 29 #[p, u] w fun xe w' => xe = .returned (.agg #[.int .u64 0, .string ⟨#[]⟩, .bool false, .int .u64 0, .string ⟨#[]⟩]) ∧ Below w.heap.size w w')
  (HW : ∀ w, Tab w → Calls Tryz.prog 7 #[] w fun xe w' => xe = .returned (.bool true) ∧ Below w.heap.size w w')
  (w : World) (hv : RW8 w (.slice al nl cl) l) (hq : QT9 w (.slice am nm cm) cs) (ht : Tab w) :
  Calls Tryz.prog 6 #[.slice al nl cl, .slice am nm cm, .int .i64 fi, .agg #[.int .i64 isn, .int .u32 isd]] w fun e w' => e = .returned (.bool true) ∧ Below w.heap.size w w' := by
 have l_nl : decide ((6 : Int) < ((nl : Nat) : Int)) = false := decide_eq_false (by omega)
 have k_nl : decide (6 < nl) = false := decide_eq_false (by omega)
 have l_nm : decide ((7 : Int) < ((nm : Nat) : Int)) = false := decide_eq_false (by omega)
 have k_nm : decide (7 < nm) = false := decide_eq_false (by omega)
 have l_3 : decide (((nm : Nat) : Int) < 3) = true := decide_eq_true (by omega)
 have k_3 : decide (nm < 3) = true := decide_eq_true (by omega)
 obtain ⟨hcl, hqq⟩ := qt9_parts hq
 replace HW := Lib.hid HW
 replace HM := Lib.hid HM
 replace HO := Lib.hid HO
 replace HP := Lib.hid HP
 replace hqq := Lib.hid hqq
 replace hcl := Lib.hid hcl
 replace hLn := Lib.hid hLn
 replace hv := Lib.hid hv
 replace ht := Lib.hid ht
 clear hq
 have hL0 : GL w w [] := GL.start w
 obtain ⟨x1, hweq, hL0⟩ := GL.named (hL0.new rfl [.int .i64 isn, .int .u32 isd] 25)
 go_enter Tryz.func6, Tryz.ntmps6
 go_wp2_with fail
 clear hweq
 generalize hb7 : w.heap.size = b7 at hL0 ⊢
 replace hb7 := Lib.hid hb7
 with_reducible refine Calls.mono (HM.out _ (hv.out.below hL0.bl)) ?_
 rintro e y1 ⟨pv, rfl, hP, hb⟩
 replace hL0 := hL0.call hb
 clear hb
 obtain ⟨pa, pn, pc, rfl, -⟩ := pt_form hP
 replace hP := Lib.hid hP
 have hwE := Lib.hid hL0.bl
 have hbs := Lib.hid (show ∀ p ∈ ([(b7, [.int .i64 isn, .int .u32 isd])] : List (Nat × List Value)), p.1 < y1.heap.size from fun p hp => (hL0.all p hp).2.lt)
 go_wp2_with fail
 go_loopg [11, 12] nm (fun gk sv iv wr => ∃ (k : Nat) (zi : Int) (vs : Value), k + gk = nm ∧ vs = sv ∧ iv = .int .i64 zi ∧ zi = (k : Int) ∧ OwnPt wr y1.heap.size vs k (L.take k) ∧ Below y1.heap.size y1 wr ∧ GL w wr [(b7, [.int .i64 isn, .int .u32 isd])])
 case atStart => exact ⟨0, 0, _, Nat.zero_add nm, rfl, by first | rfl | go_num, rfl, World.ownsRow_nil _ _ _ _, Below.refl _ _, hL0⟩
 case round =>
  clear hL0
  obtain ⟨k, zi, vs, hik, rfl, rfl, hzi, hown, hBz, hL0⟩ := hrel
  replace hBz := Lib.hid hBz
  replace hown := Lib.hid hown
  rcases Nat.lt_or_ge k nm with hin | hin
  ·subst hzi
   have hkc : k < cs.length := by rw [← hcl.out]; exact hin
   have hkL : k < L.length := by rw [hLn.out]; exact hin
   obtain ⟨x0, rfl, hgl, hqs⟩ := hqq.out (by omega)
   obtain ⟨hx0, hx1, hx2, hx3⟩ := ((hqs.below hgl hwE.out).below (Nat.lt_of_lt_of_le hgl hwE.out.size) hBz.out) k hkc
   obtain ⟨gb, gq, gs, hpk⟩ : ∃ a b c, x0.add (k * 4) = ⟨a, b, c⟩ := ⟨_, _, _, rfl⟩
   have k4 : (k : Int) < (nm : Int) := by omega
   have k5 : (0 : Int) ≤ (k : Int) := Int.natCast_nonneg _
   have k6 : ¬ (k : Int) < 0 := by omega
   obtain ⟨ti, tj, tn, td, hlk⟩ : ∃ a b c d, cs[k] = (a, b, c, d) := ⟨_, _, _, _, rfl⟩
   have HO1 := Lib.hid (HO.out k hkc hkL)
   rw [hlk] at hx0 hx1 hx2 hx3 HO1
   rw [hpk] at hx0 hx1 hx2 hx3
   obtain ⟨px, hpx⟩ : ∃ z, z = L[k].x := ⟨_, rfl⟩
   obtain ⟨py, hpy⟩ : ∃ z, z = L[k].y := ⟨_, rfl⟩
   rw [← hpx, ← hpy] at HO1
   have htk := Lib.hid (show L.take (k + 1) = L.take k ++ [⟨px, py⟩] by rw [List.take_succ_eq_append_getElem hkL, hpx, hpy])
   replace hx1 : wr.cell? ⟨gb, gq + 1, none⟩ = _ := hx1
   replace hx2 : wr.cell? ⟨gb, gq + 2, none⟩ = _ := hx2
   replace hx3 : wr.cell? ⟨gb, gq + 3, none⟩ = _ := hx3
   simp only at hx0 hx1 hx2 hx3
   replace hpx := Lib.hid hpx
   replace hpy := Lib.hid hpy
   replace hlk := Lib.hid hlk
   clear hqs hgl
   go_wp2_with fail
   with_reducible refine Calls.mono (HO1.out _) ?_
   rintro e y2 ⟨rfl, hb⟩
   have ha : Below y2.heap.size y2 (y2.alloc (.cells #[.int .u64 ((zl px.num : Nat) : Int), .string (zh px.num), .bool (zs px.num), .int .u64 ((lo (fe px) : Nat) : Int), .string (hs (fe px)), .int .u64 ((zl py.num : Nat) : Int), .string (zh py.num), .bool (zs py.num), .int .u64 ((lo (fe py) : Nat) : Int), .string (hs (fe py))] 39)) := (Below.refl _ _).alloc (Nat.le_refl _) _
   have hH : Hd (y2.alloc (.cells #[.int .u64 ((zl px.num : Nat) : Int), .string (zh px.num), .bool (zs px.num), .int .u64 ((lo (fe px) : Nat) : Int), .string (hs (fe px)), .int .u64 ((zl py.num : Nat) : Int), .string (zh py.num), .bool (zs py.num), .int .u64 ((lo (fe py) : Nat) : Int), .string (hs (fe py))] 39)) y2.heap.size (ptC ⟨px, py⟩) := hd_new y2 [.int .u64 ((zl px.num : Nat) : Int), .string (zh px.num), .bool (zs px.num), .int .u64 ((lo (fe px) : Nat) : Int), .string (hs (fe px)), .int .u64 ((zl py.num : Nat) : Int), .string (zh py.num), .bool (zs py.num), .int .u64 ((lo (fe py) : Nat) : Int), .string (hs (fe py))] 39
   replace hL0 := (hL0.call hb).call ha
   have hown3 := Lib.hid ((ownPt_below (ownPt_below hown.out hb) ha))
   have hBz3 := Lib.hid ((hBz.out.trans (hb.mono hBz.out.size)).trans (ha.mono (hBz.out.trans (hb.mono hBz.out.size)).size))
   generalize hweq : y2.alloc (.cells #[.int .u64 ((zl px.num : Nat) : Int), .string (zh px.num), .bool (zs px.num), .int .u64 ((lo (fe px) : Nat) : Int), .string (hs (fe px)), .int .u64 ((zl py.num : Nat) : Int), .string (zh py.num), .bool (zs py.num), .int .u64 ((lo (fe py) : Nat) : Int), .string (hs (fe py))] 39) = y3 at hH hL0 hown3 hBz3
   clear hb ha hown hBz
   go_wp2_with (at_builtin; refine wp_appendP1 rfl _ _ rfl y1.heap.size _ _ _ rfl hown3.out _ ⟨px, py⟩ rfl hH (by omega) hBz3.out.size ?_)
   clear hweq
   intro g cap w8 hown8 hgrow hat
   rw [← htk.out] at hown8
   have hL8 := gl_grown hL0 hgrow (fun z hz => ⟨Nat.le_trans hwE.out.size (World.ownsRow.lt hown3.out z hz).1, fun p hp => Nat.ne_of_lt (Nat.lt_of_lt_of_le (hbs.out p hp) (World.ownsRow.lt hown3.out z hz).1)⟩)
   have hBz8 := Lib.hid (hBz3.out.grown hgrow hBz3.out.size (fun z hz => (World.ownsRow.lt hown3.out z hz).1))
   replace hown8 := Lib.hid hown8
   clear hgrow hown3 hL0 hH hBz3 hat
   go_wp2_with fail
   go_roundg (nm - (k + 1))
   case measure => omega
   case rel => exact ⟨k + 1, _, _, by omega, rfl, by first | rfl | go_num, by omega, hown8.out, hBz8.out, hL8⟩
  ·obtain rfl : k = nm := by omega
   subst hzi
   have k4 : ¬ (k : Int) < (k : Int) := by omega
   have hpl := ownPt_pl hown.out (by rw [List.length_take, hLn.out]; omega)
   rw [List.take_of_length_le (Nat.le_of_eq hLn.out)] at hpl
   replace hpl := Lib.hid hpl
   clear hown
   go_wp2_with fail
   with_reducible refine Calls.mono (HP.out _ _ _ (hP.out.below hBz.out) hpl.out) ?_
   rintro e y9 ⟨rfl, hb⟩
   replace hL0 := hL0.call hb
   clear hb
   go_wp2_with fail
   with_reducible refine Calls.mono (HW.out _ (ht.out.below hL0.bl)) ?_
   rintro e y10 ⟨rfl, hb⟩
   replace hL0 := hL0.call hb
   clear hb
   go_wp2_with fail
   exact bodyPost_ret (v := .bool true) (by simp [results, Tryz.results6, go_sem]) rfl ⟨rfl, hL0.bl⟩
end Go.Proofs.YtkdbhacimoaohaaGreatDoor
namespace Go.Proofs.YtkdbhacimoaohaaGreatDoor
open Go.RowKit
attribute [local irreducible] lo hs sm s64 c64 d64 b64 mh ml pd pc qd qc val hiB str cmpI srD lz nb zl zh zs fe klT ordZ
theorem wrap_ii9 {z : Int} (h0 : 0 ≤ z) (h1 : z < 1000) : IntKind.i64.wrap z = z := by simp [IntKind.wrap, IntKind.bits, IntKind.signed]; omega
theorem wrap_nn9 {z : Int} (h0 : 0 ≤ z) (h1 : z < 1000) : wrap64 z = z := by simp [wrap64]; omega
theorem iround_w (l cs : List RI) (P : List TI) (L TL9 RL9 : List Pt) (DP : List TI) (G9 FS : Nat → Rat) (ux uy vx vy zx zy sq ex mx cx ey my cy sm ng f0 fl : Rat) (al am : Option Addr) (nl cl nm cm f : Nat) (fi isn isd : Int) (hnl : nl ≤ 6) (hn7 : nm ≤ 7) (hn3 : 3 ≤ nm) (hLn : L.length = nm) (hTn : TL9.length = nm) (hRn : RL9.length = nm) (hfn : f < nm)
  (hF : wrap64 ((IntKind.u64.wrap fi).tmod (nm : Int)) = (f : Int)) (hTk : ∀ (k : Nat) (h1 : k < TL9.length) (h2 : (f + k) % nm < L.length), TL9[k] = L[(f + k) % nm]) (hRk : ∀ (k : Nat) (h1 : k < RL9.length) (h2 : nm - 1 - k < L.length), RL9[k] = L[nm - 1 - k])
  (HM : ∀ w, RW8 w (.slice al nl cl) l → Calls Tryz.prog 8 #[.slice al nl cl, .int .i64 3] w fun xe w' => ∃ v, xe = .returned v ∧ PT w' v P ∧ Below w.heap.size w w')
  (HO : ∀ (k : Nat) (h1 : k < cs.length) (h2 : k < L.length) (w : World), Calls Tryz.prog 9 #[.agg #[.int .i64 cs[k].1, .int .u32 cs[k].2.1, .int .i64 cs[k].2.2.1, .int .u32 cs[k].2.2.2]] w fun xe w' => xe = .returned (.agg #[.int .u64 ((zl L[k].x.num : Nat) : Int), .string (zh L[k].x.num), .bool (zs L[k].x.num), .int .u64 ((lo (fe L[k].x) : Nat) : Int), .string (hs (fe L[k].x)), .int .u64 ((zl L[k].y.num : Nat) : Int), .string (zh L[k].y.num), .bool (zs L[k].y.num), .int .u64 ((lo (fe L[k].y) : Nat) : Int), .string (hs (fe L[k].y))]) ∧ Below w.heap.size w w')
  (HOs : ∀ w, Calls Tryz.prog 25 #[.agg #[.int .i64 isn, .int .u32 isd]] w fun xe w' => xe = .returned (.agg #[.int .u64 ((zl sq.num : Nat) : Int), .string (zh sq.num), .bool (zs sq.num), .int .u64 ((lo (fe sq) : Nat) : Int), .string (hs (fe sq))]) ∧ Below w.heap.size w w')
  (HB1 : ∀ w, Calls Tryz.prog 21 #[.agg #[.int .u64 ((zl ux.num : Nat) : Int), .string (zh ux.num), .bool (zs ux.num), .int .u64 ((lo (fe ux) : Nat) : Int), .string (hs (fe ux))], .agg #[.int .u64 ((zl zx.num : Nat) : Int), .string (zh zx.num), .bool (zs zx.num), .int .u64 ((lo (fe zx) : Nat) : Int), .string (hs (fe zx))]] w fun xe w' => xe = .returned (.agg #[.int .u64 ((zl ex.num : Nat) : Int), .string (zh ex.num), .bool (zs ex.num), .int .u64 ((lo (fe ex) : Nat) : Int), .string (hs (fe ex))]) ∧ Below w.heap.size w w')
  (HC1 : ∀ w, Calls Tryz.prog 24 #[.agg #[.int .u64 ((zl sq.num : Nat) : Int), .string (zh sq.num), .bool (zs sq.num), .int .u64 ((lo (fe sq) : Nat) : Int), .string (hs (fe sq))], .agg #[.int .u64 ((zl ex.num : Nat) : Int), .string (zh ex.num), .bool (zs ex.num), .int .u64 ((lo (fe ex) : Nat) : Int), .string (hs (fe ex))]] w fun xe w' => xe = .returned (.agg #[.int .u64 ((zl mx.num : Nat) : Int), .string (zh mx.num), .bool (zs mx.num), .int .u64 ((lo (fe mx) : Nat) : Int), .string (hs (fe mx))]) ∧ Below w.heap.size w w')
  (HD1 : ∀ w, Calls Tryz.prog 16 #[.agg #[.int .u64 ((zl zx.num : Nat) : Int), .string (zh zx.num), .bool (zs zx.num), .int .u64 ((lo (fe zx) : Nat) : Int), .string (hs (fe zx))], .agg #[.int .u64 ((zl mx.num : Nat) : Int), .string (zh mx.num), .bool (zs mx.num), .int .u64 ((lo (fe mx) : Nat) : Int), .string (hs (fe mx))]] w fun xe w' => xe = .returned (.agg #[.int .u64 ((zl cx.num : Nat) : Int), .string (zh cx.num), .bool (zs cx.num), .int .u64 ((lo (fe cx) : Nat) : Int), .string (hs (fe cx))]) ∧ Below w.heap.size w w')
  (HB2 : ∀ w, Calls Tryz.prog 21 #[.agg #[.int .u64 ((zl uy.num : Nat) : Int), .string (zh uy.num), .bool (zs uy.num), .int .u64 ((lo (fe uy) : Nat) : Int), .string (hs (fe uy))], .agg #[.int .u64 ((zl zy.num : Nat) : Int), .string (zh zy.num), .bool (zs zy.num), .int .u64 ((lo (fe zy) : Nat) : Int), .string (hs (fe zy))]] w fun xe w' => xe = .returned (.agg #[.int .u64 ((zl ey.num : Nat) : Int), .string (zh ey.num), .bool (zs ey.num), .int .u64 ((lo (fe ey) : Nat) : Int), .string (hs (fe ey))]) ∧ Below w.heap.size w w')
  (HC2 : ∀ w, Calls Tryz.prog 24 #[.agg #[.int .u64 ((zl sq.num : Nat) : Int), .string (zh sq.num), .bool (zs sq.num), .int .u64 ((lo (fe sq) : Nat) : Int), .string (hs (fe sq))], .agg #[.int .u64 ((zl ey.num : Nat) : Int), .string (zh ey.num), .bool (zs ey.num), .int .u64 ((lo (fe ey) : Nat) : Int), .string (hs (fe ey))]] w fun xe w' => xe = .returned (.agg #[.int .u64 ((zl my.num : Nat) : Int), .string (zh my.num), .bool (zs my.num), .int .u64 ((lo (fe my) : Nat) : Int), .string (hs (fe my))]) ∧ Below w.heap.size w w')
  (HD2 : ∀ w, Calls Tryz.prog 16 #[.agg #[.int .u64 ((zl zy.num : Nat) : Int), .string (zh zy.num), .bool (zs zy.num), .int .u64 ((lo (fe zy) : Nat) : Int), .string (hs (fe zy))], .agg #[.int .u64 ((zl my.num : Nat) : Int), .string (zh my.num), .bool (zs my.num), .int .u64 ((lo (fe my) : Nat) : Int), .string (hs (fe my))]] w fun xe w' => xe = .returned (.agg #[.int .u64 ((zl cy.num : Nat) : Int), .string (zh cy.num), .bool (zs cy.num), .int .u64 ((lo (fe cy) : Nat) : Int), .string (hs (fe cy))]) ∧ Below w.heap.size w w')
  (Hu : ∀ h : 0 < L.length, L[0] = ⟨ux, uy⟩)
  (Hv : ∀ h : 1 < L.length, L[1] = ⟨vx, vy⟩)
  (Hz : ∀ (k : Nat) (h : k < L.length), k + 1 = L.length → L[k] = ⟨zx, zy⟩)
  (HN1 : ∀ w, Calls Tryz.prog 17 #[.agg #[.int .u64 ((zl sm.num : Nat) : Int), .string (zh sm.num), .bool (zs sm.num), .int .u64 ((lo (fe sm) : Nat) : Int), .string (hs (fe sm))]] w fun xe w' => xe = .returned (.agg #[.int .u64 ((zl ng.num : Nat) : Int), .string (zh ng.num), .bool (zs ng.num), .int .u64 ((lo (fe ng) : Nat) : Int), .string (hs (fe ng))]) ∧ Below w.heap.size w w')
  (HPA : ∀ (p u : Value) (w : World), PT w p P → PL w u (L) → Calls Tryz.prog 29 #[p, u] w fun xe w' => xe = .returned (.agg #[.int .u64 ((zl sm.num : Nat) : Int), .string (zh sm.num), .bool (zs sm.num), .int .u64 ((lo (fe sm) : Nat) : Int), .string (hs (fe sm))]) ∧ Below w.heap.size w w')
  (HPR : ∀ (p u : Value) (w : World), PT w p P → PL w u (TL9) → Calls Tryz.prog 29 #[p, u] w fun xe w' => xe = .returned (.agg #[.int .u64 ((zl sm.num : Nat) : Int), .string (zh sm.num), .bool (zs sm.num), .int .u64 ((lo (fe sm) : Nat) : Int), .string (hs (fe sm))]) ∧ Below w.heap.size w w')
  (HPM : ∀ (p u : Value) (w : World), PT w p P → PL w u (RL9) → Calls Tryz.prog 29 #[p, u] w fun xe w' => xe = .returned (.agg #[.int .u64 ((zl ng.num : Nat) : Int), .string (zh ng.num), .bool (zs ng.num), .int .u64 ((lo (fe ng) : Nat) : Int), .string (hs (fe ng))]) ∧ Below w.heap.size w w')
  (HPQ : ∀ (p u : Value) (w : World), PT w p P → PL w u (L ++ [⟨cx, cy⟩]) → Calls Tryz.prog 29 #[p, u] w fun xe w' => xe = .returned (.agg #[.int .u64 ((zl sm.num : Nat) : Int), .string (zh sm.num), .bool (zs sm.num), .int .u64 ((lo (fe sm) : Nat) : Int), .string (hs (fe sm))]) ∧ Below w.heap.size w w')
  (HDx : ∀ (p0 : Value) (w : World), PT w p0 P → Calls Tryz.prog 12 #[p0] w fun e w' => ∃ pv, e = .returned pv ∧ PT w' pv DP ∧ Below w.heap.size w w')
  (HPD : ∀ (p0 p1 : Value) (w : World), PT w p0 DP → PL w p1 L → Calls Tryz.prog 29 #[p0, p1] w fun e w' => e = .returned (fracV fl) ∧ Below w.heap.size w w')
  (HF0 : ∀ (p q : Value) (w : World), PT w p P → PT w q [] → Calls Tryz.prog 15 #[p, q, .agg #[.int .u64 ((zl ux.num : Nat) : Int), .string (zh ux.num), .bool (zs ux.num), .int .u64 ((lo (fe ux) : Nat) : Int), .string (hs (fe ux)), .int .u64 ((zl uy.num : Nat) : Int), .string (zh uy.num), .bool (zs uy.num), .int .u64 ((lo (fe uy) : Nat) : Int), .string (hs (fe uy))], .agg #[.int .u64 ((zl vx.num : Nat) : Int), .string (zh vx.num), .bool (zs vx.num), .int .u64 ((lo (fe vx) : Nat) : Int), .string (hs (fe vx)), .int .u64 ((zl vy.num : Nat) : Int), .string (zh vy.num), .bool (zs vy.num), .int .u64 ((lo (fe vy) : Nat) : Int), .string (hs (fe vy))]] w fun xe w' => xe = .returned (.agg #[.int .u64 ((zl f0.num : Nat) : Int), .string (zh f0.num), .bool (zs f0.num), .int .u64 ((lo (fe f0) : Nat) : Int), .string (hs (fe f0))]) ∧ Below w.heap.size w w')
  (HG : ∀ (i j : Nat) (h1 : i < L.length) (h2 : j < L.length), j = (i + 1) % L.length → ∀ (p q : Value) (w : World), PT w p P → PT w q [] → Calls Tryz.prog 15 #[p, q, .agg #[.int .u64 ((zl L[i].x.num : Nat) : Int), .string (zh L[i].x.num), .bool (zs L[i].x.num), .int .u64 ((lo (fe L[i].x) : Nat) : Int), .string (hs (fe L[i].x)), .int .u64 ((zl L[i].y.num : Nat) : Int), .string (zh L[i].y.num), .bool (zs L[i].y.num), .int .u64 ((lo (fe L[i].y) : Nat) : Int), .string (hs (fe L[i].y))], .agg #[.int .u64 ((zl L[j].x.num : Nat) : Int), .string (zh L[j].x.num), .bool (zs L[j].x.num), .int .u64 ((lo (fe L[j].x) : Nat) : Int), .string (hs (fe L[j].x)), .int .u64 ((zl L[j].y.num : Nat) : Int), .string (zh L[j].y.num), .bool (zs L[j].y.num), .int .u64 ((lo (fe L[j].y) : Nat) : Int), .string (hs (fe L[j].y))]] w fun xe w' => xe = .returned (.agg #[.int .u64 ((zl (G9 i).num : Nat) : Int), .string (zh (G9 i).num), .bool (zs (G9 i).num), .int .u64 ((lo (fe (G9 i)) : Nat) : Int), .string (hs (fe (G9 i)))]) ∧ Below w.heap.size w w')
  (HGA : ∀ (i : Nat), 1 ≤ i → i < L.length → ∀ w, Calls Tryz.prog 16 #[.agg #[.int .u64 ((zl (FS i).num : Nat) : Int), .string (zh (FS i).num), .bool (zs (FS i).num), .int .u64 ((lo (fe (FS i)) : Nat) : Int), .string (hs (fe (FS i)))], .agg #[.int .u64 ((zl (G9 i).num : Nat) : Int), .string (zh (G9 i).num), .bool (zs (G9 i).num), .int .u64 ((lo (fe (G9 i)) : Nat) : Int), .string (hs (fe (G9 i)))]] w fun xe w' => xe = .returned (.agg #[.int .u64 ((zl (FS (i + 1)).num : Nat) : Int), .string (zh (FS (i + 1)).num), .bool (zs (FS (i + 1)).num), .int .u64 ((lo (fe (FS (i + 1))) : Nat) : Int), .string (hs (fe (FS (i + 1))))]) ∧ Below w.heap.size w w')
  (HF1 : f0 = FS 1)
  (HFn : FS L.length = fl)
  (HW : ∀ w, Tab w → Calls Tryz.prog 7 #[] w fun xe w' => xe = .returned (.bool true) ∧ Below w.heap.size w w')
  (w : World) (hv : RW8 w (.slice al nl cl) l) (hq : QT9 w (.slice am nm cm) cs) (ht : Tab w) :
  Calls Tryz.prog 6 #[.slice al nl cl, .slice am nm cm, .int .i64 fi, .agg #[.int .i64 isn, .int .u32 isd]] w fun e w' => e = .returned (.bool true) ∧ Below w.heap.size w w' := by
 have k10 : ¬ nm = 0 := by omega
 have k11 : ¬ (nm : Int) = 0 := by omega
 have k12 : 0 < nm := by omega
 replace hTk := Lib.hid hTk
 replace hRk := Lib.hid hRk
 replace hTn := Lib.hid hTn
 replace hRn := Lib.hid hRn
 have l_nl : decide ((6 : Int) < ((nl : Nat) : Int)) = false := decide_eq_false (by omega)
 have k_nl : decide (6 < nl) = false := decide_eq_false (by omega)
 have l_nm : decide ((7 : Int) < ((nm : Nat) : Int)) = false := decide_eq_false (by omega)
 have k_nm : decide (7 < nm) = false := decide_eq_false (by omega)
 have l_3 : decide (((nm : Nat) : Int) < 3) = false := decide_eq_false (by omega)
 have k_3 : decide (nm < 3) = false := decide_eq_false (by omega)
 obtain ⟨hcl, hqq⟩ := qt9_parts hq
 replace HW := Lib.hid HW
 replace HM := Lib.hid HM
 replace HO := Lib.hid HO
 replace HOs := Lib.hid HOs
 replace HB1 := Lib.hid HB1
 replace HC1 := Lib.hid HC1
 replace HD1 := Lib.hid HD1
 replace HB2 := Lib.hid HB2
 replace HC2 := Lib.hid HC2
 replace HD2 := Lib.hid HD2
 replace Hu := Lib.hid Hu
 replace Hv := Lib.hid Hv
 replace Hz := Lib.hid Hz
 replace HN1 := Lib.hid HN1
 replace HPA := Lib.hid HPA
 replace HPR := Lib.hid HPR
 replace HPM := Lib.hid HPM
 replace HPQ := Lib.hid HPQ
 replace HDx := Lib.hid HDx
 replace HPD := Lib.hid HPD
 replace HF0 := Lib.hid HF0
 replace HG := Lib.hid HG
 replace HGA := Lib.hid HGA
 replace HF1 := Lib.hid HF1
 replace HFn := Lib.hid HFn
 replace hqq := Lib.hid hqq
 replace hcl := Lib.hid hcl
 replace hLn := Lib.hid hLn
 replace hv := Lib.hid hv
 replace ht := Lib.hid ht
 clear hq
 have hL0 : GL w w [] := GL.start w
 obtain ⟨x1, hweq, hL0⟩ := GL.named (hL0.new rfl [.int .i64 isn, .int .u32 isd] 25)
 go_enter Tryz.func6, Tryz.ntmps6
 go_wp2_with fail
 clear hweq
 generalize hb7 : w.heap.size = b7 at hL0 ⊢
 replace hb7 := Lib.hid hb7
 with_reducible refine Calls.mono (HM.out _ (hv.out.below hL0.bl)) ?_
 rintro e y1 ⟨pv, rfl, hP, hb⟩
 replace hL0 := hL0.call hb
 clear hb
 obtain ⟨pa, pn, pc, rfl, -⟩ := pt_form hP
 replace hP := Lib.hid hP
 have hwE := Lib.hid hL0.bl
 have hbs := Lib.hid (show ∀ p ∈ ([(b7, [.int .i64 isn, .int .u32 isd])] : List (Nat × List Value)), p.1 < y1.heap.size from fun p hp => (hL0.all p hp).2.lt)
 go_wp2_with fail
 rw [hF]
 clear hF
 go_loopg [13, 14, 15, 17] nm (fun gk sa sr sm iv wr => ∃ (k : Nat) (zi : Int) (va vr vm : Value), k + gk = nm ∧ va = sa ∧ vr = sr ∧ vm = sm ∧ iv = .int .i64 zi ∧ zi = (k : Int) ∧ Own39 y1.heap.size wr va vr vm k k k (L.take k) (TL9.take k) (RL9.take k) ∧ Below y1.heap.size y1 wr ∧ GL w wr [(b7, [.int .i64 isn, .int .u32 isd])])
 case atStart => exact ⟨0, 0, _, _, _, Nat.zero_add nm, rfl, rfl, rfl, by first | rfl | go_num, rfl, Own39.nil _ _, Below.refl _ _, hL0⟩
 case round =>
  clear hL0
  obtain ⟨k, zi, va, vr, vm, hik, rfl, rfl, rfl, rfl, hzi, hown, hBz, hL0⟩ := hrel
  replace hBz := Lib.hid hBz
  replace hown := Lib.hid hown
  rcases Nat.lt_or_ge k nm with hin | hin
  ·subst hzi
   obtain ⟨j, hj⟩ : ∃ j, j = (f + k) % nm := ⟨_, rfl⟩
   have hjn : j < nm := by rw [hj]; exact Nat.mod_lt _ k12
   obtain ⟨m1, hm1⟩ : ∃ m1, m1 = nm - 1 := ⟨_, rfl⟩
   obtain ⟨i, hi⟩ : ∃ i, i = m1 - k := ⟨_, rfl⟩
   have hin2 : i < nm := by omega
   have hac := Lib.hid (show k < cs.length by rw [← hcl.out]; exact hin)
   have haL := Lib.hid (show k < L.length by rw [hLn.out]; exact hin)
   have hbc := Lib.hid (show j < cs.length by rw [← hcl.out]; exact hjn)
   have hbL := Lib.hid (show j < L.length by rw [hLn.out]; exact hjn)
   have hcc := Lib.hid (show i < cs.length by rw [← hcl.out]; exact hin2)
   have hcL := Lib.hid (show i < L.length by rw [hLn.out]; exact hin2)
   obtain ⟨x0, rfl, hgl, hqs⟩ := hqq.out (by omega)
   replace hgl := Lib.hid hgl
   replace hqs := Lib.hid hqs
   have k4 : (k : Int) < (nm : Int) := by omega
   have k5 : (0 : Int) ≤ (k : Int) := Int.natCast_nonneg _
   have k6 : ¬ (k : Int) < 0 := by omega
   have j4 : (j : Int) < (nm : Int) := by omega
   have j5 : (0 : Int) ≤ (j : Int) := Int.natCast_nonneg _
   have j6 : ¬ (j : Int) < 0 := by omega
   have i4 : (i : Int) < (nm : Int) := by omega
   have i5 : (0 : Int) ≤ (i : Int) := Int.natCast_nonneg _
   have i6 : ¬ (i : Int) < 0 := by omega
   have w1 : wrap64 ((f : Int) + (k : Int)) = (f : Int) + (k : Int) := wrap_nn9 (by omega) (by omega)
   have w2 : ((f : Int) + (k : Int)).tmod (nm : Int) = (j : Int) := by rw [Int.tmod_eq_emod_of_nonneg (Int.add_nonneg (Int.natCast_nonneg f) k5), hj]; push_cast; rfl
   have w3 : wrap64 (j : Int) = (j : Int) := wrap_nn9 (by omega) (by omega)
   have w4 : wrap64 ((nm : Int) - 1) = (m1 : Int) := (wrap_nn9 (by omega) (by omega)).trans (by omega)
   have w5 : wrap64 ((m1 : Int) - (k : Int)) = (i : Int) := (wrap_nn9 (by omega) (by omega)).trans (by omega)
   have htk := Lib.hid (show L.take (k + 1) = L.take k ++ [⟨(L[k]'haL.out).x, (L[k]'haL.out).y⟩] by rw [List.take_succ_eq_append_getElem haL.out])
   have htt := Lib.hid (show TL9.take (k + 1) = TL9.take k ++ [⟨(L[j]'hbL.out).x, (L[j]'hbL.out).y⟩] by
    rw [List.take_succ_eq_append_getElem (by rw [hTn.out]; exact hin), hTk.out k (by rw [hTn.out]; exact hin) (by rw [← hj]; exact hbL.out)]
    simp only [hj])
   have htr := Lib.hid (show RL9.take (k + 1) = RL9.take k ++ [⟨(L[i]'hcL.out).x, (L[i]'hcL.out).y⟩] by
    rw [List.take_succ_eq_append_getElem (by rw [hRn.out]; exact hin), hRk.out k (by rw [hRn.out]; exact hin) (by rw [← hm1, ← hi]; exact hcL.out)]
    simp only [hi, hm1])
   replace hj := Lib.hid hj
   replace hi := Lib.hid hi
   replace hm1 := Lib.hid hm1
   obtain ⟨a0, a1, a2, a3⟩ := ((hqs.out.below hgl.out hwE.out).below (Nat.lt_of_lt_of_le hgl.out hwE.out.size) hBz.out) k hac.out
   obtain ⟨ab, aq, az, hak⟩ : ∃ a b c, x0.add (k * 4) = ⟨a, b, c⟩ := ⟨_, _, _, rfl⟩
   obtain ⟨ai, aj, an, ad, hal⟩ : ∃ a b c d, cs[k]'hac.out = (a, b, c, d) := ⟨_, _, _, _, rfl⟩
   have HO1 := Lib.hid (HO.out k hac.out haL.out)
   rw [hal] at a0 a1 a2 a3 HO1
   rw [hak] at a0 a1 a2 a3
   obtain ⟨px, hpx⟩ : ∃ z, z = (L[k]'haL.out).x := ⟨_, rfl⟩
   obtain ⟨py, hpy⟩ : ∃ z, z = (L[k]'haL.out).y := ⟨_, rfl⟩
   rw [← hpx, ← hpy] at HO1
   replace a1 : wr.cell? ⟨ab, aq + 1, none⟩ = _ := a1
   replace a2 : wr.cell? ⟨ab, aq + 2, none⟩ = _ := a2
   replace a3 : wr.cell? ⟨ab, aq + 3, none⟩ = _ := a3
   simp only at a0 a1 a2 a3
   replace hpx := Lib.hid hpx
   replace hpy := Lib.hid hpy
   replace hal := Lib.hid hal
   replace htk := Lib.hid (show L.take (k + 1) = L.take k ++ [(⟨px, py⟩ : Pt)] by have h := htk.out; rw [← hpx.out, ← hpy.out] at h; exact h)
   go_wp2_with fail
   with_reducible refine Calls.mono (HO1.out _) ?_
   rintro e y2 ⟨rfl, hb⟩
   have ha : Below y2.heap.size y2 (y2.alloc (.cells #[.int .u64 ((zl px.num : Nat) : Int), .string (zh px.num), .bool (zs px.num), .int .u64 ((lo (fe px) : Nat) : Int), .string (hs (fe px)), .int .u64 ((zl py.num : Nat) : Int), .string (zh py.num), .bool (zs py.num), .int .u64 ((lo (fe py) : Nat) : Int), .string (hs (fe py))] 39)) := (Below.refl _ _).alloc (Nat.le_refl _) _
   have hH : Hd (y2.alloc (.cells #[.int .u64 ((zl px.num : Nat) : Int), .string (zh px.num), .bool (zs px.num), .int .u64 ((lo (fe px) : Nat) : Int), .string (hs (fe px)), .int .u64 ((zl py.num : Nat) : Int), .string (zh py.num), .bool (zs py.num), .int .u64 ((lo (fe py) : Nat) : Int), .string (hs (fe py))] 39)) y2.heap.size (ptC ⟨px, py⟩) := hd_new y2 [.int .u64 ((zl px.num : Nat) : Int), .string (zh px.num), .bool (zs px.num), .int .u64 ((lo (fe px) : Nat) : Int), .string (hs (fe px)), .int .u64 ((zl py.num : Nat) : Int), .string (zh py.num), .bool (zs py.num), .int .u64 ((lo (fe py) : Nat) : Int), .string (hs (fe py))] 39
   replace hL0 := (hL0.call hb).call ha
   have hown3 := Lib.hid ((Own39.below (Own39.below hown.out hb) ha))
   have hBz3 := Lib.hid ((hBz.out.trans (hb.mono hBz.out.size)).trans (ha.mono (hBz.out.trans (hb.mono hBz.out.size)).size))
   generalize hweq : y2.alloc (.cells #[.int .u64 ((zl px.num : Nat) : Int), .string (zh px.num), .bool (zs px.num), .int .u64 ((lo (fe px) : Nat) : Int), .string (hs (fe px)), .int .u64 ((zl py.num : Nat) : Int), .string (zh py.num), .bool (zs py.num), .int .u64 ((lo (fe py) : Nat) : Int), .string (hs (fe py))] 39) = y3 at hH hL0 hown3 hBz3
   clear hb ha hown hBz
   clear HO1
   go_wp2_with (at_builtin; refine wp_appendP1 rfl _ _ rfl y1.heap.size _ _ _ rfl hown3.out.a _ ⟨px, py⟩ rfl hH (by omega) hBz3.out.size ?_)
   clear hweq a0 a1 a2 a3 hak
   intro ga capa w8 hown8 hgrow hat
   rw [← htk.out] at hown8
   replace hL0 := gl_grown hL0 hgrow (fun z hz => ⟨Nat.le_trans hwE.out.size (World.ownsRow.lt hown3.out.a z hz).1, fun p hp => Nat.ne_of_lt (Nat.lt_of_lt_of_le (hbs.out p hp) (World.ownsRow.lt hown3.out.a z hz).1)⟩)
   have hBz := Lib.hid (hBz3.out.grown hgrow hBz3.out.size (fun z hz => (World.ownsRow.lt hown3.out.a z hz).1))
   have hown := Lib.hid (hown3.out.appA hown8 hgrow hat)
   clear hgrow hown3 hH hBz3 hat hown8
   obtain ⟨b0, b1, b2, b3⟩ := ((hqs.out.below hgl.out hwE.out).below (Nat.lt_of_lt_of_le hgl.out hwE.out.size) hBz.out) j hbc.out
   obtain ⟨bb, bq, bz, hbk⟩ : ∃ a b c, x0.add (j * 4) = ⟨a, b, c⟩ := ⟨_, _, _, rfl⟩
   obtain ⟨bi, bj, bn, bd, hbl⟩ : ∃ a b c d, cs[j]'hbc.out = (a, b, c, d) := ⟨_, _, _, _, rfl⟩
   have HO1 := Lib.hid (HO.out j hbc.out hbL.out)
   rw [hbl] at b0 b1 b2 b3 HO1
   rw [hbk] at b0 b1 b2 b3
   obtain ⟨qx, hqx⟩ : ∃ z, z = (L[j]'hbL.out).x := ⟨_, rfl⟩
   obtain ⟨qy, hqy⟩ : ∃ z, z = (L[j]'hbL.out).y := ⟨_, rfl⟩
   rw [← hqx, ← hqy] at HO1
   replace b1 : w8.cell? ⟨bb, bq + 1, none⟩ = _ := b1
   replace b2 : w8.cell? ⟨bb, bq + 2, none⟩ = _ := b2
   replace b3 : w8.cell? ⟨bb, bq + 3, none⟩ = _ := b3
   simp only at b0 b1 b2 b3
   replace hqx := Lib.hid hqx
   replace hqy := Lib.hid hqy
   replace hbl := Lib.hid hbl
   replace htt := Lib.hid (show TL9.take (k + 1) = TL9.take k ++ [(⟨qx, qy⟩ : Pt)] by have h := htt.out; rw [← hqx.out, ← hqy.out] at h; exact h)
   go_wp2_with fail
   with_reducible refine Calls.mono (HO1.out _) ?_
   rintro e y4 ⟨rfl, hb⟩
   have ha : Below y4.heap.size y4 (y4.alloc (.cells #[.int .u64 ((zl qx.num : Nat) : Int), .string (zh qx.num), .bool (zs qx.num), .int .u64 ((lo (fe qx) : Nat) : Int), .string (hs (fe qx)), .int .u64 ((zl qy.num : Nat) : Int), .string (zh qy.num), .bool (zs qy.num), .int .u64 ((lo (fe qy) : Nat) : Int), .string (hs (fe qy))] 39)) := (Below.refl _ _).alloc (Nat.le_refl _) _
   have hH : Hd (y4.alloc (.cells #[.int .u64 ((zl qx.num : Nat) : Int), .string (zh qx.num), .bool (zs qx.num), .int .u64 ((lo (fe qx) : Nat) : Int), .string (hs (fe qx)), .int .u64 ((zl qy.num : Nat) : Int), .string (zh qy.num), .bool (zs qy.num), .int .u64 ((lo (fe qy) : Nat) : Int), .string (hs (fe qy))] 39)) y4.heap.size (ptC ⟨qx, qy⟩) := hd_new y4 [.int .u64 ((zl qx.num : Nat) : Int), .string (zh qx.num), .bool (zs qx.num), .int .u64 ((lo (fe qx) : Nat) : Int), .string (hs (fe qx)), .int .u64 ((zl qy.num : Nat) : Int), .string (zh qy.num), .bool (zs qy.num), .int .u64 ((lo (fe qy) : Nat) : Int), .string (hs (fe qy))] 39
   replace hL0 := (hL0.call hb).call ha
   have hown3 := Lib.hid ((Own39.below (Own39.below hown.out hb) ha))
   have hBz3 := Lib.hid ((hBz.out.trans (hb.mono hBz.out.size)).trans (ha.mono (hBz.out.trans (hb.mono hBz.out.size)).size))
   generalize hweq : y4.alloc (.cells #[.int .u64 ((zl qx.num : Nat) : Int), .string (zh qx.num), .bool (zs qx.num), .int .u64 ((lo (fe qx) : Nat) : Int), .string (hs (fe qx)), .int .u64 ((zl qy.num : Nat) : Int), .string (zh qy.num), .bool (zs qy.num), .int .u64 ((lo (fe qy) : Nat) : Int), .string (hs (fe qy))] 39) = y5 at hH hL0 hown3 hBz3
   clear hb ha hown hBz
   clear HO1
   go_wp2_with (at_builtin; refine wp_appendP1 rfl _ _ rfl y1.heap.size _ _ _ rfl hown3.out.r _ ⟨qx, qy⟩ rfl hH (by omega) hBz3.out.size ?_)
   clear hweq b0 b1 b2 b3 hbk
   intro gr capr w9 hown8 hgrow hat
   rw [← htt.out] at hown8
   replace hL0 := gl_grown hL0 hgrow (fun z hz => ⟨Nat.le_trans hwE.out.size (World.ownsRow.lt hown3.out.r z hz).1, fun p hp => Nat.ne_of_lt (Nat.lt_of_lt_of_le (hbs.out p hp) (World.ownsRow.lt hown3.out.r z hz).1)⟩)
   have hBz := Lib.hid (hBz3.out.grown hgrow hBz3.out.size (fun z hz => (World.ownsRow.lt hown3.out.r z hz).1))
   have hown := Lib.hid (hown3.out.appR hown8 hgrow hat)
   clear hgrow hown3 hH hBz3 hat hown8
   obtain ⟨c0, c1, c2, c3⟩ := ((hqs.out.below hgl.out hwE.out).below (Nat.lt_of_lt_of_le hgl.out hwE.out.size) hBz.out) i hcc.out
   obtain ⟨cb, cq, cz, hck⟩ : ∃ a b c, x0.add (i * 4) = ⟨a, b, c⟩ := ⟨_, _, _, rfl⟩
   obtain ⟨ci, cj, cn, cd, hcl⟩ : ∃ a b c d, cs[i]'hcc.out = (a, b, c, d) := ⟨_, _, _, _, rfl⟩
   have HO1 := Lib.hid (HO.out i hcc.out hcL.out)
   rw [hcl] at c0 c1 c2 c3 HO1
   rw [hck] at c0 c1 c2 c3
   obtain ⟨rx, hrx⟩ : ∃ z, z = (L[i]'hcL.out).x := ⟨_, rfl⟩
   obtain ⟨ry, hry⟩ : ∃ z, z = (L[i]'hcL.out).y := ⟨_, rfl⟩
   rw [← hrx, ← hry] at HO1
   replace c1 : w9.cell? ⟨cb, cq + 1, none⟩ = _ := c1
   replace c2 : w9.cell? ⟨cb, cq + 2, none⟩ = _ := c2
   replace c3 : w9.cell? ⟨cb, cq + 3, none⟩ = _ := c3
   simp only at c0 c1 c2 c3
   replace hrx := Lib.hid hrx
   replace hry := Lib.hid hry
   replace hcl := Lib.hid hcl
   have hck2 : x0.add ((nm - 1 - k) * 4) = ⟨cb, cq, cz⟩ := by rw [← hm1.out, ← hi.out]; exact hck
   replace htr := Lib.hid (show RL9.take (k + 1) = RL9.take k ++ [(⟨rx, ry⟩ : Pt)] by have h := htr.out; rw [← hrx.out, ← hry.out] at h; exact h)
   go_wp2_with fail
   with_reducible refine Calls.mono (HO1.out _) ?_
   rintro e y6 ⟨rfl, hb⟩
   have ha : Below y6.heap.size y6 (y6.alloc (.cells #[.int .u64 ((zl rx.num : Nat) : Int), .string (zh rx.num), .bool (zs rx.num), .int .u64 ((lo (fe rx) : Nat) : Int), .string (hs (fe rx)), .int .u64 ((zl ry.num : Nat) : Int), .string (zh ry.num), .bool (zs ry.num), .int .u64 ((lo (fe ry) : Nat) : Int), .string (hs (fe ry))] 39)) := (Below.refl _ _).alloc (Nat.le_refl _) _
   have hH : Hd (y6.alloc (.cells #[.int .u64 ((zl rx.num : Nat) : Int), .string (zh rx.num), .bool (zs rx.num), .int .u64 ((lo (fe rx) : Nat) : Int), .string (hs (fe rx)), .int .u64 ((zl ry.num : Nat) : Int), .string (zh ry.num), .bool (zs ry.num), .int .u64 ((lo (fe ry) : Nat) : Int), .string (hs (fe ry))] 39)) y6.heap.size (ptC ⟨rx, ry⟩) := hd_new y6 [.int .u64 ((zl rx.num : Nat) : Int), .string (zh rx.num), .bool (zs rx.num), .int .u64 ((lo (fe rx) : Nat) : Int), .string (hs (fe rx)), .int .u64 ((zl ry.num : Nat) : Int), .string (zh ry.num), .bool (zs ry.num), .int .u64 ((lo (fe ry) : Nat) : Int), .string (hs (fe ry))] 39
   replace hL0 := (hL0.call hb).call ha
   have hown3 := Lib.hid ((Own39.below (Own39.below hown.out hb) ha))
   have hBz3 := Lib.hid ((hBz.out.trans (hb.mono hBz.out.size)).trans (ha.mono (hBz.out.trans (hb.mono hBz.out.size)).size))
   generalize hweq : y6.alloc (.cells #[.int .u64 ((zl rx.num : Nat) : Int), .string (zh rx.num), .bool (zs rx.num), .int .u64 ((lo (fe rx) : Nat) : Int), .string (hs (fe rx)), .int .u64 ((zl ry.num : Nat) : Int), .string (zh ry.num), .bool (zs ry.num), .int .u64 ((lo (fe ry) : Nat) : Int), .string (hs (fe ry))] 39) = y7 at hH hL0 hown3 hBz3
   clear hb ha hown hBz
   clear HO1
   go_wp2_with (at_builtin; refine wp_appendP1 rfl _ _ rfl y1.heap.size _ _ _ rfl hown3.out.m _ ⟨rx, ry⟩ rfl hH (by omega) hBz3.out.size ?_)
   clear hweq c0 c1 c2 c3 hck hck2
   intro gm capm wa hown8 hgrow hat
   rw [← htr.out] at hown8
   replace hL0 := gl_grown hL0 hgrow (fun z hz => ⟨Nat.le_trans hwE.out.size (World.ownsRow.lt hown3.out.m z hz).1, fun p hp => Nat.ne_of_lt (Nat.lt_of_lt_of_le (hbs.out p hp) (World.ownsRow.lt hown3.out.m z hz).1)⟩)
   have hBz := Lib.hid (hBz3.out.grown hgrow hBz3.out.size (fun z hz => (World.ownsRow.lt hown3.out.m z hz).1))
   have hown := Lib.hid (hown3.out.appM hown8 hgrow hat)
   clear hgrow hown3 hH hBz3 hat hown8
   go_wp2_with fail
   go_roundg (nm - (k + 1))
   case measure => omega
   case rel => exact ⟨k + 1, _, _, _, _, by omega, rfl, rfl, rfl, by first | rfl | go_num, by omega, hown.out, hBz.out, hL0⟩
  ·obtain rfl : k = nm := by omega
   subst hzi
   have k4 : ¬ (k : Int) < (k : Int) := by omega
   have hWr := Lib.hid hL0.bl
   have hd7 := Lib.hid (hL0.get _ _ mZ)
   have hLk := hLn.out
   have hla := ownPt_pl hown.out.a (by rw [List.length_take]; omega)
   have hlr := ownPt_pl hown.out.r (by rw [List.length_take]; have := hTn.out; omega)
   have hlm := ownPt_pl hown.out.m (by rw [List.length_take]; have := hRn.out; omega)
   rw [List.take_of_length_le (Nat.le_of_eq hLn.out)] at hla
   rw [List.take_of_length_le (Nat.le_of_eq hTn.out)] at hlr
   rw [List.take_of_length_le (Nat.le_of_eq hRn.out)] at hlm
   obtain ⟨ga, ca, rfl, -, -⟩ := World.ownsRow.form hown.out.a k12
   obtain ⟨gr, cr, rfl, -, -⟩ := World.ownsRow.form hown.out.r k12
   obtain ⟨gm, cq, rfl, -, -⟩ := World.ownsRow.form hown.out.m k12
   have hca := World.ownsRow.cells hown.out.a (g := ga) rfl
   rw [List.take_of_length_le (Nat.le_of_eq hLn.out)] at hca
   replace hca := Lib.hid hca
   have hga := Lib.hid ((World.ownsRow.lt hown.out.a ga rfl).2)
   obtain ⟨g9, e9, hfp⟩ := (pl_parts hla).2 k12
   obtain rfl : ga = g9 := by simpa using e9
   have hfp := Lib.hid hfp
   have hP5 := Lib.hid (hP.out.below hBz.out)
   have h0l := Lib.hid (show 0 < L.length by omega)
   have h1l := Lib.hid (show 1 < L.length by omega)
   obtain ⟨k1, hk1⟩ : ∃ k1, k1 = k - 1 := ⟨_, rfl⟩
   have h2l := Lib.hid (show k1 < L.length by omega)
   have h3l := Lib.hid (show k1 + 1 = L.length by omega)
   have kw : IntKind.i64.wrap ((k : Int) - 1) = (k1 : Int) := by simp [IntKind.wrap, IntKind.bits, IntKind.signed]; omega
   have kw2 : wrap64 ((k : Int) - 1) = (k1 : Int) := (wrap_nn9 (by omega) (by omega)).trans (by omega)
   have ka0 : (0 : Int) < (k : Int) := by omega
   have ka1 : (1 : Int) < (k : Int) := by omega
   have ka2 : 0 < k := by omega
   have ka3 : 1 < k := by omega
   have ka4 : ((k1 : Nat) : Int) < (k : Int) := by omega
   have ka5 : k1 < k := by omega
   have ka6 : ¬ ((k1 : Nat) : Int) < 0 := by omega
   have kc := Lib.hid kw
   have kd := Lib.hid kw2
   replace e9 := Lib.hid e9
   replace hla := Lib.hid hla
   replace hlr := Lib.hid hlr
   replace hlm := Lib.hid hlm
   replace hk1 := Lib.hid hk1
   have hu := Lib.hid (Hu.out h0l.out)
   have hv9 := Lib.hid (Hv.out h1l.out)
   have hz9 := Lib.hid (Hz.out k1 h2l.out h3l.out)
   obtain ⟨y5, hy5⟩ : ∃ y5, y5 = wr := ⟨_, rfl⟩
   subst hy5
   have hL0 : GL y5 y5 [] := GL.start y5
   have hS : SS y5 [] := SS.nil y5
   clear hown kw kw2 e9 hLk hik hin k4
   go_upto_region 20 with fail
   refine region_gh (by kernel_rfl) (by kernel_rfl) ?_
   refine lex_seg (gl := []) 8 (by kernel_rfl) ?_
   intro α iα F hF1 hF2
   have hqx : ∀ y, (F y).cell? ⟨ga, 0, none⟩ = some (.int .u64 ((zl ux.num : Nat) : Int)) ∧ (F y).cell? ⟨ga, 1, none⟩ = some (.string (zh ux.num)) ∧ (F y).cell? ⟨ga, 2, none⟩ = some (.bool (zs ux.num)) ∧ (F y).cell? ⟨ga, 3, none⟩ = some (.int .u64 ((lo (fe ux) : Nat) : Int)) ∧ (F y).cell? ⟨ga, 4, none⟩ = some (.string (hs (fe ux))) ∧ (F y).cell? ⟨ga, 5, none⟩ = some (.int .u64 ((zl uy.num : Nat) : Int)) ∧ (F y).cell? ⟨ga, 6, none⟩ = some (.string (zh uy.num)) ∧ (F y).cell? ⟨ga, 7, none⟩ = some (.bool (zs uy.num)) ∧ (F y).cell? ⟨ga, 8, none⟩ = some (.int .u64 ((lo (fe uy) : Nat) : Int)) ∧ (F y).cell? ⟨ga, 9, none⟩ = some (.string (hs (fe uy))) ∧ (F y).cell? ⟨ga, 10, none⟩ = some (.int .u64 ((zl vx.num : Nat) : Int)) ∧ (F y).cell? ⟨ga, 11, none⟩ = some (.string (zh vx.num)) ∧ (F y).cell? ⟨ga, 12, none⟩ = some (.bool (zs vx.num)) ∧ (F y).cell? ⟨ga, 13, none⟩ = some (.int .u64 ((lo (fe vx) : Nat) : Int)) ∧ (F y).cell? ⟨ga, 14, none⟩ = some (.string (hs (fe vx))) ∧ (F y).cell? ⟨ga, 15, none⟩ = some (.int .u64 ((zl vy.num : Nat) : Int)) ∧ (F y).cell? ⟨ga, 16, none⟩ = some (.string (zh vy.num)) ∧ (F y).cell? ⟨ga, 17, none⟩ = some (.bool (zs vy.num)) ∧ (F y).cell? ⟨ga, 18, none⟩ = some (.int .u64 ((lo (fe vy) : Nat) : Int)) ∧ (F y).cell? ⟨ga, 19, none⟩ = some (.string (hs (fe vy))) := fun y => by have h1 := (hfp.out.below (below_drew (hF1 y))).cell 0 h0l.out; have h2 := (hfp.out.below (below_drew (hF1 y))).cell 1 h1l.out; rw [hu.out] at h1; rw [hv9.out] at h2; simp only [Nat.zero_mul, Nat.zero_add, Nat.one_mul, Nat.reduceAdd] at h1 h2; exact ⟨h1.1, h1.2.1, h1.2.2.1, h1.2.2.2.1, h1.2.2.2.2.1, h1.2.2.2.2.2.1, h1.2.2.2.2.2.2.1, h1.2.2.2.2.2.2.2.1, h1.2.2.2.2.2.2.2.2.1, h1.2.2.2.2.2.2.2.2.2, h2⟩
   have hqd : ∀ y, (F y).cell? ⟨b7, 0, none⟩ = some (.int .i64 isn) ∧ (F y).cell? ⟨b7, 1, none⟩ = some (.int .u32 isd) := fun y => ⟨(hd7.out.below (below_drew (hF1 y))).cell 0 (by simp), (hd7.out.below (below_drew (hF1 y))).cell 1 (by simp)⟩
   simp only [zT]
   repeat (go_big_quiet_step (first | fail | (go_at_call 25; with_reducible exact seg_call hF2 HOs.out _)))
   refine wpQuiet_nil ?_
   clear hqx hqd hF1 hF2 iα F α
   refine lex_new [.int .u64 0, .string ⟨#[]⟩, .bool false, .int .u64 0, .string ⟨#[]⟩, .int .u64 0, .string ⟨#[]⟩, .bool false, .int .u64 0, .string ⟨#[]⟩] 18 39 39 rfl rfl (of_decide_eq_true (by kernel_rfl)) (by kernel_rfl) rfl new_pt9 ?_
   simp only [Act.put, zP]
   refine lex_new [.int .u64 0, .string ⟨#[]⟩, .bool false, .int .u64 0, .string ⟨#[]⟩, .int .u64 0, .string ⟨#[]⟩, .bool false, .int .u64 0, .string ⟨#[]⟩] 19 39 39 rfl rfl (of_decide_eq_true (by kernel_rfl)) (by kernel_rfl) rfl new_pt9 ?_
   simp only [Act.put, zP]
   refine lex_new [.int .u64 0, .string ⟨#[]⟩, .bool false, .int .u64 0, .string ⟨#[]⟩] 20 38 38 rfl rfl (of_decide_eq_true (by kernel_rfl)) (by kernel_rfl) rfl new_frac ?_
   simp only [Act.put, zP]
   refine lex_put [.int .u64 ((zl ux.num : Nat) : Int), .string (zh ux.num), .bool (zs ux.num), .int .u64 ((lo (fe ux) : Nat) : Int), .string (hs (fe ux)), .int .u64 ((zl uy.num : Nat) : Int), .string (zh uy.num), .bool (zs uy.num), .int .u64 ((lo (fe uy) : Nat) : Int), .string (hs (fe uy))] [.int .u64 0, .string ⟨#[]⟩, .bool false, .int .u64 0, .string ⟨#[]⟩, .int .u64 0, .string ⟨#[]⟩, .bool false, .int .u64 0, .string ⟨#[]⟩] 18 39 (.tmp 104) rfl (by kernel_rfl) (by simp [toG, upd]) rfl (fun w k h => put_pt9 _ _ _ _ _ _ _ _ _ _ _ _ _ _ _ _ _ _ _ _ w k h) ?_
   simp only [Act.put]
   refine lex_put [.int .u64 ((zl vx.num : Nat) : Int), .string (zh vx.num), .bool (zs vx.num), .int .u64 ((lo (fe vx) : Nat) : Int), .string (hs (fe vx)), .int .u64 ((zl vy.num : Nat) : Int), .string (zh vy.num), .bool (zs vy.num), .int .u64 ((lo (fe vy) : Nat) : Int), .string (hs (fe vy))] [.int .u64 0, .string ⟨#[]⟩, .bool false, .int .u64 0, .string ⟨#[]⟩, .int .u64 0, .string ⟨#[]⟩, .bool false, .int .u64 0, .string ⟨#[]⟩] 19 39 (.tmp 107) rfl (by kernel_rfl) (by simp [toG, upd]) rfl (fun w k h => put_pt9 _ _ _ _ _ _ _ _ _ _ _ _ _ _ _ _ _ _ _ _ w k h) ?_
   simp only [Act.put]
   refine lex_put [.int .u64 ((zl sq.num : Nat) : Int), .string (zh sq.num), .bool (zs sq.num), .int .u64 ((lo (fe sq) : Nat) : Int), .string (hs (fe sq))] [.int .u64 0, .string ⟨#[]⟩, .bool false, .int .u64 0, .string ⟨#[]⟩] 20 38 (.tmp 109) rfl (by kernel_rfl) (by simp [toG, upd]) rfl (fun w k h => put_frac _ _ _ _ _ _ _ _ _ _ w k h) ?_
   simp only [Act.put]
   refine lexG_nil ?_
   intro κ x71 hSim
   replace hL0 := hL0.ghs hSim [(20, [.int .u64 ((zl sq.num : Nat) : Int), .string (zh sq.num), .bool (zs sq.num), .int .u64 ((lo (fe sq) : Nat) : Int), .string (hs (fe sq))]), (19, [.int .u64 ((zl vx.num : Nat) : Int), .string (zh vx.num), .bool (zs vx.num), .int .u64 ((lo (fe vx) : Nat) : Int), .string (hs (fe vx)), .int .u64 ((zl vy.num : Nat) : Int), .string (zh vy.num), .bool (zs vy.num), .int .u64 ((lo (fe vy) : Nat) : Int), .string (hs (fe vy))]), (18, [.int .u64 ((zl ux.num : Nat) : Int), .string (zh ux.num), .bool (zs ux.num), .int .u64 ((lo (fe ux) : Nat) : Int), .string (hs (fe ux)), .int .u64 ((zl uy.num : Nat) : Int), .string (zh uy.num), .bool (zs uy.num), .int .u64 ((lo (fe uy) : Nat) : Int), .string (hs (fe uy))])] (by simp) (by intro p hp; simp only [List.mem_cons, List.not_mem_nil, or_false] at hp; rcases hp with rfl | rfl | rfl <;> exact ⟨_, by simp only [toG, upd]; rfl⟩)
   simp only [List.map_cons, List.map_nil, List.cons_append, List.nil_append] at hL0
   simp only [over_toG, over_nil, Act.put, zP]
   replace hS := hS.call (below_drew hSim.base)
   clear hSim
   generalize κ 20 = k71_20 at *
   generalize κ 19 = k71_19 at *
   generalize κ 18 = k71_18 at *
   clear hS
   have hS : SS x71 [] := SS.nil x71
   go_wp2_with (at_builtin; refine wp_appendPl rfl _ _ rfl x71.heap.size _ 0 [] rfl (World.ownsRow_nil _ _ _ _) ga ca L (show _ = Value.slice (some ⟨ga, 0, none⟩) L.length ca by rw [hLn.out]; rfl) (news_below9 hca.out hga.out hL0.bl) h0l.out (by omega) (by have := hLn.out; omega) (Nat.le_refl _) ?_)
   intro gp cp y6 hown6 hgrow hat
   have hBx := Lib.hid (show ∀ p ∈ ([(k71_20, [.int .u64 ((zl sq.num : Nat) : Int), .string (zh sq.num), .bool (zs sq.num), .int .u64 ((lo (fe sq) : Nat) : Int), .string (hs (fe sq))]), (k71_19, [.int .u64 ((zl vx.num : Nat) : Int), .string (zh vx.num), .bool (zs vx.num), .int .u64 ((lo (fe vx) : Nat) : Int), .string (hs (fe vx)), .int .u64 ((zl vy.num : Nat) : Int), .string (zh vy.num), .bool (zs vy.num), .int .u64 ((lo (fe vy) : Nat) : Int), .string (hs (fe vy))]), (k71_18, [.int .u64 ((zl ux.num : Nat) : Int), .string (zh ux.num), .bool (zs ux.num), .int .u64 ((lo (fe ux) : Nat) : Int), .string (hs (fe ux)), .int .u64 ((zl uy.num : Nat) : Int), .string (zh uy.num), .bool (zs uy.num), .int .u64 ((lo (fe uy) : Nat) : Int), .string (hs (fe uy))])] : List (Nat × List Value)), p.1 < x71.heap.size from fun p hp => (hL0.all p hp).2.lt)
   have hEx := Lib.hid hL0.bl.size
   have hE6 := Lib.hid hgrow.size
   replace hL0 := gl_grown hL0 hgrow (fun z hz => by cases hz)
   simp only [List.nil_append, Nat.zero_add, hLn.out] at hown6
   simp only [Nat.zero_add, hLn.out]
   replace hown6 := Lib.hid hown6
   clear hgrow hat hS
   have hS : SS y6 [] := SS.nil y6
   go_upto_region 22 with fail
   refine region_tl 39 [EV (.slice (some ⟨gp, 0, none⟩) k cp), EV (.slice (some ⟨ga, 0, none⟩) k ca), EV (.int .i64 (k : Int)), EV (.int .i64 ((k1 : Nat) : Int)), EV (.pointer (some ⟨ga, k1 * 10, none⟩)), EV (.pointer (some ⟨ga, k1 * 10, none⟩)), EV (.agg #[.int .u64 ((zl zx.num : Nat) : Int), .string (zh zx.num), .bool (zs zx.num), .int .u64 ((lo (fe zx) : Nat) : Int), .string (hs (fe zx))]), EV (.agg #[.int .u64 ((zl sq.num : Nat) : Int), .string (zh sq.num), .bool (zs sq.num), .int .u64 ((lo (fe sq) : Nat) : Int), .string (hs (fe sq))]), EV (.pointer (some ⟨k71_18, 0, none⟩)), EV (.agg #[.int .u64 ((zl ux.num : Nat) : Int), .string (zh ux.num), .bool (zs ux.num), .int .u64 ((lo (fe ux) : Nat) : Int), .string (hs (fe ux))]), EV (.slice (some ⟨ga, 0, none⟩) k ca), EV (.int .i64 (k : Int)), EV (.int .i64 ((k1 : Nat) : Int)), EV (.pointer (some ⟨ga, k1 * 10, none⟩)), EV (.pointer (some ⟨ga, k1 * 10, none⟩)), EV (.agg #[.int .u64 ((zl zx.num : Nat) : Int), .string (zh zx.num), .bool (zs zx.num), .int .u64 ((lo (fe zx) : Nat) : Int), .string (hs (fe zx))]), EV (.agg #[.int .u64 ((zl ex.num : Nat) : Int), .string (zh ex.num), .bool (zs ex.num), .int .u64 ((lo (fe ex) : Nat) : Int), .string (hs (fe ex))]), EV (.agg #[.int .u64 ((zl mx.num : Nat) : Int), .string (zh mx.num), .bool (zs mx.num), .int .u64 ((lo (fe mx) : Nat) : Int), .string (hs (fe mx))]), EV (.agg #[.int .u64 ((zl cx.num : Nat) : Int), .string (zh cx.num), .bool (zs cx.num), .int .u64 ((lo (fe cx) : Nat) : Int), .string (hs (fe cx))]), EV (.slice (some ⟨ga, 0, none⟩) k ca), EV (.int .i64 (k : Int)), EV (.int .i64 ((k1 : Nat) : Int)), EV (.pointer (some ⟨ga, k1 * 10, none⟩)), EV (.pointer (some ⟨ga, k1 * 10 + 5, none⟩)), EV (.agg #[.int .u64 ((zl zy.num : Nat) : Int), .string (zh zy.num), .bool (zs zy.num), .int .u64 ((lo (fe zy) : Nat) : Int), .string (hs (fe zy))]), EV (.agg #[.int .u64 ((zl sq.num : Nat) : Int), .string (zh sq.num), .bool (zs sq.num), .int .u64 ((lo (fe sq) : Nat) : Int), .string (hs (fe sq))]), EV (.pointer (some ⟨k71_18, 5, none⟩)), EV (.agg #[.int .u64 ((zl uy.num : Nat) : Int), .string (zh uy.num), .bool (zs uy.num), .int .u64 ((lo (fe uy) : Nat) : Int), .string (hs (fe uy))]), EV (.slice (some ⟨ga, 0, none⟩) k ca), EV (.int .i64 (k : Int)), EV (.int .i64 ((k1 : Nat) : Int)), EV (.pointer (some ⟨ga, k1 * 10, none⟩)), EV (.pointer (some ⟨ga, k1 * 10 + 5, none⟩)), EV (.agg #[.int .u64 ((zl zy.num : Nat) : Int), .string (zh zy.num), .bool (zs zy.num), .int .u64 ((lo (fe zy) : Nat) : Int), .string (hs (fe zy))]), EV (.agg #[.int .u64 ((zl ey.num : Nat) : Int), .string (zh ey.num), .bool (zs ey.num), .int .u64 ((lo (fe ey) : Nat) : Int), .string (hs (fe ey))]), EV (.agg #[.int .u64 ((zl my.num : Nat) : Int), .string (zh my.num), .bool (zs my.num), .int .u64 ((lo (fe my) : Nat) : Int), .string (hs (fe my))]), EV (.agg #[.int .u64 ((zl cy.num : Nat) : Int), .string (zh cy.num), .bool (zs cy.num), .int .u64 ((lo (fe cy) : Nat) : Int), .string (hs (fe cy))]), EV (.agg #[.int .u64 ((zl cx.num : Nat) : Int), .string (zh cx.num), .bool (zs cx.num), .int .u64 ((lo (fe cx) : Nat) : Int), .string (hs (fe cx)), .int .u64 ((zl cy.num : Nat) : Int), .string (zh cy.num), .bool (zs cy.num), .int .u64 ((lo (fe cy) : Nat) : Int), .string (hs (fe cy))]), NewS (y6.heap.size, [.int .u64 ((zl cx.num : Nat) : Int), .string (zh cx.num), .bool (zs cx.num), .int .u64 ((lo (fe cx) : Nat) : Int), .string (hs (fe cx)), .int .u64 ((zl cy.num : Nat) : Int), .string (zh cy.num), .bool (zs cy.num), .int .u64 ((lo (fe cy) : Nat) : Int), .string (hs (fe cy))], 1)] (by kernel_rfl) (by kernel_rfl) ?_ ?_ ?_
   ·repeat' first | exact stays_nil | apply stays_cons | exact stays_eq _ | exact stays_news _
   ·simp only [List.take_succ_cons, List.take_zero, hopsR, and_true]
    refine ⟨?_, ?_, ?_, ?_, ?_, ?_, ?_, ?_, ?_, ?_, ?_, ?_, ?_, ?_, ?_, ?_, ?_, ?_, ?_, ?_, ?_, ?_, ?_, ?_, ?_, ?_, ?_, ?_, ?_, ?_, ?_, ?_, ?_, ?_, ?_, ?_, ?_, ?_, ?_⟩ <;> intro fv w1 hb1 hp
    all_goals (have hc := (hL0.call (below_drew hb1)).fc; simp only [zF, Nat.reduceAdd] at hc; simp only [putsV, Act.put, zP, Nat.zero_add, Nat.reduceAdd])
    ·refine tyAt_none rfl ?_
     simp [tyUpon, execOp, go_sem, Act.eval, ka0, ka1, ka2, ka3, ka4, ka5, ka6, kc.out, kd.out, Below.refl]
    ·refine tyAt_none rfl ?_
     simp [tyUpon, execOp, go_sem, Act.eval, ka0, ka1, ka2, ka3, ka4, ka5, ka6, kc.out, kd.out, Below.refl]
    ·refine tyAt_none rfl ?_
     simp [tyUpon, execOp, go_sem, Act.eval, ka0, ka1, ka2, ka3, ka4, ka5, ka6, kc.out, kd.out, Below.refl]
    ·have h2 : EV _ (fv 2) w1 := hp 2 (LC (by kernel_rfl))
     refine tyAt_none rfl ?_
     simp [tyUpon, execOp, go_sem, Act.eval, h2, ka0, ka1, ka2, ka3, ka4, ka5, ka6, kc.out, kd.out, Below.refl]
    ·have h1 : EV _ (fv 1) w1 := hp 1 (LC (by kernel_rfl))
     have h3 : EV _ (fv 3) w1 := hp 3 (LC (by kernel_rfl))
     refine tyAt_none rfl ?_
     simp [tyUpon, execOp, go_sem, Act.eval, h1, h3, ka0, ka1, ka2, ka3, ka4, ka5, ka6, kc.out, kd.out, Below.refl]
    ·have h4 : EV _ (fv 4) w1 := hp 4 (LC (by kernel_rfl))
     refine tyAt_none rfl ?_
     simp [tyUpon, execOp, go_sem, Act.eval, h4, ka0, ka1, ka2, ka3, ka4, ka5, ka6, kc.out, kd.out, Below.refl]
    ·have h5 : EV _ (fv 5) w1 := hp 5 (LC (by kernel_rfl))
     refine tyAt_none rfl ?_
     have hz := (hfp.out.below (hL0.call (below_drew hb1)).bl).cell k1 h2l.out
     rw [hz9.out] at hz
     simp [tyUpon, execOp, go_sem, Act.eval, hc, h5, ka0, ka1, ka2, ka3, ka4, ka5, ka6, kc.out, kd.out, hz, Below.refl]
    ·refine tyAt_none rfl ?_
     simp [tyUpon, execOp, go_sem, Act.eval, hc, ka0, ka1, ka2, ka3, ka4, ka5, ka6, kc.out, kd.out, Below.refl]
    ·refine tyAt_none rfl ?_
     simp [tyUpon, execOp, go_sem, Act.eval, ka0, ka1, ka2, ka3, ka4, ka5, ka6, kc.out, kd.out, Below.refl]
    ·have h8 : EV _ (fv 8) w1 := hp 8 (LC (by kernel_rfl))
     refine tyAt_none rfl ?_
     simp [tyUpon, execOp, go_sem, Act.eval, hc, h8, ka0, ka1, ka2, ka3, ka4, ka5, ka6, kc.out, kd.out, Below.refl]
    ·refine tyAt_none rfl ?_
     simp [tyUpon, execOp, go_sem, Act.eval, ka0, ka1, ka2, ka3, ka4, ka5, ka6, kc.out, kd.out, Below.refl]
    ·refine tyAt_none rfl ?_
     simp [tyUpon, execOp, go_sem, Act.eval, ka0, ka1, ka2, ka3, ka4, ka5, ka6, kc.out, kd.out, Below.refl]
    ·have h11 : EV _ (fv 11) w1 := hp 11 (LC (by kernel_rfl))
     refine tyAt_none rfl ?_
     simp [tyUpon, execOp, go_sem, Act.eval, h11, ka0, ka1, ka2, ka3, ka4, ka5, ka6, kc.out, kd.out, Below.refl]
    ·have h10 : EV _ (fv 10) w1 := hp 10 (LC (by kernel_rfl))
     have h12 : EV _ (fv 12) w1 := hp 12 (LC (by kernel_rfl))
     refine tyAt_none rfl ?_
     simp [tyUpon, execOp, go_sem, Act.eval, h10, h12, ka0, ka1, ka2, ka3, ka4, ka5, ka6, kc.out, kd.out, Below.refl]
    ·have h13 : EV _ (fv 13) w1 := hp 13 (LC (by kernel_rfl))
     refine tyAt_none rfl ?_
     simp [tyUpon, execOp, go_sem, Act.eval, h13, ka0, ka1, ka2, ka3, ka4, ka5, ka6, kc.out, kd.out, Below.refl]
    ·have h14 : EV _ (fv 14) w1 := hp 14 (LC (by kernel_rfl))
     refine tyAt_none rfl ?_
     have hz := (hfp.out.below (hL0.call (below_drew hb1)).bl).cell k1 h2l.out
     rw [hz9.out] at hz
     simp [tyUpon, execOp, go_sem, Act.eval, hc, h14, ka0, ka1, ka2, ka3, ka4, ka5, ka6, kc.out, kd.out, hz, Below.refl]
    ·have h9 : EV _ (fv 9) w1 := hp 9 (LC (by kernel_rfl))
     have h15 : EV _ (fv 15) w1 := hp 15 (LC (by kernel_rfl))
     refine tyAt_none rfl ?_
     refine ty_call (f := 21) (args := #[.agg #[.int .u64 ((zl ux.num : Nat) : Int), .string (zh ux.num), .bool (zs ux.num), .int .u64 ((lo (fe ux) : Nat) : Int), .string (hs (fe ux))], .agg #[.int .u64 ((zl zx.num : Nat) : Int), .string (zh zx.num), .bool (zs zx.num), .int .u64 ((lo (fe zx) : Nat) : Int), .string (hs (fe zx))]]) (by simp [execOp, go_sem, Act.eval, h9, h15]) ?_
     exact (HB1.out w1).mono fun e w2 ⟨h1, h2⟩ => ⟨_, h1, rfl, h2⟩
    ·have h7 : EV _ (fv 7) w1 := hp 7 (LC (by kernel_rfl))
     have h16 : EV _ (fv 16) w1 := hp 16 (LC (by kernel_rfl))
     refine tyAt_none rfl ?_
     refine ty_call (f := 24) (args := #[.agg #[.int .u64 ((zl sq.num : Nat) : Int), .string (zh sq.num), .bool (zs sq.num), .int .u64 ((lo (fe sq) : Nat) : Int), .string (hs (fe sq))], .agg #[.int .u64 ((zl ex.num : Nat) : Int), .string (zh ex.num), .bool (zs ex.num), .int .u64 ((lo (fe ex) : Nat) : Int), .string (hs (fe ex))]]) (by simp [execOp, go_sem, Act.eval, h7, h16]) ?_
     exact (HC1.out w1).mono fun e w2 ⟨h1, h2⟩ => ⟨_, h1, rfl, h2⟩
    ·have h6 : EV _ (fv 6) w1 := hp 6 (LC (by kernel_rfl))
     have h17 : EV _ (fv 17) w1 := hp 17 (LC (by kernel_rfl))
     refine tyAt_none rfl ?_
     refine ty_call (f := 16) (args := #[.agg #[.int .u64 ((zl zx.num : Nat) : Int), .string (zh zx.num), .bool (zs zx.num), .int .u64 ((lo (fe zx) : Nat) : Int), .string (hs (fe zx))], .agg #[.int .u64 ((zl mx.num : Nat) : Int), .string (zh mx.num), .bool (zs mx.num), .int .u64 ((lo (fe mx) : Nat) : Int), .string (hs (fe mx))]]) (by simp [execOp, go_sem, Act.eval, h6, h17]) ?_
     exact (HD1.out w1).mono fun e w2 ⟨h1, h2⟩ => ⟨_, h1, rfl, h2⟩
    ·refine tyAt_none rfl ?_
     simp [tyUpon, execOp, go_sem, Act.eval, ka0, ka1, ka2, ka3, ka4, ka5, ka6, kc.out, kd.out, Below.refl]
    ·refine tyAt_none rfl ?_
     simp [tyUpon, execOp, go_sem, Act.eval, ka0, ka1, ka2, ka3, ka4, ka5, ka6, kc.out, kd.out, Below.refl]
    ·have h20 : EV _ (fv 20) w1 := hp 20 (LC (by kernel_rfl))
     refine tyAt_none rfl ?_
     simp [tyUpon, execOp, go_sem, Act.eval, h20, ka0, ka1, ka2, ka3, ka4, ka5, ka6, kc.out, kd.out, Below.refl]
    ·have h19 : EV _ (fv 19) w1 := hp 19 (LC (by kernel_rfl))
     have h21 : EV _ (fv 21) w1 := hp 21 (LC (by kernel_rfl))
     refine tyAt_none rfl ?_
     simp [tyUpon, execOp, go_sem, Act.eval, h19, h21, ka0, ka1, ka2, ka3, ka4, ka5, ka6, kc.out, kd.out, Below.refl]
    ·have h22 : EV _ (fv 22) w1 := hp 22 (LC (by kernel_rfl))
     refine tyAt_none rfl ?_
     simp [tyUpon, execOp, go_sem, Act.eval, h22, ka0, ka1, ka2, ka3, ka4, ka5, ka6, kc.out, kd.out, Below.refl]
    ·have h23 : EV _ (fv 23) w1 := hp 23 (LC (by kernel_rfl))
     refine tyAt_none rfl ?_
     have hz := (hfp.out.below (hL0.call (below_drew hb1)).bl).cell k1 h2l.out
     rw [hz9.out] at hz
     simp [tyUpon, execOp, go_sem, Act.eval, hc, h23, ka0, ka1, ka2, ka3, ka4, ka5, ka6, kc.out, kd.out, hz, Below.refl]
    ·refine tyAt_none rfl ?_
     simp [tyUpon, execOp, go_sem, Act.eval, hc, ka0, ka1, ka2, ka3, ka4, ka5, ka6, kc.out, kd.out, Below.refl]
    ·refine tyAt_none rfl ?_
     simp [tyUpon, execOp, go_sem, Act.eval, ka0, ka1, ka2, ka3, ka4, ka5, ka6, kc.out, kd.out, Below.refl]
    ·have h26 : EV _ (fv 26) w1 := hp 26 (LC (by kernel_rfl))
     refine tyAt_none rfl ?_
     simp [tyUpon, execOp, go_sem, Act.eval, hc, h26, ka0, ka1, ka2, ka3, ka4, ka5, ka6, kc.out, kd.out, Below.refl]
    ·refine tyAt_none rfl ?_
     simp [tyUpon, execOp, go_sem, Act.eval, ka0, ka1, ka2, ka3, ka4, ka5, ka6, kc.out, kd.out, Below.refl]
    ·refine tyAt_none rfl ?_
     simp [tyUpon, execOp, go_sem, Act.eval, ka0, ka1, ka2, ka3, ka4, ka5, ka6, kc.out, kd.out, Below.refl]
    ·have h29 : EV _ (fv 29) w1 := hp 29 (LC (by kernel_rfl))
     refine tyAt_none rfl ?_
     simp [tyUpon, execOp, go_sem, Act.eval, h29, ka0, ka1, ka2, ka3, ka4, ka5, ka6, kc.out, kd.out, Below.refl]
    ·have h28 : EV _ (fv 28) w1 := hp 28 (LC (by kernel_rfl))
     have h30 : EV _ (fv 30) w1 := hp 30 (LC (by kernel_rfl))
     refine tyAt_none rfl ?_
     simp [tyUpon, execOp, go_sem, Act.eval, h28, h30, ka0, ka1, ka2, ka3, ka4, ka5, ka6, kc.out, kd.out, Below.refl]
    ·have h31 : EV _ (fv 31) w1 := hp 31 (LC (by kernel_rfl))
     refine tyAt_none rfl ?_
     simp [tyUpon, execOp, go_sem, Act.eval, h31, ka0, ka1, ka2, ka3, ka4, ka5, ka6, kc.out, kd.out, Below.refl]
    ·have h32 : EV _ (fv 32) w1 := hp 32 (LC (by kernel_rfl))
     refine tyAt_none rfl ?_
     have hz := (hfp.out.below (hL0.call (below_drew hb1)).bl).cell k1 h2l.out
     rw [hz9.out] at hz
     simp [tyUpon, execOp, go_sem, Act.eval, hc, h32, ka0, ka1, ka2, ka3, ka4, ka5, ka6, kc.out, kd.out, hz, Below.refl]
    ·have h27 : EV _ (fv 27) w1 := hp 27 (LC (by kernel_rfl))
     have h33 : EV _ (fv 33) w1 := hp 33 (LC (by kernel_rfl))
     refine tyAt_none rfl ?_
     refine ty_call (f := 21) (args := #[.agg #[.int .u64 ((zl uy.num : Nat) : Int), .string (zh uy.num), .bool (zs uy.num), .int .u64 ((lo (fe uy) : Nat) : Int), .string (hs (fe uy))], .agg #[.int .u64 ((zl zy.num : Nat) : Int), .string (zh zy.num), .bool (zs zy.num), .int .u64 ((lo (fe zy) : Nat) : Int), .string (hs (fe zy))]]) (by simp [execOp, go_sem, Act.eval, h27, h33]) ?_
     exact (HB2.out w1).mono fun e w2 ⟨h1, h2⟩ => ⟨_, h1, rfl, h2⟩
    ·have h25 : EV _ (fv 25) w1 := hp 25 (LC (by kernel_rfl))
     have h34 : EV _ (fv 34) w1 := hp 34 (LC (by kernel_rfl))
     refine tyAt_none rfl ?_
     refine ty_call (f := 24) (args := #[.agg #[.int .u64 ((zl sq.num : Nat) : Int), .string (zh sq.num), .bool (zs sq.num), .int .u64 ((lo (fe sq) : Nat) : Int), .string (hs (fe sq))], .agg #[.int .u64 ((zl ey.num : Nat) : Int), .string (zh ey.num), .bool (zs ey.num), .int .u64 ((lo (fe ey) : Nat) : Int), .string (hs (fe ey))]]) (by simp [execOp, go_sem, Act.eval, h25, h34]) ?_
     exact (HC2.out w1).mono fun e w2 ⟨h1, h2⟩ => ⟨_, h1, rfl, h2⟩
    ·have h24 : EV _ (fv 24) w1 := hp 24 (LC (by kernel_rfl))
     have h35 : EV _ (fv 35) w1 := hp 35 (LC (by kernel_rfl))
     refine tyAt_none rfl ?_
     refine ty_call (f := 16) (args := #[.agg #[.int .u64 ((zl zy.num : Nat) : Int), .string (zh zy.num), .bool (zs zy.num), .int .u64 ((lo (fe zy) : Nat) : Int), .string (hs (fe zy))], .agg #[.int .u64 ((zl my.num : Nat) : Int), .string (zh my.num), .bool (zs my.num), .int .u64 ((lo (fe my) : Nat) : Int), .string (hs (fe my))]]) (by simp [execOp, go_sem, Act.eval, h24, h35]) ?_
     exact (HD2.out w1).mono fun e w2 ⟨h1, h2⟩ => ⟨_, h1, rfl, h2⟩
    ·have h18 : EV _ (fv 18) w1 := hp 18 (LC (by kernel_rfl))
     have h36 : EV _ (fv 36) w1 := hp 36 (LC (by kernel_rfl))
     refine tyAt_none rfl ?_
     simp [tyUpon, execOp, go_sem, Act.eval, h18, h36, ka0, ka1, ka2, ka3, ka4, ka5, ka6, kc.out, kd.out, Below.refl]
    ·have h37 : EV _ (fv 37) w1 := hp 37 (LC (by kernel_rfl))
     refine tyAt_none rfl ?_
     refine ty_val8 (u := .slice (some ⟨w1.heap.size, 0, none⟩) 1 1) (w' := w1.alloc (.cells #[.int .u64 ((zl cx.num : Nat) : Int), .string (zh cx.num), .bool (zs cx.num), .int .u64 ((lo (fe cx) : Nat) : Int), .string (hs (fe cx)), .int .u64 ((zl cy.num : Nat) : Int), .string (zh cy.num), .bool (zs cy.num), .int .u64 ((lo (fe cy) : Nat) : Int), .string (hs (fe cy))] 39)) (by simp [execOp, go_sem, Act.eval, h37]) ((Below.refl _ _).alloc (Nat.le_refl _) _) (news_mk (below_drew hb1).size)
   ·intro fv x81 hb1 hv
    have e0 : fv 0 = _ := hv 0 (by omega)
    have e1 : fv 1 = _ := hv 1 (by omega)
    have e2 : fv 2 = _ := hv 2 (by omega)
    have e3 : fv 3 = _ := hv 3 (by omega)
    have e4 : fv 4 = _ := hv 4 (by omega)
    have e5 : fv 5 = _ := hv 5 (by omega)
    have e6 : fv 6 = _ := hv 6 (by omega)
    have e7 : fv 7 = _ := hv 7 (by omega)
    have e8 : fv 8 = _ := hv 8 (by omega)
    have e9 : fv 9 = _ := hv 9 (by omega)
    have e10 : fv 10 = _ := hv 10 (by omega)
    have e11 : fv 11 = _ := hv 11 (by omega)
    have e12 : fv 12 = _ := hv 12 (by omega)
    have e13 : fv 13 = _ := hv 13 (by omega)
    have e14 : fv 14 = _ := hv 14 (by omega)
    have e15 : fv 15 = _ := hv 15 (by omega)
    have e16 : fv 16 = _ := hv 16 (by omega)
    have e17 : fv 17 = _ := hv 17 (by omega)
    have e18 : fv 18 = _ := hv 18 (by omega)
    have e19 : fv 19 = _ := hv 19 (by omega)
    have e20 : fv 20 = _ := hv 20 (by omega)
    have e21 : fv 21 = _ := hv 21 (by omega)
    have e22 : fv 22 = _ := hv 22 (by omega)
    have e23 : fv 23 = _ := hv 23 (by omega)
    have e24 : fv 24 = _ := hv 24 (by omega)
    have e25 : fv 25 = _ := hv 25 (by omega)
    have e26 : fv 26 = _ := hv 26 (by omega)
    have e27 : fv 27 = _ := hv 27 (by omega)
    have e28 : fv 28 = _ := hv 28 (by omega)
    have e29 : fv 29 = _ := hv 29 (by omega)
    have e30 : fv 30 = _ := hv 30 (by omega)
    have e31 : fv 31 = _ := hv 31 (by omega)
    have e32 : fv 32 = _ := hv 32 (by omega)
    have e33 : fv 33 = _ := hv 33 (by omega)
    have e34 : fv 34 = _ := hv 34 (by omega)
    have e35 : fv 35 = _ := hv 35 (by omega)
    have e36 : fv 36 = _ := hv 36 (by omega)
    have e37 : fv 37 = _ := hv 37 (by omega)
    have q38 : NewS ((y6.heap.size, [.int .u64 ((zl cx.num : Nat) : Int), .string (zh cx.num), .bool (zs cx.num), .int .u64 ((lo (fe cx) : Nat) : Int), .string (hs (fe cx)), .int .u64 ((zl cy.num : Nat) : Int), .string (zh cy.num), .bool (zs cy.num), .int .u64 ((lo (fe cy) : Nat) : Int), .string (hs (fe cy))], 1)) (fv 38) x81 := hv 38 (by omega)
    obtain ⟨g1, e38, ng1, mg1⟩ := news_parts q38
    rw [e38] at q38
    simp only [List.take_succ_cons, List.take_zero, putsV, Act.put, zP, List.drop_succ_cons, List.drop_zero, Nat.zero_add, Nat.reduceAdd, e0, e1, e2, e3, e4, e5, e6, e7, e8, e9, e10, e11, e12, e13, e14, e15, e16, e17, e18, e19, e20, e21, e22, e23, e24, e25, e26, e27, e28, e29, e30, e31, e32, e33, e34, e35, e36, e37, e38]
    replace hL0 := hL0.call (below_drew hb1)
    replace hS := hS.call (below_drew hb1)
    have hown7 := Lib.hid (ownPt_below hown6.out (below_drew hb1))
    have hE7 := Lib.hid (Nat.le_trans hE6.out (below_drew hb1).size)
    clear e0 e1 e2 e3 e4 e5 e6 e7 e8 e9 e10 e11 e12 e13 e14 e15 e16 e17 e18 e19 e20 e21 e22 e23 e24 e25 e26 e27 e28 e29 e30 e31 e32 e33 e34 e35 e36 e37 e38 hb1 hv q38 fv
    have hH := Lib.hid mg1
    go_wp2_with (at_builtin; refine wp_appendP1 rfl _ _ rfl x71.heap.size _ k L rfl hown7.out _ ⟨cx, cy⟩ rfl hH.out (by omega) hE7.out ?_)
    intro gq cq2 y7 hown8 hgrow hat
    replace hL0 := gl_grown hL0 hgrow (fun z hz => ⟨Nat.le_trans hEx.out (World.ownsRow.lt hown7.out z hz).1, fun p hp => Nat.ne_of_lt (Nat.lt_of_lt_of_le (hBx.out p hp) (World.ownsRow.lt hown7.out z hz).1)⟩)
    have hlq7 := Lib.hid (ownPt_pl hown8 (by rw [List.length_append, hLn.out]; rfl))
    have hla7 := Lib.hid (hla.out.below hL0.bl)
    have hlr7 := Lib.hid (hlr.out.below hL0.bl)
    have hlm7 := Lib.hid (hlm.out.below hL0.bl)
    have fP7 := Lib.hid (hP5.out.below hL0.bl)
    have hu18 := Lib.hid (hL0.get _ _ (mK (mK (mZ))))
    have hu19 := Lib.hid (hL0.get _ _ (mK (mZ)))
    have hW7 := Lib.hid (hWr.out.trans (hL0.bl.mono hWr.out.size))
    have hfp7 := Lib.hid (hfp.out.below hL0.bl)
    have kKT : Tab y7 := (ht.out.below hWr.out).below hL0.bl
    have hKT := Lib.hid Keeps.tab
    clear hgrow hat hown8 hown7 hH hE7 hEx hBx hE6 hL0 hS hown6 hla hlr hlm hP5 hd7 hca hga hu hv9 hz9 hfp
    have hL0 : GL y7 y7 [] := GL.start y7
    have hS : SS y7 [] := SS.nil y7
    obtain ⟨KA, hKAe⟩ : ∃ K : World → Prop, K = fun w => PT w (.slice pa pn pc) P ∧ PL w (.slice (some ⟨ga, 0, none⟩) k ca) (L) := ⟨_, rfl⟩
    have hKA := Lib.hid (show Keeps KA by rw [hKAe]; exact fun _ _ hb h => ⟨h.1.below hb, h.2.below hb⟩)
    have kKA : KA y7 := by rw [hKAe]; exact ⟨fP7.out, hla7.out⟩
    have PA := Lib.hid (show ∀ w, KA w → Calls Tryz.prog 29 #[.slice pa pn pc, .slice (some ⟨ga, 0, none⟩) k ca] w fun xe w' => xe = .returned (.agg #[.int .u64 ((zl sm.num : Nat) : Int), .string (zh sm.num), .bool (zs sm.num), .int .u64 ((lo (fe sm) : Nat) : Int), .string (hs (fe sm))]) ∧ Below w.heap.size w w' from fun w h => by rw [hKAe] at h; exact HPA.out _ _ w h.1 h.2)
    replace hKAe := Lib.hid hKAe
    obtain ⟨KR, hKRe⟩ : ∃ K : World → Prop, K = fun w => PT w (.slice pa pn pc) P ∧ PL w (.slice (some ⟨gr, 0, none⟩) k cr) (TL9) := ⟨_, rfl⟩
    have hKR := Lib.hid (show Keeps KR by rw [hKRe]; exact fun _ _ hb h => ⟨h.1.below hb, h.2.below hb⟩)
    have kKR : KR y7 := by rw [hKRe]; exact ⟨fP7.out, hlr7.out⟩
    have PR := Lib.hid (show ∀ w, KR w → Calls Tryz.prog 29 #[.slice pa pn pc, .slice (some ⟨gr, 0, none⟩) k cr] w fun xe w' => xe = .returned (.agg #[.int .u64 ((zl sm.num : Nat) : Int), .string (zh sm.num), .bool (zs sm.num), .int .u64 ((lo (fe sm) : Nat) : Int), .string (hs (fe sm))]) ∧ Below w.heap.size w w' from fun w h => by rw [hKRe] at h; exact HPR.out _ _ w h.1 h.2)
    replace hKRe := Lib.hid hKRe
    obtain ⟨KM, hKMe⟩ : ∃ K : World → Prop, K = fun w => PT w (.slice pa pn pc) P ∧ PL w (.slice (some ⟨gm, 0, none⟩) k cq) (RL9) := ⟨_, rfl⟩
    have hKM := Lib.hid (show Keeps KM by rw [hKMe]; exact fun _ _ hb h => ⟨h.1.below hb, h.2.below hb⟩)
    have kKM : KM y7 := by rw [hKMe]; exact ⟨fP7.out, hlm7.out⟩
    have PM := Lib.hid (show ∀ w, KM w → Calls Tryz.prog 29 #[.slice pa pn pc, .slice (some ⟨gm, 0, none⟩) k cq] w fun xe w' => xe = .returned (.agg #[.int .u64 ((zl ng.num : Nat) : Int), .string (zh ng.num), .bool (zs ng.num), .int .u64 ((lo (fe ng) : Nat) : Int), .string (hs (fe ng))]) ∧ Below w.heap.size w w' from fun w h => by rw [hKMe] at h; exact HPM.out _ _ w h.1 h.2)
    replace hKMe := Lib.hid hKMe
    obtain ⟨KQ, hKQe⟩ : ∃ K : World → Prop, K = fun w => PT w (.slice pa pn pc) P ∧ PL w (.slice (some ⟨gq, 0, none⟩) (k + 1) cq2) (L ++ [⟨cx, cy⟩]) := ⟨_, rfl⟩
    have hKQ := Lib.hid (show Keeps KQ by rw [hKQe]; exact fun _ _ hb h => ⟨h.1.below hb, h.2.below hb⟩)
    have kKQ : KQ y7 := by rw [hKQe]; exact ⟨fP7.out, hlq7.out⟩
    have PQ := Lib.hid (show ∀ w, KQ w → Calls Tryz.prog 29 #[.slice pa pn pc, .slice (some ⟨gq, 0, none⟩) (k + 1) cq2] w fun xe w' => xe = .returned (.agg #[.int .u64 ((zl sm.num : Nat) : Int), .string (zh sm.num), .bool (zs sm.num), .int .u64 ((lo (fe sm) : Nat) : Int), .string (hs (fe sm))]) ∧ Below w.heap.size w w' from fun w h => by rw [hKQe] at h; exact HPQ.out _ _ w h.1 h.2)
    replace hKQe := Lib.hid hKQe
    obtain ⟨KP, hKPe⟩ : ∃ K : World → Prop, K = fun w => PT w (.slice pa pn pc) P := ⟨_, rfl⟩
    have hKP := Lib.hid (show Keeps KP by rw [hKPe]; exact fun _ _ hb h => h.below hb)
    have kKP : KP y7 := by rw [hKPe]; exact fP7.out
    have FL0 := Lib.hid (show ∀ w, KP w → Calls Tryz.prog 15 #[.slice pa pn pc, .slice none 0 0, .agg #[.int .u64 ((zl ux.num : Nat) : Int), .string (zh ux.num), .bool (zs ux.num), .int .u64 ((lo (fe ux) : Nat) : Int), .string (hs (fe ux)), .int .u64 ((zl uy.num : Nat) : Int), .string (zh uy.num), .bool (zs uy.num), .int .u64 ((lo (fe uy) : Nat) : Int), .string (hs (fe uy))], .agg #[.int .u64 ((zl vx.num : Nat) : Int), .string (zh vx.num), .bool (zs vx.num), .int .u64 ((lo (fe vx) : Nat) : Int), .string (hs (fe vx)), .int .u64 ((zl vy.num : Nat) : Int), .string (zh vy.num), .bool (zs vy.num), .int .u64 ((lo (fe vy) : Nat) : Int), .string (hs (fe vy))]] w fun xe w' => xe = .returned (.agg #[.int .u64 ((zl f0.num : Nat) : Int), .string (zh f0.num), .bool (zs f0.num), .int .u64 ((lo (fe f0) : Nat) : Int), .string (hs (fe f0))]) ∧ Below w.heap.size w w' from fun w h => by rw [hKPe] at h; exact HF0.out _ _ w h (pt_nil _))
    replace hKPe := Lib.hid hKPe
    go_wp2_with fail
    with_reducible refine Calls.mono (PA.out _ (hKA.out.at hL0.bl kKA)) ?_
    rintro e x91 ⟨rfl, hb⟩
    replace hL0 := hL0.call hb
    replace hS := hS.call hb
    clear hb
    obtain ⟨x92, hweq, hL0, hS⟩ := GL.named2 (hL0.new rfl [.int .u64 ((zl sm.num : Nat) : Int), .string (zh sm.num), .bool (zs sm.num), .int .u64 ((lo (fe sm) : Nat) : Int), .string (hs (fe sm))] 38) (hS.new (.cells #[.int .u64 ((zl sm.num : Nat) : Int), .string (zh sm.num), .bool (zs sm.num), .int .u64 ((lo (fe sm) : Nat) : Int), .string (hs (fe sm))] 38))
    have du := hu18.out.below hL0.bl
    have cu : x92.cell? ⟨k71_18, 0, none⟩ = some (.int .u64 ((zl ux.num : Nat) : Int)) ∧ x92.cell? ⟨k71_18, 1, none⟩ = some (.string (zh ux.num)) ∧ x92.cell? ⟨k71_18, 2, none⟩ = some (.bool (zs ux.num)) ∧ x92.cell? ⟨k71_18, 3, none⟩ = some (.int .u64 ((lo (fe ux) : Nat) : Int)) ∧ x92.cell? ⟨k71_18, 4, none⟩ = some (.string (hs (fe ux))) ∧ x92.cell? ⟨k71_18, 5, none⟩ = some (.int .u64 ((zl uy.num : Nat) : Int)) ∧ x92.cell? ⟨k71_18, 6, none⟩ = some (.string (zh uy.num)) ∧ x92.cell? ⟨k71_18, 7, none⟩ = some (.bool (zs uy.num)) ∧ x92.cell? ⟨k71_18, 8, none⟩ = some (.int .u64 ((lo (fe uy) : Nat) : Int)) ∧ x92.cell? ⟨k71_18, 9, none⟩ = some (.string (hs (fe uy))) := ⟨du.cell 0 (by simp), du.cell 1 (by simp), du.cell 2 (by simp), du.cell 3 (by simp), du.cell 4 (by simp), du.cell 5 (by simp), du.cell 6 (by simp), du.cell 7 (by simp), du.cell 8 (by simp), du.cell 9 (by simp)⟩
    have dv := hu19.out.below hL0.bl
    have cv : x92.cell? ⟨k71_19, 0, none⟩ = some (.int .u64 ((zl vx.num : Nat) : Int)) ∧ x92.cell? ⟨k71_19, 1, none⟩ = some (.string (zh vx.num)) ∧ x92.cell? ⟨k71_19, 2, none⟩ = some (.bool (zs vx.num)) ∧ x92.cell? ⟨k71_19, 3, none⟩ = some (.int .u64 ((lo (fe vx) : Nat) : Int)) ∧ x92.cell? ⟨k71_19, 4, none⟩ = some (.string (hs (fe vx))) ∧ x92.cell? ⟨k71_19, 5, none⟩ = some (.int .u64 ((zl vy.num : Nat) : Int)) ∧ x92.cell? ⟨k71_19, 6, none⟩ = some (.string (zh vy.num)) ∧ x92.cell? ⟨k71_19, 7, none⟩ = some (.bool (zs vy.num)) ∧ x92.cell? ⟨k71_19, 8, none⟩ = some (.int .u64 ((lo (fe vy) : Nat) : Int)) ∧ x92.cell? ⟨k71_19, 9, none⟩ = some (.string (hs (fe vy))) := ⟨dv.cell 0 (by simp), dv.cell 1 (by simp), dv.cell 2 (by simp), dv.cell 3 (by simp), dv.cell 4 (by simp), dv.cell 5 (by simp), dv.cell 6 (by simp), dv.cell 7 (by simp), dv.cell 8 (by simp), dv.cell 9 (by simp)⟩
    clear du dv
    go_wp2_with fail
    with_reducible refine Calls.mono (FL0.out _ (hKP.out.at hL0.bl kKP)) ?_
    rintro e x93 ⟨rfl, hb⟩
    replace hL0 := hL0.call hb
    replace hS := hS.call hb
    clear hb hweq
    obtain ⟨x94, hweq, hL0, hS⟩ := GL.named2 (hL0.new rfl [.int .u64 ((zl f0.num : Nat) : Int), .string (zh f0.num), .bool (zs f0.num), .int .u64 ((lo (fe f0) : Nat) : Int), .string (hs (fe f0))] 38) (hS.new (.cells #[.int .u64 ((zl f0.num : Nat) : Int), .string (zh f0.num), .bool (zs f0.num), .int .u64 ((lo (fe f0) : Nat) : Int), .string (hs (fe f0))] 38))
    go_wp2_with fail
    clear hweq
    clear hS cu cv
    go_loopg [23] (k - 1) (fun gk iv wr => ∃ (i : Nat) (zi : Int) (qf : Rat), i + gk = k ∧ 1 ≤ i ∧ iv = .int .i64 zi ∧ zi = (i : Int) ∧ qf = FS i ∧ GL y7 wr [(x93.heap.size, [.int .u64 ((zl qf.num : Nat) : Int), .string (zh qf.num), .bool (zs qf.num), .int .u64 ((lo (fe qf) : Nat) : Int), .string (hs (fe qf))]), (x91.heap.size, [.int .u64 ((zl sm.num : Nat) : Int), .string (zh sm.num), .bool (zs sm.num), .int .u64 ((lo (fe sm) : Nat) : Int), .string (hs (fe sm))])])
    case atStart => exact ⟨1, 1, f0, by omega, Nat.le_refl _, by first | rfl | go_num, rfl, HF1.out, hL0⟩
    case round =>
     clear hL0
     obtain ⟨i, zi, qf, hik, hi1, rfl, hzi, hqf, hL0⟩ := hrel
     have hS : SS wr [] := SS.nil wr
     replace hqf := Lib.hid hqf
     rcases Nat.lt_or_ge i k with hin | hin
     ·subst hzi
      obtain ⟨j, hj⟩ : ∃ j, j = (i + 1) % k := ⟨_, rfl⟩
      have hjn : j < k := by rw [hj]; exact Nat.mod_lt _ k12
      have hil := Lib.hid (show i < L.length by rw [hLn.out]; exact hin)
      have hjl := Lib.hid (show j < L.length by rw [hLn.out]; exact hjn)
      obtain ⟨px, hpx⟩ : ∃ z, z = (L[i]'hil.out).x := ⟨_, rfl⟩
      obtain ⟨py, hpy⟩ : ∃ z, z = (L[i]'hil.out).y := ⟨_, rfl⟩
      obtain ⟨qx, hqx⟩ : ∃ z, z = (L[j]'hjl.out).x := ⟨_, rfl⟩
      obtain ⟨qy, hqy⟩ : ∃ z, z = (L[j]'hjl.out).y := ⟨_, rfl⟩
      obtain ⟨gv, hgv⟩ : ∃ z, z = G9 i := ⟨_, rfl⟩
      obtain ⟨qn, hqn⟩ : ∃ z, z = FS (i + 1) := ⟨_, rfl⟩
      have FL1 := Lib.hid (show ∀ w, KP w → Calls Tryz.prog 15 #[.slice pa pn pc, .slice none 0 0, .agg #[.int .u64 ((zl px.num : Nat) : Int), .string (zh px.num), .bool (zs px.num), .int .u64 ((lo (fe px) : Nat) : Int), .string (hs (fe px)), .int .u64 ((zl py.num : Nat) : Int), .string (zh py.num), .bool (zs py.num), .int .u64 ((lo (fe py) : Nat) : Int), .string (hs (fe py))], .agg #[.int .u64 ((zl qx.num : Nat) : Int), .string (zh qx.num), .bool (zs qx.num), .int .u64 ((lo (fe qx) : Nat) : Int), .string (hs (fe qx)), .int .u64 ((zl qy.num : Nat) : Int), .string (zh qy.num), .bool (zs qy.num), .int .u64 ((lo (fe qy) : Nat) : Int), .string (hs (fe qy))]] w fun xe w' => xe = .returned (.agg #[.int .u64 ((zl gv.num : Nat) : Int), .string (zh gv.num), .bool (zs gv.num), .int .u64 ((lo (fe gv) : Nat) : Int), .string (hs (fe gv))]) ∧ Below w.heap.size w w' from fun w h => by rw [hKPe.out] at h; rw [hpx, hpy, hqx, hqy, hgv]; exact HG.out i j hil.out hjl.out (by rw [hLn.out]; exact hj) _ _ w h (pt_nil _))
      have HA1 := Lib.hid (HGA.out i hi1 hil.out)
      rw [← hqf.out, ← hgv, ← hqn] at HA1
      have k4 : (i : Int) < (k : Int) := by omega
      have r1 := Lib.hid (show wrap64 ((i : Int) + 1) = (i : Int) + 1 from wrap_nn9 (by omega) (by omega))
      have r2 := Lib.hid (show IntKind.i64.wrap ((i : Int) + 1) = (i : Int) + 1 from wrap_ii9 (by omega) (by omega))
      have r3 := Lib.hid (show ((i : Int) + 1).tmod (k : Int) = (j : Int) by rw [Int.tmod_eq_emod_of_nonneg (Int.add_nonneg (Int.natCast_nonneg i) (by decide)), hj]; push_cast; rfl)
      have r4 := Lib.hid (show wrap64 (j : Int) = (j : Int) from wrap_nn9 (by omega) (by omega))
      have r5 := Lib.hid (show IntKind.i64.wrap (j : Int) = (j : Int) from wrap_ii9 (by omega) (by omega))
      have r6 : ((i : Nat) : Int) < (k : Int) := k4
      have r7 : ((j : Nat) : Int) < (k : Int) := by omega
      have r8 : i < k := hin
      have r9 : ¬ (k : Int) = 0 := k11
      replace hj := Lib.hid hj
      replace hpx := Lib.hid hpx
      replace hpy := Lib.hid hpy
      replace hqx := Lib.hid hqx
      replace hqy := Lib.hid hqy
      replace hgv := Lib.hid hgv
      replace hqn := Lib.hid hqn
      go_upto_region 28 with fail
      refine region_tl 15 [EV (.agg #[.int .u64 ((zl qf.num : Nat) : Int), .string (zh qf.num), .bool (zs qf.num), .int .u64 ((lo (fe qf) : Nat) : Int), .string (hs (fe qf))]), EV (.slice pa pn pc), EV (.slice (some ⟨ga, 0, none⟩) k ca), EV (.int .i64 (i : Int)), EV (.pointer (some ⟨ga, i * 10, none⟩)), EV (.agg #[.int .u64 ((zl px.num : Nat) : Int), .string (zh px.num), .bool (zs px.num), .int .u64 ((lo (fe px) : Nat) : Int), .string (hs (fe px)), .int .u64 ((zl py.num : Nat) : Int), .string (zh py.num), .bool (zs py.num), .int .u64 ((lo (fe py) : Nat) : Int), .string (hs (fe py))]), EV (.slice (some ⟨ga, 0, none⟩) k ca), EV (.int .i64 (i : Int)), EV (.int .i64 ((i : Int) + 1)), EV (.int .i64 (k : Int)), EV (.int .i64 ((j : Nat) : Int)), EV (.pointer (some ⟨ga, j * 10, none⟩)), EV (.agg #[.int .u64 ((zl qx.num : Nat) : Int), .string (zh qx.num), .bool (zs qx.num), .int .u64 ((lo (fe qx) : Nat) : Int), .string (hs (fe qx)), .int .u64 ((zl qy.num : Nat) : Int), .string (zh qy.num), .bool (zs qy.num), .int .u64 ((lo (fe qy) : Nat) : Int), .string (hs (fe qy))]), EV (.agg #[.int .u64 ((zl gv.num : Nat) : Int), .string (zh gv.num), .bool (zs gv.num), .int .u64 ((lo (fe gv) : Nat) : Int), .string (hs (fe gv))]), EV (.agg #[.int .u64 ((zl qn.num : Nat) : Int), .string (zh qn.num), .bool (zs qn.num), .int .u64 ((lo (fe qn) : Nat) : Int), .string (hs (fe qn))])] (by kernel_rfl) (by kernel_rfl) ?_ ?_ ?_
      ·repeat' first | exact stays_nil | apply stays_cons | exact stays_eq _
      ·simp only [List.take_succ_cons, List.take_zero, hopsR, and_true]
       refine ⟨?_, ?_, ?_, ?_, ?_, ?_, ?_, ?_, ?_, ?_, ?_, ?_, ?_, ?_, ?_⟩ <;> intro fv w1 hb1 hp
       all_goals (have hc := (hL0.call (below_drew hb1)).fc; simp only [zF, Nat.reduceAdd] at hc; simp only [putsV, Act.put, zP, Nat.zero_add, Nat.reduceAdd])
       ·refine tyAt_none rfl ?_
        simp [tyUpon, execOp, go_sem, Act.eval, hc, ka0, ka1, ka2, ka3, ka4, ka5, ka6, kc.out, kd.out, r1.out, r2.out, r3.out, r4.out, r5.out, r6, r7, r8, r9, k10, k11, Below.refl]
       ·refine tyAt_none rfl ?_
        simp [tyUpon, execOp, go_sem, Act.eval, ka0, ka1, ka2, ka3, ka4, ka5, ka6, kc.out, kd.out, r1.out, r2.out, r3.out, r4.out, r5.out, r6, r7, r8, r9, k10, k11, Below.refl]
       ·refine tyAt_none rfl ?_
        simp [tyUpon, execOp, go_sem, Act.eval, ka0, ka1, ka2, ka3, ka4, ka5, ka6, kc.out, kd.out, r1.out, r2.out, r3.out, r4.out, r5.out, r6, r7, r8, r9, k10, k11, Below.refl]
       ·refine tyAt_none rfl ?_
        simp [tyUpon, execOp, go_sem, Act.eval, ka0, ka1, ka2, ka3, ka4, ka5, ka6, kc.out, kd.out, r1.out, r2.out, r3.out, r4.out, r5.out, r6, r7, r8, r9, k10, k11, Below.refl]
       ·have h2 : EV _ (fv 2) w1 := hp 2 (LC (by kernel_rfl))
        have h3 : EV _ (fv 3) w1 := hp 3 (LC (by kernel_rfl))
        refine tyAt_none rfl ?_
        simp [tyUpon, execOp, go_sem, Act.eval, h2, h3, ka0, ka1, ka2, ka3, ka4, ka5, ka6, kc.out, kd.out, r1.out, r2.out, r3.out, r4.out, r5.out, r6, r7, r8, r9, k10, k11, Below.refl]
       ·have h4 : EV _ (fv 4) w1 := hp 4 (LC (by kernel_rfl))
        refine tyAt_none rfl ?_
        have hx := (hfp7.out.below (hL0.call (below_drew hb1)).bl).cell i hil.out
        have hy := (hfp7.out.below (hL0.call (below_drew hb1)).bl).cell j hjl.out
        rw [← hpx.out, ← hpy.out] at hx
        rw [← hqx.out, ← hqy.out] at hy
        simp [tyUpon, execOp, go_sem, Act.eval, hc, h4, ka0, ka1, ka2, ka3, ka4, ka5, ka6, kc.out, kd.out, r1.out, r2.out, r3.out, r4.out, r5.out, r6, r7, r8, r9, k10, k11, hx, hy, Below.refl]
       ·refine tyAt_none rfl ?_
        simp [tyUpon, execOp, go_sem, Act.eval, ka0, ka1, ka2, ka3, ka4, ka5, ka6, kc.out, kd.out, r1.out, r2.out, r3.out, r4.out, r5.out, r6, r7, r8, r9, k10, k11, Below.refl]
       ·refine tyAt_none rfl ?_
        simp [tyUpon, execOp, go_sem, Act.eval, ka0, ka1, ka2, ka3, ka4, ka5, ka6, kc.out, kd.out, r1.out, r2.out, r3.out, r4.out, r5.out, r6, r7, r8, r9, k10, k11, Below.refl]
       ·have h7 : EV _ (fv 7) w1 := hp 7 (LC (by kernel_rfl))
        refine tyAt_none rfl ?_
        simp [tyUpon, execOp, go_sem, Act.eval, h7, ka0, ka1, ka2, ka3, ka4, ka5, ka6, kc.out, kd.out, r1.out, r2.out, r3.out, r4.out, r5.out, r6, r7, r8, r9, k10, k11, Below.refl]
       ·refine tyAt_none rfl ?_
        simp [tyUpon, execOp, go_sem, Act.eval, ka0, ka1, ka2, ka3, ka4, ka5, ka6, kc.out, kd.out, r1.out, r2.out, r3.out, r4.out, r5.out, r6, r7, r8, r9, k10, k11, Below.refl]
       ·have h8 : EV _ (fv 8) w1 := hp 8 (LC (by kernel_rfl))
        have h9 : EV _ (fv 9) w1 := hp 9 (LC (by kernel_rfl))
        refine tyAt_none rfl ?_
        simp [tyUpon, execOp, go_sem, Act.eval, h8, h9, ka0, ka1, ka2, ka3, ka4, ka5, ka6, kc.out, kd.out, r1.out, r2.out, r3.out, r4.out, r5.out, r6, r7, r8, r9, k10, k11, Below.refl]
       ·have h6 : EV _ (fv 6) w1 := hp 6 (LC (by kernel_rfl))
        have h10 : EV _ (fv 10) w1 := hp 10 (LC (by kernel_rfl))
        refine tyAt_none rfl ?_
        simp [tyUpon, execOp, go_sem, Act.eval, h6, h10, ka0, ka1, ka2, ka3, ka4, ka5, ka6, kc.out, kd.out, r1.out, r2.out, r3.out, r4.out, r5.out, r6, r7, r8, r9, k10, k11, Below.refl]
       ·have h11 : EV _ (fv 11) w1 := hp 11 (LC (by kernel_rfl))
        refine tyAt_none rfl ?_
        have hx := (hfp7.out.below (hL0.call (below_drew hb1)).bl).cell i hil.out
        have hy := (hfp7.out.below (hL0.call (below_drew hb1)).bl).cell j hjl.out
        rw [← hpx.out, ← hpy.out] at hx
        rw [← hqx.out, ← hqy.out] at hy
        simp [tyUpon, execOp, go_sem, Act.eval, hc, h11, ka0, ka1, ka2, ka3, ka4, ka5, ka6, kc.out, kd.out, r1.out, r2.out, r3.out, r4.out, r5.out, r6, r7, r8, r9, k10, k11, hx, hy, Below.refl]
       ·have h1 : EV _ (fv 1) w1 := hp 1 (LC (by kernel_rfl))
        have h5 : EV _ (fv 5) w1 := hp 5 (LC (by kernel_rfl))
        have h12 : EV _ (fv 12) w1 := hp 12 (LC (by kernel_rfl))
        refine tyAt_none rfl ?_
        refine ty_call (f := 15) (args := #[.slice pa pn pc, .slice none 0 0, .agg #[.int .u64 ((zl px.num : Nat) : Int), .string (zh px.num), .bool (zs px.num), .int .u64 ((lo (fe px) : Nat) : Int), .string (hs (fe px)), .int .u64 ((zl py.num : Nat) : Int), .string (zh py.num), .bool (zs py.num), .int .u64 ((lo (fe py) : Nat) : Int), .string (hs (fe py))], .agg #[.int .u64 ((zl qx.num : Nat) : Int), .string (zh qx.num), .bool (zs qx.num), .int .u64 ((lo (fe qx) : Nat) : Int), .string (hs (fe qx)), .int .u64 ((zl qy.num : Nat) : Int), .string (zh qy.num), .bool (zs qy.num), .int .u64 ((lo (fe qy) : Nat) : Int), .string (hs (fe qy))]]) (by simp [execOp, go_sem, Act.eval, h1, h5, h12]) ?_
        exact (FL1.out w1 (hKP.out.at ((hL0.call (below_drew hb1)).bl) kKP)).mono fun e w2 ⟨h1, h2⟩ => ⟨_, h1, rfl, h2⟩
       ·have h0 : EV _ (fv 0) w1 := hp 0 (LC (by kernel_rfl))
        have h13 : EV _ (fv 13) w1 := hp 13 (LC (by kernel_rfl))
        refine tyAt_none rfl ?_
        refine ty_call (f := 16) (args := #[.agg #[.int .u64 ((zl qf.num : Nat) : Int), .string (zh qf.num), .bool (zs qf.num), .int .u64 ((lo (fe qf) : Nat) : Int), .string (hs (fe qf))], .agg #[.int .u64 ((zl gv.num : Nat) : Int), .string (zh gv.num), .bool (zs gv.num), .int .u64 ((lo (fe gv) : Nat) : Int), .string (hs (fe gv))]]) (by simp [execOp, go_sem, Act.eval, h0, h13]) ?_
        exact (HA1.out w1).mono fun e w2 ⟨h1, h2⟩ => ⟨_, h1, rfl, h2⟩
      ·intro fv x95 hb1 hv
       have e0 : fv 0 = _ := hv 0 (by omega)
       have e1 : fv 1 = _ := hv 1 (by omega)
       have e2 : fv 2 = _ := hv 2 (by omega)
       have e3 : fv 3 = _ := hv 3 (by omega)
       have e4 : fv 4 = _ := hv 4 (by omega)
       have e5 : fv 5 = _ := hv 5 (by omega)
       have e6 : fv 6 = _ := hv 6 (by omega)
       have e7 : fv 7 = _ := hv 7 (by omega)
       have e8 : fv 8 = _ := hv 8 (by omega)
       have e9 : fv 9 = _ := hv 9 (by omega)
       have e10 : fv 10 = _ := hv 10 (by omega)
       have e11 : fv 11 = _ := hv 11 (by omega)
       have e12 : fv 12 = _ := hv 12 (by omega)
       have e13 : fv 13 = _ := hv 13 (by omega)
       have e14 : fv 14 = _ := hv 14 (by omega)
       simp only [List.take_succ_cons, List.take_zero, putsV, Act.put, zP, List.drop_succ_cons, List.drop_zero, Nat.zero_add, Nat.reduceAdd, e0, e1, e2, e3, e4, e5, e6, e7, e8, e9, e10, e11, e12, e13, e14]
       replace hL0 := hL0.call (below_drew hb1)
       replace hS := hS.call (below_drew hb1)
       clear e0 e1 e2 e3 e4 e5 e6 e7 e8 e9 e10 e11 e12 e13 e14 hb1 hv fv
       have hS1 := hS.put ((((((Upd.refl x93.heap.size x95).setCell 0 (.int .u64 ((zl qn.num : Nat) : Int))).setCell 1 (.string (zh qn.num))).setCell 2 (.bool (zs qn.num))).setCell 3 (.int .u64 ((lo (fe qn) : Nat) : Int))).setCell 4 (.string (hs (fe qn)))) (hL0.get _ _ mZ) (by intro v hv n; simp only [List.mem_cons, List.not_mem_nil, or_false] at hv; rcases hv with rfl | rfl | rfl | rfl | rfl <;> simp)
       have hA := hL0.fc
       simp only [zF, Nat.reduceAdd] at hA
       have hP := hL0.put 0 (x93.heap.size) _ rfl [.int .u64 ((zl qn.num : Nat) : Int), .string (zh qn.num), .bool (zs qn.num), .int .u64 ((lo (fe qn) : Nat) : Int), .string (hs (fe qn))] rfl
       simp only [setAll, List.set_cons_zero, List.set_cons_succ] at hP
       generalize hput1 : (((((x95.setCell ⟨x93.heap.size, 0, none⟩ (.int .u64 ((zl qn.num : Nat) : Int))).setCell ⟨x93.heap.size, 1, none⟩ (.string (zh qn.num))).setCell ⟨x93.heap.size, 2, none⟩ (.bool (zs qn.num))).setCell ⟨x93.heap.size, 3, none⟩ (.int .u64 ((lo (fe qn) : Nat) : Int))).setCell ⟨x93.heap.size, 4, none⟩ (.string (hs (fe qn)))) = x96 at hP hS1
       have hB1 := hP.fc
       simp only [zF, Nat.reduceAdd] at hB1
       replace hL0 := hP
       replace hS := hS1
       clear hS1
       go_wp2_with fail
       go_roundg (gk - 1)
       case measure => omega
       case rel => exact ⟨i + 1, _, qn, by omega, by omega, by first | rfl | go_num, by omega, hqn.out, hL0⟩
     ·obtain rfl : k = i := by omega
      subst hzi
      obtain rfl : fl = qf := by rw [hqf.out, ← HFn.out, hLn.out]
      have k4 : ¬ (k : Int) < (k : Int) := by omega
      go_upto_region 29 with fail
      refine region_tl 32 [EV (.slice pa pn pc), EV (.slice (some ⟨gr, 0, none⟩) k cr), EV (.agg #[.int .u64 ((zl sm.num : Nat) : Int), .string (zh sm.num), .bool (zs sm.num), .int .u64 ((lo (fe sm) : Nat) : Int), .string (hs (fe sm))]), EV (.agg #[.int .u64 ((zl sm.num : Nat) : Int), .string (zh sm.num), .bool (zs sm.num), .int .u64 ((lo (fe sm) : Nat) : Int), .string (hs (fe sm))]), EV (.bool true), EV (.bool true), EV (.slice pa pn pc), EV (.slice (some ⟨gm, 0, none⟩) k cq), EV (.agg #[.int .u64 ((zl ng.num : Nat) : Int), .string (zh ng.num), .bool (zs ng.num), .int .u64 ((lo (fe ng) : Nat) : Int), .string (hs (fe ng))]), EV (.agg #[.int .u64 ((zl sm.num : Nat) : Int), .string (zh sm.num), .bool (zs sm.num), .int .u64 ((lo (fe sm) : Nat) : Int), .string (hs (fe sm))]), EV (.agg #[.int .u64 ((zl ng.num : Nat) : Int), .string (zh ng.num), .bool (zs ng.num), .int .u64 ((lo (fe ng) : Nat) : Int), .string (hs (fe ng))]), EV (.bool true), EV (.bool true), EV (.bool true), EV (.slice pa pn pc), EV (.slice (some ⟨gq, 0, none⟩) (k + 1) cq2), EV (.agg #[.int .u64 ((zl sm.num : Nat) : Int), .string (zh sm.num), .bool (zs sm.num), .int .u64 ((lo (fe sm) : Nat) : Int), .string (hs (fe sm))]), EV (.agg #[.int .u64 ((zl sm.num : Nat) : Int), .string (zh sm.num), .bool (zs sm.num), .int .u64 ((lo (fe sm) : Nat) : Int), .string (hs (fe sm))]), EV (.bool true), EV (.bool true), EV (.bool true), EV (.slice pa pn pc), PP DP, EV (.slice (some ⟨ga, 0, none⟩) k ca), EV (.agg #[.int .u64 ((zl fl.num : Nat) : Int), .string (zh fl.num), .bool (zs fl.num), .int .u64 ((lo (fe fl) : Nat) : Int), .string (hs (fe fl))]), EV (.agg #[.int .u64 ((zl fl.num : Nat) : Int), .string (zh fl.num), .bool (zs fl.num), .int .u64 ((lo (fe fl) : Nat) : Int), .string (hs (fe fl))]), EV (.bool true), EV (.bool true), EV (.bool true), EV (.bool true), EV (.bool true), EV (.bool true)] (by kernel_rfl) (by kernel_rfl) ?_ ?_ ?_
      ·repeat' first | exact stays_nil | apply stays_cons | exact stays_eq _ | exact stays_pt _
      ·simp only [List.take_succ_cons, List.take_zero, hopsR, and_true]
       refine ⟨?_, ?_, ?_, ?_, ?_, ?_, ?_, ?_, ?_, ?_, ?_, ?_, ?_, ?_, ?_, ?_, ?_, ?_, ?_, ?_, ?_, ?_, ?_, ?_, ?_, ?_, ?_, ?_, ?_, ?_, ?_, ?_⟩ <;> intro fv w1 hb1 hp
       all_goals (have hc := (hL0.call (below_drew hb1)).fc; simp only [zF, Nat.reduceAdd] at hc; simp only [putsV, Act.put, zP, Nat.zero_add, Nat.reduceAdd])
       ·refine tyAt_none rfl ?_
        simp [tyUpon, execOp, go_sem, Act.eval, ka0, ka1, ka2, ka3, ka4, ka5, ka6, kc.out, kd.out, Below.refl]
       ·refine tyAt_none rfl ?_
        simp [tyUpon, execOp, go_sem, Act.eval, ka0, ka1, ka2, ka3, ka4, ka5, ka6, kc.out, kd.out, Below.refl]
       ·have h0 : EV _ (fv 0) w1 := hp 0 (LC (by kernel_rfl))
        have h1 : EV _ (fv 1) w1 := hp 1 (LC (by kernel_rfl))
        refine tyAt_none rfl ?_
        refine ty_call (f := 29) (args := #[.slice pa pn pc, .slice (some ⟨gr, 0, none⟩) k cr]) (by simp [execOp, go_sem, Act.eval, h0, h1]) ?_
        exact (PR.out w1 (hKR.out.at ((hL0.call (below_drew hb1)).bl) kKR)).mono fun e w2 ⟨h1, h2⟩ => ⟨_, h1, rfl, h2⟩
       ·refine tyAt_none rfl ?_
        simp [tyUpon, execOp, go_sem, Act.eval, hc, ka0, ka1, ka2, ka3, ka4, ka5, ka6, kc.out, kd.out, Below.refl]
       ·have h2 : EV _ (fv 2) w1 := hp 2 (LC (by kernel_rfl))
        have h3 : EV _ (fv 3) w1 := hp 3 (LC (by kernel_rfl))
        refine tyAt_none rfl ?_
        simp [tyUpon, execOp, go_sem, Act.eval, h2, h3, ka0, ka1, ka2, ka3, ka4, ka5, ka6, kc.out, kd.out, Below.refl]
       ·have h4 : EV _ (fv 4) w1 := hp 4 (LC (by kernel_rfl))
        refine tyAt_none rfl ?_
        simp [tyUpon, execOp, go_sem, Act.eval, h4, ka0, ka1, ka2, ka3, ka4, ka5, ka6, kc.out, kd.out, Below.refl]
       ·have h5 : EV _ (fv 5) w1 := hp 5 (LC (by kernel_rfl))
        refine tyAt_yes (by simp [Region.wanted, yielded, h5]) ?_
        simp [tyUpon, execOp, go_sem, Act.eval, h5, ka0, ka1, ka2, ka3, ka4, ka5, ka6, kc.out, kd.out, Below.refl]
       ·have h5 : EV _ (fv 5) w1 := hp 5 (LC (by kernel_rfl))
        refine tyAt_yes (by simp [Region.wanted, yielded, h5]) ?_
        simp [tyUpon, execOp, go_sem, Act.eval, h5, ka0, ka1, ka2, ka3, ka4, ka5, ka6, kc.out, kd.out, Below.refl]
       ·have h6 : EV _ (fv 6) w1 := hp 6 (LC (by kernel_rfl))
        have h7 : EV _ (fv 7) w1 := hp 7 (LC (by kernel_rfl))
        have h5 : EV _ (fv 5) w1 := hp 5 (LC (by kernel_rfl))
        refine tyAt_yes (by simp [Region.wanted, yielded, h6, h7, h5]) ?_
        refine ty_call (f := 29) (args := #[.slice pa pn pc, .slice (some ⟨gm, 0, none⟩) k cq]) (by simp [execOp, go_sem, Act.eval, h6, h7, h5]) ?_
        exact (PM.out w1 (hKM.out.at ((hL0.call (below_drew hb1)).bl) kKM)).mono fun e w2 ⟨h1, h2⟩ => ⟨_, h1, rfl, h2⟩
       ·have h5 : EV _ (fv 5) w1 := hp 5 (LC (by kernel_rfl))
        refine tyAt_yes (by simp [Region.wanted, yielded, h5]) ?_
        simp [tyUpon, execOp, go_sem, Act.eval, hc, h5, ka0, ka1, ka2, ka3, ka4, ka5, ka6, kc.out, kd.out, Below.refl]
       ·have h9 : EV _ (fv 9) w1 := hp 9 (LC (by kernel_rfl))
        have h5 : EV _ (fv 5) w1 := hp 5 (LC (by kernel_rfl))
        refine tyAt_yes (by simp [Region.wanted, yielded, h9, h5]) ?_
        refine ty_call (f := 17) (args := #[.agg #[.int .u64 ((zl sm.num : Nat) : Int), .string (zh sm.num), .bool (zs sm.num), .int .u64 ((lo (fe sm) : Nat) : Int), .string (hs (fe sm))]]) (by simp [execOp, go_sem, Act.eval, h9, h5]) ?_
        exact (HN1.out w1).mono fun e w2 ⟨h1, h2⟩ => ⟨_, h1, rfl, h2⟩
       ·have h8 : EV _ (fv 8) w1 := hp 8 (LC (by kernel_rfl))
        have h10 : EV _ (fv 10) w1 := hp 10 (LC (by kernel_rfl))
        have h5 : EV _ (fv 5) w1 := hp 5 (LC (by kernel_rfl))
        refine tyAt_yes (by simp [Region.wanted, yielded, h8, h10, h5]) ?_
        simp [tyUpon, execOp, go_sem, Act.eval, h8, h10, h5, ka0, ka1, ka2, ka3, ka4, ka5, ka6, kc.out, kd.out, Below.refl]
       ·have h5 : EV _ (fv 5) w1 := hp 5 (LC (by kernel_rfl))
        have h11 : EV _ (fv 11) w1 := hp 11 (LC (by kernel_rfl))
        refine tyAt_none rfl ?_
        simp [tyUpon, execOp, go_sem, Act.eval, h5, h11, ka0, ka1, ka2, ka3, ka4, ka5, ka6, kc.out, kd.out, Below.refl]
       ·have h12 : EV _ (fv 12) w1 := hp 12 (LC (by kernel_rfl))
        refine tyAt_none rfl ?_
        simp [tyUpon, execOp, go_sem, Act.eval, h12, ka0, ka1, ka2, ka3, ka4, ka5, ka6, kc.out, kd.out, Below.refl]
       ·have h13 : EV _ (fv 13) w1 := hp 13 (LC (by kernel_rfl))
        refine tyAt_yes (by simp [Region.wanted, yielded, h13]) ?_
        simp [tyUpon, execOp, go_sem, Act.eval, h13, ka0, ka1, ka2, ka3, ka4, ka5, ka6, kc.out, kd.out, Below.refl]
       ·have h13 : EV _ (fv 13) w1 := hp 13 (LC (by kernel_rfl))
        refine tyAt_yes (by simp [Region.wanted, yielded, h13]) ?_
        simp [tyUpon, execOp, go_sem, Act.eval, h13, ka0, ka1, ka2, ka3, ka4, ka5, ka6, kc.out, kd.out, Below.refl]
       ·have h14 : EV _ (fv 14) w1 := hp 14 (LC (by kernel_rfl))
        have h15 : EV _ (fv 15) w1 := hp 15 (LC (by kernel_rfl))
        have h13 : EV _ (fv 13) w1 := hp 13 (LC (by kernel_rfl))
        refine tyAt_yes (by simp [Region.wanted, yielded, h14, h15, h13]) ?_
        refine ty_call (f := 29) (args := #[.slice pa pn pc, .slice (some ⟨gq, 0, none⟩) (k + 1) cq2]) (by simp [execOp, go_sem, Act.eval, h14, h15, h13]) ?_
        exact (PQ.out w1 (hKQ.out.at ((hL0.call (below_drew hb1)).bl) kKQ)).mono fun e w2 ⟨h1, h2⟩ => ⟨_, h1, rfl, h2⟩
       ·have h13 : EV _ (fv 13) w1 := hp 13 (LC (by kernel_rfl))
        refine tyAt_yes (by simp [Region.wanted, yielded, h13]) ?_
        simp [tyUpon, execOp, go_sem, Act.eval, hc, h13, ka0, ka1, ka2, ka3, ka4, ka5, ka6, kc.out, kd.out, Below.refl]
       ·have h16 : EV _ (fv 16) w1 := hp 16 (LC (by kernel_rfl))
        have h17 : EV _ (fv 17) w1 := hp 17 (LC (by kernel_rfl))
        have h13 : EV _ (fv 13) w1 := hp 13 (LC (by kernel_rfl))
        refine tyAt_yes (by simp [Region.wanted, yielded, h16, h17, h13]) ?_
        simp [tyUpon, execOp, go_sem, Act.eval, h16, h17, h13, ka0, ka1, ka2, ka3, ka4, ka5, ka6, kc.out, kd.out, Below.refl]
       ·have h13 : EV _ (fv 13) w1 := hp 13 (LC (by kernel_rfl))
        have h18 : EV _ (fv 18) w1 := hp 18 (LC (by kernel_rfl))
        refine tyAt_none rfl ?_
        simp [tyUpon, execOp, go_sem, Act.eval, h13, h18, ka0, ka1, ka2, ka3, ka4, ka5, ka6, kc.out, kd.out, Below.refl]
       ·have h19 : EV _ (fv 19) w1 := hp 19 (LC (by kernel_rfl))
        refine tyAt_none rfl ?_
        simp [tyUpon, execOp, go_sem, Act.eval, h19, ka0, ka1, ka2, ka3, ka4, ka5, ka6, kc.out, kd.out, Below.refl]
       ·have h20 : EV _ (fv 20) w1 := hp 20 (LC (by kernel_rfl))
        refine tyAt_yes (by simp [Region.wanted, yielded, h20]) ?_
        simp [tyUpon, execOp, go_sem, Act.eval, h20, ka0, ka1, ka2, ka3, ka4, ka5, ka6, kc.out, kd.out, Below.refl]
       ·have h21 : EV _ (fv 21) w1 := hp 21 (LC (by kernel_rfl))
        have h20 : EV _ (fv 20) w1 := hp 20 (LC (by kernel_rfl))
        refine tyAt_yes (by simp [Region.wanted, yielded, h21, h20]) ?_
        refine ty_call (f := 12) (args := #[.slice pa pn pc]) (by simp [execOp, go_sem, Act.eval, h21, h20]) ?_
        exact (HDx.out (.slice pa pn pc) w1 (PT.below (PT.below fP7.out hL0.bl) (below_drew hb1))).mono fun e w2 ⟨pv, h1, h2, h3⟩ => ⟨pv, h1, h2, h3⟩
       ·have h20 : EV _ (fv 20) w1 := hp 20 (LC (by kernel_rfl))
        refine tyAt_yes (by simp [Region.wanted, yielded, h20]) ?_
        simp [tyUpon, execOp, go_sem, Act.eval, h20, ka0, ka1, ka2, ka3, ka4, ka5, ka6, kc.out, kd.out, Below.refl]
       ·have h22 : (PP DP) (fv 22) w1 := hp 22 (LC (by kernel_rfl))
        have h23 : EV _ (fv 23) w1 := hp 23 (LC (by kernel_rfl))
        have h20 : EV _ (fv 20) w1 := hp 20 (LC (by kernel_rfl))
        refine tyAt_yes (by simp [Region.wanted, yielded, h23, h20]) ?_
        refine ty_call (f := 29) (args := #[fv 22, .slice (some ⟨ga, 0, none⟩) k ca]) (by simp [execOp, go_sem, Act.eval, h23, h20]) ?_
        exact (HPD.out (fv 22) (.slice (some ⟨ga, 0, none⟩) k ca) w1 h22 (PL.below (PL.below hla7.out hL0.bl) (below_drew hb1))).mono fun e w2 ⟨h1, h2⟩ => ⟨_, h1, rfl, h2⟩
       ·have h20 : EV _ (fv 20) w1 := hp 20 (LC (by kernel_rfl))
        refine tyAt_yes (by simp [Region.wanted, yielded, h20]) ?_
        simp [tyUpon, execOp, go_sem, Act.eval, hc, h20, ka0, ka1, ka2, ka3, ka4, ka5, ka6, kc.out, kd.out, Below.refl]
       ·have h24 : EV _ (fv 24) w1 := hp 24 (LC (by kernel_rfl))
        have h25 : EV _ (fv 25) w1 := hp 25 (LC (by kernel_rfl))
        have h20 : EV _ (fv 20) w1 := hp 20 (LC (by kernel_rfl))
        refine tyAt_yes (by simp [Region.wanted, yielded, h24, h25, h20]) ?_
        simp [tyUpon, execOp, go_sem, Act.eval, h24, h25, h20, ka0, ka1, ka2, ka3, ka4, ka5, ka6, kc.out, kd.out, Below.refl]
       ·have h20 : EV _ (fv 20) w1 := hp 20 (LC (by kernel_rfl))
        have h26 : EV _ (fv 26) w1 := hp 26 (LC (by kernel_rfl))
        refine tyAt_none rfl ?_
        simp [tyUpon, execOp, go_sem, Act.eval, h20, h26, ka0, ka1, ka2, ka3, ka4, ka5, ka6, kc.out, kd.out, Below.refl]
       ·have h27 : EV _ (fv 27) w1 := hp 27 (LC (by kernel_rfl))
        refine tyAt_none rfl ?_
        simp [tyUpon, execOp, go_sem, Act.eval, h27, ka0, ka1, ka2, ka3, ka4, ka5, ka6, kc.out, kd.out, Below.refl]
       ·have h28 : EV _ (fv 28) w1 := hp 28 (LC (by kernel_rfl))
        refine tyAt_yes (by simp [Region.wanted, yielded, h28]) ?_
        refine ty_call (f := 7) (args := #[]) (by simp [execOp, go_sem, Act.eval, h28]) ?_
        exact (HW.out w1 (hKT.out.at ((hL0.call (below_drew hb1)).bl) kKT)).mono fun e w2 ⟨h1, h2⟩ => ⟨_, h1, rfl, h2⟩
       ·have h28 : EV _ (fv 28) w1 := hp 28 (LC (by kernel_rfl))
        have h29 : EV _ (fv 29) w1 := hp 29 (LC (by kernel_rfl))
        refine tyAt_none rfl ?_
        simp [tyUpon, execOp, go_sem, Act.eval, h28, h29, ka0, ka1, ka2, ka3, ka4, ka5, ka6, kc.out, kd.out, Below.refl]
       ·have h30 : EV _ (fv 30) w1 := hp 30 (LC (by kernel_rfl))
        refine tyAt_none rfl ?_
        simp [tyUpon, execOp, go_sem, Act.eval, h30, ka0, ka1, ka2, ka3, ka4, ka5, ka6, kc.out, kd.out, Below.refl]
      ·intro fv x95 hb1 hv
       have e0 : fv 0 = _ := hv 0 (by omega)
       have e1 : fv 1 = _ := hv 1 (by omega)
       have e2 : fv 2 = _ := hv 2 (by omega)
       have e3 : fv 3 = _ := hv 3 (by omega)
       have e4 : fv 4 = _ := hv 4 (by omega)
       have e5 : fv 5 = _ := hv 5 (by omega)
       have e6 : fv 6 = _ := hv 6 (by omega)
       have e7 : fv 7 = _ := hv 7 (by omega)
       have e8 : fv 8 = _ := hv 8 (by omega)
       have e9 : fv 9 = _ := hv 9 (by omega)
       have e10 : fv 10 = _ := hv 10 (by omega)
       have e11 : fv 11 = _ := hv 11 (by omega)
       have e12 : fv 12 = _ := hv 12 (by omega)
       have e13 : fv 13 = _ := hv 13 (by omega)
       have e14 : fv 14 = _ := hv 14 (by omega)
       have e15 : fv 15 = _ := hv 15 (by omega)
       have e16 : fv 16 = _ := hv 16 (by omega)
       have e17 : fv 17 = _ := hv 17 (by omega)
       have e18 : fv 18 = _ := hv 18 (by omega)
       have e19 : fv 19 = _ := hv 19 (by omega)
       have e20 : fv 20 = _ := hv 20 (by omega)
       have e21 : fv 21 = _ := hv 21 (by omega)
       have q22 : PT x95 (fv 22) DP := hv 22 (by omega)
       obtain ⟨g1, d1, g1c, e22, -⟩ := pt_form q22
       rw [e22] at q22
       have e23 : fv 23 = _ := hv 23 (by omega)
       have e24 : fv 24 = _ := hv 24 (by omega)
       have e25 : fv 25 = _ := hv 25 (by omega)
       have e26 : fv 26 = _ := hv 26 (by omega)
       have e27 : fv 27 = _ := hv 27 (by omega)
       have e28 : fv 28 = _ := hv 28 (by omega)
       have e29 : fv 29 = _ := hv 29 (by omega)
       have e30 : fv 30 = _ := hv 30 (by omega)
       have e31 : fv 31 = _ := hv 31 (by omega)
       simp only [List.take_succ_cons, List.take_zero, putsV, Act.put, zP, List.drop_succ_cons, List.drop_zero, Nat.zero_add, Nat.reduceAdd, e0, e1, e2, e3, e4, e5, e6, e7, e8, e9, e10, e11, e12, e13, e14, e15, e16, e17, e18, e19, e20, e21, e22, e23, e24, e25, e26, e27, e28, e29, e30, e31]
       replace hL0 := hL0.call (below_drew hb1)
       replace hS := hS.call (below_drew hb1)
       clear e0 e1 e2 e3 e4 e5 e6 e7 e8 e9 e10 e11 e12 e13 e14 e15 e16 e17 e18 e19 e20 e21 e22 e23 e24 e25 e26 e27 e28 e29 e30 e31 hb1 hv q22 fv
       go_wp2_with fail
       exact bodyPost_ret (v := .bool true) (by simp [results, Tryz.results6, go_sem]) rfl ⟨rfl, hW7.out.trans (hL0.bl.mono hW7.out.size)⟩
end Go.Proofs.YtkdbhacimoaohaaGreatDoor
namespace Go.Proofs.YtkdbhacimoaohaaGreatDoor
open Go.RowKit
attribute [local irreducible] lo hs sm s64 c64 d64 b64 mh ml pd pc qd qc val hiB str cmpI srD lz nb zl zh zs fe klT ordZ Bs
/-- A polygon's value is a sum over its sides. -/
theorem polyV_ring (p : TL) {F : Pt → Pt → Rat} (hF : ∀ a b, F b a = -F a b) (hf : ∀ a b c, triV p a b c = F a b + F b c + F c a) (a b : Pt) (r : List Pt) : polyV p (a :: b :: r) = ringF F (a :: b :: r) := by
 show fan (triV p) a b r = _
 rw [fan_ring hF hf a b r]
 rfl
theorem poly_ant (p : TL) : ∀ l : List Pt, 2 ≤ l.length → polyV p l = ringF (antF p) l
 | a :: b :: r, _ => polyV_ring p (antF_back p) (tri_ant p) a b r
 | [_], h => absurd h (by simp)
 | [], h => absurd h (by simp)
theorem poly_dx (p : TL) : ∀ l : List Pt, 2 ≤ l.length → polyV (dxN p) l = ringF (flowV p []) l
 | a :: b :: r, _ => polyV_ring (dxN p) (flow_back p []) (fun u v w => by
   rw [← gauss p [] u v w]
   exact triV_eqv ((dxN_eqv p).trans (by rw [show dyL ([] : TL) = [] from rfl, List.append_nil]; exact Eqv.refl _)) u v w) a b r
 | [_], h => absurd h (by simp)
 | [], h => absurd h (by simp)
/-- The sum over the sides, one side behind the other. -/
def sideS (F : Pt → Pt → Rat) (l : List Pt) (n : Nat) : Nat → Rat
 | 0 => 0
 | i + 1 => sideS F l n i + F (l.getD i oP) (l.getD ((i + 1) % n) oP)
theorem way_snoc9 (F : Pt → Pt → Rat) (a : Pt) : ∀ (r : List Pt) (m : Nat), m ≤ r.length → wayF F a (r.take m) = sideS F (a :: r) (r.length + 1) m
 | _, 0, _ => by simp [wayF, sideS]
 | r, m + 1, h => by
  have hm : m < r.length := h
  rw [List.take_succ_eq_append_getElem hm, (way_app F a (r.take m) [r[m]]).1, way_snoc9 F a r m (by omega), sideS]
  have e1 : lastP a (r.take m) = (a :: r).getD m oP := by
   clear h
   induction m generalizing a r with
   | zero => simp [lastP]
   | succ m ih =>
    match r, hm with
    | b :: r, hm =>
     have hm' : m < r.length := by simpa using hm
     simp only [List.take_succ_cons, lastP]
     rw [ih b r hm']
     simp
  have e2 : (a :: r).getD ((m + 1) % (r.length + 1)) oP = r[m] := by
   rw [Nat.mod_eq_of_lt (by omega)]
   simp [List.getD, List.getElem?_eq_getElem hm]
  rw [e1, e2]
  simp only [wayF]
  grind
theorem ring_side (F : Pt → Pt → Rat) : ∀ l : List Pt, 0 < l.length → ringF F l = sideS F l l.length l.length
 | [], h => absurd h (by simp)
 | a :: r, _ => by
  have h := way_snoc9 F a r r.length (Nat.le_refl _)
  rw [List.take_length] at h
  rw [ringF, h]
  show _ = sideS F (a :: r) (r.length + 1) (r.length + 1)
  rw [sideS]
  have e1 : lastP a r = (a :: r).getD r.length oP := by
   have e : ∀ (r : List Pt) (a : Pt), lastP a r = (a :: r).getD r.length oP := fun r => by
    induction r with
    | nil => intro a; simp [lastP]
    | cons b r ih => intro a; simp only [lastP]; rw [ih b]; simp
   exact e r a
  have e2 : (a :: r).getD ((r.length + 1) % (r.length + 1)) oP = a := by rw [Nat.mod_self]; simp
  rw [e1, e2]
theorem turn_get9 (L : List Pt) (f k : Nat) (hf : f < L.length) (h1 : k < (L.drop f ++ L.take f).length) (h2 : (f + k) % L.length < L.length) : (L.drop f ++ L.take f)[k] = L[(f + k) % L.length] := by
 have hk : k < L.length := by simpa [Nat.min_eq_left (Nat.le_of_lt hf), Nat.sub_add_cancel (Nat.le_of_lt hf)] using h1
 by_cases hc : k < L.length - f
 ·rw [List.getElem_append_left (by simpa using hc), List.getElem_drop]
  congr 1
  exact (Nat.mod_eq_of_lt (by omega)).symm
 ·rw [List.getElem_append_right (by simpa using hc), List.getElem_take]
  congr 1
  rw [List.length_drop, Nat.mod_eq_sub_mod (by omega), Nat.mod_eq_of_lt (by omega)]
  omega
theorem last_get9 : ∀ (a : Pt) (r : List Pt) (k : Nat) (h : k < (a :: r).length), k + 1 = (a :: r).length → (a :: r)[k] = lastP a r
 | a, [], 0, _, _ => rfl
 | a, [], k + 1, h, _ => absurd h (by simp)
 | a, b :: r, 0, _, e => absurd e (by simp)
 | a, b :: r, k + 1, h, e => by
  simp only [List.getElem_cons_succ, lastP]
  exact last_get9 b r k (by simpa using h) (by simpa using e)
end Go.Proofs.YtkdbhacimoaohaaGreatDoor
namespace Go.Proofs.YtkdbhacimoaohaaGreatDoor
open Go.RowKit
attribute [local irreducible] lo hs sm s64 c64 d64 b64 mh ml pd pc qd qc val hiB str cmpI srD lz nb zl zh zs fe klT ordZ Bs
theorem polyV_few (p : TL) : ∀ l : List Pt, l.length < 3 → polyV p l = 0
 | [], _ => rfl
 | [_], _ => rfl
 | [_, _], _ => rfl
 | _ :: _ :: _ :: _, h => absurd h (by simp)
theorem iround_any (l cs : List RI) (hl : RO l) (hcs : ∀ t ∈ cs, PB9 t.1 t.2.1 t.2.2.1 t.2.2.2) (al am : Option Addr) (nl cl nm cm : Nat) (fi isn isd : Int) (bsn : -9223372036854775808 ≤ isn ∧ isn < 9223372036854775808) (bsd : 0 ≤ isd ∧ isd < 4294967296)
  (w : World) (hv : RW8 w (.slice al nl cl) l) (hq : QT9 w (.slice am nm cm) cs) (ht : Tab w) :
  Calls Tryz.prog 6 #[.slice al nl cl, .slice am nm cm, .int .i64 fi, .agg #[.int .i64 isn, .int .u32 isd]] w fun e w' => e = .returned (.bool true) ∧ Below w.heap.size w w' := by
 have n1 := (rt_parts hv).1
 have n2 := (qt9_parts hq).1
 by_cases g1 : 6 < nl
 ·exact iround_l1 al am nl cl nm cm fi isn isd works9_any (decide_eq_true (by omega)) (decide_eq_true g1) w ht
 by_cases g2 : 7 < nm
 ·exact iround_l2 al am nl cl nm cm fi isn isd works9_any (decide_eq_false (by omega)) (decide_eq_false g1) (decide_eq_true (by omega)) (decide_eq_true g2) w ht
 have ga := made_gp hl (by omega) (D := 3) (by omega)
 have hA := fun w hv => made_any hl (by omega) (D := 3) (by omega) al nl cl w hv
 generalize nrm (madeL l 3) = A at ga hA
 obtain ⟨L, hL⟩ : ∃ L : List Pt, L = cs.map fun t => pq9 t.1 t.2.1 t.2.2.1 t.2.2.2 := ⟨_, rfl⟩
 have hLn : L.length = nm := by rw [hL, List.length_map, n2]
 have hLs : ∀ a ∈ L, PS a 1 := fun a ha => by
  rw [hL] at ha
  obtain ⟨t, h1, rfl⟩ := List.mem_map.1 ha
  exact ps_pq (hcs t h1)
 have hO : ∀ (k : Nat) (h1 : k < cs.length) (h2 : k < L.length) (w : World), Calls Tryz.prog 9 #[.agg #[.int .i64 cs[k].1, .int .u32 cs[k].2.1, .int .i64 cs[k].2.2.1, .int .u32 cs[k].2.2.2]] w fun xe w' => xe = .returned (ptV L[k]) ∧ Below w.heap.size w w' := fun k h1 h2 w => by
  have e : L[k] = pq9 cs[k].1 cs[k].2.1 cs[k].2.2.1 cs[k].2.2.2 := by simp only [hL, List.getElem_map]
  rw [e]
  exact pofG (hcs _ (List.getElem_mem _)) w
 clear hL
 have f1 : Fit 4 3 17 3 800 := ⟨by omega, by omega, by omega, by omega, by omega, by omega, by unfold shK; omega, by omega⟩
 have f2 : Fit 4 13 17 3 2000 := ⟨by omega, by omega, by omega, by omega, by omega, by omega, by unfold shK; omega, by omega⟩
 have f3 : Fit 4 3 18 3 800 := ⟨by omega, by omega, by omega, by omega, by omega, by omega, by unfold shK; omega, by omega⟩
 by_cases g3 : nm < 3
 ·refine iround_few l cs (ofL A) L al am nl cl nm cm fi isn isd (by omega) g3 hLn hA hO (fun p u w hp hu => ?_) works9_any w hv hq ht
  have := polyG (k := 1) f1 ga L hLs (by omega) (by rw [hLn]; omega) w p u hp hu
  rw [polyV_few A L (by omega)] at this
  exact this.mono fun e w2 h => ⟨h.1.trans (congrArg Ending.returned (frV_zero.symm.trans frV_00)), h.2⟩
 have zs9 := qmade_sz isn isd.toNat bsn.1 bsn.2 (by omega)
 have os := fun w => qof_any isn isd bsn.1 bsn.2 bsd.1 bsd.2 w
 generalize qmade isn isd.toNat = S at os zs9
 obtain ⟨U, r, hUr⟩ : ∃ a r, L = a :: r := List.exists_cons_of_ne_nil (fun e => by rw [e] at hLn; simp at hLn; omega)
 obtain ⟨V, r2, hr2⟩ : ∃ a s, r = a :: s := List.exists_cons_of_ne_nil (fun e => by rw [hUr, e] at hLn; simp at hLn; omega)
 obtain ⟨Z, hZ⟩ : ∃ Z, Z = lastP U r := ⟨_, rfl⟩
 have hZm : ∀ (k : Nat) (h : k < L.length), k + 1 = L.length → L[k] = Z := fun k h e => by
  subst hUr
  rw [hZ]; exact last_get9 U r k h e
 have qu : PS U 1 := hLs U (by rw [hUr]; exact mZ)
 have qv : PS V 1 := hLs V (by rw [hUr, hr2]; exact mK mZ)
 have qz : PS Z 1 := by
  have := hZm (L.length - 1) (by omega) (by omega)
  rw [← this]; exact hLs _ (List.getElem_mem _)
 obtain ⟨f, hf⟩ : ∃ f : Nat, f = ((fi % 18446744073709551616) % (nm : Int)).toNat := ⟨_, rfl⟩
 have hf0 : 0 ≤ (fi % 18446744073709551616) % (nm : Int) := Int.emod_nonneg _ (by omega)
 have hf1 : (fi % 18446744073709551616) % (nm : Int) < (nm : Int) := Int.emod_lt_of_pos _ (by omega)
 have hfe : (f : Int) = (fi % 18446744073709551616) % (nm : Int) := by rw [hf, Int.toNat_of_nonneg hf0]
 have hfn : f < nm := by omega
 have hF : wrap64 ((IntKind.u64.wrap fi).tmod (nm : Int)) = (f : Int) := by
  have u1 : IntKind.u64.wrap fi = fi % 18446744073709551616 := by simp [IntKind.wrap, IntKind.bits, IntKind.signed]
  rw [u1, Int.tmod_eq_emod_of_nonneg (Int.emod_nonneg _ (by decide)), ← hfe]
  exact wrap_nn9 (by omega) (by omega)
 have zx := (qu.x.sub qz.x).mono (show 1 + 1 + 1 ≤ 3 by omega)
 have zy := (qu.y.sub qz.y).mono (show 1 + 1 + 1 ≤ 3 by omega)
 have c6 : PS (cutP Z U S) 6 := ⟨(qz.x.add (zs9.mul zx)).mono (by omega), (qz.y.add (zs9.mul zy)).mono (by omega)⟩
 have gx := ga.dx (by omega)
 have gn : GP [] 3 17 := GP.nil.mono (by omega) (by omega)
 have hl2 : 2 ≤ L.length := by omega
 have e1 : polyV A (L.drop f ++ L.take f) = polyV A L := by
  rw [poly_ant A _ (by simp; omega), poly_ant A L hl2, ring_turn, List.take_append_drop]
 have e2 : polyV A L.reverse = -polyV A L := by
  rw [poly_ant A _ (by simp; omega), poly_ant A L hl2, ring_rev (antF_back A)]
 have e3 : polyV A (L ++ [cutP Z U S]) = polyV A L := by
  rw [poly_ant A _ (by simp; omega), poly_ant A L hl2, hUr]
  exact ring_more U (cutP Z U S) r (by rw [← hZ]; exact flow_cut (intL A) [] Z U S)
 have e4 : sideS (flowV A []) L L.length L.length = polyV (dxN A) L := by
  rw [poly_dx A L hl2, ring_side _ L (by omega)]
 have hg : ∀ (i : Nat), i < L.length → Sz (flowV A [] (L.getD i oP) (L.getD ((i + 1) % L.length) oP)) 300000 := fun i hi => by
  have hj : (i + 1) % L.length < L.length := Nat.mod_lt _ (by omega)
  have a1 : PS (L.getD i oP) 1 := by rw [List.getD_eq_getElem?_getD, List.getElem?_eq_getElem hi]; exact hLs _ (List.getElem_mem _)
  have a2 : PS (L.getD ((i + 1) % L.length) oP) 1 := by rw [List.getD_eq_getElem?_getD, List.getElem?_eq_getElem hj]; exact hLs _ (List.getElem_mem _)
  exact (flow_sz (k := 1) f1 f1 ga gn a1 a2).mono (by omega)
 have hss : ∀ (i : Nat), i ≤ L.length → Sz (sideS (flowV A []) L L.length i) (i * 300001 + 1) := fun i => by
  induction i with
  | zero => intro _; exact sz_0 (by omega)
  | succ i ih => intro h; exact ((ih (by omega)).add (hg i (by omega))).mono (by omega)
 refine iround_w l cs (ofL A) L (L.drop f ++ L.take f) L.reverse (ofL (dxN A)) (fun i => flowV A [] (L.getD i oP) (L.getD ((i + 1) % L.length) oP)) (sideS (flowV A []) L L.length) U.x U.y V.x V.y Z.x Z.y S (U.x - Z.x) (S * (U.x - Z.x)) (Z.x + S * (U.x - Z.x)) (U.y - Z.y) (S * (U.y - Z.y)) (Z.y + S * (U.y - Z.y)) (polyV A L) (-polyV A L) (flowV A [] U V) (polyV (dxN A) L) al am nl cl nm cm f fi isn isd (by omega) (by omega) (by omega) hLn (by simp; omega) (by simp; omega) hfn hF
  (fun k h1 h2 => by subst hLn; exact turn_get9 L f k hfn h1 h2) (fun k h1 h2 => by rw [List.getElem_reverse]; congr 1; omega) hA hO
  os (fun w => subF _ _ 1 qu.x qz.x (by omega) w) (fun w => mulF _ _ 3 (zs9.mono (by omega)) zx (by omega) w) (fun w => addF _ _ 6 (qz.x.mono (by omega)) ((zs9.mul zx).mono (by omega)) (by omega) w)
  (fun w => subF _ _ 1 qu.y qz.y (by omega) w) (fun w => mulF _ _ 3 (zs9.mono (by omega)) zy (by omega) w) (fun w => addF _ _ 6 (qz.y.mono (by omega)) ((zs9.mul zy).mono (by omega)) (by omega) w)
  (fun h => by subst hUr; rfl) (fun h => by subst hUr; subst hr2; rfl) hZm (fun w => negF _ w)
  (fun p u w hp hu => polyG (k := 1) f1 ga L hLs (by omega) (by rw [hLn]; omega) w p u hp hu)
  (fun p u w hp hu => by
   have := polyG (k := 1) f1 ga _ (fun a ha => hLs a (by rcases List.mem_append.1 ha with h | h; exact List.mem_of_mem_drop h; exact List.mem_of_mem_take h)) (by simp; omega) (by simp; omega) w p u hp hu
   rwa [e1] at this)
  (fun p u w hp hu => by
   have := polyG (k := 1) f1 ga _ (fun a ha => hLs a (List.mem_reverse.1 ha)) (by simp; omega) (by simp; omega) w p u hp hu
   rwa [e2] at this)
  (fun p u w hp hu => by
   have := polyG (k := 6) f2 ga (L ++ [cutP Z U S]) (fun a ha => by rcases List.mem_append.1 ha with h | h; exact (hLs a h).mono (by omega); rw [List.mem_singleton.1 h]; exact c6) (by simp; omega) (by simp; omega) w p u hp hu
   rwa [e3] at this)
  (fun p w hp => dxG ga (by omega) (by omega) w p hp) (fun p u w hp hu => polyG (k := 1) f3 gx L hLs (by omega) (by rw [hLn]; omega) w p u hp hu)
  (fun p q w hp hq => flowG (k := 1) f1 f1 ga gn qu qv w p q hp hq)
  (fun i j h1 h2 hj p q w hp hq => by
   have e : flowV A [] (L.getD i oP) (L.getD ((i + 1) % L.length) oP) = flowV A [] L[i] L[j] := by
    subst hj
    simp only [List.getD_eq_getElem?_getD, List.getElem?_eq_getElem h1, List.getElem?_eq_getElem h2, Option.getD_some]
   simp only [e]
   exact flowG (k := 1) f1 f1 ga gn (hLs _ (List.getElem_mem _)) (hLs _ (List.getElem_mem _)) w p q hp hq)
  (fun i h0 h1 w => addF _ _ 5000000 ((hss i (by omega)).mono (by omega)) ((hg i h1).mono (by omega)) (by omega) w)
  (by
   show _ = sideS (flowV A []) L L.length 1
   rw [sideS, sideS, Rat.zero_add, Nat.mod_eq_of_lt (by omega), hUr, hr2]
   rfl)
  e4 works9_any w hv hq ht
end Go.Proofs.YtkdbhacimoaohaaGreatDoor
namespace Go.Proofs.YtkdbhacimoaohaaGreatDoor
open Go.ChangeShapes Go.WideShapes Go.ChangeAt Go.RowKit Go.Joins
/-- An array of two of the law's fractions, opened. -/
theorem p9_cells {H : Type} {enc : TypeId × Value → H} {W : World} {m : Nat} {l : List Value} {y : DataW H × List MemPlace} (h : DataW.trod enc Tryz.prog W 0 (fun _ => true) true m 27 l = some y) (hs : l.length = 4) :
  ∃ n0 e0 n1 e1 : Int, l = [.int .i64 n0, .int .u32 e0, .int .i64 n1, .int .u32 e1] ∧ PB9 n0 e0 n1 e1 := by
 obtain ⟨xs, m, _, _, _, hn, hel⟩ := DataW.trod_array Tryz.underlying27 h
 have each : ∀ i, i < 2 → ∃ n e : Int, (l.drop (i * 2)).take 2 = [.int .i64 n, .int .u32 e] ∧ (-9223372036854775808 ≤ n ∧ n < 9223372036854775808) ∧ (0 ≤ e ∧ e < 4294967296) := fun i hi => by
  have h1 := hel i hi
  rw [List.getElem?_eq_getElem (by omega), cellsQ] at h1
  exact q_cells (show DataW.trod enc Tryz.prog W 0 (fun _ => true) true m 25 ((l.drop (i * 2)).take 2) = _ from h1) (by
   rw [List.length_take, List.length_drop]
   omega)
 match l, hs with
 | [c0, c1, c2, c3], _ =>
  obtain ⟨n0, e0, h0, b0, g0⟩ := each 0 (by omega)
  obtain ⟨n1, e1, h1, b1, g1⟩ := each 1 (by omega)
  simp at h0 h1
  obtain ⟨rfl, rfl⟩ := h0
  obtain ⟨rfl, rfl⟩ := h1
  exact ⟨n0, e0, n1, e1, rfl, ⟨b0, g0⟩, b1, g1⟩
theorem qt9_nil (w : World) : QT9 w (.slice none 0 0) [] := ⟨_, _, _, rfl, rfl, fun h => absurd h (Nat.lt_irrefl _)⟩
theorem pts_of {H : Type} {enc : TypeId × Value → H} {W : World} {base : Nat} {v : Value} {d : DataW H} {p : List MemPlace} (hv : Value.okWide Tryz.prog W .any base 60 v)
  (h : DataW.Trod enc Tryz.prog W 0 (fun _ => true) true 60 v d p) : ∃ a n c l, v = .slice a n c ∧ QT9 W (.slice a n c) l ∧ ∀ t ∈ l, PB9 t.1 t.2.1 t.2.2.1 t.2.2.2 := by
 obtain ⟨a0, len, cap, rfl⟩ := okWide_slice Tryz.underlying60 hv
 obtain ⟨fuel, hf⟩ := h
 rcases Go.Deep.open_slice Tryz.underlying60 hf with ⟨hcs, hx⟩ | ⟨a, len', cap', m, n, D, Pl, hcs, _, hl, _, hm, hx, hel⟩
 ·simp [Value.cells] at hcs
  obtain ⟨rfl, rfl, rfl⟩ := hcs
  exact ⟨none, 0, 0, [], rfl, qt9_nil W, fun p hp => by cases hp⟩
 ·simp [Value.cells] at hcs
  obtain ⟨rfl, rfl, rfl⟩ := hcs
  simp only [if_true] at hm
  have each : ∀ i, i < len → ∃ t : RI, (W.cell? (a.add (i * 4)) = some (.int .i64 t.1) ∧ W.cell? ((a.add (i * 4)).add 1) = some (.int .u32 t.2.1) ∧ W.cell? ((a.add (i * 4)).add 2) = some (.int .i64 t.2.2.1) ∧ W.cell? ((a.add (i * 4)).add 3) = some (.int .u32 t.2.2.2)) ∧ PB9 t.1 t.2.1 t.2.2.1 t.2.2.2 := by
   intro i hi
   obtain ⟨cs', h1, h2⟩ := hel i (by omega)
   rw [cellsP9] at h1
   obtain ⟨_, hlen, hcell⟩ := World.cells?_some h1
   obtain ⟨n0, e0, n1, e1, rfl, hb⟩ := p9_cells h2 hlen
   have c0 := hcell 0 (by omega)
   replace c0 : W.cell? (a.add (i * 4)) = _ := c0
   have c1 := hcell 1 (by omega)
   have c2 := hcell 2 (by omega)
   have c3 := hcell 3 (by omega)
   exact ⟨(n0, e0, n1, e1), ⟨by simpa using c0, by simpa using c1, by simpa using c2, by simpa using c3⟩, hb⟩
  obtain ⟨q, hq⟩ := Go.Deep.choose_lt each
  refine ⟨some a, len, cap, (List.range len).map q, rfl, ⟨_, _, _, rfl, by simp, fun h0 => ⟨a, rfl, ?_, fun i hi => ?_⟩⟩, fun z hz => ?_⟩
  ·have e := (hq 0 h0).1.1
   have := World.block_lt_of_cell? W _ e
   rw [add_blk8] at this
   exact this
  ·have hi' : i < len := by simpa using hi
   have := (hq i hi').1
   simpa using this
  ·obtain ⟨i, hi, rfl⟩ := List.mem_map.1 hz
   exact (hq i (List.mem_range.1 hi)).2
end Go.Proofs.YtkdbhacimoaohaaGreatDoor
