/-
  The law answers true at every input, and leaves its arguments as they were: a part of the proof. CONDITIONS: the package-level tables start as the program's text lays them (the card ties them).
-/
import Derived.Test.YtkdbhacimoaohaaGreatDoorZae
set_option linter.unusedVariables false
set_option linter.unusedSimpArgs false
set_option maxHeartbeats 16000000
set_option maxRecDepth 100000
namespace Go.Proofs.YtkdbhacimoaohaaGreatDoor
open Go.RowKit
theorem put_frac (i0 i : Int) (s0 s : ByteArray) (b0 b : Bool) (j0 j : Int) (t0 t : ByteArray) (w : World) (k : Nat) (h : Hd w k [.int .u64 i0, .string s0, .bool b0, .int .u64 j0, .string t0]) :
  ∃ w', (Instr.storeAt 38 (.pointer (some ⟨k, 0, none⟩)) (.agg #[.int .u64 i, .string s, .bool b, .int .u64 j, .string t])).run Tryz.prog w = .ok () w' ∧ Hd w' k [.int .u64 i, .string s, .bool b, .int .u64 j, .string t] ∧ Upd k w w' := by
 have h0 : w.cell? ⟨k, 0, none⟩ = some (.int .u64 i0) := h.cell 0 (by simp)
 have h1 : w.cell? ⟨k, 1, none⟩ = some (.string s0) := h.cell 1 (by simp)
 have h2 : w.cell? ⟨k, 2, none⟩ = some (.bool b0) := h.cell 2 (by simp)
 have h3 : w.cell? ⟨k, 3, none⟩ = some (.int .u64 j0) := h.cell 3 (by simp)
 have h4 : w.cell? ⟨k, 4, none⟩ = some (.string t0) := h.cell 4 (by simp)
 have hf := h.frz
 refine ⟨_, ?_, setAll_hd [.int .u64 i, .string s, .bool b, .int .u64 j, .string t] 0 w k [] [.int .u64 i0, .string s0, .bool b0, .int .u64 j0, .string t0] rfl rfl h, ((((((Upd.refl k w).setCell 0 _).setCell 1 _).setCell 2 _).setCell 3 _).setCell 4 _)⟩
 simp [go_sem, Instr.storeAt, Instr.sureAddr, h0, h1, h2, h3, h4, hf, setAll]
end Go.Proofs.YtkdbhacimoaohaaGreatDoor
namespace Go.Proofs.YtkdbhacimoaohaaGreatDoor
open Go.RowKit
attribute [local irreducible] lo hs sm s64 c64 d64 b64 mh ml pd pc qd qc val hiB str cmpI srD lz nb zl zh zs
end Go.Proofs.YtkdbhacimoaohaaGreatDoor
namespace Go.Proofs.YtkdbhacimoaohaaGreatDoor
open Go.RowKit
attribute [local irreducible] lo hs sm s64 c64 d64 b64 mh ml pd pc qd qc val hiB str cmpI srD lz nb zl zh zs dval
theorem dI_small {z : Int} (h : z.natAbs < Bs) : dI z ≤ 1 := digs_length_iff.2 (by rw [Nat.pow_one]; exact h)
end Go.Proofs.YtkdbhacimoaohaaGreatDoor
namespace Go.Proofs.YtkdbhacimoaohaaGreatDoor
open Go.RowKit
attribute [local irreducible] lo hs zl zh zs
end Go.Proofs.YtkdbhacimoaohaaGreatDoor
namespace Go.Proofs.YtkdbhacimoaohaaGreatDoor
open Go.RowKit
attribute [local irreducible] lo hs sm s64 c64 d64 b64 mh ml pd pc qd qc val hiB str cmpI srD lz nb zl zh zs
theorem fneg_w (n m : Int) (e : Nat) (HN : RT 52 #[intV n] (intV m)) (w : World) :
  Calls Tryz.prog 17 #[frV n e] w fun xe w' => xe = .returned (frV m e) ∧ Below w.heap.size w w' := by
 have hL0 : GL w w [] := GL.start w
 replace HN := Lib.hid HN
 obtain ⟨x1, hweq, hL0⟩ := GL.named ((hL0.new rfl [.int .u64 ((zl n : Nat) : Int), .string (zh n), .bool (zs n), .int .u64 ((lo e : Nat) : Int), .string (hs e)] 38).new (K := w.heap.size + 1) (szA _ _) [.int .u64 0, .string ⟨#[]⟩, .bool false, .int .u64 0, .string ⟨#[]⟩] 38)
 go_enter Tryz.func17, Tryz.ntmps17
 go_upto_region 1 with fail
 clear hweq
 obtain ⟨α, iα, F, hF1, hF2⟩ := cls x1
 have hq0 := cls_box hF1 hL0 _ _ (mK mZ)
 simp only [zC, Nat.reduceAdd] at hq0
 refine region_qs 6 (C := fun w' => ∃ x, w' = F x) (by kernel_rfl) (by kernel_rfl) (cls_drew hF2) ?_
 simp only [zT]
 repeat (go_big_quiet_step (first | fail | (go_at_call 52; with_reducible exact cls_call hF1 hF2 HN.out _)))
 refine wpQuiet_nil ?_
 rintro wq ⟨xq, rfl⟩
 replace hL0 := hL0.call (hF1 xq)
 clear  hq0 hF2
 generalize F xq = x2 at hL0 ⊢
 clear hF1 xq iα F α
 have hA := hL0.fc
 simp only [zF, Nat.reduceAdd] at hA
 obtain ⟨x3, hput1, hP⟩ := GL.named (hL0.put 0 (w.heap.size + 1) _ rfl [.int .u64 ((zl m : Nat) : Int), .string (zh m), .bool (zs m), .int .u64 ((lo e : Nat) : Int), .string (hs e)] rfl)
 simp only [setAll] at hput1
 simp only [List.set_cons_zero, List.set_cons_succ] at hP
 have hB1 := hP.fc
 simp only [zF, Nat.reduceAdd] at hB1
 replace hL0 := hP
 go_wp2_with fail
 exact bodyPost_ret (v := frV m e) (by simp [results, Tryz.results17, go_sem, hB1]) rfl ⟨rfl, hL0.bl⟩
end Go.Proofs.YtkdbhacimoaohaaGreatDoor
namespace Go.Proofs.YtkdbhacimoaohaaGreatDoor
open Go.RowKit
attribute [local irreducible] lo hs sm s64 c64 d64 b64 mh ml pd pc qd qc val hiB str cmpI srD lz nb zl zh zs
theorem negF (q : Rat) (w : World) : Calls Tryz.prog 17 #[fracV q] w fun x w' => x = .returned (fracV (-q)) ∧ Below w.heap.size w w' := fneg_w q.num (-q.num) (fe q) (fun w => negI q.num w) w
end Go.Proofs.YtkdbhacimoaohaaGreatDoor
namespace Go.Proofs.YtkdbhacimoaohaaGreatDoor
open Go.RowKit
attribute [local irreducible] lo hs sm s64 c64 d64 b64 mh ml pd pc qd qc val hiB str cmpI srD lz zl zh zs dval
theorem digs_pow_le {n k : Nat} (h : (digs n).length ≤ k) : ∀ i, (digs (n ^ i)).length ≤ k * i + 1
 | 0 => by rw [Nat.pow_zero]; exact digs_length_iff.2 (by rw [Nat.mul_zero, Nat.zero_add, Nat.pow_one]; exact Bs_gt)
 | i + 1 => by
  rw [Nat.pow_succ]
  refine Nat.le_trans (digs_mul_le (digs_pow_le h i) h) ?_
  rw [Nat.mul_succ]; omega
theorem Sz.pow {q : Rat} {k : Nat} (h : Sz q k) (i : Nat) : Sz (q ^ i) (k * i + 1) := by
 refine ⟨?_, ?_⟩
 ·show (digs (q ^ i).num.natAbs).length ≤ _
  rw [Rat.num_pow, Int.natAbs_pow]; exact digs_pow_le h.1 i
 ·rw [Rat.den_pow]; exact digs_pow_le h.2 i
end Go.Proofs.YtkdbhacimoaohaaGreatDoor
namespace Go.Proofs.YtkdbhacimoaohaaGreatDoor
open Go.RowKit
attribute [local irreducible] lo hs sm s64 c64 d64 b64 mh ml pd pc qd qc val hiB str cmpI srD lz nb zl zh zs dval
theorem own_form {w : World} {B n m : Nat} {v : Value} {xs : List Value} (h : w.ownsRow B 38 5 v n xs) (hn : m = n) (h0 : 0 < m) : ∃ g c, v = .slice (some ⟨g, 0, none⟩) m c ∧ B ≤ g ∧ g < w.heap.size ∧ m ≤ c := by
 subst hn
 have hlt := h.lt
 rcases h.2 with ⟨h1, h2⟩ | ⟨g, cap, cur, h1, h2, h3, h4, h5⟩
 ·omega
 ·exact ⟨g, cap, h1, h2, (hlt g (by rw [h1]; rfl)).2, h4⟩
end Go.Proofs.YtkdbhacimoaohaaGreatDoor
namespace Go.Proofs.YtkdbhacimoaohaaGreatDoor
attribute [local irreducible] Bs
theorem SzL.scale {c : Rat} {p : TL} {k m : Nat} (h : Sz c k) (g : SzL p m) : SzL (scaleL c p) (k + m) := by
 have := (SzL.one (i := 0) (j := 0) h).prod g
 have e : prodL [(0, 0, c)] p = scaleL c p := by
  simp [prodL, timesL, scaleL]
 rwa [e] at this
end Go.Proofs.YtkdbhacimoaohaaGreatDoor
namespace Go.Proofs.YtkdbhacimoaohaaGreatDoor
open Go.RowKit
attribute [local irreducible] lo hs sm s64 c64 d64 b64 mh ml pd pc qd qc val hiB str cmpI srD lz nb zl zh zs fe klT ordZ
theorem ptrans_w (l : List TI) (P : TL) (R : List TI) (G : TI → TI) (f : FuncId) (ao : Option Addr) (n c : Nat) (hPl : P.length ≤ 10000) (K : World → Prop) (hK : Keeps K)
  (eg : ∀ args w, (callFunc f args).run Tryz.prog w = .ok (.enter f args) w)
  (HN : ∀ w : World, PT w (.slice ao n c) l → Calls Tryz.prog 43 #[.slice ao n c] w fun xe w' => ∃ v', xe = .returned v' ∧ PT w' v' (ofL P) ∧ Below w.heap.size w w')
  (HT : ∀ t ∈ ofL P, ∀ w : World, K w → Calls Tryz.prog f #[tmV t.1 t.2.1 t.2.2] w fun xe w' => xe = .returned (tmV (G t).1 (G t).2.1 (G t).2.2) ∧ Below w.heap.size w w')
  (HS : ∀ (v : Value) (w : World), PT w v ((ofL P).map G) → Calls Tryz.prog 41 #[v] w fun xe w' => ∃ v', xe = .returned v' ∧ PT w' v' R ∧ Below w.heap.size w w')
  (w : World) (hq : PT w (.slice ao n c) l) (kK : K w) :
  Calls Tryz.prog 44 #[.slice ao n c, .func (.func f) #[] #[]] w fun xe w' => ∃ v', xe = .returned v' ∧ PT w' v' R ∧ Below w.heap.size w w' := by
 replace HN := Lib.hid HN
 replace HT := Lib.hid HT
 replace hq := Lib.hid hq
 replace hPl := Lib.hid hPl
 replace kK := Lib.hid kK
 replace hK := Lib.hid hK
 obtain ⟨MG, hMG⟩ : ∃ MG, MG = (ofL P).map G := ⟨_, rfl⟩
 rw [← hMG] at HS
 replace hMG := Lib.hid hMG
 replace HS := Lib.hid HS
 go_enter Tryz.func44, Tryz.ntmps44
 go_wp2_with fail
 with_reducible refine Calls.mono (HN.out w hq.out) ?_
 rintro e y1 ⟨v, rfl, hpt, hb⟩
 have kK1 := Lib.hid (hK.out.at hb kK.out)
 obtain ⟨a2, n2, c2, rfl, hn2⟩ := pt_form hpt
 have hpp := Lib.hid (pt_parts hpt).2
 have hnl : n2 = (ofL P).length := hn2
 have hnb : n2 ≤ 10000 := by rw [hnl, ofL_length]; exact hPl.out
 replace hnl := Lib.hid hnl
 replace hb := Lib.hid hb
 clear hn2 hpt
 go_wp2_with fail
 go_loopg [5, 11] n2 (fun gk sv iv wr => ∃ (k : Nat) (zi : Int), k + gk = n2 ∧ iv = .int .i64 zi ∧ zi = (k : Int) ∧ OwnT wr y1.heap.size sv k (MG.take k) ∧ Below y1.heap.size y1 wr)
 case atStart => exact ⟨0, 0, Nat.zero_add n2, by first | rfl | go_num, rfl, World.ownsRow_nil _ _ _ _, Below.refl _ _⟩
 case round =>
  obtain ⟨k, zi, hik, rfl, hzi, hown, hB⟩ := hrel
  replace hown := Lib.hid hown
  rcases Nat.lt_or_ge k n2 with hin | hin
  ·subst hzi
   have hko : k < (ofL P).length := by rw [← hnl.out]; exact hin
   obtain ⟨g, rfl, hts⟩ := hpp.out (by omega)
   have hf := (hts.below hB).cell k hko
   have k1 : (k : Int) < (n2 : Int) := by omega
   have k0 : (0 : Int) ≤ (k : Int) := Int.natCast_nonneg _
   have HT1 := HT.out _ (List.getElem_mem hko)
   have htk : MG.take (k + 1) = MG.take k ++ [G (ofL P)[k]] := by rw [hMG.out, ← List.map_take, ← List.map_take, List.take_succ_eq_append_getElem hko, List.map_append]; rfl
   obtain ⟨a, b, q, hP⟩ : ∃ a b q, (ofL P)[k] = (a, b, q) := ⟨_, _, _, rfl⟩
   rw [hP] at HT1 htk hf
   obtain ⟨a3, b3, q3, hG⟩ : ∃ a3 b3 q3, G (a, b, q) = (a3, b3, q3) := ⟨_, _, _, rfl⟩
   rw [hG] at HT1 htk
   simp only at hf
   replace htk := Lib.hid htk
   replace HT1 := Lib.hid HT1
   replace hP := Lib.hid hP
   replace hG := Lib.hid hG
   clear hts
   obtain ⟨f0, f1, f2, f3, f4, f5, f6⟩ := hf
   have hL0 : GL wr wr [] := GL.start wr
   replace hL0 := hL0.new rfl [.int .i64 a, .int .i64 b, .int .u64 ((zl q.num : Nat) : Int), .string (zh q.num), .bool (zs q.num), .int .u64 ((lo (fe q) : Nat) : Int), .string (hs (fe q))] 80
   generalize hweq : wr.alloc (.cells #[.int .i64 a, .int .i64 b, .int .u64 ((zl q.num : Nat) : Int), .string (zh q.num), .bool (zs q.num), .int .u64 ((lo (fe q) : Nat) : Int), .string (hs (fe q))] 80) = y2 at hL0
   have hN0 := cells_of _ 0 [] rfl (hL0.get _ _ mZ)
   simp only [zF, Nat.reduceAdd] at hN0
   go_wp2_with fail
   have kK2 := hK.out.at (hB.trans (hL0.bl.mono hB.size)) kK1.out
   with_reducible refine Calls.mono (HT1.out _ kK2) ?_
   rintro e y3 ⟨rfl, hb3⟩
   replace hL0 := hL0.call hb3
   clear hb3 hN0 hweq kK2 f0 f1 f2 f3 f4 f5 f6
   have hown3 := Lib.hid (ownT_below hown.out hL0.bl)
   have hB3 := Lib.hid (hB.trans (hL0.bl.mono hB.size))
   have hL1 : GL y3 y3 [] := GL.start y3
   replace hL1 := hL1.new rfl [.int .i64 a3, .int .i64 b3, .int .u64 ((zl q3.num : Nat) : Int), .string (zh q3.num), .bool (zs q3.num), .int .u64 ((lo (fe q3) : Nat) : Int), .string (hs (fe q3))] 80
   generalize hweq : y3.alloc (.cells #[.int .i64 a3, .int .i64 b3, .int .u64 ((zl q3.num : Nat) : Int), .string (zh q3.num), .bool (zs q3.num), .int .u64 ((lo (fe q3) : Nat) : Int), .string (hs (fe q3))] 80) = y4 at hL1
   have hown4 := Lib.hid (ownT_below hown3.out hL1.bl)
   have hB4 := Lib.hid (hB3.out.trans (hL1.bl.mono hB3.out.size))
   have hH := Lib.hid (hL1.get _ _ mZ)
   go_wp2_with (at_builtin; refine wp_append1 rfl _ _ rfl _ _ _ _ rfl hown4.out _ (a3, b3, q3) rfl hH.out (by omega) hB4.out.size ?_)
   intro v' w5 hown5 hgrow _
   have hB5 := hB4.out.grown hgrow hB4.out.size (fun j hj => (hown4.out.lt j hj).1)
   rw [← htk.out] at hown5
   replace hown5 := Lib.hid hown5
   clear hgrow hown4 hB4 hown3 hB3 hH hweq
   go_wp2_with fail
   go_roundg (gk - 1)
   case measure => omega
   case rel => exact ⟨k + 1, _, by omega, by first | rfl | go_num, by omega, hown5.out, hB5⟩
  ·obtain rfl : k = n2 := by omega
   subst hzi
   have k1 : ¬ (k : Int) < (k : Int) := by omega
   have hml : MG.length = k := by rw [hMG.out, List.length_map, ← hnl.out]
   rw [List.take_of_length_le (Nat.le_of_eq hml)] at hown
   have hpt := ownT_pt hown.out hml.symm
   replace hpt := Lib.hid hpt
   go_wp2_with (go_at_call 41; with_reducible refine Calls.mono (HS.out _ _ hpt.out) ?_; rintro e y2 ⟨v2, rfl, hp2, hb2⟩; replace hp2 := Lib.hid hp2; replace hb2 := Lib.hid hb2)
   go_ret
   exact ⟨_, rfl, hp2.out, hb.out.trans ((hB.trans (hb2.out.mono hB.size)).mono hb.out.size)⟩
theorem ptransc_w (l : List TI) (P : TL) (R : List TI) (G : TI → TI) (f : FuncId) (bk : Nat) (ao : Option Addr) (n c : Nat) (hPl : P.length ≤ 10000) (K : World → Prop) (hK : Keeps K)
  (eg : ∀ args w, (callFunc f args).run Tryz.prog w = .ok (.enter f args) w)
  (HN : ∀ w : World, PT w (.slice ao n c) l → Calls Tryz.prog 43 #[.slice ao n c] w fun xe w' => ∃ v', xe = .returned v' ∧ PT w' v' (ofL P) ∧ Below w.heap.size w w')
  (HT : ∀ t ∈ ofL P, ∀ w : World, K w → Calls Tryz.prog f #[tmV t.1 t.2.1 t.2.2, .pointer (some ⟨bk, 0, none⟩)] w fun xe w' => xe = .returned (tmV (G t).1 (G t).2.1 (G t).2.2) ∧ Below w.heap.size w w')
  (HS : ∀ (v : Value) (w : World), PT w v ((ofL P).map G) → Calls Tryz.prog 41 #[v] w fun xe w' => ∃ v', xe = .returned v' ∧ PT w' v' R ∧ Below w.heap.size w w')
  (w : World) (hq : PT w (.slice ao n c) l) (kK : K w) :
  Calls Tryz.prog 44 #[.slice ao n c, .func (.func f) #[] #[.pointer (some ⟨bk, 0, none⟩)]] w fun xe w' => ∃ v', xe = .returned v' ∧ PT w' v' R ∧ Below w.heap.size w w' := by
 replace HN := Lib.hid HN
 replace HT := Lib.hid HT
 replace hq := Lib.hid hq
 replace hPl := Lib.hid hPl
 replace kK := Lib.hid kK
 replace hK := Lib.hid hK
 obtain ⟨MG, hMG⟩ : ∃ MG, MG = (ofL P).map G := ⟨_, rfl⟩
 rw [← hMG] at HS
 replace hMG := Lib.hid hMG
 replace HS := Lib.hid HS
 go_enter Tryz.func44, Tryz.ntmps44
 go_wp2_with fail
 with_reducible refine Calls.mono (HN.out w hq.out) ?_
 rintro e y1 ⟨v, rfl, hpt, hb⟩
 have kK1 := Lib.hid (hK.out.at hb kK.out)
 obtain ⟨a2, n2, c2, rfl, hn2⟩ := pt_form hpt
 have hpp := Lib.hid (pt_parts hpt).2
 have hnl : n2 = (ofL P).length := hn2
 have hnb : n2 ≤ 10000 := by rw [hnl, ofL_length]; exact hPl.out
 replace hnl := Lib.hid hnl
 replace hb := Lib.hid hb
 clear hn2 hpt
 go_wp2_with fail
 go_loopg [5, 11] n2 (fun gk sv iv wr => ∃ (k : Nat) (zi : Int), k + gk = n2 ∧ iv = .int .i64 zi ∧ zi = (k : Int) ∧ OwnT wr y1.heap.size sv k (MG.take k) ∧ Below y1.heap.size y1 wr)
 case atStart => exact ⟨0, 0, Nat.zero_add n2, by first | rfl | go_num, rfl, World.ownsRow_nil _ _ _ _, Below.refl _ _⟩
 case round =>
  obtain ⟨k, zi, hik, rfl, hzi, hown, hB⟩ := hrel
  replace hown := Lib.hid hown
  rcases Nat.lt_or_ge k n2 with hin | hin
  ·subst hzi
   have hko : k < (ofL P).length := by rw [← hnl.out]; exact hin
   obtain ⟨g, rfl, hts⟩ := hpp.out (by omega)
   have hf := (hts.below hB).cell k hko
   have k1 : (k : Int) < (n2 : Int) := by omega
   have k0 : (0 : Int) ≤ (k : Int) := Int.natCast_nonneg _
   have HT1 := HT.out _ (List.getElem_mem hko)
   have htk : MG.take (k + 1) = MG.take k ++ [G (ofL P)[k]] := by rw [hMG.out, ← List.map_take, ← List.map_take, List.take_succ_eq_append_getElem hko, List.map_append]; rfl
   obtain ⟨a, b, q, hP⟩ : ∃ a b q, (ofL P)[k] = (a, b, q) := ⟨_, _, _, rfl⟩
   rw [hP] at HT1 htk hf
   obtain ⟨a3, b3, q3, hG⟩ : ∃ a3 b3 q3, G (a, b, q) = (a3, b3, q3) := ⟨_, _, _, rfl⟩
   rw [hG] at HT1 htk
   simp only at hf
   replace htk := Lib.hid htk
   replace HT1 := Lib.hid HT1
   replace hP := Lib.hid hP
   replace hG := Lib.hid hG
   clear hts
   obtain ⟨f0, f1, f2, f3, f4, f5, f6⟩ := hf
   have hL0 : GL wr wr [] := GL.start wr
   replace hL0 := hL0.new rfl [.int .i64 a, .int .i64 b, .int .u64 ((zl q.num : Nat) : Int), .string (zh q.num), .bool (zs q.num), .int .u64 ((lo (fe q) : Nat) : Int), .string (hs (fe q))] 80
   generalize hweq : wr.alloc (.cells #[.int .i64 a, .int .i64 b, .int .u64 ((zl q.num : Nat) : Int), .string (zh q.num), .bool (zs q.num), .int .u64 ((lo (fe q) : Nat) : Int), .string (hs (fe q))] 80) = y2 at hL0
   have hN0 := cells_of _ 0 [] rfl (hL0.get _ _ mZ)
   simp only [zF, Nat.reduceAdd] at hN0
   go_wp2_with fail
   have kK2 := hK.out.at (hB.trans (hL0.bl.mono hB.size)) kK1.out
   with_reducible refine Calls.mono (HT1.out _ kK2) ?_
   rintro e y3 ⟨rfl, hb3⟩
   replace hL0 := hL0.call hb3
   clear hb3 hN0 hweq kK2 f0 f1 f2 f3 f4 f5 f6
   have hown3 := Lib.hid (ownT_below hown.out hL0.bl)
   have hB3 := Lib.hid (hB.trans (hL0.bl.mono hB.size))
   have hL1 : GL y3 y3 [] := GL.start y3
   replace hL1 := hL1.new rfl [.int .i64 a3, .int .i64 b3, .int .u64 ((zl q3.num : Nat) : Int), .string (zh q3.num), .bool (zs q3.num), .int .u64 ((lo (fe q3) : Nat) : Int), .string (hs (fe q3))] 80
   generalize hweq : y3.alloc (.cells #[.int .i64 a3, .int .i64 b3, .int .u64 ((zl q3.num : Nat) : Int), .string (zh q3.num), .bool (zs q3.num), .int .u64 ((lo (fe q3) : Nat) : Int), .string (hs (fe q3))] 80) = y4 at hL1
   have hown4 := Lib.hid (ownT_below hown3.out hL1.bl)
   have hB4 := Lib.hid (hB3.out.trans (hL1.bl.mono hB3.out.size))
   have hH := Lib.hid (hL1.get _ _ mZ)
   go_wp2_with (at_builtin; refine wp_append1 rfl _ _ rfl _ _ _ _ rfl hown4.out _ (a3, b3, q3) rfl hH.out (by omega) hB4.out.size ?_)
   intro v' w5 hown5 hgrow _
   have hB5 := hB4.out.grown hgrow hB4.out.size (fun j hj => (hown4.out.lt j hj).1)
   rw [← htk.out] at hown5
   replace hown5 := Lib.hid hown5
   clear hgrow hown4 hB4 hown3 hB3 hH hweq
   go_wp2_with fail
   go_roundg (gk - 1)
   case measure => omega
   case rel => exact ⟨k + 1, _, by omega, by first | rfl | go_num, by omega, hown5.out, hB5⟩
  ·obtain rfl : k = n2 := by omega
   subst hzi
   have k1 : ¬ (k : Int) < (k : Int) := by omega
   have hml : MG.length = k := by rw [hMG.out, List.length_map, ← hnl.out]
   rw [List.take_of_length_le (Nat.le_of_eq hml)] at hown
   have hpt := ownT_pt hown.out hml.symm
   replace hpt := Lib.hid hpt
   go_wp2_with (go_at_call 41; with_reducible refine Calls.mono (HS.out _ _ hpt.out) ?_; rintro e y2 ⟨v2, rfl, hp2, hb2⟩; replace hp2 := Lib.hid hp2; replace hb2 := Lib.hid hb2)
   go_ret
   exact ⟨_, rfl, hp2.out, hb.out.trans ((hB.trans (hb2.out.mono hB.size)).mono hb.out.size)⟩
end Go.Proofs.YtkdbhacimoaohaaGreatDoor
namespace Go.Proofs.YtkdbhacimoaohaaGreatDoor
open Go.RowKit
attribute [local irreducible] lo hs sm s64 c64 d64 b64 mh ml pd pc qd qc val hiB str cmpI srD lz nb zl zh zs fe klT ordZ
theorem ptimes_w (n : Int) (p k r : Rat) (HI : ∀ w, Calls Tryz.prog 20 #[.int .i64 n] w fun xe w' => xe = .returned (fracV k) ∧ Below w.heap.size w w') (HM : ∀ w, Calls Tryz.prog 24 #[fracV k, fracV p] w fun xe w' => xe = .returned (fracV r) ∧ Below w.heap.size w w') (w : World) :
  Calls Tryz.prog 46 #[.int .i64 n, fracV p] w fun xe w' => xe = .returned (fracV r) ∧ Below w.heap.size w w' := by
 have hL0 : GL w w [] := GL.start w
 replace HI := Lib.hid HI
 replace HM := Lib.hid HM
 obtain ⟨x1, hweq, hL0⟩ := GL.named ((hL0.new rfl [.int .u64 ((zl p.num : Nat) : Int), .string (zh p.num), .bool (zs p.num), .int .u64 ((lo (fe p) : Nat) : Int), .string (hs (fe p))] 38).new (K := w.heap.size + 1) (szA _ _) [.int .u64 0, .string ⟨#[]⟩, .bool false, .int .u64 0, .string ⟨#[]⟩] 38)
 go_enter Tryz.func46, Tryz.ntmps46
 go_upto_region 1 with fail
 clear hweq
 obtain ⟨α, iα, F, hF1, hF2⟩ := cls x1
 have hq0 := cls_box hF1 hL0 _ _ (mK mZ)
 simp only [zC, Nat.reduceAdd] at hq0
 refine region_qs 4 (C := fun w' => ∃ x, w' = F x) (by kernel_rfl) (by kernel_rfl) (cls_drew hF2) ?_
 simp only [zT]
 repeat (go_big_quiet_step (first | fail | (go_at_call 20; with_reducible exact cls_call hF1 hF2 HI.out _) | (go_at_call 24; with_reducible exact cls_call hF1 hF2 HM.out _)))
 refine wpQuiet_nil ?_
 rintro wq ⟨xq, rfl⟩
 replace hL0 := hL0.call (hF1 xq)
 clear  hq0 hF2
 generalize F xq = x2 at hL0 ⊢
 clear hF1 xq iα F α
 have hA := hL0.fc
 simp only [zF, Nat.reduceAdd] at hA
 obtain ⟨x3, hput1, hP⟩ := GL.named (hL0.put 0 (w.heap.size + 1) _ rfl [.int .u64 ((zl r.num : Nat) : Int), .string (zh r.num), .bool (zs r.num), .int .u64 ((lo (fe r) : Nat) : Int), .string (hs (fe r))] rfl)
 simp only [setAll] at hput1
 simp only [List.set_cons_zero, List.set_cons_succ] at hP
 have hB1 := hP.fc
 simp only [zF, Nat.reduceAdd] at hB1
 replace hL0 := hP
 go_wp2_with fail
 exact bodyPost_ret (v := .agg #[.int .u64 ((zl r.num : Nat) : Int), .string (zh r.num), .bool (zs r.num), .int .u64 ((lo (fe r) : Nat) : Int), .string (hs (fe r))]) (by simp [results, Tryz.results46, go_sem, hB1]) rfl ⟨rfl, hL0.bl⟩
theorem pdx1_w (i j m mx : Int) (q r : Rat) (HT : ∀ w, Calls Tryz.prog 46 #[.int .i64 i, fracV q] w fun xe w' => xe = .returned (fracV r) ∧ Below w.heap.size w w') (e1 : IntKind.i64.wrap (i - 1) = m) (e2 : wrap64 (i - 1) = m) (e3 : max m 0 = mx) (w : World) :
  Calls Tryz.prog 45 #[.agg #[.int .i64 i, .int .i64 j, .int .u64 ((zl q.num : Nat) : Int), .string (zh q.num), .bool (zs q.num), .int .u64 ((lo (fe q) : Nat) : Int), .string (hs (fe q))]] w fun xe w' => xe = .returned (.agg #[.int .i64 mx, .int .i64 j, .int .u64 ((zl r.num : Nat) : Int), .string (zh r.num), .bool (zs r.num), .int .u64 ((lo (fe r) : Nat) : Int), .string (hs (fe r))]) ∧ Below w.heap.size w w' := by
 have hL0 : GL w w [] := GL.start w
 replace HT := Lib.hid HT
 obtain ⟨x1, hweq, hL0⟩ := GL.named ((hL0.new rfl [.int .i64 i, .int .i64 j, .int .u64 ((zl q.num : Nat) : Int), .string (zh q.num), .bool (zs q.num), .int .u64 ((lo (fe q) : Nat) : Int), .string (hs (fe q))] 80).new (K := w.heap.size + 1) (szA _ _) [.int .i64 0, .int .i64 0, .int .u64 0, .string ⟨#[]⟩, .bool false, .int .u64 0, .string ⟨#[]⟩] 80)
 go_enter Tryz.func45, Tryz.ntmps45
 go_upto_region 1 with fail
 clear hweq
 obtain ⟨α, iα, F, hF1, hF2⟩ := cls x1
 have hq0 := cls_box hF1 hL0 _ _ (mK mZ)
 simp only [zC, Nat.reduceAdd] at hq0
 refine region_qs 12 (C := fun w' => ∃ x, w' = F x) (by kernel_rfl) (by kernel_rfl) (cls_drew hF2) ?_
 simp only [zT]
 repeat (go_big_quiet_step (first | fail | (go_at_call 46; with_reducible exact cls_call hF1 hF2 HT.out _)))
 refine wpQuiet_nil ?_
 rintro wq ⟨xq, rfl⟩
 replace hL0 := hL0.call (hF1 xq)
 clear  hq0 hF2
 generalize F xq = x2 at hL0 ⊢
 clear hF1 xq iα F α
 have hA := hL0.fc
 simp only [zF, Nat.reduceAdd] at hA
 obtain ⟨x3, hput1, hP⟩ := GL.named (hL0.put 0 (w.heap.size + 1) _ rfl [.int .i64 mx, .int .i64 j, .int .u64 ((zl r.num : Nat) : Int), .string (zh r.num), .bool (zs r.num), .int .u64 ((lo (fe r) : Nat) : Int), .string (hs (fe r))] rfl)
 simp only [setAll] at hput1
 simp only [List.set_cons_zero, List.set_cons_succ] at hP
 have hB1 := hP.fc
 simp only [zF, Nat.reduceAdd] at hB1
 replace hL0 := hP
 go_wp2_with fail
 exact bodyPost_ret (v := .agg #[.int .i64 mx, .int .i64 j, .int .u64 ((zl r.num : Nat) : Int), .string (zh r.num), .bool (zs r.num), .int .u64 ((lo (fe r) : Nat) : Int), .string (hs (fe r))]) (by simp [results, Tryz.results45, go_sem, hB1]) rfl ⟨rfl, hL0.bl⟩
theorem pdy1_w (i j m mx : Int) (q r : Rat) (HT : ∀ w, Calls Tryz.prog 46 #[.int .i64 j, fracV q] w fun xe w' => xe = .returned (fracV r) ∧ Below w.heap.size w w') (e1 : IntKind.i64.wrap (j - 1) = m) (e2 : wrap64 (j - 1) = m) (e3 : max m 0 = mx) (w : World) :
  Calls Tryz.prog 47 #[.agg #[.int .i64 i, .int .i64 j, .int .u64 ((zl q.num : Nat) : Int), .string (zh q.num), .bool (zs q.num), .int .u64 ((lo (fe q) : Nat) : Int), .string (hs (fe q))]] w fun xe w' => xe = .returned (.agg #[.int .i64 i, .int .i64 mx, .int .u64 ((zl r.num : Nat) : Int), .string (zh r.num), .bool (zs r.num), .int .u64 ((lo (fe r) : Nat) : Int), .string (hs (fe r))]) ∧ Below w.heap.size w w' := by
 have hL0 : GL w w [] := GL.start w
 replace HT := Lib.hid HT
 obtain ⟨x1, hweq, hL0⟩ := GL.named ((hL0.new rfl [.int .i64 i, .int .i64 j, .int .u64 ((zl q.num : Nat) : Int), .string (zh q.num), .bool (zs q.num), .int .u64 ((lo (fe q) : Nat) : Int), .string (hs (fe q))] 80).new (K := w.heap.size + 1) (szA _ _) [.int .i64 0, .int .i64 0, .int .u64 0, .string ⟨#[]⟩, .bool false, .int .u64 0, .string ⟨#[]⟩] 80)
 go_enter Tryz.func47, Tryz.ntmps47
 go_upto_region 1 with fail
 clear hweq
 obtain ⟨α, iα, F, hF1, hF2⟩ := cls x1
 have hq0 := cls_box hF1 hL0 _ _ (mK mZ)
 simp only [zC, Nat.reduceAdd] at hq0
 refine region_qs 12 (C := fun w' => ∃ x, w' = F x) (by kernel_rfl) (by kernel_rfl) (cls_drew hF2) ?_
 simp only [zT]
 repeat (go_big_quiet_step (first | fail | (go_at_call 46; with_reducible exact cls_call hF1 hF2 HT.out _)))
 refine wpQuiet_nil ?_
 rintro wq ⟨xq, rfl⟩
 replace hL0 := hL0.call (hF1 xq)
 clear  hq0 hF2
 generalize F xq = x2 at hL0 ⊢
 clear hF1 xq iα F α
 have hA := hL0.fc
 simp only [zF, Nat.reduceAdd] at hA
 obtain ⟨x3, hput1, hP⟩ := GL.named (hL0.put 0 (w.heap.size + 1) _ rfl [.int .i64 i, .int .i64 mx, .int .u64 ((zl r.num : Nat) : Int), .string (zh r.num), .bool (zs r.num), .int .u64 ((lo (fe r) : Nat) : Int), .string (hs (fe r))] rfl)
 simp only [setAll] at hput1
 simp only [List.set_cons_zero, List.set_cons_succ] at hP
 have hB1 := hP.fc
 simp only [zF, Nat.reduceAdd] at hB1
 replace hL0 := hP
 go_wp2_with fail
 exact bodyPost_ret (v := .agg #[.int .i64 i, .int .i64 mx, .int .u64 ((zl r.num : Nat) : Int), .string (zh r.num), .bool (zs r.num), .int .u64 ((lo (fe r) : Nat) : Int), .string (hs (fe r))]) (by simp [results, Tryz.results47, go_sem, hB1]) rfl ⟨rfl, hL0.bl⟩
theorem pscale1_w (i j : Int) (q c r : Rat) (bk : Nat) (HM : ∀ w, Calls Tryz.prog 24 #[fracV c, fracV q] w fun xe w' => xe = .returned (fracV r) ∧ Below w.heap.size w w') (w : World) (hk : Hd w bk [.int .u64 ((zl c.num : Nat) : Int), .string (zh c.num), .bool (zs c.num), .int .u64 ((lo (fe c) : Nat) : Int), .string (hs (fe c))]) :
  Calls Tryz.prog 68 #[.agg #[.int .i64 i, .int .i64 j, .int .u64 ((zl q.num : Nat) : Int), .string (zh q.num), .bool (zs q.num), .int .u64 ((lo (fe q) : Nat) : Int), .string (hs (fe q))], .pointer (some ⟨bk, 0, none⟩)] w fun xe w' => xe = .returned (.agg #[.int .i64 i, .int .i64 j, .int .u64 ((zl r.num : Nat) : Int), .string (zh r.num), .bool (zs r.num), .int .u64 ((lo (fe r) : Nat) : Int), .string (hs (fe r))]) ∧ Below w.heap.size w w' := by
 have hL0 : GL w w [] := GL.start w
 replace HM := Lib.hid HM
 replace hk := Lib.hid hk
 obtain ⟨x1, hweq, hL0⟩ := GL.named ((hL0.new rfl [.int .i64 i, .int .i64 j, .int .u64 ((zl q.num : Nat) : Int), .string (zh q.num), .bool (zs q.num), .int .u64 ((lo (fe q) : Nat) : Int), .string (hs (fe q))] 80).new (K := w.heap.size + 1) (szA _ _) [.int .i64 0, .int .i64 0, .int .u64 0, .string ⟨#[]⟩, .bool false, .int .u64 0, .string ⟨#[]⟩] 80)
 go_enter Tryz.func68, Tryz.ntmps68
 go_upto_region 1 with fail
 clear hweq
 obtain ⟨α, iα, F, hF1, hF2⟩ := cls x1
 have hk9 := cellsC_of _ 0 fun x => cells_of _ 0 [] rfl ((hk.out.below hL0.bl).below (hF1 x))
 simp only [zC, Nat.reduceAdd] at hk9
 have hq0 := cls_box hF1 hL0 _ _ (mK mZ)
 simp only [zC, Nat.reduceAdd] at hq0
 refine region_qs 9 (C := fun w' => ∃ x, w' = F x) (by kernel_rfl) (by kernel_rfl) (cls_drew hF2) ?_
 simp only [zT]
 repeat (go_big_quiet_step (first | fail | (go_at_call 24; with_reducible exact cls_call hF1 hF2 HM.out _)))
 refine wpQuiet_nil ?_
 rintro wq ⟨xq, rfl⟩
 replace hL0 := hL0.call (hF1 xq)
 clear hk9 hq0 hF2
 generalize F xq = x2 at hL0 ⊢
 clear hF1 xq iα F α
 have hA := hL0.fc
 simp only [zF, Nat.reduceAdd] at hA
 obtain ⟨x3, hput1, hP⟩ := GL.named (hL0.put 0 (w.heap.size + 1) _ rfl [.int .i64 i, .int .i64 j, .int .u64 ((zl r.num : Nat) : Int), .string (zh r.num), .bool (zs r.num), .int .u64 ((lo (fe r) : Nat) : Int), .string (hs (fe r))] rfl)
 simp only [setAll] at hput1
 simp only [List.set_cons_zero, List.set_cons_succ] at hP
 have hB1 := hP.fc
 simp only [zF, Nat.reduceAdd] at hB1
 replace hL0 := hP
 go_wp2_with fail
 exact bodyPost_ret (v := .agg #[.int .i64 i, .int .i64 j, .int .u64 ((zl r.num : Nat) : Int), .string (zh r.num), .bool (zs r.num), .int .u64 ((lo (fe r) : Nat) : Int), .string (hs (fe r))]) (by simp [results, Tryz.results68, go_sem, hB1]) rfl ⟨rfl, hL0.bl⟩
theorem pdx_w (l r : List TI) (HT : ∀ (p0 : Value) (w : World), PT w p0 l → Calls Tryz.prog 44 #[p0, .func (.func 45) #[] #[]] w fun e w' => ∃ pv, e = .returned pv ∧ PT w' pv r ∧ Below w.heap.size w w') (p0 : Value) (w : World) (r0 : PT w p0 l) :
  Calls Tryz.prog 12 #[p0] w fun e w' => ∃ pv, e = .returned pv ∧ PT w' pv r ∧ Below w.heap.size w w' := by
 obtain ⟨a0, n0, c0, rfl, -⟩ := pt_form r0
 have f0 := Lib.hid r0
 clear r0
 replace HT := Lib.hid HT
 have hL0 : GL w w [] := GL.start w
 have hT : PTs w [] := PTs.nil w
 go_enter Tryz.func12, Tryz.ntmps12
 go_wp2_with fail
 with_reducible refine Calls.mono (HT.out (.slice a0 n0 c0) _ (PT.below f0.out hL0.bl)) ?_
 rintro e x1 ⟨v0, rfl, q0, hb⟩
 replace hL0 := hL0.call hb
 replace hT := hT.call hb
 clear hb
 obtain ⟨g1, d1, g1c, rfl, -⟩ := pt_form q0
 replace hT := hT.cons q0
 clear q0
 go_wp2_with fail
 exact bodyPost_ret (v := .slice g1 d1 g1c) (by simp [results, Tryz.results12, go_sem]) rfl ⟨_, rfl, (hT.get mZ), hL0.bl⟩
theorem pdy_w (l r : List TI) (HT : ∀ (p0 : Value) (w : World), PT w p0 l → Calls Tryz.prog 44 #[p0, .func (.func 47) #[] #[]] w fun e w' => ∃ pv, e = .returned pv ∧ PT w' pv r ∧ Below w.heap.size w w') (p0 : Value) (w : World) (r0 : PT w p0 l) :
  Calls Tryz.prog 13 #[p0] w fun e w' => ∃ pv, e = .returned pv ∧ PT w' pv r ∧ Below w.heap.size w w' := by
 obtain ⟨a0, n0, c0, rfl, -⟩ := pt_form r0
 have f0 := Lib.hid r0
 clear r0
 replace HT := Lib.hid HT
 have hL0 : GL w w [] := GL.start w
 have hT : PTs w [] := PTs.nil w
 go_enter Tryz.func13, Tryz.ntmps13
 go_wp2_with fail
 with_reducible refine Calls.mono (HT.out (.slice a0 n0 c0) _ (PT.below f0.out hL0.bl)) ?_
 rintro e x1 ⟨v0, rfl, q0, hb⟩
 replace hL0 := hL0.call hb
 replace hT := hT.call hb
 clear hb
 obtain ⟨g1, d1, g1c, rfl, -⟩ := pt_form q0
 replace hT := hT.cons q0
 clear q0
 go_wp2_with fail
 exact bodyPost_ret (v := .slice g1 d1 g1c) (by simp [results, Tryz.results13, go_sem]) rfl ⟨_, rfl, (hT.get mZ), hL0.bl⟩
theorem pscale_w (l r : List TI) (c : Rat) (ao : Option Addr) (n cp : Nat)
  (HT : ∀ (bk : Nat) (w : World), Hd w bk [.int .u64 ((zl c.num : Nat) : Int), .string (zh c.num), .bool (zs c.num), .int .u64 ((lo (fe c) : Nat) : Int), .string (hs (fe c))] → PT w (.slice ao n cp) l → Calls Tryz.prog 44 #[.slice ao n cp, .func (.func 68) #[] #[.pointer (some ⟨bk, 0, none⟩)]] w fun e w' => ∃ pv, e = .returned pv ∧ PT w' pv r ∧ Below w.heap.size w w') (w : World) (hq : PT w (.slice ao n cp) l) :
  Calls Tryz.prog 26 #[.slice ao n cp, fracV c] w fun e w' => ∃ pv, e = .returned pv ∧ PT w' pv r ∧ Below w.heap.size w w' := by
 replace HT := Lib.hid HT
 replace hq := Lib.hid hq
 have hL0 : GL w w [] := GL.start w
 obtain ⟨x1, hweq, hL0⟩ := GL.named (hL0.new rfl [.int .u64 ((zl c.num : Nat) : Int), .string (zh c.num), .bool (zs c.num), .int .u64 ((lo (fe c) : Nat) : Int), .string (hs (fe c))] 38)
 have hT1 := Lib.hid (HT.out w.heap.size x1 (hL0.get _ _ mZ) (hq.out.below hL0.bl))
 go_enter Tryz.func26, Tryz.ntmps26
 go_wp2_with (go_at_call 44; with_reducible refine Calls.mono hT1.out ?_; rintro e x3 ⟨v, rfl, hp3, hb3⟩; replace hp3 := Lib.hid hp3; replace hb3 := Lib.hid hb3)
 go_ret
 exact ⟨_, rfl, hp3.out, hL0.bl.trans (hb3.out.mono hL0.bl.size)⟩
end Go.Proofs.YtkdbhacimoaohaaGreatDoor
namespace Go.Proofs.YtkdbhacimoaohaaGreatDoor
open Go.RowKit
attribute [local irreducible] lo hs sm s64 c64 d64 b64 mh ml pd pc qd qc val hiB str cmpI srD lz nb zl zh zs fe klT ordZ
def scaleN (c : Rat) (p : TL) : TL := nfL (scaleL c p)
theorem GP.scale {p : TL} {d K k : Nat} {c : Rat} (h : GP p d K) (hc : Sz c k) : GP (scaleN c p) d (k + K) :=
 ⟨nfL_nf _, tb_nfL fun t ht => by
  obtain ⟨u, hu, rfl⟩ := List.mem_map.1 ht
  exact h.tb u hu, (SzL.scale hc h.sz).nf⟩
theorem SzL.dx {p : TL} {d K : Nat} (h : SzL p K) (hb : TB p d) (hd : d ≤ 12) : SzL (dxL p) (K + 1) := by
 unfold dxL
 refine SzL.map 12 (by unfold Bs; omega) (fun t ht => ⟨t.1, ?_, rfl⟩) h
 have := hb t ht; omega
theorem SzL.dy {p : TL} {d K : Nat} (h : SzL p K) (hb : TB p d) (hd : d ≤ 12) : SzL (dyL p) (K + 1) := by
 unfold dyL
 refine SzL.map 12 (by unfold Bs; omega) (fun t ht => ⟨t.2.1, ?_, rfl⟩) h
 have := hb t ht; omega
theorem tb_dx {p : TL} {d : Nat} (h : TB p d) : TB (dxL p) d := fun t ht => by
 obtain ⟨u, hu, rfl⟩ := List.mem_map.1 ht
 have := h u hu
 show u.1 - 1 + u.2.1 ≤ d
 omega
theorem tb_dy {p : TL} {d : Nat} (h : TB p d) : TB (dyL p) d := fun t ht => by
 obtain ⟨u, hu, rfl⟩ := List.mem_map.1 ht
 have := h u hu
 show u.1 + (u.2.1 - 1) ≤ d
 omega
theorem GP.dx {p : TL} {d K : Nat} (h : GP p d K) (hd : d ≤ 12) : GP (dxN p) d (K + 1) := ⟨nfL_nf _, tb_nfL (tb_dx h.tb), (h.sz.dx h.tb hd).nf⟩
theorem GP.dy {p : TL} {d K : Nat} (h : GP p d K) (hd : d ≤ 12) : GP (dyN p) d (K + 1) := ⟨nfL_nf _, tb_nfL (tb_dy h.tb), (h.sz.dy h.tb hd).nf⟩
section
variable {p q : TL} {d K e M : Nat} {w : World} {v u : Value}
theorem map_dx (hb : TB p 12) : (ofL p).map (fun t : TI => (max (t.1 - 1) 0, t.2.1, (t.1 : Rat) * t.2.2)) = ofL (dxL p) := by
 unfold ofL dxL
 rw [List.map_map, List.map_map]
 refine List.map_congr_left fun t ht => ?_
 simp only [Function.comp_apply, ofT]
 refine Prod.ext ?_ (Prod.ext rfl ?_)
 ·simp only; omega
 ·simp only; rfl
theorem map_dy (hb : TB p 12) : (ofL p).map (fun t : TI => (t.1, max (t.2.1 - 1) 0, (t.2.1 : Rat) * t.2.2)) = ofL (dyL p) := by
 unfold ofL dyL
 rw [List.map_map, List.map_map]
 refine List.map_congr_left fun t ht => ?_
 simp only [Function.comp_apply, ofT]
 refine Prod.ext rfl (Prod.ext ?_ ?_)
 ·simp only; omega
 ·simp only; rfl
theorem szI {i : Int} (h0 : 0 ≤ i) (h1 : i ≤ 12) : Sz (i : Rat) 1 := Sz.int (dI_small (by unfold Bs; omega)) (by omega)
theorem timesG {i : Int} {c : Rat} {k : Nat} (h0 : 0 ≤ i) (h1 : i ≤ 12) (hc : Sz c k) (hk : k ≤ 1000000) (w : World) : Calls Tryz.prog 46 #[.int .i64 i, fracV c] w fun xe w' => xe = .returned (fracV ((i : Rat) * c)) ∧ Below w.heap.size w w' :=
 ptimes_w i c (i : Rat) _ (fun w => intF i (by omega) (by omega) w) (fun w => mulF _ _ (k + 1) ((szI h0 h1).mono (by omega)) (hc.mono (by omega)) (by omega) w) w
theorem memo {t : TI} (ht : t ∈ ofL p) : ∃ s ∈ p, t = ofT s := by
 obtain ⟨s, hs, rfl⟩ := List.mem_map.1 ht
 exact ⟨s, hs, rfl⟩
theorem dxG (h : GP p d K) (hd : d ≤ 12) (hK : K ≤ 100000) (w : World) (v : Value) (hv : PT w v (ofL p)) : Calls Tryz.prog 12 #[v] w fun xe w' => ∃ v', xe = .returned v' ∧ PT w' v' (ofL (dxN p)) ∧ Below w.heap.size w w' := by
 have hl := h.len hd
 refine pdx_w (ofL p) (ofL (dxN p)) (fun a w ha => ?_) v w hv
 obtain ⟨ao, n, c, rfl, hn⟩ := pt_form ha
 refine ptrans_w (ofL p) p (ofL (dxN p)) (fun t : TI => (max (t.1 - 1) 0, t.2.1, (t.1 : Rat) * t.2.2)) 45 ao n c (by omega) (fun _ => True) (fun _ _ _ _ => trivial) (enters_of Tryz.func45 (by kernel_rfl) rfl) (fun w hq => normG h hd (by omega) w _ hq) (fun t ht w _ => ?_) (fun v w hv => ?_) w ha trivial
 ·obtain ⟨s, hs, rfl⟩ := memo ht
  have hb := h.tb s hs
  exact pdx1_w _ _ ((s.1 : Int) - 1) _ _ _ (fun w => timesG (by simp only [ofT]; omega) (by simp only [ofT]; omega) (h.sz.mem hs) (by omega) w) (by simp [IntKind.wrap, IntKind.bits, IntKind.signed, ofT]; omega) (by simp [wrap64, ofT]; omega) rfl w
 ·rw [map_dx (h.tb.mono hd)] at hv
  have := sumP (ofL (dxL p)) (K + 1) (vd_ofL.2 (tb_dx (h.tb.mono hd))) (by rw [toL_ofL]; exact h.sz.dx h.tb hd) (by omega) (by rw [ofL_length]; unfold dxL; rw [List.length_map]; omega) w v hv
  rwa [toL_ofL] at this
theorem dyG (h : GP p d K) (hd : d ≤ 12) (hK : K ≤ 100000) (w : World) (v : Value) (hv : PT w v (ofL p)) : Calls Tryz.prog 13 #[v] w fun xe w' => ∃ v', xe = .returned v' ∧ PT w' v' (ofL (dyN p)) ∧ Below w.heap.size w w' := by
 have hl := h.len hd
 refine pdy_w (ofL p) (ofL (dyN p)) (fun a w ha => ?_) v w hv
 obtain ⟨ao, n, c, rfl, hn⟩ := pt_form ha
 refine ptrans_w (ofL p) p (ofL (dyN p)) (fun t : TI => (t.1, max (t.2.1 - 1) 0, (t.2.1 : Rat) * t.2.2)) 47 ao n c (by omega) (fun _ => True) (fun _ _ _ _ => trivial) (enters_of Tryz.func47 (by kernel_rfl) rfl) (fun w hq => normG h hd (by omega) w _ hq) (fun t ht w _ => ?_) (fun v w hv => ?_) w ha trivial
 ·obtain ⟨s, hs, rfl⟩ := memo ht
  have hb := h.tb s hs
  exact pdy1_w _ _ ((s.2.1 : Int) - 1) _ _ _ (fun w => timesG (by simp only [ofT]; omega) (by simp only [ofT]; omega) (h.sz.mem hs) (by omega) w) (by simp [IntKind.wrap, IntKind.bits, IntKind.signed, ofT]; omega) (by simp [wrap64, ofT]; omega) rfl w
 ·rw [map_dy (h.tb.mono hd)] at hv
  have := sumP (ofL (dyL p)) (K + 1) (vd_ofL.2 (tb_dy (h.tb.mono hd))) (by rw [toL_ofL]; exact h.sz.dy h.tb hd) (by omega) (by rw [ofL_length]; unfold dyL; rw [List.length_map]; omega) w v hv
  rwa [toL_ofL] at this
theorem scaleG (h : GP p d K) (hd : d ≤ 12) {c : Rat} {k : Nat} (hc : Sz c k) (hK : K + k ≤ 100000) (w : World) (v : Value) (hv : PT w v (ofL p)) : Calls Tryz.prog 26 #[v, fracV c] w fun xe w' => ∃ v', xe = .returned v' ∧ PT w' v' (ofL (scaleN c p)) ∧ Below w.heap.size w w' := by
 have hl := h.len hd
 obtain ⟨ao, n, cp, rfl, hn⟩ := pt_form hv
 refine pscale_w (ofL p) (ofL (scaleN c p)) c ao n cp (fun bk w hbk ha => ?_) w hv
 have hkk : Keeps (fun w : World => Hd w bk (frC c)) := fun _ _ hb h => h.below hb
 refine ptransc_w (ofL p) p (ofL (scaleN c p)) (fun t : TI => (t.1, t.2.1, c * t.2.2)) 68 bk ao n cp (by omega) (fun w => Hd w bk (frC c)) hkk (enters_of Tryz.func68 (by kernel_rfl) rfl) (fun w hq => normG h hd (by omega) w _ hq) (fun t ht w hk => ?_) (fun v w hv => ?_) w ha hbk
 ·obtain ⟨s, hs, rfl⟩ := memo ht
  exact pscale1_w _ _ _ c _ bk (fun w => mulF _ _ (K + k) (hc.mono (by omega)) ((h.sz.mem hs).mono (by omega)) (by omega) w) w hk
 ·have e : (ofL p).map (fun t : TI => (t.1, t.2.1, c * t.2.2)) = ofL (scaleL c p) := by
   unfold ofL scaleL
   rw [List.map_map, List.map_map]
   rfl
  rw [e] at hv
  have := sumP (ofL (scaleL c p)) (k + K) (vd_ofL.2 (fun t ht => by
   obtain ⟨u, hu, rfl⟩ := List.mem_map.1 ht
   exact Nat.le_trans (h.tb u hu) hd)) (by rw [toL_ofL]; exact SzL.scale hc h.sz) (by omega) (by rw [ofL_length]; unfold scaleL; rw [List.length_map]; omega) w v hv
  rwa [toL_ofL] at this
end
end Go.Proofs.YtkdbhacimoaohaaGreatDoor
namespace Go.Proofs.YtkdbhacimoaohaaGreatDoor
open Go.RowKit
attribute [local irreducible] lo hs sm s64 c64 d64 b64 mh ml pd pc qd qc val hiB str cmpI srD lz nb zl zh zs fe klT ordZ
def pws (x : Rat) (n : Nat) : List Rat := (List.range (n + 1)).map fun i => x ^ i
theorem pws_len (x : Rat) (n : Nat) : (pws x n).length = n + 1 := by unfold pws; rw [List.length_map, List.length_range]
theorem pws_succ (x : Rat) (n : Nat) : pws x (n + 1) = pws x n ++ [x ^ (n + 1)] := by unfold pws; rw [List.range_succ, List.map_append]; rfl
theorem pws_get (x : Rat) (n i : Nat) (h : i < (pws x n).length) : (pws x n)[i] = x ^ i := by simp [pws]
theorem ppows_w (x one : Rat) (m : Int) (N : Nat) (h1 : one = 1) (hm : m = (N : Int) ∨ (m = -1 ∧ N = 0)) (hN : N ≤ 1000)
  (HI : ∀ w : World, Calls Tryz.prog 20 #[.int .i64 1] w fun xe w' => xe = .returned (fracV one) ∧ Below w.heap.size w w')
  (HM : ∀ i, i < N → ∀ w : World, Calls Tryz.prog 24 #[fracV (x ^ i), fracV x] w fun xe w' => xe = .returned (fracV (x ^ (i + 1))) ∧ Below w.heap.size w w') (w : World) :
  Calls Tryz.prog 70 #[fracV x, .int .i64 m] w fun xe w' => ∃ v, xe = .returned v ∧ SlQ w' v (pws x N) ∧ Below w.heap.size w w' := by
 replace HI := Lib.hid HI
 replace HM := Lib.hid HM
 replace h1 := Lib.hid h1
 replace hm := Lib.hid hm
 have hL0 : GL w w [] := GL.start w
 obtain ⟨x1, hweq, hL0⟩ := GL.named (hL0.new rfl [.int .u64 ((zl x.num : Nat) : Int), .string (zh x.num), .bool (zs x.num), .int .u64 ((lo (fe x) : Nat) : Int), .string (hs (fe x))] 38)
 go_enter Tryz.func70, Tryz.ntmps70
 go_wp2_with fail
 with_reducible refine Calls.mono (HI.out _) ?_
 rintro e y1 ⟨rfl, hb⟩
 replace hL0 := hL0.call hb
 clear hb hweq
 generalize hbx : w.heap.size = bx at hL0
 replace hbx := Lib.hid hbx
 have hown0 : OwnF (y1.alloc (.cells #[.int .u64 ((zl one.num : Nat) : Int), .string (zh one.num), .bool (zs one.num), .int .u64 ((lo (fe one) : Nat) : Int), .string (hs (fe one))] 38)) y1.heap.size (.slice (some ⟨y1.heap.size, 0, none⟩) 1 1) (0 + 1) (pws x 0) := by
  have := World.ownsRow_lit (base := y1.heap.size) (e := 38) (size := 5) y1 #[.int .u64 ((zl one.num : Nat) : Int), .string (zh one.num), .bool (zs one.num), .int .u64 ((lo (fe one) : Nat) : Int), .string (hs (fe one))] 1 (Nat.le_refl _) (by unfold maxLen; omega) rfl
  have e : frCs (pws x 0) = [.int .u64 ((zl one.num : Nat) : Int), .string (zh one.num), .bool (zs one.num), .int .u64 ((lo (fe one) : Nat) : Int), .string (hs (fe one))] := by
   rw [h1.out]; simp [pws, frCs, frC]
  unfold OwnF
  rw [e]; exact this
 have hL1 := hL0.call ((Below.refl y1.heap.size y1).alloc (Nat.le_refl _) (.cells #[.int .u64 ((zl one.num : Nat) : Int), .string (zh one.num), .bool (zs one.num), .int .u64 ((lo (fe one) : Nat) : Int), .string (hs (fe one))] 38))
 have hE : y1.heap.size ≤ (y1.alloc (.cells #[.int .u64 ((zl one.num : Nat) : Int), .string (zh one.num), .bool (zs one.num), .int .u64 ((lo (fe one) : Nat) : Int), .string (hs (fe one))] 38)).heap.size := by rw [World.size_alloc]; omega
 have hbl : bx < y1.heap.size := (hL0.get _ _ mZ).lt
 have hwb : w.heap.size ≤ y1.heap.size := hL0.bl.size
 generalize hweq : y1.alloc (.cells #[.int .u64 ((zl one.num : Nat) : Int), .string (zh one.num), .bool (zs one.num), .int .u64 ((lo (fe one) : Nat) : Int), .string (hs (fe one))] 38) = y2 at hown0 hL1 hE
 obtain ⟨E, hEe⟩ : ∃ E, E = y1.heap.size := ⟨_, rfl⟩
 have hv0 : Value.slice (some ⟨y1.heap.size, 0, none⟩) 1 1 = Value.slice (some ⟨y1.heap.size, 0, none⟩) 1 1 := rfl
 rw [← hEe] at hE hbl hwb
 have hown1 : OwnF y2 E (.slice (some ⟨y1.heap.size, 0, none⟩) 1 1) (0 + 1) (pws x 0) := by rw [hEe]; exact hown0
 replace hown1 := Lib.hid hown1
 replace hEe := Lib.hid hEe
 replace hE := Lib.hid hE
 replace hbl := Lib.hid hbl
 replace hwb := Lib.hid hwb
 clear hL0 hown0 hv0
 go_wp2_with fail
 clear hweq
 go_loopg [5, 10] N (fun gk sv iv wr => ∃ (k : Nat) (zi : Int) (vs : Value), k + gk = N ∧ vs = sv ∧ iv = .int .i64 zi ∧ zi = (k : Int) ∧ OwnF wr E vs (k + 1) (pws x k) ∧ E ≤ wr.heap.size ∧ GL w wr [(bx, [.int .u64 ((zl x.num : Nat) : Int), .string (zh x.num), .bool (zs x.num), .int .u64 ((lo (fe x) : Nat) : Int), .string (hs (fe x))])])
 case atStart => exact ⟨0, 0, _, Nat.zero_add N, rfl, by first | rfl | go_num, rfl, hown1.out, hE.out, hL1⟩
 case round =>
  clear hown1 hE hL1
  obtain ⟨k, zi, vs, hik, rfl, rfl, hzi, hown, hEw, hL0⟩ := hrel
  replace hEw := Lib.hid hEw
  rcases Nat.lt_or_ge k N with hin | hin
  ·subst hzi
   have hmN : m = (N : Int) := by rcases hm.out with h | h; exact h; omega
   have k1 : (k : Int) < m := by omega
   have k0 : (0 : Int) ≤ (k : Int) := Int.natCast_nonneg _
   replace hmN := Lib.hid hmN
   obtain ⟨g5, c5, rfl, hg5, hg6, hc5⟩ := own_form hown rfl (Nat.succ_pos k)
   have hfs := own_fs hown rfl
   have hkl : k < (pws x k).length := by rw [pws_len]; omega
   obtain ⟨p, hpx⟩ : ∃ p, p = (pws x k)[k] := ⟨_, rfl⟩
   have hM1 := HM.out k hin
   rw [← pws_get x k k hkl, ← hpx] at hM1
   obtain ⟨r, hr⟩ : ∃ r, r = x ^ (k + 1) := ⟨_, rfl⟩
   rw [← hr] at hM1
   have hps : pws x (k + 1) = pws x k ++ [r] := by rw [pws_succ, hr]
   have HM1 := Lib.hid hM1
   have k4 : (k : Int) < ((k : Int) + 1) := by omega
   have k5 : k < k + 1 := by omega
   have k6 : ¬ (k : Int) < 0 := by omega
   replace hfs := Lib.hid hfs
   replace hkl := Lib.hid hkl
   replace hpx := Lib.hid hpx
   replace hr := Lib.hid hr
   replace hps := Lib.hid hps
   clear hM1
   have hown3 := Lib.hid hown
   clear hown
   replace hg6 := Lib.hid hg6
   replace hg5 := Lib.hid hg5
   replace hc5 := Lib.hid hc5
   go_upto_region 5 with fail
   have hS : SS wr [] := SS.nil wr
   refine region_tl 8 [EV (.slice (some ⟨g5, 0, none⟩) (k + 1) c5), EV (.slice (some ⟨g5, 0, none⟩) (k + 1) c5), EV (.int .i64 (k : Int)), EV (.pointer (some ⟨g5, k * 5, none⟩)), EV (.agg #[.int .u64 ((zl p.num : Nat) : Int), .string (zh p.num), .bool (zs p.num), .int .u64 ((lo (fe p) : Nat) : Int), .string (hs (fe p))]), EV (.agg #[.int .u64 ((zl x.num : Nat) : Int), .string (zh x.num), .bool (zs x.num), .int .u64 ((lo (fe x) : Nat) : Int), .string (hs (fe x))]), EV (.agg #[.int .u64 ((zl r.num : Nat) : Int), .string (zh r.num), .bool (zs r.num), .int .u64 ((lo (fe r) : Nat) : Int), .string (hs (fe r))]), NewS (wr.heap.size, [.int .u64 ((zl r.num : Nat) : Int), .string (zh r.num), .bool (zs r.num), .int .u64 ((lo (fe r) : Nat) : Int), .string (hs (fe r))], 1)] (by kernel_rfl) (by kernel_rfl) ?_ ?_ ?_
   ·repeat' first | exact stays_nil | apply stays_cons | exact stays_eq _ | exact stays_news _
   ·simp only [List.take_succ_cons, List.take_zero, hopsR, and_true]
    refine ⟨?_, ?_, ?_, ?_, ?_, ?_, ?_, ?_⟩ <;> intro fv w1 hb1 hp
    all_goals (have hc := (hL0.call (below_drew hb1)).fc; simp only [zF, Nat.reduceAdd] at hc; simp only [putsV, Act.put, zP, Nat.zero_add, Nat.reduceAdd])
    ·refine tyAt_none rfl ?_
     simp [tyUpon, execOp, go_sem, Act.eval, k4, k5, k6, Below.refl]
    ·refine tyAt_none rfl ?_
     simp [tyUpon, execOp, go_sem, Act.eval, k4, k5, k6, Below.refl]
    ·refine tyAt_none rfl ?_
     simp [tyUpon, execOp, go_sem, Act.eval, k4, k5, k6, Below.refl]
    ·have h1 : EV _ (fv 1) w1 := hp 1 (LC (by kernel_rfl))
     have h2 : EV _ (fv 2) w1 := hp 2 (LC (by kernel_rfl))
     refine tyAt_none rfl ?_
     simp [tyUpon, execOp, go_sem, Act.eval, h1, h2, k4, k5, k6, Below.refl]
    ·have h3 : EV _ (fv 3) w1 := hp 3 (LC (by kernel_rfl))
     refine tyAt_none rfl ?_
     have hx := (hfs.out.below (below_drew hb1)).cell k hkl.out
     rw [← hpx.out] at hx
     simp [tyUpon, execOp, go_sem, Act.eval, hc, h3, k4, k5, k6, hx, Below.refl]
    ·refine tyAt_none rfl ?_
     simp [tyUpon, execOp, go_sem, Act.eval, hc, k4, k5, k6, Below.refl]
    ·have h4 : EV _ (fv 4) w1 := hp 4 (LC (by kernel_rfl))
     have h5 : EV _ (fv 5) w1 := hp 5 (LC (by kernel_rfl))
     refine tyAt_none rfl ?_
     refine ty_call (f := 24) (args := #[.agg #[.int .u64 ((zl p.num : Nat) : Int), .string (zh p.num), .bool (zs p.num), .int .u64 ((lo (fe p) : Nat) : Int), .string (hs (fe p))], .agg #[.int .u64 ((zl x.num : Nat) : Int), .string (zh x.num), .bool (zs x.num), .int .u64 ((lo (fe x) : Nat) : Int), .string (hs (fe x))]]) (by simp [execOp, go_sem, Act.eval, h4, h5]) ?_
     exact (HM1.out w1).mono fun e w2 ⟨h1, h2⟩ => ⟨_, h1, rfl, h2⟩
    ·have h6 : EV _ (fv 6) w1 := hp 6 (LC (by kernel_rfl))
     refine tyAt_none rfl ?_
     refine ty_val8 (u := .slice (some ⟨w1.heap.size, 0, none⟩) 1 1) (w' := w1.alloc (.cells #[.int .u64 ((zl r.num : Nat) : Int), .string (zh r.num), .bool (zs r.num), .int .u64 ((lo (fe r) : Nat) : Int), .string (hs (fe r))] 38)) (by simp [execOp, go_sem, Act.eval, h6]) ((Below.refl _ _).alloc (Nat.le_refl _) _) (news_mk (below_drew hb1).size)
   ·intro fv x51 hb1 hv
    have e0 : fv 0 = _ := hv 0 (by omega)
    have e1 : fv 1 = _ := hv 1 (by omega)
    have e2 : fv 2 = _ := hv 2 (by omega)
    have e3 : fv 3 = _ := hv 3 (by omega)
    have e4 : fv 4 = _ := hv 4 (by omega)
    have e5 : fv 5 = _ := hv 5 (by omega)
    have e6 : fv 6 = _ := hv 6 (by omega)
    have q7 : NewS ((wr.heap.size, [.int .u64 ((zl r.num : Nat) : Int), .string (zh r.num), .bool (zs r.num), .int .u64 ((lo (fe r) : Nat) : Int), .string (hs (fe r))], 1)) (fv 7) x51 := hv 7 (by omega)
    obtain ⟨g1, e7, ng1, mg1⟩ := news_parts q7
    rw [e7] at q7
    simp only [List.take_succ_cons, List.take_zero, putsV, Act.put, zP, List.drop_succ_cons, List.drop_zero, Nat.zero_add, Nat.reduceAdd, e0, e1, e2, e3, e4, e5, e6, e7]
    replace hL0 := hL0.call (below_drew hb1)
    replace hS := hS.call (below_drew hb1)
    have hown7 := Lib.hid (own_below hown3.out (below_drew hb1))
    have hEw7 := Lib.hid (Nat.le_trans hEw.out (below_drew hb1).size)
    clear e0 e1 e2 e3 e4 e5 e6 e7 hb1 hv q7 fv
    have hH := Lib.hid mg1
    go_wp2_with (at_builtin; refine wp_appendF rfl _ _ rfl E _ _ _ rfl hown7.out _ r rfl hH.out (by omega) hEw7.out ?_)
    intro v' w8 hown8 hgrow
    rw [← hps.out] at hown8
    have hL8 := gl_grown hL0 hgrow (fun x hx => ⟨Nat.le_trans hwb.out (hown7.out.lt x hx).1, fun p hp => by rw [List.mem_singleton.1 hp]; have := (hown7.out.lt x hx).1; have := hbl.out; exact Nat.ne_of_lt (Nat.lt_of_lt_of_le hbl.out (hown7.out.lt x hx).1)⟩)
    have hE8 := Lib.hid (Nat.le_trans hEw7.out hgrow.size)
    replace hown8 := Lib.hid hown8
    clear hgrow hown7 hEw7 hL0 hH
    go_wp2_with fail
    go_roundg (N - (k + 1))
    case measure => omega
    case rel => exact ⟨k + 1, _, _, by omega, rfl, by first | rfl | go_num, by omega, hown8.out, hE8.out, hL8⟩
  ·obtain rfl : k = N := by omega
   subst hzi
   have k1 : ¬ (k : Int) < m := by rcases hm.out with h | h <;> omega
   have hsl := Lib.hid (own_slq hown (pws_len x k).symm)
   clear hown
   go_wp2_with fail
   go_ret
   exact ⟨_, rfl, hsl.out, hL0.bl⟩
end Go.Proofs.YtkdbhacimoaohaaGreatDoor
namespace Go.Proofs.YtkdbhacimoaohaaGreatDoor
open Go.RowKit
attribute [local irreducible] lo hs sm s64 c64 d64 b64 mh ml pd pc qd qc val hiB str cmpI srD lz nb zl zh zs fe klT ordZ
theorem slq_pos {w : World} {ao : Option Addr} {n c : Nat} {l : List Rat} (h : SlQ w (.slice ao n c) l) (h0 : 0 < l.length) : ∃ g, ao = some ⟨g, 0, none⟩ ∧ n = l.length ∧ FS w g l := by
 rcases h with ⟨a, c2, e, rfl⟩ | ⟨g, c2, e, hf⟩
 ·exact absurd h0 (Nat.lt_irrefl _)
 ·simp only [Value.slice.injEq] at e
  obtain ⟨rfl, rfl, -⟩ := e
  exact ⟨g, rfl, rfl, hf⟩
theorem pat_w (l : List TI) (P : TL) (x y s : Rat) (m : Int) (N : Nat) (ao : Option Addr) (n c : Nat) (hPl : P.length ≤ 10000) (hPN : ∀ t ∈ P, t.1 ≤ N ∧ t.2.1 ≤ N)
  (HN : ∀ w : World, PT w (.slice ao n c) l → Calls Tryz.prog 43 #[.slice ao n c] w fun xe w' => ∃ v', xe = .returned v' ∧ PT w' v' (ofL P) ∧ Below w.heap.size w w')
  (HD : ∀ (v : Value) (w : World), PT w v (ofL P) → Calls Tryz.prog 57 #[v] w fun xe w' => xe = .returned (.int .i64 m) ∧ Below w.heap.size w w')
  (HX : ∀ w : World, Calls Tryz.prog 70 #[fracV x, .int .i64 m] w fun e w' => ∃ pv, e = .returned pv ∧ SlQ w' pv (pws x N) ∧ Below w.heap.size w w')
  (HY : ∀ w : World, Calls Tryz.prog 70 #[fracV y, .int .i64 m] w fun e w' => ∃ pv, e = .returned pv ∧ SlQ w' pv (pws y N) ∧ Below w.heap.size w w')
  (HM1 : ∀ t ∈ P, ∀ w : World, Calls Tryz.prog 24 #[fracV (x ^ t.1), fracV (y ^ t.2.1)] w fun xe w' => xe = .returned (fracV (x ^ t.1 * y ^ t.2.1)) ∧ Below w.heap.size w w')
  (HM2 : ∀ t ∈ P, ∀ w : World, Calls Tryz.prog 24 #[fracV t.2.2, fracV (x ^ t.1 * y ^ t.2.1)] w fun xe w' => xe = .returned (fracV (t.2.2 * (x ^ t.1 * y ^ t.2.1))) ∧ Below w.heap.size w w')
  (HSm : ∀ (v : Value) (w : World), SlQ w v (P.map fun t => t.2.2 * (x ^ t.1 * y ^ t.2.1)) → Calls Tryz.prog 14 #[v] w fun xe w' => xe = .returned (fracV s) ∧ Below w.heap.size w w')
  (w : World) (hq : PT w (.slice ao n c) l) :
  Calls Tryz.prog 28 #[.slice ao n c, fracV x, fracV y] w fun xe w' => xe = .returned (fracV s) ∧ Below w.heap.size w w' := by
 replace HN := Lib.hid HN
 replace HD := Lib.hid HD
 replace HX := Lib.hid HX
 replace HY := Lib.hid HY
 replace HM1 := Lib.hid HM1
 replace HM2 := Lib.hid HM2
 replace hq := Lib.hid hq
 replace hPl := Lib.hid hPl
 replace hPN := Lib.hid hPN
 obtain ⟨VL, hVL⟩ : ∃ VL, VL = P.map fun t => t.2.2 * (x ^ t.1 * y ^ t.2.1) := ⟨_, rfl⟩
 rw [← hVL] at HSm
 replace hVL := Lib.hid hVL
 replace HSm := Lib.hid HSm
 have hL0 : GL w w [] := GL.start w
 obtain ⟨x1, hweq, hL0⟩ := GL.named (((hL0.new rfl [.int .u64 ((zl x.num : Nat) : Int), .string (zh x.num), .bool (zs x.num), .int .u64 ((lo (fe x) : Nat) : Int), .string (hs (fe x))] 38).new (K := w.heap.size + 1) (szA _ _) [.int .u64 ((zl y.num : Nat) : Int), .string (zh y.num), .bool (zs y.num), .int .u64 ((lo (fe y) : Nat) : Int), .string (hs (fe y))] 38).new (K := w.heap.size + 1 + 1) (by simp only [World.size_alloc]) [.int .u64 0, .string ⟨#[]⟩, .bool false, .int .u64 0, .string ⟨#[]⟩] 38)
 go_enter Tryz.func28, Tryz.ntmps28
 go_wp2_with fail
 with_reducible refine Calls.mono (HN.out x1 (hq.out.below hL0.bl)) ?_
 rintro e y1 ⟨v, rfl, hpt, hb⟩
 replace hL0 := hL0.call hb
 clear hb hweq
 obtain ⟨a2, n2, c2, rfl, hn2⟩ := pt_form hpt
 have hpp := Lib.hid (pt_parts hpt).2
 have hnl : n2 = P.length := by rw [hn2]; exact ofL_length P
 have hnb : n2 ≤ 10000 := by rw [hnl]; exact hPl.out
 replace hnl := Lib.hid hnl
 have HD1 := Lib.hid (fun (W : World) (hW : Below y1.heap.size y1 W) => HD.out _ W (hpt.below hW))
 clear hn2 hpt
 go_upto_region 2 with fail
 generalize hb6 : w.heap.size + 1 + 1 = b6 at hL0 ⊢
 generalize hb5 : w.heap.size + 1 = b5 at hL0 ⊢
 generalize hb4 : w.heap.size = b4 at hL0 ⊢
 replace hb6 := Lib.hid hb6
 replace hb5 := Lib.hid hb5
 replace hb4 := Lib.hid hb4
 have hS : SS y1 [] := SS.nil y1
 refine region_tl 10 [EV (.agg #[.int .u64 ((zl x.num : Nat) : Int), .string (zh x.num), .bool (zs x.num), .int .u64 ((lo (fe x) : Nat) : Int), .string (hs (fe x))]), EV (.slice a2 n2 c2), EV (.int .i64 m), PV8 ((pws x N)), EV (.agg #[.int .u64 ((zl y.num : Nat) : Int), .string (zh y.num), .bool (zs y.num), .int .u64 ((lo (fe y) : Nat) : Int), .string (hs (fe y))]), EV (.slice a2 n2 c2), EV (.int .i64 m), PV8 ((pws y N)), PV8 ((pws x N)), PV8 ((pws y N))] (by kernel_rfl) (by kernel_rfl) ?_ ?_ ?_
 ·repeat' first | exact stays_nil | apply stays_cons | exact stays_eq _ | exact stays_slq8 _
 ·simp only [List.take_succ_cons, List.take_zero, hopsR, and_true]
  refine ⟨?_, ?_, ?_, ?_, ?_, ?_, ?_, ?_, ?_, ?_⟩ <;> intro fv w1 hb1 hp
  all_goals (have hc := (hL0.call (below_drew hb1)).fc; simp only [zF, Nat.reduceAdd] at hc; simp only [putsV, Act.put, zP, Nat.zero_add, Nat.reduceAdd])
  ·refine tyAt_none rfl ?_
   simp [tyUpon, execOp, go_sem, Act.eval, hc, Below.refl]
  ·refine tyAt_none rfl ?_
   simp [tyUpon, execOp, go_sem, Act.eval, Below.refl]
  ·have h1 : EV _ (fv 1) w1 := hp 1 (LC (by kernel_rfl))
   refine tyAt_none rfl ?_
   refine ty_call (f := 57) (args := #[.slice a2 n2 c2]) (by simp [execOp, go_sem, Act.eval, h1]) ?_
   exact (HD1.out w1 (below_drew hb1)).mono fun e w2 ⟨h1, h2⟩ => ⟨_, h1, rfl, h2⟩
  ·have h0 : EV _ (fv 0) w1 := hp 0 (LC (by kernel_rfl))
   have h2 : EV _ (fv 2) w1 := hp 2 (LC (by kernel_rfl))
   refine tyAt_none rfl ?_
   refine ty_call (f := 70) (args := #[.agg #[.int .u64 ((zl x.num : Nat) : Int), .string (zh x.num), .bool (zs x.num), .int .u64 ((lo (fe x) : Nat) : Int), .string (hs (fe x))], .int .i64 m]) (by simp [execOp, go_sem, Act.eval, h0, h2]) ?_
   exact (HX.out w1).mono fun e w2 ⟨pv, h1, h2, h3⟩ => ⟨pv, h1, h2, h3⟩
  ·refine tyAt_none rfl ?_
   simp [tyUpon, execOp, go_sem, Act.eval, hc, Below.refl]
  ·refine tyAt_none rfl ?_
   simp [tyUpon, execOp, go_sem, Act.eval, Below.refl]
  ·have h5 : EV _ (fv 5) w1 := hp 5 (LC (by kernel_rfl))
   refine tyAt_none rfl ?_
   refine ty_call (f := 57) (args := #[.slice a2 n2 c2]) (by simp [execOp, go_sem, Act.eval, h5]) ?_
   exact (HD1.out w1 (below_drew hb1)).mono fun e w2 ⟨h1, h2⟩ => ⟨_, h1, rfl, h2⟩
  ·have h4 : EV _ (fv 4) w1 := hp 4 (LC (by kernel_rfl))
   have h6 : EV _ (fv 6) w1 := hp 6 (LC (by kernel_rfl))
   refine tyAt_none rfl ?_
   refine ty_call (f := 70) (args := #[.agg #[.int .u64 ((zl y.num : Nat) : Int), .string (zh y.num), .bool (zs y.num), .int .u64 ((lo (fe y) : Nat) : Int), .string (hs (fe y))], .int .i64 m]) (by simp [execOp, go_sem, Act.eval, h4, h6]) ?_
   exact (HY.out w1).mono fun e w2 ⟨pv, h1, h2, h3⟩ => ⟨pv, h1, h2, h3⟩
  ·have h3 : (PV8 ((pws x N))) (fv 3) w1 := hp 3 (LC (by kernel_rfl))
   refine tyAt_none rfl ?_
   simp [tyUpon, execOp, go_sem, Act.eval, Below.refl]
   exact h3
  ·have h7 : (PV8 ((pws y N))) (fv 7) w1 := hp 7 (LC (by kernel_rfl))
   refine tyAt_none rfl ?_
   simp [tyUpon, execOp, go_sem, Act.eval, Below.refl]
   exact h7
 ·intro fv x51 hb1 hv
  have e0 : fv 0 = _ := hv 0 (by omega)
  have e1 : fv 1 = _ := hv 1 (by omega)
  have e2 : fv 2 = _ := hv 2 (by omega)
  have q3 : SlQ x51 (fv 3) ((pws x N)) := hv 3 (by omega)
  obtain ⟨g1, d1, g1c, e3⟩ := slq_form8 q3
  rw [e3] at q3
  have e4 : fv 4 = _ := hv 4 (by omega)
  have e5 : fv 5 = _ := hv 5 (by omega)
  have e6 : fv 6 = _ := hv 6 (by omega)
  have q7 : SlQ x51 (fv 7) ((pws y N)) := hv 7 (by omega)
  obtain ⟨g2, d2, g2c, e7⟩ := slq_form8 q7
  rw [e7] at q7
  have q8 : SlQ x51 (fv 8) ((pws x N)) := hv 8 (by omega)
  obtain ⟨g3, d3, g3c, e8⟩ := slq_form8 q8
  rw [e8] at q8
  have q9 : SlQ x51 (fv 9) ((pws y N)) := hv 9 (by omega)
  obtain ⟨g4, d4, g4c, e9⟩ := slq_form8 q9
  rw [e9] at q9
  simp only [List.take_succ_cons, List.take_zero, putsV, Act.put, zP, List.drop_succ_cons, List.drop_zero, Nat.zero_add, Nat.reduceAdd, e0, e1, e2, e3, e4, e5, e6, e7, e8, e9]
  replace hL0 := hL0.call (below_drew hb1)
  replace hS := hS.call (below_drew hb1)
  have hxs := Lib.hid q8
  have hys := Lib.hid q9
  have hbz := Lib.hid (below_drew hb1)
  clear e0 e1 e2 e3 e4 e5 e6 e7 e8 e9 hb1 hv q3 q7 q8 q9 fv
  obtain ⟨gx, rfl, hnx, hfx⟩ := slq_pos hxs.out (by rw [pws_len]; omega)
  obtain ⟨gy, rfl, hny, hfy⟩ := slq_pos hys.out (by rw [pws_len]; omega)
  rw [pws_len] at hnx hny
  have hbs : ∀ p ∈ ([(b6, [.int .u64 0, .string ⟨#[]⟩, .bool false, .int .u64 0, .string ⟨#[]⟩]), (b5, [.int .u64 ((zl y.num : Nat) : Int), .string (zh y.num), .bool (zs y.num), .int .u64 ((lo (fe y) : Nat) : Int), .string (hs (fe y))]), (b4, [.int .u64 ((zl x.num : Nat) : Int), .string (zh x.num), .bool (zs x.num), .int .u64 ((lo (fe x) : Nat) : Int), .string (hs (fe x))])] : List (Nat × List Value)), p.1 < x51.heap.size := fun p hp => (hL0.all p hp).2.lt
  have hwE : w.heap.size ≤ x51.heap.size := hL0.bl.size
  replace hbs := Lib.hid hbs
  replace hwE := Lib.hid hwE
  replace hfx := Lib.hid hfx
  replace hfy := Lib.hid hfy
  replace hnx := Lib.hid hnx
  replace hny := Lib.hid hny
  clear hxs hys
  go_wp2_with fail
  go_loopg [9, 24] n2 (fun gk sv iv wr => ∃ (k : Nat) (zi : Int) (vs : Value), k + gk = n2 ∧ vs = sv ∧ iv = .int .i64 zi ∧ zi = (k : Int) ∧ OwnF wr x51.heap.size vs k (VL.take k) ∧ Below x51.heap.size x51 wr ∧ GL w wr [(b6, [.int .u64 0, .string ⟨#[]⟩, .bool false, .int .u64 0, .string ⟨#[]⟩]), (b5, [.int .u64 ((zl y.num : Nat) : Int), .string (zh y.num), .bool (zs y.num), .int .u64 ((lo (fe y) : Nat) : Int), .string (hs (fe y))]), (b4, [.int .u64 ((zl x.num : Nat) : Int), .string (zh x.num), .bool (zs x.num), .int .u64 ((lo (fe x) : Nat) : Int), .string (hs (fe x))])])
  case atStart => exact ⟨0, 0, _, Nat.zero_add n2, rfl, by first | rfl | go_num, rfl, World.ownsRow_nil _ _ _ _, Below.refl _ _, hL0⟩
  case round =>
   clear hL0
   obtain ⟨k, zi, vs, hik, rfl, rfl, hzi, hown, hBz, hL0⟩ := hrel
   replace hBz := Lib.hid hBz
   replace hown := Lib.hid hown
   rcases Nat.lt_or_ge k n2 with hin | hin
   ·subst hzi
    have hkP : k < P.length := by rw [← hnl.out]; exact hin
    have hko : k < (ofL P).length := by rw [ofL_length]; exact hkP
    obtain ⟨g, rfl, hts⟩ := hpp.out (by omega)
    have hf := ((hts.below hbz.out).below hBz.out).cell k hko
    have k1 : (k : Int) < (n2 : Int) := by omega
    have k0 : (0 : Int) ≤ (k : Int) := Int.natCast_nonneg _
    obtain ⟨an, bn, q, hPk⟩ : ∃ a b q, P[k] = (a, b, q) := ⟨_, _, _, rfl⟩
    rw [ofL_get hkP hko hPk] at hf
    simp only at hf
    have hmem : (an, bn, q) ∈ P := by rw [← hPk]; exact List.getElem_mem hkP
    have hNN := hPN.out _ hmem
    simp only at hNN
    have hm1 := HM1.out _ hmem
    have hm2 := HM2.out _ hmem
    have hanl : an < (pws x N).length := by rw [pws_len]; have := hNN.1; omega
    have hbnl : bn < (pws y N).length := by rw [pws_len]; have := hNN.2; omega
    simp only at hm1 hm2
    obtain ⟨px, hpx⟩ : ∃ px, px = (pws x N)[an] := ⟨_, rfl⟩
    obtain ⟨py, hpy⟩ : ∃ py, py = (pws y N)[bn] := ⟨_, rfl⟩
    have e1 : x ^ an = px := by rw [hpx, pws_get]
    have e2 : y ^ bn = py := by rw [hpy, pws_get]
    obtain ⟨r, hr⟩ : ∃ r, r = q * (x ^ an * y ^ bn) := ⟨_, rfl⟩
    have htk : VL.take (k + 1) = VL.take k ++ [r] := by
     rw [hVL.out, ← List.map_take, ← List.map_take, List.take_succ_eq_append_getElem hkP, List.map_append, hPk, hr]; rfl
    rw [← hr] at hm2
    rw [e1, e2] at hm1 hm2
    obtain ⟨pxy, hpxy⟩ : ∃ pxy, pxy = px * py := ⟨_, rfl⟩
    rw [← hpxy] at hm1 hm2
    have k4 : ((an : Nat) : Int) < (d3 : Int) := by rw [hnx.out]; have := hNN.1; omega
    have k5 : an < d3 := by rw [hnx.out]; have := hNN.1; omega
    have k6 : ¬ ((an : Nat) : Int) < 0 := by omega
    have k7 : ((bn : Nat) : Int) < (d4 : Int) := by rw [hny.out]; have := hNN.2; omega
    have k8 : bn < d4 := by rw [hny.out]; have := hNN.2; omega
    have k9 : ¬ ((bn : Nat) : Int) < 0 := by omega
    replace HM1 := Lib.hid hm1
    replace HM2 := Lib.hid hm2
    replace hanl := Lib.hid hanl
    replace hbnl := Lib.hid hbnl
    replace hpx := Lib.hid hpx
    replace hpy := Lib.hid hpy
    replace hpxy := Lib.hid hpxy
    replace hr := Lib.hid hr
    replace htk := Lib.hid htk
    replace hPk := Lib.hid hPk
    replace hNN := Lib.hid hNN
    replace e1 := Lib.hid e1
    replace e2 := Lib.hid e2
    clear hts hm1 hm2
    obtain ⟨f0, f1, f2, f3, f4, f5, f6⟩ := hf
    replace hL0 := hL0.new rfl [.int .i64 (an : Int), .int .i64 (bn : Int), .int .u64 ((zl q.num : Nat) : Int), .string (zh q.num), .bool (zs q.num), .int .u64 ((lo (fe q) : Nat) : Int), .string (hs (fe q))] 80
    generalize hweq : wr.alloc (.cells #[.int .i64 (an : Int), .int .i64 (bn : Int), .int .u64 ((zl q.num : Nat) : Int), .string (zh q.num), .bool (zs q.num), .int .u64 ((lo (fe q) : Nat) : Int), .string (hs (fe q))] 80) = y3 at hL0
    have hb9 : Below wr.heap.size wr y3 := by rw [← hweq]; exact (Below.refl _ _).alloc (Nat.le_refl _) _
    have hown3 := Lib.hid (own_below hown.out hb9)
    have hBz3 := Lib.hid (hBz.out.trans (hb9.mono hBz.out.size))
    have hEw3 := Lib.hid (show x51.heap.size ≤ y3.heap.size from hBz3.out.size)
    have hfx2 := Lib.hid (hfx.out.below hBz3.out)
    have hfy2 := Lib.hid (hfy.out.below hBz3.out)
    clear hb9
    go_upto_region 7 with fail
    clear hweq f0 f1 f2 f3 f4 f5 f6 hown hBz
    generalize hb11 : wr.heap.size = b11 at hL0 ⊢
    replace hb11 := Lib.hid hb11
    have hS : SS y3 [] := SS.nil y3
    refine region_tl 16 [EV vs, EV (.pointer (some ⟨b11, 2, none⟩)), EV (.agg #[.int .u64 ((zl q.num : Nat) : Int), .string (zh q.num), .bool (zs q.num), .int .u64 ((lo (fe q) : Nat) : Int), .string (hs (fe q))]), EV (.slice (some ⟨gx, 0, none⟩) d3 g3c), EV (.pointer (some ⟨b11, 0, none⟩)), EV (.int .i64 (an : Int)), EV (.pointer (some ⟨gx, an * 5, none⟩)), EV (.agg #[.int .u64 ((zl px.num : Nat) : Int), .string (zh px.num), .bool (zs px.num), .int .u64 ((lo (fe px) : Nat) : Int), .string (hs (fe px))]), EV (.slice (some ⟨gy, 0, none⟩) d4 g4c), EV (.pointer (some ⟨b11, 1, none⟩)), EV (.int .i64 (bn : Int)), EV (.pointer (some ⟨gy, bn * 5, none⟩)), EV (.agg #[.int .u64 ((zl py.num : Nat) : Int), .string (zh py.num), .bool (zs py.num), .int .u64 ((lo (fe py) : Nat) : Int), .string (hs (fe py))]), EV (.agg #[.int .u64 ((zl pxy.num : Nat) : Int), .string (zh pxy.num), .bool (zs pxy.num), .int .u64 ((lo (fe pxy) : Nat) : Int), .string (hs (fe pxy))]), EV (.agg #[.int .u64 ((zl r.num : Nat) : Int), .string (zh r.num), .bool (zs r.num), .int .u64 ((lo (fe r) : Nat) : Int), .string (hs (fe r))]), NewS (y3.heap.size, [.int .u64 ((zl r.num : Nat) : Int), .string (zh r.num), .bool (zs r.num), .int .u64 ((lo (fe r) : Nat) : Int), .string (hs (fe r))], 1)] (by kernel_rfl) (by kernel_rfl) ?_ ?_ ?_
    ·repeat' first | exact stays_nil | apply stays_cons | exact stays_eq _ | exact stays_news _
    ·simp only [List.take_succ_cons, List.take_zero, hopsR, and_true]
     refine ⟨?_, ?_, ?_, ?_, ?_, ?_, ?_, ?_, ?_, ?_, ?_, ?_, ?_, ?_, ?_, ?_⟩ <;> intro fv w1 hb1 hp
     all_goals (have hc := (hL0.call (below_drew hb1)).fc; simp only [zF, Nat.reduceAdd] at hc; simp only [putsV, Act.put, zP, Nat.zero_add, Nat.reduceAdd])
     ·refine tyAt_none rfl ?_
      simp [tyUpon, execOp, go_sem, Act.eval, k4, k5, k6, k7, k8, k9, Below.refl]
     ·refine tyAt_none rfl ?_
      simp [tyUpon, execOp, go_sem, Act.eval, k4, k5, k6, k7, k8, k9, Below.refl]
     ·have h1 : EV _ (fv 1) w1 := hp 1 (LC (by kernel_rfl))
      refine tyAt_none rfl ?_
      simp [tyUpon, execOp, go_sem, Act.eval, hc, h1, k4, k5, k6, k7, k8, k9, Below.refl]
     ·refine tyAt_none rfl ?_
      simp [tyUpon, execOp, go_sem, Act.eval, k4, k5, k6, k7, k8, k9, Below.refl]
     ·refine tyAt_none rfl ?_
      simp [tyUpon, execOp, go_sem, Act.eval, k4, k5, k6, k7, k8, k9, Below.refl]
     ·have h4 : EV _ (fv 4) w1 := hp 4 (LC (by kernel_rfl))
      refine tyAt_none rfl ?_
      simp [tyUpon, execOp, go_sem, Act.eval, hc, h4, k4, k5, k6, k7, k8, k9, Below.refl]
     ·have h3 : EV _ (fv 3) w1 := hp 3 (LC (by kernel_rfl))
      have h5 : EV _ (fv 5) w1 := hp 5 (LC (by kernel_rfl))
      refine tyAt_none rfl ?_
      simp [tyUpon, execOp, go_sem, Act.eval, h3, h5, k4, k5, k6, k7, k8, k9, Below.refl]
     ·have h6 : EV _ (fv 6) w1 := hp 6 (LC (by kernel_rfl))
      refine tyAt_none rfl ?_
      have hx := (hfx2.out.below (below_drew hb1)).cell an hanl.out
      rw [← hpx.out] at hx
      have hy := (hfy2.out.below (below_drew hb1)).cell bn hbnl.out
      rw [← hpy.out] at hy
      simp [tyUpon, execOp, go_sem, Act.eval, hc, h6, k4, k5, k6, k7, k8, k9, hx, hy, Below.refl]
     ·refine tyAt_none rfl ?_
      simp [tyUpon, execOp, go_sem, Act.eval, k4, k5, k6, k7, k8, k9, Below.refl]
     ·refine tyAt_none rfl ?_
      simp [tyUpon, execOp, go_sem, Act.eval, k4, k5, k6, k7, k8, k9, Below.refl]
     ·have h9 : EV _ (fv 9) w1 := hp 9 (LC (by kernel_rfl))
      refine tyAt_none rfl ?_
      simp [tyUpon, execOp, go_sem, Act.eval, hc, h9, k4, k5, k6, k7, k8, k9, Below.refl]
     ·have h8 : EV _ (fv 8) w1 := hp 8 (LC (by kernel_rfl))
      have h10 : EV _ (fv 10) w1 := hp 10 (LC (by kernel_rfl))
      refine tyAt_none rfl ?_
      simp [tyUpon, execOp, go_sem, Act.eval, h8, h10, k4, k5, k6, k7, k8, k9, Below.refl]
     ·have h11 : EV _ (fv 11) w1 := hp 11 (LC (by kernel_rfl))
      refine tyAt_none rfl ?_
      have hx := (hfx2.out.below (below_drew hb1)).cell an hanl.out
      rw [← hpx.out] at hx
      have hy := (hfy2.out.below (below_drew hb1)).cell bn hbnl.out
      rw [← hpy.out] at hy
      simp [tyUpon, execOp, go_sem, Act.eval, hc, h11, k4, k5, k6, k7, k8, k9, hx, hy, Below.refl]
     ·have h7 : EV _ (fv 7) w1 := hp 7 (LC (by kernel_rfl))
      have h12 : EV _ (fv 12) w1 := hp 12 (LC (by kernel_rfl))
      refine tyAt_none rfl ?_
      refine ty_call (f := 24) (args := #[.agg #[.int .u64 ((zl px.num : Nat) : Int), .string (zh px.num), .bool (zs px.num), .int .u64 ((lo (fe px) : Nat) : Int), .string (hs (fe px))], .agg #[.int .u64 ((zl py.num : Nat) : Int), .string (zh py.num), .bool (zs py.num), .int .u64 ((lo (fe py) : Nat) : Int), .string (hs (fe py))]]) (by simp [execOp, go_sem, Act.eval, h7, h12]) ?_
      exact (HM1.out w1).mono fun e w2 ⟨h1, h2⟩ => ⟨_, h1, rfl, h2⟩
     ·have h2 : EV _ (fv 2) w1 := hp 2 (LC (by kernel_rfl))
      have h13 : EV _ (fv 13) w1 := hp 13 (LC (by kernel_rfl))
      refine tyAt_none rfl ?_
      refine ty_call (f := 24) (args := #[.agg #[.int .u64 ((zl q.num : Nat) : Int), .string (zh q.num), .bool (zs q.num), .int .u64 ((lo (fe q) : Nat) : Int), .string (hs (fe q))], .agg #[.int .u64 ((zl pxy.num : Nat) : Int), .string (zh pxy.num), .bool (zs pxy.num), .int .u64 ((lo (fe pxy) : Nat) : Int), .string (hs (fe pxy))]]) (by simp [execOp, go_sem, Act.eval, h2, h13]) ?_
      exact (HM2.out w1).mono fun e w2 ⟨h1, h2⟩ => ⟨_, h1, rfl, h2⟩
     ·have h14 : EV _ (fv 14) w1 := hp 14 (LC (by kernel_rfl))
      refine tyAt_none rfl ?_
      refine ty_val8 (u := .slice (some ⟨w1.heap.size, 0, none⟩) 1 1) (w' := w1.alloc (.cells #[.int .u64 ((zl r.num : Nat) : Int), .string (zh r.num), .bool (zs r.num), .int .u64 ((lo (fe r) : Nat) : Int), .string (hs (fe r))] 38)) (by simp [execOp, go_sem, Act.eval, h14]) ((Below.refl _ _).alloc (Nat.le_refl _) _) (news_mk (below_drew hb1).size)
    ·intro fv x61 hb1 hv
     have e0 : fv 0 = _ := hv 0 (by omega)
     have e1 : fv 1 = _ := hv 1 (by omega)
     have e2 : fv 2 = _ := hv 2 (by omega)
     have e3 : fv 3 = _ := hv 3 (by omega)
     have e4 : fv 4 = _ := hv 4 (by omega)
     have e5 : fv 5 = _ := hv 5 (by omega)
     have e6 : fv 6 = _ := hv 6 (by omega)
     have e7 : fv 7 = _ := hv 7 (by omega)
     have e8 : fv 8 = _ := hv 8 (by omega)
     have e9 : fv 9 = _ := hv 9 (by omega)
     have e10 : fv 10 = _ := hv 10 (by omega)
     have e11 : fv 11 = _ := hv 11 (by omega)
     have e12 : fv 12 = _ := hv 12 (by omega)
     have e13 : fv 13 = _ := hv 13 (by omega)
     have e14 : fv 14 = _ := hv 14 (by omega)
     have q15 : NewS ((y3.heap.size, [.int .u64 ((zl r.num : Nat) : Int), .string (zh r.num), .bool (zs r.num), .int .u64 ((lo (fe r) : Nat) : Int), .string (hs (fe r))], 1)) (fv 15) x61 := hv 15 (by omega)
     obtain ⟨g1, e15, ng1, mg1⟩ := news_parts q15
     rw [e15] at q15
     simp only [List.take_succ_cons, List.take_zero, putsV, Act.put, zP, List.drop_succ_cons, List.drop_zero, Nat.zero_add, Nat.reduceAdd, e0, e1, e2, e3, e4, e5, e6, e7, e8, e9, e10, e11, e12, e13, e14, e15]
     replace hL0 := hL0.call (below_drew hb1)
     replace hS := hS.call (below_drew hb1)
     have hown7 := Lib.hid (own_below hown3.out (below_drew hb1))
     have hEw7 := Lib.hid (Nat.le_trans hEw3.out (below_drew hb1).size)
     have hBz7 := Lib.hid (hBz3.out.trans ((below_drew hb1).mono hBz3.out.size))
     clear e0 e1 e2 e3 e4 e5 e6 e7 e8 e9 e10 e11 e12 e13 e14 e15 hb1 hv q15 fv
     have hH := Lib.hid mg1
     go_wp2_with (at_builtin; refine wp_appendF rfl _ _ rfl x51.heap.size _ _ _ rfl hown7.out _ r rfl hH.out (by omega) hEw7.out ?_)
     intro v' w8 hown8 hgrow
     rw [← htk.out] at hown8
     have hL8 := gl_grown (hL0.weak (List.Sublist.cons _ (List.Sublist.refl _))) hgrow (fun z hz => ⟨Nat.le_trans hwE.out (hown7.out.lt z hz).1, fun p hp => Nat.ne_of_lt (Nat.lt_of_lt_of_le (hbs.out p hp) (hown7.out.lt z hz).1)⟩)
     have hBz8 := Lib.hid (hBz7.out.grown hgrow hBz7.out.size (fun z hz => (hown7.out.lt z hz).1))
     replace hown8 := Lib.hid hown8
     clear hgrow hown7 hEw7 hL0 hH hBz7
     go_wp2_with fail
     go_roundg (n2 - (k + 1))
     case measure => omega
     case rel => exact ⟨k + 1, _, _, by omega, rfl, by first | rfl | go_num, by omega, hown8.out, hBz8.out, hL8⟩
   ·obtain rfl : k = n2 := by omega
    subst hzi
    have k1 : ¬ (k : Int) < (k : Int) := by omega
    have hvl : VL.length = k := by rw [hVL.out, List.length_map, hnl.out]
    have hsl := own_slq hown.out (by rw [List.length_take, hvl]; omega)
    rw [List.take_of_length_le (Nat.le_of_eq hvl)] at hsl
    replace hsl := Lib.hid hsl
    go_wp2_with fail
    with_reducible refine Calls.mono (HSm.out _ _ hsl.out) ?_
    rintro e y9 ⟨rfl, hb⟩
    replace hL0 := hL0.call hb
    clear hb
    have hA := hL0.fc
    simp only [zF, Nat.reduceAdd] at hA
    have hPt := hL0.put 0 b6 _ rfl [.int .u64 ((zl s.num : Nat) : Int), .string (zh s.num), .bool (zs s.num), .int .u64 ((lo (fe s) : Nat) : Int), .string (hs (fe s))] rfl
    simp only [setAll, List.set_cons_zero, List.set_cons_succ] at hPt
    generalize hput1 : (((((y9.setCell ⟨b6, 0, none⟩ (.int .u64 ((zl s.num : Nat) : Int))).setCell ⟨b6, 1, none⟩ (.string (zh s.num))).setCell ⟨b6, 2, none⟩ (.bool (zs s.num))).setCell ⟨b6, 3, none⟩ (.int .u64 ((lo (fe s) : Nat) : Int))).setCell ⟨b6, 4, none⟩ (.string (hs (fe s)))) = y10 at hPt
    have hB1 := hPt.fc
    simp only [zF, Nat.reduceAdd] at hB1
    go_wp2_with fail
    exact bodyPost_ret (v := fracV s) (by simp [results, Tryz.results28, go_sem, hB1]) rfl ⟨rfl, hPt.bl⟩
end Go.Proofs.YtkdbhacimoaohaaGreatDoor
namespace Go.Proofs.YtkdbhacimoaohaaGreatDoor
open Go.RowKit
attribute [local irreducible] lo hs sm s64 c64 d64 b64 mh ml pd pc qd qc val hiB str cmpI srD lz nb zl zh zs fe klT ordZ
def powN (p : TL) : Nat → TL
 | 0 => conN 1
 | k + 1 => mulN (powN p k) p
theorem GP.pow {p : TL} {d K : Nat} (h : GP p d K) : ∀ k, GP (powN p k) (k * d) (k * K + 1)
 | 0 => (GP.con (sz_i8 (i := 1) (by omega) (by omega))).mono (by omega) (by omega)
 | k + 1 => ((h.pow k).mul h).mono (by rw [Nat.succ_mul]; exact Nat.le_refl _) (by rw [Nat.succ_mul]; omega)
section
variable {p q : TL} {d K e M : Nat}
end
end Go.Proofs.YtkdbhacimoaohaaGreatDoor
namespace Go.Proofs.YtkdbhacimoaohaaGreatDoor
open Go.RowKit
attribute [local irreducible] lo hs sm s64 c64 d64 b64 mh ml pd pc qd qc val hiB str cmpI srD lz nb zl zh zs fe klT ordZ
theorem qsum_at (p : TL) (x y : Rat) : qsum (p.map fun t => t.2.2 * (x ^ t.1 * y ^ t.2.1)) = atL p x y := by
 unfold atL
 induction p with
 | nil => rfl
 | cons t p ih =>
  rw [List.map_cons, pair, ← ih]
  unfold qsum
  rw [List.foldl_cons, qsum_fold, Rat.zero_add]
  rfl
theorem sumG (qs : List Rat) (k : Nat) (hk : k ≤ 5000) (hl : qs.length ≤ 1000) (hs : ∀ q ∈ qs, Sz q k) (v : Value) (w : World) (h : SlQ w v qs) :
  Calls Tryz.prog 14 #[v] w fun xe w' => xe = .returned (fracV (qsum qs)) ∧ Below w.heap.size w w' := by
 obtain ⟨ao, n, c, rfl⟩ := slq_form8 h
 have hp := slq_parts' h (by omega)
 refine sum_w ao n c qs hp.2.2 (fun w0 t hn w hG => each_add w0 t ao n c qs 0 rfl hn (fun q a i ha hq w hG => total_add w0 t q a (q + a) (fun w => addF q a 9000000 ?_ ((hs a ha).mono (by omega)) (by omega) w) w hG) w hG) w hp
 rw [hq]
 have hz := qsum_sz (qs.take i) 1 0 (sz_0 (by omega)) (fun q hq => hs q (List.mem_of_mem_take hq))
 refine hz.mono ?_
 rw [List.length_take]
 have h1 : min i qs.length * (k + 1) ≤ 1000 * 5001 := Nat.mul_le_mul (by omega) (by omega)
 omega
theorem pwsG (x : Rat) (k : Nat) (hx : Sz x k) (hk : k ≤ 1000) (m : Int) (N : Nat) (hm : m = (N : Int) ∨ (m = -1 ∧ N = 0)) (hN : N ≤ 12) (w : World) :
  Calls Tryz.prog 70 #[fracV x, .int .i64 m] w fun xe w' => ∃ v, xe = .returned v ∧ SlQ w' v (pws x N) ∧ Below w.heap.size w w' :=
 ppows_w x 1 m N rfl hm (by omega) int1 (fun i hi w => by
  have h1 := hx.pow i
  have h2 : k * i ≤ 1000 * 12 := Nat.mul_le_mul hk (by omega)
  have := mulF (x ^ i) x 20000 (h1.mono (by omega)) (hx.mono (by omega)) (by omega) w
  rwa [← Rat.pow_succ] at this) w
section
variable {p : TL} {d K : Nat}
theorem atG (h : GP p d K) (hd : d ≤ 12) (hK : K ≤ 2000) {x y : Rat} {k : Nat} (hx : Sz x k) (hy : Sz y k) (hk : k ≤ 100) (w : World) (v : Value) (hv : PT w v (ofL p)) :
  Calls Tryz.prog 28 #[v, fracV x, fracV y] w fun xe w' => xe = .returned (fracV (atL p x y)) ∧ Below w.heap.size w w' := by
 obtain ⟨ao, n, c, rfl, -⟩ := pt_form hv
 have hl := h.len hd
 have h1 := degI_le h.tb
 have h2 := degI_ge p
 have hN : ∀ t ∈ p, t.1 ≤ (degI p).toNat ∧ t.2.1 ≤ (degI p).toNat := fun t ht => by
  have := degI_top h.nf t ht
  omega
 have sx : ∀ i, i ≤ 12 → Sz (x ^ i) 1201 := fun i hi => (hx.pow i).mono (by have : k * i ≤ 100 * 12 := Nat.mul_le_mul hk hi; omega)
 have sy : ∀ i, i ≤ 12 → Sz (y ^ i) 1201 := fun i hi => (hy.pow i).mono (by have : k * i ≤ 100 * 12 := Nat.mul_le_mul hk hi; omega)
 have hb : ∀ t ∈ p, t.1 ≤ 12 ∧ t.2.1 ≤ 12 := fun t ht => by have := h.tb t ht; omega
 rw [← qsum_at]
 exact pat_w (ofL p) p x y _ (degI p) (degI p).toNat ao n c (by omega) hN (fun w hq => normG h hd (by omega) w _ hq) (fun v w hv => degG h hd (by omega) w v hv) (fun w => pwsG x k hx (by omega) _ _ (by omega) (by omega) w) (fun w => pwsG y k hy (by omega) _ _ (by omega) (by omega) w)
  (fun t ht w => mulF _ _ 1201 (sx _ (hb t ht).1) (sy _ (hb t ht).2) (by omega) w)
  (fun t ht w => mulF _ _ 2402 ((h.sz.mem ht).mono (by omega)) ((sx _ (hb t ht).1).mul (sy _ (hb t ht).2)) (by omega) w)
  (fun v w hv => sumG _ 4402 (by omega) (by rw [List.length_map]; omega) (fun q hq => by
   obtain ⟨t, ht, rfl⟩ := List.mem_map.1 hq
   exact ((h.sz.mem ht).mul ((sx _ (hb t ht).1).mul (sy _ (hb t ht).2))).mono (by omega)) v w hv) w hv
end
end Go.Proofs.YtkdbhacimoaohaaGreatDoor
namespace Go.Proofs.YtkdbhacimoaohaaGreatDoor
open Go.RowKit
attribute [local irreducible] lo hs sm s64 c64 d64 b64 mh ml pd pc qd qc val hiB str cmpI srD lz nb zl zh zs fe klT ordZ Bs
theorem at_sz {p : TL} {d K k : Nat} {x y : Rat} (h : GP p d K) (hd : d ≤ 12) (hK : K ≤ 2000) (hx : Sz x k) (hy : Sz y k) (hk : k ≤ 100) : Sz (atL p x y) 1000000 := by
 rw [← qsum_at]
 have sx : ∀ i, i ≤ 12 → Sz (x ^ i) 1201 := fun i hi => (hx.pow i).mono (by have : k * i ≤ 100 * 12 := Nat.mul_le_mul hk hi; omega)
 have sy : ∀ i, i ≤ 12 → Sz (y ^ i) 1201 := fun i hi => (hy.pow i).mono (by have : k * i ≤ 100 * 12 := Nat.mul_le_mul hk hi; omega)
 have hb : ∀ t ∈ p, t.1 ≤ 12 ∧ t.2.1 ≤ 12 := fun t ht => by have := h.tb t ht; omega
 have hz := qsum_sz (k := 4402) (p.map fun t => t.2.2 * (x ^ t.1 * y ^ t.2.1)) 1 0 (sz_0 (by omega)) (fun q hq => by
  obtain ⟨t, ht, rfl⟩ := List.mem_map.1 hq
  exact ((h.sz.mem ht).mul ((sx _ (hb t ht).1).mul (sy _ (hb t ht).2))).mono (by omega))
 refine hz.mono ?_
 rw [List.length_map]
 have h1 : p.length * (4402 + 1) ≤ 169 * 4403 := Nat.mul_le_mul_right _ (h.len hd)
 omega
end Go.Proofs.YtkdbhacimoaohaaGreatDoor
namespace Go.Proofs.YtkdbhacimoaohaaGreatDoor
theorem seg_cut (q : TL) (s : Rat) : s * pair (subL q (linL s 0 0) yL) segF + (1 - s) * pair (subL q (linL (1 - s) 0 s) yL) segF = pair q segF := by
 rw [seg_sub, seg_sub, seg_int, show s + 0 = s by grind, show 1 - s + s = 1 by grind]; grind
def cutP (a b : Pt) (s : Rat) : Pt := ⟨a.x + s * (b.x - a.x), a.y + s * (b.y - a.y)⟩
theorem segV_cut (p : TL) (a b : Pt) (s : Rat) : s * segV p a (cutP a b s) + (1 - s) * segV p (cutP a b s) b = segV p a b := by
 unfold segV
 rw [← seg_cut (segL' p a b) s]
 unfold segL' cutP
 rw [sub_lin p _ _ _ _ _ _ _ _ _ _ _ _ segF, sub_lin p _ _ _ _ _ _ _ _ _ _ _ _ segF]
 congr 2
 ·refine sub_same p ?_ ?_ ?_ ?_ ?_ ?_ segF <;> grind
 ·refine sub_same p ?_ ?_ ?_ ?_ ?_ ?_ segF <;> grind
theorem segV_ftc (p : TL) (a b : Pt) : segV (scaleL (b.x - a.x) (dxL p) ++ scaleL (b.y - a.y) (dyL p)) a b = atL p b.x b.y - atL p a.x a.y := by
 have h := seg_ftc (segL' p a b)
 unfold segL' at h
 rw [chain_x p _ _ _ _ _ _ segF, at_sub, at_sub, at_lin, at_lin, at_lin, at_lin, pair_append, pair_scale, pair_scale] at h
 unfold segV segL'
 rw [show (b.x - a.x) * 1 + 0 * 1 + a.x = b.x by grind, show (b.y - a.y) * 1 + 0 * 1 + a.y = b.y by grind, show (b.x - a.x) * 0 + 0 * 1 + a.x = a.x by grind, show (b.y - a.y) * 0 + 0 * 1 + a.y = a.y by grind] at h
 rw [← h, pair_sub, pair_append, pair_scale, pair_scale, pair_sub, pair_sub]
theorem segV_eqv {p q : TL} (h : Eqv p q) (a b : Pt) : segV p a b = segV q a b := sub_eqv h _ _ segF
theorem sub_con (p : TL) (c d : Rat) (F : Nat → Nat → Rat) : pair (subL p [(0, 0, c)] [(0, 0, d)]) F = atL p c d * F 0 0 := by
 rw [pair_sub]
 unfold atL
 have h : ∀ i j, pair (mono [(0, 0, c)] [(0, 0, d)] i j) F = F 0 0 * (c ^ i * d ^ j) := fun i j => by
  have := prod_eqv (powL_con c i) (powL_con d j) F
  refine Eq.trans this ?_
  simp only [prodL, timesL, List.map_cons, List.map_nil, List.append_nil, pair, Nat.add_zero]; grind
 rw [show (fun i j => pair (mono [(0, 0, c)] [(0, 0, d)] i j) F) = fun i j => F 0 0 * (c ^ i * d ^ j) from funext fun i => funext fun j => h i j, pair_mul]
 grind
theorem segV_point (p : TL) (a : Pt) : segV p a a = atL p a.x a.y := by
 unfold segV segL'
 rw [sub_eqv2 p (u' := [(0, 0, a.x)]) (v' := [(0, 0, a.y)]) (fun F => by simp only [linL, pair]; grind) (fun F => by simp only [linL, pair]; grind) segF, sub_con]
 show _ * (1 / (((0 + 1 : Nat)) : Rat)) = _
 rw [show ((((0 + 1 : Nat)) : Nat) : Rat) = 1 from rfl]; grind
theorem flow_back (p q : TL) (a b : Pt) : flowV p q b a = -flowV p q a b := by unfold flowV; rw [segV_back p, segV_back q]; grind
theorem flow_cut (p q : TL) (a b : Pt) (s : Rat) : flowV p q a b = flowV p q a (cutP a b s) + flowV p q (cutP a b s) b := by
 have h1 := segV_cut p a b s
 have h2 := segV_cut q a b s
 unfold flowV
 rw [← h1, ← h2]
 simp only [cutP]
 grind
end Go.Proofs.YtkdbhacimoaohaaGreatDoor
namespace Go.Proofs.YtkdbhacimoaohaaGreatDoor
open Go.RowKit
attribute [local irreducible] lo hs sm s64 c64 d64 b64 mh ml pd pc qd qc val hiB str cmpI srD lz nb zl zh zs fe klT ordZ Bs
section
variable {p q : TL} {d K e : Nat}
theorem flow_sz {k M D : Nat} (f : Fit D (2 * k + 1) K d M) (g : Fit D (2 * k + 1) e d M) (h : GP p d K) (h2 : GP q d e) {a b : Pt} (ha : PS a k) (hb : PS b k) : Sz (flowV p q a b) (339 * (M + 62)) := by
 have u := ha.way hb
 have hk := f.u20
 exact ((u.y.mul (seg_sz f h ha hb)).sub (u.x.mul (seg_sz g h2 ha hb))).mono (by omega)
end
end Go.Proofs.YtkdbhacimoaohaaGreatDoor
namespace Go.Proofs.YtkdbhacimoaohaaGreatDoor
open Go.RowKit
attribute [local irreducible] lo hs sm s64 c64 d64 b64 mh ml pd pc qd qc val hiB str cmpI srD lz nb zl zh zs fe klT ordZ Bs
theorem scaleN_eqv9 (c : Rat) (p : TL) : Eqv (scaleN c p) (scaleL c p) := nfL_eqv _
end Go.Proofs.YtkdbhacimoaohaaGreatDoor
namespace Go.Proofs.YtkdbhacimoaohaaGreatDoor
open Go.ChangeShapes Go.WideShapes Go.ChangeAt Go.RowKit Go.Joins
theorem q_of {H : Type} {enc : TypeId × Value → H} {W : World} {base : Nat} {v : Value} {d : DataW H} {p : List MemPlace} (hv : Value.okWide Tryz.prog W .any base 25 v)
  (h : DataW.Trod enc Tryz.prog W 0 (fun _ => true) true 25 v d p) : ∃ n e : Int, v = .agg #[.int .i64 n, .int .u32 e] ∧ (-9223372036854775808 ≤ n ∧ n < 9223372036854775808) ∧ (0 ≤ e ∧ e < 4294967296) := by
 obtain ⟨v0, v1, y0, y1, m, rfl, rfl, rfl, h0, h1⟩ := open_agg2 Tryz.underlying25 (by kernel_rfl) cellsQ hv h
 obtain ⟨n, e0, -, f0⟩ := DataW.trod_int Tryz.underlying2 h0
 obtain ⟨e, e1, -, f1⟩ := DataW.trod_int Tryz.underlying23 h1
 simp only [List.cons.injEq, and_true] at e0 e1
 subst e0 e1
 have b0 := bounds_i64 f0
 have b1 := bounds_u32 f1
 exact ⟨n, e, rfl, by omega, by omega⟩
end Go.Proofs.YtkdbhacimoaohaaGreatDoor
namespace Go.Proofs.YtkdbhacimoaohaaGreatDoor
open Go.ChangeShapes Go.WideShapes Go.ChangeAt Go.RowKit Go.Joins
section
variable {H : Type} {enc : TypeId × Value → H} {P : Program} {w : World} {base : Nat} {spare : Nat → Bool} {held : Bool}
theorem trodAll_five {t t1 t2 t3 t4 : TypeId} {args : Array Value} {ds : List (DataW H)} {ps : List MemPlace} (h : DataW.TrodAll enc P w base spare held [t, t1, t2, t3, t4] args.toList ds ps) :
  ∃ v v1 v2 v3 v4 d d1 d2 d3 d4 p p1 p2 p3 p4, args = #[v, v1, v2, v3, v4] ∧ ds = [d, d1, d2, d3, d4] ∧ ps = p ++ p1 ++ p2 ++ p3 ++ p4 ∧ DataW.Trod enc P w base spare held t v d p ∧ DataW.Trod enc P w base spare held t1 v1 d1 p1 ∧ DataW.Trod enc P w base spare held t2 v2 d2 p2 ∧ DataW.Trod enc P w base spare held t3 v3 d3 p3 ∧ DataW.Trod enc P w base spare held t4 v4 d4 p4 := by
 obtain ⟨v, vs, d, ds1, p, q, hargs, rfl, rfl, hd, hr⟩ := trodAll_cons h
 obtain ⟨v1, vs1, d1, ds2, p1, q1, rfl, rfl, rfl, hd1, hr1⟩ := trodAll_cons hr
 obtain ⟨v2, vs2, d2, ds3, p2, q2, rfl, rfl, rfl, hd2, hr2⟩ := trodAll_cons hr1
 obtain ⟨v3, vs3, d3, ds4, p3, q3, rfl, rfl, rfl, hd3, hr3⟩ := trodAll_cons hr2
 obtain ⟨v4, vs4, d4, ds5, p4, q4, rfl, rfl, rfl, hd4, hr4⟩ := trodAll_cons hr3
 obtain ⟨rfl, rfl, rfl⟩ := trodAll_nil hr4
 exact ⟨v, v1, v2, v3, v4, d, d1, d2, d3, d4, p, p1, p2, p3, p4, by cases args; simp_all, rfl, by simp, hd, hd1, hd2, hd3, hd4⟩
end
end Go.Proofs.YtkdbhacimoaohaaGreatDoor
namespace Go.Proofs.YtkdbhacimoaohaaGreatDoor
open Go.RowKit
attribute [local irreducible] lo hs sm s64 c64 d64 b64 mh ml pd pc qd qc val hiB str cmpI srD lz nb zl zh zs fe klT ordZ
theorem iways_l1 (al am : Option Addr) (nl cl nm cm : Nat) (iun iud ium iue ivn ivd ivm ive isn isd : Int) (KT : World → Prop) (hKT : Keeps KT) (HW : ∀ w, KT w → Calls Tryz.prog 7 #[] w fun xe w' => xe = .returned (.bool true) ∧ Below w.heap.size w w') (l_nl : decide ((8 : Int) < ((nl : Nat) : Int)) = true) (k_nl : decide (8 < nl) = true) (w : World) (kKT : KT w) :
  Calls Tryz.prog 5 #[.slice al nl cl, .slice am nm cm, .agg #[.int .i64 iun, .int .u32 iud, .int .i64 ium, .int .u32 iue], .agg #[.int .i64 ivn, .int .u32 ivd, .int .i64 ivm, .int .u32 ive], .agg #[.int .i64 isn, .int .u32 isd]] w fun e w' => e = .returned (.bool true) ∧ Below w.heap.size w w' := by
 replace hKT := Lib.hid hKT
 replace HW := Lib.hid HW
 have hL0 : GL w w [] := GL.start w
 have hT : PTs w [] := PTs.nil w
 replace hT := (((hT.new (.cells #[.int .i64 iun, .int .u32 iud, .int .i64 ium, .int .u32 iue] 27)).new (.cells #[.int .i64 ivn, .int .u32 ivd, .int .i64 ivm, .int .u32 ive] 27)).new (.cells #[.int .i64 isn, .int .u32 isd] 25))
 replace hL0 := (((hL0.new rfl [.int .i64 iun, .int .u32 iud, .int .i64 ium, .int .u32 iue] 27).new (K := w.heap.size + 1) (szA _ _) [.int .i64 ivn, .int .u32 ivd, .int .i64 ivm, .int .u32 ive] 27).new (K := w.heap.size + 1 + 1) (by simp only [World.size_alloc]) [.int .i64 isn, .int .u32 isd] 25)
 generalize hweq : (((w.alloc (.cells #[.int .i64 iun, .int .u32 iud, .int .i64 ium, .int .u32 iue] 27)).alloc (.cells #[.int .i64 ivn, .int .u32 ivd, .int .i64 ivm, .int .u32 ive] 27)).alloc (.cells #[.int .i64 isn, .int .u32 isd] 25)) = x1 at hL0 hT
 go_enter Tryz.func5, Tryz.ntmps5
 go_wp2_with fail
 with_reducible refine Calls.mono (HW.out _ (hKT.out.at hL0.bl kKT)) ?_
 rintro e x2 ⟨rfl, hb⟩
 replace hL0 := hL0.call hb
 replace hT := hT.call hb
 clear hb hweq
 go_wp2_with fail
 exact bodyPost_ret (v := .bool true) (by simp [results, Tryz.results5, go_sem]) rfl ⟨rfl, hL0.bl⟩
theorem iways_l2 (al am : Option Addr) (nl cl nm cm : Nat) (iun iud ium iue ivn ivd ivm ive isn isd : Int) (KT : World → Prop) (hKT : Keeps KT) (HW : ∀ w, KT w → Calls Tryz.prog 7 #[] w fun xe w' => xe = .returned (.bool true) ∧ Below w.heap.size w w') (l_nl : decide ((8 : Int) < ((nl : Nat) : Int)) = false) (k_nl : decide (8 < nl) = false) (l_nm : decide ((8 : Int) < ((nm : Nat) : Int)) = true) (k_nm : decide (8 < nm) = true) (w : World) (kKT : KT w) :
  Calls Tryz.prog 5 #[.slice al nl cl, .slice am nm cm, .agg #[.int .i64 iun, .int .u32 iud, .int .i64 ium, .int .u32 iue], .agg #[.int .i64 ivn, .int .u32 ivd, .int .i64 ivm, .int .u32 ive], .agg #[.int .i64 isn, .int .u32 isd]] w fun e w' => e = .returned (.bool true) ∧ Below w.heap.size w w' := by
 replace hKT := Lib.hid hKT
 replace HW := Lib.hid HW
 have hL0 : GL w w [] := GL.start w
 have hT : PTs w [] := PTs.nil w
 replace hT := (((hT.new (.cells #[.int .i64 iun, .int .u32 iud, .int .i64 ium, .int .u32 iue] 27)).new (.cells #[.int .i64 ivn, .int .u32 ivd, .int .i64 ivm, .int .u32 ive] 27)).new (.cells #[.int .i64 isn, .int .u32 isd] 25))
 replace hL0 := (((hL0.new rfl [.int .i64 iun, .int .u32 iud, .int .i64 ium, .int .u32 iue] 27).new (K := w.heap.size + 1) (szA _ _) [.int .i64 ivn, .int .u32 ivd, .int .i64 ivm, .int .u32 ive] 27).new (K := w.heap.size + 1 + 1) (by simp only [World.size_alloc]) [.int .i64 isn, .int .u32 isd] 25)
 generalize hweq : (((w.alloc (.cells #[.int .i64 iun, .int .u32 iud, .int .i64 ium, .int .u32 iue] 27)).alloc (.cells #[.int .i64 ivn, .int .u32 ivd, .int .i64 ivm, .int .u32 ive] 27)).alloc (.cells #[.int .i64 isn, .int .u32 isd] 25)) = x1 at hL0 hT
 go_enter Tryz.func5, Tryz.ntmps5
 go_wp2_with fail
 with_reducible refine Calls.mono (HW.out _ (hKT.out.at hL0.bl kKT)) ?_
 rintro e x2 ⟨rfl, hb⟩
 replace hL0 := hL0.call hb
 replace hT := hT.call hb
 clear hb hweq
 go_wp2_with fail
 exact bodyPost_ret (v := .bool true) (by simp [results, Tryz.results5, go_sem]) rfl ⟨rfl, hL0.bl⟩
theorem iways_w (al am : Option Addr) (nl cl nm cm : Nat) (iun iud ium iue ivn ivd ivm ive isn isd : Int) (pa pb pxa pya sca scb pg : List TI) (ux uy vx vy cx cy sq ex ey aw ma mb sga sgb mc md on rs df va ua fl fn fa fb : Rat) (KL : World → Prop) (hKL : Keeps KL) (HMa : ∀ (w : World), KL w → Calls Tryz.prog 8 #[.slice al nl cl, .int .i64 6] w fun e w' => ∃ pv, e = .returned pv ∧ PT w' pv pa ∧ Below w.heap.size w w') (KM : World → Prop) (hKM : Keeps KM) (HMb : ∀ (w : World), KM w → Calls Tryz.prog 8 #[.slice am nm cm, .int .i64 6] w fun e w' => ∃ pv, e = .returned pv ∧ PT w' pv pb ∧ Below w.heap.size w w') (Ou : ∀ w, Calls Tryz.prog 9 #[.agg #[.int .i64 iun, .int .u32 iud, .int .i64 ium, .int .u32 iue]] w fun xe w' => xe = .returned (.agg #[.int .u64 ((zl ux.num : Nat) : Int), .string (zh ux.num), .bool (zs ux.num), .int .u64 ((lo (fe ux) : Nat) : Int), .string (hs (fe ux)), .int .u64 ((zl uy.num : Nat) : Int), .string (zh uy.num), .bool (zs uy.num), .int .u64 ((lo (fe uy) : Nat) : Int), .string (hs (fe uy))]) ∧ Below w.heap.size w w') (Ov : ∀ w, Calls Tryz.prog 9 #[.agg #[.int .i64 ivn, .int .u32 ivd, .int .i64 ivm, .int .u32 ive]] w fun xe w' => xe = .returned (.agg #[.int .u64 ((zl vx.num : Nat) : Int), .string (zh vx.num), .bool (zs vx.num), .int .u64 ((lo (fe vx) : Nat) : Int), .string (hs (fe vx)), .int .u64 ((zl vy.num : Nat) : Int), .string (zh vy.num), .bool (zs vy.num), .int .u64 ((lo (fe vy) : Nat) : Int), .string (hs (fe vy))]) ∧ Below w.heap.size w w') (Os : ∀ w, Calls Tryz.prog 25 #[.agg #[.int .i64 isn, .int .u32 isd]] w fun xe w' => xe = .returned (fracV sq) ∧ Below w.heap.size w w') (B1 : ∀ w, Calls Tryz.prog 21 #[fracV vx, fracV ux] w fun xe w' => xe = .returned (fracV ex) ∧ Below w.heap.size w w') (B2 : ∀ w, Calls Tryz.prog 21 #[fracV vy, fracV uy] w fun xe w' => xe = .returned (fracV ey) ∧ Below w.heap.size w w') (Dx : ∀ (p0 : Value) (w : World), PT w p0 pa → Calls Tryz.prog 12 #[p0] w fun e w' => ∃ pv, e = .returned pv ∧ PT w' pv pxa ∧ Below w.heap.size w w') (C1 : ∀ (p0 : Value) (w : World), PT w p0 pxa → Calls Tryz.prog 26 #[p0, fracV ex] w fun e w' => ∃ pv, e = .returned pv ∧ PT w' pv sca ∧ Below w.heap.size w w') (Dy : ∀ (p0 : Value) (w : World), PT w p0 pa → Calls Tryz.prog 13 #[p0] w fun e w' => ∃ pv, e = .returned pv ∧ PT w' pv pya ∧ Below w.heap.size w w') (C2 : ∀ (p0 : Value) (w : World), PT w p0 pya → Calls Tryz.prog 26 #[p0, fracV ey] w fun e w' => ∃ pv, e = .returned pv ∧ PT w' pv scb ∧ Below w.heap.size w w') (Ad : ∀ (p0 p1 : Value) (w : World), PT w p0 sca → PT w p1 scb → Calls Tryz.prog 11 #[p0, p1] w fun e w' => ∃ pv, e = .returned pv ∧ PT w' pv pg ∧ Below w.heap.size w w') (G1 : ∀ (p0 : Value) (w : World), PT w p0 pa → Calls Tryz.prog 27 #[p0, .agg #[.int .u64 ((zl ux.num : Nat) : Int), .string (zh ux.num), .bool (zs ux.num), .int .u64 ((lo (fe ux) : Nat) : Int), .string (hs (fe ux)), .int .u64 ((zl uy.num : Nat) : Int), .string (zh uy.num), .bool (zs uy.num), .int .u64 ((lo (fe uy) : Nat) : Int), .string (hs (fe uy))], .agg #[.int .u64 ((zl vx.num : Nat) : Int), .string (zh vx.num), .bool (zs vx.num), .int .u64 ((lo (fe vx) : Nat) : Int), .string (hs (fe vx)), .int .u64 ((zl vy.num : Nat) : Int), .string (zh vy.num), .bool (zs vy.num), .int .u64 ((lo (fe vy) : Nat) : Int), .string (hs (fe vy))]] w fun e w' => e = .returned (fracV aw) ∧ Below w.heap.size w w') (M1 : ∀ w, Calls Tryz.prog 24 #[fracV sq, fracV ex] w fun xe w' => xe = .returned (fracV ma) ∧ Below w.heap.size w w') (A1 : ∀ w, Calls Tryz.prog 16 #[fracV ux, fracV ma] w fun xe w' => xe = .returned (fracV cx) ∧ Below w.heap.size w w') (M2 : ∀ w, Calls Tryz.prog 24 #[fracV sq, fracV ey] w fun xe w' => xe = .returned (fracV mb) ∧ Below w.heap.size w w') (A2 : ∀ w, Calls Tryz.prog 16 #[fracV uy, fracV mb] w fun xe w' => xe = .returned (fracV cy) ∧ Below w.heap.size w w') (G2 : ∀ (p0 : Value) (w : World), PT w p0 pa → Calls Tryz.prog 27 #[p0, .agg #[.int .u64 ((zl ux.num : Nat) : Int), .string (zh ux.num), .bool (zs ux.num), .int .u64 ((lo (fe ux) : Nat) : Int), .string (hs (fe ux)), .int .u64 ((zl uy.num : Nat) : Int), .string (zh uy.num), .bool (zs uy.num), .int .u64 ((lo (fe uy) : Nat) : Int), .string (hs (fe uy))], .agg #[.int .u64 ((zl cx.num : Nat) : Int), .string (zh cx.num), .bool (zs cx.num), .int .u64 ((lo (fe cx) : Nat) : Int), .string (hs (fe cx)), .int .u64 ((zl cy.num : Nat) : Int), .string (zh cy.num), .bool (zs cy.num), .int .u64 ((lo (fe cy) : Nat) : Int), .string (hs (fe cy))]] w fun e w' => e = .returned (fracV sga) ∧ Below w.heap.size w w') (M3 : ∀ w, Calls Tryz.prog 24 #[fracV sq, fracV sga] w fun xe w' => xe = .returned (fracV mc) ∧ Below w.heap.size w w') (I1 : ∀ w, Calls Tryz.prog 20 #[.int .i64 1] w fun xe w' => xe = .returned (fracV on) ∧ Below w.heap.size w w') (B3 : ∀ w, Calls Tryz.prog 21 #[fracV on, fracV sq] w fun xe w' => xe = .returned (fracV rs) ∧ Below w.heap.size w w') (G3 : ∀ (p0 : Value) (w : World), PT w p0 pa → Calls Tryz.prog 27 #[p0, .agg #[.int .u64 ((zl cx.num : Nat) : Int), .string (zh cx.num), .bool (zs cx.num), .int .u64 ((lo (fe cx) : Nat) : Int), .string (hs (fe cx)), .int .u64 ((zl cy.num : Nat) : Int), .string (zh cy.num), .bool (zs cy.num), .int .u64 ((lo (fe cy) : Nat) : Int), .string (hs (fe cy))], .agg #[.int .u64 ((zl vx.num : Nat) : Int), .string (zh vx.num), .bool (zs vx.num), .int .u64 ((lo (fe vx) : Nat) : Int), .string (hs (fe vx)), .int .u64 ((zl vy.num : Nat) : Int), .string (zh vy.num), .bool (zs vy.num), .int .u64 ((lo (fe vy) : Nat) : Int), .string (hs (fe vy))]] w fun e w' => e = .returned (fracV sgb) ∧ Below w.heap.size w w') (M4 : ∀ w, Calls Tryz.prog 24 #[fracV rs, fracV sgb] w fun xe w' => xe = .returned (fracV md) ∧ Below w.heap.size w w') (A3 : ∀ w, Calls Tryz.prog 16 #[fracV mc, fracV md] w fun xe w' => xe = .returned (fracV aw) ∧ Below w.heap.size w w') (G4 : ∀ (p0 : Value) (w : World), PT w p0 pg → Calls Tryz.prog 27 #[p0, .agg #[.int .u64 ((zl ux.num : Nat) : Int), .string (zh ux.num), .bool (zs ux.num), .int .u64 ((lo (fe ux) : Nat) : Int), .string (hs (fe ux)), .int .u64 ((zl uy.num : Nat) : Int), .string (zh uy.num), .bool (zs uy.num), .int .u64 ((lo (fe uy) : Nat) : Int), .string (hs (fe uy))], .agg #[.int .u64 ((zl vx.num : Nat) : Int), .string (zh vx.num), .bool (zs vx.num), .int .u64 ((lo (fe vx) : Nat) : Int), .string (hs (fe vx)), .int .u64 ((zl vy.num : Nat) : Int), .string (zh vy.num), .bool (zs vy.num), .int .u64 ((lo (fe vy) : Nat) : Int), .string (hs (fe vy))]] w fun e w' => e = .returned (fracV df) ∧ Below w.heap.size w w') (T1 : ∀ (p0 : Value) (w : World), PT w p0 pa → Calls Tryz.prog 28 #[p0, fracV vx, fracV vy] w fun e w' => e = .returned (fracV va) ∧ Below w.heap.size w w') (T2 : ∀ (p0 : Value) (w : World), PT w p0 pa → Calls Tryz.prog 28 #[p0, fracV ux, fracV uy] w fun e w' => e = .returned (fracV ua) ∧ Below w.heap.size w w') (B4 : ∀ w, Calls Tryz.prog 21 #[fracV va, fracV ua] w fun xe w' => xe = .returned (fracV df) ∧ Below w.heap.size w w') (G5 : ∀ (p0 : Value) (w : World), PT w p0 pa → Calls Tryz.prog 27 #[p0, .agg #[.int .u64 ((zl vx.num : Nat) : Int), .string (zh vx.num), .bool (zs vx.num), .int .u64 ((lo (fe vx) : Nat) : Int), .string (hs (fe vx)), .int .u64 ((zl vy.num : Nat) : Int), .string (zh vy.num), .bool (zs vy.num), .int .u64 ((lo (fe vy) : Nat) : Int), .string (hs (fe vy))], .agg #[.int .u64 ((zl ux.num : Nat) : Int), .string (zh ux.num), .bool (zs ux.num), .int .u64 ((lo (fe ux) : Nat) : Int), .string (hs (fe ux)), .int .u64 ((zl uy.num : Nat) : Int), .string (zh uy.num), .bool (zs uy.num), .int .u64 ((lo (fe uy) : Nat) : Int), .string (hs (fe uy))]] w fun e w' => e = .returned (fracV aw) ∧ Below w.heap.size w w') (G6 : ∀ (p0 : Value) (w : World), PT w p0 pa → Calls Tryz.prog 27 #[p0, .agg #[.int .u64 ((zl ux.num : Nat) : Int), .string (zh ux.num), .bool (zs ux.num), .int .u64 ((lo (fe ux) : Nat) : Int), .string (hs (fe ux)), .int .u64 ((zl uy.num : Nat) : Int), .string (zh uy.num), .bool (zs uy.num), .int .u64 ((lo (fe uy) : Nat) : Int), .string (hs (fe uy))], .agg #[.int .u64 ((zl ux.num : Nat) : Int), .string (zh ux.num), .bool (zs ux.num), .int .u64 ((lo (fe ux) : Nat) : Int), .string (hs (fe ux)), .int .u64 ((zl uy.num : Nat) : Int), .string (zh uy.num), .bool (zs uy.num), .int .u64 ((lo (fe uy) : Nat) : Int), .string (hs (fe uy))]] w fun e w' => e = .returned (fracV ua) ∧ Below w.heap.size w w') (F1 : ∀ (p0 p1 : Value) (w : World), PT w p0 pa → PT w p1 pb → Calls Tryz.prog 15 #[p0, p1, .agg #[.int .u64 ((zl ux.num : Nat) : Int), .string (zh ux.num), .bool (zs ux.num), .int .u64 ((lo (fe ux) : Nat) : Int), .string (hs (fe ux)), .int .u64 ((zl uy.num : Nat) : Int), .string (zh uy.num), .bool (zs uy.num), .int .u64 ((lo (fe uy) : Nat) : Int), .string (hs (fe uy))], .agg #[.int .u64 ((zl vx.num : Nat) : Int), .string (zh vx.num), .bool (zs vx.num), .int .u64 ((lo (fe vx) : Nat) : Int), .string (hs (fe vx)), .int .u64 ((zl vy.num : Nat) : Int), .string (zh vy.num), .bool (zs vy.num), .int .u64 ((lo (fe vy) : Nat) : Int), .string (hs (fe vy))]] w fun e w' => e = .returned (fracV fl) ∧ Below w.heap.size w w') (F2 : ∀ (p0 p1 : Value) (w : World), PT w p0 pa → PT w p1 pb → Calls Tryz.prog 15 #[p0, p1, .agg #[.int .u64 ((zl vx.num : Nat) : Int), .string (zh vx.num), .bool (zs vx.num), .int .u64 ((lo (fe vx) : Nat) : Int), .string (hs (fe vx)), .int .u64 ((zl vy.num : Nat) : Int), .string (zh vy.num), .bool (zs vy.num), .int .u64 ((lo (fe vy) : Nat) : Int), .string (hs (fe vy))], .agg #[.int .u64 ((zl ux.num : Nat) : Int), .string (zh ux.num), .bool (zs ux.num), .int .u64 ((lo (fe ux) : Nat) : Int), .string (hs (fe ux)), .int .u64 ((zl uy.num : Nat) : Int), .string (zh uy.num), .bool (zs uy.num), .int .u64 ((lo (fe uy) : Nat) : Int), .string (hs (fe uy))]] w fun e w' => e = .returned (fracV fn) ∧ Below w.heap.size w w') (N1 : ∀ w, Calls Tryz.prog 17 #[fracV fl] w fun xe w' => xe = .returned (fracV fn) ∧ Below w.heap.size w w') (F3 : ∀ (p0 p1 : Value) (w : World), PT w p0 pa → PT w p1 pb → Calls Tryz.prog 15 #[p0, p1, .agg #[.int .u64 ((zl ux.num : Nat) : Int), .string (zh ux.num), .bool (zs ux.num), .int .u64 ((lo (fe ux) : Nat) : Int), .string (hs (fe ux)), .int .u64 ((zl uy.num : Nat) : Int), .string (zh uy.num), .bool (zs uy.num), .int .u64 ((lo (fe uy) : Nat) : Int), .string (hs (fe uy))], .agg #[.int .u64 ((zl cx.num : Nat) : Int), .string (zh cx.num), .bool (zs cx.num), .int .u64 ((lo (fe cx) : Nat) : Int), .string (hs (fe cx)), .int .u64 ((zl cy.num : Nat) : Int), .string (zh cy.num), .bool (zs cy.num), .int .u64 ((lo (fe cy) : Nat) : Int), .string (hs (fe cy))]] w fun e w' => e = .returned (fracV fa) ∧ Below w.heap.size w w') (F4 : ∀ (p0 p1 : Value) (w : World), PT w p0 pa → PT w p1 pb → Calls Tryz.prog 15 #[p0, p1, .agg #[.int .u64 ((zl cx.num : Nat) : Int), .string (zh cx.num), .bool (zs cx.num), .int .u64 ((lo (fe cx) : Nat) : Int), .string (hs (fe cx)), .int .u64 ((zl cy.num : Nat) : Int), .string (zh cy.num), .bool (zs cy.num), .int .u64 ((lo (fe cy) : Nat) : Int), .string (hs (fe cy))], .agg #[.int .u64 ((zl vx.num : Nat) : Int), .string (zh vx.num), .bool (zs vx.num), .int .u64 ((lo (fe vx) : Nat) : Int), .string (hs (fe vx)), .int .u64 ((zl vy.num : Nat) : Int), .string (zh vy.num), .bool (zs vy.num), .int .u64 ((lo (fe vy) : Nat) : Int), .string (hs (fe vy))]] w fun e w' => e = .returned (fracV fb) ∧ Below w.heap.size w w') (A4 : ∀ w, Calls Tryz.prog 16 #[fracV fa, fracV fb] w fun xe w' => xe = .returned (fracV fl) ∧ Below w.heap.size w w') (KT : World → Prop) (hKT : Keeps KT) (HW : ∀ w, KT w → Calls Tryz.prog 7 #[] w fun xe w' => xe = .returned (.bool true) ∧ Below w.heap.size w w') (l_nl : decide ((8 : Int) < ((nl : Nat) : Int)) = false) (k_nl : decide (8 < nl) = false) (l_nm : decide ((8 : Int) < ((nm : Nat) : Int)) = false) (k_nm : decide (8 < nm) = false) (w : World) (kKL : KL w) (kKM : KM w) (kKT : KT w) :
  Calls Tryz.prog 5 #[.slice al nl cl, .slice am nm cm, .agg #[.int .i64 iun, .int .u32 iud, .int .i64 ium, .int .u32 iue], .agg #[.int .i64 ivn, .int .u32 ivd, .int .i64 ivm, .int .u32 ive], .agg #[.int .i64 isn, .int .u32 isd]] w fun e w' => e = .returned (.bool true) ∧ Below w.heap.size w w' := by
 replace hKL := Lib.hid hKL
 replace HMa := Lib.hid HMa
 replace hKM := Lib.hid hKM
 replace HMb := Lib.hid HMb
 replace Ou := Lib.hid Ou
 replace Ov := Lib.hid Ov
 replace Os := Lib.hid Os
 replace B1 := Lib.hid B1
 replace B2 := Lib.hid B2
 replace Dx := Lib.hid Dx
 replace C1 := Lib.hid C1
 replace Dy := Lib.hid Dy
 replace C2 := Lib.hid C2
 replace Ad := Lib.hid Ad
 replace G1 := Lib.hid G1
 replace M1 := Lib.hid M1
 replace A1 := Lib.hid A1
 replace M2 := Lib.hid M2
 replace A2 := Lib.hid A2
 replace G2 := Lib.hid G2
 replace M3 := Lib.hid M3
 replace I1 := Lib.hid I1
 replace B3 := Lib.hid B3
 replace G3 := Lib.hid G3
 replace M4 := Lib.hid M4
 replace A3 := Lib.hid A3
 replace G4 := Lib.hid G4
 replace T1 := Lib.hid T1
 replace T2 := Lib.hid T2
 replace B4 := Lib.hid B4
 replace G5 := Lib.hid G5
 replace G6 := Lib.hid G6
 replace F1 := Lib.hid F1
 replace F2 := Lib.hid F2
 replace N1 := Lib.hid N1
 replace F3 := Lib.hid F3
 replace F4 := Lib.hid F4
 replace A4 := Lib.hid A4
 replace hKT := Lib.hid hKT
 replace HW := Lib.hid HW
 have hL0 : GL w w [] := GL.start w
 have hT : PTs w [] := PTs.nil w
 replace hT := (((hT.new (.cells #[.int .i64 iun, .int .u32 iud, .int .i64 ium, .int .u32 iue] 27)).new (.cells #[.int .i64 ivn, .int .u32 ivd, .int .i64 ivm, .int .u32 ive] 27)).new (.cells #[.int .i64 isn, .int .u32 isd] 25))
 replace hL0 := (((hL0.new rfl [.int .i64 iun, .int .u32 iud, .int .i64 ium, .int .u32 iue] 27).new (K := w.heap.size + 1) (szA _ _) [.int .i64 ivn, .int .u32 ivd, .int .i64 ivm, .int .u32 ive] 27).new (K := w.heap.size + 1 + 1) (by simp only [World.size_alloc]) [.int .i64 isn, .int .u32 isd] 25)
 generalize hweq : (((w.alloc (.cells #[.int .i64 iun, .int .u32 iud, .int .i64 ium, .int .u32 iue] 27)).alloc (.cells #[.int .i64 ivn, .int .u32 ivd, .int .i64 ivm, .int .u32 ive] 27)).alloc (.cells #[.int .i64 isn, .int .u32 isd] 25)) = x1 at hL0 hT
 go_enter Tryz.func5, Tryz.ntmps5
 go_wp2_with fail
 with_reducible refine Calls.mono (HMa.out _ (hKL.out.at (hL0.bl) kKL)) ?_
 rintro e x2 ⟨v0, rfl, q0, hb⟩
 replace hL0 := hL0.call hb
 replace hT := hT.call hb
 clear hb hweq
 obtain ⟨g1, d1, g1c, rfl, -⟩ := pt_form q0
 replace hT := hT.cons q0
 clear q0
 go_wp2_with fail
 with_reducible refine Calls.mono (HMb.out _ (hKM.out.at (hL0.bl) kKM)) ?_
 rintro e x3 ⟨v0, rfl, q0, hb⟩
 replace hL0 := hL0.call hb
 replace hT := hT.call hb
 clear hb
 obtain ⟨g2, d2, g2c, rfl, -⟩ := pt_form q0
 replace hT := hT.cons q0
 clear q0
 go_upto_region 4 with fail
 refine region_gh (by kernel_rfl) (by kernel_rfl) ?_
 refine lex_seg (gl := []) 6 (by kernel_rfl) ?_
 intro α iα F hF1 hF2
 have hq := GL.seg hF1 hL0
 simp only [zC, Nat.reduceAdd] at hq
 simp only [zT]
 repeat (go_big_quiet_step (first | fail | (go_at_call 9; with_reducible exact seg_call hF2 Ou.out _) | (go_at_call 9; with_reducible exact seg_call hF2 Ov.out _) | (go_at_call 25; with_reducible exact seg_call hF2 Os.out _)))
 refine wpQuiet_nil ?_
 clear hq hF1 hF2 iα F α
 refine lex_new [.int .u64 0, .string ⟨#[]⟩, .bool false, .int .u64 0, .string ⟨#[]⟩, .int .u64 0, .string ⟨#[]⟩, .bool false, .int .u64 0, .string ⟨#[]⟩] 13 39 39 rfl rfl (of_decide_eq_true (by kernel_rfl)) (by kernel_rfl) rfl new_pt9 ?_
 simp only [Act.put, zP]
 refine lex_new [.int .u64 0, .string ⟨#[]⟩, .bool false, .int .u64 0, .string ⟨#[]⟩, .int .u64 0, .string ⟨#[]⟩, .bool false, .int .u64 0, .string ⟨#[]⟩] 14 39 39 rfl rfl (of_decide_eq_true (by kernel_rfl)) (by kernel_rfl) rfl new_pt9 ?_
 simp only [Act.put, zP]
 refine lex_new [.int .u64 0, .string ⟨#[]⟩, .bool false, .int .u64 0, .string ⟨#[]⟩] 15 38 38 rfl rfl (of_decide_eq_true (by kernel_rfl)) (by kernel_rfl) rfl new_frac ?_
 simp only [Act.put, zP]
 refine lex_put [.int .u64 ((zl ux.num : Nat) : Int), .string (zh ux.num), .bool (zs ux.num), .int .u64 ((lo (fe ux) : Nat) : Int), .string (hs (fe ux)), .int .u64 ((zl uy.num : Nat) : Int), .string (zh uy.num), .bool (zs uy.num), .int .u64 ((lo (fe uy) : Nat) : Int), .string (hs (fe uy))] [.int .u64 0, .string ⟨#[]⟩, .bool false, .int .u64 0, .string ⟨#[]⟩, .int .u64 0, .string ⟨#[]⟩, .bool false, .int .u64 0, .string ⟨#[]⟩] 13 39 (.tmp 37) rfl (by kernel_rfl) (by simp [toG, upd]) rfl (fun w k h => put_pt9 _ _ _ _ _ _ _ _ _ _ _ _ _ _ _ _ _ _ _ _ w k h) ?_
 simp only [Act.put]
 refine lex_put [.int .u64 ((zl vx.num : Nat) : Int), .string (zh vx.num), .bool (zs vx.num), .int .u64 ((lo (fe vx) : Nat) : Int), .string (hs (fe vx)), .int .u64 ((zl vy.num : Nat) : Int), .string (zh vy.num), .bool (zs vy.num), .int .u64 ((lo (fe vy) : Nat) : Int), .string (hs (fe vy))] [.int .u64 0, .string ⟨#[]⟩, .bool false, .int .u64 0, .string ⟨#[]⟩, .int .u64 0, .string ⟨#[]⟩, .bool false, .int .u64 0, .string ⟨#[]⟩] 14 39 (.tmp 39) rfl (by kernel_rfl) (by simp [toG, upd]) rfl (fun w k h => put_pt9 _ _ _ _ _ _ _ _ _ _ _ _ _ _ _ _ _ _ _ _ w k h) ?_
 simp only [Act.put]
 refine lex_put [.int .u64 ((zl sq.num : Nat) : Int), .string (zh sq.num), .bool (zs sq.num), .int .u64 ((lo (fe sq) : Nat) : Int), .string (hs (fe sq))] [.int .u64 0, .string ⟨#[]⟩, .bool false, .int .u64 0, .string ⟨#[]⟩] 15 38 (.tmp 41) rfl (by kernel_rfl) (by simp [toG, upd]) rfl (fun w k h => put_frac _ _ _ _ _ _ _ _ _ _ w k h) ?_
 simp only [Act.put]
 refine lexG_nil ?_
 intro κ x4 hSim
 replace hL0 := hL0.ghs hSim [(15, [.int .u64 ((zl sq.num : Nat) : Int), .string (zh sq.num), .bool (zs sq.num), .int .u64 ((lo (fe sq) : Nat) : Int), .string (hs (fe sq))]), (14, [.int .u64 ((zl vx.num : Nat) : Int), .string (zh vx.num), .bool (zs vx.num), .int .u64 ((lo (fe vx) : Nat) : Int), .string (hs (fe vx)), .int .u64 ((zl vy.num : Nat) : Int), .string (zh vy.num), .bool (zs vy.num), .int .u64 ((lo (fe vy) : Nat) : Int), .string (hs (fe vy))]), (13, [.int .u64 ((zl ux.num : Nat) : Int), .string (zh ux.num), .bool (zs ux.num), .int .u64 ((lo (fe ux) : Nat) : Int), .string (hs (fe ux)), .int .u64 ((zl uy.num : Nat) : Int), .string (zh uy.num), .bool (zs uy.num), .int .u64 ((lo (fe uy) : Nat) : Int), .string (hs (fe uy))])] (by simp) (by intro p hp; simp only [List.mem_cons, List.not_mem_nil, or_false] at hp; rcases hp with rfl | rfl | rfl <;> exact ⟨_, by simp only [toG, upd]; rfl⟩)
 simp only [List.map_cons, List.map_nil, List.cons_append, List.nil_append] at hL0
 simp only [over_toG, over_nil, Act.put, zP]
 replace hT := hT.call (below_drew hSim.base)
 clear hSim
 generalize κ 15 = k4_15 at *
 generalize κ 14 = k4_14 at *
 generalize κ 13 = k4_13 at *
 go_upto_region 5 with fail
 refine region_gh (by kernel_rfl) (by kernel_rfl) ?_
 refine lex_seg (gl := []) 10 (by kernel_rfl) ?_
 intro α iα F hF1 hF2
 have hq := GL.seg hF1 hL0
 simp only [zC, Nat.reduceAdd] at hq
 simp only [zT]
 repeat (go_big_quiet_step (first | fail | (go_at_call 21; with_reducible exact seg_call hF2 B1.out _) | (go_at_call 21; with_reducible exact seg_call hF2 B2.out _)))
 refine wpQuiet_nil ?_
 clear hq hF1 hF2 iα F α
 refine lex_new [.int .u64 0, .string ⟨#[]⟩, .bool false, .int .u64 0, .string ⟨#[]⟩] 16 38 38 rfl rfl (of_decide_eq_true (by kernel_rfl)) (by kernel_rfl) rfl new_frac ?_
 simp only [Act.put, zP]
 refine lex_new [.int .u64 0, .string ⟨#[]⟩, .bool false, .int .u64 0, .string ⟨#[]⟩] 17 38 38 rfl rfl (of_decide_eq_true (by kernel_rfl)) (by kernel_rfl) rfl new_frac ?_
 simp only [Act.put, zP]
 refine lex_put [.int .u64 ((zl ex.num : Nat) : Int), .string (zh ex.num), .bool (zs ex.num), .int .u64 ((lo (fe ex) : Nat) : Int), .string (hs (fe ex))] [.int .u64 0, .string ⟨#[]⟩, .bool false, .int .u64 0, .string ⟨#[]⟩] 16 38 (.tmp 46) rfl (by kernel_rfl) (by simp [toG, upd]) rfl (fun w k h => put_frac _ _ _ _ _ _ _ _ _ _ w k h) ?_
 simp only [Act.put]
 refine lex_put [.int .u64 ((zl ey.num : Nat) : Int), .string (zh ey.num), .bool (zs ey.num), .int .u64 ((lo (fe ey) : Nat) : Int), .string (hs (fe ey))] [.int .u64 0, .string ⟨#[]⟩, .bool false, .int .u64 0, .string ⟨#[]⟩] 17 38 (.tmp 51) rfl (by kernel_rfl) (by simp [toG, upd]) rfl (fun w k h => put_frac _ _ _ _ _ _ _ _ _ _ w k h) ?_
 simp only [Act.put]
 refine lexG_nil ?_
 intro κ x5 hSim
 replace hL0 := hL0.ghs hSim [(17, [.int .u64 ((zl ey.num : Nat) : Int), .string (zh ey.num), .bool (zs ey.num), .int .u64 ((lo (fe ey) : Nat) : Int), .string (hs (fe ey))]), (16, [.int .u64 ((zl ex.num : Nat) : Int), .string (zh ex.num), .bool (zs ex.num), .int .u64 ((lo (fe ex) : Nat) : Int), .string (hs (fe ex))])] (by simp) (by intro p hp; simp only [List.mem_cons, List.not_mem_nil, or_false] at hp; rcases hp with rfl | rfl <;> exact ⟨_, by simp only [toG, upd]; rfl⟩)
 simp only [List.map_cons, List.map_nil, List.cons_append, List.nil_append] at hL0
 simp only [over_toG, over_nil, Act.put, zP]
 replace hT := hT.call (below_drew hSim.base)
 clear hSim
 generalize κ 17 = k5_17 at *
 generalize κ 16 = k5_16 at *
 go_upto_region 6 with fail
 refine region_tl 10 [EV (.slice g1 d1 g1c), PP pxa, EV (.agg #[.int .u64 ((zl ex.num : Nat) : Int), .string (zh ex.num), .bool (zs ex.num), .int .u64 ((lo (fe ex) : Nat) : Int), .string (hs (fe ex))]), PP sca, EV (.slice g1 d1 g1c), PP pya, EV (.agg #[.int .u64 ((zl ey.num : Nat) : Int), .string (zh ey.num), .bool (zs ey.num), .int .u64 ((lo (fe ey) : Nat) : Int), .string (hs (fe ey))]), PP scb, PP pg, PP pg] (by kernel_rfl) (by kernel_rfl) ?_ ?_ ?_
 ·repeat' first | exact stays_nil | apply stays_cons | exact stays_eq _ | exact stays_pt _
 ·simp only [List.take_succ_cons, List.take_zero, hopsR, and_true]
  refine ⟨?_, ?_, ?_, ?_, ?_, ?_, ?_, ?_, ?_, ?_⟩ <;> intro fv w1 hb1 hp
  all_goals (have hc := (hL0.call (below_drew hb1)).fc; simp only [zF, Nat.reduceAdd] at hc; simp only [putsV, Act.put, zP, Nat.zero_add, Nat.reduceAdd])
  ·refine tyAt_none rfl ?_
   simp [tyUpon, execOp, go_sem, Act.eval, Below.refl]
  ·have h0 : EV _ (fv 0) w1 := hp 0 (LC (by kernel_rfl))
   refine tyAt_none rfl ?_
   refine ty_call (f := 12) (args := #[.slice g1 d1 g1c]) (by simp [execOp, go_sem, Act.eval, h0]) ?_
   exact (Dx.out (.slice g1 d1 g1c) w1 (PT.below (hT.get (mK mZ)) (below_drew hb1))).mono fun e w2 ⟨pv, h1, h2, h3⟩ => ⟨pv, h1, h2, h3⟩
  ·refine tyAt_none rfl ?_
   simp [tyUpon, execOp, go_sem, Act.eval, hc, Below.refl]
  ·have h1 : (PP pxa) (fv 1) w1 := hp 1 (LC (by kernel_rfl))
   have h2 : EV _ (fv 2) w1 := hp 2 (LC (by kernel_rfl))
   refine tyAt_none rfl ?_
   refine ty_call (f := 26) (args := #[fv 1, .agg #[.int .u64 ((zl ex.num : Nat) : Int), .string (zh ex.num), .bool (zs ex.num), .int .u64 ((lo (fe ex) : Nat) : Int), .string (hs (fe ex))]]) (by simp [execOp, go_sem, Act.eval, h2]) ?_
   exact (C1.out (fv 1) w1 h1).mono fun e w2 ⟨pv, h1, h2, h3⟩ => ⟨pv, h1, h2, h3⟩
  ·refine tyAt_none rfl ?_
   simp [tyUpon, execOp, go_sem, Act.eval, Below.refl]
  ·have h4 : EV _ (fv 4) w1 := hp 4 (LC (by kernel_rfl))
   refine tyAt_none rfl ?_
   refine ty_call (f := 13) (args := #[.slice g1 d1 g1c]) (by simp [execOp, go_sem, Act.eval, h4]) ?_
   exact (Dy.out (.slice g1 d1 g1c) w1 (PT.below (hT.get (mK mZ)) (below_drew hb1))).mono fun e w2 ⟨pv, h1, h2, h3⟩ => ⟨pv, h1, h2, h3⟩
  ·refine tyAt_none rfl ?_
   simp [tyUpon, execOp, go_sem, Act.eval, hc, Below.refl]
  ·have h5 : (PP pya) (fv 5) w1 := hp 5 (LC (by kernel_rfl))
   have h6 : EV _ (fv 6) w1 := hp 6 (LC (by kernel_rfl))
   refine tyAt_none rfl ?_
   refine ty_call (f := 26) (args := #[fv 5, .agg #[.int .u64 ((zl ey.num : Nat) : Int), .string (zh ey.num), .bool (zs ey.num), .int .u64 ((lo (fe ey) : Nat) : Int), .string (hs (fe ey))]]) (by simp [execOp, go_sem, Act.eval, h6]) ?_
   exact (C2.out (fv 5) w1 h5).mono fun e w2 ⟨pv, h1, h2, h3⟩ => ⟨pv, h1, h2, h3⟩
  ·have h3 : (PP sca) (fv 3) w1 := hp 3 (LC (by kernel_rfl))
   have h7 : (PP scb) (fv 7) w1 := hp 7 (LC (by kernel_rfl))
   refine tyAt_none rfl ?_
   refine ty_call (f := 11) (args := #[fv 3, fv 7]) (by simp [execOp, go_sem, Act.eval]) ?_
   exact (Ad.out (fv 3) (fv 7) w1 h3 h7).mono fun e w2 ⟨pv, h1, h2, h3⟩ => ⟨pv, h1, h2, h3⟩
  ·have h8 : (PP pg) (fv 8) w1 := hp 8 (LC (by kernel_rfl))
   refine tyAt_none rfl ?_
   simp [tyUpon, execOp, go_sem, Act.eval, Below.refl]
   exact h8
 ·intro fv x6 hb1 hv
  have e0 : fv 0 = _ := hv 0 (by omega)
  have q1 : PT x6 (fv 1) pxa := hv 1 (by omega)
  obtain ⟨g3, d3, g3c, e1, -⟩ := pt_form q1
  rw [e1] at q1
  have e2 : fv 2 = _ := hv 2 (by omega)
  have q3 : PT x6 (fv 3) sca := hv 3 (by omega)
  obtain ⟨g4, d4, g4c, e3, -⟩ := pt_form q3
  rw [e3] at q3
  have e4 : fv 4 = _ := hv 4 (by omega)
  have q5 : PT x6 (fv 5) pya := hv 5 (by omega)
  obtain ⟨g5, d5, g5c, e5, -⟩ := pt_form q5
  rw [e5] at q5
  have e6 : fv 6 = _ := hv 6 (by omega)
  have q7 : PT x6 (fv 7) scb := hv 7 (by omega)
  obtain ⟨g6, d6, g6c, e7, -⟩ := pt_form q7
  rw [e7] at q7
  have q8 : PT x6 (fv 8) pg := hv 8 (by omega)
  obtain ⟨g7, d7, g7c, e8, -⟩ := pt_form q8
  rw [e8] at q8
  have q9 : PT x6 (fv 9) pg := hv 9 (by omega)
  obtain ⟨g8, d8, g8c, e9, -⟩ := pt_form q9
  rw [e9] at q9
  simp only [List.take_succ_cons, List.take_zero, putsV, Act.put, zP, List.drop_succ_cons, List.drop_zero, Nat.zero_add, Nat.reduceAdd, e0, e1, e2, e3, e4, e5, e6, e7, e8, e9]
  replace hL0 := hL0.call (below_drew hb1)
  replace hT := hT.call (below_drew hb1)
  replace hT := hT.cons q1
  replace hT := hT.cons q3
  replace hT := hT.cons q5
  replace hT := hT.cons q7
  replace hT := hT.cons q8
  replace hT := hT.cons q9
  clear e0 e1 e2 e3 e4 e5 e6 e7 e8 e9 hb1 hv q1 q3 q5 q7 q8 q9 fv
  have hN0 := cells_of _ 0 [] rfl (hL0.get _ _ (mK (mK (mK mZ))))
  simp only [zF, Nat.reduceAdd] at hN0
  have hN1 := cells_of _ 0 [] rfl (hL0.get _ _ (mK (mK (mK (mK mZ)))))
  simp only [zF, Nat.reduceAdd] at hN1
  go_wp2_with fail
  clear hN0 hN1
  with_reducible refine Calls.mono (G1.out (.slice g1 d1 g1c) _ (hT.get (mK (mK (mK (mK (mK (mK (mK mZ))))))))) ?_
  rintro e x7 ⟨rfl, hb⟩
  replace hL0 := hL0.call hb
  replace hT := hT.call hb
  clear hb
  replace hT := (hT.new (.cells #[.int .u64 ((zl aw.num : Nat) : Int), .string (zh aw.num), .bool (zs aw.num), .int .u64 ((lo (fe aw) : Nat) : Int), .string (hs (fe aw))] 38))
  replace hL0 := (hL0.new rfl [.int .u64 ((zl aw.num : Nat) : Int), .string (zh aw.num), .bool (zs aw.num), .int .u64 ((lo (fe aw) : Nat) : Int), .string (hs (fe aw))] 38)
  generalize hweq : (x7.alloc (.cells #[.int .u64 ((zl aw.num : Nat) : Int), .string (zh aw.num), .bool (zs aw.num), .int .u64 ((lo (fe aw) : Nat) : Int), .string (hs (fe aw))] 38)) = x8 at hL0 hT
  go_upto_region 8 with fail
  clear hweq
  refine region_gh (by kernel_rfl) (by kernel_rfl) ?_
  refine lex_seg (gl := []) 13 (by kernel_rfl) ?_
  intro α iα F hF1 hF2
  have hq := GL.seg hF1 hL0
  simp only [zC, Nat.reduceAdd] at hq
  simp only [zT]
  repeat (go_big_quiet_step (first | fail | (go_at_call 24; with_reducible exact seg_call hF2 M1.out _) | (go_at_call 16; with_reducible exact seg_call hF2 A1.out _) | (go_at_call 24; with_reducible exact seg_call hF2 M2.out _) | (go_at_call 16; with_reducible exact seg_call hF2 A2.out _)))
  refine wpQuiet_nil ?_
  clear hq hF1 hF2 iα F α
  refine lex_new [.int .u64 0, .string ⟨#[]⟩, .bool false, .int .u64 0, .string ⟨#[]⟩, .int .u64 0, .string ⟨#[]⟩, .bool false, .int .u64 0, .string ⟨#[]⟩] 20 39 39 rfl rfl (of_decide_eq_true (by kernel_rfl)) (by kernel_rfl) rfl new_pt9 ?_
  simp only [Act.put, zP]
  refine lex_put [.int .u64 ((zl cx.num : Nat) : Int), .string (zh cx.num), .bool (zs cx.num), .int .u64 ((lo (fe cx) : Nat) : Int), .string (hs (fe cx)), .int .u64 ((zl cy.num : Nat) : Int), .string (zh cy.num), .bool (zs cy.num), .int .u64 ((lo (fe cy) : Nat) : Int), .string (hs (fe cy))] [.int .u64 0, .string ⟨#[]⟩, .bool false, .int .u64 0, .string ⟨#[]⟩, .int .u64 0, .string ⟨#[]⟩, .bool false, .int .u64 0, .string ⟨#[]⟩] 20 39 (.tmp 77) rfl (by kernel_rfl) (by simp [toG, upd]) rfl (fun w k h => put_pt9 _ _ _ _ _ _ _ _ _ _ _ _ _ _ _ _ _ _ _ _ w k h) ?_
  simp only [Act.put]
  refine lexG_nil ?_
  intro κ x9 hSim
  replace hL0 := hL0.ghs hSim [(20, [.int .u64 ((zl cx.num : Nat) : Int), .string (zh cx.num), .bool (zs cx.num), .int .u64 ((lo (fe cx) : Nat) : Int), .string (hs (fe cx)), .int .u64 ((zl cy.num : Nat) : Int), .string (zh cy.num), .bool (zs cy.num), .int .u64 ((lo (fe cy) : Nat) : Int), .string (hs (fe cy))])] (by simp) (by intro p hp; simp only [List.mem_cons, List.not_mem_nil, or_false] at hp; rcases hp with rfl <;> exact ⟨_, by simp only [toG, upd]; rfl⟩)
  simp only [List.map_cons, List.map_nil, List.cons_append, List.nil_append] at hL0
  simp only [over_toG, over_nil, Act.put, zP]
  replace hT := hT.call (below_drew hSim.base)
  clear hSim
  generalize κ 20 = k9_20 at *
  go_upto_region 9 with fail
  refine region_tal 16 [EV (.agg #[.int .u64 ((zl sq.num : Nat) : Int), .string (zh sq.num), .bool (zs sq.num), .int .u64 ((lo (fe sq) : Nat) : Int), .string (hs (fe sq))]), EV (.slice g1 d1 g1c), EV (.agg #[.int .u64 ((zl ux.num : Nat) : Int), .string (zh ux.num), .bool (zs ux.num), .int .u64 ((lo (fe ux) : Nat) : Int), .string (hs (fe ux)), .int .u64 ((zl uy.num : Nat) : Int), .string (zh uy.num), .bool (zs uy.num), .int .u64 ((lo (fe uy) : Nat) : Int), .string (hs (fe uy))]), EV (.agg #[.int .u64 ((zl cx.num : Nat) : Int), .string (zh cx.num), .bool (zs cx.num), .int .u64 ((lo (fe cx) : Nat) : Int), .string (hs (fe cx)), .int .u64 ((zl cy.num : Nat) : Int), .string (zh cy.num), .bool (zs cy.num), .int .u64 ((lo (fe cy) : Nat) : Int), .string (hs (fe cy))]), EV (.agg #[.int .u64 ((zl sga.num : Nat) : Int), .string (zh sga.num), .bool (zs sga.num), .int .u64 ((lo (fe sga) : Nat) : Int), .string (hs (fe sga))]), EV (.agg #[.int .u64 ((zl mc.num : Nat) : Int), .string (zh mc.num), .bool (zs mc.num), .int .u64 ((lo (fe mc) : Nat) : Int), .string (hs (fe mc))]), EV (.agg #[.int .u64 ((zl on.num : Nat) : Int), .string (zh on.num), .bool (zs on.num), .int .u64 ((lo (fe on) : Nat) : Int), .string (hs (fe on))]), EV (.agg #[.int .u64 ((zl sq.num : Nat) : Int), .string (zh sq.num), .bool (zs sq.num), .int .u64 ((lo (fe sq) : Nat) : Int), .string (hs (fe sq))]), EV (.agg #[.int .u64 ((zl rs.num : Nat) : Int), .string (zh rs.num), .bool (zs rs.num), .int .u64 ((lo (fe rs) : Nat) : Int), .string (hs (fe rs))]), EV (.slice g1 d1 g1c), EV (.agg #[.int .u64 ((zl cx.num : Nat) : Int), .string (zh cx.num), .bool (zs cx.num), .int .u64 ((lo (fe cx) : Nat) : Int), .string (hs (fe cx)), .int .u64 ((zl cy.num : Nat) : Int), .string (zh cy.num), .bool (zs cy.num), .int .u64 ((lo (fe cy) : Nat) : Int), .string (hs (fe cy))]), EV (.agg #[.int .u64 ((zl vx.num : Nat) : Int), .string (zh vx.num), .bool (zs vx.num), .int .u64 ((lo (fe vx) : Nat) : Int), .string (hs (fe vx)), .int .u64 ((zl vy.num : Nat) : Int), .string (zh vy.num), .bool (zs vy.num), .int .u64 ((lo (fe vy) : Nat) : Int), .string (hs (fe vy))]), EV (.agg #[.int .u64 ((zl sgb.num : Nat) : Int), .string (zh sgb.num), .bool (zs sgb.num), .int .u64 ((lo (fe sgb) : Nat) : Int), .string (hs (fe sgb))]), EV (.agg #[.int .u64 ((zl md.num : Nat) : Int), .string (zh md.num), .bool (zs md.num), .int .u64 ((lo (fe md) : Nat) : Int), .string (hs (fe md))]), EV (.agg #[.int .u64 ((zl aw.num : Nat) : Int), .string (zh aw.num), .bool (zs aw.num), .int .u64 ((lo (fe aw) : Nat) : Int), .string (hs (fe aw))]), NewB x9.heap.size [.int .u64 0, .string ⟨#[]⟩, .bool false, .int .u64 0, .string ⟨#[]⟩]] [15] (by kernel_rfl) (by kernel_rfl) ?_ ?_ ?_ ?_ ?_
  ·repeat' first | exact stays_nil | apply stays_cons | exact stays_eq _ | exact stays_new _ _
  ·simp only [List.take_succ_cons, List.take_zero, hopsR, and_true]
   refine ⟨?_, ?_, ?_, ?_, ?_, ?_, ?_, ?_, ?_, ?_, ?_, ?_, ?_, ?_, ?_, ?_⟩ <;> intro fv w1 hb1 hp
   all_goals (have hc := (hL0.call (below_drew hb1)).fc; simp only [zF, Nat.reduceAdd] at hc; simp only [putsV, Act.put, zP, Nat.zero_add, Nat.reduceAdd])
   ·refine tyAt_none rfl ?_
    simp [tyUpon, execOp, go_sem, Act.eval, hc, Below.refl]
   ·refine tyAt_none rfl ?_
    simp [tyUpon, execOp, go_sem, Act.eval, Below.refl]
   ·refine tyAt_none rfl ?_
    simp [tyUpon, execOp, go_sem, Act.eval, hc, Below.refl]
   ·refine tyAt_none rfl ?_
    simp [tyUpon, execOp, go_sem, Act.eval, hc, Below.refl]
   ·have h1 : EV _ (fv 1) w1 := hp 1 (LC (by kernel_rfl))
    have h2 : EV _ (fv 2) w1 := hp 2 (LC (by kernel_rfl))
    have h3 : EV _ (fv 3) w1 := hp 3 (LC (by kernel_rfl))
    refine tyAt_none rfl ?_
    refine ty_call (f := 27) (args := #[.slice g1 d1 g1c, .agg #[.int .u64 ((zl ux.num : Nat) : Int), .string (zh ux.num), .bool (zs ux.num), .int .u64 ((lo (fe ux) : Nat) : Int), .string (hs (fe ux)), .int .u64 ((zl uy.num : Nat) : Int), .string (zh uy.num), .bool (zs uy.num), .int .u64 ((lo (fe uy) : Nat) : Int), .string (hs (fe uy))], .agg #[.int .u64 ((zl cx.num : Nat) : Int), .string (zh cx.num), .bool (zs cx.num), .int .u64 ((lo (fe cx) : Nat) : Int), .string (hs (fe cx)), .int .u64 ((zl cy.num : Nat) : Int), .string (zh cy.num), .bool (zs cy.num), .int .u64 ((lo (fe cy) : Nat) : Int), .string (hs (fe cy))]]) (by simp [execOp, go_sem, Act.eval, h1, h2, h3]) ?_
    exact (G2.out (.slice g1 d1 g1c) w1 (PT.below (hT.get (mK (mK (mK (mK (mK (mK (mK mZ)))))))) (below_drew hb1))).mono fun e w2 ⟨h1, h2⟩ => ⟨_, h1, rfl, h2⟩
   ·have h0 : EV _ (fv 0) w1 := hp 0 (LC (by kernel_rfl))
    have h4 : EV _ (fv 4) w1 := hp 4 (LC (by kernel_rfl))
    refine tyAt_none rfl ?_
    refine ty_call (f := 24) (args := #[.agg #[.int .u64 ((zl sq.num : Nat) : Int), .string (zh sq.num), .bool (zs sq.num), .int .u64 ((lo (fe sq) : Nat) : Int), .string (hs (fe sq))], .agg #[.int .u64 ((zl sga.num : Nat) : Int), .string (zh sga.num), .bool (zs sga.num), .int .u64 ((lo (fe sga) : Nat) : Int), .string (hs (fe sga))]]) (by simp [execOp, go_sem, Act.eval, h0, h4]) ?_
    exact (M3.out w1).mono fun e w2 ⟨h1, h2⟩ => ⟨_, h1, rfl, h2⟩
   ·refine tyAt_none rfl ?_
    refine ty_call (f := 20) (args := #[.int .i64 1]) (by simp [execOp, go_sem, Act.eval]) ?_
    exact (I1.out w1).mono fun e w2 ⟨h1, h2⟩ => ⟨_, h1, rfl, h2⟩
   ·refine tyAt_none rfl ?_
    simp [tyUpon, execOp, go_sem, Act.eval, hc, Below.refl]
   ·have h6 : EV _ (fv 6) w1 := hp 6 (LC (by kernel_rfl))
    have h7 : EV _ (fv 7) w1 := hp 7 (LC (by kernel_rfl))
    refine tyAt_none rfl ?_
    refine ty_call (f := 21) (args := #[.agg #[.int .u64 ((zl on.num : Nat) : Int), .string (zh on.num), .bool (zs on.num), .int .u64 ((lo (fe on) : Nat) : Int), .string (hs (fe on))], .agg #[.int .u64 ((zl sq.num : Nat) : Int), .string (zh sq.num), .bool (zs sq.num), .int .u64 ((lo (fe sq) : Nat) : Int), .string (hs (fe sq))]]) (by simp [execOp, go_sem, Act.eval, h6, h7]) ?_
    exact (B3.out w1).mono fun e w2 ⟨h1, h2⟩ => ⟨_, h1, rfl, h2⟩
   ·refine tyAt_none rfl ?_
    simp [tyUpon, execOp, go_sem, Act.eval, Below.refl]
   ·refine tyAt_none rfl ?_
    simp [tyUpon, execOp, go_sem, Act.eval, hc, Below.refl]
   ·refine tyAt_none rfl ?_
    simp [tyUpon, execOp, go_sem, Act.eval, hc, Below.refl]
   ·have h9 : EV _ (fv 9) w1 := hp 9 (LC (by kernel_rfl))
    have h10 : EV _ (fv 10) w1 := hp 10 (LC (by kernel_rfl))
    have h11 : EV _ (fv 11) w1 := hp 11 (LC (by kernel_rfl))
    refine tyAt_none rfl ?_
    refine ty_call (f := 27) (args := #[.slice g1 d1 g1c, .agg #[.int .u64 ((zl cx.num : Nat) : Int), .string (zh cx.num), .bool (zs cx.num), .int .u64 ((lo (fe cx) : Nat) : Int), .string (hs (fe cx)), .int .u64 ((zl cy.num : Nat) : Int), .string (zh cy.num), .bool (zs cy.num), .int .u64 ((lo (fe cy) : Nat) : Int), .string (hs (fe cy))], .agg #[.int .u64 ((zl vx.num : Nat) : Int), .string (zh vx.num), .bool (zs vx.num), .int .u64 ((lo (fe vx) : Nat) : Int), .string (hs (fe vx)), .int .u64 ((zl vy.num : Nat) : Int), .string (zh vy.num), .bool (zs vy.num), .int .u64 ((lo (fe vy) : Nat) : Int), .string (hs (fe vy))]]) (by simp [execOp, go_sem, Act.eval, h9, h10, h11]) ?_
    exact (G3.out (.slice g1 d1 g1c) w1 (PT.below (hT.get (mK (mK (mK (mK (mK (mK (mK mZ)))))))) (below_drew hb1))).mono fun e w2 ⟨h1, h2⟩ => ⟨_, h1, rfl, h2⟩
   ·have h8 : EV _ (fv 8) w1 := hp 8 (LC (by kernel_rfl))
    have h12 : EV _ (fv 12) w1 := hp 12 (LC (by kernel_rfl))
    refine tyAt_none rfl ?_
    refine ty_call (f := 24) (args := #[.agg #[.int .u64 ((zl rs.num : Nat) : Int), .string (zh rs.num), .bool (zs rs.num), .int .u64 ((lo (fe rs) : Nat) : Int), .string (hs (fe rs))], .agg #[.int .u64 ((zl sgb.num : Nat) : Int), .string (zh sgb.num), .bool (zs sgb.num), .int .u64 ((lo (fe sgb) : Nat) : Int), .string (hs (fe sgb))]]) (by simp [execOp, go_sem, Act.eval, h8, h12]) ?_
    exact (M4.out w1).mono fun e w2 ⟨h1, h2⟩ => ⟨_, h1, rfl, h2⟩
   ·have h5 : EV _ (fv 5) w1 := hp 5 (LC (by kernel_rfl))
    have h13 : EV _ (fv 13) w1 := hp 13 (LC (by kernel_rfl))
    refine tyAt_none rfl ?_
    refine ty_call (f := 16) (args := #[.agg #[.int .u64 ((zl mc.num : Nat) : Int), .string (zh mc.num), .bool (zs mc.num), .int .u64 ((lo (fe mc) : Nat) : Int), .string (hs (fe mc))], .agg #[.int .u64 ((zl md.num : Nat) : Int), .string (zh md.num), .bool (zs md.num), .int .u64 ((lo (fe md) : Nat) : Int), .string (hs (fe md))]]) (by simp [execOp, go_sem, Act.eval, h5, h13]) ?_
    exact (A3.out w1).mono fun e w2 ⟨h1, h2⟩ => ⟨_, h1, rfl, h2⟩
   ·exact tyAt_new rfl rfl new_frac (below_drew hb1).size
  ·intro j hj u w2 hT
   simp only [List.contains_iff_mem, List.mem_cons, List.not_mem_nil, or_false] at hj
   rcases hj with rfl <;> exact NewB.ptr hT
  ·exact ⟨⟨_, _, _, _, rfl, rfl, rfl, new_frac⟩, trivial⟩
  ·intro fv x10 hb1 hv hne
   have e0 : fv 0 = _ := hv 0 (by omega)
   have e1 : fv 1 = _ := hv 1 (by omega)
   have e2 : fv 2 = _ := hv 2 (by omega)
   have e3 : fv 3 = _ := hv 3 (by omega)
   have e4 : fv 4 = _ := hv 4 (by omega)
   have e5 : fv 5 = _ := hv 5 (by omega)
   have e6 : fv 6 = _ := hv 6 (by omega)
   have e7 : fv 7 = _ := hv 7 (by omega)
   have e8 : fv 8 = _ := hv 8 (by omega)
   have e9 : fv 9 = _ := hv 9 (by omega)
   have e10 : fv 10 = _ := hv 10 (by omega)
   have e11 : fv 11 = _ := hv 11 (by omega)
   have e12 : fv 12 = _ := hv 12 (by omega)
   have e13 : fv 13 = _ := hv 13 (by omega)
   have e14 : fv 14 = _ := hv 14 (by omega)
   obtain ⟨kb15r9, e15, n15, m15⟩ : NewB x9.heap.size [.int .u64 0, .string ⟨#[]⟩, .bool false, .int .u64 0, .string ⟨#[]⟩] (fv 15) x10 := hv 15 (by omega)
   simp only [List.take_succ_cons, List.take_zero, putsV, Act.put, zP, List.drop_succ_cons, List.drop_zero, Nat.zero_add, Nat.reduceAdd, e0, e1, e2, e3, e4, e5, e6, e7, e8, e9, e10, e11, e12, e13, e14, e15]
   have hx0 := hL0
   replace hL0 := hL0.call (below_drew hb1)
   replace hT := hT.call (below_drew hb1)
   replace hL0 := GL.tnew (M := []) hL0 hx0 n15 m15 (fun p hp => by cases hp)
   simp only [List.cons_append, List.nil_append] at hL0
   clear e0 e1 e2 e3 e4 e5 e6 e7 e8 e9 e10 e11 e12 e13 e14 e15 hb1 hv hne hx0 n15 m15 fv
   have hT1 := hT.put ((((((Upd.refl kb15r9 x10).setCell 0 (.int .u64 ((zl aw.num : Nat) : Int))).setCell 1 (.string (zh aw.num))).setCell 2 (.bool (zs aw.num))).setCell 3 (.int .u64 ((lo (fe aw) : Nat) : Int))).setCell 4 (.string (hs (fe aw)))) (hL0.get _ _ mZ) (by intro v hv n; simp only [List.mem_cons, List.not_mem_nil, or_false] at hv; rcases hv with rfl | rfl | rfl | rfl | rfl <;> simp)
   have hA := hL0.fc
   simp only [zF, Nat.reduceAdd] at hA
   have hP := hL0.put 0 (kb15r9) _ rfl [.int .u64 ((zl aw.num : Nat) : Int), .string (zh aw.num), .bool (zs aw.num), .int .u64 ((lo (fe aw) : Nat) : Int), .string (hs (fe aw))] rfl
   simp only [setAll, List.set_cons_zero, List.set_cons_succ] at hP
   generalize hput1 : (((((x10.setCell ⟨kb15r9, 0, none⟩ (.int .u64 ((zl aw.num : Nat) : Int))).setCell ⟨kb15r9, 1, none⟩ (.string (zh aw.num))).setCell ⟨kb15r9, 2, none⟩ (.bool (zs aw.num))).setCell ⟨kb15r9, 3, none⟩ (.int .u64 ((lo (fe aw) : Nat) : Int))).setCell ⟨kb15r9, 4, none⟩ (.string (hs (fe aw)))) = x11 at hP hT1
   have hB1 := hP.fc
   simp only [zF, Nat.reduceAdd] at hB1
   replace hL0 := hP
   replace hT := hT1
   clear hT1
   go_upto_region 10 with fail
   clear hput1 hB1
   clear hA
   refine region_tl 44 [EV (.slice g8 d8 g8c), EV (.agg #[.int .u64 ((zl ux.num : Nat) : Int), .string (zh ux.num), .bool (zs ux.num), .int .u64 ((lo (fe ux) : Nat) : Int), .string (hs (fe ux)), .int .u64 ((zl uy.num : Nat) : Int), .string (zh uy.num), .bool (zs uy.num), .int .u64 ((lo (fe uy) : Nat) : Int), .string (hs (fe uy))]), EV (.agg #[.int .u64 ((zl vx.num : Nat) : Int), .string (zh vx.num), .bool (zs vx.num), .int .u64 ((lo (fe vx) : Nat) : Int), .string (hs (fe vx)), .int .u64 ((zl vy.num : Nat) : Int), .string (zh vy.num), .bool (zs vy.num), .int .u64 ((lo (fe vy) : Nat) : Int), .string (hs (fe vy))]), EV (.agg #[.int .u64 ((zl df.num : Nat) : Int), .string (zh df.num), .bool (zs df.num), .int .u64 ((lo (fe df) : Nat) : Int), .string (hs (fe df))]), EV (.slice g1 d1 g1c), EV (.pointer (some ⟨k4_14, 0, none⟩)), EV (.agg #[.int .u64 ((zl vx.num : Nat) : Int), .string (zh vx.num), .bool (zs vx.num), .int .u64 ((lo (fe vx) : Nat) : Int), .string (hs (fe vx))]), EV (.pointer (some ⟨k4_14, 5, none⟩)), EV (.agg #[.int .u64 ((zl vy.num : Nat) : Int), .string (zh vy.num), .bool (zs vy.num), .int .u64 ((lo (fe vy) : Nat) : Int), .string (hs (fe vy))]), EV (.agg #[.int .u64 ((zl va.num : Nat) : Int), .string (zh va.num), .bool (zs va.num), .int .u64 ((lo (fe va) : Nat) : Int), .string (hs (fe va))]), EV (.slice g1 d1 g1c), EV (.pointer (some ⟨k4_13, 0, none⟩)), EV (.agg #[.int .u64 ((zl ux.num : Nat) : Int), .string (zh ux.num), .bool (zs ux.num), .int .u64 ((lo (fe ux) : Nat) : Int), .string (hs (fe ux))]), EV (.pointer (some ⟨k4_13, 5, none⟩)), EV (.agg #[.int .u64 ((zl uy.num : Nat) : Int), .string (zh uy.num), .bool (zs uy.num), .int .u64 ((lo (fe uy) : Nat) : Int), .string (hs (fe uy))]), EV (.agg #[.int .u64 ((zl ua.num : Nat) : Int), .string (zh ua.num), .bool (zs ua.num), .int .u64 ((lo (fe ua) : Nat) : Int), .string (hs (fe ua))]), EV (.agg #[.int .u64 ((zl df.num : Nat) : Int), .string (zh df.num), .bool (zs df.num), .int .u64 ((lo (fe df) : Nat) : Int), .string (hs (fe df))]), EV (.bool false), EV (.bool false), EV (.agg #[.int .u64 ((zl aw.num : Nat) : Int), .string (zh aw.num), .bool (zs aw.num), .int .u64 ((lo (fe aw) : Nat) : Int), .string (hs (fe aw))]), EV (.agg #[.int .u64 ((zl aw.num : Nat) : Int), .string (zh aw.num), .bool (zs aw.num), .int .u64 ((lo (fe aw) : Nat) : Int), .string (hs (fe aw))]), EV (.bool false), EV (.bool false), EV (.bool false), EV (.slice g1 d1 g1c), EV (.agg #[.int .u64 ((zl vx.num : Nat) : Int), .string (zh vx.num), .bool (zs vx.num), .int .u64 ((lo (fe vx) : Nat) : Int), .string (hs (fe vx)), .int .u64 ((zl vy.num : Nat) : Int), .string (zh vy.num), .bool (zs vy.num), .int .u64 ((lo (fe vy) : Nat) : Int), .string (hs (fe vy))]), EV (.agg #[.int .u64 ((zl ux.num : Nat) : Int), .string (zh ux.num), .bool (zs ux.num), .int .u64 ((lo (fe ux) : Nat) : Int), .string (hs (fe ux)), .int .u64 ((zl uy.num : Nat) : Int), .string (zh uy.num), .bool (zs uy.num), .int .u64 ((lo (fe uy) : Nat) : Int), .string (hs (fe uy))]), EV (.agg #[.int .u64 ((zl aw.num : Nat) : Int), .string (zh aw.num), .bool (zs aw.num), .int .u64 ((lo (fe aw) : Nat) : Int), .string (hs (fe aw))]), EV (.agg #[.int .u64 ((zl aw.num : Nat) : Int), .string (zh aw.num), .bool (zs aw.num), .int .u64 ((lo (fe aw) : Nat) : Int), .string (hs (fe aw))]), EV (.bool false), EV (.bool false), EV (.bool false), EV (.slice g1 d1 g1c), EV (.agg #[.int .u64 ((zl ux.num : Nat) : Int), .string (zh ux.num), .bool (zs ux.num), .int .u64 ((lo (fe ux) : Nat) : Int), .string (hs (fe ux)), .int .u64 ((zl uy.num : Nat) : Int), .string (zh uy.num), .bool (zs uy.num), .int .u64 ((lo (fe uy) : Nat) : Int), .string (hs (fe uy))]), EV (.agg #[.int .u64 ((zl ux.num : Nat) : Int), .string (zh ux.num), .bool (zs ux.num), .int .u64 ((lo (fe ux) : Nat) : Int), .string (hs (fe ux)), .int .u64 ((zl uy.num : Nat) : Int), .string (zh uy.num), .bool (zs uy.num), .int .u64 ((lo (fe uy) : Nat) : Int), .string (hs (fe uy))]), EV (.agg #[.int .u64 ((zl ua.num : Nat) : Int), .string (zh ua.num), .bool (zs ua.num), .int .u64 ((lo (fe ua) : Nat) : Int), .string (hs (fe ua))]), EV (.slice g1 d1 g1c), EV (.pointer (some ⟨k4_13, 0, none⟩)), EV (.agg #[.int .u64 ((zl ux.num : Nat) : Int), .string (zh ux.num), .bool (zs ux.num), .int .u64 ((lo (fe ux) : Nat) : Int), .string (hs (fe ux))]), EV (.pointer (some ⟨k4_13, 5, none⟩)), EV (.agg #[.int .u64 ((zl uy.num : Nat) : Int), .string (zh uy.num), .bool (zs uy.num), .int .u64 ((lo (fe uy) : Nat) : Int), .string (hs (fe uy))]), EV (.agg #[.int .u64 ((zl ua.num : Nat) : Int), .string (zh ua.num), .bool (zs ua.num), .int .u64 ((lo (fe ua) : Nat) : Int), .string (hs (fe ua))]), EV (.bool false), EV (.bool false)] (by kernel_rfl) (by kernel_rfl) ?_ ?_ ?_
   ·repeat' first | exact stays_nil | apply stays_cons | exact stays_eq _
   ·simp only [List.take_succ_cons, List.take_zero, hopsR, and_true]
    refine ⟨?_, ?_, ?_, ?_, ?_, ?_, ?_, ?_, ?_, ?_, ?_, ?_, ?_, ?_, ?_, ?_, ?_, ?_, ?_, ?_, ?_, ?_, ?_, ?_, ?_, ?_, ?_, ?_, ?_, ?_, ?_, ?_, ?_, ?_, ?_, ?_, ?_, ?_, ?_, ?_, ?_, ?_, ?_, ?_⟩ <;> intro fv w1 hb1 hp
    all_goals (have hc := (hL0.call (below_drew hb1)).fc; simp only [zF, Nat.reduceAdd] at hc; simp only [putsV, Act.put, zP, Nat.zero_add, Nat.reduceAdd])
    ·refine tyAt_none rfl ?_
     simp [tyUpon, execOp, go_sem, Act.eval, Below.refl]
    ·refine tyAt_none rfl ?_
     simp [tyUpon, execOp, go_sem, Act.eval, hc, Below.refl]
    ·refine tyAt_none rfl ?_
     simp [tyUpon, execOp, go_sem, Act.eval, hc, Below.refl]
    ·have h0 : EV _ (fv 0) w1 := hp 0 (LC (by kernel_rfl))
     have h1 : EV _ (fv 1) w1 := hp 1 (LC (by kernel_rfl))
     have h2 : EV _ (fv 2) w1 := hp 2 (LC (by kernel_rfl))
     refine tyAt_none rfl ?_
     refine ty_call (f := 27) (args := #[.slice g8 d8 g8c, .agg #[.int .u64 ((zl ux.num : Nat) : Int), .string (zh ux.num), .bool (zs ux.num), .int .u64 ((lo (fe ux) : Nat) : Int), .string (hs (fe ux)), .int .u64 ((zl uy.num : Nat) : Int), .string (zh uy.num), .bool (zs uy.num), .int .u64 ((lo (fe uy) : Nat) : Int), .string (hs (fe uy))], .agg #[.int .u64 ((zl vx.num : Nat) : Int), .string (zh vx.num), .bool (zs vx.num), .int .u64 ((lo (fe vx) : Nat) : Int), .string (hs (fe vx)), .int .u64 ((zl vy.num : Nat) : Int), .string (zh vy.num), .bool (zs vy.num), .int .u64 ((lo (fe vy) : Nat) : Int), .string (hs (fe vy))]]) (by simp [execOp, go_sem, Act.eval, h0, h1, h2]) ?_
     exact (G4.out (.slice g8 d8 g8c) w1 (PT.below (hT.get mZ) (below_drew hb1))).mono fun e w2 ⟨h1, h2⟩ => ⟨_, h1, rfl, h2⟩
    ·refine tyAt_none rfl ?_
     simp [tyUpon, execOp, go_sem, Act.eval, Below.refl]
    ·refine tyAt_none rfl ?_
     simp [tyUpon, execOp, go_sem, Act.eval, Below.refl]
    ·have h5 : EV _ (fv 5) w1 := hp 5 (LC (by kernel_rfl))
     refine tyAt_none rfl ?_
     simp [tyUpon, execOp, go_sem, Act.eval, hc, h5, Below.refl]
    ·refine tyAt_none rfl ?_
     simp [tyUpon, execOp, go_sem, Act.eval, Below.refl]
    ·have h7 : EV _ (fv 7) w1 := hp 7 (LC (by kernel_rfl))
     refine tyAt_none rfl ?_
     simp [tyUpon, execOp, go_sem, Act.eval, hc, h7, Below.refl]
    ·have h4 : EV _ (fv 4) w1 := hp 4 (LC (by kernel_rfl))
     have h6 : EV _ (fv 6) w1 := hp 6 (LC (by kernel_rfl))
     have h8 : EV _ (fv 8) w1 := hp 8 (LC (by kernel_rfl))
     refine tyAt_none rfl ?_
     refine ty_call (f := 28) (args := #[.slice g1 d1 g1c, .agg #[.int .u64 ((zl vx.num : Nat) : Int), .string (zh vx.num), .bool (zs vx.num), .int .u64 ((lo (fe vx) : Nat) : Int), .string (hs (fe vx))], .agg #[.int .u64 ((zl vy.num : Nat) : Int), .string (zh vy.num), .bool (zs vy.num), .int .u64 ((lo (fe vy) : Nat) : Int), .string (hs (fe vy))]]) (by simp [execOp, go_sem, Act.eval, h4, h6, h8]) ?_
     exact (T1.out (.slice g1 d1 g1c) w1 (PT.below (hT.get (mK (mK (mK (mK (mK (mK (mK mZ)))))))) (below_drew hb1))).mono fun e w2 ⟨h1, h2⟩ => ⟨_, h1, rfl, h2⟩
    ·refine tyAt_none rfl ?_
     simp [tyUpon, execOp, go_sem, Act.eval, Below.refl]
    ·refine tyAt_none rfl ?_
     simp [tyUpon, execOp, go_sem, Act.eval, Below.refl]
    ·have h11 : EV _ (fv 11) w1 := hp 11 (LC (by kernel_rfl))
     refine tyAt_none rfl ?_
     simp [tyUpon, execOp, go_sem, Act.eval, hc, h11, Below.refl]
    ·refine tyAt_none rfl ?_
     simp [tyUpon, execOp, go_sem, Act.eval, Below.refl]
    ·have h13 : EV _ (fv 13) w1 := hp 13 (LC (by kernel_rfl))
     refine tyAt_none rfl ?_
     simp [tyUpon, execOp, go_sem, Act.eval, hc, h13, Below.refl]
    ·have h10 : EV _ (fv 10) w1 := hp 10 (LC (by kernel_rfl))
     have h12 : EV _ (fv 12) w1 := hp 12 (LC (by kernel_rfl))
     have h14 : EV _ (fv 14) w1 := hp 14 (LC (by kernel_rfl))
     refine tyAt_none rfl ?_
     refine ty_call (f := 28) (args := #[.slice g1 d1 g1c, .agg #[.int .u64 ((zl ux.num : Nat) : Int), .string (zh ux.num), .bool (zs ux.num), .int .u64 ((lo (fe ux) : Nat) : Int), .string (hs (fe ux))], .agg #[.int .u64 ((zl uy.num : Nat) : Int), .string (zh uy.num), .bool (zs uy.num), .int .u64 ((lo (fe uy) : Nat) : Int), .string (hs (fe uy))]]) (by simp [execOp, go_sem, Act.eval, h10, h12, h14]) ?_
     exact (T2.out (.slice g1 d1 g1c) w1 (PT.below (hT.get (mK (mK (mK (mK (mK (mK (mK mZ)))))))) (below_drew hb1))).mono fun e w2 ⟨h1, h2⟩ => ⟨_, h1, rfl, h2⟩
    ·have h9 : EV _ (fv 9) w1 := hp 9 (LC (by kernel_rfl))
     have h15 : EV _ (fv 15) w1 := hp 15 (LC (by kernel_rfl))
     refine tyAt_none rfl ?_
     refine ty_call (f := 21) (args := #[.agg #[.int .u64 ((zl va.num : Nat) : Int), .string (zh va.num), .bool (zs va.num), .int .u64 ((lo (fe va) : Nat) : Int), .string (hs (fe va))], .agg #[.int .u64 ((zl ua.num : Nat) : Int), .string (zh ua.num), .bool (zs ua.num), .int .u64 ((lo (fe ua) : Nat) : Int), .string (hs (fe ua))]]) (by simp [execOp, go_sem, Act.eval, h9, h15]) ?_
     exact (B4.out w1).mono fun e w2 ⟨h1, h2⟩ => ⟨_, h1, rfl, h2⟩
    ·have h3 : EV _ (fv 3) w1 := hp 3 (LC (by kernel_rfl))
     have h16 : EV _ (fv 16) w1 := hp 16 (LC (by kernel_rfl))
     refine tyAt_none rfl ?_
     simp [tyUpon, execOp, go_sem, Act.eval, h3, h16, Below.refl]
    ·have h17 : EV _ (fv 17) w1 := hp 17 (LC (by kernel_rfl))
     refine tyAt_none rfl ?_
     simp [tyUpon, execOp, go_sem, Act.eval, h17, Below.refl]
    ·have h18 : EV _ (fv 18) w1 := hp 18 (LC (by kernel_rfl))
     refine tyAt_yes (by simp [Region.wanted, yielded, h18]) ?_
     simp [tyUpon, execOp, go_sem, Act.eval, hc, h18, Below.refl]
    ·have h18 : EV _ (fv 18) w1 := hp 18 (LC (by kernel_rfl))
     refine tyAt_yes (by simp [Region.wanted, yielded, h18]) ?_
     simp [tyUpon, execOp, go_sem, Act.eval, hc, h18, Below.refl]
    ·have h19 : EV _ (fv 19) w1 := hp 19 (LC (by kernel_rfl))
     have h20 : EV _ (fv 20) w1 := hp 20 (LC (by kernel_rfl))
     have h18 : EV _ (fv 18) w1 := hp 18 (LC (by kernel_rfl))
     refine tyAt_yes (by simp [Region.wanted, yielded, h19, h20, h18]) ?_
     simp [tyUpon, execOp, go_sem, Act.eval, h19, h20, h18, Below.refl]
    ·have h18 : EV _ (fv 18) w1 := hp 18 (LC (by kernel_rfl))
     have h21 : EV _ (fv 21) w1 := hp 21 (LC (by kernel_rfl))
     refine tyAt_none rfl ?_
     simp [tyUpon, execOp, go_sem, Act.eval, h18, h21, Below.refl]
    ·have h22 : EV _ (fv 22) w1 := hp 22 (LC (by kernel_rfl))
     refine tyAt_none rfl ?_
     simp [tyUpon, execOp, go_sem, Act.eval, h22, Below.refl]
    ·have h23 : EV _ (fv 23) w1 := hp 23 (LC (by kernel_rfl))
     refine tyAt_yes (by simp [Region.wanted, yielded, h23]) ?_
     simp [tyUpon, execOp, go_sem, Act.eval, h23, Below.refl]
    ·have h23 : EV _ (fv 23) w1 := hp 23 (LC (by kernel_rfl))
     refine tyAt_yes (by simp [Region.wanted, yielded, h23]) ?_
     simp [tyUpon, execOp, go_sem, Act.eval, hc, h23, Below.refl]
    ·have h23 : EV _ (fv 23) w1 := hp 23 (LC (by kernel_rfl))
     refine tyAt_yes (by simp [Region.wanted, yielded, h23]) ?_
     simp [tyUpon, execOp, go_sem, Act.eval, hc, h23, Below.refl]
    ·have h24 : EV _ (fv 24) w1 := hp 24 (LC (by kernel_rfl))
     have h25 : EV _ (fv 25) w1 := hp 25 (LC (by kernel_rfl))
     have h26 : EV _ (fv 26) w1 := hp 26 (LC (by kernel_rfl))
     have h23 : EV _ (fv 23) w1 := hp 23 (LC (by kernel_rfl))
     refine tyAt_yes (by simp [Region.wanted, yielded, h24, h25, h26, h23]) ?_
     refine ty_call (f := 27) (args := #[.slice g1 d1 g1c, .agg #[.int .u64 ((zl vx.num : Nat) : Int), .string (zh vx.num), .bool (zs vx.num), .int .u64 ((lo (fe vx) : Nat) : Int), .string (hs (fe vx)), .int .u64 ((zl vy.num : Nat) : Int), .string (zh vy.num), .bool (zs vy.num), .int .u64 ((lo (fe vy) : Nat) : Int), .string (hs (fe vy))], .agg #[.int .u64 ((zl ux.num : Nat) : Int), .string (zh ux.num), .bool (zs ux.num), .int .u64 ((lo (fe ux) : Nat) : Int), .string (hs (fe ux)), .int .u64 ((zl uy.num : Nat) : Int), .string (zh uy.num), .bool (zs uy.num), .int .u64 ((lo (fe uy) : Nat) : Int), .string (hs (fe uy))]]) (by simp [execOp, go_sem, Act.eval, h24, h25, h26, h23]) ?_
     exact (G5.out (.slice g1 d1 g1c) w1 (PT.below (hT.get (mK (mK (mK (mK (mK (mK (mK mZ)))))))) (below_drew hb1))).mono fun e w2 ⟨h1, h2⟩ => ⟨_, h1, rfl, h2⟩
    ·have h23 : EV _ (fv 23) w1 := hp 23 (LC (by kernel_rfl))
     refine tyAt_yes (by simp [Region.wanted, yielded, h23]) ?_
     simp [tyUpon, execOp, go_sem, Act.eval, hc, h23, Below.refl]
    ·have h27 : EV _ (fv 27) w1 := hp 27 (LC (by kernel_rfl))
     have h28 : EV _ (fv 28) w1 := hp 28 (LC (by kernel_rfl))
     have h23 : EV _ (fv 23) w1 := hp 23 (LC (by kernel_rfl))
     refine tyAt_yes (by simp [Region.wanted, yielded, h27, h28, h23]) ?_
     simp [tyUpon, execOp, go_sem, Act.eval, h27, h28, h23, Below.refl]
    ·have h23 : EV _ (fv 23) w1 := hp 23 (LC (by kernel_rfl))
     have h29 : EV _ (fv 29) w1 := hp 29 (LC (by kernel_rfl))
     refine tyAt_none rfl ?_
     simp [tyUpon, execOp, go_sem, Act.eval, h23, h29, Below.refl]
    ·have h30 : EV _ (fv 30) w1 := hp 30 (LC (by kernel_rfl))
     refine tyAt_none rfl ?_
     simp [tyUpon, execOp, go_sem, Act.eval, h30, Below.refl]
    ·have h31 : EV _ (fv 31) w1 := hp 31 (LC (by kernel_rfl))
     refine tyAt_yes (by simp [Region.wanted, yielded, h31]) ?_
     simp [tyUpon, execOp, go_sem, Act.eval, h31, Below.refl]
    ·have h31 : EV _ (fv 31) w1 := hp 31 (LC (by kernel_rfl))
     refine tyAt_yes (by simp [Region.wanted, yielded, h31]) ?_
     simp [tyUpon, execOp, go_sem, Act.eval, hc, h31, Below.refl]
    ·have h31 : EV _ (fv 31) w1 := hp 31 (LC (by kernel_rfl))
     refine tyAt_yes (by simp [Region.wanted, yielded, h31]) ?_
     simp [tyUpon, execOp, go_sem, Act.eval, hc, h31, Below.refl]
    ·have h32 : EV _ (fv 32) w1 := hp 32 (LC (by kernel_rfl))
     have h33 : EV _ (fv 33) w1 := hp 33 (LC (by kernel_rfl))
     have h34 : EV _ (fv 34) w1 := hp 34 (LC (by kernel_rfl))
     have h31 : EV _ (fv 31) w1 := hp 31 (LC (by kernel_rfl))
     refine tyAt_yes (by simp [Region.wanted, yielded, h32, h33, h34, h31]) ?_
     refine ty_call (f := 27) (args := #[.slice g1 d1 g1c, .agg #[.int .u64 ((zl ux.num : Nat) : Int), .string (zh ux.num), .bool (zs ux.num), .int .u64 ((lo (fe ux) : Nat) : Int), .string (hs (fe ux)), .int .u64 ((zl uy.num : Nat) : Int), .string (zh uy.num), .bool (zs uy.num), .int .u64 ((lo (fe uy) : Nat) : Int), .string (hs (fe uy))], .agg #[.int .u64 ((zl ux.num : Nat) : Int), .string (zh ux.num), .bool (zs ux.num), .int .u64 ((lo (fe ux) : Nat) : Int), .string (hs (fe ux)), .int .u64 ((zl uy.num : Nat) : Int), .string (zh uy.num), .bool (zs uy.num), .int .u64 ((lo (fe uy) : Nat) : Int), .string (hs (fe uy))]]) (by simp [execOp, go_sem, Act.eval, h32, h33, h34, h31]) ?_
     exact (G6.out (.slice g1 d1 g1c) w1 (PT.below (hT.get (mK (mK (mK (mK (mK (mK (mK mZ)))))))) (below_drew hb1))).mono fun e w2 ⟨h1, h2⟩ => ⟨_, h1, rfl, h2⟩
    ·have h31 : EV _ (fv 31) w1 := hp 31 (LC (by kernel_rfl))
     refine tyAt_yes (by simp [Region.wanted, yielded, h31]) ?_
     simp [tyUpon, execOp, go_sem, Act.eval, h31, Below.refl]
    ·have h31 : EV _ (fv 31) w1 := hp 31 (LC (by kernel_rfl))
     refine tyAt_yes (by simp [Region.wanted, yielded, h31]) ?_
     simp [tyUpon, execOp, go_sem, Act.eval, h31, Below.refl]
    ·have h37 : EV _ (fv 37) w1 := hp 37 (LC (by kernel_rfl))
     have h31 : EV _ (fv 31) w1 := hp 31 (LC (by kernel_rfl))
     refine tyAt_yes (by simp [Region.wanted, yielded, h37, h31]) ?_
     simp [tyUpon, execOp, go_sem, Act.eval, hc, h37, h31, Below.refl]
    ·have h31 : EV _ (fv 31) w1 := hp 31 (LC (by kernel_rfl))
     refine tyAt_yes (by simp [Region.wanted, yielded, h31]) ?_
     simp [tyUpon, execOp, go_sem, Act.eval, h31, Below.refl]
    ·have h39 : EV _ (fv 39) w1 := hp 39 (LC (by kernel_rfl))
     have h31 : EV _ (fv 31) w1 := hp 31 (LC (by kernel_rfl))
     refine tyAt_yes (by simp [Region.wanted, yielded, h39, h31]) ?_
     simp [tyUpon, execOp, go_sem, Act.eval, hc, h39, h31, Below.refl]
    ·have h36 : EV _ (fv 36) w1 := hp 36 (LC (by kernel_rfl))
     have h38 : EV _ (fv 38) w1 := hp 38 (LC (by kernel_rfl))
     have h40 : EV _ (fv 40) w1 := hp 40 (LC (by kernel_rfl))
     have h31 : EV _ (fv 31) w1 := hp 31 (LC (by kernel_rfl))
     refine tyAt_yes (by simp [Region.wanted, yielded, h36, h38, h40, h31]) ?_
     refine ty_call (f := 28) (args := #[.slice g1 d1 g1c, .agg #[.int .u64 ((zl ux.num : Nat) : Int), .string (zh ux.num), .bool (zs ux.num), .int .u64 ((lo (fe ux) : Nat) : Int), .string (hs (fe ux))], .agg #[.int .u64 ((zl uy.num : Nat) : Int), .string (zh uy.num), .bool (zs uy.num), .int .u64 ((lo (fe uy) : Nat) : Int), .string (hs (fe uy))]]) (by simp [execOp, go_sem, Act.eval, h36, h38, h40, h31]) ?_
     exact (T2.out (.slice g1 d1 g1c) w1 (PT.below (hT.get (mK (mK (mK (mK (mK (mK (mK mZ)))))))) (below_drew hb1))).mono fun e w2 ⟨h1, h2⟩ => ⟨_, h1, rfl, h2⟩
    ·have h35 : EV _ (fv 35) w1 := hp 35 (LC (by kernel_rfl))
     have h41 : EV _ (fv 41) w1 := hp 41 (LC (by kernel_rfl))
     have h31 : EV _ (fv 31) w1 := hp 31 (LC (by kernel_rfl))
     refine tyAt_yes (by simp [Region.wanted, yielded, h35, h41, h31]) ?_
     simp [tyUpon, execOp, go_sem, Act.eval, h35, h41, h31, Below.refl]
    ·have h31 : EV _ (fv 31) w1 := hp 31 (LC (by kernel_rfl))
     have h42 : EV _ (fv 42) w1 := hp 42 (LC (by kernel_rfl))
     refine tyAt_none rfl ?_
     simp [tyUpon, execOp, go_sem, Act.eval, h31, h42, Below.refl]
   ·intro fv x12 hb1 hv
    have e0 : fv 0 = _ := hv 0 (by omega)
    have e1 : fv 1 = _ := hv 1 (by omega)
    have e2 : fv 2 = _ := hv 2 (by omega)
    have e3 : fv 3 = _ := hv 3 (by omega)
    have e4 : fv 4 = _ := hv 4 (by omega)
    have e5 : fv 5 = _ := hv 5 (by omega)
    have e6 : fv 6 = _ := hv 6 (by omega)
    have e7 : fv 7 = _ := hv 7 (by omega)
    have e8 : fv 8 = _ := hv 8 (by omega)
    have e9 : fv 9 = _ := hv 9 (by omega)
    have e10 : fv 10 = _ := hv 10 (by omega)
    have e11 : fv 11 = _ := hv 11 (by omega)
    have e12 : fv 12 = _ := hv 12 (by omega)
    have e13 : fv 13 = _ := hv 13 (by omega)
    have e14 : fv 14 = _ := hv 14 (by omega)
    have e15 : fv 15 = _ := hv 15 (by omega)
    have e16 : fv 16 = _ := hv 16 (by omega)
    have e17 : fv 17 = _ := hv 17 (by omega)
    have e18 : fv 18 = _ := hv 18 (by omega)
    have e19 : fv 19 = _ := hv 19 (by omega)
    have e20 : fv 20 = _ := hv 20 (by omega)
    have e21 : fv 21 = _ := hv 21 (by omega)
    have e22 : fv 22 = _ := hv 22 (by omega)
    have e23 : fv 23 = _ := hv 23 (by omega)
    have e24 : fv 24 = _ := hv 24 (by omega)
    have e25 : fv 25 = _ := hv 25 (by omega)
    have e26 : fv 26 = _ := hv 26 (by omega)
    have e27 : fv 27 = _ := hv 27 (by omega)
    have e28 : fv 28 = _ := hv 28 (by omega)
    have e29 : fv 29 = _ := hv 29 (by omega)
    have e30 : fv 30 = _ := hv 30 (by omega)
    have e31 : fv 31 = _ := hv 31 (by omega)
    have e32 : fv 32 = _ := hv 32 (by omega)
    have e33 : fv 33 = _ := hv 33 (by omega)
    have e34 : fv 34 = _ := hv 34 (by omega)
    have e35 : fv 35 = _ := hv 35 (by omega)
    have e36 : fv 36 = _ := hv 36 (by omega)
    have e37 : fv 37 = _ := hv 37 (by omega)
    have e38 : fv 38 = _ := hv 38 (by omega)
    have e39 : fv 39 = _ := hv 39 (by omega)
    have e40 : fv 40 = _ := hv 40 (by omega)
    have e41 : fv 41 = _ := hv 41 (by omega)
    have e42 : fv 42 = _ := hv 42 (by omega)
    have e43 : fv 43 = _ := hv 43 (by omega)
    simp only [List.take_succ_cons, List.take_zero, putsV, Act.put, zP, List.drop_succ_cons, List.drop_zero, Nat.zero_add, Nat.reduceAdd, e0, e1, e2, e3, e4, e5, e6, e7, e8, e9, e10, e11, e12, e13, e14, e15, e16, e17, e18, e19, e20, e21, e22, e23, e24, e25, e26, e27, e28, e29, e30, e31, e32, e33, e34, e35, e36, e37, e38, e39, e40, e41, e42, e43]
    replace hL0 := hL0.call (below_drew hb1)
    replace hT := hT.call (below_drew hb1)
    clear e0 e1 e2 e3 e4 e5 e6 e7 e8 e9 e10 e11 e12 e13 e14 e15 e16 e17 e18 e19 e20 e21 e22 e23 e24 e25 e26 e27 e28 e29 e30 e31 e32 e33 e34 e35 e36 e37 e38 e39 e40 e41 e42 e43 hb1 hv fv
    have hN0 := cells_of _ 0 [] rfl (hL0.get _ _ (mK (mK (mK (mK (mK (mK mZ)))))))
    simp only [zF, Nat.reduceAdd] at hN0
    have hN1 := cells_of _ 0 [] rfl (hL0.get _ _ (mK (mK (mK (mK (mK (mK (mK mZ))))))))
    simp only [zF, Nat.reduceAdd] at hN1
    go_wp2_with fail
    clear hN0 hN1
    with_reducible refine Calls.mono (F1.out (.slice g1 d1 g1c) (.slice g2 d2 g2c) _ (hT.get (mK (mK (mK (mK (mK (mK (mK mZ)))))))) (hT.get (mK (mK (mK (mK (mK (mK mZ)))))))) ?_
    rintro e x13 ⟨rfl, hb⟩
    replace hL0 := hL0.call hb
    replace hT := hT.call hb
    clear hb
    replace hT := (hT.new (.cells #[.int .u64 ((zl fl.num : Nat) : Int), .string (zh fl.num), .bool (zs fl.num), .int .u64 ((lo (fe fl) : Nat) : Int), .string (hs (fe fl))] 38))
    replace hL0 := (hL0.new rfl [.int .u64 ((zl fl.num : Nat) : Int), .string (zh fl.num), .bool (zs fl.num), .int .u64 ((lo (fe fl) : Nat) : Int), .string (hs (fe fl))] 38)
    generalize hweq : (x13.alloc (.cells #[.int .u64 ((zl fl.num : Nat) : Int), .string (zh fl.num), .bool (zs fl.num), .int .u64 ((lo (fe fl) : Nat) : Int), .string (hs (fe fl))] 38)) = x14 at hL0 hT
    go_upto_region 13 with fail
    clear hweq
    refine region_tl 27 [EV (.slice g1 d1 g1c), EV (.slice g2 d2 g2c), EV (.agg #[.int .u64 ((zl vx.num : Nat) : Int), .string (zh vx.num), .bool (zs vx.num), .int .u64 ((lo (fe vx) : Nat) : Int), .string (hs (fe vx)), .int .u64 ((zl vy.num : Nat) : Int), .string (zh vy.num), .bool (zs vy.num), .int .u64 ((lo (fe vy) : Nat) : Int), .string (hs (fe vy))]), EV (.agg #[.int .u64 ((zl ux.num : Nat) : Int), .string (zh ux.num), .bool (zs ux.num), .int .u64 ((lo (fe ux) : Nat) : Int), .string (hs (fe ux)), .int .u64 ((zl uy.num : Nat) : Int), .string (zh uy.num), .bool (zs uy.num), .int .u64 ((lo (fe uy) : Nat) : Int), .string (hs (fe uy))]), EV (.agg #[.int .u64 ((zl fn.num : Nat) : Int), .string (zh fn.num), .bool (zs fn.num), .int .u64 ((lo (fe fn) : Nat) : Int), .string (hs (fe fn))]), EV (.agg #[.int .u64 ((zl fl.num : Nat) : Int), .string (zh fl.num), .bool (zs fl.num), .int .u64 ((lo (fe fl) : Nat) : Int), .string (hs (fe fl))]), EV (.agg #[.int .u64 ((zl fn.num : Nat) : Int), .string (zh fn.num), .bool (zs fn.num), .int .u64 ((lo (fe fn) : Nat) : Int), .string (hs (fe fn))]), EV (.bool true), EV (.bool true), EV (.agg #[.int .u64 ((zl fl.num : Nat) : Int), .string (zh fl.num), .bool (zs fl.num), .int .u64 ((lo (fe fl) : Nat) : Int), .string (hs (fe fl))]), EV (.slice g1 d1 g1c), EV (.slice g2 d2 g2c), EV (.agg #[.int .u64 ((zl ux.num : Nat) : Int), .string (zh ux.num), .bool (zs ux.num), .int .u64 ((lo (fe ux) : Nat) : Int), .string (hs (fe ux)), .int .u64 ((zl uy.num : Nat) : Int), .string (zh uy.num), .bool (zs uy.num), .int .u64 ((lo (fe uy) : Nat) : Int), .string (hs (fe uy))]), EV (.agg #[.int .u64 ((zl cx.num : Nat) : Int), .string (zh cx.num), .bool (zs cx.num), .int .u64 ((lo (fe cx) : Nat) : Int), .string (hs (fe cx)), .int .u64 ((zl cy.num : Nat) : Int), .string (zh cy.num), .bool (zs cy.num), .int .u64 ((lo (fe cy) : Nat) : Int), .string (hs (fe cy))]), EV (.agg #[.int .u64 ((zl fa.num : Nat) : Int), .string (zh fa.num), .bool (zs fa.num), .int .u64 ((lo (fe fa) : Nat) : Int), .string (hs (fe fa))]), EV (.slice g1 d1 g1c), EV (.slice g2 d2 g2c), EV (.agg #[.int .u64 ((zl cx.num : Nat) : Int), .string (zh cx.num), .bool (zs cx.num), .int .u64 ((lo (fe cx) : Nat) : Int), .string (hs (fe cx)), .int .u64 ((zl cy.num : Nat) : Int), .string (zh cy.num), .bool (zs cy.num), .int .u64 ((lo (fe cy) : Nat) : Int), .string (hs (fe cy))]), EV (.agg #[.int .u64 ((zl vx.num : Nat) : Int), .string (zh vx.num), .bool (zs vx.num), .int .u64 ((lo (fe vx) : Nat) : Int), .string (hs (fe vx)), .int .u64 ((zl vy.num : Nat) : Int), .string (zh vy.num), .bool (zs vy.num), .int .u64 ((lo (fe vy) : Nat) : Int), .string (hs (fe vy))]), EV (.agg #[.int .u64 ((zl fb.num : Nat) : Int), .string (zh fb.num), .bool (zs fb.num), .int .u64 ((lo (fe fb) : Nat) : Int), .string (hs (fe fb))]), EV (.agg #[.int .u64 ((zl fl.num : Nat) : Int), .string (zh fl.num), .bool (zs fl.num), .int .u64 ((lo (fe fl) : Nat) : Int), .string (hs (fe fl))]), EV (.bool true), EV (.bool true), EV (.bool true), EV (.bool true), EV (.bool true), EV (.bool true)] (by kernel_rfl) (by kernel_rfl) ?_ ?_ ?_
    ·repeat' first | exact stays_nil | apply stays_cons | exact stays_eq _
    ·simp only [List.take_succ_cons, List.take_zero, hopsR, and_true]
     refine ⟨?_, ?_, ?_, ?_, ?_, ?_, ?_, ?_, ?_, ?_, ?_, ?_, ?_, ?_, ?_, ?_, ?_, ?_, ?_, ?_, ?_, ?_, ?_, ?_, ?_, ?_, ?_⟩ <;> intro fv w1 hb1 hp
     all_goals (have hc := (hL0.call (below_drew hb1)).fc; simp only [zF, Nat.reduceAdd] at hc; simp only [putsV, Act.put, zP, Nat.zero_add, Nat.reduceAdd])
     ·refine tyAt_none rfl ?_
      simp [tyUpon, execOp, go_sem, Act.eval, Below.refl]
     ·refine tyAt_none rfl ?_
      simp [tyUpon, execOp, go_sem, Act.eval, Below.refl]
     ·refine tyAt_none rfl ?_
      simp [tyUpon, execOp, go_sem, Act.eval, hc, Below.refl]
     ·refine tyAt_none rfl ?_
      simp [tyUpon, execOp, go_sem, Act.eval, hc, Below.refl]
     ·have h0 : EV _ (fv 0) w1 := hp 0 (LC (by kernel_rfl))
      have h1 : EV _ (fv 1) w1 := hp 1 (LC (by kernel_rfl))
      have h2 : EV _ (fv 2) w1 := hp 2 (LC (by kernel_rfl))
      have h3 : EV _ (fv 3) w1 := hp 3 (LC (by kernel_rfl))
      refine tyAt_none rfl ?_
      refine ty_call (f := 15) (args := #[.slice g1 d1 g1c, .slice g2 d2 g2c, .agg #[.int .u64 ((zl vx.num : Nat) : Int), .string (zh vx.num), .bool (zs vx.num), .int .u64 ((lo (fe vx) : Nat) : Int), .string (hs (fe vx)), .int .u64 ((zl vy.num : Nat) : Int), .string (zh vy.num), .bool (zs vy.num), .int .u64 ((lo (fe vy) : Nat) : Int), .string (hs (fe vy))], .agg #[.int .u64 ((zl ux.num : Nat) : Int), .string (zh ux.num), .bool (zs ux.num), .int .u64 ((lo (fe ux) : Nat) : Int), .string (hs (fe ux)), .int .u64 ((zl uy.num : Nat) : Int), .string (zh uy.num), .bool (zs uy.num), .int .u64 ((lo (fe uy) : Nat) : Int), .string (hs (fe uy))]]) (by simp [execOp, go_sem, Act.eval, h0, h1, h2, h3]) ?_
      exact (F2.out (.slice g1 d1 g1c) (.slice g2 d2 g2c) w1 (PT.below (hT.get (mK (mK (mK (mK (mK (mK (mK mZ)))))))) (below_drew hb1)) (PT.below (hT.get (mK (mK (mK (mK (mK (mK mZ))))))) (below_drew hb1))).mono fun e w2 ⟨h1, h2⟩ => ⟨_, h1, rfl, h2⟩
     ·refine tyAt_none rfl ?_
      simp [tyUpon, execOp, go_sem, Act.eval, hc, Below.refl]
     ·have h5 : EV _ (fv 5) w1 := hp 5 (LC (by kernel_rfl))
      refine tyAt_none rfl ?_
      refine ty_call (f := 17) (args := #[.agg #[.int .u64 ((zl fl.num : Nat) : Int), .string (zh fl.num), .bool (zs fl.num), .int .u64 ((lo (fe fl) : Nat) : Int), .string (hs (fe fl))]]) (by simp [execOp, go_sem, Act.eval, h5]) ?_
      exact (N1.out w1).mono fun e w2 ⟨h1, h2⟩ => ⟨_, h1, rfl, h2⟩
     ·have h4 : EV _ (fv 4) w1 := hp 4 (LC (by kernel_rfl))
      have h6 : EV _ (fv 6) w1 := hp 6 (LC (by kernel_rfl))
      refine tyAt_none rfl ?_
      simp [tyUpon, execOp, go_sem, Act.eval, h4, h6, Below.refl]
     ·have h7 : EV _ (fv 7) w1 := hp 7 (LC (by kernel_rfl))
      refine tyAt_none rfl ?_
      simp [tyUpon, execOp, go_sem, Act.eval, h7, Below.refl]
     ·have h8 : EV _ (fv 8) w1 := hp 8 (LC (by kernel_rfl))
      refine tyAt_yes (by simp [Region.wanted, yielded, h8]) ?_
      simp [tyUpon, execOp, go_sem, Act.eval, hc, h8, Below.refl]
     ·have h8 : EV _ (fv 8) w1 := hp 8 (LC (by kernel_rfl))
      refine tyAt_yes (by simp [Region.wanted, yielded, h8]) ?_
      simp [tyUpon, execOp, go_sem, Act.eval, h8, Below.refl]
     ·have h8 : EV _ (fv 8) w1 := hp 8 (LC (by kernel_rfl))
      refine tyAt_yes (by simp [Region.wanted, yielded, h8]) ?_
      simp [tyUpon, execOp, go_sem, Act.eval, h8, Below.refl]
     ·have h8 : EV _ (fv 8) w1 := hp 8 (LC (by kernel_rfl))
      refine tyAt_yes (by simp [Region.wanted, yielded, h8]) ?_
      simp [tyUpon, execOp, go_sem, Act.eval, hc, h8, Below.refl]
     ·have h8 : EV _ (fv 8) w1 := hp 8 (LC (by kernel_rfl))
      refine tyAt_yes (by simp [Region.wanted, yielded, h8]) ?_
      simp [tyUpon, execOp, go_sem, Act.eval, hc, h8, Below.refl]
     ·have h10 : EV _ (fv 10) w1 := hp 10 (LC (by kernel_rfl))
      have h11 : EV _ (fv 11) w1 := hp 11 (LC (by kernel_rfl))
      have h12 : EV _ (fv 12) w1 := hp 12 (LC (by kernel_rfl))
      have h13 : EV _ (fv 13) w1 := hp 13 (LC (by kernel_rfl))
      have h8 : EV _ (fv 8) w1 := hp 8 (LC (by kernel_rfl))
      refine tyAt_yes (by simp [Region.wanted, yielded, h10, h11, h12, h13, h8]) ?_
      refine ty_call (f := 15) (args := #[.slice g1 d1 g1c, .slice g2 d2 g2c, .agg #[.int .u64 ((zl ux.num : Nat) : Int), .string (zh ux.num), .bool (zs ux.num), .int .u64 ((lo (fe ux) : Nat) : Int), .string (hs (fe ux)), .int .u64 ((zl uy.num : Nat) : Int), .string (zh uy.num), .bool (zs uy.num), .int .u64 ((lo (fe uy) : Nat) : Int), .string (hs (fe uy))], .agg #[.int .u64 ((zl cx.num : Nat) : Int), .string (zh cx.num), .bool (zs cx.num), .int .u64 ((lo (fe cx) : Nat) : Int), .string (hs (fe cx)), .int .u64 ((zl cy.num : Nat) : Int), .string (zh cy.num), .bool (zs cy.num), .int .u64 ((lo (fe cy) : Nat) : Int), .string (hs (fe cy))]]) (by simp [execOp, go_sem, Act.eval, h10, h11, h12, h13, h8]) ?_
      exact (F3.out (.slice g1 d1 g1c) (.slice g2 d2 g2c) w1 (PT.below (hT.get (mK (mK (mK (mK (mK (mK (mK mZ)))))))) (below_drew hb1)) (PT.below (hT.get (mK (mK (mK (mK (mK (mK mZ))))))) (below_drew hb1))).mono fun e w2 ⟨h1, h2⟩ => ⟨_, h1, rfl, h2⟩
     ·have h8 : EV _ (fv 8) w1 := hp 8 (LC (by kernel_rfl))
      refine tyAt_yes (by simp [Region.wanted, yielded, h8]) ?_
      simp [tyUpon, execOp, go_sem, Act.eval, h8, Below.refl]
     ·have h8 : EV _ (fv 8) w1 := hp 8 (LC (by kernel_rfl))
      refine tyAt_yes (by simp [Region.wanted, yielded, h8]) ?_
      simp [tyUpon, execOp, go_sem, Act.eval, h8, Below.refl]
     ·have h8 : EV _ (fv 8) w1 := hp 8 (LC (by kernel_rfl))
      refine tyAt_yes (by simp [Region.wanted, yielded, h8]) ?_
      simp [tyUpon, execOp, go_sem, Act.eval, hc, h8, Below.refl]
     ·have h8 : EV _ (fv 8) w1 := hp 8 (LC (by kernel_rfl))
      refine tyAt_yes (by simp [Region.wanted, yielded, h8]) ?_
      simp [tyUpon, execOp, go_sem, Act.eval, hc, h8, Below.refl]
     ·have h15 : EV _ (fv 15) w1 := hp 15 (LC (by kernel_rfl))
      have h16 : EV _ (fv 16) w1 := hp 16 (LC (by kernel_rfl))
      have h17 : EV _ (fv 17) w1 := hp 17 (LC (by kernel_rfl))
      have h18 : EV _ (fv 18) w1 := hp 18 (LC (by kernel_rfl))
      have h8 : EV _ (fv 8) w1 := hp 8 (LC (by kernel_rfl))
      refine tyAt_yes (by simp [Region.wanted, yielded, h15, h16, h17, h18, h8]) ?_
      refine ty_call (f := 15) (args := #[.slice g1 d1 g1c, .slice g2 d2 g2c, .agg #[.int .u64 ((zl cx.num : Nat) : Int), .string (zh cx.num), .bool (zs cx.num), .int .u64 ((lo (fe cx) : Nat) : Int), .string (hs (fe cx)), .int .u64 ((zl cy.num : Nat) : Int), .string (zh cy.num), .bool (zs cy.num), .int .u64 ((lo (fe cy) : Nat) : Int), .string (hs (fe cy))], .agg #[.int .u64 ((zl vx.num : Nat) : Int), .string (zh vx.num), .bool (zs vx.num), .int .u64 ((lo (fe vx) : Nat) : Int), .string (hs (fe vx)), .int .u64 ((zl vy.num : Nat) : Int), .string (zh vy.num), .bool (zs vy.num), .int .u64 ((lo (fe vy) : Nat) : Int), .string (hs (fe vy))]]) (by simp [execOp, go_sem, Act.eval, h15, h16, h17, h18, h8]) ?_
      exact (F4.out (.slice g1 d1 g1c) (.slice g2 d2 g2c) w1 (PT.below (hT.get (mK (mK (mK (mK (mK (mK (mK mZ)))))))) (below_drew hb1)) (PT.below (hT.get (mK (mK (mK (mK (mK (mK mZ))))))) (below_drew hb1))).mono fun e w2 ⟨h1, h2⟩ => ⟨_, h1, rfl, h2⟩
     ·have h14 : EV _ (fv 14) w1 := hp 14 (LC (by kernel_rfl))
      have h19 : EV _ (fv 19) w1 := hp 19 (LC (by kernel_rfl))
      have h8 : EV _ (fv 8) w1 := hp 8 (LC (by kernel_rfl))
      refine tyAt_yes (by simp [Region.wanted, yielded, h14, h19, h8]) ?_
      refine ty_call (f := 16) (args := #[.agg #[.int .u64 ((zl fa.num : Nat) : Int), .string (zh fa.num), .bool (zs fa.num), .int .u64 ((lo (fe fa) : Nat) : Int), .string (hs (fe fa))], .agg #[.int .u64 ((zl fb.num : Nat) : Int), .string (zh fb.num), .bool (zs fb.num), .int .u64 ((lo (fe fb) : Nat) : Int), .string (hs (fe fb))]]) (by simp [execOp, go_sem, Act.eval, h14, h19, h8]) ?_
      exact (A4.out w1).mono fun e w2 ⟨h1, h2⟩ => ⟨_, h1, rfl, h2⟩
     ·have h9 : EV _ (fv 9) w1 := hp 9 (LC (by kernel_rfl))
      have h20 : EV _ (fv 20) w1 := hp 20 (LC (by kernel_rfl))
      have h8 : EV _ (fv 8) w1 := hp 8 (LC (by kernel_rfl))
      refine tyAt_yes (by simp [Region.wanted, yielded, h9, h20, h8]) ?_
      simp [tyUpon, execOp, go_sem, Act.eval, h9, h20, h8, Below.refl]
     ·have h8 : EV _ (fv 8) w1 := hp 8 (LC (by kernel_rfl))
      have h21 : EV _ (fv 21) w1 := hp 21 (LC (by kernel_rfl))
      refine tyAt_none rfl ?_
      simp [tyUpon, execOp, go_sem, Act.eval, h8, h21, Below.refl]
     ·have h22 : EV _ (fv 22) w1 := hp 22 (LC (by kernel_rfl))
      refine tyAt_none rfl ?_
      simp [tyUpon, execOp, go_sem, Act.eval, h22, Below.refl]
     ·have h23 : EV _ (fv 23) w1 := hp 23 (LC (by kernel_rfl))
      refine tyAt_yes (by simp [Region.wanted, yielded, h23]) ?_
      refine ty_call (f := 7) (args := #[]) (by simp [execOp, go_sem, Act.eval, h23]) ?_
      exact (HW.out w1 (hKT.out.at ((hL0.call (below_drew hb1)).bl) kKT)).mono fun e w2 ⟨h1, h2⟩ => ⟨_, h1, rfl, h2⟩
     ·have h23 : EV _ (fv 23) w1 := hp 23 (LC (by kernel_rfl))
      have h24 : EV _ (fv 24) w1 := hp 24 (LC (by kernel_rfl))
      refine tyAt_none rfl ?_
      simp [tyUpon, execOp, go_sem, Act.eval, h23, h24, Below.refl]
     ·have h25 : EV _ (fv 25) w1 := hp 25 (LC (by kernel_rfl))
      refine tyAt_none rfl ?_
      simp [tyUpon, execOp, go_sem, Act.eval, h25, Below.refl]
    ·intro fv x15 hb1 hv
     have e0 : fv 0 = _ := hv 0 (by omega)
     have e1 : fv 1 = _ := hv 1 (by omega)
     have e2 : fv 2 = _ := hv 2 (by omega)
     have e3 : fv 3 = _ := hv 3 (by omega)
     have e4 : fv 4 = _ := hv 4 (by omega)
     have e5 : fv 5 = _ := hv 5 (by omega)
     have e6 : fv 6 = _ := hv 6 (by omega)
     have e7 : fv 7 = _ := hv 7 (by omega)
     have e8 : fv 8 = _ := hv 8 (by omega)
     have e9 : fv 9 = _ := hv 9 (by omega)
     have e10 : fv 10 = _ := hv 10 (by omega)
     have e11 : fv 11 = _ := hv 11 (by omega)
     have e12 : fv 12 = _ := hv 12 (by omega)
     have e13 : fv 13 = _ := hv 13 (by omega)
     have e14 : fv 14 = _ := hv 14 (by omega)
     have e15 : fv 15 = _ := hv 15 (by omega)
     have e16 : fv 16 = _ := hv 16 (by omega)
     have e17 : fv 17 = _ := hv 17 (by omega)
     have e18 : fv 18 = _ := hv 18 (by omega)
     have e19 : fv 19 = _ := hv 19 (by omega)
     have e20 : fv 20 = _ := hv 20 (by omega)
     have e21 : fv 21 = _ := hv 21 (by omega)
     have e22 : fv 22 = _ := hv 22 (by omega)
     have e23 : fv 23 = _ := hv 23 (by omega)
     have e24 : fv 24 = _ := hv 24 (by omega)
     have e25 : fv 25 = _ := hv 25 (by omega)
     have e26 : fv 26 = _ := hv 26 (by omega)
     simp only [List.take_succ_cons, List.take_zero, putsV, Act.put, zP, List.drop_succ_cons, List.drop_zero, Nat.zero_add, Nat.reduceAdd, e0, e1, e2, e3, e4, e5, e6, e7, e8, e9, e10, e11, e12, e13, e14, e15, e16, e17, e18, e19, e20, e21, e22, e23, e24, e25, e26]
     replace hL0 := hL0.call (below_drew hb1)
     replace hT := hT.call (below_drew hb1)
     clear e0 e1 e2 e3 e4 e5 e6 e7 e8 e9 e10 e11 e12 e13 e14 e15 e16 e17 e18 e19 e20 e21 e22 e23 e24 e25 e26 hb1 hv fv
     go_wp2_with fail
     exact bodyPost_ret (v := .bool true) (by simp [results, Tryz.results5, go_sem]) rfl ⟨rfl, hL0.bl⟩
end Go.Proofs.YtkdbhacimoaohaaGreatDoor
namespace Go.Proofs.YtkdbhacimoaohaaGreatDoor
open Go.RowKit
attribute [local irreducible] lo hs sm s64 c64 d64 b64 mh ml pd pc qd qc val hiB str cmpI srD lz nb zl zh zs fe klT ordZ Bs
theorem iways_any (l m : List RI) (hl : RO l) (hm : RO m) (iun iud ium iue ivn ivd ivm ive isn isd : Int) (bu : PB9 iun iud ium iue) (bv : PB9 ivn ivd ivm ive) (bsn : -9223372036854775808 ≤ isn ∧ isn < 9223372036854775808) (bsd : 0 ≤ isd ∧ isd < 4294967296) (al am : Option Addr) (nl cl nm cm : Nat) (w : World) (hv : RW8 w (.slice al nl cl) l) (hu : RW8 w (.slice am nm cm) m) (ht : Tab w) :
  Calls Tryz.prog 5 #[.slice al nl cl, .slice am nm cm, .agg #[.int .i64 iun, .int .u32 iud, .int .i64 ium, .int .u32 iue], .agg #[.int .i64 ivn, .int .u32 ivd, .int .i64 ivm, .int .u32 ive], .agg #[.int .i64 isn, .int .u32 isd]] w fun e w' => e = .returned (.bool true) ∧ Below w.heap.size w w' := by
 have n1 := (rt_parts hv).1
 have n2 := (rt_parts hu).1
 by_cases g1 : 8 < nl
 ·exact iways_l1 al am nl cl nm cm iun iud ium iue ivn ivd ivm ive isn isd Tab Keeps.tab works9_any (decide_eq_true (by omega)) (decide_eq_true g1) w ht
 by_cases g2 : 8 < nm
 ·exact iways_l2 al am nl cl nm cm iun iud ium iue ivn ivd ivm ive isn isd Tab Keeps.tab works9_any (decide_eq_false (by omega)) (decide_eq_false g1) (decide_eq_true (by omega)) (decide_eq_true g2) w ht
 have ga := made_gp hl (by omega) (D := 6) (by omega)
 have gb := made_gp hm (by omega) (D := 6) (by omega)
 have hA := fun w hv => made_any hl (by omega) (D := 6) (by omega) al nl cl w hv
 have hB := fun w hv => made_any hm (by omega) (D := 6) (by omega) am nm cm w hv
 generalize nrm (madeL l 6) = A at ga hA
 generalize nrm (madeL m 6) = B at gb hB
 have ou := fun w => pofG bu w
 have qu := ps_pq bu
 generalize pq9 iun iud ium iue = U at ou qu
 have ov := fun w => pofG bv w
 have qv := ps_pq bv
 generalize pq9 ivn ivd ivm ive = V at ov qv
 have os := qof_any isn isd bsn.1 bsn.2 bsd.1 bsd.2
 have zs9 := qmade_sz isn isd.toNat bsn.1 bsn.2 (by omega)
 generalize qmade isn isd.toNat = S at os zs9
 have f1 : Fit 7 13 17 6 3200 := ⟨by omega, by omega, by omega, by omega, by omega, by omega, by unfold shK; omega, by omega⟩
 have f3 : Fit 7 3 43 6 3200 := ⟨by omega, by omega, by omega, by omega, by omega, by omega, by unfold shK; omega, by omega⟩
 have gx := ga.dx (by omega)
 have gy := ga.dy (by omega)
 have zx := (qv.x.sub qu.x).mono (show 1 + 1 + 1 ≤ 3 by omega)
 have zy := (qv.y.sub qu.y).mono (show 1 + 1 + 1 ≤ 3 by omega)
 have cx := gx.scale zx
 have cy := gy.scale zy
 have gs := (cx.add cy).mono (show max 6 6 ≤ 6 by omega) (show 3 + (17 + 1) + (3 + (17 + 1)) + 1 ≤ 43 by omega)
 have q6 := qu.mono (show 1 ≤ 6 by omega)
 have v6 := qv.mono (show 1 ≤ 6 by omega)
 have c6 : PS (cutP U V S) 6 := ⟨(qu.x.add (zs9.mul zx)).mono (by omega), (qu.y.add (zs9.mul zy)).mono (by omega)⟩
 have s1 := (seg_sz (k := 6) f1 ga q6 c6).mono (show 169 * (3200 + 61) + 1 ≤ 600000 by omega)
 have s2 := (seg_sz (k := 6) f1 ga c6 v6).mono (show 169 * (3200 + 61) + 1 ≤ 600000 by omega)
 have w1 := (flow_sz (k := 6) f1 f1 ga gb q6 c6).mono (show 339 * (3200 + 62) ≤ 2000000 by omega)
 have w2 := (flow_sz (k := 6) f1 f1 ga gb c6 v6).mono (show 339 * (3200 + 62) ≤ 2000000 by omega)
 have t1 := at_sz ga (by omega) (by omega) qv.x qv.y (by omega)
 have t2 := at_sz ga (by omega) (by omega) qu.x qu.y (by omega)
 have r1 := (sz_one9.sub zs9).mono (show 1 + 1 + 1 ≤ 600000 by omega)
 have e1 : S * segV A U (cutP U V S) + (1 - S) * segV A (cutP U V S) V = segV A U V := segV_cut A U V S
 have e2 : segV (addN (scaleN (V.x - U.x) (dxN A)) (scaleN (V.y - U.y) (dyN A))) U V = atL A V.x V.y - atL A U.x U.y :=
  (segV_eqv ((addN_eqv _ _).trans (add_eqv ((scaleN_eqv9 _ _).trans fun F => by rw [pair_scale, pair_scale, dxN_eqv A F]) ((scaleN_eqv9 _ _).trans fun F => by rw [pair_scale, pair_scale, dyN_eqv A F]))) U V).trans (segV_ftc A U V)
 have e3 : flowV A B U (cutP U V S) + flowV A B (cutP U V S) V = flowV A B U V := (flow_cut A B U V S).symm
 refine iways_w al am nl cl nm cm iun iud ium iue ivn ivd ivm ive isn isd (ofL A) (ofL B) (ofL (dxN A)) (ofL (dyN A)) (ofL (scaleN (V.x - U.x) (dxN A))) (ofL (scaleN (V.y - U.y) (dyN A))) (ofL (addN (scaleN (V.x - U.x) (dxN A)) (scaleN (V.y - U.y) (dyN A)))) U.x U.y V.x V.y (cutP U V S).x (cutP U V S).y S (V.x - U.x) (V.y - U.y) (segV A U V) (S * (V.x - U.x)) (S * (V.y - U.y)) (segV A U (cutP U V S)) (segV A (cutP U V S) V)
  (S * segV A U (cutP U V S)) ((1 - S) * segV A (cutP U V S) V) 1 (1 - S) (atL A V.x V.y - atL A U.x U.y) (atL A V.x V.y) (atL A U.x U.y) (flowV A B U V) (flowV A B V U) (flowV A B U (cutP U V S)) (flowV A B (cutP U V S) V)
  (fun w => RW8 w (.slice al nl cl) l) (rtKeeps _ _) hA (fun w => RW8 w (.slice am nm cm) m) (rtKeeps _ _) hB
  ou ov os
  (fun w => subF _ _ 1 qv.x qu.x (by omega) w) (fun w => subF _ _ 1 qv.y qu.y (by omega) w)
  (fun p w h => dxG ga (by omega) (by omega) w p h)
  (fun p w h => scaleG gx (by omega) zx (by omega) w p h)
  (fun p w h => dyG ga (by omega) (by omega) w p h)
  (fun p w h => scaleG gy (by omega) zy (by omega) w p h)
  (fun p q w h g => addG cx cy (by omega) (by omega) (by omega) w p q h g)
  (fun p w h => segG (k := 6) f1 ga q6 v6 w p h)
  (fun w => mulF _ _ 3 (zs9.mono (by omega)) zx (by omega) w) (fun w => addF _ _ 6 (qu.x.mono (by omega)) ((zs9.mul zx).mono (by omega)) (by omega) w) (fun w => mulF _ _ 3 (zs9.mono (by omega)) zy (by omega) w) (fun w => addF _ _ 6 (qu.y.mono (by omega)) ((zs9.mul zy).mono (by omega)) (by omega) w)
  (fun p w h => segG (k := 6) f1 ga q6 c6 w p h)
  (fun w => mulF _ _ 600000 (zs9.mono (by omega)) s1 (by omega) w) int1 (fun w => subF _ _ 1 sz_one9 zs9 (by omega) w)
  (fun p w h => segG (k := 6) f1 ga c6 v6 w p h)
  (fun w => mulF _ _ 600000 r1 s2 (by omega) w)
  (fun w => by have := addF _ _ 9000000 ((zs9.mul s1).mono (by omega)) ((r1.mul s2).mono (by omega)) (by omega) w; rwa [e1] at this)
  (fun p w h => by have := segG (k := 1) f3 gs qu qv w p h; rwa [e2] at this)
  (fun p w h => atG ga (by omega) (by omega) qv.x qv.y (by omega) w p h) (fun p w h => atG ga (by omega) (by omega) qu.x qu.y (by omega) w p h)
  (fun w => subF _ _ _ t1 t2 (by omega) w)
  (fun p w h => by have := segG (k := 6) f1 ga v6 q6 w p h; rwa [segV_back] at this)
  (fun p w h => by have := segG (k := 6) f1 ga q6 q6 w p h; rwa [segV_point] at this)
  (fun p q w h g => flowG (k := 6) f1 f1 ga gb q6 v6 w p q h g) (fun p q w h g => flowG (k := 6) f1 f1 ga gb v6 q6 w p q h g)
  (fun w => by have := negF (flowV A B U V) w; rwa [← flow_back] at this)
  (fun p q w h g => flowG (k := 6) f1 f1 ga gb q6 c6 w p q h g) (fun p q w h g => flowG (k := 6) f1 f1 ga gb c6 v6 w p q h g)
  (fun w => by have := addF _ _ _ w1 w2 (by omega) w; rwa [e3] at this)
  Tab Keeps.tab works9_any (decide_eq_false (by omega)) (decide_eq_false g1) (decide_eq_false (by omega)) (decide_eq_false g2) w hv hu ht
end Go.Proofs.YtkdbhacimoaohaaGreatDoor
