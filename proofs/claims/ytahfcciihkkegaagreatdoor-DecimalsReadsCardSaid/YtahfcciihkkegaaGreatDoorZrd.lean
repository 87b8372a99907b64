/-
  The law answers true at every input, and leaves its arguments as they were: a part of the proof. CONDITIONS: the package-level tables start as the program's text lays them (the card ties them).
-/
import Derived.Test.YtahfcciihkkegaaGreatDoorZrc
import Derived.Test.YtahfcciihkkegaaGreatDoorRows
set_option linter.unusedVariables false
set_option linter.unusedSimpArgs false
set_option maxHeartbeats 16000000
set_option maxRecDepth 100000
namespace Go.Proofs.YtahfcciihkkegaaGreatDoor
open Go.RowKit
attribute [local irreducible] lo hs sm s64 c64 d64 b64 mh ml pd pc qd qc val hiB str cmpI srD lz nb isq decB zl zh zs fe txt
theorem not1_v (B b part k : Nat) (kv : Int) (hkv : (k : Int) = kv) (l : List UInt8) (hl : (digs part).length ≤ 1000000) (hk : k ≤ 1000) (hll : l.length ≤ 1000000000) (w : World) (hB : Bd B b l w) (htab : Tab w) (hBw : B ≤ w.heap.size) :
  Calls Tryz.prog 107 #[natV part, .int .i64 kv, .pointer (some ⟨b, 0, none⟩)] w fun e w' => e = .returned (.tuple #[]) ∧ Bd B b (l ++ (List.replicate (k - (Lib.decDigits part).length) 48 ++ Lib.decDigits part)) w' ∧ Wr B b w w' := by
 subst hkv
 exact not1_any B b part k l hl hk hll w hB htab hBw
theorem dnot_w (z sv : Int) (p m t q r : Nat) (s T : List UInt8) (HA : RT 50 #[intV z] (natV m)) (HT : RT 47 #[.int .i64 (p : Int)] (natV t)) (HD : RT 110 #[natV m, natV t] (.tuple #[natV q, natV r, .bool true])) (HS : RT 92 #[intV z] (.int .i64 sv)) (hq : (digs q).length ≤ 1000000) (hr : (digs r).length ≤ 1000000) (hp : p ≤ 1000)
  (hs1 : sv < 0 → s = [45]) (hs0 : ¬ sv < 0 → s = []) (ht1 : 0 < p → T = [46] ++ (List.replicate (p - (Lib.decDigits r).length) 48 ++ Lib.decDigits r)) (ht0 : ¬ 0 < p → T = []) (w : World) (htab : Tab w) :
  Calls Tryz.prog 53 #[intV z, .int .i64 (p : Int)] w fun xe w' => xe = .returned (.string ⟨(s ++ (List.replicate (1 - (Lib.decDigits q).length) 48 ++ Lib.decDigits q) ++ T).toArray⟩) ∧ Below w.heap.size w w' := by
 replace HA := Lib.hid HA
 replace HT := Lib.hid HT
 replace HD := Lib.hid HD
 replace HS := Lib.hid HS
 replace hs1 := Lib.hid hs1
 replace hs0 := Lib.hid hs0
 replace ht1 := Lib.hid ht1
 replace ht0 := Lib.hid ht0
 replace htab := Lib.hid htab
 have hL0 : GL w w [] := GL.start w
 obtain ⟨x1, hweq, hL0⟩ := GL.named ((hL0.new rfl [.int .u64 ((zl z : Nat) : Int), .string (zh z), .bool (zs z)] 32).new (K := w.heap.size + 1) (szA _ _) [.pointer none, .slice none 0 0] 155)
 have hM0 : GL x1 x1 [] := GL.start x1
 have hx1 : x1.heap.size = w.heap.size + 1 + 1 := by rw [← hweq, World.size_alloc, World.size_alloc]
 replace hx1 := Lib.hid hx1
 have hBd : Bd (w.heap.size + 1) (w.heap.size + 1) [] x1 := by
  have := Lib.IsBuilderF.of (Lib.fresh_isBuilder 155 5 (w.alloc (.cells #[.int .u64 ((zl z : Nat) : Int), .string (zh z), .bool (zs z)] 32)))
  rw [hweq, World.size_alloc] at this
  exact this
 replace hBd := Lib.hid hBd
 go_enter Tryz.func53, Tryz.ntmps53
 have hN0 := cells_of _ 0 [] rfl (hL0.get _ _ (mK mZ))
 simp only [zF, Nat.reduceAdd] at hN0
 go_wp2_with fail
 clear hN0
 with_reducible refine Calls.mono (HA.out _) ?_
 rintro e x2 ⟨rfl, hb⟩
 replace hL0 := hL0.call hb
 replace hM0 := hM0.call hb
 clear hb hweq
 go_wp2_with fail
 with_reducible refine Calls.mono (HT.out _) ?_
 rintro e x3 ⟨rfl, hb⟩
 replace hL0 := hL0.call hb
 replace hM0 := hM0.call hb
 clear hb
 go_wp2_with fail
 with_reducible refine Calls.mono (HD.out _) ?_
 rintro e x4 ⟨rfl, hb⟩
 replace hL0 := hL0.call hb
 replace hM0 := hM0.call hb
 clear hb
 replace hL0 := ((hL0.new rfl [.int .u64 ((lo q : Nat) : Int), .string (hs q)] 30).new (K := x4.heap.size + 1) (szA _ _) [.int .u64 ((lo r : Nat) : Int), .string (hs r)] 30)
 have hx4 := Lib.hid hM0.bl.size
 replace hM0 := ((hM0.new rfl [.int .u64 ((lo q : Nat) : Int), .string (hs q)] 30).new (K := x4.heap.size + 1) (szA _ _) [.int .u64 ((lo r : Nat) : Int), .string (hs r)] 30)
 generalize hweq : ((x4.alloc (.cells #[.int .u64 ((lo q : Nat) : Int), .string (hs q)] 30)).alloc (.cells #[.int .u64 ((lo r : Nat) : Int), .string (hs r)] 30)) = x5 at hL0 hM0
 have e7 : x5.heap[x4.heap.size]? = some (.cells #[.int .u64 ((lo q : Nat) : Int), .string (hs q)] 30 (0, 0)) := by
  rw [← hweq, Lib.alloc_old _ _ _ (by simp)]
  exact heap_alloc_new _ _
 have e8 : x5.heap[x4.heap.size + 1]? = some (.cells #[.int .u64 ((lo r : Nat) : Int), .string (hs r)] 30 (0, 0)) := by
  rw [← hweq]
  have := heap_alloc_new (x4.alloc (.cells #[.int .u64 ((lo q : Nat) : Int), .string (hs q)] 30)) (.cells #[.int .u64 ((lo r : Nat) : Int), .string (hs r)] 30)
  rw [World.size_alloc] at this
  exact this
 replace e7 := Lib.hid e7
 replace e8 := Lib.hid e8
 have hx5 : x5.heap.size = x4.heap.size + 1 + 1 := by rw [← hweq, World.size_alloc, World.size_alloc]
 replace hx5 := Lib.hid hx5
 replace hBd := Lib.hid (hBd.out.below hM0.bl)
 have hN0 := cells_of _ 0 [] rfl (hL0.get _ _ (mK (mK (mK mZ))))
 simp only [zF, Nat.reduceAdd] at hN0
 go_upto_region 4 with fail
 clear hweq
 go_wp2_with fail
 clear hN0
 with_reducible refine Calls.mono (HS.out _) ?_
 rintro e x6 ⟨rfl, hb⟩
 replace e7 := Lib.hid ((hb.block x4.heap.size (by rw [hx5.out]; omega)).trans e7.out)
 replace e8 := Lib.hid ((hb.block (x4.heap.size + 1) (by rw [hx5.out]; omega)).trans e8.out)
 replace hBd := Lib.hid (hBd.out.below hb)
 have n7 : x4.heap.size ≠ w.heap.size + 1 := by have := hx4.out; have := hx1.out; omega
 have n8 : x4.heap.size + 1 ≠ w.heap.size + 1 := by have := hx4.out; have := hx1.out; omega
 have s6 : w.heap.size + 1 ≤ x6.heap.size := by have := hb.size; have := hx5.out; have := hx4.out; have := hx1.out; omega
 have hbl := Lib.hid (hL0.call hb).bl
 have hq1 := Lib.hid (dec_len_bound hq (by decide))
 have hr1 := Lib.hid (dec_len_bound hr (by decide))
 replace hq := Lib.hid hq
 replace hr := Lib.hid hr
 replace hp := Lib.hid hp
 replace n7 := Lib.hid n7
 replace n8 := Lib.hid n8
 clear hL0 hM0 hb hx1 hx4 hx5
 by_cases g1 : sv < 0
 ·by_cases g2 : 0 < p
  ·obtain rfl : s = [45] := hs1.out (by omega)
   obtain rfl : T = [46] ++ (List.replicate (p - (Lib.decDigits r).length) 48 ++ Lib.decDigits r) := ht1.out (by omega)
   have p4 : 0 < (p : Int) := by omega
   have W6 := Lib.hid (Wr.refl (w.heap.size + 1) (w.heap.size + 1) x6)
   go_wp2_with fail
   refine (ws_any (w.heap.size + 1) (w.heap.size + 1) [] [45] [45] _ rfl rfl _ hBd.out (by decide) s6).mono ?_
   rintro e x7 ⟨⟨v, rfl⟩, hB7, hW7⟩
   replace hBd := Lib.hid hB7
   replace W6 := Lib.hid (W6.out.trans hW7)
   clear hB7 hW7
   have s7 : w.heap.size + 1 ≤ x7.heap.size := by have := W6.out.1.size; omega
   have t7 := Lib.hid (htab.out.below (hbl.out.trans (W6.out.1.mono (by omega))))
   have E7 : x7.heap[x4.heap.size]? = _ := W6.out.2 (x4.heap.size) _ e7.out (fun e => n7.out (Option.some.inj e)) (fun c fz e => by simp at e)
   have f0 : x7.cell? ⟨x4.heap.size, 0, none⟩ = some (.int .u64 ((lo q : Nat) : Int)) := by rw [Lib.cell_of_heap E7]; rfl
   have f1 : x7.cell? ⟨x4.heap.size, 1, none⟩ = some (.string (hs q)) := by rw [Lib.cell_of_heap E7]; rfl
   clear E7
   go_wp2_with fail
   refine (not1_v (w.heap.size + 1) (w.heap.size + 1) q 1 1 rfl [45] hq.out (by decide) (by decide) _ hBd.out t7.out s7).mono ?_
   rintro e x8 ⟨rfl, hB7, hW7⟩
   replace hBd := Lib.hid hB7
   replace W6 := Lib.hid (W6.out.trans hW7)
   clear hB7 hW7 s7 t7 f0 f1
   have s7 : w.heap.size + 1 ≤ x8.heap.size := by have := W6.out.1.size; omega
   go_wp2_with fail
   refine (ws_any (w.heap.size + 1) (w.heap.size + 1) ([45] ++ (List.replicate (1 - (Lib.decDigits q).length) 48 ++ Lib.decDigits q)) [46] (([45] ++ (List.replicate (1 - (Lib.decDigits q).length) 48 ++ Lib.decDigits q)) ++ [46]) _ rfl rfl _ hBd.out (by have := hq1.out; simp; omega) s7).mono ?_
   rintro e x9 ⟨⟨v2, rfl⟩, hB7, hW7⟩
   replace hBd := Lib.hid hB7
   replace W6 := Lib.hid (W6.out.trans hW7)
   clear hB7 hW7 s7
   have s7 : w.heap.size + 1 ≤ x9.heap.size := by have := W6.out.1.size; omega
   have t7 := Lib.hid (htab.out.below (hbl.out.trans (W6.out.1.mono (by omega))))
   have E7 : x9.heap[x4.heap.size + 1]? = _ := W6.out.2 (x4.heap.size + 1) _ e8.out (fun e => n8.out (Option.some.inj e)) (fun c fz e => by simp at e)
   have f0 : x9.cell? ⟨x4.heap.size + 1, 0, none⟩ = some (.int .u64 ((lo r : Nat) : Int)) := by rw [Lib.cell_of_heap E7]; rfl
   have f1 : x9.cell? ⟨x4.heap.size + 1, 1, none⟩ = some (.string (hs r)) := by rw [Lib.cell_of_heap E7]; rfl
   clear E7
   go_wp2_with fail
   refine (not1_v (w.heap.size + 1) (w.heap.size + 1) r p (p : Int) rfl (([45] ++ (List.replicate (1 - (Lib.decDigits q).length) 48 ++ Lib.decDigits q)) ++ [46]) hr.out hp.out (by have := hq1.out; simp; omega) _ hBd.out t7.out s7).mono ?_
   rintro e x10 ⟨rfl, hB7, hW7⟩
   replace hBd := Lib.hid hB7
   replace W6 := Lib.hid (W6.out.trans hW7)
   clear hB7 hW7 s7 t7 f0 f1
   have s7 : w.heap.size + 1 ≤ x10.heap.size := by have := W6.out.1.size; omega
   have hfin := hBd.out
   obtain ⟨fin, hf⟩ : ∃ f, f = (([45] ++ (List.replicate (1 - (Lib.decDigits q).length) 48 ++ Lib.decDigits q)) ++ [46]) ++ (List.replicate (p - (Lib.decDigits r).length) 48 ++ Lib.decDigits r) := ⟨_, rfl⟩
   rw [← hf] at hfin
   replace hf := Lib.hid hf
   replace hfin := Lib.hid hfin
   clear hBd
   go_wp2_with fail
   refine (Tryz.Builder_String_any_k _ _ fin _ hfin.out s7).mono ?_
   rintro e xe ⟨rfl, h1, h2, h3⟩
   replace W6 := Lib.hid (hbl.out.trans ((W6.out.1.trans h2).mono (by omega)))
   clear h1 h2 h3
   go_wp2_with fail
   exact bodyPost_ret (v := .string ⟨fin.toArray⟩) (by simp [results, Tryz.results53, go_sem]) rfl ⟨by rw [hf.out]; simp, W6.out⟩
  ·obtain rfl : s = [45] := hs1.out (by omega)
   obtain rfl : T = [] := ht0.out (by omega)
   have p4 : ¬ 0 < (p : Int) := by omega
   have W6 := Lib.hid (Wr.refl (w.heap.size + 1) (w.heap.size + 1) x6)
   go_wp2_with fail
   refine (ws_any (w.heap.size + 1) (w.heap.size + 1) [] [45] [45] _ rfl rfl _ hBd.out (by decide) s6).mono ?_
   rintro e x7 ⟨⟨v, rfl⟩, hB7, hW7⟩
   replace hBd := Lib.hid hB7
   replace W6 := Lib.hid (W6.out.trans hW7)
   clear hB7 hW7
   have s7 : w.heap.size + 1 ≤ x7.heap.size := by have := W6.out.1.size; omega
   have t7 := Lib.hid (htab.out.below (hbl.out.trans (W6.out.1.mono (by omega))))
   have E7 : x7.heap[x4.heap.size]? = _ := W6.out.2 (x4.heap.size) _ e7.out (fun e => n7.out (Option.some.inj e)) (fun c fz e => by simp at e)
   have f0 : x7.cell? ⟨x4.heap.size, 0, none⟩ = some (.int .u64 ((lo q : Nat) : Int)) := by rw [Lib.cell_of_heap E7]; rfl
   have f1 : x7.cell? ⟨x4.heap.size, 1, none⟩ = some (.string (hs q)) := by rw [Lib.cell_of_heap E7]; rfl
   clear E7
   go_wp2_with fail
   refine (not1_v (w.heap.size + 1) (w.heap.size + 1) q 1 1 rfl [45] hq.out (by decide) (by decide) _ hBd.out t7.out s7).mono ?_
   rintro e x8 ⟨rfl, hB7, hW7⟩
   replace hBd := Lib.hid hB7
   replace W6 := Lib.hid (W6.out.trans hW7)
   clear hB7 hW7 s7 t7 f0 f1
   have s7 : w.heap.size + 1 ≤ x8.heap.size := by have := W6.out.1.size; omega
   have hfin := hBd.out
   obtain ⟨fin, hf⟩ : ∃ f, f = ([45] ++ (List.replicate (1 - (Lib.decDigits q).length) 48 ++ Lib.decDigits q)) := ⟨_, rfl⟩
   rw [← hf] at hfin
   replace hf := Lib.hid hf
   replace hfin := Lib.hid hfin
   clear hBd
   go_wp2_with fail
   refine (Tryz.Builder_String_any_k _ _ fin _ hfin.out s7).mono ?_
   rintro e xe ⟨rfl, h1, h2, h3⟩
   replace W6 := Lib.hid (hbl.out.trans ((W6.out.1.trans h2).mono (by omega)))
   clear h1 h2 h3
   go_wp2_with fail
   exact bodyPost_ret (v := .string ⟨fin.toArray⟩) (by simp [results, Tryz.results53, go_sem]) rfl ⟨by rw [hf.out]; simp, W6.out⟩
 ·by_cases g2 : 0 < p
  ·obtain rfl : s = [] := hs0.out (by omega)
   obtain rfl : T = [46] ++ (List.replicate (p - (Lib.decDigits r).length) 48 ++ Lib.decDigits r) := ht1.out (by omega)
   have p4 : 0 < (p : Int) := by omega
   have W6 := Lib.hid (Wr.refl (w.heap.size + 1) (w.heap.size + 1) x6)
   have s7 : w.heap.size + 1 ≤ x6.heap.size := by have := W6.out.1.size; omega
   have t7 := Lib.hid (htab.out.below (hbl.out.trans (W6.out.1.mono (by omega))))
   have E7 : x6.heap[x4.heap.size]? = _ := W6.out.2 (x4.heap.size) _ e7.out (fun e => n7.out (Option.some.inj e)) (fun c fz e => by simp at e)
   have f0 : x6.cell? ⟨x4.heap.size, 0, none⟩ = some (.int .u64 ((lo q : Nat) : Int)) := by rw [Lib.cell_of_heap E7]; rfl
   have f1 : x6.cell? ⟨x4.heap.size, 1, none⟩ = some (.string (hs q)) := by rw [Lib.cell_of_heap E7]; rfl
   clear E7
   go_wp2_with fail
   refine (not1_v (w.heap.size + 1) (w.heap.size + 1) q 1 1 rfl [] hq.out (by decide) (by decide) _ hBd.out t7.out s7).mono ?_
   rintro e x8 ⟨rfl, hB7, hW7⟩
   replace hBd := Lib.hid hB7
   replace W6 := Lib.hid (W6.out.trans hW7)
   clear hB7 hW7 s7 t7 f0 f1
   have s7 : w.heap.size + 1 ≤ x8.heap.size := by have := W6.out.1.size; omega
   go_wp2_with fail
   refine (ws_any (w.heap.size + 1) (w.heap.size + 1) ([] ++ (List.replicate (1 - (Lib.decDigits q).length) 48 ++ Lib.decDigits q)) [46] (([] ++ (List.replicate (1 - (Lib.decDigits q).length) 48 ++ Lib.decDigits q)) ++ [46]) _ rfl rfl _ hBd.out (by have := hq1.out; simp; omega) s7).mono ?_
   rintro e x9 ⟨⟨v2, rfl⟩, hB7, hW7⟩
   replace hBd := Lib.hid hB7
   replace W6 := Lib.hid (W6.out.trans hW7)
   clear hB7 hW7 s7
   have s7 : w.heap.size + 1 ≤ x9.heap.size := by have := W6.out.1.size; omega
   have t7 := Lib.hid (htab.out.below (hbl.out.trans (W6.out.1.mono (by omega))))
   have E7 : x9.heap[x4.heap.size + 1]? = _ := W6.out.2 (x4.heap.size + 1) _ e8.out (fun e => n8.out (Option.some.inj e)) (fun c fz e => by simp at e)
   have f0 : x9.cell? ⟨x4.heap.size + 1, 0, none⟩ = some (.int .u64 ((lo r : Nat) : Int)) := by rw [Lib.cell_of_heap E7]; rfl
   have f1 : x9.cell? ⟨x4.heap.size + 1, 1, none⟩ = some (.string (hs r)) := by rw [Lib.cell_of_heap E7]; rfl
   clear E7
   go_wp2_with fail
   refine (not1_v (w.heap.size + 1) (w.heap.size + 1) r p (p : Int) rfl (([] ++ (List.replicate (1 - (Lib.decDigits q).length) 48 ++ Lib.decDigits q)) ++ [46]) hr.out hp.out (by have := hq1.out; simp; omega) _ hBd.out t7.out s7).mono ?_
   rintro e x10 ⟨rfl, hB7, hW7⟩
   replace hBd := Lib.hid hB7
   replace W6 := Lib.hid (W6.out.trans hW7)
   clear hB7 hW7 s7 t7 f0 f1
   have s7 : w.heap.size + 1 ≤ x10.heap.size := by have := W6.out.1.size; omega
   have hfin := hBd.out
   obtain ⟨fin, hf⟩ : ∃ f, f = (([] ++ (List.replicate (1 - (Lib.decDigits q).length) 48 ++ Lib.decDigits q)) ++ [46]) ++ (List.replicate (p - (Lib.decDigits r).length) 48 ++ Lib.decDigits r) := ⟨_, rfl⟩
   rw [← hf] at hfin
   replace hf := Lib.hid hf
   replace hfin := Lib.hid hfin
   clear hBd
   go_wp2_with fail
   refine (Tryz.Builder_String_any_k _ _ fin _ hfin.out s7).mono ?_
   rintro e xe ⟨rfl, h1, h2, h3⟩
   replace W6 := Lib.hid (hbl.out.trans ((W6.out.1.trans h2).mono (by omega)))
   clear h1 h2 h3
   go_wp2_with fail
   exact bodyPost_ret (v := .string ⟨fin.toArray⟩) (by simp [results, Tryz.results53, go_sem]) rfl ⟨by rw [hf.out]; simp, W6.out⟩
  ·obtain rfl : s = [] := hs0.out (by omega)
   obtain rfl : T = [] := ht0.out (by omega)
   have p4 : ¬ 0 < (p : Int) := by omega
   have W6 := Lib.hid (Wr.refl (w.heap.size + 1) (w.heap.size + 1) x6)
   have s7 : w.heap.size + 1 ≤ x6.heap.size := by have := W6.out.1.size; omega
   have t7 := Lib.hid (htab.out.below (hbl.out.trans (W6.out.1.mono (by omega))))
   have E7 : x6.heap[x4.heap.size]? = _ := W6.out.2 (x4.heap.size) _ e7.out (fun e => n7.out (Option.some.inj e)) (fun c fz e => by simp at e)
   have f0 : x6.cell? ⟨x4.heap.size, 0, none⟩ = some (.int .u64 ((lo q : Nat) : Int)) := by rw [Lib.cell_of_heap E7]; rfl
   have f1 : x6.cell? ⟨x4.heap.size, 1, none⟩ = some (.string (hs q)) := by rw [Lib.cell_of_heap E7]; rfl
   clear E7
   go_wp2_with fail
   refine (not1_v (w.heap.size + 1) (w.heap.size + 1) q 1 1 rfl [] hq.out (by decide) (by decide) _ hBd.out t7.out s7).mono ?_
   rintro e x8 ⟨rfl, hB7, hW7⟩
   replace hBd := Lib.hid hB7
   replace W6 := Lib.hid (W6.out.trans hW7)
   clear hB7 hW7 s7 t7 f0 f1
   have s7 : w.heap.size + 1 ≤ x8.heap.size := by have := W6.out.1.size; omega
   have hfin := hBd.out
   obtain ⟨fin, hf⟩ : ∃ f, f = ([] ++ (List.replicate (1 - (Lib.decDigits q).length) 48 ++ Lib.decDigits q)) := ⟨_, rfl⟩
   rw [← hf] at hfin
   replace hf := Lib.hid hf
   replace hfin := Lib.hid hfin
   clear hBd
   go_wp2_with fail
   refine (Tryz.Builder_String_any_k _ _ fin _ hfin.out s7).mono ?_
   rintro e xe ⟨rfl, h1, h2, h3⟩
   replace W6 := Lib.hid (hbl.out.trans ((W6.out.1.trans h2).mono (by omega)))
   clear h1 h2 h3
   go_wp2_with fail
   exact bodyPost_ret (v := .string ⟨fin.toArray⟩) (by simp [results, Tryz.results53, go_sem]) rfl ⟨by rw [hf.out]; simp, W6.out⟩
end Go.Proofs.YtahfcciihkkegaaGreatDoor
namespace Go.Proofs.YtahfcciihkkegaaGreatDoor
open Go.RowKit
attribute [local irreducible] lo hs sm s64 c64 d64 b64 mh ml pd pc qd qc val hiB str cmpI srD lz nb isq decB zl zh zs fe txt
theorem dtext_err (a : Rat) (n v z c : Int) (HR : RT 45 #[fracV a, .int .i64 n, .int .i64 v] (.tuple #[intV z, .int .i64 c])) (h1 : (c != 0) = true) (w : World) :
  Calls Tryz.prog 14 #[fracV a, .int .i64 n, .int .i64 v] w fun xe w' => xe = .returned (.tuple #[.string ⟨#[]⟩, .int .i64 c]) ∧ Below w.heap.size w w' := by
 have hL0 : GL w w [] := GL.start w
 replace HR := Lib.hid HR
 obtain ⟨x1, hweq, hL0⟩ := GL.named (hL0.new rfl [.int .u64 ((zl a.num : Nat) : Int), .string (zh a.num), .bool (zs a.num), .int .u64 ((lo (fe a) : Nat) : Int), .string (hs (fe a))] 34)
 go_enter Tryz.func14, Tryz.ntmps14
 have hN0 := cells_of _ 0 [] rfl (hL0.get _ _ mZ)
 simp only [zF, Nat.reduceAdd] at hN0
 go_wp2_with fail
 clear hN0
 with_reducible refine Calls.mono (HR.out _) ?_
 rintro e x2 ⟨rfl, hb⟩
 replace hL0 := hL0.call hb
 clear hb hweq
 obtain ⟨x3, hweq, hL0⟩ := GL.named (hL0.new rfl [.int .u64 ((zl z : Nat) : Int), .string (zh z), .bool (zs z)] 32)
 go_wp2_with fail
 exact bodyPost_ret (v := .tuple #[.string ⟨#[]⟩, .int .i64 c]) (by simp [results, Tryz.results14, go_sem]) rfl ⟨rfl, hL0.bl⟩
theorem dtext_ok (a : Rat) (n v z : Int) (s : ByteArray) (HR : RT 45 #[fracV a, .int .i64 n, .int .i64 v] (.tuple #[intV z, .int .i64 0])) (HN : RK Tab 53 #[intV z, .int .i64 n] (.string s)) (w : World) (htab : Tab w) :
  Calls Tryz.prog 14 #[fracV a, .int .i64 n, .int .i64 v] w fun xe w' => xe = .returned (.tuple #[.string s, .int .i64 0]) ∧ Below w.heap.size w w' := by
 have hL0 : GL w w [] := GL.start w
 replace HR := Lib.hid HR
 replace HN := Lib.hid HN
 obtain ⟨x1, hweq, hL0⟩ := GL.named (hL0.new rfl [.int .u64 ((zl a.num : Nat) : Int), .string (zh a.num), .bool (zs a.num), .int .u64 ((lo (fe a) : Nat) : Int), .string (hs (fe a))] 34)
 go_enter Tryz.func14, Tryz.ntmps14
 have hN0 := cells_of _ 0 [] rfl (hL0.get _ _ mZ)
 simp only [zF, Nat.reduceAdd] at hN0
 go_wp2_with fail
 clear hN0
 with_reducible refine Calls.mono (HR.out _) ?_
 rintro e x2 ⟨rfl, hb⟩
 replace hL0 := hL0.call hb
 clear hb hweq
 obtain ⟨x3, hweq, hL0⟩ := GL.named (hL0.new rfl [.int .u64 ((zl z : Nat) : Int), .string (zh z), .bool (zs z)] 32)
 have hN0 := cells_of _ 0 [] rfl (hL0.get _ _ mZ)
 simp only [zF, Nat.reduceAdd] at hN0
 go_wp2_with fail
 clear hN0
 with_reducible refine Calls.mono (HN.out _ (htab.below hL0.bl)) ?_
 rintro e x4 ⟨rfl, hb⟩
 replace hL0 := hL0.call hb
 clear hb hweq
 go_wp2_with fail
 exact bodyPost_ret (v := .tuple #[.string s, .int .i64 0]) (by simp [results, Tryz.results14, go_sem]) rfl ⟨rfl, hL0.bl⟩
theorem dbeh_err (s t : ByteArray) (n k : Nat) (c : Int) (HP : RT 66 #[.string t] (.tuple #[natV n, .int .i64 c])) (hp : (ByteArray.mk #[49]) ++ s = t) (hk : s.size = k) (hk2 : ¬ 9223372036854775807 < 1 + k) (hk3 : ¬ 9223372036854775806 < k) (hk4 : 1 + k ≤ 9223372036854775807) (h1 : (c != 0) = true) (w : World) :
  Calls Tryz.prog 67 #[.string s] w fun xe w' => xe = .returned (.tuple #[.agg #[.int .u64 0, .string ⟨#[]⟩], .int .i64 c]) ∧ Below w.heap.size w w' := by
 have hL0 : GL w w [] := GL.start w
 replace HP := Lib.hid HP
 obtain ⟨x1, hweq, hL0⟩ := GL.named (hL0.new rfl [.int .u64 0, .string ⟨#[]⟩] 30)
 go_enter Tryz.func67, Tryz.ntmps67
 go_wp2_with fail
 with_reducible refine Calls.mono (HP.out _) ?_
 rintro e x2 ⟨rfl, hb⟩
 replace hL0 := hL0.call hb
 clear hb hweq
 obtain ⟨x3, hweq, hL0⟩ := GL.named (hL0.new rfl [.int .u64 ((lo n : Nat) : Int), .string (hs n)] 30)
 have hA := hL0.fc
 simp only [zF, Nat.reduceAdd] at hA
 obtain ⟨x4, hput1, hP⟩ := GL.named (hL0.put 1 (w.heap.size) _ rfl [.int .u64 0, .string ⟨#[]⟩] rfl)
 simp only [setAll] at hput1
 simp only [List.set_cons_zero, List.set_cons_succ] at hP
 have hB1 := hP.fc
 simp only [zF, Nat.reduceAdd] at hB1
 replace hL0 := hP
 go_wp2_with fail
 exact bodyPost_ret (v := .tuple #[.agg #[.int .u64 0, .string ⟨#[]⟩], .int .i64 c]) (by simp [results, Tryz.results67, go_sem, hB1]) rfl ⟨rfl, hL0.bl⟩
theorem dbeh_ok (s t : ByteArray) (n k u r : Nat) (b : Bool) (HP : RT 66 #[.string t] (.tuple #[natV n, .int .i64 0])) (HT : RT 47 #[.int .i64 (k : Int)] (natV u)) (HS : RT 130 #[natV n, natV u] (.tuple #[natV r, .bool b])) (hp : (ByteArray.mk #[49]) ++ s = t) (hk : s.size = k) (hk2 : ¬ 9223372036854775807 < 1 + k) (hk3 : ¬ 9223372036854775806 < k) (hk4 : 1 + k ≤ 9223372036854775807) (w : World) :
  Calls Tryz.prog 67 #[.string s] w fun xe w' => xe = .returned (.tuple #[natV r, .int .i64 0]) ∧ Below w.heap.size w w' := by
 have hL0 : GL w w [] := GL.start w
 replace HP := Lib.hid HP
 replace HT := Lib.hid HT
 replace HS := Lib.hid HS
 obtain ⟨x1, hweq, hL0⟩ := GL.named (hL0.new rfl [.int .u64 0, .string ⟨#[]⟩] 30)
 go_enter Tryz.func67, Tryz.ntmps67
 go_wp2_with fail
 with_reducible refine Calls.mono (HP.out _) ?_
 rintro e x2 ⟨rfl, hb⟩
 replace hL0 := hL0.call hb
 clear hb hweq
 obtain ⟨x3, hweq, hL0⟩ := GL.named (hL0.new rfl [.int .u64 ((lo n : Nat) : Int), .string (hs n)] 30)
 go_upto_region 4 with fail
 clear hweq
 refine region_gh (by kernel_rfl) (by kernel_rfl) ?_
 refine lex_seg (gl := []) 8 (by kernel_rfl) ?_
 intro α iα F hF1 hF2
 have hq := GL.seg hF1 hL0
 simp only [zC, Nat.reduceAdd] at hq
 simp only [zT]
 repeat (go_big_quiet_step (first | fail | (go_at_call 47; with_reducible exact seg_call hF2 HT.out _) | (go_at_call 130; with_reducible exact seg_call hF2 HS.out _)))
 refine wpQuiet_nil ?_
 clear hq hF1 hF2 iα F α
 refine lex_new [.int .u64 0, .string ⟨#[]⟩] 6 30 30 rfl rfl (of_decide_eq_true (by kernel_rfl)) (by kernel_rfl) rfl new_natc ?_
 simp only [Act.put, zP]
 refine lex_put [.int .u64 ((lo r : Nat) : Int), .string (hs r)] [.int .u64 0, .string ⟨#[]⟩] 6 30 (.tmp 24) rfl (by kernel_rfl) (by simp [toG, upd]) rfl (fun w k h => put_natc _ _ _ _ w k h) ?_
 simp only [Act.put]
 refine lex_seg (gl := [(6, [.int .u64 ((lo r : Nat) : Int), .string (hs r)], true), (6, [.int .u64 0, .string ⟨#[]⟩], false)]) 1 (by kernel_rfl) ?_
 intro α iα F hF1 hF2
 have hq := GL.seg hF1 hL0
 simp only [zC, Nat.reduceAdd] at hq
 simp only [zT]
 repeat (go_big_quiet_step (first | fail | (go_at_call 47; with_reducible exact seg_call hF2 HT.out _) | (go_at_call 130; with_reducible exact seg_call hF2 HS.out _)))
 refine wpQuiet_nil ?_
 clear hq hF1 hF2 iα F α
 refine lexG_nil ?_
 intro κ x4 hS
 replace hL0 := hL0.ghs hS [(6, [.int .u64 ((lo r : Nat) : Int), .string (hs r)])] (by simp) (by intro p hp; simp only [List.mem_cons, List.not_mem_nil, or_false] at hp; rcases hp with rfl <;> exact ⟨_, by simp only [toG, upd]; rfl⟩)
 simp only [List.map_cons, List.map_nil, List.cons_append, List.nil_append] at hL0
 simp only [over_toG, over_nil, Act.put, zP]
 clear hS
 generalize κ 6 = k4_6 at *
 have hA := hL0.fc
 simp only [zF, Nat.reduceAdd] at hA
 obtain ⟨x5, hput1, hP⟩ := GL.named (hL0.put 2 (w.heap.size) _ rfl [.int .u64 ((lo r : Nat) : Int), .string (hs r)] rfl)
 simp only [setAll] at hput1
 simp only [List.set_cons_zero, List.set_cons_succ] at hP
 have hB1 := hP.fc
 simp only [zF, Nat.reduceAdd] at hB1
 replace hL0 := hP
 go_wp2_with fail
 exact bodyPost_ret (v := .tuple #[natV r, .int .i64 0]) (by simp [results, Tryz.results67, go_sem, hB1]) rfl ⟨rfl, hL0.bl⟩
theorem dparse_long (s : ByteArray) (l : Nat) (hl : s.size = l) (h0 : decide (4096 < (l : Int)) = true) (w : World) :
  Calls Tryz.prog 19 #[.string s] w fun xe w' => xe = .returned (.tuple #[.agg #[.int .u64 0, .string ⟨#[]⟩, .bool false, .int .u64 0, .string ⟨#[]⟩], .int .i64 3]) ∧ Below w.heap.size w w' := by
 have hL0 : GL w w [] := GL.start w
 obtain ⟨x1, hweq, hL0⟩ := GL.named (hL0.new rfl [.int .u64 0, .string ⟨#[]⟩, .bool false, .int .u64 0, .string ⟨#[]⟩] 34)
 go_enter Tryz.func19, Tryz.ntmps19
 have hA := hL0.fc
 simp only [zF, Nat.reduceAdd] at hA
 obtain ⟨x2, hput1, hP⟩ := GL.named (hL0.put 0 (w.heap.size) _ rfl [.int .u64 0, .string ⟨#[]⟩, .bool false, .int .u64 0, .string ⟨#[]⟩] rfl)
 simp only [setAll] at hput1
 simp only [List.set_cons_zero, List.set_cons_succ] at hP
 have hB1 := hP.fc
 simp only [zF, Nat.reduceAdd] at hB1
 replace hL0 := hP
 go_wp2_with fail
 exact bodyPost_ret (v := .tuple #[.agg #[.int .u64 0, .string ⟨#[]⟩, .bool false, .int .u64 0, .string ⟨#[]⟩], .int .i64 3]) (by simp [results, Tryz.results19, go_sem, hB1]) rfl ⟨rfl, hL0.bl⟩
theorem dparse_end (s d p : ByteArray) (l : Nat) (g : Bool) (HC : RT 64 #[.string s, .string (ByteArray.mk #[45])] (.tuple #[.string d, .bool g])) (KT : World → Prop) (hKT : Keeps KT) (HU : RK KT 65 #[.string d, .string (ByteArray.mk #[46])] (.tuple #[.string p, .string ⟨#[]⟩, .bool true])) (hl : s.size = l) (h0 : decide (4096 < (l : Int)) = false) (w : World) (kKT : KT w) :
  Calls Tryz.prog 19 #[.string s] w fun xe w' => xe = .returned (.tuple #[.agg #[.int .u64 0, .string ⟨#[]⟩, .bool false, .int .u64 0, .string ⟨#[]⟩], .int .i64 4]) ∧ Below w.heap.size w w' := by
 have hL0 : GL w w [] := GL.start w
 replace HC := Lib.hid HC
 replace hKT := Lib.hid hKT
 replace HU := Lib.hid HU
 obtain ⟨x1, hweq, hL0⟩ := GL.named (hL0.new rfl [.int .u64 0, .string ⟨#[]⟩, .bool false, .int .u64 0, .string ⟨#[]⟩] 34)
 go_enter Tryz.func19, Tryz.ntmps19
 go_wp2_with fail
 with_reducible refine Calls.mono (HC.out _) ?_
 rintro e x2 ⟨rfl, hb⟩
 replace hL0 := hL0.call hb
 clear hb hweq
 go_wp2_with fail
 with_reducible refine Calls.mono (HU.out _ (hKT.out.at hL0.bl kKT)) ?_
 rintro e x3 ⟨rfl, hb⟩
 replace hL0 := hL0.call hb
 clear hb
 have hA := hL0.fc
 simp only [zF, Nat.reduceAdd] at hA
 obtain ⟨x4, hput1, hP⟩ := GL.named (hL0.put 0 (w.heap.size) _ rfl [.int .u64 0, .string ⟨#[]⟩, .bool false, .int .u64 0, .string ⟨#[]⟩] rfl)
 simp only [setAll] at hput1
 simp only [List.set_cons_zero, List.set_cons_succ] at hP
 have hB1 := hP.fc
 simp only [zF, Nat.reduceAdd] at hB1
 replace hL0 := hP
 go_wp2_with fail
 exact bodyPost_ret (v := .tuple #[.agg #[.int .u64 0, .string ⟨#[]⟩, .bool false, .int .u64 0, .string ⟨#[]⟩], .int .i64 4]) (by simp [results, Tryz.results19, go_sem, hB1]) rfl ⟨rfl, hL0.bl⟩
theorem dparse_high_f (s d p q : ByteArray) (l h : Nat) (c : Int) (g : Bool) (HC : RT 64 #[.string s, .string (ByteArray.mk #[45])] (.tuple #[.string d, .bool g])) (KT : World → Prop) (hKT : Keeps KT) (HU : RK KT 65 #[.string d, .string (ByteArray.mk #[46])] (.tuple #[.string p, .string q, .bool false])) (HP : RT 66 #[.string p] (.tuple #[natV h, .int .i64 c])) (hl : s.size = l) (h0 : decide (4096 < (l : Int)) = false) (h1 : (c != 0) = true) (w : World) (kKT : KT w) :
  Calls Tryz.prog 19 #[.string s] w fun xe w' => xe = .returned (.tuple #[.agg #[.int .u64 0, .string ⟨#[]⟩, .bool false, .int .u64 0, .string ⟨#[]⟩], .int .i64 c]) ∧ Below w.heap.size w w' := by
 have hL0 : GL w w [] := GL.start w
 replace HC := Lib.hid HC
 replace hKT := Lib.hid hKT
 replace HU := Lib.hid HU
 replace HP := Lib.hid HP
 obtain ⟨x1, hweq, hL0⟩ := GL.named (hL0.new rfl [.int .u64 0, .string ⟨#[]⟩, .bool false, .int .u64 0, .string ⟨#[]⟩] 34)
 go_enter Tryz.func19, Tryz.ntmps19
 go_wp2_with fail
 with_reducible refine Calls.mono (HC.out _) ?_
 rintro e x2 ⟨rfl, hb⟩
 replace hL0 := hL0.call hb
 clear hb hweq
 go_wp2_with fail
 with_reducible refine Calls.mono (HU.out _ (hKT.out.at hL0.bl kKT)) ?_
 rintro e x3 ⟨rfl, hb⟩
 replace hL0 := hL0.call hb
 clear hb
 go_wp2_with fail
 with_reducible refine Calls.mono (HP.out _) ?_
 rintro e x4 ⟨rfl, hb⟩
 replace hL0 := hL0.call hb
 clear hb
 obtain ⟨x5, hweq, hL0⟩ := GL.named (hL0.new rfl [.int .u64 ((lo h : Nat) : Int), .string (hs h)] 30)
 have hA := hL0.fc
 simp only [zF, Nat.reduceAdd] at hA
 obtain ⟨x6, hput1, hP⟩ := GL.named (hL0.put 1 (w.heap.size) _ rfl [.int .u64 0, .string ⟨#[]⟩, .bool false, .int .u64 0, .string ⟨#[]⟩] rfl)
 simp only [setAll] at hput1
 simp only [List.set_cons_zero, List.set_cons_succ] at hP
 have hB1 := hP.fc
 simp only [zF, Nat.reduceAdd] at hB1
 replace hL0 := hP
 go_wp2_with fail
 exact bodyPost_ret (v := .tuple #[.agg #[.int .u64 0, .string ⟨#[]⟩, .bool false, .int .u64 0, .string ⟨#[]⟩], .int .i64 c]) (by simp [results, Tryz.results19, go_sem, hB1]) rfl ⟨rfl, hL0.bl⟩
theorem dparse_zero_f (s d p q : ByteArray) (l h m k u x : Nat) (HC : RT 64 #[.string s, .string (ByteArray.mk #[45])] (.tuple #[.string d, .bool true])) (KT : World → Prop) (hKT : Keeps KT) (HU : RK KT 65 #[.string d, .string (ByteArray.mk #[46])] (.tuple #[.string p, .string q, .bool false])) (HP : RT 66 #[.string p] (.tuple #[natV h, .int .i64 0])) (HB : RT 67 #[.string q] (.tuple #[natV m, .int .i64 0])) (HT : RT 47 #[.int .i64 (k : Int)] (natV u)) (HM : RT 68 #[natV h, natV u] (natV x)) (HA : RT 49 #[natV x, natV m] (natV 0)) (HO : RT 52 #[.int .u64 0] (natV 0)) (hl : s.size = l) (h0 : decide (4096 < (l : Int)) = false) (hk : q.size = k) (w : World) (kKT : KT w) :
  Calls Tryz.prog 19 #[.string s] w fun xe w' => xe = .returned (.tuple #[.agg #[.int .u64 0, .string ⟨#[]⟩, .bool false, .int .u64 0, .string ⟨#[]⟩], .int .i64 4]) ∧ Below w.heap.size w w' := by
 have hL0 : GL w w [] := GL.start w
 replace HC := Lib.hid HC
 replace hKT := Lib.hid hKT
 replace HU := Lib.hid HU
 replace HP := Lib.hid HP
 replace HB := Lib.hid HB
 replace HT := Lib.hid HT
 replace HM := Lib.hid HM
 replace HA := Lib.hid HA
 replace HO := Lib.hid HO
 obtain ⟨x1, hweq, hL0⟩ := GL.named (hL0.new rfl [.int .u64 0, .string ⟨#[]⟩, .bool false, .int .u64 0, .string ⟨#[]⟩] 34)
 go_enter Tryz.func19, Tryz.ntmps19
 go_wp2_with fail
 with_reducible refine Calls.mono (HC.out _) ?_
 rintro e x2 ⟨rfl, hb⟩
 replace hL0 := hL0.call hb
 clear hb hweq
 go_wp2_with fail
 with_reducible refine Calls.mono (HU.out _ (hKT.out.at hL0.bl kKT)) ?_
 rintro e x3 ⟨rfl, hb⟩
 replace hL0 := hL0.call hb
 clear hb
 go_wp2_with fail
 with_reducible refine Calls.mono (HP.out _) ?_
 rintro e x4 ⟨rfl, hb⟩
 replace hL0 := hL0.call hb
 clear hb
 obtain ⟨x5, hweq, hL0⟩ := GL.named (hL0.new rfl [.int .u64 ((lo h : Nat) : Int), .string (hs h)] 30)
 go_wp2_with fail
 with_reducible refine Calls.mono (HB.out _) ?_
 rintro e x6 ⟨rfl, hb⟩
 replace hL0 := hL0.call hb
 clear hb hweq
 obtain ⟨x7, hweq, hL0⟩ := GL.named (hL0.new rfl [.int .u64 ((lo m : Nat) : Int), .string (hs m)] 30)
 go_wp2_with fail
 with_reducible refine Calls.mono (HT.out _) ?_
 rintro e x8 ⟨rfl, hb⟩
 replace hL0 := hL0.call hb
 clear hb hweq
 obtain ⟨x9, hweq, hL0⟩ := GL.named (hL0.new rfl [.int .u64 ((lo u : Nat) : Int), .string (hs u)] 30)
 go_upto_region 14 with fail
 clear hweq
 refine region_gh (by kernel_rfl) (by kernel_rfl) ?_
 refine lex_seg (gl := []) 5 (by kernel_rfl) ?_
 intro α iα F hF1 hF2
 have hq := GL.seg hF1 hL0
 simp only [zC, Nat.reduceAdd] at hq
 simp only [zT]
 repeat (go_big_quiet_step (first | fail | (go_at_call 68; with_reducible exact seg_call hF2 HM.out _) | (go_at_call 49; with_reducible exact seg_call hF2 HA.out _)))
 refine wpQuiet_nil ?_
 clear hq hF1 hF2 iα F α
 refine lex_new [.int .u64 0, .string ⟨#[]⟩] 13 30 30 rfl rfl (of_decide_eq_true (by kernel_rfl)) (by kernel_rfl) rfl new_natc ?_
 simp only [Act.put, zP]
 refine lex_put [.int .u64 ((lo 0 : Nat) : Int), .string (hs 0)] [.int .u64 0, .string ⟨#[]⟩] 13 30 (.tmp 60) rfl (by kernel_rfl) (by simp [toG, upd]) rfl (fun w k h => put_natc _ _ _ _ w k h) ?_
 simp only [Act.put]
 refine lexG_nil ?_
 intro κ x10 hS
 replace hL0 := hL0.ghs hS [(13, [.int .u64 ((lo 0 : Nat) : Int), .string (hs 0)])] (by simp) (by intro p hp; simp only [List.mem_cons, List.not_mem_nil, or_false] at hp; rcases hp with rfl <;> exact ⟨_, by simp only [toG, upd]; rfl⟩)
 simp only [List.map_cons, List.map_nil, List.cons_append, List.nil_append] at hL0
 simp only [over_toG, over_nil, Act.put, zP]
 clear hS
 generalize κ 13 = k10_13 at *
 go_upto_region 15 with fail
 obtain ⟨α, iα, F, hF1, hF2⟩ := cls x10
 have hq0 := cls_box hF1 hL0 _ _ mZ
 simp only [zC, Nat.reduceAdd] at hq0
 refine region_qs 6 (C := fun w' => ∃ x, w' = F x) (by kernel_rfl) (by kernel_rfl) (cls_drew hF2) ?_
 simp only [zT]
 repeat (go_big_quiet_step (first | fail | (go_at_call 52; with_reducible exact cls_call hF1 hF2 HO.out _)))
 refine wpQuiet_nil ?_
 rintro wq ⟨xq, rfl⟩
 replace hL0 := hL0.call (hF1 xq)
 clear  hq0 hF2
 generalize F xq = x11 at hL0 ⊢
 clear hF1 xq iα F α
 have hA := hL0.fc
 simp only [zF, Nat.reduceAdd] at hA
 obtain ⟨x12, hput1, hP⟩ := GL.named (hL0.put 4 (w.heap.size) _ rfl [.int .u64 0, .string ⟨#[]⟩, .bool false, .int .u64 0, .string ⟨#[]⟩] rfl)
 simp only [setAll] at hput1
 simp only [List.set_cons_zero, List.set_cons_succ] at hP
 have hB1 := hP.fc
 simp only [zF, Nat.reduceAdd] at hB1
 replace hL0 := hP
 go_wp2_with fail
 exact bodyPost_ret (v := .tuple #[.agg #[.int .u64 0, .string ⟨#[]⟩, .bool false, .int .u64 0, .string ⟨#[]⟩], .int .i64 4]) (by simp [results, Tryz.results19, go_sem, hB1]) rfl ⟨rfl, hL0.bl⟩
theorem dparse_pos_f (s d p q : ByteArray) (l h m k u x y : Nat) (z e : Int) (a : Rat) (HC : RT 64 #[.string s, .string (ByteArray.mk #[45])] (.tuple #[.string d, .bool false])) (KT : World → Prop) (hKT : Keeps KT) (HU : RK KT 65 #[.string d, .string (ByteArray.mk #[46])] (.tuple #[.string p, .string q, .bool false])) (HP : RT 66 #[.string p] (.tuple #[natV h, .int .i64 0])) (HB : RT 67 #[.string q] (.tuple #[natV m, .int .i64 0])) (HT : RT 47 #[.int .i64 (k : Int)] (natV u)) (HM : RT 68 #[natV h, natV u] (natV x)) (HA : RT 49 #[natV x, natV m] (natV y)) (HJ : RT 69 #[.bool false, natV y] (intV z)) (HF : RT 46 #[intV z, natV u] (.tuple #[fracV a, .int .i64 e])) (hl : s.size = l) (h0 : decide (4096 < (l : Int)) = false) (hk : q.size = k) (w : World) (kKT : KT w) :
  Calls Tryz.prog 19 #[.string s] w fun xe w' => xe = .returned (.tuple #[fracV a, .int .i64 e]) ∧ Below w.heap.size w w' := by
 have hL0 : GL w w [] := GL.start w
 replace HC := Lib.hid HC
 replace hKT := Lib.hid hKT
 replace HU := Lib.hid HU
 replace HP := Lib.hid HP
 replace HB := Lib.hid HB
 replace HT := Lib.hid HT
 replace HM := Lib.hid HM
 replace HA := Lib.hid HA
 replace HJ := Lib.hid HJ
 replace HF := Lib.hid HF
 obtain ⟨x1, hweq, hL0⟩ := GL.named (hL0.new rfl [.int .u64 0, .string ⟨#[]⟩, .bool false, .int .u64 0, .string ⟨#[]⟩] 34)
 go_enter Tryz.func19, Tryz.ntmps19
 go_wp2_with fail
 with_reducible refine Calls.mono (HC.out _) ?_
 rintro e x2 ⟨rfl, hb⟩
 replace hL0 := hL0.call hb
 clear hb hweq
 go_wp2_with fail
 with_reducible refine Calls.mono (HU.out _ (hKT.out.at hL0.bl kKT)) ?_
 rintro e x3 ⟨rfl, hb⟩
 replace hL0 := hL0.call hb
 clear hb
 go_wp2_with fail
 with_reducible refine Calls.mono (HP.out _) ?_
 rintro e x4 ⟨rfl, hb⟩
 replace hL0 := hL0.call hb
 clear hb
 obtain ⟨x5, hweq, hL0⟩ := GL.named (hL0.new rfl [.int .u64 ((lo h : Nat) : Int), .string (hs h)] 30)
 go_wp2_with fail
 with_reducible refine Calls.mono (HB.out _) ?_
 rintro e x6 ⟨rfl, hb⟩
 replace hL0 := hL0.call hb
 clear hb hweq
 obtain ⟨x7, hweq, hL0⟩ := GL.named (hL0.new rfl [.int .u64 ((lo m : Nat) : Int), .string (hs m)] 30)
 go_wp2_with fail
 with_reducible refine Calls.mono (HT.out _) ?_
 rintro e x8 ⟨rfl, hb⟩
 replace hL0 := hL0.call hb
 clear hb hweq
 obtain ⟨x9, hweq, hL0⟩ := GL.named (hL0.new rfl [.int .u64 ((lo u : Nat) : Int), .string (hs u)] 30)
 go_upto_region 14 with fail
 clear hweq
 refine region_gh (by kernel_rfl) (by kernel_rfl) ?_
 refine lex_seg (gl := []) 5 (by kernel_rfl) ?_
 intro α iα F hF1 hF2
 have hq := GL.seg hF1 hL0
 simp only [zC, Nat.reduceAdd] at hq
 simp only [zT]
 repeat (go_big_quiet_step (first | fail | (go_at_call 68; with_reducible exact seg_call hF2 HM.out _) | (go_at_call 49; with_reducible exact seg_call hF2 HA.out _)))
 refine wpQuiet_nil ?_
 clear hq hF1 hF2 iα F α
 refine lex_new [.int .u64 0, .string ⟨#[]⟩] 13 30 30 rfl rfl (of_decide_eq_true (by kernel_rfl)) (by kernel_rfl) rfl new_natc ?_
 simp only [Act.put, zP]
 refine lex_put [.int .u64 ((lo y : Nat) : Int), .string (hs y)] [.int .u64 0, .string ⟨#[]⟩] 13 30 (.tmp 60) rfl (by kernel_rfl) (by simp [toG, upd]) rfl (fun w k h => put_natc _ _ _ _ w k h) ?_
 simp only [Act.put]
 refine lexG_nil ?_
 intro κ x10 hS
 replace hL0 := hL0.ghs hS [(13, [.int .u64 ((lo y : Nat) : Int), .string (hs y)])] (by simp) (by intro p hp; simp only [List.mem_cons, List.not_mem_nil, or_false] at hp; rcases hp with rfl <;> exact ⟨_, by simp only [toG, upd]; rfl⟩)
 simp only [List.map_cons, List.map_nil, List.cons_append, List.nil_append] at hL0
 simp only [over_toG, over_nil, Act.put, zP]
 clear hS
 generalize κ 13 = k10_13 at *
 go_upto_region 15 with fail
 obtain ⟨α, iα, F, hF1, hF2⟩ := cls x10
 refine region_qs 6 (C := fun w' => ∃ x, w' = F x) (by kernel_rfl) (by kernel_rfl) (cls_drew hF2) ?_
 simp only [zT]
 repeat (go_big_quiet_step (first | fail))
 refine wpQuiet_nil ?_
 rintro wq ⟨xq, rfl⟩
 replace hL0 := hL0.call (hF1 xq)
 clear  hF2
 generalize F xq = x11 at hL0 ⊢
 clear hF1 xq iα F α
 go_upto_region 17 with fail
 obtain ⟨α, iα, F, hF1, hF2⟩ := cls x11
 have hq0 := cls_box hF1 hL0 _ _ mZ
 simp only [zC, Nat.reduceAdd] at hq0
 have hq1 := cls_box hF1 hL0 _ _ (mK mZ)
 simp only [zC, Nat.reduceAdd] at hq1
 refine region_qs 7 (C := fun w' => ∃ x, w' = F x) (by kernel_rfl) (by kernel_rfl) (cls_drew hF2) ?_
 simp only [zT]
 repeat (go_big_quiet_step (first | fail | (go_at_call 69; with_reducible exact cls_call hF1 hF2 HJ.out _) | (go_at_call 46; with_reducible exact cls_call hF1 hF2 HF.out _)))
 refine wpQuiet_nil ?_
 rintro wq ⟨xq, rfl⟩
 replace hL0 := hL0.call (hF1 xq)
 clear  hq0 hq1 hF2
 generalize F xq = x12 at hL0 ⊢
 clear hF1 xq iα F α
 have hA := hL0.fc
 simp only [zF, Nat.reduceAdd] at hA
 obtain ⟨x13, hput1, hP⟩ := GL.named (hL0.put 4 (w.heap.size) _ rfl [.int .u64 ((zl a.num : Nat) : Int), .string (zh a.num), .bool (zs a.num), .int .u64 ((lo (fe a) : Nat) : Int), .string (hs (fe a))] rfl)
 simp only [setAll] at hput1
 simp only [List.set_cons_zero, List.set_cons_succ] at hP
 have hB1 := hP.fc
 simp only [zF, Nat.reduceAdd] at hB1
 replace hL0 := hP
 go_wp2_with fail
 exact bodyPost_ret (v := .tuple #[fracV a, .int .i64 e]) (by simp [results, Tryz.results19, go_sem, hB1]) rfl ⟨rfl, hL0.bl⟩
theorem dparse_neg_f (s d p q : ByteArray) (l h m k u x y : Nat) (z e : Int) (a : Rat) (HC : RT 64 #[.string s, .string (ByteArray.mk #[45])] (.tuple #[.string d, .bool true])) (KT : World → Prop) (hKT : Keeps KT) (HU : RK KT 65 #[.string d, .string (ByteArray.mk #[46])] (.tuple #[.string p, .string q, .bool false])) (HP : RT 66 #[.string p] (.tuple #[natV h, .int .i64 0])) (HB : RT 67 #[.string q] (.tuple #[natV m, .int .i64 0])) (HT : RT 47 #[.int .i64 (k : Int)] (natV u)) (HM : RT 68 #[natV h, natV u] (natV x)) (HA : RT 49 #[natV x, natV m] (natV y)) (HO : RT 52 #[.int .u64 0] (natV 0)) (HJ : RT 69 #[.bool true, natV y] (intV z)) (HF : RT 46 #[intV z, natV u] (.tuple #[fracV a, .int .i64 e])) (hl : s.size = l) (h0 : decide (4096 < (l : Int)) = false) (hk : q.size = k) (hy : 0 < y) (w : World) (kKT : KT w) :
  Calls Tryz.prog 19 #[.string s] w fun xe w' => xe = .returned (.tuple #[fracV a, .int .i64 e]) ∧ Below w.heap.size w w' := by
 have hL0 : GL w w [] := GL.start w
 replace HC := Lib.hid HC
 replace hKT := Lib.hid hKT
 replace HU := Lib.hid HU
 replace HP := Lib.hid HP
 replace HB := Lib.hid HB
 replace HT := Lib.hid HT
 replace HM := Lib.hid HM
 replace HA := Lib.hid HA
 replace HO := Lib.hid HO
 replace HJ := Lib.hid HJ
 replace HF := Lib.hid HF
 have hz := eq_zero hy
 clear hy
 rcases hz with e0 | ⟨e0, e1⟩
 all_goals (
  obtain ⟨x1, hweq, hL0⟩ := GL.named (hL0.new rfl [.int .u64 0, .string ⟨#[]⟩, .bool false, .int .u64 0, .string ⟨#[]⟩] 34)
  go_enter Tryz.func19, Tryz.ntmps19
  go_wp2_with fail
  with_reducible refine Calls.mono (HC.out _) ?_
  rintro e x2 ⟨rfl, hb⟩
  replace hL0 := hL0.call hb
  clear hb hweq
  go_wp2_with fail
  with_reducible refine Calls.mono (HU.out _ (hKT.out.at hL0.bl kKT)) ?_
  rintro e x3 ⟨rfl, hb⟩
  replace hL0 := hL0.call hb
  clear hb
  go_wp2_with fail
  with_reducible refine Calls.mono (HP.out _) ?_
  rintro e x4 ⟨rfl, hb⟩
  replace hL0 := hL0.call hb
  clear hb
  obtain ⟨x5, hweq, hL0⟩ := GL.named (hL0.new rfl [.int .u64 ((lo h : Nat) : Int), .string (hs h)] 30)
  go_wp2_with fail
  with_reducible refine Calls.mono (HB.out _) ?_
  rintro e x6 ⟨rfl, hb⟩
  replace hL0 := hL0.call hb
  clear hb hweq
  obtain ⟨x7, hweq, hL0⟩ := GL.named (hL0.new rfl [.int .u64 ((lo m : Nat) : Int), .string (hs m)] 30)
  go_wp2_with fail
  with_reducible refine Calls.mono (HT.out _) ?_
  rintro e x8 ⟨rfl, hb⟩
  replace hL0 := hL0.call hb
  clear hb hweq
  obtain ⟨x9, hweq, hL0⟩ := GL.named (hL0.new rfl [.int .u64 ((lo u : Nat) : Int), .string (hs u)] 30)
  go_upto_region 14 with fail
  clear hweq
  refine region_gh (by kernel_rfl) (by kernel_rfl) ?_
  refine lex_seg (gl := []) 5 (by kernel_rfl) ?_
  intro α iα F hF1 hF2
  have hq := GL.seg hF1 hL0
  simp only [zC, Nat.reduceAdd] at hq
  simp only [zT]
  repeat (go_big_quiet_step (first | fail | (go_at_call 68; with_reducible exact seg_call hF2 HM.out _) | (go_at_call 49; with_reducible exact seg_call hF2 HA.out _)))
  refine wpQuiet_nil ?_
  clear hq hF1 hF2 iα F α
  refine lex_new [.int .u64 0, .string ⟨#[]⟩] 13 30 30 rfl rfl (of_decide_eq_true (by kernel_rfl)) (by kernel_rfl) rfl new_natc ?_
  simp only [Act.put, zP]
  refine lex_put [.int .u64 ((lo y : Nat) : Int), .string (hs y)] [.int .u64 0, .string ⟨#[]⟩] 13 30 (.tmp 60) rfl (by kernel_rfl) (by simp [toG, upd]) rfl (fun w k h => put_natc _ _ _ _ w k h) ?_
  simp only [Act.put]
  refine lexG_nil ?_
  intro κ x10 hS
  replace hL0 := hL0.ghs hS [(13, [.int .u64 ((lo y : Nat) : Int), .string (hs y)])] (by simp) (by intro p hp; simp only [List.mem_cons, List.not_mem_nil, or_false] at hp; rcases hp with rfl <;> exact ⟨_, by simp only [toG, upd]; rfl⟩)
  simp only [List.map_cons, List.map_nil, List.cons_append, List.nil_append] at hL0
  simp only [over_toG, over_nil, Act.put, zP]
  clear hS
  generalize κ 13 = k10_13 at *
  go_upto_region 15 with fail
  obtain ⟨α, iα, F, hF1, hF2⟩ := cls x10
  have hq0 := cls_box hF1 hL0 _ _ mZ
  simp only [zC, Nat.reduceAdd] at hq0
  refine region_qs 6 (C := fun w' => ∃ x, w' = F x) (by kernel_rfl) (by kernel_rfl) (cls_drew hF2) ?_
  simp only [zT]
  repeat (go_big_quiet_step (first | fail | (go_at_call 52; with_reducible exact cls_call hF1 hF2 HO.out _)))
  refine wpQuiet_nil ?_
  rintro wq ⟨xq, rfl⟩
  replace hL0 := hL0.call (hF1 xq)
  clear  hq0 hF2
  generalize F xq = x11 at hL0 ⊢
  clear hF1 xq iα F α
  go_upto_region 17 with fail
  obtain ⟨α, iα, F, hF1, hF2⟩ := cls x11
  have hq0 := cls_box hF1 hL0 _ _ mZ
  simp only [zC, Nat.reduceAdd] at hq0
  have hq1 := cls_box hF1 hL0 _ _ (mK mZ)
  simp only [zC, Nat.reduceAdd] at hq1
  refine region_qs 7 (C := fun w' => ∃ x, w' = F x) (by kernel_rfl) (by kernel_rfl) (cls_drew hF2) ?_
  simp only [zT]
  repeat (go_big_quiet_step (first | fail | (go_at_call 69; with_reducible exact cls_call hF1 hF2 HJ.out _) | (go_at_call 46; with_reducible exact cls_call hF1 hF2 HF.out _)))
  refine wpQuiet_nil ?_
  rintro wq ⟨xq, rfl⟩
  replace hL0 := hL0.call (hF1 xq)
  clear  hq0 hq1 hF2
  generalize F xq = x12 at hL0 ⊢
  clear hF1 xq iα F α
  have hA := hL0.fc
  simp only [zF, Nat.reduceAdd] at hA
  obtain ⟨x13, hput1, hP⟩ := GL.named (hL0.put 4 (w.heap.size) _ rfl [.int .u64 ((zl a.num : Nat) : Int), .string (zh a.num), .bool (zs a.num), .int .u64 ((lo (fe a) : Nat) : Int), .string (hs (fe a))] rfl)
  simp only [setAll] at hput1
  simp only [List.set_cons_zero, List.set_cons_succ] at hP
  have hB1 := hP.fc
  simp only [zF, Nat.reduceAdd] at hB1
  replace hL0 := hP
  go_wp2_with fail
  exact bodyPost_ret (v := .tuple #[fracV a, .int .i64 e]) (by simp [results, Tryz.results19, go_sem, hB1]) rfl ⟨rfl, hL0.bl⟩)
theorem dparse_high_t (s d p q : ByteArray) (l h : Nat) (c : Int) (g : Bool) (HC : RT 64 #[.string s, .string (ByteArray.mk #[45])] (.tuple #[.string d, .bool g])) (KT : World → Prop) (hKT : Keeps KT) (HU : RK KT 65 #[.string d, .string (ByteArray.mk #[46])] (.tuple #[.string p, .string q, .bool true])) (HP : RT 66 #[.string p] (.tuple #[natV h, .int .i64 c])) (hl : s.size = l) (h0 : decide (4096 < (l : Int)) = false) (hq : ¬ q.toList = []) (h1 : (c != 0) = true) (w : World) (kKT : KT w) :
  Calls Tryz.prog 19 #[.string s] w fun xe w' => xe = .returned (.tuple #[.agg #[.int .u64 0, .string ⟨#[]⟩, .bool false, .int .u64 0, .string ⟨#[]⟩], .int .i64 c]) ∧ Below w.heap.size w w' := by
 have hL0 : GL w w [] := GL.start w
 replace HC := Lib.hid HC
 replace hKT := Lib.hid hKT
 replace HU := Lib.hid HU
 replace HP := Lib.hid HP
 have hq1 : (q.toList == []) = false := by simpa using hq
 have hq2 : q.toList.isEmpty = false := by simpa using hq
 obtain ⟨x1, hweq, hL0⟩ := GL.named (hL0.new rfl [.int .u64 0, .string ⟨#[]⟩, .bool false, .int .u64 0, .string ⟨#[]⟩] 34)
 go_enter Tryz.func19, Tryz.ntmps19
 go_wp2_with fail
 with_reducible refine Calls.mono (HC.out _) ?_
 rintro e x2 ⟨rfl, hb⟩
 replace hL0 := hL0.call hb
 clear hb hweq
 go_wp2_with fail
 with_reducible refine Calls.mono (HU.out _ (hKT.out.at hL0.bl kKT)) ?_
 rintro e x3 ⟨rfl, hb⟩
 replace hL0 := hL0.call hb
 clear hb
 go_wp2_with fail
 with_reducible refine Calls.mono (HP.out _) ?_
 rintro e x4 ⟨rfl, hb⟩
 replace hL0 := hL0.call hb
 clear hb
 obtain ⟨x5, hweq, hL0⟩ := GL.named (hL0.new rfl [.int .u64 ((lo h : Nat) : Int), .string (hs h)] 30)
 have hA := hL0.fc
 simp only [zF, Nat.reduceAdd] at hA
 obtain ⟨x6, hput1, hP⟩ := GL.named (hL0.put 1 (w.heap.size) _ rfl [.int .u64 0, .string ⟨#[]⟩, .bool false, .int .u64 0, .string ⟨#[]⟩] rfl)
 simp only [setAll] at hput1
 simp only [List.set_cons_zero, List.set_cons_succ] at hP
 have hB1 := hP.fc
 simp only [zF, Nat.reduceAdd] at hB1
 replace hL0 := hP
 go_wp2_with fail
 exact bodyPost_ret (v := .tuple #[.agg #[.int .u64 0, .string ⟨#[]⟩, .bool false, .int .u64 0, .string ⟨#[]⟩], .int .i64 c]) (by simp [results, Tryz.results19, go_sem, hB1]) rfl ⟨rfl, hL0.bl⟩
theorem dparse_low_t (s d p q : ByteArray) (l h m : Nat) (c : Int) (g : Bool) (HC : RT 64 #[.string s, .string (ByteArray.mk #[45])] (.tuple #[.string d, .bool g])) (KT : World → Prop) (hKT : Keeps KT) (HU : RK KT 65 #[.string d, .string (ByteArray.mk #[46])] (.tuple #[.string p, .string q, .bool true])) (HP : RT 66 #[.string p] (.tuple #[natV h, .int .i64 0])) (HB : RT 67 #[.string q] (.tuple #[natV m, .int .i64 c])) (hl : s.size = l) (h0 : decide (4096 < (l : Int)) = false) (hq : ¬ q.toList = []) (h1 : (c != 0) = true) (w : World) (kKT : KT w) :
  Calls Tryz.prog 19 #[.string s] w fun xe w' => xe = .returned (.tuple #[.agg #[.int .u64 0, .string ⟨#[]⟩, .bool false, .int .u64 0, .string ⟨#[]⟩], .int .i64 c]) ∧ Below w.heap.size w w' := by
 have hL0 : GL w w [] := GL.start w
 replace HC := Lib.hid HC
 replace hKT := Lib.hid hKT
 replace HU := Lib.hid HU
 replace HP := Lib.hid HP
 replace HB := Lib.hid HB
 have hq1 : (q.toList == []) = false := by simpa using hq
 have hq2 : q.toList.isEmpty = false := by simpa using hq
 obtain ⟨x1, hweq, hL0⟩ := GL.named (hL0.new rfl [.int .u64 0, .string ⟨#[]⟩, .bool false, .int .u64 0, .string ⟨#[]⟩] 34)
 go_enter Tryz.func19, Tryz.ntmps19
 go_wp2_with fail
 with_reducible refine Calls.mono (HC.out _) ?_
 rintro e x2 ⟨rfl, hb⟩
 replace hL0 := hL0.call hb
 clear hb hweq
 go_wp2_with fail
 with_reducible refine Calls.mono (HU.out _ (hKT.out.at hL0.bl kKT)) ?_
 rintro e x3 ⟨rfl, hb⟩
 replace hL0 := hL0.call hb
 clear hb
 go_wp2_with fail
 with_reducible refine Calls.mono (HP.out _) ?_
 rintro e x4 ⟨rfl, hb⟩
 replace hL0 := hL0.call hb
 clear hb
 obtain ⟨x5, hweq, hL0⟩ := GL.named (hL0.new rfl [.int .u64 ((lo h : Nat) : Int), .string (hs h)] 30)
 go_wp2_with fail
 with_reducible refine Calls.mono (HB.out _) ?_
 rintro e x6 ⟨rfl, hb⟩
 replace hL0 := hL0.call hb
 clear hb hweq
 obtain ⟨x7, hweq, hL0⟩ := GL.named (hL0.new rfl [.int .u64 ((lo m : Nat) : Int), .string (hs m)] 30)
 have hA := hL0.fc
 simp only [zF, Nat.reduceAdd] at hA
 obtain ⟨x8, hput1, hP⟩ := GL.named (hL0.put 2 (w.heap.size) _ rfl [.int .u64 0, .string ⟨#[]⟩, .bool false, .int .u64 0, .string ⟨#[]⟩] rfl)
 simp only [setAll] at hput1
 simp only [List.set_cons_zero, List.set_cons_succ] at hP
 have hB1 := hP.fc
 simp only [zF, Nat.reduceAdd] at hB1
 replace hL0 := hP
 go_wp2_with fail
 exact bodyPost_ret (v := .tuple #[.agg #[.int .u64 0, .string ⟨#[]⟩, .bool false, .int .u64 0, .string ⟨#[]⟩], .int .i64 c]) (by simp [results, Tryz.results19, go_sem, hB1]) rfl ⟨rfl, hL0.bl⟩
theorem dparse_zero_t (s d p q : ByteArray) (l h m k u x : Nat) (HC : RT 64 #[.string s, .string (ByteArray.mk #[45])] (.tuple #[.string d, .bool true])) (KT : World → Prop) (hKT : Keeps KT) (HU : RK KT 65 #[.string d, .string (ByteArray.mk #[46])] (.tuple #[.string p, .string q, .bool true])) (HP : RT 66 #[.string p] (.tuple #[natV h, .int .i64 0])) (HB : RT 67 #[.string q] (.tuple #[natV m, .int .i64 0])) (HT : RT 47 #[.int .i64 (k : Int)] (natV u)) (HM : RT 68 #[natV h, natV u] (natV x)) (HA : RT 49 #[natV x, natV m] (natV 0)) (HO : RT 52 #[.int .u64 0] (natV 0)) (hl : s.size = l) (h0 : decide (4096 < (l : Int)) = false) (hq : ¬ q.toList = []) (hk : q.size = k) (w : World) (kKT : KT w) :
  Calls Tryz.prog 19 #[.string s] w fun xe w' => xe = .returned (.tuple #[.agg #[.int .u64 0, .string ⟨#[]⟩, .bool false, .int .u64 0, .string ⟨#[]⟩], .int .i64 4]) ∧ Below w.heap.size w w' := by
 have hL0 : GL w w [] := GL.start w
 replace HC := Lib.hid HC
 replace hKT := Lib.hid hKT
 replace HU := Lib.hid HU
 replace HP := Lib.hid HP
 replace HB := Lib.hid HB
 replace HT := Lib.hid HT
 replace HM := Lib.hid HM
 replace HA := Lib.hid HA
 replace HO := Lib.hid HO
 have hq1 : (q.toList == []) = false := by simpa using hq
 have hq2 : q.toList.isEmpty = false := by simpa using hq
 obtain ⟨x1, hweq, hL0⟩ := GL.named (hL0.new rfl [.int .u64 0, .string ⟨#[]⟩, .bool false, .int .u64 0, .string ⟨#[]⟩] 34)
 go_enter Tryz.func19, Tryz.ntmps19
 go_wp2_with fail
 with_reducible refine Calls.mono (HC.out _) ?_
 rintro e x2 ⟨rfl, hb⟩
 replace hL0 := hL0.call hb
 clear hb hweq
 go_wp2_with fail
 with_reducible refine Calls.mono (HU.out _ (hKT.out.at hL0.bl kKT)) ?_
 rintro e x3 ⟨rfl, hb⟩
 replace hL0 := hL0.call hb
 clear hb
 go_wp2_with fail
 with_reducible refine Calls.mono (HP.out _) ?_
 rintro e x4 ⟨rfl, hb⟩
 replace hL0 := hL0.call hb
 clear hb
 obtain ⟨x5, hweq, hL0⟩ := GL.named (hL0.new rfl [.int .u64 ((lo h : Nat) : Int), .string (hs h)] 30)
 go_wp2_with fail
 with_reducible refine Calls.mono (HB.out _) ?_
 rintro e x6 ⟨rfl, hb⟩
 replace hL0 := hL0.call hb
 clear hb hweq
 obtain ⟨x7, hweq, hL0⟩ := GL.named (hL0.new rfl [.int .u64 ((lo m : Nat) : Int), .string (hs m)] 30)
 go_wp2_with fail
 with_reducible refine Calls.mono (HT.out _) ?_
 rintro e x8 ⟨rfl, hb⟩
 replace hL0 := hL0.call hb
 clear hb hweq
 obtain ⟨x9, hweq, hL0⟩ := GL.named (hL0.new rfl [.int .u64 ((lo u : Nat) : Int), .string (hs u)] 30)
 go_upto_region 14 with fail
 clear hweq
 refine region_gh (by kernel_rfl) (by kernel_rfl) ?_
 refine lex_seg (gl := []) 5 (by kernel_rfl) ?_
 intro α iα F hF1 hF2
 have hq := GL.seg hF1 hL0
 simp only [zC, Nat.reduceAdd] at hq
 simp only [zT]
 repeat (go_big_quiet_step (first | fail | (go_at_call 68; with_reducible exact seg_call hF2 HM.out _) | (go_at_call 49; with_reducible exact seg_call hF2 HA.out _)))
 refine wpQuiet_nil ?_
 clear hq hF1 hF2 iα F α
 refine lex_new [.int .u64 0, .string ⟨#[]⟩] 13 30 30 rfl rfl (of_decide_eq_true (by kernel_rfl)) (by kernel_rfl) rfl new_natc ?_
 simp only [Act.put, zP]
 refine lex_put [.int .u64 ((lo 0 : Nat) : Int), .string (hs 0)] [.int .u64 0, .string ⟨#[]⟩] 13 30 (.tmp 60) rfl (by kernel_rfl) (by simp [toG, upd]) rfl (fun w k h => put_natc _ _ _ _ w k h) ?_
 simp only [Act.put]
 refine lexG_nil ?_
 intro κ x10 hS
 replace hL0 := hL0.ghs hS [(13, [.int .u64 ((lo 0 : Nat) : Int), .string (hs 0)])] (by simp) (by intro p hp; simp only [List.mem_cons, List.not_mem_nil, or_false] at hp; rcases hp with rfl <;> exact ⟨_, by simp only [toG, upd]; rfl⟩)
 simp only [List.map_cons, List.map_nil, List.cons_append, List.nil_append] at hL0
 simp only [over_toG, over_nil, Act.put, zP]
 clear hS
 generalize κ 13 = k10_13 at *
 go_upto_region 15 with fail
 obtain ⟨α, iα, F, hF1, hF2⟩ := cls x10
 have hq0 := cls_box hF1 hL0 _ _ mZ
 simp only [zC, Nat.reduceAdd] at hq0
 refine region_qs 6 (C := fun w' => ∃ x, w' = F x) (by kernel_rfl) (by kernel_rfl) (cls_drew hF2) ?_
 simp only [zT]
 repeat (go_big_quiet_step (first | fail | (go_at_call 52; with_reducible exact cls_call hF1 hF2 HO.out _)))
 refine wpQuiet_nil ?_
 rintro wq ⟨xq, rfl⟩
 replace hL0 := hL0.call (hF1 xq)
 clear  hq0 hF2
 generalize F xq = x11 at hL0 ⊢
 clear hF1 xq iα F α
 have hA := hL0.fc
 simp only [zF, Nat.reduceAdd] at hA
 obtain ⟨x12, hput1, hP⟩ := GL.named (hL0.put 4 (w.heap.size) _ rfl [.int .u64 0, .string ⟨#[]⟩, .bool false, .int .u64 0, .string ⟨#[]⟩] rfl)
 simp only [setAll] at hput1
 simp only [List.set_cons_zero, List.set_cons_succ] at hP
 have hB1 := hP.fc
 simp only [zF, Nat.reduceAdd] at hB1
 replace hL0 := hP
 go_wp2_with fail
 exact bodyPost_ret (v := .tuple #[.agg #[.int .u64 0, .string ⟨#[]⟩, .bool false, .int .u64 0, .string ⟨#[]⟩], .int .i64 4]) (by simp [results, Tryz.results19, go_sem, hB1]) rfl ⟨rfl, hL0.bl⟩
theorem dparse_pos_t (s d p q : ByteArray) (l h m k u x y : Nat) (z e : Int) (a : Rat) (HC : RT 64 #[.string s, .string (ByteArray.mk #[45])] (.tuple #[.string d, .bool false])) (KT : World → Prop) (hKT : Keeps KT) (HU : RK KT 65 #[.string d, .string (ByteArray.mk #[46])] (.tuple #[.string p, .string q, .bool true])) (HP : RT 66 #[.string p] (.tuple #[natV h, .int .i64 0])) (HB : RT 67 #[.string q] (.tuple #[natV m, .int .i64 0])) (HT : RT 47 #[.int .i64 (k : Int)] (natV u)) (HM : RT 68 #[natV h, natV u] (natV x)) (HA : RT 49 #[natV x, natV m] (natV y)) (HJ : RT 69 #[.bool false, natV y] (intV z)) (HF : RT 46 #[intV z, natV u] (.tuple #[fracV a, .int .i64 e])) (hl : s.size = l) (h0 : decide (4096 < (l : Int)) = false) (hq : ¬ q.toList = []) (hk : q.size = k) (w : World) (kKT : KT w) :
  Calls Tryz.prog 19 #[.string s] w fun xe w' => xe = .returned (.tuple #[fracV a, .int .i64 e]) ∧ Below w.heap.size w w' := by
 have hL0 : GL w w [] := GL.start w
 replace HC := Lib.hid HC
 replace hKT := Lib.hid hKT
 replace HU := Lib.hid HU
 replace HP := Lib.hid HP
 replace HB := Lib.hid HB
 replace HT := Lib.hid HT
 replace HM := Lib.hid HM
 replace HA := Lib.hid HA
 replace HJ := Lib.hid HJ
 replace HF := Lib.hid HF
 have hq1 : (q.toList == []) = false := by simpa using hq
 have hq2 : q.toList.isEmpty = false := by simpa using hq
 obtain ⟨x1, hweq, hL0⟩ := GL.named (hL0.new rfl [.int .u64 0, .string ⟨#[]⟩, .bool false, .int .u64 0, .string ⟨#[]⟩] 34)
 go_enter Tryz.func19, Tryz.ntmps19
 go_wp2_with fail
 with_reducible refine Calls.mono (HC.out _) ?_
 rintro e x2 ⟨rfl, hb⟩
 replace hL0 := hL0.call hb
 clear hb hweq
 go_wp2_with fail
 with_reducible refine Calls.mono (HU.out _ (hKT.out.at hL0.bl kKT)) ?_
 rintro e x3 ⟨rfl, hb⟩
 replace hL0 := hL0.call hb
 clear hb
 go_wp2_with fail
 with_reducible refine Calls.mono (HP.out _) ?_
 rintro e x4 ⟨rfl, hb⟩
 replace hL0 := hL0.call hb
 clear hb
 obtain ⟨x5, hweq, hL0⟩ := GL.named (hL0.new rfl [.int .u64 ((lo h : Nat) : Int), .string (hs h)] 30)
 go_wp2_with fail
 with_reducible refine Calls.mono (HB.out _) ?_
 rintro e x6 ⟨rfl, hb⟩
 replace hL0 := hL0.call hb
 clear hb hweq
 obtain ⟨x7, hweq, hL0⟩ := GL.named (hL0.new rfl [.int .u64 ((lo m : Nat) : Int), .string (hs m)] 30)
 go_wp2_with fail
 with_reducible refine Calls.mono (HT.out _) ?_
 rintro e x8 ⟨rfl, hb⟩
 replace hL0 := hL0.call hb
 clear hb hweq
 obtain ⟨x9, hweq, hL0⟩ := GL.named (hL0.new rfl [.int .u64 ((lo u : Nat) : Int), .string (hs u)] 30)
 go_upto_region 14 with fail
 clear hweq
 refine region_gh (by kernel_rfl) (by kernel_rfl) ?_
 refine lex_seg (gl := []) 5 (by kernel_rfl) ?_
 intro α iα F hF1 hF2
 have hq := GL.seg hF1 hL0
 simp only [zC, Nat.reduceAdd] at hq
 simp only [zT]
 repeat (go_big_quiet_step (first | fail | (go_at_call 68; with_reducible exact seg_call hF2 HM.out _) | (go_at_call 49; with_reducible exact seg_call hF2 HA.out _)))
 refine wpQuiet_nil ?_
 clear hq hF1 hF2 iα F α
 refine lex_new [.int .u64 0, .string ⟨#[]⟩] 13 30 30 rfl rfl (of_decide_eq_true (by kernel_rfl)) (by kernel_rfl) rfl new_natc ?_
 simp only [Act.put, zP]
 refine lex_put [.int .u64 ((lo y : Nat) : Int), .string (hs y)] [.int .u64 0, .string ⟨#[]⟩] 13 30 (.tmp 60) rfl (by kernel_rfl) (by simp [toG, upd]) rfl (fun w k h => put_natc _ _ _ _ w k h) ?_
 simp only [Act.put]
 refine lexG_nil ?_
 intro κ x10 hS
 replace hL0 := hL0.ghs hS [(13, [.int .u64 ((lo y : Nat) : Int), .string (hs y)])] (by simp) (by intro p hp; simp only [List.mem_cons, List.not_mem_nil, or_false] at hp; rcases hp with rfl <;> exact ⟨_, by simp only [toG, upd]; rfl⟩)
 simp only [List.map_cons, List.map_nil, List.cons_append, List.nil_append] at hL0
 simp only [over_toG, over_nil, Act.put, zP]
 clear hS
 generalize κ 13 = k10_13 at *
 go_upto_region 15 with fail
 obtain ⟨α, iα, F, hF1, hF2⟩ := cls x10
 refine region_qs 6 (C := fun w' => ∃ x, w' = F x) (by kernel_rfl) (by kernel_rfl) (cls_drew hF2) ?_
 simp only [zT]
 repeat (go_big_quiet_step (first | fail))
 refine wpQuiet_nil ?_
 rintro wq ⟨xq, rfl⟩
 replace hL0 := hL0.call (hF1 xq)
 clear  hF2
 generalize F xq = x11 at hL0 ⊢
 clear hF1 xq iα F α
 go_upto_region 17 with fail
 obtain ⟨α, iα, F, hF1, hF2⟩ := cls x11
 have hq0 := cls_box hF1 hL0 _ _ mZ
 simp only [zC, Nat.reduceAdd] at hq0
 have hq1 := cls_box hF1 hL0 _ _ (mK mZ)
 simp only [zC, Nat.reduceAdd] at hq1
 refine region_qs 7 (C := fun w' => ∃ x, w' = F x) (by kernel_rfl) (by kernel_rfl) (cls_drew hF2) ?_
 simp only [zT]
 repeat (go_big_quiet_step (first | fail | (go_at_call 69; with_reducible exact cls_call hF1 hF2 HJ.out _) | (go_at_call 46; with_reducible exact cls_call hF1 hF2 HF.out _)))
 refine wpQuiet_nil ?_
 rintro wq ⟨xq, rfl⟩
 replace hL0 := hL0.call (hF1 xq)
 clear  hq0 hq1 hF2
 generalize F xq = x12 at hL0 ⊢
 clear hF1 xq iα F α
 have hA := hL0.fc
 simp only [zF, Nat.reduceAdd] at hA
 obtain ⟨x13, hput1, hP⟩ := GL.named (hL0.put 4 (w.heap.size) _ rfl [.int .u64 ((zl a.num : Nat) : Int), .string (zh a.num), .bool (zs a.num), .int .u64 ((lo (fe a) : Nat) : Int), .string (hs (fe a))] rfl)
 simp only [setAll] at hput1
 simp only [List.set_cons_zero, List.set_cons_succ] at hP
 have hB1 := hP.fc
 simp only [zF, Nat.reduceAdd] at hB1
 replace hL0 := hP
 go_wp2_with fail
 exact bodyPost_ret (v := .tuple #[fracV a, .int .i64 e]) (by simp [results, Tryz.results19, go_sem, hB1]) rfl ⟨rfl, hL0.bl⟩
theorem dparse_neg_t (s d p q : ByteArray) (l h m k u x y : Nat) (z e : Int) (a : Rat) (HC : RT 64 #[.string s, .string (ByteArray.mk #[45])] (.tuple #[.string d, .bool true])) (KT : World → Prop) (hKT : Keeps KT) (HU : RK KT 65 #[.string d, .string (ByteArray.mk #[46])] (.tuple #[.string p, .string q, .bool true])) (HP : RT 66 #[.string p] (.tuple #[natV h, .int .i64 0])) (HB : RT 67 #[.string q] (.tuple #[natV m, .int .i64 0])) (HT : RT 47 #[.int .i64 (k : Int)] (natV u)) (HM : RT 68 #[natV h, natV u] (natV x)) (HA : RT 49 #[natV x, natV m] (natV y)) (HO : RT 52 #[.int .u64 0] (natV 0)) (HJ : RT 69 #[.bool true, natV y] (intV z)) (HF : RT 46 #[intV z, natV u] (.tuple #[fracV a, .int .i64 e])) (hl : s.size = l) (h0 : decide (4096 < (l : Int)) = false) (hq : ¬ q.toList = []) (hk : q.size = k) (hy : 0 < y) (w : World) (kKT : KT w) :
  Calls Tryz.prog 19 #[.string s] w fun xe w' => xe = .returned (.tuple #[fracV a, .int .i64 e]) ∧ Below w.heap.size w w' := by
 have hL0 : GL w w [] := GL.start w
 replace HC := Lib.hid HC
 replace hKT := Lib.hid hKT
 replace HU := Lib.hid HU
 replace HP := Lib.hid HP
 replace HB := Lib.hid HB
 replace HT := Lib.hid HT
 replace HM := Lib.hid HM
 replace HA := Lib.hid HA
 replace HO := Lib.hid HO
 replace HJ := Lib.hid HJ
 replace HF := Lib.hid HF
 have hq1 : (q.toList == []) = false := by simpa using hq
 have hq2 : q.toList.isEmpty = false := by simpa using hq
 have hz := eq_zero hy
 clear hy
 rcases hz with e0 | ⟨e0, e1⟩
 all_goals (
  obtain ⟨x1, hweq, hL0⟩ := GL.named (hL0.new rfl [.int .u64 0, .string ⟨#[]⟩, .bool false, .int .u64 0, .string ⟨#[]⟩] 34)
  go_enter Tryz.func19, Tryz.ntmps19
  go_wp2_with fail
  with_reducible refine Calls.mono (HC.out _) ?_
  rintro e x2 ⟨rfl, hb⟩
  replace hL0 := hL0.call hb
  clear hb hweq
  go_wp2_with fail
  with_reducible refine Calls.mono (HU.out _ (hKT.out.at hL0.bl kKT)) ?_
  rintro e x3 ⟨rfl, hb⟩
  replace hL0 := hL0.call hb
  clear hb
  go_wp2_with fail
  with_reducible refine Calls.mono (HP.out _) ?_
  rintro e x4 ⟨rfl, hb⟩
  replace hL0 := hL0.call hb
  clear hb
  obtain ⟨x5, hweq, hL0⟩ := GL.named (hL0.new rfl [.int .u64 ((lo h : Nat) : Int), .string (hs h)] 30)
  go_wp2_with fail
  with_reducible refine Calls.mono (HB.out _) ?_
  rintro e x6 ⟨rfl, hb⟩
  replace hL0 := hL0.call hb
  clear hb hweq
  obtain ⟨x7, hweq, hL0⟩ := GL.named (hL0.new rfl [.int .u64 ((lo m : Nat) : Int), .string (hs m)] 30)
  go_wp2_with fail
  with_reducible refine Calls.mono (HT.out _) ?_
  rintro e x8 ⟨rfl, hb⟩
  replace hL0 := hL0.call hb
  clear hb hweq
  obtain ⟨x9, hweq, hL0⟩ := GL.named (hL0.new rfl [.int .u64 ((lo u : Nat) : Int), .string (hs u)] 30)
  go_upto_region 14 with fail
  clear hweq
  refine region_gh (by kernel_rfl) (by kernel_rfl) ?_
  refine lex_seg (gl := []) 5 (by kernel_rfl) ?_
  intro α iα F hF1 hF2
  have hq := GL.seg hF1 hL0
  simp only [zC, Nat.reduceAdd] at hq
  simp only [zT]
  repeat (go_big_quiet_step (first | fail | (go_at_call 68; with_reducible exact seg_call hF2 HM.out _) | (go_at_call 49; with_reducible exact seg_call hF2 HA.out _)))
  refine wpQuiet_nil ?_
  clear hq hF1 hF2 iα F α
  refine lex_new [.int .u64 0, .string ⟨#[]⟩] 13 30 30 rfl rfl (of_decide_eq_true (by kernel_rfl)) (by kernel_rfl) rfl new_natc ?_
  simp only [Act.put, zP]
  refine lex_put [.int .u64 ((lo y : Nat) : Int), .string (hs y)] [.int .u64 0, .string ⟨#[]⟩] 13 30 (.tmp 60) rfl (by kernel_rfl) (by simp [toG, upd]) rfl (fun w k h => put_natc _ _ _ _ w k h) ?_
  simp only [Act.put]
  refine lexG_nil ?_
  intro κ x10 hS
  replace hL0 := hL0.ghs hS [(13, [.int .u64 ((lo y : Nat) : Int), .string (hs y)])] (by simp) (by intro p hp; simp only [List.mem_cons, List.not_mem_nil, or_false] at hp; rcases hp with rfl <;> exact ⟨_, by simp only [toG, upd]; rfl⟩)
  simp only [List.map_cons, List.map_nil, List.cons_append, List.nil_append] at hL0
  simp only [over_toG, over_nil, Act.put, zP]
  clear hS
  generalize κ 13 = k10_13 at *
  go_upto_region 15 with fail
  obtain ⟨α, iα, F, hF1, hF2⟩ := cls x10
  have hq0 := cls_box hF1 hL0 _ _ mZ
  simp only [zC, Nat.reduceAdd] at hq0
  refine region_qs 6 (C := fun w' => ∃ x, w' = F x) (by kernel_rfl) (by kernel_rfl) (cls_drew hF2) ?_
  simp only [zT]
  repeat (go_big_quiet_step (first | fail | (go_at_call 52; with_reducible exact cls_call hF1 hF2 HO.out _)))
  refine wpQuiet_nil ?_
  rintro wq ⟨xq, rfl⟩
  replace hL0 := hL0.call (hF1 xq)
  clear  hq0 hF2
  generalize F xq = x11 at hL0 ⊢
  clear hF1 xq iα F α
  go_upto_region 17 with fail
  obtain ⟨α, iα, F, hF1, hF2⟩ := cls x11
  have hq0 := cls_box hF1 hL0 _ _ mZ
  simp only [zC, Nat.reduceAdd] at hq0
  have hq1 := cls_box hF1 hL0 _ _ (mK mZ)
  simp only [zC, Nat.reduceAdd] at hq1
  refine region_qs 7 (C := fun w' => ∃ x, w' = F x) (by kernel_rfl) (by kernel_rfl) (cls_drew hF2) ?_
  simp only [zT]
  repeat (go_big_quiet_step (first | fail | (go_at_call 69; with_reducible exact cls_call hF1 hF2 HJ.out _) | (go_at_call 46; with_reducible exact cls_call hF1 hF2 HF.out _)))
  refine wpQuiet_nil ?_
  rintro wq ⟨xq, rfl⟩
  replace hL0 := hL0.call (hF1 xq)
  clear  hq0 hq1 hF2
  generalize F xq = x12 at hL0 ⊢
  clear hF1 xq iα F α
  have hA := hL0.fc
  simp only [zF, Nat.reduceAdd] at hA
  obtain ⟨x13, hput1, hP⟩ := GL.named (hL0.put 4 (w.heap.size) _ rfl [.int .u64 ((zl a.num : Nat) : Int), .string (zh a.num), .bool (zs a.num), .int .u64 ((lo (fe a) : Nat) : Int), .string (hs (fe a))] rfl)
  simp only [setAll] at hput1
  simp only [List.set_cons_zero, List.set_cons_succ] at hP
  have hB1 := hP.fc
  simp only [zF, Nat.reduceAdd] at hB1
  replace hL0 := hP
  go_wp2_with fail
  exact bodyPost_ret (v := .tuple #[fracV a, .int .i64 e]) (by simp [results, Tryz.results19, go_sem, hB1]) rfl ⟨rfl, hL0.bl⟩)
theorem lof4_w (i j c : Int) (a : Rat) (HF : RT 37 #[.int .i64 i, .int .i64 j] (.tuple #[fracV a, .int .i64 c])) (w : World) :
  Calls Tryz.prog 41 #[.int .i64 i, .int .i64 j] w fun xe w' => xe = .returned (fracV a) ∧ Below w.heap.size w w' := by
 have hL0 : GL w w [] := GL.start w
 replace HF := Lib.hid HF
 obtain ⟨x1, hweq, hL0⟩ := GL.named (hL0.new rfl [.int .u64 0, .string ⟨#[]⟩, .bool false, .int .u64 0, .string ⟨#[]⟩] 34)
 go_enter Tryz.func41, Tryz.ntmps41
 go_wp2_with fail
 with_reducible refine Calls.mono (HF.out _) ?_
 rintro e x2 ⟨rfl, hb⟩
 replace hL0 := hL0.call hb
 clear hb hweq
 obtain ⟨x3, hweq, hL0⟩ := GL.named (hL0.new rfl [.int .u64 ((zl a.num : Nat) : Int), .string (zh a.num), .bool (zs a.num), .int .u64 ((lo (fe a) : Nat) : Int), .string (hs (fe a))] 34)
 have hA := hL0.fc
 simp only [zF, Nat.reduceAdd] at hA
 obtain ⟨x4, hput1, hP⟩ := GL.named (hL0.put 1 (w.heap.size) _ rfl [.int .u64 ((zl a.num : Nat) : Int), .string (zh a.num), .bool (zs a.num), .int .u64 ((lo (fe a) : Nat) : Int), .string (hs (fe a))] rfl)
 simp only [setAll] at hput1
 simp only [List.set_cons_zero, List.set_cons_succ] at hP
 have hB1 := hP.fc
 simp only [zF, Nat.reduceAdd] at hB1
 replace hL0 := hP
 go_wp2_with fail
 exact bodyPost_ret (v := fracV a) (by simp [results, Tryz.results41, go_sem, hB1]) rfl ⟨rfl, hL0.bl⟩
theorem ltext4_ok (a : Rat) (n v : Int) (s : ByteArray) (HT : RK Tab 14 #[fracV a, .int .i64 n, .int .i64 v] (.tuple #[.string s, .int .i64 0])) (w : World) (htab : Tab w) :
  Calls Tryz.prog 42 #[fracV a, .int .i64 n, .int .i64 v] w fun xe w' => xe = .returned (.string s) ∧ Below w.heap.size w w' := by
 have hL0 : GL w w [] := GL.start w
 replace HT := Lib.hid HT
 obtain ⟨x1, hweq, hL0⟩ := GL.named (hL0.new rfl [.int .u64 ((zl a.num : Nat) : Int), .string (zh a.num), .bool (zs a.num), .int .u64 ((lo (fe a) : Nat) : Int), .string (hs (fe a))] 34)
 go_enter Tryz.func42, Tryz.ntmps42
 have hN0 := cells_of _ 0 [] rfl (hL0.get _ _ mZ)
 simp only [zF, Nat.reduceAdd] at hN0
 go_wp2_with fail
 clear hN0
 with_reducible refine Calls.mono (HT.out _ (htab.below hL0.bl)) ?_
 rintro e x2 ⟨rfl, hb⟩
 replace hL0 := hL0.call hb
 clear hb hweq
 go_wp2_with fail
 exact bodyPost_ret (v := .string s) (by simp [results, Tryz.results42, go_sem]) rfl ⟨rfl, hL0.bl⟩
theorem lread4_ok (a : Rat) (s t : ByteArray) (KT : World → Prop) (hKT : Keeps KT) (HP : RK KT 19 #[.string s] (.tuple #[fracV a, .int .i64 0])) (HT : RK Tab 35 #[fracV a] (.string t)) (w : World) (htab : Tab w) (kKT : KT w) :
  Calls Tryz.prog 43 #[.string s] w fun xe w' => xe = .returned (.string t) ∧ Below w.heap.size w w' := by
 have hL0 : GL w w [] := GL.start w
 replace hKT := Lib.hid hKT
 replace HP := Lib.hid HP
 replace HT := Lib.hid HT
 go_enter Tryz.func43, Tryz.ntmps43
 go_wp2_with fail
 with_reducible refine Calls.mono (HP.out _ (hKT.out.at hL0.bl kKT)) ?_
 rintro e x1 ⟨rfl, hb⟩
 replace hL0 := hL0.call hb
 clear hb
 obtain ⟨x2, hweq, hL0⟩ := GL.named (hL0.new rfl [.int .u64 ((zl a.num : Nat) : Int), .string (zh a.num), .bool (zs a.num), .int .u64 ((lo (fe a) : Nat) : Int), .string (hs (fe a))] 34)
 have hN0 := cells_of _ 0 [] rfl (hL0.get _ _ mZ)
 simp only [zF, Nat.reduceAdd] at hN0
 go_wp2_with fail
 clear hN0
 with_reducible refine Calls.mono (HT.out _ (htab.below hL0.bl)) ?_
 rintro e x3 ⟨rfl, hb⟩
 replace hL0 := hL0.call hb
 clear hb hweq
 go_wp2_with fail
 exact bodyPost_ret (v := .string t) (by simp [results, Tryz.results43, go_sem]) rfl ⟨rfl, hL0.bl⟩
theorem lread4_err (a : Rat) (s : ByteArray) (c : Int) (KT : World → Prop) (hKT : Keeps KT) (HP : RK KT 19 #[.string s] (.tuple #[fracV a, .int .i64 c])) (h1 : (c != 0) = true) (w : World) (kKT : KT w) :
  Calls Tryz.prog 43 #[.string s] w fun xe w' => xe = .returned (.string (ByteArray.mk #[110, 111, 110, 101])) ∧ Below w.heap.size w w' := by
 have hL0 : GL w w [] := GL.start w
 replace hKT := Lib.hid hKT
 replace HP := Lib.hid HP
 go_enter Tryz.func43, Tryz.ntmps43
 go_wp2_with fail
 with_reducible refine Calls.mono (HP.out _ (hKT.out.at hL0.bl kKT)) ?_
 rintro e x1 ⟨rfl, hb⟩
 replace hL0 := hL0.call hb
 clear hb
 obtain ⟨x2, hweq, hL0⟩ := GL.named (hL0.new rfl [.int .u64 ((zl a.num : Nat) : Int), .string (zh a.num), .bool (zs a.num), .int .u64 ((lo (fe a) : Nat) : Int), .string (hs (fe a))] 34)
 go_wp2_with fail
 exact bodyPost_ret (v := .string (ByteArray.mk #[110, 111, 110, 101])) (by simp [results, Tryz.results43, go_sem]) rfl ⟨rfl, hL0.bl⟩
end Go.Proofs.YtahfcciihkkegaaGreatDoor
namespace Go.Proofs.YtahfcciihkkegaaGreatDoor
open Go.RowKit
open Go.Lib (decDigits)
/-- What stands before and behind the point, for a number m of units 10^-p. -/
def tailT (m p : Nat) : List UInt8 := if 0 < p then 46 :: pad p (m % 10 ^ p) else []
/-- The notation of n/10^p with p places. -/
def decT (n : Int) (p : Nat) : List UInt8 := (if n < 0 then [45] else []) ++ (decDigits (n.natAbs / 10 ^ p) ++ tailT n.natAbs p)
theorem isDig_ne {c x : UInt8} (h : isDig c) (hx : x.toNat < 48 ∨ 57 < x.toNat) : c ≠ x := fun e => by subst e; unfold isDig at h; omega
/-- Behind a 1 no zero is a leading one. -/
theorem one_isDec {l : List UInt8} (h : ∀ c ∈ l, isDig c) : isDec (49 :: l) := by
 refine ⟨?_, .inr ⟨by simp, by simp⟩⟩
 intro c hc
 rcases List.mem_cons.1 hc with h1 | h1
 ·subst h1; unfold isDig; decide
 ·exact h c h1
theorem one_isDec_iff {l : List UInt8} : isDec (49 :: l) ↔ ∀ c ∈ l, isDig c := ⟨fun h c hc => h.1 c (mK hc), one_isDec⟩
end Go.Proofs.YtahfcciihkkegaaGreatDoor
namespace Go.Proofs.YtahfcciihkkegaaGreatDoor
open Go.RowKit
open Go.Lib (decDigits)
theorem occ_any {c : UInt8} {s : List UInt8} {i : Nat} : Lib.occAt s [c] i = true → s[i]? = some c := fun h => Lib.occAt_head rfl h
theorem cut_no_any {c : UInt8} {l : List UInt8} (h : c ∉ l) : Lib.cut l [c] = (l, [], false) := by
 unfold Lib.cut
 rcases Lib.index_spec l [c] with ⟨h1, _⟩ | ⟨i, h1, _, h3, _⟩
 ·rw [h1]; rfl
 ·exact absurd (List.mem_of_getElem? (occ_any h3)) h
theorem cut_at_any {c : UInt8} {l r : List UInt8} (h : c ∉ l) : Lib.cut (l ++ c :: r) [c] = (l, r, true) := by
 unfold Lib.cut
 have hat : Lib.occAt (l ++ c :: r) [c] l.length = true := by
  unfold Lib.occAt; rw [List.drop_left]; simp
 rcases Lib.index_spec (l ++ c :: r) [c] with ⟨_, h2⟩ | ⟨i, h1, h2, h3, h4⟩
 ·have := h2 l.length (by simp)
  rw [hat] at this; cases this
 ·have e : i = l.length := by
   rcases Nat.lt_trichotomy i l.length with hl | hl | hl
   ·have := occ_any h3
    rw [List.getElem?_append_left hl] at this
    exact absurd (List.mem_of_getElem? this) h
   ·exact hl
   ·have := h4 l.length hl
    rw [hat] at this; cases this
  rw [h1, e, if_pos (by omega)]
  simp
theorem first_occ (c : UInt8) : ∀ l : List UInt8, c ∉ l ∨ ∃ b a, l = b ++ c :: a ∧ c ∉ b
 | [] => .inl (by simp)
 | x :: l => by
  by_cases e : x = c
  ·subst e; exact .inr ⟨[], l, rfl, by simp⟩
  ·rcases first_occ c l with h | ⟨b, a, h1, h2⟩
   ·exact .inl (by simp [h, Ne.symm e])
   ·exact .inr ⟨x :: b, a, by rw [h1]; rfl, by simp [h2, Ne.symm e]⟩
theorem digs_no {c : UInt8} {l : List UInt8} (h : ∀ c ∈ l, isDig c) (hc : c.toNat < 48 ∨ 57 < c.toNat) : c ∉ l := fun hm => isDig_ne (h c hm) hc rfl
/-- The digits l, without a sign, spell m/10^k. -/
inductive DV : List UInt8 → Nat → Nat → Prop
 | whole {l : List UInt8} (h : isDec l) : DV l (dval l) 0
 | point {b a : List UInt8} (hb : isDec b) (h0 : a ≠ []) (ha : ∀ c ∈ a, isDig c) : DV (b ++ 46 :: a) (dval b * 10 ^ a.length + dval a) a.length
/-- Whatever the digits are: what Cut finds, and whether they are of the form. -/
theorem form_cases (l : List UInt8) : (46 ∉ l ∧ (isDec l ∨ ¬ ∃ m k, DV l m k)) ∨ ∃ b a, l = b ++ 46 :: a ∧ 46 ∉ b ∧ ((isDec b ∧ a ≠ [] ∧ ∀ c ∈ a, isDig c) ∨ ¬ ∃ m k, DV l m k) := by
 have h46 : (46 : UInt8).toNat < 48 ∨ 57 < (46 : UInt8).toNat := by decide
 rcases first_occ 46 l with h | ⟨b, a, e, hb⟩
 ·left
  refine ⟨h, ?_⟩
  by_cases hd : isDec l
  ·exact .inl hd
  ·right
   rintro ⟨m, k, hv⟩
   cases hv with
   | whole h' => exact hd h'
   | point _ _ _ => exact h (by simp)
 ·right
  refine ⟨b, a, e, hb, ?_⟩
  by_cases hd : isDec b ∧ a ≠ [] ∧ ∀ c ∈ a, isDig c
  ·exact .inl hd
  ·right
   rintro ⟨m, k, hv⟩
   have key : ∀ b' a', l = b' ++ 46 :: a' → 46 ∉ b' → b' = b ∧ a' = a := by
    intro b' a' e' hb'
    have c1 := cut_at_any (r := a) hb
    have c2 := cut_at_any (r := a') hb'
    rw [← e] at c1
    rw [← e', c1] at c2
    injection c2 with c3 c4
    injection c4 with c5 _
    exact ⟨c3.symm, c5.symm⟩
   cases hv with
   | whole h' => exact digs_no h'.1 h46 (by rw [e]; simp)
   | @point b' a' hb2 h0 ha =>
    obtain ⟨rfl, rfl⟩ := key b' a' rfl (digs_no hb2.1 h46)
    exact hd ⟨hb2, h0, ha⟩
theorem dv_head {l : List UInt8} {m k : Nat} (h : DV l m k) : l ≠ [] ∧ l.head? ≠ some 45 := by
 have key : ∀ b : List UInt8, isDec b → b ≠ [] ∧ b.head? ≠ some 45 := by
  intro b hb
  refine ⟨?_, fun e => isDig_ne (hb.1 _ (List.mem_of_mem_head? e)) (x := 45) (by decide) rfl⟩
  rcases hb.2 with h1 | h1
  ·rw [h1]; simp
  ·exact h1.1
 cases h with
 | whole h => exact key _ h
 | @point b a hb h0 ha =>
  obtain ⟨h1, h2⟩ := key b hb
  refine ⟨by simp, ?_⟩
  rw [head_snoc _ h1]; exact h2
end Go.Proofs.YtahfcciihkkegaaGreatDoor
namespace Go.Proofs.YtahfcciihkkegaaGreatDoor
open Go.RowKit
open Go.Lib (decDigits)
theorem pad_full (q : Nat) : List.replicate (1 - (decDigits q).length) 48 ++ decDigits q = decDigits q := by
 have := dec_length_pos q
 rw [show 1 - (decDigits q).length = 0 by omega]; rfl
theorem notD (z : Int) (p : Nat) (hz : dI z ≤ 100000) (hp : p ≤ 100) (w : World) (htab : Tab w) :
  Calls Tryz.prog 53 #[intV z, .int .i64 (p : Int)] w fun e w' => e = .returned (.string ⟨(decT z p).toArray⟩) ∧ Below w.heap.size w w' := by
 have hpos : 0 < 10 ^ p := Nat.pow_pos (by decide)
 have hm : (digs z.natAbs).length ≤ 100000 := hz
 have hq : (digs (z.natAbs / 10 ^ p)).length ≤ 100000 := Nat.le_trans (digs_mono (Nat.div_le_self _ _)) hm
 have hr : (digs (z.natAbs % 10 ^ p)).length ≤ 100000 := Nat.le_trans (digs_mono (Nat.mod_le _ _)) hm
 have hs : sgn z < 0 ↔ z < 0 := by unfold sgn; split <;> (try split) <;> omega
 have h := dnot_w z (sgn z) p z.natAbs (10 ^ p) (z.natAbs / 10 ^ p) (z.natAbs % 10 ^ p) (if z < 0 then [45] else []) (tailT z.natAbs p) (absI z) (tensD p hp) (div_pos z.natAbs (10 ^ p) hpos (by omega)) (signI z) (by omega) (by omega) (by omega)
  (fun h => by rw [if_pos (hs.1 h)]) (fun h => by rw [if_neg (fun h2 => h (hs.2 h2))])
  (fun h => by unfold tailT; rw [if_pos h, (pad_eq p _ h (Nat.mod_lt _ hpos)).1]; rfl) (fun h => by unfold tailT; rw [if_neg h]) w htab
 rw [pad_full, List.append_assoc] at h
 exact h
theorem rndE (a : Rat) (n v : Int) (hc : rdC n v ≠ 0) (w : World) : Calls Tryz.prog 45 #[fracV a, .int .i64 n, .int .i64 v] w fun e w' => e = .returned (.tuple #[intV 0, .int .i64 (rdC n v)]) ∧ Below w.heap.size w w' := by
 rw [intV_00]
 unfold rdC at hc ⊢
 by_cases h1 : n < 0
 ·rw [if_pos h1]; exact drnd_neg a n v (decide_eq_true h1) w
 rw [if_neg h1] at hc ⊢
 by_cases h2 : 100 < n
 ·rw [if_pos h2]; exact drnd_big a n v (decide_eq_false h1) (decide_eq_true h2) w
 rw [if_neg h2] at hc ⊢
 by_cases h3 : v < 1
 ·rw [if_pos (.inl h3)]; exact drnd_way0 a n v (decide_eq_false h1) (decide_eq_false h2) (decide_eq_true h3) w
 by_cases h4 : 3 < v
 ·rw [if_pos (.inr h4)]; exact drnd_way4 a n v (decide_eq_false h1) (decide_eq_false h2) (decide_eq_false h3) (decide_eq_true h4) w
 rw [if_neg (by omega)] at hc
 exact absurd rfl hc
theorem textD (a : Rat) (p : Nat) (v : Int) (k : Nat) (ha : Sz a k) (hk : k ≤ 5000) (hp : p ≤ 100) (hv : 1 ≤ v ∧ v ≤ 3) (w : World) (htab : Tab w) :
  Calls Tryz.prog 14 #[fracV a, .int .i64 (p : Int), .int .i64 v] w fun e w' => e = .returned (.tuple #[.string ⟨(decT (toI v (a * tenQ p)) p).toArray⟩, .int .i64 0]) ∧ Below w.heap.size w w' := by
 have HT := tensD p hp
 have HI := fun w => fromI false (10 ^ p) ((10 ^ p : Nat) : Int) rfl w
 have hd : dI ((10 ^ p : Nat) : Int) ≤ 6 := by rw [dI_nat]; exact ten_d hp
 have HW := wholeD ((10 ^ p : Nat) : Int) (by omega)
 have et : (((10 ^ p : Nat) : Int) : Rat) = tenQ p := rfl
 rw [et] at HW
 have HM := mulF a (tenQ p) (k + 6) (ha.mono (by omega)) ((ten_sz hp).mono (by omega)) (by omega)
 have HN := toID (a * tenQ p) v (k + 6) (ha.mul (ten_sz hp)) (by omega) hv
 have HR := drnd_ok a _ _ (p : Int) v _ _ _ HT HI HW HM HN (decide_eq_false (by omega)) (decide_eq_false (by omega)) (decide_eq_false (by omega)) (decide_eq_false (by omega))
 have hz := toI_d v (ha.mul (ten_sz hp))
 exact dtext_ok a (p : Int) v _ _ HR (notD _ p (by omega) hp) w htab
theorem textE (a : Rat) (n v : Int) (hc : rdC n v ≠ 0) (w : World) :
  Calls Tryz.prog 14 #[fracV a, .int .i64 n, .int .i64 v] w fun e w' => e = .returned (.tuple #[.string ⟨#[]⟩, .int .i64 (rdC n v)]) ∧ Below w.heap.size w w' :=
 dtext_err a n v 0 (rdC n v) (rndE a n v hc) (by simpa using hc) w
theorem dval_d {l : List UInt8} (h : ∀ c ∈ l, isDig c) : (digs (dval l)).length ≤ l.length :=
 digs_length_iff.2 (Nat.lt_of_lt_of_le (dval_lt h) (Nat.pow_le_pow_left (by unfold Bs; decide) _))
theorem behD (a : List UInt8) (ha : ∀ c ∈ a, isDig c) (hl : a.length ≤ 100) (w : World) :
  Calls Tryz.prog 67 #[.string ⟨a.toArray⟩] w fun e w' => e = .returned (.tuple #[natV (dval a), .int .i64 0]) ∧ Below w.heap.size w w' := by
 have hv : dval (49 :: a) = 10 ^ a.length + dval a := by
  have := dval_append [49] a
  rw [show dval [49] = 1 from rfl, Nat.one_mul] at this
  exact this
 have HP := parse_ok (49 :: a) (by simp; omega) (one_isDec ha)
 have h49 : ∀ c ∈ (49 :: a), isDig c := (one_isDec ha).1
 have hd := dval_d h49
 rw [hv] at HP hd
 have HS := fun w => sub_ge (10 ^ a.length + dval a) (10 ^ a.length) (Nat.le_add_right _ _) (Nat.le_trans hd (by simp; omega)) w
 rw [Nat.add_sub_cancel_left] at HS
 exact dbeh_ok ⟨a.toArray⟩ (st (49 :: a)) _ a.length _ _ _ HP (tensD a.length hl) HS (by show (⟨[49].toArray⟩ : ByteArray) ++ ⟨a.toArray⟩ = _; rw [ByteArray.mk_append_mk]; rfl) (by simp [ByteArray.size]) (by omega) (by omega) (by omega) w
theorem behE (a : List UInt8) (ha : ¬ ∀ c ∈ a, isDig c) (hl : a.length ≤ 4000) (w : World) :
  Calls Tryz.prog 67 #[.string ⟨a.toArray⟩] w fun e w' => e = .returned (.tuple #[natV 0, .int .i64 4]) ∧ Below w.heap.size w w' := by
 have HP := parse_form (49 :: a) (by simp; omega) (fun h => ha (one_isDec_iff.1 h))
 rw [natV_zero]
 exact dbeh_err ⟨a.toArray⟩ (st (49 :: a)) 0 a.length 4 HP (by show (⟨[49].toArray⟩ : ByteArray) ++ ⟨a.toArray⟩ = _; rw [ByteArray.mk_append_mk]; rfl) (by simp [ByteArray.size]) (by omega) (by omega) (by omega) (by decide) w
/-- What CutPrefix finds. -/
def Sgn (g : Bool) (l d : List UInt8) : Prop := (g = true ∧ l = 45 :: d) ∨ (g = false ∧ l = d ∧ l.head? ≠ some 45)
theorem Sgn.le {g : Bool} {l d : List UInt8} (h : Sgn g l d) : d.length ≤ l.length := by
 rcases h with ⟨_, rfl⟩ | ⟨_, rfl, _⟩
 ·simp
 ·exact Nat.le_refl _
theorem cpD (g : Bool) (l d : List UInt8) (h : Sgn g l d) (w : World) :
  Calls Tryz.prog 64 #[.string ⟨l.toArray⟩, .string (ByteArray.mk #[45])] w fun e w' => e = .returned (.tuple #[.string ⟨d.toArray⟩, .bool g]) ∧ Below w.heap.size w w' := by
 refine (Tryz.strings_CutPrefix ⟨l.toArray⟩ (ByteArray.mk #[45]) w).mono ?_
 rintro e w' ⟨rfl, rfl⟩
 refine ⟨?_, Below.refl _ _⟩
 rcases h with ⟨rfl, rfl⟩ | ⟨rfl, rfl, h⟩
 ·simp [Lib.trimPrefix, Lib.hasPrefix]
 ·have : Lib.hasPrefix l [45] = false := by
   unfold Lib.hasPrefix
   cases l with
   | nil => rfl
   | cons c r => simp at h; simp [List.isPrefixOf, Ne.symm h]
  simp [Lib.trimPrefix, this]
theorem cutD (d p q : List UInt8) (f : Bool) (hl : d.length ≤ 4096) (h : Lib.cut d [46] = (p, q, f)) (w : World) (hm : MaxL w) :
  Calls Tryz.prog 65 #[.string ⟨d.toArray⟩, .string (ByteArray.mk #[46])] w fun xe w' => xe = .returned (.tuple #[.string ⟨p.toArray⟩, .string ⟨q.toArray⟩, .bool f]) ∧ Below w.heap.size w w' := by
 obtain ⟨m, hm⟩ := hm
 have h1 := Tryz.strings_Cut ⟨d.toArray⟩ (ByteArray.mk #[46]) m w (by simp [ByteArray.size]; omega) hm
 rw [show (ByteArray.mk #[46]).data.toList = [46] from rfl, show (ByteArray.mk d.toArray).data.toList = d by simp, h] at h1
 exact h1.mono fun xe w' ⟨h1, n, h2⟩ => ⟨h1, by rw [h2]; exact ⟨rfl, rfl, rfl, Nat.le_refl _, fun _ _ => rfl⟩⟩
theorem ne_list {a : List UInt8} (h : a ≠ []) : ¬ (ByteArray.mk a.toArray).toList = [] := by
 rw [ByteArray.toList_eq]; simpa using h
theorem parse_in (f g : Bool) (l d p q : List UInt8) (hg : Sgn g l d) (hc : Lib.cut d [46] = (p, q, f)) (hp : isDec p) (hq : ∀ c ∈ q, isDig c) (hf : f = true → q ≠ []) (hl : l.length ≤ 4096) (hpl : p.length ≤ 4096) (hk : q.length ≤ 100) (h0 : g = true → dval p * 10 ^ q.length + dval q ≠ 0) (w : World) (hM : MaxL w) :
  Calls Tryz.prog 19 #[.string ⟨l.toArray⟩] w fun e w' => e = .returned (.tuple #[fracV (mkRat (if g then -((dval p * 10 ^ q.length + dval q : Nat) : Int) else ((dval p * 10 ^ q.length + dval q : Nat) : Int)) (10 ^ q.length)), .int .i64 0]) ∧ Below w.heap.size w w' := by
 have hdl := hg.le
 have hpq : ∀ c ∈ p ++ q, isDig c := fun c h => (List.mem_append.1 h).elim (hp.1 c) (hq c)
 have hy := dval_d hpq
 rw [dval_append, List.length_append] at hy
 have hx : (digs (dval p * 10 ^ q.length)).length ≤ p.length + q.length := Nat.le_trans (digs_mono (Nat.le_add_right _ _)) hy
 have hp1 := dval_d hp.1
 have hq1 := dval_d hq
 have hu := ten_d hk
 have HC := cpD g l d hg
 have HU := cutD d p q f (by omega) hc
 have HP := parse_ok p hpl hp
 have HB := behD q hq hk
 have HT := tensD q.length hk
 have HM := fun w => mul_any (dval p) (10 ^ q.length) (by omega) (by omega) w
 have HA := fun w => add_any (dval p * 10 ^ q.length) (dval q) (by omega) (by omega) w
 have HJ := fun w => fromI g (dval p * 10 ^ q.length + dval q) _ rfl w
 have hpos : 10 ^ q.length ≠ 0 := Nat.ne_of_gt (Nat.pow_pos (by decide))
 obtain ⟨y, hye⟩ : ∃ y, y = dval p * 10 ^ q.length + dval q := ⟨_, rfl⟩
 rw [← hye] at HA HJ hy h0 ⊢
 obtain ⟨z, hz⟩ : ∃ z : Int, z = if g then -(y : Int) else (y : Int) := ⟨_, rfl⟩
 rw [← hz] at HJ ⊢
 have hzd : dI z ≤ 5000 := by
  have : z.natAbs = y := by rw [hz]; split <;> omega
  unfold dI; rw [this]; omega
 have HF := fun w => fromF z (10 ^ q.length) hpos (by omega) (by omega) w
 have hs : (ByteArray.mk l.toArray).size = l.length := by simp [ByteArray.size]
 have hs2 : (ByteArray.mk q.toArray).size = q.length := by simp [ByteArray.size]
 have d0 : decide (4096 < (l.length : Int)) = false := decide_eq_false (by omega)
 have HO := of_val 0 0 rfl (by unfold Bs; omega)
 have HP2 : ∀ w, Calls Tryz.prog 66 #[.string ⟨p.toArray⟩] w fun e w' => e = .returned (.tuple #[natV (dval p), .int .i64 0]) ∧ Below w.heap.size w w' := HP
 cases f <;> cases g
 ·exact dparse_pos_f _ _ _ _ _ _ _ _ _ _ _ _ _ _ HC MaxL MaxL.keeps HU HP2 HB HT HM HA HJ HF hs d0 hs2 w hM
 ·exact dparse_neg_f _ _ _ _ _ _ _ _ _ _ _ _ _ _ HC MaxL MaxL.keeps HU HP2 HB HT HM HA HO HJ HF hs d0 hs2 (Nat.pos_of_ne_zero (h0 rfl)) w hM
 ·exact dparse_pos_t _ _ _ _ _ _ _ _ _ _ _ _ _ _ HC MaxL MaxL.keeps HU HP2 HB HT HM HA HJ HF hs d0 (ne_list (hf rfl)) hs2 w hM
 ·exact dparse_neg_t _ _ _ _ _ _ _ _ _ _ _ _ _ _ HC MaxL MaxL.keeps HU HP2 HB HT HM HA HO HJ HF hs d0 (ne_list (hf rfl)) hs2 (Nat.pos_of_ne_zero (h0 rfl)) w hM
theorem parseD (g : Bool) (l d : List UInt8) (m k : Nat) (hg : Sgn g l d) (hv : DV d m k) (hl : l.length ≤ 4096) (hk : k ≤ 100) (h0 : g = true → m ≠ 0) (w : World) (hM : MaxL w) :
  Calls Tryz.prog 19 #[.string ⟨l.toArray⟩] w fun e w' => e = .returned (.tuple #[fracV (mkRat (if g then -(m : Int) else (m : Int)) (10 ^ k)), .int .i64 0]) ∧ Below w.heap.size w w' := by
 have h46 : (46 : UInt8).toNat < 48 ∨ 57 < (46 : UInt8).toNat := by decide
 have hdl := hg.le
 cases hv with
 | whole h =>
  have := parse_in false g l d d [] hg (cut_no_any (digs_no h.1 h46)) h (fun c hc => absurd hc (by simp)) (fun e => by cases e) hl (by omega) (by simp) (by simpa [dval_nil] using h0) w hM
  simpa [dval_nil] using this
 | @point b a hb h1 ha =>
  exact parse_in true g l _ b a hg (cut_at_any (digs_no hb.1 h46)) hb ha (fun _ => h1) hl (by have := hdl; simp at this; omega) hk h0 w hM
theorem parse_zin (f : Bool) (l d p q : List UInt8) (hg : Sgn true l d) (hc : Lib.cut d [46] = (p, q, f)) (hp : isDec p) (hq : ∀ c ∈ q, isDig c) (hf : f = true → q ≠ []) (hl : l.length ≤ 100) (hpl : p.length ≤ 4096) (hk : q.length ≤ 100) (h0 : dval p * 10 ^ q.length + dval q = 0) (w : World) (hM : MaxL w) :
  Calls Tryz.prog 19 #[.string ⟨l.toArray⟩] w fun e w' => e = .returned (.tuple #[.agg #[.int .u64 0, .string ⟨#[]⟩, .bool false, .int .u64 0, .string ⟨#[]⟩], .int .i64 4]) ∧ Below w.heap.size w w' := by
 have hdl := hg.le
 have hp1 := dval_d hp.1
 have hq1 := dval_d hq
 have hu := ten_d hk
 have HC := cpD true l d hg
 have HU := cutD d p q f (by omega) hc
 have HP : ∀ w, Calls Tryz.prog 66 #[.string ⟨p.toArray⟩] w fun e w' => e = .returned (.tuple #[natV (dval p), .int .i64 0]) ∧ Below w.heap.size w w' := parse_ok p hpl hp
 have HB := behD q hq hk
 have HT := tensD q.length hk
 have HM := fun w => mul_any (dval p) (10 ^ q.length) (by omega) (by omega) w
 have hxz : dval p * 10 ^ q.length = 0 := by omega
 have HA := fun w => add_any (dval p * 10 ^ q.length) (dval q) (by rw [hxz, digs_zero]; simp) (by omega) w
 rw [h0] at HA
 have hs : (ByteArray.mk l.toArray).size = l.length := by simp [ByteArray.size]
 have hs2 : (ByteArray.mk q.toArray).size = q.length := by simp [ByteArray.size]
 have d0 : decide (4096 < (l.length : Int)) = false := decide_eq_false (by omega)
 have HO := of_val 0 0 rfl (by unfold Bs; omega)
 cases f
 ·exact dparse_zero_f _ _ _ _ _ _ _ _ _ _ HC MaxL MaxL.keeps HU HP HB HT HM HA HO hs d0 hs2 w hM
 ·exact dparse_zero_t _ _ _ _ _ _ _ _ _ _ HC MaxL MaxL.keeps HU HP HB HT HM HA HO hs d0 (ne_list (hf rfl)) hs2 w hM
theorem zeroF : (Value.agg #[.int .u64 0, .string ⟨#[]⟩, .bool false, .int .u64 0, .string ⟨#[]⟩]) = fracV 0 := frV_q0'.symm
/-- What is no number is refused. -/
theorem parseE (g : Bool) (l d : List UInt8) (hg : Sgn g l d) (hl : l.length ≤ 100) (h : (¬ ∃ m k, DV d m k) ∨ (g = true ∧ ∃ k, DV d 0 k)) (w : World) (hM : MaxL w) :
  Calls Tryz.prog 19 #[.string ⟨l.toArray⟩] w fun e w' => e = .returned (.tuple #[fracV 0, .int .i64 4]) ∧ Below w.heap.size w w' := by
 have hdl := hg.le
 have HC := cpD g l d hg
 have hs : (ByteArray.mk l.toArray).size = l.length := by simp [ByteArray.size]
 have d0 : decide (4096 < (l.length : Int)) = false := decide_eq_false (by omega)
 rw [← zeroF]
 rcases h with h | ⟨rfl, k, hv⟩
 ·rcases form_cases d with ⟨h46, h1⟩ | ⟨b, a, rfl, h46, -⟩
  ·have hnd : ¬ isDec d := fun hd => h ⟨_, _, .whole hd⟩
   exact dparse_high_f _ _ _ _ _ 0 4 _ HC MaxL MaxL.keeps (cutD d d [] false (by omega) (cut_no_any h46)) (parse_form d (by omega) hnd) hs d0 (by decide) w hM
  ·have HU := cutD (b ++ 46 :: a) b a true (by omega) (cut_at_any h46)
   simp at hdl
   by_cases ha : a = []
   ·subst ha
    exact dparse_end _ _ _ _ _ HC MaxL MaxL.keeps HU hs d0 w hM
   ·by_cases hb : isDec b
    ·by_cases hd : ∀ c ∈ a, isDig c
     ·exact absurd ⟨_, _, DV.point hb ha hd⟩ h
     ·exact dparse_low_t _ _ _ _ _ (dval b) 0 4 _ HC MaxL MaxL.keeps HU (parse_ok b (by omega) hb) (behE a hd (by omega)) hs d0 (ne_list ha) (by decide) w hM
    ·exact dparse_high_t _ _ _ _ _ 0 4 _ HC MaxL MaxL.keeps HU (parse_form b (by omega) hb) hs d0 (ne_list ha) (by decide) w hM
 ·have h46 : (46 : UInt8).toNat < 48 ∨ 57 < (46 : UInt8).toNat := by decide
  generalize hm : (0 : Nat) = m0 at hv
  cases hv with
  | whole h =>
   exact parse_zin false l d d [] hg (cut_no_any (digs_no h.1 h46)) h (fun c hc => absurd hc (by simp)) (fun e => by cases e) hl (by omega) (by simp) (by simpa [dval_nil] using hm.symm) w hM
  | @point b a hb h1 ha =>
   simp at hdl
   exact parse_zin true l _ b a hg (cut_at_any (digs_no hb.1 h46)) hb ha (fun _ => h1) hl (by omega) (by omega) hm.symm w hM
end Go.Proofs.YtahfcciihkkegaaGreatDoor
namespace Go.Proofs.YtahfcciihkkegaaGreatDoor
open Go.RowKit
/-- What Cycle answers for a denominator D. -/
def CycA (D : Nat) (m n c : Int) : Prop :=
 (∃ k : Nat, Lead D k ∧ k ≤ 100 ∧ Eden D k = 1 ∧ m = k ∧ n = 0 ∧ c = 0) ∨
 (∃ k j : Nat, Lead D k ∧ k ≤ 100 ∧ Eden D k ≠ 1 ∧ 1 ≤ j ∧ k + j ≤ 100 ∧ 10 ^ j % Eden D k = 1 ∧ (∀ i, 1 ≤ i → i < j → 10 ^ i % Eden D k ≠ 1) ∧ m = k ∧ n = j ∧ c = 0) ∨
 (∃ k : Nat, Lead D k ∧ k ≤ 100 ∧ Eden D k ≠ 1 ∧ (∀ i, 1 ≤ i → k + i ≤ 100 → 10 ^ i % Eden D k ≠ 1) ∧ m = 0 ∧ n = 0 ∧ c = 3) ∨
 ((∀ i, i ≤ 100 → Nat.gcd (Eden D i) 10 ≠ 1) ∧ m = 0 ∧ n = 0 ∧ c = 3)
theorem leadD (D k : Nat) (hsz : (digs D).length ≤ 1000000) (hk : Lead D k) (h100 : k ≤ 100) (w : World) :
  Calls Tryz.prog 74 #[natV D] w fun e w' => e = .returned (.tuple #[.int .i64 (k : Int), natV (Eden D k)]) ∧ Below w.heap.size w w' :=
 dlead_w D _ ten_o one_o hsz (fun i d hi hd hg hb => by
  have : k = i := Lead.uniq hk ⟨by rw [← hd]; exact hg, hb⟩
  subst this; rw [hd]) (fun h => absurd hk.one (h k h100)) w
theorem wrap_100 (k : Nat) (h : k ≤ 100) : IntKind.i64.wrap (100 - (k : Int)) = ((100 - k : Nat) : Int) ∧ wrap64 (100 - (k : Int)) = ((100 - k : Nat) : Int) := by
 have e : (100 - (k : Int)) = ((100 - k : Nat) : Int) := by omega
 rw [e]
 refine ⟨?_, by unfold wrap64; omega⟩
 simp only [IntKind.wrap, IntKind.signed, IntKind.bits]
 simp
 omega
theorem cycD (a : Rat) (k : Nat) (ha : Sz a k) (hk : k ≤ 1000000) (m n c : Int) (h : CycA a.den m n c) (w : World) :
  Calls Tryz.prog 21 #[fracV a] w fun e w' => e = .returned (.tuple #[.int .i64 m, .int .i64 n, .int .i64 c]) ∧ Below w.heap.size w w' := by
 have hsz : (digs a.den).length ≤ 1000000 := Nat.le_trans ha.2 hk
 have hpos : 0 < a.den := a.den_pos
 have he : ∀ i, (digs (Eden a.den i)).length ≤ 1000000 := fun i => Nat.le_trans (digs_mono (Eden_le i)) hsz
 have h1 : ∀ {i : Nat}, Eden a.den i ≠ 1 → 1 < Eden a.den i := fun {i} h => by have := Eden_pos hpos i; omega
 rcases h with ⟨i, hl, hi, h1', rfl, rfl, rfl⟩ | ⟨i, j, hl, hi, hne, hj1, hj2, hr, hb, rfl, rfl, rfl⟩ | ⟨i, hl, hi, hne, hb, rfl, rfl, rfl⟩ | ⟨hb, rfl, rfl, rfl⟩
 ·have HL := leadD a.den i hsz hl hi
  rw [h1'] at HL
  exact dcyc_end a a.den (i : Int) (denF a) HL one_o (decide_eq_false (by omega)) w
 ·have HP := dper_w (Eden a.den i) (100 - i) (.tuple #[.int .i64 (j : Int), .bool true]) ten_o one_o (he i) (h1 hne) (by omega) (fun k q1 q2 q3 q4 => by
   have : k = j := by
    rcases Nat.lt_trichotomy k j with q | q | q
    ·exact absurd q3 (hb k q1 q)
    ·exact q
    ·exact absurd hr (q4 j hj1 q)
   rw [this]) (fun q => absurd hr (q j hj1 (by omega)))
  exact dcyc_round a a.den _ (i : Int) _ (j : Int) (denF a) (leadD a.den i hsz hl hi) one_o HP (decide_eq_false (by omega)) (wrap_100 i hi).1 (wrap_100 i hi).2 hne w
 ·have HP := dper_w (Eden a.den i) (100 - i) (.tuple #[.int .i64 0, .bool false]) ten_o one_o (he i) (h1 hne) (by omega) (fun k q1 q2 q3 q4 => absurd q3 (hb k q1 (by omega))) (fun q => rfl)
  exact dcyc_none a a.den _ (i : Int) _ 0 (denF a) (leadD a.den i hsz hl hi) one_o HP (decide_eq_false (by omega)) (wrap_100 i hi).1 (wrap_100 i hi).2 hne w
 ·have HL := dlead_w a.den (.tuple #[.int .i64 101, natV (Eden a.den 101)]) ten_o one_o hsz (fun i d hi hd hg _ => absurd (by rw [← hd]; exact hg) (hb i hi)) (fun _ => rfl)
  exact dcyc_far a a.den _ 101 (denF a) HL (by decide) w
theorem least (P : Nat → Prop) : ∀ n, P n → ∃ k, k ≤ n ∧ P k ∧ ∀ j, j < k → ¬ P j := by
 intro n
 induction n using Nat.strongRecOn with
 | ind n ih =>
  intro hn
  by_cases h : ∃ j, j < n ∧ P j
  ·obtain ⟨j, hj, hp⟩ := h
   obtain ⟨k, hk, r⟩ := ih j hj hp
   exact ⟨k, by omega, r⟩
  ·exact ⟨n, Nat.le_refl _, hn, fun j hj hp => h ⟨j, hj, hp⟩⟩
end Go.Proofs.YtahfcciihkkegaaGreatDoor
namespace Go.Proofs.YtahfcciihkkegaaGreatDoor
open Go.RowKit
attribute [local irreducible] lo hs sm s64 c64 d64 b64 mh ml pd pc qd qc val hiB str cmpI srD lz nb isq decB zl zh zs fe txt
theorem dworks_w (a1 a2 a3 a4 a5 a6 a7 a8 a9 b1 b2 b3 b4 c1 c3 : Rat) (Oa1 : RT 41 #[.int .i64 1, .int .i64 8] (fracV a1)) (Oa2 : RT 41 #[.int .i64 3, .int .i64 8] (fracV a2)) (Oa3 : RT 41 #[.int .i64 (-1), .int .i64 8] (fracV a3)) (Oa4 : RT 41 #[.int .i64 (-1), .int .i64 1000] (fracV a4)) (Oa5 : RT 41 #[.int .i64 5, .int .i64 2] (fracV a5)) (Oa6 : RT 41 #[.int .i64 2, .int .i64 3] (fracV a6)) (Oa7 : RT 41 #[.int .i64 7, .int .i64 10] (fracV a7)) (Oa8 : RT 41 #[.int .i64 (-1), .int .i64 3] (fracV a8)) (Oa9 : RT 41 #[.int .i64 (-2), .int .i64 5] (fracV a9)) (Ob1 : RT 41 #[.int .i64 (-3), .int .i64 10] (fracV b1)) (Ob2 : RT 41 #[.int .i64 1, .int .i64 109] (fracV b2)) (Ob3 : RT 41 #[.int .i64 1, .int .i64 6] (fracV b3)) (Ob4 : RT 41 #[.int .i64 1, .int .i64 7] (fracV b4)) (I1 : RT 32 #[.int .i64 1] (fracV c1)) (I3 : RT 32 #[.int .i64 3] (fracV c3)) (KT : World → Prop) (hKT : Keeps KT) (T0 : RK KT 42 #[fracV a1, .int .i64 2, .int .i64 1] (.string (ByteArray.mk #[48, 46, 49, 50]))) (T1 : RK KT 42 #[fracV a1, .int .i64 2, .int .i64 2] (.string (ByteArray.mk #[48, 46, 49, 51]))) (T2 : RK KT 42 #[fracV a1, .int .i64 2, .int .i64 3] (.string (ByteArray.mk #[48, 46, 49, 50]))) (T3 : RK KT 42 #[fracV a2, .int .i64 2, .int .i64 3] (.string (ByteArray.mk #[48, 46, 51, 56]))) (T4 : RK KT 42 #[fracV a3, .int .i64 2, .int .i64 1] (.string (ByteArray.mk #[45, 48, 46, 49, 51]))) (T5 : RK KT 42 #[fracV a3, .int .i64 2, .int .i64 2] (.string (ByteArray.mk #[45, 48, 46, 49, 50]))) (T6 : RK KT 42 #[fracV a4, .int .i64 2, .int .i64 2] (.string (ByteArray.mk #[48, 46, 48, 48]))) (T7 : RK KT 42 #[fracV a5, .int .i64 0, .int .i64 3] (.string (ByteArray.mk #[50]))) (R1 : RT 12 #[fracV a6, .int .i64 1, .int .i64 2] (.tuple #[fracV a7, .int .i64 0])) (B1 : RT 26 #[fracV a8, .int .i64 1] (.tuple #[fracV a9, fracV b1, .int .i64 0])) (E1 : RT 14 #[fracV c1, .int .i64 101, .int .i64 1] (.tuple #[.string ⟨#[]⟩, .int .i64 3])) (E2 : RT 14 #[fracV c1, .int .i64 0, .int .i64 4] (.tuple #[.string ⟨#[]⟩, .int .i64 1])) (P0 : RK KT 43 #[.string (ByteArray.mk #[45, 49, 46, 50, 53])] (.string (ByteArray.mk #[45, 53, 47, 52]))) (P1 : RK KT 43 #[.string (ByteArray.mk #[48, 48, 55])] (.string (ByteArray.mk #[110, 111, 110, 101]))) (P2 : RK KT 43 #[.string (ByteArray.mk #[49, 46])] (.string (ByteArray.mk #[110, 111, 110, 101]))) (P3 : RK KT 43 #[.string (ByteArray.mk #[46, 53])] (.string (ByteArray.mk #[110, 111, 110, 101]))) (P4 : RK KT 43 #[.string (ByteArray.mk #[45, 48, 46, 48])] (.string (ByteArray.mk #[110, 111, 110, 101]))) (P5 : RK KT 43 #[.string (ByteArray.mk #[51, 46, 49, 48])] (.string (ByteArray.mk #[51, 49, 47, 49, 48]))) (Y0 : RT 21 #[fracV b2] (.tuple #[.int .i64 0, .int .i64 0, .int .i64 3])) (C0 : RT 44 #[fracV b3, .int .i64 1, .int .i64 1] (.bool true)) (C1 : RT 44 #[fracV b4, .int .i64 0, .int .i64 6] (.bool true)) (C2 : RT 44 #[fracV a3, .int .i64 3, .int .i64 0] (.bool true)) (C3 : RT 44 #[fracV c3, .int .i64 0, .int .i64 0] (.bool true)) (w : World) (kKT : KT w) :
  Calls Tryz.prog 11 #[] w fun xe w' => xe = .returned (.bool true) ∧ Below w.heap.size w w' := by
 have hL0 : GL w w [] := GL.start w
 replace Oa1 := Lib.hid Oa1
 replace Oa2 := Lib.hid Oa2
 replace Oa3 := Lib.hid Oa3
 replace Oa4 := Lib.hid Oa4
 replace Oa5 := Lib.hid Oa5
 replace Oa6 := Lib.hid Oa6
 replace Oa7 := Lib.hid Oa7
 replace Oa8 := Lib.hid Oa8
 replace Oa9 := Lib.hid Oa9
 replace Ob1 := Lib.hid Ob1
 replace Ob2 := Lib.hid Ob2
 replace Ob3 := Lib.hid Ob3
 replace Ob4 := Lib.hid Ob4
 replace I1 := Lib.hid I1
 replace I3 := Lib.hid I3
 replace hKT := Lib.hid hKT
 replace T0 := Lib.hid T0
 replace T1 := Lib.hid T1
 replace T2 := Lib.hid T2
 replace T3 := Lib.hid T3
 replace T4 := Lib.hid T4
 replace T5 := Lib.hid T5
 replace T6 := Lib.hid T6
 replace T7 := Lib.hid T7
 replace R1 := Lib.hid R1
 replace B1 := Lib.hid B1
 replace E1 := Lib.hid E1
 replace E2 := Lib.hid E2
 replace P0 := Lib.hid P0
 replace P1 := Lib.hid P1
 replace P2 := Lib.hid P2
 replace P3 := Lib.hid P3
 replace P4 := Lib.hid P4
 replace P5 := Lib.hid P5
 replace Y0 := Lib.hid Y0
 replace C0 := Lib.hid C0
 replace C1 := Lib.hid C1
 replace C2 := Lib.hid C2
 replace C3 := Lib.hid C3
 go_enter Tryz.func11, Tryz.ntmps11
 go_wp2_with fail
 with_reducible refine Calls.mono (Oa1.out _) ?_
 rintro e x1 ⟨rfl, hb⟩
 replace hL0 := hL0.call hb
 clear hb
 obtain ⟨x2, hweq, hL0⟩ := GL.named (hL0.new rfl [.int .u64 ((zl a1.num : Nat) : Int), .string (zh a1.num), .bool (zs a1.num), .int .u64 ((lo (fe a1) : Nat) : Int), .string (hs (fe a1))] 34)
 have hN0 := cells_of _ 0 [] rfl (hL0.get _ _ mZ)
 simp only [zF, Nat.reduceAdd] at hN0
 go_wp2_with fail
 clear hN0
 with_reducible refine Calls.mono (T0.out _ (hKT.out.at hL0.bl kKT)) ?_
 rintro e x3 ⟨rfl, hb⟩
 replace hL0 := hL0.call hb
 clear hb hweq
 have hN0 := cells_of _ 0 [] rfl (hL0.get _ _ mZ)
 simp only [zF, Nat.reduceAdd] at hN0
 go_wp2_with fail
 clear hN0
 with_reducible refine Calls.mono (T1.out _ (hKT.out.at hL0.bl kKT)) ?_
 rintro e x4 ⟨rfl, hb⟩
 replace hL0 := hL0.call hb
 clear hb
 have hN0 := cells_of _ 0 [] rfl (hL0.get _ _ mZ)
 simp only [zF, Nat.reduceAdd] at hN0
 go_wp2_with fail
 clear hN0
 with_reducible refine Calls.mono (T2.out _ (hKT.out.at hL0.bl kKT)) ?_
 rintro e x5 ⟨rfl, hb⟩
 replace hL0 := hL0.call hb
 clear hb
 go_wp2_with fail
 with_reducible refine Calls.mono (Oa2.out _) ?_
 rintro e x6 ⟨rfl, hb⟩
 replace hL0 := hL0.call hb
 clear hb
 go_wp2_with fail
 with_reducible refine Calls.mono (T3.out _ (hKT.out.at hL0.bl kKT)) ?_
 rintro e x7 ⟨rfl, hb⟩
 replace hL0 := hL0.call hb
 clear hb
 go_wp2_with fail
 with_reducible refine Calls.mono (Oa3.out _) ?_
 rintro e x8 ⟨rfl, hb⟩
 replace hL0 := hL0.call hb
 clear hb
 go_wp2_with fail
 with_reducible refine Calls.mono (T4.out _ (hKT.out.at hL0.bl kKT)) ?_
 rintro e x9 ⟨rfl, hb⟩
 replace hL0 := hL0.call hb
 clear hb
 go_wp2_with fail
 with_reducible refine Calls.mono (Oa3.out _) ?_
 rintro e x10 ⟨rfl, hb⟩
 replace hL0 := hL0.call hb
 clear hb
 go_wp2_with fail
 with_reducible refine Calls.mono (T5.out _ (hKT.out.at hL0.bl kKT)) ?_
 rintro e x11 ⟨rfl, hb⟩
 replace hL0 := hL0.call hb
 clear hb
 go_wp2_with fail
 with_reducible refine Calls.mono (Oa4.out _) ?_
 rintro e x12 ⟨rfl, hb⟩
 replace hL0 := hL0.call hb
 clear hb
 go_wp2_with fail
 with_reducible refine Calls.mono (T6.out _ (hKT.out.at hL0.bl kKT)) ?_
 rintro e x13 ⟨rfl, hb⟩
 replace hL0 := hL0.call hb
 clear hb
 go_wp2_with fail
 with_reducible refine Calls.mono (Oa5.out _) ?_
 rintro e x14 ⟨rfl, hb⟩
 replace hL0 := hL0.call hb
 clear hb
 go_wp2_with fail
 with_reducible refine Calls.mono (T7.out _ (hKT.out.at hL0.bl kKT)) ?_
 rintro e x15 ⟨rfl, hb⟩
 replace hL0 := hL0.call hb
 clear hb
 go_wp2_with fail
 with_reducible refine Calls.mono (Oa6.out _) ?_
 rintro e x16 ⟨rfl, hb⟩
 replace hL0 := hL0.call hb
 clear hb
 go_wp2_with fail
 with_reducible refine Calls.mono (R1.out _) ?_
 rintro e x17 ⟨rfl, hb⟩
 replace hL0 := hL0.call hb
 clear hb
 obtain ⟨x18, hweq, hL0⟩ := GL.named (hL0.new rfl [.int .u64 ((zl a7.num : Nat) : Int), .string (zh a7.num), .bool (zs a7.num), .int .u64 ((lo (fe a7) : Nat) : Int), .string (hs (fe a7))] 34)
 go_wp2_with fail
 with_reducible refine Calls.mono (Oa8.out _) ?_
 rintro e x19 ⟨rfl, hb⟩
 replace hL0 := hL0.call hb
 clear hb hweq
 go_wp2_with fail
 with_reducible refine Calls.mono (B1.out _) ?_
 rintro e x20 ⟨rfl, hb⟩
 replace hL0 := hL0.call hb
 clear hb
 obtain ⟨x21, hweq, hL0⟩ := GL.named ((hL0.new rfl [.int .u64 ((zl a9.num : Nat) : Int), .string (zh a9.num), .bool (zs a9.num), .int .u64 ((lo (fe a9) : Nat) : Int), .string (hs (fe a9))] 34).new (K := x20.heap.size + 1) (szA _ _) [.int .u64 ((zl b1.num : Nat) : Int), .string (zh b1.num), .bool (zs b1.num), .int .u64 ((lo (fe b1) : Nat) : Int), .string (hs (fe b1))] 34)
 go_wp2_with fail
 with_reducible refine Calls.mono (I1.out _) ?_
 rintro e x22 ⟨rfl, hb⟩
 replace hL0 := hL0.call hb
 clear hb hweq
 go_wp2_with fail
 with_reducible refine Calls.mono (E1.out _) ?_
 rintro e x23 ⟨rfl, hb⟩
 replace hL0 := hL0.call hb
 clear hb
 go_wp2_with fail
 with_reducible refine Calls.mono (I1.out _) ?_
 rintro e x24 ⟨rfl, hb⟩
 replace hL0 := hL0.call hb
 clear hb
 go_wp2_with fail
 with_reducible refine Calls.mono (E2.out _) ?_
 rintro e x25 ⟨rfl, hb⟩
 replace hL0 := hL0.call hb
 clear hb
 go_upto_region 8 with fail
 obtain ⟨α, iα, F, hF1, hF2⟩ := cls x25
 have hq0 := cls_box hF1 hL0 _ _ mZ
 simp only [zC, Nat.reduceAdd] at hq0
 have hq1 := cls_box hF1 hL0 _ _ (mK mZ)
 simp only [zC, Nat.reduceAdd] at hq1
 have hq2 := cls_box hF1 hL0 _ _ (mK (mK mZ))
 simp only [zC, Nat.reduceAdd] at hq2
 refine region_qs 25 (C := fun w' => ∃ x, w' = F x) (by kernel_rfl) (by kernel_rfl) (cls_drew hF2) ?_
 simp only [zT]
 repeat (go_big_quiet_step (first | fail | (go_at_call 41; with_reducible exact cls_call hF1 hF2 Oa7.out _) | (go_at_call 41; with_reducible exact cls_call hF1 hF2 Oa9.out _) | (go_at_call 41; with_reducible exact cls_call hF1 hF2 Ob1.out _)))
 refine wpQuiet_nil ?_
 rintro wq ⟨xq, rfl⟩
 replace hL0 := hL0.call (hF1 xq)
 clear  hq0 hq1 hq2 hF2
 generalize F xq = x26 at hL0 ⊢
 clear hF1 xq iα F α
 go_wp2_with fail
 with_reducible refine Calls.mono (P0.out _ (hKT.out.at hL0.bl kKT)) ?_
 rintro e x27 ⟨rfl, hb⟩
 replace hL0 := hL0.call hb
 clear hb
 go_wp2_with fail
 with_reducible refine Calls.mono (P1.out _ (hKT.out.at hL0.bl kKT)) ?_
 rintro e x28 ⟨rfl, hb⟩
 replace hL0 := hL0.call hb
 clear hb
 go_wp2_with fail
 with_reducible refine Calls.mono (P2.out _ (hKT.out.at hL0.bl kKT)) ?_
 rintro e x29 ⟨rfl, hb⟩
 replace hL0 := hL0.call hb
 clear hb
 go_wp2_with fail
 with_reducible refine Calls.mono (P3.out _ (hKT.out.at hL0.bl kKT)) ?_
 rintro e x30 ⟨rfl, hb⟩
 replace hL0 := hL0.call hb
 clear hb
 go_wp2_with fail
 with_reducible refine Calls.mono (P4.out _ (hKT.out.at hL0.bl kKT)) ?_
 rintro e x31 ⟨rfl, hb⟩
 replace hL0 := hL0.call hb
 clear hb
 go_wp2_with fail
 with_reducible refine Calls.mono (P5.out _ (hKT.out.at hL0.bl kKT)) ?_
 rintro e x32 ⟨rfl, hb⟩
 replace hL0 := hL0.call hb
 clear hb
 go_wp2_with fail
 with_reducible refine Calls.mono (Ob2.out _) ?_
 rintro e x33 ⟨rfl, hb⟩
 replace hL0 := hL0.call hb
 clear hb
 go_wp2_with fail
 with_reducible refine Calls.mono (Y0.out _) ?_
 rintro e x34 ⟨rfl, hb⟩
 replace hL0 := hL0.call hb
 clear hb
 go_wp2_with fail
 with_reducible refine Calls.mono (Ob3.out _) ?_
 rintro e x35 ⟨rfl, hb⟩
 replace hL0 := hL0.call hb
 clear hb
 go_wp2_with fail
 with_reducible refine Calls.mono (C0.out _) ?_
 rintro e x36 ⟨rfl, hb⟩
 replace hL0 := hL0.call hb
 clear hb
 go_wp2_with fail
 with_reducible refine Calls.mono (Ob4.out _) ?_
 rintro e x37 ⟨rfl, hb⟩
 replace hL0 := hL0.call hb
 clear hb
 go_wp2_with fail
 with_reducible refine Calls.mono (C1.out _) ?_
 rintro e x38 ⟨rfl, hb⟩
 replace hL0 := hL0.call hb
 clear hb
 go_wp2_with fail
 with_reducible refine Calls.mono (Oa3.out _) ?_
 rintro e x39 ⟨rfl, hb⟩
 replace hL0 := hL0.call hb
 clear hb
 go_wp2_with fail
 with_reducible refine Calls.mono (C2.out _) ?_
 rintro e x40 ⟨rfl, hb⟩
 replace hL0 := hL0.call hb
 clear hb
 go_wp2_with fail
 with_reducible refine Calls.mono (I3.out _) ?_
 rintro e x41 ⟨rfl, hb⟩
 replace hL0 := hL0.call hb
 clear hb
 go_wp2_with fail
 with_reducible refine Calls.mono (C3.out _) ?_
 rintro e x42 ⟨rfl, hb⟩
 replace hL0 := hL0.call hb
 clear hb
 go_wp2_with fail
 exact bodyPost_ret (v := .bool true) (by simp [results, Tryz.results11, go_sem]) rfl ⟨rfl, hL0.bl⟩
end Go.Proofs.YtahfcciihkkegaaGreatDoor
namespace Go.Proofs.YtahfcciihkkegaaGreatDoor
open Go.RowKit
open Go.Lib (decDigits)
/-- What the layer's walks want of the world. -/
def KD (w : World) : Prop := Tab w ∧ MaxL w
theorem KD.keeps : Keeps KD := fun w w' hb h => ⟨Keeps.tab w w' hb h.1, MaxL.keeps w w' hb h.2⟩
theorem of4 (n d : Int) (q : Rat) (h : ((n : Int) : Rat) / ((d : Int) : Rat) = q) (a1 : -9223372036854775808 ≤ n) (a2 : n < 9223372036854775808) (b1 : -9223372036854775808 ≤ d) (b2 : d < 9223372036854775808) (h0 : d ≠ 0) (w : World) :
  Calls Tryz.prog 41 #[.int .i64 n, .int .i64 d] w fun e w' => e = .returned (fracV q) ∧ Below w.heap.size w w' := by
 have H := fun w => ofF n d a1 a2 b1 b2 h0 w
 rw [h] at H
 exact lof4_w n d _ q H w
theorem decT_one (z : Int) (p : Nat) (h : z.natAbs / 10 ^ p < 10) : decT z p = (if z < 0 then [45] else []) ++ (dch (z.natAbs / 10 ^ p) :: tailT z.natAbs p) := by
 unfold decT; rw [dec_small h]; rfl
theorem tx4 (a : Rat) (p : Nat) (v z : Int) (t : List UInt8) (h1 : toI v (a * tenQ p) = z) (h2 : z.natAbs / 10 ^ p < 10) (h3 : (if z < 0 then [45] else []) ++ (dch (z.natAbs / 10 ^ p) :: tailT z.natAbs p) = t) (ha : Sz a 1) (hp : p ≤ 100) (hv : 1 ≤ v ∧ v ≤ 3) (w : World) (hw : KD w) :
  Calls Tryz.prog 42 #[fracV a, .int .i64 (p : Int), .int .i64 v] w fun e w' => e = .returned (.string ⟨t.toArray⟩) ∧ Below w.heap.size w w' := by
 have H := fun w htab => textD a p v 1 ha (by decide) hp hv w htab
 rw [h1, decT_one z p h2, h3] at H
 exact ltext4_ok a p v _ H w hw.1
theorem rd4 (l : List UInt8) (q : Rat) (t : ByteArray) (hq : Sz q 1) (ht : qtxt q = t) (HP : ∀ w, MaxL w → Calls Tryz.prog 19 #[.string ⟨l.toArray⟩] w fun e w' => e = .returned (.tuple #[fracV q, .int .i64 0]) ∧ Below w.heap.size w w') (w : World) (hw : KD w) :
  Calls Tryz.prog 43 #[.string ⟨l.toArray⟩] w fun e w' => e = .returned (.string t) ∧ Below w.heap.size w w' := by
 have HT := fun w htab => textF q 1 hq (by decide) w htab
 rw [ht] at HT
 exact lread4_ok q _ t MaxL MaxL.keeps HP HT w hw.1 hw.2
theorem rd4e (l : List UInt8) (HP : ∀ w, MaxL w → Calls Tryz.prog 19 #[.string ⟨l.toArray⟩] w fun e w' => e = .returned (.tuple #[fracV 0, .int .i64 4]) ∧ Below w.heap.size w w') (w : World) (hw : KD w) :
  Calls Tryz.prog 43 #[.string ⟨l.toArray⟩] w fun e w' => e = .returned (.string (ByteArray.mk #[110, 111, 110, 101])) ∧ Below w.heap.size w w' :=
 lread4_err 0 _ 4 MaxL MaxL.keeps HP (by decide) w hw.2
theorem cy4 (a : Rat) (i j : Int) (ha : Sz a 1) (h : CycA a.den i j 0) (w : World) :
  Calls Tryz.prog 44 #[fracV a, .int .i64 i, .int .i64 j] w fun e w' => e = .returned (.bool true) ∧ Below w.heap.size w w' :=
 dcycles_w a i j 0 0 0 true (fun w => cycD a 1 ha (by decide) i j 0 h w) w
theorem no_dec_007 : ¬ isDec [48, 48, 55] := isDec_no (by decide)
theorem no_dec_nil : ¬ isDec [] := isDec_no (by decide)
theorem parse_inV (f g : Bool) (l d p q : List UInt8) (hg : Sgn g l d) (hc : Lib.cut d [46] = (p, q, f)) (hp : isDec p) (hq : ∀ c ∈ q, isDig c) (hf : f = true → q ≠ []) (hl : l.length ≤ 4096) (hpl : p.length ≤ 4096) (hk : q.length ≤ 100) (h0 : g = true → dval p * 10 ^ q.length + dval q ≠ 0) (v : Rat)
  (hv : mkRat (if g then -((dval p * 10 ^ q.length + dval q : Nat) : Int) else ((dval p * 10 ^ q.length + dval q : Nat) : Int)) (10 ^ q.length) = v) (w : World) (hM : MaxL w) :
  Calls Tryz.prog 19 #[.string ⟨l.toArray⟩] w fun e w' => e = .returned (.tuple #[fracV v, .int .i64 0]) ∧ Below w.heap.size w w' := by
 subst hv
 exact parse_in f g l d p q hg hc hp hq hf hl hpl hk h0 w hM
theorem r_m125 (w : World) (hM : MaxL w) : Calls Tryz.prog 19 #[.string ⟨[45, 49, 46, 50, 53].toArray⟩] w fun e w' => e = .returned (.tuple #[fracV (mkRat (-5) 4), .int .i64 0]) ∧ Below w.heap.size w w' := by
 exact parse_inV true true [45, 49, 46, 50, 53] [49, 46, 50, 53] [49] [50, 53] (.inl ⟨rfl, rfl⟩) (by kernel_rfl) (isDec_yes (by decide)) (isDec_yes (by decide)).1 (fun _ => by decide) (by decide) (by decide) (by decide) (fun _ => by decide) _ (by decide +kernel) w hM
theorem r_310 (w : World) (hM : MaxL w) : Calls Tryz.prog 19 #[.string ⟨[51, 46, 49, 48].toArray⟩] w fun e w' => e = .returned (.tuple #[fracV (mkRat 31 10), .int .i64 0]) ∧ Below w.heap.size w w' := by
 exact parse_inV true false [51, 46, 49, 48] [51, 46, 49, 48] [51] [49, 48] (.inr ⟨rfl, rfl, by decide⟩) (by kernel_rfl) (isDec_yes (by decide)) (isDec_yes (by decide)).1 (fun _ => by decide) (by decide) (by decide) (by decide) (fun e => by cases e) _ (by decide +kernel) w hM
theorem r_007 (w : World) (hM : MaxL w) : Calls Tryz.prog 19 #[.string ⟨[48, 48, 55].toArray⟩] w fun e w' => e = .returned (.tuple #[fracV 0, .int .i64 4]) ∧ Below w.heap.size w w' := by
 rw [← zeroF]
 exact dparse_high_f _ _ _ _ 3 0 4 _ (cpD false [48, 48, 55] _ (.inr ⟨rfl, rfl, by decide⟩)) MaxL MaxL.keeps (cutD [48, 48, 55] [48, 48, 55] [] false (by decide) (by kernel_rfl)) (parse_form [48, 48, 55] (by decide) no_dec_007) rfl (by decide) (by decide) w hM
theorem r_1d (w : World) (hM : MaxL w) : Calls Tryz.prog 19 #[.string ⟨[49, 46].toArray⟩] w fun e w' => e = .returned (.tuple #[fracV 0, .int .i64 4]) ∧ Below w.heap.size w w' := by
 rw [← zeroF]
 exact dparse_end _ _ _ 2 _ (cpD false [49, 46] _ (.inr ⟨rfl, rfl, by decide⟩)) MaxL MaxL.keeps (cutD [49, 46] [49] [] true (by decide) (by kernel_rfl)) rfl (by decide) w hM
theorem r_d5 (w : World) (hM : MaxL w) : Calls Tryz.prog 19 #[.string ⟨[46, 53].toArray⟩] w fun e w' => e = .returned (.tuple #[fracV 0, .int .i64 4]) ∧ Below w.heap.size w w' := by
 rw [← zeroF]
 exact dparse_high_t _ _ _ _ 2 0 4 _ (cpD false [46, 53] _ (.inr ⟨rfl, rfl, by decide⟩)) MaxL MaxL.keeps (cutD [46, 53] [] [53] true (by decide) (by kernel_rfl)) (parse_form [] (by decide) no_dec_nil) rfl (by decide) (ne_list (a := [53]) (by decide)) (by decide) w hM
theorem r_m00 (w : World) (hM : MaxL w) : Calls Tryz.prog 19 #[.string ⟨[45, 48, 46, 48].toArray⟩] w fun e w' => e = .returned (.tuple #[fracV 0, .int .i64 4]) ∧ Below w.heap.size w w' := by
 rw [← zeroF]
 exact parse_zin true [45, 48, 46, 48] [48, 46, 48] [48] [48] (.inl ⟨rfl, rfl⟩) (by kernel_rfl) (isDec_yes (by decide)) (isDec_yes (by decide)).1 (fun _ => by decide) (by decide) (by decide) (by decide) (by decide) w hM
theorem qt_n5_4 : qtxt (mkRat (-5) 4) = (ByteArray.mk #[45, 53, 47, 52]) := by
 rw [qt_part (d := 4) (z := -5) (by decide +kernel) (by decide) (by decide +kernel), txt1 4 (by decide), show ztxt (-5 : Int) = _ from zt_neg 5 (by decide) (by decide)]
 decide +kernel
theorem dec_10 : decDigits 10 = [49, 48] := by
 rw [show (10 : Nat) = 1 * 10 + 0 from rfl, dec_big (by decide)]
 rw [show (1 * 10 + 0) / 10 = 1 from rfl, dec_small (by decide)]; rfl
theorem dec_31 : decDigits 31 = [51, 49] := by
 rw [dec_big (by decide), show 31 / 10 = 3 from rfl, dec_small (by decide)]; rfl
theorem qt_31_10 : qtxt (mkRat 31 10) = (ByteArray.mk #[51, 49, 47, 49, 48]) := by
 rw [qt_part (d := 10) (z := 31) (by decide +kernel) (by decide) (by decide +kernel)]
 unfold ztxt txt
 rw [if_neg (by decide), show (31 : Int).natAbs = 31 from rfl, dec_10, dec_31]
 decide +kernel
theorem leadC (k : Nat) (D : Nat) (h1 : Nat.gcd (Eden D k) 10 = 1) (h2 : ∀ i, i < k → Nat.gcd (Eden D i) 10 ≠ 1) : Lead D k := ⟨h1, h2⟩
theorem dworks_any (w : World) (hw : KD w) : Calls Tryz.prog 11 #[] w fun e w' => e = .returned (.bool true) ∧ Below w.heap.size w w' := by
 have sz : ∀ q : Rat, q.num.natAbs < 18446744073709551616 → q.den < 18446744073709551616 → Sz q 1 := szc
 have O := fun (n d : Int) (q : Rat) (h : ((n : Int) : Rat) / ((d : Int) : Rat) = q) (b : (-9223372036854775808 ≤ n ∧ n < 9223372036854775808) ∧ (-9223372036854775808 ≤ d ∧ d < 9223372036854775808) ∧ d ≠ 0) => of4 n d q h b.1.1 b.1.2 b.2.1.1 b.2.1.2 b.2.2
 have s1 := sz (mkRat 1 8) (by decide +kernel) (by decide +kernel)
 have s2 := sz (mkRat 3 8) (by decide +kernel) (by decide +kernel)
 have s3 := sz (mkRat (-1) 8) (by decide +kernel) (by decide +kernel)
 have s4 := sz (mkRat (-1) 1000) (by decide +kernel) (by decide +kernel)
 have s5 := sz (mkRat 5 2) (by decide +kernel) (by decide +kernel)
 have s6 := sz (mkRat 2 3) (by decide +kernel) (by decide +kernel)
 have s8 := sz (mkRat (-1) 3) (by decide +kernel) (by decide +kernel)
 have R1 := fun w => roundD (mkRat 2 3) 1 2 1 s6 (by decide) (by decide) (by decide) w
 rw [show rnd 2 1 (mkRat 2 3) = mkRat 7 10 from by decide +kernel] at R1
 have B1 := fun w => betweenD (mkRat (-1) 3) 1 1 s8 (by decide) (by decide) w
 rw [show rnd 1 1 (mkRat (-1) 3) = mkRat (-2) 5 from by decide +kernel, show rnd 2 1 (mkRat (-1) 3) = mkRat (-3) 10 from by decide +kernel] at B1
 have E1 := fun w => textE ((1 : Int) : Rat) 101 1 (by decide) w
 rw [show rdC 101 1 = 3 from by decide] at E1
 have E2 := fun w => textE ((1 : Int) : Rat) 0 4 (by decide) w
 rw [show rdC 0 4 = 1 from by decide] at E2
 have Y0 := fun w => cycD (mkRat 1 109) 1 (sz _ (by decide +kernel) (by decide +kernel)) (by decide) 0 0 3 (by
  rw [show (mkRat 1 109).den = 109 from by decide +kernel]
  exact .inr (.inr (.inl ⟨0, leadC 0 109 (by decide +kernel) (fun i h => absurd h (Nat.not_lt_zero _)), by decide, by decide +kernel, fun i h1 h2 => (show ∀ i, i < 101 → 1 ≤ i → 10 ^ i % Eden 109 0 ≠ 1 from by decide +kernel) i (by omega) h1, rfl, rfl, rfl⟩))) w
 have C0 := cy4 (mkRat 1 6) 1 1 (sz _ (by decide +kernel) (by decide +kernel)) (by
  rw [show (mkRat 1 6).den = 6 from by decide +kernel]
  exact .inr (.inl ⟨1, 1, leadC 1 6 (by decide +kernel) (by decide +kernel), by decide, by decide +kernel, by decide, by decide, by decide +kernel, fun i a b => by omega, rfl, rfl, rfl⟩))
 have C1 := cy4 (mkRat 1 7) 0 6 (sz _ (by decide +kernel) (by decide +kernel)) (by
  rw [show (mkRat 1 7).den = 7 from by decide +kernel]
  exact .inr (.inl ⟨0, 6, leadC 0 7 (by decide +kernel) (fun i h => absurd h (Nat.not_lt_zero _)), by decide, by decide +kernel, by decide, by decide, by decide +kernel, fun i a b => (show ∀ i, i < 6 → 1 ≤ i → 10 ^ i % Eden 7 0 ≠ 1 from by decide +kernel) i b a, rfl, rfl, rfl⟩))
 have C2 := cy4 (mkRat (-1) 8) 3 0 s3 (by
  rw [show (mkRat (-1) 8).den = 8 from by decide +kernel]
  exact .inl ⟨3, leadC 3 8 (by decide +kernel) (by decide +kernel), by decide, by decide +kernel, rfl, rfl, rfl⟩)
 have C3 := cy4 ((3 : Int) : Rat) 0 0 (sz _ (by decide +kernel) (by decide +kernel)) (by
  rw [show ((3 : Int) : Rat).den = 1 from by decide +kernel]
  exact .inl ⟨0, leadC 0 1 (by decide +kernel) (fun i h => absurd h (Nat.not_lt_zero _)), by decide, by decide +kernel, rfl, rfl, rfl⟩)
 refine dworks_w (mkRat 1 8) (mkRat 3 8) (mkRat (-1) 8) (mkRat (-1) 1000) (mkRat 5 2) (mkRat 2 3) (mkRat 7 10) (mkRat (-1) 3) (mkRat (-2) 5) (mkRat (-3) 10) (mkRat 1 109) (mkRat 1 6) (mkRat 1 7) ((1 : Int) : Rat) ((3 : Int) : Rat)
  (O 1 8 _ (by decide +kernel) (by decide)) (O 3 8 _ (by decide +kernel) (by decide)) (O (-1) 8 _ (by decide +kernel) (by decide)) (O (-1) 1000 _ (by decide +kernel) (by decide)) (O 5 2 _ (by decide +kernel) (by decide)) (O 2 3 _ (by decide +kernel) (by decide)) (O 7 10 _ (by decide +kernel) (by decide)) (O (-1) 3 _ (by decide +kernel) (by decide)) (O (-2) 5 _ (by decide +kernel) (by decide)) (O (-3) 10 _ (by decide +kernel) (by decide)) (O 1 109 _ (by decide +kernel) (by decide)) (O 1 6 _ (by decide +kernel) (by decide)) (O 1 7 _ (by decide +kernel) (by decide))
  (fun w => intF 1 (by decide) (by decide) w) (fun w => intF 3 (by decide) (by decide) w) KD KD.keeps
  (tx4 _ 2 1 12 [48, 46, 49, 50] (by decide +kernel) (by decide) (by decide +kernel) s1 (by decide) (by decide))
  (tx4 _ 2 2 13 [48, 46, 49, 51] (by decide +kernel) (by decide) (by decide +kernel) s1 (by decide) (by decide))
  (tx4 _ 2 3 12 [48, 46, 49, 50] (by decide +kernel) (by decide) (by decide +kernel) s1 (by decide) (by decide))
  (tx4 _ 2 3 38 [48, 46, 51, 56] (by decide +kernel) (by decide) (by decide +kernel) s2 (by decide) (by decide))
  (tx4 _ 2 1 (-13) [45, 48, 46, 49, 51] (by decide +kernel) (by decide) (by decide +kernel) s3 (by decide) (by decide))
  (tx4 _ 2 2 (-12) [45, 48, 46, 49, 50] (by decide +kernel) (by decide) (by decide +kernel) s3 (by decide) (by decide))
  (tx4 _ 2 2 0 [48, 46, 48, 48] (by decide +kernel) (by decide) (by decide +kernel) s4 (by decide) (by decide))
  (tx4 _ 0 3 2 [50] (by decide +kernel) (by decide) (by decide +kernel) s5 (by decide) (by decide))
  R1 B1 E1 E2
  (rd4 _ _ _ (sz _ (by decide +kernel) (by decide +kernel)) qt_n5_4 r_m125) (rd4e _ r_007) (rd4e _ r_1d) (rd4e _ r_d5) (rd4e _ r_m00) (rd4 _ _ _ (sz _ (by decide +kernel) (by decide +kernel)) qt_31_10 r_310)
  Y0 C0 C1 C2 C3 w hw
end Go.Proofs.YtahfcciihkkegaaGreatDoor
namespace Go.Proofs.YtahfcciihkkegaaGreatDoor.Rx
open Go.RowKit
/-- The number that digits spell. -/
def tv : List Nat → Nat
 | [] => 0
 | d :: l => d + 10000 * tv l
theorem tv_cons (d : Nat) (l : List Nat) : tv (d :: l) = d + 10000 * tv l := rfl
theorem tv_nil : tv [] = 0 := rfl
/-- The digits of a number. -/
def td (n : Nat) : List Nat := if h : n = 0 then [] else n % 10000 :: td (n / 10000)
theorem td_zero : td 0 = [] := by rw [td, dif_pos rfl]
theorem td_pos {n : Nat} (h : n ≠ 0) : td n = n % 10000 :: td (n / 10000) := by rw [td, dif_neg h]
theorem tv_td (n : Nat) : tv (td n) = n := by
 induction n using Nat.strongRecOn with
 | _ n ih =>
  by_cases h : n = 0
  ·rw [h, td_zero]; rfl
  ·rw [td_pos h, tv, ih (n / 10000) (by omega)]; omega
theorem td_lt (n : Nat) : ∀ d ∈ td n, d < 10000 := by
 induction n using Nat.strongRecOn with
 | _ n ih =>
  by_cases h : n = 0
  ·rw [h, td_zero]; intro d hd; cases hd
  ·rw [td_pos h]
   intro d hd
   rcases List.mem_cons.1 hd with rfl | hd
   ·omega
   ·exact ih (n / 10000) (by omega) d hd
theorem td_nil {n : Nat} : td n = [] ↔ n = 0 := by
 by_cases h : n = 0
 ·rw [h, td_zero]; simp
 ·rw [td_pos h]; simp [h]
theorem tv_append (l m : List Nat) : tv (l ++ m) = tv l + 10000 ^ l.length * tv m := by
 induction l with
 | nil => simp [tv]
 | cons d l ih => rw [List.cons_append, tv, ih, tv, List.length_cons, Nat.pow_succ, Nat.mul_add, Nat.mul_comm _ 10000, Nat.mul_assoc]; omega
theorem tv_lt {l : List Nat} (h : ∀ d ∈ l, d < 10000) : tv l < 10000 ^ l.length := by
 induction l with
 | nil => exact Nat.one_pos
 | cons d l ih =>
  have h1 := ih fun x hx => h x (List.mem_cons_of_mem _ hx)
  have h2 := h d List.mem_cons_self
  rw [tv, List.length_cons, Nat.pow_succ]
  omega
theorem tv_zeros (k : Nat) : tv (List.replicate k 0) = 0 := by
 induction k with
 | zero => rfl
 | succ k ih => rw [List.replicate_succ, tv, ih]
/-- Digits are those of their number, and zeros behind them. -/
theorem td_tv {l : List Nat} (h : ∀ d ∈ l, d < 10000) : ∃ z, l = td (tv l) ++ List.replicate z 0 := by
 induction l with
 | nil => exact ⟨0, by rw [tv, td_zero]; rfl⟩
 | cons d l ih =>
  obtain ⟨z, hz⟩ := ih fun x hx => h x (List.mem_cons_of_mem _ hx)
  have hd := h d List.mem_cons_self
  rw [tv]
  by_cases h0 : d + 10000 * tv l = 0
  ·have h1 : tv l = 0 := by omega
   rw [h1, td_zero, List.nil_append] at hz
   refine ⟨z + 1, ?_⟩
   rw [h0, td_zero, List.nil_append, List.replicate_succ, ← hz, show d = 0 by omega]
  ·refine ⟨z, ?_⟩
   rw [td_pos h0, show (d + 10000 * tv l) % 10000 = d by omega, show (d + 10000 * tv l) / 10000 = tv l by omega, List.cons_append, ← hz]
theorem td_length {n k : Nat} : (td n).length ≤ k ↔ n < 10000 ^ k := by
 induction k generalizing n with
 | zero =>
  rw [Nat.pow_zero]
  constructor
  ·intro h; have := td_nil.1 (List.eq_nil_of_length_eq_zero (l := td n) (by omega)); omega
  ·intro h; rw [show n = 0 by omega, td_zero]; exact Nat.le_refl _
 | succ k ih =>
  by_cases h : n = 0
  ·rw [h, td_zero]; exact ⟨fun _ => Nat.pow_pos (by omega), fun _ => Nat.zero_le _⟩
  ·rw [td_pos h, List.length_cons, Nat.pow_succ]
   have := ih (n := n / 10000)
   constructor
   ·intro h1; have := this.1 (by omega); omega
   ·intro h1; have := this.2 (by omega); omega
theorem td_mono {a b : Nat} (h : a ≤ b) : (td a).length ≤ (td b).length := td_length.2 (Nat.lt_of_le_of_lt h (td_length.1 (Nat.le_refl _)))
theorem tv_snoc (l : List Nat) (d : Nat) : tv (l ++ [d]) = tv l + 10000 ^ l.length * d := by rw [tv_append]; simp [tv]
theorem tv_take_getElem {l : List Nat} {k : Nat} (h : k < l.length) : tv (l.take (k + 1)) = tv (l.take k) + 10000 ^ k * l[k] := by
 rw [List.take_succ_eq_append_getElem h, tv_snoc, List.length_take, Nat.min_eq_left (Nat.le_of_lt h)]
theorem td_last {n : Nat} (h : td n ≠ []) : (td n).getLast h ≠ 0 := by
 induction n using Nat.strongRecOn with
 | _ n ih =>
  have h0 : n ≠ 0 := fun e => h (td_nil.2 e)
  by_cases h1 : n / 10000 = 0
  ·simp only [td_pos h0, h1, td_zero, List.getLast_singleton]; omega
  ·have h2 : td (n / 10000) ≠ [] := fun e => h1 (td_nil.1 e)
   have := ih (n / 10000) (by omega) h2
   simp only [td_pos h0]
   rwa [List.getLast_cons h2]
/-- A digit, or 0 behind the last one. -/
def dg (l : List Nat) (i : Nat) : Nat := l.getD i 0
theorem dg_lt {l : List Nat} (h : ∀ d ∈ l, d < 10000) (i : Nat) : dg l i < 10000 := by
 unfold dg
 rcases Nat.lt_or_ge i l.length with hi | hi
 ·simp [hi]; exact h _ (List.getElem_mem hi)
 ·simp [hi]
theorem dg_in {l : List Nat} {i : Nat} (h : i < l.length) : dg l i = l[i] := by unfold dg; simp [h]
theorem dg_out {l : List Nat} {i : Nat} (h : l.length ≤ i) : dg l i = 0 := by unfold dg; simp [h]
theorem tv_take (l : List Nat) (k : Nat) : tv (l.take (k + 1)) = tv (l.take k) + 10000 ^ k * dg l k := by
 rcases Nat.lt_or_ge k l.length with h | h
 ·rw [tv_take_getElem h, dg_in h]
 ·rw [dg_out h, List.take_of_length_le (by omega), List.take_of_length_le h]; omega
/-- A slice of ints that can be read. -/
structure Sd (w : World) (a : Addr) (l : List Nat) : Prop where
 cell : ∀ (i : Nat) (h : i < l.length), w.cell? (a.add i) = some (.int .i64 ((l[i] : Nat) : Int))
 blk : a.block < w.heap.size
theorem addB (a : Addr) (i : Nat) : (a.add i).block = a.block := by unfold Addr.add; split <;> rfl
theorem Sd.below {w w' : World} {a : Addr} {l : List Nat} (h : Sd w a l) (hb : Below w.heap.size w w') : Sd w' a l :=
 ⟨fun i hi => (hb.cell (p := a.add i) (by rw [addB]; exact h.blk)).trans (h.cell i hi), Nat.lt_of_lt_of_le h.blk hb.size⟩
theorem Sd.left {w : World} {a : Addr} {l m : List Nat} (h : Sd w a (l ++ m)) : Sd w a l :=
 ⟨fun i hi => by rw [h.cell i (by rw [List.length_append]; omega), List.getElem_append_left hi], h.blk⟩
def Sl (w : World) (v : Value) (l : List Nat) : Prop := (∃ ao c, v = .slice ao 0 c ∧ l = [] ∧ (ao = none → c = 0)) ∨ ∃ a c, v = .slice (some a) l.length c ∧ l.length ≤ c ∧ Sd w a l
theorem Sl.below {w w' : World} {v : Value} {l : List Nat} (h : Sl w v l) (hb : Below w.heap.size w w') : Sl w' v l := by
 rcases h with h | ⟨a, c, h1, h2, h3⟩
 ·exact .inl h
 ·exact .inr ⟨a, c, h1, h2, h3.below hb⟩
theorem Sl.form {w : World} {v : Value} {l : List Nat} (h : Sl w v l) : ∃ ao c, v = .slice ao l.length c := by
 rcases h with ⟨ao, c, rfl, rfl, -⟩ | ⟨a, c, rfl, _⟩
 ·exact ⟨_, _, rfl⟩
 ·exact ⟨_, _, rfl⟩
theorem Sl.nil (w : World) : Sl w (.slice none 0 0) [] := .inl ⟨_, _, rfl, rfl, fun _ => rfl⟩
theorem Sl.drew {w : World} {v : Value} {l : List Nat} (h : Sl w v l) : Sl w.drew v l := by
 rcases h with h | ⟨a, c, h1, h2, h3⟩
 ·exact .inl h
 ·exact .inr ⟨a, c, h1, h2, h3.cell, h3.blk⟩
/-- What the walk asks of a slice. -/
theorem Sl.view {w : World} {v : Value} {l : List Nat} (h : Sl w v l) : ∃ ao c, v = .slice ao l.length c ∧ (0 < l.length → ∃ a, ao = some a ∧ l.length ≤ c ∧ Sd w a l) := by
 rcases h with ⟨ao, c, rfl, rfl, -⟩ | ⟨a, c, rfl, h2, h3⟩
 ·exact ⟨_, _, rfl, fun h => absurd h (Nat.lt_irrefl 0)⟩
 ·exact ⟨_, _, rfl, fun _ => ⟨a, rfl, h2, h3⟩⟩
/-- What an append looks at. -/
theorem Sl.src {w : World} {v : Value} {l : List Nat} (h : Sl w v l) : (v = .slice none 0 0 ∧ l = []) ∨ ∃ ad c, v = .slice (some ad) l.length c ∧ ∀ (j : Nat) (u : Value), (l.map fun (d : Nat) => Value.int .i64 (d : Int))[j]? = some u → w.cell? (ad.add j) = some u := by
 rcases h with ⟨ao, c, rfl, rfl, hc⟩ | ⟨a, c, rfl, _, h3⟩
 ·cases ao with
  | none => exact .inl ⟨by rw [hc rfl], rfl⟩
  | some ad => exact .inr ⟨ad, c, rfl, fun j u hu => by simp at hu⟩
 ·refine .inr ⟨a, c, rfl, fun j u hu => ?_⟩
  rw [List.getElem?_map] at hu
  obtain ⟨x, hx, rfl⟩ := Option.map_eq_some_iff.1 hu
  obtain ⟨hjl, rfl⟩ := List.getElem?_eq_some_iff.1 hx
  exact h3.cell j hjl
/-- What the call owns can be read. -/
theorem Sl.owned {w : World} {base e : Nat} {v : Value} {n : Nat} {l : List Nat} (h : w.ownsRow base e 1 v n (l.map fun (d : Nat) => Value.int .i64 (d : Int))) (hn : n = l.length) : Sl w v l := by
 subst hn
 have hlt := h.lt
 have hc := fun g hg => World.ownsRow.cells h (g := g) hg
 rcases h.2 with ⟨h', h''⟩ | ⟨g, cap, cur, h', _, hg, hm, hk, hsz, htake⟩
 ·exact .inl ⟨none, 0, h', by simpa using h'', fun _ => rfl⟩
 ·refine .inr ⟨⟨g, 0, none⟩, cap, h', ?_, fun i hi => ?_, ?_⟩
  ·omega
  ·have := hc g (by rw [h']; rfl) i (.int .i64 ((l[i] : Nat) : Int)) (by simp [hi])
   exact this
  ·exact (hlt g (by rw [h']; rfl)).2
abbrev iv (d : Nat) : Value := .int .i64 (d : Int)
theorem own_next {w : World} {B e k : Nat} {v : Value} {l : List Nat} (h : k < l.length) {x : Int} (hx : x = ((l[k] : Nat) : Int)) (ho : w.ownsRow B e 1 v (k + 1) (List.take k (List.map iv l) ++ [.int .i64 x])) :
  w.ownsRow B e 1 v (k + 1) ((l.take (k + 1)).map iv) := by
 rw [List.take_succ_eq_append_getElem h, List.map_append, List.map_take]
 rw [hx] at ho
 exact ho
theorem own_snoc {w : World} {B e k : Nat} {v : Value} {l : List Nat} {x : Int} {d : Nat} (hx : x = (d : Int)) (ho : w.ownsRow B e 1 v (k + 1) (List.map iv l ++ [.int .i64 x])) : w.ownsRow B e 1 v (k + 1) ((l ++ [d]).map iv) := by
 rw [hx] at ho
 rw [List.map_append]
 exact ho
theorem below_app {B e k : Nat} {w wr w1 : World} {v : Value} {xs : List Value} {o : Obj} (hb : Below B w wr) (hB : B ≤ wr.heap.size) (hown : wr.ownsRow B e 1 v k xs) (hg : (wr.alloc o).grownBy w1 v.ownBlock) : Below B w w1 :=
 (hb.alloc hB o).grown hg (by rw [World.size_alloc]; omega) (fun j hj => (hown.lt j hj).1)
end Go.Proofs.YtahfcciihkkegaaGreatDoor.Rx
namespace Go.Proofs.YtahfcciihkkegaaGreatDoor.Rx
open Go.RowKit
attribute [local irreducible] tv dg
theorem at_any (v : Value) (l : List Nat) (i : Nat) (hi : i < 9223372036854775808) (hl : l.length < 9223372036854775808) (w : World) (h : Sl w v l) :
  Calls Tryz.prog 139 #[v, .int .i64 (i : Int)] w fun e w' => e = .returned (.int .i64 ((dg l i : Nat) : Int)) ∧ w = w' := by
 obtain ⟨ao, c, rfl, hv⟩ := h.view
 rcases Nat.lt_or_ge i l.length with hlt | hge
 ·obtain ⟨a, rfl, -, hs⟩ := hv (by omega)
  have hc := hs.cell i hlt
  have hd := Lib.hid (dg_in hlt)
  obtain ⟨d, hd'⟩ : ∃ d, d = dg l i := ⟨_, rfl⟩
  rw [← hd.out, ← hd'] at hc
  rw [← hd']
  clear hd hd' hv h hs
  generalize l.length = n at *
  have h1 : (i : Int) < (n : Int) := by omega
  go_enter Tryz.func139, Tryz.ntmps139
  go_wp2
  go_ret
  exact ⟨rfl, rfl⟩
 ·rw [dg_out hge]
  generalize l.length = n at *
  have h1 : ¬ (i : Int) < (n : Int) := by omega
  go_enter Tryz.func139, Tryz.ntmps139
  go_wp2
  go_ret
  exact ⟨rfl, rfl⟩
def lenOf : Value → Nat | .slice _ n _ => n | _ => 0
theorem trim_nil (ao : Option Addr) (c : Nat) (w : World) :
  Calls Tryz.prog 138 #[.slice ao 0 c] w fun e w' => e = .returned (.slice ao 0 c) ∧ w = w' := by
 go_enter Tryz.func138, Tryz.ntmps138
 go_wp2_with fail
 go_loopw [0] (fun v wr => v = .slice ao 0 c ∧ wr = w) (fun v _ => lenOf v)
 case atStart => exact ⟨rfl, rfl⟩
 case round =>
  obtain ⟨rfl, rfl⟩ := hrel
  go_wp2_with fail
  go_ret
  exact ⟨rfl, rfl⟩
theorem trim_row (a : Addr) (c m z : Nat) (l : List Nat) (hm : l.length = m) (hc : m + z ≤ c) (hB : m + z < 9223372036854775807) (hlast : ∀ h : l ≠ [], l.getLast h ≠ 0) (w : World) (h : Sd w a (l ++ List.replicate z 0)) :
  Calls Tryz.prog 138 #[.slice (some a) (m + z) c] w fun e w' => e = .returned (.slice (some a) m c) ∧ w = w' := by
 have hz : ∀ k, k < z → w.cell? (a.add (m + k)) = some (.int .i64 0) := fun k hk => by
  rw [h.cell (m + k) (by simp; omega), List.getElem_append_right (by omega)]; simp
 have hl : ∀ p, m = p + 1 → ∃ d : Nat, d ≠ 0 ∧ w.cell? (a.add p) = some (.int .i64 (d : Int)) := fun p hp => by
  have hne : l ≠ [] := fun e => by rw [e] at hm; simp at hm; omega
  refine ⟨l.getLast hne, hlast hne, ?_⟩
  rw [h.cell p (by simp; omega), List.getElem_append_left (by omega), List.getLast_eq_getElem hne]
  simp [hm, hp]
 clear h hlast hm
 replace hz := Lib.hid hz
 replace hl := Lib.hid hl
 go_enter Tryz.func138, Tryz.ntmps138
 go_wp2_with fail
 go_loopw [0] (fun v wr => ∃ k, k ≤ z ∧ v = .slice (some a) (m + k) c ∧ wr = w) (fun v _ => lenOf v)
 case atStart => exact ⟨z, Nat.le_refl _, rfl, rfl⟩
 case round =>
  obtain ⟨k, hk, rfl, rfl⟩ := hrel
  cases k with
  | zero =>
   rw [Nat.add_zero]
   cases m with
   | zero =>
    go_wp2_with fail
    go_ret
    exact ⟨rfl, rfl⟩
   | succ p =>
    obtain ⟨d, hd, hcell⟩ := hl.out p rfl
    have hd1 : ((d : Int) == 0) = false := beq_eq_false_iff_ne.2 (by omega)
    go_wp2_with fail
    go_ret
    exact ⟨rfl, rfl⟩
  | succ j =>
   have hcell := hz.out j (by omega)
   rw [show m + (j + 1) = (m + j) + 1 from by omega]
   obtain ⟨q, hq⟩ : ∃ q, q = m + j := ⟨_, rfl⟩
   rw [← hq] at hcell ⊢
   have hqc : q + 1 ≤ c := by omega
   have hqB : q + 1 < 9223372036854775807 := by omega
   replace hq := Lib.hid hq
   go_wp2_with fail
   go_roundw
   case rel => exact ⟨j, by omega, by rw [hq.out], trivial⟩
   case measure => simp [lenOf]
/-- trim: the digits of a number. -/
theorem trim_any (v : Value) (l : List Nat) (hd : ∀ d ∈ l, d < 10000) (hB : l.length < 9223372036854775807) (w : World) (h : Sl w v l) :
  Calls Tryz.prog 138 #[v] w fun e w' => ∃ v', e = .returned v' ∧ Sl w v' (td (tv l)) ∧ w = w' := by
 obtain ⟨z, hz⟩ := td_tv hd
 rcases h with ⟨ao, c, rfl, rfl, hc0⟩ | ⟨a, c, rfl, h2, h3⟩
 ·refine (trim_nil ao c w).mono ?_
  rintro e w' ⟨rfl, rfl⟩
  exact ⟨_, rfl, .inl ⟨ao, c, rfl, by rw [tv_nil, td_zero], hc0⟩, rfl⟩
 ·have hlen : l.length = (td (tv l)).length + z := by
   have := congrArg List.length hz
   rwa [List.length_append, List.length_replicate] at this
  rw [hz] at h3
  rw [hlen] at h2 hB ⊢
  refine (trim_row a c _ z (td (tv l)) rfl h2 hB (fun h => td_last h) w h3).mono ?_
  rintro e w' ⟨rfl, rfl⟩
  exact ⟨_, rfl, .inr ⟨a, c, rfl, by omega, h3.left⟩, rfl⟩
end Go.Proofs.YtahfcciihkkegaaGreatDoor.Rx
namespace Go.Proofs.YtahfcciihkkegaaGreatDoor.Rx
open Go.RowKit
attribute [local irreducible] tv dg
theorem Tryz.infoI : (Tryz.prog.info? 3).map (fun i => (i.zero, i.size, i.bytes)) = some (some (.int .i64 0), 1, 8) := by kernel_rfl
/-- What the digits so far spell, with what is left. -/
theorem td_step {n k : Nat} (hk : k < (td n).length) : n / 10000 ^ k ≠ 0 ∧ (td n)[k] = n / 10000 ^ k % 10000 := by
 induction k generalizing n with
 | zero =>
  have h0 : n ≠ 0 := fun e => by rw [e, td_zero] at hk; exact absurd hk (by simp)
  simp only [Nat.pow_zero, Nat.div_one]
  refine ⟨h0, ?_⟩
  simp only [td_pos h0, List.getElem_cons_zero]
 | succ k ih =>
  have h0 : n ≠ 0 := fun e => by rw [e, td_zero] at hk; exact absurd hk (by simp)
  have hk' : k < (td (n / 10000)).length := by rw [td_pos h0, List.length_cons] at hk; omega
  have := ih hk'
  rw [Nat.div_div_eq_div_mul, Nat.mul_comm, ← Nat.pow_succ] at this
  refine ⟨this.1, ?_⟩
  simp only [td_pos h0, List.getElem_cons_succ]
  exact this.2
theorem td_end {n k : Nat} (hk : (td n).length ≤ k) : n / 10000 ^ k = 0 := Nat.div_eq_of_lt (td_length.1 hk)
theorem rof_any (n : Nat) (hn : n < 18446744073709551616) (w : World) :
  Calls Tryz.prog 80 #[.int .u64 (n : Int)] w fun e w' => ∃ v, e = .returned v ∧ Sl w' v (td n) ∧ Below w.heap.size w w' := by
 obtain ⟨i0, hi, hz0, hz1, hz2⟩ := info_parts Tryz.infoI
 have hlen : (td n).length ≤ 5 := td_length.2 (by omega)
 replace hn := Lib.hid hn
 go_enter Tryz.func80, Tryz.ntmps80
 go_wp2_with fail
 go_loopw [0, 3] (fun u v wr => ∃ k : Nat, k ≤ (td n).length ∧ u = .int .u64 ((n / 10000 ^ k : Nat) : Int) ∧ wr.ownsRow w.heap.size 3 1 v k (((td n).take k).map iv) ∧ Below w.heap.size w wr) (fun u _ _ => (intOf u).toNat)
 case atStart => exact ⟨0, Nat.zero_le _, by simp, World.ownsRow_nil _ _ _ _, Below.refl _ _⟩
 case round =>
  obtain ⟨k, hk, rfl, hown, hb⟩ := hrel
  rcases Nat.lt_or_ge k (td n).length with hlt | hge
  ·obtain ⟨h1, h2⟩ := td_step hlt
   obtain ⟨q, hq⟩ : ∃ q, q = n / 10000 ^ k := ⟨_, rfl⟩
   have hqn : q ≤ n := by rw [hq]; exact Nat.div_le_self _ _
   rw [← hq] at h1 h2 ⊢
   have hq0 : (0 : Int) < (q : Int) := by omega
   have hqB : (q : Int) ≤ 18446744073709551615 := by have := hn.out; omega
   replace hq := Lib.hid hq
   replace h2 := Lib.hid h2
   replace h1 := Lib.hid h1
   go_wp2_with (at_builtin; refine wpList_append_own _ rfl _ _ 42 rfl w.heap.size 3 i0 (.int .i64 0) 1 8 Tryz.underlying42 hi hz0 hz1 hz2 rfl (by decide) _ _ _ rfl (hown.alloc _) ⟨wr.heap.size, 0, none⟩ 1 1 [.int .i64 ((q : Int) % 10000)] rfl rfl ?c1 ?c2 ?c3 ?c4 ?c5 ?_)
   case c1 =>
    intro j u hj
    match j, hj with
    | 0, hj => simp at hj; subst hj; simp [Addr.add]
   case c2 => intro u hu; simp at hu; subst hu; rfl
   case c3 => unfold maxLen; omega
   case c4 => omega
   case c5 => have := hb.size; simp; omega
   intro v' w1 hown' hgrow _
   have hn' := Lib.hid (own_next hlt (by rw [h2.out]; omega) hown')
   have hb' := Lib.hid (below_app hb hb.size hown hgrow)
   clear hown' hgrow hown hb
   go_wp2_with fail
   go_roundw
   case rel => exact ⟨k + 1, by omega, by rw [Nat.pow_succ, ← Nat.div_div_eq_div_mul, ← hq.out]; first | rfl | go_num, hn'.out, hb'.out⟩
   case measure => simp [intOf]; omega
  ·have h0 := td_end hge
   have hke : k = (td n).length := by omega
   rw [hke, List.take_length] at hown
   have hS := Lib.hid (Sl.owned hown rfl)
   rw [h0]
   clear h0 hke hown hge hk
   go_wp2_with fail
   go_ret
   exact ⟨_, rfl, hS.out, hb⟩
end Go.Proofs.YtahfcciihkkegaaGreatDoor.Rx
namespace Go.Proofs.YtahfcciihkkegaaGreatDoor.Rx
open Go.RowKit
attribute [local irreducible] tv dg
/-- What Add's rounds keep. -/
structure AddS (A B S : List Nat) (i c : Nat) : Prop where
 len : S.length = i
 lt : ∀ d ∈ S, d < 10000
 car : c ≤ 1
 eq : tv S + 10000 ^ i * c = tv (A.take i) + tv (B.take i)
theorem AddS.step {A B S : List Nat} {i c : Nat} (h : AddS A B S i c) (hA : ∀ d ∈ A, d < 10000) (hB : ∀ d ∈ B, d < 10000) :
  AddS A B (S ++ [(dg A i + dg B i + c) % 10000]) (i + 1) ((dg A i + dg B i + c) / 10000) := by
 have h1 := dg_lt hA i
 have h2 := dg_lt hB i
 have h3 := h.car
 refine ⟨by rw [List.length_append, h.len]; rfl, fun d hd => ?_, by omega, ?_⟩
 ·rcases List.mem_append.1 hd with hd | hd
  ·exact h.lt d hd
  ·rw [List.mem_singleton.1 hd]; omega
 ·rw [tv_snoc, h.len, tv_take, tv_take, Nat.pow_succ]
  have h4 := h.eq
  generalize dg A i = x at *
  generalize dg B i = y at *
  have h5 : (x + y + c) % 10000 + 10000 * ((x + y + c) / 10000) = x + y + c := by omega
  have h6 : 10000 ^ i * ((x + y + c) % 10000) + 10000 ^ i * 10000 * ((x + y + c) / 10000) = 10000 ^ i * x + 10000 ^ i * y + 10000 ^ i * c := by
   rw [Nat.mul_assoc, ← Nat.mul_add, h5, Nat.mul_add, Nat.mul_add]
  generalize 10000 ^ i * ((x + y + c) % 10000) = p at *
  generalize 10000 ^ i * 10000 * ((x + y + c) / 10000) = q at *
  omega
theorem radd_l (va vb : Value) (A B : List Nat) (hA : ∀ d ∈ A, d < 10000) (hB : ∀ d ∈ B, d < 10000) (lA : A.length ≤ 1000000) (lB : B.length ≤ 1000000) (w : World) (ha : Sl w va A) (hb : Sl w vb B) :
  Calls Tryz.prog 122 #[va, vb] w fun e w' => ∃ v, e = .returned v ∧ Sl w' v (td (tv A + tv B)) ∧ Below w.heap.size w w' := by
 obtain ⟨i0, hi, hz0, hz1, hz2⟩ := info_parts Tryz.infoI
 obtain ⟨aa, ca, ea⟩ := ha.form
 obtain ⟨ab, cb, eb⟩ := hb.form
 subst ea eb
 obtain ⟨n, hn⟩ : ∃ n, n = A.length := ⟨_, rfl⟩
 obtain ⟨m, hm⟩ : ∃ m, m = B.length := ⟨_, rfl⟩
 rw [← hn] at lA ha ⊢
 rw [← hm] at lB hb ⊢
 replace hn := Lib.hid hn
 replace hm := Lib.hid hm
 replace hA := Lib.hid hA
 replace hB := Lib.hid hB
 replace ha := Lib.hid ha
 replace hb := Lib.hid hb
 go_enter Tryz.func122, Tryz.ntmps122
 go_wp2_with fail
 go_loopw [5, 6, 7] (fun v u j wr => ∃ (i c : Nat) (S : List Nat), u = .int .i64 (c : Int) ∧ j = .int .i64 (i : Int) ∧ AddS A B S i c ∧ (i ≤ max n m + 1 ∧ (i = max n m + 1 → c = 0)) ∧ wr.ownsRow w.heap.size 3 1 v i (S.map iv) ∧ Below w.heap.size w wr) (fun _ _ j _ => max n m + 2 - (intOf j).toNat)
 case atStart => exact ⟨0, 0, [], rfl, rfl, ⟨rfl, (fun d hd => by cases hd), Nat.zero_le _, (by rw [List.take_zero, List.take_zero]; show tv [] + 1 * 0 = tv [] + tv []; unfold tv; rfl)⟩, ⟨Nat.zero_le _, fun _ => rfl⟩, World.ownsRow_nil _ _ _ _, Below.refl _ _⟩
 case round =>
  obtain ⟨i, c, S, rfl, rfl, hS, hi2, hown, hbl⟩ := hrel
  have hx := dg_lt hA.out i
  have hy := dg_lt hB.out i
  have hc1 := hS.car
  have hst := Lib.hid (hS.step hA.out hB.out)
  have HA := Lib.hid (fun (wx : World) (hh : Below w.heap.size w wx) => at_any _ A i (by omega) (by rw [← hn.out]; omega) wx (ha.out.below hh))
  have HB := Lib.hid (fun (wx : World) (hh : Below w.heap.size w wx) => at_any _ B i (by omega) (by rw [← hm.out]; omega) wx (hb.out.below hh))
  obtain ⟨x, hxe⟩ : ∃ x, x = dg A i := ⟨_, rfl⟩
  obtain ⟨y, hye⟩ : ∃ y, y = dg B i := ⟨_, rfl⟩
  have hxz := Lib.hid (show n ≤ i → x = 0 from fun h => by rw [hxe]; exact dg_out (by rw [← hn.out]; exact h))
  have hyz := Lib.hid (show m ≤ i → y = 0 from fun h => by rw [hye]; exact dg_out (by rw [← hm.out]; exact h))
  replace hi2 := Lib.hid hi2
  rw [← hxe] at hx hst HA
  rw [← hye] at hy hst HB
  clear hxe hye
  replace hS := Lib.hid hS
  have hi1 := hi2.out.1
  have hcase : ((i : Int) < (n : Int)) ∨ (¬ ((i : Int) < (n : Int)) ∧ (i : Int) < (m : Int)) ∨ (¬ ((i : Int) < (n : Int)) ∧ ¬ ((i : Int) < (m : Int)) ∧ (0 : Int) < (c : Int)) ∨ (¬ ((i : Int) < (n : Int)) ∧ ¬ ((i : Int) < (m : Int)) ∧ c = 0) := by omega
  rcases hcase with k1 | ⟨k1, k2⟩ | ⟨k1, k2, k3⟩ | ⟨k1, k2, rfl⟩
  rotate_left 3
  ·have hS' := hS.out
   have hT : tv S = tv A + tv B := by
    have := hS'.eq
    rw [List.take_of_length_le (by rw [← hn.out]; omega), List.take_of_length_le (by rw [← hm.out]; omega)] at this
    omega
   have HT := trim_any u5 S hS'.lt (by rw [hS'.len]; omega) wr (Sl.owned hown hS'.len.symm)
   rw [hT] at HT
   replace HT := Lib.hid HT
   clear hT hS' hown
   have k0 : (0 : Int) = ((0 : Nat) : Int) := rfl
   clear k0
   go_wp2_with fail
   with_reducible refine Calls.mono HT.out ?_
   rintro e w1 ⟨v', rfl, hv, rfl⟩
   replace hv := Lib.hid hv
   go_wp2_with fail
   go_ret
   exact ⟨_, rfl, hv.out, hbl⟩
  all_goals (
   have hib : (i : Int) ≤ 1000002 := by omega
   go_wp2_with fail
   with_reducible refine Calls.mono (HA.out _ hbl) ?_
   rintro e w1 ⟨rfl, rfl⟩
   go_wp2_with fail
   with_reducible refine Calls.mono (HB.out _ hbl) ?_
   rintro e w1 ⟨rfl, rfl⟩
   go_wp2_with (at_builtin; refine wpList_append_own _ rfl _ _ 42 rfl w.heap.size 3 i0 (.int .i64 0) 1 8 Tryz.underlying42 hi hz0 hz1 hz2 rfl (by decide) _ _ _ rfl (hown.alloc _) ⟨wr.heap.size, 0, none⟩ 1 1 [.int .i64 (((x : Int) + (y : Int) + (c : Int)) % 10000)] rfl rfl ?c1 ?c2 ?c3 ?c4 ?c5 ?_)
   case c1 =>
    intro j u hj
    match j, hj with
    | 0, hj => simp at hj; subst hj; simp [Addr.add]
   case c2 => intro u hu; simp at hu; subst hu; rfl
   case c3 => unfold maxLen; omega
   case c4 => omega
   case c5 => have := hbl.size; simp; omega
   intro v' w1 hown' hgrow _
   have hn' := Lib.hid (own_snoc (d := (x + y + c) % 10000) (by omega) hown')
   have hb' := Lib.hid (below_app hbl hbl.size hown hgrow)
   clear hown' hgrow hown hbl
   go_wp2_with fail
   go_roundw
   case rel => exact ⟨i + 1, (x + y + c) / 10000, _, by first | rfl | go_num, by first | rfl | go_num, hst.out, (by have q1 := hxz.out; have q2 := hyz.out; have q3 := hi2.out; omega), hn'.out, hb'.out⟩
   case measure => simp [intOf]; omega)
end Go.Proofs.YtahfcciihkkegaaGreatDoor.Rx
namespace Go.Proofs.YtahfcciihkkegaaGreatDoor.Rx
open Go.RowKit
attribute [local irreducible] tv dg
theorem add0 (g i : Nat) : (⟨g, 0, none⟩ : Addr).add i = ⟨g, i, none⟩ := by
 unfold Addr.add
 split <;> simp_all
/-- Block g holds just these ints. -/
def IB (w : World) (g : Nat) (l : List Nat) : Prop := w.heap[g]? = some (.cells (l.map iv).toArray 3 (0, 0))
section
variable {w w' : World} {g : Nat} {l : List Nat}
theorem IB.lt (h : IB w g l) : g < w.heap.size := (Array.getElem?_eq_some_iff.1 h).1
theorem IB.cell (h : IB w g l) (i : Nat) (hi : i < l.length) : w.cell? ⟨g, i, none⟩ = some (.int .i64 ((l[i] : Nat) : Int)) := by
 rw [cell_of_row w g i _ _ _ h]; simp [hi]
theorem IB.frozen (h : IB w g l) (i : Nat) : w.frozen? ⟨g, i, none⟩ = false := frozen_of_row w g i _ _ h
theorem IB.set (h : IB w g l) (i : Nat) (d : Nat) : IB (w.setCell ⟨g, i, none⟩ (.int .i64 (d : Int))) g (l.set i d) := by
 unfold IB at *
 rw [heap_setCell_same w g i _ _ _ h]
 congr 2
 rw [List.map_set]; simp
theorem IB.keep (h : IB w g l) (hk : w'.heap[g]? = w.heap[g]?) : IB w' g l := hk.trans h
theorem IB.below {B : Nat} (h : IB w g l) (hb : Below B w w') (hg : g < B) : IB w' g l := h.keep (hb.block g hg)
theorem IB.drewN (h : IB w g l) (n : Nat) : IB (w.drewN n) g l := h
theorem IB.sl (h : IB w g l) (c : Nat) (hc : l.length ≤ c) : Sl w (.slice (some ⟨g, 0, none⟩) l.length c) l :=
 .inr ⟨⟨g, 0, none⟩, c, rfl, hc, fun i hi => by rw [add0]; exact h.cell i hi, h.lt⟩
end
theorem ibdrew {B : Nat} {a w : World} (h : Below B a w) (n : Nat) : Below B a (w.drewN n) := ⟨h.os, h.tape, h.output, h.size, h.block⟩
/-- Zeros, as make lays them. -/
def zobjI (n : Nat) : Obj := .cells ((List.replicate n 0).map iv).toArray 3
theorem IB.zeros (w : World) (n : Nat) : IB (w.alloc (zobjI n)) w.heap.size (List.replicate n 0) := heap_alloc_new w _
theorem made_zerosI (n : Nat) : madeCells (Value.cells (.int .i64 0)) n = ((List.replicate n 0).map iv).toArray := by
 apply Array.ext'
 rw [show Value.cells (.int .i64 0) = #[.int .i64 0] from rfl, toList_madeCells_one]
 simp
theorem makeN (w : World) (c : Int) (n : Nat) (hc : c = n) (h : n ≤ 17592186044416) :
  (Instr.makeSlice 42 (.int .i64 c) (.int .i64 c)).run Tryz.prog w = .ok (.slice (some ⟨w.heap.size, 0, none⟩) n n) (w.alloc (zobjI n)) := by
 subst hc
 have := run_make (P := Tryz.prog) w 42 3 Tryz.t3 (.int .i64 0) Tryz.underlying42 (by kernel_rfl) (by kernel_rfl) .i64 .i64 (n : Int) (n : Int) (by omega) (Int.le_refl _) (by show ((8 : Nat) : Int) * _ ≤ _; omega) (by omega)
 rw [this]
 simp only [Int.toNat_natCast]
 show Result.ok _ (w.alloc (.cells (madeCells (Value.cells (.int .i64 0)) (n * 1)) _)) = _
 rw [Nat.mul_one, made_zerosI]; rfl
theorem tv_set {l : List Nat} {j : Nat} (h : j < l.length) (d : Nat) : tv (l.set j d) + 10000 ^ j * l[j] = tv l + 10000 ^ j * d := by
 induction l generalizing j with
 | nil => exact absurd h (by simp)
 | cons x l ih =>
  cases j with
  | zero => simp only [List.set_cons_zero, List.getElem_cons_zero, tv, Nat.pow_zero, Nat.one_mul]; omega
  | succ j =>
   have hj : j < l.length := by simpa using h
   have := ih (j := j) hj
   simp only [List.set_cons_succ, List.getElem_cons_succ, tv, Nat.pow_succ]
   rw [Nat.mul_comm (10000 ^ j) 10000, Nat.mul_assoc, Nat.mul_assoc]
   generalize 10000 ^ j * l[j] = p at *
   generalize 10000 ^ j * d = q at *
   omega
/-- What Mul's inner rounds keep. -/
structure MulS (A B X : List Nat) (i k c : Nat) : Prop where
 len : X.length = A.length + B.length
 lt : ∀ d ∈ X, d < 10000
 car : c < 10000
 eq : tv X + 10000 ^ (i + k) * c = tv (A.take i) * tv B + 10000 ^ i * (dg A i * tv (B.take k))
theorem MulS.step {A B X : List Nat} {i k c : Nat} (h : MulS A B X i k c) (hA : ∀ d ∈ A, d < 10000) (hB : ∀ d ∈ B, d < 10000) (hj : i + k < X.length) {s : Nat} (hs : s = X[i + k] + dg A i * dg B k + c) :
  s < 100000000 ∧ MulS A B (X.set (i + k) (s % 10000)) i (k + 1) (s / 10000) := by
 have h1 := dg_lt hA i
 have h2 := dg_lt hB k
 have h3 := h.car
 have hx := h.lt _ (List.getElem_mem hj)
 have hp : dg A i * dg B k ≤ 9999 * 9999 := Nat.mul_le_mul (by omega) (by omega)
 have hs1 : s < 100000000 := by omega
 refine ⟨hs1, by rw [List.length_set]; exact h.len, fun d hd => ?_, by omega, ?_⟩
 ·rcases List.mem_or_eq_of_mem_set hd with hd | hd
  ·exact h.lt d hd
  ·omega
 ·have e1 := tv_set hj (s % 10000)
  have e2 := h.eq
  rw [tv_take, ← Nat.add_assoc, Nat.pow_succ]
  have e3 : s % 10000 + 10000 * (s / 10000) = X[i + k] + dg A i * dg B k + c := by omega
  have e4 : 10000 ^ (i + k) * (s % 10000) + 10000 ^ (i + k) * 10000 * (s / 10000) = 10000 ^ (i + k) * X[i + k] + 10000 ^ (i + k) * (dg A i * dg B k) + 10000 ^ (i + k) * c := by
   rw [Nat.mul_assoc, ← Nat.mul_add, e3, Nat.mul_add, Nat.mul_add]
  have e5 : 10000 ^ i * (dg A i * (tv (B.take k) + 10000 ^ k * dg B k)) = 10000 ^ i * (dg A i * tv (B.take k)) + 10000 ^ (i + k) * (dg A i * dg B k) := by
   rw [Nat.mul_add, Nat.mul_add, Nat.pow_add, Nat.mul_left_comm (dg A i), Nat.mul_assoc (10000 ^ i)]
  rw [e5]
  generalize 10000 ^ (i + k) * (s % 10000) = p1 at *
  generalize 10000 ^ (i + k) * 10000 * (s / 10000) = p2 at *
  generalize 10000 ^ (i + k) * X[i + k] = p3 at *
  generalize 10000 ^ (i + k) * (dg A i * dg B k) = p4 at *
  generalize 10000 ^ (i + k) * c = p5 at *
  generalize 10000 ^ i * (dg A i * tv (B.take k)) = p6 at *
  generalize tv (A.take i) * tv B = p7 at *
  generalize tv (X.set (i + k) (s % 10000)) = p8 at *
  generalize tv X = p9 at *
  omega
/-- Behind b's digits one carry may be left, and no more. -/
theorem MulS.carry {A B X : List Nat} {i k c : Nat} (h : MulS A B X i k c) (hA : ∀ d ∈ A, d < 10000) (hB : ∀ d ∈ B, d < 10000) (hi : i < A.length) (hk : B.length + 1 ≤ k) : c = 0 := by
 rcases Nat.eq_zero_or_pos c with h0 | h0
 ·exact h0
 ·have e := h.eq
  have e2 : tv (A.take i) * tv B + 10000 ^ i * (dg A i * tv (B.take k)) = tv (A.take (i + 1)) * tv B := by
   rw [List.take_of_length_le (l := B) (by omega), tv_take, Nat.add_mul, Nat.mul_assoc]
  have e3 : tv (A.take (i + 1)) < 10000 ^ (i + 1) := by
   have := tv_lt (l := A.take (i + 1)) fun d hd => hA d (List.mem_of_mem_take hd)
   rwa [List.length_take, Nat.min_eq_left (by omega)] at this
  have e4 := tv_lt hB
  have e5 : tv (A.take (i + 1)) * tv B < 10000 ^ (i + 1) * 10000 ^ B.length := Nat.lt_of_le_of_lt (Nat.mul_le_mul_left _ (Nat.le_of_lt e4)) (Nat.mul_lt_mul_of_pos_right e3 (Nat.pow_pos (by omega)))
  rw [← Nat.pow_add] at e5
  have e6 : 10000 ^ (i + 1 + B.length) ≤ 10000 ^ (i + k) := Nat.pow_le_pow_right (by omega) (by omega)
  have e7 : 10000 ^ (i + k) ≤ 10000 ^ (i + k) * c := Nat.le_mul_of_pos_right _ h0
  omega
theorem MulS.done {A B X : List Nat} {i k : Nat} (h : MulS A B X i k 0) (hk : B.length ≤ k) : MulS A B X (i + 1) 0 0 := by
 refine ⟨h.len, h.lt, by omega, ?_⟩
 have e := h.eq
 rw [List.take_of_length_le hk] at e
 rw [List.take_zero, tv_take, Nat.add_mul, Nat.mul_assoc]
 rw [Nat.mul_zero, Nat.add_zero] at e ⊢
 rw [e]
 have : tv [] = 0 := by unfold tv; rfl
 rw [this, Nat.mul_zero, Nat.mul_zero, Nat.add_zero]
theorem MulS.start (A B : List Nat) : MulS A B (List.replicate (A.length + B.length) 0) 0 0 0 := by
 refine ⟨List.length_replicate, fun d hd => by rw [(List.mem_replicate.1 hd).2]; omega, by omega, ?_⟩
 have : tv [] = 0 := by unfold tv; rfl
 rw [tv_zeros, List.take_zero, List.take_zero, this]
 simp
theorem rmul_l (va vb : Value) (A B : List Nat) (hA : ∀ d ∈ A, d < 10000) (hB : ∀ d ∈ B, d < 10000) (lA : A.length ≤ 1000000) (lB : B.length ≤ 1000000) (w : World) (ha : Sl w va A) (hb : Sl w vb B) :
  Calls Tryz.prog 79 #[va, vb] w fun e w' => ∃ v, e = .returned v ∧ Sl w' v (td (tv A * tv B)) ∧ Below w.heap.size w w' := by
 obtain ⟨aa, ca, ea, hva⟩ := ha.view
 obtain ⟨ab, cb, eb⟩ := hb.form
 subst ea eb
 obtain ⟨n, hn⟩ : ∃ n, n = A.length := ⟨_, rfl⟩
 obtain ⟨m, hm⟩ : ∃ m, m = B.length := ⟨_, rfl⟩
 rw [← hn] at lA ha hva ⊢
 rw [← hm] at lB hb ⊢
 have hst := MulS.start A B
 rw [← hn, ← hm] at hst
 have hmk : ∀ w, (Instr.makeSlice 42 (.int .i64 ((n : Int) + (m : Int))) (.int .i64 ((n : Int) + (m : Int)))).run Tryz.prog w = .ok (.slice (some ⟨w.heap.size, 0, none⟩) (n + m) (n + m)) (w.alloc (zobjI (n + m))) :=
  fun w => makeN w _ (n + m) (by omega) (by omega)
 have hz := Lib.hid (IB.zeros w (n + m))
 replace hst := Lib.hid hst
 replace hn := Lib.hid hn
 replace hm := Lib.hid hm
 replace hA := Lib.hid hA
 replace hB := Lib.hid hB
 replace ha := Lib.hid ha
 replace hb := Lib.hid hb
 replace hva := Lib.hid hva
 obtain ⟨N, hN⟩ : ∃ N, N = n + m := ⟨_, rfl⟩
 rw [← hN] at hmk hz hst
 replace hN := Lib.hid hN
 go_enter Tryz.func79, Tryz.ntmps79
 go_wp2_with fail
 go_loopw [6] (fun j wr => ∃ (i : Nat) (X : List Nat), j = .int .i64 (i : Int) ∧ i ≤ n ∧ MulS A B X i 0 0 ∧ IB wr w.heap.size X ∧ Below w.heap.size w wr) (fun j _ => n - (intOf j).toNat)
 case atStart => exact ⟨0, _, rfl, Nat.zero_le _, hst.out, hz.out, (Below.refl _ _).alloc (Nat.le_refl _) _⟩
 case round =>
  obtain ⟨i, X, rfl, hi, hS, hX, hbl⟩ := hrel
  clear hmk hz hst
  replace hS := Lib.hid hS
  replace hX := Lib.hid hX
  rcases Nat.lt_or_ge i n with hin | hin
  ·have k1 : (i : Int) < (n : Int) := by omega
   have hib : (i : Int) ≤ 1000000 := by omega
   obtain ⟨aA, rfl, -, hsd⟩ := hva.out (by omega)
   replace hsd := Lib.hid hsd
   go_wp2_with fail
   go_loopw [7, 8] (fun cv kv wy => ∃ (k c : Nat) (Y : List Nat), cv = .int .i64 (c : Int) ∧ kv = .int .i64 (k : Int) ∧ k ≤ m + 1 ∧ MulS A B Y i k c ∧ IB wy w.heap.size Y ∧ Below w.heap.size w wy) (fun _ kv _ => m + 2 - (intOf kv).toNat)
   case atStart => exact ⟨0, 0, X, rfl, rfl, Nat.zero_le _, hS.out, hX.out, hbl⟩
   case round =>
    obtain ⟨k, c, Y, rfl, rfl, hk, hY, hYb, hbl2⟩ := hrel
    have hc := hY.car
    have hcz := Lib.hid (fun h => hY.carry hA.out hB.out (by rw [← hn.out]; exact hin) (by rw [← hm.out]; exact h))
    have hdn := Lib.hid (show m ≤ k → c = 0 → MulS A B Y (i + 1) 0 0 from fun h1 h2 => by subst h2; exact hY.done (by rw [← hm.out]; exact h1))
    have hcase : ((k : Int) < (m : Int)) ∨ (¬ ((k : Int) < (m : Int)) ∧ (0 : Int) < (c : Int)) ∨ (¬ ((k : Int) < (m : Int)) ∧ c = 0) := by omega
    rcases hcase with k2 | ⟨k2, k3⟩ | ⟨k2, rfl⟩
    rotate_left 2
    ·have hd := Lib.hid (hdn.out (by omega) rfl)
     replace hYb := Lib.hid hYb
     clear hY hcz hdn
     go_wp2_with fail
     go_roundw
     case rel => exact ⟨i + 1, Y, by first | rfl | go_num, by omega, hd.out, hYb.out, hbl2⟩
     case measure => simp [intOf]; omega
    all_goals (
     have hkm : k ≤ m := by have := hcz.out; omega
     have hj : i + k < Y.length := by rw [hY.len, ← hn.out, ← hm.out]; omega
     have hyc := hYb.cell (i + k) hj
     have hyf := hYb.frozen (i + k)
     have hac := hsd.out.cell i (by rw [← hn.out]; exact hin)
     have hap : A[i]'(by rw [← hn.out]; exact hin) = dg A i := (dg_in _).symm
     rw [hap] at hac
     obtain ⟨hs1, hs2⟩ := hY.step hA.out hB.out hj rfl
     have hsY := hYb.set (i + k) ((Y[i + k] + dg A i * dg B k + c) % 10000)
     have hy := hY.lt _ (List.getElem_mem hj)
     have hAt : ∀ wx, Below w.heap.size w wx → Calls Tryz.prog 139 #[.slice ab m cb, .int .i64 (k : Int)] wx fun e w' => e = .returned (.int .i64 ((dg B k : Nat) : Int)) ∧ w' = wx :=
      fun wx hh => (at_any _ B k (by omega) (by rw [← hm.out]; omega) wx (hb.out.below hh)).mono fun _ _ h => ⟨h.1, h.2.symm⟩
     have hp := dg_lt hA.out i
     have hq := dg_lt hB.out k
     clear hap
     generalize Y[i + k] = y at *
     generalize dg A i = p at *
     generalize dg B k = q at *
     obtain ⟨z, hz⟩ : ∃ z, z = p * q := ⟨_, rfl⟩
     have hzb : z ≤ 99980001 := by rw [hz]; exact Nat.mul_le_mul (show p ≤ 9999 by omega) (show q ≤ 9999 by omega)
     rw [← hz] at hs1 hs2 hsY
     have hzz : (p : Int) * (q : Int) = (z : Int) := by rw [hz]; rfl
     have hac2 := hac.trans rfl
     have hac4 : wr.cell? (aA.add i) = some (.int .i64 (p : Int)) := (hbl2.cell (p := aA.add i) (by rw [addB]; exact hsd.out.blk)).trans hac
     clear hz hac hac2 hY hYb hcz hdn
     replace hAt := Lib.hid hAt
     replace hs2 := Lib.hid hs2
     replace hsY := Lib.hid hsY
     have hib2 : (k : Int) ≤ 1000001 := by omega
     have hNN : (i : Int) + (k : Int) < (N : Int) := by have := hN.out; omega
     have hNk : (k : Int) < (N : Int) := by omega
     go_wp2_with fail
     go_quiet ((go_at_call 139; exact Calls.quiet_of_same (hAt.out _ (ibdrew hbl2 _))))
     go_wp2_with fail
     go_roundw
     case rel => exact ⟨k + 1, (y + z + c) / 10000, _, by first | rfl | go_num, by first | rfl | go_num, by omega, hs2.out, (by have h := hsY.out; rw [show (((y + z + c) % 10000 : Nat) : Int) = ((y : Int) + (z : Int) + (c : Int)) % 10000 by omega] at h; exact h), ((ibdrew hbl2 nq).setCell (Nat.le_refl _) _)⟩
     case measure => simp [intOf]; omega)
  ·have k1 : ¬ (i : Int) < (n : Int) := by omega
   have hie : i = n := by omega
   have hT : tv X = tv A * tv B := by
    have := hS.out.eq
    rw [hie, hn.out, List.take_length, List.take_zero] at this
    have h0 : tv [] = 0 := by unfold tv; rfl
    rw [h0, Nat.mul_zero, Nat.mul_zero, Nat.mul_zero] at this
    omega
   have hl : X.length = N := by rw [hS.out.len, hN.out, hn.out, hm.out]
   have HT := trim_any _ X hS.out.lt (by rw [hl]; have := hN.out; omega) wr (hX.out.sl N (by omega))
   rw [hT, hl] at HT
   replace HT := Lib.hid HT
   clear hT hie
   go_wp2_with fail
   with_reducible refine Calls.mono HT.out ?_
   rintro e w1 ⟨v', rfl, hv, rfl⟩
   replace hv := Lib.hid hv
   go_wp2_with fail
   go_ret
   exact ⟨_, rfl, hv.out, hbl⟩
end Go.Proofs.YtahfcciihkkegaaGreatDoor.Rx
namespace Go.Proofs.YtahfcciihkkegaaGreatDoor.Rx
open Go.RowKit
attribute [local irreducible] tv dg
/-- A slice that holds a number's digits. -/
abbrev Rn (w : World) (v : Value) (n : Nat) : Prop := Sl w v (td n)
theorem rn_nil (w : World) : Rn w (.slice none 0 0) 0 := by
 show Sl _ _ (td 0)
 rw [td_zero]; exact Sl.nil _
theorem radd_any (va vb : Value) (a b : Nat) (la : (td a).length ≤ 1000000) (lb : (td b).length ≤ 1000000) (w : World) (ha : Rn w va a) (hb : Rn w vb b) :
  Calls Tryz.prog 122 #[va, vb] w fun e w' => ∃ v, e = .returned v ∧ Rn w' v (a + b) ∧ Below w.heap.size w w' := by
 have := radd_l va vb _ _ (td_lt a) (td_lt b) la lb w ha hb
 rwa [tv_td, tv_td] at this
theorem rmul_any (va vb : Value) (a b : Nat) (la : (td a).length ≤ 1000000) (lb : (td b).length ≤ 1000000) (w : World) (ha : Rn w va a) (hb : Rn w vb b) :
  Calls Tryz.prog 79 #[va, vb] w fun e w' => ∃ v, e = .returned v ∧ Rn w' v (a * b) ∧ Below w.heap.size w w' := by
 have := rmul_l va vb _ _ (td_lt a) (td_lt b) la lb w ha hb
 rwa [tv_td, tv_td] at this
theorem td_add_le {a b k : Nat} (ha : (td a).length ≤ k) (hb : (td b).length ≤ k) : (td (a + b)).length ≤ k + 1 := by
 have h1 := td_length.1 ha
 have h2 := td_length.1 hb
 refine td_length.2 ?_
 rw [Nat.pow_succ]
 omega
theorem td_mul_le {a b k m : Nat} (ha : (td a).length ≤ k) (hb : (td b).length ≤ m) : (td (a * b)).length ≤ k + m := by
 have h1 := td_length.1 ha
 have h2 := td_length.1 hb
 refine td_length.2 ?_
 rw [Nat.pow_add]
 exact Nat.lt_of_le_of_lt (Nat.mul_le_mul_left _ (Nat.le_of_lt h2)) (Nat.mul_lt_mul_of_pos_right h1 (Nat.pow_pos (by omega)))
theorem rof_val (z : Int) (d : Nat) (hz : z = (d : Int)) (hd : d < 18446744073709551616) (w : World) :
  Calls Tryz.prog 80 #[.int .u64 z] w fun e w' => ∃ v, e = .returned v ∧ Rn w' v d ∧ Below w.heap.size w w' := by rw [hz]; exact rof_any d hd w
end Go.Proofs.YtahfcciihkkegaaGreatDoor.Rx
namespace Go.Proofs.YtahfcciihkkegaaGreatDoor.Rx
open Go.RowKit
attribute [local irreducible] tv dg cmpI
/-- Digits from a place on, compared. -/
theorem tv_split {l : List Nat} {i : Nat} (h : i < l.length) : tv l = tv (l.take i) + 10000 ^ i * (l[i] + 10000 * tv (l.drop (i + 1))) := by
 have e := tv_append (l.take i) (l.drop i)
 rw [List.take_append_drop, List.length_take, Nat.min_eq_left (Nat.le_of_lt h), List.drop_eq_getElem_cons h] at e
 rw [e]
 rw [tv_cons]
theorem tv_less {A B : List Nat} {i : Nat} (hA : ∀ d ∈ A, d < 10000) (ha : i < A.length) (hb : i < B.length) (hd : A.drop (i + 1) = B.drop (i + 1)) (h : A[i] < B[i]) : tv A < tv B := by
 rw [tv_split ha, tv_split hb, hd]
 have h1 := tv_lt (l := A.take i) fun d hd => hA d (List.mem_of_mem_take hd)
 rw [List.length_take, Nat.min_eq_left (Nat.le_of_lt ha)] at h1
 have h2 : 10000 ^ i * (A[i] + 10000 * tv (B.drop (i + 1)) + 1) ≤ 10000 ^ i * (B[i] + 10000 * tv (B.drop (i + 1))) := Nat.mul_le_mul_left _ (by omega)
 rw [Nat.mul_add _ _ 1, Nat.mul_one] at h2
 omega
theorem rcmp_any (va vb : Value) (a b : Nat) (la : (td a).length ≤ 1000000) (lb : (td b).length ≤ 1000000) (w : World) (ha : Rn w va a) (hb : Rn w vb b) :
  Calls Tryz.prog 123 #[va, vb] w fun e w' => e = .returned (.int .i64 (cmpI a b)) ∧ Below w.heap.size w w' := by
 obtain ⟨aa, ca, ea, hva⟩ := ha.view
 obtain ⟨ab, cb, eb, hvb⟩ := hb.view
 subst ea eb
 have hA := td_lt a
 have hB := td_lt b
 have va1 := tv_td a
 have vb1 := tv_td b
 have hlt : (td a).length < (td b).length → cmpI a b = -1 := fun h => cmpI_lt (Nat.lt_of_not_le fun h2 => by have := td_mono h2; omega)
 have hgt : (td b).length < (td a).length → cmpI a b = 1 := fun h => cmpI_gt (Nat.lt_of_not_le fun h2 => by have := td_mono h2; omega)
 have hless : tv (td a) < tv (td b) → cmpI a b = -1 := fun h => cmpI_lt (by rwa [va1, vb1] at h)
 have hmore : tv (td b) < tv (td a) → cmpI a b = 1 := fun h => cmpI_gt (by rwa [va1, vb1] at h)
 have hsame : td a = td b → cmpI a b = 0 := fun h => by rw [show a = b by rw [← va1, ← vb1, h]]; exact cmpI_eq b
 clear va1 vb1 ha hb
 generalize td a = A at *
 generalize td b = B at *
 obtain ⟨n, hn⟩ : ∃ n, n = A.length := ⟨_, rfl⟩
 obtain ⟨m, hm⟩ : ∃ m, m = B.length := ⟨_, rfl⟩
 rw [← hn] at la hlt hgt hva ⊢
 rw [← hm] at lb hlt hgt hvb ⊢
 replace hA := Lib.hid hA
 replace hB := Lib.hid hB
 replace hlt := Lib.hid hlt
 replace hgt := Lib.hid hgt
 replace hless := Lib.hid hless
 replace hmore := Lib.hid hmore
 replace hsame := Lib.hid hsame
 replace hva := Lib.hid hva
 replace hvb := Lib.hid hvb
 replace hn := Lib.hid hn
 replace hm := Lib.hid hm
 rcases Nat.lt_trichotomy n m with h | h | h
 ·have k1 : (n : Int) < (m : Int) := by omega
  rw [hlt.out h]
  go_enter Tryz.func123, Tryz.ntmps123
  go_wp2_with fail
  go_ret
  exact ⟨rfl, Below.refl _ _⟩
 ·subst h
  go_enter Tryz.func123, Tryz.ntmps123
  go_wp2_with fail
  go_loopw [5] (fun z wr => ∃ j : Nat, j ≤ n ∧ z = .int .i64 ((j : Int) - 1) ∧ A.drop j = B.drop j ∧ Below w.heap.size w wr) (fun z _ => (intOf z + 1).toNat)
  case atStart => exact ⟨n, Nat.le_refl _, by first | rfl | go_num, by rw [List.drop_eq_nil_of_le (by rw [← hn.out]; exact Nat.le_refl _), List.drop_eq_nil_of_le (by rw [← hm.out]; exact Nat.le_refl _)], Below.refl _ _⟩
  case round =>
   obtain ⟨j, hj, rfl, hd, hbl⟩ := hrel
   cases j with
   | zero =>
    rw [List.drop_zero, List.drop_zero] at hd
    have hres := Lib.hid (hsame.out hd)
    clear hd
    go_wp2_with fail
    go_ret
    exact ⟨by rw [hres.out]; rfl, hbl⟩
   | succ i =>
    obtain ⟨aA, rfl, -, sA⟩ := hva.out (by omega)
    obtain ⟨aB, rfl, -, sB⟩ := hvb.out (by omega)
    have iA : i < A.length := by have := hn.out; omega
    have iB : i < B.length := by have := hm.out; omega
    have cA := (sA.below (hbl.mono (Nat.le_refl _))).cell i iA
    have cB := (sB.below (hbl.mono (Nat.le_refl _))).cell i iB
    have q1 := Lib.hid (fun h => tv_less hA.out iA iB hd h)
    have q2 := Lib.hid (fun h => tv_less hB.out iB iA hd.symm h)
    have q3 : A[i] = B[i] → A.drop i = B.drop i := fun h => by rw [List.drop_eq_getElem_cons iA, List.drop_eq_getElem_cons iB, h, hd]
    replace q3 := Lib.hid q3
    have xb := hA.out _ (List.getElem_mem iA)
    have yb := hB.out _ (List.getElem_mem iB)
    clear hd sA sB
    generalize A[i] = x at *
    generalize B[i] = y at *
    have e1 : (((i + 1 : Nat) : Int) - 1) = (i : Int) := by omega
    have hin : (i : Int) < (n : Int) := by omega
    rw [e1]
    rcases Nat.lt_trichotomy x y with h | h | h
    ·have k1 : (x : Int) < (y : Int) := by omega
     have hres := hless.out (q1.out h)
     replace hres := Lib.hid hres
     go_wp2_with fail
     go_quiet (fail)
     go_wp2_with fail
     go_ret
     exact ⟨by rw [hres.out]; rfl, by first | exact ibdrew hbl _ | exact ibdrew (ibdrew hbl _) _⟩
    ·subst h
     have k1 : ¬ (x : Int) < (x : Int) := by omega
     go_wp2_with fail
     go_quiet (fail)
     go_wp2_with fail
     go_quiet (fail)
     go_wp2_with fail
     go_roundw
     case rel => exact ⟨i, by omega, by first | rfl | go_num, q3.out (by trivial), ibdrew hbl _⟩
     case measure => simp [intOf]
    ·have k1 : ¬ (x : Int) < (y : Int) := by omega
     have k2 : (y : Int) < (x : Int) := by omega
     have hres := hmore.out (q2.out h)
     replace hres := Lib.hid hres
     go_wp2_with fail
     go_quiet (fail)
     go_wp2_with fail
     go_quiet (fail)
     go_wp2_with fail
     go_ret
     exact ⟨by rw [hres.out]; rfl, by first | exact ibdrew hbl _ | exact ibdrew (ibdrew hbl _) _⟩
 ·have k1 : ¬ (n : Int) < (m : Int) := by omega
  have k2 : (m : Int) < (n : Int) := by omega
  rw [hgt.out h]
  go_enter Tryz.func123, Tryz.ntmps123
  go_wp2_with fail
  go_ret
  exact ⟨rfl, Below.refl _ _⟩
end Go.Proofs.YtahfcciihkkegaaGreatDoor.Rx
namespace Go.Proofs.YtahfcciihkkegaaGreatDoor.Rx
open Go.RowKit
attribute [local irreducible] tv dg cmpI
theorem cell_new (w : World) (v : Value) (t : TypeId) : (w.alloc (.cells #[v] t)).cell? ⟨w.heap.size, 0, none⟩ = some v := by
 rw [cell_of_row _ _ 0 _ _ _ (heap_alloc_new w _)]; rfl
/-- What Sub's rounds keep. -/
structure SubS (A B S : List Nat) (i c : Nat) : Prop where
 len : S.length = i
 lt : ∀ d ∈ S, d < 10000
 car : c ≤ 1
 eq : tv (A.take i) + 10000 ^ i * c = tv S + tv (B.take i)
theorem SubS.step {A B S : List Nat} {i c d c' : Nat} (h : SubS A B S i c) (hd : d < 10000) (hc : c' ≤ 1) (he : d + dg B i + c = dg A i + 10000 * c') : SubS A B (S ++ [d]) (i + 1) c' := by
 refine ⟨by rw [List.length_append, h.len]; rfl, fun x hx => ?_, hc, ?_⟩
 ·rcases List.mem_append.1 hx with hx | hx
  ·exact h.lt x hx
  ·rw [List.mem_singleton.1 hx]; exact hd
 ·rw [tv_snoc, h.len, tv_take, tv_take, Nat.pow_succ]
  have h4 := h.eq
  have h6 : 10000 ^ i * d + 10000 ^ i * dg B i + 10000 ^ i * c = 10000 ^ i * dg A i + 10000 ^ i * 10000 * c' := by
   rw [Nat.mul_assoc, ← Nat.mul_add, ← Nat.mul_add, ← Nat.mul_add, he]
  generalize 10000 ^ i * d = p1 at *
  generalize 10000 ^ i * dg B i = p2 at *
  generalize 10000 ^ i * c = p3 at *
  generalize 10000 ^ i * dg A i = p4 at *
  generalize 10000 ^ i * 10000 * c' = p5 at *
  omega
theorem SubS.done {A B S : List Nat} {c : Nat} (h : SubS A B S A.length c) (hB : B.length ≤ A.length) (hle : tv B ≤ tv A) : tv S = tv A - tv B := by
 have e := h.eq
 rw [List.take_of_length_le (Nat.le_refl _), List.take_of_length_le hB] at e
 have h1 := tv_lt h.lt
 rw [h.len] at h1
 have hc := h.car
 rcases Nat.eq_zero_or_pos c with h0 | h0
 ·rw [h0, Nat.mul_zero] at e; omega
 ·rw [show c = 1 by omega, Nat.mul_one] at e; omega
theorem rsub_l (va vb : Value) (A B : List Nat) (hA : ∀ d ∈ A, d < 10000) (hB : ∀ d ∈ B, d < 10000) (lA : A.length ≤ 1000000) (lB : B.length ≤ A.length) (hle : tv B ≤ tv A) (w : World) (ha : Sl w va A) (hb : Sl w vb B) :
  Calls Tryz.prog 119 #[va, vb] w fun e w' => ∃ v, e = .returned v ∧ Sl w' v (td (tv A - tv B)) ∧ Below w.heap.size w w' := by
 obtain ⟨i0, hi, hz0, hz1, hz2⟩ := info_parts Tryz.infoI
 obtain ⟨aa, ca, ea, hva⟩ := ha.view
 obtain ⟨ab, cb, eb⟩ := hb.form
 subst ea eb
 obtain ⟨n, hn⟩ : ∃ n, n = A.length := ⟨_, rfl⟩
 obtain ⟨m, hm⟩ : ∃ m, m = B.length := ⟨_, rfl⟩
 have hfin := fun (S : List Nat) c (h : SubS A B S A.length c) => h.done lB hle
 rw [← hn] at lA hva hfin lB ⊢
 rw [← hm] at lB hb ⊢
 replace hn := Lib.hid hn
 replace hm := Lib.hid hm
 replace hA := Lib.hid hA
 replace hB := Lib.hid hB
 replace hb := Lib.hid hb
 replace hva := Lib.hid hva
 replace hfin := Lib.hid hfin
 clear ha hle
 go_enter Tryz.func119, Tryz.ntmps119
 go_wp2_with fail
 go_loopw [5, 6, 7] (fun v u j wr => ∃ (i c : Nat) (S : List Nat), u = .int .i64 (c : Int) ∧ j = .int .i64 (i : Int) ∧ SubS A B S i c ∧ i ≤ n ∧ wr.ownsRow w.heap.size 3 1 v i (S.map iv) ∧ Below w.heap.size w wr) (fun _ _ j _ => n - (intOf j).toNat)
 case atStart => exact ⟨0, 0, [], rfl, rfl, ⟨rfl, (fun d hd => by cases hd), Nat.zero_le _, (by rw [List.take_zero, List.take_zero, tv_nil])⟩, Nat.zero_le _, World.ownsRow_nil _ _ _ _, Below.refl _ _⟩
 case round =>
  obtain ⟨i, c, S, rfl, rfl, hS, hi2, hown, hbl⟩ := hrel
  rcases Nat.lt_or_ge i n with hin | hin
  ·have k1 : (i : Int) < (n : Int) := by omega
   have hib : (i : Int) ≤ 1000000 := by omega
   obtain ⟨aA, rfl, -, sA⟩ := hva.out (by omega)
   have iA : i < A.length := by have := hn.out; omega
   have hcell := (sA.below hbl).cell i iA
   rw [← dg_in iA] at hcell
   have hx := dg_lt hA.out i
   have hy := dg_lt hB.out i
   have hc1 := hS.car
   have HB : ∀ wx, Below w.heap.size w wx → Calls Tryz.prog 139 #[.slice ab m cb, .int .i64 (i : Int)] wx fun e w' => e = .returned (.int .i64 ((dg B i : Nat) : Int)) ∧ w' = wx :=
    fun wx hh => (at_any _ B i (by omega) (by rw [← hm.out]; omega) wx (hb.out.below hh)).mono fun _ _ h => ⟨h.1, h.2.symm⟩
   have hstep := fun (d c' : Nat) h1 h2 h3 => hS.step (d := d) (c' := c') h1 h2 h3
   clear sA hS
   generalize dg A i = x at *
   generalize dg B i = y at *
   replace HB := Lib.hid HB
   replace hstep := Lib.hid hstep
   by_cases hneg : (x : Int) - (y : Int) - (c : Int) < 0
   ·have hst := Lib.hid (hstep.out (x + 10000 - y - c) 1 (by omega) (by omega) (by omega))
    go_wp2_with fail
    go_quiet ((go_at_call 139; exact Calls.quiet_of_same (HB.out _ (ibdrew hbl _))))
    have hown2 : (wr.drewN nq).ownsRow w.heap.size 3 1 u5 i (S.map iv) := hown
    go_wp2_with (at_builtin; refine wpList_append_own _ rfl _ _ 42 rfl w.heap.size 3 i0 (.int .i64 0) 1 8 Tryz.underlying42 hi hz0 hz1 hz2 rfl (by decide) _ _ _ rfl (hown2.alloc _) ⟨wr.heap.size, 0, none⟩ 1 1 [.int .i64 ((x : Int) - (y : Int) - (c : Int) + 10000)] rfl rfl ?c1 ?c2 ?c3 ?c4 ?c5 ?_)
    case c1 =>
     intro j u hj
     match j, hj with
     | 0, hj => simp at hj; subst hj; rw [add0]; exact cell_new (wr.drewN nq) _ _
    case c2 => intro u hu; simp at hu; subst hu; rfl
    case c3 => unfold maxLen; omega
    case c4 => omega
    case c5 => have := hbl.size; first | (simp; omega) | (simp; exact this) | (show w.heap.size ≤ _; simp; show w.heap.size ≤ wr.heap.size + 1; omega)
    intro v' w1 hown' hgrow _
    have hn' := Lib.hid (own_snoc (d := x + 10000 - y - c) (by omega) hown')
    have hb' := Lib.hid (below_app (ibdrew hbl nq) hbl.size hown2 hgrow)
    clear hown' hgrow hown hown2 hbl
    go_wp2_with fail
    go_roundw
    case rel => exact ⟨i + 1, 1, _, by first | rfl | go_num, by first | rfl | go_num, hst.out, by omega, hn'.out, hb'.out⟩
    case measure => simp [intOf]; omega
   ·have hst := Lib.hid (hstep.out (x - y - c) 0 (by omega) (by omega) (by omega))
    go_wp2_with fail
    go_quiet ((go_at_call 139; exact Calls.quiet_of_same (HB.out _ (ibdrew hbl _))))
    have hown2 : (wr.drewN nq).ownsRow w.heap.size 3 1 u5 i (S.map iv) := hown
    go_wp2_with (at_builtin; refine wpList_append_own _ rfl _ _ 42 rfl w.heap.size 3 i0 (.int .i64 0) 1 8 Tryz.underlying42 hi hz0 hz1 hz2 rfl (by decide) _ _ _ rfl (hown2.alloc _) ⟨wr.heap.size, 0, none⟩ 1 1 [.int .i64 ((x : Int) - (y : Int) - (c : Int))] rfl rfl ?d1 ?d2 ?d3 ?d4 ?d5 ?_)
    case d1 =>
     intro j u hj
     match j, hj with
     | 0, hj => simp at hj; subst hj; rw [add0]; exact cell_new (wr.drewN nq) _ _
    case d2 => intro u hu; simp at hu; subst hu; rfl
    case d3 => unfold maxLen; omega
    case d4 => omega
    case d5 => have := hbl.size; first | (simp; omega) | (simp; exact this) | (show w.heap.size ≤ _; simp; show w.heap.size ≤ wr.heap.size + 1; omega)
    intro v' w1 hown' hgrow _
    have hn' := Lib.hid (own_snoc (d := x - y - c) (by omega) hown')
    have hb' := Lib.hid (below_app (ibdrew hbl nq) hbl.size hown2 hgrow)
    clear hown' hgrow hown hown2 hbl
    go_wp2_with fail
    go_roundw
    case rel => exact ⟨i + 1, 0, _, by first | rfl | go_num, by first | rfl | go_num, hst.out, by omega, hn'.out, hb'.out⟩
    case measure => simp [intOf]; omega
  ·have k1 : ¬ (i : Int) < (n : Int) := by omega
   obtain rfl : i = n := by omega
   have hT := hfin.out S c hS
   have HT := trim_any u5 S hS.lt (by rw [hS.len]; omega) wr (Sl.owned hown hS.len.symm)
   rw [hT] at HT
   replace HT := Lib.hid HT
   clear hT hS hown
   go_wp2_with fail
   with_reducible refine Calls.mono HT.out ?_
   rintro e w1 ⟨v', rfl, hv, rfl⟩
   replace hv := Lib.hid hv
   go_wp2_with fail
   go_ret
   exact ⟨_, rfl, hv.out, hbl⟩
theorem rsub_any (va vb : Value) (a b : Nat) (la : (td a).length ≤ 1000000) (hle : b ≤ a) (w : World) (ha : Rn w va a) (hb : Rn w vb b) :
  Calls Tryz.prog 119 #[va, vb] w fun e w' => ∃ v, e = .returned v ∧ Rn w' v (a - b) ∧ Below w.heap.size w w' := by
 have := rsub_l va vb _ _ (td_lt a) (td_lt b) la (td_mono hle) (by rw [tv_td, tv_td]; exact hle) w ha hb
 rwa [tv_td, tv_td] at this
end Go.Proofs.YtahfcciihkkegaaGreatDoor.Rx
namespace Go.Proofs.YtahfcciihkkegaaGreatDoor.Rx
open Go.RowKit
open Go.Lib (decDigits)
attribute [local irreducible] tv dg cmpI
theorem pad_cons : ∀ (k r : Nat), pad (k + 1) r = dch (r / 10 ^ k % 10) :: pad k r
 | 0, r => by rw [pad, pad, Nat.pow_zero, Nat.div_one]; rfl
 | k + 1, r => by
  rw [pad, pad_cons k (r / 10), pad, List.cons_append, Nat.div_div_eq_div_mul, Nat.pow_succ, Nat.mul_comm 10]
theorem enc_dig (q : Nat) : Utf8.encode (48 + (q : Int) % 10) = ⟨#[dch (q % 10)]⟩ := by
 have h1 : Utf8.valid (48 + (q : Int) % 10) = true := by unfold Utf8.valid; simp; omega
 have h2 : (48 + (q : Int) % 10).toNat = 48 + q % 10 := by omega
 unfold Utf8.encode dch
 simp only [h1, if_true, h2]
 rw [if_pos (by omega)]
theorem ba_cons (c : UInt8) (S : List UInt8) : (⟨#[c]⟩ : ByteArray) ++ ⟨S.toArray⟩ = ⟨(c :: S).toArray⟩ := by
 apply ByteArray.ext
 simp [ByteArray.data_append]
theorem pad_dec {k r : Nat} (h1 : r < 10 ^ k) (h2 : k = 0 ∨ 0 < r / 10 ^ (k - 1)) (hr : 0 < r) : pad k r = decDigits r := by
  have hk : 0 < k := by rcases Nat.eq_zero_or_pos k with h | h; · rw [h, Nat.pow_zero] at h1; omega
                        · exact h
  obtain ⟨e1, e2⟩ := pad_eq k r hk h1
  have h3 : 0 < r / 10 ^ (k - 1) := by rcases h2 with h | h; · omega
                                       · exact h
  have h4 : (decDigits r).length = k := by
    refine Nat.le_antisymm e2 (Nat.le_of_not_lt fun hlt => ?_)
    have h5 : 10 ^ (k - 1) ≤ r := by
      rcases Nat.lt_or_ge r (10 ^ (k - 1)) with h | h
      · rw [Nat.div_eq_of_lt h] at h3; omega
      · exact h
    rcases Nat.eq_zero_or_pos (k - 1) with h0 | h0
    · have := dec_length_pos r; omega
    · have := (dec_length_lt h0).1 (show (decDigits r).length ≤ k - 1 by omega); omega
  rw [e1, h4, Nat.sub_self, List.replicate_zero, List.nil_append]
theorem dec_td {n K : Nat} (hl : (td n).length ≤ K) (hK : 0 < K) : (decDigits n).length ≤ 4 * K := by
 refine (dec_length_lt (by omega)).2 ?_
 have := td_length.1 hl
 rwa [show (10000 : Nat) = 10 ^ 4 by rfl, ← Nat.pow_mul] at this
/-- What Text has written behind digit i. -/
def TS (n i : Nat) (T : List UInt8) : Prop := (i < (td n).length ∧ decDigits n = decDigits (n / 10000 ^ i) ++ T) ∨ (i = (td n).length ∧ T = decDigits n)
theorem TS.start {n : Nat} (h : 0 < (td n).length) : TS n 0 [] := .inl ⟨h, by simp⟩
theorem TS.step {n i : Nat} {T : List UInt8} (h : TS n i T) (hl : i < (td n).length) (hi : i + 1 < (td n).length) : TS n (i + 1) (pad 4 ((td n)[i]'hl) ++ T) := by
 rcases h with ⟨h1, h2⟩ | ⟨h1, h2⟩
 ·refine .inl ⟨hi, ?_⟩
  have hd := (td_step h1).2
  have hq := (td_step hi).1
  have e : n / 10000 ^ i = n / 10000 ^ (i + 1) * 10 ^ 4 + (td n)[i] := by
   rw [hd, Nat.pow_succ, ← Nat.div_div_eq_div_mul]
   show _ = _ * 10000 + _
   omega
  have hlt : (td n)[i] < 10 ^ 4 := td_lt n _ (List.getElem_mem _)
  have := dec_mul_add 4 (n / 10000 ^ (i + 1)) ((td n)[i]) (by omega) hlt
  rw [h2, e, this, List.append_assoc]
 ·omega
theorem TS.last {n i : Nat} {T : List UInt8} (h : TS n i T) (hl : i < (td n).length) (hi : i + 1 = (td n).length) : 0 < (td n)[i]'hl ∧ TS n (i + 1) (decDigits ((td n)[i]'hl) ++ T) := by
 rcases h with ⟨h1, h2⟩ | ⟨h1, h2⟩
 ·have hd := td_step h1
  have h0 : n / 10000 ^ (i + 1) = 0 := td_end (by omega)
  have e : n / 10000 ^ i = (td n)[i] := by
   rw [hd.2]
   rw [Nat.pow_succ, ← Nat.div_div_eq_div_mul] at h0
   omega
  refine ⟨by rw [← e]; omega, .inr ⟨hi, ?_⟩⟩
  rw [h2, e]
 ·omega
theorem TS.len {n i : Nat} {T : List UInt8} (h : TS n i T) : T.length ≤ (decDigits n).length := by
 rcases h with ⟨h1, h2⟩ | ⟨h1, h2⟩
 ·rw [h2, List.length_append]; omega
 ·rw [h2]; exact Nat.le_refl _
theorem rtext_any (v : Value) (n : Nat) (hl : (td n).length ≤ 1000000) (w : World) (hv : Rn w v n) :
    Calls Tryz.prog 62 #[v] w fun e w' => e = .returned (.string (txt n)) ∧ Below w.heap.size w w' := by
  obtain ⟨aa, ca, ea, hva⟩ := hv.view
  subst ea
  have hdl := dec_td hl (by omega)
  obtain ⟨L, hL⟩ : ∃ L, L = (td n).length := ⟨_, rfl⟩
  rw [← hL] at hl hva ⊢
  replace hva := Lib.hid hva
  replace hdl := Lib.hid hdl
  clear hv
  rcases Nat.eq_zero_or_pos L with h0 | h0
  · have hz : n = 0 := td_nil.1 (List.eq_nil_of_length_eq_zero (by rw [← hL]; exact h0))
    have ht : txt n = ⟨#[48]⟩ := by
      unfold txt
      rw [hz, dec_small (by omega)]; rfl
    replace ht := Lib.hid ht
    subst h0
    clear hL hz
    go_enter Tryz.func62, Tryz.ntmps62
    go_wp2_with fail
    go_ret
    exact ⟨by rw [ht.out]; rfl, Below.refl _ _⟩
  · obtain ⟨aA, rfl, -, sA⟩ := hva.out h0
    have hTS := Lib.hid (TS.start (n := n) (by rw [← hL]; exact h0))
    have k1 : ((L : Int) == 0) = false := beq_eq_false_iff_ne.2 (by omega)
    have k1' : (L == 0) = false := beq_eq_false_iff_ne.2 (by omega)
    replace hL := Lib.hid hL
    replace sA := Lib.hid sA
    go_enter Tryz.func62, Tryz.ntmps62
    go_wp2_with fail
    go_loopw [3, 4] (fun s j wr => ∃ (i : Nat) (T : List UInt8), s = .string ⟨T.toArray⟩ ∧ j = .int .i64 (i : Int) ∧ i ≤ L ∧ TS n i T ∧ wr = w) (fun _ j _ => L - (intOf j).toNat)
    case atStart => exact ⟨0, [], rfl, rfl, Nat.zero_le _, hTS.out, rfl⟩
    case round =>
      obtain ⟨i, T, rfl, rfl, hi, hT, rfl⟩ := hrel
      rcases Nat.lt_or_ge i L with hin | hin
      · have k2 : (i : Int) < (L : Int) := by omega
        have hib : (i : Int) ≤ 1000000 := by omega
        have iA : i < (td n).length := by have := hL.out; omega
        have hcell := sA.out.cell i iA
        have hTl := hT.len
        have hdl' := hdl.out
        have hst := hT.step iA
        have hla := hT.last iA
        have hD := td_lt n _ (List.getElem_mem iA)
        clear hT
        obtain ⟨D, hDe⟩ : ∃ D, D = (td n)[i] := ⟨_, rfl⟩
        rw [← hDe] at hcell hD hst hla
        replace hst := Lib.hid hst
        replace hla := Lib.hid hla
        replace hDe := Lib.hid hDe
        go_wp2_with fail
        go_loopw [3, 5, 6] (fun s d j wx => ∃ (k : Nat), s = .string ⟨(pad k D ++ T).toArray⟩ ∧ d = .int .i64 ((D / 10 ^ k : Nat) : Int) ∧ j = .int .i64 (k : Int) ∧ k ≤ 4 ∧ (i + 1 = L → k = 0 ∨ 0 < D / 10 ^ (k - 1)) ∧ wx = wr) (fun _ _ j _ => 4 - (intOf j).toNat)
        case atStart => exact ⟨0, by rw [pad]; rfl, by rw [Nat.pow_zero, Nat.div_one], rfl, Nat.zero_le _, fun _ => .inl rfl, rfl⟩
        case round =>
          obtain ⟨k, rfl, rfl, rfl, hk, hlast, rfl⟩ := hrel
          have hTk : (pad k D ++ T).length ≤ 4000004 := by rw [List.length_append, pad_length]; omega
          have hnext : (pad (k + 1) D ++ T) = dch (D / 10 ^ k % 10) :: (pad k D ++ T) := by rw [pad_cons, List.cons_append]
          have hq : D / 10 ^ (k + 1) = D / 10 ^ k / 10 := by rw [Nat.pow_succ, ← Nat.div_div_eq_div_mul]
          obtain ⟨q, hqe⟩ : ∃ q, q = D / 10 ^ k := ⟨_, rfl⟩
          have hqD : q ≤ D := by rw [hqe]; exact Nat.div_le_self _ _
          rw [← hqe] at hnext hq ⊢
          generalize hSe : pad k D ++ T = S at *
          replace hSe := Lib.hid hSe
          replace hnext := Lib.hid hnext
          replace hq := Lib.hid hq
          replace hqe := Lib.hid hqe
          replace hlast := Lib.hid hlast
          have hcase : (k < 4 ∧ i + 1 < L) ∨ (k < 4 ∧ ¬ (i + 1 < L) ∧ 0 < q) ∨ (k < 4 ∧ ¬ (i + 1 < L) ∧ q = 0) ∨ k = 4 := by omega
          have henc := enc_dig q
          obtain ⟨ch, hch⟩ : ∃ ch, ch = dch (q % 10) := ⟨_, rfl⟩
          rw [← hch] at henc hnext
          replace hch := Lib.hid hch
          have hqB : (q : Int) ≤ 10000 := by omega
          have hsz : (⟨S.toArray⟩ : ByteArray).size = S.length := rfl
          rcases hcase with ⟨c1, c2⟩ | ⟨c1, c2, c3⟩ | ⟨c1, c2, c3⟩ | c1
          · have d1 : (k : Int) < 4 := by omega
            have d2 : (i : Int) + 1 < (L : Int) := by omega
            go_wp2_with fail
            go_roundw
            case rel => exact ⟨k + 1, (by rw [ba_cons, hnext.out]), (by rw [hq.out]; first | rfl | go_num), by first | rfl | go_num, by omega, (fun h => by omega), trivial⟩
            case measure => simp [intOf]; omega
          · have d1 : (k : Int) < 4 := by omega
            have d2 : ¬ (i : Int) + 1 < (L : Int) := by omega
            have d3 : (0 : Int) < (q : Int) := by omega
            go_wp2_with fail
            go_roundw
            case rel => exact ⟨k + 1, (by rw [ba_cons, hnext.out]), (by rw [hq.out]; first | rfl | go_num), by first | rfl | go_num, by omega, (fun h => .inr (by rw [Nat.add_sub_cancel, ← hqe.out]; omega)), trivial⟩
            case measure => simp [intOf]; omega
          · have hdone : TS n (i + 1) S := by
              have hl1 := hla.out (by have := hL.out; omega)
              have hp : pad k D = decDigits D := pad_dec (by have h1 := hqe.out; rw [c3] at h1; rcases Nat.lt_or_ge D (10 ^ k) with h | h; · exact h
                                                             · have := (Nat.le_div_iff_mul_le (Nat.pow_pos (n := k) (show 0 < 10 by omega))).2 (show 1 * 10 ^ k ≤ D by omega); omega) (hlast.out (by omega)) hl1.1
              rw [← hSe.out, hp]
              exact hl1.2
            replace hdone := Lib.hid hdone
            subst c3
            have d1 : (k : Int) < 4 := by omega
            have d2 : ¬ (i : Int) + 1 < (L : Int) := by omega
            go_wp2_with fail
            go_roundw
            case rel => exact ⟨i + 1, S, rfl, by first | rfl | go_num, by omega, hdone.out, by trivial⟩
            case measure => simp [intOf]; omega
          · have hdone : TS n (i + 1) S := by
              subst c1
              by_cases h : i + 1 < L
              · rw [← hSe.out]; exact hst.out (by have := hL.out; omega)
              · have hl1 := hla.out (by have := hL.out; omega)
                have hp : pad 4 D = decDigits D := pad_dec hD (hlast.out (by omega)) hl1.1
                rw [← hSe.out, hp]
                exact hl1.2
            replace hdone := Lib.hid hdone
            subst c1
            go_wp2_with fail
            go_roundw
            case rel => exact ⟨i + 1, S, rfl, by first | rfl | go_num, by omega, hdone.out, by trivial⟩
            case measure => simp [intOf]; omega
      · have k2 : ¬ (i : Int) < (L : Int) := by omega
        have hTe : T = decDigits n := by
          rcases hT with ⟨h1, h2⟩ | ⟨h1, h2⟩
          · have := hL.out; omega
          · exact h2
        have ht : txt n = ⟨T.toArray⟩ := by rw [hTe]; rfl
        replace ht := Lib.hid ht
        clear hT hTe
        go_wp2_with fail
        go_ret
        exact ⟨by rw [ht.out]; rfl, Below.refl _ _⟩
end Go.Proofs.YtahfcciihkkegaaGreatDoor.Rx
namespace Go.Proofs.YtahfcciihkkegaaGreatDoor.Rx
open Go.RowKit
attribute [local irreducible] lo hs tv dg cmpI txt decB
end Go.Proofs.YtahfcciihkkegaaGreatDoor.Rx
namespace Go.Proofs.YtahfcciihkkegaaGreatDoor.Rx
open Go.RowKit
attribute [local irreducible] tv dg cmpI txt decB
/-- What is appended, chunk by chunk. -/
structure PS (l : List UInt8) (S : List Nat) (t e : Nat) : Prop where
 len : S.length = t
 lt : ∀ d ∈ S, d < 10000
 pos : e = l.length - 4 * t
 eq : tv S + 10000 ^ t * dval (l.take e) = dval l
theorem PS.step {l : List UInt8} {S : List Nat} {t e : Nat} (h : PS l S t e) (hd : ∀ c ∈ l, isDig c) (he : 0 < e) :
  dval ((l.drop (e - 4)).take (e - (e - 4))) < 10000 ∧ PS l (S ++ [dval ((l.drop (e - 4)).take (e - (e - 4)))]) (t + 1) (e - 4) := by
 have hle : e ≤ l.length := by have := h.pos; omega
 have hch : ((l.drop (e - 4)).take (e - (e - 4))).length = e - (e - 4) := by rw [List.length_take, List.length_drop]; omega
 have hlt : dval ((l.drop (e - 4)).take (e - (e - 4))) < 10000 := by
  have h1 := dval_lt (l := (l.drop (e - 4)).take (e - (e - 4))) fun c hc => hd c (List.mem_of_mem_drop (List.mem_of_mem_take hc))
  rw [hch] at h1
  exact Nat.lt_of_lt_of_le h1 (Nat.le_trans (Nat.pow_le_pow_right (by omega) (show e - (e - 4) ≤ 4 by omega)) (by decide))
 refine ⟨hlt, by rw [List.length_append, h.len]; rfl, fun d hx => ?_, by have := h.pos; omega, ?_⟩
 ·rcases List.mem_append.1 hx with hx | hx
  ·exact h.lt d hx
  ·rw [List.mem_singleton.1 hx]; exact hlt
 ·have e1 : l.take e = l.take (e - 4) ++ (l.drop (e - 4)).take (e - (e - 4)) := by
   have := List.take_add (l := l) (i := e - 4) (j := e - (e - 4))
   rw [show e - 4 + (e - (e - 4)) = e by omega] at this
   exact this
  have e2 := h.eq
  rw [e1, dval_append, hch] at e2
  rw [tv_snoc, h.len, Nat.pow_succ]
  generalize dval ((l.drop (e - 4)).take (e - (e - 4))) = d at *
  rcases Nat.lt_or_ge e 4 with h4 | h4
  ·have h0 : dval (l.take (e - 4)) = 0 := by rw [show e - 4 = 0 by omega, List.take_zero, dval_nil]
   rw [h0, Nat.zero_mul, Nat.zero_add] at e2
   rw [h0, Nat.mul_zero]; omega
  ·rw [show e - (e - 4) = 4 by omega] at e2
   rw [Nat.mul_add, Nat.mul_comm (dval _) (10 ^ 4), ← Nat.mul_assoc, show (10 : Nat) ^ 4 = 10000 by rfl] at e2
   omega
theorem PS.start (l : List UInt8) : PS l [] 0 l.length := ⟨rfl, (fun d hd => by cases hd), by omega, by rw [tv_nil, List.take_length]; simp⟩
end Go.Proofs.YtahfcciihkkegaaGreatDoor.Rx
namespace Go.Proofs.YtahfcciihkkegaaGreatDoor
open Go.RowKit Go.Proofs.YtahfcciihkkegaaGreatDoor.Rx
attribute [local irreducible] lo hs sm s64 c64 d64 b64 mh ml pd pc qd qc val hiB str cmpI srD lz nb isq decB dval
theorem sl_upd {w w' : World} {k : Nat} {c : List Value} {v : Value} {l : List Nat} (h : Sl w v l) (hu : Upd k w w') (hd : Hd w k c) (hc : ∀ v ∈ c, ∀ n, v ≠ .int .i64 n) : Sl w' v l := by
 rcases h with h | ⟨a, c1, h1, h2, h3⟩
 ·exact .inl h
 ·refine .inr ⟨a, c1, h1, h2, fun i hi => ?_, by rw [hu.size]; exact h3.blk⟩
  have hx := h3.cell i hi
  exact (World.cell?_of_block (w := w) (hu.block _ (hd.no_int hc hx))).trans hx
theorem rfrom_false (a : Option Addr) (n c : Nat)  (w : World) :
  Calls Tryz.prog 117 #[.bool false, .slice a n c] w fun e w' => e = .returned (.agg #[.bool false, .slice a n c]) ∧ Below w.heap.size w w' := by
 have hL0 : GL w w [] := GL.start w
 obtain ⟨x1, hweq, hL0⟩ := GL.named (hL0.new rfl [.bool false, .slice none 0 0] 44)
 go_enter Tryz.func117, Tryz.ntmps117
 have hA := hL0.fc
 simp only [zF, Nat.reduceAdd] at hA
 obtain ⟨x2, hput1, hP⟩ := GL.named (hL0.put 0 (w.heap.size) _ rfl [.bool false, .slice a n c] rfl)
 simp only [setAll] at hput1
 simp only [List.set_cons_zero, List.set_cons_succ] at hP
 have hB1 := hP.fc
 simp only [zF, Nat.reduceAdd] at hB1
 replace hL0 := hP
 go_wp2_with fail
 exact bodyPost_ret (v := .agg #[.bool false, .slice a n c]) (by simp [results, Tryz.results117, go_sem, hB1]) rfl ⟨rfl, hL0.bl⟩
theorem rfrom_zero (a : Option Addr) (n c : Nat) (h : n = 0) (w : World) :
  Calls Tryz.prog 117 #[.bool true, .slice a n c] w fun e w' => e = .returned (.agg #[.bool false, .slice a n c]) ∧ Below w.heap.size w w' := by
 have hL0 : GL w w [] := GL.start w
 subst h
 obtain ⟨x1, hweq, hL0⟩ := GL.named (hL0.new rfl [.bool false, .slice none 0 0] 44)
 go_enter Tryz.func117, Tryz.ntmps117
 have hA := hL0.fc
 simp only [zF, Nat.reduceAdd] at hA
 obtain ⟨x2, hput1, hP⟩ := GL.named (hL0.put 0 (w.heap.size) _ rfl [.bool false, .slice a 0 c] rfl)
 simp only [setAll] at hput1
 simp only [List.set_cons_zero, List.set_cons_succ] at hP
 have hB1 := hP.fc
 simp only [zF, Nat.reduceAdd] at hB1
 replace hL0 := hP
 go_wp2_with fail
 exact bodyPost_ret (v := .agg #[.bool false, .slice a 0 c]) (by simp [results, Tryz.results117, go_sem, hB1]) rfl ⟨rfl, hL0.bl⟩
theorem rfrom_true (a : Option Addr) (n c : Nat) (h : 0 < n) (w : World) :
  Calls Tryz.prog 117 #[.bool true, .slice a n c] w fun e w' => e = .returned (.agg #[.bool true, .slice a n c]) ∧ Below w.heap.size w w' := by
 have hL0 : GL w w [] := GL.start w
 have f1 : decide ((0 : Int) < (n : Int)) = true := decide_eq_true (by omega)
 have f2 : decide (0 < n) = true := decide_eq_true h
 clear h
 obtain ⟨x1, hweq, hL0⟩ := GL.named (hL0.new rfl [.bool false, .slice none 0 0] 44)
 go_enter Tryz.func117, Tryz.ntmps117
 have hA := hL0.fc
 simp only [zF, Nat.reduceAdd] at hA
 obtain ⟨x2, hput1, hP⟩ := GL.named (hL0.put 0 (w.heap.size) _ rfl [.bool true, .slice a n c] rfl)
 simp only [setAll] at hput1
 simp only [List.set_cons_zero, List.set_cons_succ] at hP
 have hB1 := hP.fc
 simp only [zF, Nat.reduceAdd] at hB1
 replace hL0 := hP
 go_wp2_with fail
 exact bodyPost_ret (v := .agg #[.bool true, .slice a n c]) (by simp [results, Tryz.results117, go_sem, hB1]) rfl ⟨rfl, hL0.bl⟩
theorem td_len_zero (n : Nat) : (td n).length = 0 ↔ n = 0 := by
 constructor
 ·intro h
  have h1 := tv_td n
  rw [List.length_eq_zero_iff.1 h] at h1
  exact h1.symm
 ·rintro rfl; rw [td_zero]; rfl
theorem rfrom_any (s : Bool) (v : Value) (n : Nat) (w : World) (hv : Rn w v n) : Calls Tryz.prog 117 #[.bool s, v] w fun e w' => e = .returned (.agg #[.bool (s && decide (n ≠ 0)), v]) ∧ Below w.heap.size w w' := by
 obtain ⟨ao, c, rfl⟩ := hv.form
 have hz : (td n).length = 0 ↔ n = 0 := td_len_zero n
 cases s with
 | false => exact rfrom_false ao _ c w
 | true =>
  by_cases h : n = 0
  ·rw [Bool.true_and, decide_eq_false (by simpa using h)]; exact rfrom_zero ao _ c (hz.2 h) w
  ·rw [Bool.true_and, decide_eq_true h]; exact rfrom_true ao _ c (by omega) w
theorem rztext_false (v : Value) (n : Nat) (hl : (td n).length ≤ 1000000) (w : World) (hv : Rn w v n) :
  Calls Tryz.prog 124 #[.agg #[.bool false, v]] w fun e w' => e = .returned (.string (txt n)) ∧ Below w.heap.size w w' := by
 have hL0 : GL w w [] := GL.start w
 have HT := Lib.hid (fun w h => rtext_any v n hl w h)
 obtain ⟨ao, c, rfl⟩ := hv.form
 generalize hlen : (td n).length = k at *
 replace hlen := Lib.hid hlen
 clear hl
 generalize txt n = t at *
 obtain ⟨x1, hweq, hL0⟩ := GL.named (hL0.new rfl [.bool false, .slice ao k c] 44)
 replace hv := Lib.hid (hv.below hL0.bl)
 go_enter Tryz.func124, Tryz.ntmps124
 have hA := hL0.fc
 simp only [zF, Nat.reduceAdd] at hA
 go_wp2_with fail
 clear hA
 with_reducible refine Calls.mono (HT.out _ hv.out) ?_
 rintro e x2 ⟨rfl, hb⟩
 replace hL0 := hL0.call hb
 clear hb hweq
 have hA := hL0.fc
 simp only [zF, Nat.reduceAdd] at hA
 go_wp2_with fail
 exact bodyPost_ret (v := .string t) (by simp [results, Tryz.results124, go_sem, hA]) rfl ⟨rfl, hL0.bl⟩
theorem rztext_true (v : Value) (n : Nat) (hl : (td n).length ≤ 1000000) (w : World) (hv : Rn w v n) :
  Calls Tryz.prog 124 #[.agg #[.bool true, v]] w fun e w' => e = .returned (.string (ByteArray.mk #[45] ++ txt n)) ∧ Below w.heap.size w w' := by
 have hL0 : GL w w [] := GL.start w
 have HT := Lib.hid (fun w h => rtext_any v n hl w h)
 obtain ⟨ao, c, rfl⟩ := hv.form
 have hts : ((txt n).size : Int) ≤ 4000000 := by have := (dec_td hl (by omega)); show ((Lib.decDigits n).length : Int) ≤ _; omega
 generalize hlen : (td n).length = k at *
 replace hlen := Lib.hid hlen
 clear hl
 generalize txt n = t at *
 obtain ⟨x1, hweq, hL0⟩ := GL.named (hL0.new rfl [.bool true, .slice ao k c] 44)
 replace hv := Lib.hid (hv.below hL0.bl)
 go_enter Tryz.func124, Tryz.ntmps124
 have hA := hL0.fc
 simp only [zF, Nat.reduceAdd] at hA
 go_wp2_with fail
 clear hA
 with_reducible refine Calls.mono (HT.out _ hv.out) ?_
 rintro e x2 ⟨rfl, hb⟩
 replace hL0 := hL0.call hb
 clear hb hweq
 have hA := hL0.fc
 simp only [zF, Nat.reduceAdd] at hA
 go_wp2_with fail
 exact bodyPost_ret (v := .string (ByteArray.mk #[45] ++ t)) (by simp [results, Tryz.results124, go_sem, hA]) rfl ⟨rfl, hL0.bl⟩
end Go.Proofs.YtahfcciihkkegaaGreatDoor
namespace Go.Proofs.YtahfcciihkkegaaGreatDoor
open Go.RowKit
section
variable {P : Program} {ops : Array Oper} {C : World → Prop}
/-- What an operation does: its value has the property in the world that it leaves. -/
def tyUpon (P : Program) (w : World) (T : Value → World → Prop) : Result Next → Prop
 | .ok (.value u) w' => Below w.heap.size w w' ∧ T u w'
 | .ok .skip w' => Below w.heap.size w w' ∧ T undef w'
 | .ok (.enter f args) w' => w' = w ∧ Calls P f args w (fun e w'' => ∃ u, e = .returned u ∧ T u w'' ∧ Below w.heap.size w w'')
 | _ => False
def TyAt (P : Program) (ops : Array Oper) (o : Oper) (a : Act) (w : World) (T : Value → World → Prop) : Prop :=
 if Region.wanted o (yielded ops a.tmps) then tyUpon P w T ((execOp a.eval o).run P w) else T undef w
theorem tyAt_none {o : Oper} {a : Act} {w : World} {T : Value → World → Prop} (hg : o.guard = none) (h : tyUpon P w T ((execOp a.eval o).run P w)) : TyAt P ops o a w T := by
 unfold TyAt
 rw [if_pos (by unfold Region.wanted; rw [hg])]
 exact h
/-- A call whose contract gives the property. -/
theorem ty_call {o : Oper} {a : Act} {w : World} {T : Value → World → Prop} {f : FuncId} {args : Array Value} (hr : (execOp a.eval o).run P w = .ok (.enter f args) w) (h : Calls P f args w fun e w'' => ∃ u, e = .returned u ∧ T u w'' ∧ Below w.heap.size w w'') : tyUpon P w T ((execOp a.eval o).run P w) := by
 rw [hr]; exact ⟨rfl, h⟩
/-- The frame with the values of the operations that have come up. -/
def putsIf : List Oper → Nat → (Nat → Bool) → (Nat → Value) → Act → Act
 | [], _, _, _, a => a
 | o :: l, k, b, v, a => putsIf l (k + 1) b v (if b k then a.put o.dst (v k) else a)
def putsV : List Oper → Nat → (Nat → Value) → Act → Act
 | [], _, _, a => a
 | o :: l, k, v, a => putsV l (k + 1) v (a.put o.dst (v k))
theorem putsIf_all {v : Nat → Value} {b : Nat → Bool} : ∀ (l : List Oper) (k : Nat) (a : Act), (∀ i, k ≤ i → i < k + l.length → b i = true) → putsIf l k b v a = putsV l k v a
 | [], _, _, _ => rfl
 | o :: l, k, a, h => by
  rw [putsIf, putsV, if_pos (h k (Nat.le_refl k) (by rw [List.length_cons]; omega))]
  exact putsIf_all l (k + 1) _ fun i h1 h2 => h i (by omega) (by rw [List.length_cons]; omega)
theorem putsIf_none {v : Nat → Value} {b : Nat → Bool} : ∀ (l : List Oper) (k : Nat) (a : Act), (∀ i, k ≤ i → i < k + l.length → b i = false) → putsIf l k b v a = a
 | [], _, _, _ => rfl
 | o :: l, k, a, h => by
  rw [putsIf, if_neg (by rw [h k (Nat.le_refl k) (by rw [List.length_cons]; omega)]; exact Bool.false_ne_true)]
  exact putsIf_none l (k + 1) _ fun i h1 h2 => h i (by omega) (by rw [List.length_cons]; omega)
theorem putsIf_congr {v v' : Nat → Value} {b b' : Nat → Bool} : ∀ (l : List Oper) (k : Nat) (a : Act), (∀ i, k ≤ i → i < k + l.length → b i = b' i ∧ (b i = true → v i = v' i)) → putsIf l k b v a = putsIf l k b' v' a
 | [], _, _, _ => rfl
 | o :: l, k, a, h => by
  obtain ⟨h1, h2⟩ := h k (Nat.le_refl k) (by rw [List.length_cons]; omega)
  rw [putsIf, putsIf]
  have e : (if b k = true then a.put o.dst (v k) else a) = (if b' k = true then a.put o.dst (v' k) else a) := by
   rw [← h1]
   by_cases hb : b k = true
   ·rw [if_pos hb, if_pos hb, h2 hb]
   ·rw [if_neg hb, if_neg hb]
  rw [e]
  exact putsIf_congr l (k + 1) _ fun i h1 h2 => h i (by omega) (by rw [List.length_cons]; omega)
/-- No two of them write one slot. -/
def apartD (d : Option Tmp) (l : List Oper) : Bool := l.all fun o => match d, o.dst with
 | some x, some y => !(x == y)
 | _, _ => true
def nodupD : List Oper → Bool
 | [] => true
 | o :: l => apartD o.dst l && nodupD l
theorem apartD_spec {d : Option Tmp} {l : List Oper} (h : apartD d l = true) {o : Oper} (ho : o ∈ l) {x : Tmp} (hx : d = some x) : o.dst ≠ some x := by
 intro e
 have := (List.all_eq_true.1 h) o ho
 subst hx
 simp only [e] at this
 simp at this
theorem put_late {v : Nat → Value} {b : Nat → Bool} {d : Option Tmp} {u : Value} : ∀ (l : List Oper) (k : Nat) (a : Act), apartD d l = true → putsIf l k b v (a.put d u) = (putsIf l k b v a).put d u
 | [], _, _, _ => rfl
 | o :: l, k, a, h => by
  have h0 := h
  simp only [apartD, List.all_cons, Bool.and_eq_true] at h
  rw [putsIf, putsIf]
  by_cases hb : b k = true
  ·rw [if_pos hb, if_pos hb]
   have : (a.put d u).put o.dst (v k) = (a.put o.dst (v k)).put d u := by
    cases d with
    | none => rfl
    | some x =>
     cases ho : o.dst with
     | none => rfl
     | some y =>
      have hne : y ≠ x := fun e => apartD_spec h0 List.mem_cons_self rfl (by rw [ho, e])
      exact Act.put_comm a u (v k) (fun d hd e => hne (Option.some.inj (e.trans hd.symm)))
   rw [this]
   exact put_late l (k + 1) _ h.2
  ·rw [if_neg hb, if_neg hb]; exact put_late l (k + 1) _ h.2
theorem put_at {v v' : Nat → Value} {b b' : Nat → Bool} {j : Nat} {u : Value} (hb : b j = false) (hb' : b' j = true) (hv : v' j = u) (hbb : ∀ i, i ≠ j → b' i = b i ∧ v' i = v i) :
  ∀ (l : List Oper) (k : Nat) (a : Act) (o : Oper), nodupD l = true → k ≤ j → l[j - k]? = some o → (putsIf l k b v a).put o.dst u = putsIf l k b' v' a
 | [], _, _, _, _, _, h => by simp at h
 | o1 :: l, k, a, o, hn, hk, h => by
  simp only [nodupD, Bool.and_eq_true] at hn
  rw [putsIf, putsIf]
  by_cases e : j = k
  ·subst e
   simp only [Nat.sub_self, List.getElem?_cons_zero, Option.some.injEq] at h
   subst h
   rw [if_neg (by rw [hb]; exact Bool.false_ne_true), if_pos hb', hv, ← put_late l (j + 1) a hn.1]
   exact putsIf_congr l (j + 1) _ fun i h1 h2 => ⟨(hbb i (by omega)).1.symm, fun _ => (hbb i (by omega)).2.symm⟩
  ·have hk' : k + 1 ≤ j := by omega
   rw [show j - k = (j - (k + 1)) + 1 by omega, List.getElem?_cons_succ] at h
   obtain ⟨h1, h2⟩ := hbb k (fun e' => e e'.symm)
   rw [h1, h2]
   exact put_at hb hb' hv hbb l (k + 1) _ o hn.2 hk' h
theorem put_get (a : Act) (d : Option Tmp) (u : Value) (t : Nat) : (a.put d u).tmps[t]? = if d = some t then (if t < a.tmps.size then some u else none) else a.tmps[t]? := by
 cases d with
 | none => simp [Act.put]
 | some x =>
  simp only [Act.put, Array.getElem?_setIfInBounds, Option.some.injEq]
  by_cases h : x = t
  ·subst h; simp
  ·simp [h]
theorem get_puts {v : Nat → Value} {b : Nat → Bool} {t : Nat} : ∀ (l : List Oper) (k : Nat) (a a' : Act), a.tmps[t]? = a'.tmps[t]? → (∀ i o, l[i]? = some o → o.dst = some t → b (k + i) = true) → (putsIf l k b v a).tmps[t]? = (putsV l k v a').tmps[t]?
 | [], _, _, _, h, _ => h
 | o :: l, k, a, a', h, hd => by
  rw [putsIf, putsV]
  refine get_puts l (k + 1) _ _ ?_ fun i o' ho' hd' => by have := hd (i + 1) o' (by simpa using ho') hd'; rwa [show k + (i + 1) = k + 1 + i by omega] at this
  have hsz : t < a.tmps.size ↔ t < a'.tmps.size := by
   constructor <;> intro h1
   ·rw [Array.getElem?_eq_getElem h1] at h; exact (Array.getElem?_eq_some_iff.1 h.symm).1
   ·rw [Array.getElem?_eq_getElem h1] at h; exact (Array.getElem?_eq_some_iff.1 h).1
  by_cases e : o.dst = some t
  ·have hb := hd 0 o (by simp) e
   rw [Nat.add_zero] at hb
   rw [if_pos hb, put_get, put_get, if_pos e, if_pos e]
   by_cases h2 : t < a.tmps.size
   ·rw [if_pos h2, if_pos (hsz.1 h2)]
   ·rw [if_neg h2, if_neg fun h3 => h2 (hsz.2 h3)]
  ·by_cases hb : b k = true
   ·rw [if_pos hb, put_get, put_get, if_neg e, if_neg e]; exact h
   ·rw [if_neg hb, put_get, if_neg e]; exact h
theorem wanted_same {a a' : Act} {o : Oper} (h : ∀ t ∈ o.looksAt ops, a.tmps[t]? = a'.tmps[t]?) : Region.wanted o (yielded ops a.tmps) = Region.wanted o (yielded ops a'.tmps) := by
 unfold Region.wanted
 cases hg : o.guard with
 | none => rfl
 | some gw =>
  obtain ⟨gg, want⟩ := gw
  have hy : yielded ops a.tmps gg = yielded ops a'.tmps gg := by
   unfold yielded
   cases ht : (ops[gg]?).bind (·.dst) with
   | none => rfl
   | some t =>
    have := h t (List.mem_append_right _ (by simp [hg, ht]))
    simp [this]
  simp only [hy]
theorem exec_same {a a' : Act} {o : Oper} (hs : ∀ cs b, o.op ≠ .select cs b) (h : ∀ t ∈ o.looksAt ops, a.tmps[t]? = a'.tmps[t]?) : execOp a.eval o = execOp a'.eval o :=
 execOp_congr o hs fun x hx => by
  cases x with
  | tmp t =>
   have ht : t ∈ o.looksAt ops := List.mem_append_left _ (List.mem_filterMap.2 ⟨_, by simpa using hx, rfl⟩)
   simp only [Act.eval, Array.getD_eq_getD_getElem?, h t ht]
  | _ => rfl
/-- Each of the first n waits for earlier ones alone, and for each of them that writes a slot that it looks at. -/
def depB (ops : Array Oper) (n : Nat) : Bool :=
 (List.range n).all fun j => (predsOf .any ops j).all (fun i => decide (i < j)) && match ops[j]? with
  | some o => (o.looksAt ops).all fun t => (List.range n).all fun i => match (ops[i]?).bind (·.dst) with
    | some d => !(d == t) || (predsOf .any ops j).contains i
    | none => true
  | none => true
theorem depB_pred {n j i : Nat} (h : depB ops n = true) (hj : j < n) (hi : i ∈ predsOf .any ops j) : i < j := by
 simp only [depB, List.all_eq_true, List.mem_range, Bool.and_eq_true, decide_eq_true_eq] at h
 exact (h j hj).1 i hi
theorem depB_looks {n j i : Nat} (h : depB ops n = true) (hj : j < n) (hi : i < n) {o o' : Oper} (ho : ops[j]? = some o) (ho' : ops[i]? = some o') {t : Tmp} (ht : t ∈ o.looksAt ops) (hd : o'.dst = some t) : i ∈ predsOf .any ops j := by
 simp only [depB, List.all_eq_true, List.mem_range, Bool.and_eq_true, decide_eq_true_eq] at h
 have h1 := (h j hj).2
 rw [ho] at h1
 simp only [List.all_eq_true, List.mem_range] at h1
 have h2 := h1 t ht i hi
 rw [ho'] at h2
 simp only [Option.bind_some, hd, beq_self_eq_true, Bool.not_true, Bool.false_or] at h2
 exact List.contains_iff_mem.1 h2
/-- A property that later worlds keep. -/
def Stays (T : Value → World → Prop) : Prop := ∀ v w w', Below w.heap.size w w' → T v w → T v w'
/-- How many of the first n have not come up. -/
def left (n : Nat) (listed : Array Bool) : Nat := (List.range n).countP fun i => !listed.getD i false
theorem left_zero {n : Nat} {listed : Array Bool} (h : left n listed = 0) : doneN n listed = true := by
 refine doneN_iff.2 fun i hi => ?_
 have := (List.countP_eq_zero.1 h) i (List.mem_range.2 hi)
 simpa using this
theorem left_some {n m : Nat} {listed : Array Bool} (h : left n listed = m + 1) : doneN n listed = false := by
 refine Bool.eq_false_iff.2 fun hd => ?_
 have : left n listed = 0 := List.countP_eq_zero.2 fun i hi => by simp [doneN_iff.1 hd i (List.mem_range.1 hi)]
 omega
theorem countP_drop {p q : Nat → Bool} {j : Nat} (hpq : ∀ i, i ≠ j → q i = p i) (hp : p j = true) (hq : q j = false) : ∀ (r : List Nat), r.Nodup → j ∈ r → r.countP p = r.countP q + 1
 | [], _, h => by cases h
 | x :: r, hn, h => by
  rw [List.nodup_cons] at hn
  rcases List.mem_cons.1 h with rfl | h
  ·rw [List.countP_cons_of_pos hp, List.countP_cons_of_neg (by rw [hq]; exact Bool.false_ne_true)]
   congr 1
   refine List.countP_congr fun i hi => ?_
   rw [hpq i (fun e => hn.1 (e ▸ hi))]
  ·have hx : x ≠ j := fun e => hn.1 (e ▸ h)
   have ih := countP_drop hpq hp hq r hn.2 h
   by_cases hpx : p x = true
   ·rw [List.countP_cons_of_pos hpx, List.countP_cons_of_pos (by rw [hpq x hx]; exact hpx), ih]
   ·rw [List.countP_cons_of_neg hpx, List.countP_cons_of_neg (by rw [hpq x hx]; exact hpx), ih]
theorem left_set {n j m : Nat} {listed : Array Bool} (hs : listed.size = ops.size) (hj : j < n) (hjs : j < ops.size) (hu : listed.getD j false = false) (h : left n listed = m + 1) : left n (listed.setIfInBounds j true) = m := by
 have := countP_drop (p := fun i => !listed.getD i false) (q := fun i => !(listed.setIfInBounds j true).getD i false) (j := j) (fun i hi => by simp only [getD_set_ne false (fun e => hi e.symm)]) (by simp [hu]) (by simp [hs, hjs]) (List.range n) List.nodup_range (List.mem_range.2 hj)
 unfold left at h ⊢
 omega
theorem ready_some {n m : Nat} {listed : Array Bool} (hs : listed.size = ops.size) (hn : n ≤ ops.size) (hD : depB ops n = true) (h : left n listed = m + 1) : Region.ready .any ops listed ≠ [] := by
  have hnd := left_some h
  have ex : ∃ i, i < n ∧ listed.getD i false = false := Classical.byContradiction fun hc => by
    have : doneN n listed = true := doneN_iff.2 fun i hi => by
      cases hv : listed.getD i false with
      | true => rfl
      | false => exact absurd ⟨i, hi, hv⟩ hc
    rw [this] at hnd; cases hnd
  have key : ∀ k i, i ≤ k → i < n → listed.getD i false = false → ∃ i, i ∈ Region.ready .any ops listed := by
    intro k
    induction k with
    | zero =>
      intro i hi h1 h2
      obtain rfl : i = 0 := by omega
      have ho : 0 < ops.size := by omega
      refine ⟨0, mem_ready.2 ⟨by have h3 : 0 < listed.size := by omega
                                 simpa [h3] using h2, ops[0], Array.getElem?_eq_getElem ho, fun e he hb => ?_⟩⟩
      have : e.on ∈ predsOf .any ops 0 := by
        unfold predsOf; rw [Array.getElem?_eq_getElem ho]
        exact List.mem_map.2 ⟨e, List.mem_filter.2 ⟨by simpa using he, hb⟩, rfl⟩
      have := depB_pred hD h1 this
      omega
    | succ k ih =>
      intro i hi h1 h2
      have ho : i < ops.size := by omega
      by_cases hall : ∀ p ∈ predsOf .any ops i, listed.getD p false = true
      · refine ⟨i, mem_ready.2 ⟨by have h3 : i < listed.size := by omega
                                   simpa [h3] using h2, ops[i], Array.getElem?_eq_getElem ho, fun e he hb => hall _ ?_⟩⟩
        unfold predsOf; rw [Array.getElem?_eq_getElem ho]
        exact List.mem_map.2 ⟨e, List.mem_filter.2 ⟨by simpa using he, hb⟩, rfl⟩
      · have : ∃ p, p ∈ predsOf .any ops i ∧ listed.getD p false = false := Classical.byContradiction fun hc => hall fun p hp => by
          cases hv : listed.getD p false with
          | true => rfl
          | false => exact absurd ⟨p, hp, hv⟩ hc
        obtain ⟨p, hp, hv⟩ := this
        have := depB_pred hD h1 hp
        exact ih p (by omega) (by omega) hv
  obtain ⟨i, h1, h2⟩ := ex
  obtain ⟨i, hi⟩ := key i i (Nat.le_refl _) h1 h2
  exact List.ne_nil_of_mem hi
theorem preds_of_ready {j : Nat} {listed : Array Bool} (hj : j ∈ Region.ready .any ops listed) : ∀ p ∈ predsOf .any ops j, listed.getD p false = true := by
 obtain ⟨-, o, ho, hall⟩ := mem_ready.1 hj
 intro p hp
 unfold predsOf at hp
 simp only [ho, List.mem_map, List.mem_filter] at hp
 obtain ⟨e, ⟨he, hb⟩, rfl⟩ := hp
 exact hall e (by simpa using he) hb
theorem wpAny_ty {n s : Nat} {l : List Oper} {T : Nat → Value → World → Prop} {w0 : World} {a0 : Act} {Q : Exit → Act → World → Prop} (hT : ∀ i, Stays (T i)) (hsel : Region.noSelect l.toArray = true) (hn : n ≤ l.length)
  (hB : barB .any l.toArray n = true) (hN : nodupD (l.take n) = true) (hD : depB l.toArray n = true)
  (hops : ∀ j o, j < n → l[j]? = some o → ∀ v w, Below w0.heap.size w0 w → (∀ p ∈ predsOf .any l.toArray j, T p (v p) w) → TyAt P l.toArray o (putsV (l.take n) 0 v a0) w (T j))
  (hend : ∀ v w, Below w0.heap.size w0 w → (∀ i, i < n → T i (v i) w) → wpAny P .any l.toArray Q s (canonL l.length n) (putsV (l.take n) 0 v a0) w) :
  ∀ (m : Nat) (listed : Array Bool) (v : Nat → Value) (w : World), left n listed = m → closedL .any l.toArray listed → sufL n l.toArray listed → Below w0.heap.size w0 w →
   (∀ i, i < n → listed.getD i false = true → T i (v i) w) → wpAny P .any l.toArray Q (s + m) listed (putsIf (l.take n) 0 (fun i => listed.getD i false) v a0) w := by
 intro m
 have hlen : (l.take n).length = n := by rw [List.length_take]; omega
 induction m with
 | zero =>
  intro listed v w hl hc hu hb ht
  have hd := left_zero hl
  rw [putsIf_all (l.take n) 0 a0 fun i _ h2 => doneN_iff.1 hd i (by omega)]
  have e := canon_of hu hd
  rw [show l.toArray.size = l.length by simp] at e
  rw [e]
  exact hend v w hb fun i hi => ht i hi (doneN_iff.1 hd i hi)
 | succ m ih =>
  intro listed v w hl hc hu hb ht
  have hnd := left_some hl
  refine ⟨fun h0 => absurd h0 (ready_some hu.1 (by simpa using hn) hD hl), fun j hj => ?_⟩
  have hjn := bar hB hc hj hnd
  obtain ⟨hju, o, ho, -⟩ := mem_ready.1 hj
  have hpre := preds_of_ready hj
  have hol : l[j]? = some o := by simpa using ho
  have hjs : j < l.toArray.size := (Array.getElem?_eq_some_iff.1 ho).1
  have hty := hops j o hjn hol v w hb fun p hp => ht p (by have := depB_pred hD hjn hp; omega) (hpre p hp)
  have hag : ∀ t ∈ o.looksAt l.toArray, (putsIf (l.take n) 0 (fun i => listed.getD i false) v a0).tmps[t]? = (putsV (l.take n) 0 v a0).tmps[t]? := fun t ht' =>
   get_puts (l.take n) 0 a0 a0 rfl fun i o' ho' hd' => by
    have hin : i < n := by rw [← hlen]; exact (List.getElem?_eq_some_iff.1 ho').1
    have ho2 : l.toArray[i]? = some o' := by rw [List.getElem?_take, if_pos hin] at ho'; simpa using ho'
    rw [Nat.zero_add]
    exact hpre i (depB_looks hD hjn hin ho ho2 ht' hd')
  have step : ∀ u w', Below w.heap.size w w' → T j u w' → wpAny P .any l.toArray Q (s + m) (listed.setIfInBounds j true) ((putsIf (l.take n) 0 (fun i => listed.getD i false) v a0).put o.dst u) w' := by
   intro u w' hw' hu'
   have e := put_at (v := v) (v' := fun i => if i = j then u else v i) (b := fun i => listed.getD i false) (b' := fun i => (listed.setIfInBounds j true).getD i false) (j := j) (u := u) (unl hju) (by simp [hu.1]; simpa using hjs) (by simp)
    (fun i hi => ⟨getD_set_ne false fun e => hi e.symm, by simp [hi]⟩) (l.take n) 0 a0 o hN (Nat.zero_le _) (by rw [Nat.sub_zero, List.getElem?_take, if_pos hjn]; exact hol)
   rw [e]
   refine ih _ _ w' (left_set (ops := l.toArray) hu.1 hjn hjs (unl hju) hl) (hc.set hj) ⟨by simpa using hu.1, fun k hk hks => by rw [getD_set_ne true (by omega)]; exact hu.2 k hk hks⟩ (hb.trans (hw'.mono hb.size)) fun i hi hli => ?_
   by_cases e : i = j
   ·subst e; simpa using hu'
   ·rw [getD_set_ne false fun e' => e e'.symm] at hli
    simp only [if_neg e]
    exact hT i _ _ _ hw' (ht i hi hli)
  unfold wpOp
  simp only [ho]
  unfold TyAt at hty
  rw [← wanted_same hag] at hty
  by_cases hw : Region.wanted o (yielded l.toArray (putsIf (l.take n) 0 (fun i => listed.getD i false) v a0).tmps) = true
  ·simp only [hw, if_true] at hty ⊢
   refine .inl ?_
   unfold Oper.wp
   rw [exec_same (fun cs b => Region.noSelect_spec hsel j o cs b ho) hag]
   generalize (execOp (putsV (l.take n) 0 v a0).eval o).run P w = r at *
   cases r with
   | ok nx w' =>
    cases nx <;> simp only [tyUpon] at hty <;> simp only [Oper.upon]
    case value u => exact step u w' hty.1 hty.2
    case skip => exact step undef w' hty.1 hty.2
    case enter f args =>
     obtain ⟨rfl, hcall⟩ := hty
     exact hcall.mono fun e w'' ⟨u, he, h1, h2⟩ => by subst he; exact step u w'' h2 h1
   | halt x w' => simp only [tyUpon] at hty
  ·simp only [hw] at hty ⊢
   exact step undef w (Below.refl _ _) hty
def tyB (n : Nat) (l : List Oper) : Bool :=
 Region.noSelect l.toArray && decide (n ≤ l.length) && barB .any l.toArray n && nodupD (l.take n) && depB l.toArray n && seqB .any l.toArray (l.length - n) n (canonL l.length n)
/-- **A region whose first n operations each give a value of a property; then the others, in their order.** -/
theorem region_ty (n : Nat) (T : Nat → Value → World → Prop) {id : Nat} {Q : Exit → Act → World → Prop} {a : Act} {w : World} {l : List Oper} (hm : P.follows .mixedOrders = true) (hB : tyB n l = true) (hT : ∀ i, Stays (T i))
  (hops : ∀ j o, j < n → l[j]? = some o → ∀ v w1, Below w.drew.heap.size w.drew w1 → (∀ p ∈ predsOf .any l.toArray j, T p (v p) w1) → TyAt P l.toArray o (putsV (l.take n) 0 v a) w1 (T j))
  (hend : ∀ v w1, Below w.drew.heap.size w.drew w1 → (∀ i, i < n → T i (v i) w1) → wpList P l.toArray Q (l.drop n) (putsV (l.take n) 0 v a) w1) : (Code.region id l.toArray true).wp P Q a w := by
 simp only [tyB, Bool.and_eq_true, decide_eq_true_eq] at hB
 obtain ⟨⟨⟨⟨⟨hs, hn⟩, hb⟩, hN⟩, hD⟩, hq⟩ := hB
 refine wp_region_any hm ?_
 have hrep : ∀ i, (Array.replicate l.length false).getD i false = false := fun i => by
  rcases Nat.lt_or_ge i l.length with h' | h' <;> simp [h']
 have h0 : closedL .any l.toArray (Array.replicate l.length false) := fun j o _ hl => by rw [hrep] at hl; cases hl
 have hleft : left n (Array.replicate l.length false) = n := by
  unfold left
  rw [List.countP_eq_length.2 fun i _ => by rw [hrep]; rfl, List.length_range]
 have h2 := wpAny_ty (P := P) (s := l.length - n) (Q := Q) (a0 := a) hT hs hn hb hN hD hops (fun v w1 h1 h2 => by
   have h3 := wpAny_of_seq (md := .any) (P := P) (Q' := Q) (l.drop n) n (canonL l.length n) (putsV (l.take n) 0 v a) w1 (fun j hj => by simp [List.getElem?_drop]) (by rw [List.length_drop]; exact hq) (hend v w1 h1 h2)
   rw [List.length_drop] at h3
   exact h3) n (Array.replicate l.length false) (fun _ => undef) w.drew hleft h0 ⟨by simp, fun j _ hj => by simp at hj; simp [hj]⟩ (Below.refl _ _) (fun i _ hl => by rw [hrep] at hl; cases hl)
 rw [putsIf_none (l.take n) 0 a fun i _ _ => hrep i, Nat.sub_add_cancel hn] at h2
 simpa using h2
theorem stays_nil : ∀ i : Nat, Stays (([] : List (Value → World → Prop)).getD i (fun _ _ => True)) := fun i => by simp [Stays]
theorem stays_cons {T : Value → World → Prop} {L : List (Value → World → Prop)} (h : Stays T) (hL : ∀ i : Nat, Stays (L.getD i (fun _ _ => True))) : ∀ i : Nat, Stays ((T :: L).getD i (fun _ _ => True))
 | 0 => h
 | i + 1 => by simpa using hL i
theorem stays_eq (c : Value) : Stays (fun u _ => u = c) := fun _ _ _ _ h => h
/-- The operations, one obligation each. -/
def hopsR (P : Program) (ops : Array Oper) (T : Nat → Value → World → Prop) (w0 : World) (F : (Nat → Value) → Act) : List Oper → Nat → Prop
 | [], _ => True
 | o :: l, k => (∀ v w1, Below w0.heap.size w0 w1 → (∀ p ∈ predsOf .any ops k, T p (v p) w1) → TyAt P ops o (F v) w1 (T k)) ∧ hopsR P ops T w0 F l (k + 1)
theorem hops_of {T : Nat → Value → World → Prop} {w0 : World} {F : (Nat → Value) → Act} : ∀ (l : List Oper) (k : Nat), hopsR P ops T w0 F l k → ∀ j o, l[j]? = some o → ∀ v w1, Below w0.heap.size w0 w1 → (∀ p ∈ predsOf .any ops (k + j), T p (v p) w1) → TyAt P ops o (F v) w1 (T (k + j))
 | [], _, _, j, o, h => by simp at h
 | o' :: l, k, hh, 0, o, h => by
  simp only [List.getElem?_cons_zero, Option.some.injEq] at h
  subst h; exact hh.1
 | o' :: l, k, hh, j + 1, o, h => by
  have := hops_of l (k + 1) hh.2 j o (by simpa using h)
  rwa [show k + 1 + j = k + (j + 1) by omega] at this
/-- region_ty, with its properties as a list. -/
theorem region_tl (n : Nat) (L : List (Value → World → Prop)) {id : Nat} {Q : Exit → Act → World → Prop} {a : Act} {w : World} {l : List Oper} (hm : P.follows .mixedOrders = true) (hB : tyB n l = true) (hT : ∀ i, Stays (L.getD i (fun _ _ => True)))
  (hops : hopsR P l.toArray (fun i => L.getD i (fun _ _ => True)) w.drew (fun v => putsV (l.take n) 0 v a) (l.take n) 0)
  (hend : ∀ v w1, Below w.drew.heap.size w.drew w1 → (∀ i, i < n → L.getD i (fun _ _ => True) (v i) w1) → wpList P l.toArray Q (l.drop n) (putsV (l.take n) 0 v a) w1) : (Code.region id l.toArray true).wp P Q a w :=
 region_ty n (fun i => L.getD i (fun _ _ => True)) hm hB hT (fun j o hj ho v w1 hb hp => by
  have := hops_of (l.take n) 0 hops j o (by rw [List.getElem?_take, if_pos hj]; exact ho) v w1 hb (by rw [Nat.zero_add]; exact hp)
  rwa [Nat.zero_add] at this) hend
end
end Go.Proofs.YtahfcciihkkegaaGreatDoor
namespace Go.Proofs.YtahfcciihkkegaaGreatDoor
open Go.RowKit Go.Proofs.YtahfcciihkkegaaGreatDoor.Rx
attribute [local irreducible] lo hs sm s64 c64 d64 b64 mh ml pd pc qd qc val hiB str cmpI srD lz nb isq decB dval
theorem rzadd_same (s : Bool) (va vb : Value) (a b : Nat) (la : (td a).length ≤ 1000000) (lb : (td b).length ≤ 1000000) (w : World) (ha : Rn w va a) (hb : Rn w vb b) :
  Calls Tryz.prog 60 #[.agg #[.bool s, va], .agg #[.bool s, vb]] w fun e w' => (∃ v, e = .returned (.agg #[.bool (s && decide (a + b ≠ 0)), v]) ∧ Rn w' v (a + b)) ∧ Below w.heap.size w w' := by
 have hL0 : GL w w [] := GL.start w
 have HA := Lib.hid (fun w h1 h2 => radd_any va vb a b la lb w h1 h2)
 obtain ⟨aa, ca, rfl⟩ := ha.form
 obtain ⟨ab, cb, rfl⟩ := hb.form
 generalize (td a).length = na at *
 generalize (td b).length = nb at *
 obtain ⟨x1, hweq, hL0⟩ := GL.named (((hL0.new rfl [.bool s, .slice aa na ca] 44).new (K := w.heap.size + 1) (szA _ _) [.bool s, .slice ab nb cb] 44).new (K := w.heap.size + 1 + 1) (by simp only [World.size_alloc]) [.bool false, .slice none 0 0] 44)
 replace ha := Lib.hid (ha.below hL0.bl)
 replace hb := Lib.hid (hb.below hL0.bl)
 clear la lb
 go_enter Tryz.func60, Tryz.ntmps60
 have hA := hL0.fc
 simp only [zF, Nat.reduceAdd] at hA
 go_upto_region 2 with fail
 clear hA
 clear hweq
 refine region_tl 8 [fun u _ => u = .pointer (some ⟨w.heap.size, 0, none⟩), fun u _ => u = .bool s, fun u _ => u = .pointer (some ⟨w.heap.size, 1, none⟩), fun u _ => u = .slice aa na ca, fun u _ => u = .pointer (some ⟨w.heap.size + 1, 1, none⟩), fun u _ => u = .slice ab nb cb, fun u w => Rn w u (a + b), fun u w => ∃ v, u = .agg #[.bool (s && decide (a + b ≠ 0)), v] ∧ Rn w v (a + b)] (by kernel_rfl) (by kernel_rfl) ?_ ?_ ?_
 ·repeat' first | exact stays_nil | apply stays_cons | exact stays_eq _ | exact fun _ _ _ hb h => h.below hb | exact fun _ _ _ hb ⟨v, e, h⟩ => ⟨v, e, h.below hb⟩
 ·simp only [List.take_succ_cons, List.take_zero, hopsR, and_true]
  refine ⟨?_, ?_, ?_, ?_, ?_, ?_, ?_, ?_⟩ <;> intro v w1 hb1 hp
  all_goals (have hc := (hL0.call (below_drew hb1)).fc; simp only [zF, Nat.reduceAdd] at hc; simp only [putsV, Act.put, zP, Nat.zero_add, Nat.reduceAdd])
  ·skip
   clear hp
   refine tyAt_none rfl ?_
   simp [tyUpon, execOp, go_sem, Act.eval, hc, Below.refl]
  ·skip
   have h0 : (fun u _ => u = .pointer (some ⟨w.heap.size, 0, none⟩)) (v 0) w1 := hp 0 (List.contains_iff_mem.1 (by kernel_rfl))
   clear hp
   refine tyAt_none rfl ?_
   simp [tyUpon, execOp, go_sem, Act.eval, hc, h0, Below.refl]
  ·skip
   clear hp
   refine tyAt_none rfl ?_
   simp [tyUpon, execOp, go_sem, Act.eval, hc, Below.refl]
  ·skip
   have h2 : (fun u _ => u = .pointer (some ⟨w.heap.size, 1, none⟩)) (v 2) w1 := hp 2 (List.contains_iff_mem.1 (by kernel_rfl))
   clear hp
   refine tyAt_none rfl ?_
   simp [tyUpon, execOp, go_sem, Act.eval, hc, h2, Below.refl]
  ·skip
   clear hp
   refine tyAt_none rfl ?_
   simp [tyUpon, execOp, go_sem, Act.eval, hc, Below.refl]
  ·skip
   have h4 : (fun u _ => u = .pointer (some ⟨w.heap.size + 1, 1, none⟩)) (v 4) w1 := hp 4 (List.contains_iff_mem.1 (by kernel_rfl))
   clear hp
   refine tyAt_none rfl ?_
   simp [tyUpon, execOp, go_sem, Act.eval, hc, h4, Below.refl]
  ·skip
   have h3 : (fun u _ => u = .slice aa na ca) (v 3) w1 := hp 3 (List.contains_iff_mem.1 (by kernel_rfl))
   have h5 : (fun u _ => u = .slice ab nb cb) (v 5) w1 := hp 5 (List.contains_iff_mem.1 (by kernel_rfl))
   clear hp
   refine tyAt_none rfl ?_
   refine ty_call (f := 122) (args := #[.slice aa na ca, .slice ab nb cb]) (by simp [execOp, go_sem, Act.eval, h3, h5]) ?_
   exact (HA.out w1 (ha.out.below (below_drew hb1)) (hb.out.below (below_drew hb1))).mono fun e w2 ⟨v, h1, h2, h3⟩ => ⟨v, h1, h2, h3⟩
  ·skip
   have h1 : (fun u _ => u = .bool s) (v 1) w1 := hp 1 (List.contains_iff_mem.1 (by kernel_rfl))
   have h6 : (fun u w => Rn w u (a + b)) (v 6) w1 := hp 6 (List.contains_iff_mem.1 (by kernel_rfl))
   clear hp
   refine tyAt_none rfl ?_
   refine ty_call (f := 117) (args := #[.bool s, v 6]) (by simp [execOp, go_sem, Act.eval, h1]) ?_
   have hF := rfrom_any s (v 6) (a + b) w1 h6
   exact hF.mono fun e w2 ⟨h1, h2⟩ => ⟨_, h1, ⟨v 6, rfl, Sl.below h6 h2⟩, h2⟩
 ·intro v w1 hb1 hv
  obtain ⟨u, hu, hru⟩ : ∃ u, v 7 = .agg #[.bool (s && decide (a + b ≠ 0)), u] ∧ Rn w1 u (a + b) := hv 7 (by omega)
  obtain ⟨ao, c, rfl⟩ := hru.form
  generalize hd : (s && decide (a + b ≠ 0)) = d at *
  replace hd := Lib.hid hd
  generalize hk : (td (a + b)).length = k at *
  replace hk := Lib.hid hk
  clear hv
  simp only [List.take_succ_cons, List.take_zero, putsV, Act.put, zP, List.drop_succ_cons, List.drop_zero, Nat.zero_add, Nat.reduceAdd, hu]
  replace hL0 := hL0.call (below_drew hb1)
  have hHd := hL0.get _ _ mZ
  have hA := hL0.fc
  simp only [zF, Nat.reduceAdd] at hA
  obtain ⟨x2, hput1, hP⟩ := GL.named (hL0.put 0 (w.heap.size + 1 + 1) _ rfl [.bool d, .slice ao k c] rfl)
  simp only [setAll] at hput1
  simp only [List.set_cons_zero, List.set_cons_succ] at hP
  have hB1 := hP.fc
  simp only [zF, Nat.reduceAdd] at hB1
  replace hL0 := hP
  have hvF := sl_upd hru (show Upd (w.heap.size + 1 + 1) w1 x2 by rw [← hput1]; exact ((Upd.refl _ _).setCell 0 _).setCell 1 _) hHd (by intro v hv n; simp only [List.mem_cons, List.not_mem_nil, or_false] at hv; rcases hv with rfl | rfl <;> simp)
  replace hvF := Lib.hid hvF
  clear hru hHd hb1 ha hb HA
  generalize v 0 = y0 at *
  generalize v 1 = y1 at *
  generalize v 2 = y2 at *
  generalize v 3 = y3 at *
  generalize v 4 = y4 at *
  generalize v 5 = y5 at *
  generalize v 6 = y6 at *
  clear hu v
  go_wp2_with fail
  exact bodyPost_ret (v := .agg #[.bool d, .slice ao k c]) (by simp [results, Tryz.results60, go_sem, hB1]) rfl ⟨⟨_, by rw [hd.out], hvF.out⟩, hL0.bl⟩
theorem rzadd_ge (s t : Bool) (va vb : Value) (a b : Nat) (la : (td a).length ≤ 1000000) (lb : (td b).length ≤ 1000000) (hne : s ≠ t) (hab : b ≤ a) (w : World) (ha : Rn w va a) (hb : Rn w vb b) :
  Calls Tryz.prog 60 #[.agg #[.bool s, va], .agg #[.bool t, vb]] w fun e w' => (∃ v, e = .returned (.agg #[.bool (s && decide (a - b ≠ 0)), v]) ∧ Rn w' v (a - b)) ∧ Below w.heap.size w w' := by
 have hL0 : GL w w [] := GL.start w
 have HA := Lib.hid (fun w h1 h2 => rsub_any va vb a b la hab w h1 h2)
 have HC := Lib.hid (fun w h1 h2 => rcmp_any va vb a b la lb w h1 h2)
 have hcg : decide (cmpI a b ≥ 0) = true := decide_eq_true (by unfold cmpI; split <;> (try split) <;> omega)
 have hcg2 : decide (0 ≤ cmpI a b) = true := decide_eq_true (by unfold cmpI; split <;> (try split) <;> omega)
 have hst : (s == t) = false := beq_eq_false_iff_ne.2 hne
 generalize cmpI a b = cz at *
 obtain ⟨aa, ca, rfl⟩ := ha.form
 obtain ⟨ab, cb, rfl⟩ := hb.form
 generalize (td a).length = na at *
 generalize (td b).length = nb at *
 obtain ⟨x1, hweq, hL0⟩ := GL.named (((hL0.new rfl [.bool s, .slice aa na ca] 44).new (K := w.heap.size + 1) (szA _ _) [.bool t, .slice ab nb cb] 44).new (K := w.heap.size + 1 + 1) (by simp only [World.size_alloc]) [.bool false, .slice none 0 0] 44)
 replace ha := Lib.hid (ha.below hL0.bl)
 replace hb := Lib.hid (hb.below hL0.bl)
 clear la lb hab hne
 go_enter Tryz.func60, Tryz.ntmps60
 have hA := hL0.fc
 simp only [zF, Nat.reduceAdd] at hA
 go_wp2_with fail
 clear hA
 with_reducible refine Calls.mono (HC.out _ ha.out hb.out) ?_
 rintro e x2 ⟨rfl, hbc⟩
 replace hL0 := hL0.call hbc
 replace ha := Lib.hid (ha.out.below hbc)
 replace hb := Lib.hid (hb.out.below hbc)
 clear hbc hweq HC
 have hA := hL0.fc
 simp only [zF, Nat.reduceAdd] at hA
 go_upto_region 4 with fail
 clear hA
 refine region_tl 8 [fun u _ => u = .pointer (some ⟨w.heap.size, 0, none⟩), fun u _ => u = .bool s, fun u _ => u = .pointer (some ⟨w.heap.size, 1, none⟩), fun u _ => u = .slice aa na ca, fun u _ => u = .pointer (some ⟨w.heap.size + 1, 1, none⟩), fun u _ => u = .slice ab nb cb, fun u w => Rn w u (a - b), fun u w => ∃ v, u = .agg #[.bool (s && decide (a - b ≠ 0)), v] ∧ Rn w v (a - b)] (by kernel_rfl) (by kernel_rfl) ?_ ?_ ?_
 ·repeat' first | exact stays_nil | apply stays_cons | exact stays_eq _ | exact fun _ _ _ hb h => h.below hb | exact fun _ _ _ hb ⟨v, e, h⟩ => ⟨v, e, h.below hb⟩
 ·simp only [List.take_succ_cons, List.take_zero, hopsR, and_true]
  refine ⟨?_, ?_, ?_, ?_, ?_, ?_, ?_, ?_⟩ <;> intro v w1 hb1 hp
  all_goals (have hc := (hL0.call (below_drew hb1)).fc; simp only [zF, Nat.reduceAdd] at hc; simp only [putsV, Act.put, zP, Nat.zero_add, Nat.reduceAdd])
  ·skip
   clear hp
   refine tyAt_none rfl ?_
   simp [tyUpon, execOp, go_sem, Act.eval, hc, Below.refl]
  ·skip
   have h0 : (fun u _ => u = .pointer (some ⟨w.heap.size, 0, none⟩)) (v 0) w1 := hp 0 (List.contains_iff_mem.1 (by kernel_rfl))
   clear hp
   refine tyAt_none rfl ?_
   simp [tyUpon, execOp, go_sem, Act.eval, hc, h0, Below.refl]
  ·skip
   clear hp
   refine tyAt_none rfl ?_
   simp [tyUpon, execOp, go_sem, Act.eval, hc, Below.refl]
  ·skip
   have h2 : (fun u _ => u = .pointer (some ⟨w.heap.size, 1, none⟩)) (v 2) w1 := hp 2 (List.contains_iff_mem.1 (by kernel_rfl))
   clear hp
   refine tyAt_none rfl ?_
   simp [tyUpon, execOp, go_sem, Act.eval, hc, h2, Below.refl]
  ·skip
   clear hp
   refine tyAt_none rfl ?_
   simp [tyUpon, execOp, go_sem, Act.eval, hc, Below.refl]
  ·skip
   have h4 : (fun u _ => u = .pointer (some ⟨w.heap.size + 1, 1, none⟩)) (v 4) w1 := hp 4 (List.contains_iff_mem.1 (by kernel_rfl))
   clear hp
   refine tyAt_none rfl ?_
   simp [tyUpon, execOp, go_sem, Act.eval, hc, h4, Below.refl]
  ·skip
   have h3 : (fun u _ => u = .slice aa na ca) (v 3) w1 := hp 3 (List.contains_iff_mem.1 (by kernel_rfl))
   have h5 : (fun u _ => u = .slice ab nb cb) (v 5) w1 := hp 5 (List.contains_iff_mem.1 (by kernel_rfl))
   clear hp
   refine tyAt_none rfl ?_
   refine ty_call (f := 119) (args := #[.slice aa na ca, .slice ab nb cb]) (by simp [execOp, go_sem, Act.eval, h3, h5]) ?_
   exact (HA.out w1 (ha.out.below (below_drew hb1)) (hb.out.below (below_drew hb1))).mono fun e w2 ⟨v, h1, h2, h3⟩ => ⟨v, h1, h2, h3⟩
  ·skip
   have h1 : (fun u _ => u = .bool s) (v 1) w1 := hp 1 (List.contains_iff_mem.1 (by kernel_rfl))
   have h6 : (fun u w => Rn w u (a - b)) (v 6) w1 := hp 6 (List.contains_iff_mem.1 (by kernel_rfl))
   clear hp
   refine tyAt_none rfl ?_
   refine ty_call (f := 117) (args := #[.bool s, v 6]) (by simp [execOp, go_sem, Act.eval, h1]) ?_
   have hF := rfrom_any s (v 6) (a - b) w1 h6
   exact hF.mono fun e w2 ⟨h1, h2⟩ => ⟨_, h1, ⟨v 6, rfl, Sl.below h6 h2⟩, h2⟩
 ·intro v w1 hb1 hv
  obtain ⟨u, hu, hru⟩ : ∃ u, v 7 = .agg #[.bool (s && decide (a - b ≠ 0)), u] ∧ Rn w1 u (a - b) := hv 7 (by omega)
  obtain ⟨ao, c, rfl⟩ := hru.form
  generalize hd : (s && decide (a - b ≠ 0)) = d at *
  replace hd := Lib.hid hd
  generalize hk : (td (a - b)).length = k at *
  replace hk := Lib.hid hk
  clear hv
  simp only [List.take_succ_cons, List.take_zero, putsV, Act.put, zP, List.drop_succ_cons, List.drop_zero, Nat.zero_add, Nat.reduceAdd, hu]
  replace hL0 := hL0.call (below_drew hb1)
  have hHd := hL0.get _ _ mZ
  have hA := hL0.fc
  simp only [zF, Nat.reduceAdd] at hA
  obtain ⟨x3, hput1, hP⟩ := GL.named (hL0.put 0 (w.heap.size + 1 + 1) _ rfl [.bool d, .slice ao k c] rfl)
  simp only [setAll] at hput1
  simp only [List.set_cons_zero, List.set_cons_succ] at hP
  have hB1 := hP.fc
  simp only [zF, Nat.reduceAdd] at hB1
  replace hL0 := hP
  have hvF := sl_upd hru (show Upd (w.heap.size + 1 + 1) w1 x3 by rw [← hput1]; exact ((Upd.refl _ _).setCell 0 _).setCell 1 _) hHd (by intro v hv n; simp only [List.mem_cons, List.not_mem_nil, or_false] at hv; rcases hv with rfl | rfl <;> simp)
  replace hvF := Lib.hid hvF
  clear hru hHd hb1 ha hb HA
  generalize v 0 = y0 at *
  generalize v 1 = y1 at *
  generalize v 2 = y2 at *
  generalize v 3 = y3 at *
  generalize v 4 = y4 at *
  generalize v 5 = y5 at *
  generalize v 6 = y6 at *
  clear hu v
  go_wp2_with fail
  exact bodyPost_ret (v := .agg #[.bool d, .slice ao k c]) (by simp [results, Tryz.results60, go_sem, hB1]) rfl ⟨⟨_, by rw [hd.out], hvF.out⟩, hL0.bl⟩
theorem rzadd_lt (s t : Bool) (va vb : Value) (a b : Nat) (la : (td a).length ≤ 1000000) (lb : (td b).length ≤ 1000000) (hne : s ≠ t) (hab : a < b) (w : World) (ha : Rn w va a) (hb : Rn w vb b) :
  Calls Tryz.prog 60 #[.agg #[.bool s, va], .agg #[.bool t, vb]] w fun e w' => (∃ v, e = .returned (.agg #[.bool (t && decide (b - a ≠ 0)), v]) ∧ Rn w' v (b - a)) ∧ Below w.heap.size w w' := by
 have hL0 : GL w w [] := GL.start w
 have HA := Lib.hid (fun w h1 h2 => rsub_any vb va b a lb (by omega) w h1 h2)
 have HC := Lib.hid (fun w h1 h2 => rcmp_any va vb a b la lb w h1 h2)
 have hcg : decide (cmpI a b ≥ 0) = false := decide_eq_false (by unfold cmpI; split <;> (try split) <;> omega)
 have hcg2 : decide (0 ≤ cmpI a b) = false := decide_eq_false (by unfold cmpI; split <;> (try split) <;> omega)
 have hst : (s == t) = false := beq_eq_false_iff_ne.2 hne
 generalize cmpI a b = cz at *
 obtain ⟨aa, ca, rfl⟩ := ha.form
 obtain ⟨ab, cb, rfl⟩ := hb.form
 generalize (td a).length = na at *
 generalize (td b).length = nb at *
 obtain ⟨x1, hweq, hL0⟩ := GL.named (((hL0.new rfl [.bool s, .slice aa na ca] 44).new (K := w.heap.size + 1) (szA _ _) [.bool t, .slice ab nb cb] 44).new (K := w.heap.size + 1 + 1) (by simp only [World.size_alloc]) [.bool false, .slice none 0 0] 44)
 replace ha := Lib.hid (ha.below hL0.bl)
 replace hb := Lib.hid (hb.below hL0.bl)
 clear la lb hab hne
 go_enter Tryz.func60, Tryz.ntmps60
 have hA := hL0.fc
 simp only [zF, Nat.reduceAdd] at hA
 go_wp2_with fail
 clear hA
 with_reducible refine Calls.mono (HC.out _ ha.out hb.out) ?_
 rintro e x2 ⟨rfl, hbc⟩
 replace hL0 := hL0.call hbc
 replace ha := Lib.hid (ha.out.below hbc)
 replace hb := Lib.hid (hb.out.below hbc)
 clear hbc hweq HC
 have hA := hL0.fc
 simp only [zF, Nat.reduceAdd] at hA
 go_upto_region 5 with fail
 clear hA
 refine region_tl 8 [fun u _ => u = .pointer (some ⟨w.heap.size + 1, 0, none⟩), fun u _ => u = .bool t, fun u _ => u = .pointer (some ⟨w.heap.size + 1, 1, none⟩), fun u _ => u = .slice ab nb cb, fun u _ => u = .pointer (some ⟨w.heap.size, 1, none⟩), fun u _ => u = .slice aa na ca, fun u w => Rn w u (b - a), fun u w => ∃ v, u = .agg #[.bool (t && decide (b - a ≠ 0)), v] ∧ Rn w v (b - a)] (by kernel_rfl) (by kernel_rfl) ?_ ?_ ?_
 ·repeat' first | exact stays_nil | apply stays_cons | exact stays_eq _ | exact fun _ _ _ hb h => h.below hb | exact fun _ _ _ hb ⟨v, e, h⟩ => ⟨v, e, h.below hb⟩
 ·simp only [List.take_succ_cons, List.take_zero, hopsR, and_true]
  refine ⟨?_, ?_, ?_, ?_, ?_, ?_, ?_, ?_⟩ <;> intro v w1 hb1 hp
  all_goals (have hc := (hL0.call (below_drew hb1)).fc; simp only [zF, Nat.reduceAdd] at hc; simp only [putsV, Act.put, zP, Nat.zero_add, Nat.reduceAdd])
  ·skip
   clear hp
   refine tyAt_none rfl ?_
   simp [tyUpon, execOp, go_sem, Act.eval, hc, Below.refl]
  ·skip
   have h0 : (fun u _ => u = .pointer (some ⟨w.heap.size + 1, 0, none⟩)) (v 0) w1 := hp 0 (List.contains_iff_mem.1 (by kernel_rfl))
   clear hp
   refine tyAt_none rfl ?_
   simp [tyUpon, execOp, go_sem, Act.eval, hc, h0, Below.refl]
  ·skip
   clear hp
   refine tyAt_none rfl ?_
   simp [tyUpon, execOp, go_sem, Act.eval, hc, Below.refl]
  ·skip
   have h2 : (fun u _ => u = .pointer (some ⟨w.heap.size + 1, 1, none⟩)) (v 2) w1 := hp 2 (List.contains_iff_mem.1 (by kernel_rfl))
   clear hp
   refine tyAt_none rfl ?_
   simp [tyUpon, execOp, go_sem, Act.eval, hc, h2, Below.refl]
  ·skip
   clear hp
   refine tyAt_none rfl ?_
   simp [tyUpon, execOp, go_sem, Act.eval, hc, Below.refl]
  ·skip
   have h4 : (fun u _ => u = .pointer (some ⟨w.heap.size, 1, none⟩)) (v 4) w1 := hp 4 (List.contains_iff_mem.1 (by kernel_rfl))
   clear hp
   refine tyAt_none rfl ?_
   simp [tyUpon, execOp, go_sem, Act.eval, hc, h4, Below.refl]
  ·skip
   have h3 : (fun u _ => u = .slice ab nb cb) (v 3) w1 := hp 3 (List.contains_iff_mem.1 (by kernel_rfl))
   have h5 : (fun u _ => u = .slice aa na ca) (v 5) w1 := hp 5 (List.contains_iff_mem.1 (by kernel_rfl))
   clear hp
   refine tyAt_none rfl ?_
   refine ty_call (f := 119) (args := #[.slice ab nb cb, .slice aa na ca]) (by simp [execOp, go_sem, Act.eval, h3, h5]) ?_
   exact (HA.out w1 (hb.out.below (below_drew hb1)) (ha.out.below (below_drew hb1))).mono fun e w2 ⟨v, h1, h2, h3⟩ => ⟨v, h1, h2, h3⟩
  ·skip
   have h1 : (fun u _ => u = .bool t) (v 1) w1 := hp 1 (List.contains_iff_mem.1 (by kernel_rfl))
   have h6 : (fun u w => Rn w u (b - a)) (v 6) w1 := hp 6 (List.contains_iff_mem.1 (by kernel_rfl))
   clear hp
   refine tyAt_none rfl ?_
   refine ty_call (f := 117) (args := #[.bool t, v 6]) (by simp [execOp, go_sem, Act.eval, h1]) ?_
   have hF := rfrom_any t (v 6) (b - a) w1 h6
   exact hF.mono fun e w2 ⟨h1, h2⟩ => ⟨_, h1, ⟨v 6, rfl, Sl.below h6 h2⟩, h2⟩
 ·intro v w1 hb1 hv
  obtain ⟨u, hu, hru⟩ : ∃ u, v 7 = .agg #[.bool (t && decide (b - a ≠ 0)), u] ∧ Rn w1 u (b - a) := hv 7 (by omega)
  obtain ⟨ao, c, rfl⟩ := hru.form
  generalize hd : (t && decide (b - a ≠ 0)) = d at *
  replace hd := Lib.hid hd
  generalize hk : (td (b - a)).length = k at *
  replace hk := Lib.hid hk
  clear hv
  simp only [List.take_succ_cons, List.take_zero, putsV, Act.put, zP, List.drop_succ_cons, List.drop_zero, Nat.zero_add, Nat.reduceAdd, hu]
  replace hL0 := hL0.call (below_drew hb1)
  have hHd := hL0.get _ _ mZ
  have hA := hL0.fc
  simp only [zF, Nat.reduceAdd] at hA
  obtain ⟨x3, hput1, hP⟩ := GL.named (hL0.put 0 (w.heap.size + 1 + 1) _ rfl [.bool d, .slice ao k c] rfl)
  simp only [setAll] at hput1
  simp only [List.set_cons_zero, List.set_cons_succ] at hP
  have hB1 := hP.fc
  simp only [zF, Nat.reduceAdd] at hB1
  replace hL0 := hP
  have hvF := sl_upd hru (show Upd (w.heap.size + 1 + 1) w1 x3 by rw [← hput1]; exact ((Upd.refl _ _).setCell 0 _).setCell 1 _) hHd (by intro v hv n; simp only [List.mem_cons, List.not_mem_nil, or_false] at hv; rcases hv with rfl | rfl <;> simp)
  replace hvF := Lib.hid hvF
  clear hru hHd hb1 ha hb HA
  generalize v 0 = y0 at *
  generalize v 1 = y1 at *
  generalize v 2 = y2 at *
  generalize v 3 = y3 at *
  generalize v 4 = y4 at *
  generalize v 5 = y5 at *
  generalize v 6 = y6 at *
  clear hu v
  go_wp2_with fail
  exact bodyPost_ret (v := .agg #[.bool d, .slice ao k c]) (by simp [results, Tryz.results60, go_sem, hB1]) rfl ⟨⟨_, by rw [hd.out], hvF.out⟩, hL0.bl⟩
theorem rzmul_any (s t : Bool) (va vb : Value) (a b : Nat) (la : (td a).length ≤ 1000000) (lb : (td b).length ≤ 1000000) (w : World) (ha : Rn w va a) (hb : Rn w vb b) :
  Calls Tryz.prog 133 #[.agg #[.bool s, va], .agg #[.bool t, vb]] w fun e w' => (∃ v, e = .returned (.agg #[.bool (!(s == t) && decide (a * b ≠ 0)), v]) ∧ Rn w' v (a * b)) ∧ Below w.heap.size w w' := by
 have hL0 : GL w w [] := GL.start w
 have HA := Lib.hid (fun w h1 h2 => rmul_any va vb a b la lb w h1 h2)
 obtain ⟨aa, ca, rfl⟩ := ha.form
 obtain ⟨ab, cb, rfl⟩ := hb.form
 generalize (td a).length = na at *
 generalize (td b).length = nb at *
 obtain ⟨x1, hweq, hL0⟩ := GL.named (((hL0.new rfl [.bool s, .slice aa na ca] 44).new (K := w.heap.size + 1) (szA _ _) [.bool t, .slice ab nb cb] 44).new (K := w.heap.size + 1 + 1) (by simp only [World.size_alloc]) [.bool false, .slice none 0 0] 44)
 replace ha := Lib.hid (ha.below hL0.bl)
 replace hb := Lib.hid (hb.below hL0.bl)
 clear la lb
 go_enter Tryz.func133, Tryz.ntmps133
 have hA := hL0.fc
 simp only [zF, Nat.reduceAdd] at hA
 go_upto_region 1 with fail
 clear hA
 clear hweq
 refine region_tl 11 [fun u _ => u = .pointer (some ⟨w.heap.size, 0, none⟩), fun u _ => u = .bool s, fun u _ => u = .pointer (some ⟨w.heap.size + 1, 0, none⟩), fun u _ => u = .bool t, fun u _ => u = .bool (!(s == t)), fun u _ => u = .pointer (some ⟨w.heap.size, 1, none⟩), fun u _ => u = .slice aa na ca, fun u _ => u = .pointer (some ⟨w.heap.size + 1, 1, none⟩), fun u _ => u = .slice ab nb cb, fun u w => Rn w u (a * b), fun u w => ∃ v, u = .agg #[.bool (!(s == t) && decide (a * b ≠ 0)), v] ∧ Rn w v (a * b)] (by kernel_rfl) (by kernel_rfl) ?_ ?_ ?_
 ·repeat' first | exact stays_nil | apply stays_cons | exact stays_eq _ | exact fun _ _ _ hb h => h.below hb | exact fun _ _ _ hb ⟨v, e, h⟩ => ⟨v, e, h.below hb⟩
 ·simp only [List.take_succ_cons, List.take_zero, hopsR, and_true]
  refine ⟨?_, ?_, ?_, ?_, ?_, ?_, ?_, ?_, ?_, ?_, ?_⟩ <;> intro v w1 hb1 hp
  all_goals (have hc := (hL0.call (below_drew hb1)).fc; simp only [zF, Nat.reduceAdd] at hc; simp only [putsV, Act.put, zP, Nat.zero_add, Nat.reduceAdd])
  ·skip
   clear hp
   refine tyAt_none rfl ?_
   simp [tyUpon, execOp, go_sem, Act.eval, hc, Below.refl]
  ·skip
   have h0 : (fun u _ => u = .pointer (some ⟨w.heap.size, 0, none⟩)) (v 0) w1 := hp 0 (List.contains_iff_mem.1 (by kernel_rfl))
   clear hp
   refine tyAt_none rfl ?_
   simp [tyUpon, execOp, go_sem, Act.eval, hc, h0, Below.refl]
  ·skip
   clear hp
   refine tyAt_none rfl ?_
   simp [tyUpon, execOp, go_sem, Act.eval, hc, Below.refl]
  ·skip
   have h2 : (fun u _ => u = .pointer (some ⟨w.heap.size + 1, 0, none⟩)) (v 2) w1 := hp 2 (List.contains_iff_mem.1 (by kernel_rfl))
   clear hp
   refine tyAt_none rfl ?_
   simp [tyUpon, execOp, go_sem, Act.eval, hc, h2, Below.refl]
  ·skip
   have h1 : (fun u _ => u = .bool s) (v 1) w1 := hp 1 (List.contains_iff_mem.1 (by kernel_rfl))
   have h3 : (fun u _ => u = .bool t) (v 3) w1 := hp 3 (List.contains_iff_mem.1 (by kernel_rfl))
   clear hp
   refine tyAt_none rfl ?_
   simp [tyUpon, execOp, go_sem, Act.eval, hc, h1, h3, Below.refl]
  ·skip
   clear hp
   refine tyAt_none rfl ?_
   simp [tyUpon, execOp, go_sem, Act.eval, hc, Below.refl]
  ·skip
   have h5 : (fun u _ => u = .pointer (some ⟨w.heap.size, 1, none⟩)) (v 5) w1 := hp 5 (List.contains_iff_mem.1 (by kernel_rfl))
   clear hp
   refine tyAt_none rfl ?_
   simp [tyUpon, execOp, go_sem, Act.eval, hc, h5, Below.refl]
  ·skip
   clear hp
   refine tyAt_none rfl ?_
   simp [tyUpon, execOp, go_sem, Act.eval, hc, Below.refl]
  ·skip
   have h7 : (fun u _ => u = .pointer (some ⟨w.heap.size + 1, 1, none⟩)) (v 7) w1 := hp 7 (List.contains_iff_mem.1 (by kernel_rfl))
   clear hp
   refine tyAt_none rfl ?_
   simp [tyUpon, execOp, go_sem, Act.eval, hc, h7, Below.refl]
  ·skip
   have h6 : (fun u _ => u = .slice aa na ca) (v 6) w1 := hp 6 (List.contains_iff_mem.1 (by kernel_rfl))
   have h8 : (fun u _ => u = .slice ab nb cb) (v 8) w1 := hp 8 (List.contains_iff_mem.1 (by kernel_rfl))
   clear hp
   refine tyAt_none rfl ?_
   refine ty_call (f := 79) (args := #[.slice aa na ca, .slice ab nb cb]) (by simp [execOp, go_sem, Act.eval, h6, h8]) ?_
   exact (HA.out w1 (ha.out.below (below_drew hb1)) (hb.out.below (below_drew hb1))).mono fun e w2 ⟨v, h1, h2, h3⟩ => ⟨v, h1, h2, h3⟩
  ·skip
   have h4 : (fun u _ => u = .bool (!(s == t))) (v 4) w1 := hp 4 (List.contains_iff_mem.1 (by kernel_rfl))
   have h9 : (fun u w => Rn w u (a * b)) (v 9) w1 := hp 9 (List.contains_iff_mem.1 (by kernel_rfl))
   clear hp
   refine tyAt_none rfl ?_
   refine ty_call (f := 117) (args := #[.bool (!(s == t)), v 9]) (by simp [execOp, go_sem, Act.eval, h4]) ?_
   have hF := rfrom_any (!(s == t)) (v 9) (a * b) w1 h9
   exact hF.mono fun e w2 ⟨h1, h2⟩ => ⟨_, h1, ⟨v 9, rfl, Sl.below h9 h2⟩, h2⟩
 ·intro v w1 hb1 hv
  obtain ⟨u, hu, hru⟩ : ∃ u, v 10 = .agg #[.bool (!(s == t) && decide (a * b ≠ 0)), u] ∧ Rn w1 u (a * b) := hv 10 (by omega)
  obtain ⟨ao, c, rfl⟩ := hru.form
  generalize hd : (!(s == t) && decide (a * b ≠ 0)) = d at *
  replace hd := Lib.hid hd
  generalize hk : (td (a * b)).length = k at *
  replace hk := Lib.hid hk
  clear hv
  simp only [List.take_succ_cons, List.take_zero, putsV, Act.put, zP, List.drop_succ_cons, List.drop_zero, Nat.zero_add, Nat.reduceAdd, hu]
  replace hL0 := hL0.call (below_drew hb1)
  have hHd := hL0.get _ _ mZ
  have hA := hL0.fc
  simp only [zF, Nat.reduceAdd] at hA
  obtain ⟨x2, hput1, hP⟩ := GL.named (hL0.put 0 (w.heap.size + 1 + 1) _ rfl [.bool d, .slice ao k c] rfl)
  simp only [setAll] at hput1
  simp only [List.set_cons_zero, List.set_cons_succ] at hP
  have hB1 := hP.fc
  simp only [zF, Nat.reduceAdd] at hB1
  replace hL0 := hP
  have hvF := sl_upd hru (show Upd (w.heap.size + 1 + 1) w1 x2 by rw [← hput1]; exact ((Upd.refl _ _).setCell 0 _).setCell 1 _) hHd (by intro v hv n; simp only [List.mem_cons, List.not_mem_nil, or_false] at hv; rcases hv with rfl | rfl <;> simp)
  replace hvF := Lib.hid hvF
  clear hru hHd hb1 ha hb HA
  generalize v 0 = y0 at *
  generalize v 1 = y1 at *
  generalize v 2 = y2 at *
  generalize v 3 = y3 at *
  generalize v 4 = y4 at *
  generalize v 5 = y5 at *
  generalize v 6 = y6 at *
  generalize v 7 = y7 at *
  generalize v 8 = y8 at *
  generalize v 9 = y9 at *
  clear hu v
  go_wp2_with fail
  exact bodyPost_ret (v := .agg #[.bool d, .slice ao k c]) (by simp [results, Tryz.results133, go_sem, hB1]) rfl ⟨⟨_, by rw [hd.out], hvF.out⟩, hL0.bl⟩
theorem rzneg_any (s : Bool) (va : Value) (a : Nat) (w : World) (ha : Rn w va a) :
  Calls Tryz.prog 135 #[.agg #[.bool s, va]] w fun e w' => e = .returned (.agg #[.bool (!s && decide (a ≠ 0)), va]) ∧ Below w.heap.size w w' := by
 have hL0 : GL w w [] := GL.start w
 have HF := Lib.hid (fun w h => rfrom_any (!s) va a w h)
 generalize hd : (!s && decide (a ≠ 0)) = d at *
 obtain ⟨aa, ca, rfl⟩ := ha.form
 generalize (td a).length = na at *
 obtain ⟨x1, hweq, hL0⟩ := GL.named ((hL0.new rfl [.bool s, .slice aa na ca] 44).new (K := w.heap.size + 1) (szA _ _) [.bool false, .slice none 0 0] 44)
 replace ha := Lib.hid (ha.below hL0.bl)
 clear hd
 go_enter Tryz.func135, Tryz.ntmps135
 have hA := hL0.fc
 simp only [zF, Nat.reduceAdd] at hA
 go_wp2_with fail
 clear hA
 with_reducible refine Calls.mono (HF.out _ ha.out) ?_
 rintro e x2 ⟨rfl, hb⟩
 replace hL0 := hL0.call hb
 clear hb hweq
 have hA := hL0.fc
 simp only [zF, Nat.reduceAdd] at hA
 obtain ⟨x3, hput1, hP⟩ := GL.named (hL0.put 0 (w.heap.size + 1) _ rfl [.bool d, .slice aa na ca] rfl)
 simp only [setAll] at hput1
 simp only [List.set_cons_zero, List.set_cons_succ] at hP
 have hB1 := hP.fc
 simp only [zF, Nat.reduceAdd] at hB1
 replace hL0 := hP
 go_wp2_with fail
 exact bodyPost_ret (v := .agg #[.bool d, .slice aa na ca]) (by simp [results, Tryz.results135, go_sem, hB1]) rfl ⟨rfl, hL0.bl⟩
theorem rzsign_zero (s : Bool) (a : Option Addr) (n c : Nat) (h : n = 0) (w : World) :
  Calls Tryz.prog 116 #[.agg #[.bool s, .slice a n c]] w fun e w' => e = .returned (.int .i64 0) ∧ Below w.heap.size w w' := by
 have hL0 : GL w w [] := GL.start w
 subst h
 obtain ⟨x1, hweq, hL0⟩ := GL.named (hL0.new rfl [.bool s, .slice a 0 c] 44)
 go_enter Tryz.func116, Tryz.ntmps116
 have hA := hL0.fc
 simp only [zF, Nat.reduceAdd] at hA
 go_wp2_with fail
 exact bodyPost_ret (v := .int .i64 0) (by simp [results, Tryz.results116, go_sem, hA]) rfl ⟨rfl, hL0.bl⟩
theorem rzsign_neg (a : Option Addr) (n c : Nat) (h : 0 < n) (w : World) :
  Calls Tryz.prog 116 #[.agg #[.bool true, .slice a n c]] w fun e w' => e = .returned (.int .i64 (-1)) ∧ Below w.heap.size w w' := by
 have hL0 : GL w w [] := GL.start w
 have f1 : (((n : Nat) : Int) == 0) = false := beq_eq_false_iff_ne.2 (by omega)
 have f2 : decide (n = 0) = false := decide_eq_false (by omega)
 clear h
 obtain ⟨x1, hweq, hL0⟩ := GL.named (hL0.new rfl [.bool true, .slice a n c] 44)
 go_enter Tryz.func116, Tryz.ntmps116
 have hA := hL0.fc
 simp only [zF, Nat.reduceAdd] at hA
 go_wp2_with fail
 exact bodyPost_ret (v := .int .i64 (-1)) (by simp [results, Tryz.results116, go_sem, hA]) rfl ⟨rfl, hL0.bl⟩
theorem rzsign_pos (a : Option Addr) (n c : Nat) (h : 0 < n) (w : World) :
  Calls Tryz.prog 116 #[.agg #[.bool false, .slice a n c]] w fun e w' => e = .returned (.int .i64 1) ∧ Below w.heap.size w w' := by
 have hL0 : GL w w [] := GL.start w
 have f1 : (((n : Nat) : Int) == 0) = false := beq_eq_false_iff_ne.2 (by omega)
 have f2 : decide (n = 0) = false := decide_eq_false (by omega)
 clear h
 obtain ⟨x1, hweq, hL0⟩ := GL.named (hL0.new rfl [.bool false, .slice a n c] 44)
 go_enter Tryz.func116, Tryz.ntmps116
 have hA := hL0.fc
 simp only [zF, Nat.reduceAdd] at hA
 go_wp2_with fail
 exact bodyPost_ret (v := .int .i64 1) (by simp [results, Tryz.results116, go_sem, hA]) rfl ⟨rfl, hL0.bl⟩
end Go.Proofs.YtahfcciihkkegaaGreatDoor
namespace Go.Proofs.YtahfcciihkkegaaGreatDoor
open Go.RowKit Go.Proofs.YtahfcciihkkegaaGreatDoor.Rx
/-- A struct of the reference that stands for an integer. -/
def RZ (w : World) (v : Value) (z : Int) : Prop := ∃ u, v = .agg #[.bool (decide (z < 0)), u] ∧ Rn w u z.natAbs
theorem RZ.below {w w' : World} {v : Value} {z : Int} (h : RZ w v z) (hb : Below w.heap.size w w') : RZ w' v z := by
 obtain ⟨u, h1, h2⟩ := h
 exact ⟨u, h1, Sl.below h2 hb⟩
theorem RZ.of {w : World} {b : Bool} {u : Value} {n : Nat} {z : Int} (h : Rn w u n) (hb : b = decide (z < 0)) (hn : n = z.natAbs) : RZ w (.agg #[.bool b, u]) z := ⟨u, by rw [hb], by rw [← hn]; exact h⟩
theorem rzaddI (vx vy : Value) (x y : Int) (lx : (td x.natAbs).length ≤ 1000000) (ly : (td y.natAbs).length ≤ 1000000) (w : World) (hx : RZ w vx x) (hy : RZ w vy y) :
  Calls Tryz.prog 60 #[vx, vy] w fun e w' => ∃ v, e = .returned v ∧ RZ w' v (x + y) ∧ Below w.heap.size w w' := by
 obtain ⟨va, rfl, ha⟩ := hx
 obtain ⟨vb, rfl, hb⟩ := hy
 by_cases hs : decide (x < 0) = decide (y < 0)
 ·have hxy : x < 0 ↔ y < 0 := by simpa using hs
  rw [← hs]
  refine (rzadd_same _ va vb _ _ lx ly w ha hb).mono fun e w' ⟨⟨v, h1, h2⟩, h3⟩ => ⟨_, h1, RZ.of h2 ?_ ?_, h3⟩
  ·by_cases h0 : x < 0
   ·rw [decide_eq_true h0, decide_eq_true (p := x + y < 0) (by omega), Bool.true_and]; exact decide_eq_true (by omega)
   ·rw [decide_eq_false h0, Bool.false_and]; exact (decide_eq_false (by omega)).symm
  ·omega
 ·have hxy : ¬ (x < 0 ↔ y < 0) := fun h => hs (by simpa using h)
  rcases Nat.lt_or_ge x.natAbs y.natAbs with hl | hl
  ·refine (rzadd_lt _ _ va vb _ _ lx ly hs hl w ha hb).mono fun e w' ⟨⟨v, h1, h2⟩, h3⟩ => ⟨_, h1, RZ.of h2 ?_ ?_, h3⟩
   ·by_cases h0 : y < 0
    ·rw [decide_eq_true h0, decide_eq_true (p := x + y < 0) (by omega), Bool.true_and]; exact decide_eq_true (by omega)
    ·rw [decide_eq_false h0, Bool.false_and]; exact (decide_eq_false (by omega)).symm
   ·omega
  ·refine (rzadd_ge _ _ va vb _ _ lx ly hs hl w ha hb).mono fun e w' ⟨⟨v, h1, h2⟩, h3⟩ => ⟨_, h1, RZ.of h2 ?_ ?_, h3⟩
   ·by_cases h0 : x < 0
    ·rw [decide_eq_true h0, Bool.true_and]
     by_cases h4 : x + y < 0
     ·rw [decide_eq_true h4]; exact decide_eq_true (by omega)
     ·rw [decide_eq_false h4]; exact decide_eq_false (by omega)
    ·rw [decide_eq_false h0, Bool.false_and]; exact (decide_eq_false (by omega)).symm
   ·omega
theorem rzmulI (vx vy : Value) (x y : Int) (lx : (td x.natAbs).length ≤ 1000000) (ly : (td y.natAbs).length ≤ 1000000) (w : World) (hx : RZ w vx x) (hy : RZ w vy y) :
  Calls Tryz.prog 133 #[vx, vy] w fun e w' => ∃ v, e = .returned v ∧ RZ w' v (x * y) ∧ Below w.heap.size w w' := by
 obtain ⟨va, rfl, ha⟩ := hx
 obtain ⟨vb, rfl, hb⟩ := hy
 refine (rzmul_any _ _ va vb _ _ lx ly w ha hb).mono fun e w' ⟨⟨v, h1, h2⟩, h3⟩ => ⟨_, h1, RZ.of h2 ?_ (Int.natAbs_mul x y).symm, h3⟩
 rcases Int.lt_trichotomy x 0 with h | h | h <;> rcases Int.lt_trichotomy y 0 with g | g | g
 ·have := Int.mul_pos_of_neg_of_neg h g
  rw [decide_eq_true h, decide_eq_true g, decide_eq_false (p := x * y < 0) (by omega)]; rfl
 ·subst g; simp
 ·have := Int.mul_neg_of_neg_of_pos h g
  have hn : x.natAbs * y.natAbs ≠ 0 := Nat.mul_ne_zero (by omega) (by omega)
  rw [decide_eq_true h, decide_eq_false (p := y < 0) (by omega), decide_eq_true this, decide_eq_true hn]; rfl
 ·subst h; simp
 ·subst h; simp
 ·subst h; simp
 ·have := Int.mul_neg_of_pos_of_neg h g
  have hn : x.natAbs * y.natAbs ≠ 0 := Nat.mul_ne_zero (by omega) (by omega)
  rw [decide_eq_false (p := x < 0) (by omega), decide_eq_true g, decide_eq_true this, decide_eq_true hn]; rfl
 ·subst g; simp
 ·have := Int.mul_pos h g
  rw [decide_eq_false (p := x < 0) (by omega), decide_eq_false (p := y < 0) (by omega), decide_eq_false (p := x * y < 0) (by omega)]; rfl
theorem rznegI (vx : Value) (x : Int) (w : World) (hx : RZ w vx x) :
  Calls Tryz.prog 135 #[vx] w fun e w' => ∃ v, e = .returned v ∧ RZ w' v (-x) ∧ Below w.heap.size w w' := by
 obtain ⟨va, rfl, ha⟩ := hx
 refine (rzneg_any _ va _ w ha).mono fun e w' ⟨h1, h3⟩ => ⟨_, h1, RZ.of (Sl.below ha h3) ?_ (Int.natAbs_neg x).symm, h3⟩
 by_cases h : x < 0
 ·rw [decide_eq_true h, decide_eq_false (p := -x < 0) (by omega)]; rfl
 ·rw [decide_eq_false h, Bool.not_false, Bool.true_and]
  by_cases h0 : x = 0
  ·subst h0; rfl
  ·rw [decide_eq_true (p := -x < 0) (by omega)]; exact decide_eq_true (by omega)
end Go.Proofs.YtahfcciihkkegaaGreatDoor
namespace Go.Proofs.YtahfcciihkkegaaGreatDoor
open Go.RowKit Go.Proofs.YtahfcciihkkegaaGreatDoor.Rx
def tln (n : Nat) : Nat := (td n).length
theorem rn_form {w : World} {v : Value} {n : Nat} (h : Rn w v n) : ∃ ao c, v = .slice ao (tln n) c := h.form
theorem rz_form {w : World} {v : Value} {z : Int} (h : RZ w v z) : ∃ ao c, v = .agg #[.bool (zs z), .slice ao (tln z.natAbs) c] := by
 obtain ⟨u, rfl, hu⟩ := h
 obtain ⟨ao, c, rfl⟩ := rn_form hu
 exact ⟨ao, c, rfl⟩
theorem rz_of {w : World} {ao : Option Addr} {c : Nat} {z : Int} (h : Rn w (.slice ao (tln z.natAbs) c) z.natAbs) : RZ w (.agg #[.bool (zs z), .slice ao (tln z.natAbs) c]) z := ⟨_, rfl, h⟩
theorem rz_rn {w : World} {b : Value} {s : Value} {z : Int} (h : RZ w (.agg #[b, s]) z) : Rn w s z.natAbs := by
 obtain ⟨u, h1, hu⟩ := h
 simp only [Value.agg.injEq, Array.mk.injEq, List.cons.injEq, and_true] at h1
 rw [h1.2]; exact hu
/-- The slices of digits that a call has got hold of. -/
def SS (W : World) (S : List (Value × Nat)) : Prop := ∀ p ∈ S, Rn W p.1 p.2
theorem SS.nil (W : World) : SS W [] := fun p hp => by cases hp
theorem SS.call {W W' : World} {S : List (Value × Nat)} (h : SS W S) (hb : Below W.heap.size W W') : SS W' S := fun p hp => Sl.below (h p hp) hb
theorem SS.new {W : World} {S : List (Value × Nat)} (h : SS W S) (o : Obj) : SS (W.alloc o) S := h.call ((Below.refl _ _).alloc (Nat.le_refl _) o)
theorem SS.cons {W : World} {S : List (Value × Nat)} (h : SS W S) {v : Value} {n : Nat} (hv : Rn W v n) : SS W ((v, n) :: S) := fun p hp => by
 rcases List.mem_cons.1 hp with rfl | hp
 ·exact hv
 ·exact h p hp
theorem SS.put {W W' : World} {S : List (Value × Nat)} (h : SS W S) {k : Nat} {c : List Value} (hu : Upd k W W') (hd : Hd W k c) (hc : ∀ v ∈ c, ∀ n, v ≠ .int .i64 n) : SS W' S := fun p hp => sl_upd (h p hp) hu hd hc
theorem SS.drew {W : World} {S : List (Value × Nat)} (h : SS W S) : SS W.drew S := fun p hp => Sl.drew (h p hp)
theorem SS.get {W : World} {S : List (Value × Nat)} (h : SS W S) {v : Value} {n : Nat} (hm : (v, n) ∈ S) : Rn W v n := h _ hm
theorem stays_rn (n : Nat) : Stays (fun u w => Rn w u n) := fun _ _ _ hb h => Sl.below h hb
theorem stays_rz (z : Int) : Stays (fun u w => RZ w u z) := fun _ _ _ hb h => h.below hb
/-- A typed region's properties, in short. -/
abbrev EV (v : Value) : Value → World → Prop := fun u _ => u = v
abbrev PZ (x : Int) : Value → World → Prop := fun u w => RZ w u x
abbrev PN (n : Nat) : Value → World → Prop := fun u w => Rn w u n
theorem LC {l : List Nat} {a : Nat} (h : l.contains a = true) : a ∈ l := List.contains_iff_mem.1 h
theorem GL.named2 {w0 W : World} {L : List (Nat × List Value)} {S : List (Value × Nat)} (h : GL w0 W L) (g : SS W S) : ∃ x, W = x ∧ GL w0 x L ∧ SS x S := ⟨W, rfl, h, g⟩
end Go.Proofs.YtahfcciihkkegaaGreatDoor
namespace Go.Proofs.YtahfcciihkkegaaGreatDoor
open Go.RowKit Go.Proofs.YtahfcciihkkegaaGreatDoor.Rx
attribute [local irreducible] lo hs sm s64 c64 d64 b64 mh ml pd pc qd qc val hiB str cmpI srD lz nb isq decB zl zh zs dval tln
theorem rzof_pos (v d z : Int) (n : Nat) (HO : ∀ (w : World), Calls Tryz.prog 80 #[.int .u64 d] w fun e w' => ∃ pv, e = .returned pv ∧ Rn w' pv n ∧ Below w.heap.size w w') (HF : ∀ (p1 : Value) (w : World), Rn w p1 n → Calls Tryz.prog 117 #[.bool false, p1] w fun e w' => ∃ pv, e = .returned pv ∧ RZ w' pv z ∧ Below w.heap.size w w') (h0 : decide (v < 0) = false) (h3 : IntKind.u64.wrap v = d) (w : World) :
  Calls Tryz.prog 61 #[.int .i64 v] w fun e w' => ∃ pv, e = .returned pv ∧ RZ w' pv z ∧ Below w.heap.size w w' := by
 replace HO := Lib.hid HO
 replace HF := Lib.hid HF
 have hL0 : GL w w [] := GL.start w
 have hS : SS w [] := SS.nil w
 obtain ⟨x1, hweq, hL0, hS⟩ := GL.named2 (hL0.new rfl [.bool false, .slice none 0 0] 44) (hS.new (.cells #[.bool false, .slice none 0 0] 44))
 go_enter Tryz.func61, Tryz.ntmps61
 go_wp2_with fail
 with_reducible refine Calls.mono (HO.out _) ?_
 rintro e x2 ⟨v0, rfl, q0, hb⟩
 replace hL0 := hL0.call hb
 replace hS := hS.call hb
 clear hb hweq
 obtain ⟨g1, d1, rfl⟩ := rn_form q0
 replace hS := hS.cons q0
 clear q0
 go_wp2_with fail
 with_reducible refine Calls.mono (HF.out (.slice g1 (tln n) d1) _ (hS.get mZ)) ?_
 rintro e x3 ⟨v0, rfl, q0, hb⟩
 replace hL0 := hL0.call hb
 replace hS := hS.call hb
 clear hb
 obtain ⟨g2, d2, rfl⟩ := rz_form q0
 replace hS := hS.cons (rz_rn q0)
 clear q0
 have hS1 := hS.put (((Upd.refl w.heap.size x3).setCell 0 (.bool (zs z))).setCell 1 (.slice g2 (tln z.natAbs) d2)) (hL0.get _ _ mZ) (by intro v hv n; simp only [List.mem_cons, List.not_mem_nil, or_false] at hv; rcases hv with rfl | rfl <;> simp)
 have hA := hL0.fc
 simp only [zF, Nat.reduceAdd] at hA
 have hP := hL0.put 0 (w.heap.size) _ rfl [.bool (zs z), .slice g2 (tln z.natAbs) d2] rfl
 simp only [setAll, List.set_cons_zero, List.set_cons_succ] at hP
 generalize hput1 : ((x3.setCell ⟨w.heap.size, 0, none⟩ (.bool (zs z))).setCell ⟨w.heap.size, 1, none⟩ (.slice g2 (tln z.natAbs) d2)) = x4 at hP hS1
 have hB1 := hP.fc
 simp only [zF, Nat.reduceAdd] at hB1
 replace hL0 := hP
 replace hS := hS1
 clear hS1
 go_wp2_with fail
 exact bodyPost_ret (v := .agg #[.bool (zs z), .slice g2 (tln z.natAbs) d2]) (by simp [results, Tryz.results61, go_sem, hB1]) rfl ⟨_, rfl, (rz_of (hS.get mZ)), hL0.bl⟩
end Go.Proofs.YtahfcciihkkegaaGreatDoor
