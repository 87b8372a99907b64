/-
  The law answers true at every input, and leaves its arguments as they were: a part of the proof. CONDITIONS: the package-level tables start as the program's text lays them (the card ties them).
-/
import Derived.Test.YtahfcciihkkegaaGreatDoorZte
import Derived.Test.YtahfcciihkkegaaGreatDoorTie
import Derived.Test.YtahfcciihkkegaaGreatDoorCards
set_option linter.unusedVariables false
set_option linter.unusedSimpArgs false
set_option maxHeartbeats 16000000
set_option maxRecDepth 100000
namespace Go.Proofs.YtahfcciihkkegaaGreatDoor
open Go.RowKit
attribute [local irreducible] lo hs sm s64 c64 d64 b64 mh ml pd pc qd qc val hiB str cmpI srD lz nb isq decB zl zh zs fe txt
theorem not1_v (B b part k : Nat) (kv : Int) (hkv : (k : Int) = kv) (l : List UInt8) (hl : (digs part).length ≤ 1000000) (hk : k ≤ 1000) (hll : l.length ≤ 1000000000) (w : World) (hB : Bd B b l w) (htab : Tab w) (hBw : B ≤ w.heap.size) :
  Calls Tryz.prog 107 #[natV part, .int .i64 kv, .pointer (some ⟨b, 0, none⟩)] w fun e w' => e = .returned (.tuple #[]) ∧ Bd B b (l ++ (List.replicate (k - (Lib.decDigits part).length) 48 ++ Lib.decDigits part)) w' ∧ Wr B b w w' := by
 subst hkv
 exact not1_any B b part k l hl hk hll w hB htab hBw
theorem dnot_w (z sv : Int) (p m t q r : Nat) (s T : List UInt8) (HA : RT 50 #[intV z] (natV m)) (HT : RT 47 #[.int .i64 (p : Int)] (natV t)) (HD : RT 110 #[natV m, natV t] (.tuple #[natV q, natV r, .bool true])) (HS : RT 92 #[intV z] (.int .i64 sv)) (hq : (digs q).length ≤ 1000000) (hr : (digs r).length ≤ 1000000) (hp : p ≤ 1000)
  (hs1 : sv < 0 → s = [45]) (hs0 : ¬ sv < 0 → s = []) (ht1 : 0 < p → T = [46] ++ (List.replicate (p - (Lib.decDigits r).length) 48 ++ Lib.decDigits r)) (ht0 : ¬ 0 < p → T = []) (w : World) (htab : Tab w) :
  Calls Tryz.prog 53 #[intV z, .int .i64 (p : Int)] w fun xe w' => xe = .returned (.string ⟨(s ++ (List.replicate (1 - (Lib.decDigits q).length) 48 ++ Lib.decDigits q) ++ T).toArray⟩) ∧ Below w.heap.size w w' := by
 replace HA := Lib.hid HA
 replace HT := Lib.hid HT
 replace HD := Lib.hid HD
 replace HS := Lib.hid HS
 replace hs1 := Lib.hid hs1
 replace hs0 := Lib.hid hs0
 replace ht1 := Lib.hid ht1
 replace ht0 := Lib.hid ht0
 replace htab := Lib.hid htab
 have hL0 : GL w w [] := GL.start w
 obtain ⟨x1, hweq, hL0⟩ := GL.named ((hL0.new rfl [.int .u64 ((zl z : Nat) : Int), .string (zh z), .bool (zs z)] 32).new (K := w.heap.size + 1) (szA _ _) [.pointer none, .slice none 0 0] 155)
 have hM0 : GL x1 x1 [] := GL.start x1
 have hx1 : x1.heap.size = w.heap.size + 1 + 1 := by rw [← hweq, World.size_alloc, World.size_alloc]
 replace hx1 := Lib.hid hx1
 have hBd : Bd (w.heap.size + 1) (w.heap.size + 1) [] x1 := by
  have := Lib.IsBuilderF.of (Lib.fresh_isBuilder 155 5 (w.alloc (.cells #[.int .u64 ((zl z : Nat) : Int), .string (zh z), .bool (zs z)] 32)))
  rw [hweq, World.size_alloc] at this
  exact this
 replace hBd := Lib.hid hBd
 go_enter Tryz.func53, Tryz.ntmps53
 have hN0 := cells_of _ 0 [] rfl (hL0.get _ _ (mK mZ))
 simp only [zF, Nat.reduceAdd] at hN0
 go_wp2_with fail
 clear hN0
 with_reducible refine Calls.mono (HA.out _) ?_
 rintro e x2 ⟨rfl, hb⟩
 replace hL0 := hL0.call hb
 replace hM0 := hM0.call hb
 clear hb hweq
 go_wp2_with fail
 with_reducible refine Calls.mono (HT.out _) ?_
 rintro e x3 ⟨rfl, hb⟩
 replace hL0 := hL0.call hb
 replace hM0 := hM0.call hb
 clear hb
 go_wp2_with fail
 with_reducible refine Calls.mono (HD.out _) ?_
 rintro e x4 ⟨rfl, hb⟩
 replace hL0 := hL0.call hb
 replace hM0 := hM0.call hb
 clear hb
 replace hL0 := ((hL0.new rfl [.int .u64 ((lo q : Nat) : Int), .string (hs q)] 30).new (K := x4.heap.size + 1) (szA _ _) [.int .u64 ((lo r : Nat) : Int), .string (hs r)] 30)
 have hx4 := Lib.hid hM0.bl.size
 replace hM0 := ((hM0.new rfl [.int .u64 ((lo q : Nat) : Int), .string (hs q)] 30).new (K := x4.heap.size + 1) (szA _ _) [.int .u64 ((lo r : Nat) : Int), .string (hs r)] 30)
 generalize hweq : ((x4.alloc (.cells #[.int .u64 ((lo q : Nat) : Int), .string (hs q)] 30)).alloc (.cells #[.int .u64 ((lo r : Nat) : Int), .string (hs r)] 30)) = x5 at hL0 hM0
 have e7 : x5.heap[x4.heap.size]? = some (.cells #[.int .u64 ((lo q : Nat) : Int), .string (hs q)] 30 (0, 0)) := by
  rw [← hweq, Lib.alloc_old _ _ _ (by simp)]
  exact heap_alloc_new _ _
 have e8 : x5.heap[x4.heap.size + 1]? = some (.cells #[.int .u64 ((lo r : Nat) : Int), .string (hs r)] 30 (0, 0)) := by
  rw [← hweq]
  have := heap_alloc_new (x4.alloc (.cells #[.int .u64 ((lo q : Nat) : Int), .string (hs q)] 30)) (.cells #[.int .u64 ((lo r : Nat) : Int), .string (hs r)] 30)
  rw [World.size_alloc] at this
  exact this
 replace e7 := Lib.hid e7
 replace e8 := Lib.hid e8
 have hx5 : x5.heap.size = x4.heap.size + 1 + 1 := by rw [← hweq, World.size_alloc, World.size_alloc]
 replace hx5 := Lib.hid hx5
 replace hBd := Lib.hid (hBd.out.below hM0.bl)
 have hN0 := cells_of _ 0 [] rfl (hL0.get _ _ (mK (mK (mK mZ))))
 simp only [zF, Nat.reduceAdd] at hN0
 go_upto_region 4 with fail
 clear hweq
 go_wp2_with fail
 clear hN0
 with_reducible refine Calls.mono (HS.out _) ?_
 rintro e x6 ⟨rfl, hb⟩
 replace e7 := Lib.hid ((hb.block x4.heap.size (by rw [hx5.out]; omega)).trans e7.out)
 replace e8 := Lib.hid ((hb.block (x4.heap.size + 1) (by rw [hx5.out]; omega)).trans e8.out)
 replace hBd := Lib.hid (hBd.out.below hb)
 have n7 : x4.heap.size ≠ w.heap.size + 1 := by have := hx4.out; have := hx1.out; omega
 have n8 : x4.heap.size + 1 ≠ w.heap.size + 1 := by have := hx4.out; have := hx1.out; omega
 have s6 : w.heap.size + 1 ≤ x6.heap.size := by have := hb.size; have := hx5.out; have := hx4.out; have := hx1.out; omega
 have hbl := Lib.hid (hL0.call hb).bl
 have hq1 := Lib.hid (dec_len_bound hq (by decide))
 have hr1 := Lib.hid (dec_len_bound hr (by decide))
 replace hq := Lib.hid hq
 replace hr := Lib.hid hr
 replace hp := Lib.hid hp
 replace n7 := Lib.hid n7
 replace n8 := Lib.hid n8
 clear hL0 hM0 hb hx1 hx4 hx5
 by_cases g1 : sv < 0
 ·by_cases g2 : 0 < p
  ·obtain rfl : s = [45] := hs1.out (by omega)
   obtain rfl : T = [46] ++ (List.replicate (p - (Lib.decDigits r).length) 48 ++ Lib.decDigits r) := ht1.out (by omega)
   have p4 : 0 < (p : Int) := by omega
   have W6 := Lib.hid (Wr.refl (w.heap.size + 1) (w.heap.size + 1) x6)
   go_wp2_with fail
   refine (ws_any (w.heap.size + 1) (w.heap.size + 1) [] [45] [45] _ rfl rfl _ hBd.out (by decide) s6).mono ?_
   rintro e x7 ⟨⟨v, rfl⟩, hB7, hW7⟩
   replace hBd := Lib.hid hB7
   replace W6 := Lib.hid (W6.out.trans hW7)
   clear hB7 hW7
   have s7 : w.heap.size + 1 ≤ x7.heap.size := by have := W6.out.1.size; omega
   have t7 := Lib.hid (htab.out.below (hbl.out.trans (W6.out.1.mono (by omega))))
   have E7 : x7.heap[x4.heap.size]? = _ := W6.out.2 (x4.heap.size) _ e7.out (fun e => n7.out (Option.some.inj e)) (fun c fz e => by simp at e)
   have f0 : x7.cell? ⟨x4.heap.size, 0, none⟩ = some (.int .u64 ((lo q : Nat) : Int)) := by rw [Lib.cell_of_heap E7]; rfl
   have f1 : x7.cell? ⟨x4.heap.size, 1, none⟩ = some (.string (hs q)) := by rw [Lib.cell_of_heap E7]; rfl
   clear E7
   go_wp2_with fail
   refine (not1_v (w.heap.size + 1) (w.heap.size + 1) q 1 1 rfl [45] hq.out (by decide) (by decide) _ hBd.out t7.out s7).mono ?_
   rintro e x8 ⟨rfl, hB7, hW7⟩
   replace hBd := Lib.hid hB7
   replace W6 := Lib.hid (W6.out.trans hW7)
   clear hB7 hW7 s7 t7 f0 f1
   have s7 : w.heap.size + 1 ≤ x8.heap.size := by have := W6.out.1.size; omega
   go_wp2_with fail
   refine (ws_any (w.heap.size + 1) (w.heap.size + 1) ([45] ++ (List.replicate (1 - (Lib.decDigits q).length) 48 ++ Lib.decDigits q)) [46] (([45] ++ (List.replicate (1 - (Lib.decDigits q).length) 48 ++ Lib.decDigits q)) ++ [46]) _ rfl rfl _ hBd.out (by have := hq1.out; simp; omega) s7).mono ?_
   rintro e x9 ⟨⟨v2, rfl⟩, hB7, hW7⟩
   replace hBd := Lib.hid hB7
   replace W6 := Lib.hid (W6.out.trans hW7)
   clear hB7 hW7 s7
   have s7 : w.heap.size + 1 ≤ x9.heap.size := by have := W6.out.1.size; omega
   have t7 := Lib.hid (htab.out.below (hbl.out.trans (W6.out.1.mono (by omega))))
   have E7 : x9.heap[x4.heap.size + 1]? = _ := W6.out.2 (x4.heap.size + 1) _ e8.out (fun e => n8.out (Option.some.inj e)) (fun c fz e => by simp at e)
   have f0 : x9.cell? ⟨x4.heap.size + 1, 0, none⟩ = some (.int .u64 ((lo r : Nat) : Int)) := by rw [Lib.cell_of_heap E7]; rfl
   have f1 : x9.cell? ⟨x4.heap.size + 1, 1, none⟩ = some (.string (hs r)) := by rw [Lib.cell_of_heap E7]; rfl
   clear E7
   go_wp2_with fail
   refine (not1_v (w.heap.size + 1) (w.heap.size + 1) r p (p : Int) rfl (([45] ++ (List.replicate (1 - (Lib.decDigits q).length) 48 ++ Lib.decDigits q)) ++ [46]) hr.out hp.out (by have := hq1.out; simp; omega) _ hBd.out t7.out s7).mono ?_
   rintro e x10 ⟨rfl, hB7, hW7⟩
   replace hBd := Lib.hid hB7
   replace W6 := Lib.hid (W6.out.trans hW7)
   clear hB7 hW7 s7 t7 f0 f1
   have s7 : w.heap.size + 1 ≤ x10.heap.size := by have := W6.out.1.size; omega
   have hfin := hBd.out
   obtain ⟨fin, hf⟩ : ∃ f, f = (([45] ++ (List.replicate (1 - (Lib.decDigits q).length) 48 ++ Lib.decDigits q)) ++ [46]) ++ (List.replicate (p - (Lib.decDigits r).length) 48 ++ Lib.decDigits r) := ⟨_, rfl⟩
   rw [← hf] at hfin
   replace hf := Lib.hid hf
   replace hfin := Lib.hid hfin
   clear hBd
   go_wp2_with fail
   refine (Tryz.Builder_String_any_k _ _ fin _ hfin.out s7).mono ?_
   rintro e xe ⟨rfl, h1, h2, h3⟩
   replace W6 := Lib.hid (hbl.out.trans ((W6.out.1.trans h2).mono (by omega)))
   clear h1 h2 h3
   go_wp2_with fail
   exact bodyPost_ret (v := .string ⟨fin.toArray⟩) (by simp [results, Tryz.results53, go_sem]) rfl ⟨by rw [hf.out]; simp, W6.out⟩
  ·obtain rfl : s = [45] := hs1.out (by omega)
   obtain rfl : T = [] := ht0.out (by omega)
   have p4 : ¬ 0 < (p : Int) := by omega
   have W6 := Lib.hid (Wr.refl (w.heap.size + 1) (w.heap.size + 1) x6)
   go_wp2_with fail
   refine (ws_any (w.heap.size + 1) (w.heap.size + 1) [] [45] [45] _ rfl rfl _ hBd.out (by decide) s6).mono ?_
   rintro e x7 ⟨⟨v, rfl⟩, hB7, hW7⟩
   replace hBd := Lib.hid hB7
   replace W6 := Lib.hid (W6.out.trans hW7)
   clear hB7 hW7
   have s7 : w.heap.size + 1 ≤ x7.heap.size := by have := W6.out.1.size; omega
   have t7 := Lib.hid (htab.out.below (hbl.out.trans (W6.out.1.mono (by omega))))
   have E7 : x7.heap[x4.heap.size]? = _ := W6.out.2 (x4.heap.size) _ e7.out (fun e => n7.out (Option.some.inj e)) (fun c fz e => by simp at e)
   have f0 : x7.cell? ⟨x4.heap.size, 0, none⟩ = some (.int .u64 ((lo q : Nat) : Int)) := by rw [Lib.cell_of_heap E7]; rfl
   have f1 : x7.cell? ⟨x4.heap.size, 1, none⟩ = some (.string (hs q)) := by rw [Lib.cell_of_heap E7]; rfl
   clear E7
   go_wp2_with fail
   refine (not1_v (w.heap.size + 1) (w.heap.size + 1) q 1 1 rfl [45] hq.out (by decide) (by decide) _ hBd.out t7.out s7).mono ?_
   rintro e x8 ⟨rfl, hB7, hW7⟩
   replace hBd := Lib.hid hB7
   replace W6 := Lib.hid (W6.out.trans hW7)
   clear hB7 hW7 s7 t7 f0 f1
   have s7 : w.heap.size + 1 ≤ x8.heap.size := by have := W6.out.1.size; omega
   have hfin := hBd.out
   obtain ⟨fin, hf⟩ : ∃ f, f = ([45] ++ (List.replicate (1 - (Lib.decDigits q).length) 48 ++ Lib.decDigits q)) := ⟨_, rfl⟩
   rw [← hf] at hfin
   replace hf := Lib.hid hf
   replace hfin := Lib.hid hfin
   clear hBd
   go_wp2_with fail
   refine (Tryz.Builder_String_any_k _ _ fin _ hfin.out s7).mono ?_
   rintro e xe ⟨rfl, h1, h2, h3⟩
   replace W6 := Lib.hid (hbl.out.trans ((W6.out.1.trans h2).mono (by omega)))
   clear h1 h2 h3
   go_wp2_with fail
   exact bodyPost_ret (v := .string ⟨fin.toArray⟩) (by simp [results, Tryz.results53, go_sem]) rfl ⟨by rw [hf.out]; simp, W6.out⟩
 ·by_cases g2 : 0 < p
  ·obtain rfl : s = [] := hs0.out (by omega)
   obtain rfl : T = [46] ++ (List.replicate (p - (Lib.decDigits r).length) 48 ++ Lib.decDigits r) := ht1.out (by omega)
   have p4 : 0 < (p : Int) := by omega
   have W6 := Lib.hid (Wr.refl (w.heap.size + 1) (w.heap.size + 1) x6)
   have s7 : w.heap.size + 1 ≤ x6.heap.size := by have := W6.out.1.size; omega
   have t7 := Lib.hid (htab.out.below (hbl.out.trans (W6.out.1.mono (by omega))))
   have E7 : x6.heap[x4.heap.size]? = _ := W6.out.2 (x4.heap.size) _ e7.out (fun e => n7.out (Option.some.inj e)) (fun c fz e => by simp at e)
   have f0 : x6.cell? ⟨x4.heap.size, 0, none⟩ = some (.int .u64 ((lo q : Nat) : Int)) := by rw [Lib.cell_of_heap E7]; rfl
   have f1 : x6.cell? ⟨x4.heap.size, 1, none⟩ = some (.string (hs q)) := by rw [Lib.cell_of_heap E7]; rfl
   clear E7
   go_wp2_with fail
   refine (not1_v (w.heap.size + 1) (w.heap.size + 1) q 1 1 rfl [] hq.out (by decide) (by decide) _ hBd.out t7.out s7).mono ?_
   rintro e x8 ⟨rfl, hB7, hW7⟩
   replace hBd := Lib.hid hB7
   replace W6 := Lib.hid (W6.out.trans hW7)
   clear hB7 hW7 s7 t7 f0 f1
   have s7 : w.heap.size + 1 ≤ x8.heap.size := by have := W6.out.1.size; omega
   go_wp2_with fail
   refine (ws_any (w.heap.size + 1) (w.heap.size + 1) ([] ++ (List.replicate (1 - (Lib.decDigits q).length) 48 ++ Lib.decDigits q)) [46] (([] ++ (List.replicate (1 - (Lib.decDigits q).length) 48 ++ Lib.decDigits q)) ++ [46]) _ rfl rfl _ hBd.out (by have := hq1.out; simp; omega) s7).mono ?_
   rintro e x9 ⟨⟨v2, rfl⟩, hB7, hW7⟩
   replace hBd := Lib.hid hB7
   replace W6 := Lib.hid (W6.out.trans hW7)
   clear hB7 hW7 s7
   have s7 : w.heap.size + 1 ≤ x9.heap.size := by have := W6.out.1.size; omega
   have t7 := Lib.hid (htab.out.below (hbl.out.trans (W6.out.1.mono (by omega))))
   have E7 : x9.heap[x4.heap.size + 1]? = _ := W6.out.2 (x4.heap.size + 1) _ e8.out (fun e => n8.out (Option.some.inj e)) (fun c fz e => by simp at e)
   have f0 : x9.cell? ⟨x4.heap.size + 1, 0, none⟩ = some (.int .u64 ((lo r : Nat) : Int)) := by rw [Lib.cell_of_heap E7]; rfl
   have f1 : x9.cell? ⟨x4.heap.size + 1, 1, none⟩ = some (.string (hs r)) := by rw [Lib.cell_of_heap E7]; rfl
   clear E7
   go_wp2_with fail
   refine (not1_v (w.heap.size + 1) (w.heap.size + 1) r p (p : Int) rfl (([] ++ (List.replicate (1 - (Lib.decDigits q).length) 48 ++ Lib.decDigits q)) ++ [46]) hr.out hp.out (by have := hq1.out; simp; omega) _ hBd.out t7.out s7).mono ?_
   rintro e x10 ⟨rfl, hB7, hW7⟩
   replace hBd := Lib.hid hB7
   replace W6 := Lib.hid (W6.out.trans hW7)
   clear hB7 hW7 s7 t7 f0 f1
   have s7 : w.heap.size + 1 ≤ x10.heap.size := by have := W6.out.1.size; omega
   have hfin := hBd.out
   obtain ⟨fin, hf⟩ : ∃ f, f = (([] ++ (List.replicate (1 - (Lib.decDigits q).length) 48 ++ Lib.decDigits q)) ++ [46]) ++ (List.replicate (p - (Lib.decDigits r).length) 48 ++ Lib.decDigits r) := ⟨_, rfl⟩
   rw [← hf] at hfin
   replace hf := Lib.hid hf
   replace hfin := Lib.hid hfin
   clear hBd
   go_wp2_with fail
   refine (Tryz.Builder_String_any_k _ _ fin _ hfin.out s7).mono ?_
   rintro e xe ⟨rfl, h1, h2, h3⟩
   replace W6 := Lib.hid (hbl.out.trans ((W6.out.1.trans h2).mono (by omega)))
   clear h1 h2 h3
   go_wp2_with fail
   exact bodyPost_ret (v := .string ⟨fin.toArray⟩) (by simp [results, Tryz.results53, go_sem]) rfl ⟨by rw [hf.out]; simp, W6.out⟩
  ·obtain rfl : s = [] := hs0.out (by omega)
   obtain rfl : T = [] := ht0.out (by omega)
   have p4 : ¬ 0 < (p : Int) := by omega
   have W6 := Lib.hid (Wr.refl (w.heap.size + 1) (w.heap.size + 1) x6)
   have s7 : w.heap.size + 1 ≤ x6.heap.size := by have := W6.out.1.size; omega
   have t7 := Lib.hid (htab.out.below (hbl.out.trans (W6.out.1.mono (by omega))))
   have E7 : x6.heap[x4.heap.size]? = _ := W6.out.2 (x4.heap.size) _ e7.out (fun e => n7.out (Option.some.inj e)) (fun c fz e => by simp at e)
   have f0 : x6.cell? ⟨x4.heap.size, 0, none⟩ = some (.int .u64 ((lo q : Nat) : Int)) := by rw [Lib.cell_of_heap E7]; rfl
   have f1 : x6.cell? ⟨x4.heap.size, 1, none⟩ = some (.string (hs q)) := by rw [Lib.cell_of_heap E7]; rfl
   clear E7
   go_wp2_with fail
   refine (not1_v (w.heap.size + 1) (w.heap.size + 1) q 1 1 rfl [] hq.out (by decide) (by decide) _ hBd.out t7.out s7).mono ?_
   rintro e x8 ⟨rfl, hB7, hW7⟩
   replace hBd := Lib.hid hB7
   replace W6 := Lib.hid (W6.out.trans hW7)
   clear hB7 hW7 s7 t7 f0 f1
   have s7 : w.heap.size + 1 ≤ x8.heap.size := by have := W6.out.1.size; omega
   have hfin := hBd.out
   obtain ⟨fin, hf⟩ : ∃ f, f = ([] ++ (List.replicate (1 - (Lib.decDigits q).length) 48 ++ Lib.decDigits q)) := ⟨_, rfl⟩
   rw [← hf] at hfin
   replace hf := Lib.hid hf
   replace hfin := Lib.hid hfin
   clear hBd
   go_wp2_with fail
   refine (Tryz.Builder_String_any_k _ _ fin _ hfin.out s7).mono ?_
   rintro e xe ⟨rfl, h1, h2, h3⟩
   replace W6 := Lib.hid (hbl.out.trans ((W6.out.1.trans h2).mono (by omega)))
   clear h1 h2 h3
   go_wp2_with fail
   exact bodyPost_ret (v := .string ⟨fin.toArray⟩) (by simp [results, Tryz.results53, go_sem]) rfl ⟨by rw [hf.out]; simp, W6.out⟩
end Go.Proofs.YtahfcciihkkegaaGreatDoor
namespace Go.Proofs.YtahfcciihkkegaaGreatDoor
open Go.RowKit
attribute [local irreducible] lo hs sm s64 c64 d64 b64 mh ml pd pc qd qc val hiB str cmpI srD lz nb isq decB zl zh zs fe txt
theorem dtext_err (a : Rat) (n v z c : Int) (HR : RT 45 #[fracV a, .int .i64 n, .int .i64 v] (.tuple #[intV z, .int .i64 c])) (h1 : (c != 0) = true) (w : World) :
  Calls Tryz.prog 14 #[fracV a, .int .i64 n, .int .i64 v] w fun xe w' => xe = .returned (.tuple #[.string ⟨#[]⟩, .int .i64 c]) ∧ Below w.heap.size w w' := by
 have hL0 : GL w w [] := GL.start w
 replace HR := Lib.hid HR
 obtain ⟨x1, hweq, hL0⟩ := GL.named (hL0.new rfl [.int .u64 ((zl a.num : Nat) : Int), .string (zh a.num), .bool (zs a.num), .int .u64 ((lo (fe a) : Nat) : Int), .string (hs (fe a))] 34)
 go_enter Tryz.func14, Tryz.ntmps14
 have hN0 := cells_of _ 0 [] rfl (hL0.get _ _ mZ)
 simp only [zF, Nat.reduceAdd] at hN0
 go_wp2_with fail
 clear hN0
 with_reducible refine Calls.mono (HR.out _) ?_
 rintro e x2 ⟨rfl, hb⟩
 replace hL0 := hL0.call hb
 clear hb hweq
 obtain ⟨x3, hweq, hL0⟩ := GL.named (hL0.new rfl [.int .u64 ((zl z : Nat) : Int), .string (zh z), .bool (zs z)] 32)
 go_wp2_with fail
 exact bodyPost_ret (v := .tuple #[.string ⟨#[]⟩, .int .i64 c]) (by simp [results, Tryz.results14, go_sem]) rfl ⟨rfl, hL0.bl⟩
theorem dtext_ok (a : Rat) (n v z : Int) (s : ByteArray) (HR : RT 45 #[fracV a, .int .i64 n, .int .i64 v] (.tuple #[intV z, .int .i64 0])) (HN : RK Tab 53 #[intV z, .int .i64 n] (.string s)) (w : World) (htab : Tab w) :
  Calls Tryz.prog 14 #[fracV a, .int .i64 n, .int .i64 v] w fun xe w' => xe = .returned (.tuple #[.string s, .int .i64 0]) ∧ Below w.heap.size w w' := by
 have hL0 : GL w w [] := GL.start w
 replace HR := Lib.hid HR
 replace HN := Lib.hid HN
 obtain ⟨x1, hweq, hL0⟩ := GL.named (hL0.new rfl [.int .u64 ((zl a.num : Nat) : Int), .string (zh a.num), .bool (zs a.num), .int .u64 ((lo (fe a) : Nat) : Int), .string (hs (fe a))] 34)
 go_enter Tryz.func14, Tryz.ntmps14
 have hN0 := cells_of _ 0 [] rfl (hL0.get _ _ mZ)
 simp only [zF, Nat.reduceAdd] at hN0
 go_wp2_with fail
 clear hN0
 with_reducible refine Calls.mono (HR.out _) ?_
 rintro e x2 ⟨rfl, hb⟩
 replace hL0 := hL0.call hb
 clear hb hweq
 obtain ⟨x3, hweq, hL0⟩ := GL.named (hL0.new rfl [.int .u64 ((zl z : Nat) : Int), .string (zh z), .bool (zs z)] 32)
 have hN0 := cells_of _ 0 [] rfl (hL0.get _ _ mZ)
 simp only [zF, Nat.reduceAdd] at hN0
 go_wp2_with fail
 clear hN0
 with_reducible refine Calls.mono (HN.out _ (htab.below hL0.bl)) ?_
 rintro e x4 ⟨rfl, hb⟩
 replace hL0 := hL0.call hb
 clear hb hweq
 go_wp2_with fail
 exact bodyPost_ret (v := .tuple #[.string s, .int .i64 0]) (by simp [results, Tryz.results14, go_sem]) rfl ⟨rfl, hL0.bl⟩
theorem dbeh_ok (s t : ByteArray) (n k u r : Nat) (b : Bool) (HP : RT 66 #[.string t] (.tuple #[natV n, .int .i64 0])) (HT : RT 47 #[.int .i64 (k : Int)] (natV u)) (HS : RT 130 #[natV n, natV u] (.tuple #[natV r, .bool b])) (hp : (ByteArray.mk #[49]) ++ s = t) (hk : s.size = k) (hk2 : ¬ 9223372036854775807 < 1 + k) (hk3 : ¬ 9223372036854775806 < k) (hk4 : 1 + k ≤ 9223372036854775807) (w : World) :
  Calls Tryz.prog 67 #[.string s] w fun xe w' => xe = .returned (.tuple #[natV r, .int .i64 0]) ∧ Below w.heap.size w w' := by
 have hL0 : GL w w [] := GL.start w
 replace HP := Lib.hid HP
 replace HT := Lib.hid HT
 replace HS := Lib.hid HS
 obtain ⟨x1, hweq, hL0⟩ := GL.named (hL0.new rfl [.int .u64 0, .string ⟨#[]⟩] 30)
 go_enter Tryz.func67, Tryz.ntmps67
 go_wp2_with fail
 with_reducible refine Calls.mono (HP.out _) ?_
 rintro e x2 ⟨rfl, hb⟩
 replace hL0 := hL0.call hb
 clear hb hweq
 obtain ⟨x3, hweq, hL0⟩ := GL.named (hL0.new rfl [.int .u64 ((lo n : Nat) : Int), .string (hs n)] 30)
 go_upto_region 4 with fail
 clear hweq
 refine region_gh (by kernel_rfl) (by kernel_rfl) ?_
 refine lex_seg (gl := []) 8 (by kernel_rfl) ?_
 intro α iα F hF1 hF2
 have hq := GL.seg hF1 hL0
 simp only [zC, Nat.reduceAdd] at hq
 simp only [zT]
 repeat (go_big_quiet_step (first | fail | (go_at_call 47; with_reducible exact seg_call hF2 HT.out _) | (go_at_call 130; with_reducible exact seg_call hF2 HS.out _)))
 refine wpQuiet_nil ?_
 clear hq hF1 hF2 iα F α
 refine lex_new [.int .u64 0, .string ⟨#[]⟩] 6 30 30 rfl rfl (of_decide_eq_true (by kernel_rfl)) (by kernel_rfl) rfl new_natc ?_
 simp only [Act.put, zP]
 refine lex_put [.int .u64 ((lo r : Nat) : Int), .string (hs r)] [.int .u64 0, .string ⟨#[]⟩] 6 30 (.tmp 24) rfl (by kernel_rfl) (by simp [toG, upd]) rfl (fun w k h => put_natc _ _ _ _ w k h) ?_
 simp only [Act.put]
 refine lex_seg (gl := [(6, [.int .u64 ((lo r : Nat) : Int), .string (hs r)], true), (6, [.int .u64 0, .string ⟨#[]⟩], false)]) 1 (by kernel_rfl) ?_
 intro α iα F hF1 hF2
 have hq := GL.seg hF1 hL0
 simp only [zC, Nat.reduceAdd] at hq
 simp only [zT]
 repeat (go_big_quiet_step (first | fail | (go_at_call 47; with_reducible exact seg_call hF2 HT.out _) | (go_at_call 130; with_reducible exact seg_call hF2 HS.out _)))
 refine wpQuiet_nil ?_
 clear hq hF1 hF2 iα F α
 refine lexG_nil ?_
 intro κ x4 hS
 replace hL0 := hL0.ghs hS [(6, [.int .u64 ((lo r : Nat) : Int), .string (hs r)])] (by simp) (by intro p hp; simp only [List.mem_cons, List.not_mem_nil, or_false] at hp; rcases hp with rfl <;> exact ⟨_, by simp only [toG, upd]; rfl⟩)
 simp only [List.map_cons, List.map_nil, List.cons_append, List.nil_append] at hL0
 simp only [over_toG, over_nil, Act.put, zP]
 clear hS
 generalize κ 6 = k4_6 at *
 have hA := hL0.fc
 simp only [zF, Nat.reduceAdd] at hA
 obtain ⟨x5, hput1, hP⟩ := GL.named (hL0.put 2 (w.heap.size) _ rfl [.int .u64 ((lo r : Nat) : Int), .string (hs r)] rfl)
 simp only [setAll] at hput1
 simp only [List.set_cons_zero, List.set_cons_succ] at hP
 have hB1 := hP.fc
 simp only [zF, Nat.reduceAdd] at hB1
 replace hL0 := hP
 go_wp2_with fail
 exact bodyPost_ret (v := .tuple #[natV r, .int .i64 0]) (by simp [results, Tryz.results67, go_sem, hB1]) rfl ⟨rfl, hL0.bl⟩
theorem dparse_end (s d p : ByteArray) (l : Nat) (g : Bool) (HC : RT 64 #[.string s, .string (ByteArray.mk #[45])] (.tuple #[.string d, .bool g])) (KT : World → Prop) (hKT : Keeps KT) (HU : RK KT 65 #[.string d, .string (ByteArray.mk #[46])] (.tuple #[.string p, .string ⟨#[]⟩, .bool true])) (hl : s.size = l) (h0 : decide (4096 < (l : Int)) = false) (w : World) (kKT : KT w) :
  Calls Tryz.prog 19 #[.string s] w fun xe w' => xe = .returned (.tuple #[.agg #[.int .u64 0, .string ⟨#[]⟩, .bool false, .int .u64 0, .string ⟨#[]⟩], .int .i64 4]) ∧ Below w.heap.size w w' := by
 have hL0 : GL w w [] := GL.start w
 replace HC := Lib.hid HC
 replace hKT := Lib.hid hKT
 replace HU := Lib.hid HU
 obtain ⟨x1, hweq, hL0⟩ := GL.named (hL0.new rfl [.int .u64 0, .string ⟨#[]⟩, .bool false, .int .u64 0, .string ⟨#[]⟩] 34)
 go_enter Tryz.func19, Tryz.ntmps19
 go_wp2_with fail
 with_reducible refine Calls.mono (HC.out _) ?_
 rintro e x2 ⟨rfl, hb⟩
 replace hL0 := hL0.call hb
 clear hb hweq
 go_wp2_with fail
 with_reducible refine Calls.mono (HU.out _ (hKT.out.at hL0.bl kKT)) ?_
 rintro e x3 ⟨rfl, hb⟩
 replace hL0 := hL0.call hb
 clear hb
 have hA := hL0.fc
 simp only [zF, Nat.reduceAdd] at hA
 obtain ⟨x4, hput1, hP⟩ := GL.named (hL0.put 0 (w.heap.size) _ rfl [.int .u64 0, .string ⟨#[]⟩, .bool false, .int .u64 0, .string ⟨#[]⟩] rfl)
 simp only [setAll] at hput1
 simp only [List.set_cons_zero, List.set_cons_succ] at hP
 have hB1 := hP.fc
 simp only [zF, Nat.reduceAdd] at hB1
 replace hL0 := hP
 go_wp2_with fail
 exact bodyPost_ret (v := .tuple #[.agg #[.int .u64 0, .string ⟨#[]⟩, .bool false, .int .u64 0, .string ⟨#[]⟩], .int .i64 4]) (by simp [results, Tryz.results19, go_sem, hB1]) rfl ⟨rfl, hL0.bl⟩
theorem dparse_high_f (s d p q : ByteArray) (l h : Nat) (c : Int) (g : Bool) (HC : RT 64 #[.string s, .string (ByteArray.mk #[45])] (.tuple #[.string d, .bool g])) (KT : World → Prop) (hKT : Keeps KT) (HU : RK KT 65 #[.string d, .string (ByteArray.mk #[46])] (.tuple #[.string p, .string q, .bool false])) (HP : RT 66 #[.string p] (.tuple #[natV h, .int .i64 c])) (hl : s.size = l) (h0 : decide (4096 < (l : Int)) = false) (h1 : (c != 0) = true) (w : World) (kKT : KT w) :
  Calls Tryz.prog 19 #[.string s] w fun xe w' => xe = .returned (.tuple #[.agg #[.int .u64 0, .string ⟨#[]⟩, .bool false, .int .u64 0, .string ⟨#[]⟩], .int .i64 c]) ∧ Below w.heap.size w w' := by
 have hL0 : GL w w [] := GL.start w
 replace HC := Lib.hid HC
 replace hKT := Lib.hid hKT
 replace HU := Lib.hid HU
 replace HP := Lib.hid HP
 obtain ⟨x1, hweq, hL0⟩ := GL.named (hL0.new rfl [.int .u64 0, .string ⟨#[]⟩, .bool false, .int .u64 0, .string ⟨#[]⟩] 34)
 go_enter Tryz.func19, Tryz.ntmps19
 go_wp2_with fail
 with_reducible refine Calls.mono (HC.out _) ?_
 rintro e x2 ⟨rfl, hb⟩
 replace hL0 := hL0.call hb
 clear hb hweq
 go_wp2_with fail
 with_reducible refine Calls.mono (HU.out _ (hKT.out.at hL0.bl kKT)) ?_
 rintro e x3 ⟨rfl, hb⟩
 replace hL0 := hL0.call hb
 clear hb
 go_wp2_with fail
 with_reducible refine Calls.mono (HP.out _) ?_
 rintro e x4 ⟨rfl, hb⟩
 replace hL0 := hL0.call hb
 clear hb
 obtain ⟨x5, hweq, hL0⟩ := GL.named (hL0.new rfl [.int .u64 ((lo h : Nat) : Int), .string (hs h)] 30)
 have hA := hL0.fc
 simp only [zF, Nat.reduceAdd] at hA
 obtain ⟨x6, hput1, hP⟩ := GL.named (hL0.put 1 (w.heap.size) _ rfl [.int .u64 0, .string ⟨#[]⟩, .bool false, .int .u64 0, .string ⟨#[]⟩] rfl)
 simp only [setAll] at hput1
 simp only [List.set_cons_zero, List.set_cons_succ] at hP
 have hB1 := hP.fc
 simp only [zF, Nat.reduceAdd] at hB1
 replace hL0 := hP
 go_wp2_with fail
 exact bodyPost_ret (v := .tuple #[.agg #[.int .u64 0, .string ⟨#[]⟩, .bool false, .int .u64 0, .string ⟨#[]⟩], .int .i64 c]) (by simp [results, Tryz.results19, go_sem, hB1]) rfl ⟨rfl, hL0.bl⟩
theorem dparse_zero_f (s d p q : ByteArray) (l h m k u x : Nat) (HC : RT 64 #[.string s, .string (ByteArray.mk #[45])] (.tuple #[.string d, .bool true])) (KT : World → Prop) (hKT : Keeps KT) (HU : RK KT 65 #[.string d, .string (ByteArray.mk #[46])] (.tuple #[.string p, .string q, .bool false])) (HP : RT 66 #[.string p] (.tuple #[natV h, .int .i64 0])) (HB : RT 67 #[.string q] (.tuple #[natV m, .int .i64 0])) (HT : RT 47 #[.int .i64 (k : Int)] (natV u)) (HM : RT 68 #[natV h, natV u] (natV x)) (HA : RT 49 #[natV x, natV m] (natV 0)) (HO : RT 52 #[.int .u64 0] (natV 0)) (hl : s.size = l) (h0 : decide (4096 < (l : Int)) = false) (hk : q.size = k) (w : World) (kKT : KT w) :
  Calls Tryz.prog 19 #[.string s] w fun xe w' => xe = .returned (.tuple #[.agg #[.int .u64 0, .string ⟨#[]⟩, .bool false, .int .u64 0, .string ⟨#[]⟩], .int .i64 4]) ∧ Below w.heap.size w w' := by
 have hL0 : GL w w [] := GL.start w
 replace HC := Lib.hid HC
 replace hKT := Lib.hid hKT
 replace HU := Lib.hid HU
 replace HP := Lib.hid HP
 replace HB := Lib.hid HB
 replace HT := Lib.hid HT
 replace HM := Lib.hid HM
 replace HA := Lib.hid HA
 replace HO := Lib.hid HO
 obtain ⟨x1, hweq, hL0⟩ := GL.named (hL0.new rfl [.int .u64 0, .string ⟨#[]⟩, .bool false, .int .u64 0, .string ⟨#[]⟩] 34)
 go_enter Tryz.func19, Tryz.ntmps19
 go_wp2_with fail
 with_reducible refine Calls.mono (HC.out _) ?_
 rintro e x2 ⟨rfl, hb⟩
 replace hL0 := hL0.call hb
 clear hb hweq
 go_wp2_with fail
 with_reducible refine Calls.mono (HU.out _ (hKT.out.at hL0.bl kKT)) ?_
 rintro e x3 ⟨rfl, hb⟩
 replace hL0 := hL0.call hb
 clear hb
 go_wp2_with fail
 with_reducible refine Calls.mono (HP.out _) ?_
 rintro e x4 ⟨rfl, hb⟩
 replace hL0 := hL0.call hb
 clear hb
 obtain ⟨x5, hweq, hL0⟩ := GL.named (hL0.new rfl [.int .u64 ((lo h : Nat) : Int), .string (hs h)] 30)
 go_wp2_with fail
 with_reducible refine Calls.mono (HB.out _) ?_
 rintro e x6 ⟨rfl, hb⟩
 replace hL0 := hL0.call hb
 clear hb hweq
 obtain ⟨x7, hweq, hL0⟩ := GL.named (hL0.new rfl [.int .u64 ((lo m : Nat) : Int), .string (hs m)] 30)
 go_wp2_with fail
 with_reducible refine Calls.mono (HT.out _) ?_
 rintro e x8 ⟨rfl, hb⟩
 replace hL0 := hL0.call hb
 clear hb hweq
 obtain ⟨x9, hweq, hL0⟩ := GL.named (hL0.new rfl [.int .u64 ((lo u : Nat) : Int), .string (hs u)] 30)
 go_upto_region 14 with fail
 clear hweq
 refine region_gh (by kernel_rfl) (by kernel_rfl) ?_
 refine lex_seg (gl := []) 5 (by kernel_rfl) ?_
 intro α iα F hF1 hF2
 have hq := GL.seg hF1 hL0
 simp only [zC, Nat.reduceAdd] at hq
 simp only [zT]
 repeat (go_big_quiet_step (first | fail | (go_at_call 68; with_reducible exact seg_call hF2 HM.out _) | (go_at_call 49; with_reducible exact seg_call hF2 HA.out _)))
 refine wpQuiet_nil ?_
 clear hq hF1 hF2 iα F α
 refine lex_new [.int .u64 0, .string ⟨#[]⟩] 13 30 30 rfl rfl (of_decide_eq_true (by kernel_rfl)) (by kernel_rfl) rfl new_natc ?_
 simp only [Act.put, zP]
 refine lex_put [.int .u64 ((lo 0 : Nat) : Int), .string (hs 0)] [.int .u64 0, .string ⟨#[]⟩] 13 30 (.tmp 60) rfl (by kernel_rfl) (by simp [toG, upd]) rfl (fun w k h => put_natc _ _ _ _ w k h) ?_
 simp only [Act.put]
 refine lexG_nil ?_
 intro κ x10 hS
 replace hL0 := hL0.ghs hS [(13, [.int .u64 ((lo 0 : Nat) : Int), .string (hs 0)])] (by simp) (by intro p hp; simp only [List.mem_cons, List.not_mem_nil, or_false] at hp; rcases hp with rfl <;> exact ⟨_, by simp only [toG, upd]; rfl⟩)
 simp only [List.map_cons, List.map_nil, List.cons_append, List.nil_append] at hL0
 simp only [over_toG, over_nil, Act.put, zP]
 clear hS
 generalize κ 13 = k10_13 at *
 go_upto_region 15 with fail
 obtain ⟨α, iα, F, hF1, hF2⟩ := cls x10
 have hq0 := cls_box hF1 hL0 _ _ mZ
 simp only [zC, Nat.reduceAdd] at hq0
 refine region_qs 6 (C := fun w' => ∃ x, w' = F x) (by kernel_rfl) (by kernel_rfl) (cls_drew hF2) ?_
 simp only [zT]
 repeat (go_big_quiet_step (first | fail | (go_at_call 52; with_reducible exact cls_call hF1 hF2 HO.out _)))
 refine wpQuiet_nil ?_
 rintro wq ⟨xq, rfl⟩
 replace hL0 := hL0.call (hF1 xq)
 clear  hq0 hF2
 generalize F xq = x11 at hL0 ⊢
 clear hF1 xq iα F α
 have hA := hL0.fc
 simp only [zF, Nat.reduceAdd] at hA
 obtain ⟨x12, hput1, hP⟩ := GL.named (hL0.put 4 (w.heap.size) _ rfl [.int .u64 0, .string ⟨#[]⟩, .bool false, .int .u64 0, .string ⟨#[]⟩] rfl)
 simp only [setAll] at hput1
 simp only [List.set_cons_zero, List.set_cons_succ] at hP
 have hB1 := hP.fc
 simp only [zF, Nat.reduceAdd] at hB1
 replace hL0 := hP
 go_wp2_with fail
 exact bodyPost_ret (v := .tuple #[.agg #[.int .u64 0, .string ⟨#[]⟩, .bool false, .int .u64 0, .string ⟨#[]⟩], .int .i64 4]) (by simp [results, Tryz.results19, go_sem, hB1]) rfl ⟨rfl, hL0.bl⟩
theorem dparse_pos_f (s d p q : ByteArray) (l h m k u x y : Nat) (z e : Int) (a : Rat) (HC : RT 64 #[.string s, .string (ByteArray.mk #[45])] (.tuple #[.string d, .bool false])) (KT : World → Prop) (hKT : Keeps KT) (HU : RK KT 65 #[.string d, .string (ByteArray.mk #[46])] (.tuple #[.string p, .string q, .bool false])) (HP : RT 66 #[.string p] (.tuple #[natV h, .int .i64 0])) (HB : RT 67 #[.string q] (.tuple #[natV m, .int .i64 0])) (HT : RT 47 #[.int .i64 (k : Int)] (natV u)) (HM : RT 68 #[natV h, natV u] (natV x)) (HA : RT 49 #[natV x, natV m] (natV y)) (HJ : RT 69 #[.bool false, natV y] (intV z)) (HF : RT 46 #[intV z, natV u] (.tuple #[fracV a, .int .i64 e])) (hl : s.size = l) (h0 : decide (4096 < (l : Int)) = false) (hk : q.size = k) (w : World) (kKT : KT w) :
  Calls Tryz.prog 19 #[.string s] w fun xe w' => xe = .returned (.tuple #[fracV a, .int .i64 e]) ∧ Below w.heap.size w w' := by
 have hL0 : GL w w [] := GL.start w
 replace HC := Lib.hid HC
 replace hKT := Lib.hid hKT
 replace HU := Lib.hid HU
 replace HP := Lib.hid HP
 replace HB := Lib.hid HB
 replace HT := Lib.hid HT
 replace HM := Lib.hid HM
 replace HA := Lib.hid HA
 replace HJ := Lib.hid HJ
 replace HF := Lib.hid HF
 obtain ⟨x1, hweq, hL0⟩ := GL.named (hL0.new rfl [.int .u64 0, .string ⟨#[]⟩, .bool false, .int .u64 0, .string ⟨#[]⟩] 34)
 go_enter Tryz.func19, Tryz.ntmps19
 go_wp2_with fail
 with_reducible refine Calls.mono (HC.out _) ?_
 rintro e x2 ⟨rfl, hb⟩
 replace hL0 := hL0.call hb
 clear hb hweq
 go_wp2_with fail
 with_reducible refine Calls.mono (HU.out _ (hKT.out.at hL0.bl kKT)) ?_
 rintro e x3 ⟨rfl, hb⟩
 replace hL0 := hL0.call hb
 clear hb
 go_wp2_with fail
 with_reducible refine Calls.mono (HP.out _) ?_
 rintro e x4 ⟨rfl, hb⟩
 replace hL0 := hL0.call hb
 clear hb
 obtain ⟨x5, hweq, hL0⟩ := GL.named (hL0.new rfl [.int .u64 ((lo h : Nat) : Int), .string (hs h)] 30)
 go_wp2_with fail
 with_reducible refine Calls.mono (HB.out _) ?_
 rintro e x6 ⟨rfl, hb⟩
 replace hL0 := hL0.call hb
 clear hb hweq
 obtain ⟨x7, hweq, hL0⟩ := GL.named (hL0.new rfl [.int .u64 ((lo m : Nat) : Int), .string (hs m)] 30)
 go_wp2_with fail
 with_reducible refine Calls.mono (HT.out _) ?_
 rintro e x8 ⟨rfl, hb⟩
 replace hL0 := hL0.call hb
 clear hb hweq
 obtain ⟨x9, hweq, hL0⟩ := GL.named (hL0.new rfl [.int .u64 ((lo u : Nat) : Int), .string (hs u)] 30)
 go_upto_region 14 with fail
 clear hweq
 refine region_gh (by kernel_rfl) (by kernel_rfl) ?_
 refine lex_seg (gl := []) 5 (by kernel_rfl) ?_
 intro α iα F hF1 hF2
 have hq := GL.seg hF1 hL0
 simp only [zC, Nat.reduceAdd] at hq
 simp only [zT]
 repeat (go_big_quiet_step (first | fail | (go_at_call 68; with_reducible exact seg_call hF2 HM.out _) | (go_at_call 49; with_reducible exact seg_call hF2 HA.out _)))
 refine wpQuiet_nil ?_
 clear hq hF1 hF2 iα F α
 refine lex_new [.int .u64 0, .string ⟨#[]⟩] 13 30 30 rfl rfl (of_decide_eq_true (by kernel_rfl)) (by kernel_rfl) rfl new_natc ?_
 simp only [Act.put, zP]
 refine lex_put [.int .u64 ((lo y : Nat) : Int), .string (hs y)] [.int .u64 0, .string ⟨#[]⟩] 13 30 (.tmp 60) rfl (by kernel_rfl) (by simp [toG, upd]) rfl (fun w k h => put_natc _ _ _ _ w k h) ?_
 simp only [Act.put]
 refine lexG_nil ?_
 intro κ x10 hS
 replace hL0 := hL0.ghs hS [(13, [.int .u64 ((lo y : Nat) : Int), .string (hs y)])] (by simp) (by intro p hp; simp only [List.mem_cons, List.not_mem_nil, or_false] at hp; rcases hp with rfl <;> exact ⟨_, by simp only [toG, upd]; rfl⟩)
 simp only [List.map_cons, List.map_nil, List.cons_append, List.nil_append] at hL0
 simp only [over_toG, over_nil, Act.put, zP]
 clear hS
 generalize κ 13 = k10_13 at *
 go_upto_region 15 with fail
 obtain ⟨α, iα, F, hF1, hF2⟩ := cls x10
 refine region_qs 6 (C := fun w' => ∃ x, w' = F x) (by kernel_rfl) (by kernel_rfl) (cls_drew hF2) ?_
 simp only [zT]
 repeat (go_big_quiet_step (first | fail))
 refine wpQuiet_nil ?_
 rintro wq ⟨xq, rfl⟩
 replace hL0 := hL0.call (hF1 xq)
 clear  hF2
 generalize F xq = x11 at hL0 ⊢
 clear hF1 xq iα F α
 go_upto_region 17 with fail
 obtain ⟨α, iα, F, hF1, hF2⟩ := cls x11
 have hq0 := cls_box hF1 hL0 _ _ mZ
 simp only [zC, Nat.reduceAdd] at hq0
 have hq1 := cls_box hF1 hL0 _ _ (mK mZ)
 simp only [zC, Nat.reduceAdd] at hq1
 refine region_qs 7 (C := fun w' => ∃ x, w' = F x) (by kernel_rfl) (by kernel_rfl) (cls_drew hF2) ?_
 simp only [zT]
 repeat (go_big_quiet_step (first | fail | (go_at_call 69; with_reducible exact cls_call hF1 hF2 HJ.out _) | (go_at_call 46; with_reducible exact cls_call hF1 hF2 HF.out _)))
 refine wpQuiet_nil ?_
 rintro wq ⟨xq, rfl⟩
 replace hL0 := hL0.call (hF1 xq)
 clear  hq0 hq1 hF2
 generalize F xq = x12 at hL0 ⊢
 clear hF1 xq iα F α
 have hA := hL0.fc
 simp only [zF, Nat.reduceAdd] at hA
 obtain ⟨x13, hput1, hP⟩ := GL.named (hL0.put 4 (w.heap.size) _ rfl [.int .u64 ((zl a.num : Nat) : Int), .string (zh a.num), .bool (zs a.num), .int .u64 ((lo (fe a) : Nat) : Int), .string (hs (fe a))] rfl)
 simp only [setAll] at hput1
 simp only [List.set_cons_zero, List.set_cons_succ] at hP
 have hB1 := hP.fc
 simp only [zF, Nat.reduceAdd] at hB1
 replace hL0 := hP
 go_wp2_with fail
 exact bodyPost_ret (v := .tuple #[fracV a, .int .i64 e]) (by simp [results, Tryz.results19, go_sem, hB1]) rfl ⟨rfl, hL0.bl⟩
theorem dparse_neg_f (s d p q : ByteArray) (l h m k u x y : Nat) (z e : Int) (a : Rat) (HC : RT 64 #[.string s, .string (ByteArray.mk #[45])] (.tuple #[.string d, .bool true])) (KT : World → Prop) (hKT : Keeps KT) (HU : RK KT 65 #[.string d, .string (ByteArray.mk #[46])] (.tuple #[.string p, .string q, .bool false])) (HP : RT 66 #[.string p] (.tuple #[natV h, .int .i64 0])) (HB : RT 67 #[.string q] (.tuple #[natV m, .int .i64 0])) (HT : RT 47 #[.int .i64 (k : Int)] (natV u)) (HM : RT 68 #[natV h, natV u] (natV x)) (HA : RT 49 #[natV x, natV m] (natV y)) (HO : RT 52 #[.int .u64 0] (natV 0)) (HJ : RT 69 #[.bool true, natV y] (intV z)) (HF : RT 46 #[intV z, natV u] (.tuple #[fracV a, .int .i64 e])) (hl : s.size = l) (h0 : decide (4096 < (l : Int)) = false) (hk : q.size = k) (hy : 0 < y) (w : World) (kKT : KT w) :
  Calls Tryz.prog 19 #[.string s] w fun xe w' => xe = .returned (.tuple #[fracV a, .int .i64 e]) ∧ Below w.heap.size w w' := by
 have hL0 : GL w w [] := GL.start w
 replace HC := Lib.hid HC
 replace hKT := Lib.hid hKT
 replace HU := Lib.hid HU
 replace HP := Lib.hid HP
 replace HB := Lib.hid HB
 replace HT := Lib.hid HT
 replace HM := Lib.hid HM
 replace HA := Lib.hid HA
 replace HO := Lib.hid HO
 replace HJ := Lib.hid HJ
 replace HF := Lib.hid HF
 have hz := eq_zero hy
 clear hy
 rcases hz with e0 | ⟨e0, e1⟩
 all_goals (
  obtain ⟨x1, hweq, hL0⟩ := GL.named (hL0.new rfl [.int .u64 0, .string ⟨#[]⟩, .bool false, .int .u64 0, .string ⟨#[]⟩] 34)
  go_enter Tryz.func19, Tryz.ntmps19
  go_wp2_with fail
  with_reducible refine Calls.mono (HC.out _) ?_
  rintro e x2 ⟨rfl, hb⟩
  replace hL0 := hL0.call hb
  clear hb hweq
  go_wp2_with fail
  with_reducible refine Calls.mono (HU.out _ (hKT.out.at hL0.bl kKT)) ?_
  rintro e x3 ⟨rfl, hb⟩
  replace hL0 := hL0.call hb
  clear hb
  go_wp2_with fail
  with_reducible refine Calls.mono (HP.out _) ?_
  rintro e x4 ⟨rfl, hb⟩
  replace hL0 := hL0.call hb
  clear hb
  obtain ⟨x5, hweq, hL0⟩ := GL.named (hL0.new rfl [.int .u64 ((lo h : Nat) : Int), .string (hs h)] 30)
  go_wp2_with fail
  with_reducible refine Calls.mono (HB.out _) ?_
  rintro e x6 ⟨rfl, hb⟩
  replace hL0 := hL0.call hb
  clear hb hweq
  obtain ⟨x7, hweq, hL0⟩ := GL.named (hL0.new rfl [.int .u64 ((lo m : Nat) : Int), .string (hs m)] 30)
  go_wp2_with fail
  with_reducible refine Calls.mono (HT.out _) ?_
  rintro e x8 ⟨rfl, hb⟩
  replace hL0 := hL0.call hb
  clear hb hweq
  obtain ⟨x9, hweq, hL0⟩ := GL.named (hL0.new rfl [.int .u64 ((lo u : Nat) : Int), .string (hs u)] 30)
  go_upto_region 14 with fail
  clear hweq
  refine region_gh (by kernel_rfl) (by kernel_rfl) ?_
  refine lex_seg (gl := []) 5 (by kernel_rfl) ?_
  intro α iα F hF1 hF2
  have hq := GL.seg hF1 hL0
  simp only [zC, Nat.reduceAdd] at hq
  simp only [zT]
  repeat (go_big_quiet_step (first | fail | (go_at_call 68; with_reducible exact seg_call hF2 HM.out _) | (go_at_call 49; with_reducible exact seg_call hF2 HA.out _)))
  refine wpQuiet_nil ?_
  clear hq hF1 hF2 iα F α
  refine lex_new [.int .u64 0, .string ⟨#[]⟩] 13 30 30 rfl rfl (of_decide_eq_true (by kernel_rfl)) (by kernel_rfl) rfl new_natc ?_
  simp only [Act.put, zP]
  refine lex_put [.int .u64 ((lo y : Nat) : Int), .string (hs y)] [.int .u64 0, .string ⟨#[]⟩] 13 30 (.tmp 60) rfl (by kernel_rfl) (by simp [toG, upd]) rfl (fun w k h => put_natc _ _ _ _ w k h) ?_
  simp only [Act.put]
  refine lexG_nil ?_
  intro κ x10 hS
  replace hL0 := hL0.ghs hS [(13, [.int .u64 ((lo y : Nat) : Int), .string (hs y)])] (by simp) (by intro p hp; simp only [List.mem_cons, List.not_mem_nil, or_false] at hp; rcases hp with rfl <;> exact ⟨_, by simp only [toG, upd]; rfl⟩)
  simp only [List.map_cons, List.map_nil, List.cons_append, List.nil_append] at hL0
  simp only [over_toG, over_nil, Act.put, zP]
  clear hS
  generalize κ 13 = k10_13 at *
  go_upto_region 15 with fail
  obtain ⟨α, iα, F, hF1, hF2⟩ := cls x10
  have hq0 := cls_box hF1 hL0 _ _ mZ
  simp only [zC, Nat.reduceAdd] at hq0
  refine region_qs 6 (C := fun w' => ∃ x, w' = F x) (by kernel_rfl) (by kernel_rfl) (cls_drew hF2) ?_
  simp only [zT]
  repeat (go_big_quiet_step (first | fail | (go_at_call 52; with_reducible exact cls_call hF1 hF2 HO.out _)))
  refine wpQuiet_nil ?_
  rintro wq ⟨xq, rfl⟩
  replace hL0 := hL0.call (hF1 xq)
  clear  hq0 hF2
  generalize F xq = x11 at hL0 ⊢
  clear hF1 xq iα F α
  go_upto_region 17 with fail
  obtain ⟨α, iα, F, hF1, hF2⟩ := cls x11
  have hq0 := cls_box hF1 hL0 _ _ mZ
  simp only [zC, Nat.reduceAdd] at hq0
  have hq1 := cls_box hF1 hL0 _ _ (mK mZ)
  simp only [zC, Nat.reduceAdd] at hq1
  refine region_qs 7 (C := fun w' => ∃ x, w' = F x) (by kernel_rfl) (by kernel_rfl) (cls_drew hF2) ?_
  simp only [zT]
  repeat (go_big_quiet_step (first | fail | (go_at_call 69; with_reducible exact cls_call hF1 hF2 HJ.out _) | (go_at_call 46; with_reducible exact cls_call hF1 hF2 HF.out _)))
  refine wpQuiet_nil ?_
  rintro wq ⟨xq, rfl⟩
  replace hL0 := hL0.call (hF1 xq)
  clear  hq0 hq1 hF2
  generalize F xq = x12 at hL0 ⊢
  clear hF1 xq iα F α
  have hA := hL0.fc
  simp only [zF, Nat.reduceAdd] at hA
  obtain ⟨x13, hput1, hP⟩ := GL.named (hL0.put 4 (w.heap.size) _ rfl [.int .u64 ((zl a.num : Nat) : Int), .string (zh a.num), .bool (zs a.num), .int .u64 ((lo (fe a) : Nat) : Int), .string (hs (fe a))] rfl)
  simp only [setAll] at hput1
  simp only [List.set_cons_zero, List.set_cons_succ] at hP
  have hB1 := hP.fc
  simp only [zF, Nat.reduceAdd] at hB1
  replace hL0 := hP
  go_wp2_with fail
  exact bodyPost_ret (v := .tuple #[fracV a, .int .i64 e]) (by simp [results, Tryz.results19, go_sem, hB1]) rfl ⟨rfl, hL0.bl⟩)
theorem dparse_high_t (s d p q : ByteArray) (l h : Nat) (c : Int) (g : Bool) (HC : RT 64 #[.string s, .string (ByteArray.mk #[45])] (.tuple #[.string d, .bool g])) (KT : World → Prop) (hKT : Keeps KT) (HU : RK KT 65 #[.string d, .string (ByteArray.mk #[46])] (.tuple #[.string p, .string q, .bool true])) (HP : RT 66 #[.string p] (.tuple #[natV h, .int .i64 c])) (hl : s.size = l) (h0 : decide (4096 < (l : Int)) = false) (hq : ¬ q.toList = []) (h1 : (c != 0) = true) (w : World) (kKT : KT w) :
  Calls Tryz.prog 19 #[.string s] w fun xe w' => xe = .returned (.tuple #[.agg #[.int .u64 0, .string ⟨#[]⟩, .bool false, .int .u64 0, .string ⟨#[]⟩], .int .i64 c]) ∧ Below w.heap.size w w' := by
 have hL0 : GL w w [] := GL.start w
 replace HC := Lib.hid HC
 replace hKT := Lib.hid hKT
 replace HU := Lib.hid HU
 replace HP := Lib.hid HP
 have hq1 : (q.toList == []) = false := by simpa using hq
 have hq2 : q.toList.isEmpty = false := by simpa using hq
 obtain ⟨x1, hweq, hL0⟩ := GL.named (hL0.new rfl [.int .u64 0, .string ⟨#[]⟩, .bool false, .int .u64 0, .string ⟨#[]⟩] 34)
 go_enter Tryz.func19, Tryz.ntmps19
 go_wp2_with fail
 with_reducible refine Calls.mono (HC.out _) ?_
 rintro e x2 ⟨rfl, hb⟩
 replace hL0 := hL0.call hb
 clear hb hweq
 go_wp2_with fail
 with_reducible refine Calls.mono (HU.out _ (hKT.out.at hL0.bl kKT)) ?_
 rintro e x3 ⟨rfl, hb⟩
 replace hL0 := hL0.call hb
 clear hb
 go_wp2_with fail
 with_reducible refine Calls.mono (HP.out _) ?_
 rintro e x4 ⟨rfl, hb⟩
 replace hL0 := hL0.call hb
 clear hb
 obtain ⟨x5, hweq, hL0⟩ := GL.named (hL0.new rfl [.int .u64 ((lo h : Nat) : Int), .string (hs h)] 30)
 have hA := hL0.fc
 simp only [zF, Nat.reduceAdd] at hA
 obtain ⟨x6, hput1, hP⟩ := GL.named (hL0.put 1 (w.heap.size) _ rfl [.int .u64 0, .string ⟨#[]⟩, .bool false, .int .u64 0, .string ⟨#[]⟩] rfl)
 simp only [setAll] at hput1
 simp only [List.set_cons_zero, List.set_cons_succ] at hP
 have hB1 := hP.fc
 simp only [zF, Nat.reduceAdd] at hB1
 replace hL0 := hP
 go_wp2_with fail
 exact bodyPost_ret (v := .tuple #[.agg #[.int .u64 0, .string ⟨#[]⟩, .bool false, .int .u64 0, .string ⟨#[]⟩], .int .i64 c]) (by simp [results, Tryz.results19, go_sem, hB1]) rfl ⟨rfl, hL0.bl⟩
theorem dparse_zero_t (s d p q : ByteArray) (l h m k u x : Nat) (HC : RT 64 #[.string s, .string (ByteArray.mk #[45])] (.tuple #[.string d, .bool true])) (KT : World → Prop) (hKT : Keeps KT) (HU : RK KT 65 #[.string d, .string (ByteArray.mk #[46])] (.tuple #[.string p, .string q, .bool true])) (HP : RT 66 #[.string p] (.tuple #[natV h, .int .i64 0])) (HB : RT 67 #[.string q] (.tuple #[natV m, .int .i64 0])) (HT : RT 47 #[.int .i64 (k : Int)] (natV u)) (HM : RT 68 #[natV h, natV u] (natV x)) (HA : RT 49 #[natV x, natV m] (natV 0)) (HO : RT 52 #[.int .u64 0] (natV 0)) (hl : s.size = l) (h0 : decide (4096 < (l : Int)) = false) (hq : ¬ q.toList = []) (hk : q.size = k) (w : World) (kKT : KT w) :
  Calls Tryz.prog 19 #[.string s] w fun xe w' => xe = .returned (.tuple #[.agg #[.int .u64 0, .string ⟨#[]⟩, .bool false, .int .u64 0, .string ⟨#[]⟩], .int .i64 4]) ∧ Below w.heap.size w w' := by
 have hL0 : GL w w [] := GL.start w
 replace HC := Lib.hid HC
 replace hKT := Lib.hid hKT
 replace HU := Lib.hid HU
 replace HP := Lib.hid HP
 replace HB := Lib.hid HB
 replace HT := Lib.hid HT
 replace HM := Lib.hid HM
 replace HA := Lib.hid HA
 replace HO := Lib.hid HO
 have hq1 : (q.toList == []) = false := by simpa using hq
 have hq2 : q.toList.isEmpty = false := by simpa using hq
 obtain ⟨x1, hweq, hL0⟩ := GL.named (hL0.new rfl [.int .u64 0, .string ⟨#[]⟩, .bool false, .int .u64 0, .string ⟨#[]⟩] 34)
 go_enter Tryz.func19, Tryz.ntmps19
 go_wp2_with fail
 with_reducible refine Calls.mono (HC.out _) ?_
 rintro e x2 ⟨rfl, hb⟩
 replace hL0 := hL0.call hb
 clear hb hweq
 go_wp2_with fail
 with_reducible refine Calls.mono (HU.out _ (hKT.out.at hL0.bl kKT)) ?_
 rintro e x3 ⟨rfl, hb⟩
 replace hL0 := hL0.call hb
 clear hb
 go_wp2_with fail
 with_reducible refine Calls.mono (HP.out _) ?_
 rintro e x4 ⟨rfl, hb⟩
 replace hL0 := hL0.call hb
 clear hb
 obtain ⟨x5, hweq, hL0⟩ := GL.named (hL0.new rfl [.int .u64 ((lo h : Nat) : Int), .string (hs h)] 30)
 go_wp2_with fail
 with_reducible refine Calls.mono (HB.out _) ?_
 rintro e x6 ⟨rfl, hb⟩
 replace hL0 := hL0.call hb
 clear hb hweq
 obtain ⟨x7, hweq, hL0⟩ := GL.named (hL0.new rfl [.int .u64 ((lo m : Nat) : Int), .string (hs m)] 30)
 go_wp2_with fail
 with_reducible refine Calls.mono (HT.out _) ?_
 rintro e x8 ⟨rfl, hb⟩
 replace hL0 := hL0.call hb
 clear hb hweq
 obtain ⟨x9, hweq, hL0⟩ := GL.named (hL0.new rfl [.int .u64 ((lo u : Nat) : Int), .string (hs u)] 30)
 go_upto_region 14 with fail
 clear hweq
 refine region_gh (by kernel_rfl) (by kernel_rfl) ?_
 refine lex_seg (gl := []) 5 (by kernel_rfl) ?_
 intro α iα F hF1 hF2
 have hq := GL.seg hF1 hL0
 simp only [zC, Nat.reduceAdd] at hq
 simp only [zT]
 repeat (go_big_quiet_step (first | fail | (go_at_call 68; with_reducible exact seg_call hF2 HM.out _) | (go_at_call 49; with_reducible exact seg_call hF2 HA.out _)))
 refine wpQuiet_nil ?_
 clear hq hF1 hF2 iα F α
 refine lex_new [.int .u64 0, .string ⟨#[]⟩] 13 30 30 rfl rfl (of_decide_eq_true (by kernel_rfl)) (by kernel_rfl) rfl new_natc ?_
 simp only [Act.put, zP]
 refine lex_put [.int .u64 ((lo 0 : Nat) : Int), .string (hs 0)] [.int .u64 0, .string ⟨#[]⟩] 13 30 (.tmp 60) rfl (by kernel_rfl) (by simp [toG, upd]) rfl (fun w k h => put_natc _ _ _ _ w k h) ?_
 simp only [Act.put]
 refine lexG_nil ?_
 intro κ x10 hS
 replace hL0 := hL0.ghs hS [(13, [.int .u64 ((lo 0 : Nat) : Int), .string (hs 0)])] (by simp) (by intro p hp; simp only [List.mem_cons, List.not_mem_nil, or_false] at hp; rcases hp with rfl <;> exact ⟨_, by simp only [toG, upd]; rfl⟩)
 simp only [List.map_cons, List.map_nil, List.cons_append, List.nil_append] at hL0
 simp only [over_toG, over_nil, Act.put, zP]
 clear hS
 generalize κ 13 = k10_13 at *
 go_upto_region 15 with fail
 obtain ⟨α, iα, F, hF1, hF2⟩ := cls x10
 have hq0 := cls_box hF1 hL0 _ _ mZ
 simp only [zC, Nat.reduceAdd] at hq0
 refine region_qs 6 (C := fun w' => ∃ x, w' = F x) (by kernel_rfl) (by kernel_rfl) (cls_drew hF2) ?_
 simp only [zT]
 repeat (go_big_quiet_step (first | fail | (go_at_call 52; with_reducible exact cls_call hF1 hF2 HO.out _)))
 refine wpQuiet_nil ?_
 rintro wq ⟨xq, rfl⟩
 replace hL0 := hL0.call (hF1 xq)
 clear  hq0 hF2
 generalize F xq = x11 at hL0 ⊢
 clear hF1 xq iα F α
 have hA := hL0.fc
 simp only [zF, Nat.reduceAdd] at hA
 obtain ⟨x12, hput1, hP⟩ := GL.named (hL0.put 4 (w.heap.size) _ rfl [.int .u64 0, .string ⟨#[]⟩, .bool false, .int .u64 0, .string ⟨#[]⟩] rfl)
 simp only [setAll] at hput1
 simp only [List.set_cons_zero, List.set_cons_succ] at hP
 have hB1 := hP.fc
 simp only [zF, Nat.reduceAdd] at hB1
 replace hL0 := hP
 go_wp2_with fail
 exact bodyPost_ret (v := .tuple #[.agg #[.int .u64 0, .string ⟨#[]⟩, .bool false, .int .u64 0, .string ⟨#[]⟩], .int .i64 4]) (by simp [results, Tryz.results19, go_sem, hB1]) rfl ⟨rfl, hL0.bl⟩
theorem dparse_pos_t (s d p q : ByteArray) (l h m k u x y : Nat) (z e : Int) (a : Rat) (HC : RT 64 #[.string s, .string (ByteArray.mk #[45])] (.tuple #[.string d, .bool false])) (KT : World → Prop) (hKT : Keeps KT) (HU : RK KT 65 #[.string d, .string (ByteArray.mk #[46])] (.tuple #[.string p, .string q, .bool true])) (HP : RT 66 #[.string p] (.tuple #[natV h, .int .i64 0])) (HB : RT 67 #[.string q] (.tuple #[natV m, .int .i64 0])) (HT : RT 47 #[.int .i64 (k : Int)] (natV u)) (HM : RT 68 #[natV h, natV u] (natV x)) (HA : RT 49 #[natV x, natV m] (natV y)) (HJ : RT 69 #[.bool false, natV y] (intV z)) (HF : RT 46 #[intV z, natV u] (.tuple #[fracV a, .int .i64 e])) (hl : s.size = l) (h0 : decide (4096 < (l : Int)) = false) (hq : ¬ q.toList = []) (hk : q.size = k) (w : World) (kKT : KT w) :
  Calls Tryz.prog 19 #[.string s] w fun xe w' => xe = .returned (.tuple #[fracV a, .int .i64 e]) ∧ Below w.heap.size w w' := by
 have hL0 : GL w w [] := GL.start w
 replace HC := Lib.hid HC
 replace hKT := Lib.hid hKT
 replace HU := Lib.hid HU
 replace HP := Lib.hid HP
 replace HB := Lib.hid HB
 replace HT := Lib.hid HT
 replace HM := Lib.hid HM
 replace HA := Lib.hid HA
 replace HJ := Lib.hid HJ
 replace HF := Lib.hid HF
 have hq1 : (q.toList == []) = false := by simpa using hq
 have hq2 : q.toList.isEmpty = false := by simpa using hq
 obtain ⟨x1, hweq, hL0⟩ := GL.named (hL0.new rfl [.int .u64 0, .string ⟨#[]⟩, .bool false, .int .u64 0, .string ⟨#[]⟩] 34)
 go_enter Tryz.func19, Tryz.ntmps19
 go_wp2_with fail
 with_reducible refine Calls.mono (HC.out _) ?_
 rintro e x2 ⟨rfl, hb⟩
 replace hL0 := hL0.call hb
 clear hb hweq
 go_wp2_with fail
 with_reducible refine Calls.mono (HU.out _ (hKT.out.at hL0.bl kKT)) ?_
 rintro e x3 ⟨rfl, hb⟩
 replace hL0 := hL0.call hb
 clear hb
 go_wp2_with fail
 with_reducible refine Calls.mono (HP.out _) ?_
 rintro e x4 ⟨rfl, hb⟩
 replace hL0 := hL0.call hb
 clear hb
 obtain ⟨x5, hweq, hL0⟩ := GL.named (hL0.new rfl [.int .u64 ((lo h : Nat) : Int), .string (hs h)] 30)
 go_wp2_with fail
 with_reducible refine Calls.mono (HB.out _) ?_
 rintro e x6 ⟨rfl, hb⟩
 replace hL0 := hL0.call hb
 clear hb hweq
 obtain ⟨x7, hweq, hL0⟩ := GL.named (hL0.new rfl [.int .u64 ((lo m : Nat) : Int), .string (hs m)] 30)
 go_wp2_with fail
 with_reducible refine Calls.mono (HT.out _) ?_
 rintro e x8 ⟨rfl, hb⟩
 replace hL0 := hL0.call hb
 clear hb hweq
 obtain ⟨x9, hweq, hL0⟩ := GL.named (hL0.new rfl [.int .u64 ((lo u : Nat) : Int), .string (hs u)] 30)
 go_upto_region 14 with fail
 clear hweq
 refine region_gh (by kernel_rfl) (by kernel_rfl) ?_
 refine lex_seg (gl := []) 5 (by kernel_rfl) ?_
 intro α iα F hF1 hF2
 have hq := GL.seg hF1 hL0
 simp only [zC, Nat.reduceAdd] at hq
 simp only [zT]
 repeat (go_big_quiet_step (first | fail | (go_at_call 68; with_reducible exact seg_call hF2 HM.out _) | (go_at_call 49; with_reducible exact seg_call hF2 HA.out _)))
 refine wpQuiet_nil ?_
 clear hq hF1 hF2 iα F α
 refine lex_new [.int .u64 0, .string ⟨#[]⟩] 13 30 30 rfl rfl (of_decide_eq_true (by kernel_rfl)) (by kernel_rfl) rfl new_natc ?_
 simp only [Act.put, zP]
 refine lex_put [.int .u64 ((lo y : Nat) : Int), .string (hs y)] [.int .u64 0, .string ⟨#[]⟩] 13 30 (.tmp 60) rfl (by kernel_rfl) (by simp [toG, upd]) rfl (fun w k h => put_natc _ _ _ _ w k h) ?_
 simp only [Act.put]
 refine lexG_nil ?_
 intro κ x10 hS
 replace hL0 := hL0.ghs hS [(13, [.int .u64 ((lo y : Nat) : Int), .string (hs y)])] (by simp) (by intro p hp; simp only [List.mem_cons, List.not_mem_nil, or_false] at hp; rcases hp with rfl <;> exact ⟨_, by simp only [toG, upd]; rfl⟩)
 simp only [List.map_cons, List.map_nil, List.cons_append, List.nil_append] at hL0
 simp only [over_toG, over_nil, Act.put, zP]
 clear hS
 generalize κ 13 = k10_13 at *
 go_upto_region 15 with fail
 obtain ⟨α, iα, F, hF1, hF2⟩ := cls x10
 refine region_qs 6 (C := fun w' => ∃ x, w' = F x) (by kernel_rfl) (by kernel_rfl) (cls_drew hF2) ?_
 simp only [zT]
 repeat (go_big_quiet_step (first | fail))
 refine wpQuiet_nil ?_
 rintro wq ⟨xq, rfl⟩
 replace hL0 := hL0.call (hF1 xq)
 clear  hF2
 generalize F xq = x11 at hL0 ⊢
 clear hF1 xq iα F α
 go_upto_region 17 with fail
 obtain ⟨α, iα, F, hF1, hF2⟩ := cls x11
 have hq0 := cls_box hF1 hL0 _ _ mZ
 simp only [zC, Nat.reduceAdd] at hq0
 have hq1 := cls_box hF1 hL0 _ _ (mK mZ)
 simp only [zC, Nat.reduceAdd] at hq1
 refine region_qs 7 (C := fun w' => ∃ x, w' = F x) (by kernel_rfl) (by kernel_rfl) (cls_drew hF2) ?_
 simp only [zT]
 repeat (go_big_quiet_step (first | fail | (go_at_call 69; with_reducible exact cls_call hF1 hF2 HJ.out _) | (go_at_call 46; with_reducible exact cls_call hF1 hF2 HF.out _)))
 refine wpQuiet_nil ?_
 rintro wq ⟨xq, rfl⟩
 replace hL0 := hL0.call (hF1 xq)
 clear  hq0 hq1 hF2
 generalize F xq = x12 at hL0 ⊢
 clear hF1 xq iα F α
 have hA := hL0.fc
 simp only [zF, Nat.reduceAdd] at hA
 obtain ⟨x13, hput1, hP⟩ := GL.named (hL0.put 4 (w.heap.size) _ rfl [.int .u64 ((zl a.num : Nat) : Int), .string (zh a.num), .bool (zs a.num), .int .u64 ((lo (fe a) : Nat) : Int), .string (hs (fe a))] rfl)
 simp only [setAll] at hput1
 simp only [List.set_cons_zero, List.set_cons_succ] at hP
 have hB1 := hP.fc
 simp only [zF, Nat.reduceAdd] at hB1
 replace hL0 := hP
 go_wp2_with fail
 exact bodyPost_ret (v := .tuple #[fracV a, .int .i64 e]) (by simp [results, Tryz.results19, go_sem, hB1]) rfl ⟨rfl, hL0.bl⟩
theorem dparse_neg_t (s d p q : ByteArray) (l h m k u x y : Nat) (z e : Int) (a : Rat) (HC : RT 64 #[.string s, .string (ByteArray.mk #[45])] (.tuple #[.string d, .bool true])) (KT : World → Prop) (hKT : Keeps KT) (HU : RK KT 65 #[.string d, .string (ByteArray.mk #[46])] (.tuple #[.string p, .string q, .bool true])) (HP : RT 66 #[.string p] (.tuple #[natV h, .int .i64 0])) (HB : RT 67 #[.string q] (.tuple #[natV m, .int .i64 0])) (HT : RT 47 #[.int .i64 (k : Int)] (natV u)) (HM : RT 68 #[natV h, natV u] (natV x)) (HA : RT 49 #[natV x, natV m] (natV y)) (HO : RT 52 #[.int .u64 0] (natV 0)) (HJ : RT 69 #[.bool true, natV y] (intV z)) (HF : RT 46 #[intV z, natV u] (.tuple #[fracV a, .int .i64 e])) (hl : s.size = l) (h0 : decide (4096 < (l : Int)) = false) (hq : ¬ q.toList = []) (hk : q.size = k) (hy : 0 < y) (w : World) (kKT : KT w) :
  Calls Tryz.prog 19 #[.string s] w fun xe w' => xe = .returned (.tuple #[fracV a, .int .i64 e]) ∧ Below w.heap.size w w' := by
 have hL0 : GL w w [] := GL.start w
 replace HC := Lib.hid HC
 replace hKT := Lib.hid hKT
 replace HU := Lib.hid HU
 replace HP := Lib.hid HP
 replace HB := Lib.hid HB
 replace HT := Lib.hid HT
 replace HM := Lib.hid HM
 replace HA := Lib.hid HA
 replace HO := Lib.hid HO
 replace HJ := Lib.hid HJ
 replace HF := Lib.hid HF
 have hq1 : (q.toList == []) = false := by simpa using hq
 have hq2 : q.toList.isEmpty = false := by simpa using hq
 have hz := eq_zero hy
 clear hy
 rcases hz with e0 | ⟨e0, e1⟩
 all_goals (
  obtain ⟨x1, hweq, hL0⟩ := GL.named (hL0.new rfl [.int .u64 0, .string ⟨#[]⟩, .bool false, .int .u64 0, .string ⟨#[]⟩] 34)
  go_enter Tryz.func19, Tryz.ntmps19
  go_wp2_with fail
  with_reducible refine Calls.mono (HC.out _) ?_
  rintro e x2 ⟨rfl, hb⟩
  replace hL0 := hL0.call hb
  clear hb hweq
  go_wp2_with fail
  with_reducible refine Calls.mono (HU.out _ (hKT.out.at hL0.bl kKT)) ?_
  rintro e x3 ⟨rfl, hb⟩
  replace hL0 := hL0.call hb
  clear hb
  go_wp2_with fail
  with_reducible refine Calls.mono (HP.out _) ?_
  rintro e x4 ⟨rfl, hb⟩
  replace hL0 := hL0.call hb
  clear hb
  obtain ⟨x5, hweq, hL0⟩ := GL.named (hL0.new rfl [.int .u64 ((lo h : Nat) : Int), .string (hs h)] 30)
  go_wp2_with fail
  with_reducible refine Calls.mono (HB.out _) ?_
  rintro e x6 ⟨rfl, hb⟩
  replace hL0 := hL0.call hb
  clear hb hweq
  obtain ⟨x7, hweq, hL0⟩ := GL.named (hL0.new rfl [.int .u64 ((lo m : Nat) : Int), .string (hs m)] 30)
  go_wp2_with fail
  with_reducible refine Calls.mono (HT.out _) ?_
  rintro e x8 ⟨rfl, hb⟩
  replace hL0 := hL0.call hb
  clear hb hweq
  obtain ⟨x9, hweq, hL0⟩ := GL.named (hL0.new rfl [.int .u64 ((lo u : Nat) : Int), .string (hs u)] 30)
  go_upto_region 14 with fail
  clear hweq
  refine region_gh (by kernel_rfl) (by kernel_rfl) ?_
  refine lex_seg (gl := []) 5 (by kernel_rfl) ?_
  intro α iα F hF1 hF2
  have hq := GL.seg hF1 hL0
  simp only [zC, Nat.reduceAdd] at hq
  simp only [zT]
  repeat (go_big_quiet_step (first | fail | (go_at_call 68; with_reducible exact seg_call hF2 HM.out _) | (go_at_call 49; with_reducible exact seg_call hF2 HA.out _)))
  refine wpQuiet_nil ?_
  clear hq hF1 hF2 iα F α
  refine lex_new [.int .u64 0, .string ⟨#[]⟩] 13 30 30 rfl rfl (of_decide_eq_true (by kernel_rfl)) (by kernel_rfl) rfl new_natc ?_
  simp only [Act.put, zP]
  refine lex_put [.int .u64 ((lo y : Nat) : Int), .string (hs y)] [.int .u64 0, .string ⟨#[]⟩] 13 30 (.tmp 60) rfl (by kernel_rfl) (by simp [toG, upd]) rfl (fun w k h => put_natc _ _ _ _ w k h) ?_
  simp only [Act.put]
  refine lexG_nil ?_
  intro κ x10 hS
  replace hL0 := hL0.ghs hS [(13, [.int .u64 ((lo y : Nat) : Int), .string (hs y)])] (by simp) (by intro p hp; simp only [List.mem_cons, List.not_mem_nil, or_false] at hp; rcases hp with rfl <;> exact ⟨_, by simp only [toG, upd]; rfl⟩)
  simp only [List.map_cons, List.map_nil, List.cons_append, List.nil_append] at hL0
  simp only [over_toG, over_nil, Act.put, zP]
  clear hS
  generalize κ 13 = k10_13 at *
  go_upto_region 15 with fail
  obtain ⟨α, iα, F, hF1, hF2⟩ := cls x10
  have hq0 := cls_box hF1 hL0 _ _ mZ
  simp only [zC, Nat.reduceAdd] at hq0
  refine region_qs 6 (C := fun w' => ∃ x, w' = F x) (by kernel_rfl) (by kernel_rfl) (cls_drew hF2) ?_
  simp only [zT]
  repeat (go_big_quiet_step (first | fail | (go_at_call 52; with_reducible exact cls_call hF1 hF2 HO.out _)))
  refine wpQuiet_nil ?_
  rintro wq ⟨xq, rfl⟩
  replace hL0 := hL0.call (hF1 xq)
  clear  hq0 hF2
  generalize F xq = x11 at hL0 ⊢
  clear hF1 xq iα F α
  go_upto_region 17 with fail
  obtain ⟨α, iα, F, hF1, hF2⟩ := cls x11
  have hq0 := cls_box hF1 hL0 _ _ mZ
  simp only [zC, Nat.reduceAdd] at hq0
  have hq1 := cls_box hF1 hL0 _ _ (mK mZ)
  simp only [zC, Nat.reduceAdd] at hq1
  refine region_qs 7 (C := fun w' => ∃ x, w' = F x) (by kernel_rfl) (by kernel_rfl) (cls_drew hF2) ?_
  simp only [zT]
  repeat (go_big_quiet_step (first | fail | (go_at_call 69; with_reducible exact cls_call hF1 hF2 HJ.out _) | (go_at_call 46; with_reducible exact cls_call hF1 hF2 HF.out _)))
  refine wpQuiet_nil ?_
  rintro wq ⟨xq, rfl⟩
  replace hL0 := hL0.call (hF1 xq)
  clear  hq0 hq1 hF2
  generalize F xq = x12 at hL0 ⊢
  clear hF1 xq iα F α
  have hA := hL0.fc
  simp only [zF, Nat.reduceAdd] at hA
  obtain ⟨x13, hput1, hP⟩ := GL.named (hL0.put 4 (w.heap.size) _ rfl [.int .u64 ((zl a.num : Nat) : Int), .string (zh a.num), .bool (zs a.num), .int .u64 ((lo (fe a) : Nat) : Int), .string (hs (fe a))] rfl)
  simp only [setAll] at hput1
  simp only [List.set_cons_zero, List.set_cons_succ] at hP
  have hB1 := hP.fc
  simp only [zF, Nat.reduceAdd] at hB1
  replace hL0 := hP
  go_wp2_with fail
  exact bodyPost_ret (v := .tuple #[fracV a, .int .i64 e]) (by simp [results, Tryz.results19, go_sem, hB1]) rfl ⟨rfl, hL0.bl⟩)
theorem lof4_w (i j c : Int) (a : Rat) (HF : RT 37 #[.int .i64 i, .int .i64 j] (.tuple #[fracV a, .int .i64 c])) (w : World) :
  Calls Tryz.prog 41 #[.int .i64 i, .int .i64 j] w fun xe w' => xe = .returned (fracV a) ∧ Below w.heap.size w w' := by
 have hL0 : GL w w [] := GL.start w
 replace HF := Lib.hid HF
 obtain ⟨x1, hweq, hL0⟩ := GL.named (hL0.new rfl [.int .u64 0, .string ⟨#[]⟩, .bool false, .int .u64 0, .string ⟨#[]⟩] 34)
 go_enter Tryz.func41, Tryz.ntmps41
 go_wp2_with fail
 with_reducible refine Calls.mono (HF.out _) ?_
 rintro e x2 ⟨rfl, hb⟩
 replace hL0 := hL0.call hb
 clear hb hweq
 obtain ⟨x3, hweq, hL0⟩ := GL.named (hL0.new rfl [.int .u64 ((zl a.num : Nat) : Int), .string (zh a.num), .bool (zs a.num), .int .u64 ((lo (fe a) : Nat) : Int), .string (hs (fe a))] 34)
 have hA := hL0.fc
 simp only [zF, Nat.reduceAdd] at hA
 obtain ⟨x4, hput1, hP⟩ := GL.named (hL0.put 1 (w.heap.size) _ rfl [.int .u64 ((zl a.num : Nat) : Int), .string (zh a.num), .bool (zs a.num), .int .u64 ((lo (fe a) : Nat) : Int), .string (hs (fe a))] rfl)
 simp only [setAll] at hput1
 simp only [List.set_cons_zero, List.set_cons_succ] at hP
 have hB1 := hP.fc
 simp only [zF, Nat.reduceAdd] at hB1
 replace hL0 := hP
 go_wp2_with fail
 exact bodyPost_ret (v := fracV a) (by simp [results, Tryz.results41, go_sem, hB1]) rfl ⟨rfl, hL0.bl⟩
theorem ltext4_ok (a : Rat) (n v : Int) (s : ByteArray) (HT : RK Tab 14 #[fracV a, .int .i64 n, .int .i64 v] (.tuple #[.string s, .int .i64 0])) (w : World) (htab : Tab w) :
  Calls Tryz.prog 42 #[fracV a, .int .i64 n, .int .i64 v] w fun xe w' => xe = .returned (.string s) ∧ Below w.heap.size w w' := by
 have hL0 : GL w w [] := GL.start w
 replace HT := Lib.hid HT
 obtain ⟨x1, hweq, hL0⟩ := GL.named (hL0.new rfl [.int .u64 ((zl a.num : Nat) : Int), .string (zh a.num), .bool (zs a.num), .int .u64 ((lo (fe a) : Nat) : Int), .string (hs (fe a))] 34)
 go_enter Tryz.func42, Tryz.ntmps42
 have hN0 := cells_of _ 0 [] rfl (hL0.get _ _ mZ)
 simp only [zF, Nat.reduceAdd] at hN0
 go_wp2_with fail
 clear hN0
 with_reducible refine Calls.mono (HT.out _ (htab.below hL0.bl)) ?_
 rintro e x2 ⟨rfl, hb⟩
 replace hL0 := hL0.call hb
 clear hb hweq
 go_wp2_with fail
 exact bodyPost_ret (v := .string s) (by simp [results, Tryz.results42, go_sem]) rfl ⟨rfl, hL0.bl⟩
theorem lread4_ok (a : Rat) (s t : ByteArray) (KT : World → Prop) (hKT : Keeps KT) (HP : RK KT 19 #[.string s] (.tuple #[fracV a, .int .i64 0])) (HT : RK Tab 35 #[fracV a] (.string t)) (w : World) (htab : Tab w) (kKT : KT w) :
  Calls Tryz.prog 43 #[.string s] w fun xe w' => xe = .returned (.string t) ∧ Below w.heap.size w w' := by
 have hL0 : GL w w [] := GL.start w
 replace hKT := Lib.hid hKT
 replace HP := Lib.hid HP
 replace HT := Lib.hid HT
 go_enter Tryz.func43, Tryz.ntmps43
 go_wp2_with fail
 with_reducible refine Calls.mono (HP.out _ (hKT.out.at hL0.bl kKT)) ?_
 rintro e x1 ⟨rfl, hb⟩
 replace hL0 := hL0.call hb
 clear hb
 obtain ⟨x2, hweq, hL0⟩ := GL.named (hL0.new rfl [.int .u64 ((zl a.num : Nat) : Int), .string (zh a.num), .bool (zs a.num), .int .u64 ((lo (fe a) : Nat) : Int), .string (hs (fe a))] 34)
 have hN0 := cells_of _ 0 [] rfl (hL0.get _ _ mZ)
 simp only [zF, Nat.reduceAdd] at hN0
 go_wp2_with fail
 clear hN0
 with_reducible refine Calls.mono (HT.out _ (htab.below hL0.bl)) ?_
 rintro e x3 ⟨rfl, hb⟩
 replace hL0 := hL0.call hb
 clear hb hweq
 go_wp2_with fail
 exact bodyPost_ret (v := .string t) (by simp [results, Tryz.results43, go_sem]) rfl ⟨rfl, hL0.bl⟩
theorem lread4_err (a : Rat) (s : ByteArray) (c : Int) (KT : World → Prop) (hKT : Keeps KT) (HP : RK KT 19 #[.string s] (.tuple #[fracV a, .int .i64 c])) (h1 : (c != 0) = true) (w : World) (kKT : KT w) :
  Calls Tryz.prog 43 #[.string s] w fun xe w' => xe = .returned (.string (ByteArray.mk #[110, 111, 110, 101])) ∧ Below w.heap.size w w' := by
 have hL0 : GL w w [] := GL.start w
 replace hKT := Lib.hid hKT
 replace HP := Lib.hid HP
 go_enter Tryz.func43, Tryz.ntmps43
 go_wp2_with fail
 with_reducible refine Calls.mono (HP.out _ (hKT.out.at hL0.bl kKT)) ?_
 rintro e x1 ⟨rfl, hb⟩
 replace hL0 := hL0.call hb
 clear hb
 obtain ⟨x2, hweq, hL0⟩ := GL.named (hL0.new rfl [.int .u64 ((zl a.num : Nat) : Int), .string (zh a.num), .bool (zs a.num), .int .u64 ((lo (fe a) : Nat) : Int), .string (hs (fe a))] 34)
 go_wp2_with fail
 exact bodyPost_ret (v := .string (ByteArray.mk #[110, 111, 110, 101])) (by simp [results, Tryz.results43, go_sem]) rfl ⟨rfl, hL0.bl⟩
end Go.Proofs.YtahfcciihkkegaaGreatDoor
namespace Go.Proofs.YtahfcciihkkegaaGreatDoor
open Go.RowKit
open Go.Lib (decDigits)
/-- What stands before and behind the point, for a number m of units 10^-p. -/
def tailT (m p : Nat) : List UInt8 := if 0 < p then 46 :: pad p (m % 10 ^ p) else []
/-- The notation of n/10^p with p places. -/
def decT (n : Int) (p : Nat) : List UInt8 := (if n < 0 then [45] else []) ++ (decDigits (n.natAbs / 10 ^ p) ++ tailT n.natAbs p)
theorem pad_top : ∀ (k r : Nat), pad (k + 1) r = dch (r / 10 ^ k % 10) :: pad k r
 | 0, r => by rw [pad, pad, Nat.pow_zero, Nat.div_one]; rfl
 | k + 1, r => by
  rw [pad, pad_top k (r / 10), Nat.div_div_eq_div_mul, Nat.mul_comm 10, ← Nat.pow_succ, List.cons_append]
  rw [show pad (k + 1) r = pad k (r / 10) ++ [dch (r % 10)] from rfl]
/-- At least p + 1 digits: those before the point, and p behind it. -/
theorem dec_split (m p : Nat) : List.replicate (p + 1 - (decDigits m).length) 48 ++ decDigits m = decDigits (m / 10 ^ p) ++ pad p (m % 10 ^ p) := by
 have hp : 0 < 10 ^ p := Nat.pow_pos (by decide)
 have hr : m % 10 ^ p < 10 ^ p := Nat.mod_lt _ hp
 rcases Nat.eq_zero_or_pos (m / 10 ^ p) with h | h
 ·have hm : m < 10 ^ p := by
   rcases Nat.lt_or_ge m (10 ^ p) with h1 | h1
   ·exact h1
   ·have := Nat.div_pos h1 hp
    omega
  have h2 : m < 10 ^ (p + 1) := by rw [Nat.pow_succ]; omega
  rw [← (pad_eq (p + 1) m (by omega) h2).1, pad_top, h, Nat.mod_eq_of_lt hm, dec_small (show 0 < 10 by decide)]
  rfl
 ·have e := dec_mul_add p (m / 10 ^ p) (m % 10 ^ p) h hr
  rw [Nat.mul_comm, Nat.div_add_mod] at e
  have hl : (decDigits m).length = (decDigits (m / 10 ^ p)).length + p := by rw [e, List.length_append, pad_length]
  have := dec_length_pos (m / 10 ^ p)
  rw [show p + 1 - (decDigits m).length = 0 by omega, List.replicate_zero, List.nil_append, e]
/-- Behind a 1 no zero is a leading one. -/
theorem one_isDec {l : List UInt8} (h : ∀ c ∈ l, isDig c) : isDec (49 :: l) := by
 refine ⟨?_, .inr ⟨by simp, by simp⟩⟩
 intro c hc
 rcases List.mem_cons.1 hc with h1 | h1
 ·subst h1; unfold isDig; decide
 ·exact h c h1
end Go.Proofs.YtahfcciihkkegaaGreatDoor
namespace Go.Proofs.YtahfcciihkkegaaGreatDoor
open Go.RowKit
open Go.Lib (decDigits)
theorem pad_full (q : Nat) : List.replicate (1 - (decDigits q).length) 48 ++ decDigits q = decDigits q := by
 have := dec_length_pos q
 rw [show 1 - (decDigits q).length = 0 by omega]; rfl
theorem notD (z : Int) (p : Nat) (hz : dI z ≤ 100000) (hp : p ≤ 100) (w : World) (htab : Tab w) :
  Calls Tryz.prog 53 #[intV z, .int .i64 (p : Int)] w fun e w' => e = .returned (.string ⟨(decT z p).toArray⟩) ∧ Below w.heap.size w w' := by
 have hpos : 0 < 10 ^ p := Nat.pow_pos (by decide)
 have hm : (digs z.natAbs).length ≤ 100000 := hz
 have hq : (digs (z.natAbs / 10 ^ p)).length ≤ 100000 := Nat.le_trans (digs_mono (Nat.div_le_self _ _)) hm
 have hr : (digs (z.natAbs % 10 ^ p)).length ≤ 100000 := Nat.le_trans (digs_mono (Nat.mod_le _ _)) hm
 have hs : sgn z < 0 ↔ z < 0 := by unfold sgn; split <;> (try split) <;> omega
 have h := dnot_w z (sgn z) p z.natAbs (10 ^ p) (z.natAbs / 10 ^ p) (z.natAbs % 10 ^ p) (if z < 0 then [45] else []) (tailT z.natAbs p) (absI z) (tensD p hp) (div_pos z.natAbs (10 ^ p) hpos (by omega)) (signI z) (by omega) (by omega) (by omega)
  (fun h => by rw [if_pos (hs.1 h)]) (fun h => by rw [if_neg (fun h2 => h (hs.2 h2))])
  (fun h => by unfold tailT; rw [if_pos h, (pad_eq p _ h (Nat.mod_lt _ hpos)).1]; rfl) (fun h => by unfold tailT; rw [if_neg h]) w htab
 rw [pad_full, List.append_assoc] at h
 exact h
theorem rndE (a : Rat) (n v : Int) (hc : rdC n v ≠ 0) (w : World) : Calls Tryz.prog 45 #[fracV a, .int .i64 n, .int .i64 v] w fun e w' => e = .returned (.tuple #[intV 0, .int .i64 (rdC n v)]) ∧ Below w.heap.size w w' := by
 rw [intV_00]
 unfold rdC at hc ⊢
 by_cases h1 : n < 0
 ·rw [if_pos h1]; exact drnd_neg a n v (decide_eq_true h1) w
 rw [if_neg h1] at hc ⊢
 by_cases h2 : 100 < n
 ·rw [if_pos h2]; exact drnd_big a n v (decide_eq_false h1) (decide_eq_true h2) w
 rw [if_neg h2] at hc ⊢
 by_cases h3 : v < 1
 ·rw [if_pos (.inl h3)]; exact drnd_way0 a n v (decide_eq_false h1) (decide_eq_false h2) (decide_eq_true h3) w
 by_cases h4 : 3 < v
 ·rw [if_pos (.inr h4)]; exact drnd_way4 a n v (decide_eq_false h1) (decide_eq_false h2) (decide_eq_false h3) (decide_eq_true h4) w
 rw [if_neg (by omega)] at hc
 exact absurd rfl hc
theorem textD (a : Rat) (p : Nat) (v : Int) (k : Nat) (ha : Sz a k) (hk : k ≤ 5000) (hp : p ≤ 100) (hv : 1 ≤ v ∧ v ≤ 3) (w : World) (htab : Tab w) :
  Calls Tryz.prog 14 #[fracV a, .int .i64 (p : Int), .int .i64 v] w fun e w' => e = .returned (.tuple #[.string ⟨(decT (toI v (a * tenQ p)) p).toArray⟩, .int .i64 0]) ∧ Below w.heap.size w w' := by
 have HT := tensD p hp
 have HI := fun w => fromI false (10 ^ p) ((10 ^ p : Nat) : Int) rfl w
 have hd : dI ((10 ^ p : Nat) : Int) ≤ 6 := by rw [dI_nat]; exact ten_d hp
 have HW := wholeD ((10 ^ p : Nat) : Int) (by omega)
 have et : (((10 ^ p : Nat) : Int) : Rat) = tenQ p := rfl
 rw [et] at HW
 have HM := mulF a (tenQ p) (k + 6) (ha.mono (by omega)) ((ten_sz hp).mono (by omega)) (by omega)
 have HN := toID (a * tenQ p) v (k + 6) (ha.mul (ten_sz hp)) (by omega) hv
 have HR := drnd_ok a _ _ (p : Int) v _ _ _ HT HI HW HM HN (decide_eq_false (by omega)) (decide_eq_false (by omega)) (decide_eq_false (by omega)) (decide_eq_false (by omega))
 have hz := toI_d v (ha.mul (ten_sz hp))
 exact dtext_ok a (p : Int) v _ _ HR (notD _ p (by omega) hp) w htab
theorem textE (a : Rat) (n v : Int) (hc : rdC n v ≠ 0) (w : World) :
  Calls Tryz.prog 14 #[fracV a, .int .i64 n, .int .i64 v] w fun e w' => e = .returned (.tuple #[.string ⟨#[]⟩, .int .i64 (rdC n v)]) ∧ Below w.heap.size w w' :=
 dtext_err a n v 0 (rdC n v) (rndE a n v hc) (by simpa using hc) w
theorem dval_d {l : List UInt8} (h : ∀ c ∈ l, isDig c) : (digs (dval l)).length ≤ l.length :=
 digs_length_iff.2 (Nat.lt_of_lt_of_le (dval_lt h) (Nat.pow_le_pow_left (by unfold Bs; decide) _))
theorem behD (a : List UInt8) (ha : ∀ c ∈ a, isDig c) (hl : a.length ≤ 100) (w : World) :
  Calls Tryz.prog 67 #[.string ⟨a.toArray⟩] w fun e w' => e = .returned (.tuple #[natV (dval a), .int .i64 0]) ∧ Below w.heap.size w w' := by
 have hv : dval (49 :: a) = 10 ^ a.length + dval a := by
  have := dval_append [49] a
  rw [show dval [49] = 1 from rfl, Nat.one_mul] at this
  exact this
 have HP := parse_ok (49 :: a) (by simp; omega) (one_isDec ha)
 have h49 : ∀ c ∈ (49 :: a), isDig c := (one_isDec ha).1
 have hd := dval_d h49
 rw [hv] at HP hd
 have HS := fun w => sub_ge (10 ^ a.length + dval a) (10 ^ a.length) (Nat.le_add_right _ _) (Nat.le_trans hd (by simp; omega)) w
 rw [Nat.add_sub_cancel_left] at HS
 exact dbeh_ok ⟨a.toArray⟩ (st (49 :: a)) _ a.length _ _ _ HP (tensD a.length hl) HS (by show (⟨[49].toArray⟩ : ByteArray) ++ ⟨a.toArray⟩ = _; rw [ByteArray.mk_append_mk]; rfl) (by simp [ByteArray.size]) (by omega) (by omega) (by omega) w
/-- What CutPrefix finds. -/
def Sgn (g : Bool) (l d : List UInt8) : Prop := (g = true ∧ l = 45 :: d) ∨ (g = false ∧ l = d ∧ l.head? ≠ some 45)
theorem Sgn.le {g : Bool} {l d : List UInt8} (h : Sgn g l d) : d.length ≤ l.length := by
 rcases h with ⟨_, rfl⟩ | ⟨_, rfl, _⟩
 ·simp
 ·exact Nat.le_refl _
theorem cpD (g : Bool) (l d : List UInt8) (h : Sgn g l d) (w : World) :
  Calls Tryz.prog 64 #[.string ⟨l.toArray⟩, .string (ByteArray.mk #[45])] w fun e w' => e = .returned (.tuple #[.string ⟨d.toArray⟩, .bool g]) ∧ Below w.heap.size w w' := by
 refine (Tryz.strings_CutPrefix ⟨l.toArray⟩ (ByteArray.mk #[45]) w).mono ?_
 rintro e w' ⟨rfl, rfl⟩
 refine ⟨?_, Below.refl _ _⟩
 rcases h with ⟨rfl, rfl⟩ | ⟨rfl, rfl, h⟩
 ·simp [Lib.trimPrefix, Lib.hasPrefix]
 ·have : Lib.hasPrefix l [45] = false := by
   unfold Lib.hasPrefix
   cases l with
   | nil => rfl
   | cons c r => simp at h; simp [List.isPrefixOf, Ne.symm h]
  simp [Lib.trimPrefix, this]
theorem cutD (d p q : List UInt8) (f : Bool) (hl : d.length ≤ 4096) (h : Lib.cut d [46] = (p, q, f)) (w : World) (hm : MaxL w) :
  Calls Tryz.prog 65 #[.string ⟨d.toArray⟩, .string (ByteArray.mk #[46])] w fun xe w' => xe = .returned (.tuple #[.string ⟨p.toArray⟩, .string ⟨q.toArray⟩, .bool f]) ∧ Below w.heap.size w w' := by
 obtain ⟨m, hm⟩ := hm
 have h1 := Tryz.strings_Cut ⟨d.toArray⟩ (ByteArray.mk #[46]) m w (by simp [ByteArray.size]; omega) hm
 rw [show (ByteArray.mk #[46]).data.toList = [46] from rfl, show (ByteArray.mk d.toArray).data.toList = d by simp, h] at h1
 exact h1.mono fun xe w' ⟨h1, n, h2⟩ => ⟨h1, by rw [h2]; exact ⟨rfl, rfl, rfl, Nat.le_refl _, fun _ _ => rfl⟩⟩
theorem ne_list {a : List UInt8} (h : a ≠ []) : ¬ (ByteArray.mk a.toArray).toList = [] := by
 rw [ByteArray.toList_eq]; simpa using h
theorem parse_in (f g : Bool) (l d p q : List UInt8) (hg : Sgn g l d) (hc : Lib.cut d [46] = (p, q, f)) (hp : isDec p) (hq : ∀ c ∈ q, isDig c) (hf : f = true → q ≠ []) (hl : l.length ≤ 4096) (hpl : p.length ≤ 4096) (hk : q.length ≤ 100) (h0 : g = true → dval p * 10 ^ q.length + dval q ≠ 0) (w : World) (hM : MaxL w) :
  Calls Tryz.prog 19 #[.string ⟨l.toArray⟩] w fun e w' => e = .returned (.tuple #[fracV (mkRat (if g then -((dval p * 10 ^ q.length + dval q : Nat) : Int) else ((dval p * 10 ^ q.length + dval q : Nat) : Int)) (10 ^ q.length)), .int .i64 0]) ∧ Below w.heap.size w w' := by
 have hdl := hg.le
 have hpq : ∀ c ∈ p ++ q, isDig c := fun c h => (List.mem_append.1 h).elim (hp.1 c) (hq c)
 have hy := dval_d hpq
 rw [dval_append, List.length_append] at hy
 have hx : (digs (dval p * 10 ^ q.length)).length ≤ p.length + q.length := Nat.le_trans (digs_mono (Nat.le_add_right _ _)) hy
 have hp1 := dval_d hp.1
 have hq1 := dval_d hq
 have hu := ten_d hk
 have HC := cpD g l d hg
 have HU := cutD d p q f (by omega) hc
 have HP := parse_ok p hpl hp
 have HB := behD q hq hk
 have HT := tensD q.length hk
 have HM := fun w => mul_any (dval p) (10 ^ q.length) (by omega) (by omega) w
 have HA := fun w => add_any (dval p * 10 ^ q.length) (dval q) (by omega) (by omega) w
 have HJ := fun w => fromI g (dval p * 10 ^ q.length + dval q) _ rfl w
 have hpos : 10 ^ q.length ≠ 0 := Nat.ne_of_gt (Nat.pow_pos (by decide))
 obtain ⟨y, hye⟩ : ∃ y, y = dval p * 10 ^ q.length + dval q := ⟨_, rfl⟩
 rw [← hye] at HA HJ hy h0 ⊢
 obtain ⟨z, hz⟩ : ∃ z : Int, z = if g then -(y : Int) else (y : Int) := ⟨_, rfl⟩
 rw [← hz] at HJ ⊢
 have hzd : dI z ≤ 5000 := by
  have : z.natAbs = y := by rw [hz]; split <;> omega
  unfold dI; rw [this]; omega
 have HF := fun w => fromF z (10 ^ q.length) hpos (by omega) (by omega) w
 have hs : (ByteArray.mk l.toArray).size = l.length := by simp [ByteArray.size]
 have hs2 : (ByteArray.mk q.toArray).size = q.length := by simp [ByteArray.size]
 have d0 : decide (4096 < (l.length : Int)) = false := decide_eq_false (by omega)
 have HO := of_val 0 0 rfl (by unfold Bs; omega)
 have HP2 : ∀ w, Calls Tryz.prog 66 #[.string ⟨p.toArray⟩] w fun e w' => e = .returned (.tuple #[natV (dval p), .int .i64 0]) ∧ Below w.heap.size w w' := HP
 cases f <;> cases g
 ·exact dparse_pos_f _ _ _ _ _ _ _ _ _ _ _ _ _ _ HC MaxL MaxL.keeps HU HP2 HB HT HM HA HJ HF hs d0 hs2 w hM
 ·exact dparse_neg_f _ _ _ _ _ _ _ _ _ _ _ _ _ _ HC MaxL MaxL.keeps HU HP2 HB HT HM HA HO HJ HF hs d0 hs2 (Nat.pos_of_ne_zero (h0 rfl)) w hM
 ·exact dparse_pos_t _ _ _ _ _ _ _ _ _ _ _ _ _ _ HC MaxL MaxL.keeps HU HP2 HB HT HM HA HJ HF hs d0 (ne_list (hf rfl)) hs2 w hM
 ·exact dparse_neg_t _ _ _ _ _ _ _ _ _ _ _ _ _ _ HC MaxL MaxL.keeps HU HP2 HB HT HM HA HO HJ HF hs d0 (ne_list (hf rfl)) hs2 (Nat.pos_of_ne_zero (h0 rfl)) w hM
theorem parse_zin (f : Bool) (l d p q : List UInt8) (hg : Sgn true l d) (hc : Lib.cut d [46] = (p, q, f)) (hp : isDec p) (hq : ∀ c ∈ q, isDig c) (hf : f = true → q ≠ []) (hl : l.length ≤ 100) (hpl : p.length ≤ 4096) (hk : q.length ≤ 100) (h0 : dval p * 10 ^ q.length + dval q = 0) (w : World) (hM : MaxL w) :
  Calls Tryz.prog 19 #[.string ⟨l.toArray⟩] w fun e w' => e = .returned (.tuple #[.agg #[.int .u64 0, .string ⟨#[]⟩, .bool false, .int .u64 0, .string ⟨#[]⟩], .int .i64 4]) ∧ Below w.heap.size w w' := by
 have hdl := hg.le
 have hp1 := dval_d hp.1
 have hq1 := dval_d hq
 have hu := ten_d hk
 have HC := cpD true l d hg
 have HU := cutD d p q f (by omega) hc
 have HP : ∀ w, Calls Tryz.prog 66 #[.string ⟨p.toArray⟩] w fun e w' => e = .returned (.tuple #[natV (dval p), .int .i64 0]) ∧ Below w.heap.size w w' := parse_ok p hpl hp
 have HB := behD q hq hk
 have HT := tensD q.length hk
 have HM := fun w => mul_any (dval p) (10 ^ q.length) (by omega) (by omega) w
 have hxz : dval p * 10 ^ q.length = 0 := by omega
 have HA := fun w => add_any (dval p * 10 ^ q.length) (dval q) (by rw [hxz, digs_zero]; simp) (by omega) w
 rw [h0] at HA
 have hs : (ByteArray.mk l.toArray).size = l.length := by simp [ByteArray.size]
 have hs2 : (ByteArray.mk q.toArray).size = q.length := by simp [ByteArray.size]
 have d0 : decide (4096 < (l.length : Int)) = false := decide_eq_false (by omega)
 have HO := of_val 0 0 rfl (by unfold Bs; omega)
 cases f
 ·exact dparse_zero_f _ _ _ _ _ _ _ _ _ _ HC MaxL MaxL.keeps HU HP HB HT HM HA HO hs d0 hs2 w hM
 ·exact dparse_zero_t _ _ _ _ _ _ _ _ _ _ HC MaxL MaxL.keeps HU HP HB HT HM HA HO hs d0 (ne_list (hf rfl)) hs2 w hM
theorem zeroF : (Value.agg #[.int .u64 0, .string ⟨#[]⟩, .bool false, .int .u64 0, .string ⟨#[]⟩]) = fracV 0 := frV_q0'.symm
end Go.Proofs.YtahfcciihkkegaaGreatDoor
namespace Go.Proofs.YtahfcciihkkegaaGreatDoor
open Go.RowKit
/-- What Cycle answers for a denominator D. -/
def CycA (D : Nat) (m n c : Int) : Prop :=
 (∃ k : Nat, Lead D k ∧ k ≤ 100 ∧ Eden D k = 1 ∧ m = k ∧ n = 0 ∧ c = 0) ∨
 (∃ k j : Nat, Lead D k ∧ k ≤ 100 ∧ Eden D k ≠ 1 ∧ 1 ≤ j ∧ k + j ≤ 100 ∧ 10 ^ j % Eden D k = 1 ∧ (∀ i, 1 ≤ i → i < j → 10 ^ i % Eden D k ≠ 1) ∧ m = k ∧ n = j ∧ c = 0) ∨
 (∃ k : Nat, Lead D k ∧ k ≤ 100 ∧ Eden D k ≠ 1 ∧ (∀ i, 1 ≤ i → k + i ≤ 100 → 10 ^ i % Eden D k ≠ 1) ∧ m = 0 ∧ n = 0 ∧ c = 3) ∨
 ((∀ i, i ≤ 100 → Nat.gcd (Eden D i) 10 ≠ 1) ∧ m = 0 ∧ n = 0 ∧ c = 3)
theorem leadD (D k : Nat) (hsz : (digs D).length ≤ 1000000) (hk : Lead D k) (h100 : k ≤ 100) (w : World) :
  Calls Tryz.prog 74 #[natV D] w fun e w' => e = .returned (.tuple #[.int .i64 (k : Int), natV (Eden D k)]) ∧ Below w.heap.size w w' :=
 dlead_w D _ ten_o one_o hsz (fun i d hi hd hg hb => by
  have : k = i := Lead.uniq hk ⟨by rw [← hd]; exact hg, hb⟩
  subst this; rw [hd]) (fun h => absurd hk.one (h k h100)) w
theorem wrap_100 (k : Nat) (h : k ≤ 100) : IntKind.i64.wrap (100 - (k : Int)) = ((100 - k : Nat) : Int) ∧ wrap64 (100 - (k : Int)) = ((100 - k : Nat) : Int) := by
 have e : (100 - (k : Int)) = ((100 - k : Nat) : Int) := by omega
 rw [e]
 refine ⟨?_, by unfold wrap64; omega⟩
 simp only [IntKind.wrap, IntKind.signed, IntKind.bits]
 simp
 omega
theorem cycD (a : Rat) (k : Nat) (ha : Sz a k) (hk : k ≤ 1000000) (m n c : Int) (h : CycA a.den m n c) (w : World) :
  Calls Tryz.prog 21 #[fracV a] w fun e w' => e = .returned (.tuple #[.int .i64 m, .int .i64 n, .int .i64 c]) ∧ Below w.heap.size w w' := by
 have hsz : (digs a.den).length ≤ 1000000 := Nat.le_trans ha.2 hk
 have hpos : 0 < a.den := a.den_pos
 have he : ∀ i, (digs (Eden a.den i)).length ≤ 1000000 := fun i => Nat.le_trans (digs_mono (Eden_le i)) hsz
 have h1 : ∀ {i : Nat}, Eden a.den i ≠ 1 → 1 < Eden a.den i := fun {i} h => by have := Eden_pos hpos i; omega
 rcases h with ⟨i, hl, hi, h1', rfl, rfl, rfl⟩ | ⟨i, j, hl, hi, hne, hj1, hj2, hr, hb, rfl, rfl, rfl⟩ | ⟨i, hl, hi, hne, hb, rfl, rfl, rfl⟩ | ⟨hb, rfl, rfl, rfl⟩
 ·have HL := leadD a.den i hsz hl hi
  rw [h1'] at HL
  exact dcyc_end a a.den (i : Int) (denF a) HL one_o (decide_eq_false (by omega)) w
 ·have HP := dper_w (Eden a.den i) (100 - i) (.tuple #[.int .i64 (j : Int), .bool true]) ten_o one_o (he i) (h1 hne) (by omega) (fun k q1 q2 q3 q4 => by
   have : k = j := by
    rcases Nat.lt_trichotomy k j with q | q | q
    ·exact absurd q3 (hb k q1 q)
    ·exact q
    ·exact absurd hr (q4 j hj1 q)
   rw [this]) (fun q => absurd hr (q j hj1 (by omega)))
  exact dcyc_round a a.den _ (i : Int) _ (j : Int) (denF a) (leadD a.den i hsz hl hi) one_o HP (decide_eq_false (by omega)) (wrap_100 i hi).1 (wrap_100 i hi).2 hne w
 ·have HP := dper_w (Eden a.den i) (100 - i) (.tuple #[.int .i64 0, .bool false]) ten_o one_o (he i) (h1 hne) (by omega) (fun k q1 q2 q3 q4 => absurd q3 (hb k q1 (by omega))) (fun q => rfl)
  exact dcyc_none a a.den _ (i : Int) _ 0 (denF a) (leadD a.den i hsz hl hi) one_o HP (decide_eq_false (by omega)) (wrap_100 i hi).1 (wrap_100 i hi).2 hne w
 ·have HL := dlead_w a.den (.tuple #[.int .i64 101, natV (Eden a.den 101)]) ten_o one_o hsz (fun i d hi hd hg _ => absurd (by rw [← hd]; exact hg) (hb i hi)) (fun _ => rfl)
  exact dcyc_far a a.den _ 101 (denF a) HL (by decide) w
theorem least (P : Nat → Prop) : ∀ n, P n → ∃ k, k ≤ n ∧ P k ∧ ∀ j, j < k → ¬ P j := by
 intro n
 induction n using Nat.strongRecOn with
 | ind n ih =>
  intro hn
  by_cases h : ∃ j, j < n ∧ P j
  ·obtain ⟨j, hj, hp⟩ := h
   obtain ⟨k, hk, r⟩ := ih j hj hp
   exact ⟨k, by omega, r⟩
  ·exact ⟨n, Nat.le_refl _, hn, fun j hj hp => h ⟨j, hj, hp⟩⟩
end Go.Proofs.YtahfcciihkkegaaGreatDoor
namespace Go.Proofs.YtahfcciihkkegaaGreatDoor
open Go.RowKit
attribute [local irreducible] lo hs sm s64 c64 d64 b64 mh ml pd pc qd qc val hiB str cmpI srD lz nb isq decB zl zh zs fe txt
theorem dworks_w (a1 a2 a3 a4 a5 a6 a7 a8 a9 b1 b2 b3 b4 c1 c3 : Rat) (Oa1 : RT 41 #[.int .i64 1, .int .i64 8] (fracV a1)) (Oa2 : RT 41 #[.int .i64 3, .int .i64 8] (fracV a2)) (Oa3 : RT 41 #[.int .i64 (-1), .int .i64 8] (fracV a3)) (Oa4 : RT 41 #[.int .i64 (-1), .int .i64 1000] (fracV a4)) (Oa5 : RT 41 #[.int .i64 5, .int .i64 2] (fracV a5)) (Oa6 : RT 41 #[.int .i64 2, .int .i64 3] (fracV a6)) (Oa7 : RT 41 #[.int .i64 7, .int .i64 10] (fracV a7)) (Oa8 : RT 41 #[.int .i64 (-1), .int .i64 3] (fracV a8)) (Oa9 : RT 41 #[.int .i64 (-2), .int .i64 5] (fracV a9)) (Ob1 : RT 41 #[.int .i64 (-3), .int .i64 10] (fracV b1)) (Ob2 : RT 41 #[.int .i64 1, .int .i64 109] (fracV b2)) (Ob3 : RT 41 #[.int .i64 1, .int .i64 6] (fracV b3)) (Ob4 : RT 41 #[.int .i64 1, .int .i64 7] (fracV b4)) (I1 : RT 32 #[.int .i64 1] (fracV c1)) (I3 : RT 32 #[.int .i64 3] (fracV c3)) (KT : World → Prop) (hKT : Keeps KT) (T0 : RK KT 42 #[fracV a1, .int .i64 2, .int .i64 1] (.string (ByteArray.mk #[48, 46, 49, 50]))) (T1 : RK KT 42 #[fracV a1, .int .i64 2, .int .i64 2] (.string (ByteArray.mk #[48, 46, 49, 51]))) (T2 : RK KT 42 #[fracV a1, .int .i64 2, .int .i64 3] (.string (ByteArray.mk #[48, 46, 49, 50]))) (T3 : RK KT 42 #[fracV a2, .int .i64 2, .int .i64 3] (.string (ByteArray.mk #[48, 46, 51, 56]))) (T4 : RK KT 42 #[fracV a3, .int .i64 2, .int .i64 1] (.string (ByteArray.mk #[45, 48, 46, 49, 51]))) (T5 : RK KT 42 #[fracV a3, .int .i64 2, .int .i64 2] (.string (ByteArray.mk #[45, 48, 46, 49, 50]))) (T6 : RK KT 42 #[fracV a4, .int .i64 2, .int .i64 2] (.string (ByteArray.mk #[48, 46, 48, 48]))) (T7 : RK KT 42 #[fracV a5, .int .i64 0, .int .i64 3] (.string (ByteArray.mk #[50]))) (R1 : RT 12 #[fracV a6, .int .i64 1, .int .i64 2] (.tuple #[fracV a7, .int .i64 0])) (B1 : RT 26 #[fracV a8, .int .i64 1] (.tuple #[fracV a9, fracV b1, .int .i64 0])) (E1 : RT 14 #[fracV c1, .int .i64 101, .int .i64 1] (.tuple #[.string ⟨#[]⟩, .int .i64 3])) (E2 : RT 14 #[fracV c1, .int .i64 0, .int .i64 4] (.tuple #[.string ⟨#[]⟩, .int .i64 1])) (P0 : RK KT 43 #[.string (ByteArray.mk #[45, 49, 46, 50, 53])] (.string (ByteArray.mk #[45, 53, 47, 52]))) (P1 : RK KT 43 #[.string (ByteArray.mk #[48, 48, 55])] (.string (ByteArray.mk #[110, 111, 110, 101]))) (P2 : RK KT 43 #[.string (ByteArray.mk #[49, 46])] (.string (ByteArray.mk #[110, 111, 110, 101]))) (P3 : RK KT 43 #[.string (ByteArray.mk #[46, 53])] (.string (ByteArray.mk #[110, 111, 110, 101]))) (P4 : RK KT 43 #[.string (ByteArray.mk #[45, 48, 46, 48])] (.string (ByteArray.mk #[110, 111, 110, 101]))) (P5 : RK KT 43 #[.string (ByteArray.mk #[51, 46, 49, 48])] (.string (ByteArray.mk #[51, 49, 47, 49, 48]))) (Y0 : RT 21 #[fracV b2] (.tuple #[.int .i64 0, .int .i64 0, .int .i64 3])) (C0 : RT 44 #[fracV b3, .int .i64 1, .int .i64 1] (.bool true)) (C1 : RT 44 #[fracV b4, .int .i64 0, .int .i64 6] (.bool true)) (C2 : RT 44 #[fracV a3, .int .i64 3, .int .i64 0] (.bool true)) (C3 : RT 44 #[fracV c3, .int .i64 0, .int .i64 0] (.bool true)) (w : World) (kKT : KT w) :
  Calls Tryz.prog 11 #[] w fun xe w' => xe = .returned (.bool true) ∧ Below w.heap.size w w' := by
 have hL0 : GL w w [] := GL.start w
 replace Oa1 := Lib.hid Oa1
 replace Oa2 := Lib.hid Oa2
 replace Oa3 := Lib.hid Oa3
 replace Oa4 := Lib.hid Oa4
 replace Oa5 := Lib.hid Oa5
 replace Oa6 := Lib.hid Oa6
 replace Oa7 := Lib.hid Oa7
 replace Oa8 := Lib.hid Oa8
 replace Oa9 := Lib.hid Oa9
 replace Ob1 := Lib.hid Ob1
 replace Ob2 := Lib.hid Ob2
 replace Ob3 := Lib.hid Ob3
 replace Ob4 := Lib.hid Ob4
 replace I1 := Lib.hid I1
 replace I3 := Lib.hid I3
 replace hKT := Lib.hid hKT
 replace T0 := Lib.hid T0
 replace T1 := Lib.hid T1
 replace T2 := Lib.hid T2
 replace T3 := Lib.hid T3
 replace T4 := Lib.hid T4
 replace T5 := Lib.hid T5
 replace T6 := Lib.hid T6
 replace T7 := Lib.hid T7
 replace R1 := Lib.hid R1
 replace B1 := Lib.hid B1
 replace E1 := Lib.hid E1
 replace E2 := Lib.hid E2
 replace P0 := Lib.hid P0
 replace P1 := Lib.hid P1
 replace P2 := Lib.hid P2
 replace P3 := Lib.hid P3
 replace P4 := Lib.hid P4
 replace P5 := Lib.hid P5
 replace Y0 := Lib.hid Y0
 replace C0 := Lib.hid C0
 replace C1 := Lib.hid C1
 replace C2 := Lib.hid C2
 replace C3 := Lib.hid C3
 go_enter Tryz.func11, Tryz.ntmps11
 go_wp2_with fail
 with_reducible refine Calls.mono (Oa1.out _) ?_
 rintro e x1 ⟨rfl, hb⟩
 replace hL0 := hL0.call hb
 clear hb
 obtain ⟨x2, hweq, hL0⟩ := GL.named (hL0.new rfl [.int .u64 ((zl a1.num : Nat) : Int), .string (zh a1.num), .bool (zs a1.num), .int .u64 ((lo (fe a1) : Nat) : Int), .string (hs (fe a1))] 34)
 have hN0 := cells_of _ 0 [] rfl (hL0.get _ _ mZ)
 simp only [zF, Nat.reduceAdd] at hN0
 go_wp2_with fail
 clear hN0
 with_reducible refine Calls.mono (T0.out _ (hKT.out.at hL0.bl kKT)) ?_
 rintro e x3 ⟨rfl, hb⟩
 replace hL0 := hL0.call hb
 clear hb hweq
 have hN0 := cells_of _ 0 [] rfl (hL0.get _ _ mZ)
 simp only [zF, Nat.reduceAdd] at hN0
 go_wp2_with fail
 clear hN0
 with_reducible refine Calls.mono (T1.out _ (hKT.out.at hL0.bl kKT)) ?_
 rintro e x4 ⟨rfl, hb⟩
 replace hL0 := hL0.call hb
 clear hb
 have hN0 := cells_of _ 0 [] rfl (hL0.get _ _ mZ)
 simp only [zF, Nat.reduceAdd] at hN0
 go_wp2_with fail
 clear hN0
 with_reducible refine Calls.mono (T2.out _ (hKT.out.at hL0.bl kKT)) ?_
 rintro e x5 ⟨rfl, hb⟩
 replace hL0 := hL0.call hb
 clear hb
 go_wp2_with fail
 with_reducible refine Calls.mono (Oa2.out _) ?_
 rintro e x6 ⟨rfl, hb⟩
 replace hL0 := hL0.call hb
 clear hb
 go_wp2_with fail
 with_reducible refine Calls.mono (T3.out _ (hKT.out.at hL0.bl kKT)) ?_
 rintro e x7 ⟨rfl, hb⟩
 replace hL0 := hL0.call hb
 clear hb
 go_wp2_with fail
 with_reducible refine Calls.mono (Oa3.out _) ?_
 rintro e x8 ⟨rfl, hb⟩
 replace hL0 := hL0.call hb
 clear hb
 go_wp2_with fail
 with_reducible refine Calls.mono (T4.out _ (hKT.out.at hL0.bl kKT)) ?_
 rintro e x9 ⟨rfl, hb⟩
 replace hL0 := hL0.call hb
 clear hb
 go_wp2_with fail
 with_reducible refine Calls.mono (Oa3.out _) ?_
 rintro e x10 ⟨rfl, hb⟩
 replace hL0 := hL0.call hb
 clear hb
 go_wp2_with fail
 with_reducible refine Calls.mono (T5.out _ (hKT.out.at hL0.bl kKT)) ?_
 rintro e x11 ⟨rfl, hb⟩
 replace hL0 := hL0.call hb
 clear hb
 go_wp2_with fail
 with_reducible refine Calls.mono (Oa4.out _) ?_
 rintro e x12 ⟨rfl, hb⟩
 replace hL0 := hL0.call hb
 clear hb
 go_wp2_with fail
 with_reducible refine Calls.mono (T6.out _ (hKT.out.at hL0.bl kKT)) ?_
 rintro e x13 ⟨rfl, hb⟩
 replace hL0 := hL0.call hb
 clear hb
 go_wp2_with fail
 with_reducible refine Calls.mono (Oa5.out _) ?_
 rintro e x14 ⟨rfl, hb⟩
 replace hL0 := hL0.call hb
 clear hb
 go_wp2_with fail
 with_reducible refine Calls.mono (T7.out _ (hKT.out.at hL0.bl kKT)) ?_
 rintro e x15 ⟨rfl, hb⟩
 replace hL0 := hL0.call hb
 clear hb
 go_wp2_with fail
 with_reducible refine Calls.mono (Oa6.out _) ?_
 rintro e x16 ⟨rfl, hb⟩
 replace hL0 := hL0.call hb
 clear hb
 go_wp2_with fail
 with_reducible refine Calls.mono (R1.out _) ?_
 rintro e x17 ⟨rfl, hb⟩
 replace hL0 := hL0.call hb
 clear hb
 obtain ⟨x18, hweq, hL0⟩ := GL.named (hL0.new rfl [.int .u64 ((zl a7.num : Nat) : Int), .string (zh a7.num), .bool (zs a7.num), .int .u64 ((lo (fe a7) : Nat) : Int), .string (hs (fe a7))] 34)
 go_wp2_with fail
 with_reducible refine Calls.mono (Oa8.out _) ?_
 rintro e x19 ⟨rfl, hb⟩
 replace hL0 := hL0.call hb
 clear hb hweq
 go_wp2_with fail
 with_reducible refine Calls.mono (B1.out _) ?_
 rintro e x20 ⟨rfl, hb⟩
 replace hL0 := hL0.call hb
 clear hb
 obtain ⟨x21, hweq, hL0⟩ := GL.named ((hL0.new rfl [.int .u64 ((zl a9.num : Nat) : Int), .string (zh a9.num), .bool (zs a9.num), .int .u64 ((lo (fe a9) : Nat) : Int), .string (hs (fe a9))] 34).new (K := x20.heap.size + 1) (szA _ _) [.int .u64 ((zl b1.num : Nat) : Int), .string (zh b1.num), .bool (zs b1.num), .int .u64 ((lo (fe b1) : Nat) : Int), .string (hs (fe b1))] 34)
 go_wp2_with fail
 with_reducible refine Calls.mono (I1.out _) ?_
 rintro e x22 ⟨rfl, hb⟩
 replace hL0 := hL0.call hb
 clear hb hweq
 go_wp2_with fail
 with_reducible refine Calls.mono (E1.out _) ?_
 rintro e x23 ⟨rfl, hb⟩
 replace hL0 := hL0.call hb
 clear hb
 go_wp2_with fail
 with_reducible refine Calls.mono (I1.out _) ?_
 rintro e x24 ⟨rfl, hb⟩
 replace hL0 := hL0.call hb
 clear hb
 go_wp2_with fail
 with_reducible refine Calls.mono (E2.out _) ?_
 rintro e x25 ⟨rfl, hb⟩
 replace hL0 := hL0.call hb
 clear hb
 go_upto_region 8 with fail
 obtain ⟨α, iα, F, hF1, hF2⟩ := cls x25
 have hq0 := cls_box hF1 hL0 _ _ mZ
 simp only [zC, Nat.reduceAdd] at hq0
 have hq1 := cls_box hF1 hL0 _ _ (mK mZ)
 simp only [zC, Nat.reduceAdd] at hq1
 have hq2 := cls_box hF1 hL0 _ _ (mK (mK mZ))
 simp only [zC, Nat.reduceAdd] at hq2
 refine region_qs 25 (C := fun w' => ∃ x, w' = F x) (by kernel_rfl) (by kernel_rfl) (cls_drew hF2) ?_
 simp only [zT]
 repeat (go_big_quiet_step (first | fail | (go_at_call 41; with_reducible exact cls_call hF1 hF2 Oa7.out _) | (go_at_call 41; with_reducible exact cls_call hF1 hF2 Oa9.out _) | (go_at_call 41; with_reducible exact cls_call hF1 hF2 Ob1.out _)))
 refine wpQuiet_nil ?_
 rintro wq ⟨xq, rfl⟩
 replace hL0 := hL0.call (hF1 xq)
 clear  hq0 hq1 hq2 hF2
 generalize F xq = x26 at hL0 ⊢
 clear hF1 xq iα F α
 go_wp2_with fail
 with_reducible refine Calls.mono (P0.out _ (hKT.out.at hL0.bl kKT)) ?_
 rintro e x27 ⟨rfl, hb⟩
 replace hL0 := hL0.call hb
 clear hb
 go_wp2_with fail
 with_reducible refine Calls.mono (P1.out _ (hKT.out.at hL0.bl kKT)) ?_
 rintro e x28 ⟨rfl, hb⟩
 replace hL0 := hL0.call hb
 clear hb
 go_wp2_with fail
 with_reducible refine Calls.mono (P2.out _ (hKT.out.at hL0.bl kKT)) ?_
 rintro e x29 ⟨rfl, hb⟩
 replace hL0 := hL0.call hb
 clear hb
 go_wp2_with fail
 with_reducible refine Calls.mono (P3.out _ (hKT.out.at hL0.bl kKT)) ?_
 rintro e x30 ⟨rfl, hb⟩
 replace hL0 := hL0.call hb
 clear hb
 go_wp2_with fail
 with_reducible refine Calls.mono (P4.out _ (hKT.out.at hL0.bl kKT)) ?_
 rintro e x31 ⟨rfl, hb⟩
 replace hL0 := hL0.call hb
 clear hb
 go_wp2_with fail
 with_reducible refine Calls.mono (P5.out _ (hKT.out.at hL0.bl kKT)) ?_
 rintro e x32 ⟨rfl, hb⟩
 replace hL0 := hL0.call hb
 clear hb
 go_wp2_with fail
 with_reducible refine Calls.mono (Ob2.out _) ?_
 rintro e x33 ⟨rfl, hb⟩
 replace hL0 := hL0.call hb
 clear hb
 go_wp2_with fail
 with_reducible refine Calls.mono (Y0.out _) ?_
 rintro e x34 ⟨rfl, hb⟩
 replace hL0 := hL0.call hb
 clear hb
 go_wp2_with fail
 with_reducible refine Calls.mono (Ob3.out _) ?_
 rintro e x35 ⟨rfl, hb⟩
 replace hL0 := hL0.call hb
 clear hb
 go_wp2_with fail
 with_reducible refine Calls.mono (C0.out _) ?_
 rintro e x36 ⟨rfl, hb⟩
 replace hL0 := hL0.call hb
 clear hb
 go_wp2_with fail
 with_reducible refine Calls.mono (Ob4.out _) ?_
 rintro e x37 ⟨rfl, hb⟩
 replace hL0 := hL0.call hb
 clear hb
 go_wp2_with fail
 with_reducible refine Calls.mono (C1.out _) ?_
 rintro e x38 ⟨rfl, hb⟩
 replace hL0 := hL0.call hb
 clear hb
 go_wp2_with fail
 with_reducible refine Calls.mono (Oa3.out _) ?_
 rintro e x39 ⟨rfl, hb⟩
 replace hL0 := hL0.call hb
 clear hb
 go_wp2_with fail
 with_reducible refine Calls.mono (C2.out _) ?_
 rintro e x40 ⟨rfl, hb⟩
 replace hL0 := hL0.call hb
 clear hb
 go_wp2_with fail
 with_reducible refine Calls.mono (I3.out _) ?_
 rintro e x41 ⟨rfl, hb⟩
 replace hL0 := hL0.call hb
 clear hb
 go_wp2_with fail
 with_reducible refine Calls.mono (C3.out _) ?_
 rintro e x42 ⟨rfl, hb⟩
 replace hL0 := hL0.call hb
 clear hb
 go_wp2_with fail
 exact bodyPost_ret (v := .bool true) (by simp [results, Tryz.results11, go_sem]) rfl ⟨rfl, hL0.bl⟩
end Go.Proofs.YtahfcciihkkegaaGreatDoor
namespace Go.Proofs.YtahfcciihkkegaaGreatDoor
open Go.RowKit
open Go.Lib (decDigits)
/-- What the layer's walks want of the world. -/
def KD (w : World) : Prop := Tab w ∧ MaxL w
theorem KD.keeps : Keeps KD := fun w w' hb h => ⟨Keeps.tab w w' hb h.1, MaxL.keeps w w' hb h.2⟩
theorem of4 (n d : Int) (q : Rat) (h : ((n : Int) : Rat) / ((d : Int) : Rat) = q) (a1 : -9223372036854775808 ≤ n) (a2 : n < 9223372036854775808) (b1 : -9223372036854775808 ≤ d) (b2 : d < 9223372036854775808) (h0 : d ≠ 0) (w : World) :
  Calls Tryz.prog 41 #[.int .i64 n, .int .i64 d] w fun e w' => e = .returned (fracV q) ∧ Below w.heap.size w w' := by
 have H := fun w => ofF n d a1 a2 b1 b2 h0 w
 rw [h] at H
 exact lof4_w n d _ q H w
theorem decT_one (z : Int) (p : Nat) (h : z.natAbs / 10 ^ p < 10) : decT z p = (if z < 0 then [45] else []) ++ (dch (z.natAbs / 10 ^ p) :: tailT z.natAbs p) := by
 unfold decT; rw [dec_small h]; rfl
theorem tx4 (a : Rat) (p : Nat) (v z : Int) (t : List UInt8) (h1 : toI v (a * tenQ p) = z) (h2 : z.natAbs / 10 ^ p < 10) (h3 : (if z < 0 then [45] else []) ++ (dch (z.natAbs / 10 ^ p) :: tailT z.natAbs p) = t) (ha : Sz a 1) (hp : p ≤ 100) (hv : 1 ≤ v ∧ v ≤ 3) (w : World) (hw : KD w) :
  Calls Tryz.prog 42 #[fracV a, .int .i64 (p : Int), .int .i64 v] w fun e w' => e = .returned (.string ⟨t.toArray⟩) ∧ Below w.heap.size w w' := by
 have H := fun w htab => textD a p v 1 ha (by decide) hp hv w htab
 rw [h1, decT_one z p h2, h3] at H
 exact ltext4_ok a p v _ H w hw.1
theorem rd4 (l : List UInt8) (q : Rat) (t : ByteArray) (hq : Sz q 1) (ht : qtxt q = t) (HP : ∀ w, MaxL w → Calls Tryz.prog 19 #[.string ⟨l.toArray⟩] w fun e w' => e = .returned (.tuple #[fracV q, .int .i64 0]) ∧ Below w.heap.size w w') (w : World) (hw : KD w) :
  Calls Tryz.prog 43 #[.string ⟨l.toArray⟩] w fun e w' => e = .returned (.string t) ∧ Below w.heap.size w w' := by
 have HT := fun w htab => textF q 1 hq (by decide) w htab
 rw [ht] at HT
 exact lread4_ok q _ t MaxL MaxL.keeps HP HT w hw.1 hw.2
theorem rd4e (l : List UInt8) (HP : ∀ w, MaxL w → Calls Tryz.prog 19 #[.string ⟨l.toArray⟩] w fun e w' => e = .returned (.tuple #[fracV 0, .int .i64 4]) ∧ Below w.heap.size w w') (w : World) (hw : KD w) :
  Calls Tryz.prog 43 #[.string ⟨l.toArray⟩] w fun e w' => e = .returned (.string (ByteArray.mk #[110, 111, 110, 101])) ∧ Below w.heap.size w w' :=
 lread4_err 0 _ 4 MaxL MaxL.keeps HP (by decide) w hw.2
theorem cy4 (a : Rat) (i j : Int) (ha : Sz a 1) (h : CycA a.den i j 0) (w : World) :
  Calls Tryz.prog 44 #[fracV a, .int .i64 i, .int .i64 j] w fun e w' => e = .returned (.bool true) ∧ Below w.heap.size w w' :=
 dcycles_w a i j 0 0 0 true (fun w => cycD a 1 ha (by decide) i j 0 h w) w
theorem no_dec_007 : ¬ isDec [48, 48, 55] := isDec_no (by decide)
theorem no_dec_nil : ¬ isDec [] := isDec_no (by decide)
theorem parse_inV (f g : Bool) (l d p q : List UInt8) (hg : Sgn g l d) (hc : Lib.cut d [46] = (p, q, f)) (hp : isDec p) (hq : ∀ c ∈ q, isDig c) (hf : f = true → q ≠ []) (hl : l.length ≤ 4096) (hpl : p.length ≤ 4096) (hk : q.length ≤ 100) (h0 : g = true → dval p * 10 ^ q.length + dval q ≠ 0) (v : Rat)
  (hv : mkRat (if g then -((dval p * 10 ^ q.length + dval q : Nat) : Int) else ((dval p * 10 ^ q.length + dval q : Nat) : Int)) (10 ^ q.length) = v) (w : World) (hM : MaxL w) :
  Calls Tryz.prog 19 #[.string ⟨l.toArray⟩] w fun e w' => e = .returned (.tuple #[fracV v, .int .i64 0]) ∧ Below w.heap.size w w' := by
 subst hv
 exact parse_in f g l d p q hg hc hp hq hf hl hpl hk h0 w hM
theorem r_m125 (w : World) (hM : MaxL w) : Calls Tryz.prog 19 #[.string ⟨[45, 49, 46, 50, 53].toArray⟩] w fun e w' => e = .returned (.tuple #[fracV (mkRat (-5) 4), .int .i64 0]) ∧ Below w.heap.size w w' := by
 exact parse_inV true true [45, 49, 46, 50, 53] [49, 46, 50, 53] [49] [50, 53] (.inl ⟨rfl, rfl⟩) (by kernel_rfl) (isDec_yes (by decide)) (isDec_yes (by decide)).1 (fun _ => by decide) (by decide) (by decide) (by decide) (fun _ => by decide) _ (by decide +kernel) w hM
theorem r_310 (w : World) (hM : MaxL w) : Calls Tryz.prog 19 #[.string ⟨[51, 46, 49, 48].toArray⟩] w fun e w' => e = .returned (.tuple #[fracV (mkRat 31 10), .int .i64 0]) ∧ Below w.heap.size w w' := by
 exact parse_inV true false [51, 46, 49, 48] [51, 46, 49, 48] [51] [49, 48] (.inr ⟨rfl, rfl, by decide⟩) (by kernel_rfl) (isDec_yes (by decide)) (isDec_yes (by decide)).1 (fun _ => by decide) (by decide) (by decide) (by decide) (fun e => by cases e) _ (by decide +kernel) w hM
theorem r_007 (w : World) (hM : MaxL w) : Calls Tryz.prog 19 #[.string ⟨[48, 48, 55].toArray⟩] w fun e w' => e = .returned (.tuple #[fracV 0, .int .i64 4]) ∧ Below w.heap.size w w' := by
 rw [← zeroF]
 exact dparse_high_f _ _ _ _ 3 0 4 _ (cpD false [48, 48, 55] _ (.inr ⟨rfl, rfl, by decide⟩)) MaxL MaxL.keeps (cutD [48, 48, 55] [48, 48, 55] [] false (by decide) (by kernel_rfl)) (parse_form [48, 48, 55] (by decide) no_dec_007) rfl (by decide) (by decide) w hM
theorem r_1d (w : World) (hM : MaxL w) : Calls Tryz.prog 19 #[.string ⟨[49, 46].toArray⟩] w fun e w' => e = .returned (.tuple #[fracV 0, .int .i64 4]) ∧ Below w.heap.size w w' := by
 rw [← zeroF]
 exact dparse_end _ _ _ 2 _ (cpD false [49, 46] _ (.inr ⟨rfl, rfl, by decide⟩)) MaxL MaxL.keeps (cutD [49, 46] [49] [] true (by decide) (by kernel_rfl)) rfl (by decide) w hM
theorem r_d5 (w : World) (hM : MaxL w) : Calls Tryz.prog 19 #[.string ⟨[46, 53].toArray⟩] w fun e w' => e = .returned (.tuple #[fracV 0, .int .i64 4]) ∧ Below w.heap.size w w' := by
 rw [← zeroF]
 exact dparse_high_t _ _ _ _ 2 0 4 _ (cpD false [46, 53] _ (.inr ⟨rfl, rfl, by decide⟩)) MaxL MaxL.keeps (cutD [46, 53] [] [53] true (by decide) (by kernel_rfl)) (parse_form [] (by decide) no_dec_nil) rfl (by decide) (ne_list (a := [53]) (by decide)) (by decide) w hM
theorem r_m00 (w : World) (hM : MaxL w) : Calls Tryz.prog 19 #[.string ⟨[45, 48, 46, 48].toArray⟩] w fun e w' => e = .returned (.tuple #[fracV 0, .int .i64 4]) ∧ Below w.heap.size w w' := by
 rw [← zeroF]
 exact parse_zin true [45, 48, 46, 48] [48, 46, 48] [48] [48] (.inl ⟨rfl, rfl⟩) (by kernel_rfl) (isDec_yes (by decide)) (isDec_yes (by decide)).1 (fun _ => by decide) (by decide) (by decide) (by decide) (by decide) w hM
theorem qt_n5_4 : qtxt (mkRat (-5) 4) = (ByteArray.mk #[45, 53, 47, 52]) := by
 rw [qt_part (d := 4) (z := -5) (by decide +kernel) (by decide) (by decide +kernel), txt1 4 (by decide), show ztxt (-5 : Int) = _ from zt_neg 5 (by decide) (by decide)]
 decide +kernel
theorem dec_10 : decDigits 10 = [49, 48] := by
 rw [show (10 : Nat) = 1 * 10 + 0 from rfl, dec_big (by decide)]
 rw [show (1 * 10 + 0) / 10 = 1 from rfl, dec_small (by decide)]; rfl
theorem dec_31 : decDigits 31 = [51, 49] := by
 rw [dec_big (by decide), show 31 / 10 = 3 from rfl, dec_small (by decide)]; rfl
theorem qt_31_10 : qtxt (mkRat 31 10) = (ByteArray.mk #[51, 49, 47, 49, 48]) := by
 rw [qt_part (d := 10) (z := 31) (by decide +kernel) (by decide) (by decide +kernel)]
 unfold ztxt txt
 rw [if_neg (by decide), show (31 : Int).natAbs = 31 from rfl, dec_10, dec_31]
 decide +kernel
theorem leadC (k : Nat) (D : Nat) (h1 : Nat.gcd (Eden D k) 10 = 1) (h2 : ∀ i, i < k → Nat.gcd (Eden D i) 10 ≠ 1) : Lead D k := ⟨h1, h2⟩
theorem dworks_any (w : World) (hw : KD w) : Calls Tryz.prog 11 #[] w fun e w' => e = .returned (.bool true) ∧ Below w.heap.size w w' := by
 have sz : ∀ q : Rat, q.num.natAbs < 18446744073709551616 → q.den < 18446744073709551616 → Sz q 1 := szc
 have O := fun (n d : Int) (q : Rat) (h : ((n : Int) : Rat) / ((d : Int) : Rat) = q) (b : (-9223372036854775808 ≤ n ∧ n < 9223372036854775808) ∧ (-9223372036854775808 ≤ d ∧ d < 9223372036854775808) ∧ d ≠ 0) => of4 n d q h b.1.1 b.1.2 b.2.1.1 b.2.1.2 b.2.2
 have s1 := sz (mkRat 1 8) (by decide +kernel) (by decide +kernel)
 have s2 := sz (mkRat 3 8) (by decide +kernel) (by decide +kernel)
 have s3 := sz (mkRat (-1) 8) (by decide +kernel) (by decide +kernel)
 have s4 := sz (mkRat (-1) 1000) (by decide +kernel) (by decide +kernel)
 have s5 := sz (mkRat 5 2) (by decide +kernel) (by decide +kernel)
 have s6 := sz (mkRat 2 3) (by decide +kernel) (by decide +kernel)
 have s8 := sz (mkRat (-1) 3) (by decide +kernel) (by decide +kernel)
 have R1 := fun w => roundD (mkRat 2 3) 1 2 1 s6 (by decide) (by decide) (by decide) w
 rw [show rnd 2 1 (mkRat 2 3) = mkRat 7 10 from by decide +kernel] at R1
 have B1 := fun w => betweenD (mkRat (-1) 3) 1 1 s8 (by decide) (by decide) w
 rw [show rnd 1 1 (mkRat (-1) 3) = mkRat (-2) 5 from by decide +kernel, show rnd 2 1 (mkRat (-1) 3) = mkRat (-3) 10 from by decide +kernel] at B1
 have E1 := fun w => textE ((1 : Int) : Rat) 101 1 (by decide) w
 rw [show rdC 101 1 = 3 from by decide] at E1
 have E2 := fun w => textE ((1 : Int) : Rat) 0 4 (by decide) w
 rw [show rdC 0 4 = 1 from by decide] at E2
 have Y0 := fun w => cycD (mkRat 1 109) 1 (sz _ (by decide +kernel) (by decide +kernel)) (by decide) 0 0 3 (by
  rw [show (mkRat 1 109).den = 109 from by decide +kernel]
  exact .inr (.inr (.inl ⟨0, leadC 0 109 (by decide +kernel) (fun i h => absurd h (Nat.not_lt_zero _)), by decide, by decide +kernel, fun i h1 h2 => (show ∀ i, i < 101 → 1 ≤ i → 10 ^ i % Eden 109 0 ≠ 1 from by decide +kernel) i (by omega) h1, rfl, rfl, rfl⟩))) w
 have C0 := cy4 (mkRat 1 6) 1 1 (sz _ (by decide +kernel) (by decide +kernel)) (by
  rw [show (mkRat 1 6).den = 6 from by decide +kernel]
  exact .inr (.inl ⟨1, 1, leadC 1 6 (by decide +kernel) (by decide +kernel), by decide, by decide +kernel, by decide, by decide, by decide +kernel, fun i a b => by omega, rfl, rfl, rfl⟩))
 have C1 := cy4 (mkRat 1 7) 0 6 (sz _ (by decide +kernel) (by decide +kernel)) (by
  rw [show (mkRat 1 7).den = 7 from by decide +kernel]
  exact .inr (.inl ⟨0, 6, leadC 0 7 (by decide +kernel) (fun i h => absurd h (Nat.not_lt_zero _)), by decide, by decide +kernel, by decide, by decide, by decide +kernel, fun i a b => (show ∀ i, i < 6 → 1 ≤ i → 10 ^ i % Eden 7 0 ≠ 1 from by decide +kernel) i b a, rfl, rfl, rfl⟩))
 have C2 := cy4 (mkRat (-1) 8) 3 0 s3 (by
  rw [show (mkRat (-1) 8).den = 8 from by decide +kernel]
  exact .inl ⟨3, leadC 3 8 (by decide +kernel) (by decide +kernel), by decide, by decide +kernel, rfl, rfl, rfl⟩)
 have C3 := cy4 ((3 : Int) : Rat) 0 0 (sz _ (by decide +kernel) (by decide +kernel)) (by
  rw [show ((3 : Int) : Rat).den = 1 from by decide +kernel]
  exact .inl ⟨0, leadC 0 1 (by decide +kernel) (fun i h => absurd h (Nat.not_lt_zero _)), by decide, by decide +kernel, rfl, rfl, rfl⟩)
 refine dworks_w (mkRat 1 8) (mkRat 3 8) (mkRat (-1) 8) (mkRat (-1) 1000) (mkRat 5 2) (mkRat 2 3) (mkRat 7 10) (mkRat (-1) 3) (mkRat (-2) 5) (mkRat (-3) 10) (mkRat 1 109) (mkRat 1 6) (mkRat 1 7) ((1 : Int) : Rat) ((3 : Int) : Rat)
  (O 1 8 _ (by decide +kernel) (by decide)) (O 3 8 _ (by decide +kernel) (by decide)) (O (-1) 8 _ (by decide +kernel) (by decide)) (O (-1) 1000 _ (by decide +kernel) (by decide)) (O 5 2 _ (by decide +kernel) (by decide)) (O 2 3 _ (by decide +kernel) (by decide)) (O 7 10 _ (by decide +kernel) (by decide)) (O (-1) 3 _ (by decide +kernel) (by decide)) (O (-2) 5 _ (by decide +kernel) (by decide)) (O (-3) 10 _ (by decide +kernel) (by decide)) (O 1 109 _ (by decide +kernel) (by decide)) (O 1 6 _ (by decide +kernel) (by decide)) (O 1 7 _ (by decide +kernel) (by decide))
  (fun w => intF 1 (by decide) (by decide) w) (fun w => intF 3 (by decide) (by decide) w) KD KD.keeps
  (tx4 _ 2 1 12 [48, 46, 49, 50] (by decide +kernel) (by decide) (by decide +kernel) s1 (by decide) (by decide))
  (tx4 _ 2 2 13 [48, 46, 49, 51] (by decide +kernel) (by decide) (by decide +kernel) s1 (by decide) (by decide))
  (tx4 _ 2 3 12 [48, 46, 49, 50] (by decide +kernel) (by decide) (by decide +kernel) s1 (by decide) (by decide))
  (tx4 _ 2 3 38 [48, 46, 51, 56] (by decide +kernel) (by decide) (by decide +kernel) s2 (by decide) (by decide))
  (tx4 _ 2 1 (-13) [45, 48, 46, 49, 51] (by decide +kernel) (by decide) (by decide +kernel) s3 (by decide) (by decide))
  (tx4 _ 2 2 (-12) [45, 48, 46, 49, 50] (by decide +kernel) (by decide) (by decide +kernel) s3 (by decide) (by decide))
  (tx4 _ 2 2 0 [48, 46, 48, 48] (by decide +kernel) (by decide) (by decide +kernel) s4 (by decide) (by decide))
  (tx4 _ 0 3 2 [50] (by decide +kernel) (by decide) (by decide +kernel) s5 (by decide) (by decide))
  R1 B1 E1 E2
  (rd4 _ _ _ (sz _ (by decide +kernel) (by decide +kernel)) qt_n5_4 r_m125) (rd4e _ r_007) (rd4e _ r_1d) (rd4e _ r_d5) (rd4e _ r_m00) (rd4 _ _ _ (sz _ (by decide +kernel) (by decide +kernel)) qt_31_10 r_310)
  Y0 C0 C1 C2 C3 w hw
end Go.Proofs.YtahfcciihkkegaaGreatDoor
namespace Go.Proofs.YtahfcciihkkegaaGreatDoor
open Go.RowKit Go.Proofs.YtahfcciihkkegaaGreatDoor.Rx
attribute [local irreducible] lo hs sm s64 c64 d64 b64 mh ml pd pc qd qc val hiB str cmpI srD lz nb isq decB zl zh zs dval tln ztxt txt fd fe
theorem dtexts_big0 (sx : Bool) (ax qx : Option Addr) (nx cx mx dx : Nat) (n v : Int) (KT : World → Prop) (hKT : Keeps KT) (HW : RK KT 11 #[] (.bool true)) (l0 : decide ((5 : Int) < ((nx : Nat) : Int)) = true) (k0 : decide (5 < nx) = true) (w : World) (kKT : KT w) :
  Calls Tryz.prog 3 #[.agg #[.bool sx, .slice ax nx cx, .slice qx mx dx], .int .i64 n, .int .i64 v] w fun e w' => e = .returned (.bool true) ∧ Below w.heap.size w w' := by
 replace hKT := Lib.hid hKT
 replace HW := Lib.hid HW
 have hL0 : GL w w [] := GL.start w
 have hS : SS w [] := SS.nil w
 obtain ⟨x1, hweq, hL0, hS⟩ := GL.named2 (hL0.new rfl [.bool sx, .slice ax nx cx, .slice qx mx dx] 26) (hS.new (.cells #[.bool sx, .slice ax nx cx, .slice qx mx dx] 26))
 go_enter Tryz.func3, Tryz.ntmps3
 have hN0 := cells_of _ 0 [] rfl (hL0.get _ _ mZ)
 simp only [zF, Nat.reduceAdd] at hN0
 go_wp2_with fail
 clear hN0
 with_reducible refine Calls.mono (HW.out _ (hKT.out.at (hL0.bl) kKT)) ?_
 rintro e x2 ⟨rfl, hb⟩
 replace hL0 := hL0.call hb
 replace hS := hS.call hb
 clear hb hweq
 go_wp2_with fail
 exact bodyPost_ret (v := .bool true) (by simp [results, Tryz.results3, go_sem]) rfl ⟨rfl, hL0.bl⟩
theorem dtexts_big1 (sx : Bool) (ax qx : Option Addr) (nx cx mx dx : Nat) (n v : Int) (KT : World → Prop) (hKT : Keeps KT) (HW : RK KT 11 #[] (.bool true)) (l0 : decide ((5 : Int) < ((nx : Nat) : Int)) = false) (k0 : decide (5 < nx) = false) (l1 : decide ((5 : Int) < ((mx : Nat) : Int)) = true) (k1 : decide (5 < mx) = true) (w : World) (kKT : KT w) :
  Calls Tryz.prog 3 #[.agg #[.bool sx, .slice ax nx cx, .slice qx mx dx], .int .i64 n, .int .i64 v] w fun e w' => e = .returned (.bool true) ∧ Below w.heap.size w w' := by
 replace hKT := Lib.hid hKT
 replace HW := Lib.hid HW
 have hL0 : GL w w [] := GL.start w
 have hS : SS w [] := SS.nil w
 obtain ⟨x1, hweq, hL0, hS⟩ := GL.named2 (hL0.new rfl [.bool sx, .slice ax nx cx, .slice qx mx dx] 26) (hS.new (.cells #[.bool sx, .slice ax nx cx, .slice qx mx dx] 26))
 go_enter Tryz.func3, Tryz.ntmps3
 have hN0 := cells_of _ 0 [] rfl (hL0.get _ _ mZ)
 simp only [zF, Nat.reduceAdd] at hN0
 go_wp2_with fail
 clear hN0
 with_reducible refine Calls.mono (HW.out _ (hKT.out.at (hL0.bl) kKT)) ?_
 rintro e x2 ⟨rfl, hb⟩
 replace hL0 := hL0.call hb
 replace hS := hS.call hb
 clear hb hweq
 go_wp2_with fail
 exact bodyPost_ret (v := .bool true) (by simp [results, Tryz.results3, go_sem]) rfl ⟨rfl, hL0.bl⟩
theorem dtexts_mid (sx : Bool) (ax qx : Option Addr) (nx cx mx dx : Nat) (n v : Int) (KT : World → Prop) (hKT : Keeps KT) (HW : RK KT 11 #[] (.bool true)) (l0 : decide ((5 : Int) < ((nx : Nat) : Int)) = false) (k0 : decide (5 < nx) = false) (l1 : decide ((5 : Int) < ((mx : Nat) : Int)) = false) (k1 : decide (5 < mx) = false) (g1 : decide (40 < n) = true) (g2 : decide (n ≤ 100) = true) (w : World) (kKT : KT w) :
  Calls Tryz.prog 3 #[.agg #[.bool sx, .slice ax nx cx, .slice qx mx dx], .int .i64 n, .int .i64 v] w fun e w' => e = .returned (.bool true) ∧ Below w.heap.size w w' := by
 replace hKT := Lib.hid hKT
 replace HW := Lib.hid HW
 have hL0 : GL w w [] := GL.start w
 have hS : SS w [] := SS.nil w
 obtain ⟨x1, hweq, hL0, hS⟩ := GL.named2 (hL0.new rfl [.bool sx, .slice ax nx cx, .slice qx mx dx] 26) (hS.new (.cells #[.bool sx, .slice ax nx cx, .slice qx mx dx] 26))
 go_enter Tryz.func3, Tryz.ntmps3
 have hN0 := cells_of _ 0 [] rfl (hL0.get _ _ mZ)
 simp only [zF, Nat.reduceAdd] at hN0
 go_wp2_with fail
 clear hN0
 with_reducible refine Calls.mono (HW.out _ (hKT.out.at (hL0.bl) kKT)) ?_
 rintro e x2 ⟨rfl, hb⟩
 replace hL0 := hL0.call hb
 replace hS := hS.call hb
 clear hb hweq
 go_wp2_with fail
 exact bodyPost_ret (v := .bool true) (by simp [results, Tryz.results3, go_sem]) rfl ⟨rfl, hL0.bl⟩
theorem dtexts_low (sx : Bool) (ax qx : Option Addr) (nx cx mx dx : Nat) (n v c : Int) (q r : Rat) (s : ByteArray) (Kx : World → Prop) (hKx : Keeps Kx) (GX : RK Kx 13 #[.agg #[.bool sx, .slice ax nx cx, .slice qx mx dx]] (fracV q)) (HR : RT 12 #[fracV q, .int .i64 n, .int .i64 v] (.tuple #[fracV r, .int .i64 c])) (KT : World → Prop) (hKT : Keeps KT) (HT : RK KT 14 #[fracV q, .int .i64 n, .int .i64 v] (.tuple #[.string s, .int .i64 c])) (RX : ∀ (w : World), Kx w → Calls Tryz.prog 16 #[.agg #[.bool sx, .slice ax nx cx, .slice qx mx dx]] w fun e w' => ∃ pv, e = .returned pv ∧ RF w' pv q ∧ Below w.heap.size w w') (RR : ∀ (p0 : Value) (w : World), RF w p0 q → Calls Tryz.prog 15 #[p0, .int .i64 n, .int .i64 v] w fun e w' => ∃ pv, e = .returned (.tuple #[pv, .int .i64 c]) ∧ RF w' pv r ∧ Below w.heap.size w w') (RT : ∀ (p0 : Value) (w : World), RF w p0 q → Calls Tryz.prog 17 #[p0, .int .i64 n, .int .i64 v] w fun e w' => e = .returned (.tuple #[.string s, .int .i64 c]) ∧ Below w.heap.size w w') (HS : ∀ (p1 : Value) (w : World), KT w → RF w p1 r → Calls Tryz.prog 18 #[fracV r, p1] w fun e w' => e = .returned (.bool true) ∧ Below w.heap.size w w') (HW : RK KT 11 #[] (.bool true)) (l0 : decide ((5 : Int) < ((nx : Nat) : Int)) = false) (k0 : decide (5 < nx) = false) (l1 : decide ((5 : Int) < ((mx : Nat) : Int)) = false) (k1 : decide (5 < mx) = false) (g1 : decide (40 < n) = false) (w : World) (kKx : Kx w) (kKT : KT w) :
  Calls Tryz.prog 3 #[.agg #[.bool sx, .slice ax nx cx, .slice qx mx dx], .int .i64 n, .int .i64 v] w fun e w' => e = .returned (.bool true) ∧ Below w.heap.size w w' := by
 replace hKx := Lib.hid hKx
 replace GX := Lib.hid GX
 replace HR := Lib.hid HR
 replace hKT := Lib.hid hKT
 replace HT := Lib.hid HT
 replace RX := Lib.hid RX
 replace RR := Lib.hid RR
 replace RT := Lib.hid RT
 replace HS := Lib.hid HS
 replace HW := Lib.hid HW
 have hL0 : GL w w [] := GL.start w
 have hS : SS w [] := SS.nil w
 obtain ⟨x1, hweq, hL0, hS⟩ := GL.named2 (hL0.new rfl [.bool sx, .slice ax nx cx, .slice qx mx dx] 26) (hS.new (.cells #[.bool sx, .slice ax nx cx, .slice qx mx dx] 26))
 go_enter Tryz.func3, Tryz.ntmps3
 have hN0 := cells_of _ 0 [] rfl (hL0.get _ _ mZ)
 simp only [zF, Nat.reduceAdd] at hN0
 go_wp2_with fail
 clear hN0
 with_reducible refine Calls.mono (GX.out _ (hKx.out.at (hL0.bl) kKx)) ?_
 rintro e x2 ⟨rfl, hb⟩
 replace hL0 := hL0.call hb
 replace hS := hS.call hb
 clear hb hweq
 go_wp2_with fail
 with_reducible refine Calls.mono (HR.out _) ?_
 rintro e x3 ⟨rfl, hb⟩
 replace hL0 := hL0.call hb
 replace hS := hS.call hb
 clear hb
 obtain ⟨x4, hweq, hL0, hS⟩ := GL.named2 (hL0.new rfl [.int .u64 ((zl r.num : Nat) : Int), .string (zh r.num), .bool (zs r.num), .int .u64 ((lo (fe r) : Nat) : Int), .string (hs (fe r))] 34) (hS.new (.cells #[.int .u64 ((zl r.num : Nat) : Int), .string (zh r.num), .bool (zs r.num), .int .u64 ((lo (fe r) : Nat) : Int), .string (hs (fe r))] 34))
 have hN0 := cells_of _ 0 [] rfl (hL0.get _ _ (mK mZ))
 simp only [zF, Nat.reduceAdd] at hN0
 go_wp2_with fail
 clear hN0
 with_reducible refine Calls.mono (GX.out _ (hKx.out.at (hL0.bl) kKx)) ?_
 rintro e x5 ⟨rfl, hb⟩
 replace hL0 := hL0.call hb
 replace hS := hS.call hb
 clear hb hweq
 go_wp2_with fail
 with_reducible refine Calls.mono (HT.out _ (hKT.out.at (hL0.bl) kKT)) ?_
 rintro e x6 ⟨rfl, hb⟩
 replace hL0 := hL0.call hb
 replace hS := hS.call hb
 clear hb
 have hN0 := cells_of _ 0 [] rfl (hL0.get _ _ (mK mZ))
 simp only [zF, Nat.reduceAdd] at hN0
 go_wp2_with fail
 clear hN0
 with_reducible refine Calls.mono (RX.out _ (hKx.out.at (hL0.bl) kKx)) ?_
 rintro e x7 ⟨v0, rfl, q0, hb⟩
 replace hL0 := hL0.call hb
 replace hS := hS.call hb
 clear hb
 obtain ⟨g1, d1, g2, d2, rfl⟩ := rf_form q0
 replace hS := hS.cons (rf_rn1 q0)
 replace hS := hS.cons (rf_rn2 q0)
 clear q0
 go_wp2_with fail
 with_reducible refine Calls.mono (RR.out (.agg #[.bool (zs q.num), .slice g1 (tln q.num.natAbs) d1, .slice g2 (tln (fd q)) d2]) _ (rf_of (hS.get (mK mZ)) (hS.get mZ))) ?_
 rintro e x8 ⟨v0, rfl, q0, hb⟩
 replace hL0 := hL0.call hb
 replace hS := hS.call hb
 clear hb
 obtain ⟨g3, d3, g4, d4, rfl⟩ := rf_form q0
 replace hS := hS.cons (rf_rn1 q0)
 replace hS := hS.cons (rf_rn2 q0)
 clear q0
 obtain ⟨x9, hweq, hL0, hS⟩ := GL.named2 (hL0.new rfl [.bool (zs r.num), .slice g3 (tln r.num.natAbs) d3, .slice g4 (tln (fd r)) d4] 46) (hS.new (.cells #[.bool (zs r.num), .slice g3 (tln r.num.natAbs) d3, .slice g4 (tln (fd r)) d4] 46))
 have hN0 := cells_of _ 0 [] rfl (hL0.get _ _ (mK (mK mZ)))
 simp only [zF, Nat.reduceAdd] at hN0
 go_wp2_with fail
 clear hN0
 with_reducible refine Calls.mono (RX.out _ (hKx.out.at (hL0.bl) kKx)) ?_
 rintro e x10 ⟨v0, rfl, q0, hb⟩
 replace hL0 := hL0.call hb
 replace hS := hS.call hb
 clear hb hweq
 obtain ⟨g5, d5, g6, d6, rfl⟩ := rf_form q0
 replace hS := hS.cons (rf_rn1 q0)
 replace hS := hS.cons (rf_rn2 q0)
 clear q0
 go_wp2_with fail
 with_reducible refine Calls.mono (RT.out (.agg #[.bool (zs q.num), .slice g5 (tln q.num.natAbs) d5, .slice g6 (tln (fd q)) d6]) _ (rf_of (hS.get (mK mZ)) (hS.get mZ))) ?_
 rintro e x11 ⟨rfl, hb⟩
 replace hL0 := hL0.call hb
 replace hS := hS.call hb
 clear hb
 have hN0 := cells_of _ 0 [] rfl (hL0.get _ _ mZ)
 simp only [zF, Nat.reduceAdd] at hN0
 have hN1 := cells_of _ 0 [] rfl (hL0.get _ _ (mK mZ))
 simp only [zF, Nat.reduceAdd] at hN1
 go_wp2_with fail
 clear hN0 hN1
 with_reducible refine Calls.mono (HS.out (.agg #[.bool (zs r.num), .slice g3 (tln r.num.natAbs) d3, .slice g4 (tln (fd r)) d4]) _ (hKT.out.at (hL0.bl) kKT) (rf_of (hS.get (mK (mK (mK mZ)))) (hS.get (mK (mK mZ))))) ?_
 rintro e x12 ⟨rfl, hb⟩
 replace hL0 := hL0.call hb
 replace hS := hS.call hb
 clear hb
 go_wp2_with fail
 with_reducible refine Calls.mono (HW.out _ (hKT.out.at (hL0.bl) kKT)) ?_
 rintro e x13 ⟨rfl, hb⟩
 replace hL0 := hL0.call hb
 replace hS := hS.call hb
 clear hb
 go_wp2_with fail
 exact bodyPost_ret (v := .bool true) (by simp [results, Tryz.results3, go_sem]) rfl ⟨rfl, hL0.bl⟩
theorem dtexts_far (sx : Bool) (ax qx : Option Addr) (nx cx mx dx : Nat) (n v c : Int) (q r : Rat) (s : ByteArray) (Kx : World → Prop) (hKx : Keeps Kx) (GX : RK Kx 13 #[.agg #[.bool sx, .slice ax nx cx, .slice qx mx dx]] (fracV q)) (HR : RT 12 #[fracV q, .int .i64 n, .int .i64 v] (.tuple #[fracV r, .int .i64 c])) (KT : World → Prop) (hKT : Keeps KT) (HT : RK KT 14 #[fracV q, .int .i64 n, .int .i64 v] (.tuple #[.string s, .int .i64 c])) (RX : ∀ (w : World), Kx w → Calls Tryz.prog 16 #[.agg #[.bool sx, .slice ax nx cx, .slice qx mx dx]] w fun e w' => ∃ pv, e = .returned pv ∧ RF w' pv q ∧ Below w.heap.size w w') (RR : ∀ (p0 : Value) (w : World), RF w p0 q → Calls Tryz.prog 15 #[p0, .int .i64 n, .int .i64 v] w fun e w' => ∃ pv, e = .returned (.tuple #[pv, .int .i64 c]) ∧ RF w' pv r ∧ Below w.heap.size w w') (RT : ∀ (p0 : Value) (w : World), RF w p0 q → Calls Tryz.prog 17 #[p0, .int .i64 n, .int .i64 v] w fun e w' => e = .returned (.tuple #[.string s, .int .i64 c]) ∧ Below w.heap.size w w') (HS : ∀ (p1 : Value) (w : World), KT w → RF w p1 r → Calls Tryz.prog 18 #[fracV r, p1] w fun e w' => e = .returned (.bool true) ∧ Below w.heap.size w w') (HW : RK KT 11 #[] (.bool true)) (l0 : decide ((5 : Int) < ((nx : Nat) : Int)) = false) (k0 : decide (5 < nx) = false) (l1 : decide ((5 : Int) < ((mx : Nat) : Int)) = false) (k1 : decide (5 < mx) = false) (g1 : decide (40 < n) = true) (g2 : decide (n ≤ 100) = false) (w : World) (kKx : Kx w) (kKT : KT w) :
  Calls Tryz.prog 3 #[.agg #[.bool sx, .slice ax nx cx, .slice qx mx dx], .int .i64 n, .int .i64 v] w fun e w' => e = .returned (.bool true) ∧ Below w.heap.size w w' := by
 replace hKx := Lib.hid hKx
 replace GX := Lib.hid GX
 replace HR := Lib.hid HR
 replace hKT := Lib.hid hKT
 replace HT := Lib.hid HT
 replace RX := Lib.hid RX
 replace RR := Lib.hid RR
 replace RT := Lib.hid RT
 replace HS := Lib.hid HS
 replace HW := Lib.hid HW
 have hL0 : GL w w [] := GL.start w
 have hS : SS w [] := SS.nil w
 obtain ⟨x1, hweq, hL0, hS⟩ := GL.named2 (hL0.new rfl [.bool sx, .slice ax nx cx, .slice qx mx dx] 26) (hS.new (.cells #[.bool sx, .slice ax nx cx, .slice qx mx dx] 26))
 go_enter Tryz.func3, Tryz.ntmps3
 have hN0 := cells_of _ 0 [] rfl (hL0.get _ _ mZ)
 simp only [zF, Nat.reduceAdd] at hN0
 go_wp2_with fail
 clear hN0
 with_reducible refine Calls.mono (GX.out _ (hKx.out.at (hL0.bl) kKx)) ?_
 rintro e x2 ⟨rfl, hb⟩
 replace hL0 := hL0.call hb
 replace hS := hS.call hb
 clear hb hweq
 go_wp2_with fail
 with_reducible refine Calls.mono (HR.out _) ?_
 rintro e x3 ⟨rfl, hb⟩
 replace hL0 := hL0.call hb
 replace hS := hS.call hb
 clear hb
 obtain ⟨x4, hweq, hL0, hS⟩ := GL.named2 (hL0.new rfl [.int .u64 ((zl r.num : Nat) : Int), .string (zh r.num), .bool (zs r.num), .int .u64 ((lo (fe r) : Nat) : Int), .string (hs (fe r))] 34) (hS.new (.cells #[.int .u64 ((zl r.num : Nat) : Int), .string (zh r.num), .bool (zs r.num), .int .u64 ((lo (fe r) : Nat) : Int), .string (hs (fe r))] 34))
 have hN0 := cells_of _ 0 [] rfl (hL0.get _ _ (mK mZ))
 simp only [zF, Nat.reduceAdd] at hN0
 go_wp2_with fail
 clear hN0
 with_reducible refine Calls.mono (GX.out _ (hKx.out.at (hL0.bl) kKx)) ?_
 rintro e x5 ⟨rfl, hb⟩
 replace hL0 := hL0.call hb
 replace hS := hS.call hb
 clear hb hweq
 go_wp2_with fail
 with_reducible refine Calls.mono (HT.out _ (hKT.out.at (hL0.bl) kKT)) ?_
 rintro e x6 ⟨rfl, hb⟩
 replace hL0 := hL0.call hb
 replace hS := hS.call hb
 clear hb
 have hN0 := cells_of _ 0 [] rfl (hL0.get _ _ (mK mZ))
 simp only [zF, Nat.reduceAdd] at hN0
 go_wp2_with fail
 clear hN0
 with_reducible refine Calls.mono (RX.out _ (hKx.out.at (hL0.bl) kKx)) ?_
 rintro e x7 ⟨v0, rfl, q0, hb⟩
 replace hL0 := hL0.call hb
 replace hS := hS.call hb
 clear hb
 obtain ⟨g1, d1, g2, d2, rfl⟩ := rf_form q0
 replace hS := hS.cons (rf_rn1 q0)
 replace hS := hS.cons (rf_rn2 q0)
 clear q0
 go_wp2_with fail
 with_reducible refine Calls.mono (RR.out (.agg #[.bool (zs q.num), .slice g1 (tln q.num.natAbs) d1, .slice g2 (tln (fd q)) d2]) _ (rf_of (hS.get (mK mZ)) (hS.get mZ))) ?_
 rintro e x8 ⟨v0, rfl, q0, hb⟩
 replace hL0 := hL0.call hb
 replace hS := hS.call hb
 clear hb
 obtain ⟨g3, d3, g4, d4, rfl⟩ := rf_form q0
 replace hS := hS.cons (rf_rn1 q0)
 replace hS := hS.cons (rf_rn2 q0)
 clear q0
 obtain ⟨x9, hweq, hL0, hS⟩ := GL.named2 (hL0.new rfl [.bool (zs r.num), .slice g3 (tln r.num.natAbs) d3, .slice g4 (tln (fd r)) d4] 46) (hS.new (.cells #[.bool (zs r.num), .slice g3 (tln r.num.natAbs) d3, .slice g4 (tln (fd r)) d4] 46))
 have hN0 := cells_of _ 0 [] rfl (hL0.get _ _ (mK (mK mZ)))
 simp only [zF, Nat.reduceAdd] at hN0
 go_wp2_with fail
 clear hN0
 with_reducible refine Calls.mono (RX.out _ (hKx.out.at (hL0.bl) kKx)) ?_
 rintro e x10 ⟨v0, rfl, q0, hb⟩
 replace hL0 := hL0.call hb
 replace hS := hS.call hb
 clear hb hweq
 obtain ⟨g5, d5, g6, d6, rfl⟩ := rf_form q0
 replace hS := hS.cons (rf_rn1 q0)
 replace hS := hS.cons (rf_rn2 q0)
 clear q0
 go_wp2_with fail
 with_reducible refine Calls.mono (RT.out (.agg #[.bool (zs q.num), .slice g5 (tln q.num.natAbs) d5, .slice g6 (tln (fd q)) d6]) _ (rf_of (hS.get (mK mZ)) (hS.get mZ))) ?_
 rintro e x11 ⟨rfl, hb⟩
 replace hL0 := hL0.call hb
 replace hS := hS.call hb
 clear hb
 have hN0 := cells_of _ 0 [] rfl (hL0.get _ _ mZ)
 simp only [zF, Nat.reduceAdd] at hN0
 have hN1 := cells_of _ 0 [] rfl (hL0.get _ _ (mK mZ))
 simp only [zF, Nat.reduceAdd] at hN1
 go_wp2_with fail
 clear hN0 hN1
 with_reducible refine Calls.mono (HS.out (.agg #[.bool (zs r.num), .slice g3 (tln r.num.natAbs) d3, .slice g4 (tln (fd r)) d4]) _ (hKT.out.at (hL0.bl) kKT) (rf_of (hS.get (mK (mK (mK mZ)))) (hS.get (mK (mK mZ))))) ?_
 rintro e x12 ⟨rfl, hb⟩
 replace hL0 := hL0.call hb
 replace hS := hS.call hb
 clear hb
 go_wp2_with fail
 with_reducible refine Calls.mono (HW.out _ (hKT.out.at (hL0.bl) kKT)) ?_
 rintro e x13 ⟨rfl, hb⟩
 replace hL0 := hL0.call hb
 replace hS := hS.call hb
 clear hb
 go_wp2_with fail
 exact bodyPost_ret (v := .bool true) (by simp [results, Tryz.results3, go_sem]) rfl ⟨rfl, hL0.bl⟩
end Go.Proofs.YtahfcciihkkegaaGreatDoor
namespace Go.Proofs.YtahfcciihkkegaaGreatDoor
open Go.RowKit
open Go.Lib (decDigits)
theorem dpair (v u : Value) (l k : List Nat) : Keeps (fun w => Ws w v l ∧ Ws w u k) := Keeps.and (Keeps.ws v l) (Keeps.ws u k)
theorem i64w (x : Int) (h1 : -9223372036854775808 ≤ x) (h2 : x < 9223372036854775808) : IntKind.i64.wrap x = x := by
 simp only [IntKind.wrap, IntKind.signed, IntKind.bits]
 simp
 omega
theorem w64w (x : Int) (h1 : -9223372036854775808 ≤ x) (h2 : x < 9223372036854775808) : wrap64 x = x := by unfold wrap64; omega
attribute [local irreducible] decT toI rnd tenQ tailT
end Go.Proofs.YtahfcciihkkegaaGreatDoor
namespace Go.Proofs.YtahfcciihkkegaaGreatDoor
open Go.RowKit
/-- The integer and the rest decide how a number is rounded. -/
theorem toI_rest {way : Int} (h1 : 1 ≤ way) (h3 : way ≤ 3) (x : Rat) : toI way x = if x - (x.floor : Rat) = 0 ∨ way = 1 then x.floor else if way = 2 then x.floor + 1 else
  if x - (x.floor : Rat) < mkRat 1 2 ∨ x - (x.floor : Rat) = mkRat 1 2 ∧ x.floor % 2 = 0 then x.floor else x.floor + 1 := by
 have hm := Int.emod_two_eq x.floor
 rcases ceil_cases x with ⟨e, hc⟩ | ⟨e, hc⟩
 ·rw [if_pos (.inl (by grind))]
  unfold toI
  rw [hc]
  split <;> (try split) <;> rfl
 ·have hr : ¬ x - (x.floor : Rat) = 0 := fun g => e (by grind)
  unfold toI nearUp
  rw [hc]
  rcases (by omega : way = 1 ∨ way = 2 ∨ way = 3) with rfl | rfl | rfl
  ·rw [if_neg (by decide), if_neg (by decide), if_pos (.inr rfl)]
  ·rw [if_neg (by decide), if_pos rfl, if_neg (by simp [hr]), if_pos rfl]
  ·rw [if_pos rfl, if_neg (show ¬ (x - (x.floor : Rat) = 0 ∨ (3 : Int) = 1) by rintro (g | g); exact hr g; omega), if_neg (show ¬ (3 : Int) = 2 by decide)]
   generalize x - (x.floor : Rat) = r
   generalize x.floor = F at hm
   by_cases g1 : r < mkRat 1 2
   ·simp [g1]
   ·by_cases g2 : r = mkRat 1 2
    ·rcases hm with h | h <;> simp [g1, g2, h] <;> simp_all
    ·simp [g1, g2]
end Go.Proofs.YtahfcciihkkegaaGreatDoor
namespace Go.Proofs.YtahfcciihkkegaaGreatDoor
open Go.RowKit Go.Proofs.YtahfcciihkkegaaGreatDoor.Rx
open Go.Lib (decDigits)
theorem rzof_lit (k : Nat) (hk : k < 1000) (w : World) : Calls Tryz.prog 61 #[.int .i64 (k : Int)] w fun e w' => ∃ v, e = .returned v ∧ RZ w' v (k : Int) ∧ Below w.heap.size w w' :=
 rzof_pos k k k k (fun w => rof_val k k rfl (by omega) w) (rz_from false k k (by first | (simp; done) | (simp; omega)) rfl) (decide_eq_false (by omega)) (by simp [IntKind.wrap, IntKind.signed, IntKind.bits]; omega) w
theorem dint_lit (k : Nat) (hk : k < 1000) (w : World) : Calls Tryz.prog 57 #[.int .i64 (k : Int)] w fun e w' => ∃ v, e = .returned v ∧ RF w' v (((k : Nat) : Int) : Rat) ∧ Below w.heap.size w w' :=
 dint_w k (((k : Nat) : Int) : Rat) (fun w => by rw [Rat.num_intCast]; exact rzof_lit k hk w) (by unfold fd; rw [Rat.den_intCast]) w
theorem lit_sz (k : Nat) (hk : k < 1000) : Sz (((k : Nat) : Int) : Rat) 1 := Sz.int (by refine digs_length_iff.2 ?_; unfold Bs; omega) (by decide)
theorem dhalf (w : World) : Calls Tryz.prog 81 #[.int .i64 1, .int .i64 2] w fun e w' => ∃ v, e = .returned v ∧ RF w' v (mkRat 1 2) ∧ Below w.heap.size w w' :=
 dof_w 1 2 _ _ (mkRat 1 2) (dint_lit 1 (by decide)) (dint_lit 2 (by decide)) (fun v1 v2 w g1 g2 => by
  have h := rdivF _ _ (k := 1) (lit_sz 1 (by decide)) (lit_sz 2 (by decide)) (by decide +kernel) (by decide) v1 v2 w g1 g2
  rw [show (((1 : Nat) : Int) : Rat) / (((2 : Nat) : Int) : Rat) = mkRat 1 2 from by decide +kernel] at h; exact h) w
theorem tenQ_zero : tenQ 0 = 1 := by unfold tenQ; rfl
theorem tenQ_succ (i : Nat) : tenQ (i + 1) = tenQ i * (((10 : Nat) : Int) : Rat) := by unfold tenQ; rw [Nat.pow_succ, Rat.natCast_mul]; rfl
theorem rtensR (q : Rat) {k : Nat} (hq : Sz q k) (hk : k ≤ 80) (n : Nat) (hn : n ≤ 100) (v : Value) (w : World) (h : RF w v q) :
  Calls Tryz.prog 56 #[v, .int .i64 (n : Int)] w fun e w' => ∃ u, e = .returned u ∧ RF w' u (q * tenQ n) ∧ Below w.heap.size w w' := by
 refine rtens_w n (fun i => q * tenQ i) q _ (q * tenQ n) (dint_lit 10 (by decide)) ?_ rfl (by omega) ?_ v w h
 ·show q = q * tenQ 0
  rw [tenQ_zero, Rat.mul_one]
 ·intro i x r hi hx hr v1 v2 w g1 g2
  have hx' : x = q * tenQ i := hx
  have hr' : r = q * tenQ (i + 1) := hr
  subst hx'; subst hr'
  have g := rmul (q * tenQ i) (((10 : Nat) : Int) : Rat) (k := k + 6) (hq.mul (ten_sz (by omega))) ((lit_sz 10 (by decide)).mono (by omega)) (by omega) v1 v2 w g1 g2
  rw [show q * tenQ i * (((10 : Nat) : Int) : Rat) = q * tenQ (i + 1) by rw [tenQ_succ, Rat.mul_assoc]] at g
  exact g
theorem cmpQ_nil (x y : Rat) : (cmpQ x y == 0) = decide (x = y) := by unfold cmpQ; grind
theorem cmpQ_low (x y : Rat) : decide (cmpQ x y < 0) = decide (x < y) := by rw [decide_eq_decide]; unfold cmpQ; grind
theorem sgn_nil (z : Int) : (sgn z == 0) = decide (z = 0) := by unfold sgn; grind
attribute [local irreducible] tenQ
theorem rwholeR (q : Rat) {k : Nat} (hq : Sz q k) (hk : k ≤ 30) (p : Nat) (hp : p ≤ 100) (y : Int) (hy : 1 ≤ y ∧ y ≤ 3) (v : Value) (w : World) (h : RF w v q) :
  Calls Tryz.prog 54 #[v, .int .i64 (p : Int), .int .i64 y] w fun e w' => ∃ u, e = .returned (.tuple #[u, .int .i64 0]) ∧ RZ w' u (toI y (q * tenQ p)) ∧ Below w.heap.size w w' := by
 have sx := hq.mul (ten_sz hp)
 have T := toI_rest hy.1 hy.2 (q * tenQ p)
 have HT := rtensR q hq (by omega) p hp
 have hm := Int.emod_two_eq (q * tenQ p).floor
 generalize q * tenQ p = x at *
 have hd := floor_d sx
 have sl : Sz ((x.floor : Int) : Rat) (k + 6) := Sz.int hd (by omega)
 have HF := fun v w (h : RF w v x) => rfloorF x sx (by omega) v w h
 have hnum : ((x.floor : Int) : Rat).num = x.floor := Rat.num_intCast _
 have hfd : fd ((x.floor : Int) : Rat) = 0 := by unfold fd; rw [Rat.den_intCast]
 have ss := sx.sub sl
 have sh : Sz (mkRat 1 2) 1 := szc _ (by decide +kernel) (by decide +kernel)
 have htd : (Rx.td x.floor.natAbs).length ≤ 1000 := Nat.le_trans (td_of_digs hd) (by omega)
 have HS := fun v1 v2 w (g1 : RF w v1 x) (g2 : RF w v2 ((x.floor : Int) : Rat)) => rsub x _ sx sl (by omega) v1 v2 w g1 g2
 have HC := fun v1 v2 w (g1 : RF w v1 (x - ((x.floor : Int) : Rat))) (g2 : RF w v2 (mkRat 1 2)) => rcmp _ _ ss (sh.mono (by omega)) (by omega) v1 v2 w g1 g2
 have HG := fun v w (g : RF w v (x - ((x.floor : Int) : Rat))) => rsign _ v w g
 have HA := fun v1 v2 w (g1 : RZ w v1 ((x.floor : Int) : Rat).num) (g2 : RZ w v2 ((1 : Nat) : Int)) => rzaddI v1 v2 _ _ (by rw [hnum]; omega) (by show (Rx.td 1).length ≤ _; have := td_one; omega) w g1 g2
 have t2 : (Rx.td 2).length ≤ 1000 := Nat.le_trans (td_of_digs (k := 1) (by refine digs_length_iff.2 ?_; unfold Bs; omega)) (by omega)
 have HD := fun v1 v2 w (g1 : RZ w v1 ((x.floor : Int) : Rat).num) (g2 : RZ w v2 ((2 : Nat) : Int)) => rzdivI _ _ (by omega) (by rw [hnum]; exact htd) (by exact t2) v1 v2 w g1 g2
 have S0 := sgnQ_eq0 (q := x - ((x.floor : Int) : Rat))
 have C1 := cmpQ_low (x - ((x.floor : Int) : Rat)) (mkRat 1 2)
 have C2 := cmpQ_nil (x - ((x.floor : Int) : Rat)) (mkRat 1 2)
 have U0 := sgn_nil (((x.floor : Int) : Rat).num % ((2 : Nat) : Int))
 refine rwh_ok q x ((x.floor : Int) : Rat) _ (mkRat 1 2) p y _ _ _ (((x.floor : Int) : Rat).num + ((1 : Nat) : Int)) _ _ _ _ _ (toI y x) (rzof_lit 0 (by decide)) HT (fun v w h => by rw [hnum]; exact HF v w h) HS HG (rzof_lit 1 (by decide)) HA dhalf HC (rzof_lit 2 (by decide)) HD (fun v w g => rzsignI _ v w g)
  (decide_eq_false (by omega)) (decide_eq_false (by omega)) (decide_eq_false (by omega)) (decide_eq_false (by omega)) hfd ?_ ?_ ?_ v w h
 ·rw [S0, T, hnum]
  by_cases z : x - ((x.floor : Int) : Rat) = 0
  ·exact .inl ⟨decide_eq_true z, by rw [if_pos (.inl z)]⟩
  ·by_cases y1 : y = 1
   ·exact .inr (.inl ⟨decide_eq_false z, by rw [y1]; rfl, by rw [if_pos (.inr y1)]⟩)
   ·exact .inr (.inr ⟨decide_eq_false z, beq_eq_false_iff_ne.2 y1⟩)
 ·intro z1 z2
  rw [S0] at z1
  have z := of_decide_eq_false z1
  have y1 := beq_eq_false_iff_ne.1 z2
  by_cases y2 : y = 2
  ·refine .inl ⟨by rw [y2]; rfl, ?_⟩
   rw [T, hnum, if_neg (by rintro (g | g); exact z g; exact y1 g), if_pos y2]; rfl
  ·exact .inr (beq_eq_false_iff_ne.2 y2)
 ·intro z1 z2 z3
  rw [S0] at z1
  have z := of_decide_eq_false z1
  have y1 := beq_eq_false_iff_ne.1 z2
  have y2 := beq_eq_false_iff_ne.1 z3
  rw [C1, C2, U0, T, hnum, if_neg (by rintro (g | g); exact z g; exact y1 g), if_neg y2]
  by_cases c1 : x - ((x.floor : Int) : Rat) < mkRat 1 2
  ·exact .inl ⟨decide_eq_true c1, by rw [if_pos (.inl c1)]⟩
  ·by_cases c2 : x - ((x.floor : Int) : Rat) = mkRat 1 2
   ·rcases hm with e | e
    ·exact .inr (.inr (.inl ⟨decide_eq_false c1, decide_eq_true c2, decide_eq_true e, by rw [if_pos (.inr ⟨c2, e⟩)]⟩))
    ·exact .inr (.inr (.inr ⟨decide_eq_false c1, decide_eq_true c2, decide_eq_false (by show ¬ x.floor % 2 = 0; omega), by rw [if_neg (by rintro (g | g); exact c1 g; omega)]; rfl⟩))
   ·exact .inr (.inl ⟨decide_eq_false c1, decide_eq_false c2, by rw [if_neg (by rintro (g | g); exact c1 g; exact c2 g.1)]; rfl⟩)
/-- The reference's Whole with arguments out of range. -/
theorem rwholeE (q : Rat) (n y : Int) (hc : rdC n y ≠ 0) (v : Value) (w : World) (h : RF w v q) :
  Calls Tryz.prog 54 #[v, .int .i64 n, .int .i64 y] w fun e w' => ∃ u, e = .returned (.tuple #[u, .int .i64 (rdC n y)]) ∧ RZ w' u 0 ∧ Below w.heap.size w w' := by
 unfold rdC at hc ⊢
 by_cases h1 : n < 0
 ·rw [if_pos h1]; exact rwh_neg q n y _ (rzof_lit 0 (by decide)) (decide_eq_true h1) v w h
 ·rw [if_neg h1] at hc ⊢
  by_cases h2 : 100 < n
  ·rw [if_pos h2]; exact rwh_far q n y _ (rzof_lit 0 (by decide)) (decide_eq_false h1) (decide_eq_true h2) v w h
  ·rw [if_neg h2] at hc ⊢
   by_cases h3 : y < 1
   ·rw [if_pos (.inl h3)]; exact rwh_lo q n y _ (rzof_lit 0 (by decide)) (decide_eq_false h1) (decide_eq_false h2) (decide_eq_true h3) v w h
   ·by_cases h4 : 3 < y
    ·rw [if_pos (.inr h4)]; exact rwh_hi q n y _ (rzof_lit 0 (by decide)) (decide_eq_false h1) (decide_eq_false h2) (decide_eq_false h3) (decide_eq_true h4) v w h
    ·rw [if_neg (by omega)] at hc; exact absurd rfl hc
theorem rroundR (q : Rat) {k : Nat} (hq : Sz q k) (hk : k ≤ 30) (p : Nat) (hp : p ≤ 100) (y : Int) (hy : 1 ≤ y ∧ y ≤ 3) (v : Value) (w : World) (h : RF w v q) :
  Calls Tryz.prog 15 #[v, .int .i64 (p : Int), .int .i64 y] w fun e w' => ∃ u, e = .returned (.tuple #[u, .int .i64 0]) ∧ RF w' u (rnd y p q) ∧ Below w.heap.size w w' := by
 have HW := fun v w h => rwholeR q hq hk p hp y hy v w h
 have hz := toI_d y (hq.mul (ten_sz hp))
 unfold rnd
 generalize toI y (q * tenQ p) = z at *
 have s1 : Sz ((z : Int) : Rat) (k + 6) := Sz.int hz (by omega)
 refine rrd_ok q (z : Rat) _ _ _ p y (fun v w h => by rw [Rat.num_intCast]; exact HW v w h) (dint_lit 1 (by decide)) (fun v w g => rtensR _ (lit_sz 1 (by decide)) (by decide) p hp v w g) (fun v1 v2 w g1 g2 => ?_) (by unfold fd; rw [Rat.den_intCast]) v w h
 have e : (((1 : Nat) : Int) : Rat) * tenQ p = tenQ p := Rat.one_mul _
 rw [e] at g2
 exact rdivF (z : Rat) (tenQ p) (k := k + 6) s1 ((ten_sz hp).mono (by omega)) (tenQ_ne p) (by omega) v1 v2 w g1 g2
theorem rroundE (q : Rat) (n y : Int) (hc : rdC n y ≠ 0) (v : Value) (w : World) (h : RF w v q) :
  Calls Tryz.prog 15 #[v, .int .i64 n, .int .i64 y] w fun e w' => ∃ u, e = .returned (.tuple #[u, .int .i64 (rdC n y)]) ∧ RF w' u 0 ∧ Below w.heap.size w w' :=
 rrd_err q n y _ _ (fun v w h => rwholeE q n y hc v w h) (beq_eq_false_iff_ne.2 hc) v w h
theorem bextract (l : List UInt8) (a b : Nat) : (ByteArray.mk l.toArray).extract a b = ⟨((l.take b).drop a).toArray⟩ := by
 apply ByteArray.ext
 simp [ByteArray.extract, ByteArray.copySlice, ByteArray.data]
 first | done | exact (List.drop_take).symm | rw [List.drop_take]
theorem bsize (l : List UInt8) : (ByteArray.mk l.toArray).size = l.length := rfl
theorem bcat (l r : List UInt8) : (ByteArray.mk l.toArray) ++ ⟨r.toArray⟩ = ⟨(l ++ r).toArray⟩ := by
 apply ByteArray.ext
 simp
theorem rtextR (q : Rat) {k : Nat} (hq : Sz q k) (hk : k ≤ 30) (p : Nat) (hp : p ≤ 100) (y : Int) (hy : 1 ≤ y ∧ y ≤ 3) (v : Value) (w : World) (h : RF w v q) :
  Calls Tryz.prog 17 #[v, .int .i64 (p : Int), .int .i64 y] w fun e w' => e = .returned (.tuple #[.string ⟨(decT (toI y (q * tenQ p)) p).toArray⟩, .int .i64 0]) ∧ Below w.heap.size w w' := by
 have HW := fun v w h => rwholeR q hq hk p hp y hy v w h
 have hz := toI_d y (hq.mul (ten_sz hp))
 generalize toI y (q * tenQ p) = z at *
 have htd : (Rx.td z.natAbs).length ≤ 1000000 := Nat.le_trans (td_of_digs hz) (by omega)
 have HX := fun v w (g : Rn w v z.natAbs) => rtext_any v z.natAbs htd w g
 have hL : (decDigits z.natAbs).length ≤ 2000 := Nat.le_trans (dec_len_bound (Nat.le_trans hz (show k + 6 ≤ 36 by omega)) (by omega)) (by omega)
 have hsp := dec_split z.natAbs p
 have hdl : (decDigits (z.natAbs / 10 ^ p)).length ≤ 2000 := Nat.le_trans (dec_len_bound (Nat.le_trans (digs_mono (Nat.div_le_self _ _)) (Nat.le_trans hz (show k + 6 ≤ 36 by omega))) (by omega)) (by omega)
 obtain ⟨D, hD⟩ : ∃ D, D = decDigits z.natAbs := ⟨_, rfl⟩
 obtain ⟨A, hA⟩ : ∃ A, A = decDigits (z.natAbs / 10 ^ p) := ⟨_, rfl⟩
 obtain ⟨B, hB⟩ : ∃ B, B = pad p (z.natAbs % 10 ^ p) := ⟨_, rfl⟩
 have hBl : B.length = p := by rw [hB, pad_length]
 have htx : txt z.natAbs = ⟨D.toArray⟩ := by rw [hD]; rfl
 rw [htx] at HX
 rw [← hD, ← hA, ← hB] at hsp
 rw [← hD] at hL
 rw [← hA] at hdl
 obtain ⟨m, hm⟩ : ∃ m, m = p + 1 - D.length := ⟨_, rfl⟩
 rw [← hm] at hsp
 have hlen : m + D.length = A.length + p := by
  have := congrArg List.length hsp
  rwa [List.length_append, List.length_append, List.length_replicate, hBl] at this
 have n1 := Lib.hid (i64w ((p : Int) + 1) (by omega) (by omega))
 have n2 := Lib.hid (w64w ((p : Int) + 1) (by omega) (by omega))
 obtain ⟨pd, hpd⟩ : ∃ pd : Nat → ByteArray, ∀ i, pd i = ⟨(List.replicate i 48 ++ D).toArray⟩ := ⟨fun i => ⟨(List.replicate i 48 ++ D).toArray⟩, fun _ => rfl⟩
 have hl : ∀ i, i < m → ∃ l : Nat, (pd i).size = l ∧ l ≤ 100000 ∧ ((l : Int) < (p : Int) + 1) ∧ decide ((l : Int) < (p : Int) + 1) = true := fun i hi =>
  ⟨i + D.length, by rw [hpd, bsize, List.length_append, List.length_replicate], by omega, by omega, decide_eq_true (by omega)⟩
 have hst : ∀ i, i < m → (ByteArray.mk #[48]) ++ pd i = pd (i + 1) := fun i _ => by
  rw [hpd, hpd, ba_cons, List.replicate_succ, List.cons_append]
 have h00 : pd 0 = ⟨D.toArray⟩ := by rw [hpd, List.replicate_zero, List.nil_append]
 have h9 : pd m = ⟨(A ++ B).toArray⟩ := by rw [hpd, hsp]
 have hs9 : (ByteArray.mk (A ++ B).toArray).size = A.length + p := by rw [bsize, List.length_append, hBl]
 have hAp : 1 ≤ A.length := by rw [hA]; exact dec_length_pos _
 have hl9 : ¬ ((A.length + p : Nat) : Int) < (p : Int) + 1 := by omega
 have hT : decT z p = (if z < 0 then [45] else []) ++ (A ++ tailT z.natAbs p) := by unfold decT; rw [hA]
 have htl : tailT z.natAbs p = if 0 < p then 46 :: B else [] := by unfold tailT; rw [hB]
 rcases Nat.eq_zero_or_pos p with h0 | h0
 ·have hB0 : B = [] := List.eq_nil_of_length_eq_zero (by omega)
  have gp : decide (0 < (p : Int)) = false := decide_eq_false (by omega)
  rw [htl, if_neg (show ¬ 0 < p by omega)] at hT
  have e9 : (ByteArray.mk (A ++ B).toArray) = ⟨A.toArray⟩ := by rw [hB0, List.append_nil]
  by_cases hn : z < 0
  ·rw [if_pos hn, List.append_nil] at hT
   rw [hT]
   exact rtx_zn q p y z ((p : Int) + 1) 0 m (A.length + p) 0 pd ⟨D.toArray⟩ ⟨(A ++ B).toArray⟩ _ HW HX h00 h9 n1.out n2.out hl hst hs9 (by omega) hl9 (decide_eq_false hl9) gp (decide_eq_true hn) (by rw [e9]; exact ba_cons 45 A) v w h
  ·rw [if_neg hn, List.append_nil, List.nil_append] at hT
   rw [hT, ← e9]
   exact rtx_zp q p y z ((p : Int) + 1) 0 m (A.length + p) 0 pd ⟨D.toArray⟩ ⟨(A ++ B).toArray⟩ HW HX h00 h9 n1.out n2.out hl hst hs9 (by omega) hl9 (decide_eq_false hl9) gp (decide_eq_false hn) v w h
 ·have gp : decide (0 < (p : Int)) = true := decide_eq_true (by omega)
  rw [htl, if_pos h0] at hT
  have e1 : ((A.length + p : Nat) : Int) - (p : Int) = ((A.length : Nat) : Int) := by omega
  have d1 := Lib.hid (show IntKind.i64.wrap (((A.length + p : Nat) : Int) - (p : Int)) = ((A.length : Nat) : Int) from by rw [e1]; exact i64w _ (by omega) (by omega))
  have d2 := Lib.hid (show wrap64 (((A.length + p : Nat) : Int) - (p : Int)) = ((A.length : Nat) : Int) from by rw [e1]; exact w64w _ (by omega) (by omega))
  have ha : (ByteArray.mk (A ++ B).toArray).extract 0 A.length = ⟨A.toArray⟩ := by rw [bextract, List.drop_zero, List.take_left']; rfl
  have hc : (ByteArray.mk (A ++ B).toArray).extract A.length (A.length + p) = ⟨B.toArray⟩ := by rw [bextract, List.take_of_length_le (by rw [List.length_append]; omega), List.drop_left']; rfl
  have hb : (ByteArray.mk A.toArray) ++ (ByteArray.mk #[46]) = ⟨(A ++ [46]).toArray⟩ := bcat A [46]
  have hd : (ByteArray.mk (A ++ [46]).toArray) ++ (ByteArray.mk B.toArray) = ⟨(A ++ 46 :: B).toArray⟩ := by rw [bcat]; simp
  have za : (ByteArray.mk A.toArray).size = A.length := bsize A
  have zb : (ByteArray.mk (A ++ [46]).toArray).size = A.length + 1 := by rw [bsize, List.length_append]; rfl
  have zc : (ByteArray.mk B.toArray).size = p := by rw [bsize, hBl]
  have zd : (ByteArray.mk (A ++ 46 :: B).toArray).size = A.length + (p + 1) := by rw [bsize, List.length_append, List.length_cons, hBl]
  by_cases hn : z < 0
  ·rw [if_pos hn] at hT
   rw [hT]
   exact rtx_pn q p y z ((p : Int) + 1) _ m (A.length + p) A.length _ _ _ _ pd ⟨D.toArray⟩ ⟨(A ++ B).toArray⟩ ⟨A.toArray⟩ ⟨(A ++ [46]).toArray⟩ ⟨B.toArray⟩ ⟨(A ++ 46 :: B).toArray⟩ _ HW HX h00 h9 n1.out n2.out hl hst hs9 (by omega) hl9 (decide_eq_false hl9) gp (decide_eq_true hn) d1.out d2.out rfl (by omega) ha hb hc hd za zb zc zd (by omega) (by omega) (by omega) (by omega) (ba_cons 45 (A ++ 46 :: B)) v w h
  ·rw [if_neg hn, List.nil_append] at hT
   rw [hT]
   exact rtx_pp q p y z ((p : Int) + 1) _ m (A.length + p) A.length _ _ _ _ pd ⟨D.toArray⟩ ⟨(A ++ B).toArray⟩ ⟨A.toArray⟩ ⟨(A ++ [46]).toArray⟩ ⟨B.toArray⟩ ⟨(A ++ 46 :: B).toArray⟩ HW HX h00 h9 n1.out n2.out hl hst hs9 (by omega) hl9 (decide_eq_false hl9) gp (decide_eq_false hn) d1.out d2.out rfl (by omega) ha hb hc hd za zb zc zd (by omega) (by omega) (by omega) (by omega) v w h
theorem rtextE (q : Rat) (n y : Int) (hc : rdC n y ≠ 0) (v : Value) (w : World) (h : RF w v q) :
  Calls Tryz.prog 17 #[v, .int .i64 n, .int .i64 y] w fun e w' => e = .returned (.tuple #[.string ⟨#[]⟩, .int .i64 (rdC n y)]) ∧ Below w.heap.size w w' :=
 rtx_err q n y _ _ (fun v w h => rwholeE q n y hc v w h) (beq_eq_false_iff_ne.2 hc) v w h
attribute [local irreducible] decT toI rnd tailT
theorem dtexts_any (sx : Bool) (ax qx : Option Addr) (nx cx mx dx : Nat) (lx kx : List Nat) (n v : Int) (w : World) (hw : KD w) (hwx : Ws w (.slice ax nx cx) lx) (hvx : Ws w (.slice qx mx dx) kx) :
  Calls Tryz.prog 3 #[.agg #[.bool sx, .slice ax nx cx, .slice qx mx dx], .int .i64 n, .int .i64 v] w fun xe w' => xe = .returned (.bool true) ∧ Below w.heap.size w w' := by
 have e1 := hwx.len
 have e2 := hvx.len
 have T {n : Nat} (h : 5 < n) : decide ((5 : Int) < ((n : Nat) : Int)) = true ∧ decide (5 < n) = true := ⟨decide_eq_true (by omega), decide_eq_true h⟩
 have F {n : Nat} (h : ¬ 5 < n) : decide ((5 : Int) < ((n : Nat) : Int)) = false ∧ decide (5 < n) = false := ⟨decide_eq_false (by omega), decide_eq_false h⟩
 by_cases h1 : 5 < nx
 ·exact dtexts_big0 sx ax qx nx cx mx dx n v KD KD.keeps dworks_any (T h1).1 (T h1).2 w hw
 by_cases h2 : 5 < mx
 ·exact dtexts_big1 sx ax qx nx cx mx dx n v KD KD.keeps dworks_any (F h1).1 (F h1).2 (T h2).1 (T h2).2 w hw
 have q1 := F h1
 have q2 := F h2
 by_cases h3 : 40 < n ∧ n ≤ 100
 ·exact dtexts_mid sx ax qx nx cx mx dx n v KD KD.keeps dworks_any q1.1 q1.2 q2.1 q2.2 (decide_eq_true h3.1) (decide_eq_true h3.2) w hw
 have sa : Sz (gmade sx lx kx) 6 := gmade_sz (by omega) hwx hvx (by omega) (by omega)
 have GX : ∀ w, (Ws w (.slice ax nx cx) lx ∧ Ws w (.slice qx mx dx) kx) → _ := fun w h => gof_any sx ax qx nx cx mx dx lx kx (by omega) (by omega) w h.1 h.2
 have RX : ∀ w, (Ws w (.slice ax nx cx) lx ∧ Ws w (.slice qx mx dx) kx) → _ := fun w h => gref_any sx ax qx nx cx mx dx lx kx (by omega) (by omega) w h.1 h.2
 generalize gmade sx lx kx = q at *
 have hK := dpair (.slice ax nx cx) (.slice qx mx dx) lx kx
 obtain ⟨r, s, c, HR, HT, RR, RT, sr⟩ : ∃ (r : Rat) (s : ByteArray) (c : Int), (∀ w, Calls Tryz.prog 12 #[fracV q, .int .i64 n, .int .i64 v] w fun e w' => e = .returned (.tuple #[fracV r, .int .i64 c]) ∧ Below w.heap.size w w') ∧
   (∀ w, KD w → Calls Tryz.prog 14 #[fracV q, .int .i64 n, .int .i64 v] w fun e w' => e = .returned (.tuple #[.string s, .int .i64 c]) ∧ Below w.heap.size w w') ∧
   (∀ (p : Value) (w : World), RF w p q → Calls Tryz.prog 15 #[p, .int .i64 n, .int .i64 v] w fun e w' => ∃ u, e = .returned (.tuple #[u, .int .i64 c]) ∧ RF w' u r ∧ Below w.heap.size w w') ∧
   (∀ (p : Value) (w : World), RF w p q → Calls Tryz.prog 17 #[p, .int .i64 n, .int .i64 v] w fun e w' => e = .returned (.tuple #[.string s, .int .i64 c]) ∧ Below w.heap.size w w') ∧ Sz r 20 := by
  by_cases hc : rdC n v = 0
  ·have hb : 0 ≤ n ∧ n ≤ 100 ∧ 1 ≤ v ∧ v ≤ 3 := by
    unfold rdC at hc
    split at hc
    ·omega
    ·split at hc
     ·omega
     ·split at hc <;> omega
   obtain ⟨p, rfl⟩ : ∃ p : Nat, n = (p : Int) := ⟨n.toNat, by omega⟩
   have hp : p ≤ 100 := by omega
   exact ⟨rnd v p q, _, 0, fun w => roundD q p v 6 sa (by omega) hp hb.2.2 w, fun w h => textD q p v 6 sa (by omega) hp hb.2.2 w h.1, fun u w h => rroundR q sa (by omega) p hp v hb.2.2 u w h, fun u w h => rtextR q sa (by omega) p hp v hb.2.2 u w h, (rnd_sz v sa hp).mono (by omega)⟩
  ·exact ⟨0, ⟨#[]⟩, rdC n v, fun w => roundE q n v hc w, fun w _ => textE q n v hc w, fun u w h => rroundE q n v hc u w h, fun u w h => rtextE q n v hc u w h, (szc 0 (by decide) (by decide)).mono (by omega)⟩
 have HS := fun (p : Value) (w : World) (hk : KD w) (h : RF w p r) => sameF r sr (by omega) p w hk.1 h
 by_cases h4 : 40 < n
 ·exact dtexts_far sx ax qx nx cx mx dx n v c q r s _ hK GX HR KD KD.keeps HT RX RR RT HS dworks_any q1.1 q1.2 q2.1 q2.2 (decide_eq_true h4) (decide_eq_false (by omega)) w ⟨hwx, hvx⟩ hw
 ·exact dtexts_low sx ax qx nx cx mx dx n v c q r s _ hK GX HR KD KD.keeps HT RX RR RT HS dworks_any q1.1 q1.2 q2.1 q2.2 (decide_eq_false h4) w ⟨hwx, hvx⟩ hw
end Go.Proofs.YtahfcciihkkegaaGreatDoor
namespace Go.Proofs.YtahfcciihkkegaaGreatDoor
open Go.ChangeShapes Go.WideShapes Go.ChangeAt Go.RowKit
theorem own : ownKnob Tryz.prog.godebug = none := by kernel_rfl
theorem laidOut : laidOutB Tryz.prog = true := by kernel_rfl
theorem cells62 : Tryz.prog.cellsOf 56 = 1 := by kernel_rfl
theorem cells24 : Tryz.prog.cellsOf 28 = 1 := by kernel_rfl
/-- The variables that every row of this layer lists. -/
def laidAll : List (String × DataW Unit) := [("math/bits.deBruijn32tab", Rows.laid_math_bits_deBruijn32tab), ("math/bits.deBruijn64tab", Rows.laid_math_bits_deBruijn64tab), ("internal/strconv.uint64pow10", Rows.laid_internal_strconv_uint64pow10)]
theorem gPow : Tryz.prog.globalNamed "internal/strconv.uint64pow10" = some 3 := by kernel_rfl
theorem gPowType : (Tryz.prog.globals[3]?).map (·.type) = some 240 := by kernel_rfl
theorem cells20 : Tryz.prog.cellsOf 240 = 20 := by kernel_rfl
theorem tab_of {W : World} (h : laidMetH Tryz.prog laidAll W) : Tab W := by
 have h1 := laidMetH.filter (fun x => x.1 == "internal/strconv.uint64pow10") h
 have e : laidAll.filter (fun x => x.1 == "internal/strconv.uint64pow10") = [("internal/strconv.uint64pow10", Rows.laid_internal_strconv_uint64pow10)] := by kernel_rfl
 rw [e, MakeChecks.laidMetH_plain _ _ _ (by kernel_rfl)] at h1
 exact Lib.tabIs_of_head (rest := []) gPow gPowType Tryz.underlying240 Tryz.underlying28 cells24 cells20 (show laidMet Tryz.prog (("internal/strconv.uint64pow10", Lib.tabData .u64 Lib.pow10Tab) :: []) W from h1)
theorem wide_u32 {n : Int} (h : (Lit.int .u32 n).wf = true) : 0 ≤ n ∧ n ≤ 4294967295 := bounds_u32 h
end Go.Proofs.YtahfcciihkkegaaGreatDoor
namespace Go.Proofs.YtahfcciihkkegaaGreatDoor
open Go.ChangeShapes Go.WideShapes Go.ChangeAt Go.RowKit Go.Joins
theorem cellsZ : Tryz.prog.cellsOf 24 = 2 := by kernel_rfl
theorem ws_of_trod {H : Type} {enc : TypeId × Value → H} {W : World} {v : Value} {y : DataW H × List MemPlace} {fuel : Nat} (hf : DataW.trod enc Tryz.prog W 0 (fun _ => true) true fuel 22 [v] = some y) : ∃ a n c l, v = .slice a n c ∧ Ws W v l := by
 rcases open_ints Tryz.underlying22 Tryz.underlying56 cells62 hf with ⟨hcs, hx⟩ | ⟨a, len', cap', zs, hcs, _, hl, hm, hz, hx, hcell, hwz⟩
 ·simp only [List.cons.injEq, and_true] at hcs
  subst hcs
  exact ⟨none, 0, 0, [], rfl, .inl ⟨_, _, rfl, rfl⟩⟩
 ·simp only [List.cons.injEq, and_true] at hcs
  subst hcs
  simp only [if_true] at hz
  refine ⟨some a, len', cap', ?_⟩
  by_cases h0 : len' = 0
  ·subst h0
   exact ⟨[], rfl, .inl ⟨_, _, rfl, rfl⟩⟩
  ·have hll : ((zs.take len').map Int.toNat).length = len' := by simp; omega
   refine ⟨(zs.take len').map Int.toNat, rfl, .inr ⟨a, cap', by rw [hll], ?_, ?_, ?_⟩⟩
   ·intro x hx
    obtain ⟨z, hz1, rfl⟩ := List.mem_map.1 hx
    have := wide_u32 (hwz z (List.mem_of_mem_take hz1))
    omega
   ·intro i hi
    rw [hll] at hi
    have hi2 : i < zs.length := by omega
    have e := hcell i hi2
    rw [show zs.getD i 0 = zs[i] by simp [List.getD, hi2]] at e
    have hw := wide_u32 (hwz zs[i] (List.getElem_mem hi2))
    rw [e]
    simp only [List.getElem_map, List.getElem_take]
    rw [Int.toNat_of_nonneg hw.1]
   ·have e := hcell 0 (by omega)
    have := World.block_lt_of_cell? W _ e
    rw [show (a.add 0).block = a.block from by unfold Addr.add; split <;> rfl] at this
    exact this
end Go.Proofs.YtahfcciihkkegaaGreatDoor
namespace Go.Proofs.YtahfcciihkkegaaGreatDoor
open Go.ChangeShapes Go.WideShapes Go.ChangeAt Go.RowKit Go.Joins
theorem cellsG : Tryz.prog.cellsOf 26 = 3 := by kernel_rfl
theorem cellsW : Tryz.prog.cellsOf 22 = 1 := by kernel_rfl
theorem cellsB : Tryz.prog.cellsOf 4 = 1 := by kernel_rfl
theorem great_of {H : Type} {enc : TypeId × Value → H} {W : World} {base : Nat} {v : Value} {d : DataW H} {p : List MemPlace} (hv : Value.okWide Tryz.prog W .any base 26 v)
  (h : DataW.Trod enc Tryz.prog W 0 (fun _ => true) true 26 v d p) : ∃ s a q n c m d l k, v = .agg #[.bool s, .slice a n c, .slice q m d] ∧ Ws W (.slice a n c) l ∧ Ws W (.slice q m d) k := by
 obtain ⟨cs, rfl, hsz⟩ := okWide_struct Tryz.underlying26 hv
 obtain ⟨c0, c1, c2, rfl⟩ := array3 (hsz.trans cellsG)
 obtain ⟨fuel, hf⟩ := h
 obtain ⟨y0, y1, n, hx, _, h0, h1⟩ := trod_struct2 Tryz.underlying26 hf
 simp only [cellsZ, cellsW] at h0 h1
 obtain ⟨z0, z1, m, hz, _, g0, g1⟩ := trod_struct2 Tryz.underlying24 h0
 simp only [cellsB, cellsW] at g0 g1
 obtain ⟨s, e0, -⟩ := DataW.trod_bool Tryz.underlying4 g0
 obtain ⟨a1, n1, k1, l1, r1, w1⟩ := ws_of_trod g1
 obtain ⟨a2, n2, k2, l2, r2, w2⟩ := ws_of_trod h1
 simp [Value.cells] at e0 r1 r2
 subst e0 r1 r2
 exact ⟨s, a1, a2, n1, k1, n2, k2, l1, l2, rfl, w1, w2⟩
end Go.Proofs.YtahfcciihkkegaaGreatDoor
