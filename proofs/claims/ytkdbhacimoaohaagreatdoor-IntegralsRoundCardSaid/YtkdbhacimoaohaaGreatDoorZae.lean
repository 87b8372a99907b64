/-
  The law answers true at every input, and leaves its arguments as they were: a part of the proof. CONDITIONS: the package-level tables start as the program's text lays them (the card ties them).
-/
import Derived.Test.YtkdbhacimoaohaaGreatDoorZad
import Derived.Test.YtkdbhacimoaohaaGreatDoorTie
import Derived.Test.YtkdbhacimoaohaaGreatDoorCards
set_option linter.unusedVariables false
set_option linter.unusedSimpArgs false
set_option maxHeartbeats 16000000
set_option maxRecDepth 100000
namespace Go.Proofs.YtkdbhacimoaohaaGreatDoor
open Go.RowKit
attribute [local irreducible] lo hs sm s64 c64 d64 b64 mh ml pd pc qd qc val hiB str cmpI srD lz nb zl zh zs fe klT ordZ
theorem new_pt9 (w : World) : (Instr.alloc 39 true (.tuple #[])).run Tryz.prog w = .ok (.pointer (some ⟨w.heap.size, 0, none⟩)) (w.alloc (.cells #[.int .u64 0, .string ⟨#[]⟩, .bool false, .int .u64 0, .string ⟨#[]⟩, .int .u64 0, .string ⟨#[]⟩, .bool false, .int .u64 0, .string ⟨#[]⟩] 39)) := by
 simp [go_sem, Instr.alloc]
theorem put_pt9 (oi0 ni0 : Int) (os0 ns0 : ByteArray) (ob0 nb0 : Bool) (oj0 nj0 : Int) (ot0 nt0 : ByteArray) (oi1 ni1 : Int) (os1 ns1 : ByteArray) (ob1 nb1 : Bool) (oj1 nj1 : Int) (ot1 nt1 : ByteArray) (w : World) (k : Nat) (h : Hd w k [.int .u64 oi0, .string os0, .bool ob0, .int .u64 oj0, .string ot0, .int .u64 oi1, .string os1, .bool ob1, .int .u64 oj1, .string ot1]) :
  ∃ w', (Instr.storeAt 39 (.pointer (some ⟨k, 0, none⟩)) (.agg #[.int .u64 ni0, .string ns0, .bool nb0, .int .u64 nj0, .string nt0, .int .u64 ni1, .string ns1, .bool nb1, .int .u64 nj1, .string nt1])).run Tryz.prog w = .ok () w' ∧ Hd w' k [.int .u64 ni0, .string ns0, .bool nb0, .int .u64 nj0, .string nt0, .int .u64 ni1, .string ns1, .bool nb1, .int .u64 nj1, .string nt1] ∧ Upd k w w' := by
 have h0 : w.cell? ⟨k, 0, none⟩ = some (.int .u64 oi0) := h.cell 0 (by simp)
 have h1 : w.cell? ⟨k, 1, none⟩ = some (.string os0) := h.cell 1 (by simp)
 have h2 : w.cell? ⟨k, 2, none⟩ = some (.bool ob0) := h.cell 2 (by simp)
 have h3 : w.cell? ⟨k, 3, none⟩ = some (.int .u64 oj0) := h.cell 3 (by simp)
 have h4 : w.cell? ⟨k, 4, none⟩ = some (.string ot0) := h.cell 4 (by simp)
 have h5 : w.cell? ⟨k, 5, none⟩ = some (.int .u64 oi1) := h.cell 5 (by simp)
 have h6 : w.cell? ⟨k, 6, none⟩ = some (.string os1) := h.cell 6 (by simp)
 have h7 : w.cell? ⟨k, 7, none⟩ = some (.bool ob1) := h.cell 7 (by simp)
 have h8 : w.cell? ⟨k, 8, none⟩ = some (.int .u64 oj1) := h.cell 8 (by simp)
 have h9 : w.cell? ⟨k, 9, none⟩ = some (.string ot1) := h.cell 9 (by simp)
 have hf := h.frz
 refine ⟨_, ?_, setAll_hd [.int .u64 ni0, .string ns0, .bool nb0, .int .u64 nj0, .string nt0, .int .u64 ni1, .string ns1, .bool nb1, .int .u64 nj1, .string nt1] 0 w k [] [.int .u64 oi0, .string os0, .bool ob0, .int .u64 oj0, .string ot0, .int .u64 oi1, .string os1, .bool ob1, .int .u64 oj1, .string ot1] rfl rfl h, (((((((((((Upd.refl k w).setCell 0 _).setCell 1 _).setCell 2 _).setCell 3 _).setCell 4 _).setCell 5 _).setCell 6 _).setCell 7 _).setCell 8 _).setCell 9 _)⟩
 simp [go_sem, Instr.storeAt, Instr.sureAddr, h0, h1, h2, h3, h4, h5, h6, h7, h8, h9, hf, setAll]
theorem ratio9_w (a b q : Rat) (HD : ∀ w, Calls Tryz.prog 87 #[fracV a, fracV b] w fun xe w' => xe = .returned (.tuple #[fracV q, .int .i64 0]) ∧ Below w.heap.size w w') (w : World) :
  Calls Tryz.prog 53 #[fracV a, fracV b] w fun xe w' => xe = .returned (fracV q) ∧ Below w.heap.size w w' := by
 have hL0 : GL w w [] := GL.start w
 replace HD := Lib.hid HD
 obtain ⟨x1, hweq, hL0⟩ := GL.named (((hL0.new rfl [.int .u64 ((zl a.num : Nat) : Int), .string (zh a.num), .bool (zs a.num), .int .u64 ((lo (fe a) : Nat) : Int), .string (hs (fe a))] 38).new (K := w.heap.size + 1) (szA _ _) [.int .u64 ((zl b.num : Nat) : Int), .string (zh b.num), .bool (zs b.num), .int .u64 ((lo (fe b) : Nat) : Int), .string (hs (fe b))] 38).new (K := w.heap.size + 1 + 1) (by simp only [World.size_alloc]) [.int .u64 0, .string ⟨#[]⟩, .bool false, .int .u64 0, .string ⟨#[]⟩] 38)
 go_enter Tryz.func53, Tryz.ntmps53
 have hN0 := cells_of _ 0 [] rfl (hL0.get _ _ (mK mZ))
 simp only [zF, Nat.reduceAdd] at hN0
 have hN1 := cells_of _ 0 [] rfl (hL0.get _ _ (mK (mK mZ)))
 simp only [zF, Nat.reduceAdd] at hN1
 go_wp2_with fail
 clear hN0 hN1
 with_reducible refine Calls.mono (HD.out _) ?_
 rintro e x2 ⟨rfl, hb⟩
 replace hL0 := hL0.call hb
 clear hb hweq
 obtain ⟨x3, hweq, hL0⟩ := GL.named (hL0.new rfl [.int .u64 ((zl q.num : Nat) : Int), .string (zh q.num), .bool (zs q.num), .int .u64 ((lo (fe q) : Nat) : Int), .string (hs (fe q))] 38)
 have hA := hL0.fc
 simp only [zF, Nat.reduceAdd] at hA
 obtain ⟨x4, hput1, hP⟩ := GL.named (hL0.put 1 (w.heap.size + 1 + 1) _ rfl [.int .u64 ((zl q.num : Nat) : Int), .string (zh q.num), .bool (zs q.num), .int .u64 ((lo (fe q) : Nat) : Int), .string (hs (fe q))] rfl)
 simp only [setAll] at hput1
 simp only [List.set_cons_zero, List.set_cons_succ] at hP
 have hB1 := hP.fc
 simp only [zF, Nat.reduceAdd] at hB1
 replace hL0 := hP
 go_wp2_with fail
 exact bodyPost_ret (v := .agg #[.int .u64 ((zl q.num : Nat) : Int), .string (zh q.num), .bool (zs q.num), .int .u64 ((lo (fe q) : Nat) : Int), .string (hs (fe q))]) (by simp [results, Tryz.results53, go_sem, hB1]) rfl ⟨rfl, hL0.bl⟩
theorem way9_w (px py qx qy ux uy : Rat) (S1 : ∀ w, Calls Tryz.prog 21 #[fracV qx, fracV px] w fun xe w' => xe = .returned (fracV ux) ∧ Below w.heap.size w w') (S2 : ∀ w, Calls Tryz.prog 21 #[fracV qy, fracV py] w fun xe w' => xe = .returned (fracV uy) ∧ Below w.heap.size w w') (w : World) :
  Calls Tryz.prog 38 #[.agg #[.int .u64 ((zl px.num : Nat) : Int), .string (zh px.num), .bool (zs px.num), .int .u64 ((lo (fe px) : Nat) : Int), .string (hs (fe px)), .int .u64 ((zl py.num : Nat) : Int), .string (zh py.num), .bool (zs py.num), .int .u64 ((lo (fe py) : Nat) : Int), .string (hs (fe py))], .agg #[.int .u64 ((zl qx.num : Nat) : Int), .string (zh qx.num), .bool (zs qx.num), .int .u64 ((lo (fe qx) : Nat) : Int), .string (hs (fe qx)), .int .u64 ((zl qy.num : Nat) : Int), .string (zh qy.num), .bool (zs qy.num), .int .u64 ((lo (fe qy) : Nat) : Int), .string (hs (fe qy))]] w fun xe w' => xe = .returned (.agg #[.int .u64 ((zl ux.num : Nat) : Int), .string (zh ux.num), .bool (zs ux.num), .int .u64 ((lo (fe ux) : Nat) : Int), .string (hs (fe ux)), .int .u64 ((zl uy.num : Nat) : Int), .string (zh uy.num), .bool (zs uy.num), .int .u64 ((lo (fe uy) : Nat) : Int), .string (hs (fe uy))]) ∧ Below w.heap.size w w' := by
 have hL0 : GL w w [] := GL.start w
 replace S1 := Lib.hid S1
 replace S2 := Lib.hid S2
 obtain ⟨x1, hweq, hL0⟩ := GL.named (((hL0.new rfl [.int .u64 ((zl px.num : Nat) : Int), .string (zh px.num), .bool (zs px.num), .int .u64 ((lo (fe px) : Nat) : Int), .string (hs (fe px)), .int .u64 ((zl py.num : Nat) : Int), .string (zh py.num), .bool (zs py.num), .int .u64 ((lo (fe py) : Nat) : Int), .string (hs (fe py))] 39).new (K := w.heap.size + 1) (szA _ _) [.int .u64 ((zl qx.num : Nat) : Int), .string (zh qx.num), .bool (zs qx.num), .int .u64 ((lo (fe qx) : Nat) : Int), .string (hs (fe qx)), .int .u64 ((zl qy.num : Nat) : Int), .string (zh qy.num), .bool (zs qy.num), .int .u64 ((lo (fe qy) : Nat) : Int), .string (hs (fe qy))] 39).new (K := w.heap.size + 1 + 1) (by simp only [World.size_alloc]) [.int .u64 0, .string ⟨#[]⟩, .bool false, .int .u64 0, .string ⟨#[]⟩, .int .u64 0, .string ⟨#[]⟩, .bool false, .int .u64 0, .string ⟨#[]⟩] 39)
 go_enter Tryz.func38, Tryz.ntmps38
 go_upto_region 1 with fail
 clear hweq
 obtain ⟨α, iα, F, hF1, hF2⟩ := cls x1
 have hq0 := cls_box hF1 hL0 _ _ (mK mZ)
 simp only [zC, Nat.reduceAdd] at hq0
 have hq1 := cls_box hF1 hL0 _ _ (mK (mK mZ))
 simp only [zC, Nat.reduceAdd] at hq1
 refine region_qs 11 (C := fun w' => ∃ x, w' = F x) (by kernel_rfl) (by kernel_rfl) (cls_drew hF2) ?_
 simp only [zT]
 repeat (go_big_quiet_step (first | fail | (go_at_call 21; with_reducible exact cls_call hF1 hF2 S1.out _) | (go_at_call 21; with_reducible exact cls_call hF1 hF2 S2.out _)))
 refine wpQuiet_nil ?_
 rintro wq ⟨xq, rfl⟩
 replace hL0 := hL0.call (hF1 xq)
 clear  hq0 hq1 hF2
 generalize F xq = x2 at hL0 ⊢
 clear hF1 xq iα F α
 have hA := hL0.fc
 simp only [zF, Nat.reduceAdd] at hA
 obtain ⟨x3, hput1, hP⟩ := GL.named (hL0.put 0 (w.heap.size + 1 + 1) _ rfl [.int .u64 ((zl ux.num : Nat) : Int), .string (zh ux.num), .bool (zs ux.num), .int .u64 ((lo (fe ux) : Nat) : Int), .string (hs (fe ux)), .int .u64 ((zl uy.num : Nat) : Int), .string (zh uy.num), .bool (zs uy.num), .int .u64 ((lo (fe uy) : Nat) : Int), .string (hs (fe uy))] rfl)
 simp only [setAll] at hput1
 simp only [List.set_cons_zero, List.set_cons_succ] at hP
 have hB1 := hP.fc
 simp only [zF, Nat.reduceAdd] at hB1
 replace hL0 := hP
 go_wp2_with fail
 exact bodyPost_ret (v := .agg #[.int .u64 ((zl ux.num : Nat) : Int), .string (zh ux.num), .bool (zs ux.num), .int .u64 ((lo (fe ux) : Nat) : Int), .string (hs (fe ux)), .int .u64 ((zl uy.num : Nat) : Int), .string (zh uy.num), .bool (zs uy.num), .int .u64 ((lo (fe uy) : Nat) : Int), .string (hs (fe uy))]) (by simp [results, Tryz.results38, go_sem, hB1]) rfl ⟨rfl, hL0.bl⟩
theorem at9_w (m n : Int) (px py : Rat) (I1 : ∀ w, Calls Tryz.prog 20 #[.int .i64 m] w fun xe w' => xe = .returned (fracV px) ∧ Below w.heap.size w w') (I2 : ∀ w, Calls Tryz.prog 20 #[.int .i64 n] w fun xe w' => xe = .returned (fracV py) ∧ Below w.heap.size w w') (w : World) :
  Calls Tryz.prog 23 #[.int .i64 m, .int .i64 n] w fun xe w' => xe = .returned (.agg #[.int .u64 ((zl px.num : Nat) : Int), .string (zh px.num), .bool (zs px.num), .int .u64 ((lo (fe px) : Nat) : Int), .string (hs (fe px)), .int .u64 ((zl py.num : Nat) : Int), .string (zh py.num), .bool (zs py.num), .int .u64 ((lo (fe py) : Nat) : Int), .string (hs (fe py))]) ∧ Below w.heap.size w w' := by
 have hL0 : GL w w [] := GL.start w
 replace I1 := Lib.hid I1
 replace I2 := Lib.hid I2
 obtain ⟨x1, hweq, hL0⟩ := GL.named (hL0.new rfl [.int .u64 0, .string ⟨#[]⟩, .bool false, .int .u64 0, .string ⟨#[]⟩, .int .u64 0, .string ⟨#[]⟩, .bool false, .int .u64 0, .string ⟨#[]⟩] 39)
 go_enter Tryz.func23, Tryz.ntmps23
 go_wp2_with fail
 with_reducible refine Calls.mono (I1.out _) ?_
 rintro e x2 ⟨rfl, hb⟩
 replace hL0 := hL0.call hb
 clear hb hweq
 go_wp2_with fail
 with_reducible refine Calls.mono (I2.out _) ?_
 rintro e x3 ⟨rfl, hb⟩
 replace hL0 := hL0.call hb
 clear hb
 have hA := hL0.fc
 simp only [zF, Nat.reduceAdd] at hA
 obtain ⟨x4, hput1, hP⟩ := GL.named (hL0.put 0 (w.heap.size) _ rfl [.int .u64 ((zl px.num : Nat) : Int), .string (zh px.num), .bool (zs px.num), .int .u64 ((lo (fe px) : Nat) : Int), .string (hs (fe px)), .int .u64 ((zl py.num : Nat) : Int), .string (zh py.num), .bool (zs py.num), .int .u64 ((lo (fe py) : Nat) : Int), .string (hs (fe py))] rfl)
 simp only [setAll] at hput1
 simp only [List.set_cons_zero, List.set_cons_succ] at hP
 have hB1 := hP.fc
 simp only [zF, Nat.reduceAdd] at hB1
 replace hL0 := hP
 go_wp2_with fail
 exact bodyPost_ret (v := .agg #[.int .u64 ((zl px.num : Nat) : Int), .string (zh px.num), .bool (zs px.num), .int .u64 ((lo (fe px) : Nat) : Int), .string (hs (fe px)), .int .u64 ((zl py.num : Nat) : Int), .string (zh py.num), .bool (zs py.num), .int .u64 ((lo (fe py) : Nat) : Int), .string (hs (fe py))]) (by simp [results, Tryz.results23, go_sem, hB1]) rfl ⟨rfl, hL0.bl⟩
theorem pof9_w (m s n t : Int) (px py : Rat) (H1 : ∀ w, Calls Tryz.prog 25 #[.agg #[.int .i64 m, .int .u32 s]] w fun xe w' => xe = .returned (fracV px) ∧ Below w.heap.size w w') (H2 : ∀ w, Calls Tryz.prog 25 #[.agg #[.int .i64 n, .int .u32 t]] w fun xe w' => xe = .returned (fracV py) ∧ Below w.heap.size w w') (w : World) :
  Calls Tryz.prog 9 #[.agg #[.int .i64 m, .int .u32 s, .int .i64 n, .int .u32 t]] w fun xe w' => xe = .returned (.agg #[.int .u64 ((zl px.num : Nat) : Int), .string (zh px.num), .bool (zs px.num), .int .u64 ((lo (fe px) : Nat) : Int), .string (hs (fe px)), .int .u64 ((zl py.num : Nat) : Int), .string (zh py.num), .bool (zs py.num), .int .u64 ((lo (fe py) : Nat) : Int), .string (hs (fe py))]) ∧ Below w.heap.size w w' := by
 have hL0 : GL w w [] := GL.start w
 replace H1 := Lib.hid H1
 replace H2 := Lib.hid H2
 obtain ⟨x1, hweq, hL0⟩ := GL.named ((hL0.new rfl [.int .i64 m, .int .u32 s, .int .i64 n, .int .u32 t] 27).new (K := w.heap.size + 1) (szA _ _) [.int .u64 0, .string ⟨#[]⟩, .bool false, .int .u64 0, .string ⟨#[]⟩, .int .u64 0, .string ⟨#[]⟩, .bool false, .int .u64 0, .string ⟨#[]⟩] 39)
 go_enter Tryz.func9, Tryz.ntmps9
 go_upto_region 1 with fail
 clear hweq
 obtain ⟨α, iα, F, hF1, hF2⟩ := cls x1
 have hq0 := cls_box hF1 hL0 _ _ (mK mZ)
 simp only [zC, Nat.reduceAdd] at hq0
 refine region_qs 7 (C := fun w' => ∃ x, w' = F x) (by kernel_rfl) (by kernel_rfl) (cls_drew hF2) ?_
 simp only [zT]
 repeat (go_big_quiet_step (first | fail | (go_at_call 25; with_reducible exact cls_call hF1 hF2 H1.out _) | (go_at_call 25; with_reducible exact cls_call hF1 hF2 H2.out _)))
 refine wpQuiet_nil ?_
 rintro wq ⟨xq, rfl⟩
 replace hL0 := hL0.call (hF1 xq)
 clear  hq0 hF2
 generalize F xq = x2 at hL0 ⊢
 clear hF1 xq iα F α
 have hA := hL0.fc
 simp only [zF, Nat.reduceAdd] at hA
 obtain ⟨x3, hput1, hP⟩ := GL.named (hL0.put 0 (w.heap.size + 1) _ rfl [.int .u64 ((zl px.num : Nat) : Int), .string (zh px.num), .bool (zs px.num), .int .u64 ((lo (fe px) : Nat) : Int), .string (hs (fe px)), .int .u64 ((zl py.num : Nat) : Int), .string (zh py.num), .bool (zs py.num), .int .u64 ((lo (fe py) : Nat) : Int), .string (hs (fe py))] rfl)
 simp only [setAll] at hput1
 simp only [List.set_cons_zero, List.set_cons_succ] at hP
 have hB1 := hP.fc
 simp only [zF, Nat.reduceAdd] at hB1
 replace hL0 := hP
 go_wp2_with fail
 exact bodyPost_ret (v := .agg #[.int .u64 ((zl px.num : Nat) : Int), .string (zh px.num), .bool (zs px.num), .int .u64 ((lo (fe px) : Nat) : Int), .string (hs (fe px)), .int .u64 ((zl py.num : Nat) : Int), .string (zh py.num), .bool (zs py.num), .int .u64 ((lo (fe py) : Nat) : Int), .string (hs (fe py))]) (by simp [results, Tryz.results9, go_sem, hB1]) rfl ⟨rfl, hL0.bl⟩
theorem area9_w (px py qx qy rx ry ux uy vx vy ma mb sd tw ar : Rat) (W1 : ∀ w, Calls Tryz.prog 38 #[.agg #[.int .u64 ((zl px.num : Nat) : Int), .string (zh px.num), .bool (zs px.num), .int .u64 ((lo (fe px) : Nat) : Int), .string (hs (fe px)), .int .u64 ((zl py.num : Nat) : Int), .string (zh py.num), .bool (zs py.num), .int .u64 ((lo (fe py) : Nat) : Int), .string (hs (fe py))], .agg #[.int .u64 ((zl qx.num : Nat) : Int), .string (zh qx.num), .bool (zs qx.num), .int .u64 ((lo (fe qx) : Nat) : Int), .string (hs (fe qx)), .int .u64 ((zl qy.num : Nat) : Int), .string (zh qy.num), .bool (zs qy.num), .int .u64 ((lo (fe qy) : Nat) : Int), .string (hs (fe qy))]] w fun xe w' => xe = .returned (.agg #[.int .u64 ((zl ux.num : Nat) : Int), .string (zh ux.num), .bool (zs ux.num), .int .u64 ((lo (fe ux) : Nat) : Int), .string (hs (fe ux)), .int .u64 ((zl uy.num : Nat) : Int), .string (zh uy.num), .bool (zs uy.num), .int .u64 ((lo (fe uy) : Nat) : Int), .string (hs (fe uy))]) ∧ Below w.heap.size w w') (W2 : ∀ w, Calls Tryz.prog 38 #[.agg #[.int .u64 ((zl px.num : Nat) : Int), .string (zh px.num), .bool (zs px.num), .int .u64 ((lo (fe px) : Nat) : Int), .string (hs (fe px)), .int .u64 ((zl py.num : Nat) : Int), .string (zh py.num), .bool (zs py.num), .int .u64 ((lo (fe py) : Nat) : Int), .string (hs (fe py))], .agg #[.int .u64 ((zl rx.num : Nat) : Int), .string (zh rx.num), .bool (zs rx.num), .int .u64 ((lo (fe rx) : Nat) : Int), .string (hs (fe rx)), .int .u64 ((zl ry.num : Nat) : Int), .string (zh ry.num), .bool (zs ry.num), .int .u64 ((lo (fe ry) : Nat) : Int), .string (hs (fe ry))]] w fun xe w' => xe = .returned (.agg #[.int .u64 ((zl vx.num : Nat) : Int), .string (zh vx.num), .bool (zs vx.num), .int .u64 ((lo (fe vx) : Nat) : Int), .string (hs (fe vx)), .int .u64 ((zl vy.num : Nat) : Int), .string (zh vy.num), .bool (zs vy.num), .int .u64 ((lo (fe vy) : Nat) : Int), .string (hs (fe vy))]) ∧ Below w.heap.size w w') (M1 : ∀ w, Calls Tryz.prog 24 #[fracV ux, fracV vy] w fun xe w' => xe = .returned (fracV ma) ∧ Below w.heap.size w w') (M2 : ∀ w, Calls Tryz.prog 24 #[fracV vx, fracV uy] w fun xe w' => xe = .returned (fracV mb) ∧ Below w.heap.size w w') (S1 : ∀ w, Calls Tryz.prog 21 #[fracV ma, fracV mb] w fun xe w' => xe = .returned (fracV sd) ∧ Below w.heap.size w w') (I2 : ∀ w, Calls Tryz.prog 20 #[.int .i64 2] w fun xe w' => xe = .returned (fracV tw) ∧ Below w.heap.size w w') (R1 : ∀ w, Calls Tryz.prog 53 #[fracV sd, fracV tw] w fun xe w' => xe = .returned (fracV ar) ∧ Below w.heap.size w w') (w : World) :
  Calls Tryz.prog 18 #[.agg #[.int .u64 ((zl px.num : Nat) : Int), .string (zh px.num), .bool (zs px.num), .int .u64 ((lo (fe px) : Nat) : Int), .string (hs (fe px)), .int .u64 ((zl py.num : Nat) : Int), .string (zh py.num), .bool (zs py.num), .int .u64 ((lo (fe py) : Nat) : Int), .string (hs (fe py))], .agg #[.int .u64 ((zl qx.num : Nat) : Int), .string (zh qx.num), .bool (zs qx.num), .int .u64 ((lo (fe qx) : Nat) : Int), .string (hs (fe qx)), .int .u64 ((zl qy.num : Nat) : Int), .string (zh qy.num), .bool (zs qy.num), .int .u64 ((lo (fe qy) : Nat) : Int), .string (hs (fe qy))], .agg #[.int .u64 ((zl rx.num : Nat) : Int), .string (zh rx.num), .bool (zs rx.num), .int .u64 ((lo (fe rx) : Nat) : Int), .string (hs (fe rx)), .int .u64 ((zl ry.num : Nat) : Int), .string (zh ry.num), .bool (zs ry.num), .int .u64 ((lo (fe ry) : Nat) : Int), .string (hs (fe ry))]] w fun xe w' => xe = .returned (fracV ar) ∧ Below w.heap.size w w' := by
 have hL0 : GL w w [] := GL.start w
 replace W1 := Lib.hid W1
 replace W2 := Lib.hid W2
 replace M1 := Lib.hid M1
 replace M2 := Lib.hid M2
 replace S1 := Lib.hid S1
 replace I2 := Lib.hid I2
 replace R1 := Lib.hid R1
 obtain ⟨x1, hweq, hL0⟩ := GL.named ((((hL0.new rfl [.int .u64 ((zl px.num : Nat) : Int), .string (zh px.num), .bool (zs px.num), .int .u64 ((lo (fe px) : Nat) : Int), .string (hs (fe px)), .int .u64 ((zl py.num : Nat) : Int), .string (zh py.num), .bool (zs py.num), .int .u64 ((lo (fe py) : Nat) : Int), .string (hs (fe py))] 39).new (K := w.heap.size + 1) (szA _ _) [.int .u64 ((zl qx.num : Nat) : Int), .string (zh qx.num), .bool (zs qx.num), .int .u64 ((lo (fe qx) : Nat) : Int), .string (hs (fe qx)), .int .u64 ((zl qy.num : Nat) : Int), .string (zh qy.num), .bool (zs qy.num), .int .u64 ((lo (fe qy) : Nat) : Int), .string (hs (fe qy))] 39).new (K := w.heap.size + 1 + 1) (by simp only [World.size_alloc]) [.int .u64 ((zl rx.num : Nat) : Int), .string (zh rx.num), .bool (zs rx.num), .int .u64 ((lo (fe rx) : Nat) : Int), .string (hs (fe rx)), .int .u64 ((zl ry.num : Nat) : Int), .string (zh ry.num), .bool (zs ry.num), .int .u64 ((lo (fe ry) : Nat) : Int), .string (hs (fe ry))] 39).new (K := w.heap.size + 1 + 1 + 1) (by simp only [World.size_alloc]) [.int .u64 0, .string ⟨#[]⟩, .bool false, .int .u64 0, .string ⟨#[]⟩] 38)
 go_enter Tryz.func18, Tryz.ntmps18
 go_upto_region 1 with fail
 clear hweq
 refine region_gh (by kernel_rfl) (by kernel_rfl) ?_
 refine lex_seg (gl := []) 6 (by kernel_rfl) ?_
 intro α iα F hF1 hF2
 have hq := GL.seg hF1 hL0
 simp only [zC, Nat.reduceAdd] at hq
 simp only [zT]
 repeat (go_big_quiet_step (first | fail | (go_at_call 38; with_reducible exact seg_call hF2 W1.out _) | (go_at_call 38; with_reducible exact seg_call hF2 W2.out _)))
 refine wpQuiet_nil ?_
 clear hq hF1 hF2 iα F α
 refine lex_new [.int .u64 0, .string ⟨#[]⟩, .bool false, .int .u64 0, .string ⟨#[]⟩, .int .u64 0, .string ⟨#[]⟩, .bool false, .int .u64 0, .string ⟨#[]⟩] 7 39 39 rfl rfl (of_decide_eq_true (by kernel_rfl)) (by kernel_rfl) rfl new_pt9 ?_
 simp only [Act.put, zP]
 refine lex_new [.int .u64 0, .string ⟨#[]⟩, .bool false, .int .u64 0, .string ⟨#[]⟩, .int .u64 0, .string ⟨#[]⟩, .bool false, .int .u64 0, .string ⟨#[]⟩] 8 39 39 rfl rfl (of_decide_eq_true (by kernel_rfl)) (by kernel_rfl) rfl new_pt9 ?_
 simp only [Act.put, zP]
 refine lex_put [.int .u64 ((zl ux.num : Nat) : Int), .string (zh ux.num), .bool (zs ux.num), .int .u64 ((lo (fe ux) : Nat) : Int), .string (hs (fe ux)), .int .u64 ((zl uy.num : Nat) : Int), .string (zh uy.num), .bool (zs uy.num), .int .u64 ((lo (fe uy) : Nat) : Int), .string (hs (fe uy))] [.int .u64 0, .string ⟨#[]⟩, .bool false, .int .u64 0, .string ⟨#[]⟩, .int .u64 0, .string ⟨#[]⟩, .bool false, .int .u64 0, .string ⟨#[]⟩] 7 39 (.tmp 11) rfl (by kernel_rfl) (by simp [toG, upd]) rfl (fun w k h => put_pt9 _ _ _ _ _ _ _ _ _ _ _ _ _ _ _ _ _ _ _ _ w k h) ?_
 simp only [Act.put]
 refine lex_put [.int .u64 ((zl vx.num : Nat) : Int), .string (zh vx.num), .bool (zs vx.num), .int .u64 ((lo (fe vx) : Nat) : Int), .string (hs (fe vx)), .int .u64 ((zl vy.num : Nat) : Int), .string (zh vy.num), .bool (zs vy.num), .int .u64 ((lo (fe vy) : Nat) : Int), .string (hs (fe vy))] [.int .u64 0, .string ⟨#[]⟩, .bool false, .int .u64 0, .string ⟨#[]⟩, .int .u64 0, .string ⟨#[]⟩, .bool false, .int .u64 0, .string ⟨#[]⟩] 8 39 (.tmp 14) rfl (by kernel_rfl) (by simp [toG, upd]) rfl (fun w k h => put_pt9 _ _ _ _ _ _ _ _ _ _ _ _ _ _ _ _ _ _ _ _ w k h) ?_
 simp only [Act.put]
 refine lexG_nil ?_
 intro κ x2 hS
 replace hL0 := hL0.ghs hS [(8, [.int .u64 ((zl vx.num : Nat) : Int), .string (zh vx.num), .bool (zs vx.num), .int .u64 ((lo (fe vx) : Nat) : Int), .string (hs (fe vx)), .int .u64 ((zl vy.num : Nat) : Int), .string (zh vy.num), .bool (zs vy.num), .int .u64 ((lo (fe vy) : Nat) : Int), .string (hs (fe vy))]), (7, [.int .u64 ((zl ux.num : Nat) : Int), .string (zh ux.num), .bool (zs ux.num), .int .u64 ((lo (fe ux) : Nat) : Int), .string (hs (fe ux)), .int .u64 ((zl uy.num : Nat) : Int), .string (zh uy.num), .bool (zs uy.num), .int .u64 ((lo (fe uy) : Nat) : Int), .string (hs (fe uy))])] (by simp) (by intro p hp; simp only [List.mem_cons, List.not_mem_nil, or_false] at hp; rcases hp with rfl | rfl <;> exact ⟨_, by simp only [toG, upd]; rfl⟩)
 simp only [List.map_cons, List.map_nil, List.cons_append, List.nil_append] at hL0
 simp only [over_toG, over_nil, Act.put, zP]
 clear hS
 generalize κ 8 = k2_8 at *
 generalize κ 7 = k2_7 at *
 go_upto_region 2 with fail
 obtain ⟨α, iα, F, hF1, hF2⟩ := cls x2
 have hq0 := cls_box hF1 hL0 _ _ mZ
 simp only [zC, Nat.reduceAdd] at hq0
 have hq1 := cls_box hF1 hL0 _ _ (mK mZ)
 simp only [zC, Nat.reduceAdd] at hq1
 refine region_qs 13 (C := fun w' => ∃ x, w' = F x) (by kernel_rfl) (by kernel_rfl) (cls_drew hF2) ?_
 simp only [zT]
 repeat (go_big_quiet_step (first | fail | (go_at_call 24; with_reducible exact cls_call hF1 hF2 M1.out _) | (go_at_call 24; with_reducible exact cls_call hF1 hF2 M2.out _) | (go_at_call 21; with_reducible exact cls_call hF1 hF2 S1.out _) | (go_at_call 20; with_reducible exact cls_call hF1 hF2 I2.out _) | (go_at_call 53; with_reducible exact cls_call hF1 hF2 R1.out _)))
 refine wpQuiet_nil ?_
 rintro wq ⟨xq, rfl⟩
 replace hL0 := hL0.call (hF1 xq)
 clear  hq0 hq1 hF2
 generalize F xq = x3 at hL0 ⊢
 clear hF1 xq iα F α
 have hA := hL0.fc
 simp only [zF, Nat.reduceAdd] at hA
 obtain ⟨x4, hput1, hP⟩ := GL.named (hL0.put 2 (w.heap.size + 1 + 1 + 1) _ rfl [.int .u64 ((zl ar.num : Nat) : Int), .string (zh ar.num), .bool (zs ar.num), .int .u64 ((lo (fe ar) : Nat) : Int), .string (hs (fe ar))] rfl)
 simp only [setAll] at hput1
 simp only [List.set_cons_zero, List.set_cons_succ] at hP
 have hB1 := hP.fc
 simp only [zF, Nat.reduceAdd] at hB1
 replace hL0 := hP
 go_wp2_with fail
 exact bodyPost_ret (v := .agg #[.int .u64 ((zl ar.num : Nat) : Int), .string (zh ar.num), .bool (zs ar.num), .int .u64 ((lo (fe ar) : Nat) : Int), .string (hs (fe ar))]) (by simp [results, Tryz.results18, go_sem, hB1]) rfl ⟨rfl, hL0.bl⟩
theorem segf9_w (i j k : Int) (on ip q : Rat) (I1 : ∀ w, Calls Tryz.prog 20 #[.int .i64 1] w fun xe w' => xe = .returned (fracV on) ∧ Below w.heap.size w w') (I2 : ∀ w, Calls Tryz.prog 20 #[.int .i64 k] w fun xe w' => xe = .returned (fracV ip) ∧ Below w.heap.size w w') (R1 : ∀ w, Calls Tryz.prog 53 #[fracV on, fracV ip] w fun xe w' => xe = .returned (fracV q) ∧ Below w.heap.size w w') (e1 : IntKind.i64.wrap (i + 1) = k) (e2 : wrap64 (i + 1) = k) (w : World) :
  Calls Tryz.prog 69 #[.int .i64 i, .int .i64 j] w fun xe w' => xe = .returned (fracV q) ∧ Below w.heap.size w w' := by
 have hL0 : GL w w [] := GL.start w
 replace I1 := Lib.hid I1
 replace I2 := Lib.hid I2
 replace R1 := Lib.hid R1
 obtain ⟨x1, hweq, hL0⟩ := GL.named (hL0.new rfl [.int .u64 0, .string ⟨#[]⟩, .bool false, .int .u64 0, .string ⟨#[]⟩] 38)
 go_enter Tryz.func69, Tryz.ntmps69
 go_wp2_with fail
 with_reducible refine Calls.mono (I1.out _) ?_
 rintro e x2 ⟨rfl, hb⟩
 replace hL0 := hL0.call hb
 clear hb hweq
 go_wp2_with fail
 with_reducible refine Calls.mono (I2.out _) ?_
 rintro e x3 ⟨rfl, hb⟩
 replace hL0 := hL0.call hb
 clear hb
 go_wp2_with fail
 with_reducible refine Calls.mono (R1.out _) ?_
 rintro e x4 ⟨rfl, hb⟩
 replace hL0 := hL0.call hb
 clear hb
 have hA := hL0.fc
 simp only [zF, Nat.reduceAdd] at hA
 obtain ⟨x5, hput1, hP⟩ := GL.named (hL0.put 0 (w.heap.size) _ rfl [.int .u64 ((zl q.num : Nat) : Int), .string (zh q.num), .bool (zs q.num), .int .u64 ((lo (fe q) : Nat) : Int), .string (hs (fe q))] rfl)
 simp only [setAll] at hput1
 simp only [List.set_cons_zero, List.set_cons_succ] at hP
 have hB1 := hP.fc
 simp only [zF, Nat.reduceAdd] at hB1
 replace hL0 := hP
 go_wp2_with fail
 exact bodyPost_ret (v := .agg #[.int .u64 ((zl q.num : Nat) : Int), .string (zh q.num), .bool (zs q.num), .int .u64 ((lo (fe q) : Nat) : Int), .string (hs (fe q))]) (by simp [results, Tryz.results69, go_sem, hB1]) rfl ⟨rfl, hL0.bl⟩
theorem trif9_w (i j : Int) (q : Rat) (HM : ∀ w, Calls Tryz.prog 34 #[.int .i64 i, .int .i64 j, .int .i64 0] w fun xe w' => xe = .returned (fracV q) ∧ Below w.heap.size w w') (w : World) :
  Calls Tryz.prog 40 #[.int .i64 i, .int .i64 j] w fun xe w' => xe = .returned (fracV q) ∧ Below w.heap.size w w' := by
 have hL0 : GL w w [] := GL.start w
 replace HM := Lib.hid HM
 obtain ⟨x1, hweq, hL0⟩ := GL.named (hL0.new rfl [.int .u64 0, .string ⟨#[]⟩, .bool false, .int .u64 0, .string ⟨#[]⟩] 38)
 go_enter Tryz.func40, Tryz.ntmps40
 go_wp2_with fail
 with_reducible refine Calls.mono (HM.out _) ?_
 rintro e x2 ⟨rfl, hb⟩
 replace hL0 := hL0.call hb
 clear hb hweq
 have hA := hL0.fc
 simp only [zF, Nat.reduceAdd] at hA
 obtain ⟨x3, hput1, hP⟩ := GL.named (hL0.put 0 (w.heap.size) _ rfl [.int .u64 ((zl q.num : Nat) : Int), .string (zh q.num), .bool (zs q.num), .int .u64 ((lo (fe q) : Nat) : Int), .string (hs (fe q))] rfl)
 simp only [setAll] at hput1
 simp only [List.set_cons_zero, List.set_cons_succ] at hP
 have hB1 := hP.fc
 simp only [zF, Nat.reduceAdd] at hB1
 replace hL0 := hP
 go_wp2_with fail
 exact bodyPost_ret (v := .agg #[.int .u64 ((zl q.num : Nat) : Int), .string (zh q.num), .bool (zs q.num), .int .u64 ((lo (fe q) : Nat) : Int), .string (hs (fe q))]) (by simp [results, Tryz.results40, go_sem, hB1]) rfl ⟨rfl, hL0.bl⟩
theorem flow9_w (al am : Option Addr) (nl cl nm cm : Nat) (px py qx qy ux uy sa sb ma mb sd : Rat) (W1 : ∀ w, Calls Tryz.prog 38 #[.agg #[.int .u64 ((zl px.num : Nat) : Int), .string (zh px.num), .bool (zs px.num), .int .u64 ((lo (fe px) : Nat) : Int), .string (hs (fe px)), .int .u64 ((zl py.num : Nat) : Int), .string (zh py.num), .bool (zs py.num), .int .u64 ((lo (fe py) : Nat) : Int), .string (hs (fe py))], .agg #[.int .u64 ((zl qx.num : Nat) : Int), .string (zh qx.num), .bool (zs qx.num), .int .u64 ((lo (fe qx) : Nat) : Int), .string (hs (fe qx)), .int .u64 ((zl qy.num : Nat) : Int), .string (zh qy.num), .bool (zs qy.num), .int .u64 ((lo (fe qy) : Nat) : Int), .string (hs (fe qy))]] w fun xe w' => xe = .returned (.agg #[.int .u64 ((zl ux.num : Nat) : Int), .string (zh ux.num), .bool (zs ux.num), .int .u64 ((lo (fe ux) : Nat) : Int), .string (hs (fe ux)), .int .u64 ((zl uy.num : Nat) : Int), .string (zh uy.num), .bool (zs uy.num), .int .u64 ((lo (fe uy) : Nat) : Int), .string (hs (fe uy))]) ∧ Below w.heap.size w w') (KP : World → Prop) (hKP : Keeps KP) (G1 : ∀ w, KP w → Calls Tryz.prog 27 #[.slice al nl cl, .agg #[.int .u64 ((zl px.num : Nat) : Int), .string (zh px.num), .bool (zs px.num), .int .u64 ((lo (fe px) : Nat) : Int), .string (hs (fe px)), .int .u64 ((zl py.num : Nat) : Int), .string (zh py.num), .bool (zs py.num), .int .u64 ((lo (fe py) : Nat) : Int), .string (hs (fe py))], .agg #[.int .u64 ((zl qx.num : Nat) : Int), .string (zh qx.num), .bool (zs qx.num), .int .u64 ((lo (fe qx) : Nat) : Int), .string (hs (fe qx)), .int .u64 ((zl qy.num : Nat) : Int), .string (zh qy.num), .bool (zs qy.num), .int .u64 ((lo (fe qy) : Nat) : Int), .string (hs (fe qy))]] w fun xe w' => xe = .returned (fracV sa) ∧ Below w.heap.size w w') (KQ : World → Prop) (hKQ : Keeps KQ) (G2 : ∀ w, KQ w → Calls Tryz.prog 27 #[.slice am nm cm, .agg #[.int .u64 ((zl px.num : Nat) : Int), .string (zh px.num), .bool (zs px.num), .int .u64 ((lo (fe px) : Nat) : Int), .string (hs (fe px)), .int .u64 ((zl py.num : Nat) : Int), .string (zh py.num), .bool (zs py.num), .int .u64 ((lo (fe py) : Nat) : Int), .string (hs (fe py))], .agg #[.int .u64 ((zl qx.num : Nat) : Int), .string (zh qx.num), .bool (zs qx.num), .int .u64 ((lo (fe qx) : Nat) : Int), .string (hs (fe qx)), .int .u64 ((zl qy.num : Nat) : Int), .string (zh qy.num), .bool (zs qy.num), .int .u64 ((lo (fe qy) : Nat) : Int), .string (hs (fe qy))]] w fun xe w' => xe = .returned (fracV sb) ∧ Below w.heap.size w w') (M1 : ∀ w, Calls Tryz.prog 24 #[fracV uy, fracV sa] w fun xe w' => xe = .returned (fracV ma) ∧ Below w.heap.size w w') (M2 : ∀ w, Calls Tryz.prog 24 #[fracV ux, fracV sb] w fun xe w' => xe = .returned (fracV mb) ∧ Below w.heap.size w w') (S1 : ∀ w, Calls Tryz.prog 21 #[fracV ma, fracV mb] w fun xe w' => xe = .returned (fracV sd) ∧ Below w.heap.size w w') (w : World) (kKP : KP w) (kKQ : KQ w) :
  Calls Tryz.prog 15 #[.slice al nl cl, .slice am nm cm, .agg #[.int .u64 ((zl px.num : Nat) : Int), .string (zh px.num), .bool (zs px.num), .int .u64 ((lo (fe px) : Nat) : Int), .string (hs (fe px)), .int .u64 ((zl py.num : Nat) : Int), .string (zh py.num), .bool (zs py.num), .int .u64 ((lo (fe py) : Nat) : Int), .string (hs (fe py))], .agg #[.int .u64 ((zl qx.num : Nat) : Int), .string (zh qx.num), .bool (zs qx.num), .int .u64 ((lo (fe qx) : Nat) : Int), .string (hs (fe qx)), .int .u64 ((zl qy.num : Nat) : Int), .string (zh qy.num), .bool (zs qy.num), .int .u64 ((lo (fe qy) : Nat) : Int), .string (hs (fe qy))]] w fun xe w' => xe = .returned (fracV sd) ∧ Below w.heap.size w w' := by
 have hL0 : GL w w [] := GL.start w
 replace W1 := Lib.hid W1
 replace hKP := Lib.hid hKP
 replace G1 := Lib.hid G1
 replace hKQ := Lib.hid hKQ
 replace G2 := Lib.hid G2
 replace M1 := Lib.hid M1
 replace M2 := Lib.hid M2
 replace S1 := Lib.hid S1
 obtain ⟨x1, hweq, hL0⟩ := GL.named (((hL0.new rfl [.int .u64 ((zl px.num : Nat) : Int), .string (zh px.num), .bool (zs px.num), .int .u64 ((lo (fe px) : Nat) : Int), .string (hs (fe px)), .int .u64 ((zl py.num : Nat) : Int), .string (zh py.num), .bool (zs py.num), .int .u64 ((lo (fe py) : Nat) : Int), .string (hs (fe py))] 39).new (K := w.heap.size + 1) (szA _ _) [.int .u64 ((zl qx.num : Nat) : Int), .string (zh qx.num), .bool (zs qx.num), .int .u64 ((lo (fe qx) : Nat) : Int), .string (hs (fe qx)), .int .u64 ((zl qy.num : Nat) : Int), .string (zh qy.num), .bool (zs qy.num), .int .u64 ((lo (fe qy) : Nat) : Int), .string (hs (fe qy))] 39).new (K := w.heap.size + 1 + 1) (by simp only [World.size_alloc]) [.int .u64 0, .string ⟨#[]⟩, .bool false, .int .u64 0, .string ⟨#[]⟩] 38)
 go_enter Tryz.func15, Tryz.ntmps15
 have hN0 := cells_of _ 0 [] rfl (hL0.get _ _ (mK mZ))
 simp only [zF, Nat.reduceAdd] at hN0
 have hN1 := cells_of _ 0 [] rfl (hL0.get _ _ (mK (mK mZ)))
 simp only [zF, Nat.reduceAdd] at hN1
 go_wp2_with fail
 clear hN0 hN1
 with_reducible refine Calls.mono (W1.out _) ?_
 rintro e x2 ⟨rfl, hb⟩
 replace hL0 := hL0.call hb
 clear hb hweq
 obtain ⟨x3, hweq, hL0⟩ := GL.named (hL0.new rfl [.int .u64 ((zl ux.num : Nat) : Int), .string (zh ux.num), .bool (zs ux.num), .int .u64 ((lo (fe ux) : Nat) : Int), .string (hs (fe ux)), .int .u64 ((zl uy.num : Nat) : Int), .string (zh uy.num), .bool (zs uy.num), .int .u64 ((lo (fe uy) : Nat) : Int), .string (hs (fe uy))] 39)
 go_upto_region 2 with fail
 have kKP1 := hKP.out.at hL0.bl kKP
 have kKQ1 := hKQ.out.at hL0.bl kKQ
 clear hweq
 obtain ⟨α, iα, F, hF1, hF2⟩ := cls x3
 have hq0 := cls_box hF1 hL0 _ _ mZ
 simp only [zC, Nat.reduceAdd] at hq0
 have hq1 := cls_box hF1 hL0 _ _ (mK (mK mZ))
 simp only [zC, Nat.reduceAdd] at hq1
 have hq2 := cls_box hF1 hL0 _ _ (mK (mK (mK mZ)))
 simp only [zC, Nat.reduceAdd] at hq2
 refine region_qs 15 (C := fun w' => ∃ x, w' = F x) (by kernel_rfl) (by kernel_rfl) (cls_drew hF2) ?_
 simp only [zT]
 repeat (go_big_quiet_step (first | fail | (go_at_call 27; with_reducible exact cls_callK hKP.out hF1 hF2 kKP1 G1.out _) | (go_at_call 24; with_reducible exact cls_call hF1 hF2 M1.out _) | (go_at_call 27; with_reducible exact cls_callK hKQ.out hF1 hF2 kKQ1 G2.out _) | (go_at_call 24; with_reducible exact cls_call hF1 hF2 M2.out _) | (go_at_call 21; with_reducible exact cls_call hF1 hF2 S1.out _)))
 refine wpQuiet_nil ?_
 rintro wq ⟨xq, rfl⟩
 replace hL0 := hL0.call (hF1 xq)
 clear  hq0 hq1 hq2 hF2
 generalize F xq = x4 at hL0 ⊢
 clear hF1 xq iα F α
 clear kKP1 kKQ1
 have hA := hL0.fc
 simp only [zF, Nat.reduceAdd] at hA
 obtain ⟨x5, hput1, hP⟩ := GL.named (hL0.put 1 (w.heap.size + 1 + 1) _ rfl [.int .u64 ((zl sd.num : Nat) : Int), .string (zh sd.num), .bool (zs sd.num), .int .u64 ((lo (fe sd) : Nat) : Int), .string (hs (fe sd))] rfl)
 simp only [setAll] at hput1
 simp only [List.set_cons_zero, List.set_cons_succ] at hP
 have hB1 := hP.fc
 simp only [zF, Nat.reduceAdd] at hB1
 replace hL0 := hP
 go_wp2_with fail
 exact bodyPost_ret (v := .agg #[.int .u64 ((zl sd.num : Nat) : Int), .string (zh sd.num), .bool (zs sd.num), .int .u64 ((lo (fe sd) : Nat) : Int), .string (hs (fe sd))]) (by simp [results, Tryz.results15, go_sem, hB1]) rfl ⟨rfl, hL0.bl⟩
theorem is9_w (m n : Int) (q : Rat) (S : ByteArray) (HO : ∀ w, Calls Tryz.prog 67 #[.int .i64 m, .int .i64 n] w fun xe w' => xe = .returned (.tuple #[fracV q, .int .i64 0]) ∧ Below w.heap.size w w') (HT : ∀ w, Tab w → Calls Tryz.prog 72 #[fracV q] w fun xe w' => xe = .returned (.string S) ∧ Below w.heap.size w w') (h1 : ¬ S.toList = []) (h2 : (S.toList == []) = false) (h3 : S.toList.isEmpty = false) (w : World) (htab : Tab w) :
  Calls Tryz.prog 33 #[fracV q, .int .i64 m, .int .i64 n] w fun xe w' => xe = .returned (.bool true) ∧ Below w.heap.size w w' := by
 have hL0 : GL w w [] := GL.start w
 replace HO := Lib.hid HO
 replace HT := Lib.hid HT
 obtain ⟨x1, hweq, hL0⟩ := GL.named (hL0.new rfl [.int .u64 ((zl q.num : Nat) : Int), .string (zh q.num), .bool (zs q.num), .int .u64 ((lo (fe q) : Nat) : Int), .string (hs (fe q))] 38)
 go_enter Tryz.func33, Tryz.ntmps33
 go_wp2_with fail
 with_reducible refine Calls.mono (HO.out _) ?_
 rintro e x2 ⟨rfl, hb⟩
 replace hL0 := hL0.call hb
 clear hb hweq
 obtain ⟨x3, hweq, hL0⟩ := GL.named (hL0.new rfl [.int .u64 ((zl q.num : Nat) : Int), .string (zh q.num), .bool (zs q.num), .int .u64 ((lo (fe q) : Nat) : Int), .string (hs (fe q))] 38)
 have hN0 := cells_of _ 0 [] rfl (hL0.get _ _ mZ)
 simp only [zF, Nat.reduceAdd] at hN0
 have hN1 := cells_of _ 0 [] rfl (hL0.get _ _ (mK mZ))
 simp only [zF, Nat.reduceAdd] at hN1
 go_wp2_with fail
 clear hN0 hN1
 with_reducible refine Calls.mono (HT.out _ (htab.below hL0.bl)) ?_
 rintro e x4 ⟨rfl, hb⟩
 replace hL0 := hL0.call hb
 clear hb hweq
 go_wp2_with fail
 exact bodyPost_ret (v := .bool true) (by simp [results, Tryz.results33, go_sem]) rfl ⟨rfl, hL0.bl⟩
theorem fact9_w (n : Nat) (FQ : Nat → Rat) (on fn : Rat) (H1 : ∀ w, Calls Tryz.prog 20 #[.int .i64 1] w fun xe w' => xe = .returned (fracV on) ∧ Below w.heap.size w w') (hon : on = FQ 0) (hfn : FQ n = fn) (HK : ∀ k : Nat, k < n → IntKind.i64.wrap ((k : Int) + 1) = (k : Int) + 1 ∧ wrap64 ((k : Int) + 1) = (k : Int) + 1 ∧ ∃ ik qn : Rat, (∀ w, Calls Tryz.prog 20 #[.int .i64 ((k : Int) + 1)] w fun xe w' => xe = .returned (fracV ik) ∧ Below w.heap.size w w') ∧ (∀ w, Calls Tryz.prog 24 #[fracV (FQ k), fracV ik] w fun xe w' => xe = .returned (fracV qn) ∧ Below w.heap.size w w') ∧ qn = FQ (k + 1)) (w : World) :
  Calls Tryz.prog 73 #[.int .i64 (n : Int)] w fun xe w' => xe = .returned (fracV fn) ∧ Below w.heap.size w w' := by
 have hL0 : GL w w [] := GL.start w
 replace H1 := Lib.hid H1
 replace hon := Lib.hid hon
 replace hfn := Lib.hid hfn
 replace HK := Lib.hid HK
 obtain ⟨x1, hweq, hL0⟩ := GL.named (hL0.new rfl [.int .u64 0, .string ⟨#[]⟩, .bool false, .int .u64 0, .string ⟨#[]⟩] 38)
 go_enter Tryz.func73, Tryz.ntmps73
 go_wp2_with fail
 with_reducible refine Calls.mono (H1.out _) ?_
 rintro e x2 ⟨rfl, hb⟩
 replace hL0 := hL0.call hb
 clear hb hweq
 obtain ⟨x3, hweq, hL0⟩ := GL.named (hL0.new rfl [.int .u64 ((zl on.num : Nat) : Int), .string (zh on.num), .bool (zs on.num), .int .u64 ((lo (fe on) : Nat) : Int), .string (hs (fe on))] 38)
 go_wp2_with fail
 clear hweq
 go_loopg [7] n (fun gk iv wr => ∃ (k : Nat) (zi : Int) (qk : Rat), k + gk = n ∧ iv = .int .i64 zi ∧ zi = (k : Int) ∧ qk = FQ k ∧ GL w wr [(x2.heap.size, [.int .u64 ((zl qk.num : Nat) : Int), .string (zh qk.num), .bool (zs qk.num), .int .u64 ((lo (fe qk) : Nat) : Int), .string (hs (fe qk))]), (w.heap.size, [.int .u64 0, .string ⟨#[]⟩, .bool false, .int .u64 0, .string ⟨#[]⟩])])
 case atStart => exact ⟨0, 0, on, Nat.zero_add n, by first | rfl | go_num, rfl, hon.out, hL0⟩
 case round =>
  clear hL0
  obtain ⟨k, zi, qk, hik, rfl, hzi, hqk, hL0⟩ := hrel
  replace hqk := Lib.hid hqk
  rcases Nat.lt_or_ge k n with hin | hin
  ·have k4 : (k : Int) < (n : Int) := Int.ofNat_lt.2 hin
   obtain ⟨e1, e2, ik, qn, HI, HM, hqn⟩ := HK.out k hin
   rw [← hqk.out] at HM
   replace HI := Lib.hid HI
   replace HM := Lib.hid HM
   replace hqn := Lib.hid hqn
   rw [← hzi] at k4 e1 e2 HI
   replace hzi := Lib.hid hzi
   go_upto_region 5 with fail
   obtain ⟨α, iα, F, hF1, hF2⟩ := cls wr
   have hq0 := cls_box hF1 hL0 _ _ mZ
   simp only [zC, Nat.reduceAdd] at hq0
   refine region_qs 5 (C := fun w' => ∃ x, w' = F x) (by kernel_rfl) (by kernel_rfl) (cls_drew hF2) ?_
   simp only [zT]
   repeat (go_big_quiet_step (first | fail | (go_at_call 20; with_reducible exact cls_call hF1 hF2 HI.out _) | (go_at_call 24; with_reducible exact cls_call hF1 hF2 HM.out _)))
   refine wpQuiet_nil ?_
   rintro wq ⟨xq, rfl⟩
   replace hL0 := hL0.call (hF1 xq)
   clear  hq0 hF2
   generalize F xq = x4 at hL0 ⊢
   clear hF1 xq iα F α
   have hA := hL0.fc
   simp only [zF, Nat.reduceAdd] at hA
   obtain ⟨x5, hput1, hP⟩ := GL.named (hL0.put 0 (x2.heap.size) _ rfl [.int .u64 ((zl qn.num : Nat) : Int), .string (zh qn.num), .bool (zs qn.num), .int .u64 ((lo (fe qn) : Nat) : Int), .string (hs (fe qn))] rfl)
   simp only [setAll] at hput1
   simp only [List.set_cons_zero, List.set_cons_succ] at hP
   have hB1 := hP.fc
   simp only [zF, Nat.reduceAdd] at hB1
   replace hL0 := hP
   go_wp2_with fail
   go_roundg (gk - 1)
   case measure => omega
   case rel => exact ⟨k + 1, _, qn, by omega, by first | rfl | go_num, by have := hzi.out; omega, hqn.out, hL0⟩
  ·have hkn : n = k := by omega
   subst hkn
   have hqe : qk = FQ n := hqk.out
   obtain rfl : qk = fn := by rw [hqe]; exact hfn.out
   clear hqe hqk hin hik
   subst hzi
   have k4 : ¬ (n : Int) < (n : Int) := Int.lt_irrefl _
   have hA := hL0.fc
   simp only [zF, Nat.reduceAdd] at hA
   obtain ⟨x4, hput1, hP⟩ := GL.named (hL0.put 1 (w.heap.size) _ rfl [.int .u64 ((zl qk.num : Nat) : Int), .string (zh qk.num), .bool (zs qk.num), .int .u64 ((lo (fe qk) : Nat) : Int), .string (hs (fe qk))] rfl)
   simp only [setAll] at hput1
   simp only [List.set_cons_zero, List.set_cons_succ] at hP
   have hB1 := hP.fc
   simp only [zF, Nat.reduceAdd] at hB1
   replace hL0 := hP
   go_wp2_with fail
   exact bodyPost_ret (v := .agg #[.int .u64 ((zl qk.num : Nat) : Int), .string (zh qk.num), .bool (zs qk.num), .int .u64 ((lo (fe qk) : Nat) : Int), .string (hs (fe qk))]) (by simp [results, Tryz.results73, go_sem, hB1]) rfl ⟨rfl, hL0.bl⟩
theorem idx3_0 (i j k : Int) (w : World) : (Instr.index 107 (.agg #[.int .i64 i, .int .i64 j, .int .i64 k]) (.int .i64 0)).run Tryz.prog w = .ok (.int .i64 i) w := by simp [go_sem, Instr.index]
theorem idx3_1 (i j k : Int) (w : World) : (Instr.index 107 (.agg #[.int .i64 i, .int .i64 j, .int .i64 k]) (.int .i64 1)).run Tryz.prog w = .ok (.int .i64 j) w := by simp [go_sem, Instr.index]
theorem idx3_2 (i j k : Int) (w : World) : (Instr.index 107 (.agg #[.int .i64 i, .int .i64 j, .int .i64 k]) (.int .i64 2)).run Tryz.prog w = .ok (.int .i64 k) w := by simp [go_sem, Instr.index]
theorem moment9_w (i j k na nb nc : Int) (tw fi fj fk ma mb mc fn q : Rat) (H2 : ∀ w, Calls Tryz.prog 20 #[.int .i64 2] w fun xe w' => xe = .returned (fracV tw) ∧ Below w.heap.size w w') (F1 : ∀ w, Calls Tryz.prog 73 #[.int .i64 i] w fun xe w' => xe = .returned (fracV fi) ∧ Below w.heap.size w w') (M1 : ∀ w, Calls Tryz.prog 24 #[fracV tw, fracV fi] w fun xe w' => xe = .returned (fracV ma) ∧ Below w.heap.size w w') (F2 : ∀ w, Calls Tryz.prog 73 #[.int .i64 j] w fun xe w' => xe = .returned (fracV fj) ∧ Below w.heap.size w w') (M2 : ∀ w, Calls Tryz.prog 24 #[fracV ma, fracV fj] w fun xe w' => xe = .returned (fracV mb) ∧ Below w.heap.size w w') (F3 : ∀ w, Calls Tryz.prog 73 #[.int .i64 k] w fun xe w' => xe = .returned (fracV fk) ∧ Below w.heap.size w w') (M3 : ∀ w, Calls Tryz.prog 24 #[fracV mb, fracV fk] w fun xe w' => xe = .returned (fracV mc) ∧ Below w.heap.size w w') (F4 : ∀ w, Calls Tryz.prog 73 #[.int .i64 nc] w fun xe w' => xe = .returned (fracV fn) ∧ Below w.heap.size w w') (R1 : ∀ w, Calls Tryz.prog 53 #[fracV mc, fracV fn] w fun xe w' => xe = .returned (fracV q) ∧ Below w.heap.size w w') (i0 : ¬ i < 0) (i1 : ¬ 48 < i) (j0 : ¬ j < 0) (j1 : ¬ 48 < j) (k0 : ¬ k < 0) (k1 : ¬ 48 < k) (e1 : IntKind.i64.wrap (2 + i) = na) (e2 : wrap64 (2 + i) = na) (e3 : IntKind.i64.wrap (na + j) = nb) (e4 : wrap64 (na + j) = nb) (e5 : IntKind.i64.wrap (nb + k) = nc) (e6 : wrap64 (nb + k) = nc) (w : World) :
  Calls Tryz.prog 34 #[.int .i64 i, .int .i64 j, .int .i64 k] w fun xe w' => xe = .returned (fracV q) ∧ Below w.heap.size w w' := by
 have hL0 : GL w w [] := GL.start w
 replace H2 := Lib.hid H2
 replace F1 := Lib.hid F1
 replace M1 := Lib.hid M1
 replace F2 := Lib.hid F2
 replace M2 := Lib.hid M2
 replace F3 := Lib.hid F3
 replace M3 := Lib.hid M3
 replace F4 := Lib.hid F4
 replace R1 := Lib.hid R1
 have ix0 := idx3_0 i j k
 have ix1 := idx3_1 i j k
 have ix2 := idx3_2 i j k
 obtain ⟨x1, hweq, hL0⟩ := GL.named (hL0.new rfl [.int .u64 0, .string ⟨#[]⟩, .bool false, .int .u64 0, .string ⟨#[]⟩] 38)
 go_enter Tryz.func34, Tryz.ntmps34
 go_wp2_with fail
 with_reducible refine Calls.mono (H2.out _) ?_
 rintro e x2 ⟨rfl, hb⟩
 replace hL0 := hL0.call hb
 clear hb hweq
 obtain ⟨x3, hweq, hL0⟩ := GL.named (hL0.new rfl [.int .u64 ((zl tw.num : Nat) : Int), .string (zh tw.num), .bool (zs tw.num), .int .u64 ((lo (fe tw) : Nat) : Int), .string (hs (fe tw))] 38)
 go_wp2_with fail
 clear hweq
 go_loopg [8, 16] 3 (fun gk nv iv wr => ∃ (r : Nat) (LI : List (Nat × List Value)) (zn : Int), r + gk = 3 ∧ nv = .int .i64 zn ∧ iv = .int .i64 (r : Int) ∧ GL w wr LI ∧ ((r = 0 ∧ zn = 2 ∧ LI = [(x2.heap.size, [.int .u64 ((zl tw.num : Nat) : Int), .string (zh tw.num), .bool (zs tw.num), .int .u64 ((lo (fe tw) : Nat) : Int), .string (hs (fe tw))]), (w.heap.size, [.int .u64 0, .string ⟨#[]⟩, .bool false, .int .u64 0, .string ⟨#[]⟩])]) ∨ (r = 1 ∧ zn = na ∧ LI = [(x2.heap.size, [.int .u64 ((zl ma.num : Nat) : Int), .string (zh ma.num), .bool (zs ma.num), .int .u64 ((lo (fe ma) : Nat) : Int), .string (hs (fe ma))]), (w.heap.size, [.int .u64 0, .string ⟨#[]⟩, .bool false, .int .u64 0, .string ⟨#[]⟩])]) ∨ (r = 2 ∧ zn = nb ∧ LI = [(x2.heap.size, [.int .u64 ((zl mb.num : Nat) : Int), .string (zh mb.num), .bool (zs mb.num), .int .u64 ((lo (fe mb) : Nat) : Int), .string (hs (fe mb))]), (w.heap.size, [.int .u64 0, .string ⟨#[]⟩, .bool false, .int .u64 0, .string ⟨#[]⟩])]) ∨ (r = 3 ∧ zn = nc ∧ LI = [(x2.heap.size, [.int .u64 ((zl mc.num : Nat) : Int), .string (zh mc.num), .bool (zs mc.num), .int .u64 ((lo (fe mc) : Nat) : Int), .string (hs (fe mc))]), (w.heap.size, [.int .u64 0, .string ⟨#[]⟩, .bool false, .int .u64 0, .string ⟨#[]⟩])])))
 case atStart => exact ⟨0, _, _, by omega, by first | rfl | go_num, by first | rfl | go_num, hL0, .inl ⟨rfl, rfl, rfl⟩⟩
 case round =>
  clear hL0
  obtain ⟨r, LI, zn, hik, rfl, rfl, hL0, hLI⟩ := hrel
  rcases hLI with ⟨rfl, rfl, rfl⟩ | ⟨rfl, rfl, rfl⟩ | ⟨rfl, rfl, rfl⟩ | ⟨rfl, rfl, rfl⟩
  ·obtain rfl : gk = 3 := by omega
   go_upto_region 7 with fail
   obtain ⟨α, iα, F, hF1, hF2⟩ := cls wr
   have hq0 := cls_box hF1 hL0 _ _ mZ
   simp only [zC, Nat.reduceAdd] at hq0
   refine region_qs 4 (C := fun w' => ∃ x, w' = F x) (by kernel_rfl) (by kernel_rfl) (cls_drew hF2) ?_
   simp only [zT]
   repeat (go_big_quiet_step (first | fail | (go_at_call 73; with_reducible exact cls_call hF1 hF2 F1.out _) | (go_at_call 24; with_reducible exact cls_call hF1 hF2 M1.out _)))
   refine wpQuiet_nil ?_
   rintro wq ⟨xq, rfl⟩
   replace hL0 := hL0.call (hF1 xq)
   clear  hq0 hF2
   generalize F xq = x4 at hL0 ⊢
   clear hF1 xq iα F α
   have hA := hL0.fc
   simp only [zF, Nat.reduceAdd] at hA
   obtain ⟨x5, hput1, hP⟩ := GL.named (hL0.put 0 (x2.heap.size) _ rfl [.int .u64 ((zl ma.num : Nat) : Int), .string (zh ma.num), .bool (zs ma.num), .int .u64 ((lo (fe ma) : Nat) : Int), .string (hs (fe ma))] rfl)
   simp only [setAll] at hput1
   simp only [List.set_cons_zero, List.set_cons_succ] at hP
   have hB1 := hP.fc
   simp only [zF, Nat.reduceAdd] at hB1
   replace hL0 := hP
   go_wp2_with fail
   go_roundg 2
   case measure => omega
   case rel => exact ⟨1, _, _, by omega, by first | rfl | go_num, by first | rfl | go_num, hL0, .inr (.inl ⟨rfl, rfl, rfl⟩)⟩
  ·obtain rfl : gk = 2 := by omega
   go_upto_region 7 with fail
   obtain ⟨α, iα, F, hF1, hF2⟩ := cls wr
   have hq0 := cls_box hF1 hL0 _ _ mZ
   simp only [zC, Nat.reduceAdd] at hq0
   refine region_qs 4 (C := fun w' => ∃ x, w' = F x) (by kernel_rfl) (by kernel_rfl) (cls_drew hF2) ?_
   simp only [zT]
   repeat (go_big_quiet_step (first | fail | (go_at_call 73; with_reducible exact cls_call hF1 hF2 F2.out _) | (go_at_call 24; with_reducible exact cls_call hF1 hF2 M2.out _)))
   refine wpQuiet_nil ?_
   rintro wq ⟨xq, rfl⟩
   replace hL0 := hL0.call (hF1 xq)
   clear  hq0 hF2
   generalize F xq = x4 at hL0 ⊢
   clear hF1 xq iα F α
   have hA := hL0.fc
   simp only [zF, Nat.reduceAdd] at hA
   obtain ⟨x5, hput1, hP⟩ := GL.named (hL0.put 0 (x2.heap.size) _ rfl [.int .u64 ((zl mb.num : Nat) : Int), .string (zh mb.num), .bool (zs mb.num), .int .u64 ((lo (fe mb) : Nat) : Int), .string (hs (fe mb))] rfl)
   simp only [setAll] at hput1
   simp only [List.set_cons_zero, List.set_cons_succ] at hP
   have hB1 := hP.fc
   simp only [zF, Nat.reduceAdd] at hB1
   replace hL0 := hP
   go_wp2_with fail
   go_roundg 1
   case measure => omega
   case rel => exact ⟨2, _, _, by omega, by first | rfl | go_num, by first | rfl | go_num, hL0, .inr (.inr (.inl ⟨rfl, rfl, rfl⟩))⟩
  ·obtain rfl : gk = 1 := by omega
   go_upto_region 7 with fail
   obtain ⟨α, iα, F, hF1, hF2⟩ := cls wr
   have hq0 := cls_box hF1 hL0 _ _ mZ
   simp only [zC, Nat.reduceAdd] at hq0
   refine region_qs 4 (C := fun w' => ∃ x, w' = F x) (by kernel_rfl) (by kernel_rfl) (cls_drew hF2) ?_
   simp only [zT]
   repeat (go_big_quiet_step (first | fail | (go_at_call 73; with_reducible exact cls_call hF1 hF2 F3.out _) | (go_at_call 24; with_reducible exact cls_call hF1 hF2 M3.out _)))
   refine wpQuiet_nil ?_
   rintro wq ⟨xq, rfl⟩
   replace hL0 := hL0.call (hF1 xq)
   clear  hq0 hF2
   generalize F xq = x4 at hL0 ⊢
   clear hF1 xq iα F α
   have hA := hL0.fc
   simp only [zF, Nat.reduceAdd] at hA
   obtain ⟨x5, hput1, hP⟩ := GL.named (hL0.put 0 (x2.heap.size) _ rfl [.int .u64 ((zl mc.num : Nat) : Int), .string (zh mc.num), .bool (zs mc.num), .int .u64 ((lo (fe mc) : Nat) : Int), .string (hs (fe mc))] rfl)
   simp only [setAll] at hput1
   simp only [List.set_cons_zero, List.set_cons_succ] at hP
   have hB1 := hP.fc
   simp only [zF, Nat.reduceAdd] at hB1
   replace hL0 := hP
   go_wp2_with fail
   go_roundg 0
   case measure => omega
   case rel => exact ⟨3, _, _, by omega, by first | rfl | go_num, by first | rfl | go_num, hL0, .inr (.inr (.inr (⟨rfl, rfl, rfl⟩)))⟩
  ·obtain rfl : gk = 0 := by omega
   go_upto_region 10 with fail
   obtain ⟨α, iα, F, hF1, hF2⟩ := cls wr
   have hq0 := cls_box hF1 hL0 _ _ mZ
   simp only [zC, Nat.reduceAdd] at hq0
   refine region_qs 4 (C := fun w' => ∃ x, w' = F x) (by kernel_rfl) (by kernel_rfl) (cls_drew hF2) ?_
   simp only [zT]
   repeat (go_big_quiet_step (first | fail | (go_at_call 73; with_reducible exact cls_call hF1 hF2 F4.out _) | (go_at_call 53; with_reducible exact cls_call hF1 hF2 R1.out _)))
   refine wpQuiet_nil ?_
   rintro wq ⟨xq, rfl⟩
   replace hL0 := hL0.call (hF1 xq)
   clear  hq0 hF2
   generalize F xq = x4 at hL0 ⊢
   clear hF1 xq iα F α
   have hA := hL0.fc
   simp only [zF, Nat.reduceAdd] at hA
   obtain ⟨x5, hput1, hP⟩ := GL.named (hL0.put 1 (w.heap.size) _ rfl [.int .u64 ((zl q.num : Nat) : Int), .string (zh q.num), .bool (zs q.num), .int .u64 ((lo (fe q) : Nat) : Int), .string (hs (fe q))] rfl)
   simp only [setAll] at hput1
   simp only [List.set_cons_zero, List.set_cons_succ] at hP
   have hB1 := hP.fc
   simp only [zF, Nat.reduceAdd] at hB1
   replace hL0 := hP
   go_wp2_with fail
   exact bodyPost_ret (v := .agg #[.int .u64 ((zl q.num : Nat) : Int), .string (zh q.num), .bool (zs q.num), .int .u64 ((lo (fe q) : Nat) : Int), .string (hs (fe q))]) (by simp [results, Tryz.results34, go_sem, hB1]) rfl ⟨rfl, hL0.bl⟩
end Go.Proofs.YtkdbhacimoaohaaGreatDoor
namespace Go.Proofs.YtkdbhacimoaohaaGreatDoor
open Go.RowKit
attribute [local irreducible] lo hs sm s64 c64 d64 b64 mh ml pd pc qd qc val hiB str cmpI srD lz nb zl zh zs fe klT ordZ
theorem pint_seg (P : TL) (Fv : Nat → Nat → Rat) (s : Rat) (ao : Option Addr) (n c : Nat) (hPl : P.length ≤ 10000)
  (HC : ∀ t ∈ P, ∀ w : World, Calls Tryz.prog 69 #[.int .i64 (t.1 : Int), .int .i64 (t.2.1 : Int)] w fun xe w' => xe = .returned (fracV (Fv t.1 t.2.1)) ∧ Below w.heap.size w w')
  (HM : ∀ t ∈ P, ∀ w : World, Calls Tryz.prog 24 #[fracV t.2.2, fracV (Fv t.1 t.2.1)] w fun xe w' => xe = .returned (fracV (t.2.2 * Fv t.1 t.2.1)) ∧ Below w.heap.size w w')
  (HSm : ∀ (v : Value) (w : World), SlQ w v (P.map fun t => t.2.2 * Fv t.1 t.2.1) → Calls Tryz.prog 14 #[v] w fun xe w' => xe = .returned (fracV s) ∧ Below w.heap.size w w')
  (w : World) (hq : PT w (.slice ao n c) (ofL P)) :
  Calls Tryz.prog 39 #[.slice ao n c, .func (.func 69) #[] #[]] w fun xe w' => xe = .returned (fracV s) ∧ Below w.heap.size w w' := by
 replace HC := Lib.hid HC
 replace HM := Lib.hid HM
 replace hPl := Lib.hid hPl
 obtain ⟨VL, hVL⟩ : ∃ VL, VL = P.map fun t => t.2.2 * Fv t.1 t.2.1 := ⟨_, rfl⟩
 rw [← hVL] at HSm
 replace hVL := Lib.hid hVL
 replace HSm := Lib.hid HSm
 have hpp := Lib.hid (pt_parts hq).2
 have hnl : n = P.length := by obtain ⟨_, _, _, e, h⟩ := pt_form hq; cases e; rw [h]; exact ofL_length P
 have hnb : n ≤ 10000 := by rw [hnl]; exact hPl.out
 replace hnl := Lib.hid hnl
 clear hq
 have hL0 : GL w w [] := GL.start w
 obtain ⟨x1, hweq, hL0⟩ := GL.named (hL0.new rfl [.int .u64 0, .string ⟨#[]⟩, .bool false, .int .u64 0, .string ⟨#[]⟩] 38)
 go_enter Tryz.func39, Tryz.ntmps39
 go_wp2_with fail
 clear hweq
 generalize hb4 : w.heap.size = b4 at hL0 ⊢
 replace hb4 := Lib.hid hb4
 have hbs : ∀ p ∈ ([(b4, [.int .u64 0, .string ⟨#[]⟩, .bool false, .int .u64 0, .string ⟨#[]⟩])] : List (Nat × List Value)), p.1 < x1.heap.size := fun p hp => (hL0.all p hp).2.lt
 have hwE : w.heap.size ≤ x1.heap.size := hL0.bl.size
 have hbz := Lib.hid hL0.bl
 replace hbs := Lib.hid hbs
 replace hwE := Lib.hid hwE
 go_loopg [5, 10] n (fun gk sv iv wr => ∃ (k : Nat) (zi : Int) (vs : Value), k + gk = n ∧ vs = sv ∧ iv = .int .i64 zi ∧ zi = (k : Int) ∧ OwnF wr x1.heap.size vs k (VL.take k) ∧ Below x1.heap.size x1 wr ∧ GL w wr [(b4, [.int .u64 0, .string ⟨#[]⟩, .bool false, .int .u64 0, .string ⟨#[]⟩])])
 case atStart => exact ⟨0, 0, _, Nat.zero_add n, rfl, by first | rfl | go_num, rfl, World.ownsRow_nil _ _ _ _, Below.refl _ _, hL0⟩
 case round =>
  clear hL0
  obtain ⟨k, zi, vs, hik, rfl, rfl, hzi, hown, hBz, hL0⟩ := hrel
  replace hBz := Lib.hid hBz
  replace hown := Lib.hid hown
  rcases Nat.lt_or_ge k n with hin | hin
  ·subst hzi
   have hkP : k < P.length := by rw [← hnl.out]; exact hin
   have hko : k < (ofL P).length := by rw [ofL_length]; exact hkP
   obtain ⟨g, rfl, hts⟩ := hpp.out (by omega)
   have hf := ((hts.below hbz.out).below hBz.out).cell k hko
   have k1 : (k : Int) < (n : Int) := by omega
   have k0 : (0 : Int) ≤ (k : Int) := Int.natCast_nonneg _
   obtain ⟨an, bn, q, hPk⟩ : ∃ a b q, P[k] = (a, b, q) := ⟨_, _, _, rfl⟩
   rw [ofL_get hkP hko hPk] at hf
   simp only at hf
   have hmem : (an, bn, q) ∈ P := by rw [← hPk]; exact List.getElem_mem hkP
   have hm1 := HC.out _ hmem
   have hm2 := HM.out _ hmem
   simp only at hm1 hm2
   obtain ⟨fv9, hfv⟩ : ∃ z, z = Fv an bn := ⟨_, rfl⟩
   rw [← hfv] at hm1 hm2
   obtain ⟨r, hr⟩ : ∃ r, r = q * fv9 := ⟨_, rfl⟩
   rw [← hr] at hm2
   have htk : VL.take (k + 1) = VL.take k ++ [r] := by
    rw [hVL.out, ← List.map_take, ← List.map_take, List.take_succ_eq_append_getElem hkP, List.map_append, hPk, hr, hfv]; rfl
   have HC1 := Lib.hid hm1
   have HM1 := Lib.hid hm2
   replace hfv := Lib.hid hfv
   replace hr := Lib.hid hr
   replace htk := Lib.hid htk
   replace hPk := Lib.hid hPk
   clear hts hm1 hm2
   obtain ⟨f0, f1, f2, f3, f4, f5, f6⟩ := hf
   replace hL0 := hL0.new rfl [.int .i64 (an : Int), .int .i64 (bn : Int), .int .u64 ((zl q.num : Nat) : Int), .string (zh q.num), .bool (zs q.num), .int .u64 ((lo (fe q) : Nat) : Int), .string (hs (fe q))] 80
   generalize hweq : wr.alloc (.cells #[.int .i64 (an : Int), .int .i64 (bn : Int), .int .u64 ((zl q.num : Nat) : Int), .string (zh q.num), .bool (zs q.num), .int .u64 ((lo (fe q) : Nat) : Int), .string (hs (fe q))] 80) = y3 at hL0
   have hb9 : Below wr.heap.size wr y3 := by rw [← hweq]; exact (Below.refl _ _).alloc (Nat.le_refl _) _
   have hown3 := Lib.hid (own_below hown.out hb9)
   have hBz3 := Lib.hid (hBz.out.trans (hb9.mono hBz.out.size))
   have hEw3 := Lib.hid (show x1.heap.size ≤ y3.heap.size from hBz3.out.size)
   clear hb9
   go_upto_region 5 with fail
   clear hweq f0 f1 f2 f3 f4 f5 f6 hown hBz
   generalize hb7 : wr.heap.size = b7 at hL0 ⊢
   replace hb7 := Lib.hid hb7
   have hS : SS y3 [] := SS.nil y3
   refine region_tl 11 [EV vs, EV (.pointer (some ⟨b7, 2, none⟩)), EV (.agg #[.int .u64 ((zl q.num : Nat) : Int), .string (zh q.num), .bool (zs q.num), .int .u64 ((lo (fe q) : Nat) : Int), .string (hs (fe q))]), EV (.func (.func 69) #[] #[]), EV (.pointer (some ⟨b7, 0, none⟩)), EV (.int .i64 (an : Int)), EV (.pointer (some ⟨b7, 1, none⟩)), EV (.int .i64 (bn : Int)), EV (.agg #[.int .u64 ((zl fv9.num : Nat) : Int), .string (zh fv9.num), .bool (zs fv9.num), .int .u64 ((lo (fe fv9) : Nat) : Int), .string (hs (fe fv9))]), EV (.agg #[.int .u64 ((zl r.num : Nat) : Int), .string (zh r.num), .bool (zs r.num), .int .u64 ((lo (fe r) : Nat) : Int), .string (hs (fe r))]), NewS (y3.heap.size, [.int .u64 ((zl r.num : Nat) : Int), .string (zh r.num), .bool (zs r.num), .int .u64 ((lo (fe r) : Nat) : Int), .string (hs (fe r))], 1)] (by kernel_rfl) (by kernel_rfl) ?_ ?_ ?_
   ·repeat' first | exact stays_nil | apply stays_cons | exact stays_eq _ | exact stays_news _
   ·simp only [List.take_succ_cons, List.take_zero, hopsR, and_true]
    refine ⟨?_, ?_, ?_, ?_, ?_, ?_, ?_, ?_, ?_, ?_, ?_⟩ <;> intro fv w1 hb1 hp
    all_goals (have hc := (hL0.call (below_drew hb1)).fc; simp only [zF, Nat.reduceAdd] at hc; simp only [putsV, Act.put, zP, Nat.zero_add, Nat.reduceAdd])
    ·refine tyAt_none rfl ?_
     simp [tyUpon, execOp, go_sem, Act.eval, Below.refl]
    ·refine tyAt_none rfl ?_
     simp [tyUpon, execOp, go_sem, Act.eval, Below.refl]
    ·have h1 : EV _ (fv 1) w1 := hp 1 (LC (by kernel_rfl))
     refine tyAt_none rfl ?_
     simp [tyUpon, execOp, go_sem, Act.eval, hc, h1, Below.refl]
    ·refine tyAt_none rfl ?_
     simp [tyUpon, execOp, go_sem, Act.eval, Below.refl]
    ·refine tyAt_none rfl ?_
     simp [tyUpon, execOp, go_sem, Act.eval, Below.refl]
    ·have h4 : EV _ (fv 4) w1 := hp 4 (LC (by kernel_rfl))
     refine tyAt_none rfl ?_
     simp [tyUpon, execOp, go_sem, Act.eval, hc, h4, Below.refl]
    ·refine tyAt_none rfl ?_
     simp [tyUpon, execOp, go_sem, Act.eval, Below.refl]
    ·have h6 : EV _ (fv 6) w1 := hp 6 (LC (by kernel_rfl))
     refine tyAt_none rfl ?_
     simp [tyUpon, execOp, go_sem, Act.eval, hc, h6, Below.refl]
    ·have h3 : EV _ (fv 3) w1 := hp 3 (LC (by kernel_rfl))
     have h5 : EV _ (fv 5) w1 := hp 5 (LC (by kernel_rfl))
     have h7 : EV _ (fv 7) w1 := hp 7 (LC (by kernel_rfl))
     refine tyAt_none rfl ?_
     refine ty_call (f := 69) (args := #[.int .i64 (an : Int), .int .i64 (bn : Int)]) (by simp [execOp, go_sem, Act.eval, h3, h5, h7]) ?_
     exact (HC1.out w1).mono fun e w2 ⟨h1, h2⟩ => ⟨_, h1, rfl, h2⟩
    ·have h2 : EV _ (fv 2) w1 := hp 2 (LC (by kernel_rfl))
     have h8 : EV _ (fv 8) w1 := hp 8 (LC (by kernel_rfl))
     refine tyAt_none rfl ?_
     refine ty_call (f := 24) (args := #[.agg #[.int .u64 ((zl q.num : Nat) : Int), .string (zh q.num), .bool (zs q.num), .int .u64 ((lo (fe q) : Nat) : Int), .string (hs (fe q))], .agg #[.int .u64 ((zl fv9.num : Nat) : Int), .string (zh fv9.num), .bool (zs fv9.num), .int .u64 ((lo (fe fv9) : Nat) : Int), .string (hs (fe fv9))]]) (by simp [execOp, go_sem, Act.eval, h2, h8]) ?_
     exact (HM1.out w1).mono fun e w2 ⟨h1, h2⟩ => ⟨_, h1, rfl, h2⟩
    ·have h9 : EV _ (fv 9) w1 := hp 9 (LC (by kernel_rfl))
     refine tyAt_none rfl ?_
     refine ty_val8 (u := .slice (some ⟨w1.heap.size, 0, none⟩) 1 1) (w' := w1.alloc (.cells #[.int .u64 ((zl r.num : Nat) : Int), .string (zh r.num), .bool (zs r.num), .int .u64 ((lo (fe r) : Nat) : Int), .string (hs (fe r))] 38)) (by simp [execOp, go_sem, Act.eval, h9]) ((Below.refl _ _).alloc (Nat.le_refl _) _) (news_mk (below_drew hb1).size)
   ·intro fv x61 hb1 hv
    have e0 : fv 0 = _ := hv 0 (by omega)
    have e1 : fv 1 = _ := hv 1 (by omega)
    have e2 : fv 2 = _ := hv 2 (by omega)
    have e3 : fv 3 = _ := hv 3 (by omega)
    have e4 : fv 4 = _ := hv 4 (by omega)
    have e5 : fv 5 = _ := hv 5 (by omega)
    have e6 : fv 6 = _ := hv 6 (by omega)
    have e7 : fv 7 = _ := hv 7 (by omega)
    have e8 : fv 8 = _ := hv 8 (by omega)
    have e9 : fv 9 = _ := hv 9 (by omega)
    have q10 : NewS ((y3.heap.size, [.int .u64 ((zl r.num : Nat) : Int), .string (zh r.num), .bool (zs r.num), .int .u64 ((lo (fe r) : Nat) : Int), .string (hs (fe r))], 1)) (fv 10) x61 := hv 10 (by omega)
    obtain ⟨g1, e10, ng1, mg1⟩ := news_parts q10
    rw [e10] at q10
    simp only [List.take_succ_cons, List.take_zero, putsV, Act.put, zP, List.drop_succ_cons, List.drop_zero, Nat.zero_add, Nat.reduceAdd, e0, e1, e2, e3, e4, e5, e6, e7, e8, e9, e10]
    replace hL0 := hL0.call (below_drew hb1)
    replace hS := hS.call (below_drew hb1)
    have hown7 := Lib.hid (own_below hown3.out (below_drew hb1))
    have hEw7 := Lib.hid (Nat.le_trans hEw3.out (below_drew hb1).size)
    have hBz7 := Lib.hid (hBz3.out.trans ((below_drew hb1).mono hBz3.out.size))
    clear e0 e1 e2 e3 e4 e5 e6 e7 e8 e9 e10 hb1 hv q10 fv
    have hH := Lib.hid mg1
    go_wp2_with (at_builtin; refine wp_appendF rfl _ _ rfl x1.heap.size _ _ _ rfl hown7.out _ r rfl hH.out (by omega) hEw7.out ?_)
    intro v' w8 hown8 hgrow
    rw [← htk.out] at hown8
    have hL8 := gl_grown (hL0.weak (List.Sublist.cons _ (List.Sublist.refl _))) hgrow (fun z hz => ⟨Nat.le_trans hwE.out (hown7.out.lt z hz).1, fun p hp => Nat.ne_of_lt (Nat.lt_of_lt_of_le (hbs.out p hp) (hown7.out.lt z hz).1)⟩)
    have hBz8 := Lib.hid (hBz7.out.grown hgrow hBz7.out.size (fun z hz => (hown7.out.lt z hz).1))
    replace hown8 := Lib.hid hown8
    clear hgrow hown7 hEw7 hL0 hH hBz7
    go_wp2_with fail
    go_roundg (n - (k + 1))
    case measure => omega
    case rel => exact ⟨k + 1, _, _, by omega, rfl, by first | rfl | go_num, by omega, hown8.out, hBz8.out, hL8⟩
  ·obtain rfl : k = n := by omega
   subst hzi
   have k1 : ¬ (k : Int) < (k : Int) := by omega
   have hvl : VL.length = k := by rw [hVL.out, List.length_map, hnl.out]
   have hsl := own_slq hown.out (by rw [List.length_take, hvl]; omega)
   rw [List.take_of_length_le (Nat.le_of_eq hvl)] at hsl
   replace hsl := Lib.hid hsl
   go_wp2_with fail
   with_reducible refine Calls.mono (HSm.out _ _ hsl.out) ?_
   rintro e y9 ⟨rfl, hb⟩
   replace hL0 := hL0.call hb
   clear hb
   have hA := hL0.fc
   simp only [zF, Nat.reduceAdd] at hA
   have hPt := hL0.put 0 b4 _ rfl [.int .u64 ((zl s.num : Nat) : Int), .string (zh s.num), .bool (zs s.num), .int .u64 ((lo (fe s) : Nat) : Int), .string (hs (fe s))] rfl
   simp only [setAll, List.set_cons_zero, List.set_cons_succ] at hPt
   generalize hput1 : (((((y9.setCell ⟨b4, 0, none⟩ (.int .u64 ((zl s.num : Nat) : Int))).setCell ⟨b4, 1, none⟩ (.string (zh s.num))).setCell ⟨b4, 2, none⟩ (.bool (zs s.num))).setCell ⟨b4, 3, none⟩ (.int .u64 ((lo (fe s) : Nat) : Int))).setCell ⟨b4, 4, none⟩ (.string (hs (fe s)))) = y10 at hPt
   have hB1 := hPt.fc
   simp only [zF, Nat.reduceAdd] at hB1
   go_wp2_with fail
   exact bodyPost_ret (v := fracV s) (by simp [results, Tryz.results39, go_sem, hB1]) rfl ⟨rfl, hPt.bl⟩
theorem pint_tri (P : TL) (Fv : Nat → Nat → Rat) (s : Rat) (ao : Option Addr) (n c : Nat) (hPl : P.length ≤ 10000)
  (HC : ∀ t ∈ P, ∀ w : World, Calls Tryz.prog 40 #[.int .i64 (t.1 : Int), .int .i64 (t.2.1 : Int)] w fun xe w' => xe = .returned (fracV (Fv t.1 t.2.1)) ∧ Below w.heap.size w w')
  (HM : ∀ t ∈ P, ∀ w : World, Calls Tryz.prog 24 #[fracV t.2.2, fracV (Fv t.1 t.2.1)] w fun xe w' => xe = .returned (fracV (t.2.2 * Fv t.1 t.2.1)) ∧ Below w.heap.size w w')
  (HSm : ∀ (v : Value) (w : World), SlQ w v (P.map fun t => t.2.2 * Fv t.1 t.2.1) → Calls Tryz.prog 14 #[v] w fun xe w' => xe = .returned (fracV s) ∧ Below w.heap.size w w')
  (w : World) (hq : PT w (.slice ao n c) (ofL P)) :
  Calls Tryz.prog 39 #[.slice ao n c, .func (.func 40) #[] #[]] w fun xe w' => xe = .returned (fracV s) ∧ Below w.heap.size w w' := by
 replace HC := Lib.hid HC
 replace HM := Lib.hid HM
 replace hPl := Lib.hid hPl
 obtain ⟨VL, hVL⟩ : ∃ VL, VL = P.map fun t => t.2.2 * Fv t.1 t.2.1 := ⟨_, rfl⟩
 rw [← hVL] at HSm
 replace hVL := Lib.hid hVL
 replace HSm := Lib.hid HSm
 have hpp := Lib.hid (pt_parts hq).2
 have hnl : n = P.length := by obtain ⟨_, _, _, e, h⟩ := pt_form hq; cases e; rw [h]; exact ofL_length P
 have hnb : n ≤ 10000 := by rw [hnl]; exact hPl.out
 replace hnl := Lib.hid hnl
 clear hq
 have hL0 : GL w w [] := GL.start w
 obtain ⟨x1, hweq, hL0⟩ := GL.named (hL0.new rfl [.int .u64 0, .string ⟨#[]⟩, .bool false, .int .u64 0, .string ⟨#[]⟩] 38)
 go_enter Tryz.func39, Tryz.ntmps39
 go_wp2_with fail
 clear hweq
 generalize hb4 : w.heap.size = b4 at hL0 ⊢
 replace hb4 := Lib.hid hb4
 have hbs : ∀ p ∈ ([(b4, [.int .u64 0, .string ⟨#[]⟩, .bool false, .int .u64 0, .string ⟨#[]⟩])] : List (Nat × List Value)), p.1 < x1.heap.size := fun p hp => (hL0.all p hp).2.lt
 have hwE : w.heap.size ≤ x1.heap.size := hL0.bl.size
 have hbz := Lib.hid hL0.bl
 replace hbs := Lib.hid hbs
 replace hwE := Lib.hid hwE
 go_loopg [5, 10] n (fun gk sv iv wr => ∃ (k : Nat) (zi : Int) (vs : Value), k + gk = n ∧ vs = sv ∧ iv = .int .i64 zi ∧ zi = (k : Int) ∧ OwnF wr x1.heap.size vs k (VL.take k) ∧ Below x1.heap.size x1 wr ∧ GL w wr [(b4, [.int .u64 0, .string ⟨#[]⟩, .bool false, .int .u64 0, .string ⟨#[]⟩])])
 case atStart => exact ⟨0, 0, _, Nat.zero_add n, rfl, by first | rfl | go_num, rfl, World.ownsRow_nil _ _ _ _, Below.refl _ _, hL0⟩
 case round =>
  clear hL0
  obtain ⟨k, zi, vs, hik, rfl, rfl, hzi, hown, hBz, hL0⟩ := hrel
  replace hBz := Lib.hid hBz
  replace hown := Lib.hid hown
  rcases Nat.lt_or_ge k n with hin | hin
  ·subst hzi
   have hkP : k < P.length := by rw [← hnl.out]; exact hin
   have hko : k < (ofL P).length := by rw [ofL_length]; exact hkP
   obtain ⟨g, rfl, hts⟩ := hpp.out (by omega)
   have hf := ((hts.below hbz.out).below hBz.out).cell k hko
   have k1 : (k : Int) < (n : Int) := by omega
   have k0 : (0 : Int) ≤ (k : Int) := Int.natCast_nonneg _
   obtain ⟨an, bn, q, hPk⟩ : ∃ a b q, P[k] = (a, b, q) := ⟨_, _, _, rfl⟩
   rw [ofL_get hkP hko hPk] at hf
   simp only at hf
   have hmem : (an, bn, q) ∈ P := by rw [← hPk]; exact List.getElem_mem hkP
   have hm1 := HC.out _ hmem
   have hm2 := HM.out _ hmem
   simp only at hm1 hm2
   obtain ⟨fv9, hfv⟩ : ∃ z, z = Fv an bn := ⟨_, rfl⟩
   rw [← hfv] at hm1 hm2
   obtain ⟨r, hr⟩ : ∃ r, r = q * fv9 := ⟨_, rfl⟩
   rw [← hr] at hm2
   have htk : VL.take (k + 1) = VL.take k ++ [r] := by
    rw [hVL.out, ← List.map_take, ← List.map_take, List.take_succ_eq_append_getElem hkP, List.map_append, hPk, hr, hfv]; rfl
   have HC1 := Lib.hid hm1
   have HM1 := Lib.hid hm2
   replace hfv := Lib.hid hfv
   replace hr := Lib.hid hr
   replace htk := Lib.hid htk
   replace hPk := Lib.hid hPk
   clear hts hm1 hm2
   obtain ⟨f0, f1, f2, f3, f4, f5, f6⟩ := hf
   replace hL0 := hL0.new rfl [.int .i64 (an : Int), .int .i64 (bn : Int), .int .u64 ((zl q.num : Nat) : Int), .string (zh q.num), .bool (zs q.num), .int .u64 ((lo (fe q) : Nat) : Int), .string (hs (fe q))] 80
   generalize hweq : wr.alloc (.cells #[.int .i64 (an : Int), .int .i64 (bn : Int), .int .u64 ((zl q.num : Nat) : Int), .string (zh q.num), .bool (zs q.num), .int .u64 ((lo (fe q) : Nat) : Int), .string (hs (fe q))] 80) = y3 at hL0
   have hb9 : Below wr.heap.size wr y3 := by rw [← hweq]; exact (Below.refl _ _).alloc (Nat.le_refl _) _
   have hown3 := Lib.hid (own_below hown.out hb9)
   have hBz3 := Lib.hid (hBz.out.trans (hb9.mono hBz.out.size))
   have hEw3 := Lib.hid (show x1.heap.size ≤ y3.heap.size from hBz3.out.size)
   clear hb9
   go_upto_region 5 with fail
   clear hweq f0 f1 f2 f3 f4 f5 f6 hown hBz
   generalize hb7 : wr.heap.size = b7 at hL0 ⊢
   replace hb7 := Lib.hid hb7
   have hS : SS y3 [] := SS.nil y3
   refine region_tl 11 [EV vs, EV (.pointer (some ⟨b7, 2, none⟩)), EV (.agg #[.int .u64 ((zl q.num : Nat) : Int), .string (zh q.num), .bool (zs q.num), .int .u64 ((lo (fe q) : Nat) : Int), .string (hs (fe q))]), EV (.func (.func 40) #[] #[]), EV (.pointer (some ⟨b7, 0, none⟩)), EV (.int .i64 (an : Int)), EV (.pointer (some ⟨b7, 1, none⟩)), EV (.int .i64 (bn : Int)), EV (.agg #[.int .u64 ((zl fv9.num : Nat) : Int), .string (zh fv9.num), .bool (zs fv9.num), .int .u64 ((lo (fe fv9) : Nat) : Int), .string (hs (fe fv9))]), EV (.agg #[.int .u64 ((zl r.num : Nat) : Int), .string (zh r.num), .bool (zs r.num), .int .u64 ((lo (fe r) : Nat) : Int), .string (hs (fe r))]), NewS (y3.heap.size, [.int .u64 ((zl r.num : Nat) : Int), .string (zh r.num), .bool (zs r.num), .int .u64 ((lo (fe r) : Nat) : Int), .string (hs (fe r))], 1)] (by kernel_rfl) (by kernel_rfl) ?_ ?_ ?_
   ·repeat' first | exact stays_nil | apply stays_cons | exact stays_eq _ | exact stays_news _
   ·simp only [List.take_succ_cons, List.take_zero, hopsR, and_true]
    refine ⟨?_, ?_, ?_, ?_, ?_, ?_, ?_, ?_, ?_, ?_, ?_⟩ <;> intro fv w1 hb1 hp
    all_goals (have hc := (hL0.call (below_drew hb1)).fc; simp only [zF, Nat.reduceAdd] at hc; simp only [putsV, Act.put, zP, Nat.zero_add, Nat.reduceAdd])
    ·refine tyAt_none rfl ?_
     simp [tyUpon, execOp, go_sem, Act.eval, Below.refl]
    ·refine tyAt_none rfl ?_
     simp [tyUpon, execOp, go_sem, Act.eval, Below.refl]
    ·have h1 : EV _ (fv 1) w1 := hp 1 (LC (by kernel_rfl))
     refine tyAt_none rfl ?_
     simp [tyUpon, execOp, go_sem, Act.eval, hc, h1, Below.refl]
    ·refine tyAt_none rfl ?_
     simp [tyUpon, execOp, go_sem, Act.eval, Below.refl]
    ·refine tyAt_none rfl ?_
     simp [tyUpon, execOp, go_sem, Act.eval, Below.refl]
    ·have h4 : EV _ (fv 4) w1 := hp 4 (LC (by kernel_rfl))
     refine tyAt_none rfl ?_
     simp [tyUpon, execOp, go_sem, Act.eval, hc, h4, Below.refl]
    ·refine tyAt_none rfl ?_
     simp [tyUpon, execOp, go_sem, Act.eval, Below.refl]
    ·have h6 : EV _ (fv 6) w1 := hp 6 (LC (by kernel_rfl))
     refine tyAt_none rfl ?_
     simp [tyUpon, execOp, go_sem, Act.eval, hc, h6, Below.refl]
    ·have h3 : EV _ (fv 3) w1 := hp 3 (LC (by kernel_rfl))
     have h5 : EV _ (fv 5) w1 := hp 5 (LC (by kernel_rfl))
     have h7 : EV _ (fv 7) w1 := hp 7 (LC (by kernel_rfl))
     refine tyAt_none rfl ?_
     refine ty_call (f := 40) (args := #[.int .i64 (an : Int), .int .i64 (bn : Int)]) (by simp [execOp, go_sem, Act.eval, h3, h5, h7]) ?_
     exact (HC1.out w1).mono fun e w2 ⟨h1, h2⟩ => ⟨_, h1, rfl, h2⟩
    ·have h2 : EV _ (fv 2) w1 := hp 2 (LC (by kernel_rfl))
     have h8 : EV _ (fv 8) w1 := hp 8 (LC (by kernel_rfl))
     refine tyAt_none rfl ?_
     refine ty_call (f := 24) (args := #[.agg #[.int .u64 ((zl q.num : Nat) : Int), .string (zh q.num), .bool (zs q.num), .int .u64 ((lo (fe q) : Nat) : Int), .string (hs (fe q))], .agg #[.int .u64 ((zl fv9.num : Nat) : Int), .string (zh fv9.num), .bool (zs fv9.num), .int .u64 ((lo (fe fv9) : Nat) : Int), .string (hs (fe fv9))]]) (by simp [execOp, go_sem, Act.eval, h2, h8]) ?_
     exact (HM1.out w1).mono fun e w2 ⟨h1, h2⟩ => ⟨_, h1, rfl, h2⟩
    ·have h9 : EV _ (fv 9) w1 := hp 9 (LC (by kernel_rfl))
     refine tyAt_none rfl ?_
     refine ty_val8 (u := .slice (some ⟨w1.heap.size, 0, none⟩) 1 1) (w' := w1.alloc (.cells #[.int .u64 ((zl r.num : Nat) : Int), .string (zh r.num), .bool (zs r.num), .int .u64 ((lo (fe r) : Nat) : Int), .string (hs (fe r))] 38)) (by simp [execOp, go_sem, Act.eval, h9]) ((Below.refl _ _).alloc (Nat.le_refl _) _) (news_mk (below_drew hb1).size)
   ·intro fv x61 hb1 hv
    have e0 : fv 0 = _ := hv 0 (by omega)
    have e1 : fv 1 = _ := hv 1 (by omega)
    have e2 : fv 2 = _ := hv 2 (by omega)
    have e3 : fv 3 = _ := hv 3 (by omega)
    have e4 : fv 4 = _ := hv 4 (by omega)
    have e5 : fv 5 = _ := hv 5 (by omega)
    have e6 : fv 6 = _ := hv 6 (by omega)
    have e7 : fv 7 = _ := hv 7 (by omega)
    have e8 : fv 8 = _ := hv 8 (by omega)
    have e9 : fv 9 = _ := hv 9 (by omega)
    have q10 : NewS ((y3.heap.size, [.int .u64 ((zl r.num : Nat) : Int), .string (zh r.num), .bool (zs r.num), .int .u64 ((lo (fe r) : Nat) : Int), .string (hs (fe r))], 1)) (fv 10) x61 := hv 10 (by omega)
    obtain ⟨g1, e10, ng1, mg1⟩ := news_parts q10
    rw [e10] at q10
    simp only [List.take_succ_cons, List.take_zero, putsV, Act.put, zP, List.drop_succ_cons, List.drop_zero, Nat.zero_add, Nat.reduceAdd, e0, e1, e2, e3, e4, e5, e6, e7, e8, e9, e10]
    replace hL0 := hL0.call (below_drew hb1)
    replace hS := hS.call (below_drew hb1)
    have hown7 := Lib.hid (own_below hown3.out (below_drew hb1))
    have hEw7 := Lib.hid (Nat.le_trans hEw3.out (below_drew hb1).size)
    have hBz7 := Lib.hid (hBz3.out.trans ((below_drew hb1).mono hBz3.out.size))
    clear e0 e1 e2 e3 e4 e5 e6 e7 e8 e9 e10 hb1 hv q10 fv
    have hH := Lib.hid mg1
    go_wp2_with (at_builtin; refine wp_appendF rfl _ _ rfl x1.heap.size _ _ _ rfl hown7.out _ r rfl hH.out (by omega) hEw7.out ?_)
    intro v' w8 hown8 hgrow
    rw [← htk.out] at hown8
    have hL8 := gl_grown (hL0.weak (List.Sublist.cons _ (List.Sublist.refl _))) hgrow (fun z hz => ⟨Nat.le_trans hwE.out (hown7.out.lt z hz).1, fun p hp => Nat.ne_of_lt (Nat.lt_of_lt_of_le (hbs.out p hp) (hown7.out.lt z hz).1)⟩)
    have hBz8 := Lib.hid (hBz7.out.grown hgrow hBz7.out.size (fun z hz => (hown7.out.lt z hz).1))
    replace hown8 := Lib.hid hown8
    clear hgrow hown7 hEw7 hL0 hH hBz7
    go_wp2_with fail
    go_roundg (n - (k + 1))
    case measure => omega
    case rel => exact ⟨k + 1, _, _, by omega, rfl, by first | rfl | go_num, by omega, hown8.out, hBz8.out, hL8⟩
  ·obtain rfl : k = n := by omega
   subst hzi
   have k1 : ¬ (k : Int) < (k : Int) := by omega
   have hvl : VL.length = k := by rw [hVL.out, List.length_map, hnl.out]
   have hsl := own_slq hown.out (by rw [List.length_take, hvl]; omega)
   rw [List.take_of_length_le (Nat.le_of_eq hvl)] at hsl
   replace hsl := Lib.hid hsl
   go_wp2_with fail
   with_reducible refine Calls.mono (HSm.out _ _ hsl.out) ?_
   rintro e y9 ⟨rfl, hb⟩
   replace hL0 := hL0.call hb
   clear hb
   have hA := hL0.fc
   simp only [zF, Nat.reduceAdd] at hA
   have hPt := hL0.put 0 b4 _ rfl [.int .u64 ((zl s.num : Nat) : Int), .string (zh s.num), .bool (zs s.num), .int .u64 ((lo (fe s) : Nat) : Int), .string (hs (fe s))] rfl
   simp only [setAll, List.set_cons_zero, List.set_cons_succ] at hPt
   generalize hput1 : (((((y9.setCell ⟨b4, 0, none⟩ (.int .u64 ((zl s.num : Nat) : Int))).setCell ⟨b4, 1, none⟩ (.string (zh s.num))).setCell ⟨b4, 2, none⟩ (.bool (zs s.num))).setCell ⟨b4, 3, none⟩ (.int .u64 ((lo (fe s) : Nat) : Int))).setCell ⟨b4, 4, none⟩ (.string (hs (fe s)))) = y10 at hPt
   have hB1 := hPt.fc
   simp only [zF, Nat.reduceAdd] at hB1
   go_wp2_with fail
   exact bodyPost_ret (v := fracV s) (by simp [results, Tryz.results39, go_sem, hB1]) rfl ⟨rfl, hPt.bl⟩
end Go.Proofs.YtkdbhacimoaohaaGreatDoor
namespace Go.Proofs.YtkdbhacimoaohaaGreatDoor
open Go.RowKit
attribute [local irreducible] lo hs sm s64 c64 d64 b64 mh ml pd pc qd qc val hiB str cmpI srD lz nb zl zh zs fe klT ordZ
theorem seg9_w (pa ps : List TI) (px py qx qy ux uy zr sv : Rat) (W1 : ∀ w, Calls Tryz.prog 38 #[.agg #[.int .u64 ((zl px.num : Nat) : Int), .string (zh px.num), .bool (zs px.num), .int .u64 ((lo (fe px) : Nat) : Int), .string (hs (fe px)), .int .u64 ((zl py.num : Nat) : Int), .string (zh py.num), .bool (zs py.num), .int .u64 ((lo (fe py) : Nat) : Int), .string (hs (fe py))], .agg #[.int .u64 ((zl qx.num : Nat) : Int), .string (zh qx.num), .bool (zs qx.num), .int .u64 ((lo (fe qx) : Nat) : Int), .string (hs (fe qx)), .int .u64 ((zl qy.num : Nat) : Int), .string (zh qy.num), .bool (zs qy.num), .int .u64 ((lo (fe qy) : Nat) : Int), .string (hs (fe qy))]] w fun xe w' => xe = .returned (.agg #[.int .u64 ((zl ux.num : Nat) : Int), .string (zh ux.num), .bool (zs ux.num), .int .u64 ((lo (fe ux) : Nat) : Int), .string (hs (fe ux)), .int .u64 ((zl uy.num : Nat) : Int), .string (zh uy.num), .bool (zs uy.num), .int .u64 ((lo (fe uy) : Nat) : Int), .string (hs (fe uy))]) ∧ Below w.heap.size w w') (I0 : ∀ w, Calls Tryz.prog 20 #[.int .i64 0] w fun xe w' => xe = .returned (fracV zr) ∧ Below w.heap.size w w') (Sh : ∀ (p0 : Value) (w : World), PT w p0 pa → Calls Tryz.prog 22 #[p0, fracV ux, fracV zr, fracV px, fracV uy, fracV zr, fracV py] w fun e w' => ∃ pv, e = .returned pv ∧ PT w' pv ps ∧ Below w.heap.size w w') (HI : ∀ (p0 : Value) (w : World), PT w p0 ps → Calls Tryz.prog 39 #[p0, .func (.func 69) #[] #[]] w fun e w' => e = .returned (fracV sv) ∧ Below w.heap.size w w') (p0 : Value) (w : World) (r0 : PT w p0 pa) :
  Calls Tryz.prog 27 #[p0, .agg #[.int .u64 ((zl px.num : Nat) : Int), .string (zh px.num), .bool (zs px.num), .int .u64 ((lo (fe px) : Nat) : Int), .string (hs (fe px)), .int .u64 ((zl py.num : Nat) : Int), .string (zh py.num), .bool (zs py.num), .int .u64 ((lo (fe py) : Nat) : Int), .string (hs (fe py))], .agg #[.int .u64 ((zl qx.num : Nat) : Int), .string (zh qx.num), .bool (zs qx.num), .int .u64 ((lo (fe qx) : Nat) : Int), .string (hs (fe qx)), .int .u64 ((zl qy.num : Nat) : Int), .string (zh qy.num), .bool (zs qy.num), .int .u64 ((lo (fe qy) : Nat) : Int), .string (hs (fe qy))]] w fun e w' => e = .returned (fracV sv) ∧ Below w.heap.size w w' := by
 obtain ⟨a0, n0, c0, rfl, -⟩ := pt_form r0
 have f0 := Lib.hid r0
 clear r0
 replace W1 := Lib.hid W1
 replace I0 := Lib.hid I0
 replace Sh := Lib.hid Sh
 replace HI := Lib.hid HI
 have hL0 : GL w w [] := GL.start w
 have hT : PTs w [] := PTs.nil w
 replace hT := (((hT.new (.cells #[.int .u64 ((zl px.num : Nat) : Int), .string (zh px.num), .bool (zs px.num), .int .u64 ((lo (fe px) : Nat) : Int), .string (hs (fe px)), .int .u64 ((zl py.num : Nat) : Int), .string (zh py.num), .bool (zs py.num), .int .u64 ((lo (fe py) : Nat) : Int), .string (hs (fe py))] 39)).new (.cells #[.int .u64 ((zl qx.num : Nat) : Int), .string (zh qx.num), .bool (zs qx.num), .int .u64 ((lo (fe qx) : Nat) : Int), .string (hs (fe qx)), .int .u64 ((zl qy.num : Nat) : Int), .string (zh qy.num), .bool (zs qy.num), .int .u64 ((lo (fe qy) : Nat) : Int), .string (hs (fe qy))] 39)).new (.cells #[.int .u64 0, .string ⟨#[]⟩, .bool false, .int .u64 0, .string ⟨#[]⟩] 38))
 replace hL0 := (((hL0.new rfl [.int .u64 ((zl px.num : Nat) : Int), .string (zh px.num), .bool (zs px.num), .int .u64 ((lo (fe px) : Nat) : Int), .string (hs (fe px)), .int .u64 ((zl py.num : Nat) : Int), .string (zh py.num), .bool (zs py.num), .int .u64 ((lo (fe py) : Nat) : Int), .string (hs (fe py))] 39).new (K := w.heap.size + 1) (szA _ _) [.int .u64 ((zl qx.num : Nat) : Int), .string (zh qx.num), .bool (zs qx.num), .int .u64 ((lo (fe qx) : Nat) : Int), .string (hs (fe qx)), .int .u64 ((zl qy.num : Nat) : Int), .string (zh qy.num), .bool (zs qy.num), .int .u64 ((lo (fe qy) : Nat) : Int), .string (hs (fe qy))] 39).new (K := w.heap.size + 1 + 1) (by simp only [World.size_alloc]) [.int .u64 0, .string ⟨#[]⟩, .bool false, .int .u64 0, .string ⟨#[]⟩] 38)
 generalize hweq : (((w.alloc (.cells #[.int .u64 ((zl px.num : Nat) : Int), .string (zh px.num), .bool (zs px.num), .int .u64 ((lo (fe px) : Nat) : Int), .string (hs (fe px)), .int .u64 ((zl py.num : Nat) : Int), .string (zh py.num), .bool (zs py.num), .int .u64 ((lo (fe py) : Nat) : Int), .string (hs (fe py))] 39)).alloc (.cells #[.int .u64 ((zl qx.num : Nat) : Int), .string (zh qx.num), .bool (zs qx.num), .int .u64 ((lo (fe qx) : Nat) : Int), .string (hs (fe qx)), .int .u64 ((zl qy.num : Nat) : Int), .string (zh qy.num), .bool (zs qy.num), .int .u64 ((lo (fe qy) : Nat) : Int), .string (hs (fe qy))] 39)).alloc (.cells #[.int .u64 0, .string ⟨#[]⟩, .bool false, .int .u64 0, .string ⟨#[]⟩] 38)) = x1 at hL0 hT
 go_enter Tryz.func27, Tryz.ntmps27
 have hN0 := cells_of _ 0 [] rfl (hL0.get _ _ (mK mZ))
 simp only [zF, Nat.reduceAdd] at hN0
 have hN1 := cells_of _ 0 [] rfl (hL0.get _ _ (mK (mK mZ)))
 simp only [zF, Nat.reduceAdd] at hN1
 go_wp2_with fail
 clear hN0 hN1
 with_reducible refine Calls.mono (W1.out _) ?_
 rintro e x2 ⟨rfl, hb⟩
 replace hL0 := hL0.call hb
 replace hT := hT.call hb
 clear hb hweq
 go_wp2_with fail
 with_reducible refine Calls.mono (I0.out _) ?_
 rintro e x3 ⟨rfl, hb⟩
 replace hL0 := hL0.call hb
 replace hT := hT.call hb
 clear hb
 replace hT := ((hT.new (.cells #[.int .u64 ((zl ux.num : Nat) : Int), .string (zh ux.num), .bool (zs ux.num), .int .u64 ((lo (fe ux) : Nat) : Int), .string (hs (fe ux)), .int .u64 ((zl uy.num : Nat) : Int), .string (zh uy.num), .bool (zs uy.num), .int .u64 ((lo (fe uy) : Nat) : Int), .string (hs (fe uy))] 39)).new (.cells #[.int .u64 ((zl zr.num : Nat) : Int), .string (zh zr.num), .bool (zs zr.num), .int .u64 ((lo (fe zr) : Nat) : Int), .string (hs (fe zr))] 38))
 replace hL0 := ((hL0.new rfl [.int .u64 ((zl ux.num : Nat) : Int), .string (zh ux.num), .bool (zs ux.num), .int .u64 ((lo (fe ux) : Nat) : Int), .string (hs (fe ux)), .int .u64 ((zl uy.num : Nat) : Int), .string (zh uy.num), .bool (zs uy.num), .int .u64 ((lo (fe uy) : Nat) : Int), .string (hs (fe uy))] 39).new (K := x3.heap.size + 1) (szA _ _) [.int .u64 ((zl zr.num : Nat) : Int), .string (zh zr.num), .bool (zs zr.num), .int .u64 ((lo (fe zr) : Nat) : Int), .string (hs (fe zr))] 38)
 generalize hweq : ((x3.alloc (.cells #[.int .u64 ((zl ux.num : Nat) : Int), .string (zh ux.num), .bool (zs ux.num), .int .u64 ((lo (fe ux) : Nat) : Int), .string (hs (fe ux)), .int .u64 ((zl uy.num : Nat) : Int), .string (zh uy.num), .bool (zs uy.num), .int .u64 ((lo (fe uy) : Nat) : Int), .string (hs (fe uy))] 39)).alloc (.cells #[.int .u64 ((zl zr.num : Nat) : Int), .string (zh zr.num), .bool (zs zr.num), .int .u64 ((lo (fe zr) : Nat) : Int), .string (hs (fe zr))] 38)) = x4 at hL0 hT
 have hN0 := cells_of _ 0 [] rfl (hL0.get _ _ mZ)
 simp only [zF, Nat.reduceAdd] at hN0
 have hN1 := cells_of _ 0 [] rfl (hL0.get _ _ (mK mZ))
 simp only [zF, Nat.reduceAdd] at hN1
 have hN2 := cells_of _ 0 [] rfl (hL0.get _ _ (mK (mK (mK (mK mZ)))))
 simp only [zF, Nat.reduceAdd] at hN2
 go_wp2_with fail
 clear hN0 hN1 hN2
 with_reducible refine Calls.mono (Sh.out (.slice a0 n0 c0) _ (PT.below f0.out hL0.bl)) ?_
 rintro e x5 ⟨v0, rfl, q0, hb⟩
 replace hL0 := hL0.call hb
 replace hT := hT.call hb
 clear hb hweq
 obtain ⟨g1, d1, g1c, rfl, -⟩ := pt_form q0
 replace hT := hT.cons q0
 clear q0
 go_wp2_with fail
 with_reducible refine Calls.mono (HI.out (.slice g1 d1 g1c) _ (hT.get mZ)) ?_
 rintro e x6 ⟨rfl, hb⟩
 replace hL0 := hL0.call hb
 replace hT := hT.call hb
 clear hb
 have hT1 := hT.put ((((((Upd.refl (w.heap.size + 1 + 1) x6).setCell 0 (.int .u64 ((zl sv.num : Nat) : Int))).setCell 1 (.string (zh sv.num))).setCell 2 (.bool (zs sv.num))).setCell 3 (.int .u64 ((lo (fe sv) : Nat) : Int))).setCell 4 (.string (hs (fe sv)))) (hL0.get _ _ (mK (mK mZ))) (by intro v hv n; simp only [List.mem_cons, List.not_mem_nil, or_false] at hv; rcases hv with rfl | rfl | rfl | rfl | rfl <;> simp)
 have hA := hL0.fc
 simp only [zF, Nat.reduceAdd] at hA
 have hP := hL0.put 2 (w.heap.size + 1 + 1) _ rfl [.int .u64 ((zl sv.num : Nat) : Int), .string (zh sv.num), .bool (zs sv.num), .int .u64 ((lo (fe sv) : Nat) : Int), .string (hs (fe sv))] rfl
 simp only [setAll, List.set_cons_zero, List.set_cons_succ] at hP
 generalize hput1 : (((((x6.setCell ⟨w.heap.size + 1 + 1, 0, none⟩ (.int .u64 ((zl sv.num : Nat) : Int))).setCell ⟨w.heap.size + 1 + 1, 1, none⟩ (.string (zh sv.num))).setCell ⟨w.heap.size + 1 + 1, 2, none⟩ (.bool (zs sv.num))).setCell ⟨w.heap.size + 1 + 1, 3, none⟩ (.int .u64 ((lo (fe sv) : Nat) : Int))).setCell ⟨w.heap.size + 1 + 1, 4, none⟩ (.string (hs (fe sv)))) = x7 at hP hT1
 have hB1 := hP.fc
 simp only [zF, Nat.reduceAdd] at hB1
 replace hL0 := hP
 replace hT := hT1
 clear hT1
 go_wp2_with fail
 exact bodyPost_ret (v := .agg #[.int .u64 ((zl sv.num : Nat) : Int), .string (zh sv.num), .bool (zs sv.num), .int .u64 ((lo (fe sv) : Nat) : Int), .string (hs (fe sv))]) (by simp [results, Tryz.results27, go_sem, hB1]) rfl ⟨rfl, hL0.bl⟩
theorem tri9_w (pa ps : List TI) (px py qx qy rx ry ux uy vx vy ar sv tv : Rat) (W1 : ∀ w, Calls Tryz.prog 38 #[.agg #[.int .u64 ((zl px.num : Nat) : Int), .string (zh px.num), .bool (zs px.num), .int .u64 ((lo (fe px) : Nat) : Int), .string (hs (fe px)), .int .u64 ((zl py.num : Nat) : Int), .string (zh py.num), .bool (zs py.num), .int .u64 ((lo (fe py) : Nat) : Int), .string (hs (fe py))], .agg #[.int .u64 ((zl qx.num : Nat) : Int), .string (zh qx.num), .bool (zs qx.num), .int .u64 ((lo (fe qx) : Nat) : Int), .string (hs (fe qx)), .int .u64 ((zl qy.num : Nat) : Int), .string (zh qy.num), .bool (zs qy.num), .int .u64 ((lo (fe qy) : Nat) : Int), .string (hs (fe qy))]] w fun xe w' => xe = .returned (.agg #[.int .u64 ((zl ux.num : Nat) : Int), .string (zh ux.num), .bool (zs ux.num), .int .u64 ((lo (fe ux) : Nat) : Int), .string (hs (fe ux)), .int .u64 ((zl uy.num : Nat) : Int), .string (zh uy.num), .bool (zs uy.num), .int .u64 ((lo (fe uy) : Nat) : Int), .string (hs (fe uy))]) ∧ Below w.heap.size w w') (W2 : ∀ w, Calls Tryz.prog 38 #[.agg #[.int .u64 ((zl px.num : Nat) : Int), .string (zh px.num), .bool (zs px.num), .int .u64 ((lo (fe px) : Nat) : Int), .string (hs (fe px)), .int .u64 ((zl py.num : Nat) : Int), .string (zh py.num), .bool (zs py.num), .int .u64 ((lo (fe py) : Nat) : Int), .string (hs (fe py))], .agg #[.int .u64 ((zl rx.num : Nat) : Int), .string (zh rx.num), .bool (zs rx.num), .int .u64 ((lo (fe rx) : Nat) : Int), .string (hs (fe rx)), .int .u64 ((zl ry.num : Nat) : Int), .string (zh ry.num), .bool (zs ry.num), .int .u64 ((lo (fe ry) : Nat) : Int), .string (hs (fe ry))]] w fun xe w' => xe = .returned (.agg #[.int .u64 ((zl vx.num : Nat) : Int), .string (zh vx.num), .bool (zs vx.num), .int .u64 ((lo (fe vx) : Nat) : Int), .string (hs (fe vx)), .int .u64 ((zl vy.num : Nat) : Int), .string (zh vy.num), .bool (zs vy.num), .int .u64 ((lo (fe vy) : Nat) : Int), .string (hs (fe vy))]) ∧ Below w.heap.size w w') (Sh : ∀ (p0 : Value) (w : World), PT w p0 pa → Calls Tryz.prog 22 #[p0, fracV ux, fracV vx, fracV px, fracV uy, fracV vy, fracV py] w fun e w' => ∃ pv, e = .returned pv ∧ PT w' pv ps ∧ Below w.heap.size w w') (HA : ∀ w, Calls Tryz.prog 18 #[.agg #[.int .u64 ((zl px.num : Nat) : Int), .string (zh px.num), .bool (zs px.num), .int .u64 ((lo (fe px) : Nat) : Int), .string (hs (fe px)), .int .u64 ((zl py.num : Nat) : Int), .string (zh py.num), .bool (zs py.num), .int .u64 ((lo (fe py) : Nat) : Int), .string (hs (fe py))], .agg #[.int .u64 ((zl qx.num : Nat) : Int), .string (zh qx.num), .bool (zs qx.num), .int .u64 ((lo (fe qx) : Nat) : Int), .string (hs (fe qx)), .int .u64 ((zl qy.num : Nat) : Int), .string (zh qy.num), .bool (zs qy.num), .int .u64 ((lo (fe qy) : Nat) : Int), .string (hs (fe qy))], .agg #[.int .u64 ((zl rx.num : Nat) : Int), .string (zh rx.num), .bool (zs rx.num), .int .u64 ((lo (fe rx) : Nat) : Int), .string (hs (fe rx)), .int .u64 ((zl ry.num : Nat) : Int), .string (zh ry.num), .bool (zs ry.num), .int .u64 ((lo (fe ry) : Nat) : Int), .string (hs (fe ry))]] w fun xe w' => xe = .returned (fracV ar) ∧ Below w.heap.size w w') (HI : ∀ (p0 : Value) (w : World), PT w p0 ps → Calls Tryz.prog 39 #[p0, .func (.func 40) #[] #[]] w fun e w' => e = .returned (fracV sv) ∧ Below w.heap.size w w') (HM : ∀ w, Calls Tryz.prog 24 #[fracV ar, fracV sv] w fun xe w' => xe = .returned (fracV tv) ∧ Below w.heap.size w w') (p0 : Value) (w : World) (r0 : PT w p0 pa) :
  Calls Tryz.prog 10 #[p0, .agg #[.int .u64 ((zl px.num : Nat) : Int), .string (zh px.num), .bool (zs px.num), .int .u64 ((lo (fe px) : Nat) : Int), .string (hs (fe px)), .int .u64 ((zl py.num : Nat) : Int), .string (zh py.num), .bool (zs py.num), .int .u64 ((lo (fe py) : Nat) : Int), .string (hs (fe py))], .agg #[.int .u64 ((zl qx.num : Nat) : Int), .string (zh qx.num), .bool (zs qx.num), .int .u64 ((lo (fe qx) : Nat) : Int), .string (hs (fe qx)), .int .u64 ((zl qy.num : Nat) : Int), .string (zh qy.num), .bool (zs qy.num), .int .u64 ((lo (fe qy) : Nat) : Int), .string (hs (fe qy))], .agg #[.int .u64 ((zl rx.num : Nat) : Int), .string (zh rx.num), .bool (zs rx.num), .int .u64 ((lo (fe rx) : Nat) : Int), .string (hs (fe rx)), .int .u64 ((zl ry.num : Nat) : Int), .string (zh ry.num), .bool (zs ry.num), .int .u64 ((lo (fe ry) : Nat) : Int), .string (hs (fe ry))]] w fun e w' => e = .returned (fracV tv) ∧ Below w.heap.size w w' := by
 obtain ⟨a0, n0, c0, rfl, -⟩ := pt_form r0
 have f0 := Lib.hid r0
 clear r0
 replace W1 := Lib.hid W1
 replace W2 := Lib.hid W2
 replace Sh := Lib.hid Sh
 replace HA := Lib.hid HA
 replace HI := Lib.hid HI
 replace HM := Lib.hid HM
 have hL0 : GL w w [] := GL.start w
 have hT : PTs w [] := PTs.nil w
 replace hT := ((((hT.new (.cells #[.int .u64 ((zl px.num : Nat) : Int), .string (zh px.num), .bool (zs px.num), .int .u64 ((lo (fe px) : Nat) : Int), .string (hs (fe px)), .int .u64 ((zl py.num : Nat) : Int), .string (zh py.num), .bool (zs py.num), .int .u64 ((lo (fe py) : Nat) : Int), .string (hs (fe py))] 39)).new (.cells #[.int .u64 ((zl qx.num : Nat) : Int), .string (zh qx.num), .bool (zs qx.num), .int .u64 ((lo (fe qx) : Nat) : Int), .string (hs (fe qx)), .int .u64 ((zl qy.num : Nat) : Int), .string (zh qy.num), .bool (zs qy.num), .int .u64 ((lo (fe qy) : Nat) : Int), .string (hs (fe qy))] 39)).new (.cells #[.int .u64 ((zl rx.num : Nat) : Int), .string (zh rx.num), .bool (zs rx.num), .int .u64 ((lo (fe rx) : Nat) : Int), .string (hs (fe rx)), .int .u64 ((zl ry.num : Nat) : Int), .string (zh ry.num), .bool (zs ry.num), .int .u64 ((lo (fe ry) : Nat) : Int), .string (hs (fe ry))] 39)).new (.cells #[.int .u64 0, .string ⟨#[]⟩, .bool false, .int .u64 0, .string ⟨#[]⟩] 38))
 replace hL0 := ((((hL0.new rfl [.int .u64 ((zl px.num : Nat) : Int), .string (zh px.num), .bool (zs px.num), .int .u64 ((lo (fe px) : Nat) : Int), .string (hs (fe px)), .int .u64 ((zl py.num : Nat) : Int), .string (zh py.num), .bool (zs py.num), .int .u64 ((lo (fe py) : Nat) : Int), .string (hs (fe py))] 39).new (K := w.heap.size + 1) (szA _ _) [.int .u64 ((zl qx.num : Nat) : Int), .string (zh qx.num), .bool (zs qx.num), .int .u64 ((lo (fe qx) : Nat) : Int), .string (hs (fe qx)), .int .u64 ((zl qy.num : Nat) : Int), .string (zh qy.num), .bool (zs qy.num), .int .u64 ((lo (fe qy) : Nat) : Int), .string (hs (fe qy))] 39).new (K := w.heap.size + 1 + 1) (by simp only [World.size_alloc]) [.int .u64 ((zl rx.num : Nat) : Int), .string (zh rx.num), .bool (zs rx.num), .int .u64 ((lo (fe rx) : Nat) : Int), .string (hs (fe rx)), .int .u64 ((zl ry.num : Nat) : Int), .string (zh ry.num), .bool (zs ry.num), .int .u64 ((lo (fe ry) : Nat) : Int), .string (hs (fe ry))] 39).new (K := w.heap.size + 1 + 1 + 1) (by simp only [World.size_alloc]) [.int .u64 0, .string ⟨#[]⟩, .bool false, .int .u64 0, .string ⟨#[]⟩] 38)
 generalize hweq : ((((w.alloc (.cells #[.int .u64 ((zl px.num : Nat) : Int), .string (zh px.num), .bool (zs px.num), .int .u64 ((lo (fe px) : Nat) : Int), .string (hs (fe px)), .int .u64 ((zl py.num : Nat) : Int), .string (zh py.num), .bool (zs py.num), .int .u64 ((lo (fe py) : Nat) : Int), .string (hs (fe py))] 39)).alloc (.cells #[.int .u64 ((zl qx.num : Nat) : Int), .string (zh qx.num), .bool (zs qx.num), .int .u64 ((lo (fe qx) : Nat) : Int), .string (hs (fe qx)), .int .u64 ((zl qy.num : Nat) : Int), .string (zh qy.num), .bool (zs qy.num), .int .u64 ((lo (fe qy) : Nat) : Int), .string (hs (fe qy))] 39)).alloc (.cells #[.int .u64 ((zl rx.num : Nat) : Int), .string (zh rx.num), .bool (zs rx.num), .int .u64 ((lo (fe rx) : Nat) : Int), .string (hs (fe rx)), .int .u64 ((zl ry.num : Nat) : Int), .string (zh ry.num), .bool (zs ry.num), .int .u64 ((lo (fe ry) : Nat) : Int), .string (hs (fe ry))] 39)).alloc (.cells #[.int .u64 0, .string ⟨#[]⟩, .bool false, .int .u64 0, .string ⟨#[]⟩] 38)) = x1 at hL0 hT
 go_enter Tryz.func10, Tryz.ntmps10
 go_upto_region 1 with fail
 clear hweq
 refine region_gh (by kernel_rfl) (by kernel_rfl) ?_
 refine lex_seg (gl := []) 6 (by kernel_rfl) ?_
 intro α iα F hF1 hF2
 have hq := GL.seg hF1 hL0
 simp only [zC, Nat.reduceAdd] at hq
 simp only [zT]
 repeat (go_big_quiet_step (first | fail | (go_at_call 38; with_reducible exact seg_call hF2 W1.out _) | (go_at_call 38; with_reducible exact seg_call hF2 W2.out _)))
 refine wpQuiet_nil ?_
 clear hq hF1 hF2 iα F α
 refine lex_new [.int .u64 0, .string ⟨#[]⟩, .bool false, .int .u64 0, .string ⟨#[]⟩, .int .u64 0, .string ⟨#[]⟩, .bool false, .int .u64 0, .string ⟨#[]⟩] 9 39 39 rfl rfl (of_decide_eq_true (by kernel_rfl)) (by kernel_rfl) rfl new_pt9 ?_
 simp only [Act.put, zP]
 refine lex_new [.int .u64 0, .string ⟨#[]⟩, .bool false, .int .u64 0, .string ⟨#[]⟩, .int .u64 0, .string ⟨#[]⟩, .bool false, .int .u64 0, .string ⟨#[]⟩] 10 39 39 rfl rfl (of_decide_eq_true (by kernel_rfl)) (by kernel_rfl) rfl new_pt9 ?_
 simp only [Act.put, zP]
 refine lex_put [.int .u64 ((zl ux.num : Nat) : Int), .string (zh ux.num), .bool (zs ux.num), .int .u64 ((lo (fe ux) : Nat) : Int), .string (hs (fe ux)), .int .u64 ((zl uy.num : Nat) : Int), .string (zh uy.num), .bool (zs uy.num), .int .u64 ((lo (fe uy) : Nat) : Int), .string (hs (fe uy))] [.int .u64 0, .string ⟨#[]⟩, .bool false, .int .u64 0, .string ⟨#[]⟩, .int .u64 0, .string ⟨#[]⟩, .bool false, .int .u64 0, .string ⟨#[]⟩] 9 39 (.tmp 13) rfl (by kernel_rfl) (by simp [toG, upd]) rfl (fun w k h => put_pt9 _ _ _ _ _ _ _ _ _ _ _ _ _ _ _ _ _ _ _ _ w k h) ?_
 simp only [Act.put]
 refine lex_put [.int .u64 ((zl vx.num : Nat) : Int), .string (zh vx.num), .bool (zs vx.num), .int .u64 ((lo (fe vx) : Nat) : Int), .string (hs (fe vx)), .int .u64 ((zl vy.num : Nat) : Int), .string (zh vy.num), .bool (zs vy.num), .int .u64 ((lo (fe vy) : Nat) : Int), .string (hs (fe vy))] [.int .u64 0, .string ⟨#[]⟩, .bool false, .int .u64 0, .string ⟨#[]⟩, .int .u64 0, .string ⟨#[]⟩, .bool false, .int .u64 0, .string ⟨#[]⟩] 10 39 (.tmp 16) rfl (by kernel_rfl) (by simp [toG, upd]) rfl (fun w k h => put_pt9 _ _ _ _ _ _ _ _ _ _ _ _ _ _ _ _ _ _ _ _ w k h) ?_
 simp only [Act.put]
 refine lexG_nil ?_
 intro κ x2 hSim
 replace hL0 := hL0.ghs hSim [(10, [.int .u64 ((zl vx.num : Nat) : Int), .string (zh vx.num), .bool (zs vx.num), .int .u64 ((lo (fe vx) : Nat) : Int), .string (hs (fe vx)), .int .u64 ((zl vy.num : Nat) : Int), .string (zh vy.num), .bool (zs vy.num), .int .u64 ((lo (fe vy) : Nat) : Int), .string (hs (fe vy))]), (9, [.int .u64 ((zl ux.num : Nat) : Int), .string (zh ux.num), .bool (zs ux.num), .int .u64 ((lo (fe ux) : Nat) : Int), .string (hs (fe ux)), .int .u64 ((zl uy.num : Nat) : Int), .string (zh uy.num), .bool (zs uy.num), .int .u64 ((lo (fe uy) : Nat) : Int), .string (hs (fe uy))])] (by simp) (by intro p hp; simp only [List.mem_cons, List.not_mem_nil, or_false] at hp; rcases hp with rfl | rfl <;> exact ⟨_, by simp only [toG, upd]; rfl⟩)
 simp only [List.map_cons, List.map_nil, List.cons_append, List.nil_append] at hL0
 simp only [over_toG, over_nil, Act.put, zP]
 replace hT := hT.call (below_drew hSim.base)
 clear hSim
 generalize κ 10 = k2_10 at *
 generalize κ 9 = k2_9 at *
 have hN0 := cells_of _ 0 [] rfl (hL0.get _ _ mZ)
 simp only [zF, Nat.reduceAdd] at hN0
 have hN1 := cells_of _ 0 [] rfl (hL0.get _ _ (mK mZ))
 simp only [zF, Nat.reduceAdd] at hN1
 have hN2 := cells_of _ 0 [] rfl (hL0.get _ _ (mK (mK (mK (mK (mK mZ))))))
 simp only [zF, Nat.reduceAdd] at hN2
 go_wp2_with fail
 clear hN0 hN1 hN2
 with_reducible refine Calls.mono (Sh.out (.slice a0 n0 c0) _ (PT.below f0.out hL0.bl)) ?_
 rintro e x3 ⟨v0, rfl, q0, hb⟩
 replace hL0 := hL0.call hb
 replace hT := hT.call hb
 clear hb
 obtain ⟨g1, d1, g1c, rfl, -⟩ := pt_form q0
 replace hT := hT.cons q0
 clear q0
 have hN0 := cells_of _ 0 [] rfl (hL0.get _ _ (mK (mK (mK mZ))))
 simp only [zF, Nat.reduceAdd] at hN0
 have hN1 := cells_of _ 0 [] rfl (hL0.get _ _ (mK (mK (mK (mK mZ)))))
 simp only [zF, Nat.reduceAdd] at hN1
 have hN2 := cells_of _ 0 [] rfl (hL0.get _ _ (mK (mK (mK (mK (mK mZ))))))
 simp only [zF, Nat.reduceAdd] at hN2
 go_wp2_with fail
 clear hN0 hN1 hN2
 with_reducible refine Calls.mono (HA.out _) ?_
 rintro e x4 ⟨rfl, hb⟩
 replace hL0 := hL0.call hb
 replace hT := hT.call hb
 clear hb
 go_wp2_with fail
 with_reducible refine Calls.mono (HI.out (.slice g1 d1 g1c) _ (hT.get mZ)) ?_
 rintro e x5 ⟨rfl, hb⟩
 replace hL0 := hL0.call hb
 replace hT := hT.call hb
 clear hb
 go_wp2_with fail
 with_reducible refine Calls.mono (HM.out _) ?_
 rintro e x6 ⟨rfl, hb⟩
 replace hL0 := hL0.call hb
 replace hT := hT.call hb
 clear hb
 have hT1 := hT.put ((((((Upd.refl (w.heap.size + 1 + 1 + 1) x6).setCell 0 (.int .u64 ((zl tv.num : Nat) : Int))).setCell 1 (.string (zh tv.num))).setCell 2 (.bool (zs tv.num))).setCell 3 (.int .u64 ((lo (fe tv) : Nat) : Int))).setCell 4 (.string (hs (fe tv)))) (hL0.get _ _ (mK (mK mZ))) (by intro v hv n; simp only [List.mem_cons, List.not_mem_nil, or_false] at hv; rcases hv with rfl | rfl | rfl | rfl | rfl <;> simp)
 have hA := hL0.fc
 simp only [zF, Nat.reduceAdd] at hA
 have hP := hL0.put 2 (w.heap.size + 1 + 1 + 1) _ rfl [.int .u64 ((zl tv.num : Nat) : Int), .string (zh tv.num), .bool (zs tv.num), .int .u64 ((lo (fe tv) : Nat) : Int), .string (hs (fe tv))] rfl
 simp only [setAll, List.set_cons_zero, List.set_cons_succ] at hP
 generalize hput1 : (((((x6.setCell ⟨w.heap.size + 1 + 1 + 1, 0, none⟩ (.int .u64 ((zl tv.num : Nat) : Int))).setCell ⟨w.heap.size + 1 + 1 + 1, 1, none⟩ (.string (zh tv.num))).setCell ⟨w.heap.size + 1 + 1 + 1, 2, none⟩ (.bool (zs tv.num))).setCell ⟨w.heap.size + 1 + 1 + 1, 3, none⟩ (.int .u64 ((lo (fe tv) : Nat) : Int))).setCell ⟨w.heap.size + 1 + 1 + 1, 4, none⟩ (.string (hs (fe tv)))) = x7 at hP hT1
 have hB1 := hP.fc
 simp only [zF, Nat.reduceAdd] at hB1
 replace hL0 := hP
 replace hT := hT1
 clear hT1
 go_wp2_with fail
 exact bodyPost_ret (v := .agg #[.int .u64 ((zl tv.num : Nat) : Int), .string (zh tv.num), .bool (zs tv.num), .int .u64 ((lo (fe tv) : Nat) : Int), .string (hs (fe tv))]) (by simp [results, Tryz.results10, go_sem, hB1]) rfl ⟨rfl, hL0.bl⟩
end Go.Proofs.YtkdbhacimoaohaaGreatDoor
namespace Go.Proofs.YtkdbhacimoaohaaGreatDoor
open Go.RowKit
attribute [local irreducible] lo hs sm s64 c64 d64 b64 mh ml pd pc qd qc val hiB str cmpI srD lz nb zl zh zs fe klT ordZ Bs
abbrev ptV (a : Pt) : Value := .agg #[.int .u64 ((zl a.x.num : Nat) : Int), .string (zh a.x.num), .bool (zs a.x.num), .int .u64 ((lo (fe a.x) : Nat) : Int), .string (hs (fe a.x)), .int .u64 ((zl a.y.num : Nat) : Int), .string (zh a.y.num), .bool (zs a.y.num), .int .u64 ((lo (fe a.y) : Nat) : Int), .string (hs (fe a.y))]
structure PS (a : Pt) (k : Nat) : Prop where
 x : Sz a.x k
 y : Sz a.y k
theorem PS.mono {a : Pt} {k m : Nat} (h : PS a k) (hm : k ≤ m) : PS a m := ⟨h.x.mono hm, h.y.mono hm⟩
theorem qsum_sz9 {qs : List Rat} {k : Nat} (hs : ∀ q ∈ qs, Sz q k) : Sz (qsum qs) (qs.length * (k + 1) + 1) :=
 (qsum_sz qs 1 0 (sz_0 (by omega)) hs).mono (by omega)
theorem sumGB (qs : List Rat) (k : Nat) (hl : qs.length * (k + 1) + 1 ≤ 9000000) (hk : k ≤ 9000000) (hs : ∀ q ∈ qs, Sz q k) (hn : qs.length ≤ 1000000) (v : Value) (w : World) (h : SlQ w v qs) :
  Calls Tryz.prog 14 #[v] w fun xe w' => xe = .returned (fracV (qsum qs)) ∧ Below w.heap.size w w' := by
 obtain ⟨ao, n, c, rfl⟩ := slq_form8 h
 have hp := slq_parts' h hn
 refine sum_w ao n c qs hp.2.2 (fun w0 t hn w hG => each_add w0 t ao n c qs 0 rfl hn (fun q a i ha hq w hG => total_add w0 t q a (q + a) (fun w => addF q a 9000000 ?_ ((hs a ha).mono (by omega)) (by omega) w) w hG) w hG) w hp
 rw [hq]
 have hz := qsum_sz (qs.take i) 1 0 (sz_0 (by omega)) (fun q hq => hs q (List.mem_of_mem_take hq))
 refine hz.mono ?_
 rw [List.length_take]
 have h1 : min i qs.length * (k + 1) ≤ qs.length * (k + 1) := Nat.mul_le_mul_right _ (by omega)
 omega
theorem qsum_pair (p : TL) (F : Nat → Nat → Rat) : qsum (p.map fun t => t.2.2 * F t.1 t.2.1) = pair p F := by
 induction p with
 | nil => rfl
 | cons t p ih =>
  rw [List.map_cons, pair, ← ih]
  unfold qsum
  rw [List.foldl_cons, qsum_fold, Rat.zero_add]
  rfl
theorem int2 (w : World) : Calls Tryz.prog 20 #[.int .i64 2] w fun xe w' => xe = .returned (fracV (2 : Rat)) ∧ Below w.heap.size w w' := intF 2 (by decide) (by decide) w
theorem two_ne : (2 : Rat) ≠ 0 := by decide
theorem sz_two : Sz (2 : Rat) 1 := sz_i8 (i := 2) (by omega) (by omega)
theorem sz_one9 : Sz (1 : Rat) 1 := sz_i8 (i := 1) (by omega) (by omega)
theorem ratioG {a b : Rat} {k : Nat} (ha : Sz a k) (hb : Sz b k) (hk : k ≤ 100000000) (h0 : b ≠ 0) (w : World) : Calls Tryz.prog 53 #[fracV a, fracV b] w fun xe w' => xe = .returned (fracV (a / b)) ∧ Below w.heap.size w w' :=
 ratio9_w a b (a / b) (fun w => divF a b k ha hb hk h0 w) w
theorem wayG {a b : Pt} {k : Nat} (ha : PS a k) (hb : PS b k) (hk : k ≤ 1000000) (w : World) : Calls Tryz.prog 38 #[ptV a, ptV b] w fun xe w' => xe = .returned (ptV ⟨b.x - a.x, b.y - a.y⟩) ∧ Below w.heap.size w w' :=
 way9_w a.x a.y b.x b.y (b.x - a.x) (b.y - a.y) (fun w => subF _ _ k hb.x ha.x (by omega) w) (fun w => subF _ _ k hb.y ha.y (by omega) w) w
theorem PS.way {a b : Pt} {k : Nat} (ha : PS a k) (hb : PS b k) : PS ⟨b.x - a.x, b.y - a.y⟩ (2 * k + 1) := ⟨(hb.x.sub ha.x).mono (by omega), (hb.y.sub ha.y).mono (by omega)⟩
theorem area_sz {a b c : Pt} {k : Nat} (ha : PS a k) (hb : PS b k) (hc : PS c k) : Sz (areaV a b c) (8 * k + 6) := by
 have u := ha.way hb
 have v := ha.way hc
 exact (((u.x.mul v.y).sub (v.x.mul u.y)).div sz_two two_ne).mono (by omega)
theorem areaG {a b c : Pt} {k : Nat} (ha : PS a k) (hb : PS b k) (hc : PS c k) (hk : k ≤ 1000000) (w : World) : Calls Tryz.prog 18 #[ptV a, ptV b, ptV c] w fun xe w' => xe = .returned (fracV (areaV a b c)) ∧ Below w.heap.size w w' := by
 have u := ha.way hb
 have v := ha.way hc
 exact area9_w a.x a.y b.x b.y c.x c.y (b.x - a.x) (b.y - a.y) (c.x - a.x) (c.y - a.y) ((b.x - a.x) * (c.y - a.y)) ((c.x - a.x) * (b.y - a.y)) ((b.x - a.x) * (c.y - a.y) - (c.x - a.x) * (b.y - a.y)) 2 (areaV a b c)
  (fun w => wayG ha hb hk w) (fun w => wayG ha hc hk w) (fun w => mulF _ _ _ u.x v.y (by omega) w) (fun w => mulF _ _ _ v.x u.y (by omega) w) (fun w => subF _ _ _ (u.x.mul v.y) (v.x.mul u.y) (by omega) w) int2
  (fun w => ratioG (((u.x.mul v.y).sub (v.x.mul u.y))) (sz_two.mono (by omega)) (by omega) two_ne w) w
theorem sz_nat {n : Nat} (h : n < 18446744073709551616) : Sz ((n : Nat) : Rat) 1 := by
 have := Sz.int (z := (n : Int)) (k := 1) (by unfold dI; exact digs_length_iff.2 (by unfold Bs; rw [Int.natAbs_natCast]; omega)) (by omega)
 exact this
theorem fact_sz : ∀ n : Nat, n ≤ 1000 → Sz ((fact n : Nat) : Rat) (n + 1)
 | 0, _ => sz_nat (n := 1) (by omega)
 | n + 1, h => by
  rw [fact_succ]
  exact ((fact_sz n (by omega)).mul (sz_nat (n := n + 1) (by omega))).mono (by omega)
theorem factG (n : Nat) (hn : n ≤ 1000) (w : World) : Calls Tryz.prog 73 #[.int .i64 (n : Int)] w fun xe w' => xe = .returned (fracV ((fact n : Nat) : Rat)) ∧ Below w.heap.size w w' :=
 fact9_w n (fun k => ((fact k : Nat) : Rat)) 1 ((fact n : Nat) : Rat) int1 rfl rfl (fun k hk => ⟨by simp [IntKind.wrap, IntKind.bits, IntKind.signed]; omega, by simp [wrap64]; omega, (((k : Int) + 1 : Int) : Rat), ((fact k : Nat) : Rat) * (((k : Int) + 1 : Int) : Rat),
  fun w => intF ((k : Int) + 1) (by omega) (by omega) w, fun w => mulF _ _ 1002 ((fact_sz k (by omega)).mono (by omega)) ((sz_nat (n := k + 1) (by omega)).mono (by omega)) (by omega) w, (fact_succ k).symm⟩) w
def momQ (i j k : Nat) : Rat := 2 * ((fact i : Nat) : Rat) * ((fact j : Nat) : Rat) * ((fact k : Nat) : Rat) / ((fact (2 + i + j + k) : Nat) : Rat)
theorem momQ_zero (i j : Nat) : momQ i j 0 = momF i j := by
 unfold momQ momF
 rw [show 2 + i + j + 0 = i + j + 2 by omega, show ((fact 0 : Nat) : Rat) = 1 from rfl, Rat.mul_one]
theorem momentG (i j k : Nat) (hi : i ≤ 48) (hj : j ≤ 48) (hk : k ≤ 48) (w : World) : Calls Tryz.prog 34 #[.int .i64 (i : Int), .int .i64 (j : Int), .int .i64 (k : Int)] w fun xe w' => xe = .returned (fracV (momQ i j k)) ∧ Below w.heap.size w w' := by
 have fi := (fact_sz i (by omega)).mono (show i + 1 ≤ 400 by omega)
 have fj := (fact_sz j (by omega)).mono (show j + 1 ≤ 400 by omega)
 have fk := (fact_sz k (by omega)).mono (show k + 1 ≤ 400 by omega)
 have fn := (fact_sz (2 + i + j + k) (by omega)).mono (show 2 + i + j + k + 1 ≤ 2000 by omega)
 have e : (2 : Int) + (i : Int) + (j : Int) + (k : Int) = ((2 + i + j + k : Nat) : Int) := by omega
 have t := sz_two.mono (show 1 ≤ 400 by omega)
 exact moment9_w (i : Int) (j : Int) (k : Int) (2 + (i : Int)) (2 + (i : Int) + (j : Int)) (2 + (i : Int) + (j : Int) + (k : Int)) 2 _ _ _ _ _ _ _ _ int2 (fun w => factG i (by omega) w) (fun w => mulF _ _ 400 t fi (by omega) w) (fun w => factG j (by omega) w) (fun w => mulF _ _ 2000 ((t.mul fi).mono (by omega)) (fj.mono (by omega)) (by omega) w) (fun w => factG k (by omega) w)
  (fun w => mulF _ _ 2000 (((t.mul fi).mul fj).mono (by omega)) (fk.mono (by omega)) (by omega) w) (fun w => by rw [e]; exact factG (2 + i + j + k) (by omega) w) (fun w => ratioG ((((t.mul fi).mul fj).mul fk).mono (show 400 + 400 + 400 + 400 ≤ 2000 by omega)) fn (by omega) (fact_ne _) w)
  (by omega) (by omega) (by omega) (by omega) (by omega) (by omega) (by simp [IntKind.wrap, IntKind.bits, IntKind.signed]; omega) (by simp [wrap64]; omega) (by simp [IntKind.wrap, IntKind.bits, IntKind.signed]; omega) (by simp [wrap64]; omega) (by simp [IntKind.wrap, IntKind.bits, IntKind.signed]; omega) (by simp [wrap64]; omega) w
theorem momF_sz {i j : Nat} (hi : i ≤ 12) (hj : j ≤ 12) : Sz (momF i j) 60 := by
 unfold momF
 exact (((sz_two.mul (fact_sz i (by omega))).mul (fact_sz j (by omega))).div (fact_sz (i + j + 2) (by omega)) (fact_ne _)).mono (by omega)
theorem segF_sz {i j : Nat} (hi : i ≤ 12) : Sz (segF i j) 60 := by
 unfold segF
 exact (sz_one9.div (sz_nat (n := i + 1) (by omega)) (natR_ne i)).mono (by omega)
theorem trifG (i j : Nat) (hi : i ≤ 48) (hj : j ≤ 48) (w : World) : Calls Tryz.prog 40 #[.int .i64 (i : Int), .int .i64 (j : Int)] w fun xe w' => xe = .returned (fracV (momF i j)) ∧ Below w.heap.size w w' :=
 trif9_w _ _ _ (fun w => by rw [← momQ_zero]; exact momentG i j 0 hi hj (by omega) w) w
theorem segfG (i j : Nat) (hi : i ≤ 1000) (w : World) : Calls Tryz.prog 69 #[.int .i64 (i : Int), .int .i64 (j : Int)] w fun xe w' => xe = .returned (fracV (segF i j)) ∧ Below w.heap.size w w' :=
 segf9_w _ _ ((i : Int) + 1) 1 (((i : Int) + 1 : Int) : Rat) (segF i j) int1 (fun w => intF _ (by omega) (by omega) w) (fun w => ratioG sz_one9 (sz_nat (n := i + 1) (by omega)) (by omega) (natR_ne i) w)
  (by simp [IntKind.wrap, IntKind.bits, IntKind.signed]; omega) (by simp [wrap64]; omega) w
section
variable {p q : TL} {d K e : Nat}
theorem pair_terms {F : Nat → Nat → Rat} (h : GP p d K) (hd : d ≤ 12) (hF : ∀ i j, i ≤ 12 → j ≤ 12 → Sz (F i j) 60) : (∀ x ∈ p.map fun t => t.2.2 * F t.1 t.2.1, Sz x (K + 60)) ∧ (p.map fun t => t.2.2 * F t.1 t.2.1).length ≤ 169 := by
 refine ⟨fun x hx => ?_, by rw [List.length_map]; exact h.len hd⟩
 obtain ⟨t, ht, rfl⟩ := List.mem_map.1 hx
 have := h.tb t ht
 exact (h.sz.mem ht).mul (hF t.1 t.2.1 (by omega) (by omega))
theorem pair_sz {F : Nat → Nat → Rat} (h : GP p d K) (hd : d ≤ 12) (hF : ∀ i j, i ≤ 12 → j ≤ 12 → Sz (F i j) 60) : Sz (pair p F) (169 * (K + 61) + 1) := by
 obtain ⟨h1, h2⟩ := pair_terms h hd hF
 have := qsum_sz9 h1
 rw [qsum_pair] at this
 refine this.mono ?_
 have := Nat.mul_le_mul_right (K + 60 + 1) h2
 omega
theorem intG_seg (h : GP p d K) (hd : d ≤ 12) (hK : K ≤ 53000) (w : World) (v : Value) (hv : PT w v (ofL p)) : Calls Tryz.prog 39 #[v, .func (.func 69) #[] #[]] w fun xe w' => xe = .returned (fracV (pair p segF)) ∧ Below w.heap.size w w' := by
 obtain ⟨ao, n, c, rfl, -⟩ := pt_form hv
 obtain ⟨h1, h2⟩ := pair_terms h hd (fun i j hi _ => segF_sz (j := j) hi)
 have hb : ∀ t ∈ p, t.1 ≤ 12 ∧ t.2.1 ≤ 12 := fun t ht => by have := h.tb t ht; omega
 refine pint_seg p segF (pair p segF) ao n c (by have := h.len hd; omega) (fun t ht w => segfG t.1 t.2.1 (by have := (hb t ht).1; omega) w) (fun t ht w => mulF _ _ (K + 60) ((h.sz.mem ht).mono (by omega)) ((segF_sz (hb t ht).1).mono (by omega)) (by omega) w) (fun v w hv => ?_) w hv
 rw [← qsum_pair]
 have := Nat.mul_le_mul_right (K + 60 + 1) h2
 exact sumGB _ (K + 60) (by omega) (by omega) h1 (by omega) v w hv
theorem intG_tri (h : GP p d K) (hd : d ≤ 12) (hK : K ≤ 53000) (w : World) (v : Value) (hv : PT w v (ofL p)) : Calls Tryz.prog 39 #[v, .func (.func 40) #[] #[]] w fun xe w' => xe = .returned (fracV (pair p momF)) ∧ Below w.heap.size w w' := by
 obtain ⟨ao, n, c, rfl, -⟩ := pt_form hv
 obtain ⟨h1, h2⟩ := pair_terms h hd (fun i j hi hj => momF_sz hi hj)
 have hb : ∀ t ∈ p, t.1 ≤ 12 ∧ t.2.1 ≤ 12 := fun t ht => by have := h.tb t ht; omega
 refine pint_tri p momF (pair p momF) ao n c (by have := h.len hd; omega) (fun t ht w => trifG t.1 t.2.1 (by have := (hb t ht).1; omega) (by have := (hb t ht).2; omega) w) (fun t ht w => mulF _ _ (K + 60) ((h.sz.mem ht).mono (by omega)) ((momF_sz (hb t ht).1 (hb t ht).2).mono (by omega)) (by omega) w) (fun v w hv => ?_) w hv
 rw [← qsum_pair]
 have := Nat.mul_le_mul_right (K + 60 + 1) h2
 exact sumGB _ (K + 60) (by omega) (by omega) h1 (by omega) v w hv
/-- The size of what Seg and Tri shift. -/
def shK (D u K : Nat) : Nat := D * (3 * u + 2 + (D * (3 * u + 2 + K + 1) + 1) + 1) + 1
structure Fit (D u K d M : Nat) : Prop where
 k0 : 0 < K
 d1 : d ≤ 11
 k3 : K ≤ 3000
 dD : d + 1 ≤ D
 u20 : u ≤ 20
 s2 : D * (3 * u + 2 + K + 1) ≤ 9000
 m : shK D u K ≤ M
 m5 : M ≤ 50000
theorem Fit.s {D u K d M : Nat} (f : Fit D u K d M) : D * (3 * u + 2 + (D * (3 * u + 2 + K + 1) + 1) + 1) ≤ 90000 := by
 have h1 := f.m
 have h2 := f.m5
 unfold shK at h1
 omega
theorem Fit.gp {D u M : Nat} (f : Fit D u K d M) (h : GP p d K) {a b c a2 b2 c2 : Rat} (s1 : Sz a u) (s2 : Sz b u) (s3 : Sz c u) (s4 : Sz a2 u) (s5 : Sz b2 u) (s6 : Sz c2 u) : GP (shf p a b c a2 b2 c2) d M :=
 (h.shf f.k0 (by have := f.d1; omega) s1 s2 s3 s4 s5 s6 D f.dD).mono (Nat.le_refl _) f.m
theorem Fit.sh {D u M : Nat} (f : Fit D u K d M) (h : GP p d K) {a b c a2 b2 c2 : Rat} (s1 : Sz a u) (s2 : Sz b u) (s3 : Sz c u) (s4 : Sz a2 u) (s5 : Sz b2 u) (s6 : Sz c2 u) (w : World) (v : Value) (hv : PT w v (ofL p)) :
  Calls Tryz.prog 22 #[v, fracV a, fracV b, fracV c, fracV a2, fracV b2, fracV c2] w fun xe w' => ∃ v', xe = .returned v' ∧ PT w' v' (ofL (shf p a b c a2 b2 c2)) ∧ Below w.heap.size w w' :=
 shiftGB D h f.k0 f.d1 f.k3 f.dD f.s f.s2 s1 s2 s3 s4 s5 s6 f.u20 w v hv
theorem segV_shf (h : GP p d K) (a b : Pt) : pair (shf p (b.x - a.x) 0 a.x (b.y - a.y) 0 a.y) segF = segV p a b := shf_eqv h.nf _ _ _ _ _ _ segF
theorem triV_shf (h : GP p d K) (a b c : Pt) : pair (shf p (b.x - a.x) (c.x - a.x) a.x (b.y - a.y) (c.y - a.y) a.y) momF = pair (triL p a b c) momF := shf_eqv h.nf _ _ _ _ _ _ momF
theorem segG {k M D : Nat} (f : Fit D (2 * k + 1) K d M) (h : GP p d K) {a b : Pt} (ha : PS a k) (hb : PS b k) (w : World) (v : Value) (hv : PT w v (ofL p)) :
  Calls Tryz.prog 27 #[v, ptV a, ptV b] w fun xe w' => xe = .returned (fracV (segV p a b)) ∧ Below w.heap.size w w' := by
 have u := ha.way hb
 have m := ha.mono (show k ≤ 2 * k + 1 by omega)
 have z := sz_0 (k := 2 * k + 1) (by omega)
 have hk := f.u20
 have g := f.gp h u.x z m.x u.y z m.y
 refine seg9_w (ofL p) (ofL (shf p (b.x - a.x) 0 a.x (b.y - a.y) 0 a.y)) a.x a.y b.x b.y (b.x - a.x) (b.y - a.y) 0 (segV p a b) (fun w => wayG ha hb (by omega) w) int0 (fun pv w h' => f.sh h u.x z m.x u.y z m.y w pv h') (fun pv w h' => ?_) v w hv
 rw [← segV_shf h]
 exact intG_seg g (by have := f.d1; omega) (by have := f.m5; omega) w pv h'
theorem seg_sz {k M D : Nat} (f : Fit D (2 * k + 1) K d M) (h : GP p d K) {a b : Pt} (ha : PS a k) (hb : PS b k) : Sz (segV p a b) (169 * (M + 61) + 1) := by
 have u := ha.way hb
 have m := ha.mono (show k ≤ 2 * k + 1 by omega)
 have z := sz_0 (k := 2 * k + 1) (by omega)
 rw [← segV_shf h]
 exact pair_sz (f.gp h u.x z m.x u.y z m.y) (by have := f.d1; omega) (fun i j hi _ => segF_sz (j := j) hi)
theorem triG {k M D : Nat} (f : Fit D (2 * k + 1) K d M) (h : GP p d K) {a b c : Pt} (ha : PS a k) (hb : PS b k) (hc : PS c k) (w : World) (v : Value) (hv : PT w v (ofL p)) :
  Calls Tryz.prog 10 #[v, ptV a, ptV b, ptV c] w fun xe w' => xe = .returned (fracV (triV p a b c)) ∧ Below w.heap.size w w' := by
 have u := ha.way hb
 have u2 := ha.way hc
 have m := ha.mono (show k ≤ 2 * k + 1 by omega)
 have hk := f.u20
 have g := f.gp h u.x u2.x m.x u.y u2.y m.y
 have hm := f.m5
 have s1 := pair_sz g (by have := f.d1; omega) (fun i j hi hj => momF_sz hi hj)
 rw [triV_shf h] at s1
 refine tri9_w (ofL p) (ofL (shf p (b.x - a.x) (c.x - a.x) a.x (b.y - a.y) (c.y - a.y) a.y)) a.x a.y b.x b.y c.x c.y (b.x - a.x) (b.y - a.y) (c.x - a.x) (c.y - a.y) (areaV a b c) (pair (triL p a b c) momF) (triV p a b c) (fun w => wayG ha hb (by omega) w) (fun w => wayG ha hc (by omega) w) (fun pv w h' => f.sh h u.x u2.x m.x u.y u2.y m.y w pv h') (fun w => areaG ha hb hc (by omega) w) (fun pv w h' => ?_)
  (fun w => mulF _ _ 90000000 ((area_sz ha hb hc).mono (by omega)) (s1.mono (by omega)) (by omega) w) v w hv
 rw [← triV_shf h]
 exact intG_tri g (by have := f.d1; omega) (by omega) w pv h'
theorem tri_sz {k M D : Nat} (f : Fit D (2 * k + 1) K d M) (h : GP p d K) {a b c : Pt} (ha : PS a k) (hb : PS b k) (hc : PS c k) : Sz (triV p a b c) (169 * (M + 62) + 1) := by
 have u := ha.way hb
 have u2 := ha.way hc
 have m := ha.mono (show k ≤ 2 * k + 1 by omega)
 have hk := f.u20
 have s1 := pair_sz (f.gp h u.x u2.x m.x u.y u2.y m.y) (by have := f.d1; omega) (fun i j hi hj => momF_sz hi hj)
 rw [triV_shf h] at s1
 exact ((area_sz ha hb hc).mul s1).mono (by omega)
theorem flowG {k M D : Nat} (f : Fit D (2 * k + 1) K d M) (g : Fit D (2 * k + 1) e d M) (h : GP p d K) (h2 : GP q d e) {a b : Pt} (ha : PS a k) (hb : PS b k) (w : World) (v v2 : Value) (hv : PT w v (ofL p)) (hv2 : PT w v2 (ofL q)) :
  Calls Tryz.prog 15 #[v, v2, ptV a, ptV b] w fun xe w' => xe = .returned (fracV (flowV p q a b)) ∧ Below w.heap.size w w' := by
 have u := ha.way hb
 have hk := f.u20
 have hm := f.m5
 have s1 := (seg_sz f h ha hb).mono (show 169 * (M + 61) + 1 ≤ 8600000 by omega)
 have s2 := (seg_sz g h2 ha hb).mono (show 169 * (M + 61) + 1 ≤ 8600000 by omega)
 have ux := u.x.mono (show 2 * k + 1 ≤ 8600000 by omega)
 have uy := u.y.mono (show 2 * k + 1 ≤ 8600000 by omega)
 obtain ⟨al, nl, cl, rfl, -⟩ := pt_form hv
 obtain ⟨am, nm, cm, rfl, -⟩ := pt_form hv2
 exact flow9_w al am nl cl nm cm a.x a.y b.x b.y (b.x - a.x) (b.y - a.y) (segV p a b) (segV q a b) _ _ (flowV p q a b) (fun w => wayG ha hb (by omega) w) (fun w => PT w (.slice al nl cl) (ofL p)) (fun _ _ hb h => h.below hb) (fun w hw => segG f h ha hb w _ hw) (fun w => PT w (.slice am nm cm) (ofL q)) (fun _ _ hb h => h.below hb) (fun w hw => segG g h2 ha hb w _ hw)
  (fun w => mulF _ _ _ uy s1 (by omega) w) (fun w => mulF _ _ _ ux s2 (by omega) w) (fun w => subF _ _ 9000000 ((u.y.mul (seg_sz f h ha hb)).mono (by omega)) ((u.x.mul (seg_sz g h2 ha hb)).mono (by omega)) (by omega) w) w hv hv2
end
end Go.Proofs.YtkdbhacimoaohaaGreatDoor
namespace Go.Proofs.YtkdbhacimoaohaaGreatDoor
open Go.RowKit
attribute [local irreducible] lo hs sm s64 c64 d64 b64 mh ml pd pc qd qc val hiB str cmpI srD lz nb zl zh zs fe klT ordZ
structure FP (w : World) (g : Nat) (l : List Pt) : Prop where
 cell : ∀ i (h : i < l.length), w.cell? ⟨g, i * 10, none⟩ = some (.int .u64 ((zl l[i].x.num : Nat) : Int)) ∧ w.cell? ⟨g, i * 10 + 1, none⟩ = some (.string (zh l[i].x.num)) ∧ w.cell? ⟨g, i * 10 + 2, none⟩ = some (.bool (zs l[i].x.num)) ∧
  w.cell? ⟨g, i * 10 + 3, none⟩ = some (.int .u64 ((lo (fe l[i].x) : Nat) : Int)) ∧ w.cell? ⟨g, i * 10 + 4, none⟩ = some (.string (hs (fe l[i].x))) ∧ w.cell? ⟨g, i * 10 + 5, none⟩ = some (.int .u64 ((zl l[i].y.num : Nat) : Int)) ∧ w.cell? ⟨g, i * 10 + 6, none⟩ = some (.string (zh l[i].y.num)) ∧
  w.cell? ⟨g, i * 10 + 7, none⟩ = some (.bool (zs l[i].y.num)) ∧ w.cell? ⟨g, i * 10 + 8, none⟩ = some (.int .u64 ((lo (fe l[i].y) : Nat) : Int)) ∧ w.cell? ⟨g, i * 10 + 9, none⟩ = some (.string (hs (fe l[i].y)))
 lt : g < w.heap.size
theorem FP.below {w w' : World} {g : Nat} {l : List Pt} (h : FP w g l) (hb : Below w.heap.size w w') : FP w' g l := by
 have hl := h.lt
 have e : ∀ o, w'.cell? ⟨g, o, none⟩ = w.cell? ⟨g, o, none⟩ := fun o => hb.cell (p := ⟨g, o, none⟩) hl
 refine ⟨fun i hi => ?_, Nat.lt_of_lt_of_le hl hb.size⟩
 rw [e, e, e, e, e, e, e, e, e, e]
 exact h.cell i hi
/-- The slice v holds the points l. -/
def PL (w : World) (v : Value) (l : List Pt) : Prop := (∃ ao c, v = .slice ao 0 c ∧ l = []) ∨ ∃ g c, v = .slice (some ⟨g, 0, none⟩) l.length c ∧ FP w g l
theorem PL.below {w w' : World} {v : Value} {l : List Pt} (h : PL w v l) (hb : Below w.heap.size w w') : PL w' v l := by
 rcases h with h | ⟨g, c, h1, h2⟩
 ·exact .inl h
 ·exact .inr ⟨g, c, h1, h2.below hb⟩
theorem PL.nil (w : World) : PL w (.slice none 0 0) [] := .inl ⟨none, 0, rfl, rfl⟩
theorem pl_form {w : World} {v : Value} {l : List Pt} (h : PL w v l) : ∃ ao c, v = .slice ao l.length c := by
 rcases h with ⟨ao, c, e, rfl⟩ | ⟨g, c, e, _⟩
 ·exact ⟨_, _, e⟩
 ·exact ⟨_, _, e⟩
theorem pl_parts {w : World} {ao : Option Addr} {n c : Nat} {l : List Pt} (h : PL w (.slice ao n c) l) : n = l.length ∧ (0 < n → ∃ g, ao = some ⟨g, 0, none⟩ ∧ FP w g l) := by
 rcases h with ⟨a, c2, e, rfl⟩ | ⟨g, c2, e, hf⟩
 ·simp only [Value.slice.injEq] at e
  obtain ⟨-, rfl, -⟩ := e
  exact ⟨rfl, fun h => absurd h (Nat.lt_irrefl _)⟩
 ·simp only [Value.slice.injEq] at e
  obtain ⟨rfl, rfl, -⟩ := e
  exact ⟨rfl, fun _ => ⟨g, rfl, hf⟩⟩
theorem poly9_w (P : List TI) (l : List Pt) (TF : Pt → Pt → Pt → Rat) (s : Rat) (ao am : Option Addr) (n c m cm : Nat) (hm : m ≤ 1000)
  (VL : List Rat) (hVLl : VL.length = m - 2) (hVL : ∀ (a : Pt) (r : List Pt), l = a :: r → ∀ (k : Nat) (h1 : 2 ≤ k) (h2 : k < l.length) (h3 : k - 2 < VL.length), VL[k - 2] = TF a (l[k - 1]'(by omega)) (l[k]'h2))
  (HT : ∀ (a b d : Pt), a ∈ l → b ∈ l → d ∈ l → ∀ w : World, PT w (.slice ao n c) P → Calls Tryz.prog 10 #[.slice ao n c, ptV a, ptV b, ptV d] w fun xe w' => xe = .returned (fracV (TF a b d)) ∧ Below w.heap.size w w')
  (HSm : ∀ (v : Value) (w : World), SlQ w v VL → Calls Tryz.prog 14 #[v] w fun xe w' => xe = .returned (fracV s) ∧ Below w.heap.size w w')
  (w : World) (hq : PT w (.slice ao n c) P) (hp : PL w (.slice am m cm) l) :
  Calls Tryz.prog 29 #[.slice ao n c, .slice am m cm] w fun xe w' => xe = .returned (fracV s) ∧ Below w.heap.size w w' := by
 replace HT := Lib.hid HT
 replace hVL := Lib.hid hVL
 replace HSm := Lib.hid HSm
 replace hq := Lib.hid hq
 replace hVLl := Lib.hid hVLl
 obtain ⟨hml, hpp⟩ := pl_parts hp
 replace hml := Lib.hid hml
 replace hpp := Lib.hid hpp
 clear hp
 have hL0 : GL w w [] := GL.start w
 obtain ⟨x1, hweq, hL0⟩ := GL.named (hL0.new rfl [.int .u64 0, .string ⟨#[]⟩, .bool false, .int .u64 0, .string ⟨#[]⟩] 38)
 go_enter Tryz.func29, Tryz.ntmps29
 go_wp2_with fail
 clear hweq
 generalize hb4 : w.heap.size = b4 at hL0 ⊢
 replace hb4 := Lib.hid hb4
 have hbs : ∀ p ∈ ([(b4, [.int .u64 0, .string ⟨#[]⟩, .bool false, .int .u64 0, .string ⟨#[]⟩])] : List (Nat × List Value)), p.1 < x1.heap.size := fun p hp => (hL0.all p hp).2.lt
 have hwE : w.heap.size ≤ x1.heap.size := hL0.bl.size
 have hbz := Lib.hid hL0.bl
 replace hbs := Lib.hid hbs
 replace hwE := Lib.hid hwE
 go_loopg [5, 6] m (fun gk sv iv wr => ∃ (k : Nat) (zi : Int) (vs : Value), m - k ≤ gk ∧ 2 ≤ k ∧ k - 2 ≤ m - 2 ∧ vs = sv ∧ iv = .int .i64 zi ∧ zi = (k : Int) ∧ OwnF wr x1.heap.size vs (k - 2) (VL.take (k - 2)) ∧ Below x1.heap.size x1 wr ∧ GL w wr [(b4, [.int .u64 0, .string ⟨#[]⟩, .bool false, .int .u64 0, .string ⟨#[]⟩])])
 case atStart => exact ⟨2, 2, _, by omega, Nat.le_refl _, by omega, rfl, by first | rfl | go_num, rfl, World.ownsRow_nil _ _ _ _, Below.refl _ _, hL0⟩
 case round =>
  clear hL0
  obtain ⟨k, zi, vs, hik, hk2, hkm, rfl, rfl, hzi, hown, hBz, hL0⟩ := hrel
  replace hBz := Lib.hid hBz
  replace hown := Lib.hid hown
  rcases Nat.lt_or_ge k m with hin | hin
  ·subst hzi
   obtain ⟨gl, rfl, hfx⟩ := hpp.out (by omega)
   have h0l : 0 < l.length := by rw [← hml.out]; omega
   obtain ⟨k1, hk1⟩ : ∃ k1, k1 = k - 1 := ⟨_, rfl⟩
   have h1l : k1 < l.length := by rw [← hml.out]; omega
   have h2l : k < l.length := by rw [← hml.out]; exact hin
   have kk : (k : Int) < (m : Int) := by omega
   have kw : IntKind.i64.wrap ((k : Int) - 1) = (k1 : Int) := by simp [IntKind.wrap, IntKind.bits, IntKind.signed]; omega
   have kw2 : wrap64 ((k : Int) - 1) = (k1 : Int) := by simp [wrap64]; omega
   have k4 : (0 : Int) < (m : Int) := by omega
   have k5 : 0 < m := by omega
   have k6 : ¬ ((k1 : Nat) : Int) < 0 := by omega
   have k7 : ((k1 : Nat) : Int) < (m : Int) := by omega
   have k8 : k1 < m := by omega
   have k9 : ¬ ((k : Nat) : Int) < 0 := by omega
   have ka : k < m := hin
   have kb := kk
   have kc := Lib.hid kw
   have kd := Lib.hid kw2
   clear kw kw2
   obtain ⟨px, hpx⟩ : ∃ z, z = l[0].x := ⟨_, rfl⟩
   obtain ⟨py, hpy⟩ : ∃ z, z = l[0].y := ⟨_, rfl⟩
   obtain ⟨qx, hqx⟩ : ∃ z, z = l[k1].x := ⟨_, rfl⟩
   obtain ⟨qy, hqy⟩ : ∃ z, z = l[k1].y := ⟨_, rfl⟩
   obtain ⟨rx, hrx⟩ : ∃ z, z = l[k].x := ⟨_, rfl⟩
   obtain ⟨ry, hry⟩ : ∃ z, z = l[k].y := ⟨_, rfl⟩
   obtain ⟨r9, hr⟩ : ∃ r9, r9 = TF l[0] l[k1] l[k] := ⟨_, rfl⟩
   have hm2 := HT.out l[0] l[k1] l[k] (List.getElem_mem _) (List.getElem_mem _) (List.getElem_mem _)
   rw [← hr] at hm2
   have htk : VL.take (k + 1 - 2) = VL.take (k - 2) ++ [r9] := by
    have hv : k - 2 < VL.length := by rw [hVLl.out]; omega
    have e : VL[k - 2] = r9 := by
     obtain ⟨a, r, hl⟩ : ∃ a r, l = a :: r := List.exists_cons_of_ne_nil (fun e => by rw [e] at h0l; exact absurd h0l (by decide))
     rw [hVL.out a r hl k hk2 h2l hv, hr]
     congr 1
     ·simp only [hl, List.getElem_cons_zero]
     ·simp only [hk1]
    rw [show k + 1 - 2 = k - 2 + 1 by omega, List.take_succ_eq_append_getElem hv, e]
   have hfx2 := Lib.hid ((hfx.below hbz.out).below hBz.out)
   have HT1 : ∀ w : World, Below wr.heap.size wr w → Calls Tryz.prog 10 #[.slice ao n c, .agg #[.int .u64 ((zl px.num : Nat) : Int), .string (zh px.num), .bool (zs px.num), .int .u64 ((lo (fe px) : Nat) : Int), .string (hs (fe px)), .int .u64 ((zl py.num : Nat) : Int), .string (zh py.num), .bool (zs py.num), .int .u64 ((lo (fe py) : Nat) : Int), .string (hs (fe py))], .agg #[.int .u64 ((zl qx.num : Nat) : Int), .string (zh qx.num), .bool (zs qx.num), .int .u64 ((lo (fe qx) : Nat) : Int), .string (hs (fe qx)), .int .u64 ((zl qy.num : Nat) : Int), .string (zh qy.num), .bool (zs qy.num), .int .u64 ((lo (fe qy) : Nat) : Int), .string (hs (fe qy))], .agg #[.int .u64 ((zl rx.num : Nat) : Int), .string (zh rx.num), .bool (zs rx.num), .int .u64 ((lo (fe rx) : Nat) : Int), .string (hs (fe rx)), .int .u64 ((zl ry.num : Nat) : Int), .string (zh ry.num), .bool (zs ry.num), .int .u64 ((lo (fe ry) : Nat) : Int), .string (hs (fe ry))]] w fun xe w' => xe = .returned (fracV r9) ∧ Below w.heap.size w w' := fun w h => by
    rw [hpx, hpy, hqx, hqy, hrx, hry]
    exact hm2 w (((hq.out.below hbz.out).below hBz.out).below h)
   replace HT1 := Lib.hid HT1
   replace h0l := Lib.hid h0l
   replace h1l := Lib.hid h1l
   replace h2l := Lib.hid h2l
   replace hk1 := Lib.hid hk1
   replace hpx := Lib.hid hpx
   replace hpy := Lib.hid hpy
   replace hqx := Lib.hid hqx
   replace hqy := Lib.hid hqy
   replace hrx := Lib.hid hrx
   replace hry := Lib.hid hry
   replace hr := Lib.hid hr
   replace htk := Lib.hid htk
   clear hm2 hfx
   obtain ⟨y3, hy3⟩ : ∃ y3, y3 = wr := ⟨_, rfl⟩
   have hown3 := hown
   have hBz3 := hBz
   have hEw3 := Lib.hid (show x1.heap.size ≤ wr.heap.size from hBz.out.size)
   subst hy3
   go_upto_region 5 with fail
   clear hown hBz
   have hS : SS y3 [] := SS.nil y3
   refine region_tl 16 [EV vs, EV (.slice ao n c), EV (.slice (some ⟨gl, 0, none⟩) m cm), EV (.pointer (some ⟨gl, 0, none⟩)), EV (.agg #[.int .u64 ((zl px.num : Nat) : Int), .string (zh px.num), .bool (zs px.num), .int .u64 ((lo (fe px) : Nat) : Int), .string (hs (fe px)), .int .u64 ((zl py.num : Nat) : Int), .string (zh py.num), .bool (zs py.num), .int .u64 ((lo (fe py) : Nat) : Int), .string (hs (fe py))]), EV (.slice (some ⟨gl, 0, none⟩) m cm), EV (.int .i64 (k : Int)), EV (.int .i64 ((k1 : Nat) : Int)), EV (.pointer (some ⟨gl, k1 * 10, none⟩)), EV (.agg #[.int .u64 ((zl qx.num : Nat) : Int), .string (zh qx.num), .bool (zs qx.num), .int .u64 ((lo (fe qx) : Nat) : Int), .string (hs (fe qx)), .int .u64 ((zl qy.num : Nat) : Int), .string (zh qy.num), .bool (zs qy.num), .int .u64 ((lo (fe qy) : Nat) : Int), .string (hs (fe qy))]), EV (.slice (some ⟨gl, 0, none⟩) m cm), EV (.int .i64 (k : Int)), EV (.pointer (some ⟨gl, k * 10, none⟩)), EV (.agg #[.int .u64 ((zl rx.num : Nat) : Int), .string (zh rx.num), .bool (zs rx.num), .int .u64 ((lo (fe rx) : Nat) : Int), .string (hs (fe rx)), .int .u64 ((zl ry.num : Nat) : Int), .string (zh ry.num), .bool (zs ry.num), .int .u64 ((lo (fe ry) : Nat) : Int), .string (hs (fe ry))]), EV (.agg #[.int .u64 ((zl r9.num : Nat) : Int), .string (zh r9.num), .bool (zs r9.num), .int .u64 ((lo (fe r9) : Nat) : Int), .string (hs (fe r9))]), NewS (y3.heap.size, [.int .u64 ((zl r9.num : Nat) : Int), .string (zh r9.num), .bool (zs r9.num), .int .u64 ((lo (fe r9) : Nat) : Int), .string (hs (fe r9))], 1)] (by kernel_rfl) (by kernel_rfl) ?_ ?_ ?_
   ·repeat' first | exact stays_nil | apply stays_cons | exact stays_eq _ | exact stays_news _
   ·simp only [List.take_succ_cons, List.take_zero, hopsR, and_true]
    refine ⟨?_, ?_, ?_, ?_, ?_, ?_, ?_, ?_, ?_, ?_, ?_, ?_, ?_, ?_, ?_, ?_⟩ <;> intro fv w1 hb1 hp
    all_goals (simp only [putsV, Act.put, zP, Nat.zero_add, Nat.reduceAdd])
    ·refine tyAt_none rfl ?_
     simp [tyUpon, execOp, go_sem, Act.eval, k4, k5, k6, k7, k8, k9, ka, kb, kc.out, kd.out, Below.refl]
    ·refine tyAt_none rfl ?_
     simp [tyUpon, execOp, go_sem, Act.eval, k4, k5, k6, k7, k8, k9, ka, kb, kc.out, kd.out, Below.refl]
    ·refine tyAt_none rfl ?_
     simp [tyUpon, execOp, go_sem, Act.eval, k4, k5, k6, k7, k8, k9, ka, kb, kc.out, kd.out, Below.refl]
    ·have h2 : EV _ (fv 2) w1 := hp 2 (LC (by kernel_rfl))
     refine tyAt_none rfl ?_
     simp [tyUpon, execOp, go_sem, Act.eval, h2, k4, k5, k6, k7, k8, k9, ka, kb, kc.out, kd.out, Below.refl]
    ·have h3 : EV _ (fv 3) w1 := hp 3 (LC (by kernel_rfl))
     refine tyAt_none rfl ?_
     have hx := (hfx2.out.below (below_drew hb1)).cell 0 h0l.out
     have hy := (hfx2.out.below (below_drew hb1)).cell k1 h1l.out
     have hz := (hfx2.out.below (below_drew hb1)).cell k h2l.out
     rw [← hpx.out, ← hpy.out] at hx
     rw [← hqx.out, ← hqy.out] at hy
     rw [← hrx.out, ← hry.out] at hz
     rw [Nat.zero_mul] at hx
     simp only [Nat.zero_add] at hx
     simp [tyUpon, execOp, go_sem, Act.eval, h3, k4, k5, k6, k7, k8, k9, ka, kb, kc.out, kd.out, hx, hy, hz, Below.refl]
    ·refine tyAt_none rfl ?_
     simp [tyUpon, execOp, go_sem, Act.eval, k4, k5, k6, k7, k8, k9, ka, kb, kc.out, kd.out, Below.refl]
    ·refine tyAt_none rfl ?_
     simp [tyUpon, execOp, go_sem, Act.eval, k4, k5, k6, k7, k8, k9, ka, kb, kc.out, kd.out, Below.refl]
    ·have h6 : EV _ (fv 6) w1 := hp 6 (LC (by kernel_rfl))
     refine tyAt_none rfl ?_
     simp [tyUpon, execOp, go_sem, Act.eval, h6, k4, k5, k6, k7, k8, k9, ka, kb, kc.out, kd.out, Below.refl]
    ·have h5 : EV _ (fv 5) w1 := hp 5 (LC (by kernel_rfl))
     have h7 : EV _ (fv 7) w1 := hp 7 (LC (by kernel_rfl))
     refine tyAt_none rfl ?_
     simp [tyUpon, execOp, go_sem, Act.eval, h5, h7, k4, k5, k6, k7, k8, k9, ka, kb, kc.out, kd.out, Below.refl]
    ·have h8 : EV _ (fv 8) w1 := hp 8 (LC (by kernel_rfl))
     refine tyAt_none rfl ?_
     have hx := (hfx2.out.below (below_drew hb1)).cell 0 h0l.out
     have hy := (hfx2.out.below (below_drew hb1)).cell k1 h1l.out
     have hz := (hfx2.out.below (below_drew hb1)).cell k h2l.out
     rw [← hpx.out, ← hpy.out] at hx
     rw [← hqx.out, ← hqy.out] at hy
     rw [← hrx.out, ← hry.out] at hz
     rw [Nat.zero_mul] at hx
     simp only [Nat.zero_add] at hx
     simp [tyUpon, execOp, go_sem, Act.eval, h8, k4, k5, k6, k7, k8, k9, ka, kb, kc.out, kd.out, hx, hy, hz, Below.refl]
    ·refine tyAt_none rfl ?_
     simp [tyUpon, execOp, go_sem, Act.eval, k4, k5, k6, k7, k8, k9, ka, kb, kc.out, kd.out, Below.refl]
    ·refine tyAt_none rfl ?_
     simp [tyUpon, execOp, go_sem, Act.eval, k4, k5, k6, k7, k8, k9, ka, kb, kc.out, kd.out, Below.refl]
    ·have h10 : EV _ (fv 10) w1 := hp 10 (LC (by kernel_rfl))
     have h11 : EV _ (fv 11) w1 := hp 11 (LC (by kernel_rfl))
     refine tyAt_none rfl ?_
     simp [tyUpon, execOp, go_sem, Act.eval, h10, h11, k4, k5, k6, k7, k8, k9, ka, kb, kc.out, kd.out, Below.refl]
    ·have h12 : EV _ (fv 12) w1 := hp 12 (LC (by kernel_rfl))
     refine tyAt_none rfl ?_
     have hx := (hfx2.out.below (below_drew hb1)).cell 0 h0l.out
     have hy := (hfx2.out.below (below_drew hb1)).cell k1 h1l.out
     have hz := (hfx2.out.below (below_drew hb1)).cell k h2l.out
     rw [← hpx.out, ← hpy.out] at hx
     rw [← hqx.out, ← hqy.out] at hy
     rw [← hrx.out, ← hry.out] at hz
     rw [Nat.zero_mul] at hx
     simp only [Nat.zero_add] at hx
     simp [tyUpon, execOp, go_sem, Act.eval, h12, k4, k5, k6, k7, k8, k9, ka, kb, kc.out, kd.out, hx, hy, hz, Below.refl]
    ·have h1 : EV _ (fv 1) w1 := hp 1 (LC (by kernel_rfl))
     have h4 : EV _ (fv 4) w1 := hp 4 (LC (by kernel_rfl))
     have h9 : EV _ (fv 9) w1 := hp 9 (LC (by kernel_rfl))
     have h13 : EV _ (fv 13) w1 := hp 13 (LC (by kernel_rfl))
     refine tyAt_none rfl ?_
     refine ty_call (f := 10) (args := #[.slice ao n c, .agg #[.int .u64 ((zl px.num : Nat) : Int), .string (zh px.num), .bool (zs px.num), .int .u64 ((lo (fe px) : Nat) : Int), .string (hs (fe px)), .int .u64 ((zl py.num : Nat) : Int), .string (zh py.num), .bool (zs py.num), .int .u64 ((lo (fe py) : Nat) : Int), .string (hs (fe py))], .agg #[.int .u64 ((zl qx.num : Nat) : Int), .string (zh qx.num), .bool (zs qx.num), .int .u64 ((lo (fe qx) : Nat) : Int), .string (hs (fe qx)), .int .u64 ((zl qy.num : Nat) : Int), .string (zh qy.num), .bool (zs qy.num), .int .u64 ((lo (fe qy) : Nat) : Int), .string (hs (fe qy))], .agg #[.int .u64 ((zl rx.num : Nat) : Int), .string (zh rx.num), .bool (zs rx.num), .int .u64 ((lo (fe rx) : Nat) : Int), .string (hs (fe rx)), .int .u64 ((zl ry.num : Nat) : Int), .string (zh ry.num), .bool (zs ry.num), .int .u64 ((lo (fe ry) : Nat) : Int), .string (hs (fe ry))]]) (by simp [execOp, go_sem, Act.eval, h1, h4, h9, h13]) ?_
     exact (HT1.out w1 (below_drew hb1)).mono fun e w2 ⟨h1, h2⟩ => ⟨_, h1, rfl, h2⟩
    ·have h14 : EV _ (fv 14) w1 := hp 14 (LC (by kernel_rfl))
     refine tyAt_none rfl ?_
     refine ty_val8 (u := .slice (some ⟨w1.heap.size, 0, none⟩) 1 1) (w' := w1.alloc (.cells #[.int .u64 ((zl r9.num : Nat) : Int), .string (zh r9.num), .bool (zs r9.num), .int .u64 ((lo (fe r9) : Nat) : Int), .string (hs (fe r9))] 38)) (by simp [execOp, go_sem, Act.eval, h14]) ((Below.refl _ _).alloc (Nat.le_refl _) _) (news_mk (below_drew hb1).size)
   ·intro fv x61 hb1 hv
    have e0 : fv 0 = _ := hv 0 (by omega)
    have e1 : fv 1 = _ := hv 1 (by omega)
    have e2 : fv 2 = _ := hv 2 (by omega)
    have e3 : fv 3 = _ := hv 3 (by omega)
    have e4 : fv 4 = _ := hv 4 (by omega)
    have e5 : fv 5 = _ := hv 5 (by omega)
    have e6 : fv 6 = _ := hv 6 (by omega)
    have e7 : fv 7 = _ := hv 7 (by omega)
    have e8 : fv 8 = _ := hv 8 (by omega)
    have e9 : fv 9 = _ := hv 9 (by omega)
    have e10 : fv 10 = _ := hv 10 (by omega)
    have e11 : fv 11 = _ := hv 11 (by omega)
    have e12 : fv 12 = _ := hv 12 (by omega)
    have e13 : fv 13 = _ := hv 13 (by omega)
    have e14 : fv 14 = _ := hv 14 (by omega)
    have q15 : NewS ((y3.heap.size, [.int .u64 ((zl r9.num : Nat) : Int), .string (zh r9.num), .bool (zs r9.num), .int .u64 ((lo (fe r9) : Nat) : Int), .string (hs (fe r9))], 1)) (fv 15) x61 := hv 15 (by omega)
    obtain ⟨g1, e15, ng1, mg1⟩ := news_parts q15
    rw [e15] at q15
    simp only [List.take_succ_cons, List.take_zero, putsV, Act.put, zP, List.drop_succ_cons, List.drop_zero, Nat.zero_add, Nat.reduceAdd, e0, e1, e2, e3, e4, e5, e6, e7, e8, e9, e10, e11, e12, e13, e14, e15]
    replace hL0 := hL0.call (below_drew hb1)
    replace hS := hS.call (below_drew hb1)
    have hown7 := Lib.hid (own_below hown3.out (below_drew hb1))
    have hEw7 := Lib.hid (Nat.le_trans hEw3.out (below_drew hb1).size)
    have hBz7 := Lib.hid (hBz3.out.trans ((below_drew hb1).mono hBz3.out.size))
    clear e0 e1 e2 e3 e4 e5 e6 e7 e8 e9 e10 e11 e12 e13 e14 e15 hb1 hv q15 fv
    have hH := Lib.hid mg1
    go_wp2_with (at_builtin; refine wp_appendF rfl _ _ rfl x1.heap.size _ _ _ rfl hown7.out _ r9 rfl hH.out (by omega) hEw7.out ?_)
    intro v' w8 hown8 hgrow
    rw [← htk.out, show k - 2 + 1 = k + 1 - 2 by omega] at hown8
    have hL8 := gl_grown hL0 hgrow (fun z hz => ⟨Nat.le_trans hwE.out (hown7.out.lt z hz).1, fun p hp => Nat.ne_of_lt (Nat.lt_of_lt_of_le (hbs.out p hp) (hown7.out.lt z hz).1)⟩)
    have hBz8 := Lib.hid (hBz7.out.grown hgrow hBz7.out.size (fun z hz => (hown7.out.lt z hz).1))
    replace hown8 := Lib.hid hown8
    clear hgrow hown7 hEw7 hL0 hH hBz7
    go_wp2_with fail
    go_roundg (m - (k + 1))
    case measure => omega
    case rel => exact ⟨k + 1, _, _, by omega, by omega, by omega, rfl, by first | rfl | go_num, by omega, hown8.out, hBz8.out, hL8⟩
  ·subst hzi
   have kk : ¬ (k : Int) < (m : Int) := by omega
   have hvl : VL.length = k - 2 := by rw [hVLl.out]; omega
   have hsl := own_slq hown.out (by rw [List.length_take, hvl]; omega)
   rw [List.take_of_length_le (Nat.le_of_eq hvl)] at hsl
   replace hsl := Lib.hid hsl
   go_wp2_with fail
   with_reducible refine Calls.mono (HSm.out _ _ hsl.out) ?_
   rintro e y9 ⟨rfl, hb⟩
   replace hL0 := hL0.call hb
   clear hb
   have hA := hL0.fc
   simp only [zF, Nat.reduceAdd] at hA
   have hPt := hL0.put 0 b4 _ rfl [.int .u64 ((zl s.num : Nat) : Int), .string (zh s.num), .bool (zs s.num), .int .u64 ((lo (fe s) : Nat) : Int), .string (hs (fe s))] rfl
   simp only [setAll, List.set_cons_zero, List.set_cons_succ] at hPt
   generalize hput1 : (((((y9.setCell ⟨b4, 0, none⟩ (.int .u64 ((zl s.num : Nat) : Int))).setCell ⟨b4, 1, none⟩ (.string (zh s.num))).setCell ⟨b4, 2, none⟩ (.bool (zs s.num))).setCell ⟨b4, 3, none⟩ (.int .u64 ((lo (fe s) : Nat) : Int))).setCell ⟨b4, 4, none⟩ (.string (hs (fe s)))) = y10 at hPt
   have hB1 := hPt.fc
   simp only [zF, Nat.reduceAdd] at hB1
   go_wp2_with fail
   exact bodyPost_ret (v := fracV s) (by simp [results, Tryz.results29, go_sem, hB1]) rfl ⟨rfl, hPt.bl⟩
end Go.Proofs.YtkdbhacimoaohaaGreatDoor
namespace Go.Proofs.YtkdbhacimoaohaaGreatDoor
open Go.RowKit
attribute [local irreducible] lo hs sm s64 c64 d64 b64 mh ml pd pc qd qc val hiB str cmpI srD lz nb zl zh zs fe klT ordZ
theorem moment9_neg (tw zr : Rat) (H2 : ∀ w, Calls Tryz.prog 20 #[.int .i64 2] w fun xe w' => xe = .returned (fracV tw) ∧ Below w.heap.size w w') (H0 : ∀ w, Calls Tryz.prog 20 #[.int .i64 0] w fun xe w' => xe = .returned (fracV zr) ∧ Below w.heap.size w w') (w : World) :
  Calls Tryz.prog 34 #[.int .i64 (-1), .int .i64 0, .int .i64 0] w fun xe w' => xe = .returned (fracV zr) ∧ Below w.heap.size w w' := by
 have hL0 : GL w w [] := GL.start w
 replace H2 := Lib.hid H2
 replace H0 := Lib.hid H0
 have ix0 := idx3_0 (-1) 0 0
 obtain ⟨x1, hweq, hL0⟩ := GL.named (hL0.new rfl [.int .u64 0, .string ⟨#[]⟩, .bool false, .int .u64 0, .string ⟨#[]⟩] 38)
 go_enter Tryz.func34, Tryz.ntmps34
 go_wp2_with fail
 with_reducible refine Calls.mono (H2.out _) ?_
 rintro e x2 ⟨rfl, hb⟩
 replace hL0 := hL0.call hb
 clear hb hweq
 obtain ⟨x3, hweq, hL0⟩ := GL.named (hL0.new rfl [.int .u64 ((zl tw.num : Nat) : Int), .string (zh tw.num), .bool (zs tw.num), .int .u64 ((lo (fe tw) : Nat) : Int), .string (hs (fe tw))] 38)
 go_wp2_with fail
 clear hweq
 go_loopg [8, 16] 1 (fun gk nv iv wr => nv = .int .i64 2 ∧ iv = .int .i64 0 ∧ GL w wr [(x2.heap.size, [.int .u64 ((zl tw.num : Nat) : Int), .string (zh tw.num), .bool (zs tw.num), .int .u64 ((lo (fe tw) : Nat) : Int), .string (hs (fe tw))]), (w.heap.size, [.int .u64 0, .string ⟨#[]⟩, .bool false, .int .u64 0, .string ⟨#[]⟩])])
 case atStart => exact ⟨by first | rfl | go_num, by first | rfl | go_num, hL0⟩
 case round =>
  clear hL0
  obtain ⟨rfl, rfl, hL0⟩ := hrel
  go_wp2_with fail
  with_reducible refine Calls.mono (H0.out _) ?_
  rintro e x4 ⟨rfl, hb⟩
  replace hL0 := hL0.call hb
  clear hb
  have hA := hL0.fc
  simp only [zF, Nat.reduceAdd] at hA
  obtain ⟨x5, hput1, hP⟩ := GL.named (hL0.put 1 (w.heap.size) _ rfl [.int .u64 ((zl zr.num : Nat) : Int), .string (zh zr.num), .bool (zs zr.num), .int .u64 ((lo (fe zr) : Nat) : Int), .string (hs (fe zr))] rfl)
  simp only [setAll] at hput1
  simp only [List.set_cons_zero, List.set_cons_succ] at hP
  have hB1 := hP.fc
  simp only [zF, Nat.reduceAdd] at hB1
  replace hL0 := hP
  go_wp2_with fail
  exact bodyPost_ret (v := .agg #[.int .u64 ((zl zr.num : Nat) : Int), .string (zh zr.num), .bool (zs zr.num), .int .u64 ((lo (fe zr) : Nat) : Int), .string (hs (fe zr))]) (by simp [results, Tryz.results34, go_sem, hB1]) rfl ⟨rfl, hL0.bl⟩
end Go.Proofs.YtkdbhacimoaohaaGreatDoor
namespace Go.Proofs.YtkdbhacimoaohaaGreatDoor
open Go.RowKit
attribute [local irreducible] lo hs sm s64 c64 d64 b64 mh ml pd pc qd qc val hiB str cmpI srD lz nb zl zh zs fe klT ordZ
abbrev PPL (l : List Pt) : Value → World → Prop := fun v w => PL w v l
theorem stays_pl (l : List Pt) : Stays (PPL l) := fun _ _ _ hb h => h.below hb
theorem pl_of4 {w : World} {g c : Nat} {a0 a1 a2 a3 : Pt} (h : Hd w g [.int .u64 ((zl a0.x.num : Nat) : Int), .string (zh a0.x.num), .bool (zs a0.x.num), .int .u64 ((lo (fe a0.x) : Nat) : Int), .string (hs (fe a0.x)), .int .u64 ((zl a0.y.num : Nat) : Int), .string (zh a0.y.num), .bool (zs a0.y.num), .int .u64 ((lo (fe a0.y) : Nat) : Int), .string (hs (fe a0.y)), .int .u64 ((zl a1.x.num : Nat) : Int), .string (zh a1.x.num), .bool (zs a1.x.num), .int .u64 ((lo (fe a1.x) : Nat) : Int), .string (hs (fe a1.x)), .int .u64 ((zl a1.y.num : Nat) : Int), .string (zh a1.y.num), .bool (zs a1.y.num), .int .u64 ((lo (fe a1.y) : Nat) : Int), .string (hs (fe a1.y)), .int .u64 ((zl a2.x.num : Nat) : Int), .string (zh a2.x.num), .bool (zs a2.x.num), .int .u64 ((lo (fe a2.x) : Nat) : Int), .string (hs (fe a2.x)), .int .u64 ((zl a2.y.num : Nat) : Int), .string (zh a2.y.num), .bool (zs a2.y.num), .int .u64 ((lo (fe a2.y) : Nat) : Int), .string (hs (fe a2.y)), .int .u64 ((zl a3.x.num : Nat) : Int), .string (zh a3.x.num), .bool (zs a3.x.num), .int .u64 ((lo (fe a3.x) : Nat) : Int), .string (hs (fe a3.x)), .int .u64 ((zl a3.y.num : Nat) : Int), .string (zh a3.y.num), .bool (zs a3.y.num), .int .u64 ((lo (fe a3.y) : Nat) : Int), .string (hs (fe a3.y))]) : PL w (.slice (some ⟨g, 0, none⟩) 4 c) [a0, a1, a2, a3] :=
 .inr ⟨g, c, rfl, ⟨fun i hi => by
  rcases (show i = 0 ∨ i = 1 ∨ i = 2 ∨ i = 3 by simp at hi; omega) with rfl | rfl | rfl | rfl
  ·exact ⟨h.cell 0 (by simp), h.cell 1 (by simp), h.cell 2 (by simp), h.cell 3 (by simp), h.cell 4 (by simp), h.cell 5 (by simp), h.cell 6 (by simp), h.cell 7 (by simp), h.cell 8 (by simp), h.cell 9 (by simp)⟩
  ·exact ⟨h.cell 10 (by simp), h.cell 11 (by simp), h.cell 12 (by simp), h.cell 13 (by simp), h.cell 14 (by simp), h.cell 15 (by simp), h.cell 16 (by simp), h.cell 17 (by simp), h.cell 18 (by simp), h.cell 19 (by simp)⟩
  ·exact ⟨h.cell 20 (by simp), h.cell 21 (by simp), h.cell 22 (by simp), h.cell 23 (by simp), h.cell 24 (by simp), h.cell 25 (by simp), h.cell 26 (by simp), h.cell 27 (by simp), h.cell 28 (by simp), h.cell 29 (by simp)⟩
  ·exact ⟨h.cell 30 (by simp), h.cell 31 (by simp), h.cell 32 (by simp), h.cell 33 (by simp), h.cell 34 (by simp), h.cell 35 (by simp), h.cell 36 (by simp), h.cell 37 (by simp), h.cell 38 (by simp), h.cell 39 (by simp)⟩, h.lt⟩⟩
theorem works9_w (ox oy ex ey nx ny tx ty sx sy cx cy on qa qb qc qd qe ta tb tc td pg sg fl : Rat) (pk pX pY pXY pXX : List TI) (Ato : ∀ w, Calls Tryz.prog 23 #[.int .i64 0, .int .i64 0] w fun xe w' => xe = .returned (.agg #[.int .u64 ((zl ox.num : Nat) : Int), .string (zh ox.num), .bool (zs ox.num), .int .u64 ((lo (fe ox) : Nat) : Int), .string (hs (fe ox)), .int .u64 ((zl oy.num : Nat) : Int), .string (zh oy.num), .bool (zs oy.num), .int .u64 ((lo (fe oy) : Nat) : Int), .string (hs (fe oy))]) ∧ Below w.heap.size w w') (Ate : ∀ w, Calls Tryz.prog 23 #[.int .i64 1, .int .i64 0] w fun xe w' => xe = .returned (.agg #[.int .u64 ((zl ex.num : Nat) : Int), .string (zh ex.num), .bool (zs ex.num), .int .u64 ((lo (fe ex) : Nat) : Int), .string (hs (fe ex)), .int .u64 ((zl ey.num : Nat) : Int), .string (zh ey.num), .bool (zs ey.num), .int .u64 ((lo (fe ey) : Nat) : Int), .string (hs (fe ey))]) ∧ Below w.heap.size w w') (Atn : ∀ w, Calls Tryz.prog 23 #[.int .i64 0, .int .i64 1] w fun xe w' => xe = .returned (.agg #[.int .u64 ((zl nx.num : Nat) : Int), .string (zh nx.num), .bool (zs nx.num), .int .u64 ((lo (fe nx) : Nat) : Int), .string (hs (fe nx)), .int .u64 ((zl ny.num : Nat) : Int), .string (zh ny.num), .bool (zs ny.num), .int .u64 ((lo (fe ny) : Nat) : Int), .string (hs (fe ny))]) ∧ Below w.heap.size w w') (Att : ∀ w, Calls Tryz.prog 23 #[.int .i64 2, .int .i64 0] w fun xe w' => xe = .returned (.agg #[.int .u64 ((zl tx.num : Nat) : Int), .string (zh tx.num), .bool (zs tx.num), .int .u64 ((lo (fe tx) : Nat) : Int), .string (hs (fe tx)), .int .u64 ((zl ty.num : Nat) : Int), .string (zh ty.num), .bool (zs ty.num), .int .u64 ((lo (fe ty) : Nat) : Int), .string (hs (fe ty))]) ∧ Below w.heap.size w w') (Ats : ∀ w, Calls Tryz.prog 23 #[.int .i64 2, .int .i64 1] w fun xe w' => xe = .returned (.agg #[.int .u64 ((zl sx.num : Nat) : Int), .string (zh sx.num), .bool (zs sx.num), .int .u64 ((lo (fe sx) : Nat) : Int), .string (hs (fe sx)), .int .u64 ((zl sy.num : Nat) : Int), .string (zh sy.num), .bool (zs sy.num), .int .u64 ((lo (fe sy) : Nat) : Int), .string (hs (fe sy))]) ∧ Below w.heap.size w w') (Atc : ∀ w, Calls Tryz.prog 23 #[.int .i64 1, .int .i64 1] w fun xe w' => xe = .returned (.agg #[.int .u64 ((zl cx.num : Nat) : Int), .string (zh cx.num), .bool (zs cx.num), .int .u64 ((lo (fe cx) : Nat) : Int), .string (hs (fe cx)), .int .u64 ((zl cy.num : Nat) : Int), .string (zh cy.num), .bool (zs cy.num), .int .u64 ((lo (fe cy) : Nat) : Int), .string (hs (fe cy))]) ∧ Below w.heap.size w w') (I1 : ∀ w, Calls Tryz.prog 20 #[.int .i64 1] w fun xe w' => xe = .returned (fracV on) ∧ Below w.heap.size w w') (Ck : ∀ (w : World), Calls Tryz.prog 19 #[fracV on] w fun e w' => ∃ pv, e = .returned pv ∧ PT w' pv pk ∧ Below w.heap.size w w') (Cx : ∀ (w : World), Calls Tryz.prog 30 #[] w fun e w' => ∃ pv, e = .returned pv ∧ PT w' pv pX ∧ Below w.heap.size w w') (Cy : ∀ (w : World), Calls Tryz.prog 31 #[] w fun e w' => ∃ pv, e = .returned pv ∧ PT w' pv pY ∧ Below w.heap.size w w') (Mxy : ∀ (p0 p1 : Value) (w : World), PT w p0 pX → PT w p1 pY → Calls Tryz.prog 32 #[p0, p1] w fun e w' => ∃ pv, e = .returned (.tuple #[pv, .int .i64 0]) ∧ PT w' pv pXY ∧ Below w.heap.size w w') (Mxx : ∀ (p0 p1 : Value) (w : World), PT w p0 pX → PT w p1 pX → Calls Tryz.prog 32 #[p0, p1] w fun e w' => ∃ pv, e = .returned (.tuple #[pv, .int .i64 0]) ∧ PT w' pv pXX ∧ Below w.heap.size w w') (Moqa : ∀ w, Calls Tryz.prog 34 #[.int .i64 0, .int .i64 0, .int .i64 0] w fun xe w' => xe = .returned (fracV qa) ∧ Below w.heap.size w w') (KT : World → Prop) (hKT : Keeps KT) (Isqa : ∀ w, KT w → Calls Tryz.prog 33 #[fracV qa, .int .i64 1, .int .i64 1] w fun xe w' => xe = .returned (.bool true) ∧ Below w.heap.size w w') (Moqb : ∀ w, Calls Tryz.prog 34 #[.int .i64 1, .int .i64 0, .int .i64 0] w fun xe w' => xe = .returned (fracV qb) ∧ Below w.heap.size w w') (Isqb : ∀ w, KT w → Calls Tryz.prog 33 #[fracV qb, .int .i64 1, .int .i64 3] w fun xe w' => xe = .returned (.bool true) ∧ Below w.heap.size w w') (Moqc : ∀ w, Calls Tryz.prog 34 #[.int .i64 1, .int .i64 1, .int .i64 0] w fun xe w' => xe = .returned (fracV qc) ∧ Below w.heap.size w w') (Isqc : ∀ w, KT w → Calls Tryz.prog 33 #[fracV qc, .int .i64 1, .int .i64 12] w fun xe w' => xe = .returned (.bool true) ∧ Below w.heap.size w w') (Moqd : ∀ w, Calls Tryz.prog 34 #[.int .i64 2, .int .i64 0, .int .i64 0] w fun xe w' => xe = .returned (fracV qd) ∧ Below w.heap.size w w') (Isqd : ∀ w, KT w → Calls Tryz.prog 33 #[fracV qd, .int .i64 1, .int .i64 6] w fun xe w' => xe = .returned (.bool true) ∧ Below w.heap.size w w') (Moqe : ∀ w, Calls Tryz.prog 34 #[.int .i64 (-1), .int .i64 0, .int .i64 0] w fun xe w' => xe = .returned (fracV qe) ∧ Below w.heap.size w w') (Isqe : ∀ w, KT w → Calls Tryz.prog 33 #[fracV qe, .int .i64 0, .int .i64 1] w fun xe w' => xe = .returned (.bool true) ∧ Below w.heap.size w w') (Trta : ∀ (p0 : Value) (w : World), PT w p0 pk → Calls Tryz.prog 10 #[p0, .agg #[.int .u64 ((zl ox.num : Nat) : Int), .string (zh ox.num), .bool (zs ox.num), .int .u64 ((lo (fe ox) : Nat) : Int), .string (hs (fe ox)), .int .u64 ((zl oy.num : Nat) : Int), .string (zh oy.num), .bool (zs oy.num), .int .u64 ((lo (fe oy) : Nat) : Int), .string (hs (fe oy))], .agg #[.int .u64 ((zl ex.num : Nat) : Int), .string (zh ex.num), .bool (zs ex.num), .int .u64 ((lo (fe ex) : Nat) : Int), .string (hs (fe ex)), .int .u64 ((zl ey.num : Nat) : Int), .string (zh ey.num), .bool (zs ey.num), .int .u64 ((lo (fe ey) : Nat) : Int), .string (hs (fe ey))], .agg #[.int .u64 ((zl nx.num : Nat) : Int), .string (zh nx.num), .bool (zs nx.num), .int .u64 ((lo (fe nx) : Nat) : Int), .string (hs (fe nx)), .int .u64 ((zl ny.num : Nat) : Int), .string (zh ny.num), .bool (zs ny.num), .int .u64 ((lo (fe ny) : Nat) : Int), .string (hs (fe ny))]] w fun e w' => e = .returned (fracV ta) ∧ Below w.heap.size w w') (Ista : ∀ w, KT w → Calls Tryz.prog 33 #[fracV ta, .int .i64 1, .int .i64 2] w fun xe w' => xe = .returned (.bool true) ∧ Below w.heap.size w w') (Trtb : ∀ (p0 : Value) (w : World), PT w p0 pXY → Calls Tryz.prog 10 #[p0, .agg #[.int .u64 ((zl ox.num : Nat) : Int), .string (zh ox.num), .bool (zs ox.num), .int .u64 ((lo (fe ox) : Nat) : Int), .string (hs (fe ox)), .int .u64 ((zl oy.num : Nat) : Int), .string (zh oy.num), .bool (zs oy.num), .int .u64 ((lo (fe oy) : Nat) : Int), .string (hs (fe oy))], .agg #[.int .u64 ((zl ex.num : Nat) : Int), .string (zh ex.num), .bool (zs ex.num), .int .u64 ((lo (fe ex) : Nat) : Int), .string (hs (fe ex)), .int .u64 ((zl ey.num : Nat) : Int), .string (zh ey.num), .bool (zs ey.num), .int .u64 ((lo (fe ey) : Nat) : Int), .string (hs (fe ey))], .agg #[.int .u64 ((zl nx.num : Nat) : Int), .string (zh nx.num), .bool (zs nx.num), .int .u64 ((lo (fe nx) : Nat) : Int), .string (hs (fe nx)), .int .u64 ((zl ny.num : Nat) : Int), .string (zh ny.num), .bool (zs ny.num), .int .u64 ((lo (fe ny) : Nat) : Int), .string (hs (fe ny))]] w fun e w' => e = .returned (fracV tb) ∧ Below w.heap.size w w') (Istb : ∀ w, KT w → Calls Tryz.prog 33 #[fracV tb, .int .i64 1, .int .i64 24] w fun xe w' => xe = .returned (.bool true) ∧ Below w.heap.size w w') (Trtc : ∀ (p0 : Value) (w : World), PT w p0 pXX → Calls Tryz.prog 10 #[p0, .agg #[.int .u64 ((zl ox.num : Nat) : Int), .string (zh ox.num), .bool (zs ox.num), .int .u64 ((lo (fe ox) : Nat) : Int), .string (hs (fe ox)), .int .u64 ((zl oy.num : Nat) : Int), .string (zh oy.num), .bool (zs oy.num), .int .u64 ((lo (fe oy) : Nat) : Int), .string (hs (fe oy))], .agg #[.int .u64 ((zl ex.num : Nat) : Int), .string (zh ex.num), .bool (zs ex.num), .int .u64 ((lo (fe ex) : Nat) : Int), .string (hs (fe ex)), .int .u64 ((zl ey.num : Nat) : Int), .string (zh ey.num), .bool (zs ey.num), .int .u64 ((lo (fe ey) : Nat) : Int), .string (hs (fe ey))], .agg #[.int .u64 ((zl nx.num : Nat) : Int), .string (zh nx.num), .bool (zs nx.num), .int .u64 ((lo (fe nx) : Nat) : Int), .string (hs (fe nx)), .int .u64 ((zl ny.num : Nat) : Int), .string (zh ny.num), .bool (zs ny.num), .int .u64 ((lo (fe ny) : Nat) : Int), .string (hs (fe ny))]] w fun e w' => e = .returned (fracV tc) ∧ Below w.heap.size w w') (Istc : ∀ w, KT w → Calls Tryz.prog 33 #[fracV tc, .int .i64 1, .int .i64 12] w fun xe w' => xe = .returned (.bool true) ∧ Below w.heap.size w w') (Trtd : ∀ (p0 : Value) (w : World), PT w p0 pX → Calls Tryz.prog 10 #[p0, .agg #[.int .u64 ((zl ox.num : Nat) : Int), .string (zh ox.num), .bool (zs ox.num), .int .u64 ((lo (fe ox) : Nat) : Int), .string (hs (fe ox)), .int .u64 ((zl oy.num : Nat) : Int), .string (zh oy.num), .bool (zs oy.num), .int .u64 ((lo (fe oy) : Nat) : Int), .string (hs (fe oy))], .agg #[.int .u64 ((zl nx.num : Nat) : Int), .string (zh nx.num), .bool (zs nx.num), .int .u64 ((lo (fe nx) : Nat) : Int), .string (hs (fe nx)), .int .u64 ((zl ny.num : Nat) : Int), .string (zh ny.num), .bool (zs ny.num), .int .u64 ((lo (fe ny) : Nat) : Int), .string (hs (fe ny))], .agg #[.int .u64 ((zl ex.num : Nat) : Int), .string (zh ex.num), .bool (zs ex.num), .int .u64 ((lo (fe ex) : Nat) : Int), .string (hs (fe ex)), .int .u64 ((zl ey.num : Nat) : Int), .string (zh ey.num), .bool (zs ey.num), .int .u64 ((lo (fe ey) : Nat) : Int), .string (hs (fe ey))]] w fun e w' => e = .returned (fracV td) ∧ Below w.heap.size w w') (Istd : ∀ w, KT w → Calls Tryz.prog 33 #[fracV td, .int .i64 (-1), .int .i64 6] w fun xe w' => xe = .returned (.bool true) ∧ Below w.heap.size w w') (Pg : ∀ (p0 p1 : Value) (w : World), PT w p0 pX → PL w p1 ([⟨ox, oy⟩, ⟨tx, ty⟩, ⟨sx, sy⟩, ⟨nx, ny⟩]) → Calls Tryz.prog 29 #[p0, p1] w fun e w' => e = .returned (fracV pg) ∧ Below w.heap.size w w') (Ispg : ∀ w, KT w → Calls Tryz.prog 33 #[fracV pg, .int .i64 2, .int .i64 1] w fun xe w' => xe = .returned (.bool true) ∧ Below w.heap.size w w') (Sg : ∀ (p0 : Value) (w : World), PT w p0 pXX → Calls Tryz.prog 27 #[p0, .agg #[.int .u64 ((zl ox.num : Nat) : Int), .string (zh ox.num), .bool (zs ox.num), .int .u64 ((lo (fe ox) : Nat) : Int), .string (hs (fe ox)), .int .u64 ((zl oy.num : Nat) : Int), .string (zh oy.num), .bool (zs oy.num), .int .u64 ((lo (fe oy) : Nat) : Int), .string (hs (fe oy))], .agg #[.int .u64 ((zl sx.num : Nat) : Int), .string (zh sx.num), .bool (zs sx.num), .int .u64 ((lo (fe sx) : Nat) : Int), .string (hs (fe sx)), .int .u64 ((zl sy.num : Nat) : Int), .string (zh sy.num), .bool (zs sy.num), .int .u64 ((lo (fe sy) : Nat) : Int), .string (hs (fe sy))]] w fun e w' => e = .returned (fracV sg) ∧ Below w.heap.size w w') (Issg : ∀ w, KT w → Calls Tryz.prog 33 #[fracV sg, .int .i64 4, .int .i64 3] w fun xe w' => xe = .returned (.bool true) ∧ Below w.heap.size w w') (Fl : ∀ (p0 p1 : Value) (w : World), PT w p0 pX → PT w p1 ([]) → Calls Tryz.prog 15 #[p0, p1, .agg #[.int .u64 ((zl ex.num : Nat) : Int), .string (zh ex.num), .bool (zs ex.num), .int .u64 ((lo (fe ex) : Nat) : Int), .string (hs (fe ex)), .int .u64 ((zl ey.num : Nat) : Int), .string (zh ey.num), .bool (zs ey.num), .int .u64 ((lo (fe ey) : Nat) : Int), .string (hs (fe ey))], .agg #[.int .u64 ((zl cx.num : Nat) : Int), .string (zh cx.num), .bool (zs cx.num), .int .u64 ((lo (fe cx) : Nat) : Int), .string (hs (fe cx)), .int .u64 ((zl cy.num : Nat) : Int), .string (zh cy.num), .bool (zs cy.num), .int .u64 ((lo (fe cy) : Nat) : Int), .string (hs (fe cy))]] w fun e w' => e = .returned (fracV fl) ∧ Below w.heap.size w w') (Isfl : ∀ w, KT w → Calls Tryz.prog 33 #[fracV fl, .int .i64 1, .int .i64 1] w fun xe w' => xe = .returned (.bool true) ∧ Below w.heap.size w w') (w : World) (kKT : KT w) :
  Calls Tryz.prog 7 #[] w fun e w' => e = .returned (.bool true) ∧ Below w.heap.size w w' := by
 replace Ato := Lib.hid Ato
 replace Ate := Lib.hid Ate
 replace Atn := Lib.hid Atn
 replace Att := Lib.hid Att
 replace Ats := Lib.hid Ats
 replace Atc := Lib.hid Atc
 replace I1 := Lib.hid I1
 replace Ck := Lib.hid Ck
 replace Cx := Lib.hid Cx
 replace Cy := Lib.hid Cy
 replace Mxy := Lib.hid Mxy
 replace Mxx := Lib.hid Mxx
 replace Moqa := Lib.hid Moqa
 replace hKT := Lib.hid hKT
 replace Isqa := Lib.hid Isqa
 replace Moqb := Lib.hid Moqb
 replace Isqb := Lib.hid Isqb
 replace Moqc := Lib.hid Moqc
 replace Isqc := Lib.hid Isqc
 replace Moqd := Lib.hid Moqd
 replace Isqd := Lib.hid Isqd
 replace Moqe := Lib.hid Moqe
 replace Isqe := Lib.hid Isqe
 replace Trta := Lib.hid Trta
 replace Ista := Lib.hid Ista
 replace Trtb := Lib.hid Trtb
 replace Istb := Lib.hid Istb
 replace Trtc := Lib.hid Trtc
 replace Istc := Lib.hid Istc
 replace Trtd := Lib.hid Trtd
 replace Istd := Lib.hid Istd
 replace Pg := Lib.hid Pg
 replace Ispg := Lib.hid Ispg
 replace Sg := Lib.hid Sg
 replace Issg := Lib.hid Issg
 replace Fl := Lib.hid Fl
 replace Isfl := Lib.hid Isfl
 have hL0 : GL w w [] := GL.start w
 have hT : PTs w [] := PTs.nil w
 go_enter Tryz.func7, Tryz.ntmps7
 go_wp2_with fail
 with_reducible refine Calls.mono (Ato.out _) ?_
 rintro e x1 ⟨rfl, hb⟩
 replace hL0 := hL0.call hb
 replace hT := hT.call hb
 clear hb
 go_wp2_with fail
 with_reducible refine Calls.mono (Ate.out _) ?_
 rintro e x2 ⟨rfl, hb⟩
 replace hL0 := hL0.call hb
 replace hT := hT.call hb
 clear hb
 go_wp2_with fail
 with_reducible refine Calls.mono (Atn.out _) ?_
 rintro e x3 ⟨rfl, hb⟩
 replace hL0 := hL0.call hb
 replace hT := hT.call hb
 clear hb
 replace hT := (((hT.new (.cells #[.int .u64 ((zl ox.num : Nat) : Int), .string (zh ox.num), .bool (zs ox.num), .int .u64 ((lo (fe ox) : Nat) : Int), .string (hs (fe ox)), .int .u64 ((zl oy.num : Nat) : Int), .string (zh oy.num), .bool (zs oy.num), .int .u64 ((lo (fe oy) : Nat) : Int), .string (hs (fe oy))] 39)).new (.cells #[.int .u64 ((zl ex.num : Nat) : Int), .string (zh ex.num), .bool (zs ex.num), .int .u64 ((lo (fe ex) : Nat) : Int), .string (hs (fe ex)), .int .u64 ((zl ey.num : Nat) : Int), .string (zh ey.num), .bool (zs ey.num), .int .u64 ((lo (fe ey) : Nat) : Int), .string (hs (fe ey))] 39)).new (.cells #[.int .u64 ((zl nx.num : Nat) : Int), .string (zh nx.num), .bool (zs nx.num), .int .u64 ((lo (fe nx) : Nat) : Int), .string (hs (fe nx)), .int .u64 ((zl ny.num : Nat) : Int), .string (zh ny.num), .bool (zs ny.num), .int .u64 ((lo (fe ny) : Nat) : Int), .string (hs (fe ny))] 39))
 replace hL0 := (((hL0.new rfl [.int .u64 ((zl ox.num : Nat) : Int), .string (zh ox.num), .bool (zs ox.num), .int .u64 ((lo (fe ox) : Nat) : Int), .string (hs (fe ox)), .int .u64 ((zl oy.num : Nat) : Int), .string (zh oy.num), .bool (zs oy.num), .int .u64 ((lo (fe oy) : Nat) : Int), .string (hs (fe oy))] 39).new (K := x3.heap.size + 1) (szA _ _) [.int .u64 ((zl ex.num : Nat) : Int), .string (zh ex.num), .bool (zs ex.num), .int .u64 ((lo (fe ex) : Nat) : Int), .string (hs (fe ex)), .int .u64 ((zl ey.num : Nat) : Int), .string (zh ey.num), .bool (zs ey.num), .int .u64 ((lo (fe ey) : Nat) : Int), .string (hs (fe ey))] 39).new (K := x3.heap.size + 1 + 1) (by simp only [World.size_alloc]) [.int .u64 ((zl nx.num : Nat) : Int), .string (zh nx.num), .bool (zs nx.num), .int .u64 ((lo (fe nx) : Nat) : Int), .string (hs (fe nx)), .int .u64 ((zl ny.num : Nat) : Int), .string (zh ny.num), .bool (zs ny.num), .int .u64 ((lo (fe ny) : Nat) : Int), .string (hs (fe ny))] 39)
 generalize hweq : (((x3.alloc (.cells #[.int .u64 ((zl ox.num : Nat) : Int), .string (zh ox.num), .bool (zs ox.num), .int .u64 ((lo (fe ox) : Nat) : Int), .string (hs (fe ox)), .int .u64 ((zl oy.num : Nat) : Int), .string (zh oy.num), .bool (zs oy.num), .int .u64 ((lo (fe oy) : Nat) : Int), .string (hs (fe oy))] 39)).alloc (.cells #[.int .u64 ((zl ex.num : Nat) : Int), .string (zh ex.num), .bool (zs ex.num), .int .u64 ((lo (fe ex) : Nat) : Int), .string (hs (fe ex)), .int .u64 ((zl ey.num : Nat) : Int), .string (zh ey.num), .bool (zs ey.num), .int .u64 ((lo (fe ey) : Nat) : Int), .string (hs (fe ey))] 39)).alloc (.cells #[.int .u64 ((zl nx.num : Nat) : Int), .string (zh nx.num), .bool (zs nx.num), .int .u64 ((lo (fe nx) : Nat) : Int), .string (hs (fe nx)), .int .u64 ((zl ny.num : Nat) : Int), .string (zh ny.num), .bool (zs ny.num), .int .u64 ((lo (fe ny) : Nat) : Int), .string (hs (fe ny))] 39)) = x4 at hL0 hT
 go_wp2_with fail
 with_reducible refine Calls.mono (I1.out _) ?_
 rintro e x5 ⟨rfl, hb⟩
 replace hL0 := hL0.call hb
 replace hT := hT.call hb
 clear hb hweq
 go_wp2_with fail
 with_reducible refine Calls.mono (Ck.out _) ?_
 rintro e x6 ⟨v0, rfl, q0, hb⟩
 replace hL0 := hL0.call hb
 replace hT := hT.call hb
 clear hb
 obtain ⟨g1, d1, g1c, rfl, -⟩ := pt_form q0
 replace hT := hT.cons q0
 clear q0
 go_wp2_with fail
 with_reducible refine Calls.mono (Cx.out _) ?_
 rintro e x7 ⟨v0, rfl, q0, hb⟩
 replace hL0 := hL0.call hb
 replace hT := hT.call hb
 clear hb
 obtain ⟨g2, d2, g2c, rfl, -⟩ := pt_form q0
 replace hT := hT.cons q0
 clear q0
 go_wp2_with fail
 with_reducible refine Calls.mono (Cy.out _) ?_
 rintro e x8 ⟨v0, rfl, q0, hb⟩
 replace hL0 := hL0.call hb
 replace hT := hT.call hb
 clear hb
 obtain ⟨g3, d3, g3c, rfl, -⟩ := pt_form q0
 replace hT := hT.cons q0
 clear q0
 go_wp2_with fail
 with_reducible refine Calls.mono (Mxy.out (.slice g2 d2 g2c) (.slice g3 d3 g3c) _ (hT.get (mK mZ)) (hT.get mZ)) ?_
 rintro e x9 ⟨v0, rfl, q0, hb⟩
 replace hL0 := hL0.call hb
 replace hT := hT.call hb
 clear hb
 obtain ⟨g4, d4, g4c, rfl, -⟩ := pt_form q0
 replace hT := hT.cons q0
 clear q0
 go_wp2_with fail
 with_reducible refine Calls.mono (Mxx.out (.slice g2 d2 g2c) (.slice g2 d2 g2c) _ (hT.get (mK (mK mZ))) (hT.get (mK (mK mZ)))) ?_
 rintro e x10 ⟨v0, rfl, q0, hb⟩
 replace hL0 := hL0.call hb
 replace hT := hT.call hb
 clear hb
 obtain ⟨g5, d5, g5c, rfl, -⟩ := pt_form q0
 replace hT := hT.cons q0
 clear q0
 go_wp2_with fail
 with_reducible refine Calls.mono (Moqa.out _) ?_
 rintro e x11 ⟨rfl, hb⟩
 replace hL0 := hL0.call hb
 replace hT := hT.call hb
 clear hb
 go_wp2_with fail
 with_reducible refine Calls.mono (Isqa.out _ (hKT.out.at hL0.bl kKT)) ?_
 rintro e x12 ⟨rfl, hb⟩
 replace hL0 := hL0.call hb
 replace hT := hT.call hb
 clear hb
 go_wp2_with fail
 with_reducible refine Calls.mono (Moqb.out _) ?_
 rintro e x13 ⟨rfl, hb⟩
 replace hL0 := hL0.call hb
 replace hT := hT.call hb
 clear hb
 go_wp2_with fail
 with_reducible refine Calls.mono (Isqb.out _ (hKT.out.at hL0.bl kKT)) ?_
 rintro e x14 ⟨rfl, hb⟩
 replace hL0 := hL0.call hb
 replace hT := hT.call hb
 clear hb
 go_wp2_with fail
 with_reducible refine Calls.mono (Moqc.out _) ?_
 rintro e x15 ⟨rfl, hb⟩
 replace hL0 := hL0.call hb
 replace hT := hT.call hb
 clear hb
 go_wp2_with fail
 with_reducible refine Calls.mono (Isqc.out _ (hKT.out.at hL0.bl kKT)) ?_
 rintro e x16 ⟨rfl, hb⟩
 replace hL0 := hL0.call hb
 replace hT := hT.call hb
 clear hb
 go_wp2_with fail
 with_reducible refine Calls.mono (Moqd.out _) ?_
 rintro e x17 ⟨rfl, hb⟩
 replace hL0 := hL0.call hb
 replace hT := hT.call hb
 clear hb
 go_wp2_with fail
 with_reducible refine Calls.mono (Isqd.out _ (hKT.out.at hL0.bl kKT)) ?_
 rintro e x18 ⟨rfl, hb⟩
 replace hL0 := hL0.call hb
 replace hT := hT.call hb
 clear hb
 go_wp2_with fail
 with_reducible refine Calls.mono (Moqe.out _) ?_
 rintro e x19 ⟨rfl, hb⟩
 replace hL0 := hL0.call hb
 replace hT := hT.call hb
 clear hb
 go_wp2_with fail
 with_reducible refine Calls.mono (Isqe.out _ (hKT.out.at hL0.bl kKT)) ?_
 rintro e x20 ⟨rfl, hb⟩
 replace hL0 := hL0.call hb
 replace hT := hT.call hb
 clear hb
 have hN0 := cells_of _ 0 [] rfl (hL0.get _ _ mZ)
 simp only [zF, Nat.reduceAdd] at hN0
 have hN1 := cells_of _ 0 [] rfl (hL0.get _ _ (mK mZ))
 simp only [zF, Nat.reduceAdd] at hN1
 have hN2 := cells_of _ 0 [] rfl (hL0.get _ _ (mK (mK mZ)))
 simp only [zF, Nat.reduceAdd] at hN2
 go_wp2_with fail
 clear hN0 hN1 hN2
 with_reducible refine Calls.mono (Trta.out (.slice g1 d1 g1c) _ (hT.get (mK (mK (mK (mK mZ)))))) ?_
 rintro e x21 ⟨rfl, hb⟩
 replace hL0 := hL0.call hb
 replace hT := hT.call hb
 clear hb
 go_wp2_with fail
 with_reducible refine Calls.mono (Ista.out _ (hKT.out.at hL0.bl kKT)) ?_
 rintro e x22 ⟨rfl, hb⟩
 replace hL0 := hL0.call hb
 replace hT := hT.call hb
 clear hb
 have hN0 := cells_of _ 0 [] rfl (hL0.get _ _ mZ)
 simp only [zF, Nat.reduceAdd] at hN0
 have hN1 := cells_of _ 0 [] rfl (hL0.get _ _ (mK mZ))
 simp only [zF, Nat.reduceAdd] at hN1
 have hN2 := cells_of _ 0 [] rfl (hL0.get _ _ (mK (mK mZ)))
 simp only [zF, Nat.reduceAdd] at hN2
 go_wp2_with fail
 clear hN0 hN1 hN2
 with_reducible refine Calls.mono (Trtb.out (.slice g4 d4 g4c) _ (hT.get (mK mZ))) ?_
 rintro e x23 ⟨rfl, hb⟩
 replace hL0 := hL0.call hb
 replace hT := hT.call hb
 clear hb
 go_wp2_with fail
 with_reducible refine Calls.mono (Istb.out _ (hKT.out.at hL0.bl kKT)) ?_
 rintro e x24 ⟨rfl, hb⟩
 replace hL0 := hL0.call hb
 replace hT := hT.call hb
 clear hb
 have hN0 := cells_of _ 0 [] rfl (hL0.get _ _ mZ)
 simp only [zF, Nat.reduceAdd] at hN0
 have hN1 := cells_of _ 0 [] rfl (hL0.get _ _ (mK mZ))
 simp only [zF, Nat.reduceAdd] at hN1
 have hN2 := cells_of _ 0 [] rfl (hL0.get _ _ (mK (mK mZ)))
 simp only [zF, Nat.reduceAdd] at hN2
 go_wp2_with fail
 clear hN0 hN1 hN2
 with_reducible refine Calls.mono (Trtc.out (.slice g5 d5 g5c) _ (hT.get mZ)) ?_
 rintro e x25 ⟨rfl, hb⟩
 replace hL0 := hL0.call hb
 replace hT := hT.call hb
 clear hb
 go_wp2_with fail
 with_reducible refine Calls.mono (Istc.out _ (hKT.out.at hL0.bl kKT)) ?_
 rintro e x26 ⟨rfl, hb⟩
 replace hL0 := hL0.call hb
 replace hT := hT.call hb
 clear hb
 have hN0 := cells_of _ 0 [] rfl (hL0.get _ _ mZ)
 simp only [zF, Nat.reduceAdd] at hN0
 have hN1 := cells_of _ 0 [] rfl (hL0.get _ _ (mK mZ))
 simp only [zF, Nat.reduceAdd] at hN1
 have hN2 := cells_of _ 0 [] rfl (hL0.get _ _ (mK (mK mZ)))
 simp only [zF, Nat.reduceAdd] at hN2
 go_wp2_with fail
 clear hN0 hN1 hN2
 with_reducible refine Calls.mono (Trtd.out (.slice g2 d2 g2c) _ (hT.get (mK (mK (mK mZ))))) ?_
 rintro e x27 ⟨rfl, hb⟩
 replace hL0 := hL0.call hb
 replace hT := hT.call hb
 clear hb
 go_wp2_with fail
 with_reducible refine Calls.mono (Istd.out _ (hKT.out.at hL0.bl kKT)) ?_
 rintro e x28 ⟨rfl, hb⟩
 replace hL0 := hL0.call hb
 replace hT := hT.call hb
 clear hb
 go_upto_region 9 with fail
 refine region_tl 23 [EV (.slice g2 d2 g2c), EV (.agg #[.int .u64 ((zl ox.num : Nat) : Int), .string (zh ox.num), .bool (zs ox.num), .int .u64 ((lo (fe ox) : Nat) : Int), .string (hs (fe ox)), .int .u64 ((zl oy.num : Nat) : Int), .string (zh oy.num), .bool (zs oy.num), .int .u64 ((lo (fe oy) : Nat) : Int), .string (hs (fe oy))]), EV (.agg #[.int .u64 ((zl tx.num : Nat) : Int), .string (zh tx.num), .bool (zs tx.num), .int .u64 ((lo (fe tx) : Nat) : Int), .string (hs (fe tx)), .int .u64 ((zl ty.num : Nat) : Int), .string (zh ty.num), .bool (zs ty.num), .int .u64 ((lo (fe ty) : Nat) : Int), .string (hs (fe ty))]), EV (.agg #[.int .u64 ((zl sx.num : Nat) : Int), .string (zh sx.num), .bool (zs sx.num), .int .u64 ((lo (fe sx) : Nat) : Int), .string (hs (fe sx)), .int .u64 ((zl sy.num : Nat) : Int), .string (zh sy.num), .bool (zs sy.num), .int .u64 ((lo (fe sy) : Nat) : Int), .string (hs (fe sy))]), EV (.agg #[.int .u64 ((zl nx.num : Nat) : Int), .string (zh nx.num), .bool (zs nx.num), .int .u64 ((lo (fe nx) : Nat) : Int), .string (hs (fe nx)), .int .u64 ((zl ny.num : Nat) : Int), .string (zh ny.num), .bool (zs ny.num), .int .u64 ((lo (fe ny) : Nat) : Int), .string (hs (fe ny))]), PPL [⟨ox, oy⟩, ⟨tx, ty⟩, ⟨sx, sy⟩, ⟨nx, ny⟩], EV (.agg #[.int .u64 ((zl pg.num : Nat) : Int), .string (zh pg.num), .bool (zs pg.num), .int .u64 ((lo (fe pg) : Nat) : Int), .string (hs (fe pg))]), EV (.bool true), EV (.bool true), EV (.slice g5 d5 g5c), EV (.agg #[.int .u64 ((zl ox.num : Nat) : Int), .string (zh ox.num), .bool (zs ox.num), .int .u64 ((lo (fe ox) : Nat) : Int), .string (hs (fe ox)), .int .u64 ((zl oy.num : Nat) : Int), .string (zh oy.num), .bool (zs oy.num), .int .u64 ((lo (fe oy) : Nat) : Int), .string (hs (fe oy))]), EV (.agg #[.int .u64 ((zl sx.num : Nat) : Int), .string (zh sx.num), .bool (zs sx.num), .int .u64 ((lo (fe sx) : Nat) : Int), .string (hs (fe sx)), .int .u64 ((zl sy.num : Nat) : Int), .string (zh sy.num), .bool (zs sy.num), .int .u64 ((lo (fe sy) : Nat) : Int), .string (hs (fe sy))]), EV (.agg #[.int .u64 ((zl sg.num : Nat) : Int), .string (zh sg.num), .bool (zs sg.num), .int .u64 ((lo (fe sg) : Nat) : Int), .string (hs (fe sg))]), EV (.bool true), EV (.bool true), EV (.bool true), EV (.slice g2 d2 g2c), EV (.agg #[.int .u64 ((zl ex.num : Nat) : Int), .string (zh ex.num), .bool (zs ex.num), .int .u64 ((lo (fe ex) : Nat) : Int), .string (hs (fe ex)), .int .u64 ((zl ey.num : Nat) : Int), .string (zh ey.num), .bool (zs ey.num), .int .u64 ((lo (fe ey) : Nat) : Int), .string (hs (fe ey))]), EV (.agg #[.int .u64 ((zl cx.num : Nat) : Int), .string (zh cx.num), .bool (zs cx.num), .int .u64 ((lo (fe cx) : Nat) : Int), .string (hs (fe cx)), .int .u64 ((zl cy.num : Nat) : Int), .string (zh cy.num), .bool (zs cy.num), .int .u64 ((lo (fe cy) : Nat) : Int), .string (hs (fe cy))]), EV (.agg #[.int .u64 ((zl fl.num : Nat) : Int), .string (zh fl.num), .bool (zs fl.num), .int .u64 ((lo (fe fl) : Nat) : Int), .string (hs (fe fl))]), EV (.bool true), EV (.bool true), EV (.bool true)] (by kernel_rfl) (by kernel_rfl) ?_ ?_ ?_
 ·repeat' first | exact stays_nil | apply stays_cons | exact stays_eq _ | exact stays_pl _
 ·simp only [List.take_succ_cons, List.take_zero, hopsR, and_true]
  refine ⟨?_, ?_, ?_, ?_, ?_, ?_, ?_, ?_, ?_, ?_, ?_, ?_, ?_, ?_, ?_, ?_, ?_, ?_, ?_, ?_, ?_, ?_, ?_⟩ <;> intro fv w1 hb1 hp
  all_goals (have hc := (hL0.call (below_drew hb1)).fc; simp only [zF, Nat.reduceAdd] at hc; simp only [putsV, Act.put, zP, Nat.zero_add, Nat.reduceAdd])
  ·refine tyAt_none rfl ?_
   simp [tyUpon, execOp, go_sem, Act.eval, Below.refl]
  ·refine tyAt_none rfl ?_
   simp [tyUpon, execOp, go_sem, Act.eval, hc, Below.refl]
  ·refine tyAt_none rfl ?_
   refine ty_call (f := 23) (args := #[.int .i64 2, .int .i64 0]) (by simp [execOp, go_sem, Act.eval]) ?_
   exact (Att.out w1).mono fun e w2 ⟨h1, h2⟩ => ⟨_, h1, rfl, h2⟩
  ·refine tyAt_none rfl ?_
   refine ty_call (f := 23) (args := #[.int .i64 2, .int .i64 1]) (by simp [execOp, go_sem, Act.eval]) ?_
   exact (Ats.out w1).mono fun e w2 ⟨h1, h2⟩ => ⟨_, h1, rfl, h2⟩
  ·refine tyAt_none rfl ?_
   simp [tyUpon, execOp, go_sem, Act.eval, hc, Below.refl]
  ·have h1 : EV _ (fv 1) w1 := hp 1 (LC (by kernel_rfl))
   have h2 : EV _ (fv 2) w1 := hp 2 (LC (by kernel_rfl))
   have h3 : EV _ (fv 3) w1 := hp 3 (LC (by kernel_rfl))
   have h4 : EV _ (fv 4) w1 := hp 4 (LC (by kernel_rfl))
   refine tyAt_none rfl ?_
   refine ty_val8 (u := .slice (some ⟨w1.heap.size, 0, none⟩) 4 4) (w' := w1.alloc (.cells #[.int .u64 ((zl ox.num : Nat) : Int), .string (zh ox.num), .bool (zs ox.num), .int .u64 ((lo (fe ox) : Nat) : Int), .string (hs (fe ox)), .int .u64 ((zl oy.num : Nat) : Int), .string (zh oy.num), .bool (zs oy.num), .int .u64 ((lo (fe oy) : Nat) : Int), .string (hs (fe oy)), .int .u64 ((zl tx.num : Nat) : Int), .string (zh tx.num), .bool (zs tx.num), .int .u64 ((lo (fe tx) : Nat) : Int), .string (hs (fe tx)), .int .u64 ((zl ty.num : Nat) : Int), .string (zh ty.num), .bool (zs ty.num), .int .u64 ((lo (fe ty) : Nat) : Int), .string (hs (fe ty)), .int .u64 ((zl sx.num : Nat) : Int), .string (zh sx.num), .bool (zs sx.num), .int .u64 ((lo (fe sx) : Nat) : Int), .string (hs (fe sx)), .int .u64 ((zl sy.num : Nat) : Int), .string (zh sy.num), .bool (zs sy.num), .int .u64 ((lo (fe sy) : Nat) : Int), .string (hs (fe sy)), .int .u64 ((zl nx.num : Nat) : Int), .string (zh nx.num), .bool (zs nx.num), .int .u64 ((lo (fe nx) : Nat) : Int), .string (hs (fe nx)), .int .u64 ((zl ny.num : Nat) : Int), .string (zh ny.num), .bool (zs ny.num), .int .u64 ((lo (fe ny) : Nat) : Int), .string (hs (fe ny))] 39)) (by simp [execOp, go_sem, Act.eval, h1, h2, h3, h4]) ((Below.refl _ _).alloc (Nat.le_refl _) _) (pl_of4 (hd_new w1 [.int .u64 ((zl ox.num : Nat) : Int), .string (zh ox.num), .bool (zs ox.num), .int .u64 ((lo (fe ox) : Nat) : Int), .string (hs (fe ox)), .int .u64 ((zl oy.num : Nat) : Int), .string (zh oy.num), .bool (zs oy.num), .int .u64 ((lo (fe oy) : Nat) : Int), .string (hs (fe oy)), .int .u64 ((zl tx.num : Nat) : Int), .string (zh tx.num), .bool (zs tx.num), .int .u64 ((lo (fe tx) : Nat) : Int), .string (hs (fe tx)), .int .u64 ((zl ty.num : Nat) : Int), .string (zh ty.num), .bool (zs ty.num), .int .u64 ((lo (fe ty) : Nat) : Int), .string (hs (fe ty)), .int .u64 ((zl sx.num : Nat) : Int), .string (zh sx.num), .bool (zs sx.num), .int .u64 ((lo (fe sx) : Nat) : Int), .string (hs (fe sx)), .int .u64 ((zl sy.num : Nat) : Int), .string (zh sy.num), .bool (zs sy.num), .int .u64 ((lo (fe sy) : Nat) : Int), .string (hs (fe sy)), .int .u64 ((zl nx.num : Nat) : Int), .string (zh nx.num), .bool (zs nx.num), .int .u64 ((lo (fe nx) : Nat) : Int), .string (hs (fe nx)), .int .u64 ((zl ny.num : Nat) : Int), .string (zh ny.num), .bool (zs ny.num), .int .u64 ((lo (fe ny) : Nat) : Int), .string (hs (fe ny))] _))
  ·have h0 : EV _ (fv 0) w1 := hp 0 (LC (by kernel_rfl))
   have h5 : (PPL [⟨ox, oy⟩, ⟨tx, ty⟩, ⟨sx, sy⟩, ⟨nx, ny⟩]) (fv 5) w1 := hp 5 (LC (by kernel_rfl))
   refine tyAt_none rfl ?_
   refine ty_call (f := 29) (args := #[.slice g2 d2 g2c, fv 5]) (by simp [execOp, go_sem, Act.eval, h0]) ?_
   exact (Pg.out (.slice g2 d2 g2c) (fv 5) w1 (PT.below (hT.get (mK (mK (mK mZ)))) (below_drew hb1)) h5).mono fun e w2 ⟨h1, h2⟩ => ⟨_, h1, rfl, h2⟩
  ·have h6 : EV _ (fv 6) w1 := hp 6 (LC (by kernel_rfl))
   refine tyAt_none rfl ?_
   refine ty_call (f := 33) (args := #[.agg #[.int .u64 ((zl pg.num : Nat) : Int), .string (zh pg.num), .bool (zs pg.num), .int .u64 ((lo (fe pg) : Nat) : Int), .string (hs (fe pg))], .int .i64 2, .int .i64 1]) (by simp [execOp, go_sem, Act.eval, h6]) ?_
   exact (Ispg.out w1 (hKT.out.at ((hL0.call (below_drew hb1)).bl) kKT)).mono fun e w2 ⟨h1, h2⟩ => ⟨_, h1, rfl, h2⟩
  ·have h7 : EV _ (fv 7) w1 := hp 7 (LC (by kernel_rfl))
   refine tyAt_none rfl ?_
   simp [tyUpon, execOp, go_sem, Act.eval, h7, Below.refl]
  ·have h8 : EV _ (fv 8) w1 := hp 8 (LC (by kernel_rfl))
   refine tyAt_yes (by simp [Region.wanted, yielded, h8]) ?_
   simp [tyUpon, execOp, go_sem, Act.eval, h8, Below.refl]
  ·have h8 : EV _ (fv 8) w1 := hp 8 (LC (by kernel_rfl))
   refine tyAt_yes (by simp [Region.wanted, yielded, h8]) ?_
   simp [tyUpon, execOp, go_sem, Act.eval, hc, h8, Below.refl]
  ·have h8 : EV _ (fv 8) w1 := hp 8 (LC (by kernel_rfl))
   refine tyAt_yes (by simp [Region.wanted, yielded, h8]) ?_
   refine ty_call (f := 23) (args := #[.int .i64 2, .int .i64 1]) (by simp [execOp, go_sem, Act.eval, h8]) ?_
   exact (Ats.out w1).mono fun e w2 ⟨h1, h2⟩ => ⟨_, h1, rfl, h2⟩
  ·have h9 : EV _ (fv 9) w1 := hp 9 (LC (by kernel_rfl))
   have h10 : EV _ (fv 10) w1 := hp 10 (LC (by kernel_rfl))
   have h11 : EV _ (fv 11) w1 := hp 11 (LC (by kernel_rfl))
   have h8 : EV _ (fv 8) w1 := hp 8 (LC (by kernel_rfl))
   refine tyAt_yes (by simp [Region.wanted, yielded, h9, h10, h11, h8]) ?_
   refine ty_call (f := 27) (args := #[.slice g5 d5 g5c, .agg #[.int .u64 ((zl ox.num : Nat) : Int), .string (zh ox.num), .bool (zs ox.num), .int .u64 ((lo (fe ox) : Nat) : Int), .string (hs (fe ox)), .int .u64 ((zl oy.num : Nat) : Int), .string (zh oy.num), .bool (zs oy.num), .int .u64 ((lo (fe oy) : Nat) : Int), .string (hs (fe oy))], .agg #[.int .u64 ((zl sx.num : Nat) : Int), .string (zh sx.num), .bool (zs sx.num), .int .u64 ((lo (fe sx) : Nat) : Int), .string (hs (fe sx)), .int .u64 ((zl sy.num : Nat) : Int), .string (zh sy.num), .bool (zs sy.num), .int .u64 ((lo (fe sy) : Nat) : Int), .string (hs (fe sy))]]) (by simp [execOp, go_sem, Act.eval, h9, h10, h11, h8]) ?_
   exact (Sg.out (.slice g5 d5 g5c) w1 (PT.below (hT.get mZ) (below_drew hb1))).mono fun e w2 ⟨h1, h2⟩ => ⟨_, h1, rfl, h2⟩
  ·have h12 : EV _ (fv 12) w1 := hp 12 (LC (by kernel_rfl))
   have h8 : EV _ (fv 8) w1 := hp 8 (LC (by kernel_rfl))
   refine tyAt_yes (by simp [Region.wanted, yielded, h12, h8]) ?_
   refine ty_call (f := 33) (args := #[.agg #[.int .u64 ((zl sg.num : Nat) : Int), .string (zh sg.num), .bool (zs sg.num), .int .u64 ((lo (fe sg) : Nat) : Int), .string (hs (fe sg))], .int .i64 4, .int .i64 3]) (by simp [execOp, go_sem, Act.eval, h12, h8]) ?_
   exact (Issg.out w1 (hKT.out.at ((hL0.call (below_drew hb1)).bl) kKT)).mono fun e w2 ⟨h1, h2⟩ => ⟨_, h1, rfl, h2⟩
  ·have h8 : EV _ (fv 8) w1 := hp 8 (LC (by kernel_rfl))
   have h13 : EV _ (fv 13) w1 := hp 13 (LC (by kernel_rfl))
   refine tyAt_none rfl ?_
   simp [tyUpon, execOp, go_sem, Act.eval, h8, h13, Below.refl]
  ·have h14 : EV _ (fv 14) w1 := hp 14 (LC (by kernel_rfl))
   refine tyAt_none rfl ?_
   simp [tyUpon, execOp, go_sem, Act.eval, h14, Below.refl]
  ·have h15 : EV _ (fv 15) w1 := hp 15 (LC (by kernel_rfl))
   refine tyAt_yes (by simp [Region.wanted, yielded, h15]) ?_
   simp [tyUpon, execOp, go_sem, Act.eval, h15, Below.refl]
  ·have h15 : EV _ (fv 15) w1 := hp 15 (LC (by kernel_rfl))
   refine tyAt_yes (by simp [Region.wanted, yielded, h15]) ?_
   simp [tyUpon, execOp, go_sem, Act.eval, hc, h15, Below.refl]
  ·have h15 : EV _ (fv 15) w1 := hp 15 (LC (by kernel_rfl))
   refine tyAt_yes (by simp [Region.wanted, yielded, h15]) ?_
   refine ty_call (f := 23) (args := #[.int .i64 1, .int .i64 1]) (by simp [execOp, go_sem, Act.eval, h15]) ?_
   exact (Atc.out w1).mono fun e w2 ⟨h1, h2⟩ => ⟨_, h1, rfl, h2⟩
  ·have h16 : EV _ (fv 16) w1 := hp 16 (LC (by kernel_rfl))
   have h17 : EV _ (fv 17) w1 := hp 17 (LC (by kernel_rfl))
   have h18 : EV _ (fv 18) w1 := hp 18 (LC (by kernel_rfl))
   have h15 : EV _ (fv 15) w1 := hp 15 (LC (by kernel_rfl))
   refine tyAt_yes (by simp [Region.wanted, yielded, h16, h17, h18, h15]) ?_
   refine ty_call (f := 15) (args := #[.slice g2 d2 g2c, .slice none 0 0, .agg #[.int .u64 ((zl ex.num : Nat) : Int), .string (zh ex.num), .bool (zs ex.num), .int .u64 ((lo (fe ex) : Nat) : Int), .string (hs (fe ex)), .int .u64 ((zl ey.num : Nat) : Int), .string (zh ey.num), .bool (zs ey.num), .int .u64 ((lo (fe ey) : Nat) : Int), .string (hs (fe ey))], .agg #[.int .u64 ((zl cx.num : Nat) : Int), .string (zh cx.num), .bool (zs cx.num), .int .u64 ((lo (fe cx) : Nat) : Int), .string (hs (fe cx)), .int .u64 ((zl cy.num : Nat) : Int), .string (zh cy.num), .bool (zs cy.num), .int .u64 ((lo (fe cy) : Nat) : Int), .string (hs (fe cy))]]) (by simp [execOp, go_sem, Act.eval, h16, h17, h18, h15]) ?_
   exact (Fl.out (.slice g2 d2 g2c) (.slice none 0 0) w1 (PT.below (hT.get (mK (mK (mK mZ)))) (below_drew hb1)) (pt_nil _)).mono fun e w2 ⟨h1, h2⟩ => ⟨_, h1, rfl, h2⟩
  ·have h19 : EV _ (fv 19) w1 := hp 19 (LC (by kernel_rfl))
   have h15 : EV _ (fv 15) w1 := hp 15 (LC (by kernel_rfl))
   refine tyAt_yes (by simp [Region.wanted, yielded, h19, h15]) ?_
   refine ty_call (f := 33) (args := #[.agg #[.int .u64 ((zl fl.num : Nat) : Int), .string (zh fl.num), .bool (zs fl.num), .int .u64 ((lo (fe fl) : Nat) : Int), .string (hs (fe fl))], .int .i64 1, .int .i64 1]) (by simp [execOp, go_sem, Act.eval, h19, h15]) ?_
   exact (Isfl.out w1 (hKT.out.at ((hL0.call (below_drew hb1)).bl) kKT)).mono fun e w2 ⟨h1, h2⟩ => ⟨_, h1, rfl, h2⟩
  ·have h15 : EV _ (fv 15) w1 := hp 15 (LC (by kernel_rfl))
   have h20 : EV _ (fv 20) w1 := hp 20 (LC (by kernel_rfl))
   refine tyAt_none rfl ?_
   simp [tyUpon, execOp, go_sem, Act.eval, h15, h20, Below.refl]
  ·have h21 : EV _ (fv 21) w1 := hp 21 (LC (by kernel_rfl))
   refine tyAt_none rfl ?_
   simp [tyUpon, execOp, go_sem, Act.eval, h21, Below.refl]
 ·intro fv x29 hb1 hv
  have e0 : fv 0 = _ := hv 0 (by omega)
  have e1 : fv 1 = _ := hv 1 (by omega)
  have e2 : fv 2 = _ := hv 2 (by omega)
  have e3 : fv 3 = _ := hv 3 (by omega)
  have e4 : fv 4 = _ := hv 4 (by omega)
  have q5 : PL x29 (fv 5) ([⟨ox, oy⟩, ⟨tx, ty⟩, ⟨sx, sy⟩, ⟨nx, ny⟩]) := hv 5 (by omega)
  obtain ⟨g6, g6c, e5⟩ := pl_form q5
  rw [e5] at q5
  have e6 : fv 6 = _ := hv 6 (by omega)
  have e7 : fv 7 = _ := hv 7 (by omega)
  have e8 : fv 8 = _ := hv 8 (by omega)
  have e9 : fv 9 = _ := hv 9 (by omega)
  have e10 : fv 10 = _ := hv 10 (by omega)
  have e11 : fv 11 = _ := hv 11 (by omega)
  have e12 : fv 12 = _ := hv 12 (by omega)
  have e13 : fv 13 = _ := hv 13 (by omega)
  have e14 : fv 14 = _ := hv 14 (by omega)
  have e15 : fv 15 = _ := hv 15 (by omega)
  have e16 : fv 16 = _ := hv 16 (by omega)
  have e17 : fv 17 = _ := hv 17 (by omega)
  have e18 : fv 18 = _ := hv 18 (by omega)
  have e19 : fv 19 = _ := hv 19 (by omega)
  have e20 : fv 20 = _ := hv 20 (by omega)
  have e21 : fv 21 = _ := hv 21 (by omega)
  have e22 : fv 22 = _ := hv 22 (by omega)
  simp only [List.take_succ_cons, List.take_zero, putsV, Act.put, zP, List.drop_succ_cons, List.drop_zero, Nat.zero_add, Nat.reduceAdd, e0, e1, e2, e3, e4, e5, e6, e7, e8, e9, e10, e11, e12, e13, e14, e15, e16, e17, e18, e19, e20, e21, e22]
  replace hL0 := hL0.call (below_drew hb1)
  replace hT := hT.call (below_drew hb1)
  clear e0 e1 e2 e3 e4 e5 e6 e7 e8 e9 e10 e11 e12 e13 e14 e15 e16 e17 e18 e19 e20 e21 e22 hb1 hv q5 fv
  go_wp2_with fail
  exact bodyPost_ret (v := .bool true) (by simp [results, Tryz.results7, go_sem]) rfl ⟨rfl, hL0.bl⟩
end Go.Proofs.YtkdbhacimoaohaaGreatDoor
namespace Go.Proofs.YtkdbhacimoaohaaGreatDoor
open Go.RowKit
attribute [local irreducible] lo hs sm s64 c64 d64 b64 mh ml pd pc qd qc val hiB str cmpI srD lz nb zl zh zs fe klT ordZ Bs
def fanL (f : Pt → Pt → Pt → Rat) (a : Pt) : Pt → List Pt → List Rat
 | _, [] => []
 | b, c :: r => f a b c :: fanL f a c r
theorem fanL_len (f : Pt → Pt → Pt → Rat) (a : Pt) : ∀ b r, (fanL f a b r).length = r.length
 | _, [] => rfl
 | b, c :: r => by rw [fanL, List.length_cons, fanL_len f a c r, List.length_cons]
theorem fanL_get (f : Pt → Pt → Pt → Rat) (a : Pt) : ∀ (b : Pt) (r : List Pt) (j : Nat) (h : j < (fanL f a b r).length) (h1 : j < (b :: r).length) (h2 : j + 1 < (b :: r).length), (fanL f a b r)[j] = f a ((b :: r)[j]'h1) ((b :: r)[j + 1]'h2)
 | b, [], j, h, _, _ => absurd h (by simp [fanL])
 | b, c :: r, 0, _, _, _ => rfl
 | b, c :: r, j + 1, h, h1, h2 => by
  simp only [fanL, List.getElem_cons_succ]
  exact fanL_get f a c r j (by simpa [fanL] using h) (by simpa using h1) (by simpa using h2)
theorem qsum_cons9 (x : Rat) (l : List Rat) : qsum (x :: l) = x + qsum l := by
 unfold qsum
 rw [List.foldl_cons, qsum_fold, Rat.zero_add]
 rfl
theorem qsum_fan (f : Pt → Pt → Pt → Rat) (a : Pt) : ∀ b r, qsum (fanL f a b r) = fan f a b r
 | _, [] => rfl
 | b, c :: r => by rw [fanL, qsum_cons9, qsum_fan f a c r]; rfl
def triVs (f : Pt → Pt → Pt → Rat) : List Pt → List Rat
 | a :: b :: r => fanL f a b r
 | _ => []
def polyV (p : TL) : List Pt → Rat
 | a :: b :: r => fan (triV p) a b r
 | _ => 0
theorem triVs_len (f : Pt → Pt → Pt → Rat) (l : List Pt) : (triVs f l).length = l.length - 2 := by
 match l with
 | [] => rfl
 | [_] => rfl
 | a :: b :: r => rw [triVs, fanL_len, List.length_cons, List.length_cons]; omega
theorem triVs_get (f : Pt → Pt → Pt → Rat) (l : List Pt) (a : Pt) (r : List Pt) (hl : l = a :: r) (k : Nat) (h1 : 2 ≤ k) (h2 : k < l.length) (h3 : k - 2 < (triVs f l).length) : (triVs f l)[k - 2] = f a (l[k - 1]'(by omega)) (l[k]'h2) := by
 subst hl
 obtain ⟨j, rfl⟩ : ∃ j, k = j + 2 := ⟨k - 2, by omega⟩
 match r with
 | [] => exact absurd h2 (by simp)
 | b :: r =>
  have := fanL_get f a b r j (by simpa [triVs] using h3) (by simp at h2 ⊢; omega) (by simp at h2 ⊢; omega)
  simpa [triVs] using this
theorem qsum_triVs (p : TL) (l : List Pt) : qsum (triVs (triV p) l) = polyV p l := by
 match l with
 | [] => rfl
 | [_] => rfl
 | a :: b :: r => exact qsum_fan _ _ _ _
section
variable {p q : TL} {d K e : Nat}
theorem triVs_sz {k M D : Nat} (f : Fit D (2 * k + 1) K d M) (h : GP p d K) (l : List Pt) (hl : ∀ a ∈ l, PS a k) : ∀ x ∈ triVs (triV p) l, Sz x (169 * (M + 62) + 1) := by
 have go : ∀ (a b : Pt) (r : List Pt), PS a k → PS b k → (∀ c ∈ r, PS c k) → ∀ x ∈ fanL (triV p) a b r, Sz x (169 * (M + 62) + 1) := by
  intro a b r
  induction r generalizing b with
  | nil => intro _ _ _ x hx; cases hx
  | cons c r ih =>
   intro ha hb hr x hx
   rcases List.mem_cons.1 hx with rfl | hx
   ·exact tri_sz f h ha hb (hr c mZ)
   ·exact ih c ha (hr c mZ) (fun y hy => hr y (mK hy)) x hx
 match l, hl with
 | [], _ => intro x hx; cases hx
 | [_], _ => intro x hx; cases hx
 | a :: b :: r, hl => exact go a b r (hl a mZ) (hl b (mK mZ)) (fun c hc => hl c (mK (mK hc)))
theorem polyG {k M D : Nat} (f : Fit D (2 * k + 1) K d M) (h : GP p d K) (l : List Pt) (hl : ∀ a ∈ l, PS a k) (hn : l.length ≤ 1000) (hb : (l.length - 2) * (169 * (M + 62) + 1 + 1) + 1 ≤ 9000000) (w : World) (v u : Value) (hv : PT w v (ofL p)) (hu : PL w u l) :
  Calls Tryz.prog 29 #[v, u] w fun xe w' => xe = .returned (fracV (polyV p l)) ∧ Below w.heap.size w w' := by
 obtain ⟨ao, n, c, rfl, -⟩ := pt_form hv
 obtain ⟨am, cm, rfl⟩ := pl_form hu
 have hm := f.m5
 refine poly9_w (ofL p) l (triV p) (polyV p l) ao am n c l.length cm hn (triVs (triV p) l) (triVs_len _ l) (fun a r hr k h1 h2 h3 => triVs_get (triV p) l a r hr k h1 h2 h3) (fun a b d ha hb hd w hw => triG f h (hl a ha) (hl b hb) (hl d hd) w _ hw) (fun v w hv => ?_) w hv hu
 rw [← qsum_triVs]
 exact sumGB _ (169 * (M + 62) + 1) (by rw [triVs_len]; exact hb) (by omega) (triVs_sz f h l hl) (by rw [triVs_len]; omega) v w hv
end
theorem qtxt_ne (q : Rat) : 0 < (qtxt q).size := by
 have h1 : ∀ n, 0 < (txt n).size := fun n => by
  have : (txt n).size = (Lib.decDigits n).length := by unfold txt; simp [ByteArray.size]
  rw [this]; exact dec_length_pos n
 have h2 : ∀ z, 0 < (ztxt z).size := fun z => by
  unfold ztxt
  split
  ·rw [ByteArray.size_append]; have := h1 z.natAbs; omega
  ·exact h1 _
 unfold qtxt
 split
 ·exact h2 _
 ·rw [ByteArray.size_append, ByteArray.size_append]; have := h2 q.num; omega
theorem isG {q : Rat} (m n : Int) (m1 : -1000 ≤ m) (m2 : m ≤ 1000) (n1 : 0 < n) (n2 : n ≤ 1000) (e : q = (m : Rat) / (n : Rat)) (w : World) (ht : Tab w) : Calls Tryz.prog 33 #[fracV q, .int .i64 m, .int .i64 n] w fun xe w' => xe = .returned (.bool true) ∧ Below w.heap.size w w' := by
  have hn : (n : Rat) ≠ 0 := fun h => by have : n = 0 := by exact_mod_cast h
                                         omega
  have hs : Sz q 2 := by rw [e]; exact (sz_i8 m1 m2).div (sz_i8 (by omega) n2) hn
  have hl : (qtxt q).toList ≠ [] := fun h => by
    have h1 := qtxt_ne q
    have h2 : (qtxt q).size = (qtxt q).toList.length := by rw [ByteArray.toList_eq, Array.length_toList]; rfl
    rw [h2, h] at h1
    exact absurd h1 (by decide)
  exact is9_w m n q (qtxt q) (fun w => by rw [e]; exact ofF m n (by omega) (by omega) (by omega) (by omega) (by omega) w) (fun w ht => textF q 2 hs (by omega) w ht) hl (beq_eq_false_iff_ne.2 hl) (by rw [List.isEmpty_eq_false_iff]; exact hl) w ht
theorem at9G (m n : Int) (m1 : -1000 ≤ m) (m2 : m ≤ 1000) (n1 : -1000 ≤ n) (n2 : n ≤ 1000) (w : World) : Calls Tryz.prog 23 #[.int .i64 m, .int .i64 n] w fun xe w' => xe = .returned (ptV ⟨(m : Rat), (n : Rat)⟩) ∧ Below w.heap.size w w' :=
 at9_w m n _ _ (fun w => intF m (by omega) (by omega) w) (fun w => intF n (by omega) (by omega) w) w
theorem ps_int {m n : Int} (m1 : -1000 ≤ m) (m2 : m ≤ 1000) (n1 : -1000 ≤ n) (n2 : n ≤ 1000) : PS ⟨(m : Rat), (n : Rat)⟩ 1 := ⟨sz_i8 m1 m2, sz_i8 n1 n2⟩
abbrev P9 (m n : Int) : Pt := ⟨(m : Rat), (n : Rat)⟩
theorem fit3 : Fit 3 3 12 2 300 := ⟨by omega, by omega, by omega, by omega, by omega, by omega, by unfold shK; omega, by omega⟩
theorem gk9 : GP (conN 1) 2 12 := (GP.con sz1).mono (by omega) (by omega)
theorem gX9 : GP (linN 1 0 0) 2 12 := gx8.mono (by omega) (by omega)
theorem gXY9 : GP (mulN (linN 1 0 0) (linN 0 1 0)) 2 12 := (gx8.mul gy8).mono (by omega) (by omega)
theorem gXX9 : GP (mulN (linN 1 0 0) (linN 1 0 0)) 2 12 := (gx8.mul gx8).mono (by omega) (by omega)
theorem gN9 : GP [] 2 12 := GP.nil.mono (by omega) (by omega)
theorem ev1 : triV (conN 1) (P9 0 0) (P9 1 0) (P9 0 1) = ((1 : Int) : Rat) / ((2 : Int) : Rat) := by decide +kernel
theorem ev2 : triV (mulN (linN 1 0 0) (linN 0 1 0)) (P9 0 0) (P9 1 0) (P9 0 1) = ((1 : Int) : Rat) / ((24 : Int) : Rat) := by decide +kernel
theorem ev3 : triV (mulN (linN 1 0 0) (linN 1 0 0)) (P9 0 0) (P9 1 0) (P9 0 1) = ((1 : Int) : Rat) / ((12 : Int) : Rat) := by decide +kernel
theorem ev4 : triV (linN 1 0 0) (P9 0 0) (P9 0 1) (P9 1 0) = ((-1 : Int) : Rat) / ((6 : Int) : Rat) := by decide +kernel
theorem ev5 : polyV (linN 1 0 0) [P9 0 0, P9 2 0, P9 2 1, P9 0 1] = ((2 : Int) : Rat) / ((1 : Int) : Rat) := by decide +kernel
theorem ev6 : segV (mulN (linN 1 0 0) (linN 1 0 0)) (P9 0 0) (P9 2 1) = ((4 : Int) : Rat) / ((3 : Int) : Rat) := by decide +kernel
theorem ev7 : flowV (linN 1 0 0) [] (P9 1 0) (P9 1 1) = ((1 : Int) : Rat) / ((1 : Int) : Rat) := by decide +kernel
theorem works9_any (w : World) (ht : Tab w) : Calls Tryz.prog 7 #[] w fun e w' => e = .returned (.bool true) ∧ Below w.heap.size w w' := by
 have p0 := ps_int (m := 0) (n := 0) (by omega) (by omega) (by omega) (by omega)
 have p1 := ps_int (m := 1) (n := 0) (by omega) (by omega) (by omega) (by omega)
 have p2 := ps_int (m := 0) (n := 1) (by omega) (by omega) (by omega) (by omega)
 have p3 := ps_int (m := 2) (n := 0) (by omega) (by omega) (by omega) (by omega)
 have p4 := ps_int (m := 2) (n := 1) (by omega) (by omega) (by omega) (by omega)
 have p5 := ps_int (m := 1) (n := 1) (by omega) (by omega) (by omega) (by omega)
 exact works9_w ((0 : Int) : Rat) ((0 : Int) : Rat) ((1 : Int) : Rat) ((0 : Int) : Rat) ((0 : Int) : Rat) ((1 : Int) : Rat) ((2 : Int) : Rat) ((0 : Int) : Rat) ((2 : Int) : Rat) ((1 : Int) : Rat) ((1 : Int) : Rat) ((1 : Int) : Rat) 1 (momQ 0 0 0) (momQ 1 0 0) (momQ 1 1 0) (momQ 2 0 0) 0
  (triV (conN 1) (P9 0 0) (P9 1 0) (P9 0 1)) (triV (mulN (linN 1 0 0) (linN 0 1 0)) (P9 0 0) (P9 1 0) (P9 0 1)) (triV (mulN (linN 1 0 0) (linN 1 0 0)) (P9 0 0) (P9 1 0) (P9 0 1)) (triV (linN 1 0 0) (P9 0 0) (P9 0 1) (P9 1 0)) (polyV (linN 1 0 0) [P9 0 0, P9 2 0, P9 2 1, P9 0 1]) (segV (mulN (linN 1 0 0) (linN 1 0 0)) (P9 0 0) (P9 2 1)) (flowV (linN 1 0 0) [] (P9 1 0) (P9 1 1))
  (ofL (conN 1)) (ofL (linN 1 0 0)) (ofL (linN 0 1 0)) (ofL (mulN (linN 1 0 0) (linN 0 1 0))) (ofL (mulN (linN 1 0 0) (linN 1 0 0)))
  (fun w => at9G 0 0 (by omega) (by omega) (by omega) (by omega) w) (fun w => at9G 1 0 (by omega) (by omega) (by omega) (by omega) w) (fun w => at9G 0 1 (by omega) (by omega) (by omega) (by omega) w) (fun w => at9G 2 0 (by omega) (by omega) (by omega) (by omega) w) (fun w => at9G 2 1 (by omega) (by omega) (by omega) (by omega) w) (fun w => at9G 1 1 (by omega) (by omega) (by omega) (by omega) w)
  (fun w => int1 w) (fun w => conG sz1 (by omega) (by omega) w) (fun w => xG w) (fun w => yG w) (fun p q w h g => mulG gx8 gy8 (by omega) (by omega) w p q h g) (fun p q w h g => mulG gx8 gx8 (by omega) (by omega) w p q h g)
  (fun w => momentG 0 0 0 (by omega) (by omega) (by omega) w) Tab Keeps.tab (fun w ht => isG 1 1 (by omega) (by omega) (by omega) (by omega) (by decide +kernel) w ht)
  (fun w => momentG 1 0 0 (by omega) (by omega) (by omega) w) (fun w ht => isG 1 3 (by omega) (by omega) (by omega) (by omega) (by decide +kernel) w ht)
  (fun w => momentG 1 1 0 (by omega) (by omega) (by omega) w) (fun w ht => isG 1 12 (by omega) (by omega) (by omega) (by omega) (by decide +kernel) w ht)
  (fun w => momentG 2 0 0 (by omega) (by omega) (by omega) w) (fun w ht => isG 1 6 (by omega) (by omega) (by omega) (by omega) (by decide +kernel) w ht)
  (fun w => moment9_neg 2 0 int2 int0 w) (fun w ht => isG 0 1 (by omega) (by omega) (by omega) (by omega) (by decide +kernel) w ht)
  (fun p w h => triG (k := 1) fit3 gk9 p0 p1 p2 w p h) (fun w ht => isG 1 2 (by omega) (by omega) (by omega) (by omega) ev1 w ht)
  (fun p w h => triG (k := 1) fit3 gXY9 p0 p1 p2 w p h) (fun w ht => isG 1 24 (by omega) (by omega) (by omega) (by omega) ev2 w ht)
  (fun p w h => triG (k := 1) fit3 gXX9 p0 p1 p2 w p h) (fun w ht => isG 1 12 (by omega) (by omega) (by omega) (by omega) ev3 w ht)
  (fun p w h => triG (k := 1) fit3 gX9 p0 p2 p1 w p h) (fun w ht => isG (-1) 6 (by omega) (by omega) (by omega) (by omega) ev4 w ht)
  (fun p u w h g => polyG (k := 1) fit3 gX9 [P9 0 0, P9 2 0, P9 2 1, P9 0 1] (fun a ha => by simp only [List.mem_cons, List.not_mem_nil, or_false] at ha; rcases ha with rfl | rfl | rfl | rfl <;> assumption) (by simp) (by simp) w p u h g) (fun w ht => isG 2 1 (by omega) (by omega) (by omega) (by omega) ev5 w ht)
  (fun p w h => segG (k := 1) fit3 gXX9 p0 p4 w p h) (fun w ht => isG 4 3 (by omega) (by omega) (by omega) (by omega) ev6 w ht)
  (fun p q w h g => flowG (k := 1) fit3 fit3 gX9 gN9 p1 p5 w p q h g) (fun w ht => isG 1 1 (by omega) (by omega) (by omega) (by omega) ev7 w ht) w ht
end Go.Proofs.YtkdbhacimoaohaaGreatDoor
namespace Go.Proofs.YtkdbhacimoaohaaGreatDoor
open Go.RowKit
attribute [local irreducible] lo hs sm s64 c64 d64 b64 mh ml pd pc qd qc val hiB str cmpI srD lz nb zl zh zs fe klT ordZ Bs
/-- Two fractions as Go holds them. -/
def PB9 (n d m e : Int) : Prop := ((-9223372036854775808 ≤ n ∧ n < 9223372036854775808) ∧ (0 ≤ d ∧ d < 4294967296)) ∧ (-9223372036854775808 ≤ m ∧ m < 9223372036854775808) ∧ (0 ≤ e ∧ e < 4294967296)
def pq9 (n d m e : Int) : Pt := ⟨qmade n d.toNat, qmade m e.toNat⟩
theorem pofG {n d m e : Int} (h : PB9 n d m e) (w : World) : Calls Tryz.prog 9 #[.agg #[.int .i64 n, .int .u32 d, .int .i64 m, .int .u32 e]] w fun xe w' => xe = .returned (ptV (pq9 n d m e)) ∧ Below w.heap.size w w' :=
 pof9_w n d m e _ _ (fun w => qof_any n d h.1.1.1 h.1.1.2 h.1.2.1 h.1.2.2 w) (fun w => qof_any m e h.2.1.1 h.2.1.2 h.2.2.1 h.2.2.2 w) w
theorem ps_pq {n d m e : Int} (h : PB9 n d m e) : PS (pq9 n d m e) 1 := by
 obtain ⟨⟨h1, h2⟩, h3, h4⟩ := h
 exact ⟨qmade_sz n d.toNat h1.1 h1.2 (by omega), qmade_sz m e.toNat h3.1 h3.2 (by omega)⟩
end Go.Proofs.YtkdbhacimoaohaaGreatDoor
namespace Go.Proofs.YtkdbhacimoaohaaGreatDoor
open Go.ChangeShapes Go.WideShapes Go.ChangeAt Go.RowKit
theorem own : ownKnob Tryz.prog.godebug = none := by kernel_rfl
theorem laidOut : laidOutB Tryz.prog = true := by kernel_rfl
theorem cells24 : Tryz.prog.cellsOf 32 = 1 := by kernel_rfl
/-- The variables that every row of this layer lists. -/
def laidAll : List (String × DataW Unit) := [("math/bits.deBruijn32tab", Rows.laid_math_bits_deBruijn32tab), ("math/bits.deBruijn64tab", Rows.laid_math_bits_deBruijn64tab), ("internal/strconv.uint64pow10", Rows.laid_internal_strconv_uint64pow10)]
theorem gPow : Tryz.prog.globalNamed "internal/strconv.uint64pow10" = some 2 := by kernel_rfl
theorem gPowType : (Tryz.prog.globals[2]?).map (·.type) = some 224 := by kernel_rfl
theorem cells20 : Tryz.prog.cellsOf 224 = 20 := by kernel_rfl
theorem tab_of {W : World} (h : laidMetH Tryz.prog laidAll W) : Tab W := by
 have h1 := laidMetH.filter (fun x => x.1 == "internal/strconv.uint64pow10") h
 have e : laidAll.filter (fun x => x.1 == "internal/strconv.uint64pow10") = [("internal/strconv.uint64pow10", Rows.laid_internal_strconv_uint64pow10)] := by kernel_rfl
 rw [e, MakeChecks.laidMetH_plain _ _ _ (by kernel_rfl)] at h1
 exact Lib.tabIs_of_head (rest := []) gPow gPowType Tryz.underlying224 Tryz.underlying32 cells24 cells20 (show laidMet Tryz.prog (("internal/strconv.uint64pow10", Lib.tabData .u64 Lib.pow10Tab) :: []) W from h1)
end Go.Proofs.YtkdbhacimoaohaaGreatDoor
namespace Go.Proofs.YtkdbhacimoaohaaGreatDoor
open Go.ChangeShapes Go.WideShapes Go.ChangeAt Go.RowKit Go.Joins
theorem cellsQ : Tryz.prog.cellsOf 25 = 2 := by kernel_rfl
theorem cellsI : Tryz.prog.cellsOf 2 = 1 := by kernel_rfl
theorem cellsU : Tryz.prog.cellsOf 23 = 1 := by kernel_rfl
end Go.Proofs.YtkdbhacimoaohaaGreatDoor
namespace Go.Proofs.YtkdbhacimoaohaaGreatDoor
open Go.ChangeShapes Go.WideShapes Go.ChangeAt Go.RowKit Go.Joins
theorem cellsT8 : Tryz.prog.cellsOf 111 = 4 := by kernel_rfl
theorem cellsQ8 : Tryz.prog.cellsOf 25 = 2 := by kernel_rfl
theorem cellsN8 : Tryz.prog.cellsOf 3 = 1 := by kernel_rfl
theorem ts_of {H : Type} {enc : TypeId × Value → H} {W : World} {base : Nat} {v : Value} {d : DataW H} {p : List MemPlace} (hv : Value.okWide Tryz.prog W .any base 22 v)
  (h : DataW.Trod enc Tryz.prog W 0 (fun _ => true) true 22 v d p) : ∃ a n c l, v = .slice a n c ∧ RW8 W (.slice a n c) l ∧ RO l := by
 obtain ⟨a0, len, cap, rfl⟩ := okWide_slice Tryz.underlying22 hv
 obtain ⟨fuel, hf⟩ := h
 rcases Go.Deep.open_slice Tryz.underlying22 hf with ⟨hcs, hx⟩ | ⟨a, len', cap', m, n, D, Pl, hcs, _, hl, _, hm, hx, hel⟩
 ·simp [Value.cells] at hcs
  obtain ⟨rfl, rfl, rfl⟩ := hcs
  exact ⟨none, 0, 0, [], rfl, RW8.nil W, fun p hp => by cases hp⟩
 ·simp [Value.cells] at hcs
  obtain ⟨rfl, rfl, rfl⟩ := hcs
  simp only [if_true] at hm
  have each : ∀ i, i < len → ∃ t : RI, (W.cell? (a.add (i * 4)) = some (.int .i64 t.1) ∧ W.cell? ((a.add (i * 4)).add 1) = some (.int .i64 t.2.1) ∧ W.cell? ((a.add (i * 4)).add 2) = some (.int .i64 t.2.2.1) ∧ W.cell? ((a.add (i * 4)).add 3) = some (.int .u32 t.2.2.2)) ∧ (-9223372036854775808 ≤ t.2.2.1 ∧ t.2.2.1 < 9223372036854775808) ∧ 0 ≤ t.2.2.2 ∧ t.2.2.2 < 4294967296 := by
   intro i hi
   obtain ⟨cs', h1, h2⟩ := hel i (by omega)
   rw [cellsT8] at h1
   obtain ⟨_, hlen, hcell⟩ := World.cells?_some h1
   obtain ⟨xs, k, hk, hxy, _, hxl, hf⟩ := DataW.trod_struct Tryz.underlying111 h2
   match xs, hxl, cs', hlen with
   | [y0, y1, y2], _, [v0, v1, v2, v3], _ =>
    have g0 := hf 0 _ rfl
    have g1 := hf 1 _ rfl
    have g2 := hf 2 _ rfl
    simp [cellsN8, cellsQ8] at g0 g1 g2
    obtain ⟨zs, k2, hk2, hzy, _, hzl, hf2⟩ := DataW.trod_struct Tryz.underlying25 g2
    match zs, hzl with
    | [z0, z1], _ =>
     have q0 := hf2 0 _ rfl
     have q1 := hf2 1 _ rfl
     simp [cellsI, cellsU] at q0 q1
     have e0 := hcell 0 (by omega)
     replace e0 : W.cell? (a.add (i * 4)) = _ := e0
     have e1 := hcell 1 (by omega)
     have e2 := hcell 2 (by omega)
     have e3 := hcell 3 (by omega)
     obtain ⟨x0, b0, -, -⟩ := DataW.trod_int Tryz.underlying3 g0
     obtain ⟨x1, b1, -, -⟩ := DataW.trod_int Tryz.underlying3 g1
     obtain ⟨x2, b2, -, f2⟩ := DataW.trod_int Tryz.underlying2 q0
     obtain ⟨x3, b3, -, f3⟩ := DataW.trod_int Tryz.underlying23 q1
     simp only [List.cons.injEq, and_true] at b0 b1 b2 b3
     subst b0 b1 b2 b3
     have c2 := bounds_i64 f2
     have c3 := bounds_u32 f3
     refine ⟨(x0, x1, x2, x3), ⟨by simpa using e0, by simpa using e1, by simpa using e2, by simpa using e3⟩, ?_, ?_⟩
     ·simp only; omega
     ·simp only; omega
  obtain ⟨q, hq⟩ := Go.Deep.choose_lt each
  refine ⟨some a, len, cap, (List.range len).map q, rfl, ⟨_, _, _, rfl, by simp, fun h0 => ⟨a, rfl, ?_, fun i hi => ?_⟩⟩, fun z hz => ?_⟩
  ·have e := (hq 0 h0).1.1
   have := World.block_lt_of_cell? W _ e
   rw [add_blk8] at this
   exact this
  ·have hi' : i < len := by simpa using hi
   have := (hq i hi').1
   simpa using this
  ·obtain ⟨i, hi, rfl⟩ := List.mem_map.1 hz
   exact (hq i (List.mem_range.1 hi)).2
end Go.Proofs.YtkdbhacimoaohaaGreatDoor
namespace Go.Proofs.YtkdbhacimoaohaaGreatDoor
open Go.ChangeShapes Go.WideShapes Go.ChangeAt Go.RowKit Go.Joins
section
variable {H : Type} {enc : TypeId × Value → H} {P : Program} {w : World} {base : Nat} {spare : Nat → Bool} {held : Bool}
theorem trodAll_mk5 {t t1 t2 t3 t4 : TypeId} {v v1 v2 v3 v4 : Value} {d d1 d2 d3 d4 : DataW H} {p p1 p2 p3 p4 : List MemPlace} (h : DataW.Trod enc P w base spare held t v d p) (h1 : DataW.Trod enc P w base spare held t1 v1 d1 p1)
  (h2 : DataW.Trod enc P w base spare held t2 v2 d2 p2) (h3 : DataW.Trod enc P w base spare held t3 v3 d3 p3) (h4 : DataW.Trod enc P w base spare held t4 v4 d4 p4) : DataW.TrodAll enc P w base spare held [t, t1, t2, t3, t4] [v, v1, v2, v3, v4] [d, d1, d2, d3, d4] (p ++ (p1 ++ (p2 ++ (p3 ++ p4)))) := ⟨p, p1 ++ (p2 ++ (p3 ++ p4)), h, trodAll_mk4 h1 h2 h3 h4, rfl⟩
theorem okWide_array9 {r : Reach} {b0 n : Nat} {e t : TypeId} {v : Value} (ht : P.underlying t = some (.array n e)) (h : Value.okWide P w r b0 t v) : ∃ cs, v = .agg cs ∧ cs.size = P.cellsOf t := by
 simp only [Value.okWide, ht] at h
 obtain ⟨cs, h1, h2, _⟩ := h
 exact ⟨cs, h1, h2⟩
end
/-- A struct of an int64 and a uint32, opened. -/
theorem q_cells {H : Type} {enc : TypeId × Value → H} {W : World} {m : Nat} {cs : List Value} {y : DataW H × List MemPlace} (h : DataW.trod enc Tryz.prog W 0 (fun _ => true) true m 25 cs = some y) (hc : cs.length = 2) :
  ∃ n e : Int, cs = [.int .i64 n, .int .u32 e] ∧ (-9223372036854775808 ≤ n ∧ n < 9223372036854775808) ∧ (0 ≤ e ∧ e < 4294967296) := by
 obtain ⟨zs, k2, hk2, hzy, _, hzl, hf2⟩ := DataW.trod_struct Tryz.underlying25 h
 obtain ⟨c0, c1, rfl⟩ : ∃ c0 c1, cs = [c0, c1] := by
  match cs, hc with
  | [a, b], _ => exact ⟨a, b, rfl⟩
 match zs, hzl with
 | [z0, z1], _ =>
  have q0 := hf2 0 _ rfl
  have q1 := hf2 1 _ rfl
  simp [cellsI, cellsU] at q0 q1
  obtain ⟨x2, b2, -, f2⟩ := DataW.trod_int Tryz.underlying2 q0
  obtain ⟨x3, b3, -, f3⟩ := DataW.trod_int Tryz.underlying23 q1
  simp only [List.cons.injEq, and_true] at b2 b3
  subst b2 b3
  have c2 := bounds_i64 f2
  have c3 := bounds_u32 f3
  exact ⟨x2, x3, rfl, by omega, by omega⟩
theorem cellsP9 : Tryz.prog.cellsOf 27 = 4 := by kernel_rfl
theorem p9_of {H : Type} {enc : TypeId × Value → H} {W : World} {base : Nat} {v : Value} {d : DataW H} {p : List MemPlace} (hv : Value.okWide Tryz.prog W .any base 27 v)
  (h : DataW.Trod enc Tryz.prog W 0 (fun _ => true) true 27 v d p) : ∃ n0 e0 n1 e1 : Int, v = .agg #[.int .i64 n0, .int .u32 e0, .int .i64 n1, .int .u32 e1] ∧ PB9 n0 e0 n1 e1 := by
 obtain ⟨⟨l⟩, rfl, hs⟩ := okWide_array9 Tryz.underlying27 hv
 rw [cellsP9] at hs
 obtain ⟨fuel, hf⟩ := h
 obtain ⟨xs, m, _, _, _, hn, hel⟩ := DataW.trod_array Tryz.underlying27 hf
 have each : ∀ i, i < 2 → ∃ n e : Int, (l.drop (i * 2)).take 2 = [.int .i64 n, .int .u32 e] ∧ (-9223372036854775808 ≤ n ∧ n < 9223372036854775808) ∧ (0 ≤ e ∧ e < 4294967296) := fun i hi => by
  have h1 := hel i hi
  rw [List.getElem?_eq_getElem (by omega), cellsQ] at h1
  exact q_cells (show DataW.trod enc Tryz.prog W 0 (fun _ => true) true m 25 ((l.drop (i * 2)).take 2) = _ from h1) (by
   rw [List.length_take, List.length_drop]
   have : l.length = 4 := hs
   omega)
 match l, hs with
 | [c0, c1, c2, c3], _ =>
  obtain ⟨n0, e0, h0, b0, g0⟩ := each 0 (by omega)
  obtain ⟨n1, e1, h1, b1, g1⟩ := each 1 (by omega)
  simp at h0 h1
  obtain ⟨rfl, rfl⟩ := h0
  obtain ⟨rfl, rfl⟩ := h1
  exact ⟨n0, e0, n1, e1, rfl, ⟨b0, g0⟩, b1, g1⟩
end Go.Proofs.YtkdbhacimoaohaaGreatDoor
