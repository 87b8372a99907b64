/-
  Layer 3, walks: Parse; the law package's own functions.
-/
import Derived.Test.YtecdnohhengfaaaGreatDoorZe
import Derived.Test.YtecdnohhengfaaaGreatDoorZd
import Derived.Still
import Derived.Test.YtecdnohhengfaaaGreatDoorZc
import Derived.Test.YtecdnohhengfaaaGreatDoorCards
import Derived.Test.YtecdnohhengfaaaGreatDoorTie
import Derived.ProofKit
import Derived.OpenShut
import Derived.ChangeSlices
import Derived.Carry
import Derived.Lay
import Derived.MakeChecks
import Derived.LaidSub
import Derived.Lib.LaidTab
import Derived.Deep.DeepHandedRow
import Derived.Lib.SmallJoins
set_option linter.unusedVariables false
set_option linter.unusedSimpArgs false
namespace Go.Proofs.YtecdnohhengfaaaGreatDoor
open Go.RowKit
attribute [local irreducible] lo hs sm s64 c64 d64 b64 mh ml pd pc qd qc val hiB str cmpI srD lz nb isq decB zl zh zs

set_option maxHeartbeats 4000000 in
set_option maxRecDepth 100000 in
theorem fparse_int (s p q : ByteArray) (z : Int) (f : Bool) (c : Int) (KT : World → Prop) (hKT : Keeps KT) (HC : ∀ w, KT w → Calls Tryz.prog 151 #[.string s, .string (ByteArray.mk #[47])] w fun xe w' => xe = .returned (.tuple #[.string p, .string q, .bool f]) ∧ Below w.heap.size w w') (HI : ∀ w, Calls Tryz.prog 124 #[.string p] w fun xe w' => xe = .returned (.tuple #[.agg #[.int .u64 ((zl z : Nat) : Int), .string (zh z), .bool (zs z)], .int .i64 c]) ∧ Below w.heap.size w w') (hc : (c == 0) = false) (w : World) (kKT : KT w) :
    Calls Tryz.prog 81 #[.string s] w fun xe w' => xe = .returned (.tuple #[.agg #[.int .u64 0, .string ⟨#[]⟩, .bool false, .int .u64 0, .string ⟨#[]⟩], .int .i64 c]) ∧ Below w.heap.size w w' := by
  have hL0 : GL w w [] := GL.start w
  replace hKT := Lib.hid hKT
  replace HC := Lib.hid HC
  replace HI := Lib.hid HI
  have hc2 : (c != 0) = true := by rw [bne, hc]; rfl
  replace hL0 := (hL0.new rfl [.int .u64 0, .string ⟨#[]⟩, .bool false, .int .u64 0, .string ⟨#[]⟩] 79)
  generalize hweq : (w.alloc (.cells #[.int .u64 0, .string ⟨#[]⟩, .bool false, .int .u64 0, .string ⟨#[]⟩] 79)) = x1 at hL0
  go_enter Tryz.func81, Tryz.ntmps81
  go_wp2_with fail
  with_reducible refine Calls.mono (HC.out _ (hKT.out.at hL0.bl kKT)) ?_
  rintro e x2 ⟨rfl, hb⟩
  replace hL0 := hL0.call hb
  clear hb hweq
  go_wp2_with fail
  with_reducible refine Calls.mono (HI.out _) ?_
  rintro e x3 ⟨rfl, hb⟩
  replace hL0 := hL0.call hb
  clear hb
  replace hL0 := (hL0.new rfl [.int .u64 ((zl z : Nat) : Int), .string (zh z), .bool (zs z)] 39)
  generalize hweq : (x3.alloc (.cells #[.int .u64 ((zl z : Nat) : Int), .string (zh z), .bool (zs z)] 39)) = x4 at hL0
  have hA := hL0.fc
  simp only [fcG, cellsF, neK, and_true, ne_eq, Nat.zero_add, Nat.reduceAdd] at hA
  have hP := hL0.put 1 (w.heap.size) _ rfl [.int .u64 0, .string ⟨#[]⟩, .bool false, .int .u64 0, .string ⟨#[]⟩] rfl
  simp only [setAll, List.set_cons_zero, List.set_cons_succ] at hP
  generalize hput1 : (((((x4.setCell ⟨w.heap.size, 0, none⟩ (.int .u64 0)).setCell ⟨w.heap.size, 1, none⟩ (.string ⟨#[]⟩)).setCell ⟨w.heap.size, 2, none⟩ (.bool false)).setCell ⟨w.heap.size, 3, none⟩ (.int .u64 0)).setCell ⟨w.heap.size, 4, none⟩ (.string ⟨#[]⟩)) = x5 at hP
  have hB1 := hP.fc
  simp only [fcG, cellsF, neK, and_true, ne_eq, Nat.zero_add, Nat.reduceAdd] at hB1
  replace hL0 := hP
  go_wp2_with fail
  exact bodyPost_ret (v := .tuple #[.agg #[.int .u64 0, .string ⟨#[]⟩, .bool false, .int .u64 0, .string ⟨#[]⟩], .int .i64 c]) (by simp [results, Tryz.results81, go_sem, hB1]) rfl ⟨rfl, hL0.bl⟩

set_option maxHeartbeats 4000000 in
set_option maxRecDepth 100000 in
theorem fparse_whole (s p q : ByteArray) (z n : Int) (e : Nat) (KT : World → Prop) (hKT : Keeps KT) (HC : ∀ w, KT w → Calls Tryz.prog 151 #[.string s, .string (ByteArray.mk #[47])] w fun xe w' => xe = .returned (.tuple #[.string p, .string q, .bool false]) ∧ Below w.heap.size w w') (HI : ∀ w, Calls Tryz.prog 124 #[.string p] w fun xe w' => xe = .returned (.tuple #[.agg #[.int .u64 ((zl z : Nat) : Int), .string (zh z), .bool (zs z)], .int .i64 0]) ∧ Below w.heap.size w w') (HO : ∀ w, Calls Tryz.prog 88 #[.int .u64 1] w fun xe w' => xe = .returned (.agg #[.int .u64 ((lo 1 : Nat) : Int), .string (hs 1)]) ∧ Below w.heap.size w w') (HL : ∀ w, Calls Tryz.prog 149 #[.agg #[.int .u64 ((zl z : Nat) : Int), .string (zh z), .bool (zs z)], .agg #[.int .u64 ((lo 1 : Nat) : Int), .string (hs 1)]] w fun xe w' => xe = .returned (.agg #[.int .u64 ((zl n : Nat) : Int), .string (zh n), .bool (zs n), .int .u64 ((lo e : Nat) : Int), .string (hs e)]) ∧ Below w.heap.size w w') (w : World) (kKT : KT w) :
    Calls Tryz.prog 81 #[.string s] w fun xe w' => xe = .returned (.tuple #[.agg #[.int .u64 ((zl n : Nat) : Int), .string (zh n), .bool (zs n), .int .u64 ((lo e : Nat) : Int), .string (hs e)], .int .i64 0]) ∧ Below w.heap.size w w' := by
  have hL0 : GL w w [] := GL.start w
  replace hKT := Lib.hid hKT
  replace HC := Lib.hid HC
  replace HI := Lib.hid HI
  replace HO := Lib.hid HO
  replace HL := Lib.hid HL
  replace hL0 := (hL0.new rfl [.int .u64 0, .string ⟨#[]⟩, .bool false, .int .u64 0, .string ⟨#[]⟩] 79)
  generalize hweq : (w.alloc (.cells #[.int .u64 0, .string ⟨#[]⟩, .bool false, .int .u64 0, .string ⟨#[]⟩] 79)) = x1 at hL0
  go_enter Tryz.func81, Tryz.ntmps81
  go_wp2_with fail
  with_reducible refine Calls.mono (HC.out _ (hKT.out.at hL0.bl kKT)) ?_
  rintro e x2 ⟨rfl, hb⟩
  replace hL0 := hL0.call hb
  clear hb hweq
  go_wp2_with fail
  with_reducible refine Calls.mono (HI.out _) ?_
  rintro e x3 ⟨rfl, hb⟩
  replace hL0 := hL0.call hb
  clear hb
  replace hL0 := (hL0.new rfl [.int .u64 ((zl z : Nat) : Int), .string (zh z), .bool (zs z)] 39)
  generalize hweq : (x3.alloc (.cells #[.int .u64 ((zl z : Nat) : Int), .string (zh z), .bool (zs z)] 39)) = x4 at hL0
  go_upto_region 6 with fail
  clear hweq
  obtain ⟨α, iα, F, hF1, hF2⟩ := cls x4
  have hq0 := cls_box hF1 hL0 _ _ List.mem_cons_self
  simp only [cellsC, and_true, Nat.zero_add, Nat.reduceAdd] at hq0
  refine region_qs 3 (C := fun w' => ∃ x, w' = F x) (by kernel_rfl) (by kernel_rfl) (cls_drew hF2) ?_
  simp only [List.take_succ_cons, List.take_zero, List.drop_succ_cons, List.drop_zero, List.take_nil, List.drop_nil]
  repeat (go_big_quiet_step (first | fail | (go_at_call 88; with_reducible exact cls_call hF1 hF2 HO.out _) | (go_at_call 149; with_reducible exact cls_call hF1 hF2 HL.out _)))
  refine wpQuiet_nil ?_
  rintro wq ⟨xq, rfl⟩
  replace hL0 := hL0.call (hF1 xq)
  clear  hq0 hF2
  generalize F xq = x5 at hL0 ⊢
  clear hF1 xq iα F α
  have hA := hL0.fc
  simp only [fcG, cellsF, neK, and_true, ne_eq, Nat.zero_add, Nat.reduceAdd] at hA
  have hP := hL0.put 1 (w.heap.size) _ rfl [.int .u64 ((zl n : Nat) : Int), .string (zh n), .bool (zs n), .int .u64 ((lo e : Nat) : Int), .string (hs e)] rfl
  simp only [setAll, List.set_cons_zero, List.set_cons_succ] at hP
  generalize hput1 : (((((x5.setCell ⟨w.heap.size, 0, none⟩ (.int .u64 ((zl n : Nat) : Int))).setCell ⟨w.heap.size, 1, none⟩ (.string (zh n))).setCell ⟨w.heap.size, 2, none⟩ (.bool (zs n))).setCell ⟨w.heap.size, 3, none⟩ (.int .u64 ((lo e : Nat) : Int))).setCell ⟨w.heap.size, 4, none⟩ (.string (hs e))) = x6 at hP
  have hB1 := hP.fc
  simp only [fcG, cellsF, neK, and_true, ne_eq, Nat.zero_add, Nat.reduceAdd] at hB1
  replace hL0 := hP
  go_wp2_with fail
  exact bodyPost_ret (v := .tuple #[.agg #[.int .u64 ((zl n : Nat) : Int), .string (zh n), .bool (zs n), .int .u64 ((lo e : Nat) : Int), .string (hs e)], .int .i64 0]) (by simp [results, Tryz.results81, go_sem, hB1]) rfl ⟨rfl, hL0.bl⟩

set_option maxHeartbeats 4000000 in
set_option maxRecDepth 100000 in
theorem fparse_nat (s p q : ByteArray) (z : Int) (d : Nat) (c : Int) (KT : World → Prop) (hKT : Keeps KT) (HC : ∀ w, KT w → Calls Tryz.prog 151 #[.string s, .string (ByteArray.mk #[47])] w fun xe w' => xe = .returned (.tuple #[.string p, .string q, .bool true]) ∧ Below w.heap.size w w') (HI : ∀ w, Calls Tryz.prog 124 #[.string p] w fun xe w' => xe = .returned (.tuple #[.agg #[.int .u64 ((zl z : Nat) : Int), .string (zh z), .bool (zs z)], .int .i64 0]) ∧ Below w.heap.size w w') (HN : ∀ w, Calls Tryz.prog 116 #[.string q] w fun xe w' => xe = .returned (.tuple #[.agg #[.int .u64 ((lo d : Nat) : Int), .string (hs d)], .int .i64 c]) ∧ Below w.heap.size w w') (hc : (c == 0) = false) (w : World) (kKT : KT w) :
    Calls Tryz.prog 81 #[.string s] w fun xe w' => xe = .returned (.tuple #[.agg #[.int .u64 0, .string ⟨#[]⟩, .bool false, .int .u64 0, .string ⟨#[]⟩], .int .i64 c]) ∧ Below w.heap.size w w' := by
  have hL0 : GL w w [] := GL.start w
  replace hKT := Lib.hid hKT
  replace HC := Lib.hid HC
  replace HI := Lib.hid HI
  replace HN := Lib.hid HN
  have hc2 : (c != 0) = true := by rw [bne, hc]; rfl
  replace hL0 := (hL0.new rfl [.int .u64 0, .string ⟨#[]⟩, .bool false, .int .u64 0, .string ⟨#[]⟩] 79)
  generalize hweq : (w.alloc (.cells #[.int .u64 0, .string ⟨#[]⟩, .bool false, .int .u64 0, .string ⟨#[]⟩] 79)) = x1 at hL0
  go_enter Tryz.func81, Tryz.ntmps81
  go_wp2_with fail
  with_reducible refine Calls.mono (HC.out _ (hKT.out.at hL0.bl kKT)) ?_
  rintro e x2 ⟨rfl, hb⟩
  replace hL0 := hL0.call hb
  clear hb hweq
  go_wp2_with fail
  with_reducible refine Calls.mono (HI.out _) ?_
  rintro e x3 ⟨rfl, hb⟩
  replace hL0 := hL0.call hb
  clear hb
  replace hL0 := (hL0.new rfl [.int .u64 ((zl z : Nat) : Int), .string (zh z), .bool (zs z)] 39)
  generalize hweq : (x3.alloc (.cells #[.int .u64 ((zl z : Nat) : Int), .string (zh z), .bool (zs z)] 39)) = x4 at hL0
  go_wp2_with fail
  with_reducible refine Calls.mono (HN.out _) ?_
  rintro e x5 ⟨rfl, hb⟩
  replace hL0 := hL0.call hb
  clear hb hweq
  replace hL0 := (hL0.new rfl [.int .u64 ((lo d : Nat) : Int), .string (hs d)] 32)
  generalize hweq : (x5.alloc (.cells #[.int .u64 ((lo d : Nat) : Int), .string (hs d)] 32)) = x6 at hL0
  have hA := hL0.fc
  simp only [fcG, cellsF, neK, and_true, ne_eq, Nat.zero_add, Nat.reduceAdd] at hA
  have hP := hL0.put 2 (w.heap.size) _ rfl [.int .u64 0, .string ⟨#[]⟩, .bool false, .int .u64 0, .string ⟨#[]⟩] rfl
  simp only [setAll, List.set_cons_zero, List.set_cons_succ] at hP
  generalize hput1 : (((((x6.setCell ⟨w.heap.size, 0, none⟩ (.int .u64 0)).setCell ⟨w.heap.size, 1, none⟩ (.string ⟨#[]⟩)).setCell ⟨w.heap.size, 2, none⟩ (.bool false)).setCell ⟨w.heap.size, 3, none⟩ (.int .u64 0)).setCell ⟨w.heap.size, 4, none⟩ (.string ⟨#[]⟩)) = x7 at hP
  have hB1 := hP.fc
  simp only [fcG, cellsF, neK, and_true, ne_eq, Nat.zero_add, Nat.reduceAdd] at hB1
  replace hL0 := hP
  go_wp2_with fail
  exact bodyPost_ret (v := .tuple #[.agg #[.int .u64 0, .string ⟨#[]⟩, .bool false, .int .u64 0, .string ⟨#[]⟩], .int .i64 c]) (by simp [results, Tryz.results81, go_sem, hB1]) rfl ⟨rfl, hL0.bl⟩

set_option maxHeartbeats 4000000 in
set_option maxRecDepth 100000 in
theorem fparse_part (s p q : ByteArray) (z n : Int) (d e : Nat) (c : Int) (KT : World → Prop) (hKT : Keeps KT) (HC : ∀ w, KT w → Calls Tryz.prog 151 #[.string s, .string (ByteArray.mk #[47])] w fun xe w' => xe = .returned (.tuple #[.string p, .string q, .bool true]) ∧ Below w.heap.size w w') (HI : ∀ w, Calls Tryz.prog 124 #[.string p] w fun xe w' => xe = .returned (.tuple #[.agg #[.int .u64 ((zl z : Nat) : Int), .string (zh z), .bool (zs z)], .int .i64 0]) ∧ Below w.heap.size w w') (HN : ∀ w, Calls Tryz.prog 116 #[.string q] w fun xe w' => xe = .returned (.tuple #[.agg #[.int .u64 ((lo d : Nat) : Int), .string (hs d)], .int .i64 0]) ∧ Below w.heap.size w w') (HF : ∀ w, Calls Tryz.prog 86 #[.agg #[.int .u64 ((zl z : Nat) : Int), .string (zh z), .bool (zs z)], .agg #[.int .u64 ((lo d : Nat) : Int), .string (hs d)]] w fun xe w' => xe = .returned (.tuple #[.agg #[.int .u64 ((zl n : Nat) : Int), .string (zh n), .bool (zs n), .int .u64 ((lo e : Nat) : Int), .string (hs e)], .int .i64 c]) ∧ Below w.heap.size w w') (w : World) (kKT : KT w) :
    Calls Tryz.prog 81 #[.string s] w fun xe w' => xe = .returned (.tuple #[.agg #[.int .u64 ((zl n : Nat) : Int), .string (zh n), .bool (zs n), .int .u64 ((lo e : Nat) : Int), .string (hs e)], .int .i64 c]) ∧ Below w.heap.size w w' := by
  have hL0 : GL w w [] := GL.start w
  replace hKT := Lib.hid hKT
  replace HC := Lib.hid HC
  replace HI := Lib.hid HI
  replace HN := Lib.hid HN
  replace HF := Lib.hid HF
  replace hL0 := (hL0.new rfl [.int .u64 0, .string ⟨#[]⟩, .bool false, .int .u64 0, .string ⟨#[]⟩] 79)
  generalize hweq : (w.alloc (.cells #[.int .u64 0, .string ⟨#[]⟩, .bool false, .int .u64 0, .string ⟨#[]⟩] 79)) = x1 at hL0
  go_enter Tryz.func81, Tryz.ntmps81
  go_wp2_with fail
  with_reducible refine Calls.mono (HC.out _ (hKT.out.at hL0.bl kKT)) ?_
  rintro e x2 ⟨rfl, hb⟩
  replace hL0 := hL0.call hb
  clear hb hweq
  go_wp2_with fail
  with_reducible refine Calls.mono (HI.out _) ?_
  rintro e x3 ⟨rfl, hb⟩
  replace hL0 := hL0.call hb
  clear hb
  replace hL0 := (hL0.new rfl [.int .u64 ((zl z : Nat) : Int), .string (zh z), .bool (zs z)] 39)
  generalize hweq : (x3.alloc (.cells #[.int .u64 ((zl z : Nat) : Int), .string (zh z), .bool (zs z)] 39)) = x4 at hL0
  go_wp2_with fail
  with_reducible refine Calls.mono (HN.out _) ?_
  rintro e x5 ⟨rfl, hb⟩
  replace hL0 := hL0.call hb
  clear hb hweq
  replace hL0 := (hL0.new rfl [.int .u64 ((lo d : Nat) : Int), .string (hs d)] 32)
  generalize hweq : (x5.alloc (.cells #[.int .u64 ((lo d : Nat) : Int), .string (hs d)] 32)) = x6 at hL0
  have hN0 := cells_of _ 0 [] rfl (hL0.get _ _ List.mem_cons_self)
  simp only [cellsF, and_true, Nat.zero_add, Nat.reduceAdd] at hN0
  have hN1 := cells_of _ 0 [] rfl (hL0.get _ _ (List.mem_cons_of_mem _ List.mem_cons_self))
  simp only [cellsF, and_true, Nat.zero_add, Nat.reduceAdd] at hN1
  go_wp2_with fail
  clear hN0 hN1
  with_reducible refine Calls.mono (HF.out _) ?_
  rintro e x7 ⟨rfl, hb⟩
  replace hL0 := hL0.call hb
  clear hb hweq
  have hA := hL0.fc
  simp only [fcG, cellsF, neK, and_true, ne_eq, Nat.zero_add, Nat.reduceAdd] at hA
  have hP := hL0.put 2 (w.heap.size) _ rfl [.int .u64 ((zl n : Nat) : Int), .string (zh n), .bool (zs n), .int .u64 ((lo e : Nat) : Int), .string (hs e)] rfl
  simp only [setAll, List.set_cons_zero, List.set_cons_succ] at hP
  generalize hput1 : (((((x7.setCell ⟨w.heap.size, 0, none⟩ (.int .u64 ((zl n : Nat) : Int))).setCell ⟨w.heap.size, 1, none⟩ (.string (zh n))).setCell ⟨w.heap.size, 2, none⟩ (.bool (zs n))).setCell ⟨w.heap.size, 3, none⟩ (.int .u64 ((lo e : Nat) : Int))).setCell ⟨w.heap.size, 4, none⟩ (.string (hs e))) = x8 at hP
  have hB1 := hP.fc
  simp only [fcG, cellsF, neK, and_true, ne_eq, Nat.zero_add, Nat.reduceAdd] at hB1
  replace hL0 := hP
  go_wp2_with fail
  exact bodyPost_ret (v := .tuple #[.agg #[.int .u64 ((zl n : Nat) : Int), .string (zh n), .bool (zs n), .int .u64 ((lo e : Nat) : Int), .string (hs e)], .int .i64 c]) (by simp [results, Tryz.results81, go_sem, hB1]) rfl ⟨rfl, hL0.bl⟩

set_option maxHeartbeats 4000000 in
set_option maxRecDepth 100000 in
theorem gden_w (s : Bool) (a b : Option Addr) (n c m d : Nat) (w : World) :
    Calls Tryz.prog 141 #[.agg #[.bool s, .slice a n c, .slice b m d]] w fun xe w' => xe = .returned (.agg #[.bool false, .slice b m d]) ∧ Below w.heap.size w w' := by
  have hL0 : GL w w [] := GL.start w
  replace hL0 := ((hL0.new rfl [.bool s, .slice a n c, .slice b m d] 76).new (K := w.heap.size + 1) (szA _ _) [.bool false, .slice b m d] 36)
  generalize hweq : ((w.alloc (.cells #[.bool s, .slice a n c, .slice b m d] 76)).alloc (.cells #[.bool false, .slice b m d] 36)) = x1 at hL0
  go_enter Tryz.func141, Tryz.ntmps141
  have hN0 := cells_of _ 0 [] rfl (hL0.get _ _ List.mem_cons_self)
  simp only [cellsF, and_true, Nat.zero_add, Nat.reduceAdd] at hN0
  have hN1 := cells_of _ 0 [] rfl (hL0.get _ _ (List.mem_cons_of_mem _ List.mem_cons_self))
  simp only [cellsF, and_true, Nat.zero_add, Nat.reduceAdd] at hN1
  go_wp2_with fail
  exact bodyPost_ret (v := .agg #[.bool false, .slice b m d]) (by simp [results, Tryz.results141, go_sem, hN0 ,hN1]) rfl ⟨rfl, hL0.bl⟩

set_option maxHeartbeats 4000000 in
set_option maxRecDepth 100000 in
theorem gof_w (s : Bool) (a b : Option Addr) (n c m d : Nat) (y z x : Int) (p q e : Nat) (K : World → Prop) (hK : Keeps K) (HZ : ∀ w, K w → Calls Tryz.prog 27 #[.agg #[.bool s, .slice a n c]] w fun xe w' => xe = .returned (.agg #[.int .u64 ((zl z : Nat) : Int), .string (zh z), .bool (zs z)]) ∧ Below w.heap.size w w') (HD : ∀ w, Calls Tryz.prog 141 #[.agg #[.bool s, .slice a n c, .slice b m d]] w fun xe w' => xe = .returned (.agg #[.bool false, .slice b m d]) ∧ Below w.heap.size w w') (L : World → Prop) (hL : Keeps L) (HY : ∀ w, L w → Calls Tryz.prog 27 #[.agg #[.bool false, .slice b m d]] w fun xe w' => xe = .returned (.agg #[.int .u64 ((zl y : Nat) : Int), .string (zh y), .bool (zs y)]) ∧ Below w.heap.size w w') (HA : ∀ w, Calls Tryz.prog 43 #[.agg #[.int .u64 ((zl y : Nat) : Int), .string (zh y), .bool (zs y)]] w fun xe w' => xe = .returned (.agg #[.int .u64 ((lo p : Nat) : Int), .string (hs p)]) ∧ Below w.heap.size w w') (HO : ∀ w, Calls Tryz.prog 88 #[.int .u64 1] w fun xe w' => xe = .returned (.agg #[.int .u64 ((lo 1 : Nat) : Int), .string (hs 1)]) ∧ Below w.heap.size w w') (HP : ∀ w, Calls Tryz.prog 108 #[.agg #[.int .u64 ((lo p : Nat) : Int), .string (hs p)], .agg #[.int .u64 ((lo 1 : Nat) : Int), .string (hs 1)]] w fun xe w' => xe = .returned (.agg #[.int .u64 ((lo q : Nat) : Int), .string (hs q)]) ∧ Below w.heap.size w w') (HF : ∀ w, Calls Tryz.prog 86 #[.agg #[.int .u64 ((zl z : Nat) : Int), .string (zh z), .bool (zs z)], .agg #[.int .u64 ((lo q : Nat) : Int), .string (hs q)]] w fun xe w' => xe = .returned (.tuple #[.agg #[.int .u64 ((zl x : Nat) : Int), .string (zh x), .bool (zs x), .int .u64 ((lo e : Nat) : Int), .string (hs e)], .int .i64 0]) ∧ Below w.heap.size w w') (w : World) (kK : K w) (kL : L w) :
    Calls Tryz.prog 58 #[.agg #[.bool s, .slice a n c, .slice b m d]] w fun xe w' => xe = .returned (.agg #[.int .u64 ((zl x : Nat) : Int), .string (zh x), .bool (zs x), .int .u64 ((lo e : Nat) : Int), .string (hs e)]) ∧ Below w.heap.size w w' := by
  have hL0 : GL w w [] := GL.start w
  replace hK := Lib.hid hK
  replace HZ := Lib.hid HZ
  replace HD := Lib.hid HD
  replace hL := Lib.hid hL
  replace HY := Lib.hid HY
  replace HA := Lib.hid HA
  replace HO := Lib.hid HO
  replace HP := Lib.hid HP
  replace HF := Lib.hid HF
  replace hL0 := ((hL0.new rfl [.bool s, .slice a n c, .slice b m d] 76).new (K := w.heap.size + 1) (szA _ _) [.int .u64 0, .string ⟨#[]⟩, .bool false, .int .u64 0, .string ⟨#[]⟩] 79)
  generalize hweq : ((w.alloc (.cells #[.bool s, .slice a n c, .slice b m d] 76)).alloc (.cells #[.int .u64 0, .string ⟨#[]⟩, .bool false, .int .u64 0, .string ⟨#[]⟩] 79)) = x1 at hL0
  go_enter Tryz.func58, Tryz.ntmps58
  go_upto_region 1 with fail
  have kK1 := hK.out.at hL0.bl kK
  have kL1 := hL.out.at hL0.bl kL
  clear hweq
  refine region_gh (by kernel_rfl) (by kernel_rfl) ?_
  refine lex_seg (gl := []) 13 (by kernel_rfl) ?_
  intro α iα F hF1 hF2
  have hq := GL.seg hF1 hL0
  simp only [fcC, cellsC, and_true, Nat.zero_add, Nat.reduceAdd] at hq
  simp only [List.take_succ_cons, List.take_zero, List.drop_succ_cons, List.drop_zero, List.take_nil, List.drop_nil]
  repeat (go_big_quiet_step (first | fail | (go_at_call 27; with_reducible exact seg_callK hK.out hF1 hF2 kK1 HZ.out _) | (go_at_call 141; with_reducible exact seg_call hF2 HD.out _) | (go_at_call 27; with_reducible exact seg_callK hL.out hF1 hF2 kL1 HY.out _) | (go_at_call 43; with_reducible exact seg_call hF2 HA.out _) | (go_at_call 88; with_reducible exact seg_call hF2 HO.out _) | (go_at_call 108; with_reducible exact seg_call hF2 HP.out _) | (go_at_call 86; with_reducible exact seg_call hF2 HF.out _)))
  refine wpQuiet_nil ?_
  clear hq hF1 hF2 iα F α
  refine lex_new [.int .u64 0, .string ⟨#[]⟩, .bool false, .int .u64 0, .string ⟨#[]⟩] 3 79 79 rfl rfl (of_decide_eq_true (by kernel_rfl)) (by kernel_rfl) rfl new_frac ?_
  simp only [Act.put, List.setIfInBounds_toArray, List.set_cons_succ, List.set_cons_zero]
  refine lex_put [.int .u64 ((zl x : Nat) : Int), .string (zh x), .bool (zs x), .int .u64 ((lo e : Nat) : Int), .string (hs e)] [.int .u64 0, .string ⟨#[]⟩, .bool false, .int .u64 0, .string ⟨#[]⟩] 3 79 (.tmp 16) rfl (by kernel_rfl) (by simp [toG, upd]) rfl (fun w k h => put_frac _ _ _ _ _ _ _ _ _ _ w k h) ?_
  simp only [Act.put]
  refine lex_seg (gl := [(3, [.int .u64 ((zl x : Nat) : Int), .string (zh x), .bool (zs x), .int .u64 ((lo e : Nat) : Int), .string (hs e)], true), (3, [.int .u64 0, .string ⟨#[]⟩, .bool false, .int .u64 0, .string ⟨#[]⟩], false)]) 1 (by kernel_rfl) ?_
  intro α iα F hF1 hF2
  have hq := GL.seg hF1 hL0
  simp only [fcC, cellsC, and_true, Nat.zero_add, Nat.reduceAdd] at hq
  simp only [List.take_succ_cons, List.take_zero, List.drop_succ_cons, List.drop_zero, List.take_nil, List.drop_nil]
  repeat (go_big_quiet_step (first | fail | (go_at_call 27; with_reducible exact seg_callK hK.out hF1 hF2 kK1 HZ.out _) | (go_at_call 141; with_reducible exact seg_call hF2 HD.out _) | (go_at_call 27; with_reducible exact seg_callK hL.out hF1 hF2 kL1 HY.out _) | (go_at_call 43; with_reducible exact seg_call hF2 HA.out _) | (go_at_call 88; with_reducible exact seg_call hF2 HO.out _) | (go_at_call 108; with_reducible exact seg_call hF2 HP.out _) | (go_at_call 86; with_reducible exact seg_call hF2 HF.out _)))
  refine wpQuiet_nil ?_
  clear hq hF1 hF2 iα F α
  refine lexG_nil ?_
  intro κ x2 hS
  replace hL0 := hL0.ghs hS [(3, [.int .u64 ((zl x : Nat) : Int), .string (zh x), .bool (zs x), .int .u64 ((lo e : Nat) : Int), .string (hs e)])] (by simp) (by intro p hp; simp only [List.mem_cons, List.not_mem_nil, or_false] at hp; rcases hp with rfl <;> exact ⟨_, by simp only [toG, upd]; rfl⟩)
  simp only [List.map_cons, List.map_nil, List.cons_append, List.nil_append] at hL0
  simp only [over_toG, over_nil, Act.put, List.setIfInBounds_toArray, List.set_cons_succ, List.set_cons_zero]
  clear hS
  generalize κ 3 = k2_3 at *
  clear kK1 kL1
  have hA := hL0.fc
  simp only [fcG, cellsF, neK, and_true, ne_eq, Nat.zero_add, Nat.reduceAdd] at hA
  have hP := hL0.put 1 (w.heap.size + 1) _ rfl [.int .u64 ((zl x : Nat) : Int), .string (zh x), .bool (zs x), .int .u64 ((lo e : Nat) : Int), .string (hs e)] rfl
  simp only [setAll, List.set_cons_zero, List.set_cons_succ] at hP
  generalize hput1 : (((((x2.setCell ⟨w.heap.size + 1, 0, none⟩ (.int .u64 ((zl x : Nat) : Int))).setCell ⟨w.heap.size + 1, 1, none⟩ (.string (zh x))).setCell ⟨w.heap.size + 1, 2, none⟩ (.bool (zs x))).setCell ⟨w.heap.size + 1, 3, none⟩ (.int .u64 ((lo e : Nat) : Int))).setCell ⟨w.heap.size + 1, 4, none⟩ (.string (hs e))) = x3 at hP
  have hB1 := hP.fc
  simp only [fcG, cellsF, neK, and_true, ne_eq, Nat.zero_add, Nat.reduceAdd] at hB1
  replace hL0 := hP
  go_wp2_with fail
  exact bodyPost_ret (v := .agg #[.int .u64 ((zl x : Nat) : Int), .string (zh x), .bool (zs x), .int .u64 ((lo e : Nat) : Int), .string (hs e)]) (by simp [results, Tryz.results58, go_sem, hB1]) rfl ⟨rfl, hL0.bl⟩

set_option maxHeartbeats 4000000 in
set_option maxRecDepth 100000 in
theorem lof_w (i j c x : Int) (e : Nat) (HF : ∀ w, Calls Tryz.prog 93 #[.int .i64 i, .int .i64 j] w fun xe w' => xe = .returned (.tuple #[.agg #[.int .u64 ((zl x : Nat) : Int), .string (zh x), .bool (zs x), .int .u64 ((lo e : Nat) : Int), .string (hs e)], .int .i64 c]) ∧ Below w.heap.size w w') (w : World) :
    Calls Tryz.prog 139 #[.int .i64 i, .int .i64 j] w fun xe w' => xe = .returned (.agg #[.int .u64 ((zl x : Nat) : Int), .string (zh x), .bool (zs x), .int .u64 ((lo e : Nat) : Int), .string (hs e)]) ∧ Below w.heap.size w w' := by
  have hL0 : GL w w [] := GL.start w
  replace HF := Lib.hid HF
  replace hL0 := (hL0.new rfl [.int .u64 0, .string ⟨#[]⟩, .bool false, .int .u64 0, .string ⟨#[]⟩] 79)
  generalize hweq : (w.alloc (.cells #[.int .u64 0, .string ⟨#[]⟩, .bool false, .int .u64 0, .string ⟨#[]⟩] 79)) = x1 at hL0
  go_enter Tryz.func139, Tryz.ntmps139
  go_wp2_with fail
  with_reducible refine Calls.mono (HF.out _) ?_
  rintro e x2 ⟨rfl, hb⟩
  replace hL0 := hL0.call hb
  clear hb hweq
  replace hL0 := (hL0.new rfl [.int .u64 ((zl x : Nat) : Int), .string (zh x), .bool (zs x), .int .u64 ((lo e : Nat) : Int), .string (hs e)] 79)
  generalize hweq : (x2.alloc (.cells #[.int .u64 ((zl x : Nat) : Int), .string (zh x), .bool (zs x), .int .u64 ((lo e : Nat) : Int), .string (hs e)] 79)) = x3 at hL0
  have hA := hL0.fc
  simp only [fcG, cellsF, neK, and_true, ne_eq, Nat.zero_add, Nat.reduceAdd] at hA
  have hP := hL0.put 1 (w.heap.size) _ rfl [.int .u64 ((zl x : Nat) : Int), .string (zh x), .bool (zs x), .int .u64 ((lo e : Nat) : Int), .string (hs e)] rfl
  simp only [setAll, List.set_cons_zero, List.set_cons_succ] at hP
  generalize hput1 : (((((x3.setCell ⟨w.heap.size, 0, none⟩ (.int .u64 ((zl x : Nat) : Int))).setCell ⟨w.heap.size, 1, none⟩ (.string (zh x))).setCell ⟨w.heap.size, 2, none⟩ (.bool (zs x))).setCell ⟨w.heap.size, 3, none⟩ (.int .u64 ((lo e : Nat) : Int))).setCell ⟨w.heap.size, 4, none⟩ (.string (hs e))) = x4 at hP
  have hB1 := hP.fc
  simp only [fcG, cellsF, neK, and_true, ne_eq, Nat.zero_add, Nat.reduceAdd] at hB1
  replace hL0 := hP
  go_wp2_with fail
  exact bodyPost_ret (v := .agg #[.int .u64 ((zl x : Nat) : Int), .string (zh x), .bool (zs x), .int .u64 ((lo e : Nat) : Int), .string (hs e)]) (by simp [results, Tryz.results139, go_sem, hB1]) rfl ⟨rfl, hL0.bl⟩

set_option maxHeartbeats 4000000 in
set_option maxRecDepth 100000 in
theorem ltext_true (x : Int) (e : Nat) (s : ByteArray) (HT : ∀ w, Tab w → Calls Tryz.prog 144 #[.agg #[.int .u64 ((zl x : Nat) : Int), .string (zh x), .bool (zs x), .int .u64 ((lo e : Nat) : Int), .string (hs e)]] w fun xe w' => xe = .returned (.string s) ∧ Below w.heap.size w w') (w : World) (htab : Tab w) :
    Calls Tryz.prog 140 #[.agg #[.int .u64 ((zl x : Nat) : Int), .string (zh x), .bool (zs x), .int .u64 ((lo e : Nat) : Int), .string (hs e)], .string s] w fun xe w' => xe = .returned (.bool true) ∧ Below w.heap.size w w' := by
  have hL0 : GL w w [] := GL.start w
  replace HT := Lib.hid HT
  replace hL0 := (hL0.new rfl [.int .u64 ((zl x : Nat) : Int), .string (zh x), .bool (zs x), .int .u64 ((lo e : Nat) : Int), .string (hs e)] 79)
  generalize hweq : (w.alloc (.cells #[.int .u64 ((zl x : Nat) : Int), .string (zh x), .bool (zs x), .int .u64 ((lo e : Nat) : Int), .string (hs e)] 79)) = x1 at hL0
  go_enter Tryz.func140, Tryz.ntmps140
  have hN0 := cells_of _ 0 [] rfl (hL0.get _ _ List.mem_cons_self)
  simp only [cellsF, and_true, Nat.zero_add, Nat.reduceAdd] at hN0
  go_wp2_with fail
  clear hN0
  with_reducible refine Calls.mono (HT.out _ (htab.below hL0.bl)) ?_
  rintro e x2 ⟨rfl, hb⟩
  replace hL0 := hL0.call hb
  clear hb hweq
  go_wp2_with fail
  exact bodyPost_ret (v := .bool true) (by simp [results, Tryz.results140, go_sem]) rfl ⟨rfl, hL0.bl⟩

end Go.Proofs.YtecdnohhengfaaaGreatDoor

/-
  Layer 3, walks: the choice among fractions.
-/
namespace Go.Proofs.YtecdnohhengfaaaGreatDoor
open Go.RowKit
attribute [local irreducible] lo hs sm s64 c64 d64 b64 mh ml pd pc qd qc val hiB str cmpI srD lz nb isq decB zl zh zs fe

/-- A slice's fractions. -/
structure FS (w : World) (g : Nat) (qs : List Rat) : Prop where
  cell : ∀ i (h : i < qs.length), w.cell? ⟨g, i * 5, none⟩ = some (.int .u64 ((zl qs[i].num : Nat) : Int)) ∧ w.cell? ⟨g, i * 5 + 1, none⟩ = some (.string (zh qs[i].num)) ∧ w.cell? ⟨g, i * 5 + 2, none⟩ = some (.bool (zs qs[i].num)) ∧
    w.cell? ⟨g, i * 5 + 3, none⟩ = some (.int .u64 ((lo (fe qs[i]) : Nat) : Int)) ∧ w.cell? ⟨g, i * 5 + 4, none⟩ = some (.string (hs (fe qs[i])))
  lt : g < w.heap.size
theorem FS.below {w w' : World} {g : Nat} {qs : List Rat} (h : FS w g qs) (hb : Below w.heap.size w w') : FS w' g qs := by
  have hs := hb.size
  have hl := h.lt
  refine ⟨fun i hi => ?_, by omega⟩
  obtain ⟨h0, h1, h2, h3, h4⟩ := h.cell i hi
  exact ⟨(hb.cell (p := ⟨g, i * 5, none⟩) hl).trans h0, (hb.cell (p := ⟨g, i * 5 + 1, none⟩) hl).trans h1, (hb.cell (p := ⟨g, i * 5 + 2, none⟩) hl).trans h2, (hb.cell (p := ⟨g, i * 5 + 3, none⟩) hl).trans h3, (hb.cell (p := ⟨g, i * 5 + 4, none⟩) hl).trans h4⟩
def SlQ (w : World) (v : Value) (qs : List Rat) : Prop := (∃ ao c, v = .slice ao 0 c ∧ qs = []) ∨ ∃ g c, v = .slice (some ⟨g, 0, none⟩) qs.length c ∧ FS w g qs
theorem SlQ.below {w w' : World} {v : Value} {qs : List Rat} (h : SlQ w v qs) (hb : Below w.heap.size w w') : SlQ w' v qs := by
  rcases h with h | ⟨g, c, h1, h2⟩
  · exact .inl h
  · exact .inr ⟨g, c, h1, h2.below hb⟩
theorem SlQ.keeps (v : Value) (qs : List Rat) : Keeps (fun w => SlQ w v qs) := fun _ _ hb h => h.below hb
/-- The choice of the first that no other is better than. -/
def amg (r : Rat → Rat → Bool) : List Rat → Rat
  | [] => 0
  | q :: l => l.foldl (fun b a => if r a b then a else b) q
theorem amg_snoc (r : Rat → Rat → Bool) (l : List Rat) (a : Rat) (h : l ≠ []) : amg r (l ++ [a]) = if r a (amg r l) then a else amg r l := by
  cases l with
  | nil => exact absurd rfl h
  | cons q l => simp only [amg, List.cons_append, List.foldl_append, List.foldl_cons, List.foldl_nil]; rfl
theorem amg_mem (r : Rat → Rat → Bool) : ∀ (l : List Rat), l ≠ [] → amg r l ∈ l := by
  intro l
  refine snoc_ind (p := fun l => l ≠ [] → amg r l ∈ l) l (fun h => absurd rfl h) fun m a ih _ => ?_
  by_cases hm : m = []
  · subst hm; simp [amg]
  · rw [amg_snoc r m a hm]
    split
    · simp
    · exact List.mem_append_left _ (ih hm)
theorem fe_zero : fe 0 = 0 := fe_one rfl
def gtQ (p q : Rat) : Bool := decide (q < p)
def ltQ (p q : Rat) : Bool := decide (p < q)
theorem cmpQ_gt (p q : Rat) : decide (0 < cmpQ p q) = gtQ p q := by
  unfold cmpQ gtQ
  by_cases h : p < q
  · rw [if_pos h, decide_eq_false (p := q < p) (by grind)]; rfl
  · rw [if_neg h]
    by_cases h' : p = q
    · rw [if_pos h', decide_eq_false (p := q < p) (by grind)]; rfl
    · rw [if_neg h', decide_eq_true (p := q < p) (by grind)]; rfl
theorem cmpQ_lt (p q : Rat) : decide (cmpQ p q < 0) = ltQ p q := by
  unfold cmpQ ltQ
  by_cases h : p < q
  · rw [if_pos h, decide_eq_true h]; rfl
  · rw [if_neg h, decide_eq_false h]
    split <;> rfl

set_option maxHeartbeats 4000000 in
set_option maxRecDepth 100000 in
theorem gtr_true (m n c : Int) (d e : Nat) (HC : ∀ w, Calls Tryz.prog 76 #[.agg #[.int .u64 ((zl m : Nat) : Int), .string (zh m), .bool (zs m), .int .u64 ((lo d : Nat) : Int), .string (hs d)], .agg #[.int .u64 ((zl n : Nat) : Int), .string (zh n), .bool (zs n), .int .u64 ((lo e : Nat) : Int), .string (hs e)]] w fun xe w' => xe = .returned (.int .i64 c) ∧ Below w.heap.size w w') (hc : decide (0 < c) = true) (w : World) :
    Calls Tryz.prog 161 #[.agg #[.int .u64 ((zl m : Nat) : Int), .string (zh m), .bool (zs m), .int .u64 ((lo d : Nat) : Int), .string (hs d)], .agg #[.int .u64 ((zl n : Nat) : Int), .string (zh n), .bool (zs n), .int .u64 ((lo e : Nat) : Int), .string (hs e)]] w fun xe w' => xe = .returned (.bool true) ∧ Below w.heap.size w w' := by
  have hL0 : GL w w [] := GL.start w
  replace HC := Lib.hid HC
  replace hL0 := ((hL0.new rfl [.int .u64 ((zl m : Nat) : Int), .string (zh m), .bool (zs m), .int .u64 ((lo d : Nat) : Int), .string (hs d)] 79).new (K := w.heap.size + 1) (szA _ _) [.int .u64 ((zl n : Nat) : Int), .string (zh n), .bool (zs n), .int .u64 ((lo e : Nat) : Int), .string (hs e)] 79)
  generalize hweq : ((w.alloc (.cells #[.int .u64 ((zl m : Nat) : Int), .string (zh m), .bool (zs m), .int .u64 ((lo d : Nat) : Int), .string (hs d)] 79)).alloc (.cells #[.int .u64 ((zl n : Nat) : Int), .string (zh n), .bool (zs n), .int .u64 ((lo e : Nat) : Int), .string (hs e)] 79)) = x1 at hL0
  go_enter Tryz.func161, Tryz.ntmps161
  have hN0 := cells_of _ 0 [] rfl (hL0.get _ _ List.mem_cons_self)
  simp only [cellsF, and_true, Nat.zero_add, Nat.reduceAdd] at hN0
  have hN1 := cells_of _ 0 [] rfl (hL0.get _ _ (List.mem_cons_of_mem _ List.mem_cons_self))
  simp only [cellsF, and_true, Nat.zero_add, Nat.reduceAdd] at hN1
  go_wp2_with fail
  clear hN0 hN1
  with_reducible refine Calls.mono (HC.out _) ?_
  rintro e x2 ⟨rfl, hb⟩
  replace hL0 := hL0.call hb
  clear hb hweq
  go_wp2_with fail
  exact bodyPost_ret (v := .bool true) (by simp [results, Tryz.results161, go_sem]) rfl ⟨rfl, hL0.bl⟩

set_option maxHeartbeats 4000000 in
set_option maxRecDepth 100000 in
theorem gtr_false (m n c : Int) (d e : Nat) (HC : ∀ w, Calls Tryz.prog 76 #[.agg #[.int .u64 ((zl m : Nat) : Int), .string (zh m), .bool (zs m), .int .u64 ((lo d : Nat) : Int), .string (hs d)], .agg #[.int .u64 ((zl n : Nat) : Int), .string (zh n), .bool (zs n), .int .u64 ((lo e : Nat) : Int), .string (hs e)]] w fun xe w' => xe = .returned (.int .i64 c) ∧ Below w.heap.size w w') (hc : decide (0 < c) = false) (w : World) :
    Calls Tryz.prog 161 #[.agg #[.int .u64 ((zl m : Nat) : Int), .string (zh m), .bool (zs m), .int .u64 ((lo d : Nat) : Int), .string (hs d)], .agg #[.int .u64 ((zl n : Nat) : Int), .string (zh n), .bool (zs n), .int .u64 ((lo e : Nat) : Int), .string (hs e)]] w fun xe w' => xe = .returned (.bool false) ∧ Below w.heap.size w w' := by
  have hL0 : GL w w [] := GL.start w
  replace HC := Lib.hid HC
  replace hL0 := ((hL0.new rfl [.int .u64 ((zl m : Nat) : Int), .string (zh m), .bool (zs m), .int .u64 ((lo d : Nat) : Int), .string (hs d)] 79).new (K := w.heap.size + 1) (szA _ _) [.int .u64 ((zl n : Nat) : Int), .string (zh n), .bool (zs n), .int .u64 ((lo e : Nat) : Int), .string (hs e)] 79)
  generalize hweq : ((w.alloc (.cells #[.int .u64 ((zl m : Nat) : Int), .string (zh m), .bool (zs m), .int .u64 ((lo d : Nat) : Int), .string (hs d)] 79)).alloc (.cells #[.int .u64 ((zl n : Nat) : Int), .string (zh n), .bool (zs n), .int .u64 ((lo e : Nat) : Int), .string (hs e)] 79)) = x1 at hL0
  go_enter Tryz.func161, Tryz.ntmps161
  have hN0 := cells_of _ 0 [] rfl (hL0.get _ _ List.mem_cons_self)
  simp only [cellsF, and_true, Nat.zero_add, Nat.reduceAdd] at hN0
  have hN1 := cells_of _ 0 [] rfl (hL0.get _ _ (List.mem_cons_of_mem _ List.mem_cons_self))
  simp only [cellsF, and_true, Nat.zero_add, Nat.reduceAdd] at hN1
  go_wp2_with fail
  clear hN0 hN1
  with_reducible refine Calls.mono (HC.out _) ?_
  rintro e x2 ⟨rfl, hb⟩
  replace hL0 := hL0.call hb
  clear hb hweq
  go_wp2_with fail
  exact bodyPost_ret (v := .bool false) (by simp [results, Tryz.results161, go_sem]) rfl ⟨rfl, hL0.bl⟩

set_option maxHeartbeats 4000000 in
set_option maxRecDepth 100000 in
theorem lss_true (m n c : Int) (d e : Nat) (HC : ∀ w, Calls Tryz.prog 76 #[.agg #[.int .u64 ((zl m : Nat) : Int), .string (zh m), .bool (zs m), .int .u64 ((lo d : Nat) : Int), .string (hs d)], .agg #[.int .u64 ((zl n : Nat) : Int), .string (zh n), .bool (zs n), .int .u64 ((lo e : Nat) : Int), .string (hs e)]] w fun xe w' => xe = .returned (.int .i64 c) ∧ Below w.heap.size w w') (hc : decide (c < 0) = true) (w : World) :
    Calls Tryz.prog 163 #[.agg #[.int .u64 ((zl m : Nat) : Int), .string (zh m), .bool (zs m), .int .u64 ((lo d : Nat) : Int), .string (hs d)], .agg #[.int .u64 ((zl n : Nat) : Int), .string (zh n), .bool (zs n), .int .u64 ((lo e : Nat) : Int), .string (hs e)]] w fun xe w' => xe = .returned (.bool true) ∧ Below w.heap.size w w' := by
  have hL0 : GL w w [] := GL.start w
  replace HC := Lib.hid HC
  replace hL0 := ((hL0.new rfl [.int .u64 ((zl m : Nat) : Int), .string (zh m), .bool (zs m), .int .u64 ((lo d : Nat) : Int), .string (hs d)] 79).new (K := w.heap.size + 1) (szA _ _) [.int .u64 ((zl n : Nat) : Int), .string (zh n), .bool (zs n), .int .u64 ((lo e : Nat) : Int), .string (hs e)] 79)
  generalize hweq : ((w.alloc (.cells #[.int .u64 ((zl m : Nat) : Int), .string (zh m), .bool (zs m), .int .u64 ((lo d : Nat) : Int), .string (hs d)] 79)).alloc (.cells #[.int .u64 ((zl n : Nat) : Int), .string (zh n), .bool (zs n), .int .u64 ((lo e : Nat) : Int), .string (hs e)] 79)) = x1 at hL0
  go_enter Tryz.func163, Tryz.ntmps163
  have hN0 := cells_of _ 0 [] rfl (hL0.get _ _ List.mem_cons_self)
  simp only [cellsF, and_true, Nat.zero_add, Nat.reduceAdd] at hN0
  have hN1 := cells_of _ 0 [] rfl (hL0.get _ _ (List.mem_cons_of_mem _ List.mem_cons_self))
  simp only [cellsF, and_true, Nat.zero_add, Nat.reduceAdd] at hN1
  go_wp2_with fail
  clear hN0 hN1
  with_reducible refine Calls.mono (HC.out _) ?_
  rintro e x2 ⟨rfl, hb⟩
  replace hL0 := hL0.call hb
  clear hb hweq
  go_wp2_with fail
  exact bodyPost_ret (v := .bool true) (by simp [results, Tryz.results163, go_sem]) rfl ⟨rfl, hL0.bl⟩

set_option maxHeartbeats 4000000 in
set_option maxRecDepth 100000 in
theorem lss_false (m n c : Int) (d e : Nat) (HC : ∀ w, Calls Tryz.prog 76 #[.agg #[.int .u64 ((zl m : Nat) : Int), .string (zh m), .bool (zs m), .int .u64 ((lo d : Nat) : Int), .string (hs d)], .agg #[.int .u64 ((zl n : Nat) : Int), .string (zh n), .bool (zs n), .int .u64 ((lo e : Nat) : Int), .string (hs e)]] w fun xe w' => xe = .returned (.int .i64 c) ∧ Below w.heap.size w w') (hc : decide (c < 0) = false) (w : World) :
    Calls Tryz.prog 163 #[.agg #[.int .u64 ((zl m : Nat) : Int), .string (zh m), .bool (zs m), .int .u64 ((lo d : Nat) : Int), .string (hs d)], .agg #[.int .u64 ((zl n : Nat) : Int), .string (zh n), .bool (zs n), .int .u64 ((lo e : Nat) : Int), .string (hs e)]] w fun xe w' => xe = .returned (.bool false) ∧ Below w.heap.size w w' := by
  have hL0 : GL w w [] := GL.start w
  replace HC := Lib.hid HC
  replace hL0 := ((hL0.new rfl [.int .u64 ((zl m : Nat) : Int), .string (zh m), .bool (zs m), .int .u64 ((lo d : Nat) : Int), .string (hs d)] 79).new (K := w.heap.size + 1) (szA _ _) [.int .u64 ((zl n : Nat) : Int), .string (zh n), .bool (zs n), .int .u64 ((lo e : Nat) : Int), .string (hs e)] 79)
  generalize hweq : ((w.alloc (.cells #[.int .u64 ((zl m : Nat) : Int), .string (zh m), .bool (zs m), .int .u64 ((lo d : Nat) : Int), .string (hs d)] 79)).alloc (.cells #[.int .u64 ((zl n : Nat) : Int), .string (zh n), .bool (zs n), .int .u64 ((lo e : Nat) : Int), .string (hs e)] 79)) = x1 at hL0
  go_enter Tryz.func163, Tryz.ntmps163
  have hN0 := cells_of _ 0 [] rfl (hL0.get _ _ List.mem_cons_self)
  simp only [cellsF, and_true, Nat.zero_add, Nat.reduceAdd] at hN0
  have hN1 := cells_of _ 0 [] rfl (hL0.get _ _ (List.mem_cons_of_mem _ List.mem_cons_self))
  simp only [cellsF, and_true, Nat.zero_add, Nat.reduceAdd] at hN1
  go_wp2_with fail
  clear hN0 hN1
  with_reducible refine Calls.mono (HC.out _) ?_
  rintro e x2 ⟨rfl, hb⟩
  replace hL0 := hL0.call hb
  clear hb hweq
  go_wp2_with fail
  exact bodyPost_ret (v := .bool false) (by simp [results, Tryz.results163, go_sem]) rfl ⟨rfl, hL0.bl⟩

set_option maxHeartbeats 4000000 in
set_option maxRecDepth 100000 in
theorem among_max (ao : Option Addr) (n c : Nat) (qs : List Rat) (HB : ∀ p q, p ∈ qs → q ∈ qs → ∀ w, Calls Tryz.prog 161 #[fracV p, fracV q] w fun xe w' => xe = .returned (.bool (gtQ p q)) ∧ Below w.heap.size w w') (w : World) (hq : SlQ w (.slice ao n c) qs) (hn : (0 < n → ∃ g, ao = some ⟨g, 0, none⟩ ∧ FS w g qs) ∧ qs.length = n ∧ n ≤ 1000000) :
    Calls Tryz.prog 162 #[.agg #[.func (.func 161) #[] #[]], .slice ao n c] w fun xe w' => xe = .returned (fracV (amg gtQ qs)) ∧ Below w.heap.size w w' := by
  have hL0 : GL w w [] := GL.start w
  have HB := Lib.hid HB
  have hle := hn.2
  have hcell := Lib.hid hn.1
  clear hn
  replace hL0 := (((hL0.new rfl [.func (.func 161) #[] #[]] 201).new (K := w.heap.size + 1) (szA _ _) [.int .u64 0, .string ⟨#[]⟩, .bool false, .int .u64 0, .string ⟨#[]⟩] 79).new (K := w.heap.size + 1 + 1) (by simp only [World.size_alloc]) [.int .u64 0, .string ⟨#[]⟩, .bool false, .int .u64 0, .string ⟨#[]⟩] 79)
  generalize hweq : (((w.alloc (.cells #[.func (.func 161) #[] #[]] 201)).alloc (.cells #[.int .u64 0, .string ⟨#[]⟩, .bool false, .int .u64 0, .string ⟨#[]⟩] 79)).alloc (.cells #[.int .u64 0, .string ⟨#[]⟩, .bool false, .int .u64 0, .string ⟨#[]⟩] 79)) = x1 at hL0
  have hsl := Lib.hid (SlQ.below hq hL0.bl)
  clear hq
  go_enter Tryz.func162, Tryz.ntmps162
  have hA := hL0.fc
  simp only [fcG, cellsF, neK, and_true, ne_eq, Nat.zero_add, Nat.reduceAdd] at hA
  go_wp2_with fail
  clear hA
  go_loopw [10] (fun z wr => ∃ i : Nat, i ≤ n ∧ z = .int .i64 (i : Int) ∧ ∃ q : Rat, q = amg gtQ (qs.take i) ∧ GL w wr [(w.heap.size + 1 + 1, [.int .u64 ((zl q.num : Nat) : Int), .string (zh q.num), .bool (zs q.num), .int .u64 ((lo (fe q) : Nat) : Int), .string (hs (fe q))]), (w.heap.size + 1, [.int .u64 0, .string ⟨#[]⟩, .bool false, .int .u64 0, .string ⟨#[]⟩]), (w.heap.size, [.func (.func 161) #[] #[]])]) (fun z _ => n - (intOf z).toNat)
  case atStart => exact ⟨0, Nat.zero_le _, rfl, 0, rfl, by rw [fe_zero, (show (0 : Rat).num = 0 from rfl), (z0).1, (z0).2.1, (z0).2.2, lo_small Bs_pos, hs_small Bs_pos]; exact hL0⟩
  case round =>
    clear hL0 hweq
    obtain ⟨i, hi, rfl, q, hq, hL0⟩ := hrel
    rcases Nat.lt_or_ge i n with hin | hin
    · obtain ⟨g, rfl, hfs⟩ := hcell.out (by omega)
      have hf := (hfs.below hL0.bl).cell i (by omega)
      have k2 : decide ((i : Int) < (n : Int)) = true := decide_eq_true (by omega)
      have k1 : (i : Int) < (n : Int) := by omega
      have hlen : qs.length = n := by omega
      obtain ⟨a, ha⟩ : ∃ a, a = qs[i]'(by omega) := ⟨_, rfl⟩
      rw [← ha] at hf
      have hmem : a ∈ qs := by rw [ha]; exact List.getElem_mem _
      have htk : qs.take (i + 1) = qs.take i ++ [a] := by rw [List.take_succ_eq_append_getElem (by omega), ha]
      clear ha
      obtain ⟨f0, f1, f2, f3, f4⟩ := hf
      by_cases hi0 : i = 0
      · subst hi0
        have ek : (((0 : Nat) : Int) == 0) = true := rfl
        have kn : 0 < n := by omega
        have kd : decide (0 < n) = true := decide_eq_true kn
        simp only [Nat.zero_mul, Nat.zero_add] at f0 f1 f2 f3 f4
        replace htk := Lib.hid htk
        replace hq := Lib.hid hq
        replace hlen := Lib.hid hlen
        clear k1 hin hi
        replace hL0 := (hL0.new rfl [.int .u64 ((zl a.num : Nat) : Int), .string (zh a.num), .bool (zs a.num), .int .u64 ((lo (fe a) : Nat) : Int), .string (hs (fe a))] 79)
        generalize hweq : (wr.alloc (.cells #[.int .u64 ((zl a.num : Nat) : Int), .string (zh a.num), .bool (zs a.num), .int .u64 ((lo (fe a) : Nat) : Int), .string (hs (fe a))] 79)) = x2 at hL0
        have hA := hL0.fc
        simp only [fcG, cellsF, neK, and_true, ne_eq, Nat.zero_add, Nat.reduceAdd] at hA
        have hP := hL0.put 1 (w.heap.size + 1 + 1) _ rfl [.int .u64 ((zl a.num : Nat) : Int), .string (zh a.num), .bool (zs a.num), .int .u64 ((lo (fe a) : Nat) : Int), .string (hs (fe a))] rfl
        simp only [setAll, List.set_cons_zero, List.set_cons_succ] at hP
        generalize hput1 : (((((x2.setCell ⟨w.heap.size + 1 + 1, 0, none⟩ (.int .u64 ((zl a.num : Nat) : Int))).setCell ⟨w.heap.size + 1 + 1, 1, none⟩ (.string (zh a.num))).setCell ⟨w.heap.size + 1 + 1, 2, none⟩ (.bool (zs a.num))).setCell ⟨w.heap.size + 1 + 1, 3, none⟩ (.int .u64 ((lo (fe a) : Nat) : Int))).setCell ⟨w.heap.size + 1 + 1, 4, none⟩ (.string (hs (fe a)))) = x3 at hP
        have hB1 := hP.fc
        simp only [fcG, cellsF, neK, and_true, ne_eq, Nat.zero_add, Nat.reduceAdd] at hB1
        replace hL0 := hP
        go_wp2_with fail
        go_roundw
        case rel => exact ⟨0 + 1, by omega, by first | rfl | go_num, a, by rw [htk.out]; rfl, hL0.weak (List.Sublist.cons _ (List.Sublist.refl _))⟩
        case measure => simp [intOf]; omega
      · have ek : ((i : Int) == 0) = false := beq_eq_false_iff_ne.2 (by omega)
        have hne : qs.take i ≠ [] := fun e => by have := congrArg List.length e; rw [List.length_take, List.length_nil] at this; omega
        have hsn := Lib.hid (amg_snoc gtQ (qs.take i) a hne)
        clear hne
        have hqm : q = 0 ∨ q ∈ qs := .inr (by rw [hq]; exact List.mem_of_mem_take (amg_mem gtQ (qs.take i) (fun e => by have := congrArg List.length e; rw [List.length_take, List.length_nil] at this; omega)))
        have hqm2 : q ∈ qs := by rw [hq]; exact List.mem_of_mem_take (amg_mem gtQ (qs.take i) (fun e => by have := congrArg List.length e; rw [List.length_take, List.length_nil] at this; omega))
        clear hqm
        have HB1 := Lib.hid (HB.out a q hmem hqm2)
        clear hmem hqm2
        replace htk := Lib.hid htk
        replace hq := Lib.hid hq
        replace hlen := Lib.hid hlen
        obtain ⟨d, hd⟩ : ∃ d, d = gtQ a q := ⟨_, rfl⟩
        rw [← hd] at HB1
        replace hd := Lib.hid hd
        have k3 := Lib.hid hi
        have k4 := Lib.hid hin
        replace hL0 := (hL0.new rfl [.int .u64 ((zl a.num : Nat) : Int), .string (zh a.num), .bool (zs a.num), .int .u64 ((lo (fe a) : Nat) : Int), .string (hs (fe a))] 79)
        generalize hweq : (wr.alloc (.cells #[.int .u64 ((zl a.num : Nat) : Int), .string (zh a.num), .bool (zs a.num), .int .u64 ((lo (fe a) : Nat) : Int), .string (hs (fe a))] 79)) = x4 at hL0
        have hA := hL0.fc
        simp only [fcG, cellsF, neK, and_true, ne_eq, Nat.zero_add, Nat.reduceAdd] at hA
        go_wp2_with fail
        clear hA
        with_reducible refine Calls.mono (HB1.out _) ?_
        rintro e x5 ⟨rfl, hb⟩
        replace hL0 := hL0.call hb
        clear hb hweq
        cases d with
        | true =>
          have hA := hL0.fc
          simp only [fcG, cellsF, neK, and_true, ne_eq, Nat.zero_add, Nat.reduceAdd] at hA
          have hP := hL0.put 1 (w.heap.size + 1 + 1) _ rfl [.int .u64 ((zl a.num : Nat) : Int), .string (zh a.num), .bool (zs a.num), .int .u64 ((lo (fe a) : Nat) : Int), .string (hs (fe a))] rfl
          simp only [setAll, List.set_cons_zero, List.set_cons_succ] at hP
          generalize hput2 : (((((x5.setCell ⟨w.heap.size + 1 + 1, 0, none⟩ (.int .u64 ((zl a.num : Nat) : Int))).setCell ⟨w.heap.size + 1 + 1, 1, none⟩ (.string (zh a.num))).setCell ⟨w.heap.size + 1 + 1, 2, none⟩ (.bool (zs a.num))).setCell ⟨w.heap.size + 1 + 1, 3, none⟩ (.int .u64 ((lo (fe a) : Nat) : Int))).setCell ⟨w.heap.size + 1 + 1, 4, none⟩ (.string (hs (fe a)))) = x6 at hP
          have hB2 := hP.fc
          simp only [fcG, cellsF, neK, and_true, ne_eq, Nat.zero_add, Nat.reduceAdd] at hB2
          replace hL0 := hP
          go_wp2_with fail
          go_roundw
          case rel => exact ⟨i + 1, by omega, by first | rfl | go_num, a, by rw [htk.out, hsn.out, ← hq.out, if_pos hd.out.symm], hL0.weak (List.Sublist.cons _ (List.Sublist.refl _))⟩
          case measure => simp [intOf]; omega
        | false =>
          have hA := hL0.fc
          simp only [fcG, cellsF, neK, and_true, ne_eq, Nat.zero_add, Nat.reduceAdd] at hA
          go_wp2_with fail
          go_roundw
          case rel => exact ⟨i + 1, by omega, by first | rfl | go_num, q, by rw [htk.out, hsn.out, ← hq.out, if_neg (by rw [← hd.out]; exact Bool.false_ne_true)], hL0.weak (List.Sublist.cons _ (List.Sublist.refl _))⟩
          case measure => simp [intOf]; omega
    · obtain rfl : i = n := by omega
      have k2 : decide ((i : Int) < (i : Int)) = false := decide_eq_false (by omega)
      have hqq : q = amg gtQ qs := by rw [hq, List.take_of_length_le (by omega)]
      clear hq
      replace hqq := Lib.hid hqq
      replace hle := Lib.hid hle
      have hA := hL0.fc
      simp only [fcG, cellsF, neK, and_true, ne_eq, Nat.zero_add, Nat.reduceAdd] at hA
      have hP := hL0.put 1 (w.heap.size + 1) _ rfl [.int .u64 ((zl q.num : Nat) : Int), .string (zh q.num), .bool (zs q.num), .int .u64 ((lo (fe q) : Nat) : Int), .string (hs (fe q))] rfl
      simp only [setAll, List.set_cons_zero, List.set_cons_succ] at hP
      generalize hput3 : (((((wr.setCell ⟨w.heap.size + 1, 0, none⟩ (.int .u64 ((zl q.num : Nat) : Int))).setCell ⟨w.heap.size + 1, 1, none⟩ (.string (zh q.num))).setCell ⟨w.heap.size + 1, 2, none⟩ (.bool (zs q.num))).setCell ⟨w.heap.size + 1, 3, none⟩ (.int .u64 ((lo (fe q) : Nat) : Int))).setCell ⟨w.heap.size + 1, 4, none⟩ (.string (hs (fe q)))) = x6 at hP
      have hB3 := hP.fc
      simp only [fcG, cellsF, neK, and_true, ne_eq, Nat.zero_add, Nat.reduceAdd] at hB3
      replace hL0 := hP
      go_wp2_with fail
      exact bodyPost_ret (v := fracV q) (by simp [results, Tryz.results162, go_sem, hB3]) rfl ⟨by rw [hqq.out], hL0.bl⟩

set_option maxHeartbeats 4000000 in
set_option maxRecDepth 100000 in
theorem among_min (ao : Option Addr) (n c : Nat) (qs : List Rat) (HB : ∀ p q, p ∈ qs → q ∈ qs → ∀ w, Calls Tryz.prog 163 #[fracV p, fracV q] w fun xe w' => xe = .returned (.bool (ltQ p q)) ∧ Below w.heap.size w w') (w : World) (hq : SlQ w (.slice ao n c) qs) (hn : (0 < n → ∃ g, ao = some ⟨g, 0, none⟩ ∧ FS w g qs) ∧ qs.length = n ∧ n ≤ 1000000) :
    Calls Tryz.prog 162 #[.agg #[.func (.func 163) #[] #[]], .slice ao n c] w fun xe w' => xe = .returned (fracV (amg ltQ qs)) ∧ Below w.heap.size w w' := by
  have hL0 : GL w w [] := GL.start w
  have HB := Lib.hid HB
  have hle := hn.2
  have hcell := Lib.hid hn.1
  clear hn
  replace hL0 := (((hL0.new rfl [.func (.func 163) #[] #[]] 201).new (K := w.heap.size + 1) (szA _ _) [.int .u64 0, .string ⟨#[]⟩, .bool false, .int .u64 0, .string ⟨#[]⟩] 79).new (K := w.heap.size + 1 + 1) (by simp only [World.size_alloc]) [.int .u64 0, .string ⟨#[]⟩, .bool false, .int .u64 0, .string ⟨#[]⟩] 79)
  generalize hweq : (((w.alloc (.cells #[.func (.func 163) #[] #[]] 201)).alloc (.cells #[.int .u64 0, .string ⟨#[]⟩, .bool false, .int .u64 0, .string ⟨#[]⟩] 79)).alloc (.cells #[.int .u64 0, .string ⟨#[]⟩, .bool false, .int .u64 0, .string ⟨#[]⟩] 79)) = x1 at hL0
  have hsl := Lib.hid (SlQ.below hq hL0.bl)
  clear hq
  go_enter Tryz.func162, Tryz.ntmps162
  have hA := hL0.fc
  simp only [fcG, cellsF, neK, and_true, ne_eq, Nat.zero_add, Nat.reduceAdd] at hA
  go_wp2_with fail
  clear hA
  go_loopw [10] (fun z wr => ∃ i : Nat, i ≤ n ∧ z = .int .i64 (i : Int) ∧ ∃ q : Rat, q = amg ltQ (qs.take i) ∧ GL w wr [(w.heap.size + 1 + 1, [.int .u64 ((zl q.num : Nat) : Int), .string (zh q.num), .bool (zs q.num), .int .u64 ((lo (fe q) : Nat) : Int), .string (hs (fe q))]), (w.heap.size + 1, [.int .u64 0, .string ⟨#[]⟩, .bool false, .int .u64 0, .string ⟨#[]⟩]), (w.heap.size, [.func (.func 163) #[] #[]])]) (fun z _ => n - (intOf z).toNat)
  case atStart => exact ⟨0, Nat.zero_le _, rfl, 0, rfl, by rw [fe_zero, (show (0 : Rat).num = 0 from rfl), (z0).1, (z0).2.1, (z0).2.2, lo_small Bs_pos, hs_small Bs_pos]; exact hL0⟩
  case round =>
    clear hL0 hweq
    obtain ⟨i, hi, rfl, q, hq, hL0⟩ := hrel
    rcases Nat.lt_or_ge i n with hin | hin
    · obtain ⟨g, rfl, hfs⟩ := hcell.out (by omega)
      have hf := (hfs.below hL0.bl).cell i (by omega)
      have k2 : decide ((i : Int) < (n : Int)) = true := decide_eq_true (by omega)
      have k1 : (i : Int) < (n : Int) := by omega
      have hlen : qs.length = n := by omega
      obtain ⟨a, ha⟩ : ∃ a, a = qs[i]'(by omega) := ⟨_, rfl⟩
      rw [← ha] at hf
      have hmem : a ∈ qs := by rw [ha]; exact List.getElem_mem _
      have htk : qs.take (i + 1) = qs.take i ++ [a] := by rw [List.take_succ_eq_append_getElem (by omega), ha]
      clear ha
      obtain ⟨f0, f1, f2, f3, f4⟩ := hf
      by_cases hi0 : i = 0
      · subst hi0
        have ek : (((0 : Nat) : Int) == 0) = true := rfl
        have kn : 0 < n := by omega
        have kd : decide (0 < n) = true := decide_eq_true kn
        simp only [Nat.zero_mul, Nat.zero_add] at f0 f1 f2 f3 f4
        replace htk := Lib.hid htk
        replace hq := Lib.hid hq
        replace hlen := Lib.hid hlen
        clear k1 hin hi
        replace hL0 := (hL0.new rfl [.int .u64 ((zl a.num : Nat) : Int), .string (zh a.num), .bool (zs a.num), .int .u64 ((lo (fe a) : Nat) : Int), .string (hs (fe a))] 79)
        generalize hweq : (wr.alloc (.cells #[.int .u64 ((zl a.num : Nat) : Int), .string (zh a.num), .bool (zs a.num), .int .u64 ((lo (fe a) : Nat) : Int), .string (hs (fe a))] 79)) = x2 at hL0
        have hA := hL0.fc
        simp only [fcG, cellsF, neK, and_true, ne_eq, Nat.zero_add, Nat.reduceAdd] at hA
        have hP := hL0.put 1 (w.heap.size + 1 + 1) _ rfl [.int .u64 ((zl a.num : Nat) : Int), .string (zh a.num), .bool (zs a.num), .int .u64 ((lo (fe a) : Nat) : Int), .string (hs (fe a))] rfl
        simp only [setAll, List.set_cons_zero, List.set_cons_succ] at hP
        generalize hput1 : (((((x2.setCell ⟨w.heap.size + 1 + 1, 0, none⟩ (.int .u64 ((zl a.num : Nat) : Int))).setCell ⟨w.heap.size + 1 + 1, 1, none⟩ (.string (zh a.num))).setCell ⟨w.heap.size + 1 + 1, 2, none⟩ (.bool (zs a.num))).setCell ⟨w.heap.size + 1 + 1, 3, none⟩ (.int .u64 ((lo (fe a) : Nat) : Int))).setCell ⟨w.heap.size + 1 + 1, 4, none⟩ (.string (hs (fe a)))) = x3 at hP
        have hB1 := hP.fc
        simp only [fcG, cellsF, neK, and_true, ne_eq, Nat.zero_add, Nat.reduceAdd] at hB1
        replace hL0 := hP
        go_wp2_with fail
        go_roundw
        case rel => exact ⟨0 + 1, by omega, by first | rfl | go_num, a, by rw [htk.out]; rfl, hL0.weak (List.Sublist.cons _ (List.Sublist.refl _))⟩
        case measure => simp [intOf]; omega
      · have ek : ((i : Int) == 0) = false := beq_eq_false_iff_ne.2 (by omega)
        have hne : qs.take i ≠ [] := fun e => by have := congrArg List.length e; rw [List.length_take, List.length_nil] at this; omega
        have hsn := Lib.hid (amg_snoc ltQ (qs.take i) a hne)
        clear hne
        have hqm : q = 0 ∨ q ∈ qs := .inr (by rw [hq]; exact List.mem_of_mem_take (amg_mem ltQ (qs.take i) (fun e => by have := congrArg List.length e; rw [List.length_take, List.length_nil] at this; omega)))
        have hqm2 : q ∈ qs := by rw [hq]; exact List.mem_of_mem_take (amg_mem ltQ (qs.take i) (fun e => by have := congrArg List.length e; rw [List.length_take, List.length_nil] at this; omega))
        clear hqm
        have HB1 := Lib.hid (HB.out a q hmem hqm2)
        clear hmem hqm2
        replace htk := Lib.hid htk
        replace hq := Lib.hid hq
        replace hlen := Lib.hid hlen
        obtain ⟨d, hd⟩ : ∃ d, d = ltQ a q := ⟨_, rfl⟩
        rw [← hd] at HB1
        replace hd := Lib.hid hd
        have k3 := Lib.hid hi
        have k4 := Lib.hid hin
        replace hL0 := (hL0.new rfl [.int .u64 ((zl a.num : Nat) : Int), .string (zh a.num), .bool (zs a.num), .int .u64 ((lo (fe a) : Nat) : Int), .string (hs (fe a))] 79)
        generalize hweq : (wr.alloc (.cells #[.int .u64 ((zl a.num : Nat) : Int), .string (zh a.num), .bool (zs a.num), .int .u64 ((lo (fe a) : Nat) : Int), .string (hs (fe a))] 79)) = x4 at hL0
        have hA := hL0.fc
        simp only [fcG, cellsF, neK, and_true, ne_eq, Nat.zero_add, Nat.reduceAdd] at hA
        go_wp2_with fail
        clear hA
        with_reducible refine Calls.mono (HB1.out _) ?_
        rintro e x5 ⟨rfl, hb⟩
        replace hL0 := hL0.call hb
        clear hb hweq
        cases d with
        | true =>
          have hA := hL0.fc
          simp only [fcG, cellsF, neK, and_true, ne_eq, Nat.zero_add, Nat.reduceAdd] at hA
          have hP := hL0.put 1 (w.heap.size + 1 + 1) _ rfl [.int .u64 ((zl a.num : Nat) : Int), .string (zh a.num), .bool (zs a.num), .int .u64 ((lo (fe a) : Nat) : Int), .string (hs (fe a))] rfl
          simp only [setAll, List.set_cons_zero, List.set_cons_succ] at hP
          generalize hput2 : (((((x5.setCell ⟨w.heap.size + 1 + 1, 0, none⟩ (.int .u64 ((zl a.num : Nat) : Int))).setCell ⟨w.heap.size + 1 + 1, 1, none⟩ (.string (zh a.num))).setCell ⟨w.heap.size + 1 + 1, 2, none⟩ (.bool (zs a.num))).setCell ⟨w.heap.size + 1 + 1, 3, none⟩ (.int .u64 ((lo (fe a) : Nat) : Int))).setCell ⟨w.heap.size + 1 + 1, 4, none⟩ (.string (hs (fe a)))) = x6 at hP
          have hB2 := hP.fc
          simp only [fcG, cellsF, neK, and_true, ne_eq, Nat.zero_add, Nat.reduceAdd] at hB2
          replace hL0 := hP
          go_wp2_with fail
          go_roundw
          case rel => exact ⟨i + 1, by omega, by first | rfl | go_num, a, by rw [htk.out, hsn.out, ← hq.out, if_pos hd.out.symm], hL0.weak (List.Sublist.cons _ (List.Sublist.refl _))⟩
          case measure => simp [intOf]; omega
        | false =>
          have hA := hL0.fc
          simp only [fcG, cellsF, neK, and_true, ne_eq, Nat.zero_add, Nat.reduceAdd] at hA
          go_wp2_with fail
          go_roundw
          case rel => exact ⟨i + 1, by omega, by first | rfl | go_num, q, by rw [htk.out, hsn.out, ← hq.out, if_neg (by rw [← hd.out]; exact Bool.false_ne_true)], hL0.weak (List.Sublist.cons _ (List.Sublist.refl _))⟩
          case measure => simp [intOf]; omega
    · obtain rfl : i = n := by omega
      have k2 : decide ((i : Int) < (i : Int)) = false := decide_eq_false (by omega)
      have hqq : q = amg ltQ qs := by rw [hq, List.take_of_length_le (by omega)]
      clear hq
      replace hqq := Lib.hid hqq
      replace hle := Lib.hid hle
      have hA := hL0.fc
      simp only [fcG, cellsF, neK, and_true, ne_eq, Nat.zero_add, Nat.reduceAdd] at hA
      have hP := hL0.put 1 (w.heap.size + 1) _ rfl [.int .u64 ((zl q.num : Nat) : Int), .string (zh q.num), .bool (zs q.num), .int .u64 ((lo (fe q) : Nat) : Int), .string (hs (fe q))] rfl
      simp only [setAll, List.set_cons_zero, List.set_cons_succ] at hP
      generalize hput3 : (((((wr.setCell ⟨w.heap.size + 1, 0, none⟩ (.int .u64 ((zl q.num : Nat) : Int))).setCell ⟨w.heap.size + 1, 1, none⟩ (.string (zh q.num))).setCell ⟨w.heap.size + 1, 2, none⟩ (.bool (zs q.num))).setCell ⟨w.heap.size + 1, 3, none⟩ (.int .u64 ((lo (fe q) : Nat) : Int))).setCell ⟨w.heap.size + 1, 4, none⟩ (.string (hs (fe q)))) = x6 at hP
      have hB3 := hP.fc
      simp only [fcG, cellsF, neK, and_true, ne_eq, Nat.zero_add, Nat.reduceAdd] at hB3
      replace hL0 := hP
      go_wp2_with fail
      exact bodyPost_ret (v := fracV q) (by simp [results, Tryz.results162, go_sem, hB3]) rfl ⟨by rw [hqq.out], hL0.bl⟩

end Go.Proofs.YtecdnohhengfaaaGreatDoor

/-
  Layer 3: the contracts of powers, texts, Parse, Max, Min, the law package's own functions, in Lean's Rat.
-/
namespace Go.Proofs.YtecdnohhengfaaaGreatDoor
open Go.RowKit
attribute [local irreducible] lo hs sm s64 c64 d64 b64 mh ml pd pc qd qc val hiB str cmpI srD lz nb isq decB zl zh zs

theorem int_pow_sgn (z : Int) : ∀ k : Nat, z ^ k = if (decide (z < 0) && decide (k % 2 = 1)) = true then -((z.natAbs ^ k : Nat) : Int) else ((z.natAbs ^ k : Nat) : Int)
  | 0 => by simp
  | k + 1 => by
    rw [Int.pow_succ, int_pow_sgn z k, Nat.pow_succ]
    by_cases h : z < 0
    · rw [decide_eq_true h, Bool.true_and, Bool.true_and]
      have e : z = -(z.natAbs : Int) := by omega
      rcases Nat.mod_two_eq_zero_or_one k with hk | hk
      · rw [decide_eq_false (p := k % 2 = 1) (by omega), decide_eq_true (p := (k + 1) % 2 = 1) (by omega), if_neg Bool.false_ne_true, if_pos rfl]
        conv => lhs; rw [e]
        rw [Int.mul_neg, Int.natAbs_neg, Int.natAbs_natCast, Int.natCast_mul]
      · rw [decide_eq_true hk, decide_eq_false (p := (k + 1) % 2 = 1) (by omega), if_neg Bool.false_ne_true, if_pos rfl]
        conv => lhs; rw [e]
        rw [Int.neg_mul_neg, Int.natAbs_neg, Int.natAbs_natCast, Int.natCast_mul]
    · rw [decide_eq_false h, Bool.false_and, Bool.false_and, if_neg Bool.false_ne_true, if_neg Bool.false_ne_true]
      have e : z = (z.natAbs : Int) := by omega
      conv => lhs; rw [e]
      rw [Int.natAbs_natCast, Int.natCast_mul]
theorem odd_tmod (k : Nat) : (((k : Int).tmod 2) == 1) = decide (k % 2 = 1) := by
  rw [show (2 : Int) = ((2 : Nat) : Int) from rfl, ← Int.ofNat_tmod]
  by_cases h : k % 2 = 1
  · rw [h, decide_eq_true rfl]; rfl
  · rw [show k % 2 = 0 by omega]; rfl
theorem dec_sgnQ (q : Rat) : decide (sgnQ q < 0) = decide (q.num < 0) := by
  have : sgnQ q < 0 ↔ q.num < 0 := by rw [sgnQ_num]; split <;> (try split) <;> omega
  simp only [this]
theorem powerF (q : Rat) (k : Nat) (hk : k ≤ 4096) (hn : k = 0 ∨ nb q.num.natAbs ≤ 262144 / k) (hd : k = 0 ∨ nb q.den ≤ 262144 / k) (m : Nat) (hq : Sz q m) (hm : m ≤ 100000000) (w : World) :
    Calls Tryz.prog 160 #[fracV q, .int .i64 (k : Int)] w fun x w' => x = .returned (.tuple #[fracV (q ^ k), .int .i64 0]) ∧ Below w.heap.size w w' := by
  have hs := dec_sgnQ q
  have hP := fun w => pow_ok q.num.natAbs k hk hn (Nat.le_trans hq.1 (by omega)) w
  have hQ := fun w => pow_ok q.den k hk hd (Nat.le_trans hq.2 (by omega)) w
  have hF := fun w => fromI (decide (q.num < 0) && decide (k % 2 = 1)) (q.num.natAbs ^ k) (q.num ^ k) (int_pow_sgn q.num k) w
  have hL := fun w => lowestF (Rat.num_pow q k) (Rat.den_pow q k) w
  by_cases h : q.num < 0
  · rw [decide_eq_true h] at hs hF
    rw [Bool.true_and] at hF
    by_cases ho : k % 2 = 1
    · rw [decide_eq_true ho] at hF
      exact fpower_odd q.num _ _ _ (fe q) _ q.den _ _ _ _ (fun w => absI q.num w) hP (denF q) hQ (signF q) hF hL hs (by rw [odd_tmod, decide_eq_true ho]) w
    · rw [decide_eq_false ho] at hF
      exact fpower_even q.num _ _ _ (fe q) _ q.den _ _ _ _ (fun w => absI q.num w) hP (denF q) hQ (signF q) hF hL hs (by rw [odd_tmod, decide_eq_false ho]) w
  · rw [decide_eq_false h] at hs hF
    rw [Bool.false_and] at hF
    exact fpower_pos q.num _ _ _ (fe q) _ q.den _ _ _ _ (fun w => absI q.num w) hP (denF q) hQ (signF q) hF hL hs w
theorem powerF_over (q : Rat) (k : Nat) (h0 : 0 < k) (hk : k ≤ 4096) (hg : 262144 / k < nb q.num.natAbs ∨ 262144 / k < nb q.den) (m : Nat) (hq : Sz q m) (hm : m ≤ 100000000) (w : World) :
    Calls Tryz.prog 160 #[fracV q, .int .i64 (k : Int)] w fun x w' => x = .returned (.tuple #[fracV 0, .int .i64 3]) ∧ Below w.heap.size w w' := by
  rw [show fracV 0 = frV 0 0 from rfl, frV_00]
  by_cases hn : 262144 / k < nb q.num.natAbs
  · exact fpower_num q.num (fe q) _ 0 _ (fun w => absI q.num w) (fun w => pow_over q.num.natAbs k h0 hk hn (Nat.le_trans hq.1 (by omega)) w) w
  · exact fpower_den q.num (fe q) _ q.den _ 0 _ (fun w => absI q.num w) (fun w => pow_ok q.num.natAbs k hk (.inr (by omega)) (Nat.le_trans hq.1 (by omega)) w) (denF q) (fun w => pow_over q.den k h0 hk (hg.resolve_left hn) (Nat.le_trans hq.2 (by omega)) w) w
theorem powF_arg (q : Rat) (k : Int) (h : k < -4096 ∨ 4096 < k) (w : World) :
    Calls Tryz.prog 98 #[fracV q, .int .i64 k] w fun x w' => x = .returned (.tuple #[fracV 0, .int .i64 1]) ∧ Below w.heap.size w w' := by
  rw [show fracV 0 = frV 0 0 from rfl, frV_00]
  by_cases h1 : k < -4096
  · exact fpow_low q.num (fe q) k (decide_eq_true h1) w
  · exact fpow_high q.num (fe q) k (decide_eq_false h1) (decide_eq_true (by omega)) w
theorem powF_pos (q : Rat) (k : Nat) (hk : k ≤ 4096) (p : Rat) (c : Int) (HP : ∀ w, Calls Tryz.prog 160 #[fracV q, .int .i64 (k : Int)] w fun x w' => x = .returned (.tuple #[fracV p, .int .i64 c]) ∧ Below w.heap.size w w') (w : World) :
    Calls Tryz.prog 98 #[fracV q, .int .i64 (k : Int)] w fun x w' => x = .returned (.tuple #[fracV p, .int .i64 c]) ∧ Below w.heap.size w w' :=
  fpow_pos q.num p.num c (fe q) (fe p) k HP (decide_eq_false (by omega)) (decide_eq_false (by omega)) (decide_eq_true (by omega)) w
theorem powF_zero (k : Int) (h1 : -4096 ≤ k) (h2 : k < 0) (w : World) :
    Calls Tryz.prog 98 #[fracV 0, .int .i64 k] w fun x w' => x = .returned (.tuple #[fracV 0, .int .i64 5]) ∧ Below w.heap.size w w' := by
  have h := fpow_zero k zero_i (decide_eq_false (by omega)) (decide_eq_false (by omega)) (decide_eq_false (by omega)) w
  rw [← frV_00] at h
  exact h
theorem powF_neg (q : Rat) (h0 : q ≠ 0) (k : Int) (l : Nat) (hl : k = -(l : Int)) (hp : 0 < l) (hk : l ≤ 4096) (p : Rat) (c : Int) (HP : ∀ w, Calls Tryz.prog 160 #[fracV q⁻¹, .int .i64 (l : Int)] w fun x w' => x = .returned (.tuple #[fracV p, .int .i64 c]) ∧ Below w.heap.size w w') (w : World) :
    Calls Tryz.prog 98 #[fracV q, .int .i64 k] w fun x w' => x = .returned (.tuple #[fracV p, .int .i64 c]) ∧ Below w.heap.size w w' :=
  fpow_neg q.num _ p.num c (fe q) _ (fe p) k l zero_i (invF q h0) HP (decide_eq_false (by omega)) (decide_eq_false (by omega)) (decide_eq_false (by omega)) (by rw [hl, Int.neg_neg]; exact IntWalk.i64_in _ (by omega)) (num_ne h0) w

/-- A fraction's text. -/
def qtxt (q : Rat) : ByteArray := if q.den = 1 then ztxt q.num else ztxt q.num ++ (ByteArray.mk #[47]) ++ txt q.den
theorem ztxt_small {z : Int} {k : Nat} (hk : 0 < k) (h : dI z ≤ k) : (ztxt z).size ≤ 20 * k + 1 := by
  have h1 := txt_small (n := z.natAbs) hk h
  unfold ztxt
  split
  · rw [ByteArray.size_append]
    have : (ByteArray.mk #[45]).size = 1 := rfl
    omega
  · omega
theorem textF (q : Rat) (k : Nat) (hq : Sz q k) (hk : k ≤ 100000) (w : World) (htab : Tab w) : Calls Tryz.prog 144 #[fracV q] w fun x w' => x = .returned (.string (qtxt q)) ∧ Below w.heap.size w w' := by
  have hT := fun w h => textI q.num (Nat.le_trans hq.1 (by omega)) w h
  unfold qtxt
  by_cases h : q.den = 1
  · rw [if_pos h, show fracV q = frV q.num 0 by unfold fracV; rw [fe_one h]]
    exact ftext_whole q.num _ (fun w => by have := whole_raw q.num 0 w; rwa [decide_eq_true rfl] at this) hT w htab
  · rw [if_neg h, show fracV q = frV q.num q.den by unfold fracV; rw [fe_ne h]]
    have s1 := ztxt_small (k := 100000) (by omega) (Nat.le_trans hq.1 hk)
    have s2 := txt_small (n := q.den) (k := 100000) (by omega) (Nat.le_trans hq.2 hk)
    exact ftext_part q.num q.den _ _ (fun w => by have := whole_raw q.num q.den w; rwa [decide_eq_false q.den_nz] at this) hT (fun w h => text_any q.den (Nat.le_trans hq.2 (by omega)) w h) (by omega) (by omega) w htab

theorem greaterF (p q : Rat) (k : Nat) (hp : Sz p k) (hq : Sz q k) (hk : k ≤ 100000000) (w : World) : Calls Tryz.prog 161 #[fracV p, fracV q] w fun x w' => x = .returned (.bool (gtQ p q)) ∧ Below w.heap.size w w' := by
  have h := cmpQ_gt p q
  cases hb : gtQ p q with
  | true => rw [hb] at h; exact gtr_true p.num q.num _ (fe p) (fe q) (cmpF p q k hp hq hk) h w
  | false => rw [hb] at h; exact gtr_false p.num q.num _ (fe p) (fe q) (cmpF p q k hp hq hk) h w
theorem lessF (p q : Rat) (k : Nat) (hp : Sz p k) (hq : Sz q k) (hk : k ≤ 100000000) (w : World) : Calls Tryz.prog 163 #[fracV p, fracV q] w fun x w' => x = .returned (.bool (ltQ p q)) ∧ Below w.heap.size w w' := by
  have h := cmpQ_lt p q
  cases hb : ltQ p q with
  | true => rw [hb] at h; exact lss_true p.num q.num _ (fe p) (fe q) (cmpF p q k hp hq hk) h w
  | false => rw [hb] at h; exact lss_false p.num q.num _ (fe p) (fe q) (cmpF p q k hp hq hk) h w
end Go.Proofs.YtecdnohhengfaaaGreatDoor

/-
  Layer 3, the law package: constants, Max, Min.
-/
namespace Go.Proofs.YtecdnohhengfaaaGreatDoor
open Go.RowKit
attribute [local irreducible] lo hs sm s64 c64 d64 b64 mh ml pd pc qd qc val hiB str cmpI srD lz nb isq decB zl zh zs

theorem szc (q : Rat) (h1 : q.num.natAbs < 18446744073709551616) (h2 : q.den < 18446744073709551616) : Sz q 1 :=
  ⟨digs_length_iff.2 (by rw [Nat.pow_one]; exact h1), digs_length_iff.2 (by rw [Nat.pow_one]; exact h2)⟩
theorem frV_q0 : fracV 0 = .agg #[.int .u64 0, .string ⟨#[]⟩, .bool false, .int .u64 0, .string ⟨#[]⟩] := frV_00
theorem lof_0 (i j c : Int) (HF : ∀ w, Calls Tryz.prog 93 #[.int .i64 i, .int .i64 j] w fun xe w' => xe = .returned (.tuple #[.agg #[.int .u64 0, .string ⟨#[]⟩, .bool false, .int .u64 0, .string ⟨#[]⟩], .int .i64 c]) ∧ Below w.heap.size w w') (w : World) :
    Calls Tryz.prog 139 #[.int .i64 i, .int .i64 j] w fun xe w' => xe = .returned (.agg #[.int .u64 0, .string ⟨#[]⟩, .bool false, .int .u64 0, .string ⟨#[]⟩]) ∧ Below w.heap.size w w' := by
  simp only [← frV_q0] at HF ⊢
  exact lof_w i j c (0 : Rat).num (fe 0) HF w
theorem ltext_0 (s : ByteArray) (HT : ∀ w, Tab w → Calls Tryz.prog 144 #[.agg #[.int .u64 0, .string ⟨#[]⟩, .bool false, .int .u64 0, .string ⟨#[]⟩]] w fun xe w' => xe = .returned (.string s) ∧ Below w.heap.size w w') (w : World) (htab : Tab w) :
    Calls Tryz.prog 140 #[.agg #[.int .u64 0, .string ⟨#[]⟩, .bool false, .int .u64 0, .string ⟨#[]⟩], .string s] w fun xe w' => xe = .returned (.bool true) ∧ Below w.heap.size w w' := by
  simp only [← frV_q0] at HT ⊢
  exact ltext_true (0 : Rat).num (fe 0) s HT w htab
theorem txt1 (d : Nat) (h : d < 10) : txt d = ⟨#[dch d]⟩ := by unfold txt; rw [dec_small h]
theorem zt_pos (d : Nat) (h : d < 10) : ztxt (d : Int) = ⟨#[dch d]⟩ := by unfold ztxt; rw [if_neg (by omega), Int.natAbs_natCast, txt1 d h]
theorem zt_neg (d : Nat) (h : d < 10) (h0 : 0 < d) : ztxt (-(d : Int)) = ⟨#[45, dch d]⟩ := by
  unfold ztxt; rw [if_pos (by omega), Int.natAbs_neg, Int.natAbs_natCast, txt1 d h]; rfl
theorem qt_int {q : Rat} {z : Int} (h1 : q.den = 1) (h2 : q.num = z) : qtxt q = ztxt z := by unfold qtxt; rw [if_pos h1, h2]
theorem qt_part {q : Rat} {z : Int} {d : Nat} (h1 : q.den = d) (hd : d ≠ 1) (h2 : q.num = z) : qtxt q = ztxt z ++ ByteArray.mk #[47] ++ txt d := by unfold qtxt; rw [if_neg (by rw [h1]; exact hd), h1, h2]
theorem zt_n2 : ztxt (-2 : Int) = (ByteArray.mk #[45, 50]) := zt_neg 2 (by decide) (by decide)
theorem zt_n1 : ztxt (-1 : Int) = (ByteArray.mk #[45, 49]) := zt_neg 1 (by decide) (by decide)
theorem qt_n3_2 : qtxt (mkRat (-3) 2) = (ByteArray.mk #[45, 51, 47, 50]) := by
  rw [qt_part (d := 2) (z := -3) (by decide +kernel) (by decide) (by decide +kernel), txt1 2 (by decide), show ztxt (-3 : Int) = _ from zt_neg 3 (by decide) (by decide)]; rfl
theorem qt_1 : qtxt ((1 : Int) : Rat) = (ByteArray.mk #[49]) := (qt_int (by decide +kernel) (by decide +kernel)).trans (zt_pos 1 (by decide))
theorem qt_5_6 : qtxt (mkRat (5) 6) = (ByteArray.mk #[53, 47, 54]) := by
  rw [qt_part (d := 6) (z := 5) (by decide +kernel) (by decide) (by decide +kernel), txt1 6 (by decide), show ztxt (5 : Int) = _ from zt_pos 5 (by decide)]; rfl
theorem qt_0 : qtxt (0 : Rat) = (ByteArray.mk #[48]) := (qt_int (by decide +kernel) (by decide +kernel)).trans (zt_pos 0 (by decide))
theorem qt_n2 : qtxt ((-2 : Int) : Rat) = (ByteArray.mk #[45, 50]) := (qt_int (by decide +kernel) (by decide +kernel)).trans (zt_neg 2 (by decide) (by decide))
theorem qt_9_4 : qtxt (mkRat (9) 4) = (ByteArray.mk #[57, 47, 52]) := by
  rw [qt_part (d := 4) (z := 9) (by decide +kernel) (by decide) (by decide +kernel), txt1 4 (by decide), show ztxt (9 : Int) = _ from zt_pos 9 (by decide)]; rfl
theorem qt_n1_2 : qtxt (mkRat (-1) 2) = (ByteArray.mk #[45, 49, 47, 50]) := by
  rw [qt_part (d := 2) (z := -1) (by decide +kernel) (by decide) (by decide +kernel), txt1 2 (by decide), show ztxt (-1 : Int) = _ from zt_neg 1 (by decide) (by decide)]; rfl
set_option maxHeartbeats 4000000 in
set_option maxRecDepth 100000 in
theorem fmax_w (ao : Option Addr) (n c : Nat) (x : Int) (e : Nat) (K : World → Prop) (hK : Keeps K) (HA : ∀ w, K w → Calls Tryz.prog 162 #[.agg #[.func (.func 161) #[] #[]], .slice ao n c] w fun xe w' => xe = .returned (.agg #[.int .u64 ((zl x : Nat) : Int), .string (zh x), .bool (zs x), .int .u64 ((lo e : Nat) : Int), .string (hs e)]) ∧ Below w.heap.size w w') (w : World) (kK : K w) :
    Calls Tryz.prog 100 #[.slice ao n c] w fun xe w' => xe = .returned (.agg #[.int .u64 ((zl x : Nat) : Int), .string (zh x), .bool (zs x), .int .u64 ((lo e : Nat) : Int), .string (hs e)]) ∧ Below w.heap.size w w' := by
  have hL0 : GL w w [] := GL.start w
  replace hK := Lib.hid hK
  replace HA := Lib.hid HA
  replace hL0 := (hL0.new rfl [.int .u64 0, .string ⟨#[]⟩, .bool false, .int .u64 0, .string ⟨#[]⟩] 79)
  generalize hweq : (w.alloc (.cells #[.int .u64 0, .string ⟨#[]⟩, .bool false, .int .u64 0, .string ⟨#[]⟩] 79)) = x1 at hL0
  go_enter Tryz.func100, Tryz.ntmps100
  go_wp2_with fail
  with_reducible refine Calls.mono (HA.out _ (hK.out.at hL0.bl kK)) ?_
  rintro e x2 ⟨rfl, hb⟩
  replace hL0 := hL0.call hb
  clear hb hweq
  have hA := hL0.fc
  simp only [fcG, cellsF, neK, and_true, ne_eq, Nat.zero_add, Nat.reduceAdd] at hA
  have hP := hL0.put 0 (w.heap.size) _ rfl [.int .u64 ((zl x : Nat) : Int), .string (zh x), .bool (zs x), .int .u64 ((lo e : Nat) : Int), .string (hs e)] rfl
  simp only [setAll, List.set_cons_zero, List.set_cons_succ] at hP
  generalize hput1 : (((((x2.setCell ⟨w.heap.size, 0, none⟩ (.int .u64 ((zl x : Nat) : Int))).setCell ⟨w.heap.size, 1, none⟩ (.string (zh x))).setCell ⟨w.heap.size, 2, none⟩ (.bool (zs x))).setCell ⟨w.heap.size, 3, none⟩ (.int .u64 ((lo e : Nat) : Int))).setCell ⟨w.heap.size, 4, none⟩ (.string (hs e))) = x3 at hP
  have hB1 := hP.fc
  simp only [fcG, cellsF, neK, and_true, ne_eq, Nat.zero_add, Nat.reduceAdd] at hB1
  replace hL0 := hP
  go_wp2_with fail
  exact bodyPost_ret (v := .agg #[.int .u64 ((zl x : Nat) : Int), .string (zh x), .bool (zs x), .int .u64 ((lo e : Nat) : Int), .string (hs e)]) (by simp [results, Tryz.results100, go_sem, hB1]) rfl ⟨rfl, hL0.bl⟩

set_option maxHeartbeats 4000000 in
set_option maxRecDepth 100000 in
theorem fmin_w (ao : Option Addr) (n c : Nat) (x : Int) (e : Nat) (K : World → Prop) (hK : Keeps K) (HA : ∀ w, K w → Calls Tryz.prog 162 #[.agg #[.func (.func 163) #[] #[]], .slice ao n c] w fun xe w' => xe = .returned (.agg #[.int .u64 ((zl x : Nat) : Int), .string (zh x), .bool (zs x), .int .u64 ((lo e : Nat) : Int), .string (hs e)]) ∧ Below w.heap.size w w') (w : World) (kK : K w) :
    Calls Tryz.prog 101 #[.slice ao n c] w fun xe w' => xe = .returned (.agg #[.int .u64 ((zl x : Nat) : Int), .string (zh x), .bool (zs x), .int .u64 ((lo e : Nat) : Int), .string (hs e)]) ∧ Below w.heap.size w w' := by
  have hL0 : GL w w [] := GL.start w
  replace hK := Lib.hid hK
  replace HA := Lib.hid HA
  replace hL0 := (hL0.new rfl [.int .u64 0, .string ⟨#[]⟩, .bool false, .int .u64 0, .string ⟨#[]⟩] 79)
  generalize hweq : (w.alloc (.cells #[.int .u64 0, .string ⟨#[]⟩, .bool false, .int .u64 0, .string ⟨#[]⟩] 79)) = x1 at hL0
  go_enter Tryz.func101, Tryz.ntmps101
  go_wp2_with fail
  with_reducible refine Calls.mono (HA.out _ (hK.out.at hL0.bl kK)) ?_
  rintro e x2 ⟨rfl, hb⟩
  replace hL0 := hL0.call hb
  clear hb hweq
  have hA := hL0.fc
  simp only [fcG, cellsF, neK, and_true, ne_eq, Nat.zero_add, Nat.reduceAdd] at hA
  have hP := hL0.put 0 (w.heap.size) _ rfl [.int .u64 ((zl x : Nat) : Int), .string (zh x), .bool (zs x), .int .u64 ((lo e : Nat) : Int), .string (hs e)] rfl
  simp only [setAll, List.set_cons_zero, List.set_cons_succ] at hP
  generalize hput1 : (((((x2.setCell ⟨w.heap.size, 0, none⟩ (.int .u64 ((zl x : Nat) : Int))).setCell ⟨w.heap.size, 1, none⟩ (.string (zh x))).setCell ⟨w.heap.size, 2, none⟩ (.bool (zs x))).setCell ⟨w.heap.size, 3, none⟩ (.int .u64 ((lo e : Nat) : Int))).setCell ⟨w.heap.size, 4, none⟩ (.string (hs e))) = x3 at hP
  have hB1 := hP.fc
  simp only [fcG, cellsF, neK, and_true, ne_eq, Nat.zero_add, Nat.reduceAdd] at hB1
  replace hL0 := hP
  go_wp2_with fail
  exact bodyPost_ret (v := .agg #[.int .u64 ((zl x : Nat) : Int), .string (zh x), .bool (zs x), .int .u64 ((lo e : Nat) : Int), .string (hs e)]) (by simp [results, Tryz.results101, go_sem, hB1]) rfl ⟨rfl, hL0.bl⟩

theorem slq_nil (w : World) : SlQ w (.slice none 0 0) [] := .inl ⟨none, 0, rfl, rfl⟩
theorem slq_parts {w : World} {ao : Option Addr} {n c : Nat} {qs : List Rat} (h : SlQ w (.slice ao n c) qs) (hl : qs.length ≤ 1000000) : (0 < n → ∃ g, ao = some ⟨g, 0, none⟩ ∧ FS w g qs) ∧ qs.length = n ∧ n ≤ 1000000 := by
  rcases h with ⟨a, c', h1, h2⟩ | ⟨g, c', h1, h2⟩
  · simp only [Value.slice.injEq] at h1
    obtain ⟨-, rfl, -⟩ := h1
    subst h2
    exact ⟨fun h => absurd h (Nat.lt_irrefl 0), rfl, by omega⟩
  · simp only [Value.slice.injEq] at h1
    obtain ⟨rfl, rfl, -⟩ := h1
    exact ⟨fun _ => ⟨g, rfl, h2⟩, rfl, hl⟩
theorem maxF (ao : Option Addr) (n c : Nat) (qs : List Rat) (k : Nat) (hk : k ≤ 100000000) (hl : qs.length ≤ 1000000) (hs : ∀ q ∈ qs, Sz q k) (w : World) (h : SlQ w (.slice ao n c) qs) :
    Calls Tryz.prog 100 #[.slice ao n c] w fun xe w' => xe = .returned (fracV (amg gtQ qs)) ∧ Below w.heap.size w w' :=
  fmax_w ao n c (amg gtQ qs).num (fe (amg gtQ qs)) _ (SlQ.keeps (.slice ao n c) qs) (fun w h => among_max ao n c qs (fun p q hp hq w => greaterF p q k (hs p hp) (hs q hq) hk w) w h (slq_parts h hl)) w h
theorem minF (ao : Option Addr) (n c : Nat) (qs : List Rat) (k : Nat) (hk : k ≤ 100000000) (hl : qs.length ≤ 1000000) (hs : ∀ q ∈ qs, Sz q k) (w : World) (h : SlQ w (.slice ao n c) qs) :
    Calls Tryz.prog 101 #[.slice ao n c] w fun xe w' => xe = .returned (fracV (amg ltQ qs)) ∧ Below w.heap.size w w' :=
  fmin_w ao n c (amg ltQ qs).num (fe (amg ltQ qs)) _ (SlQ.keeps (.slice ao n c) qs) (fun w h => among_min ao n c qs (fun p q hp hq w => lessF p q k (hs p hp) (hs q hq) hk w) w h (slq_parts h hl)) w h
theorem max_nil (w : World) : Calls Tryz.prog 100 #[.slice none 0 0] w fun xe w' => xe = .returned (.agg #[.int .u64 0, .string ⟨#[]⟩, .bool false, .int .u64 0, .string ⟨#[]⟩]) ∧ Below w.heap.size w w' := by
  have h := maxF none 0 0 [] 1 (by decide) (by decide) (fun q hq => by cases hq) w (slq_nil w)
  rw [show amg gtQ [] = (0 : Rat) from rfl, frV_q0] at h
  exact h
theorem slq_two {w : World} {g : Nat} {p q : Rat} (h : Hd w g [.int .u64 ((zl p.num : Nat) : Int), .string (zh p.num), .bool (zs p.num), .int .u64 ((lo (fe p) : Nat) : Int), .string (hs (fe p)), .int .u64 ((zl q.num : Nat) : Int), .string (zh q.num), .bool (zs q.num), .int .u64 ((lo (fe q) : Nat) : Int), .string (hs (fe q))]) : SlQ w (.slice (some ⟨g, 0, none⟩) 2 2) [p, q] :=
  .inr ⟨g, 2, rfl, ⟨fun i hi => by
    rcases (show i = 0 ∨ i = 1 by simp at hi; omega) with rfl | rfl
    · exact ⟨h.cell 0 (by simp), h.cell 1 (by simp), h.cell 2 (by simp), h.cell 3 (by simp), h.cell 4 (by simp)⟩
    · exact ⟨h.cell 5 (by simp), h.cell 6 (by simp), h.cell 7 (by simp), h.cell 8 (by simp), h.cell 9 (by simp)⟩, h.lt⟩⟩
theorem max_two (p q r : Rat) (hp : Sz p 1) (hq : Sz q 1) (hr : amg gtQ [p, q] = r) (g : Nat) (w : World) (h : Hd w g [.int .u64 ((zl p.num : Nat) : Int), .string (zh p.num), .bool (zs p.num), .int .u64 ((lo (fe p) : Nat) : Int), .string (hs (fe p)), .int .u64 ((zl q.num : Nat) : Int), .string (zh q.num), .bool (zs q.num), .int .u64 ((lo (fe q) : Nat) : Int), .string (hs (fe q))]) :
    Calls Tryz.prog 100 #[.slice (some ⟨g, 0, none⟩) 2 2] w fun xe w' => xe = .returned (fracV r) ∧ Below w.heap.size w w' := by
  rw [← hr]
  exact maxF _ 2 2 [p, q] 1 (by decide) (by simp) (fun x hx => by simp only [List.mem_cons, List.not_mem_nil, or_false] at hx; rcases hx with rfl | rfl <;> assumption) w (slq_two h)

/-- The variable of package bytealg that strings.Cut looks at. -/
def MaxL (w : World) : Prop := ∃ m, w.cell? ⟨3, 0, none⟩ = some (.int .i64 m)
theorem MaxL.keeps : Keeps MaxL := fun w w' hb ⟨m, h⟩ => ⟨m, by
  have hl := World.block_lt_of_cell? w _ h
  exact (hb.cell (p := ⟨3, 0, none⟩) hl).trans h⟩
theorem maxL_of {w : World} (h : w.ShapedOpen Tryz.prog) : MaxL w := Tryz.laysM145.s1_3 w h
theorem cutF (s : ByteArray) (hs : s.size < 4294967281) (p q : ByteArray) (f : Bool) (hp : Lib.cut s.data.toList [47] = (p.data.toList, q.data.toList, f)) (w : World) (hm : MaxL w) :
    Calls Tryz.prog 151 #[.string s, .string (ByteArray.mk #[47])] w fun xe w' => xe = .returned (.tuple #[.string p, .string q, .bool f]) ∧ Below w.heap.size w w' := by
  obtain ⟨m, hm⟩ := hm
  have h := Tryz.strings_Cut s (ByteArray.mk #[47]) m w hs hm
  rw [show (ByteArray.mk #[47]).data.toList = [47] from rfl, hp] at h
  exact h.mono fun xe w' ⟨h1, n, h2⟩ => ⟨h1, by rw [h2]; exact ⟨rfl, rfl, rfl, Nat.le_refl _, fun _ _ => rfl⟩⟩
end Go.Proofs.YtecdnohhengfaaaGreatDoor

/-
  Layer 3, the law package: works.
-/
namespace Go.Proofs.YtecdnohhengfaaaGreatDoor
open Go.RowKit
attribute [local irreducible] lo hs sm s64 c64 d64 b64 mh ml pd pc qd qc val hiB str cmpI srD lz nb isq decB zl zh zs

theorem ip_dig (d : Nat) (hd : d < 10) (w : World) : Calls Tryz.prog 124 #[.string ⟨#[dch d]⟩] w fun xe w' => xe = .returned (.tuple #[intV (d : Int), .int .i64 0]) ∧ Below w.heap.size w w' := by
  have h := parse_ztxt (d : Int) (Nat.le_trans (dI_lit (by omega)) (by omega)) w
  rw [zt_pos d hd] at h
  exact h
theorem ip_neg (d : Nat) (hd : d < 10) (h0 : 0 < d) (w : World) : Calls Tryz.prog 124 #[.string ⟨#[45, dch d]⟩] w fun xe w' => xe = .returned (.tuple #[intV (-(d : Int)), .int .i64 0]) ∧ Below w.heap.size w w' := by
  have h := parse_ztxt (-(d : Int)) (Nat.le_trans (dI_lit (by omega)) (by omega)) w
  rw [zt_neg d hd h0] at h
  exact h
theorem np_dig (d : Nat) (hd : d < 10) (w : World) : Calls Tryz.prog 116 #[.string ⟨#[dch d]⟩] w fun xe w' => xe = .returned (.tuple #[natV d, .int .i64 0]) ∧ Below w.heap.size w w' := by
  have h := parse_ok (Lib.decDigits d) (by rw [dec_small hd]; exact (by decide : 1 ≤ 4096)) (dec_isDec d) w
  rw [dval_dec, dec_small hd] at h
  exact h
theorem np_bad (l : List UInt8) (hl : l.length ≤ 4096) (hd : ¬ isDec l) (w : World) : Calls Tryz.prog 116 #[.string (st l)] w fun xe w' => xe = .returned (.tuple #[natV 0, .int .i64 4]) ∧ Below w.heap.size w w' := parse_form l hl hd w
theorem ip_nil (w : World) : Calls Tryz.prog 124 #[.string ⟨#[]⟩] w fun xe w' => xe = .returned (.tuple #[intV 0, .int .i64 4]) ∧ Below w.heap.size w w' := by
  have h := iparse_p_form [] (by decide) (fun h => by rcases h.2 with h | h; exact absurd h (by decide); exact h.1 rfl) (by decide) w
  exact h
theorem parse_w0 (w : World) (hm : MaxL w) : Calls Tryz.prog 81 #[.string (ByteArray.mk #[45, 54, 47, 52])] w fun xe w' => xe = .returned (.tuple #[fracV (mkRat (-3) 2), .int .i64 0]) ∧ Below w.heap.size w w' := by
  have HC := cutF (ByteArray.mk #[45, 54, 47, 52]) (by decide) (ByteArray.mk #[45, 54]) (ByteArray.mk #[52]) true (by kernel_rfl)
  have HF := fun w => fromF (-6) 4 (by decide) (Nat.le_trans (dI_lit (by decide)) (by omega)) (Nat.le_trans (dI_lit (z := 4) (by decide)) (by omega)) w
  rw [show mkRat (-6) 4 = (mkRat (-3) 2) from by decide +kernel] at HF
  exact fparse_part _ _ _ (-6) _ 4 _ 0 MaxL MaxL.keeps HC (ip_neg 6 (by decide) (by decide)) (np_dig 4 (by decide)) HF w hm
theorem parse_w1 (w : World) (hm : MaxL w) : Calls Tryz.prog 81 #[.string (ByteArray.mk #[49, 47, 48])] w fun xe w' => xe = .returned (.tuple #[.agg #[.int .u64 0, .string ⟨#[]⟩, .bool false, .int .u64 0, .string ⟨#[]⟩], .int .i64 5]) ∧ Below w.heap.size w w' := by
  have HC := cutF (ByteArray.mk #[49, 47, 48]) (by decide) (ByteArray.mk #[49]) (ByteArray.mk #[48]) true (by kernel_rfl)
  rw [← frV_q0]
  exact fparse_part _ _ _ 1 _ 0 _ 5 MaxL MaxL.keeps HC (ip_dig 1 (by decide)) (np_dig 0 (by decide)) (fun w => from0F 1 w) w hm
theorem parse_w2 (w : World) (hm : MaxL w) : Calls Tryz.prog 81 #[.string (ByteArray.mk #[49, 47, 45, 50])] w fun xe w' => xe = .returned (.tuple #[.agg #[.int .u64 0, .string ⟨#[]⟩, .bool false, .int .u64 0, .string ⟨#[]⟩], .int .i64 4]) ∧ Below w.heap.size w w' := by
  have HC := cutF (ByteArray.mk #[49, 47, 45, 50]) (by decide) (ByteArray.mk #[49]) (ByteArray.mk #[45, 50]) true (by kernel_rfl)
  exact fparse_nat _ _ _ 1 0 4 MaxL MaxL.keeps HC (ip_dig 1 (by decide)) (fun w => np_bad [45, 50] (by decide) (by exact isDec_no (by decide)) w) (by decide) w hm
theorem parse_w3 (w : World) (hm : MaxL w) : Calls Tryz.prog 81 #[.string (ByteArray.mk #[49, 47, 50, 47, 51])] w fun xe w' => xe = .returned (.tuple #[.agg #[.int .u64 0, .string ⟨#[]⟩, .bool false, .int .u64 0, .string ⟨#[]⟩], .int .i64 4]) ∧ Below w.heap.size w w' := by
  have HC := cutF (ByteArray.mk #[49, 47, 50, 47, 51]) (by decide) (ByteArray.mk #[49]) (ByteArray.mk #[50, 47, 51]) true (by kernel_rfl)
  exact fparse_nat _ _ _ 1 0 4 MaxL MaxL.keeps HC (ip_dig 1 (by decide)) (fun w => np_bad [50, 47, 51] (by decide) (by exact isDec_no (by decide)) w) (by decide) w hm
theorem parse_w4 (w : World) (hm : MaxL w) : Calls Tryz.prog 81 #[.string (ByteArray.mk #[48, 47, 55])] w fun xe w' => xe = .returned (.tuple #[.agg #[.int .u64 0, .string ⟨#[]⟩, .bool false, .int .u64 0, .string ⟨#[]⟩], .int .i64 0]) ∧ Below w.heap.size w w' := by
  have HC := cutF (ByteArray.mk #[48, 47, 55]) (by decide) (ByteArray.mk #[48]) (ByteArray.mk #[55]) true (by kernel_rfl)
  rw [← frV_q0]
  have HF := fun w => fromF (0) 7 (by decide) (Nat.le_trans (dI_lit (by decide)) (by omega)) (Nat.le_trans (dI_lit (z := 7) (by decide)) (by omega)) w
  rw [show mkRat (0) 7 = (0 : Rat) from by decide +kernel] at HF
  exact fparse_part _ _ _ (0) _ 7 _ 0 MaxL MaxL.keeps HC (ip_dig 0 (by decide)) (np_dig 7 (by decide)) HF w hm
theorem parse_w5 (w : World) (hm : MaxL w) : Calls Tryz.prog 81 #[.string ⟨#[]⟩] w fun xe w' => xe = .returned (.tuple #[.agg #[.int .u64 0, .string ⟨#[]⟩, .bool false, .int .u64 0, .string ⟨#[]⟩], .int .i64 4]) ∧ Below w.heap.size w w' := by
  have HC := cutF (ByteArray.mk #[]) (by decide) (ByteArray.mk #[]) (ByteArray.mk #[]) false (by kernel_rfl)
  exact fparse_int _ _ _ 0 false 4 MaxL MaxL.keeps HC ip_nil (by decide) w hm
theorem parse_w6 (w : World) (hm : MaxL w) : Calls Tryz.prog 81 #[.string (ByteArray.mk #[49, 47])] w fun xe w' => xe = .returned (.tuple #[.agg #[.int .u64 0, .string ⟨#[]⟩, .bool false, .int .u64 0, .string ⟨#[]⟩], .int .i64 4]) ∧ Below w.heap.size w w' := by
  have HC := cutF (ByteArray.mk #[49, 47]) (by decide) (ByteArray.mk #[49]) (ByteArray.mk #[]) true (by kernel_rfl)
  exact fparse_nat _ _ _ 1 0 4 MaxL MaxL.keeps HC (ip_dig 1 (by decide)) (fun w => np_bad [] (by decide) (by exact isDec_no (by decide)) w) (by decide) w hm
set_option maxHeartbeats 16000000 in
set_option maxRecDepth 100000 in
theorem fworks_w  (r1 : Rat) (r2 : Rat) (r3 : Rat) (r4 : Rat) (r5 : Rat) (r6 : Rat) (r7 : Rat) (r8 : Rat) (r9 : Rat) (r10 : Rat) (z1 : Int) (z2 : Int) (r11 : Rat) (r12 : Rat) (KM : World → Prop) (hKM : Keeps KM) (P0 : ∀ w, KM w → Calls Tryz.prog 81 #[.string (ByteArray.mk #[45, 54, 47, 52])] w fun xe w' => xe = .returned (.tuple #[.agg #[.int .u64 ((zl r1.num : Nat) : Int), .string (zh r1.num), .bool (zs r1.num), .int .u64 ((lo (fe r1) : Nat) : Int), .string (hs (fe r1))], .int .i64 0]) ∧ Below w.heap.size w w') (P1 : ∀ w, KM w → Calls Tryz.prog 81 #[.string (ByteArray.mk #[49, 47, 48])] w fun xe w' => xe = .returned (.tuple #[.agg #[.int .u64 0, .string ⟨#[]⟩, .bool false, .int .u64 0, .string ⟨#[]⟩], .int .i64 5]) ∧ Below w.heap.size w w') (P2 : ∀ w, KM w → Calls Tryz.prog 81 #[.string (ByteArray.mk #[49, 47, 45, 50])] w fun xe w' => xe = .returned (.tuple #[.agg #[.int .u64 0, .string ⟨#[]⟩, .bool false, .int .u64 0, .string ⟨#[]⟩], .int .i64 4]) ∧ Below w.heap.size w w') (P3 : ∀ w, KM w → Calls Tryz.prog 81 #[.string (ByteArray.mk #[49, 47, 50, 47, 51])] w fun xe w' => xe = .returned (.tuple #[.agg #[.int .u64 0, .string ⟨#[]⟩, .bool false, .int .u64 0, .string ⟨#[]⟩], .int .i64 4]) ∧ Below w.heap.size w w') (P4 : ∀ w, KM w → Calls Tryz.prog 81 #[.string (ByteArray.mk #[48, 47, 55])] w fun xe w' => xe = .returned (.tuple #[.agg #[.int .u64 0, .string ⟨#[]⟩, .bool false, .int .u64 0, .string ⟨#[]⟩], .int .i64 0]) ∧ Below w.heap.size w w') (P5 : ∀ w, KM w → Calls Tryz.prog 81 #[.string ⟨#[]⟩] w fun xe w' => xe = .returned (.tuple #[.agg #[.int .u64 0, .string ⟨#[]⟩, .bool false, .int .u64 0, .string ⟨#[]⟩], .int .i64 4]) ∧ Below w.heap.size w w') (P6 : ∀ w, KM w → Calls Tryz.prog 81 #[.string (ByteArray.mk #[49, 47])] w fun xe w' => xe = .returned (.tuple #[.agg #[.int .u64 0, .string ⟨#[]⟩, .bool false, .int .u64 0, .string ⟨#[]⟩], .int .i64 4]) ∧ Below w.heap.size w w') (H1 : ∀ w, Calls Tryz.prog 139 #[.int .i64 6, .int .i64 (-4)] w fun xe w' => xe = .returned (.agg #[.int .u64 ((zl r1.num : Nat) : Int), .string (zh r1.num), .bool (zs r1.num), .int .u64 ((lo (fe r1) : Nat) : Int), .string (hs (fe r1))]) ∧ Below w.heap.size w w') (H2 : ∀ w, Calls Tryz.prog 139 #[.int .i64 0, .int .i64 (-5)] w fun xe w' => xe = .returned (.agg #[.int .u64 0, .string ⟨#[]⟩, .bool false, .int .u64 0, .string ⟨#[]⟩]) ∧ Below w.heap.size w w') (H3 : ∀ w, Calls Tryz.prog 93 #[.int .i64 1, .int .i64 0] w fun xe w' => xe = .returned (.tuple #[.agg #[.int .u64 0, .string ⟨#[]⟩, .bool false, .int .u64 0, .string ⟨#[]⟩], .int .i64 5]) ∧ Below w.heap.size w w') (H4 : ∀ w, Calls Tryz.prog 139 #[.int .i64 (-9223372036854775808), .int .i64 (-9223372036854775808)] w fun xe w' => xe = .returned (.agg #[.int .u64 ((zl r2.num : Nat) : Int), .string (zh r2.num), .bool (zs r2.num), .int .u64 ((lo (fe r2) : Nat) : Int), .string (hs (fe r2))]) ∧ Below w.heap.size w w') (H5 : ∀ w, Calls Tryz.prog 139 #[.int .i64 1, .int .i64 2] w fun xe w' => xe = .returned (.agg #[.int .u64 ((zl r3.num : Nat) : Int), .string (zh r3.num), .bool (zs r3.num), .int .u64 ((lo (fe r3) : Nat) : Int), .string (hs (fe r3))]) ∧ Below w.heap.size w w') (H6 : ∀ w, Calls Tryz.prog 139 #[.int .i64 (-1), .int .i64 4] w fun xe w' => xe = .returned (.agg #[.int .u64 ((zl r4.num : Nat) : Int), .string (zh r4.num), .bool (zs r4.num), .int .u64 ((lo (fe r4) : Nat) : Int), .string (hs (fe r4))]) ∧ Below w.heap.size w w') (H7 : ∀ w, Calls Tryz.prog 61 #[.agg #[.int .u64 ((zl r3.num : Nat) : Int), .string (zh r3.num), .bool (zs r3.num), .int .u64 ((lo (fe r3) : Nat) : Int), .string (hs (fe r3))], .agg #[.int .u64 ((zl r4.num : Nat) : Int), .string (zh r4.num), .bool (zs r4.num), .int .u64 ((lo (fe r4) : Nat) : Int), .string (hs (fe r4))]] w fun xe w' => xe = .returned (.tuple #[.agg #[.int .u64 ((zl r5.num : Nat) : Int), .string (zh r5.num), .bool (zs r5.num), .int .u64 ((lo (fe r5) : Nat) : Int), .string (hs (fe r5))], .int .i64 0]) ∧ Below w.heap.size w w') (H8 : ∀ w, Calls Tryz.prog 94 #[.int .i64 1] w fun xe w' => xe = .returned (.agg #[.int .u64 ((zl r2.num : Nat) : Int), .string (zh r2.num), .bool (zs r2.num), .int .u64 ((lo (fe r2) : Nat) : Int), .string (hs (fe r2))]) ∧ Below w.heap.size w w') (H9 : ∀ w, Calls Tryz.prog 61 #[.agg #[.int .u64 ((zl r2.num : Nat) : Int), .string (zh r2.num), .bool (zs r2.num), .int .u64 ((lo (fe r2) : Nat) : Int), .string (hs (fe r2))], .agg #[.int .u64 0, .string ⟨#[]⟩, .bool false, .int .u64 0, .string ⟨#[]⟩]] w fun xe w' => xe = .returned (.tuple #[.agg #[.int .u64 0, .string ⟨#[]⟩, .bool false, .int .u64 0, .string ⟨#[]⟩], .int .i64 5]) ∧ Below w.heap.size w w') (H10 : ∀ w, Tab w → Calls Tryz.prog 140 #[.agg #[.int .u64 ((zl r1.num : Nat) : Int), .string (zh r1.num), .bool (zs r1.num), .int .u64 ((lo (fe r1) : Nat) : Int), .string (hs (fe r1))], .string (ByteArray.mk #[45, 51, 47, 50])] w fun xe w' => xe = .returned (.bool true) ∧ Below w.heap.size w w') (H11 : ∀ w, Tab w → Calls Tryz.prog 140 #[.agg #[.int .u64 ((zl r2.num : Nat) : Int), .string (zh r2.num), .bool (zs r2.num), .int .u64 ((lo (fe r2) : Nat) : Int), .string (hs (fe r2))], .string (ByteArray.mk #[49])] w fun xe w' => xe = .returned (.bool true) ∧ Below w.heap.size w w') (H12 : ∀ w, Calls Tryz.prog 139 #[.int .i64 1, .int .i64 3] w fun xe w' => xe = .returned (.agg #[.int .u64 ((zl r6.num : Nat) : Int), .string (zh r6.num), .bool (zs r6.num), .int .u64 ((lo (fe r6) : Nat) : Int), .string (hs (fe r6))]) ∧ Below w.heap.size w w') (H13 : ∀ w, Calls Tryz.prog 64 #[.agg #[.int .u64 ((zl r3.num : Nat) : Int), .string (zh r3.num), .bool (zs r3.num), .int .u64 ((lo (fe r3) : Nat) : Int), .string (hs (fe r3))], .agg #[.int .u64 ((zl r6.num : Nat) : Int), .string (zh r6.num), .bool (zs r6.num), .int .u64 ((lo (fe r6) : Nat) : Int), .string (hs (fe r6))]] w fun xe w' => xe = .returned (.agg #[.int .u64 ((zl r7.num : Nat) : Int), .string (zh r7.num), .bool (zs r7.num), .int .u64 ((lo (fe r7) : Nat) : Int), .string (hs (fe r7))]) ∧ Below w.heap.size w w') (H14 : ∀ w, Tab w → Calls Tryz.prog 140 #[.agg #[.int .u64 ((zl r7.num : Nat) : Int), .string (zh r7.num), .bool (zs r7.num), .int .u64 ((lo (fe r7) : Nat) : Int), .string (hs (fe r7))], .string (ByteArray.mk #[53, 47, 54])] w fun xe w' => xe = .returned (.bool true) ∧ Below w.heap.size w w') (H15 : ∀ w, Calls Tryz.prog 66 #[.agg #[.int .u64 ((zl r3.num : Nat) : Int), .string (zh r3.num), .bool (zs r3.num), .int .u64 ((lo (fe r3) : Nat) : Int), .string (hs (fe r3))], .agg #[.int .u64 ((zl r3.num : Nat) : Int), .string (zh r3.num), .bool (zs r3.num), .int .u64 ((lo (fe r3) : Nat) : Int), .string (hs (fe r3))]] w fun xe w' => xe = .returned (.agg #[.int .u64 0, .string ⟨#[]⟩, .bool false, .int .u64 0, .string ⟨#[]⟩]) ∧ Below w.heap.size w w') (H16 : ∀ w, Tab w → Calls Tryz.prog 140 #[.agg #[.int .u64 0, .string ⟨#[]⟩, .bool false, .int .u64 0, .string ⟨#[]⟩], .string (ByteArray.mk #[48])] w fun xe w' => xe = .returned (.bool true) ∧ Below w.heap.size w w') (H17 : ∀ w, Calls Tryz.prog 139 #[.int .i64 2, .int .i64 3] w fun xe w' => xe = .returned (.agg #[.int .u64 ((zl r8.num : Nat) : Int), .string (zh r8.num), .bool (zs r8.num), .int .u64 ((lo (fe r8) : Nat) : Int), .string (hs (fe r8))]) ∧ Below w.heap.size w w') (H18 : ∀ w, Calls Tryz.prog 139 #[.int .i64 3, .int .i64 2] w fun xe w' => xe = .returned (.agg #[.int .u64 ((zl r9.num : Nat) : Int), .string (zh r9.num), .bool (zs r9.num), .int .u64 ((lo (fe r9) : Nat) : Int), .string (hs (fe r9))]) ∧ Below w.heap.size w w') (H19 : ∀ w, Calls Tryz.prog 68 #[.agg #[.int .u64 ((zl r8.num : Nat) : Int), .string (zh r8.num), .bool (zs r8.num), .int .u64 ((lo (fe r8) : Nat) : Int), .string (hs (fe r8))], .agg #[.int .u64 ((zl r9.num : Nat) : Int), .string (zh r9.num), .bool (zs r9.num), .int .u64 ((lo (fe r9) : Nat) : Int), .string (hs (fe r9))]] w fun xe w' => xe = .returned (.agg #[.int .u64 ((zl r2.num : Nat) : Int), .string (zh r2.num), .bool (zs r2.num), .int .u64 ((lo (fe r2) : Nat) : Int), .string (hs (fe r2))]) ∧ Below w.heap.size w w') (H20 : ∀ w, Tab w → Calls Tryz.prog 140 #[.agg #[.int .u64 ((zl r5.num : Nat) : Int), .string (zh r5.num), .bool (zs r5.num), .int .u64 ((lo (fe r5) : Nat) : Int), .string (hs (fe r5))], .string (ByteArray.mk #[45, 50])] w fun xe w' => xe = .returned (.bool true) ∧ Below w.heap.size w w') (H21 : ∀ w, Calls Tryz.prog 98 #[.agg #[.int .u64 ((zl r8.num : Nat) : Int), .string (zh r8.num), .bool (zs r8.num), .int .u64 ((lo (fe r8) : Nat) : Int), .string (hs (fe r8))], .int .i64 (-2)] w fun xe w' => xe = .returned (.tuple #[.agg #[.int .u64 ((zl r10.num : Nat) : Int), .string (zh r10.num), .bool (zs r10.num), .int .u64 ((lo (fe r10) : Nat) : Int), .string (hs (fe r10))], .int .i64 0]) ∧ Below w.heap.size w w') (H22 : ∀ w, Calls Tryz.prog 98 #[.agg #[.int .u64 0, .string ⟨#[]⟩, .bool false, .int .u64 0, .string ⟨#[]⟩], .int .i64 (-1)] w fun xe w' => xe = .returned (.tuple #[.agg #[.int .u64 0, .string ⟨#[]⟩, .bool false, .int .u64 0, .string ⟨#[]⟩], .int .i64 5]) ∧ Below w.heap.size w w') (H23 : ∀ w, Calls Tryz.prog 98 #[.agg #[.int .u64 0, .string ⟨#[]⟩, .bool false, .int .u64 0, .string ⟨#[]⟩], .int .i64 0] w fun xe w' => xe = .returned (.tuple #[.agg #[.int .u64 ((zl r2.num : Nat) : Int), .string (zh r2.num), .bool (zs r2.num), .int .u64 ((lo (fe r2) : Nat) : Int), .string (hs (fe r2))], .int .i64 0]) ∧ Below w.heap.size w w') (H24 : ∀ w, Calls Tryz.prog 78 #[.agg #[.int .u64 ((zl r1.num : Nat) : Int), .string (zh r1.num), .bool (zs r1.num), .int .u64 ((lo (fe r1) : Nat) : Int), .string (hs (fe r1))]] w fun xe w' => xe = .returned (.agg #[.int .u64 ((zl z1 : Nat) : Int), .string (zh z1), .bool (zs z1)]) ∧ Below w.heap.size w w') (H25 : ∀ w, Tab w → Calls Tryz.prog 77 #[.agg #[.int .u64 ((zl z1 : Nat) : Int), .string (zh z1), .bool (zs z1)]] w fun xe w' => xe = .returned (.string (ByteArray.mk #[45, 50])) ∧ Below w.heap.size w w') (H26 : ∀ w, Calls Tryz.prog 95 #[.agg #[.int .u64 ((zl r1.num : Nat) : Int), .string (zh r1.num), .bool (zs r1.num), .int .u64 ((lo (fe r1) : Nat) : Int), .string (hs (fe r1))]] w fun xe w' => xe = .returned (.agg #[.int .u64 ((zl z2 : Nat) : Int), .string (zh z2), .bool (zs z2)]) ∧ Below w.heap.size w w') (H27 : ∀ w, Tab w → Calls Tryz.prog 77 #[.agg #[.int .u64 ((zl z2 : Nat) : Int), .string (zh z2), .bool (zs z2)]] w fun xe w' => xe = .returned (.string (ByteArray.mk #[45, 49])) ∧ Below w.heap.size w w') (H28 : ∀ w, Tab w → Calls Tryz.prog 140 #[.agg #[.int .u64 ((zl r10.num : Nat) : Int), .string (zh r10.num), .bool (zs r10.num), .int .u64 ((lo (fe r10) : Nat) : Int), .string (hs (fe r10))], .string (ByteArray.mk #[57, 47, 52])] w fun xe w' => xe = .returned (.bool true) ∧ Below w.heap.size w w') (H29 : ∀ w, Calls Tryz.prog 100 #[.slice none 0 0] w fun xe w' => xe = .returned (.agg #[.int .u64 0, .string ⟨#[]⟩, .bool false, .int .u64 0, .string ⟨#[]⟩]) ∧ Below w.heap.size w w') (H30 : ∀ w, Calls Tryz.prog 94 #[.int .i64 (-1)] w fun xe w' => xe = .returned (.agg #[.int .u64 ((zl r11.num : Nat) : Int), .string (zh r11.num), .bool (zs r11.num), .int .u64 ((lo (fe r11) : Nat) : Int), .string (hs (fe r11))]) ∧ Below w.heap.size w w') (H31 : ∀ w, Calls Tryz.prog 139 #[.int .i64 (-1), .int .i64 2] w fun xe w' => xe = .returned (.agg #[.int .u64 ((zl r12.num : Nat) : Int), .string (zh r12.num), .bool (zs r12.num), .int .u64 ((lo (fe r12) : Nat) : Int), .string (hs (fe r12))]) ∧ Below w.heap.size w w') (H32 : ∀ g w, Hd w g [.int .u64 ((zl r11.num : Nat) : Int), .string (zh r11.num), .bool (zs r11.num), .int .u64 ((lo (fe r11) : Nat) : Int), .string (hs (fe r11)), .int .u64 ((zl r12.num : Nat) : Int), .string (zh r12.num), .bool (zs r12.num), .int .u64 ((lo (fe r12) : Nat) : Int), .string (hs (fe r12))] → Calls Tryz.prog 100 #[.slice (some ⟨g, 0, none⟩) 2 2] w fun xe w' => xe = .returned (.agg #[.int .u64 ((zl r12.num : Nat) : Int), .string (zh r12.num), .bool (zs r12.num), .int .u64 ((lo (fe r12) : Nat) : Int), .string (hs (fe r12))]) ∧ Below w.heap.size w w') (H33 : ∀ w, Tab w → Calls Tryz.prog 140 #[.agg #[.int .u64 ((zl r12.num : Nat) : Int), .string (zh r12.num), .bool (zs r12.num), .int .u64 ((lo (fe r12) : Nat) : Int), .string (hs (fe r12))], .string (ByteArray.mk #[45, 49, 47, 50])] w fun xe w' => xe = .returned (.bool true) ∧ Below w.heap.size w w') (w : World) (htab : Tab w) (kKM : KM w) :
    Calls Tryz.prog 57 #[] w fun xe w' => xe = .returned (.bool true) ∧ Below w.heap.size w w' := by
  have hL0 : GL w w [] := GL.start w
  replace hKM := Lib.hid hKM
  replace P0 := Lib.hid P0
  replace P1 := Lib.hid P1
  replace P2 := Lib.hid P2
  replace P3 := Lib.hid P3
  replace P4 := Lib.hid P4
  replace P5 := Lib.hid P5
  replace P6 := Lib.hid P6
  replace H1 := Lib.hid H1
  replace H2 := Lib.hid H2
  replace H3 := Lib.hid H3
  replace H4 := Lib.hid H4
  replace H5 := Lib.hid H5
  replace H6 := Lib.hid H6
  replace H7 := Lib.hid H7
  replace H8 := Lib.hid H8
  replace H9 := Lib.hid H9
  replace H10 := Lib.hid H10
  replace H11 := Lib.hid H11
  replace H12 := Lib.hid H12
  replace H13 := Lib.hid H13
  replace H14 := Lib.hid H14
  replace H15 := Lib.hid H15
  replace H16 := Lib.hid H16
  replace H17 := Lib.hid H17
  replace H18 := Lib.hid H18
  replace H19 := Lib.hid H19
  replace H20 := Lib.hid H20
  replace H21 := Lib.hid H21
  replace H22 := Lib.hid H22
  replace H23 := Lib.hid H23
  replace H24 := Lib.hid H24
  replace H25 := Lib.hid H25
  replace H26 := Lib.hid H26
  replace H27 := Lib.hid H27
  replace H28 := Lib.hid H28
  replace H29 := Lib.hid H29
  replace H30 := Lib.hid H30
  replace H31 := Lib.hid H31
  replace H32 := Lib.hid H32
  replace H33 := Lib.hid H33
  go_enter Tryz.func57, Tryz.ntmps57
  go_wp2_with fail
  with_reducible refine Calls.mono (H1.out _) ?_
  rintro e x1 ⟨rfl, hb⟩
  replace hL0 := hL0.call hb
  clear hb
  go_wp2_with fail
  with_reducible refine Calls.mono (H2.out _) ?_
  rintro e x2 ⟨rfl, hb⟩
  replace hL0 := hL0.call hb
  clear hb
  replace hL0 := ((hL0.new rfl [.int .u64 ((zl r1.num : Nat) : Int), .string (zh r1.num), .bool (zs r1.num), .int .u64 ((lo (fe r1) : Nat) : Int), .string (hs (fe r1))] 79).new (K := x2.heap.size + 1) (szA _ _) [.int .u64 0, .string ⟨#[]⟩, .bool false, .int .u64 0, .string ⟨#[]⟩] 79)
  generalize hweq : ((x2.alloc (.cells #[.int .u64 ((zl r1.num : Nat) : Int), .string (zh r1.num), .bool (zs r1.num), .int .u64 ((lo (fe r1) : Nat) : Int), .string (hs (fe r1))] 79)).alloc (.cells #[.int .u64 0, .string ⟨#[]⟩, .bool false, .int .u64 0, .string ⟨#[]⟩] 79)) = x3 at hL0
  have hA := hL0.fc
  simp only [fcG, cellsF, neK, and_true, ne_eq, Nat.zero_add, Nat.reduceAdd] at hA
  have hP := hL0.put 0 (x2.heap.size + 1) _ rfl [.int .u64 0, .string ⟨#[]⟩, .bool false, .int .u64 0, .string ⟨#[]⟩] rfl
  simp only [setAll, List.set_cons_zero, List.set_cons_succ] at hP
  generalize hput1 : (((((x3.setCell ⟨x2.heap.size + 1, 0, none⟩ (.int .u64 0)).setCell ⟨x2.heap.size + 1, 1, none⟩ (.string ⟨#[]⟩)).setCell ⟨x2.heap.size + 1, 2, none⟩ (.bool false)).setCell ⟨x2.heap.size + 1, 3, none⟩ (.int .u64 0)).setCell ⟨x2.heap.size + 1, 4, none⟩ (.string ⟨#[]⟩)) = x4 at hP
  have hB1 := hP.fc
  simp only [fcG, cellsF, neK, and_true, ne_eq, Nat.zero_add, Nat.reduceAdd] at hB1
  replace hL0 := hP
  go_wp2_with fail
  clear hA
  with_reducible refine Calls.mono (H3.out _) ?_
  rintro e x5 ⟨rfl, hb⟩
  replace hL0 := hL0.call hb
  clear hb hweq hput1 hB1
  replace hL0 := (hL0.new rfl [.int .u64 0, .string ⟨#[]⟩, .bool false, .int .u64 0, .string ⟨#[]⟩] 79)
  generalize hweq : (x5.alloc (.cells #[.int .u64 0, .string ⟨#[]⟩, .bool false, .int .u64 0, .string ⟨#[]⟩] 79)) = x6 at hL0
  have hA := hL0.fc
  simp only [fcG, cellsF, neK, and_true, ne_eq, Nat.zero_add, Nat.reduceAdd] at hA
  have hP := hL0.put 0 (x5.heap.size) _ rfl [.int .u64 0, .string ⟨#[]⟩, .bool false, .int .u64 0, .string ⟨#[]⟩] rfl
  simp only [setAll, List.set_cons_zero, List.set_cons_succ] at hP
  generalize hput2 : (((((x6.setCell ⟨x5.heap.size, 0, none⟩ (.int .u64 0)).setCell ⟨x5.heap.size, 1, none⟩ (.string ⟨#[]⟩)).setCell ⟨x5.heap.size, 2, none⟩ (.bool false)).setCell ⟨x5.heap.size, 3, none⟩ (.int .u64 0)).setCell ⟨x5.heap.size, 4, none⟩ (.string ⟨#[]⟩)) = x7 at hP
  have hB2 := hP.fc
  simp only [fcG, cellsF, neK, and_true, ne_eq, Nat.zero_add, Nat.reduceAdd] at hB2
  replace hL0 := hP
  go_wp2_with fail
  clear hA
  with_reducible refine Calls.mono (H4.out _) ?_
  rintro e x8 ⟨rfl, hb⟩
  replace hL0 := hL0.call hb
  clear hb hweq hput2 hB2
  replace hL0 := (hL0.new rfl [.int .u64 ((zl r2.num : Nat) : Int), .string (zh r2.num), .bool (zs r2.num), .int .u64 ((lo (fe r2) : Nat) : Int), .string (hs (fe r2))] 79)
  generalize hweq : (x8.alloc (.cells #[.int .u64 ((zl r2.num : Nat) : Int), .string (zh r2.num), .bool (zs r2.num), .int .u64 ((lo (fe r2) : Nat) : Int), .string (hs (fe r2))] 79)) = x9 at hL0
  go_wp2_with fail
  with_reducible refine Calls.mono (H5.out _) ?_
  rintro e x10 ⟨rfl, hb⟩
  replace hL0 := hL0.call hb
  clear hb hweq
  go_wp2_with fail
  with_reducible refine Calls.mono (H6.out _) ?_
  rintro e x11 ⟨rfl, hb⟩
  replace hL0 := hL0.call hb
  clear hb
  go_wp2_with fail
  with_reducible refine Calls.mono (H7.out _) ?_
  rintro e x12 ⟨rfl, hb⟩
  replace hL0 := hL0.call hb
  clear hb
  replace hL0 := (hL0.new rfl [.int .u64 ((zl r5.num : Nat) : Int), .string (zh r5.num), .bool (zs r5.num), .int .u64 ((lo (fe r5) : Nat) : Int), .string (hs (fe r5))] 79)
  generalize hweq : (x12.alloc (.cells #[.int .u64 ((zl r5.num : Nat) : Int), .string (zh r5.num), .bool (zs r5.num), .int .u64 ((lo (fe r5) : Nat) : Int), .string (hs (fe r5))] 79)) = x13 at hL0
  go_upto_region 5 with fail
  clear hweq
  refine region_gh (by kernel_rfl) (by kernel_rfl) ?_
  refine lex_seg (gl := []) 6 (by kernel_rfl) ?_
  intro α iα F hF1 hF2
  have hq := GL.seg hF1 hL0
  simp only [fcC, cellsC, and_true, Nat.zero_add, Nat.reduceAdd] at hq
  simp only [List.take_succ_cons, List.take_zero, List.drop_succ_cons, List.drop_zero, List.take_nil, List.drop_nil]
  repeat (go_big_quiet_step (first | fail | (go_at_call 94; with_reducible exact seg_call hF2 H8.out _) | (go_at_call 61; with_reducible exact seg_call hF2 H9.out _)))
  refine wpQuiet_nil ?_
  clear hq hF1 hF2 iα F α
  refine lex_new [.int .u64 0, .string ⟨#[]⟩, .bool false, .int .u64 0, .string ⟨#[]⟩] 8 79 79 rfl rfl (of_decide_eq_true (by kernel_rfl)) (by kernel_rfl) rfl new_frac ?_
  simp only [Act.put, List.setIfInBounds_toArray, List.set_cons_succ, List.set_cons_zero]
  refine lex_put [.int .u64 0, .string ⟨#[]⟩, .bool false, .int .u64 0, .string ⟨#[]⟩] [.int .u64 0, .string ⟨#[]⟩, .bool false, .int .u64 0, .string ⟨#[]⟩] 8 79 (.tmp 38) rfl (by kernel_rfl) (by simp [toG, upd]) rfl (fun w k h => put_frac _ _ _ _ _ _ _ _ _ _ w k h) ?_
  simp only [Act.put]
  refine lex_seg (gl := [(8, [.int .u64 0, .string ⟨#[]⟩, .bool false, .int .u64 0, .string ⟨#[]⟩], true), (8, [.int .u64 0, .string ⟨#[]⟩, .bool false, .int .u64 0, .string ⟨#[]⟩], false)]) 1 (by kernel_rfl) ?_
  intro α iα F hF1 hF2
  have hq := GL.seg hF1 hL0
  simp only [fcC, cellsC, and_true, Nat.zero_add, Nat.reduceAdd] at hq
  simp only [List.take_succ_cons, List.take_zero, List.drop_succ_cons, List.drop_zero, List.take_nil, List.drop_nil]
  repeat (go_big_quiet_step (first | fail | (go_at_call 94; with_reducible exact seg_call hF2 H8.out _) | (go_at_call 61; with_reducible exact seg_call hF2 H9.out _)))
  refine wpQuiet_nil ?_
  clear hq hF1 hF2 iα F α
  refine lexG_nil ?_
  intro κ x14 hS
  replace hL0 := hL0.ghs hS [(8, [.int .u64 0, .string ⟨#[]⟩, .bool false, .int .u64 0, .string ⟨#[]⟩])] (by simp) (by intro p hp; simp only [List.mem_cons, List.not_mem_nil, or_false] at hp; rcases hp with rfl <;> exact ⟨_, by simp only [toG, upd]; rfl⟩)
  simp only [List.map_cons, List.map_nil, List.cons_append, List.nil_append] at hL0
  simp only [over_toG, over_nil, Act.put, List.setIfInBounds_toArray, List.set_cons_succ, List.set_cons_zero]
  clear hS
  generalize κ 8 = k14_8 at *
  have hN0 := cells_of _ 0 [] rfl (hL0.get _ _ (List.mem_cons_of_mem _ (List.mem_cons_of_mem _ (List.mem_cons_of_mem _ (List.mem_cons_of_mem _ (List.mem_cons_of_mem _ List.mem_cons_self))))))
  simp only [cellsF, and_true, Nat.zero_add, Nat.reduceAdd] at hN0
  go_wp2_with fail
  clear hN0
  with_reducible refine Calls.mono (H10.out _ (htab.below hL0.bl)) ?_
  rintro e x15 ⟨rfl, hb⟩
  replace hL0 := hL0.call hb
  clear hb
  have hN0 := cells_of _ 0 [] rfl (hL0.get _ _ (List.mem_cons_of_mem _ (List.mem_cons_of_mem _ List.mem_cons_self)))
  simp only [cellsF, and_true, Nat.zero_add, Nat.reduceAdd] at hN0
  have hN1 := cells_of _ 0 [] rfl (hL0.get _ _ (List.mem_cons_of_mem _ (List.mem_cons_of_mem _ (List.mem_cons_of_mem _ (List.mem_cons_of_mem _ List.mem_cons_self)))))
  simp only [cellsF, and_true, Nat.zero_add, Nat.reduceAdd] at hN1
  go_wp2_with fail
  clear hN0 hN1
  with_reducible refine Calls.mono (H11.out _ (htab.below hL0.bl)) ?_
  rintro e x16 ⟨rfl, hb⟩
  replace hL0 := hL0.call hb
  clear hb
  go_wp2_with fail
  with_reducible refine Calls.mono (H5.out _) ?_
  rintro e x17 ⟨rfl, hb⟩
  replace hL0 := hL0.call hb
  clear hb
  go_wp2_with fail
  with_reducible refine Calls.mono (H12.out _) ?_
  rintro e x18 ⟨rfl, hb⟩
  replace hL0 := hL0.call hb
  clear hb
  go_wp2_with fail
  with_reducible refine Calls.mono (H13.out _) ?_
  rintro e x19 ⟨rfl, hb⟩
  replace hL0 := hL0.call hb
  clear hb
  go_wp2_with fail
  with_reducible refine Calls.mono (H14.out _ (htab.below hL0.bl)) ?_
  rintro e x20 ⟨rfl, hb⟩
  replace hL0 := hL0.call hb
  clear hb
  go_wp2_with fail
  with_reducible refine Calls.mono (H5.out _) ?_
  rintro e x21 ⟨rfl, hb⟩
  replace hL0 := hL0.call hb
  clear hb
  go_wp2_with fail
  with_reducible refine Calls.mono (H5.out _) ?_
  rintro e x22 ⟨rfl, hb⟩
  replace hL0 := hL0.call hb
  clear hb
  go_wp2_with fail
  with_reducible refine Calls.mono (H15.out _) ?_
  rintro e x23 ⟨rfl, hb⟩
  replace hL0 := hL0.call hb
  clear hb
  go_wp2_with fail
  with_reducible refine Calls.mono (H16.out _ (htab.below hL0.bl)) ?_
  rintro e x24 ⟨rfl, hb⟩
  replace hL0 := hL0.call hb
  clear hb
  go_wp2_with fail
  with_reducible refine Calls.mono (H17.out _) ?_
  rintro e x25 ⟨rfl, hb⟩
  replace hL0 := hL0.call hb
  clear hb
  go_wp2_with fail
  with_reducible refine Calls.mono (H18.out _) ?_
  rintro e x26 ⟨rfl, hb⟩
  replace hL0 := hL0.call hb
  clear hb
  go_wp2_with fail
  with_reducible refine Calls.mono (H19.out _) ?_
  rintro e x27 ⟨rfl, hb⟩
  replace hL0 := hL0.call hb
  clear hb
  go_wp2_with fail
  with_reducible refine Calls.mono (H11.out _ (htab.below hL0.bl)) ?_
  rintro e x28 ⟨rfl, hb⟩
  replace hL0 := hL0.call hb
  clear hb
  have hN0 := cells_of _ 0 [] rfl (hL0.get _ _ (List.mem_cons_of_mem _ List.mem_cons_self))
  simp only [cellsF, and_true, Nat.zero_add, Nat.reduceAdd] at hN0
  go_wp2_with fail
  clear hN0
  with_reducible refine Calls.mono (H20.out _ (htab.below hL0.bl)) ?_
  rintro e x29 ⟨rfl, hb⟩
  replace hL0 := hL0.call hb
  clear hb
  go_wp2_with fail
  with_reducible refine Calls.mono (H17.out _) ?_
  rintro e x30 ⟨rfl, hb⟩
  replace hL0 := hL0.call hb
  clear hb
  go_wp2_with fail
  with_reducible refine Calls.mono (H21.out _) ?_
  rintro e x31 ⟨rfl, hb⟩
  replace hL0 := hL0.call hb
  clear hb
  replace hL0 := (hL0.new rfl [.int .u64 ((zl r10.num : Nat) : Int), .string (zh r10.num), .bool (zs r10.num), .int .u64 ((lo (fe r10) : Nat) : Int), .string (hs (fe r10))] 79)
  generalize hweq : (x31.alloc (.cells #[.int .u64 ((zl r10.num : Nat) : Int), .string (zh r10.num), .bool (zs r10.num), .int .u64 ((lo (fe r10) : Nat) : Int), .string (hs (fe r10))] 79)) = x32 at hL0
  have hN0 := cells_of _ 0 [] rfl (hL0.get _ _ (List.mem_cons_of_mem _ (List.mem_cons_of_mem _ (List.mem_cons_of_mem _ (List.mem_cons_of_mem _ (List.mem_cons_of_mem _ List.mem_cons_self))))))
  simp only [cellsF, and_true, Nat.zero_add, Nat.reduceAdd] at hN0
  go_wp2_with fail
  clear hN0
  with_reducible refine Calls.mono (H22.out _) ?_
  rintro e x33 ⟨rfl, hb⟩
  replace hL0 := hL0.call hb
  clear hb hweq
  replace hL0 := (hL0.new rfl [.int .u64 0, .string ⟨#[]⟩, .bool false, .int .u64 0, .string ⟨#[]⟩] 79)
  generalize hweq : (x33.alloc (.cells #[.int .u64 0, .string ⟨#[]⟩, .bool false, .int .u64 0, .string ⟨#[]⟩] 79)) = x34 at hL0
  have hA := hL0.fc
  simp only [fcG, cellsF, neK, and_true, ne_eq, Nat.zero_add, Nat.reduceAdd] at hA
  have hP := hL0.put 0 (x33.heap.size) _ rfl [.int .u64 0, .string ⟨#[]⟩, .bool false, .int .u64 0, .string ⟨#[]⟩] rfl
  simp only [setAll, List.set_cons_zero, List.set_cons_succ] at hP
  generalize hput3 : (((((x34.setCell ⟨x33.heap.size, 0, none⟩ (.int .u64 0)).setCell ⟨x33.heap.size, 1, none⟩ (.string ⟨#[]⟩)).setCell ⟨x33.heap.size, 2, none⟩ (.bool false)).setCell ⟨x33.heap.size, 3, none⟩ (.int .u64 0)).setCell ⟨x33.heap.size, 4, none⟩ (.string ⟨#[]⟩)) = x35 at hP
  have hB3 := hP.fc
  simp only [fcG, cellsF, neK, and_true, ne_eq, Nat.zero_add, Nat.reduceAdd] at hB3
  replace hL0 := hP
  go_wp2_with fail
  clear hA
  with_reducible refine Calls.mono (H23.out _) ?_
  rintro e x36 ⟨rfl, hb⟩
  replace hL0 := hL0.call hb
  clear hb hweq hput3 hB3
  replace hL0 := (hL0.new rfl [.int .u64 ((zl r2.num : Nat) : Int), .string (zh r2.num), .bool (zs r2.num), .int .u64 ((lo (fe r2) : Nat) : Int), .string (hs (fe r2))] 79)
  generalize hweq : (x36.alloc (.cells #[.int .u64 ((zl r2.num : Nat) : Int), .string (zh r2.num), .bool (zs r2.num), .int .u64 ((lo (fe r2) : Nat) : Int), .string (hs (fe r2))] 79)) = x37 at hL0
  have hN0 := cells_of _ 0 [] rfl (hL0.get _ _ (List.mem_cons_of_mem _ (List.mem_cons_of_mem _ (List.mem_cons_of_mem _ (List.mem_cons_of_mem _ (List.mem_cons_of_mem _ (List.mem_cons_of_mem _ (List.mem_cons_of_mem _ (List.mem_cons_of_mem _ List.mem_cons_self)))))))))
  simp only [cellsF, and_true, Nat.zero_add, Nat.reduceAdd] at hN0
  go_wp2_with fail
  clear hN0
  with_reducible refine Calls.mono (H24.out _) ?_
  rintro e x38 ⟨rfl, hb⟩
  replace hL0 := hL0.call hb
  clear hb hweq
  go_wp2_with fail
  with_reducible refine Calls.mono (H25.out _ (htab.below hL0.bl)) ?_
  rintro e x39 ⟨rfl, hb⟩
  replace hL0 := hL0.call hb
  clear hb
  have hN0 := cells_of _ 0 [] rfl (hL0.get _ _ (List.mem_cons_of_mem _ (List.mem_cons_of_mem _ (List.mem_cons_of_mem _ (List.mem_cons_of_mem _ (List.mem_cons_of_mem _ (List.mem_cons_of_mem _ (List.mem_cons_of_mem _ (List.mem_cons_of_mem _ List.mem_cons_self)))))))))
  simp only [cellsF, and_true, Nat.zero_add, Nat.reduceAdd] at hN0
  go_wp2_with fail
  clear hN0
  with_reducible refine Calls.mono (H26.out _) ?_
  rintro e x40 ⟨rfl, hb⟩
  replace hL0 := hL0.call hb
  clear hb
  go_wp2_with fail
  with_reducible refine Calls.mono (H27.out _ (htab.below hL0.bl)) ?_
  rintro e x41 ⟨rfl, hb⟩
  replace hL0 := hL0.call hb
  clear hb
  have hN0 := cells_of _ 0 [] rfl (hL0.get _ _ (List.mem_cons_of_mem _ (List.mem_cons_of_mem _ List.mem_cons_self)))
  simp only [cellsF, and_true, Nat.zero_add, Nat.reduceAdd] at hN0
  go_wp2_with fail
  clear hN0
  with_reducible refine Calls.mono (H28.out _ (htab.below hL0.bl)) ?_
  rintro e x42 ⟨rfl, hb⟩
  replace hL0 := hL0.call hb
  clear hb
  have hN0 := cells_of _ 0 [] rfl (hL0.get _ _ List.mem_cons_self)
  simp only [cellsF, and_true, Nat.zero_add, Nat.reduceAdd] at hN0
  go_wp2_with fail
  clear hN0
  with_reducible refine Calls.mono (H11.out _ (htab.below hL0.bl)) ?_
  rintro e x43 ⟨rfl, hb⟩
  replace hL0 := hL0.call hb
  clear hb
  go_wp2_with fail
  with_reducible refine Calls.mono (H29.out _) ?_
  rintro e x44 ⟨rfl, hb⟩
  replace hL0 := hL0.call hb
  clear hb
  go_wp2_with fail
  with_reducible refine Calls.mono (H16.out _ (htab.below hL0.bl)) ?_
  rintro e x45 ⟨rfl, hb⟩
  replace hL0 := hL0.call hb
  clear hb
  go_wp2_with fail
  with_reducible refine Calls.mono (H30.out _) ?_
  rintro e x46 ⟨rfl, hb⟩
  replace hL0 := hL0.call hb
  clear hb
  go_wp2_with fail
  with_reducible refine Calls.mono (H31.out _) ?_
  rintro e x47 ⟨rfl, hb⟩
  replace hL0 := hL0.call hb
  clear hb
  replace hL0 := (hL0.new rfl [.int .u64 ((zl r11.num : Nat) : Int), .string (zh r11.num), .bool (zs r11.num), .int .u64 ((lo (fe r11) : Nat) : Int), .string (hs (fe r11)), .int .u64 ((zl r12.num : Nat) : Int), .string (zh r12.num), .bool (zs r12.num), .int .u64 ((lo (fe r12) : Nat) : Int), .string (hs (fe r12))] 79)
  generalize hweq : (x47.alloc (.cells #[.int .u64 ((zl r11.num : Nat) : Int), .string (zh r11.num), .bool (zs r11.num), .int .u64 ((lo (fe r11) : Nat) : Int), .string (hs (fe r11)), .int .u64 ((zl r12.num : Nat) : Int), .string (zh r12.num), .bool (zs r12.num), .int .u64 ((lo (fe r12) : Nat) : Int), .string (hs (fe r12))] 79)) = x48 at hL0
  go_wp2_with fail
  with_reducible refine Calls.mono (H32.out _ _ (hL0.get _ _ List.mem_cons_self)) ?_
  rintro e x49 ⟨rfl, hb⟩
  replace hL0 := hL0.call hb
  clear hb hweq
  go_wp2_with fail
  with_reducible refine Calls.mono (H33.out _ (htab.below hL0.bl)) ?_
  rintro e x50 ⟨rfl, hb⟩
  replace hL0 := hL0.call hb
  clear hb
  replace hL0 := ((hL0.new rfl [.string (ByteArray.mk #[45, 54, 47, 52]), .string (ByteArray.mk #[49, 47, 48]), .string (ByteArray.mk #[49, 47, 45, 50]), .string (ByteArray.mk #[49, 47, 50, 47, 51]), .string (ByteArray.mk #[48, 47, 55]), .string ⟨#[]⟩, .string (ByteArray.mk #[49, 47])] 9).new (K := x50.heap.size + 1) (szA _ _) [.int .i64 0, .int .i64 5, .int .i64 4, .int .i64 4, .int .i64 0, .int .i64 4, .int .i64 4] 85)
  generalize hweq : ((x50.alloc (.cells #[.string (ByteArray.mk #[45, 54, 47, 52]), .string (ByteArray.mk #[49, 47, 48]), .string (ByteArray.mk #[49, 47, 45, 50]), .string (ByteArray.mk #[49, 47, 50, 47, 51]), .string (ByteArray.mk #[48, 47, 55]), .string ⟨#[]⟩, .string (ByteArray.mk #[49, 47])] 9)).alloc (.cells #[.int .i64 0, .int .i64 5, .int .i64 4, .int .i64 4, .int .i64 0, .int .i64 4, .int .i64 4] 85)) = x51 at hL0
  go_wp2_with fail
  clear hweq
  go_loopw [18] (fun z wr => ∃ i : Nat, i ≤ 7 ∧ z = .int .i64 (i : Int) ∧ GL w wr [(x50.heap.size + 1, [.int .i64 0, .int .i64 5, .int .i64 4, .int .i64 4, .int .i64 0, .int .i64 4, .int .i64 4]), (x50.heap.size, [.string (ByteArray.mk #[45, 54, 47, 52]), .string (ByteArray.mk #[49, 47, 48]), .string (ByteArray.mk #[49, 47, 45, 50]), .string (ByteArray.mk #[49, 47, 50, 47, 51]), .string (ByteArray.mk #[48, 47, 55]), .string ⟨#[]⟩, .string (ByteArray.mk #[49, 47])]), (x47.heap.size, [.int .u64 ((zl r11.num : Nat) : Int), .string (zh r11.num), .bool (zs r11.num), .int .u64 ((lo (fe r11) : Nat) : Int), .string (hs (fe r11)), .int .u64 ((zl r12.num : Nat) : Int), .string (zh r12.num), .bool (zs r12.num), .int .u64 ((lo (fe r12) : Nat) : Int), .string (hs (fe r12))]), (x36.heap.size, [.int .u64 ((zl r2.num : Nat) : Int), .string (zh r2.num), .bool (zs r2.num), .int .u64 ((lo (fe r2) : Nat) : Int), .string (hs (fe r2))]), (x33.heap.size, [.int .u64 0, .string ⟨#[]⟩, .bool false, .int .u64 0, .string ⟨#[]⟩]), (x31.heap.size, [.int .u64 ((zl r10.num : Nat) : Int), .string (zh r10.num), .bool (zs r10.num), .int .u64 ((lo (fe r10) : Nat) : Int), .string (hs (fe r10))]), (k14_8, [.int .u64 0, .string ⟨#[]⟩, .bool false, .int .u64 0, .string ⟨#[]⟩]), (x12.heap.size, [.int .u64 ((zl r5.num : Nat) : Int), .string (zh r5.num), .bool (zs r5.num), .int .u64 ((lo (fe r5) : Nat) : Int), .string (hs (fe r5))]), (x8.heap.size, [.int .u64 ((zl r2.num : Nat) : Int), .string (zh r2.num), .bool (zs r2.num), .int .u64 ((lo (fe r2) : Nat) : Int), .string (hs (fe r2))]), (x5.heap.size, [.int .u64 0, .string ⟨#[]⟩, .bool false, .int .u64 0, .string ⟨#[]⟩]), (x2.heap.size + 1, [.int .u64 0, .string ⟨#[]⟩, .bool false, .int .u64 0, .string ⟨#[]⟩]), (x2.heap.size, [.int .u64 ((zl r1.num : Nat) : Int), .string (zh r1.num), .bool (zs r1.num), .int .u64 ((lo (fe r1) : Nat) : Int), .string (hs (fe r1))])]) (fun z _ => 7 - (intOf z).toNat)
  case atStart => exact ⟨0, by omega, rfl, hL0⟩
  case round =>
    clear hL0
    obtain ⟨i, hi, rfl, hL0⟩ := hrel
    rcases (show i = 0 ∨ i = 1 ∨ i = 2 ∨ i = 3 ∨ i = 4 ∨ i = 5 ∨ i = 6 ∨ i = 7 by omega) with rfl | rfl | rfl | rfl | rfl | rfl | rfl | rfl
    all_goals clear hi
    · skip
      have hN0 := cells_of _ 0 [] rfl (hL0.get _ _ (List.mem_cons_of_mem _ List.mem_cons_self))
      simp only [cellsF, and_true, Nat.zero_add, Nat.reduceAdd] at hN0
      go_wp2_with fail
      clear hN0
      with_reducible refine Calls.mono (P0.out _ (hKM.out.at hL0.bl kKM)) ?_
      rintro e x52 ⟨rfl, hb⟩
      replace hL0 := hL0.call hb
      clear hb
      replace hL0 := (hL0.new rfl [.int .u64 ((zl r1.num : Nat) : Int), .string (zh r1.num), .bool (zs r1.num), .int .u64 ((lo (fe r1) : Nat) : Int), .string (hs (fe r1))] 79)
      generalize hweq : (x52.alloc (.cells #[.int .u64 ((zl r1.num : Nat) : Int), .string (zh r1.num), .bool (zs r1.num), .int .u64 ((lo (fe r1) : Nat) : Int), .string (hs (fe r1))] 79)) = x53 at hL0
      have hN0 := cells_of _ 0 [] rfl (hL0.get _ _ List.mem_cons_self)
      simp only [cellsF, and_true, Nat.zero_add, Nat.reduceAdd] at hN0
      have hN1 := cells_of _ 0 [] rfl (hL0.get _ _ (List.mem_cons_of_mem _ List.mem_cons_self))
      simp only [cellsF, and_true, Nat.zero_add, Nat.reduceAdd] at hN1
      have hN2 := cells_of _ 0 [] rfl (hL0.get _ _ (List.mem_cons_of_mem _ (List.mem_cons_of_mem _ (List.mem_cons_of_mem _ (List.mem_cons_of_mem _ (List.mem_cons_of_mem _ (List.mem_cons_of_mem _ (List.mem_cons_of_mem _ (List.mem_cons_of_mem _ (List.mem_cons_of_mem _ (List.mem_cons_of_mem _ (List.mem_cons_of_mem _ (List.mem_cons_of_mem _ List.mem_cons_self)))))))))))))
      simp only [cellsF, and_true, Nat.zero_add, Nat.reduceAdd] at hN2
      go_wp2_with fail
      go_roundw
      case rel => exact ⟨0 + 1, by omega, by first | rfl | go_num, hL0.weak (List.Sublist.cons _ (List.Sublist.refl _))⟩
      case measure => simp [intOf]
    · skip
      have hN0 := cells_of _ 0 [] rfl (hL0.get _ _ (List.mem_cons_of_mem _ List.mem_cons_self))
      simp only [cellsF, and_true, Nat.zero_add, Nat.reduceAdd] at hN0
      go_wp2_with fail
      clear hN0
      with_reducible refine Calls.mono (P1.out _ (hKM.out.at hL0.bl kKM)) ?_
      rintro e x54 ⟨rfl, hb⟩
      replace hL0 := hL0.call hb
      clear hb
      replace hL0 := (hL0.new rfl [.int .u64 0, .string ⟨#[]⟩, .bool false, .int .u64 0, .string ⟨#[]⟩] 79)
      generalize hweq : (x54.alloc (.cells #[.int .u64 0, .string ⟨#[]⟩, .bool false, .int .u64 0, .string ⟨#[]⟩] 79)) = x55 at hL0
      have hA := hL0.fc
      simp only [fcG, cellsF, neK, and_true, ne_eq, Nat.zero_add, Nat.reduceAdd] at hA
      have hP := hL0.put 0 (x54.heap.size) _ rfl [.int .u64 0, .string ⟨#[]⟩, .bool false, .int .u64 0, .string ⟨#[]⟩] rfl
      simp only [setAll, List.set_cons_zero, List.set_cons_succ] at hP
      generalize hput4 : (((((x55.setCell ⟨x54.heap.size, 0, none⟩ (.int .u64 0)).setCell ⟨x54.heap.size, 1, none⟩ (.string ⟨#[]⟩)).setCell ⟨x54.heap.size, 2, none⟩ (.bool false)).setCell ⟨x54.heap.size, 3, none⟩ (.int .u64 0)).setCell ⟨x54.heap.size, 4, none⟩ (.string ⟨#[]⟩)) = x56 at hP
      have hB4 := hP.fc
      simp only [fcG, cellsF, neK, and_true, ne_eq, Nat.zero_add, Nat.reduceAdd] at hB4
      replace hL0 := hP
      go_wp2_with fail
      go_roundw
      case rel => exact ⟨1 + 1, by omega, by first | rfl | go_num, hL0.weak (List.Sublist.cons _ (List.Sublist.refl _))⟩
      case measure => simp [intOf]
    · skip
      have hN0 := cells_of _ 0 [] rfl (hL0.get _ _ (List.mem_cons_of_mem _ List.mem_cons_self))
      simp only [cellsF, and_true, Nat.zero_add, Nat.reduceAdd] at hN0
      go_wp2_with fail
      clear hN0
      with_reducible refine Calls.mono (P2.out _ (hKM.out.at hL0.bl kKM)) ?_
      rintro e x57 ⟨rfl, hb⟩
      replace hL0 := hL0.call hb
      clear hb
      replace hL0 := (hL0.new rfl [.int .u64 0, .string ⟨#[]⟩, .bool false, .int .u64 0, .string ⟨#[]⟩] 79)
      generalize hweq : (x57.alloc (.cells #[.int .u64 0, .string ⟨#[]⟩, .bool false, .int .u64 0, .string ⟨#[]⟩] 79)) = x58 at hL0
      have hA := hL0.fc
      simp only [fcG, cellsF, neK, and_true, ne_eq, Nat.zero_add, Nat.reduceAdd] at hA
      have hP := hL0.put 0 (x57.heap.size) _ rfl [.int .u64 0, .string ⟨#[]⟩, .bool false, .int .u64 0, .string ⟨#[]⟩] rfl
      simp only [setAll, List.set_cons_zero, List.set_cons_succ] at hP
      generalize hput5 : (((((x58.setCell ⟨x57.heap.size, 0, none⟩ (.int .u64 0)).setCell ⟨x57.heap.size, 1, none⟩ (.string ⟨#[]⟩)).setCell ⟨x57.heap.size, 2, none⟩ (.bool false)).setCell ⟨x57.heap.size, 3, none⟩ (.int .u64 0)).setCell ⟨x57.heap.size, 4, none⟩ (.string ⟨#[]⟩)) = x59 at hP
      have hB5 := hP.fc
      simp only [fcG, cellsF, neK, and_true, ne_eq, Nat.zero_add, Nat.reduceAdd] at hB5
      replace hL0 := hP
      go_wp2_with fail
      go_roundw
      case rel => exact ⟨2 + 1, by omega, by first | rfl | go_num, hL0.weak (List.Sublist.cons _ (List.Sublist.refl _))⟩
      case measure => simp [intOf]
    · skip
      have hN0 := cells_of _ 0 [] rfl (hL0.get _ _ (List.mem_cons_of_mem _ List.mem_cons_self))
      simp only [cellsF, and_true, Nat.zero_add, Nat.reduceAdd] at hN0
      go_wp2_with fail
      clear hN0
      with_reducible refine Calls.mono (P3.out _ (hKM.out.at hL0.bl kKM)) ?_
      rintro e x60 ⟨rfl, hb⟩
      replace hL0 := hL0.call hb
      clear hb
      replace hL0 := (hL0.new rfl [.int .u64 0, .string ⟨#[]⟩, .bool false, .int .u64 0, .string ⟨#[]⟩] 79)
      generalize hweq : (x60.alloc (.cells #[.int .u64 0, .string ⟨#[]⟩, .bool false, .int .u64 0, .string ⟨#[]⟩] 79)) = x61 at hL0
      have hA := hL0.fc
      simp only [fcG, cellsF, neK, and_true, ne_eq, Nat.zero_add, Nat.reduceAdd] at hA
      have hP := hL0.put 0 (x60.heap.size) _ rfl [.int .u64 0, .string ⟨#[]⟩, .bool false, .int .u64 0, .string ⟨#[]⟩] rfl
      simp only [setAll, List.set_cons_zero, List.set_cons_succ] at hP
      generalize hput6 : (((((x61.setCell ⟨x60.heap.size, 0, none⟩ (.int .u64 0)).setCell ⟨x60.heap.size, 1, none⟩ (.string ⟨#[]⟩)).setCell ⟨x60.heap.size, 2, none⟩ (.bool false)).setCell ⟨x60.heap.size, 3, none⟩ (.int .u64 0)).setCell ⟨x60.heap.size, 4, none⟩ (.string ⟨#[]⟩)) = x62 at hP
      have hB6 := hP.fc
      simp only [fcG, cellsF, neK, and_true, ne_eq, Nat.zero_add, Nat.reduceAdd] at hB6
      replace hL0 := hP
      go_wp2_with fail
      go_roundw
      case rel => exact ⟨3 + 1, by omega, by first | rfl | go_num, hL0.weak (List.Sublist.cons _ (List.Sublist.refl _))⟩
      case measure => simp [intOf]
    · skip
      have hN0 := cells_of _ 0 [] rfl (hL0.get _ _ (List.mem_cons_of_mem _ List.mem_cons_self))
      simp only [cellsF, and_true, Nat.zero_add, Nat.reduceAdd] at hN0
      go_wp2_with fail
      clear hN0
      with_reducible refine Calls.mono (P4.out _ (hKM.out.at hL0.bl kKM)) ?_
      rintro e x63 ⟨rfl, hb⟩
      replace hL0 := hL0.call hb
      clear hb
      replace hL0 := (hL0.new rfl [.int .u64 0, .string ⟨#[]⟩, .bool false, .int .u64 0, .string ⟨#[]⟩] 79)
      generalize hweq : (x63.alloc (.cells #[.int .u64 0, .string ⟨#[]⟩, .bool false, .int .u64 0, .string ⟨#[]⟩] 79)) = x64 at hL0
      have hA := hL0.fc
      simp only [fcG, cellsF, neK, and_true, ne_eq, Nat.zero_add, Nat.reduceAdd] at hA
      have hP := hL0.put 0 (x63.heap.size) _ rfl [.int .u64 0, .string ⟨#[]⟩, .bool false, .int .u64 0, .string ⟨#[]⟩] rfl
      simp only [setAll, List.set_cons_zero, List.set_cons_succ] at hP
      generalize hput7 : (((((x64.setCell ⟨x63.heap.size, 0, none⟩ (.int .u64 0)).setCell ⟨x63.heap.size, 1, none⟩ (.string ⟨#[]⟩)).setCell ⟨x63.heap.size, 2, none⟩ (.bool false)).setCell ⟨x63.heap.size, 3, none⟩ (.int .u64 0)).setCell ⟨x63.heap.size, 4, none⟩ (.string ⟨#[]⟩)) = x65 at hP
      have hB7 := hP.fc
      simp only [fcG, cellsF, neK, and_true, ne_eq, Nat.zero_add, Nat.reduceAdd] at hB7
      replace hL0 := hP
      go_wp2_with fail
      go_roundw
      case rel => exact ⟨4 + 1, by omega, by first | rfl | go_num, hL0.weak (List.Sublist.cons _ (List.Sublist.refl _))⟩
      case measure => simp [intOf]
    · skip
      have hN0 := cells_of _ 0 [] rfl (hL0.get _ _ (List.mem_cons_of_mem _ List.mem_cons_self))
      simp only [cellsF, and_true, Nat.zero_add, Nat.reduceAdd] at hN0
      go_wp2_with fail
      clear hN0
      with_reducible refine Calls.mono (P5.out _ (hKM.out.at hL0.bl kKM)) ?_
      rintro e x66 ⟨rfl, hb⟩
      replace hL0 := hL0.call hb
      clear hb
      replace hL0 := (hL0.new rfl [.int .u64 0, .string ⟨#[]⟩, .bool false, .int .u64 0, .string ⟨#[]⟩] 79)
      generalize hweq : (x66.alloc (.cells #[.int .u64 0, .string ⟨#[]⟩, .bool false, .int .u64 0, .string ⟨#[]⟩] 79)) = x67 at hL0
      have hA := hL0.fc
      simp only [fcG, cellsF, neK, and_true, ne_eq, Nat.zero_add, Nat.reduceAdd] at hA
      have hP := hL0.put 0 (x66.heap.size) _ rfl [.int .u64 0, .string ⟨#[]⟩, .bool false, .int .u64 0, .string ⟨#[]⟩] rfl
      simp only [setAll, List.set_cons_zero, List.set_cons_succ] at hP
      generalize hput8 : (((((x67.setCell ⟨x66.heap.size, 0, none⟩ (.int .u64 0)).setCell ⟨x66.heap.size, 1, none⟩ (.string ⟨#[]⟩)).setCell ⟨x66.heap.size, 2, none⟩ (.bool false)).setCell ⟨x66.heap.size, 3, none⟩ (.int .u64 0)).setCell ⟨x66.heap.size, 4, none⟩ (.string ⟨#[]⟩)) = x68 at hP
      have hB8 := hP.fc
      simp only [fcG, cellsF, neK, and_true, ne_eq, Nat.zero_add, Nat.reduceAdd] at hB8
      replace hL0 := hP
      go_wp2_with fail
      go_roundw
      case rel => exact ⟨5 + 1, by omega, by first | rfl | go_num, hL0.weak (List.Sublist.cons _ (List.Sublist.refl _))⟩
      case measure => simp [intOf]
    · skip
      have hN0 := cells_of _ 0 [] rfl (hL0.get _ _ (List.mem_cons_of_mem _ List.mem_cons_self))
      simp only [cellsF, and_true, Nat.zero_add, Nat.reduceAdd] at hN0
      go_wp2_with fail
      clear hN0
      with_reducible refine Calls.mono (P6.out _ (hKM.out.at hL0.bl kKM)) ?_
      rintro e x69 ⟨rfl, hb⟩
      replace hL0 := hL0.call hb
      clear hb
      replace hL0 := (hL0.new rfl [.int .u64 0, .string ⟨#[]⟩, .bool false, .int .u64 0, .string ⟨#[]⟩] 79)
      generalize hweq : (x69.alloc (.cells #[.int .u64 0, .string ⟨#[]⟩, .bool false, .int .u64 0, .string ⟨#[]⟩] 79)) = x70 at hL0
      have hA := hL0.fc
      simp only [fcG, cellsF, neK, and_true, ne_eq, Nat.zero_add, Nat.reduceAdd] at hA
      have hP := hL0.put 0 (x69.heap.size) _ rfl [.int .u64 0, .string ⟨#[]⟩, .bool false, .int .u64 0, .string ⟨#[]⟩] rfl
      simp only [setAll, List.set_cons_zero, List.set_cons_succ] at hP
      generalize hput9 : (((((x70.setCell ⟨x69.heap.size, 0, none⟩ (.int .u64 0)).setCell ⟨x69.heap.size, 1, none⟩ (.string ⟨#[]⟩)).setCell ⟨x69.heap.size, 2, none⟩ (.bool false)).setCell ⟨x69.heap.size, 3, none⟩ (.int .u64 0)).setCell ⟨x69.heap.size, 4, none⟩ (.string ⟨#[]⟩)) = x71 at hP
      have hB9 := hP.fc
      simp only [fcG, cellsF, neK, and_true, ne_eq, Nat.zero_add, Nat.reduceAdd] at hB9
      replace hL0 := hP
      go_wp2_with fail
      go_roundw
      case rel => exact ⟨6 + 1, by omega, by first | rfl | go_num, hL0.weak (List.Sublist.cons _ (List.Sublist.refl _))⟩
      case measure => simp [intOf]
    · skip
      go_wp2_with fail
      exact bodyPost_ret (v := .bool true) (by simp [results, Tryz.results57, go_sem]) rfl ⟨rfl, hL0.bl⟩

theorem fworks_any (w : World) (htab : Tab w) (hm : MaxL w) : Calls Tryz.prog 57 #[] w fun xe w' => xe = .returned (.bool true) ∧ Below w.heap.size w w' := by
  have H1t := fun w => ofF (6) (-4) (by decide) (by decide) (by decide) (by decide) (by decide) w
  rw [show (((6 : Int)) : Rat) / (((-4 : Int)) : Rat) = (mkRat (-3) 2) from by decide +kernel] at H1t
  have H1 := fun w => lof_w _ _ _ _ _ H1t w
  have H2t := fun w => ofF (0) (-5) (by decide) (by decide) (by decide) (by decide) (by decide) w
  rw [show (((0 : Int)) : Rat) / (((-5 : Int)) : Rat) = (0 : Rat) from by decide +kernel] at H2t
  rw [frV_q0] at H2t
  have H2 := fun w => lof_0 _ _ _ H2t w
  have H3 := fun w => of0F (1) (by decide) (by decide) w
  try rw [frV_q0] at H3
  have H4t := fun w => ofF (-9223372036854775808) (-9223372036854775808) (by decide) (by decide) (by decide) (by decide) (by decide) w
  rw [show (((-9223372036854775808 : Int)) : Rat) / (((-9223372036854775808 : Int)) : Rat) = ((1 : Int) : Rat) from by decide +kernel] at H4t
  have H4 := fun w => lof_w _ _ _ _ _ H4t w
  have H5t := fun w => ofF (1) (2) (by decide) (by decide) (by decide) (by decide) (by decide) w
  rw [show (((1 : Int)) : Rat) / (((2 : Int)) : Rat) = (mkRat (1) 2) from by decide +kernel] at H5t
  have H5 := fun w => lof_w _ _ _ _ _ H5t w
  have H6t := fun w => ofF (-1) (4) (by decide) (by decide) (by decide) (by decide) (by decide) w
  rw [show (((-1 : Int)) : Rat) / (((4 : Int)) : Rat) = (mkRat (-1) 4) from by decide +kernel] at H6t
  have H6 := fun w => lof_w _ _ _ _ _ H6t w
  have H7 := fun w => divF (mkRat (1) 2) (mkRat (-1) 4) 1 ((szc (mkRat (1) 2) (by decide +kernel) (by decide +kernel)).mono (by omega)) ((szc (mkRat (-1) 4) (by decide +kernel) (by decide +kernel)).mono (by omega)) (by omega) (by decide +kernel) w
  rw [show ((mkRat (1) 2) / (mkRat (-1) 4)) = ((-2 : Int) : Rat) from by decide +kernel] at H7
  have H8 := fun w => intF (1) (by decide) (by decide) w
  have H9 := fun w => div0F ((1 : Int) : Rat) w
  try rw [frV_q0] at H9
  have H10t := fun w h => textF (mkRat (-3) 2) 1 (szc (mkRat (-3) 2) (by decide +kernel) (by decide +kernel)) (by omega) w h
  rw [show qtxt (mkRat (-3) 2) = (ByteArray.mk #[45, 51, 47, 50]) from qt_n3_2] at H10t
  have H10 := fun w h => ltext_true _ _ _ H10t w h
  have H11t := fun w h => textF ((1 : Int) : Rat) 1 (szc ((1 : Int) : Rat) (by decide +kernel) (by decide +kernel)) (by omega) w h
  rw [show qtxt ((1 : Int) : Rat) = (ByteArray.mk #[49]) from qt_1] at H11t
  have H11 := fun w h => ltext_true _ _ _ H11t w h
  have H12t := fun w => ofF (1) (3) (by decide) (by decide) (by decide) (by decide) (by decide) w
  rw [show (((1 : Int)) : Rat) / (((3 : Int)) : Rat) = (mkRat (1) 3) from by decide +kernel] at H12t
  have H12 := fun w => lof_w _ _ _ _ _ H12t w
  have H13 := fun w => addF (mkRat (1) 2) (mkRat (1) 3) 1 ((szc (mkRat (1) 2) (by decide +kernel) (by decide +kernel)).mono (by omega)) ((szc (mkRat (1) 3) (by decide +kernel) (by decide +kernel)).mono (by omega)) (by omega) w
  rw [show ((mkRat (1) 2) + (mkRat (1) 3)) = (mkRat (5) 6) from by decide +kernel] at H13
  have H14t := fun w h => textF (mkRat (5) 6) 1 (szc (mkRat (5) 6) (by decide +kernel) (by decide +kernel)) (by omega) w h
  rw [show qtxt (mkRat (5) 6) = (ByteArray.mk #[53, 47, 54]) from qt_5_6] at H14t
  have H14 := fun w h => ltext_true _ _ _ H14t w h
  have H15 := fun w => subF (mkRat (1) 2) (mkRat (1) 2) 1 ((szc (mkRat (1) 2) (by decide +kernel) (by decide +kernel)).mono (by omega)) ((szc (mkRat (1) 2) (by decide +kernel) (by decide +kernel)).mono (by omega)) (by omega) w
  rw [show ((mkRat (1) 2) - (mkRat (1) 2)) = (0 : Rat) from by decide +kernel] at H15
  try rw [frV_q0] at H15
  have H16t := fun w h => textF (0 : Rat) 1 (szc 0 (by decide) (by decide)) (by omega) w h
  rw [show qtxt (0 : Rat) = (ByteArray.mk #[48]) from qt_0] at H16t
  rw [frV_q0] at H16t
  have H16 := fun w h => ltext_0 _ H16t w h
  have H17t := fun w => ofF (2) (3) (by decide) (by decide) (by decide) (by decide) (by decide) w
  rw [show (((2 : Int)) : Rat) / (((3 : Int)) : Rat) = (mkRat (2) 3) from by decide +kernel] at H17t
  have H17 := fun w => lof_w _ _ _ _ _ H17t w
  have H18t := fun w => ofF (3) (2) (by decide) (by decide) (by decide) (by decide) (by decide) w
  rw [show (((3 : Int)) : Rat) / (((2 : Int)) : Rat) = (mkRat (3) 2) from by decide +kernel] at H18t
  have H18 := fun w => lof_w _ _ _ _ _ H18t w
  have H19 := fun w => mulF (mkRat (2) 3) (mkRat (3) 2) 1 ((szc (mkRat (2) 3) (by decide +kernel) (by decide +kernel)).mono (by omega)) ((szc (mkRat (3) 2) (by decide +kernel) (by decide +kernel)).mono (by omega)) (by omega) w
  rw [show ((mkRat (2) 3) * (mkRat (3) 2)) = ((1 : Int) : Rat) from by decide +kernel] at H19
  have H20t := fun w h => textF ((-2 : Int) : Rat) 1 (szc ((-2 : Int) : Rat) (by decide +kernel) (by decide +kernel)) (by omega) w h
  rw [show qtxt ((-2 : Int) : Rat) = (ByteArray.mk #[45, 50]) from qt_n2] at H20t
  have H20 := fun w h => ltext_true _ _ _ H20t w h
  have H21t := fun w => powerF (mkRat (2) 3)⁻¹ 2 (by decide) (.inr (by decide +kernel)) (.inr (by decide +kernel)) 1 (Sz.inv (szc (mkRat (2) 3) (by decide +kernel) (by decide +kernel)) (by decide +kernel)) (by omega) w
  rw [show ((mkRat (2) 3)⁻¹) ^ (2 : Nat) = (mkRat (9) 4) from by decide +kernel] at H21t
  have H21 := fun w => powF_neg (mkRat (2) 3) (by decide +kernel) (-2) 2 (by decide) (by decide) (by decide) _ _ H21t w
  have H22 := fun w => powF_zero (-1) (by decide) (by decide) w
  rw [frV_q0] at H22
  have H23t := fun w => powerF (0 : Rat) 0 (by decide) (.inl rfl) (.inl rfl) 1 (szc 0 (by decide) (by decide)) (by omega) w
  rw [show (0 : Rat) ^ (0 : Nat) = ((1 : Int) : Rat) from by decide +kernel] at H23t
  have H23 := fun w => powF_pos (0 : Rat) 0 (by decide) _ _ H23t w
  try rw [frV_q0] at H23
  try rw [show ((((0) : Nat)) : Int) = 0 from rfl] at H23
  have H24 := fun w => floorF (mkRat (-3) 2) 1 (szc (mkRat (-3) 2) (by decide +kernel) (by decide +kernel)) (by omega) w
  rw [show ((mkRat (-3) 2)).floor = -2 from by decide +kernel] at H24
  have H25 := fun w h => textI (-2 : Int) (Nat.le_trans (dI_lit (by decide)) (by omega)) w h
  rw [show ztxt (-2 : Int) = (ByteArray.mk #[45, 50]) from zt_n2] at H25
  have H26 := fun w => ceilF (mkRat (-3) 2) 1 (szc (mkRat (-3) 2) (by decide +kernel) (by decide +kernel)) (by omega) w
  rw [show rceil (mkRat (-3) 2) = -1 from by decide +kernel] at H26
  have H27 := fun w h => textI (-1 : Int) (Nat.le_trans (dI_lit (by decide)) (by omega)) w h
  rw [show ztxt (-1 : Int) = (ByteArray.mk #[45, 49]) from zt_n1] at H27
  have H28t := fun w h => textF (mkRat (9) 4) 1 (szc (mkRat (9) 4) (by decide +kernel) (by decide +kernel)) (by omega) w h
  rw [show qtxt (mkRat (9) 4) = (ByteArray.mk #[57, 47, 52]) from qt_9_4] at H28t
  have H28 := fun w h => ltext_true _ _ _ H28t w h
  have H29 := fun w => max_nil w
  have H30 := fun w => intF (-1) (by decide) (by decide) w
  have H31t := fun w => ofF (-1) (2) (by decide) (by decide) (by decide) (by decide) (by decide) w
  rw [show (((-1 : Int)) : Rat) / (((2 : Int)) : Rat) = (mkRat (-1) 2) from by decide +kernel] at H31t
  have H31 := fun w => lof_w _ _ _ _ _ H31t w
  have H32 := fun g w h => max_two ((-1 : Int) : Rat) (mkRat (-1) 2) (mkRat (-1) 2) (szc ((-1 : Int) : Rat) (by decide +kernel) (by decide +kernel)) (szc (mkRat (-1) 2) (by decide +kernel) (by decide +kernel)) (by decide +kernel) g w h
  have H33t := fun w h => textF (mkRat (-1) 2) 1 (szc (mkRat (-1) 2) (by decide +kernel) (by decide +kernel)) (by omega) w h
  rw [show qtxt (mkRat (-1) 2) = (ByteArray.mk #[45, 49, 47, 50]) from qt_n1_2] at H33t
  have H33 := fun w h => ltext_true _ _ _ H33t w h
  exact fworks_w (mkRat (-3) 2) ((1 : Int) : Rat) (mkRat (1) 2) (mkRat (-1) 4) ((-2 : Int) : Rat) (mkRat (1) 3) (mkRat (5) 6) (mkRat (2) 3) (mkRat (3) 2) (mkRat (9) 4) (-2 : Int) (-1 : Int) ((-1 : Int) : Rat) (mkRat (-1) 2) _ MaxL.keeps parse_w0 parse_w1 parse_w2 parse_w3 parse_w4 parse_w5 parse_w6 H1 H2 H3 H4 H5 H6 H7 H8 H9 H10 H11 H12 H13 H14 H15 H16 H17 H18 H19 H20 H21 H22 H23 H24 H25 H26 H27 H28 H29 H30 H31 H32 H33 w htab hm
end Go.Proofs.YtecdnohhengfaaaGreatDoor

/-
  Layer 3, the law package: few.
-/
namespace Go.Proofs.YtecdnohhengfaaaGreatDoor
open Go.RowKit
attribute [local irreducible] lo hs zl zh zs

/-- few: its slice's structs. -/
structure GW (w : World) (g n : Nat) (len len2 : Nat → Nat) : Prop where
  cell : ∀ i, i < n → ∃ a c, w.cell? ⟨g, i * 3 + 1, none⟩ = some (.slice a (len i) c)
  cell2 : ∀ i, i < n → ∃ a c, w.cell? ⟨g, i * 3 + 2, none⟩ = some (.slice a (len2 i) c)
  lt : n ≤ 1000
set_option maxHeartbeats 4000000 in
set_option maxRecDepth 100000 in
theorem gfew_yes (most : Nat) (g n c : Nat) (len len2 : Nat → Nat) (w : World) (hF : GW w g n len len2) (hn : 0 < n) (hm : most < 1000) (h : ∀ i, i < n → len i ≤ most ∧ len2 i ≤ most) :
    Calls Tryz.prog 56 #[.int .i64 (most : Int), .slice (some ⟨g, 0, none⟩) n c] w fun e w' => e = .returned (.bool true) ∧ w' = w := by
  have hlt := hF.lt
  have hc := Lib.hid hF.cell
  have hd := Lib.hid hF.cell2
  have h := Lib.hid h
  clear hF
  go_enter Tryz.func56, Tryz.ntmps56
  go_wp2_with fail
  go_loopw [5] (fun z wr => ∃ i : Nat, i ≤ n ∧ z = .int .i64 (i : Int) ∧ wr = w) (fun z _ => n - (intOf z).toNat)
  case atStart => exact ⟨0, Nat.zero_le _, rfl, rfl⟩
  case round =>
    obtain ⟨i, hi, rfl, rfl⟩ := hrel
    rcases Nat.lt_or_ge i n with hin | hin
    · obtain ⟨a, c1, hci⟩ := hc.out i hin
      obtain ⟨a2, c2, hdi⟩ := hd.out i hin
      obtain ⟨hle, hle2⟩ := h.out i hin
      have k1 : (i : Int) < (n : Int) := by omega
      have k2 : decide ((i : Int) < (n : Int)) = true := decide_eq_true k1
      have k3 : decide ((most : Int) < (len i : Int)) = false := decide_eq_false (by omega)
      have k4 : decide ((most : Int) < (len2 i : Int)) = false := decide_eq_false (by omega)
      generalize len i = m at *
      generalize len2 i = m2 at *
      go_wp2_with fail
      go_roundw
      case rel => exact ⟨i + 1, by omega, by first | rfl | go_num, by first | trivial | rfl⟩
      case measure => simp [intOf]; omega
    · obtain rfl : i = n := by omega
      have k2 : decide ((i : Int) < (i : Int)) = false := decide_eq_false (by omega)
      go_wp2_with fail
      go_ret
      exact ⟨rfl, rfl⟩

set_option maxHeartbeats 4000000 in
set_option maxRecDepth 100000 in
theorem gfew_no (most : Nat) (g n c k : Nat) (len len2 : Nat → Nat) (w : World) (hF : GW w g n len len2) (hk : k < n) (hm : most < 1000) (h : ∀ i, i < k → len i ≤ most ∧ len2 i ≤ most) (hg : most < len k ∨ len k ≤ most ∧ most < len2 k) :
    Calls Tryz.prog 56 #[.int .i64 (most : Int), .slice (some ⟨g, 0, none⟩) n c] w fun e w' => e = .returned (.bool false) ∧ w' = w := by
  have hlt := hF.lt
  have hc := Lib.hid hF.cell
  have hd := Lib.hid hF.cell2
  have h := Lib.hid h
  replace hg := Lib.hid hg
  clear hF
  go_enter Tryz.func56, Tryz.ntmps56
  go_wp2_with fail
  go_loopw [5] (fun z wr => ∃ i : Nat, i ≤ k ∧ z = .int .i64 (i : Int) ∧ wr = w) (fun z _ => n - (intOf z).toNat)
  case atStart => exact ⟨0, Nat.zero_le _, rfl, rfl⟩
  case round =>
    obtain ⟨i, hi, rfl, rfl⟩ := hrel
    have hin : i < n := by omega
    obtain ⟨a, c1, hci⟩ := hc.out i hin
    obtain ⟨a2, c2, hdi⟩ := hd.out i hin
    have k1 : (i : Int) < (n : Int) := by omega
    have k2 : decide ((i : Int) < (n : Int)) = true := decide_eq_true k1
    rcases Nat.lt_or_ge i k with hik | hik
    · obtain ⟨hle, hle2⟩ := h.out i hik
      have k3 : decide ((most : Int) < (len i : Int)) = false := decide_eq_false (by omega)
      have k4 : decide ((most : Int) < (len2 i : Int)) = false := decide_eq_false (by omega)
      generalize len i = m at *
      generalize len2 i = m2 at *
      go_wp2_with fail
      go_roundw
      case rel => exact ⟨i + 1, by omega, by first | rfl | go_num, by first | trivial | rfl⟩
      case measure => simp [intOf]; omega
    · obtain rfl : i = k := by omega
      rcases hg.out with hg1 | ⟨hg1, hg2⟩
      · have k3 : decide ((most : Int) < (len i : Int)) = true := decide_eq_true (by omega)
        generalize len i = m at *
        go_wp2_with fail
        go_ret
        exact ⟨rfl, rfl⟩
      · have k3 : decide ((most : Int) < (len i : Int)) = false := decide_eq_false (by omega)
        have k4 : decide ((most : Int) < (len2 i : Int)) = true := decide_eq_true (by omega)
        generalize len i = m at *
        generalize len2 i = m2 at *
        go_wp2_with fail
        go_ret
        exact ⟨rfl, rfl⟩

theorem gfew_any (z : Int) (most : Nat) (hz : z = (most : Int)) (g n c : Nat) (len len2 : Nat → Nat) (w : World) (hF : GW w g n len len2) (hn : 0 < n) (hm : most < 1000) (B : Bool) (hB : B = true ↔ ∀ i, i < n → len i ≤ most ∧ len2 i ≤ most) :
    Calls Tryz.prog 56 #[.int .i64 z, .slice (some ⟨g, 0, none⟩) n c] w fun e w' => e = .returned (.bool B) ∧ w' = w := by
  subst hz
  by_cases h : ∀ i, i < n → len i ≤ most ∧ len2 i ≤ most
  · rw [hB.2 h]; exact gfew_yes most g n c len len2 w hF hn hm h
  · have hf : B = false := Bool.eq_false_iff.2 fun e => h (hB.1 e)
    rw [hf]
    have ex : ∃ k, k < n ∧ ¬ (len k ≤ most ∧ len2 k ≤ most) := Classical.byContradiction fun hc => h fun i hi => Classical.byContradiction fun hh => hc ⟨i, hi, hh⟩
    have key : ∀ m k, k ≤ m → k < n → ¬ (len k ≤ most ∧ len2 k ≤ most) → ∃ k, k < n ∧ ¬ (len k ≤ most ∧ len2 k ≤ most) ∧ ∀ i, i < k → len i ≤ most ∧ len2 i ≤ most := by
      intro m
      induction m with
      | zero => intro k hk h1 h2; exact ⟨k, h1, h2, fun i hi => by omega⟩
      | succ m ih =>
        intro k hk h1 h2
        by_cases hx : ∀ i, i < k → len i ≤ most ∧ len2 i ≤ most
        · exact ⟨k, h1, h2, hx⟩
        · have : ∃ i, i < k ∧ ¬ (len i ≤ most ∧ len2 i ≤ most) := Classical.byContradiction fun hc => hx fun i hi => Classical.byContradiction fun hh => hc ⟨i, hi, hh⟩
          obtain ⟨i, hi, hl⟩ := this
          exact ih i (by omega) (by omega) hl
    obtain ⟨k, h1, h2⟩ := ex
    obtain ⟨k, h1, h2, h3⟩ := key k k (Nat.le_refl _) h1 h2
    exact gfew_no most g n c k len len2 w hF h1 hm h3 (by omega)
theorem gfew1 (z : Int) (most : Nat) (hz : z = (most : Int)) (hm : most < 1000) {w : World} {g : Nat} {s0 : Bool} {a0 b0 : Option Addr} {n0 c0 m0 d0 : Nat} (h : Hd w g [.bool s0, .slice a0 n0 c0, .slice b0 m0 d0]) :
    Calls Tryz.prog 56 #[.int .i64 z, .slice (some ⟨g, 0, none⟩) 1 1] w fun e w' => e = .returned (.bool (decide (n0 ≤ most ∧ m0 ≤ most))) ∧ w' = w :=
  gfew_any z most hz g 1 1 (fun _ => n0) (fun _ => m0) w
    ⟨fun i hi => ⟨a0, c0, by
      obtain rfl : i = 0 := by omega
      exact h.cell 1 (by simp)⟩, fun i hi => ⟨b0, d0, by
      obtain rfl : i = 0 := by omega
      exact h.cell 2 (by simp)⟩, by omega⟩ (by omega) hm _ ⟨fun hb i hi => of_decide_eq_true hb, fun hb => decide_eq_true (hb 0 (by omega))⟩
theorem gfew2 (z : Int) (most : Nat) (hz : z = (most : Int)) (hm : most < 1000) {w : World} {g : Nat} {s0 s1 : Bool} {a0 b0 a1 b1 : Option Addr} {n0 c0 m0 d0 n1 c1 m1 d1 : Nat} (h : Hd w g [.bool s0, .slice a0 n0 c0, .slice b0 m0 d0, .bool s1, .slice a1 n1 c1, .slice b1 m1 d1]) :
    Calls Tryz.prog 56 #[.int .i64 z, .slice (some ⟨g, 0, none⟩) 2 2] w fun e w' => e = .returned (.bool (decide (n0 ≤ most ∧ m0 ≤ most ∧ n1 ≤ most ∧ m1 ≤ most))) ∧ w' = w :=
  gfew_any z most hz g 2 2 (fun i => if i = 0 then n0 else n1) (fun i => if i = 0 then m0 else m1) w
    ⟨fun i hi => by
      rcases (show i = 0 ∨ i = 1 by omega) with rfl | rfl
      · exact ⟨a0, c0, h.cell 1 (by simp)⟩
      · exact ⟨a1, c1, h.cell 4 (by simp)⟩, fun i hi => by
      rcases (show i = 0 ∨ i = 1 by omega) with rfl | rfl
      · exact ⟨b0, d0, h.cell 2 (by simp)⟩
      · exact ⟨b1, d1, h.cell 5 (by simp)⟩, by omega⟩ (by omega) hm _
    ⟨fun hb i hi => by have h0 := of_decide_eq_true hb; split <;> omega,
     fun hb => decide_eq_true (by have h0 := hb 0 (by omega); have h1 := hb 1 (by omega); simp at h0 h1; omega)⟩
theorem gfew3 (z : Int) (most : Nat) (hz : z = (most : Int)) (hm : most < 1000) {w : World} {g : Nat} {s0 s1 s2 : Bool} {a0 b0 a1 b1 a2 b2 : Option Addr} {n0 c0 m0 d0 n1 c1 m1 d1 n2 c2 m2 d2 : Nat}
    (h : Hd w g [.bool s0, .slice a0 n0 c0, .slice b0 m0 d0, .bool s1, .slice a1 n1 c1, .slice b1 m1 d1, .bool s2, .slice a2 n2 c2, .slice b2 m2 d2]) :
    Calls Tryz.prog 56 #[.int .i64 z, .slice (some ⟨g, 0, none⟩) 3 3] w fun e w' => e = .returned (.bool (decide (n0 ≤ most ∧ m0 ≤ most ∧ n1 ≤ most ∧ m1 ≤ most ∧ n2 ≤ most ∧ m2 ≤ most))) ∧ w' = w :=
  gfew_any z most hz g 3 3 (fun i => if i = 0 then n0 else if i = 1 then n1 else n2) (fun i => if i = 0 then m0 else if i = 1 then m1 else m2) w
    ⟨fun i hi => by
      rcases (show i = 0 ∨ i = 1 ∨ i = 2 by omega) with rfl | rfl | rfl
      · exact ⟨a0, c0, h.cell 1 (by simp)⟩
      · exact ⟨a1, c1, h.cell 4 (by simp)⟩
      · exact ⟨a2, c2, h.cell 7 (by simp)⟩, fun i hi => by
      rcases (show i = 0 ∨ i = 1 ∨ i = 2 by omega) with rfl | rfl | rfl
      · exact ⟨b0, d0, h.cell 2 (by simp)⟩
      · exact ⟨b1, d1, h.cell 5 (by simp)⟩
      · exact ⟨b2, d2, h.cell 8 (by simp)⟩, by omega⟩ (by omega) hm _
    ⟨fun hb i hi => by have h0 := of_decide_eq_true hb; split <;> (try split) <;> omega,
     fun hb => decide_eq_true (by have h0 := hb 0 (by omega); have h1 := hb 1 (by omega); have h2 := hb 2 (by omega); simp at h0 h1 h2; omega)⟩
end Go.Proofs.YtecdnohhengfaaaGreatDoor

/-
  A quicker look whether the order of the text may be walked for every order.
-/
namespace Go.Proofs.YtecdnohhengfaaaGreatDoor

/-- Every operation waits for earlier ones alone, and what comes behind it waits for it or is apart from it. -/
def fastFrom (md : Region.Mode) (ops : Array Oper) : Nat → List Oper → Bool
  | _, [] => true
  | k, o :: l => (o.after.all fun e => !Region.binds md e || decide (e.on < k)) &&
      (l.all fun oj => (oj.after.any fun e => Region.binds md e && e.on == k) || o.apart ops oj) && fastFrom md ops (k + 1) l
def fastB (md : Region.Mode) (l : List Oper) : Bool := Region.noSelect l.toArray && fastFrom md l.toArray 0 l

def preL (s n : Nat) : Array Bool := ((List.range s).map fun i => decide (i < n)).toArray
theorem preL_get (s n i : Nat) (d : Bool) : (preL s n).getD i d = if i < s then decide (i < n) else d := by
  unfold preL
  by_cases h : i < s
  · simp [h]
  · simp [h]
theorem preL_set (s n : Nat) : (preL s n).setIfInBounds n true = preL s (n + 1) := by
  apply Array.ext
  · simp [preL]
  · intro i h1 h2
    simp only [preL, List.setIfInBounds_toArray, List.getElem_toArray]
    by_cases e : n = i
    · subst e; simp
    · rw [List.getElem_set_ne e]
      simp only [List.getElem_map, List.getElem_range]
      by_cases h : i < n
      · rw [decide_eq_true h, decide_eq_true (by omega)]
      · rw [decide_eq_false h, decide_eq_false (by omega)]
theorem preL_zero (s : Nat) : preL s 0 = Array.replicate s false := by
  apply Array.ext
  · simp [preL]
  · intro i h1 h2; simp [preL]
theorem lexFrom_of_fast {md : Region.Mode} {ops : Array Oper} : ∀ (l : List Oper) (k : Nat), (∀ j, l[j]? = ops[k + j]?) → k + l.length = ops.size → fastFrom md ops k l = true → Region.lexFrom md ops l.length k (preL ops.size k) = true
  | [], k, hl, hs, _ => by
    have : Region.ready md ops (preL ops.size k) = [] := by
      apply List.eq_nil_iff_forall_not_mem.2
      intro j hj
      obtain ⟨h1, o, ho, -⟩ := mem_ready.1 hj
      have hj' : j < ops.size := (Array.getElem?_eq_some_iff.1 ho).1
      rw [preL_get, if_pos hj', decide_eq_true (by simp at hs; omega)] at h1
      cases h1
    simp [Region.lexFrom, this]
  | o :: l, k, hl, hs, h => by
    have h0 : ops[k]? = some o := by simpa using (hl 0).symm
    have hk : k < ops.size := (Array.getElem?_eq_some_iff.1 h0).1
    simp only [fastFrom, Bool.and_eq_true] at h
    obtain ⟨⟨hw, hf⟩, hr⟩ := h
    simp only [List.length_cons, Region.lexFrom, Bool.and_eq_true]
    refine ⟨⟨List.contains_iff_mem.2 (mem_ready.2 ⟨by rw [preL_get, if_pos hk, decide_eq_false (by omega)], o, h0, fun e he hb => ?_⟩), ?_⟩, ?_⟩
    · have h1 := (Array.all_eq_true_iff_forall_mem.1 hw) e he
      simp only [hb, Bool.not_true, Bool.false_or, decide_eq_true_eq] at h1
      rw [preL_get, if_pos (by omega), decide_eq_true h1]
    · simp only [Region.free, h0, List.all_eq_true, List.mem_range]
      intro j hj
      by_cases e : j = k
      · simp [e]
      · by_cases hjk : j < k
        · rw [preL_get, if_pos hj, decide_eq_true hjk]; simp
        · have h2 : l[j - k - 1]? = ops[j]? := by
            have := hl (j - k)
            rw [show k + (j - k) = j by omega] at this
            rw [← this, show j - k = (j - k - 1) + 1 by omega, List.getElem?_cons_succ]
            rfl
          rw [Array.getElem?_eq_getElem hj] at h2
          have h3 := (List.all_eq_true.1 hf) ops[j] (List.mem_of_getElem? h2)
          rw [Array.getElem?_eq_getElem hj]
          simp only [Bool.or_eq_true] at h3 ⊢
          exact .inr h3
    · rw [preL_set]
      exact lexFrom_of_fast l (k + 1) (fun j => by have := hl (j + 1); simpa [Nat.add_assoc, Nat.add_comm 1 j] using this) (by simp at hs; omega) hr
theorem lexB_of_fast {md : Region.Mode} {l : List Oper} (h : fastB md l = true) : Region.lexB md l.toArray = true := by
  simp only [fastB, Bool.and_eq_true] at h
  simp only [Region.lexB, Bool.and_eq_true]
  refine ⟨h.1, ?_⟩
  have := lexFrom_of_fast (md := md) (ops := l.toArray) l 0 (fun j => by simp) (by simp) h.2
  rw [preL_zero] at this
  simpa using this
end Go.Proofs.YtecdnohhengfaaaGreatDoor

/-
  Layer 3, laws: what they share.
-/
namespace Go.Proofs.YtecdnohhengfaaaGreatDoor
open Go.RowKit
attribute [local irreducible] lo hs sm s64 c64 d64 b64 mh ml pd pc qd qc val hiB str cmpI srD lz nb isq decB zl zh zs

/-- A Great as plain data. -/
def gmade (s : Bool) (l k : List Nat) : Rat := mkRat (zmade s l) (made k + 1)
theorem gof_any (s : Bool) (a b : Option Addr) (n c m d : Nat) (l k : List Nat) (hl : l.length ≤ 1000) (hk : k.length ≤ 1000) (w : World) (h1 : Ws w (.slice a n c) l) (h2 : Ws w (.slice b m d) k) :
    Calls Tryz.prog 58 #[.agg #[.bool s, .slice a n c, .slice b m d]] w fun xe w' => xe = .returned (fracV (gmade s l k)) ∧ Below w.heap.size w w' := by
  have d1 := zmade_dI (s := s) h1.lt
  have d2 := made_digs h2.lt
  have dz1 : (digs 1).length ≤ 1 := digs_length_iff.2 (by rw [Nat.pow_one]; exact Bs_gt)
  have d3 : (digs (made k + 1)).length ≤ 1001 := Nat.le_trans (digs_add_le (k := 1000) (by omega) (Nat.le_trans dz1 (by omega))) (by omega)
  refine gof_w s a b n c m d (zmade false k) (zmade s l) _ (made k) (made k + 1) _ _ (Keeps.ws _ l) (fun w h => zof_any s a n c l hl w h) (fun w => gden_w s a b n c m d w) _ (Keeps.ws _ k) (fun w h => zof_any false b m d k hk w h) (fun w => ?_) one_o (fun w => add_any (made k) 1 (by omega) (by omega) w) (fromF (zmade s l) (made k + 1) (by omega) (by omega) (by omega)) w h1 h2
  have h := absI (zmade false k) w
  rw [show (zmade false k).natAbs = made k from rfl] at h
  exact h
theorem gmade_sz {s : Bool} {w : World} {a b : Option Addr} {n c m d : Nat} {l k : List Nat} {most : Nat} (hp : 0 < most) (h1 : Ws w (.slice a n c) l) (h2 : Ws w (.slice b m d) k) (hn : n ≤ most) (hm : m ≤ most) : Sz (gmade s l k) (most + 1) := by
  have e1 := h1.len
  have e2 := h2.len
  have d1 := zmade_dI (s := s) h1.lt
  have d2 := made_digs h2.lt
  refine Sz.mk (by omega) ?_ (by omega)
  have dz1 : (digs 1).length ≤ 1 := digs_length_iff.2 (by rw [Nat.pow_one]; exact Bs_gt)
  exact digs_add_le (k := most) (by omega) (by omega)

theorem sgnQ_eq0 {q : Rat} : (sgnQ q == 0) = decide (q = 0) := by
  unfold sgnQ
  by_cases h : q < 0
  · rw [if_pos h, decide_eq_false (p := q = 0) (by grind)]; rfl
  · rw [if_neg h]
    by_cases h' : q = 0
    · rw [if_pos h', decide_eq_true h']; rfl
    · rw [if_neg h', decide_eq_false h']; rfl
theorem sgnQ_sq (q : Rat) : 0 ≤ sgnQ (q * q) := by
  have := sq_nonneg q
  unfold sgnQ
  rw [if_neg (by grind)]
  split <;> decide
theorem cmpQ_cases (p q : Rat) : cmpQ p q = -1 ∨ cmpQ p q = 0 ∨ cmpQ p q = 1 := by unfold cmpQ; split <;> (try split) <;> simp
theorem sgnQ_cases (q : Rat) : sgnQ q = -1 ∨ sgnQ q = 0 ∨ sgnQ q = 1 := by unfold sgnQ; split <;> (try split) <;> simp
theorem cmpQ_wrap (a b c : Rat) : IntKind.i64.wrap (cmpQ a b * sgnQ c) = cmpQ (a * c) (b * c) := by
  rw [cmpQ_mul]; rcases cmpQ_cases a b with h | h | h <;> rcases sgnQ_cases c with g | g | g <;> rw [h, g] <;> rfl
theorem cmpQ_wneg (a b : Rat) : IntKind.i64.wrap (-cmpQ b a) = cmpQ a b := by
  rw [cmpQ_neg a b]; rcases cmpQ_cases b a with h | h | h <;> rw [h] <;> rfl

end Go.Proofs.YtecdnohhengfaaaGreatDoor

/-
  Layer 1, cards: what the cards of all laws share.
-/
namespace Go.Proofs.YtecdnohhengfaaaGreatDoor
open Go.ChangeShapes Go.WideShapes Go.ChangeAt Go.RowKit

theorem own : ownKnob Tryz.prog.godebug = none := by kernel_rfl
theorem laidOut : laidOutB Tryz.prog = true := by kernel_rfl
theorem cells62 : Tryz.prog.cellsOf 22 = 1 := by kernel_rfl
theorem cells24 : Tryz.prog.cellsOf 30 = 1 := by kernel_rfl

/-- The variables that every row of this layer lists. -/
def laidAll : List (String × DataW Unit) := [("math/bits.deBruijn32tab", Rows.laid_math_bits_deBruijn32tab), ("math/bits.deBruijn64tab", Rows.laid_math_bits_deBruijn64tab), ("internal/strconv.uint64pow10", Rows.laid_internal_strconv_uint64pow10)]
theorem gPow : Tryz.prog.globalNamed "internal/strconv.uint64pow10" = some 2 := by kernel_rfl

theorem gPowType : (Tryz.prog.globals[2]?).map (·.type) = some 254 := by kernel_rfl
theorem cells20 : Tryz.prog.cellsOf 254 = 20 := by kernel_rfl
theorem tab_of {W : World} (h : laidMetH Tryz.prog laidAll W) : Tab W := by
  have h1 := laidMetH.filter (fun x => x.1 == "internal/strconv.uint64pow10") h
  have e : laidAll.filter (fun x => x.1 == "internal/strconv.uint64pow10") = [("internal/strconv.uint64pow10", Rows.laid_internal_strconv_uint64pow10)] := by kernel_rfl
  rw [e, MakeChecks.laidMetH_plain _ _ _ (by kernel_rfl)] at h1
  exact Lib.tabIs_of_head (rest := []) gPow gPowType Tryz.underlying254 Tryz.underlying30 cells24 cells20 (show laidMet Tryz.prog (("internal/strconv.uint64pow10", Lib.tabData .u64 Lib.pow10Tab) :: []) W from h1)

theorem wide_u32 {n : Int} (h : (Lit.int .u32 n).wf = true) : 0 ≤ n ∧ n ≤ 4294967295 := bounds_u32 h

theorem ws_of {H : Type} {enc : TypeId × Value → H} {W : World} {v : Value} {d : DataW H} {p : List MemPlace} (h : DataW.Trod enc Tryz.prog W 0 (fun _ => true) true 23 v d p) (hv : ∃ a n c, v = .slice a n c) : ∃ l, Ws W v l := by
  obtain ⟨a0, len, cap, rfl⟩ := hv
  obtain ⟨fuel, hf⟩ := h
  rcases open_ints Tryz.underlying23 Tryz.underlying22 cells62 hf with ⟨hcs, hx⟩ | ⟨a, len', cap', zs, hcs, _, hl, hm, hz, hx, hcell, hwz⟩
  · simp [Value.cells] at hcs
    obtain ⟨rfl, rfl, rfl⟩ := hcs
    exact ⟨[], .inl ⟨_, _, rfl, rfl⟩⟩
  · simp [Value.cells] at hcs
    obtain ⟨rfl, rfl, rfl⟩ := hcs
    simp only [if_true] at hz
    by_cases h0 : len = 0
    · subst h0
      exact ⟨[], .inl ⟨_, _, rfl, rfl⟩⟩
    · have hll : ((zs.take len).map Int.toNat).length = len := by simp; omega
      refine ⟨(zs.take len).map Int.toNat, .inr ⟨a, cap, by rw [hll], ?_, ?_, ?_⟩⟩
      · intro x hx
        obtain ⟨z, hz1, rfl⟩ := List.mem_map.1 hx
        have := wide_u32 (hwz z (List.mem_of_mem_take hz1))
        omega
      · intro i hi
        rw [hll] at hi
        have hi2 : i < zs.length := by omega
        have e := hcell i hi2
        rw [show zs.getD i 0 = zs[i] by simp [List.getD, hi2]] at e
        have hw := wide_u32 (hwz zs[i] (List.getElem_mem hi2))
        rw [e]
        simp only [List.getElem_map, List.getElem_take]
        rw [Int.toNat_of_nonneg hw.1]
      · have e := hcell 0 (by omega)
        have := World.block_lt_of_cell? W _ e
        rw [show (a.add 0).block = a.block from by unfold Addr.add; split <;> rfl] at this
        exact this
end Go.Proofs.YtecdnohhengfaaaGreatDoor

/-
  Layer 2, cards: a parameter that is a plain integer (gussetlaw02.Z).
-/
namespace Go.Proofs.YtecdnohhengfaaaGreatDoor
open Go.ChangeShapes Go.WideShapes Go.ChangeAt Go.RowKit Go.Joins

theorem cellsZ : Tryz.prog.cellsOf 36 = 2 := by kernel_rfl
theorem ws_of_trod {H : Type} {enc : TypeId × Value → H} {W : World} {v : Value} {y : DataW H × List MemPlace} {fuel : Nat} (hf : DataW.trod enc Tryz.prog W 0 (fun _ => true) true fuel 23 [v] = some y) : ∃ a n c l, v = .slice a n c ∧ Ws W v l := by
  rcases open_ints Tryz.underlying23 Tryz.underlying22 cells62 hf with ⟨hcs, hx⟩ | ⟨a, len', cap', zs, hcs, _, hl, hm, hz, hx, hcell, hwz⟩
  · simp only [List.cons.injEq, and_true] at hcs
    subst hcs
    exact ⟨none, 0, 0, [], rfl, .inl ⟨_, _, rfl, rfl⟩⟩
  · simp only [List.cons.injEq, and_true] at hcs
    subst hcs
    simp only [if_true] at hz
    refine ⟨some a, len', cap', ?_⟩
    by_cases h0 : len' = 0
    · subst h0
      exact ⟨[], rfl, .inl ⟨_, _, rfl, rfl⟩⟩
    · have hll : ((zs.take len').map Int.toNat).length = len' := by simp; omega
      refine ⟨(zs.take len').map Int.toNat, rfl, .inr ⟨a, cap', by rw [hll], ?_, ?_, ?_⟩⟩
      · intro x hx
        obtain ⟨z, hz1, rfl⟩ := List.mem_map.1 hx
        have := wide_u32 (hwz z (List.mem_of_mem_take hz1))
        omega
      · intro i hi
        rw [hll] at hi
        have hi2 : i < zs.length := by omega
        have e := hcell i hi2
        rw [show zs.getD i 0 = zs[i] by simp [List.getD, hi2]] at e
        have hw := wide_u32 (hwz zs[i] (List.getElem_mem hi2))
        rw [e]
        simp only [List.getElem_map, List.getElem_take]
        rw [Int.toNat_of_nonneg hw.1]
      · have e := hcell 0 (by omega)
        have := World.block_lt_of_cell? W _ e
        rw [show (a.add 0).block = a.block from by unfold Addr.add; split <;> rfl] at this
        exact this
set_option maxRecDepth 100000 in
theorem z_of {H : Type} {enc : TypeId × Value → H} {W : World} {base : Nat} {v : Value} {d : DataW H} {p : List MemPlace} (hv : Value.okWide Tryz.prog W .any base 36 v)
    (h : DataW.Trod enc Tryz.prog W 0 (fun _ => true) true 36 v d p) : ∃ s a n c l, v = .agg #[.bool s, .slice a n c] ∧ Ws W (.slice a n c) l := by
  obtain ⟨v0, v1, y0, y1, m, rfl, rfl, rfl, h0, h1⟩ := open_agg2 Tryz.underlying36 (by kernel_rfl) cellsZ hv h
  obtain ⟨s, e0, -⟩ := DataW.trod_bool Tryz.underlying4 h0
  obtain ⟨a, n, c, l, rfl, hw⟩ := ws_of_trod h1
  simp only [List.cons.injEq, and_true] at e0
  subst e0
  exact ⟨s, a, n, c, l, rfl, hw⟩
end Go.Proofs.YtecdnohhengfaaaGreatDoor

/-
  Layer 3, cards: parameters that are fractions as plain data.
-/
namespace Go.Proofs.YtecdnohhengfaaaGreatDoor
open Go.ChangeShapes Go.WideShapes Go.ChangeAt Go.RowKit Go.Joins

theorem cellsG : Tryz.prog.cellsOf 76 = 3 := by kernel_rfl
theorem cellsW : Tryz.prog.cellsOf 23 = 1 := by kernel_rfl
theorem cellsB : Tryz.prog.cellsOf 4 = 1 := by kernel_rfl
set_option maxRecDepth 100000 in
theorem great_of {H : Type} {enc : TypeId × Value → H} {W : World} {base : Nat} {v : Value} {d : DataW H} {p : List MemPlace} (hv : Value.okWide Tryz.prog W .any base 76 v)
    (h : DataW.Trod enc Tryz.prog W 0 (fun _ => true) true 76 v d p) : ∃ s a q n c m d l k, v = .agg #[.bool s, .slice a n c, .slice q m d] ∧ Ws W (.slice a n c) l ∧ Ws W (.slice q m d) k := by
  obtain ⟨cs, rfl, hsz⟩ := okWide_struct Tryz.underlying76 hv
  obtain ⟨c0, c1, c2, rfl⟩ := array3 (hsz.trans cellsG)
  obtain ⟨fuel, hf⟩ := h
  obtain ⟨y0, y1, n, hx, _, h0, h1⟩ := trod_struct2 Tryz.underlying76 hf
  simp only [cellsZ, cellsW] at h0 h1
  obtain ⟨z0, z1, m, hz, _, g0, g1⟩ := trod_struct2 Tryz.underlying36 h0
  simp only [cellsB, cellsW] at g0 g1
  obtain ⟨s, e0, -⟩ := DataW.trod_bool Tryz.underlying4 g0
  obtain ⟨a1, n1, k1, l1, r1, w1⟩ := ws_of_trod g1
  obtain ⟨a2, n2, k2, l2, r2, w2⟩ := ws_of_trod h1
  simp [Value.cells] at e0 r1 r2
  subst e0 r1 r2
  exact ⟨s, a1, a2, n1, k1, n2, k2, l1, l2, rfl, w1, w2⟩
end Go.Proofs.YtecdnohhengfaaaGreatDoor
